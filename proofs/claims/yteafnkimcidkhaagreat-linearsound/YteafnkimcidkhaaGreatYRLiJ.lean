/- linear's callers. -/
import Derived.Test.YteafnkimcidkhaaGreatYRLiI
namespace Go.Proofs.YteafnkimcidkhaaGreat
open Go.RowKit
set_option linter.unusedVariables false
set_option linter.unusedSimpArgs false
set_option maxRecDepth 100000 in
set_option maxHeartbeats 6400000 in
theorem lisum (e1 e2 e3 ok : Bool) (a b c d x y : Int) (k1 : ∀ V, Calls Tryz.prog 53 #[.func (.func 54) #[] #[], .agg #[.bool e1, .int .u64 a, .int .u64 b], .agg #[.bool e2, .int .u64 c, .int .u64 d]] V fun e w' => e = .returned (.tuple #[.agg #[.bool e3, .int .u64 x, .int .u64 y], .bool ok]) ∧ Below V.heap.size V w') (w : World) :
  Calls Tryz.prog 13 #[.agg #[.bool e1, .int .u64 a, .int .u64 b], .agg #[.bool e2, .int .u64 c, .int .u64 d]] w fun e w' => e = .returned (.tuple #[.agg #[.bool e3, .int .u64 x, .int .u64 y], .bool ok]) ∧ Below w.heap.size w w' := by
 go_enter Tryz.func13, Tryz.ntmps13
 go_upto_region 1 with fail
 obtain ⟨W, hW⟩ : ∃ W, (((w.alloc (.cells #[.bool e1, .int .u64 a, .int .u64 b] 24)).alloc (.cells #[.bool e2, .int .u64 c, .int .u64 d] 24)).alloc (.cells #[.bool false, .int .u64 0, .int .u64 0] 24)) = W := ⟨_, rfl⟩
 have a0 : W.cell? ⟨w.heap.size, 0, none⟩ = some (.bool e1) := by rw [← hW]; simp [go_sem]
 have a1 : W.cell? ⟨w.heap.size, 1, none⟩ = some (.int .u64 a) := by rw [← hW]; simp [go_sem]
 have a2 : W.cell? ⟨w.heap.size, 2, none⟩ = some (.int .u64 b) := by rw [← hW]; simp [go_sem]
 have b0 : W.cell? ⟨w.heap.size + 1, 0, none⟩ = some (.bool e2) := by rw [← hW]; simp [go_sem]
 have b1 : W.cell? ⟨w.heap.size + 1, 1, none⟩ = some (.int .u64 c) := by rw [← hW]; simp [go_sem]
 have b2 : W.cell? ⟨w.heap.size + 1, 2, none⟩ = some (.int .u64 d) := by rw [← hW]; simp [go_sem]
 have r0 : W.cell? ⟨w.heap.size + 1 + 1, 0, none⟩ = some (.bool false) := by rw [← hW]; simp [go_sem]
 have r1 : W.cell? ⟨w.heap.size + 1 + 1, 1, none⟩ = some (.int .u64 0) := by rw [← hW]; simp [go_sem]
 have r2 : W.cell? ⟨w.heap.size + 1 + 1, 2, none⟩ = some (.int .u64 0) := by rw [← hW]; simp [go_sem]
 have bW : Below w.heap.size w W := by rw [← hW]; exact (sp_new (sp_new (sp_new (Below.refl _ _) _) _) _)
 have zW : W.heap.size = w.heap.size + 3 := by rw [← hW]; simp
 have fz : ∀ j, W.frozen? ⟨w.heap.size + 1 + 1, j, none⟩ = false := by intro j; rw [← hW]; simp [go_sem]
 rw [hW]
 clear hW
 replace zW := Nat.le_of_eq zW.symm
 go_wp2_with (first
  | (go_at_call 53; (with_reducible refine (k1 _).mono ?_); rintro e v1 ⟨rfl, g⟩; replace fz : ∀ j, v1.frozen? ⟨w.heap.size + 1 + 1, j, none⟩ = false := fun j => (g.frozen (p := ⟨w.heap.size + 1 + 1, j, none⟩) (by first | (simp; done) | (simp; omega))).trans (fz j); replace bW := sp_call bW g; replace zW := Nat.le_trans zW g.size; replace a0 := sO g a0; replace a1 := sO g a1; replace a2 := sO g a2; replace b0 := sO g b0; replace b1 := sO g b1; replace b2 := sO g b2; replace r0 := sO g r0; replace r1 := sO g r1; replace r2 := sO g r2; clear g)
  | fail)
 exact bodyPost_ret (v := .tuple #[.agg #[.bool e3, .int .u64 x, .int .u64 y], .bool ok]) (by simp [results, Tryz.results13, go_sem, r0, r1, r2]) rfl ⟨rfl, (by (repeat (first | with_reducible assumption | with_reducible refine li_set1 ?_ (by omega) _ | with_reducible refine sp_new ?_ _)))⟩
set_option maxRecDepth 100000 in
set_option maxHeartbeats 6400000 in
theorem liprod (e1 e2 e3 ok : Bool) (a b c d x y : Int) (k1 : ∀ V, Calls Tryz.prog 53 #[.func (.func 57) #[] #[], .agg #[.bool e1, .int .u64 a, .int .u64 b], .agg #[.bool e2, .int .u64 c, .int .u64 d]] V fun e w' => e = .returned (.tuple #[.agg #[.bool e3, .int .u64 x, .int .u64 y], .bool ok]) ∧ Below V.heap.size V w') (w : World) :
  Calls Tryz.prog 15 #[.agg #[.bool e1, .int .u64 a, .int .u64 b], .agg #[.bool e2, .int .u64 c, .int .u64 d]] w fun e w' => e = .returned (.tuple #[.agg #[.bool e3, .int .u64 x, .int .u64 y], .bool ok]) ∧ Below w.heap.size w w' := by
 go_enter Tryz.func15, Tryz.ntmps15
 go_upto_region 1 with fail
 obtain ⟨W, hW⟩ : ∃ W, (((w.alloc (.cells #[.bool e1, .int .u64 a, .int .u64 b] 24)).alloc (.cells #[.bool e2, .int .u64 c, .int .u64 d] 24)).alloc (.cells #[.bool false, .int .u64 0, .int .u64 0] 24)) = W := ⟨_, rfl⟩
 have a0 : W.cell? ⟨w.heap.size, 0, none⟩ = some (.bool e1) := by rw [← hW]; simp [go_sem]
 have a1 : W.cell? ⟨w.heap.size, 1, none⟩ = some (.int .u64 a) := by rw [← hW]; simp [go_sem]
 have a2 : W.cell? ⟨w.heap.size, 2, none⟩ = some (.int .u64 b) := by rw [← hW]; simp [go_sem]
 have b0 : W.cell? ⟨w.heap.size + 1, 0, none⟩ = some (.bool e2) := by rw [← hW]; simp [go_sem]
 have b1 : W.cell? ⟨w.heap.size + 1, 1, none⟩ = some (.int .u64 c) := by rw [← hW]; simp [go_sem]
 have b2 : W.cell? ⟨w.heap.size + 1, 2, none⟩ = some (.int .u64 d) := by rw [← hW]; simp [go_sem]
 have r0 : W.cell? ⟨w.heap.size + 1 + 1, 0, none⟩ = some (.bool false) := by rw [← hW]; simp [go_sem]
 have r1 : W.cell? ⟨w.heap.size + 1 + 1, 1, none⟩ = some (.int .u64 0) := by rw [← hW]; simp [go_sem]
 have r2 : W.cell? ⟨w.heap.size + 1 + 1, 2, none⟩ = some (.int .u64 0) := by rw [← hW]; simp [go_sem]
 have bW : Below w.heap.size w W := by rw [← hW]; exact (sp_new (sp_new (sp_new (Below.refl _ _) _) _) _)
 have zW : W.heap.size = w.heap.size + 3 := by rw [← hW]; simp
 have fz : ∀ j, W.frozen? ⟨w.heap.size + 1 + 1, j, none⟩ = false := by intro j; rw [← hW]; simp [go_sem]
 rw [hW]
 clear hW
 replace zW := Nat.le_of_eq zW.symm
 go_wp2_with (first
  | (go_at_call 53; (with_reducible refine (k1 _).mono ?_); rintro e v1 ⟨rfl, g⟩; replace fz : ∀ j, v1.frozen? ⟨w.heap.size + 1 + 1, j, none⟩ = false := fun j => (g.frozen (p := ⟨w.heap.size + 1 + 1, j, none⟩) (by first | (simp; done) | (simp; omega))).trans (fz j); replace bW := sp_call bW g; replace zW := Nat.le_trans zW g.size; replace a0 := sO g a0; replace a1 := sO g a1; replace a2 := sO g a2; replace b0 := sO g b0; replace b1 := sO g b1; replace b2 := sO g b2; replace r0 := sO g r0; replace r1 := sO g r1; replace r2 := sO g r2; clear g)
  | fail)
 exact bodyPost_ret (v := .tuple #[.agg #[.bool e3, .int .u64 x, .int .u64 y], .bool ok]) (by simp [results, Tryz.results15, go_sem, r0, r1, r2]) rfl ⟨rfl, (by (repeat (first | with_reducible assumption | with_reducible refine li_set1 ?_ (by omega) _ | with_reducible refine sp_new ?_ _)))⟩
set_option maxRecDepth 100000 in
set_option maxHeartbeats 6400000 in
theorem lipow (e x : Int) (k1 : ∀ V, Calls Tryz.prog 102 #[.int .i64 0, .int .i64 0, .bool false, .agg #[.int .u64 0, .int .u64 1], .int .i64 e, .bool false] V fun e w' => e = .returned (.int .u64 x) ∧ Below V.heap.size V w') (w : World) :
  Calls Tryz.prog 63 #[.int .i64 e] w fun e w' => e = .returned (.int .u64 x) ∧ Below w.heap.size w w' := by
 go_enter Tryz.func63, Tryz.ntmps63
 go_wp2_with (first
  | (go_at_call 102; (with_reducible refine (k1 _).mono ?_); rintro e v1 ⟨rfl, g⟩)
  | fail)
 go_ret
 exact ⟨rfl, g⟩
set_option maxRecDepth 100000 in
set_option maxHeartbeats 6400000 in
theorem liof (e1 ok : Bool) (a b : Int) (k1 : ∀ V, Calls Tryz.prog 60 #[.agg #[.bool e1, .int .u64 a, .int .u64 b]] V fun e w' => e = .returned (.bool ok) ∧ Below V.heap.size V w') (kw : ∀ V, Calls Tryz.prog 61 #[] V fun e w' => e = .returned (.agg #[.bool true, .bool false, .int .u64 0, .int .u64 0, .slice none 0 0]) ∧ Below V.heap.size V w') (w : World) :
  Calls Tryz.prog 20 #[.agg #[.bool e1, .int .u64 a, .int .u64 b]] w fun e w' => e = .returned (if ok then .agg #[.bool false, .bool e1, .int .u64 a, .int .u64 b, .slice none 0 0] else .agg #[.bool true, .bool false, .int .u64 0, .int .u64 0, .slice none 0 0]) ∧ Below w.heap.size w w' := by
 cases ok
 ·skip
  go_enter Tryz.func20, Tryz.ntmps20
  go_upto_region 1 with fail
  obtain ⟨W, hW⟩ : ∃ W, ((w.alloc (.cells #[.bool e1, .int .u64 a, .int .u64 b] 24)).alloc (.cells #[.bool false, .bool false, .int .u64 0, .int .u64 0, .slice none 0 0] 31)) = W := ⟨_, rfl⟩
  have a0 : W.cell? ⟨w.heap.size, 0, none⟩ = some (.bool e1) := by rw [← hW]; simp [go_sem]
  have a1 : W.cell? ⟨w.heap.size, 1, none⟩ = some (.int .u64 a) := by rw [← hW]; simp [go_sem]
  have a2 : W.cell? ⟨w.heap.size, 2, none⟩ = some (.int .u64 b) := by rw [← hW]; simp [go_sem]
  have r0 : W.cell? ⟨w.heap.size + 1, 0, none⟩ = some (.bool false) := by rw [← hW]; simp [go_sem]
  have r1 : W.cell? ⟨w.heap.size + 1, 1, none⟩ = some (.bool false) := by rw [← hW]; simp [go_sem]
  have r2 : W.cell? ⟨w.heap.size + 1, 2, none⟩ = some (.int .u64 0) := by rw [← hW]; simp [go_sem]
  have r3 : W.cell? ⟨w.heap.size + 1, 3, none⟩ = some (.int .u64 0) := by rw [← hW]; simp [go_sem]
  have r4 : W.cell? ⟨w.heap.size + 1, 4, none⟩ = some (.slice none 0 0) := by rw [← hW]; simp [go_sem]
  have bW : Below w.heap.size w W := by rw [← hW]; exact (sp_new (sp_new (Below.refl _ _) _) _)
  have zW : W.heap.size = w.heap.size + 2 := by rw [← hW]; simp
  have fz : ∀ j, W.frozen? ⟨w.heap.size + 1, j, none⟩ = false := by intro j; rw [← hW]; simp [go_sem]
  rw [hW]
  clear hW
  replace zW := Nat.le_of_eq zW.symm
  go_wp2_with (first
   | (go_at_call 60; (with_reducible refine (k1 _).mono ?_); rintro e v1 ⟨rfl, g⟩; replace fz : ∀ j, v1.frozen? ⟨w.heap.size + 1, j, none⟩ = false := fun j => (g.frozen (p := ⟨w.heap.size + 1, j, none⟩) (by first | (simp; done) | (simp; omega))).trans (fz j); replace bW := sp_call bW g; replace zW := Nat.le_trans zW g.size; replace a0 := sO g a0; replace a1 := sO g a1; replace a2 := sO g a2; replace r0 := sO g r0; replace r1 := sO g r1; replace r2 := sO g r2; replace r3 := sO g r3; replace r4 := sO g r4; clear g)
   | (go_at_call 61; (with_reducible refine (kw _).mono ?_); rintro e v2 ⟨rfl, g⟩; replace fz : ∀ j, v2.frozen? ⟨w.heap.size + 1, j, none⟩ = false := fun j => (g.frozen (p := ⟨w.heap.size + 1, j, none⟩) (by first | (simp; done) | (simp; omega))).trans (fz j); replace bW := sp_call bW g; replace zW := Nat.le_trans zW g.size; replace a0 := sO g a0; replace a1 := sO g a1; replace a2 := sO g a2; replace r0 := sO g r0; replace r1 := sO g r1; replace r2 := sO g r2; replace r3 := sO g r3; replace r4 := sO g r4; clear g)
   | fail)
  exact bodyPost_ret (v := .agg #[.bool true, .bool false, .int .u64 0, .int .u64 0, .slice none 0 0]) (by simp [results, Tryz.results20, go_sem, r0, r1, r2, r3, r4]) rfl ⟨rfl, (by (repeat (first | with_reducible assumption | with_reducible refine li_set1 ?_ (by omega) _ | with_reducible refine sp_new ?_ _)))⟩
 ·skip
  go_enter Tryz.func20, Tryz.ntmps20
  go_upto_region 1 with fail
  obtain ⟨W, hW⟩ : ∃ W, ((w.alloc (.cells #[.bool e1, .int .u64 a, .int .u64 b] 24)).alloc (.cells #[.bool false, .bool false, .int .u64 0, .int .u64 0, .slice none 0 0] 31)) = W := ⟨_, rfl⟩
  have a0 : W.cell? ⟨w.heap.size, 0, none⟩ = some (.bool e1) := by rw [← hW]; simp [go_sem]
  have a1 : W.cell? ⟨w.heap.size, 1, none⟩ = some (.int .u64 a) := by rw [← hW]; simp [go_sem]
  have a2 : W.cell? ⟨w.heap.size, 2, none⟩ = some (.int .u64 b) := by rw [← hW]; simp [go_sem]
  have r0 : W.cell? ⟨w.heap.size + 1, 0, none⟩ = some (.bool false) := by rw [← hW]; simp [go_sem]
  have r1 : W.cell? ⟨w.heap.size + 1, 1, none⟩ = some (.bool false) := by rw [← hW]; simp [go_sem]
  have r2 : W.cell? ⟨w.heap.size + 1, 2, none⟩ = some (.int .u64 0) := by rw [← hW]; simp [go_sem]
  have r3 : W.cell? ⟨w.heap.size + 1, 3, none⟩ = some (.int .u64 0) := by rw [← hW]; simp [go_sem]
  have r4 : W.cell? ⟨w.heap.size + 1, 4, none⟩ = some (.slice none 0 0) := by rw [← hW]; simp [go_sem]
  have bW : Below w.heap.size w W := by rw [← hW]; exact (sp_new (sp_new (Below.refl _ _) _) _)
  have zW : W.heap.size = w.heap.size + 2 := by rw [← hW]; simp
  have fz : ∀ j, W.frozen? ⟨w.heap.size + 1, j, none⟩ = false := by intro j; rw [← hW]; simp [go_sem]
  rw [hW]
  clear hW
  replace zW := Nat.le_of_eq zW.symm
  go_wp2_with (first
   | (go_at_call 60; (with_reducible refine (k1 _).mono ?_); rintro e v1 ⟨rfl, g⟩; replace fz : ∀ j, v1.frozen? ⟨w.heap.size + 1, j, none⟩ = false := fun j => (g.frozen (p := ⟨w.heap.size + 1, j, none⟩) (by first | (simp; done) | (simp; omega))).trans (fz j); replace bW := sp_call bW g; replace zW := Nat.le_trans zW g.size; replace a0 := sO g a0; replace a1 := sO g a1; replace a2 := sO g a2; replace r0 := sO g r0; replace r1 := sO g r1; replace r2 := sO g r2; replace r3 := sO g r3; replace r4 := sO g r4; clear g)
   | fail)
  exact bodyPost_ret (v := .agg #[.bool false, .bool e1, .int .u64 a, .int .u64 b, .slice none 0 0]) (by simp [results, Tryz.results20, go_sem, r0, r1, r2, r3, r4]) rfl ⟨rfl, (by (repeat (first | with_reducible assumption | with_reducible refine li_set1 ?_ (by omega) _ | with_reducible refine sp_new ?_ _)))⟩
set_option maxRecDepth 100000 in
set_option maxHeartbeats 6400000 in
theorem liadd (wa ae : Bool) (al ah : Int) (va : Value) (wb be : Bool) (bl bh : Int) (vb : Value) (hva : ∃ o n c, va = .slice o n c) (hvb : ∃ o n c, vb = .slice o n c) (ok : World → Prop) (hok : ∀ W V, ok W → Below W.heap.size W V → ok V) (Q : Bool → Bool → Int → Int → Prop) (L : Bool → Bool → Int → Int → List (Int × Bool × Int × Int) → Prop)
  (k1 : ∀ V, ok V → Calls Tryz.prog 67 #[.agg #[.bool wa, .bool ae, .int .u64 al, .int .u64 ah, va], .agg #[.bool wb, .bool be, .int .u64 bl, .int .u64 bh, vb], .func (.func 13) #[] #[]] V fun e w' => (∃ (rw re : Bool) (rl rh : Int) (rv : Value), e = .returned (.agg #[.bool rw, .bool re, .int .u64 rl, .int .u64 rh, rv]) ∧ Q rw re rl rh ∧ ∃ ls, L rw re rl rh ls ∧ TAt w' rv ls ∧ Up V.heap.size rv) ∧ Below V.heap.size V w') (w : World) (h0 : ok w) :
  Calls Tryz.prog 29 #[.agg #[.bool wa, .bool ae, .int .u64 al, .int .u64 ah, va], .agg #[.bool wb, .bool be, .int .u64 bl, .int .u64 bh, vb]] w fun e w' => (∃ (rw re : Bool) (rl rh : Int) (rv : Value), e = .returned (.agg #[.bool rw, .bool re, .int .u64 rl, .int .u64 rh, rv]) ∧ Q rw re rl rh ∧ ∃ ls, L rw re rl rh ls ∧ TAt w' rv ls ∧ Up w.heap.size rv) ∧ Below w.heap.size w w' := by
 obtain ⟨pa, na, ca, rfl⟩ := hva
 obtain ⟨pb, nb, cb, rfl⟩ := hvb
 go_enter Tryz.func29, Tryz.ntmps29
 go_upto_region 1 with fail
 obtain ⟨W, hW⟩ : ∃ W, (((w.alloc (.cells #[.bool wa, .bool ae, .int .u64 al, .int .u64 ah, .slice pa na ca] 31)).alloc (.cells #[.bool wb, .bool be, .int .u64 bl, .int .u64 bh, .slice pb nb cb] 31)).alloc (.cells #[.bool false, .bool false, .int .u64 0, .int .u64 0, .slice none 0 0] 31)) = W := ⟨_, rfl⟩
 have a0 : W.cell? ⟨w.heap.size, 0, none⟩ = some (.bool wa) := by rw [← hW]; simp [go_sem]
 have a1 : W.cell? ⟨w.heap.size, 1, none⟩ = some (.bool ae) := by rw [← hW]; simp [go_sem]
 have a2 : W.cell? ⟨w.heap.size, 2, none⟩ = some (.int .u64 al) := by rw [← hW]; simp [go_sem]
 have a3 : W.cell? ⟨w.heap.size, 3, none⟩ = some (.int .u64 ah) := by rw [← hW]; simp [go_sem]
 have a4 : W.cell? ⟨w.heap.size, 4, none⟩ = some (.slice pa na ca) := by rw [← hW]; simp [go_sem]
 have b0 : W.cell? ⟨w.heap.size + 1, 0, none⟩ = some (.bool wb) := by rw [← hW]; simp [go_sem]
 have b1 : W.cell? ⟨w.heap.size + 1, 1, none⟩ = some (.bool be) := by rw [← hW]; simp [go_sem]
 have b2 : W.cell? ⟨w.heap.size + 1, 2, none⟩ = some (.int .u64 bl) := by rw [← hW]; simp [go_sem]
 have b3 : W.cell? ⟨w.heap.size + 1, 3, none⟩ = some (.int .u64 bh) := by rw [← hW]; simp [go_sem]
 have b4 : W.cell? ⟨w.heap.size + 1, 4, none⟩ = some (.slice pb nb cb) := by rw [← hW]; simp [go_sem]
 have r0 : W.cell? ⟨w.heap.size + 1 + 1, 0, none⟩ = some (.bool false) := by rw [← hW]; simp [go_sem]
 have r1 : W.cell? ⟨w.heap.size + 1 + 1, 1, none⟩ = some (.bool false) := by rw [← hW]; simp [go_sem]
 have r2 : W.cell? ⟨w.heap.size + 1 + 1, 2, none⟩ = some (.int .u64 0) := by rw [← hW]; simp [go_sem]
 have r3 : W.cell? ⟨w.heap.size + 1 + 1, 3, none⟩ = some (.int .u64 0) := by rw [← hW]; simp [go_sem]
 have r4 : W.cell? ⟨w.heap.size + 1 + 1, 4, none⟩ = some (.slice none 0 0) := by rw [← hW]; simp [go_sem]
 have bW : Below w.heap.size w W := by rw [← hW]; exact (sp_new (sp_new (sp_new (Below.refl _ _) _) _) _)
 have zW : W.heap.size = w.heap.size + 3 := by rw [← hW]; simp
 have fz : ∀ j, W.frozen? ⟨w.heap.size + 1 + 1, j, none⟩ = false := by intro j; rw [← hW]; simp [go_sem]
 rw [hW]
 clear hW
 replace zW := Nat.le_of_eq zW.symm
 have oW := hok _ _ h0 bW
 have zW0 := zW
 go_wp2_with (first
  | (go_at_call 67; (with_reducible refine (k1 _ oW).mono ?_); rintro e v1 ⟨⟨rw', re, rl, rh, rv, rfl, hQ, ls, hL, hT, hU⟩, g⟩; obtain ⟨pr, cr, rfl⟩ := hT.len; replace fz : ∀ j, v1.frozen? ⟨w.heap.size + 1 + 1, j, none⟩ = false := fun j => (g.frozen (p := ⟨w.heap.size + 1 + 1, j, none⟩) (by first | (simp; done) | (simp; omega))).trans (fz j); replace bW := sp_call bW g; replace zW := Nat.le_trans zW g.size; replace a0 := sO g a0; replace a1 := sO g a1; replace a2 := sO g a2; replace a3 := sO g a3; replace a4 := sO g a4; replace b0 := sO g b0; replace b1 := sO g b1; replace b2 := sO g b2; replace b3 := sO g b3; replace b4 := sO g b4; replace r0 := sO g r0; replace r1 := sO g r1; replace r2 := sO g r2; replace r3 := sO g r3; replace r4 := sO g r4)
  | fail)
 exact bodyPost_ret (v := .agg #[.bool rw', .bool re, .int .u64 rl, .int .u64 rh, .slice pr ls.length cr]) (by simp [results, Tryz.results29, go_sem, r0, r1, r2, r3, r4]) rfl ⟨⟨rw', re, rl, rh, _, rfl, hQ, ls, hL, (((((hT.set hU (by omega)).set hU (by omega)).set hU (by omega)).set hU (by omega)).set hU (by omega)), hU.le (by omega)⟩, (by (repeat (first | with_reducible assumption | with_reducible refine li_set1 ?_ (by omega) _ | with_reducible refine sp_new ?_ _)))⟩
end Go.Proofs.YteafnkimcidkhaaGreat



