/- linear.slack, Blur, and Eval of what is not bounded. -/
import Derived.Test.YteafnkimcidkhaaGreatRLiL
namespace Go.Proofs.YteafnkimcidkhaaGreat
open Go.RowKit
set_option linter.unusedVariables false
set_option linter.unusedSimpArgs false
set_option maxRecDepth 100000 in
set_option maxHeartbeats 6400000 in
theorem lislackd (f : Int) (hf : ¬ f = 1) (e1 : Bool) (a b p q xa xb m t r : Int) (p1 : ∀ V, Calls Tryz.prog 63 #[.int .i64 (-52)] V fun e w' => e = .returned (.int .u64 p) ∧ Below V.heap.size V w') (p2 : ∀ V, Calls Tryz.prog 63 #[.int .i64 (-1074)] V fun e w' => e = .returned (.int .u64 q) ∧ Below V.heap.size V w')
  (k1 : ∀ V, Calls Tryz.prog 124 #[.int .i64 0, .int .u64 a] V fun e w' => e = .returned (.int .u64 xa) ∧ Below V.heap.size V w') (k2 : ∀ V, Calls Tryz.prog 124 #[.int .i64 0, .int .u64 b] V fun e w' => e = .returned (.int .u64 xb) ∧ Below V.heap.size V w') (k3 : ∀ V, Calls Tryz.prog 106 #[.int .u64 xa, .int .u64 xb] V fun e w' => e = .returned (.int .u64 m) ∧ Below V.heap.size V w') (k4 : ∀ V, Calls Tryz.prog 57 #[.int .i64 0, .int .i64 1, .int .u64 m, .int .u64 p] V fun e w' => e = .returned (.int .u64 t) ∧ Below V.heap.size V w') (k5 : ∀ V, Calls Tryz.prog 54 #[.int .i64 0, .int .i64 1, .int .u64 t, .int .u64 q] V fun e w' => e = .returned (.int .u64 r) ∧ Below V.heap.size V w') (w : World) :
  Calls Tryz.prog 78 #[.int .i64 f, .agg #[.bool e1, .int .u64 a, .int .u64 b]] w fun e w' => e = .returned (.int .u64 r) ∧ Below w.heap.size w w' := by
 go_enter Tryz.func78, Tryz.ntmps78
 go_upto_region 1 with fail
 obtain ⟨W, hW⟩ : ∃ W, (w.alloc (.cells #[.bool e1, .int .u64 a, .int .u64 b] 24)) = W := ⟨_, rfl⟩
 have a0 : W.cell? ⟨w.heap.size, 0, none⟩ = some (.bool e1) := by rw [← hW]; simp [go_sem]
 have a1 : W.cell? ⟨w.heap.size, 1, none⟩ = some (.int .u64 a) := by rw [← hW]; simp [go_sem]
 have a2 : W.cell? ⟨w.heap.size, 2, none⟩ = some (.int .u64 b) := by rw [← hW]; simp [go_sem]
 have bW : Below w.heap.size w W := by rw [← hW]; exact (sp_new (Below.refl _ _) _)
 have zW : W.heap.size = w.heap.size + 1 := by rw [← hW]; simp
 rw [hW]
 clear hW
 replace zW := Nat.le_of_eq zW.symm
 go_upto_region 4 with (first
  | (go_at_call 63; (with_reducible refine (p1 _).mono ?_); rintro e vp1 ⟨rfl, g⟩; replace bW := sp_call bW g; replace zW := Nat.le_trans zW g.size; replace a0 := sO g a0; replace a1 := sO g a1; replace a2 := sO g a2; clear g; clear p1)
  | (go_at_call 63; (with_reducible refine (p2 _).mono ?_); rintro e vp2 ⟨rfl, g⟩; replace bW := sp_call bW g; replace zW := Nat.le_trans zW g.size; replace a0 := sO g a0; replace a1 := sO g a1; replace a2 := sO g a2; clear g; clear p2)
  | fail)
 have cc : Below vp2.heap.size vp2 vp2 := Below.refl _ _
 have hall : ∀ X9, Below vp2.heap.size vp2 X9 → (X9.cell? ⟨w.heap.size, 0, none⟩ = some (.bool e1) ∧ X9.cell? ⟨w.heap.size, 1, none⟩ = some (.int .u64 a) ∧ X9.cell? ⟨w.heap.size, 2, none⟩ = some (.int .u64 b)) := fun X9 cc => ⟨sO cc a0, sO cc a1, sO cc a2⟩
 go_region_held3 (fun w' => w'.cell? ⟨w.heap.size, 0, none⟩ = some (.bool e1) ∧ w'.cell? ⟨w.heap.size, 1, none⟩ = some (.int .u64 a) ∧ w'.cell? ⟨w.heap.size, 2, none⟩ = some (.int .u64 b)) (exact hall _ (by first | with_reducible exact cc | with_reducible exact cc.drew))
  (first
   | (go_at_call_of 124 a; (with_reducible refine (k1 _).mono ?_); rintro e v1 ⟨rfl, g⟩; replace cc := sp_call (show Below vp2.heap.size vp2 _ by first | with_reducible exact cc | with_reducible exact cc.drew) g; clear g k1)
   | (go_at_call_of 124 b; (with_reducible refine (k2 _).mono ?_); rintro e v2 ⟨rfl, g⟩; replace cc := sp_call (show Below vp2.heap.size vp2 _ by first | with_reducible exact cc | with_reducible exact cc.drew) g; clear g k2)
   | (go_at_call 106; (with_reducible refine (k3 _).mono ?_); rintro e v3 ⟨rfl, g⟩; replace cc := sp_call (show Below vp2.heap.size vp2 _ by first | with_reducible exact cc | with_reducible exact cc.drew) g; clear g k3)
   | fail)
 all_goals replace bW := sp_call bW (show Below vp2.heap.size vp2 _ by first | with_reducible exact cc | with_reducible exact cc.drew)
 all_goals go_wp2_with (first
  | (go_at_call 57; (with_reducible refine (k4 _).mono ?_); rintro e v4 ⟨rfl, g⟩; replace bW := sp_call bW g; clear g)
  | (go_at_call 54; (with_reducible refine (k5 _).mono ?_); rintro e v5 ⟨rfl, g⟩; replace bW := sp_call bW g; clear g)
  | fail)
 all_goals go_ret
 all_goals exact ⟨rfl, bW⟩
set_option maxRecDepth 100000 in
set_option maxHeartbeats 6400000 in
theorem lislacks (f : Int) (hf : f = 1) (e1 : Bool) (a b p q xa xb m t r : Int) (p0 q0 : Int) (p1 : ∀ V, Calls Tryz.prog 63 #[.int .i64 (-52)] V fun e w' => e = .returned (.int .u64 p0) ∧ Below V.heap.size V w') (p2 : ∀ V, Calls Tryz.prog 63 #[.int .i64 (-1074)] V fun e w' => e = .returned (.int .u64 q0) ∧ Below V.heap.size V w') (p3 : ∀ V, Calls Tryz.prog 63 #[.int .i64 (-23)] V fun e w' => e = .returned (.int .u64 p) ∧ Below V.heap.size V w') (p4 : ∀ V, Calls Tryz.prog 63 #[.int .i64 (-149)] V fun e w' => e = .returned (.int .u64 q) ∧ Below V.heap.size V w')
  (k1 : ∀ V, Calls Tryz.prog 124 #[.int .i64 0, .int .u64 a] V fun e w' => e = .returned (.int .u64 xa) ∧ Below V.heap.size V w') (k2 : ∀ V, Calls Tryz.prog 124 #[.int .i64 0, .int .u64 b] V fun e w' => e = .returned (.int .u64 xb) ∧ Below V.heap.size V w') (k3 : ∀ V, Calls Tryz.prog 106 #[.int .u64 xa, .int .u64 xb] V fun e w' => e = .returned (.int .u64 m) ∧ Below V.heap.size V w') (k4 : ∀ V, Calls Tryz.prog 57 #[.int .i64 0, .int .i64 1, .int .u64 m, .int .u64 p] V fun e w' => e = .returned (.int .u64 t) ∧ Below V.heap.size V w') (k5 : ∀ V, Calls Tryz.prog 54 #[.int .i64 0, .int .i64 1, .int .u64 t, .int .u64 q] V fun e w' => e = .returned (.int .u64 r) ∧ Below V.heap.size V w') (w : World) :
  Calls Tryz.prog 78 #[.int .i64 f, .agg #[.bool e1, .int .u64 a, .int .u64 b]] w fun e w' => e = .returned (.int .u64 r) ∧ Below w.heap.size w w' := by
 subst hf
 go_enter Tryz.func78, Tryz.ntmps78
 go_upto_region 1 with fail
 obtain ⟨W, hW⟩ : ∃ W, (w.alloc (.cells #[.bool e1, .int .u64 a, .int .u64 b] 24)) = W := ⟨_, rfl⟩
 have a0 : W.cell? ⟨w.heap.size, 0, none⟩ = some (.bool e1) := by rw [← hW]; simp [go_sem]
 have a1 : W.cell? ⟨w.heap.size, 1, none⟩ = some (.int .u64 a) := by rw [← hW]; simp [go_sem]
 have a2 : W.cell? ⟨w.heap.size, 2, none⟩ = some (.int .u64 b) := by rw [← hW]; simp [go_sem]
 have bW : Below w.heap.size w W := by rw [← hW]; exact (sp_new (Below.refl _ _) _)
 have zW : W.heap.size = w.heap.size + 1 := by rw [← hW]; simp
 rw [hW]
 clear hW
 replace zW := Nat.le_of_eq zW.symm
 go_upto_region 4 with (first
  | (go_at_call 63; (with_reducible refine (p1 _).mono ?_); rintro e vp1 ⟨rfl, g⟩; replace bW := sp_call bW g; replace zW := Nat.le_trans zW g.size; replace a0 := sO g a0; replace a1 := sO g a1; replace a2 := sO g a2; clear g; clear p1)
  | (go_at_call 63; (with_reducible refine (p2 _).mono ?_); rintro e vp2 ⟨rfl, g⟩; replace bW := sp_call bW g; replace zW := Nat.le_trans zW g.size; replace a0 := sO g a0; replace a1 := sO g a1; replace a2 := sO g a2; clear g; clear p2)
  | (go_at_call 63; (with_reducible refine (p3 _).mono ?_); rintro e vp3 ⟨rfl, g⟩; replace bW := sp_call bW g; replace zW := Nat.le_trans zW g.size; replace a0 := sO g a0; replace a1 := sO g a1; replace a2 := sO g a2; clear g; clear p3)
  | (go_at_call 63; (with_reducible refine (p4 _).mono ?_); rintro e vp4 ⟨rfl, g⟩; replace bW := sp_call bW g; replace zW := Nat.le_trans zW g.size; replace a0 := sO g a0; replace a1 := sO g a1; replace a2 := sO g a2; clear g; clear p4)
  | fail)
 have cc : Below vp4.heap.size vp4 vp4 := Below.refl _ _
 have hall : ∀ X9, Below vp4.heap.size vp4 X9 → (X9.cell? ⟨w.heap.size, 0, none⟩ = some (.bool e1) ∧ X9.cell? ⟨w.heap.size, 1, none⟩ = some (.int .u64 a) ∧ X9.cell? ⟨w.heap.size, 2, none⟩ = some (.int .u64 b)) := fun X9 cc => ⟨sO cc a0, sO cc a1, sO cc a2⟩
 go_region_held3 (fun w' => w'.cell? ⟨w.heap.size, 0, none⟩ = some (.bool e1) ∧ w'.cell? ⟨w.heap.size, 1, none⟩ = some (.int .u64 a) ∧ w'.cell? ⟨w.heap.size, 2, none⟩ = some (.int .u64 b)) (exact hall _ (by first | with_reducible exact cc | with_reducible exact cc.drew))
  (first
   | (go_at_call_of 124 a; (with_reducible refine (k1 _).mono ?_); rintro e v1 ⟨rfl, g⟩; replace cc := sp_call (show Below vp4.heap.size vp4 _ by first | with_reducible exact cc | with_reducible exact cc.drew) g; clear g k1)
   | (go_at_call_of 124 b; (with_reducible refine (k2 _).mono ?_); rintro e v2 ⟨rfl, g⟩; replace cc := sp_call (show Below vp4.heap.size vp4 _ by first | with_reducible exact cc | with_reducible exact cc.drew) g; clear g k2)
   | (go_at_call 106; (with_reducible refine (k3 _).mono ?_); rintro e v3 ⟨rfl, g⟩; replace cc := sp_call (show Below vp4.heap.size vp4 _ by first | with_reducible exact cc | with_reducible exact cc.drew) g; clear g k3)
   | fail)
 all_goals replace bW := sp_call bW (show Below vp4.heap.size vp4 _ by first | with_reducible exact cc | with_reducible exact cc.drew)
 all_goals go_wp2_with (first
  | (go_at_call 57; (with_reducible refine (k4 _).mono ?_); rintro e v4 ⟨rfl, g⟩; replace bW := sp_call bW g; clear g)
  | (go_at_call 54; (with_reducible refine (k5 _).mono ?_); rintro e v5 ⟨rfl, g⟩; replace bW := sp_call bW g; clear g)
  | fail)
 all_goals go_ret
 all_goals exact ⟨rfl, bW⟩
set_option maxRecDepth 100000 in
set_option maxHeartbeats 6400000 in
theorem liblur_no (wa ae : Bool) (al ah : Int) (va : Value) (hva : ∃ o n c, va = .slice o n c) (f : Int) (e1 : Bool) (lb hb : Int) (kr : ∀ V, Calls Tryz.prog 77 #[.agg #[.bool e1, .int .u64 lb, .int .u64 hb]] V fun e w' => e = .returned (.bool false) ∧ Below V.heap.size V w') (kw : ∀ V, Calls Tryz.prog 61 #[] V fun e w' => e = .returned (.agg #[.bool true, .bool false, .int .u64 0, .int .u64 0, .slice none 0 0]) ∧ Below V.heap.size V w') (w : World) :
  Calls Tryz.prog 39 #[.agg #[.bool wa, .bool ae, .int .u64 al, .int .u64 ah, va], .int .i64 f, .agg #[.bool e1, .int .u64 lb, .int .u64 hb]] w fun e w' => e = .returned (.agg #[.bool true, .bool false, .int .u64 0, .int .u64 0, .slice none 0 0]) ∧ Below w.heap.size w w' := by
 obtain ⟨pa, na, ca, rfl⟩ := hva
 go_enter Tryz.func39, Tryz.ntmps39
 go_upto_region 1 with fail
 obtain ⟨W, hW⟩ : ∃ W, (((w.alloc (.cells #[.bool wa, .bool ae, .int .u64 al, .int .u64 ah, .slice pa na ca] 31)).alloc (.cells #[.bool e1, .int .u64 lb, .int .u64 hb] 24)).alloc (.cells #[.bool false, .bool false, .int .u64 0, .int .u64 0, .slice none 0 0] 31)) = W := ⟨_, rfl⟩
 have a0 : W.cell? ⟨w.heap.size, 0, none⟩ = some (.bool wa) := by rw [← hW]; simp [go_sem]
 have a1 : W.cell? ⟨w.heap.size, 1, none⟩ = some (.bool ae) := by rw [← hW]; simp [go_sem]
 have a2 : W.cell? ⟨w.heap.size, 2, none⟩ = some (.int .u64 al) := by rw [← hW]; simp [go_sem]
 have a3 : W.cell? ⟨w.heap.size, 3, none⟩ = some (.int .u64 ah) := by rw [← hW]; simp [go_sem]
 have a4 : W.cell? ⟨w.heap.size, 4, none⟩ = some (.slice pa na ca) := by rw [← hW]; simp [go_sem]
 have b0 : W.cell? ⟨w.heap.size + 1, 0, none⟩ = some (.bool e1) := by rw [← hW]; simp [go_sem]
 have b1 : W.cell? ⟨w.heap.size + 1, 1, none⟩ = some (.int .u64 lb) := by rw [← hW]; simp [go_sem]
 have b2 : W.cell? ⟨w.heap.size + 1, 2, none⟩ = some (.int .u64 hb) := by rw [← hW]; simp [go_sem]
 have r0 : W.cell? ⟨w.heap.size + 1 + 1, 0, none⟩ = some (.bool false) := by rw [← hW]; simp [go_sem]
 have r1 : W.cell? ⟨w.heap.size + 1 + 1, 1, none⟩ = some (.bool false) := by rw [← hW]; simp [go_sem]
 have r2 : W.cell? ⟨w.heap.size + 1 + 1, 2, none⟩ = some (.int .u64 0) := by rw [← hW]; simp [go_sem]
 have r3 : W.cell? ⟨w.heap.size + 1 + 1, 3, none⟩ = some (.int .u64 0) := by rw [← hW]; simp [go_sem]
 have r4 : W.cell? ⟨w.heap.size + 1 + 1, 4, none⟩ = some (.slice none 0 0) := by rw [← hW]; simp [go_sem]
 have bW : Below w.heap.size w W := by rw [← hW]; exact (sp_new (sp_new (sp_new (Below.refl _ _) _) _) _)
 have zW : W.heap.size = w.heap.size + 3 := by rw [← hW]; simp
 have fz : ∀ j, W.frozen? ⟨w.heap.size + 1 + 1, j, none⟩ = false := by intro j; rw [← hW]; simp [go_sem]
 rw [hW]
 clear hW
 replace zW := Nat.le_of_eq zW.symm
 go_wp2_with (first
  | (go_at_call 77; (with_reducible refine (kr _).mono ?_); rintro e v1 ⟨rfl, g⟩; replace fz : ∀ j, v1.frozen? ⟨w.heap.size + 1 + 1, j, none⟩ = false := fun j => (g.frozen (p := ⟨w.heap.size + 1 + 1, j, none⟩) (by first | (simp; done) | (simp; omega))).trans (fz j); replace bW := sp_call bW g; replace zW := Nat.le_trans zW g.size; replace a0 := sO g a0; replace a1 := sO g a1; replace a2 := sO g a2; replace a3 := sO g a3; replace a4 := sO g a4; replace b0 := sO g b0; replace b1 := sO g b1; replace b2 := sO g b2; replace r0 := sO g r0; replace r1 := sO g r1; replace r2 := sO g r2; replace r3 := sO g r3; replace r4 := sO g r4; clear g)
  | (go_at_call 61; (with_reducible refine (kw _).mono ?_); rintro e v2 ⟨rfl, g⟩; replace fz : ∀ j, v2.frozen? ⟨w.heap.size + 1 + 1, j, none⟩ = false := fun j => (g.frozen (p := ⟨w.heap.size + 1 + 1, j, none⟩) (by first | (simp; done) | (simp; omega))).trans (fz j); replace bW := sp_call bW g; replace zW := Nat.le_trans zW g.size; replace a0 := sO g a0; replace a1 := sO g a1; replace a2 := sO g a2; replace a3 := sO g a3; replace a4 := sO g a4; replace b0 := sO g b0; replace b1 := sO g b1; replace b2 := sO g b2; replace r0 := sO g r0; replace r1 := sO g r1; replace r2 := sO g r2; replace r3 := sO g r3; replace r4 := sO g r4; clear g)
  | fail)
 exact bodyPost_ret (v := .agg #[.bool true, .bool false, .int .u64 0, .int .u64 0, .slice none 0 0]) (by simp [results, Tryz.results39, go_sem, r0, r1, r2, r3, r4]) rfl ⟨rfl, (by (repeat (first | with_reducible assumption | with_reducible refine li_set1 ?_ (by omega) _ | with_reducible refine sp_new ?_ _)))⟩
set_option maxRecDepth 100000 in
set_option maxHeartbeats 6400000 in
theorem liblur_em (wa ae : Bool) (al ah : Int) (va : Value) (hva : ∃ o n c, va = .slice o n c) (f : Int) (e1 : Bool) (lb hb : Int) (he : e1 = true) (ok : World → Prop) (hok : ∀ W V, ok W → Below W.heap.size W V → ok V) (Q : Bool → Bool → Int → Int → Prop) (L : Bool → Bool → Int → Int → List (Int × Bool × Int × Int) → Prop) (kr : ∀ V, Calls Tryz.prog 77 #[.agg #[.bool e1, .int .u64 lb, .int .u64 hb]] V fun e w' => e = .returned (.bool true) ∧ Below V.heap.size V w')
  (k1 : ∀ V, ok V → Calls Tryz.prog 29 #[.agg #[.bool wa, .bool ae, .int .u64 al, .int .u64 ah, va], .agg #[.bool false, .bool false, .int .u64 0, .int .u64 0, .slice none 0 0]] V fun e w' => (∃ (rw re : Bool) (rl rh : Int) (rv : Value), e = .returned (.agg #[.bool rw, .bool re, .int .u64 rl, .int .u64 rh, rv]) ∧ Q rw re rl rh ∧ ∃ ls, L rw re rl rh ls ∧ TAt w' rv ls ∧ Up V.heap.size rv) ∧ Below V.heap.size V w') (w : World) (h0 : ok w) :
  Calls Tryz.prog 39 #[.agg #[.bool wa, .bool ae, .int .u64 al, .int .u64 ah, va], .int .i64 f, .agg #[.bool e1, .int .u64 lb, .int .u64 hb]] w fun e w' => (∃ (rw re : Bool) (rl rh : Int) (rv : Value), e = .returned (.agg #[.bool rw, .bool re, .int .u64 rl, .int .u64 rh, rv]) ∧ Q rw re rl rh ∧ ∃ ls, L rw re rl rh ls ∧ TAt w' rv ls ∧ Up w.heap.size rv) ∧ Below w.heap.size w w' := by
 subst he
 obtain ⟨pa, na, ca, rfl⟩ := hva
 go_enter Tryz.func39, Tryz.ntmps39
 go_upto_region 1 with fail
 obtain ⟨W, hW⟩ : ∃ W, (((w.alloc (.cells #[.bool wa, .bool ae, .int .u64 al, .int .u64 ah, .slice pa na ca] 31)).alloc (.cells #[.bool true, .int .u64 lb, .int .u64 hb] 24)).alloc (.cells #[.bool false, .bool false, .int .u64 0, .int .u64 0, .slice none 0 0] 31)) = W := ⟨_, rfl⟩
 have a0 : W.cell? ⟨w.heap.size, 0, none⟩ = some (.bool wa) := by rw [← hW]; simp [go_sem]
 have a1 : W.cell? ⟨w.heap.size, 1, none⟩ = some (.bool ae) := by rw [← hW]; simp [go_sem]
 have a2 : W.cell? ⟨w.heap.size, 2, none⟩ = some (.int .u64 al) := by rw [← hW]; simp [go_sem]
 have a3 : W.cell? ⟨w.heap.size, 3, none⟩ = some (.int .u64 ah) := by rw [← hW]; simp [go_sem]
 have a4 : W.cell? ⟨w.heap.size, 4, none⟩ = some (.slice pa na ca) := by rw [← hW]; simp [go_sem]
 have b0 : W.cell? ⟨w.heap.size + 1, 0, none⟩ = some (.bool true) := by rw [← hW]; simp [go_sem]
 have b1 : W.cell? ⟨w.heap.size + 1, 1, none⟩ = some (.int .u64 lb) := by rw [← hW]; simp [go_sem]
 have b2 : W.cell? ⟨w.heap.size + 1, 2, none⟩ = some (.int .u64 hb) := by rw [← hW]; simp [go_sem]
 have r0 : W.cell? ⟨w.heap.size + 1 + 1, 0, none⟩ = some (.bool false) := by rw [← hW]; simp [go_sem]
 have r1 : W.cell? ⟨w.heap.size + 1 + 1, 1, none⟩ = some (.bool false) := by rw [← hW]; simp [go_sem]
 have r2 : W.cell? ⟨w.heap.size + 1 + 1, 2, none⟩ = some (.int .u64 0) := by rw [← hW]; simp [go_sem]
 have r3 : W.cell? ⟨w.heap.size + 1 + 1, 3, none⟩ = some (.int .u64 0) := by rw [← hW]; simp [go_sem]
 have r4 : W.cell? ⟨w.heap.size + 1 + 1, 4, none⟩ = some (.slice none 0 0) := by rw [← hW]; simp [go_sem]
 have bW : Below w.heap.size w W := by rw [← hW]; exact (sp_new (sp_new (sp_new (Below.refl _ _) _) _) _)
 have zW : W.heap.size = w.heap.size + 3 := by rw [← hW]; simp
 have fz : ∀ j, W.frozen? ⟨w.heap.size + 1 + 1, j, none⟩ = false := by intro j; rw [← hW]; simp [go_sem]
 rw [hW]
 clear hW
 replace zW := Nat.le_of_eq zW.symm
 have oW := hok _ _ h0 bW
 go_wp2_with (first
  | (go_at_call 77; (with_reducible refine (kr _).mono ?_); rintro e v1 ⟨rfl, g⟩; replace oW := hok _ _ oW g; replace fz : ∀ j, v1.frozen? ⟨w.heap.size + 1 + 1, j, none⟩ = false := fun j => (g.frozen (p := ⟨w.heap.size + 1 + 1, j, none⟩) (by first | (simp; done) | (simp; omega))).trans (fz j); replace bW := sp_call bW g; replace zW := Nat.le_trans zW g.size; replace a0 := sO g a0; replace a1 := sO g a1; replace a2 := sO g a2; replace a3 := sO g a3; replace a4 := sO g a4; replace b0 := sO g b0; replace b1 := sO g b1; replace b2 := sO g b2; replace r0 := sO g r0; replace r1 := sO g r1; replace r2 := sO g r2; replace r3 := sO g r3; replace r4 := sO g r4; clear g; have zW0 := zW)
  | (go_at_call 29; (with_reducible refine (k1 _ oW).mono ?_); rintro e v2 ⟨⟨rw', re, rl, rh, rv, rfl, hQ, ls, hL, hT, hU⟩, g⟩; obtain ⟨pr, cr, rfl⟩ := hT.len; replace fz : ∀ j, v2.frozen? ⟨w.heap.size + 1 + 1, j, none⟩ = false := fun j => (g.frozen (p := ⟨w.heap.size + 1 + 1, j, none⟩) (by first | (simp; done) | (simp; omega))).trans (fz j); replace bW := sp_call bW g; replace zW := Nat.le_trans zW g.size; replace a0 := sO g a0; replace a1 := sO g a1; replace a2 := sO g a2; replace a3 := sO g a3; replace a4 := sO g a4; replace b0 := sO g b0; replace b1 := sO g b1; replace b2 := sO g b2; replace r0 := sO g r0; replace r1 := sO g r1; replace r2 := sO g r2; replace r3 := sO g r3; replace r4 := sO g r4; clear g)
  | fail)
 exact bodyPost_ret (v := .agg #[.bool rw', .bool re, .int .u64 rl, .int .u64 rh, .slice pr ls.length cr]) (by simp [results, Tryz.results39, go_sem, r0, r1, r2, r3, r4]) rfl ⟨⟨rw', re, rl, rh, _, rfl, hQ, ls, hL, (((((hT.set hU (by omega)).set hU (by omega)).set hU (by omega)).set hU (by omega)).set hU (by omega)), hU.le (by omega)⟩, (by (repeat (first | with_reducible assumption | with_reducible refine li_set1 ?_ (by omega) _ | with_reducible refine sp_new ?_ _)))⟩
set_option maxRecDepth 100000 in
set_option maxHeartbeats 6400000 in
theorem liblur_ok (wa ae : Bool) (al ah : Int) (va : Value) (hva : ∃ o n c, va = .slice o n c) (f : Int) (e1 : Bool) (lb hb : Int) (he : e1 = false) (x y : Int) (ow oe : Bool) (ol oh : Int) (ok : World → Prop) (hok : ∀ W V, ok W → Below W.heap.size W V → ok V) (Q : Bool → Bool → Int → Int → Prop) (L : Bool → Bool → Int → Int → List (Int × Bool × Int × Int) → Prop) (kr : ∀ V, Calls Tryz.prog 77 #[.agg #[.bool e1, .int .u64 lb, .int .u64 hb]] V fun e w' => e = .returned (.bool true) ∧ Below V.heap.size V w') (ks : ∀ V, Calls Tryz.prog 78 #[.int .i64 f, .agg #[.bool e1, .int .u64 lb, .int .u64 hb]] V fun e w' => e = .returned (.int .u64 x) ∧ Below V.heap.size V w') (kn : ∀ V, Calls Tryz.prog 79 #[.int .i64 0, .int .u64 x] V fun e w' => e = .returned (.int .u64 y) ∧ Below V.heap.size V w') (ko : ∀ V, Calls Tryz.prog 20 #[.agg #[.bool false, .int .u64 y, .int .u64 x]] V fun e w' => e = .returned (.agg #[.bool ow, .bool oe, .int .u64 ol, .int .u64 oh, .slice none 0 0]) ∧ Below V.heap.size V w')
  (k1 : ∀ V, ok V → Calls Tryz.prog 29 #[.agg #[.bool wa, .bool ae, .int .u64 al, .int .u64 ah, va], .agg #[.bool ow, .bool oe, .int .u64 ol, .int .u64 oh, .slice none 0 0]] V fun e w' => (∃ (rw re : Bool) (rl rh : Int) (rv : Value), e = .returned (.agg #[.bool rw, .bool re, .int .u64 rl, .int .u64 rh, rv]) ∧ Q rw re rl rh ∧ ∃ ls, L rw re rl rh ls ∧ TAt w' rv ls ∧ Up V.heap.size rv) ∧ Below V.heap.size V w') (w : World) (h0 : ok w) :
  Calls Tryz.prog 39 #[.agg #[.bool wa, .bool ae, .int .u64 al, .int .u64 ah, va], .int .i64 f, .agg #[.bool e1, .int .u64 lb, .int .u64 hb]] w fun e w' => (∃ (rw re : Bool) (rl rh : Int) (rv : Value), e = .returned (.agg #[.bool rw, .bool re, .int .u64 rl, .int .u64 rh, rv]) ∧ Q rw re rl rh ∧ ∃ ls, L rw re rl rh ls ∧ TAt w' rv ls ∧ Up w.heap.size rv) ∧ Below w.heap.size w w' := by
 subst he
 obtain ⟨pa, na, ca, rfl⟩ := hva
 go_enter Tryz.func39, Tryz.ntmps39
 go_upto_region 1 with fail
 obtain ⟨W, hW⟩ : ∃ W, (((w.alloc (.cells #[.bool wa, .bool ae, .int .u64 al, .int .u64 ah, .slice pa na ca] 31)).alloc (.cells #[.bool false, .int .u64 lb, .int .u64 hb] 24)).alloc (.cells #[.bool false, .bool false, .int .u64 0, .int .u64 0, .slice none 0 0] 31)) = W := ⟨_, rfl⟩
 have a0 : W.cell? ⟨w.heap.size, 0, none⟩ = some (.bool wa) := by rw [← hW]; simp [go_sem]
 have a1 : W.cell? ⟨w.heap.size, 1, none⟩ = some (.bool ae) := by rw [← hW]; simp [go_sem]
 have a2 : W.cell? ⟨w.heap.size, 2, none⟩ = some (.int .u64 al) := by rw [← hW]; simp [go_sem]
 have a3 : W.cell? ⟨w.heap.size, 3, none⟩ = some (.int .u64 ah) := by rw [← hW]; simp [go_sem]
 have a4 : W.cell? ⟨w.heap.size, 4, none⟩ = some (.slice pa na ca) := by rw [← hW]; simp [go_sem]
 have b0 : W.cell? ⟨w.heap.size + 1, 0, none⟩ = some (.bool false) := by rw [← hW]; simp [go_sem]
 have b1 : W.cell? ⟨w.heap.size + 1, 1, none⟩ = some (.int .u64 lb) := by rw [← hW]; simp [go_sem]
 have b2 : W.cell? ⟨w.heap.size + 1, 2, none⟩ = some (.int .u64 hb) := by rw [← hW]; simp [go_sem]
 have r0 : W.cell? ⟨w.heap.size + 1 + 1, 0, none⟩ = some (.bool false) := by rw [← hW]; simp [go_sem]
 have r1 : W.cell? ⟨w.heap.size + 1 + 1, 1, none⟩ = some (.bool false) := by rw [← hW]; simp [go_sem]
 have r2 : W.cell? ⟨w.heap.size + 1 + 1, 2, none⟩ = some (.int .u64 0) := by rw [← hW]; simp [go_sem]
 have r3 : W.cell? ⟨w.heap.size + 1 + 1, 3, none⟩ = some (.int .u64 0) := by rw [← hW]; simp [go_sem]
 have r4 : W.cell? ⟨w.heap.size + 1 + 1, 4, none⟩ = some (.slice none 0 0) := by rw [← hW]; simp [go_sem]
 have bW : Below w.heap.size w W := by rw [← hW]; exact (sp_new (sp_new (sp_new (Below.refl _ _) _) _) _)
 have zW : W.heap.size = w.heap.size + 3 := by rw [← hW]; simp
 have fz : ∀ j, W.frozen? ⟨w.heap.size + 1 + 1, j, none⟩ = false := by intro j; rw [← hW]; simp [go_sem]
 rw [hW]
 clear hW
 replace zW := Nat.le_of_eq zW.symm
 have oW := hok _ _ h0 bW
 go_upto_region 6 with (first
  | (go_at_call 77; (with_reducible refine (kr _).mono ?_); rintro e v1 ⟨rfl, g⟩; replace oW := hok _ _ oW g; replace fz : ∀ j, v1.frozen? ⟨w.heap.size + 1 + 1, j, none⟩ = false := fun j => (g.frozen (p := ⟨w.heap.size + 1 + 1, j, none⟩) (by first | (simp; done) | (simp; omega))).trans (fz j); replace bW := sp_call bW g; replace zW := Nat.le_trans zW g.size; replace a0 := sO g a0; replace a1 := sO g a1; replace a2 := sO g a2; replace a3 := sO g a3; replace a4 := sO g a4; replace b0 := sO g b0; replace b1 := sO g b1; replace b2 := sO g b2; replace r0 := sO g r0; replace r1 := sO g r1; replace r2 := sO g r2; replace r3 := sO g r3; replace r4 := sO g r4; clear g)
  | (go_at_call 78; (with_reducible refine (ks _).mono ?_); rintro e X0 ⟨rfl, g⟩; replace oW := hok _ _ oW g; replace fz : ∀ j, X0.frozen? ⟨w.heap.size + 1 + 1, j, none⟩ = false := fun j => (g.frozen (p := ⟨w.heap.size + 1 + 1, j, none⟩) (by first | (simp; done) | (simp; omega))).trans (fz j); replace bW := sp_call bW g; replace zW := Nat.le_trans zW g.size; replace a0 := sO g a0; replace a1 := sO g a1; replace a2 := sO g a2; replace a3 := sO g a3; replace a4 := sO g a4; replace b0 := sO g b0; replace b1 := sO g b1; replace b2 := sO g b2; replace r0 := sO g r0; replace r1 := sO g r1; replace r2 := sO g r2; replace r3 := sO g r3; replace r4 := sO g r4; clear g; have zW0 := zW)
  | fail)
 have cc : Below X0.heap.size X0 X0 := Below.refl _ _
 have hall : ∀ X9, Below X0.heap.size X0 X9 → (X9.cell? ⟨w.heap.size, 0, none⟩ = some (.bool wa) ∧ X9.cell? ⟨w.heap.size, 1, none⟩ = some (.bool ae) ∧ X9.cell? ⟨w.heap.size, 2, none⟩ = some (.int .u64 al) ∧ X9.cell? ⟨w.heap.size, 3, none⟩ = some (.int .u64 ah) ∧ X9.cell? ⟨w.heap.size, 4, none⟩ = some (.slice pa na ca)) := fun X9 cc => ⟨sO cc a0, sO cc a1, sO cc a2, sO cc a3, sO cc a4⟩
 have hst : ∀ X9 x0 x1 x2 x3 x4, Below X0.heap.size X0 X9 → ((((((X9.setCell ⟨w.heap.size + 1 + 1, 0, none⟩ x0).setCell ⟨w.heap.size + 1 + 1, 1, none⟩ x1).setCell ⟨w.heap.size + 1 + 1, 2, none⟩ x2).setCell ⟨w.heap.size + 1 + 1, 3, none⟩ x3).setCell ⟨w.heap.size + 1 + 1, 4, none⟩ x4).cell? ⟨w.heap.size, 0, none⟩ = some (.bool wa) ∧ (((((X9.setCell ⟨w.heap.size + 1 + 1, 0, none⟩ x0).setCell ⟨w.heap.size + 1 + 1, 1, none⟩ x1).setCell ⟨w.heap.size + 1 + 1, 2, none⟩ x2).setCell ⟨w.heap.size + 1 + 1, 3, none⟩ x3).setCell ⟨w.heap.size + 1 + 1, 4, none⟩ x4).cell? ⟨w.heap.size, 1, none⟩ = some (.bool ae) ∧ (((((X9.setCell ⟨w.heap.size + 1 + 1, 0, none⟩ x0).setCell ⟨w.heap.size + 1 + 1, 1, none⟩ x1).setCell ⟨w.heap.size + 1 + 1, 2, none⟩ x2).setCell ⟨w.heap.size + 1 + 1, 3, none⟩ x3).setCell ⟨w.heap.size + 1 + 1, 4, none⟩ x4).cell? ⟨w.heap.size, 2, none⟩ = some (.int .u64 al) ∧ (((((X9.setCell ⟨w.heap.size + 1 + 1, 0, none⟩ x0).setCell ⟨w.heap.size + 1 + 1, 1, none⟩ x1).setCell ⟨w.heap.size + 1 + 1, 2, none⟩ x2).setCell ⟨w.heap.size + 1 + 1, 3, none⟩ x3).setCell ⟨w.heap.size + 1 + 1, 4, none⟩ x4).cell? ⟨w.heap.size, 3, none⟩ = some (.int .u64 ah) ∧ (((((X9.setCell ⟨w.heap.size + 1 + 1, 0, none⟩ x0).setCell ⟨w.heap.size + 1 + 1, 1, none⟩ x1).setCell ⟨w.heap.size + 1 + 1, 2, none⟩ x2).setCell ⟨w.heap.size + 1 + 1, 3, none⟩ x3).setCell ⟨w.heap.size + 1 + 1, 4, none⟩ x4).cell? ⟨w.heap.size, 4, none⟩ = some (.slice pa na ca)) := fun X9 x0 x1 x2 x3 x4 cc => ⟨(sp_keep1 (sp_keep1 (sp_keep1 (sp_keep1 (sp_keep1 (sO cc a0) (by omega) _) (by omega) _) (by omega) _) (by omega) _) (by omega) _), (sp_keep1 (sp_keep1 (sp_keep1 (sp_keep1 (sp_keep1 (sO cc a1) (by omega) _) (by omega) _) (by omega) _) (by omega) _) (by omega) _), (sp_keep1 (sp_keep1 (sp_keep1 (sp_keep1 (sp_keep1 (sO cc a2) (by omega) _) (by omega) _) (by omega) _) (by omega) _) (by omega) _), (sp_keep1 (sp_keep1 (sp_keep1 (sp_keep1 (sp_keep1 (sO cc a3) (by omega) _) (by omega) _) (by omega) _) (by omega) _) (by omega) _), (sp_keep1 (sp_keep1 (sp_keep1 (sp_keep1 (sp_keep1 (sO cc a4) (by omega) _) (by omega) _) (by omega) _) (by omega) _) (by omega) _)⟩
 go_region_held3 (fun w' => w'.cell? ⟨w.heap.size, 0, none⟩ = some (.bool wa) ∧ w'.cell? ⟨w.heap.size, 1, none⟩ = some (.bool ae) ∧ w'.cell? ⟨w.heap.size, 2, none⟩ = some (.int .u64 al) ∧ w'.cell? ⟨w.heap.size, 3, none⟩ = some (.int .u64 ah) ∧ w'.cell? ⟨w.heap.size, 4, none⟩ = some (.slice pa na ca)) (first | exact hall _ (by first | with_reducible exact cc | with_reducible exact cc.drew) | exact hst _ _ _ _ _ _ (by first | with_reducible exact cc | with_reducible exact cc.drew))
  (first
   | (go_at_call 79; (with_reducible refine (kn _).mono ?_); rintro e v1 ⟨rfl, g⟩; replace cc := sp_call (show Below X0.heap.size X0 _ by first | with_reducible exact cc | with_reducible exact cc.drew) g; clear g kn)
   | (go_at_call 20; (with_reducible refine (ko _).mono ?_); rintro e v2 ⟨rfl, g⟩; replace cc := sp_call (show Below X0.heap.size X0 _ by first | with_reducible exact cc | with_reducible exact cc.drew) g; clear g ko)
   | (go_at_call 29; (with_reducible refine (k1 _ (hok _ _ oW (by first | with_reducible exact cc | with_reducible exact cc.drew))).mono ?_); rintro e v3 ⟨⟨rw', re, rl, rh, rv, rfl, hQ, ls, hL, hT, hU⟩, g⟩; obtain ⟨pr, cr, rfl⟩ := hT.len; have zU := cc.size; replace cc := sp_call (show Below X0.heap.size X0 _ by first | with_reducible exact cc | with_reducible exact cc.drew) g; clear g; have zc := cc.size; replace r0 := sO cc r0; replace r1 := sO cc r1; replace r2 := sO cc r2; replace r3 := sO cc r3; replace r4 := sO cc r4; replace fz : ∀ j, v3.frozen? ⟨w.heap.size + 1 + 1, j, none⟩ = false := fun j => (cc.frozen (p := ⟨w.heap.size + 1 + 1, j, none⟩) (by first | (simp; done) | (simp; omega))).trans (fz j); replace bW := sp_call bW cc)
   | fail)
 all_goals go_wp2_with fail
 all_goals exact bodyPost_ret (v := .agg #[.bool rw', .bool re, .int .u64 rl, .int .u64 rh, .slice pr ls.length cr]) (by simp [results, Tryz.results39, go_sem, r0, r1, r2, r3, r4]) rfl ⟨⟨rw', re, rl, rh, _, rfl, hQ, ls, hL, (((((hT.set hU (by omega)).set hU (by omega)).set hU (by omega)).set hU (by omega)).set hU (by omega)), hU.le (by omega)⟩, (by (repeat (first | with_reducible assumption | with_reducible refine li_set1 ?_ (by omega) _ | with_reducible refine sp_new ?_ _)))⟩
end Go.Proofs.YteafnkimcidkhaaGreat


