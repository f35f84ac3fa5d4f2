/- Texts of the proof, put together. -/
import Derived.Test.YteafnkimcidkhaaGreatYG3
namespace Go.Proofs.YteafnkimcidkhaaGreat
open Go.RowKit
set_option linter.unusedVariables false
set_option linter.unusedSimpArgs false
set_option maxRecDepth 100000 in
set_option maxHeartbeats 6400000 in
theorem liov_no (q : Int) (h : q < 0) (kw : ∀ V, Calls Tryz.prog 61 #[] V fun e w' => e = .returned (.agg #[.bool true, .bool false, .int .u64 0, .int .u64 0, .slice none 0 0]) ∧ Below V.heap.size V w') (w : World) :
  Calls Tryz.prog 22 #[.int .i64 q] w fun e w' => e = .returned (.agg #[.bool true, .bool false, .int .u64 0, .int .u64 0, .slice none 0 0]) ∧ Below w.heap.size w w' := by
 go_enter Tryz.func22, Tryz.ntmps22
 go_upto_region 2 with fail
 obtain ⟨W, hW⟩ : ∃ W, (w.alloc (.cells #[.bool false, .bool false, .int .u64 0, .int .u64 0, .slice none 0 0] 31)) = W := ⟨_, rfl⟩
 have r0 : W.cell? ⟨w.heap.size, 0, none⟩ = some (.bool false) := by rw [← hW]; simp [go_sem]
 have r1 : W.cell? ⟨w.heap.size, 1, none⟩ = some (.bool false) := by rw [← hW]; simp [go_sem]
 have r2 : W.cell? ⟨w.heap.size, 2, none⟩ = some (.int .u64 0) := by rw [← hW]; simp [go_sem]
 have r3 : W.cell? ⟨w.heap.size, 3, none⟩ = some (.int .u64 0) := by rw [← hW]; simp [go_sem]
 have r4 : W.cell? ⟨w.heap.size, 4, none⟩ = some (.slice none 0 0) := by rw [← hW]; simp [go_sem]
 have bW : Below w.heap.size w W := by rw [← hW]; exact (sp_new (Below.refl _ _) _)
 have zW : W.heap.size = w.heap.size + 1 := by rw [← hW]; simp
 have fz : ∀ j, W.frozen? ⟨w.heap.size, j, none⟩ = false := by intro j; rw [← hW]; simp [go_sem]
 rw [hW]
 clear hW
 replace zW := Nat.le_of_eq zW.symm
 go_wp2_with (first
  | (go_at_call 61; (with_reducible refine (kw _).mono ?_); rintro e v2 ⟨rfl, g⟩; replace fz : ∀ j, v2.frozen? ⟨w.heap.size, j, none⟩ = false := fun j => (g.frozen (p := ⟨w.heap.size, j, none⟩) (by first | (simp; done) | (simp; omega))).trans (fz j); replace bW := sp_call bW g; replace zW := Nat.le_trans zW g.size; replace r0 := sO g r0; replace r1 := sO g r1; replace r2 := sO g r2; replace r3 := sO g r3; replace r4 := sO g r4; clear g)
  | fail)
 exact bodyPost_ret (v := .agg #[.bool true, .bool false, .int .u64 0, .int .u64 0, .slice none 0 0]) (by simp [results, Tryz.results22, go_sem, r0, r1, r2, r3, r4]) rfl ⟨rfl, (by (repeat (first | with_reducible assumption | with_reducible refine li_set1 ?_ (by omega) _ | with_reducible refine sp_new ?_ _)))⟩
set_option maxRecDepth 100000 in
set_option maxHeartbeats 6400000 in
theorem liov (q x : Int) (h : 0 ≤ q) (k1 : ∀ V, Calls Tryz.prog 63 #[.int .i64 0] V fun e w' => e = .returned (.int .u64 x) ∧ Below V.heap.size V w') (w : World) :
  Calls Tryz.prog 22 #[.int .i64 q] w fun e w' => (∃ v, e = .returned (.agg #[.bool false, .bool false, .int .u64 0, .int .u64 0, v]) ∧ TAt w' v [(q, false, x, x)] ∧ Up w.heap.size v) ∧ Below w.heap.size w w' := by
 have h' : ¬ q < 0 := by omega
 go_enter Tryz.func22, Tryz.ntmps22
 go_upto_region 2 with fail
 obtain ⟨W, hW⟩ : ∃ W, (w.alloc (.cells #[.bool false, .bool false, .int .u64 0, .int .u64 0, .slice none 0 0] 31)) = W := ⟨_, rfl⟩
 have r0 : W.cell? ⟨w.heap.size, 0, none⟩ = some (.bool false) := by rw [← hW]; simp [go_sem]
 have r1 : W.cell? ⟨w.heap.size, 1, none⟩ = some (.bool false) := by rw [← hW]; simp [go_sem]
 have r2 : W.cell? ⟨w.heap.size, 2, none⟩ = some (.int .u64 0) := by rw [← hW]; simp [go_sem]
 have r3 : W.cell? ⟨w.heap.size, 3, none⟩ = some (.int .u64 0) := by rw [← hW]; simp [go_sem]
 have r4 : W.cell? ⟨w.heap.size, 4, none⟩ = some (.slice none 0 0) := by rw [← hW]; simp [go_sem]
 have bW : Below w.heap.size w W := by rw [← hW]; exact (sp_new (Below.refl _ _) _)
 have zW : W.heap.size = w.heap.size + 1 := by rw [← hW]; simp
 have fz : ∀ j, W.frozen? ⟨w.heap.size, j, none⟩ = false := by intro j; rw [← hW]; simp [go_sem]
 rw [hW]
 clear hW
 replace zW := Nat.le_of_eq zW.symm
 go_wp2_with (first
  | (go_at_call 63; (with_reducible refine (k1 _).mono ?_); rintro e v2 ⟨rfl, g⟩; replace fz : ∀ j, v2.frozen? ⟨w.heap.size, j, none⟩ = false := fun j => (g.frozen (p := ⟨w.heap.size, j, none⟩) (by first | (simp; done) | (simp; omega))).trans (fz j); replace bW := sp_call bW g; replace zW := Nat.le_trans zW g.size; replace r0 := sO g r0; replace r1 := sO g r1; replace r2 := sO g r2; replace r3 := sO g r3; replace r4 := sO g r4; clear g; have s0 : (v2.alloc (.cells #[.int .i64 q, .bool false, .int .u64 x, .int .u64 x] 99)).cell? ⟨w.heap.size, 0, none⟩ = some (.bool false) := sO (sp_new (Below.refl _ _) _) r0; have s1 : (v2.alloc (.cells #[.int .i64 q, .bool false, .int .u64 x, .int .u64 x] 99)).cell? ⟨w.heap.size, 1, none⟩ = some (.bool false) := sO (sp_new (Below.refl _ _) _) r1; have s2 : (v2.alloc (.cells #[.int .i64 q, .bool false, .int .u64 x, .int .u64 x] 99)).cell? ⟨w.heap.size, 2, none⟩ = some (.int .u64 0) := sO (sp_new (Below.refl _ _) _) r2; have s3 : (v2.alloc (.cells #[.int .i64 q, .bool false, .int .u64 x, .int .u64 x] 99)).cell? ⟨w.heap.size, 3, none⟩ = some (.int .u64 0) := sO (sp_new (Below.refl _ _) _) r3; have s4 : (v2.alloc (.cells #[.int .i64 q, .bool false, .int .u64 x, .int .u64 x] 99)).cell? ⟨w.heap.size, 4, none⟩ = some (.slice none 0 0) := sO (sp_new (Below.refl _ _) _) r4; have sf : ∀ j, (v2.alloc (.cells #[.int .i64 q, .bool false, .int .u64 x, .int .u64 x] 99)).frozen? ⟨w.heap.size, j, none⟩ = false := fun j => ((sp_new (Below.refl _ v2) _).frozen (p := ⟨w.heap.size, j, none⟩) (by first | (simp; done) | (simp; omega))).trans (fz j))
  | fail)
 have hT : TAt (v2.alloc (.cells #[.int .i64 q, .bool false, .int .u64 x, .int .u64 x] 99)) (.slice (some ⟨v2.heap.size, 0, none⟩) 1 1) [(q, false, x, x)] := by
  refine Or.inr ⟨v2.heap.size, 0, 1, rfl, Nat.le_refl _, fun j t hj => ?_⟩
  cases j with
  | zero => simp at hj; subst hj; simp [go_sem]
  | succ j => simp at hj
 have hU : Up v2.heap.size (.slice (some ⟨v2.heap.size, 0, none⟩) 1 1) := fun b o k c e => by cases e; exact Nat.le_refl _
 exact bodyPost_ret (v := .agg #[.bool false, .bool false, .int .u64 0, .int .u64 0, .slice (some ⟨v2.heap.size, 0, none⟩) 1 1]) (by simp [results, Tryz.results22, go_sem, s0, s1, s2, s3, s4]) rfl ⟨⟨_, rfl, (((((hT.set hU (by omega)).set hU (by omega)).set hU (by omega)).set hU (by omega)).set hU (by omega)), hU.le (by omega)⟩, (by (repeat (first | with_reducible assumption | with_reducible refine li_set1 ?_ (by omega) _ | with_reducible refine sp_new ?_ _)))⟩
end Go.Proofs.YteafnkimcidkhaaGreat


namespace Go.Proofs.YteafnkimcidkhaaGreat
open Go.RowKit
set_option linter.unusedVariables false
set_option linter.unusedSimpArgs false
theorem lifld (w : World) : (Instr.field 31 (.agg #[.bool true, .bool false, .int .u64 0, .int .u64 0, .slice none 0 0]) 0).run Tryz.prog w = .ok (.bool true) w := by kernel_rfl
set_option maxRecDepth 100000 in
set_option maxHeartbeats 6400000 in
theorem lilive (X : List (Int × Bool × Int × Int)) (k1 : ∀ V, Calls Tryz.prog 22 #[.int .i64 0] V fun e w' => (∃ v, e = .returned (.agg #[.bool false, .bool false, .int .u64 0, .int .u64 0, v]) ∧ TAt w' v X ∧ Up V.heap.size v) ∧ Below V.heap.size V w')
  (k2 : ∀ V v, TAt V v X → Calls Tryz.prog 31 #[.agg #[.bool false, .bool false, .int .u64 0, .int .u64 0, v], .agg #[.bool false, .bool false, .int .u64 0, .int .u64 0, v]] V fun e w' => (∃ v, e = .returned (.agg #[.bool false, .bool false, .int .u64 0, .int .u64 0, v]) ∧ TAt w' v []) ∧ Below V.heap.size V w')
  (k3 : ∀ V v, TAt V v X → Calls Tryz.prog 24 #[.agg #[.bool false, .bool false, .int .u64 0, .int .u64 0, v]] V fun e w' => e = .returned (.bool true) ∧ Below V.heap.size V w') (k4 : ∀ V, Calls Tryz.prog 20 #[.agg #[.bool true, .int .u64 0, .int .u64 0]] V fun e w' => e = .returned (.agg #[.bool true, .bool false, .int .u64 0, .int .u64 0, .slice none 0 0]) ∧ Below V.heap.size V w') (w : World) :
  Calls Tryz.prog 17 #[] w fun e w' => e = .returned (.bool true) ∧ Below w.heap.size w w' := by
 go_enter Tryz.func17, Tryz.ntmps17
 go_upto_region 2 with (first
  | (go_at_call 22; (with_reducible refine (k1 _).mono ?_); rintro e v1 ⟨⟨v, rfl, hT, hU⟩, g1⟩; obtain ⟨p1, c1, rfl⟩ := hT.len)
  | fail)
 obtain ⟨W, hW⟩ : ∃ W, v1.alloc (.cells #[.bool false, .bool false, .int .u64 0, .int .u64 0, .slice p1 X.length c1] 31) = W := ⟨_, rfl⟩
 have gW : Below v1.heap.size v1 W := by rw [← hW]; exact sp_new (Below.refl _ _) _
 have x0 : W.cell? ⟨v1.heap.size, 0, none⟩ = some (.bool false) := by rw [← hW]; simp [go_sem]
 have x1 : W.cell? ⟨v1.heap.size, 1, none⟩ = some (.bool false) := by rw [← hW]; simp [go_sem]
 have x2 : W.cell? ⟨v1.heap.size, 2, none⟩ = some (.int .u64 0) := by rw [← hW]; simp [go_sem]
 have x3 : W.cell? ⟨v1.heap.size, 3, none⟩ = some (.int .u64 0) := by rw [← hW]; simp [go_sem]
 have x4 : W.cell? ⟨v1.heap.size, 4, none⟩ = some (.slice p1 X.length c1) := by rw [← hW]; simp [go_sem]
 have bW := sp_call g1 gW
 replace hT := hT.on gW
 rw [hW]
 clear hW
 go_upto_region 3 with (first
  | (go_at_call 31; (with_reducible refine (k2 _ _ hT).mono ?_); rintro e v2 ⟨⟨v, rfl, hT2⟩, g2⟩; obtain ⟨p2, c2, rfl⟩ := hT2.len)
  | fail)
 obtain ⟨Y, hY⟩ : ∃ Y, v2.alloc (.cells #[.bool false, .bool false, .int .u64 0, .int .u64 0, .slice p2 0 c2] 31) = Y := ⟨_, rfl⟩
 have gY : Below W.heap.size W Y := by rw [← hY]; exact sp_new g2 _
 have y0 : Y.cell? ⟨v2.heap.size, 0, none⟩ = some (.bool false) := by rw [← hY]; simp [go_sem]
 have y1 : Y.cell? ⟨v2.heap.size, 1, none⟩ = some (.bool false) := by rw [← hY]; simp [go_sem]
 have y2 : Y.cell? ⟨v2.heap.size, 2, none⟩ = some (.int .u64 0) := by rw [← hY]; simp [go_sem]
 have y3 : Y.cell? ⟨v2.heap.size, 3, none⟩ = some (.int .u64 0) := by rw [← hY]; simp [go_sem]
 have y4 : Y.cell? ⟨v2.heap.size, 4, none⟩ = some (.slice p2 0 c2) := by rw [← hY]; simp [go_sem]
 replace hT := hT.on gY
 replace x0 := sO gY x0
 replace x1 := sO gY x1
 replace x2 := sO gY x2
 replace x3 := sO gY x3
 replace x4 := sO gY x4
 replace bW := sp_call bW gY
 rw [hY]
 clear hY gY
 have hi0 := lifld
 go_wp2_with (first
  | (go_at_call 24; (with_reducible refine (k3 _ _ hT).mono ?_); rintro e v3 ⟨rfl, g3⟩)
  | (go_at_call 20; (with_reducible refine (k4 _).mono ?_); rintro e v4 ⟨rfl, g4⟩)
  | fail)
 go_ret
 exact ⟨rfl, sp_call (sp_call bW g3) g4⟩
end Go.Proofs.YteafnkimcidkhaaGreat


namespace Go.Proofs.YteafnkimcidkhaaGreat
open Go.RowKit
set_option linter.unusedVariables false
set_option linter.unusedSimpArgs false
set_option maxRecDepth 100000 in
set_option maxHeartbeats 6400000 in
theorem lisame (wa ae : Bool) (al ah : Int) (pa pb : Option Addr) (na ca nb cb : Nat) (q : Bool) (ok : World → Prop) (hok : ∀ W V, ok W → Below W.heap.size W V → ok V)
  (k1 : ∀ V, ok V → Calls Tryz.prog 24 #[.agg #[.bool wa, .bool ae, .int .u64 al, .int .u64 ah, .slice pa na ca]] V fun e w' => e = .returned (.bool true) ∧ Below V.heap.size V w') (k2 : ∀ V, ok V → Calls Tryz.prog 24 #[.agg #[.bool wa, .bool ae, .int .u64 al, .int .u64 ah, .slice pb nb cb]] V fun e w' => e = .returned (.bool true) ∧ Below V.heap.size V w')
  (k3 : ∀ V, ok V → Calls Tryz.prog 66 #[.slice pa na ca, .slice pb nb cb] V fun e w' => e = .returned (.bool q) ∧ Below V.heap.size V w') (w : World) (h0 : ok w) :
  Calls Tryz.prog 27 #[.agg #[.bool wa, .bool ae, .int .u64 al, .int .u64 ah, .slice pa na ca], .agg #[.bool wa, .bool ae, .int .u64 al, .int .u64 ah, .slice pb nb cb]] w fun e w' => e = .returned (.bool q) ∧ Below w.heap.size w w' := by
 go_enter Tryz.func27, Tryz.ntmps27
 go_upto_region 1 with fail
 obtain ⟨W, hW⟩ : ∃ W, ((w.alloc (.cells #[.bool wa, .bool ae, .int .u64 al, .int .u64 ah, .slice pa na ca] 31)).alloc (.cells #[.bool wa, .bool ae, .int .u64 al, .int .u64 ah, .slice pb nb cb] 31)) = W := ⟨_, rfl⟩
 have a0 : W.cell? ⟨w.heap.size, 0, none⟩ = some (.bool wa) := by rw [← hW]; simp [go_sem]
 have a1 : W.cell? ⟨w.heap.size, 1, none⟩ = some (.bool ae) := by rw [← hW]; simp [go_sem]
 have a2 : W.cell? ⟨w.heap.size, 2, none⟩ = some (.int .u64 al) := by rw [← hW]; simp [go_sem]
 have a3 : W.cell? ⟨w.heap.size, 3, none⟩ = some (.int .u64 ah) := by rw [← hW]; simp [go_sem]
 have a4 : W.cell? ⟨w.heap.size, 4, none⟩ = some (.slice pa na ca) := by rw [← hW]; simp [go_sem]
 have b0 : W.cell? ⟨w.heap.size + 1, 0, none⟩ = some (.bool wa) := by rw [← hW]; simp [go_sem]
 have b1 : W.cell? ⟨w.heap.size + 1, 1, none⟩ = some (.bool ae) := by rw [← hW]; simp [go_sem]
 have b2 : W.cell? ⟨w.heap.size + 1, 2, none⟩ = some (.int .u64 al) := by rw [← hW]; simp [go_sem]
 have b3 : W.cell? ⟨w.heap.size + 1, 3, none⟩ = some (.int .u64 ah) := by rw [← hW]; simp [go_sem]
 have b4 : W.cell? ⟨w.heap.size + 1, 4, none⟩ = some (.slice pb nb cb) := by rw [← hW]; simp [go_sem]
 have bW : Below w.heap.size w W := by rw [← hW]; exact (sp_new (sp_new (Below.refl _ _) _) _)
 have zW : W.heap.size = w.heap.size + 2 := by rw [← hW]; simp
 rw [hW]
 clear hW
 replace zW := Nat.le_of_eq zW.symm
 have oW := hok _ _ h0 bW
 go_wp2_with (first
  | (go_at_call 24; (with_reducible refine (k1 _ oW).mono ?_); rintro e v1 ⟨rfl, g⟩; replace oW := hok _ _ oW g; replace bW := sp_call bW g; replace zW := Nat.le_trans zW g.size; replace a0 := sO g a0; replace a1 := sO g a1; replace a2 := sO g a2; replace a3 := sO g a3; replace a4 := sO g a4; replace b0 := sO g b0; replace b1 := sO g b1; replace b2 := sO g b2; replace b3 := sO g b3; replace b4 := sO g b4; clear g)
  | (go_at_call 24; (with_reducible refine (k2 _ oW).mono ?_); rintro e v2 ⟨rfl, g⟩; replace oW := hok _ _ oW g; replace bW := sp_call bW g; replace zW := Nat.le_trans zW g.size; replace a0 := sO g a0; replace a1 := sO g a1; replace a2 := sO g a2; replace a3 := sO g a3; replace a4 := sO g a4; replace b0 := sO g b0; replace b1 := sO g b1; replace b2 := sO g b2; replace b3 := sO g b3; replace b4 := sO g b4; clear g)
  | (go_at_call 66; (with_reducible refine (k3 _ oW).mono ?_); rintro e v3 ⟨rfl, g⟩; replace oW := hok _ _ oW g; replace bW := sp_call bW g; replace zW := Nat.le_trans zW g.size; replace a0 := sO g a0; replace a1 := sO g a1; replace a2 := sO g a2; replace a3 := sO g a3; replace a4 := sO g a4; replace b0 := sO g b0; replace b1 := sO g b1; replace b2 := sO g b2; replace b3 := sO g b3; replace b4 := sO g b4; clear g)
  | fail)
 go_ret
 exact ⟨by simp, bW⟩
end Go.Proofs.YteafnkimcidkhaaGreat


namespace Go.Proofs.YteafnkimcidkhaaGreat
open Go.RowKit
set_option linter.unusedVariables false
set_option linter.unusedSimpArgs false
set_option maxRecDepth 100000 in
theorem neq_term (a : Int) (b : Bool) (c d e : Int) (f : Bool) (g h : Int) (w : World) : (binOp .neq 99 (.agg #[.int .i64 a, .bool b, .int .u64 c, .int .u64 d]) (.agg #[.int .i64 e, .bool f, .int .u64 g, .int .u64 h])).run Tryz.prog w = .ok (.bool (!decide ((a, b, c, d) = (e, f, g, h)))) w := by
 by_cases h1 : a = e
 ·by_cases h2 : b = f
  ·by_cases h3 : c = g
   ·by_cases h4 : d = h
    ·subst h1; subst h2; subst h3; subst h4; simp [go_sem]
    ·simp [go_sem, h1, h2, h3, h4]
   ·simp [go_sem, h1, h2, h3]
  ·simp [go_sem, h1, h2]
 ·simp [go_sem, h1]
set_option maxRecDepth 100000 in
set_option maxHeartbeats 6400000 in
theorem lieq (az bz : List (Int × Bool × Int × Int)) (hn : az.length ≤ 1000) (hm : bz.length ≤ 1000) (va vb : Value) (w : World) (ta : TAt w va az) (tb : TAt w vb bz) :
  Calls Tryz.prog 66 #[va, vb] w fun e w' => e = .returned (.bool (decide (az = bz))) ∧ Below w.heap.size w w' := by
 by_cases hl : az.length = bz.length
 ·rcases ta with ⟨rfl, rfl⟩ | ⟨p, o, cap, rfl, hcap, ht⟩
  ·obtain ⟨pb, cb, rfl⟩ := tb.len
   have : bz = [] := by simpa using hl.symm
   subst this
   go_enter Tryz.func66, Tryz.ntmps66
   go_wp2_with fail
   refine wp_loop_rounds 1 ?_
   rw [rounds_succ]
   go_wp2_with fail
   go_ret
   exact ⟨rfl, Below.refl _ _⟩
  ·rcases tb with ⟨rfl, rfl⟩ | ⟨p', o', cap', rfl, hcap', ht'⟩
   ·have : az = [] := by simpa using hl
    subst this
    go_enter Tryz.func66, Tryz.ntmps66
    go_wp2_with fail
    refine wp_loop_rounds 1 ?_
    rw [rounds_succ]
    go_wp2_with fail
    go_ret
    exact ⟨rfl, Below.refl _ _⟩
   ·obtain ⟨R, HR⟩ : ∃ R, Hid (decide (az = bz) = R) := ⟨_, rfl⟩
    rw [HR.out]
    rw [← hl]
    have hl' : ¬ (az.length : Int) ≠ (az.length : Int) := by simp
    go_enter Tryz.func66, Tryz.ntmps66
    go_wp2_with fail
    go_loopw [13] (fun i wr => ∃ (WR : World) (j : Nat), WR = wr ∧ j ≤ az.length ∧ i = .int .i64 j ∧ Hid (decide (az.drop j = bz.drop j) = R) ∧ Below w.heap.size w wr) (fun i _ => az.length - (intOf i).toNat)
    case atStart => exact ⟨_, 0, rfl, by omega, rfl, HR, Below.refl _ _⟩
    case round =>
     obtain ⟨WR, j, rfl, hj, rfl, hr, cc⟩ := hrel
     clear HR
     by_cases cj : j < az.length
     ·have ci : (j : Int) < (az.length : Int) := by omega
      obtain ⟨t, et⟩ : ∃ t, az[j]? = some t := ⟨_, List.getElem?_eq_getElem cj⟩
      obtain ⟨u, eu⟩ : ∃ u, bz[j]? = some u := ⟨_, List.getElem?_eq_getElem (by omega)⟩
      obtain ⟨c0, c1, c2, c3⟩ := ht j t et
      obtain ⟨d0, d1, d2, d3⟩ := ht' j u eu
      replace c0 := sO cc c0
      replace c1 := sO cc c1
      replace c2 := sO cc c2
      replace c3 := sO cc c3
      replace d0 := sO cc d0
      replace d1 := sO cc d1
      replace d2 := sO cc d2
      replace d3 := sO cc d3
      have dr : ∀ (zs : List (Int × Bool × Int × Int)) (x : Int × Bool × Int × Int), zs[j]? = some x → zs.drop j = x :: zs.drop (j + 1) := fun zs x ex => by
       obtain ⟨hj', e1⟩ := List.getElem?_eq_some_iff.1 ex
       rw [List.drop_eq_getElem_cons hj', e1]
      have hr2 := hr.out
      rw [dr az t et, dr bz u eu] at hr2
      clear hr dr et eu ht ht'
      obtain ⟨tv, te, tl, th⟩ := t
      obtain ⟨uv, ue, ul, uh⟩ := u
      have hq := neq_term tv te tl th uv ue ul uh
      have mj : (j : Int) < (bz.length : Int) := by omega
      dsimp only at *
      by_cases htu : (tv, te, tl, th) = (uv, ue, ul, uh)
      ·rw [decide_eq_true htu] at hq
       have HR : Hid (decide (az.drop (j + 1) = bz.drop (j + 1)) = R) := by rw [← hr2, htu]; simp [Hid]
       clear hr2 htu
       go_upto_region 6 with fail
       go_quiet (fail)
       go_wp2_with fail
       go_roundw
       case rel => exact ⟨_, j + 1, rfl, by omega, by go_num, HR, ⟨cc.os, cc.tape, cc.output, cc.size, cc.block⟩⟩
       case measure => simp [intOf]; omega
      ·rw [decide_eq_false htu] at hq
       have hR : R = false := by rw [← hr2]; simp [htu]
       clear hr2 htu
       subst hR
       go_upto_region 6 with fail
       go_quiet (fail)
       go_wp2_with fail
       go_ret
       exact ⟨rfl, ⟨cc.os, cc.tape, cc.output, cc.size, cc.block⟩⟩
     ·have ej : j = az.length := by omega
      subst ej
      have hR : true = R := by
       have := hr.out
       rw [List.drop_length, hl, List.drop_length] at this
       simpa using this
      subst hR
      clear hr
      go_wp2_with fail
      go_ret
      exact ⟨rfl, cc⟩
 ·have hl' : (az.length : Int) ≠ (bz.length : Int) := by omega
  have hne : ¬ az = bz := fun q => hl (by rw [q])
  rw [decide_eq_false hne]
  obtain ⟨pa, ca, rfl⟩ := ta.len
  obtain ⟨pb, cb, rfl⟩ := tb.len
  clear hne
  go_enter Tryz.func66, Tryz.ntmps66
  go_wp2_with fail
  go_ret
  exact ⟨rfl, Below.refl _ _⟩
theorem lw_at {W : World} {b : Nat} {t : TypeId} {z : Nat × Nat} {c : Array Value} (q : W.heap[b]? = some (.cells c t z)) (j : Nat) (v : Value) : (W.setCell ⟨b, j, none⟩ v).heap[b]? = some (.cells (c.setIfInBounds j v) t z) := by
 simp [World.setCell, Array.getElem?_modify, q]
theorem lw_off {W : World} {b c : Nat} (j : Nat) (v : Value) (h : b ≠ c) : (W.setCell ⟨b, j, none⟩ v).heap[c]? = W.heap[c]? := by
 simp [World.setCell, Array.getElem?_modify, h]
def set5 (W : World) (b : Nat) (x0 x1 x2 x3 x4 : Value) : World := ((((W.setCell ⟨b, 0, none⟩ x0).setCell ⟨b, 1, none⟩ x1).setCell ⟨b, 2, none⟩ x2).setCell ⟨b, 3, none⟩ x3).setCell ⟨b, 4, none⟩ x4
theorem lw_set5 {W : World} {b : Nat} {t : TypeId} {z : Nat × Nat} {y0 y1 y2 y3 y4 : Value} (q : W.heap[b]? = some (.cells #[y0, y1, y2, y3, y4] t z)) (x0 x1 x2 x3 x4 : Value) : (set5 W b x0 x1 x2 x3 x4).heap[b]? = some (.cells #[x0, x1, x2, x3, x4] t z) := by
 have h := (lw_at (lw_at (lw_at (lw_at (lw_at q 0 x0) 1 x1) 2 x2) 3 x3) 4 x4)
 simpa [set5] using h
theorem lw_far5 {W : World} {b c : Nat} {o : Obj} (q : W.heap[c]? = some o) (x0 x1 x2 x3 x4 : Value) (h : b ≠ c) : (set5 W b x0 x1 x2 x3 x4).heap[c]? = some o := by
 rw [set5, lw_off _ _ h, lw_off _ _ h, lw_off _ _ h, lw_off _ _ h, lw_off _ _ h, q]
theorem lw_old {W : World} {c : Nat} {o : Obj} (q : W.heap[c]? = some o) (o' : Obj) : (W.alloc o').heap[c]? = some o := (Below.heap_alloc W o' c (Array.getElem?_eq_some_iff.1 q).1).trans q
theorem lw_lt {W : World} {c : Nat} {o : Obj} (q : W.heap[c]? = some o) : c < W.heap.size := (Array.getElem?_eq_some_iff.1 q).1
theorem lw_on {X v : World} {b : Nat} {o : Obj} (g : Below X.heap.size X v) (q : X.heap[b]? = some o) : v.heap[b]? = some o := (g.block b (Array.getElem?_eq_some_iff.1 q).1).trans q
theorem lw_cells5 {v : World} {b : Nat} {t : TypeId} {x0 x1 x2 x3 x4 : Value} (q : v.heap[b]? = some (.cells #[x0, x1, x2, x3, x4] t (0, 0))) : v.cell? ⟨b, 0, none⟩ = some x0 ∧ v.cell? ⟨b, 1, none⟩ = some x1 ∧ v.cell? ⟨b, 2, none⟩ = some x2 ∧ v.cell? ⟨b, 3, none⟩ = some x3 ∧ v.cell? ⟨b, 4, none⟩ = some x4 ∧ ∀ j, v.frozen? ⟨b, j, none⟩ = false :=
 ⟨by simp [World.cell?, q], by simp [World.cell?, q], by simp [World.cell?, q], by simp [World.cell?, q], by simp [World.cell?, q], fun j => by simp [World.frozen?, q]⟩
theorem lw_sp5 {w W : World} (h : Below w.heap.size w W) {b : Nat} (hb : w.heap.size ≤ b) (x0 x1 x2 x3 x4 : Value) : Below w.heap.size w (set5 W b x0 x1 x2 x3 x4) :=
 ((((h.setCell (p := ⟨b, 0, none⟩) hb x0).setCell (p := ⟨b, 1, none⟩) hb x1).setCell (p := ⟨b, 2, none⟩) hb x2).setCell (p := ⟨b, 3, none⟩) hb x3).setCell (p := ⟨b, 4, none⟩) hb x4
def Far (b : Nat) (v : Value) : Prop := ∀ bb o k c, v = .slice (some ⟨bb, o, none⟩) k c → k ≠ 0 → bb ≠ b
theorem TAt.far1 {b j : Nat} {V : World} {v x : Value} {ls : List (Int × Bool × Int × Int)} (h : TAt V v ls) (hf : Far b v) : TAt (V.setCell ⟨b, j, none⟩ x) v ls := by
 rcases h with h | ⟨bb, o, cap, rfl, hc, h⟩
 ·exact Or.inl h
 ·refine Or.inr ⟨bb, o, cap, rfl, hc, fun i t hi => ?_⟩
  have hl : ls.length ≠ 0 := by
   obtain ⟨hi', _⟩ := List.getElem?_eq_some_iff.1 hi
   omega
  have hb := hf bb o _ _ rfl hl
  obtain ⟨h0, h1, h2, h3⟩ := h i t hi
  exact ⟨sp_keep1 h0 hb x, sp_keep1 h1 hb x, sp_keep1 h2 hb x, sp_keep1 h3 hb x⟩
theorem TAt.far5 {b : Nat} {V : World} {v : Value} {ls : List (Int × Bool × Int × Int)} (h : TAt V v ls) (hf : Far b v) (x0 x1 x2 x3 x4 : Value) : TAt (set5 V b x0 x1 x2 x3 x4) v ls :=
 ((((h.far1 hf).far1 hf).far1 hf).far1 hf).far1 hf
theorem far_new {V : World} {v : Value} {ls : List (Int × Bool × Int × Int)} (h : TAt V v ls) : Far V.heap.size v := by
 rcases h with ⟨rfl, rfl⟩ | ⟨bb, o, cap, rfl, hc, h⟩
 ·intro b o k c e
  cases e
 ·intro b o' k c e hk
  cases e
  cases ls with
  | nil => simp at hk
  | cons t ts => exact Nat.ne_of_lt (World.block_lt_of_cell? V _ (h 0 t rfl).1)
theorem far_up {n b : Nat} {v : Value} (h : Up n v) (hb : b < n) : Far b v := fun bb o k c e _ => by have := h bb o k c e; omega
end Go.Proofs.YteafnkimcidkhaaGreat


