/- linear.Neg, Sub, OfVar. -/
import Derived.Test.YteafnkimcidkhaaGreatRLiJ
namespace Go.Proofs.YteafnkimcidkhaaGreat
open Go.RowKit
set_option linter.unusedVariables false
set_option linter.unusedSimpArgs false
set_option maxRecDepth 100000 in
set_option maxHeartbeats 6400000 in
theorem lineg (wa ae : Bool) (al ah : Int) (va : Value) (hva : ∃ o n c, va = .slice o n c) (ok : World → Prop) (hok : ∀ W V, ok W → Below W.heap.size W V → ok V) (Q : Bool → Bool → Int → Int → Prop) (L : Bool → Bool → Int → Int → List (Int × Bool × Int × Int) → Prop)
  (k1 : ∀ V, ok V → Calls Tryz.prog 67 #[.agg #[.bool wa, .bool ae, .int .u64 al, .int .u64 ah, va], .agg #[.bool false, .bool false, .int .u64 0, .int .u64 0, .slice none 0 0], .func (.func 70) #[] #[]] V fun e w' => (∃ (rw re : Bool) (rl rh : Int) (rv : Value), e = .returned (.agg #[.bool rw, .bool re, .int .u64 rl, .int .u64 rh, rv]) ∧ Q rw re rl rh ∧ ∃ ls, L rw re rl rh ls ∧ TAt w' rv ls ∧ Up V.heap.size rv) ∧ Below V.heap.size V w') (w : World) (h0 : ok w) :
  Calls Tryz.prog 33 #[.agg #[.bool wa, .bool ae, .int .u64 al, .int .u64 ah, va]] w fun e w' => (∃ (rw re : Bool) (rl rh : Int) (rv : Value), e = .returned (.agg #[.bool rw, .bool re, .int .u64 rl, .int .u64 rh, rv]) ∧ Q rw re rl rh ∧ ∃ ls, L rw re rl rh ls ∧ TAt w' rv ls ∧ Up w.heap.size rv) ∧ Below w.heap.size w w' := by
 obtain ⟨pa, na, ca, rfl⟩ := hva
 go_enter Tryz.func33, Tryz.ntmps33
 go_upto_region 1 with fail
 obtain ⟨W, hW⟩ : ∃ W, ((w.alloc (.cells #[.bool wa, .bool ae, .int .u64 al, .int .u64 ah, .slice pa na ca] 31)).alloc (.cells #[.bool false, .bool false, .int .u64 0, .int .u64 0, .slice none 0 0] 31)) = W := ⟨_, rfl⟩
 have a0 : W.cell? ⟨w.heap.size, 0, none⟩ = some (.bool wa) := by rw [← hW]; simp [go_sem]
 have a1 : W.cell? ⟨w.heap.size, 1, none⟩ = some (.bool ae) := by rw [← hW]; simp [go_sem]
 have a2 : W.cell? ⟨w.heap.size, 2, none⟩ = some (.int .u64 al) := by rw [← hW]; simp [go_sem]
 have a3 : W.cell? ⟨w.heap.size, 3, none⟩ = some (.int .u64 ah) := by rw [← hW]; simp [go_sem]
 have a4 : W.cell? ⟨w.heap.size, 4, none⟩ = some (.slice pa na ca) := by rw [← hW]; simp [go_sem]
 have r0 : W.cell? ⟨w.heap.size + 1, 0, none⟩ = some (.bool false) := by rw [← hW]; simp [go_sem]
 have r1 : W.cell? ⟨w.heap.size + 1, 1, none⟩ = some (.bool false) := by rw [← hW]; simp [go_sem]
 have r2 : W.cell? ⟨w.heap.size + 1, 2, none⟩ = some (.int .u64 0) := by rw [← hW]; simp [go_sem]
 have r3 : W.cell? ⟨w.heap.size + 1, 3, none⟩ = some (.int .u64 0) := by rw [← hW]; simp [go_sem]
 have r4 : W.cell? ⟨w.heap.size + 1, 4, none⟩ = some (.slice none 0 0) := by rw [← hW]; simp [go_sem]
 have bW : Below w.heap.size w W := by rw [← hW]; exact (sp_new (sp_new (Below.refl _ _) _) _)
 have zW : W.heap.size = w.heap.size + 2 := by rw [← hW]; simp
 have fz : ∀ j, W.frozen? ⟨w.heap.size + 1, j, none⟩ = false := by intro j; rw [← hW]; simp [go_sem]
 rw [hW]
 clear hW
 replace zW := Nat.le_of_eq zW.symm
 have oW := hok _ _ h0 bW
 have zW0 := zW
 go_wp2_with (first
  | (go_at_call 67; (with_reducible refine (k1 _ oW).mono ?_); rintro e v1 ⟨⟨rw', re, rl, rh, rv, rfl, hQ, ls, hL, hT, hU⟩, g⟩; obtain ⟨pr, cr, rfl⟩ := hT.len; replace fz : ∀ j, v1.frozen? ⟨w.heap.size + 1, j, none⟩ = false := fun j => (g.frozen (p := ⟨w.heap.size + 1, j, none⟩) (by first | (simp; done) | (simp; omega))).trans (fz j); replace bW := sp_call bW g; replace zW := Nat.le_trans zW g.size; replace a0 := sO g a0; replace a1 := sO g a1; replace a2 := sO g a2; replace a3 := sO g a3; replace a4 := sO g a4; replace r0 := sO g r0; replace r1 := sO g r1; replace r2 := sO g r2; replace r3 := sO g r3; replace r4 := sO g r4)
  | fail)
 exact bodyPost_ret (v := .agg #[.bool rw', .bool re, .int .u64 rl, .int .u64 rh, .slice pr ls.length cr]) (by simp [results, Tryz.results33, go_sem, r0, r1, r2, r3, r4]) rfl ⟨⟨rw', re, rl, rh, _, rfl, hQ, ls, hL, (((((hT.set hU (by omega)).set hU (by omega)).set hU (by omega)).set hU (by omega)).set hU (by omega)), hU.le (by omega)⟩, (by (repeat (first | with_reducible assumption | with_reducible refine li_set1 ?_ (by omega) _ | with_reducible refine sp_new ?_ _)))⟩
set_option maxRecDepth 100000 in
set_option maxHeartbeats 6400000 in
theorem lisub (wa ae : Bool) (al ah : Int) (va : Value) (wb be : Bool) (bl bh : Int) (vb : Value) (hva : ∃ o n c, va = .slice o n c) (hvb : ∃ o n c, vb = .slice o n c) (ok : World → Prop) (hok : ∀ W V, ok W → Below W.heap.size W V → ok V) (Q : Bool → Bool → Int → Int → Prop) (L : Bool → Bool → Int → Int → List (Int × Bool × Int × Int) → Prop) (Q1 : Bool → Bool → Int → Int → Prop) (L1 : Bool → Bool → Int → Int → List (Int × Bool × Int × Int) → Prop)
  (k1 : ∀ V, ok V → Calls Tryz.prog 33 #[.agg #[.bool wb, .bool be, .int .u64 bl, .int .u64 bh, vb]] V fun e w' => (∃ (rw re : Bool) (rl rh : Int) (rv : Value), e = .returned (.agg #[.bool rw, .bool re, .int .u64 rl, .int .u64 rh, rv]) ∧ Q1 rw re rl rh ∧ ∃ ls, L1 rw re rl rh ls ∧ TAt w' rv ls ∧ Up V.heap.size rv) ∧ Below V.heap.size V w')
  (k2 : ∀ V nw ne nl nh nv ms, ok V → Q1 nw ne nl nh → L1 nw ne nl nh ms → TAt V nv ms → Calls Tryz.prog 29 #[.agg #[.bool wa, .bool ae, .int .u64 al, .int .u64 ah, va], .agg #[.bool nw, .bool ne, .int .u64 nl, .int .u64 nh, nv]] V fun e w' => (∃ (rw re : Bool) (rl rh : Int) (rv : Value), e = .returned (.agg #[.bool rw, .bool re, .int .u64 rl, .int .u64 rh, rv]) ∧ Q rw re rl rh ∧ ∃ ls, L rw re rl rh ls ∧ TAt w' rv ls ∧ Up V.heap.size rv) ∧ Below V.heap.size V w') (w : World) (h0 : ok w) :
  Calls Tryz.prog 31 #[.agg #[.bool wa, .bool ae, .int .u64 al, .int .u64 ah, va], .agg #[.bool wb, .bool be, .int .u64 bl, .int .u64 bh, vb]] w fun e w' => (∃ (rw re : Bool) (rl rh : Int) (rv : Value), e = .returned (.agg #[.bool rw, .bool re, .int .u64 rl, .int .u64 rh, rv]) ∧ Q rw re rl rh ∧ ∃ ls, L rw re rl rh ls ∧ TAt w' rv ls ∧ Up w.heap.size rv) ∧ Below w.heap.size w w' := by
 obtain ⟨pa, na, ca, rfl⟩ := hva
 obtain ⟨pb, nb, cb, rfl⟩ := hvb
 go_enter Tryz.func31, Tryz.ntmps31
 go_upto_region 1 with fail
 obtain ⟨W, hW⟩ : ∃ W, (((w.alloc (.cells #[.bool wa, .bool ae, .int .u64 al, .int .u64 ah, .slice pa na ca] 31)).alloc (.cells #[.bool wb, .bool be, .int .u64 bl, .int .u64 bh, .slice pb nb cb] 31)).alloc (.cells #[.bool false, .bool false, .int .u64 0, .int .u64 0, .slice none 0 0] 31)) = W := ⟨_, rfl⟩
 have a0 : W.cell? ⟨w.heap.size, 0, none⟩ = some (.bool wa) := by rw [← hW]; simp [go_sem]
 have a1 : W.cell? ⟨w.heap.size, 1, none⟩ = some (.bool ae) := by rw [← hW]; simp [go_sem]
 have a2 : W.cell? ⟨w.heap.size, 2, none⟩ = some (.int .u64 al) := by rw [← hW]; simp [go_sem]
 have a3 : W.cell? ⟨w.heap.size, 3, none⟩ = some (.int .u64 ah) := by rw [← hW]; simp [go_sem]
 have a4 : W.cell? ⟨w.heap.size, 4, none⟩ = some (.slice pa na ca) := by rw [← hW]; simp [go_sem]
 have b0 : W.cell? ⟨w.heap.size + 1, 0, none⟩ = some (.bool wb) := by rw [← hW]; simp [go_sem]
 have b1 : W.cell? ⟨w.heap.size + 1, 1, none⟩ = some (.bool be) := by rw [← hW]; simp [go_sem]
 have b2 : W.cell? ⟨w.heap.size + 1, 2, none⟩ = some (.int .u64 bl) := by rw [← hW]; simp [go_sem]
 have b3 : W.cell? ⟨w.heap.size + 1, 3, none⟩ = some (.int .u64 bh) := by rw [← hW]; simp [go_sem]
 have b4 : W.cell? ⟨w.heap.size + 1, 4, none⟩ = some (.slice pb nb cb) := by rw [← hW]; simp [go_sem]
 have r0 : W.cell? ⟨w.heap.size + 1 + 1, 0, none⟩ = some (.bool false) := by rw [← hW]; simp [go_sem]
 have r1 : W.cell? ⟨w.heap.size + 1 + 1, 1, none⟩ = some (.bool false) := by rw [← hW]; simp [go_sem]
 have r2 : W.cell? ⟨w.heap.size + 1 + 1, 2, none⟩ = some (.int .u64 0) := by rw [← hW]; simp [go_sem]
 have r3 : W.cell? ⟨w.heap.size + 1 + 1, 3, none⟩ = some (.int .u64 0) := by rw [← hW]; simp [go_sem]
 have r4 : W.cell? ⟨w.heap.size + 1 + 1, 4, none⟩ = some (.slice none 0 0) := by rw [← hW]; simp [go_sem]
 have bW : Below w.heap.size w W := by rw [← hW]; exact (sp_new (sp_new (sp_new (Below.refl _ _) _) _) _)
 have zW : W.heap.size = w.heap.size + 3 := by rw [← hW]; simp
 have fz : ∀ j, W.frozen? ⟨w.heap.size + 1 + 1, j, none⟩ = false := by intro j; rw [← hW]; simp [go_sem]
 rw [hW]
 clear hW
 replace zW := Nat.le_of_eq zW.symm
 have oW := hok _ _ h0 bW
 have cc : Below W.heap.size W W := Below.refl _ _
 have hall : ∀ X9, Below W.heap.size W X9 → (X9.cell? ⟨w.heap.size, 0, none⟩ = some (.bool wa) ∧ X9.cell? ⟨w.heap.size, 1, none⟩ = some (.bool ae) ∧ X9.cell? ⟨w.heap.size, 2, none⟩ = some (.int .u64 al) ∧ X9.cell? ⟨w.heap.size, 3, none⟩ = some (.int .u64 ah) ∧ X9.cell? ⟨w.heap.size, 4, none⟩ = some (.slice pa na ca) ∧ X9.cell? ⟨w.heap.size + 1, 0, none⟩ = some (.bool wb) ∧ X9.cell? ⟨w.heap.size + 1, 1, none⟩ = some (.bool be) ∧ X9.cell? ⟨w.heap.size + 1, 2, none⟩ = some (.int .u64 bl) ∧ X9.cell? ⟨w.heap.size + 1, 3, none⟩ = some (.int .u64 bh) ∧ X9.cell? ⟨w.heap.size + 1, 4, none⟩ = some (.slice pb nb cb)) := fun X9 cc => ⟨sO cc a0, sO cc a1, sO cc a2, sO cc a3, sO cc a4, sO cc b0, sO cc b1, sO cc b2, sO cc b3, sO cc b4⟩
 have hst : ∀ X9 x0 x1 x2 x3 x4, Below W.heap.size W X9 → ((((((X9.setCell ⟨w.heap.size + 1 + 1, 0, none⟩ x0).setCell ⟨w.heap.size + 1 + 1, 1, none⟩ x1).setCell ⟨w.heap.size + 1 + 1, 2, none⟩ x2).setCell ⟨w.heap.size + 1 + 1, 3, none⟩ x3).setCell ⟨w.heap.size + 1 + 1, 4, none⟩ x4).cell? ⟨w.heap.size, 0, none⟩ = some (.bool wa) ∧ (((((X9.setCell ⟨w.heap.size + 1 + 1, 0, none⟩ x0).setCell ⟨w.heap.size + 1 + 1, 1, none⟩ x1).setCell ⟨w.heap.size + 1 + 1, 2, none⟩ x2).setCell ⟨w.heap.size + 1 + 1, 3, none⟩ x3).setCell ⟨w.heap.size + 1 + 1, 4, none⟩ x4).cell? ⟨w.heap.size, 1, none⟩ = some (.bool ae) ∧ (((((X9.setCell ⟨w.heap.size + 1 + 1, 0, none⟩ x0).setCell ⟨w.heap.size + 1 + 1, 1, none⟩ x1).setCell ⟨w.heap.size + 1 + 1, 2, none⟩ x2).setCell ⟨w.heap.size + 1 + 1, 3, none⟩ x3).setCell ⟨w.heap.size + 1 + 1, 4, none⟩ x4).cell? ⟨w.heap.size, 2, none⟩ = some (.int .u64 al) ∧ (((((X9.setCell ⟨w.heap.size + 1 + 1, 0, none⟩ x0).setCell ⟨w.heap.size + 1 + 1, 1, none⟩ x1).setCell ⟨w.heap.size + 1 + 1, 2, none⟩ x2).setCell ⟨w.heap.size + 1 + 1, 3, none⟩ x3).setCell ⟨w.heap.size + 1 + 1, 4, none⟩ x4).cell? ⟨w.heap.size, 3, none⟩ = some (.int .u64 ah) ∧ (((((X9.setCell ⟨w.heap.size + 1 + 1, 0, none⟩ x0).setCell ⟨w.heap.size + 1 + 1, 1, none⟩ x1).setCell ⟨w.heap.size + 1 + 1, 2, none⟩ x2).setCell ⟨w.heap.size + 1 + 1, 3, none⟩ x3).setCell ⟨w.heap.size + 1 + 1, 4, none⟩ x4).cell? ⟨w.heap.size, 4, none⟩ = some (.slice pa na ca) ∧ (((((X9.setCell ⟨w.heap.size + 1 + 1, 0, none⟩ x0).setCell ⟨w.heap.size + 1 + 1, 1, none⟩ x1).setCell ⟨w.heap.size + 1 + 1, 2, none⟩ x2).setCell ⟨w.heap.size + 1 + 1, 3, none⟩ x3).setCell ⟨w.heap.size + 1 + 1, 4, none⟩ x4).cell? ⟨w.heap.size + 1, 0, none⟩ = some (.bool wb) ∧ (((((X9.setCell ⟨w.heap.size + 1 + 1, 0, none⟩ x0).setCell ⟨w.heap.size + 1 + 1, 1, none⟩ x1).setCell ⟨w.heap.size + 1 + 1, 2, none⟩ x2).setCell ⟨w.heap.size + 1 + 1, 3, none⟩ x3).setCell ⟨w.heap.size + 1 + 1, 4, none⟩ x4).cell? ⟨w.heap.size + 1, 1, none⟩ = some (.bool be) ∧ (((((X9.setCell ⟨w.heap.size + 1 + 1, 0, none⟩ x0).setCell ⟨w.heap.size + 1 + 1, 1, none⟩ x1).setCell ⟨w.heap.size + 1 + 1, 2, none⟩ x2).setCell ⟨w.heap.size + 1 + 1, 3, none⟩ x3).setCell ⟨w.heap.size + 1 + 1, 4, none⟩ x4).cell? ⟨w.heap.size + 1, 2, none⟩ = some (.int .u64 bl) ∧ (((((X9.setCell ⟨w.heap.size + 1 + 1, 0, none⟩ x0).setCell ⟨w.heap.size + 1 + 1, 1, none⟩ x1).setCell ⟨w.heap.size + 1 + 1, 2, none⟩ x2).setCell ⟨w.heap.size + 1 + 1, 3, none⟩ x3).setCell ⟨w.heap.size + 1 + 1, 4, none⟩ x4).cell? ⟨w.heap.size + 1, 3, none⟩ = some (.int .u64 bh) ∧ (((((X9.setCell ⟨w.heap.size + 1 + 1, 0, none⟩ x0).setCell ⟨w.heap.size + 1 + 1, 1, none⟩ x1).setCell ⟨w.heap.size + 1 + 1, 2, none⟩ x2).setCell ⟨w.heap.size + 1 + 1, 3, none⟩ x3).setCell ⟨w.heap.size + 1 + 1, 4, none⟩ x4).cell? ⟨w.heap.size + 1, 4, none⟩ = some (.slice pb nb cb)) := fun X9 x0 x1 x2 x3 x4 cc => ⟨(sp_keep1 (sp_keep1 (sp_keep1 (sp_keep1 (sp_keep1 (sO cc a0) (by omega) _) (by omega) _) (by omega) _) (by omega) _) (by omega) _), (sp_keep1 (sp_keep1 (sp_keep1 (sp_keep1 (sp_keep1 (sO cc a1) (by omega) _) (by omega) _) (by omega) _) (by omega) _) (by omega) _), (sp_keep1 (sp_keep1 (sp_keep1 (sp_keep1 (sp_keep1 (sO cc a2) (by omega) _) (by omega) _) (by omega) _) (by omega) _) (by omega) _), (sp_keep1 (sp_keep1 (sp_keep1 (sp_keep1 (sp_keep1 (sO cc a3) (by omega) _) (by omega) _) (by omega) _) (by omega) _) (by omega) _), (sp_keep1 (sp_keep1 (sp_keep1 (sp_keep1 (sp_keep1 (sO cc a4) (by omega) _) (by omega) _) (by omega) _) (by omega) _) (by omega) _), (sp_keep1 (sp_keep1 (sp_keep1 (sp_keep1 (sp_keep1 (sO cc b0) (by omega) _) (by omega) _) (by omega) _) (by omega) _) (by omega) _), (sp_keep1 (sp_keep1 (sp_keep1 (sp_keep1 (sp_keep1 (sO cc b1) (by omega) _) (by omega) _) (by omega) _) (by omega) _) (by omega) _), (sp_keep1 (sp_keep1 (sp_keep1 (sp_keep1 (sp_keep1 (sO cc b2) (by omega) _) (by omega) _) (by omega) _) (by omega) _) (by omega) _), (sp_keep1 (sp_keep1 (sp_keep1 (sp_keep1 (sp_keep1 (sO cc b3) (by omega) _) (by omega) _) (by omega) _) (by omega) _) (by omega) _), (sp_keep1 (sp_keep1 (sp_keep1 (sp_keep1 (sp_keep1 (sO cc b4) (by omega) _) (by omega) _) (by omega) _) (by omega) _) (by omega) _)⟩
 go_region_held3 (fun w' => w'.cell? ⟨w.heap.size, 0, none⟩ = some (.bool wa) ∧ w'.cell? ⟨w.heap.size, 1, none⟩ = some (.bool ae) ∧ w'.cell? ⟨w.heap.size, 2, none⟩ = some (.int .u64 al) ∧ w'.cell? ⟨w.heap.size, 3, none⟩ = some (.int .u64 ah) ∧ w'.cell? ⟨w.heap.size, 4, none⟩ = some (.slice pa na ca) ∧ w'.cell? ⟨w.heap.size + 1, 0, none⟩ = some (.bool wb) ∧ w'.cell? ⟨w.heap.size + 1, 1, none⟩ = some (.bool be) ∧ w'.cell? ⟨w.heap.size + 1, 2, none⟩ = some (.int .u64 bl) ∧ w'.cell? ⟨w.heap.size + 1, 3, none⟩ = some (.int .u64 bh) ∧ w'.cell? ⟨w.heap.size + 1, 4, none⟩ = some (.slice pb nb cb)) (first | exact hall _ (by first | with_reducible exact cc | with_reducible exact cc.drew) | exact hst _ _ _ _ _ _ (by first | with_reducible exact cc | with_reducible exact cc.drew))
  (first
   | (go_at_call 33; (with_reducible refine (k1 _ (hok _ _ oW (by first | with_reducible exact cc | with_reducible exact cc.drew))).mono ?_); rintro e v1 ⟨⟨nw, ne, nl, nh, nv, rfl, hQ1, ms, hL1, hT1, hU1⟩, g⟩; obtain ⟨pn, cn, rfl⟩ := hT1.len; replace cc := sp_call (show Below W.heap.size W _ by first | with_reducible exact cc | with_reducible exact cc.drew) g; clear g k1)
   | (go_at_call 29; (with_reducible refine (k2 _ nw ne nl nh _ ms (hok _ _ oW (by first | with_reducible exact cc | with_reducible exact cc.drew)) hQ1 hL1 (by first | with_reducible exact hT1 | exact hT1.on (Below.refl _ _).drew)).mono ?_); rintro e v2 ⟨⟨rw', re, rl, rh, rv, rfl, hQ, ls, hL, hT, hU⟩, g⟩; obtain ⟨pr, cr, rfl⟩ := hT.len; have zU := cc.size; replace cc := sp_call (show Below W.heap.size W _ by first | with_reducible exact cc | with_reducible exact cc.drew) g; clear g; have zc := cc.size; replace r0 := sO cc r0; replace r1 := sO cc r1; replace r2 := sO cc r2; replace r3 := sO cc r3; replace r4 := sO cc r4; replace fz : ∀ j, v2.frozen? ⟨w.heap.size + 1 + 1, j, none⟩ = false := fun j => (cc.frozen (p := ⟨w.heap.size + 1 + 1, j, none⟩) (by first | (simp; done) | (simp; omega))).trans (fz j); replace bW := sp_call bW cc)
   | fail)
 all_goals go_wp2_with fail
 all_goals exact bodyPost_ret (v := .agg #[.bool rw', .bool re, .int .u64 rl, .int .u64 rh, .slice pr ls.length cr]) (by simp [results, Tryz.results31, go_sem, r0, r1, r2, r3, r4]) rfl ⟨⟨rw', re, rl, rh, _, rfl, hQ, ls, hL, (((((hT.set hU (by omega)).set hU (by omega)).set hU (by omega)).set hU (by omega)).set hU (by omega)), hU.le (by omega)⟩, (by (repeat (first | with_reducible assumption | with_reducible refine li_set1 ?_ (by omega) _ | with_reducible refine sp_new ?_ _)))⟩
end Go.Proofs.YteafnkimcidkhaaGreat


