/- span.join on a line. -/
import Derived.Test.YteafnkimcidkhaaGreatSpMf
namespace Go.Proofs.YteafnkimcidkhaaGreat
open Go.RowKit
set_option linter.unusedVariables false
set_option linter.unusedSimpArgs false
set_option maxRecDepth 100000 in
set_option maxHeartbeats 3200000 in
theorem join_f {L : Ln} {A : Ways} {B : Nat} {w0 : World} (H : Actsf L A B w0) (e1 e2 : Bool) (a b c d : Int) (da : A.dom a) (db : A.dom b) (dc : A.dom c) (dd : A.dom d) (w : World) (ok : Below B w0 w) :
    Calls Tryz.prog 192 #[.agg (lvf L), .agg #[.bool e1, .int .u64 a, .int .u64 b], .agg #[.bool e2, .int .u64 c, .int .u64 d]] w fun e w' => e = .returned (sVf (joinP A (e1, a, b) (e2, c, d))) ∧ Below w.heap.size w w' := by
  have h1 : ∀ V, Below B w0 V → Calls Tryz.prog 206 #[.agg (lvf L), .int .u64 a, .int .u64 c] V fun e w' => e = .returned (.int .u64 (sml A a c)) ∧ Below V.heap.size V w' := smaller_f H a c da dc
  have h2 : ∀ V, Below B w0 V → Calls Tryz.prog 205 #[.agg (lvf L), .int .u64 b, .int .u64 d] V fun e w' => e = .returned (.int .u64 (grt A b d)) ∧ Below V.heap.size V w' := greater_f H b d db dd
  have hB := H.hB
  obtain ⟨R, HR⟩ : ∃ R, Hid (R = sVf (joinP A (e1, a, b) (e2, c, d))) := ⟨_, rfl⟩
  rw [← HR.out]
  replace HR := HR.out
  unfold sVf joinP at HR
  simp only at HR
  clear H
  generalize sml A a c = lo at *
  generalize grt A b d = hi at *
  replace HR : Hid _ := HR
  unfold lvf at *
  cases e1
  · cases e2
    · go_enter Tryz.func192, Tryz.ntmps192
      go_wp2_with fail
      obtain ⟨W, hW⟩ : ∃ W, ((((w.alloc (.cells #[.int .u64 L.least, .int .u64 L.most, .int .i64 L.past, .func (.func L.ko) #[] L.co, .func (.func L.kp) #[] L.cp, .func (.func L.k1) #[] L.c1, .func (.func L.kv) #[] L.cv, .func (.func L.kn) #[] L.cn, .func (.func L.ku) #[] L.cu, .func (.func L.kt) #[] L.ct, .func (.func L.kz) #[] L.cz] 134)).alloc (.cells #[.bool false, .int .u64 a, .int .u64 b] 126)).alloc (.cells #[.bool false, .int .u64 c, .int .u64 d] 126)).alloc (.cells #[.bool false, .int .u64 0, .int .u64 0] 126)) = W := ⟨_, rfl⟩
      have l0 : W.cell? ⟨w.heap.size, 0, none⟩ = some (.int .u64 L.least) := by rw [← hW]; simp [go_sem]
      have l1 : W.cell? ⟨w.heap.size, 1, none⟩ = some (.int .u64 L.most) := by rw [← hW]; simp [go_sem]
      have l2 : W.cell? ⟨w.heap.size, 2, none⟩ = some (.int .i64 L.past) := by rw [← hW]; simp [go_sem]
      have l3 : W.cell? ⟨w.heap.size, 3, none⟩ = some (.func (.func L.ko) #[] L.co) := by rw [← hW]; simp [go_sem]
      have l4 : W.cell? ⟨w.heap.size, 4, none⟩ = some (.func (.func L.kp) #[] L.cp) := by rw [← hW]; simp [go_sem]
      have l5 : W.cell? ⟨w.heap.size, 5, none⟩ = some (.func (.func L.k1) #[] L.c1) := by rw [← hW]; simp [go_sem]
      have l6 : W.cell? ⟨w.heap.size, 6, none⟩ = some (.func (.func L.kv) #[] L.cv) := by rw [← hW]; simp [go_sem]
      have l7 : W.cell? ⟨w.heap.size, 7, none⟩ = some (.func (.func L.kn) #[] L.cn) := by rw [← hW]; simp [go_sem]
      have l8 : W.cell? ⟨w.heap.size, 8, none⟩ = some (.func (.func L.ku) #[] L.cu) := by rw [← hW]; simp [go_sem]
      have l9 : W.cell? ⟨w.heap.size, 9, none⟩ = some (.func (.func L.kt) #[] L.ct) := by rw [← hW]; simp [go_sem]
      have l10 : W.cell? ⟨w.heap.size, 10, none⟩ = some (.func (.func L.kz) #[] L.cz) := by rw [← hW]; simp [go_sem]
      have a0 : W.cell? ⟨w.heap.size + 1, 0, none⟩ = some (.bool false) := by rw [← hW]; simp [go_sem]
      have a1 : W.cell? ⟨w.heap.size + 1, 1, none⟩ = some (.int .u64 a) := by rw [← hW]; simp [go_sem]
      have a2 : W.cell? ⟨w.heap.size + 1, 2, none⟩ = some (.int .u64 b) := by rw [← hW]; simp [go_sem]
      have b0 : W.cell? ⟨w.heap.size + 1 + 1, 0, none⟩ = some (.bool false) := by rw [← hW]; simp [go_sem]
      have b1 : W.cell? ⟨w.heap.size + 1 + 1, 1, none⟩ = some (.int .u64 c) := by rw [← hW]; simp [go_sem]
      have b2 : W.cell? ⟨w.heap.size + 1 + 1, 2, none⟩ = some (.int .u64 d) := by rw [← hW]; simp [go_sem]
      have r0 : W.cell? ⟨w.heap.size + 1 + 1 + 1, 0, none⟩ = some (.bool false) := by rw [← hW]; simp [go_sem]
      have r1 : W.cell? ⟨w.heap.size + 1 + 1 + 1, 1, none⟩ = some (.int .u64 0) := by rw [← hW]; simp [go_sem]
      have r2 : W.cell? ⟨w.heap.size + 1 + 1 + 1, 2, none⟩ = some (.int .u64 0) := by rw [← hW]; simp [go_sem]
      have okW : Below B w0 W := by rw [← hW]; exact (ok_new hB (ok_new hB (ok_new hB (ok_new hB ok _) _) _) _)
      have bW : Below w.heap.size w W := by rw [← hW]; exact (sp_new (sp_new (sp_new (sp_new (Below.refl _ _) _) _) _) _)
      have zW : W.heap.size = w.heap.size + 4 := by rw [← hW]; simp
      have fz : ∀ j, W.frozen? ⟨w.heap.size + 1 + 1 + 1, j, none⟩ = false := by intro j; rw [← hW]; simp [go_sem]
      rw [hW]
      clear hW
      go_region_held3 (fun w' => w'.cell? ⟨w.heap.size, 0, none⟩ = some (.int .u64 L.least) ∧ w'.cell? ⟨w.heap.size, 1, none⟩ = some (.int .u64 L.most) ∧ w'.cell? ⟨w.heap.size, 2, none⟩ = some (.int .i64 L.past) ∧ w'.cell? ⟨w.heap.size, 3, none⟩ = some (.func (.func L.ko) #[] L.co) ∧ w'.cell? ⟨w.heap.size, 4, none⟩ = some (.func (.func L.kp) #[] L.cp) ∧ w'.cell? ⟨w.heap.size, 5, none⟩ = some (.func (.func L.k1) #[] L.c1) ∧ w'.cell? ⟨w.heap.size, 6, none⟩ = some (.func (.func L.kv) #[] L.cv) ∧ w'.cell? ⟨w.heap.size, 7, none⟩ = some (.func (.func L.kn) #[] L.cn) ∧ w'.cell? ⟨w.heap.size, 8, none⟩ = some (.func (.func L.ku) #[] L.cu) ∧ w'.cell? ⟨w.heap.size, 9, none⟩ = some (.func (.func L.kt) #[] L.ct) ∧ w'.cell? ⟨w.heap.size, 10, none⟩ = some (.func (.func L.kz) #[] L.cz) ∧ w'.cell? ⟨w.heap.size + 1, 0, none⟩ = some (.bool false) ∧ w'.cell? ⟨w.heap.size + 1, 1, none⟩ = some (.int .u64 a) ∧ w'.cell? ⟨w.heap.size + 1, 2, none⟩ = some (.int .u64 b) ∧ w'.cell? ⟨w.heap.size + 1 + 1, 0, none⟩ = some (.bool false) ∧ w'.cell? ⟨w.heap.size + 1 + 1, 1, none⟩ = some (.int .u64 c) ∧ w'.cell? ⟨w.heap.size + 1 + 1, 2, none⟩ = some (.int .u64 d)) (first | exact ⟨l0, l1, l2, l3, l4, l5, l6, l7, l8, l9, l10, a0, a1, a2, b0, b1, b2⟩ | exact ⟨sp_keep3 l0 (by omega) _ _ _, sp_keep3 l1 (by omega) _ _ _, sp_keep3 l2 (by omega) _ _ _, sp_keep3 l3 (by omega) _ _ _, sp_keep3 l4 (by omega) _ _ _, sp_keep3 l5 (by omega) _ _ _, sp_keep3 l6 (by omega) _ _ _, sp_keep3 l7 (by omega) _ _ _, sp_keep3 l8 (by omega) _ _ _, sp_keep3 l9 (by omega) _ _ _, sp_keep3 l10 (by omega) _ _ _, sp_keep3 a0 (by omega) _ _ _, sp_keep3 a1 (by omega) _ _ _, sp_keep3 a2 (by omega) _ _ _, sp_keep3 b0 (by omega) _ _ _, sp_keep3 b1 (by omega) _ _ _, sp_keep3 b2 (by omega) _ _ _⟩)
        (first
          | (go_at_call 206; refine (h1 _ (by first | exact okW | exact okW.drew)).mono ?_; rintro e w1 ⟨rfl, g1⟩; replace g1 : Below W.heap.size W w1 := ⟨g1.os, g1.tape, g1.output, g1.size, g1.block⟩; replace l0 := sp_cell_on g1 l0; replace l1 := sp_cell_on g1 l1; replace l2 := sp_cell_on g1 l2; replace l3 := sp_cell_on g1 l3; replace l4 := sp_cell_on g1 l4; replace l5 := sp_cell_on g1 l5; replace l6 := sp_cell_on g1 l6; replace l7 := sp_cell_on g1 l7; replace l8 := sp_cell_on g1 l8; replace l9 := sp_cell_on g1 l9; replace l10 := sp_cell_on g1 l10; replace a0 := sp_cell_on g1 a0; replace a1 := sp_cell_on g1 a1; replace a2 := sp_cell_on g1 a2; replace b0 := sp_cell_on g1 b0; replace b1 := sp_cell_on g1 b1; replace b2 := sp_cell_on g1 b2; replace r0 := sp_cell_on g1 r0; replace r1 := sp_cell_on g1 r1; replace r2 := sp_cell_on g1 r2; replace okW := ok_call hB okW g1; replace bW := sp_call bW g1; replace fz : ∀ j, w1.frozen? ⟨w.heap.size + 1 + 1 + 1, j, none⟩ = false := fun j => (g1.frozen (p := ⟨w.heap.size + 1 + 1 + 1, j, none⟩) (by simp; omega)).trans (fz j); have z1 := g1.size)
          | (go_at_call 205; refine (h2 _ (by first | exact okW | exact okW.drew)).mono ?_; rintro e w2 ⟨rfl, g2⟩; replace g2 : Below w1.heap.size w1 w2 := ⟨g2.os, g2.tape, g2.output, g2.size, g2.block⟩; replace l0 := sp_cell_on g2 l0; replace l1 := sp_cell_on g2 l1; replace l2 := sp_cell_on g2 l2; replace l3 := sp_cell_on g2 l3; replace l4 := sp_cell_on g2 l4; replace l5 := sp_cell_on g2 l5; replace l6 := sp_cell_on g2 l6; replace l7 := sp_cell_on g2 l7; replace l8 := sp_cell_on g2 l8; replace l9 := sp_cell_on g2 l9; replace l10 := sp_cell_on g2 l10; replace a0 := sp_cell_on g2 a0; replace a1 := sp_cell_on g2 a1; replace a2 := sp_cell_on g2 a2; replace b0 := sp_cell_on g2 b0; replace b1 := sp_cell_on g2 b1; replace b2 := sp_cell_on g2 b2; replace r0 := sp_cell_on g2 r0; replace r1 := sp_cell_on g2 r1; replace r2 := sp_cell_on g2 r2; replace okW := ok_call hB okW g2; replace bW := sp_call bW g2; replace fz : ∀ j, w2.frozen? ⟨w.heap.size + 1 + 1 + 1, j, none⟩ = false := fun j => (g2.frozen (p := ⟨w.heap.size + 1 + 1 + 1, j, none⟩) (by simp; omega)).trans (fz j); have z2 := g2.size)
          | fail)
      go_wp2
      exact bodyPost_ret (v := .agg #[.bool false, .int .u64 lo, .int .u64 hi]) (by simp [results, Tryz.results192, go_sem, r0, r1, r2]) rfl ⟨by rw [HR.out]; simp, sp_set3 bW (by omega) _ _ _⟩
    · go_enter Tryz.func192, Tryz.ntmps192
      go_wp2_with fail
      exact bodyPost_ret (v := .agg #[.bool false, .int .u64 a, .int .u64 b]) (by simp [results, Tryz.results192, go_sem]) rfl ⟨by rw [HR.out]; simp, (sp_new (sp_new (sp_new (sp_new (Below.refl _ _) _) _) _) _)⟩
  · go_enter Tryz.func192, Tryz.ntmps192
    go_wp2_with fail
    exact bodyPost_ret (v := .agg #[.bool e2, .int .u64 c, .int .u64 d]) (by simp [results, Tryz.results192, go_sem]) rfl ⟨by rw [HR.out]; simp, (sp_new (sp_new (sp_new (sp_new (Below.refl _ _) _) _) _) _)⟩
end Go.Proofs.YteafnkimcidkhaaGreat
