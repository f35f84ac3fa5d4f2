/- span's exported calls of ints. -/
import Derived.Test.YtpcbammncaeimaaSpX
import Derived.Test.YtpcbammncaeimaaSpOi
import Derived.Deep.DeepCutAuto
namespace Go.Proofs.Ytpcbammncaeimaa
open Go.RowKit
set_option linter.unusedVariables false
set_option linter.unusedSimpArgs false
set_option maxRecDepth 100000 in
set_option maxHeartbeats 3200000 in
theorem intOf_of (x y : Int) (me : Bool) (mlo mhi : Int) (h : ∀ V, Calls Try.prog 84 #[.agg (lvi LnI), .int .i64 x, .int .i64 y] V fun e w' => e = .returned (.agg #[.bool me, .int .i64 mlo, .int .i64 mhi]) ∧ Below V.heap.size V w') (w : World) :
    Calls Try.prog 54 #[.int .i64 x, .int .i64 y] w fun e w' => e = .returned (.agg #[.bool me, .int .i64 mlo, .int .i64 mhi]) ∧ Below w.heap.size w w' := by
  have h1 := ints_any
  have h5 := intRange_any me mlo mhi
  generalize lvi LnI = LV at *
  go_enter Try.func54, Try.ntmps54
  go_wp2_with fail
  obtain ⟨W, hW⟩ : ∃ W, w.alloc (.cells #[.bool false, .int .i64 0, .int .i64 0] 39) = W := ⟨_, rfl⟩
  have r0 : W.cell? ⟨w.heap.size, 0, none⟩ = some (.bool false) := by rw [← hW]; simp [go_sem]
  have r1 : W.cell? ⟨w.heap.size, 1, none⟩ = some (.int .i64 0) := by rw [← hW]; simp [go_sem]
  have r2 : W.cell? ⟨w.heap.size, 2, none⟩ = some (.int .i64 0) := by rw [← hW]; simp [go_sem]
  have fz : ∀ j, W.frozen? ⟨w.heap.size, j, none⟩ = false := by intro j; rw [← hW]; simp [go_sem]
  have bW : Below w.heap.size w W := by rw [← hW]; exact sp_new (Below.refl _ _) _
  have zW : w.heap.size < W.heap.size := by rw [← hW]; simp
  rw [hW]
  clear hW
  refine (h1 _).mono ?_
  rintro e v1 ⟨rfl, g1⟩
  go_wp2_with fail
  refine (h _).mono ?_
  rintro e v2 ⟨rfl, g2⟩
  go_wp2_with fail
  refine (h5 _).mono ?_
  rintro e v3 ⟨rfl, g3⟩
  have g := sp_call (sp_call g1 g2) g3
  replace fz := fun j => (g.frozen (p := ⟨w.heap.size, j, none⟩) zW).trans (fz j)
  replace bW := sp_call bW g
  replace r0 := sp_cell_on g r0; replace r1 := sp_cell_on g r1; replace r2 := sp_cell_on g r2
  go_wp2_with fail
  exact bodyPost_ret (v := .agg #[.bool me, .int .i64 mlo, .int .i64 mhi]) (by simp [results, Try.results54, go_sem, r0, r1, r2]) rfl ⟨rfl, sp_set3 bW (by omega) _ _ _⟩
set_option maxRecDepth 100000 in
set_option maxHeartbeats 3200000 in
theorem intRight_of (e1 : Bool) (a b : Int) (r : Bool) (h : ∀ V, Calls Try.prog 85 #[.agg (lvi LnI), .agg #[.bool e1, .int .i64 a, .int .i64 b]] V fun e w' => e = .returned (.bool r) ∧ Below V.heap.size V w') (w : World) :
    Calls Try.prog 56 #[.agg #[.bool e1, .int .i64 a, .int .i64 b]] w fun e w' => e = .returned (.bool r) ∧ Below w.heap.size w w' := by
  have h1 := ints_any
  have ho1 := ofInts_any
  have ho2 := ofInts_any
  generalize lvi LnI = LV at *
  go_enter Try.func56, Try.ntmps56
  go_wp2_with fail
  obtain ⟨W, hW⟩ : ∃ W, (w.alloc (.cells #[.bool e1, .int .i64 a, .int .i64 b] 39)) = W := ⟨_, rfl⟩
  have a0 : W.cell? ⟨w.heap.size, 0, none⟩ = some (.bool e1) := by rw [← hW]; simp [go_sem]
  have a1 : W.cell? ⟨w.heap.size, 1, none⟩ = some (.int .i64 a) := by rw [← hW]; simp [go_sem]
  have a2 : W.cell? ⟨w.heap.size, 2, none⟩ = some (.int .i64 b) := by rw [← hW]; simp [go_sem]
  have bW : Below w.heap.size w W := by rw [← hW]; exact (sp_new (Below.refl _ _) _)
  have zW : W.heap.size = w.heap.size + 1 := by rw [← hW]; simp
  rw [hW]
  clear hW
  go_region_held3 (fun w' => w'.cell? ⟨w.heap.size, 0, none⟩ = some (.bool e1) ∧ w'.cell? ⟨w.heap.size, 1, none⟩ = some (.int .i64 a) ∧ w'.cell? ⟨w.heap.size, 2, none⟩ = some (.int .i64 b)) (exact ⟨a0, a1, a2⟩)
    (first
      | (go_at_call 83; refine (h1 _).mono ?_; rintro e v1 ⟨rfl, g⟩; replace g : Below W.heap.size W v1 := ⟨g.os, g.tape, g.output, g.size, g.block⟩; replace bW := sp_call bW g; replace a0 := sp_cell_on g a0; replace a1 := sp_cell_on g a1; replace a2 := sp_cell_on g a2; clear g)
      | (go_at_call 86; refine (ho1 _ _ _ _).mono ?_; rintro e v2 ⟨rfl, g⟩; replace g : Below v1.heap.size v1 v2 := ⟨g.os, g.tape, g.output, g.size, g.block⟩; replace bW := sp_call bW g; replace a0 := sp_cell_on g a0; replace a1 := sp_cell_on g a1; replace a2 := sp_cell_on g a2; clear g)
      | (go_at_call 85; refine (h _).mono ?_; rintro e v9 ⟨rfl, g⟩; replace g : Below v2.heap.size v2 v9 := ⟨g.os, g.tape, g.output, g.size, g.block⟩; replace bW := sp_call bW g; replace a0 := sp_cell_on g a0; replace a1 := sp_cell_on g a1; replace a2 := sp_cell_on g a2; clear g)
      | fail)
  all_goals go_wp2
  all_goals go_ret
  all_goals exact ⟨rfl, bW⟩
end Go.Proofs.Ytpcbammncaeimaa

