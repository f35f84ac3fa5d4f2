/- span's floats: how two are reckoned with; Two and Of. -/
import Derived.Test.YtagbkgaacfjlaaaGreatZG5
import Derived.Test.YtagbkgaacfjlaaaGreatSpVf
import Derived.Test.YtagbkgaacfjlaaaGreatSpOf
import Derived.Deep.DeepCutAuto
namespace Go.Proofs.YtagbkgaacfjlaaaGreat
open Go.RowKit
set_option linter.unusedVariables false
set_option linter.unusedSimpArgs false
set_option maxRecDepth 100000 in
set_option maxHeartbeats 6400000 in
theorem fof_of (f : Int) (x y : Int) (me : Bool) (mlo mhi : Int) (h : ∀ L B w0, FlAt f L B w0 → ∀ V, Below B w0 V → Calls Tryz.prog 79 #[.agg (lvf L), .int .u64 x, .int .u64 y] V fun e w' => e = .returned (.agg #[.bool me, .int .u64 mlo, .int .u64 mhi]) ∧ Below V.heap.size V w') (w : World) :
    Calls Tryz.prog 18 #[.int .i64 f, .int .u64 x, .int .u64 y] w fun e w' => e = .returned (.agg #[.bool me, .int .u64 mlo, .int .u64 mhi]) ∧ Below w.heap.size w w' := by
  have h1 := floats_at f
  have h5 := floatRange_any me mlo mhi
  go_enter Tryz.func18, Tryz.ntmps18
  go_wp2_with fail
  obtain ⟨W, hW⟩ : ∃ W, w.alloc (.cells #[.bool false, .int .u64 0, .int .u64 0] 25) = W := ⟨_, rfl⟩
  have r0 : W.cell? ⟨w.heap.size, 0, none⟩ = some (.bool false) := by rw [← hW]; simp [go_sem]
  have r1 : W.cell? ⟨w.heap.size, 1, none⟩ = some (.int .u64 0) := by rw [← hW]; simp [go_sem]
  have r2 : W.cell? ⟨w.heap.size, 2, none⟩ = some (.int .u64 0) := by rw [← hW]; simp [go_sem]
  have fz : ∀ j, W.frozen? ⟨w.heap.size, j, none⟩ = false := by intro j; rw [← hW]; simp [go_sem]
  have bW : Below w.heap.size w W := by rw [← hW]; exact sp_new (Below.refl _ _) _
  have zW : w.heap.size < W.heap.size := by rw [← hW]; simp
  rw [hW]
  clear hW
  refine (h1 _).mono ?_
  rintro e v1 ⟨L, rfl, hL, g1⟩
  go_wp2_with fail
  refine (h L _ _ hL _ (Below.refl _ _)).mono ?_
  rintro e v2 ⟨rfl, g2⟩
  go_wp2_with fail
  refine (h5 _).mono ?_
  rintro e v3 ⟨rfl, g3⟩
  have g := sp_call (sp_call g1 g2) g3
  replace fz := fun j => (g.frozen (p := ⟨w.heap.size, j, none⟩) zW).trans (fz j)
  replace bW := sp_call bW g
  replace r0 := sp_cell_on g r0; replace r1 := sp_cell_on g r1; replace r2 := sp_cell_on g r2
  go_wp2_with fail
  exact bodyPost_ret (v := .agg #[.bool me, .int .u64 mlo, .int .u64 mhi]) (by simp [results, Tryz.results18, go_sem, r0, r1, r2]) rfl ⟨rfl, sp_set3 bW (by omega) _ _ _⟩
end Go.Proofs.YtagbkgaacfjlaaaGreat


