/- SpanSets, walked: where the ranges are not right. -/
import Derived.Test.YtagbkgaacfjlaaaGreatSpFl
import Derived.Deep.DeepCutAuto
namespace Go.Proofs.YtagbkgaacfjlaaaGreat
open Go.RowKit
set_option linter.unusedVariables false
set_option linter.unusedSimpArgs false
set_option maxRecDepth 100000 in
set_option maxHeartbeats 6400000 in
theorem sets_out (p f : Int) (e1 : Bool) (a b : Int) (e2 : Bool) (c d : Int) (lo hi lo1 ho lt ht : Int) (R1 eo et : Bool) (kf : ∀ V, Calls Tryz.prog 15 #[.int .i64 p] V fun e w' => e = .returned (.int .i64 f) ∧ Below V.heap.size V w') (sRight : ∀ V, Calls Tryz.prog 16 #[.int .i64 f, .agg #[.bool e1, .int .u64 a, .int .u64 b]] V fun e w' => e = .returned (.bool R1) ∧ Below V.heap.size V w') (rRight : ∀ V, Calls Tryz.prog 17 #[.int .i64 f, .agg #[.bool e1, .int .u64 a, .int .u64 b]] V fun e w' => e = .returned (.bool R1) ∧ Below V.heap.size V w') (sOf : ∀ V, Calls Tryz.prog 18 #[.int .i64 f, .int .u64 lo, .int .u64 hi] V fun e w' => e = .returned (.agg #[.bool eo, .int .u64 lo1, .int .u64 ho]) ∧ Below V.heap.size V w') (rOf : ∀ V, Calls Tryz.prog 19 #[.int .i64 f, .int .u64 lo, .int .u64 hi] V fun e w' => e = .returned (.agg #[.bool eo, .int .u64 lo1, .int .u64 ho]) ∧ Below V.heap.size V w') (sTop : ∀ V, Calls Tryz.prog 20 #[.int .i64 f] V fun e w' => e = .returned (.agg #[.bool et, .int .u64 lt, .int .u64 ht]) ∧ Below V.heap.size V w') (rTop : ∀ V, Calls Tryz.prog 21 #[.int .i64 f] V fun e w' => e = .returned (.agg #[.bool et, .int .u64 lt, .int .u64 ht]) ∧ Below V.heap.size V w') (kt : ∀ V, Calls Tryz.prog 22 #[.agg #[.int .i64 p, .bool e1, .int .u64 a, .int .u64 b, .bool e2, .int .u64 c, .int .u64 d]] V fun e w' => e = .returned (.bool false) ∧ Below V.heap.size V w') (hl : ∀ V, Calls Tryz.prog 23 #[] V fun e w' => e = .returned (.bool true) ∧ Below V.heap.size V w') (w : World) : Calls Tryz.prog 3 #[.agg #[.int .i64 p, .bool e1, .int .u64 a, .int .u64 b, .bool e2, .int .u64 c, .int .u64 d], .int .u64 lo, .int .u64 hi] w fun e w' => e = .returned (.bool true) ∧ Below w.heap.size w w' := by
  go_enter Tryz.func3, Tryz.ntmps3
  go_upto_region 1 with fail
  obtain ⟨W, hW⟩ : ∃ W, (w.alloc (.cells #[.int .i64 p, .bool e1, .int .u64 a, .int .u64 b, .bool e2, .int .u64 c, .int .u64 d] 27)) = W := ⟨_, rfl⟩
  have x0 : W.cell? ⟨w.heap.size, 0, none⟩ = some (.int .i64 p) := by rw [← hW]; simp [go_sem]
  have x1 : W.cell? ⟨w.heap.size, 1, none⟩ = some (.bool e1) := by rw [← hW]; simp [go_sem]
  have x2 : W.cell? ⟨w.heap.size, 2, none⟩ = some (.int .u64 a) := by rw [← hW]; simp [go_sem]
  have x3 : W.cell? ⟨w.heap.size, 3, none⟩ = some (.int .u64 b) := by rw [← hW]; simp [go_sem]
  have x4 : W.cell? ⟨w.heap.size, 4, none⟩ = some (.bool e2) := by rw [← hW]; simp [go_sem]
  have x5 : W.cell? ⟨w.heap.size, 5, none⟩ = some (.int .u64 c) := by rw [← hW]; simp [go_sem]
  have x6 : W.cell? ⟨w.heap.size, 6, none⟩ = some (.int .u64 d) := by rw [← hW]; simp [go_sem]
  have bW : Below w.heap.size w W := by rw [← hW]; exact (sp_new (Below.refl _ _) _)
  have zW : W.heap.size = w.heap.size + 1 := by rw [← hW]; simp
  rw [hW]
  clear hW
  go_upto_region 2 with (first
    | (go_at_call 15; refine (kf _).mono ?_; rintro e v0 ⟨rfl, g⟩; replace bW := sp_call bW g; replace x0 := sp_cell_on g x0; replace x1 := sp_cell_on g x1; replace x2 := sp_cell_on g x2; replace x3 := sp_cell_on g x3; replace x4 := sp_cell_on g x4; replace x5 := sp_cell_on g x5; replace x6 := sp_cell_on g x6; clear g)
    | fail)
  go_region_held3 (fun w' => w'.cell? ⟨w.heap.size, 0, none⟩ = some (.int .i64 p) ∧ w'.cell? ⟨w.heap.size, 1, none⟩ = some (.bool e1) ∧ w'.cell? ⟨w.heap.size, 2, none⟩ = some (.int .u64 a) ∧ w'.cell? ⟨w.heap.size, 3, none⟩ = some (.int .u64 b) ∧ w'.cell? ⟨w.heap.size, 4, none⟩ = some (.bool e2) ∧ w'.cell? ⟨w.heap.size, 5, none⟩ = some (.int .u64 c) ∧ w'.cell? ⟨w.heap.size, 6, none⟩ = some (.int .u64 d)) (exact ⟨x0, x1, x2, x3, x4, x5, x6⟩)
    (first
      | (go_at_call 16; refine (sRight _).mono ?_; rintro e sRight_ ⟨rfl, g⟩; replace g : Below v0.heap.size v0 sRight_ := ⟨g.os, g.tape, g.output, g.size, g.block⟩; replace bW := sp_call bW g; replace x0 := sp_cell_on g x0; replace x1 := sp_cell_on g x1; replace x2 := sp_cell_on g x2; replace x3 := sp_cell_on g x3; replace x4 := sp_cell_on g x4; replace x5 := sp_cell_on g x5; replace x6 := sp_cell_on g x6; clear g)
      | (go_at_call 17; refine (rRight _).mono ?_; rintro e rRight_ ⟨rfl, g⟩; replace g : Below sRight_.heap.size sRight_ rRight_ := ⟨g.os, g.tape, g.output, g.size, g.block⟩; replace bW := sp_call bW g; replace x0 := sp_cell_on g x0; replace x1 := sp_cell_on g x1; replace x2 := sp_cell_on g x2; replace x3 := sp_cell_on g x3; replace x4 := sp_cell_on g x4; replace x5 := sp_cell_on g x5; replace x6 := sp_cell_on g x6; clear g)
      | (go_at_call 18; refine (sOf _).mono ?_; rintro e sOf_ ⟨rfl, g⟩; replace g : Below rRight_.heap.size rRight_ sOf_ := ⟨g.os, g.tape, g.output, g.size, g.block⟩; replace bW := sp_call bW g; replace x0 := sp_cell_on g x0; replace x1 := sp_cell_on g x1; replace x2 := sp_cell_on g x2; replace x3 := sp_cell_on g x3; replace x4 := sp_cell_on g x4; replace x5 := sp_cell_on g x5; replace x6 := sp_cell_on g x6; clear g)
      | (go_at_call 19; refine (rOf _).mono ?_; rintro e rOf_ ⟨rfl, g⟩; replace g : Below sOf_.heap.size sOf_ rOf_ := ⟨g.os, g.tape, g.output, g.size, g.block⟩; replace bW := sp_call bW g; replace x0 := sp_cell_on g x0; replace x1 := sp_cell_on g x1; replace x2 := sp_cell_on g x2; replace x3 := sp_cell_on g x3; replace x4 := sp_cell_on g x4; replace x5 := sp_cell_on g x5; replace x6 := sp_cell_on g x6; clear g)
      | (go_at_call 20; refine (sTop _).mono ?_; rintro e sTop_ ⟨rfl, g⟩; replace g : Below rOf_.heap.size rOf_ sTop_ := ⟨g.os, g.tape, g.output, g.size, g.block⟩; replace bW := sp_call bW g; replace x0 := sp_cell_on g x0; replace x1 := sp_cell_on g x1; replace x2 := sp_cell_on g x2; replace x3 := sp_cell_on g x3; replace x4 := sp_cell_on g x4; replace x5 := sp_cell_on g x5; replace x6 := sp_cell_on g x6; clear g)
      | (go_at_call 21; refine (rTop _).mono ?_; rintro e rTop_ ⟨rfl, g⟩; replace g : Below sTop_.heap.size sTop_ rTop_ := ⟨g.os, g.tape, g.output, g.size, g.block⟩; replace bW := sp_call bW g; replace x0 := sp_cell_on g x0; replace x1 := sp_cell_on g x1; replace x2 := sp_cell_on g x2; replace x3 := sp_cell_on g x3; replace x4 := sp_cell_on g x4; replace x5 := sp_cell_on g x5; replace x6 := sp_cell_on g x6; clear g)
      | fail)
  go_wp2_with (first
    | (go_at_call 22; refine (kt _).mono ?_; rintro e vt ⟨rfl, g⟩; replace bW := sp_call bW g; replace x0 := sp_cell_on g x0; replace x1 := sp_cell_on g x1; replace x2 := sp_cell_on g x2; replace x3 := sp_cell_on g x3; replace x4 := sp_cell_on g x4; replace x5 := sp_cell_on g x5; replace x6 := sp_cell_on g x6; clear g)
    | (go_at_call 23; refine (hl _).mono ?_; rintro e vl ⟨rfl, g⟩; replace bW := sp_call bW g; clear g)
    | fail)
  go_ret
  exact ⟨rfl, bW⟩
end Go.Proofs.YtagbkgaacfjlaaaGreat

