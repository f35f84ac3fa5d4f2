/- SpanInts, walked. -/
import Derived.Test.YtdehcmajhdhcaaaGreatSpY
import Derived.Deep.DeepCutAuto
namespace Go.Proofs.YtdehcmajhdhcaaaGreat
open Go.RowKit
set_option linter.unusedVariables false
set_option linter.unusedSimpArgs false
set_option maxRecDepth 100000 in
set_option maxHeartbeats 6400000 in
theorem ints_o1 (e1 : Bool) (a b : Int) (e2 : Bool) (c d : Int) (sl : Value) (lo ho lt ht : Int) (eo et : Bool) (w : World) (sIntRight : ∀ V, Calls Tryz.prog 46 #[.agg #[.bool e1, .int .i64 a, .int .i64 b]] V fun e w' => e = .returned (.bool false) ∧ Below V.heap.size V w') (rIntRight : ∀ V, Calls Tryz.prog 47 #[.agg #[.bool e1, .int .i64 a, .int .i64 b]] V fun e w' => e = .returned (.bool false) ∧ Below V.heap.size V w') (sIntOf : ∀ V, Calls Tryz.prog 48 #[.int .i64 a, .int .i64 d] V fun e w' => e = .returned (.agg #[.bool eo, .int .i64 lo, .int .i64 ho]) ∧ Below V.heap.size V w') (rIntOf : ∀ V, Calls Tryz.prog 49 #[.int .i64 a, .int .i64 d] V fun e w' => e = .returned (.agg #[.bool eo, .int .i64 lo, .int .i64 ho]) ∧ Below V.heap.size V w') (sIntTop : ∀ V, Calls Tryz.prog 50 #[] V fun e w' => e = .returned (.agg #[.bool et, .int .i64 lt, .int .i64 ht]) ∧ Below V.heap.size V w') (rIntTop : ∀ V, Calls Tryz.prog 51 #[] V fun e w' => e = .returned (.agg #[.bool et, .int .i64 lt, .int .i64 ht]) ∧ Below V.heap.size V w') (hl : ∀ V, Calls Tryz.prog 23 #[] V fun e w' => e = .returned (.bool true) ∧ Below V.heap.size V w') : Calls Tryz.prog 7 #[.agg #[.bool e1, .int .i64 a, .int .i64 b], .agg #[.bool e2, .int .i64 c, .int .i64 d], sl] w fun e w' => e = .returned (.bool true) ∧ Below w.heap.size w w' := by
  have kr1 := rIntRight
  go_enter Tryz.func7, Tryz.ntmps7
  go_upto_region 1 with fail
  obtain ⟨W, hW⟩ : ∃ W, ((w.alloc (.cells #[.bool e1, .int .i64 a, .int .i64 b] 47)).alloc (.cells #[.bool e2, .int .i64 c, .int .i64 d] 47)) = W := ⟨_, rfl⟩
  have a0 : W.cell? ⟨w.heap.size, 0, none⟩ = some (.bool e1) := by rw [← hW]; simp [go_sem]
  have a1 : W.cell? ⟨w.heap.size, 1, none⟩ = some (.int .i64 a) := by rw [← hW]; simp [go_sem]
  have a2 : W.cell? ⟨w.heap.size, 2, none⟩ = some (.int .i64 b) := by rw [← hW]; simp [go_sem]
  have b0 : W.cell? ⟨w.heap.size + 1, 0, none⟩ = some (.bool e2) := by rw [← hW]; simp [go_sem]
  have b1 : W.cell? ⟨w.heap.size + 1, 1, none⟩ = some (.int .i64 c) := by rw [← hW]; simp [go_sem]
  have b2 : W.cell? ⟨w.heap.size + 1, 2, none⟩ = some (.int .i64 d) := by rw [← hW]; simp [go_sem]
  have bW : Below w.heap.size w W := by rw [← hW]; exact (sp_new (sp_new (Below.refl _ _) _) _)
  have zW : W.heap.size = w.heap.size + 2 := by rw [← hW]; simp
  rw [hW]
  clear hW
  go_region_held3 (fun w' => w'.cell? ⟨w.heap.size, 0, none⟩ = some (.bool e1) ∧ w'.cell? ⟨w.heap.size, 1, none⟩ = some (.int .i64 a) ∧ w'.cell? ⟨w.heap.size, 2, none⟩ = some (.int .i64 b) ∧ w'.cell? ⟨w.heap.size + 1, 0, none⟩ = some (.bool e2) ∧ w'.cell? ⟨w.heap.size + 1, 1, none⟩ = some (.int .i64 c) ∧ w'.cell? ⟨w.heap.size + 1, 2, none⟩ = some (.int .i64 d)) (exact ⟨a0, a1, a2, b0, b1, b2⟩)
    (first
      | (go_at_call 46; refine (sIntRight _).mono ?_; rintro e sIntRight_ ⟨rfl, g⟩; replace g : Below W.heap.size W sIntRight_ := ⟨g.os, g.tape, g.output, g.size, g.block⟩; replace bW := sp_call bW g; replace a0 := sp_cell_on g a0; replace a1 := sp_cell_on g a1; replace a2 := sp_cell_on g a2; replace b0 := sp_cell_on g b0; replace b1 := sp_cell_on g b1; replace b2 := sp_cell_on g b2; clear g)
      | (go_at_call 47; refine (rIntRight _).mono ?_; rintro e rIntRight_ ⟨rfl, g⟩; replace g : Below sIntRight_.heap.size sIntRight_ rIntRight_ := ⟨g.os, g.tape, g.output, g.size, g.block⟩; replace bW := sp_call bW g; replace a0 := sp_cell_on g a0; replace a1 := sp_cell_on g a1; replace a2 := sp_cell_on g a2; replace b0 := sp_cell_on g b0; replace b1 := sp_cell_on g b1; replace b2 := sp_cell_on g b2; clear g)
      | (go_at_call 48; refine (sIntOf _).mono ?_; rintro e sIntOf_ ⟨rfl, g⟩; replace g : Below rIntRight_.heap.size rIntRight_ sIntOf_ := ⟨g.os, g.tape, g.output, g.size, g.block⟩; replace bW := sp_call bW g; replace a0 := sp_cell_on g a0; replace a1 := sp_cell_on g a1; replace a2 := sp_cell_on g a2; replace b0 := sp_cell_on g b0; replace b1 := sp_cell_on g b1; replace b2 := sp_cell_on g b2; clear g)
      | (go_at_call 49; refine (rIntOf _).mono ?_; rintro e rIntOf_ ⟨rfl, g⟩; replace g : Below sIntOf_.heap.size sIntOf_ rIntOf_ := ⟨g.os, g.tape, g.output, g.size, g.block⟩; replace bW := sp_call bW g; replace a0 := sp_cell_on g a0; replace a1 := sp_cell_on g a1; replace a2 := sp_cell_on g a2; replace b0 := sp_cell_on g b0; replace b1 := sp_cell_on g b1; replace b2 := sp_cell_on g b2; clear g)
      | (go_at_call 50; refine (sIntTop _).mono ?_; rintro e sIntTop_ ⟨rfl, g⟩; replace g : Below rIntOf_.heap.size rIntOf_ sIntTop_ := ⟨g.os, g.tape, g.output, g.size, g.block⟩; replace bW := sp_call bW g; replace a0 := sp_cell_on g a0; replace a1 := sp_cell_on g a1; replace a2 := sp_cell_on g a2; replace b0 := sp_cell_on g b0; replace b1 := sp_cell_on g b1; replace b2 := sp_cell_on g b2; clear g)
      | (go_at_call 51; refine (rIntTop _).mono ?_; rintro e rIntTop_ ⟨rfl, g⟩; replace g : Below sIntTop_.heap.size sIntTop_ rIntTop_ := ⟨g.os, g.tape, g.output, g.size, g.block⟩; replace bW := sp_call bW g; replace a0 := sp_cell_on g a0; replace a1 := sp_cell_on g a1; replace a2 := sp_cell_on g a2; replace b0 := sp_cell_on g b0; replace b1 := sp_cell_on g b1; replace b2 := sp_cell_on g b2; clear g)
      | fail)
  go_wp2_with (first
    | (go_at_call 47; refine (kr1 _).mono ?_; rintro e vt ⟨rfl, g⟩; replace bW := sp_call bW g; replace a0 := sp_cell_on g a0; replace a1 := sp_cell_on g a1; replace a2 := sp_cell_on g a2; replace b0 := sp_cell_on g b0; replace b1 := sp_cell_on g b1; replace b2 := sp_cell_on g b2; clear g; clear kr1)
    | (go_at_call 23; refine (hl _).mono ?_; rintro e vl ⟨rfl, g⟩; replace bW := sp_call bW g; replace a0 := sp_cell_on g a0; replace a1 := sp_cell_on g a1; replace a2 := sp_cell_on g a2; replace b0 := sp_cell_on g b0; replace b1 := sp_cell_on g b1; replace b2 := sp_cell_on g b2; clear g)
    | fail)
  go_ret
  exact ⟨rfl, bW⟩
set_option maxRecDepth 100000 in
set_option maxHeartbeats 6400000 in
theorem ints_o2 (e1 : Bool) (a b : Int) (e2 : Bool) (c d : Int) (sl : Value) (lo ho lt ht : Int) (eo et : Bool) (w : World) (sIntRight : ∀ V, Calls Tryz.prog 46 #[.agg #[.bool e1, .int .i64 a, .int .i64 b]] V fun e w' => e = .returned (.bool true) ∧ Below V.heap.size V w') (rIntRight : ∀ V, Calls Tryz.prog 47 #[.agg #[.bool e1, .int .i64 a, .int .i64 b]] V fun e w' => e = .returned (.bool true) ∧ Below V.heap.size V w') (sIntOf : ∀ V, Calls Tryz.prog 48 #[.int .i64 a, .int .i64 d] V fun e w' => e = .returned (.agg #[.bool eo, .int .i64 lo, .int .i64 ho]) ∧ Below V.heap.size V w') (rIntOf : ∀ V, Calls Tryz.prog 49 #[.int .i64 a, .int .i64 d] V fun e w' => e = .returned (.agg #[.bool eo, .int .i64 lo, .int .i64 ho]) ∧ Below V.heap.size V w') (sIntTop : ∀ V, Calls Tryz.prog 50 #[] V fun e w' => e = .returned (.agg #[.bool et, .int .i64 lt, .int .i64 ht]) ∧ Below V.heap.size V w') (rIntTop : ∀ V, Calls Tryz.prog 51 #[] V fun e w' => e = .returned (.agg #[.bool et, .int .i64 lt, .int .i64 ht]) ∧ Below V.heap.size V w') (k2 : ∀ V, Calls Tryz.prog 47 #[.agg #[.bool e2, .int .i64 c, .int .i64 d]] V fun e w' => e = .returned (.bool false) ∧ Below V.heap.size V w') (hl : ∀ V, Calls Tryz.prog 23 #[] V fun e w' => e = .returned (.bool true) ∧ Below V.heap.size V w') : Calls Tryz.prog 7 #[.agg #[.bool e1, .int .i64 a, .int .i64 b], .agg #[.bool e2, .int .i64 c, .int .i64 d], sl] w fun e w' => e = .returned (.bool true) ∧ Below w.heap.size w w' := by
  have kr1 := rIntRight
  go_enter Tryz.func7, Tryz.ntmps7
  go_upto_region 1 with fail
  obtain ⟨W, hW⟩ : ∃ W, ((w.alloc (.cells #[.bool e1, .int .i64 a, .int .i64 b] 47)).alloc (.cells #[.bool e2, .int .i64 c, .int .i64 d] 47)) = W := ⟨_, rfl⟩
  have a0 : W.cell? ⟨w.heap.size, 0, none⟩ = some (.bool e1) := by rw [← hW]; simp [go_sem]
  have a1 : W.cell? ⟨w.heap.size, 1, none⟩ = some (.int .i64 a) := by rw [← hW]; simp [go_sem]
  have a2 : W.cell? ⟨w.heap.size, 2, none⟩ = some (.int .i64 b) := by rw [← hW]; simp [go_sem]
  have b0 : W.cell? ⟨w.heap.size + 1, 0, none⟩ = some (.bool e2) := by rw [← hW]; simp [go_sem]
  have b1 : W.cell? ⟨w.heap.size + 1, 1, none⟩ = some (.int .i64 c) := by rw [← hW]; simp [go_sem]
  have b2 : W.cell? ⟨w.heap.size + 1, 2, none⟩ = some (.int .i64 d) := by rw [← hW]; simp [go_sem]
  have bW : Below w.heap.size w W := by rw [← hW]; exact (sp_new (sp_new (Below.refl _ _) _) _)
  have zW : W.heap.size = w.heap.size + 2 := by rw [← hW]; simp
  rw [hW]
  clear hW
  go_region_held3 (fun w' => w'.cell? ⟨w.heap.size, 0, none⟩ = some (.bool e1) ∧ w'.cell? ⟨w.heap.size, 1, none⟩ = some (.int .i64 a) ∧ w'.cell? ⟨w.heap.size, 2, none⟩ = some (.int .i64 b) ∧ w'.cell? ⟨w.heap.size + 1, 0, none⟩ = some (.bool e2) ∧ w'.cell? ⟨w.heap.size + 1, 1, none⟩ = some (.int .i64 c) ∧ w'.cell? ⟨w.heap.size + 1, 2, none⟩ = some (.int .i64 d)) (exact ⟨a0, a1, a2, b0, b1, b2⟩)
    (first
      | (go_at_call 46; refine (sIntRight _).mono ?_; rintro e sIntRight_ ⟨rfl, g⟩; replace g : Below W.heap.size W sIntRight_ := ⟨g.os, g.tape, g.output, g.size, g.block⟩; replace bW := sp_call bW g; replace a0 := sp_cell_on g a0; replace a1 := sp_cell_on g a1; replace a2 := sp_cell_on g a2; replace b0 := sp_cell_on g b0; replace b1 := sp_cell_on g b1; replace b2 := sp_cell_on g b2; clear g)
      | (go_at_call 47; refine (rIntRight _).mono ?_; rintro e rIntRight_ ⟨rfl, g⟩; replace g : Below sIntRight_.heap.size sIntRight_ rIntRight_ := ⟨g.os, g.tape, g.output, g.size, g.block⟩; replace bW := sp_call bW g; replace a0 := sp_cell_on g a0; replace a1 := sp_cell_on g a1; replace a2 := sp_cell_on g a2; replace b0 := sp_cell_on g b0; replace b1 := sp_cell_on g b1; replace b2 := sp_cell_on g b2; clear g)
      | (go_at_call 48; refine (sIntOf _).mono ?_; rintro e sIntOf_ ⟨rfl, g⟩; replace g : Below rIntRight_.heap.size rIntRight_ sIntOf_ := ⟨g.os, g.tape, g.output, g.size, g.block⟩; replace bW := sp_call bW g; replace a0 := sp_cell_on g a0; replace a1 := sp_cell_on g a1; replace a2 := sp_cell_on g a2; replace b0 := sp_cell_on g b0; replace b1 := sp_cell_on g b1; replace b2 := sp_cell_on g b2; clear g)
      | (go_at_call 49; refine (rIntOf _).mono ?_; rintro e rIntOf_ ⟨rfl, g⟩; replace g : Below sIntOf_.heap.size sIntOf_ rIntOf_ := ⟨g.os, g.tape, g.output, g.size, g.block⟩; replace bW := sp_call bW g; replace a0 := sp_cell_on g a0; replace a1 := sp_cell_on g a1; replace a2 := sp_cell_on g a2; replace b0 := sp_cell_on g b0; replace b1 := sp_cell_on g b1; replace b2 := sp_cell_on g b2; clear g)
      | (go_at_call 50; refine (sIntTop _).mono ?_; rintro e sIntTop_ ⟨rfl, g⟩; replace g : Below rIntOf_.heap.size rIntOf_ sIntTop_ := ⟨g.os, g.tape, g.output, g.size, g.block⟩; replace bW := sp_call bW g; replace a0 := sp_cell_on g a0; replace a1 := sp_cell_on g a1; replace a2 := sp_cell_on g a2; replace b0 := sp_cell_on g b0; replace b1 := sp_cell_on g b1; replace b2 := sp_cell_on g b2; clear g)
      | (go_at_call 51; refine (rIntTop _).mono ?_; rintro e rIntTop_ ⟨rfl, g⟩; replace g : Below sIntTop_.heap.size sIntTop_ rIntTop_ := ⟨g.os, g.tape, g.output, g.size, g.block⟩; replace bW := sp_call bW g; replace a0 := sp_cell_on g a0; replace a1 := sp_cell_on g a1; replace a2 := sp_cell_on g a2; replace b0 := sp_cell_on g b0; replace b1 := sp_cell_on g b1; replace b2 := sp_cell_on g b2; clear g)
      | fail)
  go_wp2_with (first
    | (go_at_call 47; refine (kr1 _).mono ?_; rintro e vt ⟨rfl, g⟩; replace bW := sp_call bW g; replace a0 := sp_cell_on g a0; replace a1 := sp_cell_on g a1; replace a2 := sp_cell_on g a2; replace b0 := sp_cell_on g b0; replace b1 := sp_cell_on g b1; replace b2 := sp_cell_on g b2; clear g; clear kr1)
    | (go_at_call 47; refine (k2 _).mono ?_; rintro e vu ⟨rfl, g⟩; replace bW := sp_call bW g; replace a0 := sp_cell_on g a0; replace a1 := sp_cell_on g a1; replace a2 := sp_cell_on g a2; replace b0 := sp_cell_on g b0; replace b1 := sp_cell_on g b1; replace b2 := sp_cell_on g b2; clear g)
    | (go_at_call 23; refine (hl _).mono ?_; rintro e vl ⟨rfl, g⟩; replace bW := sp_call bW g; replace a0 := sp_cell_on g a0; replace a1 := sp_cell_on g a1; replace a2 := sp_cell_on g a2; replace b0 := sp_cell_on g b0; replace b1 := sp_cell_on g b1; replace b2 := sp_cell_on g b2; clear g)
    | fail)
  go_ret
  exact ⟨rfl, bW⟩
end Go.Proofs.YtdehcmajhdhcaaaGreat
