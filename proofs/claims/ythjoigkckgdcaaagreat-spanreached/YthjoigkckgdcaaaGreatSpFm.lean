/- span's exported calls of floats: Has, Within, Meet, Join. -/
import Derived.Test.YthjoigkckgdcaaaGreatSpFw
import Derived.Test.YthjoigkckgdcaaaGreatSpHf
import Derived.Test.YthjoigkckgdcaaaGreatSpJf
import Derived.Test.YthjoigkckgdcaaaGreatSpQ
namespace Go.Proofs.YthjoigkckgdcaaaGreat
open Go.RowKit
set_option linter.unusedVariables false
set_option linter.unusedSimpArgs false
set_option maxRecDepth 100000 in
set_option maxHeartbeats 6400000 in
theorem fhas_of (f : Int) (e1 : Bool) (a b : Int) (x : Int) (r : Bool) (h : ∀ L B w0, FlAt f L B w0 → ∀ V, Below B w0 V → Calls Tryz.prog 84 #[.agg (lvf L), .agg #[.bool e1, .int .u64 a, .int .u64 b], .int .u64 x] V fun e w' => e = .returned (.bool r) ∧ Below V.heap.size V w') (w : World) :
    Calls Tryz.prog 24 #[.int .i64 f, .agg #[.bool e1, .int .u64 a, .int .u64 b], .int .u64 x] w fun e w' => e = .returned (.bool r) ∧ Below w.heap.size w w' := by
  have h1 := floats_at f
  have ho1 := ofFloats_any
  have ho2 := ofFloats_any
  go_enter Tryz.func24, Tryz.ntmps24
  go_wp2_with fail
  obtain ⟨W, hW⟩ : ∃ W, (w.alloc (.cells #[.bool e1, .int .u64 a, .int .u64 b] 25)) = W := ⟨_, rfl⟩
  have a0 : W.cell? ⟨w.heap.size, 0, none⟩ = some (.bool e1) := by rw [← hW]; simp [go_sem]
  have a1 : W.cell? ⟨w.heap.size, 1, none⟩ = some (.int .u64 a) := by rw [← hW]; simp [go_sem]
  have a2 : W.cell? ⟨w.heap.size, 2, none⟩ = some (.int .u64 b) := by rw [← hW]; simp [go_sem]
  have bW : Below w.heap.size w W := by rw [← hW]; exact (sp_new (Below.refl _ _) _)
  have zW : W.heap.size = w.heap.size + 1 := by rw [← hW]; simp
  rw [hW]
  clear hW
  go_region_held3 (fun w' => w'.cell? ⟨w.heap.size, 0, none⟩ = some (.bool e1) ∧ w'.cell? ⟨w.heap.size, 1, none⟩ = some (.int .u64 a) ∧ w'.cell? ⟨w.heap.size, 2, none⟩ = some (.int .u64 b)) (exact ⟨a0, a1, a2⟩)
    (first
      | (go_at_call 74; refine (h1 _).mono ?_; rintro e v1 ⟨L, rfl, hL, g⟩; replace g : Below W.heap.size W v1 := ⟨g.os, g.tape, g.output, g.size, g.block⟩; replace bW := sp_call bW g; replace a0 := sp_cell_on g a0; replace a1 := sp_cell_on g a1; replace a2 := sp_cell_on g a2; have oL : Below v1.heap.size v1 v1 := Below.refl _ _; clear g)
      | (go_at_call 76; refine (ho1 _ _ _ _).mono ?_; rintro e v2 ⟨rfl, g⟩; replace g : Below v1.heap.size v1 v2 := ⟨g.os, g.tape, g.output, g.size, g.block⟩; replace bW := sp_call bW g; replace a0 := sp_cell_on g a0; replace a1 := sp_cell_on g a1; replace a2 := sp_cell_on g a2; replace oL := sp_call oL g; clear g; clear ho1)
      | (go_at_call 84; refine (h L _ _ hL _ (by first | exact oL | exact oL.drew)).mono ?_; rintro e v9 ⟨rfl, g⟩; replace g : Below v2.heap.size v2 v9 := ⟨g.os, g.tape, g.output, g.size, g.block⟩; replace bW := sp_call bW g; replace a0 := sp_cell_on g a0; replace a1 := sp_cell_on g a1; replace a2 := sp_cell_on g a2; clear g)
      | fail)
  all_goals go_wp2
  all_goals go_ret
  all_goals exact ⟨rfl, bW⟩
set_option maxRecDepth 100000 in
set_option maxHeartbeats 6400000 in
theorem fwithin_of (f : Int) (e1 : Bool) (a b : Int) (e2 : Bool) (c d : Int) (r : Bool) (h : ∀ L B w0, FlAt f L B w0 → ∀ V, Below B w0 V → Calls Tryz.prog 87 #[.agg (lvf L), .agg #[.bool e1, .int .u64 a, .int .u64 b], .agg #[.bool e2, .int .u64 c, .int .u64 d]] V fun e w' => e = .returned (.bool r) ∧ Below V.heap.size V w') (w : World) :
    Calls Tryz.prog 30 #[.int .i64 f, .agg #[.bool e1, .int .u64 a, .int .u64 b], .agg #[.bool e2, .int .u64 c, .int .u64 d]] w fun e w' => e = .returned (.bool r) ∧ Below w.heap.size w w' := by
  have h1 := floats_at f
  have ho1 := ofFloats_any
  have ho2 := ofFloats_any
  go_enter Tryz.func30, Tryz.ntmps30
  go_wp2_with fail
  obtain ⟨W, hW⟩ : ∃ W, ((w.alloc (.cells #[.bool e1, .int .u64 a, .int .u64 b] 25)).alloc (.cells #[.bool e2, .int .u64 c, .int .u64 d] 25)) = W := ⟨_, rfl⟩
  have a0 : W.cell? ⟨w.heap.size, 0, none⟩ = some (.bool e1) := by rw [← hW]; simp [go_sem]
  have a1 : W.cell? ⟨w.heap.size, 1, none⟩ = some (.int .u64 a) := by rw [← hW]; simp [go_sem]
  have a2 : W.cell? ⟨w.heap.size, 2, none⟩ = some (.int .u64 b) := by rw [← hW]; simp [go_sem]
  have b0 : W.cell? ⟨w.heap.size + 1, 0, none⟩ = some (.bool e2) := by rw [← hW]; simp [go_sem]
  have b1 : W.cell? ⟨w.heap.size + 1, 1, none⟩ = some (.int .u64 c) := by rw [← hW]; simp [go_sem]
  have b2 : W.cell? ⟨w.heap.size + 1, 2, none⟩ = some (.int .u64 d) := by rw [← hW]; simp [go_sem]
  have bW : Below w.heap.size w W := by rw [← hW]; exact (sp_new (sp_new (Below.refl _ _) _) _)
  have zW : W.heap.size = w.heap.size + 2 := by rw [← hW]; simp
  rw [hW]
  clear hW
  go_region_held3 (fun w' => w'.cell? ⟨w.heap.size, 0, none⟩ = some (.bool e1) ∧ w'.cell? ⟨w.heap.size, 1, none⟩ = some (.int .u64 a) ∧ w'.cell? ⟨w.heap.size, 2, none⟩ = some (.int .u64 b) ∧ w'.cell? ⟨w.heap.size + 1, 0, none⟩ = some (.bool e2) ∧ w'.cell? ⟨w.heap.size + 1, 1, none⟩ = some (.int .u64 c) ∧ w'.cell? ⟨w.heap.size + 1, 2, none⟩ = some (.int .u64 d)) (exact ⟨a0, a1, a2, b0, b1, b2⟩)
    (first
      | (go_at_call 74; refine (h1 _).mono ?_; rintro e v1 ⟨L, rfl, hL, g⟩; replace g : Below W.heap.size W v1 := ⟨g.os, g.tape, g.output, g.size, g.block⟩; replace bW := sp_call bW g; replace a0 := sp_cell_on g a0; replace a1 := sp_cell_on g a1; replace a2 := sp_cell_on g a2; replace b0 := sp_cell_on g b0; replace b1 := sp_cell_on g b1; replace b2 := sp_cell_on g b2; have oL : Below v1.heap.size v1 v1 := Below.refl _ _; clear g)
      | (go_at_call 76; refine (ho1 _ _ _ _).mono ?_; rintro e v2 ⟨rfl, g⟩; replace g : Below v1.heap.size v1 v2 := ⟨g.os, g.tape, g.output, g.size, g.block⟩; replace bW := sp_call bW g; replace a0 := sp_cell_on g a0; replace a1 := sp_cell_on g a1; replace a2 := sp_cell_on g a2; replace b0 := sp_cell_on g b0; replace b1 := sp_cell_on g b1; replace b2 := sp_cell_on g b2; replace oL := sp_call oL g; clear g; clear ho1)
      | (go_at_call 76; refine (ho2 _ _ _ _).mono ?_; rintro e v3 ⟨rfl, g⟩; replace g : Below v2.heap.size v2 v3 := ⟨g.os, g.tape, g.output, g.size, g.block⟩; replace bW := sp_call bW g; replace a0 := sp_cell_on g a0; replace a1 := sp_cell_on g a1; replace a2 := sp_cell_on g a2; replace b0 := sp_cell_on g b0; replace b1 := sp_cell_on g b1; replace b2 := sp_cell_on g b2; replace oL := sp_call oL g; clear g)
      | (go_at_call 87; refine (h L _ _ hL _ (by first | exact oL | exact oL.drew)).mono ?_; rintro e v9 ⟨rfl, g⟩; replace g : Below v3.heap.size v3 v9 := ⟨g.os, g.tape, g.output, g.size, g.block⟩; replace bW := sp_call bW g; replace a0 := sp_cell_on g a0; replace a1 := sp_cell_on g a1; replace a2 := sp_cell_on g a2; replace b0 := sp_cell_on g b0; replace b1 := sp_cell_on g b1; replace b2 := sp_cell_on g b2; clear g)
      | fail)
  all_goals go_wp2
  all_goals go_ret
  all_goals exact ⟨rfl, bW⟩
set_option maxRecDepth 100000 in
set_option maxHeartbeats 6400000 in
theorem meetF_of (f : Int) (e1 : Bool) (a b : Int) (e2 : Bool) (c d : Int) (me : Bool) (mlo mhi : Int) (h : ∀ L B w0, FlAt f L B w0 → ∀ V, Below B w0 V → Calls Tryz.prog 85 #[.agg (lvf L), .agg #[.bool e1, .int .u64 a, .int .u64 b], .agg #[.bool e2, .int .u64 c, .int .u64 d]] V fun e w' => e = .returned (.agg #[.bool me, .int .u64 mlo, .int .u64 mhi]) ∧ Below V.heap.size V w') (w : World) :
    Calls Tryz.prog 26 #[.int .i64 f, .agg #[.bool e1, .int .u64 a, .int .u64 b], .agg #[.bool e2, .int .u64 c, .int .u64 d]] w fun e w' => e = .returned (.agg #[.bool me, .int .u64 mlo, .int .u64 mhi]) ∧ Below w.heap.size w w' := by
  have h1 := floats_at f
  have h5 := floatRange_any me mlo mhi
  have ho1 := ofFloats_any
  have ho2 := ofFloats_any
  go_enter Tryz.func26, Tryz.ntmps26
  go_wp2_with fail
  obtain ⟨W, hW⟩ : ∃ W, (((w.alloc (.cells #[.bool e1, .int .u64 a, .int .u64 b] 25)).alloc (.cells #[.bool e2, .int .u64 c, .int .u64 d] 25)).alloc (.cells #[.bool false, .int .u64 0, .int .u64 0] 25)) = W := ⟨_, rfl⟩
  have a0 : W.cell? ⟨w.heap.size, 0, none⟩ = some (.bool e1) := by rw [← hW]; simp [go_sem]
  have a1 : W.cell? ⟨w.heap.size, 1, none⟩ = some (.int .u64 a) := by rw [← hW]; simp [go_sem]
  have a2 : W.cell? ⟨w.heap.size, 2, none⟩ = some (.int .u64 b) := by rw [← hW]; simp [go_sem]
  have b0 : W.cell? ⟨w.heap.size + 1, 0, none⟩ = some (.bool e2) := by rw [← hW]; simp [go_sem]
  have b1 : W.cell? ⟨w.heap.size + 1, 1, none⟩ = some (.int .u64 c) := by rw [← hW]; simp [go_sem]
  have b2 : W.cell? ⟨w.heap.size + 1, 2, none⟩ = some (.int .u64 d) := by rw [← hW]; simp [go_sem]
  have r0 : W.cell? ⟨w.heap.size + 1 + 1, 0, none⟩ = some (.bool false) := by rw [← hW]; simp [go_sem]
  have r1 : W.cell? ⟨w.heap.size + 1 + 1, 1, none⟩ = some (.int .u64 0) := by rw [← hW]; simp [go_sem]
  have r2 : W.cell? ⟨w.heap.size + 1 + 1, 2, none⟩ = some (.int .u64 0) := by rw [← hW]; simp [go_sem]
  have bW : Below w.heap.size w W := by rw [← hW]; exact (sp_new (sp_new (sp_new (Below.refl _ _) _) _) _)
  have zW : W.heap.size = w.heap.size + 3 := by rw [← hW]; simp
  have fz : ∀ j, W.frozen? ⟨w.heap.size + 1 + 1, j, none⟩ = false := by intro j; rw [← hW]; simp [go_sem]
  rw [hW]
  clear hW
  replace zW := Nat.le_of_eq zW.symm
  go_region_held3 (fun w' => w'.cell? ⟨w.heap.size, 0, none⟩ = some (.bool e1) ∧ w'.cell? ⟨w.heap.size, 1, none⟩ = some (.int .u64 a) ∧ w'.cell? ⟨w.heap.size, 2, none⟩ = some (.int .u64 b) ∧ w'.cell? ⟨w.heap.size + 1, 0, none⟩ = some (.bool e2) ∧ w'.cell? ⟨w.heap.size + 1, 1, none⟩ = some (.int .u64 c) ∧ w'.cell? ⟨w.heap.size + 1, 2, none⟩ = some (.int .u64 d)) (first | exact ⟨a0, a1, a2, b0, b1, b2⟩ | exact ⟨sp_keep3 a0 (by omega) _ _ _, sp_keep3 a1 (by omega) _ _ _, sp_keep3 a2 (by omega) _ _ _, sp_keep3 b0 (by omega) _ _ _, sp_keep3 b1 (by omega) _ _ _, sp_keep3 b2 (by omega) _ _ _⟩)
    (first
      | (go_at_call 74; refine (h1 _).mono ?_; rintro e v1 ⟨L, rfl, hL, g⟩; replace g : Below W.heap.size W v1 := ⟨g.os, g.tape, g.output, g.size, g.block⟩; replace a0 := sp_cell_on g a0; replace a1 := sp_cell_on g a1; replace a2 := sp_cell_on g a2; replace b0 := sp_cell_on g b0; replace b1 := sp_cell_on g b1; replace b2 := sp_cell_on g b2; replace r0 := sp_cell_on g r0; replace r1 := sp_cell_on g r1; replace r2 := sp_cell_on g r2; replace bW := sp_call bW g; replace fz : ∀ j, v1.frozen? ⟨w.heap.size + 1 + 1, j, none⟩ = false := fun j => (g.frozen (p := ⟨w.heap.size + 1 + 1, j, none⟩) (by simp; omega)).trans (fz j); have z_v1 := g.size; have oL : Below v1.heap.size v1 v1 := Below.refl _ _; clear g)
      | (go_at_call 76; refine (ho1 _ _ _ _).mono ?_; rintro e v2 ⟨rfl, g⟩; replace g : Below v1.heap.size v1 v2 := ⟨g.os, g.tape, g.output, g.size, g.block⟩; replace a0 := sp_cell_on g a0; replace a1 := sp_cell_on g a1; replace a2 := sp_cell_on g a2; replace b0 := sp_cell_on g b0; replace b1 := sp_cell_on g b1; replace b2 := sp_cell_on g b2; replace r0 := sp_cell_on g r0; replace r1 := sp_cell_on g r1; replace r2 := sp_cell_on g r2; replace bW := sp_call bW g; replace fz : ∀ j, v2.frozen? ⟨w.heap.size + 1 + 1, j, none⟩ = false := fun j => (g.frozen (p := ⟨w.heap.size + 1 + 1, j, none⟩) (by simp; omega)).trans (fz j); have z_v2 := g.size; replace oL := sp_call oL g; clear g; clear ho1)
      | (go_at_call 76; refine (ho2 _ _ _ _).mono ?_; rintro e v3 ⟨rfl, g⟩; replace g : Below v2.heap.size v2 v3 := ⟨g.os, g.tape, g.output, g.size, g.block⟩; replace a0 := sp_cell_on g a0; replace a1 := sp_cell_on g a1; replace a2 := sp_cell_on g a2; replace b0 := sp_cell_on g b0; replace b1 := sp_cell_on g b1; replace b2 := sp_cell_on g b2; replace r0 := sp_cell_on g r0; replace r1 := sp_cell_on g r1; replace r2 := sp_cell_on g r2; replace bW := sp_call bW g; replace fz : ∀ j, v3.frozen? ⟨w.heap.size + 1 + 1, j, none⟩ = false := fun j => (g.frozen (p := ⟨w.heap.size + 1 + 1, j, none⟩) (by simp; omega)).trans (fz j); have z_v3 := g.size; replace oL := sp_call oL g; clear g)
      | (go_at_call 85; refine (h L _ _ hL _ (by first | exact oL | exact oL.drew)).mono ?_; rintro e v4 ⟨rfl, g⟩; replace g : Below v3.heap.size v3 v4 := ⟨g.os, g.tape, g.output, g.size, g.block⟩; replace a0 := sp_cell_on g a0; replace a1 := sp_cell_on g a1; replace a2 := sp_cell_on g a2; replace b0 := sp_cell_on g b0; replace b1 := sp_cell_on g b1; replace b2 := sp_cell_on g b2; replace r0 := sp_cell_on g r0; replace r1 := sp_cell_on g r1; replace r2 := sp_cell_on g r2; replace bW := sp_call bW g; replace fz : ∀ j, v4.frozen? ⟨w.heap.size + 1 + 1, j, none⟩ = false := fun j => (g.frozen (p := ⟨w.heap.size + 1 + 1, j, none⟩) (by simp; omega)).trans (fz j); have z_v4 := g.size; clear g)
      | (go_at_call 78; refine (h5 _).mono ?_; rintro e v5 ⟨rfl, g⟩; replace g : Below v4.heap.size v4 v5 := ⟨g.os, g.tape, g.output, g.size, g.block⟩; replace a0 := sp_cell_on g a0; replace a1 := sp_cell_on g a1; replace a2 := sp_cell_on g a2; replace b0 := sp_cell_on g b0; replace b1 := sp_cell_on g b1; replace b2 := sp_cell_on g b2; replace r0 := sp_cell_on g r0; replace r1 := sp_cell_on g r1; replace r2 := sp_cell_on g r2; replace bW := sp_call bW g; replace fz : ∀ j, v5.frozen? ⟨w.heap.size + 1 + 1, j, none⟩ = false := fun j => (g.frozen (p := ⟨w.heap.size + 1 + 1, j, none⟩) (by simp; omega)).trans (fz j); have z_v5 := g.size; clear g)
      | fail)
  all_goals go_wp2
  all_goals exact bodyPost_ret (v := .agg #[.bool me, .int .u64 mlo, .int .u64 mhi]) (by simp [results, Tryz.results26, go_sem, r0, r1, r2]) rfl ⟨rfl, sp_set3 bW (by omega) _ _ _⟩
set_option maxRecDepth 100000 in
set_option maxHeartbeats 6400000 in
theorem joinF_of (f : Int) (e1 : Bool) (a b : Int) (e2 : Bool) (c d : Int) (me : Bool) (mlo mhi : Int) (h : ∀ L B w0, FlAt f L B w0 → ∀ V, Below B w0 V → Calls Tryz.prog 86 #[.agg (lvf L), .agg #[.bool e1, .int .u64 a, .int .u64 b], .agg #[.bool e2, .int .u64 c, .int .u64 d]] V fun e w' => e = .returned (.agg #[.bool me, .int .u64 mlo, .int .u64 mhi]) ∧ Below V.heap.size V w') (w : World) :
    Calls Tryz.prog 28 #[.int .i64 f, .agg #[.bool e1, .int .u64 a, .int .u64 b], .agg #[.bool e2, .int .u64 c, .int .u64 d]] w fun e w' => e = .returned (.agg #[.bool me, .int .u64 mlo, .int .u64 mhi]) ∧ Below w.heap.size w w' := by
  have h1 := floats_at f
  have h5 := floatRange_any me mlo mhi
  have ho1 := ofFloats_any
  have ho2 := ofFloats_any
  go_enter Tryz.func28, Tryz.ntmps28
  go_wp2_with fail
  obtain ⟨W, hW⟩ : ∃ W, (((w.alloc (.cells #[.bool e1, .int .u64 a, .int .u64 b] 25)).alloc (.cells #[.bool e2, .int .u64 c, .int .u64 d] 25)).alloc (.cells #[.bool false, .int .u64 0, .int .u64 0] 25)) = W := ⟨_, rfl⟩
  have a0 : W.cell? ⟨w.heap.size, 0, none⟩ = some (.bool e1) := by rw [← hW]; simp [go_sem]
  have a1 : W.cell? ⟨w.heap.size, 1, none⟩ = some (.int .u64 a) := by rw [← hW]; simp [go_sem]
  have a2 : W.cell? ⟨w.heap.size, 2, none⟩ = some (.int .u64 b) := by rw [← hW]; simp [go_sem]
  have b0 : W.cell? ⟨w.heap.size + 1, 0, none⟩ = some (.bool e2) := by rw [← hW]; simp [go_sem]
  have b1 : W.cell? ⟨w.heap.size + 1, 1, none⟩ = some (.int .u64 c) := by rw [← hW]; simp [go_sem]
  have b2 : W.cell? ⟨w.heap.size + 1, 2, none⟩ = some (.int .u64 d) := by rw [← hW]; simp [go_sem]
  have r0 : W.cell? ⟨w.heap.size + 1 + 1, 0, none⟩ = some (.bool false) := by rw [← hW]; simp [go_sem]
  have r1 : W.cell? ⟨w.heap.size + 1 + 1, 1, none⟩ = some (.int .u64 0) := by rw [← hW]; simp [go_sem]
  have r2 : W.cell? ⟨w.heap.size + 1 + 1, 2, none⟩ = some (.int .u64 0) := by rw [← hW]; simp [go_sem]
  have bW : Below w.heap.size w W := by rw [← hW]; exact (sp_new (sp_new (sp_new (Below.refl _ _) _) _) _)
  have zW : W.heap.size = w.heap.size + 3 := by rw [← hW]; simp
  have fz : ∀ j, W.frozen? ⟨w.heap.size + 1 + 1, j, none⟩ = false := by intro j; rw [← hW]; simp [go_sem]
  rw [hW]
  clear hW
  replace zW := Nat.le_of_eq zW.symm
  go_region_held3 (fun w' => w'.cell? ⟨w.heap.size, 0, none⟩ = some (.bool e1) ∧ w'.cell? ⟨w.heap.size, 1, none⟩ = some (.int .u64 a) ∧ w'.cell? ⟨w.heap.size, 2, none⟩ = some (.int .u64 b) ∧ w'.cell? ⟨w.heap.size + 1, 0, none⟩ = some (.bool e2) ∧ w'.cell? ⟨w.heap.size + 1, 1, none⟩ = some (.int .u64 c) ∧ w'.cell? ⟨w.heap.size + 1, 2, none⟩ = some (.int .u64 d)) (first | exact ⟨a0, a1, a2, b0, b1, b2⟩ | exact ⟨sp_keep3 a0 (by omega) _ _ _, sp_keep3 a1 (by omega) _ _ _, sp_keep3 a2 (by omega) _ _ _, sp_keep3 b0 (by omega) _ _ _, sp_keep3 b1 (by omega) _ _ _, sp_keep3 b2 (by omega) _ _ _⟩)
    (first
      | (go_at_call 74; refine (h1 _).mono ?_; rintro e v1 ⟨L, rfl, hL, g⟩; replace g : Below W.heap.size W v1 := ⟨g.os, g.tape, g.output, g.size, g.block⟩; replace a0 := sp_cell_on g a0; replace a1 := sp_cell_on g a1; replace a2 := sp_cell_on g a2; replace b0 := sp_cell_on g b0; replace b1 := sp_cell_on g b1; replace b2 := sp_cell_on g b2; replace r0 := sp_cell_on g r0; replace r1 := sp_cell_on g r1; replace r2 := sp_cell_on g r2; replace bW := sp_call bW g; replace fz : ∀ j, v1.frozen? ⟨w.heap.size + 1 + 1, j, none⟩ = false := fun j => (g.frozen (p := ⟨w.heap.size + 1 + 1, j, none⟩) (by simp; omega)).trans (fz j); have z_v1 := g.size; have oL : Below v1.heap.size v1 v1 := Below.refl _ _; clear g)
      | (go_at_call 76; refine (ho1 _ _ _ _).mono ?_; rintro e v2 ⟨rfl, g⟩; replace g : Below v1.heap.size v1 v2 := ⟨g.os, g.tape, g.output, g.size, g.block⟩; replace a0 := sp_cell_on g a0; replace a1 := sp_cell_on g a1; replace a2 := sp_cell_on g a2; replace b0 := sp_cell_on g b0; replace b1 := sp_cell_on g b1; replace b2 := sp_cell_on g b2; replace r0 := sp_cell_on g r0; replace r1 := sp_cell_on g r1; replace r2 := sp_cell_on g r2; replace bW := sp_call bW g; replace fz : ∀ j, v2.frozen? ⟨w.heap.size + 1 + 1, j, none⟩ = false := fun j => (g.frozen (p := ⟨w.heap.size + 1 + 1, j, none⟩) (by simp; omega)).trans (fz j); have z_v2 := g.size; replace oL := sp_call oL g; clear g; clear ho1)
      | (go_at_call 76; refine (ho2 _ _ _ _).mono ?_; rintro e v3 ⟨rfl, g⟩; replace g : Below v2.heap.size v2 v3 := ⟨g.os, g.tape, g.output, g.size, g.block⟩; replace a0 := sp_cell_on g a0; replace a1 := sp_cell_on g a1; replace a2 := sp_cell_on g a2; replace b0 := sp_cell_on g b0; replace b1 := sp_cell_on g b1; replace b2 := sp_cell_on g b2; replace r0 := sp_cell_on g r0; replace r1 := sp_cell_on g r1; replace r2 := sp_cell_on g r2; replace bW := sp_call bW g; replace fz : ∀ j, v3.frozen? ⟨w.heap.size + 1 + 1, j, none⟩ = false := fun j => (g.frozen (p := ⟨w.heap.size + 1 + 1, j, none⟩) (by simp; omega)).trans (fz j); have z_v3 := g.size; replace oL := sp_call oL g; clear g)
      | (go_at_call 86; refine (h L _ _ hL _ (by first | exact oL | exact oL.drew)).mono ?_; rintro e v4 ⟨rfl, g⟩; replace g : Below v3.heap.size v3 v4 := ⟨g.os, g.tape, g.output, g.size, g.block⟩; replace a0 := sp_cell_on g a0; replace a1 := sp_cell_on g a1; replace a2 := sp_cell_on g a2; replace b0 := sp_cell_on g b0; replace b1 := sp_cell_on g b1; replace b2 := sp_cell_on g b2; replace r0 := sp_cell_on g r0; replace r1 := sp_cell_on g r1; replace r2 := sp_cell_on g r2; replace bW := sp_call bW g; replace fz : ∀ j, v4.frozen? ⟨w.heap.size + 1 + 1, j, none⟩ = false := fun j => (g.frozen (p := ⟨w.heap.size + 1 + 1, j, none⟩) (by simp; omega)).trans (fz j); have z_v4 := g.size; clear g)
      | (go_at_call 78; refine (h5 _).mono ?_; rintro e v5 ⟨rfl, g⟩; replace g : Below v4.heap.size v4 v5 := ⟨g.os, g.tape, g.output, g.size, g.block⟩; replace a0 := sp_cell_on g a0; replace a1 := sp_cell_on g a1; replace a2 := sp_cell_on g a2; replace b0 := sp_cell_on g b0; replace b1 := sp_cell_on g b1; replace b2 := sp_cell_on g b2; replace r0 := sp_cell_on g r0; replace r1 := sp_cell_on g r1; replace r2 := sp_cell_on g r2; replace bW := sp_call bW g; replace fz : ∀ j, v5.frozen? ⟨w.heap.size + 1 + 1, j, none⟩ = false := fun j => (g.frozen (p := ⟨w.heap.size + 1 + 1, j, none⟩) (by simp; omega)).trans (fz j); have z_v5 := g.size; clear g)
      | fail)
  all_goals go_wp2
  all_goals exact bodyPost_ret (v := .agg #[.bool me, .int .u64 mlo, .int .u64 mhi]) (by simp [results, Tryz.results28, go_sem, r0, r1, r2]) rfl ⟨rfl, sp_set3 bW (by omega) _ _ _⟩
theorem meetF_any (f : Int) (e1 : Bool) (a b : Int) (e2 : Bool) (c d : Int) (ha : Word a) (hb : Word b) (hc : Word c) (hd : Word d) (w : World) :
    Calls Tryz.prog 26 #[.int .i64 f, .agg #[.bool e1, .int .u64 a, .int .u64 b], .agg #[.bool e2, .int .u64 c, .int .u64 d]] w fun e w' => e = .returned (.agg #[.bool (meetP (WyF (f == 1)) (e1, a, b) (e2, c, d)).1, .int .u64 (meetP (WyF (f == 1)) (e1, a, b) (e2, c, d)).2.1, .int .u64 (meetP (WyF (f == 1)) (e1, a, b) (e2, c, d)).2.2]) ∧ Below w.heap.size w w' :=
  meetF_of f e1 a b e2 c d _ _ _ (fun L B w0 hL V ok => meet_f (fl_acts hL) e1 e2 a b c d ha hb hc hd V ok) w
theorem joinF_any (f : Int) (e1 : Bool) (a b : Int) (e2 : Bool) (c d : Int) (ha : Word a) (hb : Word b) (hc : Word c) (hd : Word d) (w : World) :
    Calls Tryz.prog 28 #[.int .i64 f, .agg #[.bool e1, .int .u64 a, .int .u64 b], .agg #[.bool e2, .int .u64 c, .int .u64 d]] w fun e w' => e = .returned (.agg #[.bool (joinP (WyF (f == 1)) (e1, a, b) (e2, c, d)).1, .int .u64 (joinP (WyF (f == 1)) (e1, a, b) (e2, c, d)).2.1, .int .u64 (joinP (WyF (f == 1)) (e1, a, b) (e2, c, d)).2.2]) ∧ Below w.heap.size w w' :=
  joinF_of f e1 a b e2 c d _ _ _ (fun L B w0 hL V ok => join_f (fl_acts hL) e1 e2 a b c d ha hb hc hd V ok) w
theorem hasF_any (f : Int) (e1 : Bool) (a b x : Int) (ha : Word a) (hb : Word b) (hx : Word x) (w : World) :
    Calls Tryz.prog 24 #[.int .i64 f, .agg #[.bool e1, .int .u64 a, .int .u64 b], .int .u64 x] w fun e w' => e = .returned (.bool (hasP (WyF (f == 1)) (e1, a, b) x)) ∧ Below w.heap.size w w' :=
  fhas_of f e1 a b x _ (fun L B w0 hL V ok => has_f (fl_acts hL) e1 a b x ha hb hx (n_plainw _ _ hx) V ok) w
theorem withinF_any (f : Int) (e1 : Bool) (a b : Int) (e2 : Bool) (c d : Int) (ha : Word a) (hb : Word b) (hc : Word c) (hd : Word d) (w : World) :
    Calls Tryz.prog 30 #[.int .i64 f, .agg #[.bool e1, .int .u64 a, .int .u64 b], .agg #[.bool e2, .int .u64 c, .int .u64 d]] w fun e w' => e = .returned (.bool (withinP (WyF (f == 1)) (e1, a, b) (e2, c, d))) ∧ Below w.heap.size w w' :=
  fwithin_of f e1 a b e2 c d _ (fun L B w0 hL V ok => within_f (fl_acts hL) e1 e2 a b c d ha hb hc hd V ok) w
end Go.Proofs.YthjoigkckgdcaaaGreat

