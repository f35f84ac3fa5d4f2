/- linear.outward. -/
import Derived.Test.YteafnkimcidkhaaGreatYRG1
namespace Go.Proofs.YteafnkimcidkhaaGreat
open Go.RowKit
set_option linter.unusedVariables false
set_option linter.unusedSimpArgs false
set_option maxRecDepth 100000 in
set_option maxHeartbeats 6400000 in
theorem liout_no (kb : Nat) (eby : ∀ args w, (callFunc kb args).run Tryz.prog w = .ok (.enter kb args) w) (e1 : Bool) (a b : Int) (e2 : Bool) (c d : Int) (r1' r2' : Bool) (h : (r1' && r2') = false) (k1 : ∀ V, Calls Tryz.prog 77 #[.agg #[.bool e1, .int .u64 a, .int .u64 b]] V fun e w' => e = .returned (.bool r1') ∧ Below V.heap.size V w') (k2 : ∀ V, Calls Tryz.prog 77 #[.agg #[.bool e2, .int .u64 c, .int .u64 d]] V fun e w' => e = .returned (.bool r2') ∧ Below V.heap.size V w') (w : World) :
  Calls Tryz.prog 53 #[.func (.func kb) #[] #[], .agg #[.bool e1, .int .u64 a, .int .u64 b], .agg #[.bool e2, .int .u64 c, .int .u64 d]] w fun e w' => e = .returned (.tuple #[.agg #[.bool false, .int .u64 0, .int .u64 0], .bool false]) ∧ Below w.heap.size w w' := by
 cases r1'
 ·skip
  go_enter Tryz.func53, Tryz.ntmps53
  go_upto_region 1 with fail
  obtain ⟨W, hW⟩ : ∃ W, (((w.alloc (.cells #[.bool e1, .int .u64 a, .int .u64 b] 24)).alloc (.cells #[.bool e2, .int .u64 c, .int .u64 d] 24)).alloc (.cells #[.bool false, .int .u64 0, .int .u64 0] 24)) = W := ⟨_, rfl⟩
  have a0 : W.cell? ⟨w.heap.size, 0, none⟩ = some (.bool e1) := by rw [← hW]; simp [go_sem]
  have a1 : W.cell? ⟨w.heap.size, 1, none⟩ = some (.int .u64 a) := by rw [← hW]; simp [go_sem]
  have a2 : W.cell? ⟨w.heap.size, 2, none⟩ = some (.int .u64 b) := by rw [← hW]; simp [go_sem]
  have b0 : W.cell? ⟨w.heap.size + 1, 0, none⟩ = some (.bool e2) := by rw [← hW]; simp [go_sem]
  have b1 : W.cell? ⟨w.heap.size + 1, 1, none⟩ = some (.int .u64 c) := by rw [← hW]; simp [go_sem]
  have b2 : W.cell? ⟨w.heap.size + 1, 2, none⟩ = some (.int .u64 d) := by rw [← hW]; simp [go_sem]
  have r0 : W.cell? ⟨w.heap.size + 1 + 1, 0, none⟩ = some (.bool false) := by rw [← hW]; simp [go_sem]
  have r1 : W.cell? ⟨w.heap.size + 1 + 1, 1, none⟩ = some (.int .u64 0) := by rw [← hW]; simp [go_sem]
  have r2 : W.cell? ⟨w.heap.size + 1 + 1, 2, none⟩ = some (.int .u64 0) := by rw [← hW]; simp [go_sem]
  have bW : Below w.heap.size w W := by rw [← hW]; exact (sp_new (sp_new (sp_new (Below.refl _ _) _) _) _)
  have zW : W.heap.size = w.heap.size + 3 := by rw [← hW]; simp
  have fz : ∀ j, W.frozen? ⟨w.heap.size + 1 + 1, j, none⟩ = false := by intro j; rw [← hW]; simp [go_sem]
  rw [hW]
  clear hW
  replace zW := Nat.le_of_eq zW.symm
  go_wp2_with (first
   | (go_at_call 77; (with_reducible refine (k1 _).mono ?_); rintro e v1 ⟨rfl, g⟩; replace fz : ∀ j, v1.frozen? ⟨w.heap.size + 1 + 1, j, none⟩ = false := fun j => (g.frozen (p := ⟨w.heap.size + 1 + 1, j, none⟩) (by first | (simp; done) | (simp; omega))).trans (fz j); replace bW := sp_call bW g; replace zW := Nat.le_trans zW g.size; replace a0 := sO g a0; replace a1 := sO g a1; replace a2 := sO g a2; replace b0 := sO g b0; replace b1 := sO g b1; replace b2 := sO g b2; replace r0 := sO g r0; replace r1 := sO g r1; replace r2 := sO g r2; clear g; clear k1)
   | (go_at_call 77; (with_reducible refine (k2 _).mono ?_); rintro e v2 ⟨rfl, g⟩; replace fz : ∀ j, v2.frozen? ⟨w.heap.size + 1 + 1, j, none⟩ = false := fun j => (g.frozen (p := ⟨w.heap.size + 1 + 1, j, none⟩) (by first | (simp; done) | (simp; omega))).trans (fz j); replace bW := sp_call bW g; replace zW := Nat.le_trans zW g.size; replace a0 := sO g a0; replace a1 := sO g a1; replace a2 := sO g a2; replace b0 := sO g b0; replace b1 := sO g b1; replace b2 := sO g b2; replace r0 := sO g r0; replace r1 := sO g r1; replace r2 := sO g r2; clear g)
   | fail)
  exact bodyPost_ret (v := .tuple #[.agg #[.bool false, .int .u64 0, .int .u64 0], .bool false]) (by simp [results, Tryz.results53, go_sem, r0, r1, r2]) rfl ⟨rfl, sp_set3 bW (by omega) _ _ _⟩
 ·cases r2'
  ·skip
   go_enter Tryz.func53, Tryz.ntmps53
   go_upto_region 1 with fail
   obtain ⟨W, hW⟩ : ∃ W, (((w.alloc (.cells #[.bool e1, .int .u64 a, .int .u64 b] 24)).alloc (.cells #[.bool e2, .int .u64 c, .int .u64 d] 24)).alloc (.cells #[.bool false, .int .u64 0, .int .u64 0] 24)) = W := ⟨_, rfl⟩
   have a0 : W.cell? ⟨w.heap.size, 0, none⟩ = some (.bool e1) := by rw [← hW]; simp [go_sem]
   have a1 : W.cell? ⟨w.heap.size, 1, none⟩ = some (.int .u64 a) := by rw [← hW]; simp [go_sem]
   have a2 : W.cell? ⟨w.heap.size, 2, none⟩ = some (.int .u64 b) := by rw [← hW]; simp [go_sem]
   have b0 : W.cell? ⟨w.heap.size + 1, 0, none⟩ = some (.bool e2) := by rw [← hW]; simp [go_sem]
   have b1 : W.cell? ⟨w.heap.size + 1, 1, none⟩ = some (.int .u64 c) := by rw [← hW]; simp [go_sem]
   have b2 : W.cell? ⟨w.heap.size + 1, 2, none⟩ = some (.int .u64 d) := by rw [← hW]; simp [go_sem]
   have r0 : W.cell? ⟨w.heap.size + 1 + 1, 0, none⟩ = some (.bool false) := by rw [← hW]; simp [go_sem]
   have r1 : W.cell? ⟨w.heap.size + 1 + 1, 1, none⟩ = some (.int .u64 0) := by rw [← hW]; simp [go_sem]
   have r2 : W.cell? ⟨w.heap.size + 1 + 1, 2, none⟩ = some (.int .u64 0) := by rw [← hW]; simp [go_sem]
   have bW : Below w.heap.size w W := by rw [← hW]; exact (sp_new (sp_new (sp_new (Below.refl _ _) _) _) _)
   have zW : W.heap.size = w.heap.size + 3 := by rw [← hW]; simp
   have fz : ∀ j, W.frozen? ⟨w.heap.size + 1 + 1, j, none⟩ = false := by intro j; rw [← hW]; simp [go_sem]
   rw [hW]
   clear hW
   replace zW := Nat.le_of_eq zW.symm
   go_wp2_with (first
    | (go_at_call 77; (with_reducible refine (k1 _).mono ?_); rintro e v1 ⟨rfl, g⟩; replace fz : ∀ j, v1.frozen? ⟨w.heap.size + 1 + 1, j, none⟩ = false := fun j => (g.frozen (p := ⟨w.heap.size + 1 + 1, j, none⟩) (by first | (simp; done) | (simp; omega))).trans (fz j); replace bW := sp_call bW g; replace zW := Nat.le_trans zW g.size; replace a0 := sO g a0; replace a1 := sO g a1; replace a2 := sO g a2; replace b0 := sO g b0; replace b1 := sO g b1; replace b2 := sO g b2; replace r0 := sO g r0; replace r1 := sO g r1; replace r2 := sO g r2; clear g; clear k1)
    | (go_at_call 77; (with_reducible refine (k2 _).mono ?_); rintro e v2 ⟨rfl, g⟩; replace fz : ∀ j, v2.frozen? ⟨w.heap.size + 1 + 1, j, none⟩ = false := fun j => (g.frozen (p := ⟨w.heap.size + 1 + 1, j, none⟩) (by first | (simp; done) | (simp; omega))).trans (fz j); replace bW := sp_call bW g; replace zW := Nat.le_trans zW g.size; replace a0 := sO g a0; replace a1 := sO g a1; replace a2 := sO g a2; replace b0 := sO g b0; replace b1 := sO g b1; replace b2 := sO g b2; replace r0 := sO g r0; replace r1 := sO g r1; replace r2 := sO g r2; clear g)
    | fail)
   exact bodyPost_ret (v := .tuple #[.agg #[.bool false, .int .u64 0, .int .u64 0], .bool false]) (by simp [results, Tryz.results53, go_sem, r0, r1, r2]) rfl ⟨rfl, sp_set3 bW (by omega) _ _ _⟩
  ·cases h
set_option maxRecDepth 100000 in
set_option maxHeartbeats 6400000 in
theorem liout_em (kb : Nat) (eby : ∀ args w, (callFunc kb args).run Tryz.prog w = .ok (.enter kb args) w) (e1 : Bool) (a b : Int) (e2 : Bool) (c d : Int) (h : (e1 || e2) = true) (k1 : ∀ V, Calls Tryz.prog 77 #[.agg #[.bool e1, .int .u64 a, .int .u64 b]] V fun e w' => e = .returned (.bool true) ∧ Below V.heap.size V w') (k2 : ∀ V, Calls Tryz.prog 77 #[.agg #[.bool e2, .int .u64 c, .int .u64 d]] V fun e w' => e = .returned (.bool true) ∧ Below V.heap.size V w') (w : World) :
  Calls Tryz.prog 53 #[.func (.func kb) #[] #[], .agg #[.bool e1, .int .u64 a, .int .u64 b], .agg #[.bool e2, .int .u64 c, .int .u64 d]] w fun e w' => e = .returned (.tuple #[.agg #[.bool true, .int .u64 0, .int .u64 0], .bool true]) ∧ Below w.heap.size w w' := by
 cases e1
 ·cases e2
  ·cases h
  ·skip
   go_enter Tryz.func53, Tryz.ntmps53
   go_upto_region 1 with fail
   obtain ⟨W, hW⟩ : ∃ W, (((w.alloc (.cells #[.bool false, .int .u64 a, .int .u64 b] 24)).alloc (.cells #[.bool true, .int .u64 c, .int .u64 d] 24)).alloc (.cells #[.bool false, .int .u64 0, .int .u64 0] 24)) = W := ⟨_, rfl⟩
   have a0 : W.cell? ⟨w.heap.size, 0, none⟩ = some (.bool false) := by rw [← hW]; simp [go_sem]
   have a1 : W.cell? ⟨w.heap.size, 1, none⟩ = some (.int .u64 a) := by rw [← hW]; simp [go_sem]
   have a2 : W.cell? ⟨w.heap.size, 2, none⟩ = some (.int .u64 b) := by rw [← hW]; simp [go_sem]
   have b0 : W.cell? ⟨w.heap.size + 1, 0, none⟩ = some (.bool true) := by rw [← hW]; simp [go_sem]
   have b1 : W.cell? ⟨w.heap.size + 1, 1, none⟩ = some (.int .u64 c) := by rw [← hW]; simp [go_sem]
   have b2 : W.cell? ⟨w.heap.size + 1, 2, none⟩ = some (.int .u64 d) := by rw [← hW]; simp [go_sem]
   have r0 : W.cell? ⟨w.heap.size + 1 + 1, 0, none⟩ = some (.bool false) := by rw [← hW]; simp [go_sem]
   have r1 : W.cell? ⟨w.heap.size + 1 + 1, 1, none⟩ = some (.int .u64 0) := by rw [← hW]; simp [go_sem]
   have r2 : W.cell? ⟨w.heap.size + 1 + 1, 2, none⟩ = some (.int .u64 0) := by rw [← hW]; simp [go_sem]
   have bW : Below w.heap.size w W := by rw [← hW]; exact (sp_new (sp_new (sp_new (Below.refl _ _) _) _) _)
   have zW : W.heap.size = w.heap.size + 3 := by rw [← hW]; simp
   have fz : ∀ j, W.frozen? ⟨w.heap.size + 1 + 1, j, none⟩ = false := by intro j; rw [← hW]; simp [go_sem]
   rw [hW]
   clear hW
   replace zW := Nat.le_of_eq zW.symm
   go_wp2_with (first
    | (go_at_call 77; (with_reducible refine (k1 _).mono ?_); rintro e v1 ⟨rfl, g⟩; replace fz : ∀ j, v1.frozen? ⟨w.heap.size + 1 + 1, j, none⟩ = false := fun j => (g.frozen (p := ⟨w.heap.size + 1 + 1, j, none⟩) (by first | (simp; done) | (simp; omega))).trans (fz j); replace bW := sp_call bW g; replace zW := Nat.le_trans zW g.size; replace a0 := sO g a0; replace a1 := sO g a1; replace a2 := sO g a2; replace b0 := sO g b0; replace b1 := sO g b1; replace b2 := sO g b2; replace r0 := sO g r0; replace r1 := sO g r1; replace r2 := sO g r2; clear g; clear k1)
    | (go_at_call 77; (with_reducible refine (k2 _).mono ?_); rintro e v2 ⟨rfl, g⟩; replace fz : ∀ j, v2.frozen? ⟨w.heap.size + 1 + 1, j, none⟩ = false := fun j => (g.frozen (p := ⟨w.heap.size + 1 + 1, j, none⟩) (by first | (simp; done) | (simp; omega))).trans (fz j); replace bW := sp_call bW g; replace zW := Nat.le_trans zW g.size; replace a0 := sO g a0; replace a1 := sO g a1; replace a2 := sO g a2; replace b0 := sO g b0; replace b1 := sO g b1; replace b2 := sO g b2; replace r0 := sO g r0; replace r1 := sO g r1; replace r2 := sO g r2; clear g)
    | fail)
   exact bodyPost_ret (v := .tuple #[.agg #[.bool true, .int .u64 0, .int .u64 0], .bool true]) (by simp [results, Tryz.results53, go_sem, r0, r1, r2]) rfl ⟨rfl, sp_set3 bW (by omega) _ _ _⟩
 ·skip
  go_enter Tryz.func53, Tryz.ntmps53
  go_upto_region 1 with fail
  obtain ⟨W, hW⟩ : ∃ W, (((w.alloc (.cells #[.bool true, .int .u64 a, .int .u64 b] 24)).alloc (.cells #[.bool e2, .int .u64 c, .int .u64 d] 24)).alloc (.cells #[.bool false, .int .u64 0, .int .u64 0] 24)) = W := ⟨_, rfl⟩
  have a0 : W.cell? ⟨w.heap.size, 0, none⟩ = some (.bool true) := by rw [← hW]; simp [go_sem]
  have a1 : W.cell? ⟨w.heap.size, 1, none⟩ = some (.int .u64 a) := by rw [← hW]; simp [go_sem]
  have a2 : W.cell? ⟨w.heap.size, 2, none⟩ = some (.int .u64 b) := by rw [← hW]; simp [go_sem]
  have b0 : W.cell? ⟨w.heap.size + 1, 0, none⟩ = some (.bool e2) := by rw [← hW]; simp [go_sem]
  have b1 : W.cell? ⟨w.heap.size + 1, 1, none⟩ = some (.int .u64 c) := by rw [← hW]; simp [go_sem]
  have b2 : W.cell? ⟨w.heap.size + 1, 2, none⟩ = some (.int .u64 d) := by rw [← hW]; simp [go_sem]
  have r0 : W.cell? ⟨w.heap.size + 1 + 1, 0, none⟩ = some (.bool false) := by rw [← hW]; simp [go_sem]
  have r1 : W.cell? ⟨w.heap.size + 1 + 1, 1, none⟩ = some (.int .u64 0) := by rw [← hW]; simp [go_sem]
  have r2 : W.cell? ⟨w.heap.size + 1 + 1, 2, none⟩ = some (.int .u64 0) := by rw [← hW]; simp [go_sem]
  have bW : Below w.heap.size w W := by rw [← hW]; exact (sp_new (sp_new (sp_new (Below.refl _ _) _) _) _)
  have zW : W.heap.size = w.heap.size + 3 := by rw [← hW]; simp
  have fz : ∀ j, W.frozen? ⟨w.heap.size + 1 + 1, j, none⟩ = false := by intro j; rw [← hW]; simp [go_sem]
  rw [hW]
  clear hW
  replace zW := Nat.le_of_eq zW.symm
  go_wp2_with (first
   | (go_at_call 77; (with_reducible refine (k1 _).mono ?_); rintro e v1 ⟨rfl, g⟩; replace fz : ∀ j, v1.frozen? ⟨w.heap.size + 1 + 1, j, none⟩ = false := fun j => (g.frozen (p := ⟨w.heap.size + 1 + 1, j, none⟩) (by first | (simp; done) | (simp; omega))).trans (fz j); replace bW := sp_call bW g; replace zW := Nat.le_trans zW g.size; replace a0 := sO g a0; replace a1 := sO g a1; replace a2 := sO g a2; replace b0 := sO g b0; replace b1 := sO g b1; replace b2 := sO g b2; replace r0 := sO g r0; replace r1 := sO g r1; replace r2 := sO g r2; clear g; clear k1)
   | (go_at_call 77; (with_reducible refine (k2 _).mono ?_); rintro e v2 ⟨rfl, g⟩; replace fz : ∀ j, v2.frozen? ⟨w.heap.size + 1 + 1, j, none⟩ = false := fun j => (g.frozen (p := ⟨w.heap.size + 1 + 1, j, none⟩) (by first | (simp; done) | (simp; omega))).trans (fz j); replace bW := sp_call bW g; replace zW := Nat.le_trans zW g.size; replace a0 := sO g a0; replace a1 := sO g a1; replace a2 := sO g a2; replace b0 := sO g b0; replace b1 := sO g b1; replace b2 := sO g b2; replace r0 := sO g r0; replace r1 := sO g r1; replace r2 := sO g r2; clear g)
   | fail)
  exact bodyPost_ret (v := .tuple #[.agg #[.bool true, .int .u64 0, .int .u64 0], .bool true]) (by simp [results, Tryz.results53, go_sem, r0, r1, r2]) rfl ⟨rfl, sp_set3 bW (by omega) _ _ _⟩
theorem lix0 (a b : Int) (w : World) : (Instr.index 143 (.agg #[.int .u64 a, .int .u64 b]) (.int .i64 0)).run Tryz.prog w = .ok (.int .u64 a) w := by kernel_rfl
theorem lix1 (a b : Int) (w : World) : (Instr.index 143 (.agg #[.int .u64 a, .int .u64 b]) (.int .i64 1)).run Tryz.prog w = .ok (.int .u64 b) w := by kernel_rfl
set_option maxRecDepth 100000 in
set_option maxHeartbeats 6400000 in
theorem liout_ok (kb : Nat) (eby : ∀ args w, (callFunc kb args).run Tryz.prog w = .ok (.enter kb args) w) (a b c d x0 x1 x2 x3 y0 y1 y2 y3 l0 l1 l2 l3 h0 h1 h2 h3 : Int) (re : Bool) (rl rh : Int) (k1 : ∀ V, Calls Tryz.prog 77 #[.agg #[.bool false, .int .u64 a, .int .u64 b]] V fun e w' => e = .returned (.bool true) ∧ Below V.heap.size V w') (k2 : ∀ V, Calls Tryz.prog 77 #[.agg #[.bool false, .int .u64 c, .int .u64 d]] V fun e w' => e = .returned (.bool true) ∧ Below V.heap.size V w') (d0 : ∀ V, Calls Tryz.prog kb #[.int .i64 (0), .int .i64 (2), .int .u64 (a), .int .u64 (c)] V fun e w' => e = .returned (.int .u64 (x0)) ∧ Below V.heap.size V w') (u0 : ∀ V, Calls Tryz.prog kb #[.int .i64 (0), .int .i64 (1), .int .u64 (a), .int .u64 (c)] V fun e w' => e = .returned (.int .u64 (y0)) ∧ Below V.heap.size V w') (d1 : ∀ V, Calls Tryz.prog kb #[.int .i64 (0), .int .i64 (2), .int .u64 (a), .int .u64 (d)] V fun e w' => e = .returned (.int .u64 (x1)) ∧ Below V.heap.size V w') (u1 : ∀ V, Calls Tryz.prog kb #[.int .i64 (0), .int .i64 (1), .int .u64 (a), .int .u64 (d)] V fun e w' => e = .returned (.int .u64 (y1)) ∧ Below V.heap.size V w') (d2 : ∀ V, Calls Tryz.prog kb #[.int .i64 (0), .int .i64 (2), .int .u64 (b), .int .u64 (c)] V fun e w' => e = .returned (.int .u64 (x2)) ∧ Below V.heap.size V w') (u2 : ∀ V, Calls Tryz.prog kb #[.int .i64 (0), .int .i64 (1), .int .u64 (b), .int .u64 (c)] V fun e w' => e = .returned (.int .u64 (y2)) ∧ Below V.heap.size V w') (d3 : ∀ V, Calls Tryz.prog kb #[.int .i64 (0), .int .i64 (2), .int .u64 (b), .int .u64 (d)] V fun e w' => e = .returned (.int .u64 (x3)) ∧ Below V.heap.size V w') (u3 : ∀ V, Calls Tryz.prog kb #[.int .i64 (0), .int .i64 (1), .int .u64 (b), .int .u64 (d)] V fun e w' => e = .returned (.int .u64 (y3)) ∧ Below V.heap.size V w') (kl0 : ∀ V, Calls Tryz.prog 105 #[.int .u64 (x0), .int .u64 (x0)] V fun e w' => e = .returned (.int .u64 (l0)) ∧ Below V.heap.size V w') (kg0 : ∀ V, Calls Tryz.prog 106 #[.int .u64 (y3), .int .u64 (y0)] V fun e w' => e = .returned (.int .u64 (h0)) ∧ Below V.heap.size V w') (kl1 : ∀ V, Calls Tryz.prog 105 #[.int .u64 (l0), .int .u64 (x1)] V fun e w' => e = .returned (.int .u64 (l1)) ∧ Below V.heap.size V w') (kg1 : ∀ V, Calls Tryz.prog 106 #[.int .u64 (h0), .int .u64 (y1)] V fun e w' => e = .returned (.int .u64 (h1)) ∧ Below V.heap.size V w') (kl2 : ∀ V, Calls Tryz.prog 105 #[.int .u64 (l1), .int .u64 (x2)] V fun e w' => e = .returned (.int .u64 (l2)) ∧ Below V.heap.size V w') (kg2 : ∀ V, Calls Tryz.prog 106 #[.int .u64 (h1), .int .u64 (y2)] V fun e w' => e = .returned (.int .u64 (h2)) ∧ Below V.heap.size V w') (kl3 : ∀ V, Calls Tryz.prog 105 #[.int .u64 (l2), .int .u64 (x3)] V fun e w' => e = .returned (.int .u64 (l3)) ∧ Below V.heap.size V w') (kg3 : ∀ V, Calls Tryz.prog 106 #[.int .u64 (h2), .int .u64 (y3)] V fun e w' => e = .returned (.int .u64 (h3)) ∧ Below V.heap.size V w') (ko : ∀ V, Calls Tryz.prog 50 #[.int .i64 (0), .int .u64 (l3), .int .u64 (h3)] V fun e w' => e = .returned (.agg #[.bool re, .int .u64 rl, .int .u64 rh]) ∧ Below V.heap.size V w') (w : World) :
   Calls Tryz.prog 53 #[.func (.func kb) #[] #[], .agg #[.bool false, .int .u64 a, .int .u64 b], .agg #[.bool false, .int .u64 c, .int .u64 d]] w fun e w' => e = .returned (if re then .tuple #[.agg #[.bool false, .int .u64 0, .int .u64 0], .bool false] else .tuple #[.agg #[.bool re, .int .u64 rl, .int .u64 rh], .bool true]) ∧ Below w.heap.size w w' := by
 go_enter Tryz.func53, Tryz.ntmps53
 go_upto_region 1 with fail
 obtain ⟨W, hW⟩ : ∃ W, (((w.alloc (.cells #[.bool false, .int .u64 a, .int .u64 b] 24)).alloc (.cells #[.bool false, .int .u64 c, .int .u64 d] 24)).alloc (.cells #[.bool false, .int .u64 0, .int .u64 0] 24)) = W := ⟨_, rfl⟩
 have a0 : W.cell? ⟨w.heap.size, 0, none⟩ = some (.bool false) := by rw [← hW]; simp [go_sem]
 have a1 : W.cell? ⟨w.heap.size, 1, none⟩ = some (.int .u64 a) := by rw [← hW]; simp [go_sem]
 have a2 : W.cell? ⟨w.heap.size, 2, none⟩ = some (.int .u64 b) := by rw [← hW]; simp [go_sem]
 have b0 : W.cell? ⟨w.heap.size + 1, 0, none⟩ = some (.bool false) := by rw [← hW]; simp [go_sem]
 have b1 : W.cell? ⟨w.heap.size + 1, 1, none⟩ = some (.int .u64 c) := by rw [← hW]; simp [go_sem]
 have b2 : W.cell? ⟨w.heap.size + 1, 2, none⟩ = some (.int .u64 d) := by rw [← hW]; simp [go_sem]
 have r0 : W.cell? ⟨w.heap.size + 1 + 1, 0, none⟩ = some (.bool false) := by rw [← hW]; simp [go_sem]
 have r1 : W.cell? ⟨w.heap.size + 1 + 1, 1, none⟩ = some (.int .u64 0) := by rw [← hW]; simp [go_sem]
 have r2 : W.cell? ⟨w.heap.size + 1 + 1, 2, none⟩ = some (.int .u64 0) := by rw [← hW]; simp [go_sem]
 have bW : Below w.heap.size w W := by rw [← hW]; exact (sp_new (sp_new (sp_new (Below.refl _ _) _) _) _)
 have zW : W.heap.size = w.heap.size + 3 := by rw [← hW]; simp
 have fz : ∀ j, W.frozen? ⟨w.heap.size + 1 + 1, j, none⟩ = false := by intro j; rw [← hW]; simp [go_sem]
 rw [hW]
 clear hW
 replace zW := Nat.le_of_eq zW.symm
 go_upto_region 5 with (first
   | (go_at_call 77; (with_reducible refine (k1 _).mono ?_); rintro e v1 ⟨rfl, g⟩; replace fz : ∀ j, v1.frozen? ⟨w.heap.size + 1 + 1, j, none⟩ = false := fun j => (g.frozen (p := ⟨w.heap.size + 1 + 1, j, none⟩) (by first | (simp; done) | (simp; omega))).trans (fz j); replace bW := sp_call bW g; replace zW := Nat.le_trans zW g.size; replace a0 := sO g a0; replace a1 := sO g a1; replace a2 := sO g a2; replace b0 := sO g b0; replace b1 := sO g b1; replace b2 := sO g b2; replace r0 := sO g r0; replace r1 := sO g r1; replace r2 := sO g r2; clear g; clear k1)
   | (go_at_call 77; (with_reducible refine (k2 _).mono ?_); rintro e v2 ⟨rfl, g⟩; replace fz : ∀ j, v2.frozen? ⟨w.heap.size + 1 + 1, j, none⟩ = false := fun j => (g.frozen (p := ⟨w.heap.size + 1 + 1, j, none⟩) (by first | (simp; done) | (simp; omega))).trans (fz j); replace bW := sp_call bW g; replace zW := Nat.le_trans zW g.size; replace a0 := sO g a0; replace a1 := sO g a1; replace a2 := sO g a2; replace b0 := sO g b0; replace b1 := sO g b1; replace b2 := sO g b2; replace r0 := sO g r0; replace r1 := sO g r1; replace r2 := sO g r2; clear g)
   | fail)
 clear k2
 have cc : Below v2.heap.size v2 v2.drew := (Below.refl _ _).drew
 have hall : ∀ X9, Below v2.heap.size v2 X9 → (X9.cell? ⟨w.heap.size, 0, none⟩ = some (.bool false) ∧ X9.cell? ⟨w.heap.size, 1, none⟩ = some (.int .u64 a) ∧ X9.cell? ⟨w.heap.size, 2, none⟩ = some (.int .u64 b) ∧ X9.cell? ⟨w.heap.size + 1, 0, none⟩ = some (.bool false) ∧ X9.cell? ⟨w.heap.size + 1, 1, none⟩ = some (.int .u64 c) ∧ X9.cell? ⟨w.heap.size + 1, 2, none⟩ = some (.int .u64 d)) := fun X9 cc => ⟨sO cc a0, sO cc a1, sO cc a2, sO cc b0, sO cc b1, sO cc b2⟩
 go_cut [8, 9] from 33 to 44 (fun s u X => ∃ W3 : World, W3 = X ∧ s = .int .u64 x0 ∧ u = .int .u64 y3 ∧ Below v2.heap.size v2 X)
 case first =>
  replace cc : Below v2.heap.size v2 v2 := Below.refl _ _
  go_region_held3 (fun w' => w'.cell? ⟨w.heap.size, 0, none⟩ = some (.bool false) ∧ w'.cell? ⟨w.heap.size, 1, none⟩ = some (.int .u64 a) ∧ w'.cell? ⟨w.heap.size, 2, none⟩ = some (.int .u64 b) ∧ w'.cell? ⟨w.heap.size + 1, 0, none⟩ = some (.bool false) ∧ w'.cell? ⟨w.heap.size + 1, 1, none⟩ = some (.int .u64 c) ∧ w'.cell? ⟨w.heap.size + 1, 2, none⟩ = some (.int .u64 d)) (exact hall _ (by first | with_reducible exact cc | with_reducible exact cc.drew))
   (first
     | (go_at_fn kb; (with_reducible refine (d0 _).mono ?_); rintro e X1 ⟨rfl, g⟩; replace cc := sp_call (show Below v2.heap.size v2 _ by first | with_reducible exact cc | with_reducible exact cc.drew) g; clear g)
     | (go_at_fn kb; (with_reducible refine (u3 _).mono ?_); rintro e X2 ⟨rfl, g⟩; replace cc := sp_call (show Below v2.heap.size v2 _ by first | with_reducible exact cc | with_reducible exact cc.drew) g; clear g)
     | fail)
  all_goals go_wp2
  all_goals go_meet
  all_goals exact ⟨_, rfl, rfl, rfl, cc⟩
 case rest =>
  obtain ⟨W3, rfl, rfl, rfl, cX⟩ := hcut
  replace a0 := sO cX a0; replace a1 := sO cX a1; replace a2 := sO cX a2; replace b0 := sO cX b0; replace b1 := sO cX b1; replace b2 := sO cX b2; replace r0 := sO cX r0; replace r1 := sO cX r1; replace r2 := sO cX r2
  replace fz : ∀ j, W3.frozen? ⟨w.heap.size + 1 + 1, j, none⟩ = false := fun j => (cX.frozen (p := ⟨w.heap.size + 1 + 1, j, none⟩) (by first | (simp; done) | (simp; omega))).trans (fz j)
  replace bW := sp_call bW cX
  replace zW := Nat.le_trans zW cX.size
  clear cX cc hall
  have hi0 := lix0
  have hi1 := lix1
  go_wp2_with fail
  refine wp_loop_rounds 3 ?_
  rw [rounds_succ]
  go_wp2_with fail
  refine wp_loop_rounds 3 ?_
  rw [rounds_succ]
  go_wp2_with (first
    | (go_at_fn kb; (with_reducible refine (d0 _).mono ?_); rintro e p0 ⟨rfl, g⟩; replace fz : ∀ j, p0.frozen? ⟨w.heap.size + 1 + 1, j, none⟩ = false := fun j => (g.frozen (p := ⟨w.heap.size + 1 + 1, j, none⟩) (by first | (simp; done) | (simp; omega))).trans (fz j); replace bW := sp_call bW g; replace zW := Nat.le_trans zW g.size; replace a0 := sO g a0; replace a1 := sO g a1; replace a2 := sO g a2; replace b0 := sO g b0; replace b1 := sO g b1; replace b2 := sO g b2; replace r0 := sO g r0; replace r1 := sO g r1; replace r2 := sO g r2; clear g)
    | (go_at_call 105; (with_reducible refine (kl0 _).mono ?_); rintro e q0 ⟨rfl, g⟩; replace fz : ∀ j, q0.frozen? ⟨w.heap.size + 1 + 1, j, none⟩ = false := fun j => (g.frozen (p := ⟨w.heap.size + 1 + 1, j, none⟩) (by first | (simp; done) | (simp; omega))).trans (fz j); replace bW := sp_call bW g; replace zW := Nat.le_trans zW g.size; replace a0 := sO g a0; replace a1 := sO g a1; replace a2 := sO g a2; replace b0 := sO g b0; replace b1 := sO g b1; replace b2 := sO g b2; replace r0 := sO g r0; replace r1 := sO g r1; replace r2 := sO g r2; clear g)
    | (go_at_fn kb; (with_reducible refine (u0 _).mono ?_); rintro e s0 ⟨rfl, g⟩; replace fz : ∀ j, s0.frozen? ⟨w.heap.size + 1 + 1, j, none⟩ = false := fun j => (g.frozen (p := ⟨w.heap.size + 1 + 1, j, none⟩) (by first | (simp; done) | (simp; omega))).trans (fz j); replace bW := sp_call bW g; replace zW := Nat.le_trans zW g.size; replace a0 := sO g a0; replace a1 := sO g a1; replace a2 := sO g a2; replace b0 := sO g b0; replace b1 := sO g b1; replace b2 := sO g b2; replace r0 := sO g r0; replace r1 := sO g r1; replace r2 := sO g r2; clear g)
    | (go_at_call 106; (with_reducible refine (kg0 _).mono ?_); rintro e t0 ⟨rfl, g⟩; replace fz : ∀ j, t0.frozen? ⟨w.heap.size + 1 + 1, j, none⟩ = false := fun j => (g.frozen (p := ⟨w.heap.size + 1 + 1, j, none⟩) (by first | (simp; done) | (simp; omega))).trans (fz j); replace bW := sp_call bW g; replace zW := Nat.le_trans zW g.size; replace a0 := sO g a0; replace a1 := sO g a1; replace a2 := sO g a2; replace b0 := sO g b0; replace b1 := sO g b1; replace b2 := sO g b2; replace r0 := sO g r0; replace r1 := sO g r1; replace r2 := sO g r2; clear g)
    | fail)
  rw [rounds_succ]
  go_wp2_with (first
    | (go_at_fn kb; (with_reducible refine (d1 _).mono ?_); rintro e p1 ⟨rfl, g⟩; replace fz : ∀ j, p1.frozen? ⟨w.heap.size + 1 + 1, j, none⟩ = false := fun j => (g.frozen (p := ⟨w.heap.size + 1 + 1, j, none⟩) (by first | (simp; done) | (simp; omega))).trans (fz j); replace bW := sp_call bW g; replace zW := Nat.le_trans zW g.size; replace a0 := sO g a0; replace a1 := sO g a1; replace a2 := sO g a2; replace b0 := sO g b0; replace b1 := sO g b1; replace b2 := sO g b2; replace r0 := sO g r0; replace r1 := sO g r1; replace r2 := sO g r2; clear g)
    | (go_at_call 105; (with_reducible refine (kl1 _).mono ?_); rintro e q1 ⟨rfl, g⟩; replace fz : ∀ j, q1.frozen? ⟨w.heap.size + 1 + 1, j, none⟩ = false := fun j => (g.frozen (p := ⟨w.heap.size + 1 + 1, j, none⟩) (by first | (simp; done) | (simp; omega))).trans (fz j); replace bW := sp_call bW g; replace zW := Nat.le_trans zW g.size; replace a0 := sO g a0; replace a1 := sO g a1; replace a2 := sO g a2; replace b0 := sO g b0; replace b1 := sO g b1; replace b2 := sO g b2; replace r0 := sO g r0; replace r1 := sO g r1; replace r2 := sO g r2; clear g)
    | (go_at_fn kb; (with_reducible refine (u1 _).mono ?_); rintro e s1 ⟨rfl, g⟩; replace fz : ∀ j, s1.frozen? ⟨w.heap.size + 1 + 1, j, none⟩ = false := fun j => (g.frozen (p := ⟨w.heap.size + 1 + 1, j, none⟩) (by first | (simp; done) | (simp; omega))).trans (fz j); replace bW := sp_call bW g; replace zW := Nat.le_trans zW g.size; replace a0 := sO g a0; replace a1 := sO g a1; replace a2 := sO g a2; replace b0 := sO g b0; replace b1 := sO g b1; replace b2 := sO g b2; replace r0 := sO g r0; replace r1 := sO g r1; replace r2 := sO g r2; clear g)
    | (go_at_call 106; (with_reducible refine (kg1 _).mono ?_); rintro e t1 ⟨rfl, g⟩; replace fz : ∀ j, t1.frozen? ⟨w.heap.size + 1 + 1, j, none⟩ = false := fun j => (g.frozen (p := ⟨w.heap.size + 1 + 1, j, none⟩) (by first | (simp; done) | (simp; omega))).trans (fz j); replace bW := sp_call bW g; replace zW := Nat.le_trans zW g.size; replace a0 := sO g a0; replace a1 := sO g a1; replace a2 := sO g a2; replace b0 := sO g b0; replace b1 := sO g b1; replace b2 := sO g b2; replace r0 := sO g r0; replace r1 := sO g r1; replace r2 := sO g r2; clear g)
    | fail)
  rw [rounds_succ]
  go_wp2_with fail
  rw [rounds_succ]
  go_wp2_with fail
  refine wp_loop_rounds 3 ?_
  rw [rounds_succ]
  go_wp2_with (first
    | (go_at_fn kb; (with_reducible refine (d2 _).mono ?_); rintro e p2 ⟨rfl, g⟩; replace fz : ∀ j, p2.frozen? ⟨w.heap.size + 1 + 1, j, none⟩ = false := fun j => (g.frozen (p := ⟨w.heap.size + 1 + 1, j, none⟩) (by first | (simp; done) | (simp; omega))).trans (fz j); replace bW := sp_call bW g; replace zW := Nat.le_trans zW g.size; replace a0 := sO g a0; replace a1 := sO g a1; replace a2 := sO g a2; replace b0 := sO g b0; replace b1 := sO g b1; replace b2 := sO g b2; replace r0 := sO g r0; replace r1 := sO g r1; replace r2 := sO g r2; clear g)
    | (go_at_call 105; (with_reducible refine (kl2 _).mono ?_); rintro e q2 ⟨rfl, g⟩; replace fz : ∀ j, q2.frozen? ⟨w.heap.size + 1 + 1, j, none⟩ = false := fun j => (g.frozen (p := ⟨w.heap.size + 1 + 1, j, none⟩) (by first | (simp; done) | (simp; omega))).trans (fz j); replace bW := sp_call bW g; replace zW := Nat.le_trans zW g.size; replace a0 := sO g a0; replace a1 := sO g a1; replace a2 := sO g a2; replace b0 := sO g b0; replace b1 := sO g b1; replace b2 := sO g b2; replace r0 := sO g r0; replace r1 := sO g r1; replace r2 := sO g r2; clear g)
    | (go_at_fn kb; (with_reducible refine (u2 _).mono ?_); rintro e s2 ⟨rfl, g⟩; replace fz : ∀ j, s2.frozen? ⟨w.heap.size + 1 + 1, j, none⟩ = false := fun j => (g.frozen (p := ⟨w.heap.size + 1 + 1, j, none⟩) (by first | (simp; done) | (simp; omega))).trans (fz j); replace bW := sp_call bW g; replace zW := Nat.le_trans zW g.size; replace a0 := sO g a0; replace a1 := sO g a1; replace a2 := sO g a2; replace b0 := sO g b0; replace b1 := sO g b1; replace b2 := sO g b2; replace r0 := sO g r0; replace r1 := sO g r1; replace r2 := sO g r2; clear g)
    | (go_at_call 106; (with_reducible refine (kg2 _).mono ?_); rintro e t2 ⟨rfl, g⟩; replace fz : ∀ j, t2.frozen? ⟨w.heap.size + 1 + 1, j, none⟩ = false := fun j => (g.frozen (p := ⟨w.heap.size + 1 + 1, j, none⟩) (by first | (simp; done) | (simp; omega))).trans (fz j); replace bW := sp_call bW g; replace zW := Nat.le_trans zW g.size; replace a0 := sO g a0; replace a1 := sO g a1; replace a2 := sO g a2; replace b0 := sO g b0; replace b1 := sO g b1; replace b2 := sO g b2; replace r0 := sO g r0; replace r1 := sO g r1; replace r2 := sO g r2; clear g)
    | fail)
  rw [rounds_succ]
  go_wp2_with (first
    | (go_at_fn kb; (with_reducible refine (d3 _).mono ?_); rintro e p3 ⟨rfl, g⟩; replace fz : ∀ j, p3.frozen? ⟨w.heap.size + 1 + 1, j, none⟩ = false := fun j => (g.frozen (p := ⟨w.heap.size + 1 + 1, j, none⟩) (by first | (simp; done) | (simp; omega))).trans (fz j); replace bW := sp_call bW g; replace zW := Nat.le_trans zW g.size; replace a0 := sO g a0; replace a1 := sO g a1; replace a2 := sO g a2; replace b0 := sO g b0; replace b1 := sO g b1; replace b2 := sO g b2; replace r0 := sO g r0; replace r1 := sO g r1; replace r2 := sO g r2; clear g)
    | (go_at_call 105; (with_reducible refine (kl3 _).mono ?_); rintro e q3 ⟨rfl, g⟩; replace fz : ∀ j, q3.frozen? ⟨w.heap.size + 1 + 1, j, none⟩ = false := fun j => (g.frozen (p := ⟨w.heap.size + 1 + 1, j, none⟩) (by first | (simp; done) | (simp; omega))).trans (fz j); replace bW := sp_call bW g; replace zW := Nat.le_trans zW g.size; replace a0 := sO g a0; replace a1 := sO g a1; replace a2 := sO g a2; replace b0 := sO g b0; replace b1 := sO g b1; replace b2 := sO g b2; replace r0 := sO g r0; replace r1 := sO g r1; replace r2 := sO g r2; clear g)
    | (go_at_fn kb; (with_reducible refine (u3 _).mono ?_); rintro e s3 ⟨rfl, g⟩; replace fz : ∀ j, s3.frozen? ⟨w.heap.size + 1 + 1, j, none⟩ = false := fun j => (g.frozen (p := ⟨w.heap.size + 1 + 1, j, none⟩) (by first | (simp; done) | (simp; omega))).trans (fz j); replace bW := sp_call bW g; replace zW := Nat.le_trans zW g.size; replace a0 := sO g a0; replace a1 := sO g a1; replace a2 := sO g a2; replace b0 := sO g b0; replace b1 := sO g b1; replace b2 := sO g b2; replace r0 := sO g r0; replace r1 := sO g r1; replace r2 := sO g r2; clear g)
    | (go_at_call 106; (with_reducible refine (kg3 _).mono ?_); rintro e t3 ⟨rfl, g⟩; replace fz : ∀ j, t3.frozen? ⟨w.heap.size + 1 + 1, j, none⟩ = false := fun j => (g.frozen (p := ⟨w.heap.size + 1 + 1, j, none⟩) (by first | (simp; done) | (simp; omega))).trans (fz j); replace bW := sp_call bW g; replace zW := Nat.le_trans zW g.size; replace a0 := sO g a0; replace a1 := sO g a1; replace a2 := sO g a2; replace b0 := sO g b0; replace b1 := sO g b1; replace b2 := sO g b2; replace r0 := sO g r0; replace r1 := sO g r1; replace r2 := sO g r2; clear g)
    | fail)
  rw [rounds_succ]
  go_wp2_with fail
  rw [rounds_succ]
  cases re
  · go_wp2_with (first
      | (go_at_call 50; (with_reducible refine (ko _).mono ?_); rintro e vo ⟨rfl, g⟩; replace fz : ∀ j, vo.frozen? ⟨w.heap.size + 1 + 1, j, none⟩ = false := fun j => (g.frozen (p := ⟨w.heap.size + 1 + 1, j, none⟩) (by first | (simp; done) | (simp; omega))).trans (fz j); replace bW := sp_call bW g; replace zW := Nat.le_trans zW g.size; replace a0 := sO g a0; replace a1 := sO g a1; replace a2 := sO g a2; replace b0 := sO g b0; replace b1 := sO g b1; replace b2 := sO g b2; replace r0 := sO g r0; replace r1 := sO g r1; replace r2 := sO g r2; clear g; have zl : w.heap.size + 1 + 1 < vo.heap.size := (by omega); have zn := Nat.ne_of_lt zl; have zm : ¬ vo.heap.size = w.heap.size + 1 + 1 := (by omega))
      | fail)
    exact bodyPost_ret (v := .tuple #[.agg #[.bool false, .int .u64 rl, .int .u64 rh], .bool true]) (by simp [results, Tryz.results53, go_sem, r0, r1, r2, zl, zn, zm]) rfl ⟨by simp, sp_new (sp_set3 bW (by omega) _ _ _) _⟩
  · go_wp2_with (first
      | (go_at_call 50; (with_reducible refine (ko _).mono ?_); rintro e vo ⟨rfl, g⟩; replace fz : ∀ j, vo.frozen? ⟨w.heap.size + 1 + 1, j, none⟩ = false := fun j => (g.frozen (p := ⟨w.heap.size + 1 + 1, j, none⟩) (by first | (simp; done) | (simp; omega))).trans (fz j); replace bW := sp_call bW g; replace zW := Nat.le_trans zW g.size; replace a0 := sO g a0; replace a1 := sO g a1; replace a2 := sO g a2; replace b0 := sO g b0; replace b1 := sO g b1; replace b2 := sO g b2; replace r0 := sO g r0; replace r1 := sO g r1; replace r2 := sO g r2; clear g; have zl : w.heap.size + 1 + 1 < vo.heap.size := (by omega); have zn := Nat.ne_of_lt zl; have zm : ¬ vo.heap.size = w.heap.size + 1 + 1 := (by omega))
      | fail)
    exact bodyPost_ret (v := .tuple #[.agg #[.bool false, .int .u64 0, .int .u64 0], .bool false]) (by simp [results, Tryz.results53, go_sem, r0, r1, r2, zl, zn, zm]) rfl ⟨by simp, sp_new (sp_set3 bW (by omega) _ _ _) _⟩
end Go.Proofs.YteafnkimcidkhaaGreat



