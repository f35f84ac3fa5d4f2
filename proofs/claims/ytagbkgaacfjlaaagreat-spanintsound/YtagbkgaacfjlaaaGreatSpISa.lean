/- SpanIntSound, walked. -/
import Derived.Test.YtagbkgaacfjlaaaGreatSpVi
import Derived.Deep.DeepCutAuto
namespace Go.Proofs.YtagbkgaacfjlaaaGreat
open Go.RowKit
set_option linter.unusedVariables false
set_option linter.unusedSimpArgs false
theorem sp_set1 {w W : World} (h : Below w.heap.size w W) {b j : Nat} (hb : w.heap.size ≤ b) (x : Value) : Below w.heap.size w (W.setCell ⟨b, j, none⟩ x) := h.setCell (p := ⟨b, j, none⟩) hb x
theorem sp_drew {w W : World} (h : Below w.heap.size w W) : Below w.heap.size w W.drew := ⟨h.os, h.tape, h.output, h.size, h.block⟩
set_option maxRecDepth 100000 in
set_option maxHeartbeats 6400000 in
theorem sis_lo (op : Int) (e1 e2 : Bool) (a b c d x y : Int) (ho : op < 8) (hl : ∀ V, Calls Tryz.prog 23 #[] V fun e w' => e = .returned (.bool true) ∧ Below V.heap.size V w') (w : World) :
    Calls Tryz.prog 12 #[.int .i64 op, .agg #[.bool e1, .int .i64 a, .int .i64 b, .bool e2, .int .i64 c, .int .i64 d], .agg #[.int .i64 x, .int .i64 y]] w fun e w' => e = .returned (.bool true) ∧ Below w.heap.size w w' := by
  go_enter Tryz.func12, Tryz.ntmps12
  go_upto_region 1 with fail
  obtain ⟨W, hW⟩ : ∃ W, ((w.alloc (.cells #[.bool e1, .int .i64 a, .int .i64 b, .bool e2, .int .i64 c, .int .i64 d] 81)).alloc (.cells #[.int .i64 x, .int .i64 y] 82)) = W := ⟨_, rfl⟩
  have r0 : W.cell? ⟨w.heap.size, 0, none⟩ = some (.bool e1) := by rw [← hW]; simp [go_sem]
  have r1 : W.cell? ⟨w.heap.size, 1, none⟩ = some (.int .i64 a) := by rw [← hW]; simp [go_sem]
  have r2 : W.cell? ⟨w.heap.size, 2, none⟩ = some (.int .i64 b) := by rw [← hW]; simp [go_sem]
  have r3 : W.cell? ⟨w.heap.size, 3, none⟩ = some (.bool e2) := by rw [← hW]; simp [go_sem]
  have r4 : W.cell? ⟨w.heap.size, 4, none⟩ = some (.int .i64 c) := by rw [← hW]; simp [go_sem]
  have r5 : W.cell? ⟨w.heap.size, 5, none⟩ = some (.int .i64 d) := by rw [← hW]; simp [go_sem]
  have n0 : W.cell? ⟨w.heap.size + 1, 0, none⟩ = some (.int .i64 x) := by rw [← hW]; simp [go_sem]
  have n1 : W.cell? ⟨w.heap.size + 1, 1, none⟩ = some (.int .i64 y) := by rw [← hW]; simp [go_sem]
  have bW : Below w.heap.size w W := by rw [← hW]; exact (sp_new (sp_new (Below.refl _ _) _) _)
  have zW : W.heap.size = w.heap.size + 2 := by rw [← hW]; simp
  rw [hW]
  clear hW
  replace zW := Nat.le_of_eq zW.symm
  go_cut [7, 8] from 15 to 18 (fun p q X => ∃ (W1 : World) (b7 b8 : Nat), W1 = X ∧ p = .pointer (some ⟨b7, 0, none⟩) ∧ q = .pointer (some ⟨b8, 0, none⟩) ∧ W.heap.size ≤ b7 ∧ W.heap.size ≤ b8 ∧ X.cell? ⟨b7, 0, none⟩ = some (.bool e1) ∧ X.cell? ⟨b7, 1, none⟩ = some (.int .i64 a) ∧ X.cell? ⟨b7, 2, none⟩ = some (.int .i64 b) ∧ X.cell? ⟨b8, 0, none⟩ = some (.bool e2) ∧ X.cell? ⟨b8, 1, none⟩ = some (.int .i64 c) ∧ X.cell? ⟨b8, 2, none⟩ = some (.int .i64 d) ∧ Below W.heap.size W X)
  case first =>
   have z0 : w.heap.size < W.heap.size := by omega
   have z1 : w.heap.size < W.heap.size + 1 := by omega
   go_region
   all_goals go_wp2_with fail
   all_goals go_meet
   all_goals exact ⟨_, _, _, rfl, rfl, rfl, by simp, by simp, by simp [go_sem], by simp [go_sem], by simp [go_sem], by simp [go_sem], by simp [go_sem], by simp [go_sem], by (repeat (first | exact Below.refl _ _ | assumption | with_reducible refine sp_new ?_ _ | with_reducible refine sp_set1 ?_ (by omega) _ | with_reducible refine sp_drew ?_))⟩
  case rest =>
   obtain ⟨W1, b7, b8, rfl, rfl, rfl, h7, h8, p0, p1, p2, q0, q1, q2, cX⟩ := hcut
   replace n0 := sp_cell_on cX n0
   replace n1 := sp_cell_on cX n1
   have bX := sp_call bW cX
   clear bW cX r0 r1 r2 r3 r4 r5
   go_wp2_with (first
     | (go_at_call 23; refine (hl _).mono ?_; rintro e vl ⟨rfl, g⟩; replace bX := sp_call bX g; replace p0 := sp_cell_on g p0; replace p1 := sp_cell_on g p1; replace p2 := sp_cell_on g p2; replace q0 := sp_cell_on g q0; replace q1 := sp_cell_on g q1; replace q2 := sp_cell_on g q2; replace n0 := sp_cell_on g n0; replace n1 := sp_cell_on g n1; clear g)
     | fail)
   go_ret
   exact ⟨rfl, bX⟩
set_option maxRecDepth 100000 in
set_option maxHeartbeats 6400000 in
theorem sis_hi (op : Int) (e1 e2 : Bool) (a b c d x y : Int) (h0 : ¬ op < 8) (ho : 11 < op) (hl : ∀ V, Calls Tryz.prog 23 #[] V fun e w' => e = .returned (.bool true) ∧ Below V.heap.size V w') (w : World) :
    Calls Tryz.prog 12 #[.int .i64 op, .agg #[.bool e1, .int .i64 a, .int .i64 b, .bool e2, .int .i64 c, .int .i64 d], .agg #[.int .i64 x, .int .i64 y]] w fun e w' => e = .returned (.bool true) ∧ Below w.heap.size w w' := by
  go_enter Tryz.func12, Tryz.ntmps12
  go_upto_region 1 with fail
  obtain ⟨W, hW⟩ : ∃ W, ((w.alloc (.cells #[.bool e1, .int .i64 a, .int .i64 b, .bool e2, .int .i64 c, .int .i64 d] 81)).alloc (.cells #[.int .i64 x, .int .i64 y] 82)) = W := ⟨_, rfl⟩
  have r0 : W.cell? ⟨w.heap.size, 0, none⟩ = some (.bool e1) := by rw [← hW]; simp [go_sem]
  have r1 : W.cell? ⟨w.heap.size, 1, none⟩ = some (.int .i64 a) := by rw [← hW]; simp [go_sem]
  have r2 : W.cell? ⟨w.heap.size, 2, none⟩ = some (.int .i64 b) := by rw [← hW]; simp [go_sem]
  have r3 : W.cell? ⟨w.heap.size, 3, none⟩ = some (.bool e2) := by rw [← hW]; simp [go_sem]
  have r4 : W.cell? ⟨w.heap.size, 4, none⟩ = some (.int .i64 c) := by rw [← hW]; simp [go_sem]
  have r5 : W.cell? ⟨w.heap.size, 5, none⟩ = some (.int .i64 d) := by rw [← hW]; simp [go_sem]
  have n0 : W.cell? ⟨w.heap.size + 1, 0, none⟩ = some (.int .i64 x) := by rw [← hW]; simp [go_sem]
  have n1 : W.cell? ⟨w.heap.size + 1, 1, none⟩ = some (.int .i64 y) := by rw [← hW]; simp [go_sem]
  have bW : Below w.heap.size w W := by rw [← hW]; exact (sp_new (sp_new (Below.refl _ _) _) _)
  have zW : W.heap.size = w.heap.size + 2 := by rw [← hW]; simp
  rw [hW]
  clear hW
  replace zW := Nat.le_of_eq zW.symm
  go_cut [7, 8] from 15 to 18 (fun p q X => ∃ (W1 : World) (b7 b8 : Nat), W1 = X ∧ p = .pointer (some ⟨b7, 0, none⟩) ∧ q = .pointer (some ⟨b8, 0, none⟩) ∧ W.heap.size ≤ b7 ∧ W.heap.size ≤ b8 ∧ X.cell? ⟨b7, 0, none⟩ = some (.bool e1) ∧ X.cell? ⟨b7, 1, none⟩ = some (.int .i64 a) ∧ X.cell? ⟨b7, 2, none⟩ = some (.int .i64 b) ∧ X.cell? ⟨b8, 0, none⟩ = some (.bool e2) ∧ X.cell? ⟨b8, 1, none⟩ = some (.int .i64 c) ∧ X.cell? ⟨b8, 2, none⟩ = some (.int .i64 d) ∧ Below W.heap.size W X)
  case first =>
   have z0 : w.heap.size < W.heap.size := by omega
   have z1 : w.heap.size < W.heap.size + 1 := by omega
   go_region
   all_goals go_wp2_with fail
   all_goals go_meet
   all_goals exact ⟨_, _, _, rfl, rfl, rfl, by simp, by simp, by simp [go_sem], by simp [go_sem], by simp [go_sem], by simp [go_sem], by simp [go_sem], by simp [go_sem], by (repeat (first | exact Below.refl _ _ | assumption | with_reducible refine sp_new ?_ _ | with_reducible refine sp_set1 ?_ (by omega) _ | with_reducible refine sp_drew ?_))⟩
  case rest =>
   obtain ⟨W1, b7, b8, rfl, rfl, rfl, h7, h8, p0, p1, p2, q0, q1, q2, cX⟩ := hcut
   replace n0 := sp_cell_on cX n0
   replace n1 := sp_cell_on cX n1
   have bX := sp_call bW cX
   clear bW cX r0 r1 r2 r3 r4 r5
   go_wp2_with (first
     | (go_at_call 23; refine (hl _).mono ?_; rintro e vl ⟨rfl, g⟩; replace bX := sp_call bX g; replace p0 := sp_cell_on g p0; replace p1 := sp_cell_on g p1; replace p2 := sp_cell_on g p2; replace q0 := sp_cell_on g q0; replace q1 := sp_cell_on g q1; replace q2 := sp_cell_on g q2; replace n0 := sp_cell_on g n0; replace n1 := sp_cell_on g n1; clear g)
     | fail)
   go_ret
   exact ⟨rfl, bX⟩
set_option maxRecDepth 100000 in
set_option maxHeartbeats 6400000 in
theorem sis_r1 (op : Int) (e1 e2 : Bool) (a b c d x y : Int) (h0 : ¬ op < 8) (h1 : ¬ 11 < op) (k1 : ∀ V, Calls Tryz.prog 47 #[.agg #[.bool e1, .int .i64 a, .int .i64 b]] V fun e w' => e = .returned (.bool false) ∧ Below V.heap.size V w') (hl : ∀ V, Calls Tryz.prog 23 #[] V fun e w' => e = .returned (.bool true) ∧ Below V.heap.size V w') (w : World) :
    Calls Tryz.prog 12 #[.int .i64 op, .agg #[.bool e1, .int .i64 a, .int .i64 b, .bool e2, .int .i64 c, .int .i64 d], .agg #[.int .i64 x, .int .i64 y]] w fun e w' => e = .returned (.bool true) ∧ Below w.heap.size w w' := by
  go_enter Tryz.func12, Tryz.ntmps12
  go_upto_region 1 with fail
  obtain ⟨W, hW⟩ : ∃ W, ((w.alloc (.cells #[.bool e1, .int .i64 a, .int .i64 b, .bool e2, .int .i64 c, .int .i64 d] 81)).alloc (.cells #[.int .i64 x, .int .i64 y] 82)) = W := ⟨_, rfl⟩
  have r0 : W.cell? ⟨w.heap.size, 0, none⟩ = some (.bool e1) := by rw [← hW]; simp [go_sem]
  have r1 : W.cell? ⟨w.heap.size, 1, none⟩ = some (.int .i64 a) := by rw [← hW]; simp [go_sem]
  have r2 : W.cell? ⟨w.heap.size, 2, none⟩ = some (.int .i64 b) := by rw [← hW]; simp [go_sem]
  have r3 : W.cell? ⟨w.heap.size, 3, none⟩ = some (.bool e2) := by rw [← hW]; simp [go_sem]
  have r4 : W.cell? ⟨w.heap.size, 4, none⟩ = some (.int .i64 c) := by rw [← hW]; simp [go_sem]
  have r5 : W.cell? ⟨w.heap.size, 5, none⟩ = some (.int .i64 d) := by rw [← hW]; simp [go_sem]
  have n0 : W.cell? ⟨w.heap.size + 1, 0, none⟩ = some (.int .i64 x) := by rw [← hW]; simp [go_sem]
  have n1 : W.cell? ⟨w.heap.size + 1, 1, none⟩ = some (.int .i64 y) := by rw [← hW]; simp [go_sem]
  have bW : Below w.heap.size w W := by rw [← hW]; exact (sp_new (sp_new (Below.refl _ _) _) _)
  have zW : W.heap.size = w.heap.size + 2 := by rw [← hW]; simp
  rw [hW]
  clear hW
  replace zW := Nat.le_of_eq zW.symm
  go_cut [7, 8] from 15 to 18 (fun p q X => ∃ (W1 : World) (b7 b8 : Nat), W1 = X ∧ p = .pointer (some ⟨b7, 0, none⟩) ∧ q = .pointer (some ⟨b8, 0, none⟩) ∧ W.heap.size ≤ b7 ∧ W.heap.size ≤ b8 ∧ X.cell? ⟨b7, 0, none⟩ = some (.bool e1) ∧ X.cell? ⟨b7, 1, none⟩ = some (.int .i64 a) ∧ X.cell? ⟨b7, 2, none⟩ = some (.int .i64 b) ∧ X.cell? ⟨b8, 0, none⟩ = some (.bool e2) ∧ X.cell? ⟨b8, 1, none⟩ = some (.int .i64 c) ∧ X.cell? ⟨b8, 2, none⟩ = some (.int .i64 d) ∧ Below W.heap.size W X)
  case first =>
   have z0 : w.heap.size < W.heap.size := by omega
   have z1 : w.heap.size < W.heap.size + 1 := by omega
   go_region
   all_goals go_wp2_with fail
   all_goals go_meet
   all_goals exact ⟨_, _, _, rfl, rfl, rfl, by simp, by simp, by simp [go_sem], by simp [go_sem], by simp [go_sem], by simp [go_sem], by simp [go_sem], by simp [go_sem], by (repeat (first | exact Below.refl _ _ | assumption | with_reducible refine sp_new ?_ _ | with_reducible refine sp_set1 ?_ (by omega) _ | with_reducible refine sp_drew ?_))⟩
  case rest =>
   obtain ⟨W1, b7, b8, rfl, rfl, rfl, h7, h8, p0, p1, p2, q0, q1, q2, cX⟩ := hcut
   replace n0 := sp_cell_on cX n0
   replace n1 := sp_cell_on cX n1
   have bX := sp_call bW cX
   clear bW cX r0 r1 r2 r3 r4 r5
   go_wp2_with (first
     | (go_at_call 47; refine (k1 _).mono ?_; rintro e v1 ⟨rfl, g⟩; replace bX := sp_call bX g; replace p0 := sp_cell_on g p0; replace p1 := sp_cell_on g p1; replace p2 := sp_cell_on g p2; replace q0 := sp_cell_on g q0; replace q1 := sp_cell_on g q1; replace q2 := sp_cell_on g q2; replace n0 := sp_cell_on g n0; replace n1 := sp_cell_on g n1; clear g)
     | (go_at_call 23; refine (hl _).mono ?_; rintro e vl ⟨rfl, g⟩; replace bX := sp_call bX g; replace p0 := sp_cell_on g p0; replace p1 := sp_cell_on g p1; replace p2 := sp_cell_on g p2; replace q0 := sp_cell_on g q0; replace q1 := sp_cell_on g q1; replace q2 := sp_cell_on g q2; replace n0 := sp_cell_on g n0; replace n1 := sp_cell_on g n1; clear g)
     | fail)
   go_ret
   exact ⟨rfl, bX⟩
set_option maxRecDepth 100000 in
set_option maxHeartbeats 6400000 in
theorem sis_r2 (op : Int) (e1 e2 : Bool) (a b c d x y : Int) (h0 : ¬ op < 8) (h1 : ¬ 11 < op) (k1 : ∀ V, Calls Tryz.prog 47 #[.agg #[.bool e1, .int .i64 a, .int .i64 b]] V fun e w' => e = .returned (.bool true) ∧ Below V.heap.size V w') (k2 : ∀ V, Calls Tryz.prog 47 #[.agg #[.bool e2, .int .i64 c, .int .i64 d]] V fun e w' => e = .returned (.bool false) ∧ Below V.heap.size V w') (hl : ∀ V, Calls Tryz.prog 23 #[] V fun e w' => e = .returned (.bool true) ∧ Below V.heap.size V w') (w : World) :
    Calls Tryz.prog 12 #[.int .i64 op, .agg #[.bool e1, .int .i64 a, .int .i64 b, .bool e2, .int .i64 c, .int .i64 d], .agg #[.int .i64 x, .int .i64 y]] w fun e w' => e = .returned (.bool true) ∧ Below w.heap.size w w' := by
  go_enter Tryz.func12, Tryz.ntmps12
  go_upto_region 1 with fail
  obtain ⟨W, hW⟩ : ∃ W, ((w.alloc (.cells #[.bool e1, .int .i64 a, .int .i64 b, .bool e2, .int .i64 c, .int .i64 d] 81)).alloc (.cells #[.int .i64 x, .int .i64 y] 82)) = W := ⟨_, rfl⟩
  have r0 : W.cell? ⟨w.heap.size, 0, none⟩ = some (.bool e1) := by rw [← hW]; simp [go_sem]
  have r1 : W.cell? ⟨w.heap.size, 1, none⟩ = some (.int .i64 a) := by rw [← hW]; simp [go_sem]
  have r2 : W.cell? ⟨w.heap.size, 2, none⟩ = some (.int .i64 b) := by rw [← hW]; simp [go_sem]
  have r3 : W.cell? ⟨w.heap.size, 3, none⟩ = some (.bool e2) := by rw [← hW]; simp [go_sem]
  have r4 : W.cell? ⟨w.heap.size, 4, none⟩ = some (.int .i64 c) := by rw [← hW]; simp [go_sem]
  have r5 : W.cell? ⟨w.heap.size, 5, none⟩ = some (.int .i64 d) := by rw [← hW]; simp [go_sem]
  have n0 : W.cell? ⟨w.heap.size + 1, 0, none⟩ = some (.int .i64 x) := by rw [← hW]; simp [go_sem]
  have n1 : W.cell? ⟨w.heap.size + 1, 1, none⟩ = some (.int .i64 y) := by rw [← hW]; simp [go_sem]
  have bW : Below w.heap.size w W := by rw [← hW]; exact (sp_new (sp_new (Below.refl _ _) _) _)
  have zW : W.heap.size = w.heap.size + 2 := by rw [← hW]; simp
  rw [hW]
  clear hW
  replace zW := Nat.le_of_eq zW.symm
  go_cut [7, 8] from 15 to 18 (fun p q X => ∃ (W1 : World) (b7 b8 : Nat), W1 = X ∧ p = .pointer (some ⟨b7, 0, none⟩) ∧ q = .pointer (some ⟨b8, 0, none⟩) ∧ W.heap.size ≤ b7 ∧ W.heap.size ≤ b8 ∧ X.cell? ⟨b7, 0, none⟩ = some (.bool e1) ∧ X.cell? ⟨b7, 1, none⟩ = some (.int .i64 a) ∧ X.cell? ⟨b7, 2, none⟩ = some (.int .i64 b) ∧ X.cell? ⟨b8, 0, none⟩ = some (.bool e2) ∧ X.cell? ⟨b8, 1, none⟩ = some (.int .i64 c) ∧ X.cell? ⟨b8, 2, none⟩ = some (.int .i64 d) ∧ Below W.heap.size W X)
  case first =>
   have z0 : w.heap.size < W.heap.size := by omega
   have z1 : w.heap.size < W.heap.size + 1 := by omega
   go_region
   all_goals go_wp2_with fail
   all_goals go_meet
   all_goals exact ⟨_, _, _, rfl, rfl, rfl, by simp, by simp, by simp [go_sem], by simp [go_sem], by simp [go_sem], by simp [go_sem], by simp [go_sem], by simp [go_sem], by (repeat (first | exact Below.refl _ _ | assumption | with_reducible refine sp_new ?_ _ | with_reducible refine sp_set1 ?_ (by omega) _ | with_reducible refine sp_drew ?_))⟩
  case rest =>
   obtain ⟨W1, b7, b8, rfl, rfl, rfl, h7, h8, p0, p1, p2, q0, q1, q2, cX⟩ := hcut
   replace n0 := sp_cell_on cX n0
   replace n1 := sp_cell_on cX n1
   have bX := sp_call bW cX
   clear bW cX r0 r1 r2 r3 r4 r5
   go_wp2_with (first
     | (go_at_call 47; refine (k1 _).mono ?_; rintro e v1 ⟨rfl, g⟩; replace bX := sp_call bX g; replace p0 := sp_cell_on g p0; replace p1 := sp_cell_on g p1; replace p2 := sp_cell_on g p2; replace q0 := sp_cell_on g q0; replace q1 := sp_cell_on g q1; replace q2 := sp_cell_on g q2; replace n0 := sp_cell_on g n0; replace n1 := sp_cell_on g n1; clear g; clear k1)
     | (go_at_call 47; refine (k2 _).mono ?_; rintro e v2 ⟨rfl, g⟩; replace bX := sp_call bX g; replace p0 := sp_cell_on g p0; replace p1 := sp_cell_on g p1; replace p2 := sp_cell_on g p2; replace q0 := sp_cell_on g q0; replace q1 := sp_cell_on g q1; replace q2 := sp_cell_on g q2; replace n0 := sp_cell_on g n0; replace n1 := sp_cell_on g n1; clear g)
     | (go_at_call 23; refine (hl _).mono ?_; rintro e vl ⟨rfl, g⟩; replace bX := sp_call bX g; replace p0 := sp_cell_on g p0; replace p1 := sp_cell_on g p1; replace p2 := sp_cell_on g p2; replace q0 := sp_cell_on g q0; replace q1 := sp_cell_on g q1; replace q2 := sp_cell_on g q2; replace n0 := sp_cell_on g n0; replace n1 := sp_cell_on g n1; clear g)
     | fail)
   go_ret
   exact ⟨rfl, bX⟩
set_option maxRecDepth 100000 in
set_option maxHeartbeats 6400000 in
theorem sis_h1 (op : Int) (e1 e2 : Bool) (a b c d x y : Int) (h0 : ¬ op < 8) (h1 : ¬ 11 < op) (k1 : ∀ V, Calls Tryz.prog 47 #[.agg #[.bool e1, .int .i64 a, .int .i64 b]] V fun e w' => e = .returned (.bool true) ∧ Below V.heap.size V w') (k2 : ∀ V, Calls Tryz.prog 47 #[.agg #[.bool e2, .int .i64 c, .int .i64 d]] V fun e w' => e = .returned (.bool true) ∧ Below V.heap.size V w') (k3 : ∀ V, Calls Tryz.prog 53 #[.agg #[.bool e1, .int .i64 a, .int .i64 b], .int .i64 x] V fun e w' => e = .returned (.bool false) ∧ Below V.heap.size V w') (hl : ∀ V, Calls Tryz.prog 23 #[] V fun e w' => e = .returned (.bool true) ∧ Below V.heap.size V w') (w : World) :
    Calls Tryz.prog 12 #[.int .i64 op, .agg #[.bool e1, .int .i64 a, .int .i64 b, .bool e2, .int .i64 c, .int .i64 d], .agg #[.int .i64 x, .int .i64 y]] w fun e w' => e = .returned (.bool true) ∧ Below w.heap.size w w' := by
  go_enter Tryz.func12, Tryz.ntmps12
  go_upto_region 1 with fail
  obtain ⟨W, hW⟩ : ∃ W, ((w.alloc (.cells #[.bool e1, .int .i64 a, .int .i64 b, .bool e2, .int .i64 c, .int .i64 d] 81)).alloc (.cells #[.int .i64 x, .int .i64 y] 82)) = W := ⟨_, rfl⟩
  have r0 : W.cell? ⟨w.heap.size, 0, none⟩ = some (.bool e1) := by rw [← hW]; simp [go_sem]
  have r1 : W.cell? ⟨w.heap.size, 1, none⟩ = some (.int .i64 a) := by rw [← hW]; simp [go_sem]
  have r2 : W.cell? ⟨w.heap.size, 2, none⟩ = some (.int .i64 b) := by rw [← hW]; simp [go_sem]
  have r3 : W.cell? ⟨w.heap.size, 3, none⟩ = some (.bool e2) := by rw [← hW]; simp [go_sem]
  have r4 : W.cell? ⟨w.heap.size, 4, none⟩ = some (.int .i64 c) := by rw [← hW]; simp [go_sem]
  have r5 : W.cell? ⟨w.heap.size, 5, none⟩ = some (.int .i64 d) := by rw [← hW]; simp [go_sem]
  have n0 : W.cell? ⟨w.heap.size + 1, 0, none⟩ = some (.int .i64 x) := by rw [← hW]; simp [go_sem]
  have n1 : W.cell? ⟨w.heap.size + 1, 1, none⟩ = some (.int .i64 y) := by rw [← hW]; simp [go_sem]
  have bW : Below w.heap.size w W := by rw [← hW]; exact (sp_new (sp_new (Below.refl _ _) _) _)
  have zW : W.heap.size = w.heap.size + 2 := by rw [← hW]; simp
  rw [hW]
  clear hW
  replace zW := Nat.le_of_eq zW.symm
  go_cut [7, 8] from 15 to 18 (fun p q X => ∃ (W1 : World) (b7 b8 : Nat), W1 = X ∧ p = .pointer (some ⟨b7, 0, none⟩) ∧ q = .pointer (some ⟨b8, 0, none⟩) ∧ W.heap.size ≤ b7 ∧ W.heap.size ≤ b8 ∧ X.cell? ⟨b7, 0, none⟩ = some (.bool e1) ∧ X.cell? ⟨b7, 1, none⟩ = some (.int .i64 a) ∧ X.cell? ⟨b7, 2, none⟩ = some (.int .i64 b) ∧ X.cell? ⟨b8, 0, none⟩ = some (.bool e2) ∧ X.cell? ⟨b8, 1, none⟩ = some (.int .i64 c) ∧ X.cell? ⟨b8, 2, none⟩ = some (.int .i64 d) ∧ Below W.heap.size W X)
  case first =>
   have z0 : w.heap.size < W.heap.size := by omega
   have z1 : w.heap.size < W.heap.size + 1 := by omega
   go_region
   all_goals go_wp2_with fail
   all_goals go_meet
   all_goals exact ⟨_, _, _, rfl, rfl, rfl, by simp, by simp, by simp [go_sem], by simp [go_sem], by simp [go_sem], by simp [go_sem], by simp [go_sem], by simp [go_sem], by (repeat (first | exact Below.refl _ _ | assumption | with_reducible refine sp_new ?_ _ | with_reducible refine sp_set1 ?_ (by omega) _ | with_reducible refine sp_drew ?_))⟩
  case rest =>
   obtain ⟨W1, b7, b8, rfl, rfl, rfl, h7, h8, p0, p1, p2, q0, q1, q2, cX⟩ := hcut
   replace n0 := sp_cell_on cX n0
   replace n1 := sp_cell_on cX n1
   have bX := sp_call bW cX
   clear bW cX r0 r1 r2 r3 r4 r5
   go_wp2_with (first
     | (go_at_call 47; refine (k1 _).mono ?_; rintro e v1 ⟨rfl, g⟩; replace bX := sp_call bX g; replace p0 := sp_cell_on g p0; replace p1 := sp_cell_on g p1; replace p2 := sp_cell_on g p2; replace q0 := sp_cell_on g q0; replace q1 := sp_cell_on g q1; replace q2 := sp_cell_on g q2; replace n0 := sp_cell_on g n0; replace n1 := sp_cell_on g n1; clear g; clear k1)
     | (go_at_call 47; refine (k2 _).mono ?_; rintro e v2 ⟨rfl, g⟩; replace bX := sp_call bX g; replace p0 := sp_cell_on g p0; replace p1 := sp_cell_on g p1; replace p2 := sp_cell_on g p2; replace q0 := sp_cell_on g q0; replace q1 := sp_cell_on g q1; replace q2 := sp_cell_on g q2; replace n0 := sp_cell_on g n0; replace n1 := sp_cell_on g n1; clear g)
     | (go_at_call 53; refine (k3 _).mono ?_; rintro e v3 ⟨rfl, g⟩; replace bX := sp_call bX g; replace p0 := sp_cell_on g p0; replace p1 := sp_cell_on g p1; replace p2 := sp_cell_on g p2; replace q0 := sp_cell_on g q0; replace q1 := sp_cell_on g q1; replace q2 := sp_cell_on g q2; replace n0 := sp_cell_on g n0; replace n1 := sp_cell_on g n1; clear g)
     | (go_at_call 23; refine (hl _).mono ?_; rintro e vl ⟨rfl, g⟩; replace bX := sp_call bX g; replace p0 := sp_cell_on g p0; replace p1 := sp_cell_on g p1; replace p2 := sp_cell_on g p2; replace q0 := sp_cell_on g q0; replace q1 := sp_cell_on g q1; replace q2 := sp_cell_on g q2; replace n0 := sp_cell_on g n0; replace n1 := sp_cell_on g n1; clear g)
     | fail)
   go_ret
   exact ⟨rfl, bX⟩
set_option maxRecDepth 100000 in
set_option maxHeartbeats 6400000 in
theorem sis_h2 (op : Int) (e1 e2 : Bool) (a b c d x y : Int) (h0 : ¬ op < 8) (h1 : ¬ 11 < op) (k1 : ∀ V, Calls Tryz.prog 47 #[.agg #[.bool e1, .int .i64 a, .int .i64 b]] V fun e w' => e = .returned (.bool true) ∧ Below V.heap.size V w') (k2 : ∀ V, Calls Tryz.prog 47 #[.agg #[.bool e2, .int .i64 c, .int .i64 d]] V fun e w' => e = .returned (.bool true) ∧ Below V.heap.size V w') (k3 : ∀ V, Calls Tryz.prog 53 #[.agg #[.bool e1, .int .i64 a, .int .i64 b], .int .i64 x] V fun e w' => e = .returned (.bool true) ∧ Below V.heap.size V w') (k4 : ∀ V, Calls Tryz.prog 53 #[.agg #[.bool e2, .int .i64 c, .int .i64 d], .int .i64 y] V fun e w' => e = .returned (.bool false) ∧ Below V.heap.size V w') (hl : ∀ V, Calls Tryz.prog 23 #[] V fun e w' => e = .returned (.bool true) ∧ Below V.heap.size V w') (w : World) :
    Calls Tryz.prog 12 #[.int .i64 op, .agg #[.bool e1, .int .i64 a, .int .i64 b, .bool e2, .int .i64 c, .int .i64 d], .agg #[.int .i64 x, .int .i64 y]] w fun e w' => e = .returned (.bool true) ∧ Below w.heap.size w w' := by
  go_enter Tryz.func12, Tryz.ntmps12
  go_upto_region 1 with fail
  obtain ⟨W, hW⟩ : ∃ W, ((w.alloc (.cells #[.bool e1, .int .i64 a, .int .i64 b, .bool e2, .int .i64 c, .int .i64 d] 81)).alloc (.cells #[.int .i64 x, .int .i64 y] 82)) = W := ⟨_, rfl⟩
  have r0 : W.cell? ⟨w.heap.size, 0, none⟩ = some (.bool e1) := by rw [← hW]; simp [go_sem]
  have r1 : W.cell? ⟨w.heap.size, 1, none⟩ = some (.int .i64 a) := by rw [← hW]; simp [go_sem]
  have r2 : W.cell? ⟨w.heap.size, 2, none⟩ = some (.int .i64 b) := by rw [← hW]; simp [go_sem]
  have r3 : W.cell? ⟨w.heap.size, 3, none⟩ = some (.bool e2) := by rw [← hW]; simp [go_sem]
  have r4 : W.cell? ⟨w.heap.size, 4, none⟩ = some (.int .i64 c) := by rw [← hW]; simp [go_sem]
  have r5 : W.cell? ⟨w.heap.size, 5, none⟩ = some (.int .i64 d) := by rw [← hW]; simp [go_sem]
  have n0 : W.cell? ⟨w.heap.size + 1, 0, none⟩ = some (.int .i64 x) := by rw [← hW]; simp [go_sem]
  have n1 : W.cell? ⟨w.heap.size + 1, 1, none⟩ = some (.int .i64 y) := by rw [← hW]; simp [go_sem]
  have bW : Below w.heap.size w W := by rw [← hW]; exact (sp_new (sp_new (Below.refl _ _) _) _)
  have zW : W.heap.size = w.heap.size + 2 := by rw [← hW]; simp
  rw [hW]
  clear hW
  replace zW := Nat.le_of_eq zW.symm
  go_cut [7, 8] from 15 to 18 (fun p q X => ∃ (W1 : World) (b7 b8 : Nat), W1 = X ∧ p = .pointer (some ⟨b7, 0, none⟩) ∧ q = .pointer (some ⟨b8, 0, none⟩) ∧ W.heap.size ≤ b7 ∧ W.heap.size ≤ b8 ∧ X.cell? ⟨b7, 0, none⟩ = some (.bool e1) ∧ X.cell? ⟨b7, 1, none⟩ = some (.int .i64 a) ∧ X.cell? ⟨b7, 2, none⟩ = some (.int .i64 b) ∧ X.cell? ⟨b8, 0, none⟩ = some (.bool e2) ∧ X.cell? ⟨b8, 1, none⟩ = some (.int .i64 c) ∧ X.cell? ⟨b8, 2, none⟩ = some (.int .i64 d) ∧ Below W.heap.size W X)
  case first =>
   have z0 : w.heap.size < W.heap.size := by omega
   have z1 : w.heap.size < W.heap.size + 1 := by omega
   go_region
   all_goals go_wp2_with fail
   all_goals go_meet
   all_goals exact ⟨_, _, _, rfl, rfl, rfl, by simp, by simp, by simp [go_sem], by simp [go_sem], by simp [go_sem], by simp [go_sem], by simp [go_sem], by simp [go_sem], by (repeat (first | exact Below.refl _ _ | assumption | with_reducible refine sp_new ?_ _ | with_reducible refine sp_set1 ?_ (by omega) _ | with_reducible refine sp_drew ?_))⟩
  case rest =>
   obtain ⟨W1, b7, b8, rfl, rfl, rfl, h7, h8, p0, p1, p2, q0, q1, q2, cX⟩ := hcut
   replace n0 := sp_cell_on cX n0
   replace n1 := sp_cell_on cX n1
   have bX := sp_call bW cX
   clear bW cX r0 r1 r2 r3 r4 r5
   go_wp2_with (first
     | (go_at_call 47; refine (k1 _).mono ?_; rintro e v1 ⟨rfl, g⟩; replace bX := sp_call bX g; replace p0 := sp_cell_on g p0; replace p1 := sp_cell_on g p1; replace p2 := sp_cell_on g p2; replace q0 := sp_cell_on g q0; replace q1 := sp_cell_on g q1; replace q2 := sp_cell_on g q2; replace n0 := sp_cell_on g n0; replace n1 := sp_cell_on g n1; clear g; clear k1)
     | (go_at_call 47; refine (k2 _).mono ?_; rintro e v2 ⟨rfl, g⟩; replace bX := sp_call bX g; replace p0 := sp_cell_on g p0; replace p1 := sp_cell_on g p1; replace p2 := sp_cell_on g p2; replace q0 := sp_cell_on g q0; replace q1 := sp_cell_on g q1; replace q2 := sp_cell_on g q2; replace n0 := sp_cell_on g n0; replace n1 := sp_cell_on g n1; clear g)
     | (go_at_call 53; refine (k3 _).mono ?_; rintro e v3 ⟨rfl, g⟩; replace bX := sp_call bX g; replace p0 := sp_cell_on g p0; replace p1 := sp_cell_on g p1; replace p2 := sp_cell_on g p2; replace q0 := sp_cell_on g q0; replace q1 := sp_cell_on g q1; replace q2 := sp_cell_on g q2; replace n0 := sp_cell_on g n0; replace n1 := sp_cell_on g n1; clear g; clear k3)
     | (go_at_call 53; refine (k4 _).mono ?_; rintro e v4 ⟨rfl, g⟩; replace bX := sp_call bX g; replace p0 := sp_cell_on g p0; replace p1 := sp_cell_on g p1; replace p2 := sp_cell_on g p2; replace q0 := sp_cell_on g q0; replace q1 := sp_cell_on g q1; replace q2 := sp_cell_on g q2; replace n0 := sp_cell_on g n0; replace n1 := sp_cell_on g n1; clear g)
     | (go_at_call 23; refine (hl _).mono ?_; rintro e vl ⟨rfl, g⟩; replace bX := sp_call bX g; replace p0 := sp_cell_on g p0; replace p1 := sp_cell_on g p1; replace p2 := sp_cell_on g p2; replace q0 := sp_cell_on g q0; replace q1 := sp_cell_on g q1; replace q2 := sp_cell_on g q2; replace n0 := sp_cell_on g n0; replace n1 := sp_cell_on g n1; clear g)
     | fail)
   go_ret
   exact ⟨rfl, bX⟩
end Go.Proofs.YtagbkgaacfjlaaaGreat
