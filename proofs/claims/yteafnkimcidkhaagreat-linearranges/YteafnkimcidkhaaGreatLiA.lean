/- linear's small calls, and outward. -/
import Derived.Test.YteafnkimcidkhaaGreatRgX
import Derived.Test.YteafnkimcidkhaaGreatSpL
import Derived.Deep.DeepCutAuto
import Derived.BigQuiet
import Derived.LoopN
import Derived.Handy
namespace Go.Proofs.YteafnkimcidkhaaGreat
open Go.RowKit
set_option linter.unusedVariables false
set_option linter.unusedSimpArgs false
set_option maxRecDepth 100000 in
set_option maxHeartbeats 6400000 in
theorem lirange (e1 : Bool) (a b : Int) (r : Bool) (k1 : ∀ V, Calls Tryz.prog 123 #[.int .i64 (0), .agg #[.bool e1, .int .u64 a, .int .u64 b]] V fun e w' => e = .returned (.bool r) ∧ Below V.heap.size V w') (w : World) :
    Calls Tryz.prog 77 #[.agg #[.bool e1, .int .u64 a, .int .u64 b]] w fun e w' => e = .returned (.bool r) ∧ Below w.heap.size w w' := by
  go_enter Tryz.func77, Tryz.ntmps77
  go_upto_region 1 with fail
  obtain ⟨W, hW⟩ : ∃ W, (w.alloc (.cells #[.bool e1, .int .u64 a, .int .u64 b] 24)) = W := ⟨_, rfl⟩
  have a0 : W.cell? ⟨w.heap.size, 0, none⟩ = some (.bool e1) := by rw [← hW]; simp [go_sem]
  have a1 : W.cell? ⟨w.heap.size, 1, none⟩ = some (.int .u64 a) := by rw [← hW]; simp [go_sem]
  have a2 : W.cell? ⟨w.heap.size, 2, none⟩ = some (.int .u64 b) := by rw [← hW]; simp [go_sem]
  have bW : Below w.heap.size w W := by rw [← hW]; exact (sp_new (Below.refl _ _) _)
  have zW : W.heap.size = w.heap.size + 1 := by rw [← hW]; simp
  rw [hW]
  clear hW
  replace zW := Nat.le_of_eq zW.symm
  go_wp2_with (first
    | (go_at_call 123; (with_reducible refine (k1 _).mono ?_); rintro e v1 ⟨rfl, g⟩; replace bW := sp_call bW g; replace zW := Nat.le_trans zW g.size; replace a0 := sp_cell_on g a0; replace a1 := sp_cell_on g a1; replace a2 := sp_cell_on g a2; clear g)
    | fail)
  go_ret
  exact ⟨rfl, bW⟩
set_option maxRecDepth 100000 in
set_option maxHeartbeats 6400000 in
theorem lihas (e1 : Bool) (a b : Int) (r : Bool) (k1 : ∀ V, Calls Tryz.prog 77 #[.agg #[.bool e1, .int .u64 a, .int .u64 b]] V fun e w' => e = .returned (.bool r) ∧ Below V.heap.size V w') (w : World) :
    Calls Tryz.prog 60 #[.agg #[.bool e1, .int .u64 a, .int .u64 b]] w fun e w' => e = .returned (.bool (r && !e1)) ∧ Below w.heap.size w w' := by
  cases r
  · skip
    go_enter Tryz.func60, Tryz.ntmps60
    go_upto_region 1 with fail
    obtain ⟨W, hW⟩ : ∃ W, (w.alloc (.cells #[.bool e1, .int .u64 a, .int .u64 b] 24)) = W := ⟨_, rfl⟩
    have a0 : W.cell? ⟨w.heap.size, 0, none⟩ = some (.bool e1) := by rw [← hW]; simp [go_sem]
    have a1 : W.cell? ⟨w.heap.size, 1, none⟩ = some (.int .u64 a) := by rw [← hW]; simp [go_sem]
    have a2 : W.cell? ⟨w.heap.size, 2, none⟩ = some (.int .u64 b) := by rw [← hW]; simp [go_sem]
    have bW : Below w.heap.size w W := by rw [← hW]; exact (sp_new (Below.refl _ _) _)
    have zW : W.heap.size = w.heap.size + 1 := by rw [← hW]; simp
    rw [hW]
    clear hW
    replace zW := Nat.le_of_eq zW.symm
    go_wp2_with (first
      | (go_at_call 77; (with_reducible refine (k1 _).mono ?_); rintro e v1 ⟨rfl, g⟩; replace bW := sp_call bW g; replace zW := Nat.le_trans zW g.size; replace a0 := sp_cell_on g a0; replace a1 := sp_cell_on g a1; replace a2 := sp_cell_on g a2; clear g)
      | fail)
    go_ret
    exact ⟨rfl, bW⟩
  · skip
    go_enter Tryz.func60, Tryz.ntmps60
    go_upto_region 1 with fail
    obtain ⟨W, hW⟩ : ∃ W, (w.alloc (.cells #[.bool e1, .int .u64 a, .int .u64 b] 24)) = W := ⟨_, rfl⟩
    have a0 : W.cell? ⟨w.heap.size, 0, none⟩ = some (.bool e1) := by rw [← hW]; simp [go_sem]
    have a1 : W.cell? ⟨w.heap.size, 1, none⟩ = some (.int .u64 a) := by rw [← hW]; simp [go_sem]
    have a2 : W.cell? ⟨w.heap.size, 2, none⟩ = some (.int .u64 b) := by rw [← hW]; simp [go_sem]
    have bW : Below w.heap.size w W := by rw [← hW]; exact (sp_new (Below.refl _ _) _)
    have zW : W.heap.size = w.heap.size + 1 := by rw [← hW]; simp
    rw [hW]
    clear hW
    replace zW := Nat.le_of_eq zW.symm
    go_wp2_with (first
      | (go_at_call 77; (with_reducible refine (k1 _).mono ?_); rintro e v1 ⟨rfl, g⟩; replace bW := sp_call bW g; replace zW := Nat.le_trans zW g.size; replace a0 := sp_cell_on g a0; replace a1 := sp_cell_on g a1; replace a2 := sp_cell_on g a2; clear g)
      | fail)
    go_ret
    exact ⟨by simp, bW⟩
set_option maxRecDepth 100000 in
set_option maxHeartbeats 6400000 in
theorem lizero (e1 : Bool) (a b : Int) (w : World) :
    Calls Tryz.prog 120 #[.agg #[.bool e1, .int .u64 a, .int .u64 b]] w fun e w' => e = .returned (.bool (decide (e1 = false ∧ a = 0 ∧ b = 0))) ∧ Below w.heap.size w w' := by
  by_cases h : e1 = false ∧ a = 0 ∧ b = 0
  · rw [decide_eq_true h]
    obtain ⟨rfl, rfl, rfl⟩ := h
    go_enter Tryz.func120, Tryz.ntmps120
    go_wp2_with fail
    go_ret
    exact ⟨by first | rfl | simp, sp_new (Below.refl _ _) _⟩
  · rw [decide_eq_false h]
    go_enter Tryz.func120, Tryz.ntmps120
    go_wp2_with fail
    all_goals first | (go_ret; exact ⟨rfl, sp_new (Below.refl _ _) _⟩) | (exfalso; simp_all; done)
set_option maxRecDepth 100000 in
set_option maxHeartbeats 6400000 in
theorem lilesser (x y c : Int) (cb : Bool) (k1 : ∀ V, Calls Tryz.prog 145 #[.int .i64 (0), .int .u64 (x), .int .u64 (y)] V fun e w' => e = .returned (.tuple #[.int .i64 c, .bool cb]) ∧ Below V.heap.size V w') (w : World) :
    Calls Tryz.prog 105 #[.int .u64 x, .int .u64 y] w fun e w' => e = .returned (.int .u64 (if 0 < c then y else x)) ∧ Below w.heap.size w w' := by
  by_cases h : 0 < c
  · rw [if_pos h]
    go_enter Tryz.func105, Tryz.ntmps105
    go_wp2_with (first
      | (go_at_call 145; refine (k1 _).mono ?_; rintro e v1 ⟨rfl, g⟩)
      | fail)
    go_ret
    exact ⟨rfl, g⟩
  · rw [if_neg h]
    go_enter Tryz.func105, Tryz.ntmps105
    go_wp2_with (first
      | (go_at_call 145; refine (k1 _).mono ?_; rintro e v1 ⟨rfl, g⟩)
      | fail)
    go_ret
    exact ⟨rfl, g⟩
set_option maxRecDepth 100000 in
set_option maxHeartbeats 6400000 in
theorem ligreater (x y c : Int) (cb : Bool) (k1 : ∀ V, Calls Tryz.prog 145 #[.int .i64 (0), .int .u64 (x), .int .u64 (y)] V fun e w' => e = .returned (.tuple #[.int .i64 c, .bool cb]) ∧ Below V.heap.size V w') (w : World) :
    Calls Tryz.prog 106 #[.int .u64 x, .int .u64 y] w fun e w' => e = .returned (.int .u64 (if c < 0 then y else x)) ∧ Below w.heap.size w w' := by
  by_cases h : c < 0
  · rw [if_pos h]
    go_enter Tryz.func106, Tryz.ntmps106
    go_wp2_with (first
      | (go_at_call 145; refine (k1 _).mono ?_; rintro e v1 ⟨rfl, g⟩)
      | fail)
    go_ret
    exact ⟨rfl, g⟩
  · rw [if_neg h]
    go_enter Tryz.func106, Tryz.ntmps106
    go_wp2_with (first
      | (go_at_call 145; refine (k1 _).mono ?_; rintro e v1 ⟨rfl, g⟩)
      | fail)
    go_ret
    exact ⟨rfl, g⟩
set_option maxRecDepth 100000 in
set_option maxHeartbeats 6400000 in
theorem linegd (x y z : Int) (k1 : ∀ V, Calls Tryz.prog 79 #[.int .i64 (0), .int .u64 (x)] V fun e w' => e = .returned (.int .u64 (y)) ∧ Below V.heap.size V w') (k2 : ∀ V, Calls Tryz.prog 133 #[.int .i64 (0), .int .u64 (y)] V fun e w' => e = .returned (.int .u64 (z)) ∧ Below V.heap.size V w') (w : World) :
    Calls Tryz.prog 122 #[.int .u64 x] w fun e w' => e = .returned (.int .u64 z) ∧ Below w.heap.size w w' := by
  go_enter Tryz.func122, Tryz.ntmps122
  go_wp2_with (first
    | (go_at_call 79; refine (k1 _).mono ?_; rintro e v1 ⟨rfl, g1⟩)
    | (go_at_call 133; refine (k2 _).mono ?_; rintro e v2 ⟨rfl, g2⟩)
    | fail)
  go_ret
  exact ⟨rfl, sp_call g1 g2⟩
set_option maxRecDepth 100000 in
set_option maxHeartbeats 6400000 in
theorem liturned (e1 : Bool) (a b x y : Int) (k1 : ∀ V, Calls Tryz.prog 122 #[.int .u64 (b)] V fun e w' => e = .returned (.int .u64 (x)) ∧ Below V.heap.size V w') (k2 : ∀ V, Calls Tryz.prog 122 #[.int .u64 (a)] V fun e w' => e = .returned (.int .u64 (y)) ∧ Below V.heap.size V w') (w : World) :
    Calls Tryz.prog 71 #[.agg #[.bool e1, .int .u64 a, .int .u64 b]] w fun e w' => e = .returned (.agg #[.bool false, .int .u64 x, .int .u64 y]) ∧ Below w.heap.size w w' := by
  go_enter Tryz.func71, Tryz.ntmps71
  go_upto_region 1 with fail
  obtain ⟨W, hW⟩ : ∃ W, ((w.alloc (.cells #[.bool e1, .int .u64 a, .int .u64 b] 24)).alloc (.cells #[.bool false, .int .u64 0, .int .u64 0] 24)) = W := ⟨_, rfl⟩
  have a0 : W.cell? ⟨w.heap.size, 0, none⟩ = some (.bool e1) := by rw [← hW]; simp [go_sem]
  have a1 : W.cell? ⟨w.heap.size, 1, none⟩ = some (.int .u64 a) := by rw [← hW]; simp [go_sem]
  have a2 : W.cell? ⟨w.heap.size, 2, none⟩ = some (.int .u64 b) := by rw [← hW]; simp [go_sem]
  have r0 : W.cell? ⟨w.heap.size + 1, 0, none⟩ = some (.bool false) := by rw [← hW]; simp [go_sem]
  have r1 : W.cell? ⟨w.heap.size + 1, 1, none⟩ = some (.int .u64 0) := by rw [← hW]; simp [go_sem]
  have r2 : W.cell? ⟨w.heap.size + 1, 2, none⟩ = some (.int .u64 0) := by rw [← hW]; simp [go_sem]
  have bW : Below w.heap.size w W := by rw [← hW]; exact (sp_new (sp_new (Below.refl _ _) _) _)
  have zW : W.heap.size = w.heap.size + 2 := by rw [← hW]; simp
  have fz : ∀ j, W.frozen? ⟨w.heap.size + 1, j, none⟩ = false := by intro j; rw [← hW]; simp [go_sem]
  rw [hW]
  clear hW
  replace zW := Nat.le_of_eq zW.symm
  have cc : Below W.heap.size W W := Below.refl _ _
  have hall : ∀ X9, Below W.heap.size W X9 → (X9.cell? ⟨w.heap.size, 0, none⟩ = some (.bool e1) ∧ X9.cell? ⟨w.heap.size, 1, none⟩ = some (.int .u64 a) ∧ X9.cell? ⟨w.heap.size, 2, none⟩ = some (.int .u64 b)) := fun X9 cc => ⟨sp_cell_on cc a0, sp_cell_on cc a1, sp_cell_on cc a2⟩
  have hst : ∀ X9 x9 y9 z9, Below W.heap.size W X9 → ((((X9.setCell ⟨w.heap.size + 1, 0, none⟩ x9).setCell ⟨w.heap.size + 1, 1, none⟩ y9).setCell ⟨w.heap.size + 1, 2, none⟩ z9).cell? ⟨w.heap.size, 0, none⟩ = some (.bool e1) ∧ (((X9.setCell ⟨w.heap.size + 1, 0, none⟩ x9).setCell ⟨w.heap.size + 1, 1, none⟩ y9).setCell ⟨w.heap.size + 1, 2, none⟩ z9).cell? ⟨w.heap.size, 1, none⟩ = some (.int .u64 a) ∧ (((X9.setCell ⟨w.heap.size + 1, 0, none⟩ x9).setCell ⟨w.heap.size + 1, 1, none⟩ y9).setCell ⟨w.heap.size + 1, 2, none⟩ z9).cell? ⟨w.heap.size, 2, none⟩ = some (.int .u64 b)) := fun X9 x9 y9 z9 cc => ⟨sp_keep3 (sp_cell_on cc a0) (by omega) _ _ _, sp_keep3 (sp_cell_on cc a1) (by omega) _ _ _, sp_keep3 (sp_cell_on cc a2) (by omega) _ _ _⟩
  go_region_held3 (fun w' => w'.cell? ⟨w.heap.size, 0, none⟩ = some (.bool e1) ∧ w'.cell? ⟨w.heap.size, 1, none⟩ = some (.int .u64 a) ∧ w'.cell? ⟨w.heap.size, 2, none⟩ = some (.int .u64 b)) (first | exact hall _ (by first | with_reducible exact cc | with_reducible exact cc.drew) | exact hst _ _ _ _ (by first | with_reducible exact cc | with_reducible exact cc.drew))
    (first
      | (go_at_call 122; (with_reducible refine (k1 _).mono ?_); rintro e u1 ⟨rfl, g⟩; replace cc := sp_call (show Below W.heap.size W _ by first | with_reducible exact cc | with_reducible exact cc.drew) g; clear g; clear k1)
      | (go_at_call 122; (with_reducible refine (k2 _).mono ?_); rintro e u2 ⟨rfl, g⟩; replace cc := sp_call (show Below W.heap.size W _ by first | with_reducible exact cc | with_reducible exact cc.drew) g; clear g; have zc := cc.size; replace r0 := sp_cell_on cc r0; replace r1 := sp_cell_on cc r1; replace r2 := sp_cell_on cc r2; replace fz : ∀ j, u2.frozen? ⟨w.heap.size + 1, j, none⟩ = false := fun j => (cc.frozen (p := ⟨w.heap.size + 1, j, none⟩) (by first | (simp; done) | (simp; omega))).trans (fz j); replace bW := sp_call bW cc)
      | fail)
  all_goals go_wp2
  all_goals exact bodyPost_ret (v := .agg #[.bool false, .int .u64 x, .int .u64 y]) (by simp [results, Tryz.results71, go_sem, r0, r1, r2]) rfl ⟨rfl, sp_set3 bW (by omega) _ _ _⟩
end Go.Proofs.YteafnkimcidkhaaGreat
