/- The reference's less and outward, of forms. -/
import Derived.Test.YteafnkimcidkhaaGreatLiA
namespace Go.Proofs.YteafnkimcidkhaaGreat
open Go.RowKit
set_option linter.unusedVariables false
set_option linter.unusedSimpArgs false
theorem lj_dN (w : World) (k : Nat) : Below w.heap.size w (w.drewN k) := ⟨rfl, rfl, rfl, Nat.le_refl _, fun _ _ => rfl⟩
set_option maxRecDepth 100000 in
theorem rless9 (a b n : Int) (ok : Bool) (k : ∀ V, Calls Tryz.prog 119 #[.int .i64 0, .int .u64 a, .int .u64 b] V fun e w' => e = .returned (.tuple #[.int .i64 n, .bool ok]) ∧ ∃ q, w' = V.drewN q) (w : World) :
    Calls Tryz.prog 59 #[.int .u64 a, .int .u64 b] w fun e w' => e = .returned (.bool (ok && decide (n < 0))) ∧ ∃ q, w' = w.drewN q := by
  cases ok
  · go_enter Tryz.func59, Tryz.ntmps59
    go_wp2_with (first
      | (go_at_call 119; refine (k _).mono ?_; rintro e v1 ⟨rfl, q, rfl⟩)
      | fail)
    go_ret
    exact ⟨rfl, _, rfl⟩
  · simp only [Bool.true_and]
    go_enter Tryz.func59, Tryz.ntmps59
    go_wp2_with (first
      | (go_at_call 119; refine (k _).mono ?_; rintro e v1 ⟨rfl, q, rfl⟩)
      | fail)
    go_ret
    exact ⟨rfl, _, rfl⟩
set_option maxRecDepth 100000 in
theorem rout9 (lo hi : Int) (f1 f2 : Bool) (e1 : Bool) (l h : Int) (k1 : ∀ V, Calls Tryz.prog 44 #[.int .i64 0, .int .u64 lo] V fun e w' => e = .returned (.bool f1) ∧ ∃ q, w' = V.drewN q) (k2 : ∀ V, Calls Tryz.prog 44 #[.int .i64 0, .int .u64 hi] V fun e w' => e = .returned (.bool f2) ∧ ∃ q, w' = V.drewN q)
    (ko : ∀ V, Calls Tryz.prog 42 #[.int .i64 0, .int .u64 lo, .int .u64 hi] V fun e w' => e = .returned (.agg #[.bool e1, .int .u64 l, .int .u64 h]) ∧ Below V.heap.size V w') (w : World) :
    Calls Tryz.prog 56 #[.int .u64 lo, .int .u64 hi] w fun e w' => e = .returned (if (f1 && f2) = true then .tuple #[.agg #[.bool e1, .int .u64 l, .int .u64 h], .bool true] else .tuple #[.agg #[.bool false, .int .u64 0, .int .u64 0], .bool false]) ∧ Below w.heap.size w w' := by
  obtain ⟨W, hW⟩ : ∃ W, w.alloc (.cells #[.bool false, .int .u64 0, .int .u64 0] 24) = W := ⟨_, rfl⟩
  have gW : Below w.heap.size w W := by rw [← hW]; exact (Below.refl _ _).alloc (Nat.le_refl _) _
  have zW : w.heap.size + 1 ≤ W.heap.size := by rw [← hW]; simp
  have r0 : W.cell? ⟨w.heap.size, 0, none⟩ = some (.bool false) := by rw [← hW]; simp [go_sem]
  have r1 : W.cell? ⟨w.heap.size, 1, none⟩ = some (.int .u64 0) := by rw [← hW]; simp [go_sem]
  have r2 : W.cell? ⟨w.heap.size, 2, none⟩ = some (.int .u64 0) := by rw [← hW]; simp [go_sem]
  have fz : ∀ j, W.frozen? ⟨w.heap.size, j, none⟩ = false := by intro j; rw [← hW]; simp [go_sem]
  cases f1 <;> cases f2
  all_goals simp only [Bool.and_self, Bool.and_false, Bool.and_true, Bool.false_eq_true, if_false, if_true]
  all_goals
    go_enter Tryz.func56, Tryz.ntmps56
    go_upto_region 1 with fail
    (try rw [hW])
    clear hW
    go_wp2_with (first
      | (go_at_call_of 44 lo; refine (k1 _).mono ?_; rintro e v1 ⟨rfl, q, rfl⟩; have g := lj_dN W q; replace fz : ∀ j, (W.drewN q).frozen? ⟨w.heap.size, j, none⟩ = false := fz; replace r0 := sp_cell_on g r0; replace r1 := sp_cell_on g r1; replace r2 := sp_cell_on g r2; replace gW := sp_call gW g; replace zW := Nat.le_trans zW g.size; clear g k1; generalize W.drewN q = W at *)
      | (go_at_call_of 44 hi; refine (k2 _).mono ?_; rintro e v2 ⟨rfl, q2, rfl⟩; have g := lj_dN W q2; replace fz : ∀ j, (W.drewN q2).frozen? ⟨w.heap.size, j, none⟩ = false := fz; replace r0 := sp_cell_on g r0; replace r1 := sp_cell_on g r1; replace r2 := sp_cell_on g r2; replace gW := sp_call gW g; replace zW := Nat.le_trans zW g.size; clear g k2; generalize W.drewN q2 = W at *)
      | (go_at_call 42; refine (ko _).mono ?_; rintro e v3 ⟨rfl, g⟩; replace fz : ∀ j, v3.frozen? ⟨w.heap.size, j, none⟩ = false := fun j => (g.frozen (p := ⟨w.heap.size, j, none⟩) (by first | (simp; done) | (simp; omega))).trans (fz j); replace r0 := sp_cell_on g r0; replace r1 := sp_cell_on g r1; replace r2 := sp_cell_on g r2; replace gW := sp_call gW g; clear g)
      | fail)
  all_goals first
    | exact bodyPost_ret (v := .tuple #[.agg #[.bool false, .int .u64 0, .int .u64 0], .bool false]) (by simp [results, Tryz.results56, go_sem, r0, r1, r2]) rfl ⟨rfl, ((gW.setCell (p := ⟨w.heap.size, 0, none⟩) (Nat.le_refl _) _).setCell (p := ⟨w.heap.size, 1, none⟩) (Nat.le_refl _) _).setCell (p := ⟨w.heap.size, 2, none⟩) (Nat.le_refl _) _⟩
    | exact bodyPost_ret (v := .tuple #[.agg #[.bool e1, .int .u64 l, .int .u64 h], .bool true]) (by simp [results, Tryz.results56, go_sem, r0, r1, r2]) rfl ⟨rfl, ((gW.setCell (p := ⟨w.heap.size, 0, none⟩) (Nat.le_refl _) _).setCell (p := ⟨w.heap.size, 1, none⟩) (Nat.le_refl _) _).setCell (p := ⟨w.heap.size, 2, none⟩) (Nat.le_refl _) _⟩
end Go.Proofs.YteafnkimcidkhaaGreat
