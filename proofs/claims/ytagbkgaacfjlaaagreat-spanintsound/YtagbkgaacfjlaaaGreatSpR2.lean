/- The reference's Two of ints. -/
import Derived.Test.YtagbkgaacfjlaaaGreatSpR
namespace Go.Proofs.YtagbkgaacfjlaaaGreat
open Go.RowKit
set_option linter.unusedVariables false
set_option linter.unusedSimpArgs false
set_option maxRecDepth 100000 in
theorem rformat_1 (w : World) : Calls Tryz.prog 136 #[.int .i64 1] w fun r w' => r = .returned (.int .i64 0) ∧ w' = w := by
  go_enter Tryz.func136, Tryz.ntmps136
  go_wp2_with fail
  go_ret
  exact ⟨rfl, rfl⟩
/-- Two ints by an op: an int, or the trap. -/
def twoV (op x y : Int) : Value := if op = 11 ∧ y = 0 then .tuple #[.agg #[.int .i64 0, .int .i64 0, .int .u64 0], .int .i64 5] else wholeV (gI op x y)
theorem wholeV_form (n : Int) : ∃ t v tr : Int, wholeV n = .tuple #[.agg #[.int .i64 t, .int .i64 v, .int .u64 0], .int .i64 tr] := by
  unfold wholeV
  split
  · exact ⟨_, _, _, rfl⟩
  · exact ⟨_, _, _, rfl⟩
set_option maxRecDepth 100000 in
set_option maxHeartbeats 1600000 in
theorem rtwo_add (x y : Int) (h : okI 8 x y) (w : World) : Calls Tryz.prog 69 #[.int .i64 8, .agg #[.int .i64 1, .int .i64 x, .int .u64 0], .agg #[.int .i64 1, .int .i64 y, .int .u64 0]] w fun r w' => r = .returned (wholeV (gI 8 x y)) ∧ Below w.heap.size w w' := by
  obtain ⟨h1, h2, h3, h4, h5⟩ := h
  have hf := rformat_1
  have hw := rwhole (x + y)
  obtain ⟨t, v, tr, ev⟩ := wholeV_form (x + y)
  rw [show gI 8 x y = x + y by simp [gI]]
  rw [ev] at hw ⊢
  clear ev
  go_enter Tryz.func69, Tryz.ntmps69
  go_wp2_with (first
    | (go_at_call 136; refine (hf _).mono ?_; rintro e w1 ⟨rfl, rfl⟩)
    | (go_at_call 142; refine (hw _).mono ?_; rintro e w2 ⟨rfl, g2⟩; obtain ⟨hc, hz⟩ := bcelli g2)
    | fail)
  exact bodyPost_ret (v := .tuple #[.agg #[.int .i64 t, .int .i64 v, .int .u64 0], .int .i64 tr]) (by simp [results, Tryz.results69, go_sem, hc]) rfl ⟨rfl, sp_set3 (sp_call (sp_new (sp_new (sp_new (Below.refl _ _) _) _) _) g2) (by omega) _ _ _⟩
set_option maxRecDepth 100000 in
set_option maxHeartbeats 1600000 in
theorem rtwo_sub (x y : Int) (h : okI 9 x y) (w : World) : Calls Tryz.prog 69 #[.int .i64 9, .agg #[.int .i64 1, .int .i64 x, .int .u64 0], .agg #[.int .i64 1, .int .i64 y, .int .u64 0]] w fun r w' => r = .returned (wholeV (gI 9 x y)) ∧ Below w.heap.size w w' := by
  obtain ⟨h1, h2, h3, h4, h5⟩ := h
  have hf := rformat_1
  have hw := rwhole (x - y)
  obtain ⟨t, v, tr, ev⟩ := wholeV_form (x - y)
  rw [show gI 9 x y = x - y by simp [gI]]
  rw [ev] at hw ⊢
  clear ev
  go_enter Tryz.func69, Tryz.ntmps69
  go_wp2_with (first
    | (go_at_call 136; refine (hf _).mono ?_; rintro e w1 ⟨rfl, rfl⟩)
    | (go_at_call 142; refine (hw _).mono ?_; rintro e w2 ⟨rfl, g2⟩; obtain ⟨hc, hz⟩ := bcelli g2)
    | fail)
  exact bodyPost_ret (v := .tuple #[.agg #[.int .i64 t, .int .i64 v, .int .u64 0], .int .i64 tr]) (by simp [results, Tryz.results69, go_sem, hc]) rfl ⟨rfl, sp_set3 (sp_call (sp_new (sp_new (sp_new (Below.refl _ _) _) _) _) g2) (by omega) _ _ _⟩
set_option maxRecDepth 100000 in
set_option maxHeartbeats 1600000 in
theorem rtwo_mul (x y : Int) (h : okI 10 x y) (w : World) : Calls Tryz.prog 69 #[.int .i64 10, .agg #[.int .i64 1, .int .i64 x, .int .u64 0], .agg #[.int .i64 1, .int .i64 y, .int .u64 0]] w fun r w' => r = .returned (wholeV (gI 10 x y)) ∧ Below w.heap.size w w' := by
  obtain ⟨h1, h2, h3, h4, h5⟩ := h
  obtain ⟨b1, b2⟩ := mulI_bound h1 h2 h3 h4
  have hf := rformat_1
  have hw := rwhole (x * y)
  obtain ⟨t, v, tr, ev⟩ := wholeV_form (x * y)
  rw [show gI 10 x y = x * y by simp [gI]]
  rw [ev] at hw ⊢
  clear ev
  go_enter Tryz.func69, Tryz.ntmps69
  go_wp2_with (first
    | (go_at_call 136; refine (hf _).mono ?_; rintro e w1 ⟨rfl, rfl⟩)
    | (go_at_call 142; refine (hw _).mono ?_; rintro e w2 ⟨rfl, g2⟩; obtain ⟨hc, hz⟩ := bcelli g2)
    | fail)
  exact bodyPost_ret (v := .tuple #[.agg #[.int .i64 t, .int .i64 v, .int .u64 0], .int .i64 tr]) (by simp [results, Tryz.results69, go_sem, hc]) rfl ⟨rfl, sp_set3 (sp_call (sp_new (sp_new (sp_new (Below.refl _ _) _) _) _) g2) (by omega) _ _ _⟩
set_option maxRecDepth 100000 in
set_option maxHeartbeats 1600000 in
theorem rtwo_div (x y : Int) (h : okI 11 x y) (w : World) : Calls Tryz.prog 69 #[.int .i64 11, .agg #[.int .i64 1, .int .i64 x, .int .u64 0], .agg #[.int .i64 1, .int .i64 y, .int .u64 0]] w fun r w' => r = .returned (wholeV (gI 11 x y)) ∧ Below w.heap.size w w' := by
  obtain ⟨h1, h2, h3, h4, h5⟩ := h
  have h6 : ¬ y = 0 := h5 rfl
  have h7 : (y == 0) = false := by simp [h6]
  have b : -2147483648 ≤ x.tdiv y ∧ x.tdiv y ≤ 2147483648 := by
    have a := Int.natAbs_tdiv_le_natAbs x y
    omega
  clear h5
  have hf := rformat_1
  have hw := rwhole (x.tdiv y)
  obtain ⟨t, v, tr, ev⟩ := wholeV_form (x.tdiv y)
  rw [show gI 11 x y = x.tdiv y by simp [gI]]
  rw [ev] at hw ⊢
  clear ev
  go_enter Tryz.func69, Tryz.ntmps69
  go_wp2_with (first
    | (go_at_call 136; refine (hf _).mono ?_; rintro e w1 ⟨rfl, rfl⟩)
    | (go_at_call 142; refine (hw _).mono ?_; rintro e w2 ⟨rfl, g2⟩; obtain ⟨hc, hz⟩ := bcelli g2)
    | fail)
  exact bodyPost_ret (v := .tuple #[.agg #[.int .i64 t, .int .i64 v, .int .u64 0], .int .i64 tr]) (by simp [results, Tryz.results69, go_sem, hc]) rfl ⟨rfl, sp_set3 (sp_call (sp_new (sp_new (sp_new (Below.refl _ _) _) _) _) g2) (by omega) _ _ _⟩
set_option maxRecDepth 100000 in
set_option maxHeartbeats 1600000 in
theorem rtwo_zero (x : Int) (w : World) : Calls Tryz.prog 69 #[.int .i64 11, .agg #[.int .i64 1, .int .i64 x, .int .u64 0], .agg #[.int .i64 1, .int .i64 0, .int .u64 0]] w fun r w' => r = .returned (.tuple #[.agg #[.int .i64 0, .int .i64 0, .int .u64 0], .int .i64 5]) ∧ Below w.heap.size w w' := by
  have hf := rformat_1
  go_enter Tryz.func69, Tryz.ntmps69
  go_wp2_with (first
    | (go_at_call 136; refine (hf _).mono ?_; rintro e w1 ⟨rfl, rfl⟩)
    | fail)
  exact bodyPost_ret (v := .tuple #[.agg #[.int .i64 0, .int .i64 0, .int .u64 0], .int .i64 5]) (by simp [results, Tryz.results69, go_sem]) rfl ⟨rfl, sp_new (sp_new (sp_new (Below.refl _ _) _) _) _⟩
end Go.Proofs.YtagbkgaacfjlaaaGreat
