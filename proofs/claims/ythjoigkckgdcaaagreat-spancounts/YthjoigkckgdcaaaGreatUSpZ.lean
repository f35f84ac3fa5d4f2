/- What live asks of ints. -/
import Derived.Test.YthjoigkckgdcaaaGreatUSpY
namespace Go.Proofs.YthjoigkckgdcaaaGreat
open Go.RowKit
set_option linter.unusedVariables false
set_option linter.unusedSimpArgs false
theorem domI_0 : WyI.dom 0 := by unfold WyI; exact ⟨by decide, by decide⟩
theorem domI_of {x : Int} (h1 : -9223372036854775808 ≤ x) (h2 : x ≤ 9223372036854775807) : WyI.dom x := ⟨h1, h2⟩
theorem intOf_any (x y : Int) (hx : -9223372036854775808 ≤ x ∧ x ≤ 9223372036854775807) (hy : -9223372036854775808 ≤ y ∧ y ≤ 9223372036854775807) (w : World) :
    Calls Tryz.prog 48 #[.int .i64 x, .int .i64 y] w fun e w' => e = .returned (.agg #[.bool (ofP WyI x y).1, .int .i64 (ofP WyI x y).2.1, .int .i64 (ofP WyI x y).2.2]) ∧ Below w.heap.size w w' :=
  intOf_of x y _ _ _ (fun V => of_i (acts_i V) x y hx hy hx hy V (Below.refl _ _)) w
theorem live_mul (w : World) : Calls Tryz.prog 62 #[.int .i64 10, .agg #[.bool false, .int .i64 1, .int .i64 3], .agg #[.bool false, .int .i64 (-2), .int .i64 2]] w fun e w' => e = .returned (.tuple #[.agg #[.bool false, .int .i64 (-6), .int .i64 6], .int .i64 0]) ∧ Below w.heap.size w w' := by
  refine intTwo_of 10 false false 1 3 (-2) 2 false (-6) 6 0 (fun V => ?_) w
  have h := two_i (acts_i V) (enters_of Tryz.func199 (by kernel_rfl) rfl) 8 trapsOf_4 10 rfl (okI 10) (gI 10) (by2_i 10 (by decide) V) 1 3 (-2) 2 domI_0 (domI_of (by decide) (by decide)) (domI_of (by decide) (by decide)) (fun p hp => by
    have : p ∈ [((1 : Int), (-2 : Int)), (1, 2), (3, -2), (3, 2)] := hp
    simp only [List.mem_cons, List.not_mem_nil, or_false] at this
    rcases this with rfl | rfl | rfl | rfl <;> exact ⟨by unfold okI; decide, by unfold WyI gI; decide, by unfold WyI gI; decide⟩) V (Below.refl _ _)
  exact h
theorem live_div (w : World) : Calls Tryz.prog 62 #[.int .i64 11, .agg #[.bool false, .int .i64 1, .int .i64 1], .agg #[.bool false, .int .i64 (-1), .int .i64 1]] w fun e w' => e = .returned (.tuple #[.agg #[.bool false, .int .i64 (-1), .int .i64 1], .int .i64 16]) ∧ Below w.heap.size w w' := by
  refine intTwo_of 11 false false 1 1 (-1) 1 false (-1) 1 16 (fun V => ?_) w
  have h := twod_i (acts_i V) (enters_of Tryz.func199 (by kernel_rfl) rfl) (enters_of Tryz.func200 (by kernel_rfl) rfl) 8 trapsOf_4 (okI 11) (gI 11) (by2_i 11 (by decide) V) 1 1 (-1) 1 16 domI_0 domI_0 (by decide) (domI_of (by decide) (by decide)) (domI_of (by decide) (by decide)) (domI_of (by decide) (by decide)) (domI_of (by decide) (by decide)) (domI_of (by decide) (by decide)) (domI_of (by decide) (by decide)) (fun p hp => by
    have : p ∈ [((1 : Int), (-1 : Int)), (1, -1), (1, 1), (1, 1), (1, -1), (1, -1), (1, 1), (1, 1)] := hp
    simp only [List.mem_cons, List.not_mem_nil, or_false] at this
    rcases this with rfl | rfl | rfl | rfl | rfl | rfl | rfl | rfl <;> exact ⟨by unfold okI; decide, by unfold WyI gI; decide, by unfold WyI gI; decide⟩) V (Below.refl _ _) (fun V' _ => byZero_i false 1 1 V')
  exact h
end Go.Proofs.YthjoigkckgdcaaaGreat

