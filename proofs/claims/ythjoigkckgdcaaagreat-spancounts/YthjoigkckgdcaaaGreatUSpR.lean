/- The references' calls of ints. -/
import Derived.Test.YthjoigkckgdcaaaGreatUSpZ
namespace Go.Proofs.YthjoigkckgdcaaaGreat
open Go.RowKit
set_option linter.unusedVariables false
set_option linter.unusedSimpArgs false
set_option maxRecDepth 100000 in
theorem rbit_5 (w : World) : Calls Tryz.prog 71 #[.int .i64 5] w fun e w' => e = .returned (.int .i64 16) ∧ w' = w := by
  go_enter Tryz.func71, Tryz.ntmps71
  go_wp2_with fail
  go_ret
  exact ⟨rfl, rfl⟩
def rI (e : Bool) (a b : Int) : Bool := if e then (a == 0 && b == 0) else decide (a ≤ b) && (decide (-2147483648 ≤ a) && decide (b ≤ 2147483647))
set_option maxRecDepth 100000 in
set_option maxHeartbeats 1600000 in
theorem rright_i (e : Bool) (a b : Int) (w : World) : Calls Tryz.prog 47 #[.agg #[.bool e, .int .i64 a, .int .i64 b]] w fun r w' => r = .returned (.bool (rI e a b)) ∧ Below w.heap.size w w' := by
  unfold rI
  cases e
  · rcases q1 : decide (a ≤ b) with _ | _
    · go_enter Tryz.func47, Tryz.ntmps47
      go_wp2_with fail
      go_ret
      exact ⟨by simp, sp_new (Below.refl _ _) _⟩
    · rcases q2 : decide (-2147483648 ≤ a) with _ | _
      · go_enter Tryz.func47, Tryz.ntmps47
        go_wp2_with fail
        go_ret
        exact ⟨by simp, sp_new (Below.refl _ _) _⟩
      · rcases q3 : decide (b ≤ 2147483647) with _ | _
        · go_enter Tryz.func47, Tryz.ntmps47
          go_wp2_with fail
          go_ret
          exact ⟨by simp, sp_new (Below.refl _ _) _⟩
        · go_enter Tryz.func47, Tryz.ntmps47
          go_wp2_with fail
          go_ret
          exact ⟨by simp, sp_new (Below.refl _ _) _⟩
  · rcases q1 : (a == 0) with _ | _
    · go_enter Tryz.func47, Tryz.ntmps47
      go_wp2_with fail
      go_ret
      exact ⟨by simp, sp_new (Below.refl _ _) _⟩
    · rcases q2 : (b == 0) with _ | _
      all_goals
        go_enter Tryz.func47, Tryz.ntmps47
        go_wp2_with fail
        go_ret
        exact ⟨by simp, sp_new (Below.refl _ _) _⟩
def hI (e : Bool) (a b x : Int) : Bool := !e && (decide (a ≤ x) && decide (x ≤ b))
set_option maxRecDepth 100000 in
set_option maxHeartbeats 1600000 in
theorem rhas_i (e : Bool) (a b x : Int) (w : World) : Calls Tryz.prog 53 #[.agg #[.bool e, .int .i64 a, .int .i64 b], .int .i64 x] w fun r w' => r = .returned (.bool (hI e a b x)) ∧ Below w.heap.size w w' := by
  unfold hI
  cases e
  · rcases q1 : decide (a ≤ x) with _ | _
    · go_enter Tryz.func53, Tryz.ntmps53
      go_wp2_with fail
      go_ret
      exact ⟨by simp, sp_new (Below.refl _ _) _⟩
    · rcases q2 : decide (x ≤ b) with _ | _
      all_goals
        go_enter Tryz.func53, Tryz.ntmps53
        go_wp2_with fail
        go_ret
        exact ⟨by simp, sp_new (Below.refl _ _) _⟩
  · go_enter Tryz.func53, Tryz.ntmps53
    go_wp2_with fail
    go_ret
    exact ⟨by simp, sp_new (Below.refl _ _) _⟩
end Go.Proofs.YthjoigkckgdcaaaGreat

