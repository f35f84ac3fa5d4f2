/- The references' calls of ints. -/
import Derived.Test.YtpcbammncaeimaaSpZ
namespace Go.Proofs.Ytpcbammncaeimaa
open Go.RowKit
set_option linter.unusedVariables false
set_option linter.unusedSimpArgs false
/-- A right range of ints. -/
def rI (e : Bool) (a b : Int) : Bool := if e then (a == 0 && b == 0) else decide (a ≤ b) && (decide (-2147483648 ≤ a) && decide (b ≤ 2147483647))
set_option maxRecDepth 100000 in
set_option maxHeartbeats 1600000 in
theorem rright_i (e : Bool) (a b : Int) (w : World) : Calls Try.prog 93 #[.agg #[.bool e, .int .i64 a, .int .i64 b]] w fun r w' => r = .returned (.bool (rI e a b)) ∧ Below w.heap.size w w' := by
  unfold rI
  cases e
  · rcases q1 : decide (a ≤ b) with _ | _
    · go_enter Try.func93, Try.ntmps93
      go_wp2_with fail
      go_ret
      exact ⟨by simp, sp_new (Below.refl _ _) _⟩
    · rcases q2 : decide (-2147483648 ≤ a) with _ | _
      · go_enter Try.func93, Try.ntmps93
        go_wp2_with fail
        go_ret
        exact ⟨by simp, sp_new (Below.refl _ _) _⟩
      · rcases q3 : decide (b ≤ 2147483647) with _ | _
        · go_enter Try.func93, Try.ntmps93
          go_wp2_with fail
          go_ret
          exact ⟨by simp, sp_new (Below.refl _ _) _⟩
        · go_enter Try.func93, Try.ntmps93
          go_wp2_with fail
          go_ret
          exact ⟨by simp, sp_new (Below.refl _ _) _⟩
  · rcases q1 : (a == 0) with _ | _
    · go_enter Try.func93, Try.ntmps93
      go_wp2_with fail
      go_ret
      exact ⟨by simp, sp_new (Below.refl _ _) _⟩
    · rcases q2 : (b == 0) with _ | _
      all_goals
        go_enter Try.func93, Try.ntmps93
        go_wp2_with fail
        go_ret
        exact ⟨by simp, sp_new (Below.refl _ _) _⟩
def hI (e : Bool) (a b x : Int) : Bool := !e && (decide (a ≤ x) && decide (x ≤ b))
/-- An int as a value, or the trap. -/
def wholeV (n : Int) : Value := if in32 n then .tuple #[.agg #[.int .i64 1, .int .i64 n, .int .u64 0], .int .i64 0] else .tuple #[.agg #[.int .i64 0, .int .i64 0, .int .u64 0], .int .i64 4]
end Go.Proofs.Ytpcbammncaeimaa

