/- The statements' format; the reference's Finite. -/
import Derived.Test.YtfdinlomlcnjnaaSRefA
import Derived.Test.YtfdinlomlcnjnaaSoftO
namespace Go.Proofs.Ytfdinlomlcnjnaa
open Go.RowKit
set_option linter.unusedVariables false
set_option linter.unusedSimpArgs false
theorem format_any (f : Int) (w : World) : Calls Try.prog 5 #[.int .i64 f] w fun e w' => e = .returned (.int .i64 (fb (f == 1))) ∧ w' = w := by
  by_cases c : f = 1
  · subst c
    go_enter Try.func5, Try.ntmps5
    go_wp2_with fail
    go_ret
    exact ⟨rfl, rfl⟩
  · have c' : (f == 1) = false := by simp [c]
    rw [c']
    go_enter Try.func5, Try.ntmps5
    go_wp2_with fail
    go_ret
    exact ⟨rfl, rfl⟩
theorem fb_back (s : Bool) : (fb s == 1) = s := by cases s <;> rfl
end Go.Proofs.Ytfdinlomlcnjnaa

