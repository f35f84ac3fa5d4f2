/- What wide.words and wide.Compare answer. -/
import Derived.Test.YtfbkiklopeebdaaWideB
import Derived.BigQuiet
import Derived.Deep.QuietTactic
import Derived.Deep.DeepCutAuto
namespace Go.Proofs.Ytfbkiklopeebdaa
open Go.RowKit
set_option linter.unusedVariables false

/-- Which of two numbers is greater. -/
def cmpN (a b : Int) : Int := if a < b then -1 else if b < a then 1 else 0
theorem cmpN_lt {a b : Int} (h : a < b) : -1 = cmpN a b := by unfold cmpN; rw [if_pos h]
theorem cmpN_gt {a b : Int} (h : b < a) : 1 = cmpN a b := by unfold cmpN; rw [if_neg (by omega), if_pos h]
theorem cmpN_eq {a b : Int} (h : a = b) : 0 = cmpN a b := by unfold cmpN; rw [if_neg (by omega), if_neg (by omega)]
end Go.Proofs.Ytfbkiklopeebdaa

