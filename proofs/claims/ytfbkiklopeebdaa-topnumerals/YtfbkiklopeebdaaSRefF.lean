/- The statements' format; the reference's Finite. -/
import Derived.Test.YtfbkiklopeebdaaSRefA
import Derived.Test.YtfbkiklopeebdaaSoftO
namespace Go.Proofs.Ytfbkiklopeebdaa
open Go.RowKit
set_option linter.unusedVariables false
set_option linter.unusedSimpArgs false
theorem fb_back (s : Bool) : (fb s == 1) = s := by cases s <;> rfl
end Go.Proofs.Ytfbkiklopeebdaa

