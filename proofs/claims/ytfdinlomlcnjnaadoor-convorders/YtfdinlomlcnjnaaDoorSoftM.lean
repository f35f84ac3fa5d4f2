/- Sums of two floats. -/
import Derived.Test.YtfdinlomlcnjnaaDoorSoftJ
namespace Go.Proofs.YtfdinlomlcnjnaaDoor
open Go.RowKit
set_option linter.unusedVariables false
set_option linter.unusedSimpArgs false
end Go.Proofs.YtfdinlomlcnjnaaDoor

