/- Quotients of two floats. -/
import Derived.Test.YtaiihaopgchbfaaDoorSoftJ
namespace Go.Proofs.YtaiihaopgchbfaaDoor
open Go.RowKit
set_option linter.unusedVariables false
set_option linter.unusedSimpArgs false
end Go.Proofs.YtaiihaopgchbfaaDoor

