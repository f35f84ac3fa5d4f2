/- Products of two floats. -/
import Derived.Test.YtfbkiklopeebdaaSoftJ
namespace Go.Proofs.Ytfbkiklopeebdaa
open Go.RowKit
set_option linter.unusedVariables false
set_option linter.unusedSimpArgs false
end Go.Proofs.Ytfbkiklopeebdaa

