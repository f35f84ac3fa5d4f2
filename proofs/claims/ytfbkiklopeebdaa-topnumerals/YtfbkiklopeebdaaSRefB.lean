/- The reference's signs, and what is no number. -/
import Derived.Test.YtfbkiklopeebdaaSRefA
namespace Go.Proofs.Ytfbkiklopeebdaa
open Go.RowKit
set_option linter.unusedVariables false
set_option linter.unusedSimpArgs false
end Go.Proofs.Ytfbkiklopeebdaa

