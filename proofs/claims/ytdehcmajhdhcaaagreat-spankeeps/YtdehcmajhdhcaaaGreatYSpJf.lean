/- span.join on a line. -/
import Derived.Test.YtdehcmajhdhcaaaGreatYSpMf
namespace Go.Proofs.YtdehcmajhdhcaaaGreat
open Go.RowKit
set_option linter.unusedVariables false
set_option linter.unusedSimpArgs false
end Go.Proofs.YtdehcmajhdhcaaaGreat

