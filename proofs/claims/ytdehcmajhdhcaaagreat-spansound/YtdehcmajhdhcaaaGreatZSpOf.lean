/- span.of on a line. -/
import Derived.Test.YtdehcmajhdhcaaaGreatZSpUf
import Derived.Deep.DeepCutAuto
namespace Go.Proofs.YtdehcmajhdhcaaaGreat
open Go.RowKit
set_option linter.unusedVariables false
set_option linter.unusedSimpArgs false
end Go.Proofs.YtdehcmajhdhcaaaGreat

