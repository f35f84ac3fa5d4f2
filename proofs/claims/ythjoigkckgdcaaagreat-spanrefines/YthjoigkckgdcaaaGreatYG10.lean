/- Texts of the proof, put together. -/
import Derived.Test.YthjoigkckgdcaaaGreatYG8
import Derived.Test.YthjoigkckgdcaaaGreatYSpWf
import Derived.Test.YthjoigkckgdcaaaGreatYSpHf
import Derived.Deep.DeepCutAuto
namespace Go.Proofs.YthjoigkckgdcaaaGreat
open Go.RowKit
set_option linter.unusedVariables false
set_option linter.unusedSimpArgs false
end Go.Proofs.YthjoigkckgdcaaaGreat

namespace Go.Proofs.YthjoigkckgdcaaaGreat
open Go.RowKit
set_option linter.unusedVariables false
set_option linter.unusedSimpArgs false
end Go.Proofs.YthjoigkckgdcaaaGreat

namespace Go.Proofs.YthjoigkckgdcaaaGreat
open Go.RowKit
set_option linter.unusedVariables false
set_option linter.unusedSimpArgs false
end Go.Proofs.YthjoigkckgdcaaaGreat

