/- span's floats: how two are reckoned with; Two and Of. -/
import Derived.Test.YthjoigkckgdcaaaGreatYSpFw
import Derived.Test.YthjoigkckgdcaaaGreatYG10
import Derived.Deep.DeepCutAuto
namespace Go.Proofs.YthjoigkckgdcaaaGreat
open Go.RowKit
set_option linter.unusedVariables false
set_option linter.unusedSimpArgs false
end Go.Proofs.YthjoigkckgdcaaaGreat


