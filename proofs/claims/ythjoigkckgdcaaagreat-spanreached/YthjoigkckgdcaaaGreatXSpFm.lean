/- span's exported calls of floats: Has, Within, Meet, Join. -/
import Derived.Test.YthjoigkckgdcaaaGreatXSpFw
import Derived.Test.YthjoigkckgdcaaaGreatXSpHf
import Derived.Test.YthjoigkckgdcaaaGreatXSpJf
import Derived.Test.YthjoigkckgdcaaaGreatXSpQ
namespace Go.Proofs.YthjoigkckgdcaaaGreat
open Go.RowKit
set_option linter.unusedVariables false
set_option linter.unusedSimpArgs false
end Go.Proofs.YthjoigkckgdcaaaGreat


