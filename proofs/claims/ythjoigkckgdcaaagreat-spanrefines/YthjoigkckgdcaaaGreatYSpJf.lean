/- span.join on a line. -/
import Derived.Test.YthjoigkckgdcaaaGreatYSpMf
namespace Go.Proofs.YthjoigkckgdcaaaGreat
open Go.RowKit
set_option linter.unusedVariables false
set_option linter.unusedSimpArgs false
end Go.Proofs.YthjoigkckgdcaaaGreat

