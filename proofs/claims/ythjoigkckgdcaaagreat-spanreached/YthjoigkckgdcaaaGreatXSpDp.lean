/- What span.widen answers, plainly. -/
import Derived.Test.YthjoigkckgdcaaaGreatXSpQ
namespace Go.Proofs.YthjoigkckgdcaaaGreat
end Go.Proofs.YthjoigkckgdcaaaGreat

