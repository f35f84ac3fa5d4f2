/- What span.widen answers, plainly. -/
import Derived.Test.YthjoigkckgdcaaaGreatYSpQ
namespace Go.Proofs.YthjoigkckgdcaaaGreat
end Go.Proofs.YthjoigkckgdcaaaGreat

