/- What span.widen answers, plainly. -/
import Derived.Test.YtdehcmajhdhcaaaGreatYSpQ
namespace Go.Proofs.YtdehcmajhdhcaaaGreat
end Go.Proofs.YtdehcmajhdhcaaaGreat

