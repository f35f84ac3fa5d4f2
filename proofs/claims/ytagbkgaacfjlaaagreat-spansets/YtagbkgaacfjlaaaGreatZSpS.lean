/- Ranges of ints, plainly: the least and the greatest of results. -/
import Derived.Test.YtagbkgaacfjlaaaGreatSpI
namespace Go.Proofs.YtagbkgaacfjlaaaGreat
end Go.Proofs.YtagbkgaacfjlaaaGreat

