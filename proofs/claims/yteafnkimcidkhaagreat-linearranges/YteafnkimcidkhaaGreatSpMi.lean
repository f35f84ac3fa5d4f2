/- span's none, all, meet, join, within on a line. -/
import Derived.Test.YteafnkimcidkhaaGreatSpGi
namespace Go.Proofs.YteafnkimcidkhaaGreat
open Go.RowKit
set_option linter.unusedVariables false
set_option linter.unusedSimpArgs false
def mVi (A : Ways) (p q : Bool × Int × Int) : Array Value := #[.bool (meetP A p q).1, .int .i64 (meetP A p q).2.1, .int .i64 (meetP A p q).2.2]
end Go.Proofs.YteafnkimcidkhaaGreat

