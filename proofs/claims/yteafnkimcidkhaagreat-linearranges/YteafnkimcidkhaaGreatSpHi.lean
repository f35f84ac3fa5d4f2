/- span.has on a line. -/
import Derived.Test.YteafnkimcidkhaaGreatSpMi
import Derived.Test.YteafnkimcidkhaaGreatSpQ
namespace Go.Proofs.YteafnkimcidkhaaGreat
open Go.RowKit
set_option linter.unusedVariables false
set_option linter.unusedSimpArgs false
end Go.Proofs.YteafnkimcidkhaaGreat

