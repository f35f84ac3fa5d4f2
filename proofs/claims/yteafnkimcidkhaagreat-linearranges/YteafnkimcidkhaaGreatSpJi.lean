/- span.join on a line. -/
import Derived.Test.YteafnkimcidkhaaGreatSpMi
namespace Go.Proofs.YteafnkimcidkhaaGreat
open Go.RowKit
set_option linter.unusedVariables false
set_option linter.unusedSimpArgs false
end Go.Proofs.YteafnkimcidkhaaGreat

