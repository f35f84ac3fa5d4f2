/- span.two by Div on a line. -/
import Derived.Test.YteafnkimcidkhaaGreatSpUi
namespace Go.Proofs.YteafnkimcidkhaaGreat
open Go.RowKit
set_option linter.unusedVariables false
set_option linter.unusedSimpArgs false
end Go.Proofs.YteafnkimcidkhaaGreat

