/- linear.Neg, Sub, OfVar. -/
import Derived.Test.YteafnkimcidkhaaGreatYRLiJ
namespace Go.Proofs.YteafnkimcidkhaaGreat
open Go.RowKit
set_option linter.unusedVariables false
set_option linter.unusedSimpArgs false
end Go.Proofs.YteafnkimcidkhaaGreat



