/- span.eachOfBoth and its closure: what becomes of both ends of one stretch with both ends of each of others, in order. -/
import Derived.Test.YteafnkimcidkhaaGreatRgBi
import Derived.Deep.DrawnRows
namespace Go.Proofs.YteafnkimcidkhaaGreat
open Go.RowKit Go.Shelf
set_option linter.unusedVariables false
set_option linter.unusedSimpArgs false
attribute [local go_sem] Oper.semAt_some
end Go.Proofs.YteafnkimcidkhaaGreat

