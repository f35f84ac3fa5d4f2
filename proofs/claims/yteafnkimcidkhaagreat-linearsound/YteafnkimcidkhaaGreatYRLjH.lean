/- The reference's Product of two right ranges. -/
import Derived.Test.YteafnkimcidkhaaGreatYRG2
import Derived.Test.YteafnkimcidkhaaGreatYRLjF
namespace Go.Proofs.YteafnkimcidkhaaGreat
open Go.RowKit
set_option linter.unusedVariables false
set_option linter.unusedSimpArgs false
def pX (a b : Int) (i : Nat) : Int := if i = 0 then a else b
end Go.Proofs.YteafnkimcidkhaaGreat




