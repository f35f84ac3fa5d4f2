/- span's line of ints: its functions do what is said. -/
import Derived.Test.YteafnkimcidkhaaGreatSpVi
namespace Go.Proofs.YteafnkimcidkhaaGreat
open Go.RowKit
set_option linter.unusedVariables false
set_option linter.unusedSimpArgs false
/-- How two ints stand. -/
def cmpI (x y : Int) : Int := if x < y then -1 else if x > y then 1 else 0
def in32 (x : Int) : Bool := decide (-2147483648 ≤ x ∧ x ≤ 2147483647)
def WyI : Ways := { dom := fun x => -9223372036854775808 ≤ x ∧ x ≤ 9223372036854775807, ord := cmpI, pl := fun x => x, one := in32, prv := fun x => x - 1, nxt := fun x => x + 1 }
end Go.Proofs.YteafnkimcidkhaaGreat

