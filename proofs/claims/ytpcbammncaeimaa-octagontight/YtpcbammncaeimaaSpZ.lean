/- What live asks of ints. -/
import Derived.Test.YtpcbammncaeimaaSpY
namespace Go.Proofs.Ytpcbammncaeimaa
open Go.RowKit
set_option linter.unusedVariables false
set_option linter.unusedSimpArgs false
theorem domI_0 : WyI.dom 0 := by unfold WyI; exact ⟨by decide, by decide⟩
theorem domI_of {x : Int} (h1 : -9223372036854775808 ≤ x) (h2 : x ≤ 9223372036854775807) : WyI.dom x := ⟨h1, h2⟩
/-- IntOf of two ints. -/
theorem intOf_any (x y : Int) (hx : -9223372036854775808 ≤ x ∧ x ≤ 9223372036854775807) (hy : -9223372036854775808 ≤ y ∧ y ≤ 9223372036854775807) (w : World) :
    Calls Try.prog 54 #[.int .i64 x, .int .i64 y] w fun e w' => e = .returned (.agg #[.bool (ofP WyI x y).1, .int .i64 (ofP WyI x y).2.1, .int .i64 (ofP WyI x y).2.2]) ∧ Below w.heap.size w w' :=
  intOf_of x y _ _ _ (fun V => of_i (acts_i V) x y hx hy hx hy V (Below.refl _ _)) w
end Go.Proofs.Ytpcbammncaeimaa

