/- Roots; which one of two is less; what a float is. -/
import Derived.Test.YtfbkiklopeebdaaSoftN
namespace Go.Proofs.Ytfbkiklopeebdaa
open Go.RowKit
set_option linter.unusedVariables false
set_option linter.unusedSimpArgs false
/-- A number that grows as the floats do. -/
def rnk (s : Bool) (a : Int) : Int := if sgn s a then -(zOf s a) else zOf s a
theorem zOf_small (s : Bool) (a : Int) (h : Word a) (c : (cls s a == 0 || cls s a == 5) = false) : zOf s a ≤ fI s := by
  simp only [Bool.or_eq_false_iff, beq_eq_false_iff_ne, ne_eq] at c
  obtain ⟨k0, k5⟩ := c
  unfold cls at k0 k5
  have w : wideB s a = false := by
    cases t : wideB s a
    · rfl
    · rw [t] at k0; simp at k0
  rw [w] at k5
  simp only [Bool.false_eq_true, if_false] at k5
  by_cases t : fI s < zOf s a
  · rw [if_pos t] at k5; exact absurd rfl k5
  · omega
/-- Which one is less; is each a number? -/
def cmpF (s : Bool) (a b : Int) : Int × Bool :=
  if (cls s a == 0 || cls s a == 5) || (cls s b == 0 || cls s b == 5) then (0, false)
  else (if rnk s a < rnk s b then -1 else if rnk s b < rnk s a then 1 else 0, true)
theorem fI_i64 (s : Bool) : fI s ≤ 9223372036854775807 := by cases s <;> decide
/-- Is it a finite float? -/
def finF (s : Bool) (a : Int) : Bool := cls s a == 1 || cls s a == 2 || cls s a == 3
end Go.Proofs.Ytfbkiklopeebdaa

