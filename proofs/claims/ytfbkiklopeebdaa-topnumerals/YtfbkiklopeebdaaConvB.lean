/- What conv's infinite, convert, Widen, Narrow, Plain and FromInt answer. -/
import Derived.Test.YtfbkiklopeebdaaConvA
import Derived.Test.YtfbkiklopeebdaaSRefC
namespace Go.Proofs.Ytfbkiklopeebdaa
open Go.RowKit
set_option linter.unusedVariables false
set_option linter.unusedSimpArgs false
theorem u64r_eq' {a b : Int} (h : a = b) : Ending.returned (Value.int IntKind.u64 a) = .returned (.int .u64 b) := by rw [h]
theorem neg_inf (s : Bool) : negF s (fI s) = sgnd s true (fI s) := by cases s <;> rfl
theorem word_inf (s : Bool) : Word (fI s) := by cases s <;> exact ⟨by decide, by decide⟩
/-- A float of one format as one of another, rounded. -/
def cvtF (s t : Bool) (m a : Int) : Int := if (cls s a == 0 || cls s a == 5) then fNan t else if cls s a == 4 then sgnd t (sgn s a) (fI t) else rnd t m (sgn s a) (whl s a).toNat (pwr s a)
theorem kinds3 (k : Int) : ((k == 0 || k == 5) = true ∧ (k == 4) = false ∧ k = 0) ∨ ((k == 0 || k == 5) = true ∧ (k == 4) = false ∧ k = 5) ∨ ((k == 0 || k == 5) = false ∧ (k == 4) = true ∧ k = 4) ∨ ((k == 0 || k == 5) = false ∧ (k == 4) = false ∧ (k == 0) = false ∧ (k == 5) = false ∧ ¬ k = 4) := by
  by_cases c1 : k = 0
  · subst c1; decide
  · by_cases c2 : k = 5
    · subst c2; decide
    · by_cases c3 : k = 4
      · subst c3; decide
      · simp [c1, c2, c3]
theorem fin_wordC {s : Bool} {u p : Int} (h : Fin s u p) : Word u ∧ u < 9007199254740992 ∧ -1074 ≤ p ∧ p ≤ 2000 := by
  obtain ⟨a, b, c, d, e⟩ := h
  cases s
  · have b' : u < 9007199254740992 := b
    have c' : -1074 ≤ p := c
    exact ⟨⟨a, by omega⟩, b', c', d⟩
  · have b' : u < 16777216 := b
    have c' : -149 ≤ p := c
    exact ⟨⟨a, by omega⟩, by omega, by omega, d⟩
theorem below_callC {w W w1 : World} (h : Below w.heap.size w W) (hb : Below W.heap.size W w1) : Below w.heap.size w w1 := h.trans (hb.mono h.size)
/-- Without the sign of 0. -/
def plainF (s : Bool) (a : Int) : Int := if (cls s a == 0 || cls s a == 5) then fNan s else if cls s a == 1 then 0 else a
theorem kindsP (k : Int) : ((k == 0 || k == 5) = true ∧ (k == 1) = false ∧ k = 0) ∨ ((k == 0 || k == 5) = true ∧ (k == 1) = false ∧ k = 5) ∨ ((k == 0 || k == 5) = false ∧ (k == 1) = true ∧ k = 1) ∨ ((k == 0 || k == 5) = false ∧ (k == 1) = false ∧ (k == 0) = false ∧ (k == 5) = false ∧ ¬ k = 1) := by
  by_cases c1 : k = 0
  · subst c1; decide
  · by_cases c2 : k = 5
    · subst c2; decide
    · by_cases c3 : k = 1
      · subst c3; decide
      · simp [c1, c2, c3]
end Go.Proofs.Ytfbkiklopeebdaa

