/- Texts of the proof, put together. -/
import Derived.Test.YthjoigkckgdcaaaGreatUSpQ
import Derived.Test.YthjoigkckgdcaaaGreatUG3
import Derived.Deep.DeepCutAuto
import Derived.Test.YthjoigkckgdcaaaGreatUG4
namespace Go.Proofs.YthjoigkckgdcaaaGreat
end Go.Proofs.YthjoigkckgdcaaaGreat

namespace Go.Proofs.YthjoigkckgdcaaaGreat
open Go.RowKit
set_option linter.unusedVariables false
set_option linter.unusedSimpArgs false
end Go.Proofs.YthjoigkckgdcaaaGreat

namespace Go.Proofs.YthjoigkckgdcaaaGreat
set_option linter.unusedVariables false
set_option linter.unusedSimpArgs false
theorem ihas_same {e : Bool} {a b x : Int} (h : rI e a b = true) : hasP WyI (e, a, b) x = hI e a b x := by
  rw [hasI]
  unfold hI
  cases e
  · unfold rI at h
    simp only [Bool.false_eq_true, if_false, Bool.and_eq_true, decide_eq_true_eq] at h
    rw [Bool.eq_iff_iff]
    simp only [Bool.not_false, Bool.true_and, Bool.and_eq_true, decide_eq_true_eq, in32]
    omega
  · rfl
theorem imeet_same (e1 e2 : Bool) (a b c d : Int) : meetP WyI (e1, a, b) (e2, c, d) = rMeetI (e1, a, b) (e2, c, d) := by
  rw [meetI]
  unfold rMeetI
  cases e1 <;> cases e2 <;> simp
end Go.Proofs.YthjoigkckgdcaaaGreat

