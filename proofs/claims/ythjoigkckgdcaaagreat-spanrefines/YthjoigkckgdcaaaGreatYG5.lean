/- Texts of the proof, put together. -/
import Derived.Test.YthjoigkckgdcaaaGreatYSpFt
import Derived.Test.YthjoigkckgdcaaaGreatYG1
import Derived.Test.YthjoigkckgdcaaaGreatYSpFl
import Derived.Deep.DeepCutAuto
import Derived.Test.YthjoigkckgdcaaaGreatYG3
import Derived.Test.YthjoigkckgdcaaaGreatYSpLv
namespace Go.Proofs.YthjoigkckgdcaaaGreat
open Go.RowKit
set_option linter.unusedVariables false
set_option linter.unusedSimpArgs false
end Go.Proofs.YthjoigkckgdcaaaGreat


namespace Go.Proofs.YthjoigkckgdcaaaGreat
open Go.RowKit
set_option linter.unusedVariables false
set_option linter.unusedSimpArgs false
end Go.Proofs.YthjoigkckgdcaaaGreat


namespace Go.Proofs.YthjoigkckgdcaaaGreat
open Go.RowKit
set_option linter.unusedVariables false
set_option linter.unusedSimpArgs false
theorem fb_eq (s : Bool) : (fb s == 1) = s := by cases s <;> rfl
theorem b_eq {e r : Ending} {V w' : World} (h : e = r ∧ w' = V) : e = r ∧ Below V.heap.size V w' := ⟨h.1, by rw [h.2]; exact Below.refl _ _⟩
set_option maxRecDepth 100000 in
theorem format8 (p : Int) (w : World) : Calls Tryz.prog 15 #[.int .i64 p] w fun e w' => e = .returned (.int .i64 (fb (p == 1))) ∧ w' = w := by
  by_cases c : p = 1
  · subst c
    go_enter Tryz.func15, Tryz.ntmps15
    go_wp2_with fail
    go_ret
    exact ⟨rfl, rfl⟩
  · have c1 : (p == 1) = false := by simp [c]
    rw [c1]
    clear c
    go_enter Tryz.func15, Tryz.ntmps15
    go_wp2_with fail
    go_ret
    exact ⟨rfl, rfl⟩
end Go.Proofs.YthjoigkckgdcaaaGreat


