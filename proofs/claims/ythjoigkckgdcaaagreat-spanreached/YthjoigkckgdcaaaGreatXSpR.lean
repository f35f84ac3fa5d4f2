/- The references' calls of ints. -/
import Derived.Test.YthjoigkckgdcaaaGreatXSpZ
namespace Go.Proofs.YthjoigkckgdcaaaGreat
open Go.RowKit
set_option linter.unusedVariables false
set_option linter.unusedSimpArgs false
set_option maxRecDepth 100000 in
theorem rbit_5 (w : World) : Calls Tryz.prog 71 #[.int .i64 5] w fun e w' => e = .returned (.int .i64 16) ∧ w' = w := by
  go_enter Tryz.func71, Tryz.ntmps71
  go_wp2_with fail
  go_ret
  exact ⟨rfl, rfl⟩
def hI (e : Bool) (a b x : Int) : Bool := !e && (decide (a ≤ x) && decide (x ≤ b))
end Go.Proofs.YthjoigkckgdcaaaGreat

