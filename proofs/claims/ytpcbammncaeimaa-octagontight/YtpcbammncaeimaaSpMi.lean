/- span's none, all, meet, join, within on a line. -/
import Derived.Test.YtpcbammncaeimaaSpGi
namespace Go.Proofs.Ytpcbammncaeimaa
open Go.RowKit
set_option linter.unusedVariables false
set_option linter.unusedSimpArgs false
set_option maxRecDepth 100000 in
set_option maxHeartbeats 800000 in
theorem none_i (w : World) : Calls Try.prog 111 #[] w fun e w' => e = .returned (.agg #[.bool true, .int .i64 0, .int .i64 0]) ∧ Below w.heap.size w w' := by
  go_enter Try.func111, Try.ntmps111
  go_wp2_with fail
  refine bodyPost_ret (v := .agg #[.bool true, .int .i64 0, .int .i64 0]) (by simp [results, Try.results111, go_sem]) rfl ?_
  exact ⟨rfl, sp_new (Below.refl _ _) _⟩
def mVi (A : Ways) (p q : Bool × Int × Int) : Array Value := #[.bool (meetP A p q).1, .int .i64 (meetP A p q).2.1, .int .i64 (meetP A p q).2.2]
end Go.Proofs.Ytpcbammncaeimaa

