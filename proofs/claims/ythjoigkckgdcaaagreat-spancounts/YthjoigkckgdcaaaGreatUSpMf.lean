/- span's none, all, meet, join, within on a line. -/
import Derived.Test.YthjoigkckgdcaaaGreatUSpGf
namespace Go.Proofs.YthjoigkckgdcaaaGreat
open Go.RowKit
set_option linter.unusedVariables false
set_option linter.unusedSimpArgs false
set_option maxRecDepth 100000 in
set_option maxHeartbeats 800000 in
theorem none_f (w : World) : Calls Tryz.prog 162 #[] w fun e w' => e = .returned (.agg #[.bool true, .int .u64 0, .int .u64 0]) ∧ Below w.heap.size w w' := by
  go_enter Tryz.func162, Tryz.ntmps162
  go_wp2_with fail
  refine bodyPost_ret (v := .agg #[.bool true, .int .u64 0, .int .u64 0]) (by simp [results, Tryz.results162, go_sem]) rfl ?_
  exact ⟨rfl, sp_new (Below.refl _ _) _⟩
set_option maxRecDepth 100000 in
set_option maxHeartbeats 1600000 in
theorem all_f (L : Ln) (w : World) : Calls Tryz.prog 81 #[.agg (lvf L)] w fun e w' => e = .returned (.agg #[.bool false, .int .u64 L.least, .int .u64 L.most]) ∧ Below w.heap.size w w' := by
  unfold lvf
  go_enter Tryz.func81, Tryz.ntmps81
  go_wp2_with fail
  refine bodyPost_ret (v := .agg #[.bool false, .int .u64 L.least, .int .u64 L.most]) (by simp [results, Tryz.results81, go_sem]) rfl ?_
  exact ⟨rfl, sp_new (sp_new (Below.refl _ _) _) _⟩
end Go.Proofs.YthjoigkckgdcaaaGreat

