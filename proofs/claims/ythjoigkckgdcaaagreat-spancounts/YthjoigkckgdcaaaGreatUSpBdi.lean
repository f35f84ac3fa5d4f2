/- span.refine on a line: by another op nothing is asked. -/
import Derived.Test.YthjoigkckgdcaaaGreatUSpBi
namespace Go.Proofs.YthjoigkckgdcaaaGreat
open Go.RowKit
set_option linter.unusedVariables false
set_option linter.unusedSimpArgs false
set_option maxRecDepth 100000 in
set_option maxHeartbeats 6400000 in
theorem rdef_i (L : Ln) (op : Int) (ho : op < 12 ∨ 17 < op) (e1 e2 : Bool) (a b c d : Int) (w : World) :
    Calls Tryz.prog 132 #[.agg (lvi L), .int .i64 op, .agg #[.bool e1, .int .i64 a, .int .i64 b], .agg #[.bool e2, .int .i64 c, .int .i64 d]] w fun e w' => e = .returned (.tuple #[.agg #[.bool e1, .int .i64 a, .int .i64 b], .agg #[.bool e2, .int .i64 c, .int .i64 d]]) ∧ Below w.heap.size w w' := by
  have n12 : ¬ op = 12 := by omega
  have n13 : ¬ op = 13 := by omega
  have n14 : ¬ op = 14 := by omega
  have n15 : ¬ op = 15 := by omega
  have n16 : ¬ op = 16 := by omega
  have n17 : ¬ op = 17 := by omega
  clear ho
  unfold lvi
  go_enter Tryz.func132, Tryz.ntmps132
  go_upto_region 1 with fail
  go_region
  all_goals go_upto_region 3 with fail
  all_goals go_region
  all_goals go_wp2_with fail
  all_goals exact bodyPost_ret (v := .tuple #[.agg #[.bool e1, .int .i64 a, .int .i64 b], .agg #[.bool e2, .int .i64 c, .int .i64 d]]) (by simp [results, Tryz.results132, go_sem]) rfl ⟨by simp, by (repeat (first | exact Below.refl _ _ | with_reducible refine sp_new ?_ _ | with_reducible refine sp_dri ?_ | with_reducible refine sp_sti ?_ (by simp; try omega) _))⟩
end Go.Proofs.YthjoigkckgdcaaaGreat

