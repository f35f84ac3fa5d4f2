/- ref07.Holds of floats; span.Refine of floats. -/
import Derived.Test.YthjoigkckgdcaaaGreatYG5
import Derived.Test.YthjoigkckgdcaaaGreatYG2
import Derived.Test.YthjoigkckgdcaaaGreatYSpCf
import Derived.Test.YthjoigkckgdcaaaGreatYSpFr
import Derived.Test.YthjoigkckgdcaaaGreatYG3
import Derived.Deep.QuietTactic
namespace Go.Proofs.YthjoigkckgdcaaaGreat
open Go.RowKit
set_option linter.unusedVariables false
set_option linter.unusedSimpArgs false
theorem n_prevw (s : Bool) (a : Int) (h : Word a) : Word (prevF s a) := n_plainw s _ (negF_word s _ (n_nextw s _ (negF_word s a h)))
theorem refineF_any (f op : Int) (h12 : 12 ≤ op) (h17 : op ≤ 17) (e1 : Bool) (a b : Int) (e2 : Bool) (c d : Int) (ha : Word a) (hb : Word b) (hc : Word c) (hd : Word d) (oa : (WyF (f == 1)).one a = true) (ob : (WyF (f == 1)).one b = true) (oc : (WyF (f == 1)).one c = true) (od : (WyF (f == 1)).one d = true) (w : World) :
    Calls Tryz.prog 38 #[.int .i64 f, .int .i64 op, .agg #[.bool e1, .int .u64 a, .int .u64 b], .agg #[.bool e2, .int .u64 c, .int .u64 d]] w fun e w' => e = .returned (.tuple #[.agg #[.bool (refineP (WyF (f == 1)) (LF (f == 1)) op (e1, a, b) (e2, c, d)).1.1, .int .u64 (refineP (WyF (f == 1)) (LF (f == 1)) op (e1, a, b) (e2, c, d)).1.2.1, .int .u64 (refineP (WyF (f == 1)) (LF (f == 1)) op (e1, a, b) (e2, c, d)).1.2.2], .agg #[.bool (refineP (WyF (f == 1)) (LF (f == 1)) op (e1, a, b) (e2, c, d)).2.1, .int .u64 (refineP (WyF (f == 1)) (LF (f == 1)) op (e1, a, b) (e2, c, d)).2.2.1, .int .u64 (refineP (WyF (f == 1)) (LF (f == 1)) op (e1, a, b) (e2, c, d)).2.2.2]]) ∧ Below w.heap.size w w' := by
  refine frefine_of f op e1 a b e2 c d _ _ _ _ _ _ (fun L B w0 hL V ok => ?_) w
  have H := fl_acts hL
  have dl : (WyF (f == 1)).dom L.least := by rw [(fl_least hL).1]; exact word_least (f == 1)
  have dm : (WyF (f == 1)).dom L.most := by rw [(fl_least hL).2.1]; exact word_most (f == 1)
  obtain ⟨p, q, rfl, _⟩ := hL
  exact refine_f H op h12 h17 e1 e2 a b c d ha hb hc hd oa ob oc od word_0 (fun x hx => n_nextw _ x hx) (fun x hx => n_prevw _ x hx) dl dm V ok
end Go.Proofs.YthjoigkckgdcaaaGreat


