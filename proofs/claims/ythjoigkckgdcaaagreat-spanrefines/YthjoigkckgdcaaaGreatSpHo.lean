/- ref07.Holds of floats; span.Refine of floats. -/
import Derived.Test.YthjoigkckgdcaaaGreatSpKf
import Derived.Test.YthjoigkckgdcaaaGreatSpRf
import Derived.Test.YthjoigkckgdcaaaGreatSpCf
import Derived.Test.YthjoigkckgdcaaaGreatSpFr
import Derived.Test.YthjoigkckgdcaaaGreatFlR
import Derived.Deep.QuietTactic
namespace Go.Proofs.YthjoigkckgdcaaaGreat
open Go.RowKit
set_option linter.unusedVariables false
set_option linter.unusedSimpArgs false
/-- Does a number stand so to 0? -/
def holdB (op n : Int) : Bool := if op = 12 then decide (n < 0) else if op = 13 then decide (n ≤ 0) else if op = 14 then decide (0 < n) else if op = 15 then decide (0 ≤ n) else if op = 16 then decide (n = 0) else decide (¬ n = 0)
set_option maxRecDepth 100000 in
set_option maxHeartbeats 6400000 in
theorem rholds_any (s : Bool) (op a b : Int) (h12 : 12 ≤ op) (h17 : op ≤ 17) (h1 : Word a) (h2 : Word b) (w : World) : Calls Tryz.prog 72 #[.int .i64 op, .agg #[.int .i64 (tOf s), .int .i64 0, .int .u64 a], .agg #[.int .i64 (tOf s), .int .i64 0, .int .u64 b]] w fun e w' => e = .returned (.bool (holdB op (cmpF s a b).1)) ∧ Below w.heap.size w w' := by
  have hc := rcompare_any s a b h1 h2
  have hf := rfmt s
  have ht : (tOf s != 1) = true := by cases s <;> rfl
  generalize cmpF s a b = c at *
  generalize fb s = f at *
  generalize tOf s = t at *
  obtain ⟨n, c2⟩ := c
  dsimp only at *
  clear h1 h2
  have e12 : holdB 12 n = decide (n < 0) := rfl
  have e13 : holdB 13 n = decide (n ≤ 0) := rfl
  have e14 : holdB 14 n = decide (0 < n) := rfl
  have e15 : holdB 15 n = decide (0 ≤ n) := rfl
  have e16 : holdB 16 n = decide (n = 0) := rfl
  have e17 : holdB 17 n = decide (¬ n = 0) := rfl
  rcases (show op = 12 ∨ op = 13 ∨ op = 14 ∨ op = 15 ∨ op = 16 ∨ op = 17 by omega) with rfl | rfl | rfl | rfl | rfl | rfl
  all_goals
    clear h12 h17
    first | rw [e12] | rw [e13] | rw [e14] | rw [e15] | rw [e16] | rw [e17]
    clear e12 e13 e14 e15 e16 e17
    go_enter Tryz.func72, Tryz.ntmps72
    go_wp2_with fail
    go_quiet (first | (go_at_call 136; exact Calls.quiet_of_same (hf _)) | (go_at_call 143; exact Calls.quiet_of (hc _)))
    go_wp2_with fail
    go_ret
    exact ⟨by first | (simp; done) | (simp; rfl), sp_dNr (sp_new (sp_new (Below.refl _ _) _) _) _⟩
theorem n_prevw (s : Bool) (a : Int) (h : Word a) : Word (prevF s a) := n_plainw s _ (negF_word s _ (n_nextw s _ (negF_word s a h)))
/-- What span.Refine tells of floats. -/
theorem refineF_any (f op : Int) (h12 : 12 ≤ op) (h17 : op ≤ 17) (e1 : Bool) (a b : Int) (e2 : Bool) (c d : Int) (ha : Word a) (hb : Word b) (hc : Word c) (hd : Word d) (oa : (WyF (f == 1)).one a = true) (ob : (WyF (f == 1)).one b = true) (oc : (WyF (f == 1)).one c = true) (od : (WyF (f == 1)).one d = true) (w : World) :
    Calls Tryz.prog 38 #[.int .i64 f, .int .i64 op, .agg #[.bool e1, .int .u64 a, .int .u64 b], .agg #[.bool e2, .int .u64 c, .int .u64 d]] w fun e w' => e = .returned (.tuple #[.agg #[.bool (refineP (WyF (f == 1)) (LF (f == 1)) op (e1, a, b) (e2, c, d)).1.1, .int .u64 (refineP (WyF (f == 1)) (LF (f == 1)) op (e1, a, b) (e2, c, d)).1.2.1, .int .u64 (refineP (WyF (f == 1)) (LF (f == 1)) op (e1, a, b) (e2, c, d)).1.2.2], .agg #[.bool (refineP (WyF (f == 1)) (LF (f == 1)) op (e1, a, b) (e2, c, d)).2.1, .int .u64 (refineP (WyF (f == 1)) (LF (f == 1)) op (e1, a, b) (e2, c, d)).2.2.1, .int .u64 (refineP (WyF (f == 1)) (LF (f == 1)) op (e1, a, b) (e2, c, d)).2.2.2]]) ∧ Below w.heap.size w w' := by
  refine frefine_of f op e1 a b e2 c d _ _ _ _ _ _ (fun L B w0 hL V ok => ?_) w
  have H := fl_acts hL
  have dl : (WyF (f == 1)).dom L.least := by rw [(fl_least hL).1]; exact word_least (f == 1)
  have dm : (WyF (f == 1)).dom L.most := by rw [(fl_least hL).2.1]; exact word_most (f == 1)
  obtain ⟨p, q, rfl, _⟩ := hL
  exact refine_f H op h12 h17 e1 e2 a b c d ha hb hc hd oa ob oc od word_0 (fun x hx => n_nextw _ x hx) (fun x hx => n_prevw _ x hx) dl dm V ok
end Go.Proofs.YthjoigkckgdcaaaGreat

