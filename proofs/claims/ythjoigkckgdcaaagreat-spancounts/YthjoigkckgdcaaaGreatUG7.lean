/- Texts of the proof, put together. -/
import Derived.Test.YthjoigkckgdcaaaGreatUSpBi
namespace Go.Proofs.YthjoigkckgdcaaaGreat
open Go.RowKit
set_option linter.unusedVariables false
set_option linter.unusedSimpArgs false
theorem le_i {L : Ln} {A : Ways} {B : Nat} {w0 : World} (H : Actsi L A B w0) (e1 e2 : Bool) (a b c d : Int) (da : A.dom a) (db : A.dom b) (dc : A.dom c) (dd : A.dom d) (dl : A.dom L.least) (dm : A.dom L.most) (w : World) (ok : Below B w0 w) :
    Calls Tryz.prog 132 #[.agg (lvi L), .int .i64 13, .agg #[.bool e1, .int .i64 a, .int .i64 b], .agg #[.bool e2, .int .i64 c, .int .i64 d]] w fun e w' => e = .returned (.tuple #[sVi (leP A L (e1, a, b) (e2, c, d)).1, sVi (leP A L (e1, a, b) (e2, c, d)).2]) ∧ Below w.heap.size w w' :=
  rle_i H e1 e2 a b c d _ _ _ _ _ _ _ _ _ _ _ _ (fun V _ => upto_i L d V) (fun V ok => meet_i H e1 _ a b _ _ da db dl dd V ok) (fun V _ => from_i L a V) (fun V ok => meet_i H e2 _ c d _ _ dc dd da dm V ok) w ok
end Go.Proofs.YthjoigkckgdcaaaGreat

namespace Go.Proofs.YthjoigkckgdcaaaGreat
open Go.RowKit
set_option linter.unusedVariables false
set_option linter.unusedSimpArgs false
theorem ltJ {L : Ln} {A : Ways} {B : Nat} {w0 : World} (H : Actsi L A B w0) (e1 e2 : Bool) (a b c d : Int) (da : A.dom a) (db : A.dom b) (dc : A.dom c) (dd : A.dom d) (oa : A.one a = true) (od : A.one d = true) (d0 : A.dom 0) (dn : ∀ x, A.one x = true → A.dom (A.nxt x)) (dp : ∀ x, A.one x = true → A.dom (A.prv x)) (dl : A.dom L.least) (dm : A.dom L.most) (w : World) (ok : Below B w0 w) :
    Calls Tryz.prog 132 #[.agg (lvi L), .int .i64 12, .agg #[.bool e1, .int .i64 a, .int .i64 b], .agg #[.bool e2, .int .i64 c, .int .i64 d]] w fun e w' => e = .returned (.tuple #[sVi (ltP A L (e1, a, b) (e2, c, d)).1, sVi (ltP A L (e1, a, b) (e2, c, d)).2]) ∧ Below w.heap.size w w' :=
  rlt_i H e1 e2 a b c d _ _ _ _ _ _ _ _ _ _ _ _ (below_i H d dd od dl) (fun V ok => meet_i H e1 _ a b _ _ da db (below_dom d0 (dp d od) dl).1 (below_dom d0 (dp d od) dl).2 V ok) (above_i H a da oa dm) (fun V ok => meet_i H e2 _ c d _ _ dc dd (above_dom d0 (dn a oa) dm).1 (above_dom d0 (dn a oa) dm).2 V ok) w ok
theorem refineJ {L : Ln} {A : Ways} {B : Nat} {w0 : World} (H : Actsi L A B w0) (op : Int) (h12 : 12 ≤ op) (h17 : op ≤ 17) (e1 e2 : Bool) (a b c d : Int) (da : A.dom a) (db : A.dom b) (dc : A.dom c) (dd : A.dom d) (oa : A.one a = true) (ob : A.one b = true) (oc : A.one c = true) (od : A.one d = true) (d0 : A.dom 0) (dn : ∀ x, A.one x = true → A.dom (A.nxt x)) (dp : ∀ x, A.one x = true → A.dom (A.prv x)) (dl : A.dom L.least) (dm : A.dom L.most) (w : World) (ok : Below B w0 w) :
    Calls Tryz.prog 132 #[.agg (lvi L), .int .i64 op, .agg #[.bool e1, .int .i64 a, .int .i64 b], .agg #[.bool e2, .int .i64 c, .int .i64 d]] w fun e w' => e = .returned (.tuple #[sVi (refineP A L op (e1, a, b) (e2, c, d)).1, sVi (refineP A L op (e1, a, b) (e2, c, d)).2]) ∧ Below w.heap.size w w' := by
  rcases (show op = 12 ∨ op = 13 ∨ op = 14 ∨ op = 15 ∨ op = 16 ∨ op = 17 by omega) with rfl | rfl | rfl | rfl | rfl | rfl
  · exact ltJ H e1 e2 a b c d da db dc dd oa od d0 dn dp dl dm w ok
  · exact le_i H e1 e2 a b c d da db dc dd dl dm w ok
  · exact rgt_i H e1 e2 a b c d _ _ _ _ _ _ (fun V ok => ltJ H e2 e1 c d a b dc dd da db oc ob d0 dn dp dl dm V ok) w ok
  · exact rge_i H e1 e2 a b c d _ _ _ _ _ _ (fun V ok => le_i H e2 e1 c d a b dc dd da db dl dm V ok) w ok
  · exact req_i H e1 e2 a b c d _ _ _ _ _ _ (fun V ok => meet_i H e1 e2 a b c d da db dc dd V ok) (fun V ok => meet_i H e2 e1 c d a b dc dd da db V ok) w ok
  · exact rne_i H e1 e2 a b c d _ _ _ _ _ _ (fun V ok => without_i H e1 e2 a b c d da db dc dd oc d0 (dn c oc) (dp c oc) dl dm V ok) (fun V ok => without_i H e2 e1 c d a b dc dd da db oa d0 (dn a oa) (dp a oa) dl dm V ok) w ok
end Go.Proofs.YthjoigkckgdcaaaGreat

