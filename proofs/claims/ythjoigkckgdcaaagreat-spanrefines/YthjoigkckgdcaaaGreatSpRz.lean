/- SpanRefines: all ways. -/
import Derived.Test.YthjoigkckgdcaaaGreatSpRs
import Derived.Test.YthjoigkckgdcaaaGreatSpRm
import Derived.Test.YthjoigkckgdcaaaGreatSpBdf
import Derived.Test.YthjoigkckgdcaaaGreatSpHo
import Derived.Test.YthjoigkckgdcaaaGreatSpSta
import Derived.Test.YthjoigkckgdcaaaGreatSpSS
import Derived.Test.YthjoigkckgdcaaaGreatSpLv
import Derived.Test.YthjoigkckgdcaaaGreatFlW
namespace Go.Proofs.YthjoigkckgdcaaaGreat
open Go.RowKit
set_option linter.unusedVariables false
set_option linter.unusedSimpArgs false
/-- The pair is right just if both ranges are. -/
theorem zright_any (p : Int) (s : Bool) (hs : (p == 1) = s) (e1 : Bool) (a b : Int) (e2 : Bool) (c d : Int) (ha : Word a) (hb : Word b) (hc : Word c) (hd : Word d) (w : World) :
    Calls Tryz.prog 22 #[.agg #[.int .i64 p, .bool e1, .int .u64 a, .int .u64 b, .bool e2, .int .u64 c, .int .u64 d]] w fun e w' => e = .returned (.bool (rRF s e1 a b && rRF s e2 c d)) ∧ Below w.heap.size w w' := by
  have KF : ∀ V, Calls Tryz.prog 15 #[.int .i64 p] V fun e w' => e = .returned (.int .i64 (fb s)) ∧ Below V.heap.size V w' := fun V => by
    have := format8 p V
    rw [hs] at this
    exact this.mono fun e w' h => b_eq h
  have R1 := rrightF_any s e1 a b ha hb
  have R2 := rrightF_any s e2 c d hc hd
  cases r1 : rRF s e1 a b
  · rw [r1] at R1
    exact tright_f p (fb s) e1 a b e2 c d KF R1 w
  · rw [r1] at R1
    exact tright_t p (fb s) e1 a b e2 c d _ KF R1 R2 w
/-- By another op both ranges stay. -/
theorem refineO_any (f op : Int) (ho : op < 12 ∨ 17 < op) (e1 : Bool) (a b : Int) (e2 : Bool) (c d : Int) (w : World) :
    Calls Tryz.prog 38 #[.int .i64 f, .int .i64 op, .agg #[.bool e1, .int .u64 a, .int .u64 b], .agg #[.bool e2, .int .u64 c, .int .u64 d]] w fun e w' => e = .returned (.tuple #[.agg #[.bool e1, .int .u64 a, .int .u64 b], .agg #[.bool e2, .int .u64 c, .int .u64 d]]) ∧ Below w.heap.size w w' :=
  frefine_of f op e1 a b e2 c d _ _ _ _ _ _ (fun L B w0 hL V ok => rdef_f L op ho e1 e2 a b c d V) w
theorem upto_word {s : Bool} {x : Int} (hx : Word x) (st : Bool) : Word (rUpTo s x st).2.1 ∧ Word (rUpTo s x st).2.2 := by
  have of_word : ∀ x y : Int, Word x → Word y → Word (rOfF s x y).2.1 ∧ Word (rOfF s x y).2.2 := fun x y h1 h2 => by
    unfold rOfF
    split
    · exact ⟨n_plainw s x h1, n_plainw s y h2⟩
    · exact ⟨word_0, word_0⟩
  have we : Word (negF s (fI s - 1)) := by cases s <;> exact ⟨by decide +kernel, by decide +kernel⟩
  unfold rUpTo
  split
  · split
    · exact ⟨word_0, word_0⟩
    · exact of_word _ _ we (n_prevw s x hx)
  · exact of_word _ _ we hx
theorem from_word {s : Bool} {x : Int} (hx : Word x) (st : Bool) : Word (rFrom s x st).2.1 ∧ Word (rFrom s x st).2.2 := by
  have of_word : ∀ x y : Int, Word x → Word y → Word (rOfF s x y).2.1 ∧ Word (rOfF s x y).2.2 := fun x y h1 h2 => by
    unfold rOfF
    split
    · exact ⟨n_plainw s x h1, n_plainw s y h2⟩
    · exact ⟨word_0, word_0⟩
  have we : Word (fI s - 1) := by cases s <;> exact ⟨by decide +kernel, by decide +kernel⟩
  unfold rFrom
  split
  · split
    · exact ⟨word_0, word_0⟩
    · exact of_word _ _ (n_nextw s x hx) we
  · exact of_word _ _ hx we
/-- What the reference leaves of ranges that are not Empty. -/
theorem rrefineF_any (s : Bool) (op : Int) (h12 : 12 ≤ op) (h17 : op ≤ 17) (a b c d : Int) (ha : Word a) (hb : Word b) (hc : Word c) (hd : Word d) (w : World) :
    Calls Tryz.prog 39 #[.int .i64 (fb s), .int .i64 op, .agg #[.bool false, .int .u64 a, .int .u64 b], .agg #[.bool false, .int .u64 c, .int .u64 d]] w fun e w' => e = .returned (.tuple #[.agg #[.bool (rRefF s op (false, a, b) (false, c, d)).1.1, .int .u64 (rRefF s op (false, a, b) (false, c, d)).1.2.1, .int .u64 (rRefF s op (false, a, b) (false, c, d)).1.2.2], .agg #[.bool (rRefF s op (false, a, b) (false, c, d)).2.1, .int .u64 (rRefF s op (false, a, b) (false, c, d)).2.2.1, .int .u64 (rRefF s op (false, a, b) (false, c, d)).2.2.2]]) ∧ Below w.heap.size w w' := by
  rcases (show op = 12 ∨ op = 13 ∨ op = 14 ∨ op = 15 ∨ op = 16 ∨ op = 17 by omega) with rfl | rfl | rfl | rfl | rfl | rfl
  · exact rr_lt (fb s) a b c d _ _ _ _ _ _ _ _ _ _ _ _ (rupto_any s d true hd) (rmeetF_any s false a b _ _ _ ha hb (upto_word hd true).1 (upto_word hd true).2) (rfrom_any s a true ha) (rmeetF_any s false c d _ _ _ hc hd (from_word ha true).1 (from_word ha true).2) w
  · exact rr_le (fb s) a b c d _ _ _ _ _ _ _ _ _ _ _ _ (rupto_any s d false hd) (rmeetF_any s false a b _ _ _ ha hb (upto_word hd false).1 (upto_word hd false).2) (rfrom_any s a false ha) (rmeetF_any s false c d _ _ _ hc hd (from_word ha false).1 (from_word ha false).2) w
  · exact rr_gt (fb s) a b c d _ _ _ _ _ _ _ _ _ _ _ _ (rfrom_any s c true hc) (rmeetF_any s false a b _ _ _ ha hb (from_word hc true).1 (from_word hc true).2) (rupto_any s b true hb) (rmeetF_any s false c d _ _ _ hc hd (upto_word hb true).1 (upto_word hb true).2) w
  · exact rr_ge (fb s) a b c d _ _ _ _ _ _ _ _ _ _ _ _ (rfrom_any s c false hc) (rmeetF_any s false a b _ _ _ ha hb (from_word hc false).1 (from_word hc false).2) (rupto_any s b false hb) (rmeetF_any s false c d _ _ _ hc hd (upto_word hb false).1 (upto_word hb false).2) w
  · exact rr_eq (fb s) a b c d _ _ _ _ _ _ (rmeetF_any s false a b false c d ha hb hc hd) rfl rfl rfl w
  · refine rr_ne (fb s) a b c d (if c = d then rWithoutF s (false, a, b) c else (false, a, b)).1 (if a = b then rWithoutF s (false, c, d) a else (false, c, d)).1 (if c = d then rWithoutF s (false, a, b) c else (false, a, b)).2.1 (if c = d then rWithoutF s (false, a, b) c else (false, a, b)).2.2 (if a = b then rWithoutF s (false, c, d) a else (false, c, d)).2.1 (if a = b then rWithoutF s (false, c, d) a else (false, c, d)).2.2 ?_ ?_ w
    · by_cases q : c = d
      · left; refine ⟨q, ?_⟩
        rw [if_pos q]
        exact rwithoutF_any s false a b c hc
      · right; rw [if_neg q]; exact ⟨q, rfl, rfl, rfl⟩
    · by_cases q : a = b
      · left; refine ⟨q, ?_⟩
        rw [if_pos q]
        exact rwithoutF_any s false c d a ha
      · right; rw [if_neg q]; exact ⟨q, rfl, rfl, rfl⟩
set_option maxRecDepth 100000 in
theorem law_refines (op p : Int) (e1 : Bool) (a b : Int) (e2 : Bool) (c d : Int) (ha : Word a) (hb : Word b) (hc : Word c) (hd : Word d) (w : World) :
    Calls Tryz.prog 5 #[.int .i64 op, .agg #[.int .i64 p, .bool e1, .int .u64 a, .int .u64 b, .bool e2, .int .u64 c, .int .u64 d]] w fun e w' => e = .returned (.bool true) ∧ Below w.heap.size w w' := by
  obtain ⟨s, hs⟩ : ∃ s, (p == 1) = s := ⟨_, rfl⟩
  have KF : ∀ V, Calls Tryz.prog 15 #[.int .i64 p] V fun e w' => e = .returned (.int .i64 (fb s)) ∧ Below V.heap.size V w' := fun V => by
    have := format8 p V
    rw [hs] at this
    exact this.mono fun e w' h => b_eq h
  refine rs_all op p (fb s) e1 a b e2 c d _ KF (zright_any p s hs e1 a b e2 c d ha hb hc hd) live_any (fun r => ?_) w
  have t := fI_two s
  rw [Bool.and_eq_true] at r
  by_cases ho : op < 12 ∨ 17 < op
  · exact ⟨_, _, _, _, _, _, refineO_any (fb s) op ho e1 a b e2 c d, rr_out (fb s) op ho e1 a b e2 c d⟩
  have h12 : 12 ≤ op := by omega
  have h17 : op ≤ 17 := by omega
  have one0 : (WyF s).one 0 = true := one_mk (r := 0) (by omega) (by omega)
  have ones : ∀ {e : Bool} {x y : Int}, Word x → Word y → rRF s e x y = true → (WyF s).one x = true ∧ (WyF s).one y = true := fun {e x y} hx hy h => by
    cases e
    · obtain ⟨u, v, u1, uv, v2, rfl, rfl⟩ := right_mk hx hy h
      exact ⟨one_mk u1 (by omega), one_mk (by omega) v2⟩
    · unfold rRF at h
      simp only [if_true, Bool.and_eq_true, beq_iff_eq] at h
      rw [h.1, h.2]
      exact ⟨one0, one0⟩
  obtain ⟨oa, ob⟩ := ones ha hb r.1
  obtain ⟨oc, od⟩ := ones hc hd r.2
  have KR := refineF_any (fb s) op h12 h17 e1 a b e2 c d ha hb hc hd
  rw [fb_eq] at KR
  replace KR := KR oa ob oc od
  cases he : (e1 || e2)
  · obtain ⟨rfl, rfl⟩ : e1 = false ∧ e2 = false := by simpa using he
    have KQ := rrefineF_any s op h12 h17 a b c d ha hb hc hd
    obtain ⟨a', b', a1, ab, b2, rfl, rfl⟩ := right_mk ha hb r.1
    obtain ⟨c', d', c1, cd, d2, rfl, rfl⟩ := right_mk hc hd r.2
    rw [refine_same h12 h17 a1 ab b2 c1 cd d2] at KR
    exact ⟨_, _, _, _, _, _, KR, KQ⟩
  · rw [refine_none h12 h17 (e1, a, b) (e2, c, d) he] at KR
    exact ⟨_, _, _, _, _, _, KR, rr_none (fb s) op h12 h17 e1 a b e2 c d he⟩
end Go.Proofs.YthjoigkckgdcaaaGreat

