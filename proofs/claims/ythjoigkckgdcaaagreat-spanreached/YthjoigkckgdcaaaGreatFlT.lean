/- What is told of two ranges of floats: the number lies in the range, the trap is among the traps; plain functions alone. -/
import Derived.Test.YthjoigkckgdcaaaGreatFlN
import Derived.Test.YthjoigkckgdcaaaGreatFlS
namespace Go.Proofs.YthjoigkckgdcaaaGreat
set_option linter.unusedVariables false
set_option linter.unusedSimpArgs false
theorem plain_fin {s : Bool} {x : Int} (hx : Word x) (h : finF s (plainF s x) = true) : ∃ r, -fI s < r ∧ r < fI s ∧ plainF s x = mk s r := by
  by_cases c : (cls s x == 0 || cls s x == 5) = true
  · have e : plainF s x = fNan s := by unfold plainF; rw [if_pos c]
    rw [e] at h
    exact absurd h (by cases s <;> decide +kernel)
  · obtain ⟨r, h1, h2, e⟩ := num_mk s x hx (by simpa using c)
    rw [e, fin_mk h1 h2] at h
    have := of_decide_eq_true h
    exact ⟨r, this.1, this.2, e⟩
theorem right_mk {s : Bool} {a b : Int} (ha : Word a) (hb : Word b) (h : rRF s false a b = true) : ∃ r q, -fI s < r ∧ r ≤ q ∧ q < fI s ∧ a = mk s r ∧ b = mk s q := by
  rw [← right_same] at h
  unfold rightP at h
  simp only [Bool.false_eq_true, if_false, Bool.and_eq_true] at h
  obtain ⟨r, r1, r2, er⟩ := one_is ha h.1
  obtain ⟨q, q1, q2, eq⟩ := one_is hb h.2.1
  have := of_decide_eq_true h.2.2
  rw [er, eq, ord_mk (by omega) (by omega) (by omega) (by omega), ordI_le] at this
  exact ⟨r, q, r1, this, q2, er, eq⟩
theorem num_mk' {s : Bool} {r : Int} (h1 : -fI s < r) (h2 : r < fI s) : Num s (mk s r) := num_fin (by rw [fin_mk (by omega) (by omega)]; exact decide_eq_true ⟨h1, h2⟩)
theorem has_mk {s : Bool} {r q x : Int} (hx : Word x) (r1 : -fI s < r) (rq : r ≤ q) (q2 : q < fI s) (h : hRF s false (mk s r) (mk s q) (plainF s x) = true) : ∃ n, -fI s < n ∧ n < fI s ∧ plainF s x = mk s n ∧ r ≤ n ∧ n ≤ q := by
  have f : finF s (plainF s x) = true := by
    unfold hRF at h
    simp only [Bool.not_false, Bool.true_and, Bool.and_eq_true] at h
    exact h.1
  obtain ⟨n, n1, n2, e⟩ := plain_fin hx f
  refine ⟨n, n1, n2, e, ?_⟩
  rw [e, ← has_same (mk_word (by omega) (by omega)) (num_mk' r1 (by omega)) (num_mk' (by omega) q2), hasF (by omega) (by omega) (by omega) (by omega) n1 n2] at h
  exact of_decide_eq_true h
theorem bits_or2 (h : Bool) (a b : Int) : (bits BinOp.and IntKind.i64 (bits BinOp.or IntKind.i64 2 (zF h a b)) 2 != 0) = true := by
  unfold zF
  by_cases c : a = 0 ∧ b = 0
  · rw [if_pos c]; cases h <;> decide +kernel
  · rw [if_neg c]; cases h <;> decide +kernel
/-- A result past the ends is told as a trap. -/
theorem sound_over {s : Bool} {op a b c d x y : Int} (hop : op = 8 ∨ op = 9 ∨ op = 10 ∨ op = 11) (a1 : -fI s < a) (hab : a ≤ b) (b2 : b < fI s) (c1 : -fI s < c) (hcd : c ≤ d) (d2 : d < fI s) (h1 : a ≤ x) (h2 : x ≤ b) (h3 : c ≤ y) (h4 : y ≤ d) (hz : ¬ (op = 11 ∧ y = 0)) (hr : R s op x y = fI s ∨ R s op x y = -fI s) : (bits BinOp.and IntKind.i64 (trapsF s op (mk s a) (mk s b) (mk s c) (mk s d)) 2 != 0) = true := by
  have t := fI_two s
  obtain ⟨⟨p, hp, lp⟩, ⟨q, hq, lq⟩⟩ := prs_btw s hop h1 h2 h3 h4 hz
  have tr : trapP (WyF s) (LF s) 2 (resF s op (mk s a) (mk s b) (mk s c) (mk s d)) = 2 := by
    rcases range_is hop a1 hab b2 c1 hcd d2 with ⟨e, _⟩ | ⟨l, h, _, _, all, _, _, _, e | e⟩
    · rw [e] at hp; simp at hp
    · exact e.1
    · have := all p hp; have := all q hq; omega
  unfold trapsF
  rw [tr]
  split
  · exact bits_or2 _ _ _
  · decide +kernel
/-- A result that is a number lies in the range. -/
theorem sound_in {s : Bool} {op a b c d x y : Int} (hop : op = 8 ∨ op = 9 ∨ op = 10 ∨ op = 11) (a1 : -fI s < a) (hab : a ≤ b) (b2 : b < fI s) (c1 : -fI s < c) (hcd : c ≤ d) (d2 : d < fI s) (h1 : a ≤ x) (h2 : x ≤ b) (h3 : c ≤ y) (h4 : y ≤ d) (hz : ¬ (op = 11 ∧ y = 0)) (hr1 : -fI s < R s op x y) (hr2 : R s op x y < fI s) : ∃ l h, -fI s < l ∧ l ≤ h ∧ h < fI s ∧ rangeF s op (mk s a) (mk s b) (mk s c) (mk s d) = (false, mk s l, mk s h) ∧ l ≤ R s op x y ∧ R s op x y ≤ h := by
  have t := fI_two s
  obtain ⟨⟨p, hp, lp⟩, ⟨q, hq, lq⟩⟩ := prs_btw s hop h1 h2 h3 h4 hz
  rcases range_is hop a1 hab b2 c1 hcd d2 with ⟨e, _⟩ | ⟨l, h, _, _, all, _, _, e, _⟩
  · rw [e] at hp; simp at hp
  · have := all p hp; have := all q hq
    rw [if_neg (by omega)] at e
    exact ⟨_, _, by omega, by omega, by omega, e, by omega, by omega⟩
/-- By 0: 0 is no number, another one infinite. -/
theorem sound_zero {s : Bool} {a b c d x : Int} (a1 : -fI s < a) (b2 : b < fI s) (c1 : -fI s < c) (d2 : d < fI s) (h1 : a ≤ x) (h2 : x ≤ b) (h3 : c ≤ 0) (h4 : 0 ≤ d) :
    (bits BinOp.and IntKind.i64 (trapsF s 11 (mk s a) (mk s b) (mk s c) (mk s d)) (if x = 0 then 1 else 2) != 0) = true := by
  have t := fI_two s
  have hz : ∀ {a b : Int}, -fI s < a → a ≤ b → b < fI s → hasP (WyF s) (false, mk s a, mk s b) 0 = decide (a ≤ 0 ∧ 0 ≤ b) := fun h1 h2 h3 => by
    have := hasF (s := s) (x := 0) (Int.le_of_lt h1) (by omega) (by omega) (Int.le_of_lt h3) (by omega) (by omega)
    rw [mk_zero] at this
    exact this
  have tr : trapP (WyF s) (LF s) 2 (resF s 11 (mk s a) (mk s b) (mk s c) (mk s d)) = 0 ∨ trapP (WyF s) (LF s) 2 (resF s 11 (mk s a) (mk s b) (mk s c) (mk s d)) = 2 := by
    rcases range_is (op := 11) (Or.inr (Or.inr (Or.inr rfl))) a1 (by omega) b2 c1 (by omega) d2 with ⟨_, _, e⟩ | ⟨l, h, _, _, _, _, _, _, e | e⟩
    · exact Or.inl e
    · exact Or.inr e.1
    · exact Or.inl e.1
  unfold trapsF
  rw [if_pos ⟨rfl, by rw [hz c1 (by omega) d2]; exact decide_eq_true ⟨h3, h4⟩⟩, hz a1 (by omega) b2]
  generalize trapP (WyF s) (LF s) 2 (resF s 11 (mk s a) (mk s b) (mk s c) (mk s d)) = T at *
  by_cases x0 : x = 0
  · rw [if_pos x0, decide_eq_true ⟨by omega, by omega⟩]
    unfold zF
    by_cases q : mk s a = 0 ∧ mk s b = 0
    · rw [if_pos q]; rcases tr with rfl | rfl <;> decide +kernel
    · rw [if_neg q]; rcases tr with rfl | rfl <;> decide +kernel
  · rw [if_neg x0]
    have q : ¬ (mk s a = 0 ∧ mk s b = 0) := by
      rintro ⟨q1, q2⟩
      have e1 := mk_inj (s := s) (r := a) (q := 0) (by omega) (by omega) (by omega) (by omega) (by rw [q1, mk_zero])
      have e2 := mk_inj (s := s) (r := b) (q := 0) (by omega) (by omega) (by omega) (by omega) (by rw [q2, mk_zero])
      omega
    unfold zF
    rw [if_neg q]
    generalize decide (a ≤ 0 ∧ 0 ≤ b) = g
    cases g <;> rcases tr with rfl | rfl <;> decide +kernel
end Go.Proofs.YthjoigkckgdcaaaGreat

