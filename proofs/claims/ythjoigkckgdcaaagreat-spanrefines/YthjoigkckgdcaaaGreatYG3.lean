/- Texts of the proof, put together. -/
import Derived.Test.YthjoigkckgdcaaaGreatYSpF
import Derived.Test.YthjoigkckgdcaaaGreatYMB3
import Derived.Test.YthjoigkckgdcaaaGreatYSpS
import Derived.Test.YthjoigkckgdcaaaGreatYSpFt
import Derived.Test.YthjoigkckgdcaaaGreatMB1
import Derived.Test.YthjoigkckgdcaaaGreatMB2
import Derived.Test.YthjoigkckgdcaaaGreatYG2
import Derived.Test.YthjoigkckgdcaaaGreatYSpDp
import Derived.Test.YthjoigkckgdcaaaGreatYSpEp
import Derived.Test.YthjoigkckgdcaaaGreatYG6
namespace Go.Proofs.YthjoigkckgdcaaaGreat
set_option linter.unusedVariables false
set_option linter.unusedSimpArgs false
def mk (s : Bool) (r : Int) : Int := if r < 0 then sgnd s true (-r) else r
theorem fI_two (s : Bool) : 2 < fI s := by cases s <;> decide
theorem mk_made (s : Bool) (r : Int) : ∃ b : Bool, mk s r = sgnd s b (if r < 0 then -r else r) ∧ (b = true ↔ r < 0) := by
  unfold mk
  by_cases h : r < 0
  · exact ⟨true, by simp [h], by simp [h]⟩
  · exact ⟨false, by simp [h, sgnd], by simp [h]⟩
theorem mk_word {s : Bool} {r : Int} (h1 : -fI s ≤ r) (h2 : r ≤ fI s) : Word (mk s r) := by
  obtain ⟨b, e, _⟩ := mk_made s r
  rw [e]
  exact sgnd_word s b _ (by split <;> omega) (by split <;> omega)
theorem mk_rnk {s : Bool} {r : Int} (h1 : -fI s ≤ r) (h2 : r ≤ fI s) : rnk s (mk s r) = r := by
  obtain ⟨b, e, hb⟩ := mk_made s r
  rw [e, rnk_made s b _ (by split <;> omega) (by split <;> omega)]
  cases b
  · have : ¬ r < 0 := fun h => by simpa using hb.2 h
    simp [this]
  · have := hb.1 rfl
    simp [this]
theorem mk_inj {s : Bool} {r q : Int} (h1 : -fI s ≤ r) (h2 : r ≤ fI s) (h3 : -fI s ≤ q) (h4 : q ≤ fI s) (e : mk s r = mk s q) : r = q := by
  rw [← mk_rnk h1 h2, ← mk_rnk h3 h4, e]
theorem cmp_mk {s : Bool} {r q : Int} (h1 : -fI s ≤ r) (h2 : r ≤ fI s) (h3 : -fI s ≤ q) (h4 : q ≤ fI s) : cmpF s (mk s r) (mk s q) = (cmpI r q, true) := by
  obtain ⟨b, e, hb⟩ := mk_made s r
  obtain ⟨c, k, hc⟩ := mk_made s q
  rw [e, k, cmp_made s b c _ _ (by split <;> omega) (by split <;> omega) (by split <;> omega) (by split <;> omega)]
  have f1 : (if b then -(if r < 0 then -r else r) else (if r < 0 then -r else r)) = r := by
    cases b
    · have : ¬ r < 0 := fun h => by simpa using hb.2 h
      simp [this]
    · have := hb.1 rfl
      simp [this]
  have f2 : (if c then -(if q < 0 then -q else q) else (if q < 0 then -q else q)) = q := by
    cases c
    · have : ¬ q < 0 := fun h => by simpa using hc.2 h
      simp [this]
    · have := hc.1 rfl
      simp [this]
  rw [f1, f2]
  rfl
theorem fin_mk {s : Bool} {r : Int} (h1 : -fI s ≤ r) (h2 : r ≤ fI s) : finF s (mk s r) = decide (-fI s < r ∧ r < fI s) := by
  obtain ⟨b, e, hb⟩ := mk_made s r
  rw [e]
  obtain ⟨z, hz⟩ := Int.eq_ofNat_of_zero_le (show 0 ≤ (if r < 0 then -r else r) by split <;> omega)
  by_cases c : -fI s < r ∧ r < fI s
  · rw [decide_eq_true c, hz, n_fin s b z (by rw [← hz]; split <;> omega)]
  · rw [decide_eq_false c]
    have k : cls s (sgnd s b (if r < 0 then -r else r)) = 4 := by
      have l := fI_lt s
      rw [cls_made s b _ (by split <;> omega) (by split <;> omega), if_neg (by split <;> omega), if_pos (by split <;> omega)]
    unfold finF
    rw [k]
    rfl
theorem plain_mk {s : Bool} {r : Int} (h1 : -fI s ≤ r) (h2 : r ≤ fI s) : plainF s (mk s r) = mk s r := by
  obtain ⟨b, e, hb⟩ := mk_made s r
  have l := fI_lt s
  have k := cls_made s b (if r < 0 then -r else r) (by split <;> omega) (by split <;> omega)
  rw [e]
  unfold plainF
  rw [k]
  by_cases z : r = 0
  · subst z
    have : b = false := by
      cases b
      · rfl
      · exact absurd (hb.1 rfl) (by decide)
    subst this
    simp [sgnd]
    have := fI_two s
    split <;> (try split) <;> (try split) <;> simp_all <;> omega
  · have n0 : ¬ (if r < 0 then -r else r) = 0 := by split <;> omega
    have n1 : ¬ fI s < (if r < 0 then -r else r) := by split <;> omega
    rw [if_neg n1, if_neg n0]
    by_cases c : (if r < 0 then -r else r) = fI s
    · rw [if_pos c]; rfl
    · rw [if_neg c]
      by_cases d : (if r < 0 then -r else r) / 2 ^ fP s = 0
      · rw [if_pos d]; rfl
      · rw [if_neg d]; rfl
theorem num_mk (s : Bool) (a : Int) (h : Word a) (n : (cls s a == 0 || cls s a == 5) = false) : ∃ r, -fI s ≤ r ∧ r ≤ fI s ∧ plainF s a = mk s r := by
  rcases num_or s a h with c | ⟨b, z, rfl, z0, z1⟩
  · rw [n] at c; exact absurd c (by decide)
  · by_cases e : z = 0
    · subst e
      refine ⟨0, by have := fI_two s; omega, by have := fI_two s; omega, ?_⟩
      rw [show (0 : Int) = ((0 : Nat) : Int) from rfl, n_plain s b 0 (by have := fI_two s; omega)]
      rfl
    · refine ⟨if b then -z else z, by split <;> omega, by split <;> omega, ?_⟩
      have m : mk s (if b then -z else z) = sgnd s b z := by
        unfold mk
        cases b
        · have : ¬ z < 0 := by omega
          simp [this, sgnd]
        · have : -z < 0 := by omega
          rw [if_pos rfl, if_pos this, Int.neg_neg]
      rw [← m]
      exact plain_mk (by split <;> omega) (by split <;> omega)
theorem one_mk {s : Bool} {r : Int} (h1 : -fI s < r) (h2 : r < fI s) : (WyF s).one (mk s r) = true := by
  show (finF s (mk s r) && (plainF s (mk s r) == mk s r)) = true
  rw [fin_mk (by omega) (by omega), plain_mk (by omega) (by omega), decide_eq_true ⟨h1, h2⟩]
  simp
theorem one_is {s : Bool} {a : Int} (h : Word a) (o : (WyF s).one a = true) : ∃ r, -fI s < r ∧ r < fI s ∧ a = mk s r := by
  have o' : (finF s a && (plainF s a == a)) = true := o
  simp only [Bool.and_eq_true, beq_iff_eq] at o'
  obtain ⟨r, r1, r2, e⟩ := num_mk s a h (n_num o'.1).1
  rw [o'.2] at e
  subst e
  have f := o'.1
  rw [fin_mk r1 r2] at f
  have := of_decide_eq_true f
  exact ⟨r, this.1, this.2, rfl⟩
theorem ord_mk {s : Bool} {r q : Int} (h1 : -fI s ≤ r) (h2 : r ≤ fI s) (h3 : -fI s ≤ q) (h4 : q ≤ fI s) : (WyF s).ord (mk s r) (mk s q) = WyI.ord r q := by
  show (cmpF s (mk s r) (mk s q)).1 = cmpI r q
  rw [cmp_mk h1 h2 h3 h4]
theorem least_mk (s : Bool) : negF s (fI s - 1) = mk s (-(fI s - 1)) := by cases s <;> decide +kernel
theorem most_mk (s : Bool) : fI s - 1 = mk s (fI s - 1) := by cases s <;> decide +kernel
theorem next_mk {s : Bool} {r : Int} (h1 : -fI s < r) (h2 : r < fI s - 1) : nextF s (mk s r) = mk s (r + 1) := by
  have p := plain_mk (s := s) (r := r) (by omega) (by omega)
  have ne : plainF s (mk s r) ≠ fI s - 1 := by
    rw [p]
    intro e
    rw [most_mk] at e
    have := mk_inj (by omega) (by omega) (by omega) (by omega) e
    omega
  have f : finF s (mk s r) = true := by rw [fin_mk (by omega) (by omega)]; exact decide_eq_true ⟨h1, by omega⟩
  have st := n_step s (mk s r) (mk_word (by omega) (by omega)) f ne
  rw [p] at st
  have one := st.one
  rw [mk_rnk (by omega) (by omega)] at one
  obtain ⟨b, z, e, hz⟩ := n_made s _ st.wn st.fn
  rw [e] at one ⊢
  rw [n_rnk s b z hz] at one
  unfold mk
  cases b
  · have one' : (z : Int) = r + 1 := by simpa using one
    rw [if_neg (by omega)]
    show (z : Int) = r + 1
    omega
  · have one' : -(z : Int) = r + 1 := by simpa using one
    by_cases z0 : z = 0
    · -- -0 is not what is next
      subst z0
      exfalso
      have r1 : r = -1 := by omega
      subst r1
      have e1 := n_neg s 1 (by decide) (by have := fI_two s; omega)
      have m1 : mk s (-1) = sgnd s true ((1 : Nat) : Int) := by unfold mk; simp
      rw [m1, e1] at e
      revert e
      cases s <;> decide
    · rw [if_pos (by omega)]
      congr 1
      omega
theorem prev_mk {s : Bool} {r : Int} (h1 : -(fI s - 1) < r) (h2 : r < fI s) : prevF s (mk s r) = mk s (r - 1) := by
  have st := next_mk (s := s) (r := r - 1) (by omega) (by omega)
  have p := plain_mk (s := s) (r := r - 1) (by omega) (by omega)
  have ne : plainF s (mk s (r - 1)) ≠ fI s - 1 := by
    rw [p]
    intro e
    rw [most_mk] at e
    have := mk_inj (by omega) (by omega) (by omega) (by omega) e
    omega
  have f : finF s (mk s (r - 1)) = true := by rw [fin_mk (by omega) (by omega)]; exact decide_eq_true ⟨by omega, by omega⟩
  have k := n_step s (mk s (r - 1)) (mk_word (by omega) (by omega)) f ne
  rw [p, st, show r - 1 + 1 = r by omega] at k
  exact k.back
end Go.Proofs.YthjoigkckgdcaaaGreat


namespace Go.Proofs.YthjoigkckgdcaaaGreat
set_option linter.unusedVariables false
set_option linter.unusedSimpArgs false
def LF (s : Bool) : Ln := LnF s 0 0
theorem LF_least (s : Bool) : (LF s).least = mk s (-(fI s - 1)) := least_mk s
theorem LF_most (s : Bool) : (LF s).most = mk s (fI s - 1) := most_mk s
theorem grtF {s : Bool} {a b : Int} (h1 : -fI s ≤ a) (h2 : a ≤ fI s) (h3 : -fI s ≤ b) (h4 : b ≤ fI s) : grt (WyF s) (mk s a) (mk s b) = mk s (max a b) := by
  unfold grt
  rw [ord_mk h3 h4 h1 h2]
  by_cases c : 0 < WyI.ord b a
  · rw [if_pos c]; have := (ordI_pos b a).1 c; rw [show max a b = b by omega]
  · rw [if_neg c]; have := mt (ordI_pos b a).2 c; rw [show max a b = a by omega]
theorem smlF {s : Bool} {a b : Int} (h1 : -fI s ≤ a) (h2 : a ≤ fI s) (h3 : -fI s ≤ b) (h4 : b ≤ fI s) : sml (WyF s) (mk s a) (mk s b) = mk s (min a b) := by
  unfold sml
  rw [ord_mk h3 h4 h1 h2]
  by_cases c : WyI.ord b a < 0
  · rw [if_pos c]; have := (ordI_neg b a).1 c; rw [show min a b = b by omega]
  · rw [if_neg c]; have := mt (ordI_neg b a).2 c; rw [show min a b = a by omega]
theorem meetF {s : Bool} {a b c d : Int} (a1 : -fI s ≤ a) (a2 : a ≤ fI s) (b1 : -fI s ≤ b) (b2 : b ≤ fI s) (c1 : -fI s ≤ c) (c2 : c ≤ fI s) (d1 : -fI s ≤ d) (d2 : d ≤ fI s) :
    meetP (WyF s) (false, mk s a, mk s b) (false, mk s c, mk s d) = if min b d < max a c then (true, 0, 0) else (false, mk s (max a c), mk s (min b d)) := by
  unfold meetP
  simp only [Bool.false_or]
  rw [grtF a1 a2 c1 c2, smlF b1 b2 d1 d2, ord_mk (by omega) (by omega) (by omega) (by omega)]
  by_cases h : min b d < max a c
  · rw [if_pos h, if_pos (by simpa using (ordI_pos _ _).2 h)]
  · rw [if_neg h, if_neg (by simpa using mt (ordI_pos _ _).1 h)]
end Go.Proofs.YthjoigkckgdcaaaGreat
namespace Go.Proofs.YthjoigkckgdcaaaGreat
open Go.RowKit
set_option linter.unusedVariables false
set_option linter.unusedSimpArgs false
theorem word_0 : Word 0 := ⟨by decide, by decide⟩
theorem word_least (s : Bool) : Word (LF s).least := by rw [LF_least]; have := fI_two s; exact mk_word (by omega) (by omega)
theorem word_most (s : Bool) : Word (LF s).most := by rw [LF_most]; have := fI_two s; exact mk_word (by omega) (by omega)
end Go.Proofs.YthjoigkckgdcaaaGreat


namespace Go.Proofs.YthjoigkckgdcaaaGreat
set_option linter.unusedVariables false
set_option linter.unusedSimpArgs false
end Go.Proofs.YthjoigkckgdcaaaGreat

namespace Go.Proofs.YthjoigkckgdcaaaGreat
open Go.RowKit
set_option linter.unusedVariables false
set_option linter.unusedSimpArgs false
def le2 (n : Nat) (e : Int) (m : Nat) (f : Int) : Prop := n * 2 ^ (e - min e f).toNat ≤ m * 2 ^ (f - min e f).toNat
theorem le2_at {n : Nat} {e : Int} {m : Nat} {f : Int} (E : Int) (h1 : E ≤ e) (h2 : E ≤ f) : le2 n e m f ↔ n * 2 ^ (e - E).toNat ≤ m * 2 ^ (f - E).toNat := by
  unfold le2
  have a : (e - E).toNat = (e - min e f).toNat + (min e f - E).toNat := by omega
  have b : (f - E).toNat = (f - min e f).toNat + (min e f - E).toNat := by omega
  rw [a, b, Nat.pow_add, Nat.pow_add, ← Nat.mul_assoc, ← Nat.mul_assoc]
  exact (Nat.mul_le_mul_right_iff (Nat.two_pow_pos _)).symm
theorem le2_up (n k : Nat) (e : Int) : le2 n e (n * 2 ^ k) (e - k) ∧ le2 (n * 2 ^ k) (e - k) n e := by
  constructor
  · refine (le2_at (e - k) (by omega) (by omega)).2 ?_
    rw [show (e - (e - (k : Int))).toNat = k by omega, show (e - (k : Int) - (e - k)).toNat = 0 by omega, Nat.pow_zero, Nat.mul_one]
    exact Nat.le_refl _
  · refine (le2_at (e - k) (by omega) (by omega)).2 ?_
    rw [show (e - (e - (k : Int))).toNat = k by omega, show (e - (k : Int) - (e - k)).toNat = 0 by omega, Nat.pow_zero, Nat.mul_one]
    exact Nat.le_refl _
theorem worth (s b : Bool) (z : Nat) (h : (z : Int) < fI s) : le2 (val s z) (fL s) (whl s (sgnd s b z)).toNat (pwr s (sgnd s b z)) ∧ le2 (whl s (sgnd s b z)).toNat (pwr s (sgnd s b z)) (val s z) (fL s) := by
  obtain ⟨x, q, e, q1, q2, w, p⟩ := size_parts s b z h
  rw [w, p]
  have v := val_at s x q (by omega) q2
  rw [← e] at v
  rw [v]
  obtain ⟨a, b⟩ := le2_up q x (fL s + x)
  rw [show fL s + (x : Int) - x = fL s by omega] at a b
  exact ⟨b, a⟩
theorem down2 (s : Bool) {n : Nat} (h : n ≠ 0) (e : Int) : ∃ z : Nat, mag s 2 false n e = z ∧ (z : Int) < fI s ∧ le2 (val s z) (fL s) n e := by
  obtain ⟨z, a, b, c⟩ := mag_down s 2 false (fun o h l => by cases o <;> cases h <;> cases l <;> rfl) h e (min e (fL s)) (by omega) (by omega)
  exact ⟨z, a, b, (le2_at _ (by omega) (by omega)).2 c⟩
end Go.Proofs.YthjoigkckgdcaaaGreat


namespace Go.Proofs.YthjoigkckgdcaaaGreat
set_option linter.unusedVariables false
set_option linter.unusedSimpArgs false
def mg (s : Bool) (n : Nat) (e : Int) : Int := if n = 0 then 0 else mag s 0 false n e
def rk (s : Bool) (n : Int) (e : Int) : Int := if n < 0 then -(mg s n.natAbs e) else mg s n.natAbs e
def sg (b : Bool) (n : Nat) : Int := if b then -(n : Int) else n
def stk (A D : Nat) : Nat := 2 * (A / D) + (decide (A % D ≠ 0)).toNat
def mq (s : Bool) (K A D : Nat) : Int := mg s (stk (A * 2 ^ K) D) (-(K : Int) - 1)
def rq (s : Bool) (K : Nat) (n : Int) (D : Nat) : Int := if n < 0 then -(mq s K n.natAbs D) else mq s K n.natAbs D
end Go.Proofs.YthjoigkckgdcaaaGreat


namespace Go.Proofs.YthjoigkckgdcaaaGreat
set_option linter.unusedVariables false
set_option linter.unusedSimpArgs false
def vl (s : Bool) (r : Int) : Int := if r < 0 then -(val s r.natAbs : Int) else (val s r.natAbs : Int)
def kN (s : Bool) : Nat := 130 + (fI s).toNat
def R (s : Bool) (op x y : Int) : Int := if op = 8 then rk s (vl s x + vl s y) (fL s) else if op = 9 then rk s (vl s x - vl s y) (fL s) else if op = 10 then rk s (vl s x * vl s y) (fL s + fL s) else rq s (kN s) (if y < 0 then -(vl s x) else vl s x) (val s y.natAbs)
end Go.Proofs.YthjoigkckgdcaaaGreat


namespace Go.Proofs.YthjoigkckgdcaaaGreat
set_option linter.unusedVariables false
set_option linter.unusedSimpArgs false
def Num (s : Bool) (a : Int) : Prop := (cls s a == 0 || cls s a == 5) = false
theorem ordN {s : Bool} {a b : Int} (h1 : Num s a) (h2 : Num s b) : (WyF s).ord a b = cmpI (rnk s a) (rnk s b) := by
  show (cmpF s a b).1 = _
  unfold cmpF
  rw [h1, h2]
  rfl
theorem lessN {s : Bool} {a b : Int} (h1 : Num s a) (h2 : Num s b) : lessF s a b = decide (rnk s a < rnk s b) := by
  unfold lessF cmpF
  rw [h1, h2]
  simp only [Bool.or_self, Bool.false_eq_true, if_false, Bool.true_and]
  rw [decide_eq_decide]
  split
  · simp [*]
  · split <;> omega
theorem num_0 (s : Bool) : Num s 0 := by unfold Num; cases s <;> decide +kernel
theorem num_fin {s : Bool} {a : Int} (h : finF s a = true) : Num s a := (n_num h).1
theorem one_iff (s : Bool) (a : Int) : (WyF s).one a = (finF s a && (plainF s a == a)) := rfl
theorem right_same (s : Bool) (e : Bool) (a b : Int) : rightP (WyF s) (e, a, b) = rRF s e a b := by
  unfold rightP rRF
  cases e
  · simp only [Bool.false_eq_true, if_false]
    rw [one_iff, one_iff]
    cases fa : finF s a
    · simp
    · cases fb : finF s b
      · simp
      · rw [ordN (num_fin fa) (num_fin fb), lessN (num_fin fb) (num_fin fa)]
        have k : decide (cmpI (rnk s a) (rnk s b) ≤ 0) = !decide (rnk s b < rnk s a) := by
          unfold cmpI
          rw [Bool.eq_iff_iff]
          simp
          split <;> (try split) <;> omega
        rw [k]
        cases (plainF s a == a) <;> cases (plainF s b == b) <;> simp
  · rfl
theorem of_same (s : Bool) (x y : Int) : ofP (WyF s) x y = rOfF s x y := by
  unfold ofP rOfF
  rw [right_same]
  rfl
theorem pos_cmp (p q : Int) : (0 < cmpI p q) ↔ q < p := by unfold cmpI; split <;> (try split) <;> omega
theorem neg_cmp (p q : Int) : (cmpI p q < 0) ↔ p < q := by unfold cmpI; split <;> (try split) <;> omega
theorem ge_cmp (p q : Int) : (0 ≤ cmpI p q) ↔ q ≤ p := by unfold cmpI; split <;> (try split) <;> omega
theorem grt_less {s : Bool} {a c : Int} (na : Num s a) (nc : Num s c) : grt (WyF s) a c = if lessF s a c then c else a := by
  unfold grt
  rw [ordN nc na, lessN na nc]
  by_cases h : rnk s a < rnk s c
  · rw [if_pos ((pos_cmp _ _).2 h), if_pos (by simpa using h)]
  · rw [if_neg (mt (pos_cmp _ _).1 h), if_neg (by simpa using h)]
theorem sml_less {s : Bool} {a c : Int} (na : Num s a) (nc : Num s c) : sml (WyF s) a c = if lessF s c a then c else a := by
  unfold sml
  rw [ordN nc na, lessN nc na]
  by_cases h : rnk s c < rnk s a
  · rw [if_pos ((neg_cmp _ _).2 h), if_pos (by simpa using h)]
  · rw [if_neg (mt (neg_cmp _ _).1 h), if_neg (by simpa using h)]
theorem meet_same {s e1 e2 : Bool} {a b c d : Int} (na : Num s a) (nb : Num s b) (nc : Num s c) (nd : Num s d) : meetP (WyF s) (e1, a, b) (e2, c, d) = rMeetF s (e1, a, b) (e2, c, d) := by
  unfold meetP rMeetF
  dsimp only
  rw [grt_less na nc, sml_less nb nd]
  cases e1
  · cases e2
    · simp only [Bool.or_self, Bool.false_or, Bool.false_eq_true, if_false]
      have n1 : Num s (if lessF s a c then c else a) := by split <;> assumption
      have n2 : Num s (if lessF s d b then d else b) := by split <;> assumption
      generalize (if lessF s a c = true then c else a) = lo at *
      generalize (if lessF s d b = true then d else b) = hi at *
      rw [ordN n1 n2, lessN n2 n1]
      by_cases h : rnk s hi < rnk s lo
      · rw [if_pos (by simpa using (pos_cmp _ _).2 h), if_pos (by simpa using h)]
      · rw [if_neg (by simpa using mt (pos_cmp _ _).1 h), if_neg (by simpa using h)]
    · simp
  · simp
end Go.Proofs.YthjoigkckgdcaaaGreat


namespace Go.Proofs.YthjoigkckgdcaaaGreat
set_option linter.unusedVariables false
set_option linter.unusedSimpArgs false
theorem right_mk {s : Bool} {a b : Int} (ha : Word a) (hb : Word b) (h : rRF s false a b = true) : ∃ r q, -fI s < r ∧ r ≤ q ∧ q < fI s ∧ a = mk s r ∧ b = mk s q := by
  rw [← right_same] at h
  unfold rightP at h
  simp only [Bool.false_eq_true, if_false, Bool.and_eq_true] at h
  obtain ⟨r, r1, r2, er⟩ := one_is ha h.1
  obtain ⟨q, q1, q2, eq⟩ := one_is hb h.2.1
  have := of_decide_eq_true h.2.2
  rw [er, eq, ord_mk (by omega) (by omega) (by omega) (by omega), ordI_le] at this
  exact ⟨r, q, r1, this, q2, er, eq⟩
theorem num_mk' {s : Bool} {r : Int} (h1 : -fI s < r) (h2 : r < fI s) : Num s (mk s r) := num_fin (by rw [fin_mk (by omega) (by omega)]; exact decide_eq_true ⟨h1, h2⟩)
end Go.Proofs.YthjoigkckgdcaaaGreat


namespace Go.Proofs.YthjoigkckgdcaaaGreat
set_option linter.unusedVariables false
set_option linter.unusedSimpArgs false
theorem below_mk {s : Bool} {d : Int} (h1 : -(fI s - 1) < d) (h2 : d < fI s) : belowP (WyF s) (LF s) (mk s d) = (false, mk s (-(fI s - 1)), mk s (d - 1)) := by
  have t := fI_two s
  unfold belowP
  rw [LF_least, ord_mk (by omega) (by omega) (by omega) (by omega), if_neg (by rw [ordI_le]; omega), show (WyF s).prv (mk s d) = prevF s (mk s d) from rfl, prev_mk h1 h2]
theorem above_mk {s : Bool} {d : Int} (h1 : -fI s < d) (h2 : d < fI s - 1) : aboveP (WyF s) (LF s) (mk s d) = (false, mk s (d + 1), mk s (fI s - 1)) := by
  have t := fI_two s
  unfold aboveP
  rw [LF_most, ord_mk (by omega) (by omega) (by omega) (by omega), if_neg (by unfold WyI; simp only; rw [ge_cmp]; omega), show (WyF s).nxt (mk s d) = nextF s (mk s d) from rfl, next_mk h1 h2]
def Kept (s : Bool) (P : Bool × Int × Int) (a b n : Int) : Prop := ∃ l h, P = (false, mk s l, mk s h) ∧ a ≤ l ∧ l ≤ n ∧ n ≤ h ∧ h ≤ b
theorem both_ok {s : Bool} {P Q : Bool × Int × Int} {a b n c d m : Int} (h1 : Kept s P a b n) (h2 : Kept s Q c d m) : bothP P Q = (P, Q) := by
  obtain ⟨l, h, rfl, _⟩ := h1
  obtain ⟨l', h', rfl, _⟩ := h2
  rfl
theorem meet_kept {s : Bool} {a b n l h : Int} (a1 : -fI s < a) (b2 : b < fI s) (an : a ≤ n) (nb : n ≤ b) (l1 : -fI s < l) (h2 : h < fI s) (ln : l ≤ n) (nh : n ≤ h) : Kept s (meetP (WyF s) (false, mk s a, mk s b) (false, mk s l, mk s h)) a b n := by
  refine ⟨max a l, min b h, ?_, by omega, by omega, by omega, by omega⟩
  rw [meetF (by omega) (by omega) (by omega) (by omega) (by omega) (by omega) (by omega) (by omega), if_neg (by omega)]
theorem lt_kept {s : Bool} {a b c d n m : Int} (a1 : -fI s < a) (b2 : b < fI s) (an : a ≤ n) (nb : n ≤ b) (c1 : -fI s < c) (d2 : d < fI s) (cm : c ≤ m) (md : m ≤ d) (h : n < m) : Kept s (ltP (WyF s) (LF s) (false, mk s a, mk s b) (false, mk s c, mk s d)).1 a b n ∧ Kept s (ltP (WyF s) (LF s) (false, mk s a, mk s b) (false, mk s c, mk s d)).2 c d m := by
  have t := fI_two s
  have k1 : Kept s (meetP (WyF s) (false, mk s a, mk s b) (belowP (WyF s) (LF s) (mk s d))) a b n := by
    rw [below_mk (by omega) d2]
    exact meet_kept a1 b2 an nb (by omega) (by omega) (by omega) (by omega)
  have k2 : Kept s (meetP (WyF s) (false, mk s c, mk s d) (aboveP (WyF s) (LF s) (mk s a))) c d m := by
    rw [above_mk a1 (by omega)]
    exact meet_kept c1 d2 cm md (by omega) (by omega) (by omega) (by omega)
  unfold ltP
  dsimp only
  rw [both_ok k1 k2]
  exact ⟨k1, k2⟩
theorem le_kept {s : Bool} {a b c d n m : Int} (a1 : -fI s < a) (b2 : b < fI s) (an : a ≤ n) (nb : n ≤ b) (c1 : -fI s < c) (d2 : d < fI s) (cm : c ≤ m) (md : m ≤ d) (h : n ≤ m) : Kept s (leP (WyF s) (LF s) (false, mk s a, mk s b) (false, mk s c, mk s d)).1 a b n ∧ Kept s (leP (WyF s) (LF s) (false, mk s a, mk s b) (false, mk s c, mk s d)).2 c d m := by
  have t := fI_two s
  have k1 : Kept s (meetP (WyF s) (false, mk s a, mk s b) (false, (LF s).least, mk s d)) a b n := by
    rw [LF_least]
    exact meet_kept a1 b2 an nb (by omega) d2 (by omega) (by omega)
  have k2 : Kept s (meetP (WyF s) (false, mk s c, mk s d) (false, mk s a, (LF s).most)) c d m := by
    rw [LF_most]
    exact meet_kept c1 d2 cm md a1 (by omega) (by omega) (by omega)
  unfold leP
  dsimp only
  rw [both_ok k1 k2]
  exact ⟨k1, k2⟩
theorem without_kept {s : Bool} {a b c d n m : Int} (a1 : -fI s < a) (b2 : b < fI s) (an : a ≤ n) (nb : n ≤ b) (c1 : -fI s < c) (d2 : d < fI s) (cm : c ≤ m) (md : m ≤ d) (h : n ≠ m) : Kept s (withoutP (WyF s) (LF s) (false, mk s a, mk s b) (false, mk s c, mk s d)) a b n := by
  have t := fI_two s
  have self : Kept s (false, mk s a, mk s b) a b n := ⟨a, b, rfl, Int.le_refl _, an, nb, Int.le_refl _⟩
  have oz : ∀ x y : Int, -fI s < x → x < fI s → -fI s < y → y < fI s → ((WyF s).ord (mk s x) (mk s y) = 0 ↔ x = y) := fun x y x1 x2 y1 y2 => by
    rw [ord_mk (by omega) (by omega) (by omega) (by omega)]
    unfold WyI cmpI
    simp only
    split
    · constructor <;> intro <;> omega
    · split
      · constructor <;> intro <;> omega
      · constructor <;> intro <;> omega
  unfold withoutP
  dsimp only
  by_cases q1 : c = d
  · rw [if_neg (by rw [oz c d c1 (by omega) (by omega) d2]; simpa using q1)]
    by_cases q2 : c = a
    · rw [if_pos ((oz c a c1 (by omega) a1 (by omega)).2 q2), above_mk c1 (by omega)]
      exact meet_kept a1 b2 an nb (by omega) (by omega) (by omega) (by omega)
    · rw [if_neg (mt (oz c a c1 (by omega) a1 (by omega)).1 q2)]
      by_cases q3 : c = b
      · rw [if_pos ((oz c b c1 (by omega) (by omega) b2).2 q3), below_mk (by omega) (by omega)]
        exact meet_kept a1 b2 an nb (by omega) (by omega) (by omega) (by omega)
      · rw [if_neg (mt (oz c b c1 (by omega) (by omega) b2).1 q3)]
        exact self
  · rw [if_pos (by rw [oz c d c1 (by omega) (by omega) d2]; exact q1)]
    exact self
def holdI (op n m : Int) : Prop := (op = 12 → n < m) ∧ (op = 13 → n ≤ m) ∧ (op = 14 → m < n) ∧ (op = 15 → m ≤ n) ∧ (op = 16 → n = m) ∧ (op = 17 → n ≠ m)
theorem keeps {s : Bool} {op a b c d n m : Int} (h12 : 12 ≤ op) (h17 : op ≤ 17) (a1 : -fI s < a) (b2 : b < fI s) (an : a ≤ n) (nb : n ≤ b) (c1 : -fI s < c) (d2 : d < fI s) (cm : c ≤ m) (md : m ≤ d) (h : holdI op n m) :
    Kept s (refineP (WyF s) (LF s) op (false, mk s a, mk s b) (false, mk s c, mk s d)).1 a b n ∧ Kept s (refineP (WyF s) (LF s) op (false, mk s a, mk s b) (false, mk s c, mk s d)).2 c d m := by
  obtain ⟨g1, g2, g3, g4, g5, g6⟩ := h
  rcases (show op = 12 ∨ op = 13 ∨ op = 14 ∨ op = 15 ∨ op = 16 ∨ op = 17 by omega) with rfl | rfl | rfl | rfl | rfl | rfl
  · exact lt_kept a1 b2 an nb c1 d2 cm md (g1 rfl)
  · exact le_kept a1 b2 an nb c1 d2 cm md (g2 rfl)
  · obtain ⟨k1, k2⟩ := lt_kept c1 d2 cm md a1 b2 an nb (g3 rfl)
    have e : refineP (WyF s) (LF s) 14 (false, mk s a, mk s b) (false, mk s c, mk s d) = bothP (ltP (WyF s) (LF s) (false, mk s c, mk s d) (false, mk s a, mk s b)).2 (ltP (WyF s) (LF s) (false, mk s c, mk s d) (false, mk s a, mk s b)).1 := rfl
    rw [e, both_ok k2 k1]
    exact ⟨k2, k1⟩
  · obtain ⟨k1, k2⟩ := le_kept c1 d2 cm md a1 b2 an nb (g4 rfl)
    have e : refineP (WyF s) (LF s) 15 (false, mk s a, mk s b) (false, mk s c, mk s d) = bothP (leP (WyF s) (LF s) (false, mk s c, mk s d) (false, mk s a, mk s b)).2 (leP (WyF s) (LF s) (false, mk s c, mk s d) (false, mk s a, mk s b)).1 := rfl
    rw [e, both_ok k2 k1]
    exact ⟨k2, k1⟩
  · have q := g5 rfl
    have k1 : Kept s (meetP (WyF s) (false, mk s a, mk s b) (false, mk s c, mk s d)) a b n := meet_kept a1 b2 an nb c1 d2 (by omega) (by omega)
    have k2 : Kept s (meetP (WyF s) (false, mk s c, mk s d) (false, mk s a, mk s b)) c d m := meet_kept c1 d2 cm md a1 b2 (by omega) (by omega)
    have e : refineP (WyF s) (LF s) 16 (false, mk s a, mk s b) (false, mk s c, mk s d) = bothP (meetP (WyF s) (false, mk s a, mk s b) (false, mk s c, mk s d)) (meetP (WyF s) (false, mk s c, mk s d) (false, mk s a, mk s b)) := rfl
    rw [e, both_ok k1 k2]
    exact ⟨k1, k2⟩
  · have k1 := without_kept (s := s) a1 b2 an nb c1 d2 cm md (g6 rfl)
    have k2 := without_kept (s := s) c1 d2 cm md a1 b2 an nb (Ne.symm (g6 rfl))
    have e : refineP (WyF s) (LF s) 17 (false, mk s a, mk s b) (false, mk s c, mk s d) = bothP (withoutP (WyF s) (LF s) (false, mk s a, mk s b) (false, mk s c, mk s d)) (withoutP (WyF s) (LF s) (false, mk s c, mk s d) (false, mk s a, mk s b)) := rfl
    rw [e, both_ok k1 k2]
    exact ⟨k1, k2⟩
end Go.Proofs.YthjoigkckgdcaaaGreat


namespace Go.Proofs.YthjoigkckgdcaaaGreat
set_option linter.unusedVariables false
set_option linter.unusedSimpArgs false
theorem both_swap (X Y : Bool × Int × Int) : bothP (bothP Y X).2 (bothP Y X).1 = bothP X Y := by
  obtain ⟨xe, xl, xh⟩ := X
  obtain ⟨ye, yl, yh⟩ := Y
  cases xe <;> cases ye <;> rfl
theorem of_mk {s : Bool} {r q : Int} (r1 : -fI s < r) (rq : r ≤ q) (q2 : q < fI s) : rOfF s (mk s r) (mk s q) = (false, mk s r, mk s q) := by
  rw [← of_same]
  unfold ofP
  have p1 : (WyF s).pl (mk s r) = mk s r := plain_mk (by omega) (by omega)
  have p2 : (WyF s).pl (mk s q) = mk s q := plain_mk (by omega) (by omega)
  rw [p1, p2, if_pos]
  unfold rightP
  simp only [Bool.false_eq_true, if_false]
  rw [one_mk r1 (by omega), one_mk (by omega) q2, ord_mk (by omega) (by omega) (by omega) (by omega)]
  simp only [Bool.true_and]
  exact decide_eq_true ((ordI_le _ _).2 rq)
theorem upto_same {s : Bool} {d : Int} (h1 : -fI s < d) (h2 : d < fI s) (st : Bool) : rUpTo s (mk s d) st = if st then belowP (WyF s) (LF s) (mk s d) else (false, (LF s).least, mk s d) := by
  have t := fI_two s
  unfold rUpTo
  rw [least_mk, LF_least]
  cases st
  · simp only [Bool.false_eq_true, if_false]
    exact of_mk (by omega) (by omega) h2
  · simp only [if_true]
    by_cases c : d = -(fI s - 1)
    · rw [if_pos (by rw [c])]
      unfold belowP
      rw [LF_least, ord_mk (by omega) (by omega) (by omega) (by omega), if_pos (by rw [ordI_le]; omega)]
    · rw [if_neg (fun e => c (mk_inj (by omega) (by omega) (by omega) (by omega) e)), below_mk (by omega) h2, prev_mk (by omega) h2]
      exact of_mk (by omega) (by omega) (by omega)
theorem from_same {s : Bool} {d : Int} (h1 : -fI s < d) (h2 : d < fI s) (st : Bool) : rFrom s (mk s d) st = if st then aboveP (WyF s) (LF s) (mk s d) else (false, mk s d, (LF s).most) := by
  have t := fI_two s
  unfold rFrom
  rw [most_mk, LF_most]
  cases st
  · simp only [Bool.false_eq_true, if_false]
    exact of_mk h1 (by omega) (by omega)
  · simp only [if_true]
    by_cases c : d = fI s - 1
    · rw [if_pos (by rw [c])]
      unfold aboveP
      rw [LF_most, ord_mk (by omega) (by omega) (by omega) (by omega), if_pos (by unfold WyI; simp only; rw [ge_cmp]; omega)]
    · rw [if_neg (fun e => c (mk_inj (by omega) (by omega) (by omega) (by omega) e)), above_mk h1 (by omega), next_mk h1 (by omega)]
      exact of_mk (by omega) (by omega) (by omega)
theorem without_same {s : Bool} {a b c d : Int} (a1 : -fI s < a) (ab : a ≤ b) (b2 : b < fI s) (c1 : -fI s < c) (cd : c ≤ d) (d2 : d < fI s) : withoutP (WyF s) (LF s) (false, mk s a, mk s b) (false, mk s c, mk s d) = if mk s c = mk s d then rWithoutF s (false, mk s a, mk s b) (mk s c) else (false, mk s a, mk s b) := by
  have t := fI_two s
  have oz : ∀ x y : Int, -fI s < x → x < fI s → -fI s < y → y < fI s → ((WyF s).ord (mk s x) (mk s y) = 0 ↔ x = y) := fun x y x1 x2 y1 y2 => by
    rw [ord_mk (by omega) (by omega) (by omega) (by omega)]
    unfold WyI cmpI
    simp only
    split
    · constructor <;> intro <;> omega
    · split
      · constructor <;> intro <;> omega
      · constructor <;> intro <;> omega
  have mz : ∀ x y : Int, -fI s < x → x < fI s → -fI s < y → y < fI s → (mk s x = mk s y ↔ x = y) := fun x y x1 x2 y1 y2 =>
    ⟨fun e => mk_inj (by omega) (by omega) (by omega) (by omega) e, fun e => by rw [e]⟩
  unfold withoutP rWithoutF
  dsimp only
  by_cases q1 : c = d
  · rw [if_neg (by rw [oz c d c1 (by omega) (by omega) d2]; simpa using q1), if_pos (show mk s c = mk s d by rw [q1])]
    by_cases q2 : c = a
    · rw [if_pos ((oz c a c1 (by omega) a1 (by omega)).2 q2)]
      subst q2
      by_cases q3 : b = c
      · subst q3
        rw [if_pos ⟨rfl, rfl⟩]
        by_cases m : b = fI s - 1
        · unfold aboveP
          rw [LF_most, ord_mk (by omega) (by omega) (by omega) (by omega), if_pos (by unfold WyI; simp only; rw [ge_cmp]; omega)]
          rfl
        · rw [above_mk a1 (by omega), meetF (by omega) (by omega) (by omega) (by omega) (by omega) (by omega) (by omega) (by omega), if_pos (by omega)]
      · rw [if_neg (fun h => q3 ((mz b c (by omega) b2 c1 (by omega)).1 h.2)), if_pos rfl, above_mk a1 (by omega), meetF (by omega) (by omega) (by omega) (by omega) (by omega) (by omega) (by omega) (by omega), if_neg (by omega), next_mk a1 (by omega), show max c (c + 1) = c + 1 by omega, show min b (fI s - 1) = b by omega]
    · have na : ¬ mk s a = mk s c := fun h => q2 ((mz a c a1 (by omega) c1 (by omega)).1 h).symm
      have nab : ¬ (mk s a = mk s c ∧ mk s b = mk s c) := fun h => na h.1
      rw [if_neg (mt (oz c a c1 (by omega) a1 (by omega)).1 q2), if_neg nab, if_neg na]
      by_cases q3 : c = b
      · rw [if_pos ((oz c b c1 (by omega) (by omega) b2).2 q3), if_pos (show mk s b = mk s c by rw [q3]), below_mk (by omega) (by omega), meetF (by omega) (by omega) (by omega) (by omega) (by omega) (by omega) (by omega) (by omega), if_neg (by omega), prev_mk (by omega) (by omega), show max a (-(fI s - 1)) = a by omega, show min b (c - 1) = c - 1 by omega]
      · have nb : ¬ mk s b = mk s c := fun h => q3 ((mz b c (by omega) b2 c1 (by omega)).1 h).symm
        rw [if_neg (mt (oz c b c1 (by omega) (by omega) b2).1 q3), if_neg nb]
  · rw [if_pos (by rw [oz c d c1 (by omega) (by omega) d2]; exact q1), if_neg (fun e => q1 ((mz c d c1 (by omega) (by omega) d2).1 e))]
def rRefF (s : Bool) (op : Int) (p q : Bool × Int × Int) : (Bool × Int × Int) × (Bool × Int × Int) :=
  if op = 12 then bothP (rMeetF s p (rUpTo s q.2.2 true)) (rMeetF s q (rFrom s p.2.1 true)) else if op = 13 then bothP (rMeetF s p (rUpTo s q.2.2 false)) (rMeetF s q (rFrom s p.2.1 false))
  else if op = 14 then bothP (rMeetF s p (rFrom s q.2.1 true)) (rMeetF s q (rUpTo s p.2.2 true)) else if op = 15 then bothP (rMeetF s p (rFrom s q.2.1 false)) (rMeetF s q (rUpTo s p.2.2 false))
  else if op = 16 then bothP (rMeetF s p q) (rMeetF s p q) else bothP (if q.2.1 = q.2.2 then rWithoutF s p q.2.1 else p) (if p.2.1 = p.2.2 then rWithoutF s q p.2.1 else q)
theorem num_below {s : Bool} {d : Int} (h1 : -fI s < d) (h2 : d < fI s) : Num s (belowP (WyF s) (LF s) (mk s d)).2.1 ∧ Num s (belowP (WyF s) (LF s) (mk s d)).2.2 := by
  have t := fI_two s
  by_cases c : d = -(fI s - 1)
  · unfold belowP
    rw [LF_least, ord_mk (by omega) (by omega) (by omega) (by omega), if_pos (by rw [ordI_le]; omega)]
    exact ⟨num_0 s, num_0 s⟩
  · rw [below_mk (by omega) h2]
    exact ⟨num_mk' (by omega) (by omega), num_mk' (by omega) (by omega)⟩
theorem num_above {s : Bool} {d : Int} (h1 : -fI s < d) (h2 : d < fI s) : Num s (aboveP (WyF s) (LF s) (mk s d)).2.1 ∧ Num s (aboveP (WyF s) (LF s) (mk s d)).2.2 := by
  have t := fI_two s
  by_cases c : d = fI s - 1
  · unfold aboveP
    rw [LF_most, ord_mk (by omega) (by omega) (by omega) (by omega), if_pos (by unfold WyI; simp only; rw [ge_cmp]; omega)]
    exact ⟨num_0 s, num_0 s⟩
  · rw [above_mk h1 (by omega)]
    exact ⟨num_mk' (by omega) (by omega), num_mk' (by omega) (by omega)⟩
theorem refine_same {s : Bool} {op a b c d : Int} (h12 : 12 ≤ op) (h17 : op ≤ 17) (a1 : -fI s < a) (ab : a ≤ b) (b2 : b < fI s) (c1 : -fI s < c) (cd : c ≤ d) (d2 : d < fI s) :
    refineP (WyF s) (LF s) op (false, mk s a, mk s b) (false, mk s c, mk s d) = rRefF s op (false, mk s a, mk s b) (false, mk s c, mk s d) := by
  have t := fI_two s
  have na : Num s (mk s a) := num_mk' a1 (by omega)
  have nb : Num s (mk s b) := num_mk' (by omega) b2
  have nc : Num s (mk s c) := num_mk' c1 (by omega)
  have nd : Num s (mk s d) := num_mk' (by omega) d2
  have nl : Num s (LF s).least := by rw [LF_least]; exact num_mk' (by omega) (by omega)
  have nm : Num s (LF s).most := by rw [LF_most]; exact num_mk' (by omega) (by omega)
  have m1 : ∀ {x y : Int} {p : Bool × Int × Int}, Num s x → Num s y → Num s p.2.1 → Num s p.2.2 → meetP (WyF s) (false, x, y) p = rMeetF s (false, x, y) p := fun {x y p} hx hy h1 h2 => by
    obtain ⟨e, l, h⟩ := p
    exact meet_same hx hy h1 h2
  have L : ∀ {a b c d : Int}, -fI s < a → a ≤ b → b < fI s → -fI s < c → c ≤ d → d < fI s → Num s (mk s a) → Num s (mk s b) → Num s (mk s c) → Num s (mk s d) →
      ltP (WyF s) (LF s) (false, mk s a, mk s b) (false, mk s c, mk s d) = bothP (rMeetF s (false, mk s a, mk s b) (rUpTo s (mk s d) true)) (rMeetF s (false, mk s c, mk s d) (rFrom s (mk s a) true)) ∧
      leP (WyF s) (LF s) (false, mk s a, mk s b) (false, mk s c, mk s d) = bothP (rMeetF s (false, mk s a, mk s b) (rUpTo s (mk s d) false)) (rMeetF s (false, mk s c, mk s d) (rFrom s (mk s a) false)) := by
    intro a b c d a1 ab b2 c1 cd d2 na nb nc nd
    rw [upto_same (by omega) d2, upto_same (by omega) d2, from_same a1 (by omega), from_same a1 (by omega)]
    simp only [if_true, Bool.false_eq_true, if_false]
    unfold ltP leP
    dsimp only
    obtain ⟨k1, k2⟩ := num_below (s := s) (d := d) (by omega) d2
    obtain ⟨k3, k4⟩ := num_above (s := s) (d := a) a1 (by omega)
    rw [m1 na nb k1 k2, m1 nc nd k3 k4, m1 na nb nl nd, m1 nc nd na nm]
    exact ⟨rfl, rfl⟩
  rcases (show op = 12 ∨ op = 13 ∨ op = 14 ∨ op = 15 ∨ op = 16 ∨ op = 17 by omega) with rfl | rfl | rfl | rfl | rfl | rfl
  · exact (L a1 ab b2 c1 cd d2 na nb nc nd).1
  · exact (L a1 ab b2 c1 cd d2 na nb nc nd).2
  · have e : refineP (WyF s) (LF s) 14 (false, mk s a, mk s b) (false, mk s c, mk s d) = bothP (ltP (WyF s) (LF s) (false, mk s c, mk s d) (false, mk s a, mk s b)).2 (ltP (WyF s) (LF s) (false, mk s c, mk s d) (false, mk s a, mk s b)).1 := rfl
    rw [e, (L c1 cd d2 a1 ab b2 nc nd na nb).1, both_swap]
    rfl
  · have e : refineP (WyF s) (LF s) 15 (false, mk s a, mk s b) (false, mk s c, mk s d) = bothP (leP (WyF s) (LF s) (false, mk s c, mk s d) (false, mk s a, mk s b)).2 (leP (WyF s) (LF s) (false, mk s c, mk s d) (false, mk s a, mk s b)).1 := rfl
    rw [e, (L c1 cd d2 a1 ab b2 nc nd na nb).2, both_swap]
    rfl
  · have e : refineP (WyF s) (LF s) 16 (false, mk s a, mk s b) (false, mk s c, mk s d) = bothP (meetP (WyF s) (false, mk s a, mk s b) (false, mk s c, mk s d)) (meetP (WyF s) (false, mk s c, mk s d) (false, mk s a, mk s b)) := rfl
    have sw : meetP (WyF s) (false, mk s c, mk s d) (false, mk s a, mk s b) = meetP (WyF s) (false, mk s a, mk s b) (false, mk s c, mk s d) := by
      rw [meetF (by omega) (by omega) (by omega) (by omega) (by omega) (by omega) (by omega) (by omega), meetF (by omega) (by omega) (by omega) (by omega) (by omega) (by omega) (by omega) (by omega), show min d b = min b d by omega, show max c a = max a c by omega]
    rw [e, sw, m1 na nb nc nd]
    rfl
  · have e : refineP (WyF s) (LF s) 17 (false, mk s a, mk s b) (false, mk s c, mk s d) = bothP (withoutP (WyF s) (LF s) (false, mk s a, mk s b) (false, mk s c, mk s d)) (withoutP (WyF s) (LF s) (false, mk s c, mk s d) (false, mk s a, mk s b)) := rfl
    rw [e, without_same a1 ab b2 c1 cd d2, without_same c1 cd d2 a1 ab b2]
    rfl
theorem refine_none {s : Bool} {op : Int} (h12 : 12 ≤ op) (h17 : op ≤ 17) (p q : Bool × Int × Int) (h : (p.1 || q.1) = true) : refineP (WyF s) (LF s) op p q = ((true, 0, 0), (true, 0, 0)) := by
  have mp : ∀ (x y : Bool × Int × Int), (x.1 || y.1) = true → (meetP (WyF s) x y).1 = true := fun x y h => by
    unfold meetP
    rw [if_pos (by rw [h]; rfl)]
  have bp : ∀ (x y : Bool × Int × Int), (x.1 || y.1) = true → bothP x y = ((true, 0, 0), (true, 0, 0)) := fun x y h => by
    unfold bothP
    rw [if_pos h]
  have wp : ∀ (x y : Bool × Int × Int), x.1 = true → (withoutP (WyF s) (LF s) x y).1 = true := fun x y h => by
    unfold withoutP
    split
    · exact h
    · split
      · exact mp _ _ (by rw [h]; rfl)
      · split
        · exact mp _ _ (by rw [h]; rfl)
        · exact h
  have lp : ∀ (x y : Bool × Int × Int), (x.1 || y.1) = true → ltP (WyF s) (LF s) x y = ((true, 0, 0), (true, 0, 0)) ∧ leP (WyF s) (LF s) x y = ((true, 0, 0), (true, 0, 0)) := fun x y h => by
    unfold ltP leP
    rw [Bool.or_eq_true] at h
    constructor
    · refine bp _ _ ?_
      rcases h with h | h
      · rw [mp _ _ (by rw [h]; rfl)]; rfl
      · rw [mp y _ (by rw [h]; rfl), Bool.or_true]
    · refine bp _ _ ?_
      rcases h with h | h
      · rw [mp _ _ (by rw [h]; rfl)]; rfl
      · rw [mp y _ (by rw [h]; rfl), Bool.or_true]
  have h' : (q.1 || p.1) = true := by rw [Bool.or_comm]; exact h
  rcases (show op = 12 ∨ op = 13 ∨ op = 14 ∨ op = 15 ∨ op = 16 ∨ op = 17 by omega) with rfl | rfl | rfl | rfl | rfl | rfl
  · exact (lp p q h).1
  · exact (lp p q h).2
  · show bothP (ltP (WyF s) (LF s) q p).2 (ltP (WyF s) (LF s) q p).1 = _
    rw [(lp q p h').1]; rfl
  · show bothP (leP (WyF s) (LF s) q p).2 (leP (WyF s) (LF s) q p).1 = _
    rw [(lp q p h').2]; rfl
  · show bothP (meetP (WyF s) p q) (meetP (WyF s) q p) = _
    exact bp _ _ (by rw [mp p q h]; rfl)
  · show bothP (withoutP (WyF s) (LF s) p q) (withoutP (WyF s) (LF s) q p) = _
    rw [Bool.or_eq_true] at h
    refine bp _ _ ?_
    rcases h with h | h
    · rw [wp p q h]; rfl
    · rw [wp q p h, Bool.or_true]
end Go.Proofs.YthjoigkckgdcaaaGreat


