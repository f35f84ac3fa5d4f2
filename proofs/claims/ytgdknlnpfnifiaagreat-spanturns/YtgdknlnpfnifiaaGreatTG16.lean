/- Texts of the proof, put together. -/
import Derived.Test.YtgdknlnpfnifiaaGreatTG6
import Derived.Test.YtgdknlnpfnifiaaGreatTMB3
import Derived.Test.YtgdknlnpfnifiaaGreatTG15
import Derived.Test.YtgdknlnpfnifiaaGreatTG9
import Derived.Test.YtgdknlnpfnifiaaGreatTMB1
import Derived.Test.YtgdknlnpfnifiaaGreatTG1
import Derived.Test.YtgdknlnpfnifiaaGreatTG4
import Derived.Deep.DeepCutAuto
import Derived.Test.YtgdknlnpfnifiaaGreatTG10
import Derived.Test.YtgdknlnpfnifiaaGreatTG11
namespace Go.Proofs.YtgdknlnpfnifiaaGreat
set_option linter.unusedVariables false
set_option linter.unusedSimpArgs false
def mk (s : Bool) (r : Int) : Int := if r < 0 then sgnd s true (-r) else r
theorem fI_two (s : Bool) : 2 < fI s := by cases s <;> decide
theorem mk_zero (s : Bool) : mk s 0 = 0 := rfl
theorem mk_made (s : Bool) (r : Int) : ∃ b : Bool, mk s r = sgnd s b (if r < 0 then -r else r) ∧ (b = true ↔ r < 0) := by
  unfold mk
  by_cases h : r < 0
  · exact ⟨true, by simp [h], by simp [h]⟩
  · exact ⟨false, by simp [h, sgnd], by simp [h]⟩
theorem mk_word {s : Bool} {r : Int} (h1 : -fI s ≤ r) (h2 : r ≤ fI s) : Word (mk s r) := by
  obtain ⟨b, e, _⟩ := mk_made s r
  rw [e]
  exact sgnd_word s b _ (by split <;> omega) (by split <;> omega)
theorem mk_rnk {s : Bool} {r : Int} (h1 : -fI s ≤ r) (h2 : r ≤ fI s) : rnk s (mk s r) = r := by
  obtain ⟨b, e, hb⟩ := mk_made s r
  rw [e, rnk_made s b _ (by split <;> omega) (by split <;> omega)]
  cases b
  · have : ¬ r < 0 := fun h => by simpa using hb.2 h
    simp [this]
  · have := hb.1 rfl
    simp [this]
theorem mk_inj {s : Bool} {r q : Int} (h1 : -fI s ≤ r) (h2 : r ≤ fI s) (h3 : -fI s ≤ q) (h4 : q ≤ fI s) (e : mk s r = mk s q) : r = q := by
  rw [← mk_rnk h1 h2, ← mk_rnk h3 h4, e]
theorem cmp_mk {s : Bool} {r q : Int} (h1 : -fI s ≤ r) (h2 : r ≤ fI s) (h3 : -fI s ≤ q) (h4 : q ≤ fI s) : cmpF s (mk s r) (mk s q) = (cmpI r q, true) := by
  obtain ⟨b, e, hb⟩ := mk_made s r
  obtain ⟨c, k, hc⟩ := mk_made s q
  rw [e, k, cmp_made s b c _ _ (by split <;> omega) (by split <;> omega) (by split <;> omega) (by split <;> omega)]
  have f1 : (if b then -(if r < 0 then -r else r) else (if r < 0 then -r else r)) = r := by
    cases b
    · have : ¬ r < 0 := fun h => by simpa using hb.2 h
      simp [this]
    · have := hb.1 rfl
      simp [this]
  have f2 : (if c then -(if q < 0 then -q else q) else (if q < 0 then -q else q)) = q := by
    cases c
    · have : ¬ q < 0 := fun h => by simpa using hc.2 h
      simp [this]
    · have := hc.1 rfl
      simp [this]
  rw [f1, f2]
  rfl
theorem fin_mk {s : Bool} {r : Int} (h1 : -fI s ≤ r) (h2 : r ≤ fI s) : finF s (mk s r) = decide (-fI s < r ∧ r < fI s) := by
  obtain ⟨b, e, hb⟩ := mk_made s r
  rw [e]
  obtain ⟨z, hz⟩ := Int.eq_ofNat_of_zero_le (show 0 ≤ (if r < 0 then -r else r) by split <;> omega)
  by_cases c : -fI s < r ∧ r < fI s
  · rw [decide_eq_true c, hz, n_fin s b z (by rw [← hz]; split <;> omega)]
  · rw [decide_eq_false c]
    have k : cls s (sgnd s b (if r < 0 then -r else r)) = 4 := by
      have l := fI_lt s
      rw [cls_made s b _ (by split <;> omega) (by split <;> omega), if_neg (by split <;> omega), if_pos (by split <;> omega)]
    unfold finF
    rw [k]
    rfl
theorem plain_mk {s : Bool} {r : Int} (h1 : -fI s ≤ r) (h2 : r ≤ fI s) : plainF s (mk s r) = mk s r := by
  obtain ⟨b, e, hb⟩ := mk_made s r
  have l := fI_lt s
  have k := cls_made s b (if r < 0 then -r else r) (by split <;> omega) (by split <;> omega)
  rw [e]
  unfold plainF
  rw [k]
  by_cases z : r = 0
  · subst z
    have : b = false := by
      cases b
      · rfl
      · exact absurd (hb.1 rfl) (by decide)
    subst this
    simp [sgnd]
    have := fI_two s
    split <;> (try split) <;> (try split) <;> simp_all <;> omega
  · have n0 : ¬ (if r < 0 then -r else r) = 0 := by split <;> omega
    have n1 : ¬ fI s < (if r < 0 then -r else r) := by split <;> omega
    rw [if_neg n1, if_neg n0]
    by_cases c : (if r < 0 then -r else r) = fI s
    · rw [if_pos c]; rfl
    · rw [if_neg c]
      by_cases d : (if r < 0 then -r else r) / 2 ^ fP s = 0
      · rw [if_pos d]; rfl
      · rw [if_neg d]; rfl
theorem num_mk (s : Bool) (a : Int) (h : Word a) (n : (cls s a == 0 || cls s a == 5) = false) : ∃ r, -fI s ≤ r ∧ r ≤ fI s ∧ plainF s a = mk s r := by
  rcases num_or s a h with c | ⟨b, z, rfl, z0, z1⟩
  · rw [n] at c; exact absurd c (by decide)
  · by_cases e : z = 0
    · subst e
      refine ⟨0, by have := fI_two s; omega, by have := fI_two s; omega, ?_⟩
      rw [show (0 : Int) = ((0 : Nat) : Int) from rfl, n_plain s b 0 (by have := fI_two s; omega)]
      rfl
    · refine ⟨if b then -z else z, by split <;> omega, by split <;> omega, ?_⟩
      have m : mk s (if b then -z else z) = sgnd s b z := by
        unfold mk
        cases b
        · have : ¬ z < 0 := by omega
          simp [this, sgnd]
        · have : -z < 0 := by omega
          rw [if_pos rfl, if_pos this, Int.neg_neg]
      rw [← m]
      exact plain_mk (by split <;> omega) (by split <;> omega)
theorem one_mk {s : Bool} {r : Int} (h1 : -fI s < r) (h2 : r < fI s) : (WyF s).one (mk s r) = true := by
  show (finF s (mk s r) && (plainF s (mk s r) == mk s r)) = true
  rw [fin_mk (by omega) (by omega), plain_mk (by omega) (by omega), decide_eq_true ⟨h1, h2⟩]
  simp
theorem one_is {s : Bool} {a : Int} (h : Word a) (o : (WyF s).one a = true) : ∃ r, -fI s < r ∧ r < fI s ∧ a = mk s r := by
  have o' : (finF s a && (plainF s a == a)) = true := o
  simp only [Bool.and_eq_true, beq_iff_eq] at o'
  obtain ⟨r, r1, r2, e⟩ := num_mk s a h (n_num o'.1).1
  rw [o'.2] at e
  subst e
  have f := o'.1
  rw [fin_mk r1 r2] at f
  have := of_decide_eq_true f
  exact ⟨r, this.1, this.2, rfl⟩
theorem ord_mk {s : Bool} {r q : Int} (h1 : -fI s ≤ r) (h2 : r ≤ fI s) (h3 : -fI s ≤ q) (h4 : q ≤ fI s) : (WyF s).ord (mk s r) (mk s q) = WyI.ord r q := by
  show (cmpF s (mk s r) (mk s q)).1 = cmpI r q
  rw [cmp_mk h1 h2 h3 h4]
theorem least_mk (s : Bool) : negF s (fI s - 1) = mk s (-(fI s - 1)) := by cases s <;> decide +kernel
theorem most_mk (s : Bool) : fI s - 1 = mk s (fI s - 1) := by cases s <;> decide +kernel
theorem next_mk {s : Bool} {r : Int} (h1 : -fI s < r) (h2 : r < fI s - 1) : nextF s (mk s r) = mk s (r + 1) := by
  have p := plain_mk (s := s) (r := r) (by omega) (by omega)
  have ne : plainF s (mk s r) ≠ fI s - 1 := by
    rw [p]
    intro e
    rw [most_mk] at e
    have := mk_inj (by omega) (by omega) (by omega) (by omega) e
    omega
  have f : finF s (mk s r) = true := by rw [fin_mk (by omega) (by omega)]; exact decide_eq_true ⟨h1, by omega⟩
  have st := n_step s (mk s r) (mk_word (by omega) (by omega)) f ne
  rw [p] at st
  have one := st.one
  rw [mk_rnk (by omega) (by omega)] at one
  obtain ⟨b, z, e, hz⟩ := n_made s _ st.wn st.fn
  rw [e] at one ⊢
  rw [n_rnk s b z hz] at one
  unfold mk
  cases b
  · have one' : (z : Int) = r + 1 := by simpa using one
    rw [if_neg (by omega)]
    show (z : Int) = r + 1
    omega
  · have one' : -(z : Int) = r + 1 := by simpa using one
    by_cases z0 : z = 0
    · -- -0 is not what is next
      subst z0
      exfalso
      have r1 : r = -1 := by omega
      subst r1
      have e1 := n_neg s 1 (by decide) (by have := fI_two s; omega)
      have m1 : mk s (-1) = sgnd s true ((1 : Nat) : Int) := by unfold mk; simp
      rw [m1, e1] at e
      revert e
      cases s <;> decide
    · rw [if_pos (by omega)]
      congr 1
      omega
theorem prev_mk {s : Bool} {r : Int} (h1 : -(fI s - 1) < r) (h2 : r < fI s) : prevF s (mk s r) = mk s (r - 1) := by
  have st := next_mk (s := s) (r := r - 1) (by omega) (by omega)
  have p := plain_mk (s := s) (r := r - 1) (by omega) (by omega)
  have ne : plainF s (mk s (r - 1)) ≠ fI s - 1 := by
    rw [p]
    intro e
    rw [most_mk] at e
    have := mk_inj (by omega) (by omega) (by omega) (by omega) e
    omega
  have f : finF s (mk s (r - 1)) = true := by rw [fin_mk (by omega) (by omega)]; exact decide_eq_true ⟨by omega, by omega⟩
  have k := n_step s (mk s (r - 1)) (mk_word (by omega) (by omega)) f ne
  rw [p, st, show r - 1 + 1 = r by omega] at k
  exact k.back
end Go.Proofs.YtgdknlnpfnifiaaGreat


namespace Go.Proofs.YtgdknlnpfnifiaaGreat
set_option linter.unusedVariables false
set_option linter.unusedSimpArgs false
theorem made_num (s b : Bool) (z : Int) (h0 : 0 ≤ z) (h : z ≤ fI s) : (cls s (sgnd s b z) == 0 || cls s (sgnd s b z) == 5) = false := by
  have l := fI_lt s
  rw [cls_made s b z h0 (by omega), if_neg (by omega)]
  split
  · rfl
  · split
    · rfl
    · split <;> rfl
structure Res (s : Bool) (v r : Int) : Prop where
  lo : -fI s ≤ r
  hi : r ≤ fI s
  pl : plainF s v = mk s r
  num : (cls s v == 0 || cls s v == 5) = false
  inf : (cls s v == 4) = decide (r = fI s ∨ r = -fI s)
theorem made_res (s b : Bool) (z : Int) (h0 : 0 ≤ z) (h : z ≤ fI s) : Res s (sgnd s b z) (if b then -z else z) := by
  have l := fI_lt s
  have t := fI_two s
  have e : plainF s (sgnd s b z) = mk s (if b then -z else z) := by
    by_cases c : z = 0
    · subst c
      rw [show (0 : Int) = ((0 : Nat) : Int) from rfl, n_plain s b 0 (by omega)]
      cases b <;> rfl
    · have m : mk s (if b then -z else z) = sgnd s b z := by
        unfold mk
        cases b
        · have : ¬ z < 0 := by omega
          simp [this, sgnd]
        · have : -z < 0 := by omega
          rw [if_pos rfl, if_pos this, Int.neg_neg]
      rw [← m]
      exact plain_mk (by split <;> omega) (by split <;> omega)
  refine ⟨by split <;> omega, by split <;> omega, e, made_num s b z h0 h, ?_⟩
  rw [cls_made s b z h0 (by omega), if_neg (by omega)]
  by_cases c : z = fI s
  · rw [if_pos c, decide_eq_true (by cases b <;> simp <;> omega)]; rfl
  · rw [if_neg c, decide_eq_false (by cases b <;> simp <;> omega)]
    split
    · rfl
    · split <;> rfl
def LF (s : Bool) : Ln := LnF s 0 0
theorem LF_least (s : Bool) : (LF s).least = mk s (-(fI s - 1)) := least_mk s
theorem LF_most (s : Bool) : (LF s).most = mk s (fI s - 1) := most_mk s
theorem grtF {s : Bool} {a b : Int} (h1 : -fI s ≤ a) (h2 : a ≤ fI s) (h3 : -fI s ≤ b) (h4 : b ≤ fI s) : grt (WyF s) (mk s a) (mk s b) = mk s (max a b) := by
  unfold grt
  rw [ord_mk h3 h4 h1 h2]
  by_cases c : 0 < WyI.ord b a
  · rw [if_pos c]; have := (ordI_pos b a).1 c; rw [show max a b = b by omega]
  · rw [if_neg c]; have := mt (ordI_pos b a).2 c; rw [show max a b = a by omega]
theorem smlF {s : Bool} {a b : Int} (h1 : -fI s ≤ a) (h2 : a ≤ fI s) (h3 : -fI s ≤ b) (h4 : b ≤ fI s) : sml (WyF s) (mk s a) (mk s b) = mk s (min a b) := by
  unfold sml
  rw [ord_mk h3 h4 h1 h2]
  by_cases c : WyI.ord b a < 0
  · rw [if_pos c]; have := (ordI_neg b a).1 c; rw [show min a b = b by omega]
  · rw [if_neg c]; have := mt (ordI_neg b a).2 c; rw [show min a b = a by omega]
theorem meetF {s : Bool} {a b c d : Int} (a1 : -fI s ≤ a) (a2 : a ≤ fI s) (b1 : -fI s ≤ b) (b2 : b ≤ fI s) (c1 : -fI s ≤ c) (c2 : c ≤ fI s) (d1 : -fI s ≤ d) (d2 : d ≤ fI s) :
    meetP (WyF s) (false, mk s a, mk s b) (false, mk s c, mk s d) = if min b d < max a c then (true, 0, 0) else (false, mk s (max a c), mk s (min b d)) := by
  unfold meetP
  simp only [Bool.false_or]
  rw [grtF a1 a2 c1 c2, smlF b1 b2 d1 d2, ord_mk (by omega) (by omega) (by omega) (by omega)]
  by_cases h : min b d < max a c
  · rw [if_pos h, if_pos (by simpa using (ordI_pos _ _).2 h)]
  · rw [if_neg h, if_neg (by simpa using mt (ordI_pos _ _).1 h)]
theorem pastF {s : Bool} {v r : Int} (h : Res s v r) : pastP (WyF s) (LF s) v = decide (r = fI s ∨ r = -fI s) := by
  have t := fI_two s
  obtain ⟨h1, h2, p, _, _⟩ := h
  unfold pastP
  rw [show (WyF s).pl v = mk s r from p, LF_least, LF_most, ord_mk h1 h2 (by omega) (by omega), ord_mk h1 h2 (by omega) (by omega)]
  rw [Bool.eq_iff_iff]
  simp only [Bool.or_eq_true, decide_eq_true_eq, ordI_neg, ordI_pos]
  omega
end Go.Proofs.YtgdknlnpfnifiaaGreat
namespace Go.Proofs.YtgdknlnpfnifiaaGreat
open Go.RowKit
set_option linter.unusedVariables false
set_option linter.unusedSimpArgs false
theorem word_0 : Word 0 := ⟨by decide, by decide⟩
theorem word_least (s : Bool) : Word (LF s).least := by rw [LF_least]; have := fI_two s; exact mk_word (by omega) (by omega)
theorem word_most (s : Bool) : Word (LF s).most := by rw [LF_most]; have := fI_two s; exact mk_word (by omega) (by omega)
end Go.Proofs.YtgdknlnpfnifiaaGreat


namespace Go.Proofs.YtgdknlnpfnifiaaGreat
set_option linter.unusedVariables false
set_option linter.unusedSimpArgs false
def nearUp (n : Nat) (k : Int) : Bool := half n k && (low n k || quo n k % 2 == 1)
theorem nearUp_mono {n n' : Nat} {k : Int} (h : n ≤ n') (hq : quo n k = quo n' k) (hu : nearUp n k = true) : nearUp n' k = true := by
  unfold nearUp at *
  rw [Bool.and_eq_true] at hu ⊢
  obtain ⟨h1, h2⟩ := hu
  unfold half at h1
  rw [Bool.and_eq_true, decide_eq_true_iff, beq_iff_eq] at h1
  obtain ⟨k1, h1⟩ := h1
  obtain ⟨j, hj⟩ : ∃ j, k.toNat = j + 1 := ⟨k.toNat - 1, by omega⟩
  have ej : k.toNat - 1 = j := by omega
  unfold quo at hq
  rw [if_neg (by omega), if_neg (by omega), hj] at hq
  rw [ej] at h1
  have p : 0 < 2 ^ j := Nat.two_pow_pos j
  have d1 : n / 2 ^ (j + 1) = n / 2 ^ j / 2 := by rw [Nat.pow_succ, Nat.div_div_eq_div_mul]
  have d2 : n' / 2 ^ (j + 1) = n' / 2 ^ j / 2 := by rw [Nat.pow_succ, Nat.div_div_eq_div_mul]
  rw [d1, d2] at hq
  have le : n / 2 ^ j ≤ n' / 2 ^ j := Nat.div_le_div_right h
  have he : n' / 2 ^ j = n / 2 ^ j := by omega
  have m1 := Nat.div_add_mod n (2 ^ j)
  have m2 := Nat.div_add_mod n' (2 ^ j)
  rw [he] at m2
  have hr : n % 2 ^ j ≤ n' % 2 ^ j := by
    generalize 2 ^ j * (n / 2 ^ j) = A at *
    omega
  refine ⟨?_, ?_⟩
  · unfold half
    rw [Bool.and_eq_true, decide_eq_true_iff, beq_iff_eq, ej, he]
    exact ⟨k1, h1⟩
  · rw [Bool.or_eq_true] at h2 ⊢
    rcases h2 with h2 | h2
    · left
      unfold low at *
      rw [ej] at *
      rw [Bool.and_eq_true] at h2 ⊢
      refine ⟨h2.1, ?_⟩
      have q := h2.2
      simp at q ⊢
      omega
    · right
      have : quo n' k = quo n k := by
        unfold quo
        rw [if_neg (by omega), if_neg (by omega), hj, d1, d2, hq]
      rw [this]
      exact h2
theorem near_size (s : Bool) {n : Nat} (h : n ≠ 0) (e E : Int) (h1 : E ≤ e) (h2 : E ≤ fL s) :
    ∃ x q : Nat, lastOf s n e - fL s = x ∧ quo n (lastOf s n e - e) = q ∧ q < 2 ^ (fP s + 1) ∧ (x = 0 ∨ 2 ^ fP s ≤ q) ∧ val s (x * 2 ^ fP s + q) * 2 ^ (fL s - E).toNat ≤ n * 2 ^ (e - E).toNat ∧ n * 2 ^ (e - E).toNat < val s (x * 2 ^ fP s + q + 1) * 2 ^ (fL s - E).toNat ∧
      mag s 0 false n e = (if fI s ≤ ((x * 2 ^ fP s + q + (nearUp n (lastOf s n e - e)).toNat : Nat) : Int) then fI s else ((x * 2 ^ fP s + q + (nearUp n (lastOf s n e - e)).toNat : Nat) : Int)) := by
  obtain ⟨x, ex, q1, q2, q3, q4, q5⟩ := kept s h e E h1 h2
  refine ⟨x, _, ex, rfl, q1, q2, ?_, ?_, ?_⟩
  · rw [val_at s x _ (by omega) q2, Nat.mul_assoc, ← Nat.pow_add]; exact q3
  · rw [Nat.add_assoc, val_at s x _ (by omega) (by omega), Nat.mul_assoc, ← Nat.pow_add]; exact q4
  · unfold mag fin great nearUp
    rw [ex]
    have an : ∀ o h l, away 0 false o h l = (h && (l || o)) := fun o h l => rfl
    simp only [an]
    generalize quo n (lastOf s n e - e) = q
    generalize half n (lastOf s n e - e) = g
    generalize low n (lastOf s n e - e) = l
    have e0 : (if (true && (true || true)) = true then fI s else fI s - 1) = fI s := rfl
    rw [e0]
    have e1 : (x : Int) * 2 ^ fP s + ((q + if (g && (l || q % 2 == 1)) = true then 1 else 0 : Nat) : Int) = ((x * 2 ^ fP s + q + (g && (l || q % 2 == 1)).toNat : Nat) : Int) := by
      generalize (g && (l || q % 2 == 1)) = b
      cases b <;> simp <;> omega
    rw [e1]
theorem mag_mono (s : Bool) {n n' : Nat} (h : n ≠ 0) (le : n ≤ n') (e : Int) : mag s 0 false n e ≤ mag s 0 false n' e := by
  have h' : n' ≠ 0 := by omega
  obtain ⟨x, q, ex, eq, q1, q2, q3, q4, M⟩ := near_size s h e (min e (fL s)) (by omega) (by omega)
  obtain ⟨x', q', ex', eq', q1', q2', q3', q4', M'⟩ := near_size s h' e (min e (fL s)) (by omega) (by omega)
  rw [M, M']
  have p : 0 < 2 ^ (fL s - min e (fL s)).toNat := Nat.two_pow_pos _
  have zz : x * 2 ^ fP s + q < x' * 2 ^ fP s + q' + 1 := by
    apply lt_of_val s
    have t : val s (x * 2 ^ fP s + q) * 2 ^ (fL s - min e (fL s)).toNat < val s (x' * 2 ^ fP s + q' + 1) * 2 ^ (fL s - min e (fL s)).toNat :=
      Nat.lt_of_le_of_lt q3 (Nat.lt_of_le_of_lt (Nat.mul_le_mul_right _ le) q4')
    exact Nat.lt_of_mul_lt_mul_right t
  have key : x * 2 ^ fP s + q + (nearUp n (lastOf s n e - e)).toNat ≤ x' * 2 ^ fP s + q' + (nearUp n' (lastOf s n' e - e)).toNat := by
    by_cases c : x * 2 ^ fP s + q = x' * 2 ^ fP s + q'
    · have pw : 2 ^ (fP s + 1) = 2 ^ fP s * 2 := Nat.pow_succ _ _
      have uq : x = x' ∧ q = q' := by
        have p2 : 0 < 2 ^ fP s := Nat.two_pow_pos _
        rw [pw] at q1 q1'
        generalize 2 ^ fP s = B at *
        have : x = x' := by
          rcases Nat.lt_trichotomy x x' with l | l | l
          · exfalso
            obtain ⟨t, rfl⟩ : ∃ t, x' = x + 1 + t := ⟨x' - x - 1, by omega⟩
            rw [Nat.add_mul, Nat.add_mul] at c
            have : B ≤ q' := by rcases q2' with z | z <;> omega
            have t0 : 0 ≤ t * B := Nat.zero_le _
            omega
          · exact l
          · exfalso
            obtain ⟨t, rfl⟩ : ∃ t, x = x' + 1 + t := ⟨x - x' - 1, by omega⟩
            rw [Nat.add_mul, Nat.add_mul] at c
            have : B ≤ q := by rcases q2 with z | z <;> omega
            have t0 : 0 ≤ t * B := Nat.zero_le _
            omega
        subst this
        exact ⟨rfl, by omega⟩
      have el : lastOf s n' e = lastOf s n e := by omega
      rw [el] at eq' ⊢
      have qe : quo n (lastOf s n e - e) = quo n' (lastOf s n e - e) := by rw [eq, eq', uq.2]
      rw [c]
      cases b : nearUp n (lastOf s n e - e)
      · simp
      · rw [nearUp_mono le qe b]
        exact Nat.le_refl _
    · have := Bool.toNat_le (nearUp n (lastOf s n e - e))
      omega
  generalize x * 2 ^ fP s + q + (nearUp n (lastOf s n e - e)).toNat = A at *
  generalize x' * 2 ^ fP s + q' + (nearUp n' (lastOf s n' e - e)).toNat = B at *
  split <;> split <;> omega
end Go.Proofs.YtgdknlnpfnifiaaGreat

namespace Go.Proofs.YtgdknlnpfnifiaaGreat
set_option linter.unusedVariables false
set_option linter.unusedSimpArgs false
def mg (s : Bool) (n : Nat) (e : Int) : Int := if n = 0 then 0 else mag s 0 false n e
theorem mg_bd (s : Bool) (n : Nat) (e : Int) : 0 ≤ mg s n e ∧ mg s n e ≤ fI s := by
  unfold mg
  split
  · exact ⟨Int.le_refl _, fI_pos s⟩
  · rename_i h
    obtain ⟨z, e1, e2⟩ := mag_any s 0 false h e
    rw [e1]
    exact ⟨by omega, e2⟩
theorem mg_mono (s : Bool) {n m : Nat} (h : n ≤ m) (e : Int) : mg s n e ≤ mg s m e := by
  by_cases c : n = 0
  · have := mg_bd s m e
    unfold mg at this ⊢
    rw [if_pos c]
    exact this.1
  · unfold mg
    rw [if_neg c, if_neg (by omega)]
    exact mag_mono s c h e
theorem mg_scale (s : Bool) (n j : Nat) (e : Int) : mg s (n * 2 ^ j) (e - j) = mg s n e := by
  have p := Nat.two_pow_pos j
  unfold mg
  by_cases c : n = 0
  · rw [if_pos c, if_pos (by rw [c, Nat.zero_mul])]
  · rw [if_neg c, if_neg (by intro h; rcases Nat.mul_eq_zero.1 h with h | h <;> omega)]
    exact mag_scale s 0 false c j e
theorem mag_near (s b : Bool) (n : Nat) (e : Int) : mag s 0 b n e = mag s 0 false n e := by
  unfold mag fin great
  have an : ∀ b o h l, away 0 b o h l = (h && (l || o)) := fun b o h l => rfl
  simp only [an]
def rk (s : Bool) (n : Int) (e : Int) : Int := if n < 0 then -(mg s n.natAbs e) else mg s n.natAbs e
theorem rk_mono (s : Bool) {n m : Int} (h : n ≤ m) (e : Int) : rk s n e ≤ rk s m e := by
  have b1 := mg_bd s n.natAbs e
  have b2 := mg_bd s m.natAbs e
  unfold rk
  split
  · split
    · have := mg_mono s (show m.natAbs ≤ n.natAbs by omega) e
      omega
    · omega
  · split
    · omega
    · exact mg_mono s (by omega) e
theorem rk_scale (s : Bool) (n : Int) (j : Nat) (e : Int) : rk s (n * 2 ^ j) (e - j) = rk s n e := by
  have p := Nat.two_pow_pos j
  have q : (0 : Int) < 2 ^ j := by exact_mod_cast p
  have a : (n * 2 ^ j).natAbs = n.natAbs * 2 ^ j := by
    rw [Int.natAbs_mul, Int.natAbs_pow]; rfl
  unfold rk
  rw [a, mg_scale]
  by_cases c : n < 0
  · rw [if_pos c, if_pos (Int.mul_neg_of_neg_of_pos c q)]
  · rw [if_neg c, if_neg (by have := Int.mul_nonneg (show 0 ≤ n by omega) (Int.le_of_lt q); omega)]
theorem rnd_rk (s b : Bool) (n : Nat) (e : Int) : Res s (rnd s 0 b n e) (rk s (if b then -(n : Int) else n) e) := by
  have bd := mg_bd s n e
  have r := made_res s b (mg s n e) bd.1 bd.2
  have e1 : rnd s 0 b n e = sgnd s b (mg s n e) := by
    unfold rnd mg
    split
    · rfl
    · rw [mag_near]
  have e2 : rk s (if b then -(n : Int) else n) e = if b then -(mg s n e) else mg s n e := by
    unfold rk
    cases b
    · simp only [Bool.false_eq_true, if_false, Int.natAbs_natCast]
      rw [if_neg (by omega)]
    · simp only [if_true, Int.natAbs_neg, Int.natAbs_natCast]
      by_cases c : n = 0
      · subst c; simp [mg]
      · rw [if_pos (by omega)]
  rw [e1, e2]
  exact r
def sg (b : Bool) (n : Nat) : Int := if b then -(n : Int) else n
theorem parts_val (s b : Bool) (z : Nat) (h : (z : Int) < fI s) : ∃ x : Nat, pwr s (sgnd s b z) = fL s + x ∧ val s z = (whl s (sgnd s b z)).toNat * 2 ^ x ∧ x ≤ z := by
  obtain ⟨x, q, e, q1, q2, w, p⟩ := size_parts s b z h
  refine ⟨x, p, ?_, ?_⟩
  · rw [w, e]; exact val_at s x q (by omega) q2
  · rw [e]
    have := Nat.le_mul_of_pos_right x (Nat.two_pow_pos (fP s))
    omega
theorem made_fin (s b : Bool) (z : Nat) (h : (z : Int) < fI s) : (cls s (sgnd s b z) == 0 || cls s (sgnd s b z) == 5) = false ∧ (cls s (sgnd s b z) == 4) = false := n_num (n_fin s b z h)
def stk (A D : Nat) : Nat := 2 * (A / D) + (decide (A % D ≠ 0)).toNat
def mq (s : Bool) (K A D : Nat) : Int := mg s (stk (A * 2 ^ K) D) (-(K : Int) - 1)
def rq (s : Bool) (K : Nat) (n : Int) (D : Nat) : Int := if n < 0 then -(mq s K n.natAbs D) else mq s K n.natAbs D
end Go.Proofs.YtgdknlnpfnifiaaGreat


namespace Go.Proofs.YtgdknlnpfnifiaaGreat
set_option linter.unusedVariables false
set_option linter.unusedSimpArgs false
def vl (s : Bool) (r : Int) : Int := if r < 0 then -(val s r.natAbs : Int) else (val s r.natAbs : Int)
theorem vl_mono (s : Bool) {r q : Int} (h : r ≤ q) : vl s r ≤ vl s q := by
  unfold vl
  split
  · split
    · have := val_le s (show q.natAbs ≤ r.natAbs by omega)
      omega
    · omega
  · rw [if_neg (by omega)]
    have := val_le s (show r.natAbs ≤ q.natAbs by omega)
    omega
theorem mk_at (s : Bool) (r : Int) : ∃ b : Bool, mk s r = sgnd s b (r.natAbs : Nat) ∧ sg b (val s r.natAbs) = vl s r ∧ b = decide (r < 0) := by
  unfold mk vl sg
  by_cases h : r < 0
  · exact ⟨true, by rw [if_pos h]; congr 1; omega, by simp [h], by simp [h]⟩
  · refine ⟨false, ?_, by simp [h], by simp [h]⟩
    rw [if_neg h]
    show r = (r.natAbs : Int)
    omega
def kN (s : Bool) : Nat := 130 + (fI s).toNat
def R (s : Bool) (op x y : Int) : Int := if op = 8 then rk s (vl s x + vl s y) (fL s) else if op = 9 then rk s (vl s x - vl s y) (fL s) else if op = 10 then rk s (vl s x * vl s y) (fL s + fL s) else rq s (kN s) (if y < 0 then -(vl s x) else vl s x) (val s y.natAbs)
theorem hull_from (s : Bool) (f g : Int × Int → Int) : ∀ (ps : List (Int × Int)), (∀ p ∈ ps, Res s (f p) (g p)) → ∀ (lo hi : Int), -fI s ≤ lo → lo ≤ fI s → -fI s ≤ hi → hi ≤ fI s →
    ∃ l h, (ps.map f).foldl (fun acc x => joinP (WyF s) acc (false, (WyF s).pl x, (WyF s).pl x)) (false, mk s lo, mk s hi) = (false, mk s l, mk s h) ∧ (l = lo ∨ ∃ p ∈ ps, l = g p) ∧ (h = hi ∨ ∃ p ∈ ps, h = g p) ∧ l ≤ lo ∧ hi ≤ h ∧ (∀ p ∈ ps, l ≤ g p ∧ g p ≤ h) := by
  intro ps
  induction ps with
  | nil => intro _ lo hi _ _ _ _; exact ⟨lo, hi, rfl, Or.inl rfl, Or.inl rfl, Int.le_refl _, Int.le_refl _, by simp⟩
  | cons p ps ih =>
    intro hR lo hi a1 a2 b1 b2
    have r := hR p (by simp)
    have e : joinP (WyF s) (false, mk s lo, mk s hi) (false, (WyF s).pl (f p), (WyF s).pl (f p)) = (false, mk s (min lo (g p)), mk s (max hi (g p))) := by
      rw [show (WyF s).pl (f p) = mk s (g p) from r.pl]
      unfold joinP
      simp only [Bool.false_eq_true, if_false]
      rw [smlF a1 a2 r.lo r.hi, grtF b1 b2 r.lo r.hi]
    have rl := r.lo
    have rh := r.hi
    obtain ⟨l, h, e1, l1, l2, l3, l4, l5⟩ := ih (fun q hq => hR q (by simp [hq])) (min lo (g p)) (max hi (g p)) (by omega) (by omega) (by omega) (by omega)
    refine ⟨l, h, ?_, ?_, ?_, by omega, by omega, ?_⟩
    · rw [List.map_cons, List.foldl_cons, e, e1]
    · rcases l1 with l1 | ⟨q, hq, l1⟩
      · by_cases c : lo ≤ g p
        · left; omega
        · right; exact ⟨p, by simp, by omega⟩
      · right; exact ⟨q, by simp [hq], l1⟩
    · rcases l2 with l2 | ⟨q, hq, l2⟩
      · by_cases c : g p ≤ hi
        · left; omega
        · right; exact ⟨p, by simp, by omega⟩
      · right; exact ⟨q, by simp [hq], l2⟩
    · intro q hq
      rcases List.mem_cons.1 hq with rfl | hq
      · omega
      · exact l5 q hq
theorem hullR (s : Bool) (f g : Int × Int → Int) (ps : List (Int × Int)) (ne : ps ≠ []) (hR : ∀ p ∈ ps, Res s (f p) (g p)) :
    ∃ l h, hullP (WyF s) (ps.map f) = (false, mk s l, mk s h) ∧ (∃ p ∈ ps, l = g p) ∧ (∃ p ∈ ps, h = g p) ∧ (∀ p ∈ ps, l ≤ g p ∧ g p ≤ h) := by
  cases ps with
  | nil => exact absurd rfl ne
  | cons p ps =>
    have r := hR p (by simp)
    obtain ⟨l, h, e1, l1, l2, l3, l4, l5⟩ := hull_from s f g ps (fun q hq => hR q (by simp [hq])) (g p) (g p) r.lo r.hi r.lo r.hi
    refine ⟨l, h, ?_, ?_, ?_, ?_⟩
    · unfold hullP
      rw [List.map_cons, List.foldl_cons]
      rw [show joinP (WyF s) (true, 0, 0) (false, (WyF s).pl (f p), (WyF s).pl (f p)) = (false, mk s (g p), mk s (g p)) by rw [show (WyF s).pl (f p) = mk s (g p) from r.pl]; rfl]
      exact e1
    · rcases l1 with l1 | ⟨q, hq, l1⟩
      · exact ⟨p, by simp, l1⟩
      · exact ⟨q, by simp [hq], l1⟩
    · rcases l2 with l2 | ⟨q, hq, l2⟩
      · exact ⟨p, by simp, l2⟩
      · exact ⟨q, by simp [hq], l2⟩
    · intro q hq
      rcases List.mem_cons.1 hq with rfl | hq
      · exact ⟨l3, l4⟩
      · exact l5 q hq
end Go.Proofs.YtgdknlnpfnifiaaGreat


namespace Go.Proofs.YtgdknlnpfnifiaaGreat
end Go.Proofs.YtgdknlnpfnifiaaGreat

namespace Go.Proofs.YtgdknlnpfnifiaaGreat
set_option linter.unusedVariables false
set_option linter.unusedSimpArgs false
def Num (s : Bool) (a : Int) : Prop := (cls s a == 0 || cls s a == 5) = false
theorem ordN {s : Bool} {a b : Int} (h1 : Num s a) (h2 : Num s b) : (WyF s).ord a b = cmpI (rnk s a) (rnk s b) := by
  show (cmpF s a b).1 = _
  unfold cmpF
  rw [h1, h2]
  rfl
theorem lessN {s : Bool} {a b : Int} (h1 : Num s a) (h2 : Num s b) : lessF s a b = decide (rnk s a < rnk s b) := by
  unfold lessF cmpF
  rw [h1, h2]
  simp only [Bool.or_self, Bool.false_eq_true, if_false, Bool.true_and]
  rw [decide_eq_decide]
  split
  · simp [*]
  · split <;> omega
theorem num_fin {s : Bool} {a : Int} (h : finF s a = true) : Num s a := (n_num h).1
theorem one_iff (s : Bool) (a : Int) : (WyF s).one a = (finF s a && (plainF s a == a)) := rfl
theorem right_same (s : Bool) (e : Bool) (a b : Int) : rightP (WyF s) (e, a, b) = rRF s e a b := by
  unfold rightP rRF
  cases e
  · simp only [Bool.false_eq_true, if_false]
    rw [one_iff, one_iff]
    cases fa : finF s a
    · simp
    · cases fb : finF s b
      · simp
      · rw [ordN (num_fin fa) (num_fin fb), lessN (num_fin fb) (num_fin fa)]
        have k : decide (cmpI (rnk s a) (rnk s b) ≤ 0) = !decide (rnk s b < rnk s a) := by
          unfold cmpI
          rw [Bool.eq_iff_iff]
          simp
          split <;> (try split) <;> omega
        rw [k]
        cases (plainF s a == a) <;> cases (plainF s b == b) <;> simp
  · rfl
theorem of_same (s : Bool) (x y : Int) : ofP (WyF s) x y = rOfF s x y := by
  unfold ofP rOfF
  rw [right_same]
  rfl
theorem pos_cmp (p q : Int) : (0 < cmpI p q) ↔ q < p := by unfold cmpI; split <;> (try split) <;> omega
theorem neg_cmp (p q : Int) : (cmpI p q < 0) ↔ p < q := by unfold cmpI; split <;> (try split) <;> omega
theorem ge_cmp (p q : Int) : (0 ≤ cmpI p q) ↔ q ≤ p := by unfold cmpI; split <;> (try split) <;> omega
end Go.Proofs.YtgdknlnpfnifiaaGreat


namespace Go.Proofs.YtgdknlnpfnifiaaGreat
set_option linter.unusedVariables false
set_option linter.unusedSimpArgs false
theorem right_mk {s : Bool} {a b : Int} (ha : Word a) (hb : Word b) (h : rRF s false a b = true) : ∃ r q, -fI s < r ∧ r ≤ q ∧ q < fI s ∧ a = mk s r ∧ b = mk s q := by
  rw [← right_same] at h
  unfold rightP at h
  simp only [Bool.false_eq_true, if_false, Bool.and_eq_true] at h
  obtain ⟨r, r1, r2, er⟩ := one_is ha h.1
  obtain ⟨q, q1, q2, eq⟩ := one_is hb h.2.1
  have := of_decide_eq_true h.2.2
  rw [er, eq, ord_mk (by omega) (by omega) (by omega) (by omega), ordI_le] at this
  exact ⟨r, q, r1, this, q2, er, eq⟩
end Go.Proofs.YtgdknlnpfnifiaaGreat


namespace Go.Proofs.YtgdknlnpfnifiaaGreat
set_option linter.unusedVariables false
def withoutP (A : Ways) (L : Ln) (p q : Bool × Int × Int) : Bool × Int × Int := if ¬ A.ord q.2.1 q.2.2 = 0 then p else if A.ord q.2.1 p.2.1 = 0 then meetP A p (aboveP A L q.2.1) else if A.ord q.2.1 p.2.2 = 0 then meetP A p (belowP A L q.2.1) else p
def bothP (r s : Bool × Int × Int) : (Bool × Int × Int) × (Bool × Int × Int) := if r.1 || s.1 then ((true, 0, 0), (true, 0, 0)) else (r, s)
def ltP (A : Ways) (L : Ln) (p q : Bool × Int × Int) : (Bool × Int × Int) × (Bool × Int × Int) := bothP (meetP A p (belowP A L q.2.2)) (meetP A q (aboveP A L p.2.1))
def leP (A : Ways) (L : Ln) (p q : Bool × Int × Int) : (Bool × Int × Int) × (Bool × Int × Int) := bothP (meetP A p (false, L.least, q.2.2)) (meetP A q (false, p.2.1, L.most))
def refineP (A : Ways) (L : Ln) (op : Int) (p q : Bool × Int × Int) : (Bool × Int × Int) × (Bool × Int × Int) :=
  if op = 12 then ltP A L p q else if op = 13 then leP A L p q else if op = 14 then bothP (ltP A L q p).2 (ltP A L q p).1 else if op = 15 then bothP (leP A L q p).2 (leP A L q p).1
  else if op = 16 then bothP (meetP A p q) (meetP A q p) else if op = 17 then bothP (withoutP A L p q) (withoutP A L q p) else (p, q)
end Go.Proofs.YtgdknlnpfnifiaaGreat

namespace Go.Proofs.YtgdknlnpfnifiaaGreat
set_option linter.unusedVariables false
set_option linter.unusedSimpArgs false
theorem below_mk {s : Bool} {d : Int} (h1 : -(fI s - 1) < d) (h2 : d < fI s) : belowP (WyF s) (LF s) (mk s d) = (false, mk s (-(fI s - 1)), mk s (d - 1)) := by
  have t := fI_two s
  unfold belowP
  rw [LF_least, ord_mk (by omega) (by omega) (by omega) (by omega), if_neg (by rw [ordI_le]; omega), show (WyF s).prv (mk s d) = prevF s (mk s d) from rfl, prev_mk h1 h2]
theorem above_mk {s : Bool} {d : Int} (h1 : -fI s < d) (h2 : d < fI s - 1) : aboveP (WyF s) (LF s) (mk s d) = (false, mk s (d + 1), mk s (fI s - 1)) := by
  have t := fI_two s
  unfold aboveP
  rw [LF_most, ord_mk (by omega) (by omega) (by omega) (by omega), if_neg (by unfold WyI; simp only; rw [ge_cmp]; omega), show (WyF s).nxt (mk s d) = nextF s (mk s d) from rfl, next_mk h1 h2]
def Kept (s : Bool) (P : Bool × Int × Int) (a b n : Int) : Prop := ∃ l h, P = (false, mk s l, mk s h) ∧ a ≤ l ∧ l ≤ n ∧ n ≤ h ∧ h ≤ b
theorem both_ok {s : Bool} {P Q : Bool × Int × Int} {a b n c d m : Int} (h1 : Kept s P a b n) (h2 : Kept s Q c d m) : bothP P Q = (P, Q) := by
  obtain ⟨l, h, rfl, _⟩ := h1
  obtain ⟨l', h', rfl, _⟩ := h2
  rfl
theorem meet_kept {s : Bool} {a b n l h : Int} (a1 : -fI s < a) (b2 : b < fI s) (an : a ≤ n) (nb : n ≤ b) (l1 : -fI s < l) (h2 : h < fI s) (ln : l ≤ n) (nh : n ≤ h) : Kept s (meetP (WyF s) (false, mk s a, mk s b) (false, mk s l, mk s h)) a b n := by
  refine ⟨max a l, min b h, ?_, by omega, by omega, by omega, by omega⟩
  rw [meetF (by omega) (by omega) (by omega) (by omega) (by omega) (by omega) (by omega) (by omega), if_neg (by omega)]
theorem lt_kept {s : Bool} {a b c d n m : Int} (a1 : -fI s < a) (b2 : b < fI s) (an : a ≤ n) (nb : n ≤ b) (c1 : -fI s < c) (d2 : d < fI s) (cm : c ≤ m) (md : m ≤ d) (h : n < m) : Kept s (ltP (WyF s) (LF s) (false, mk s a, mk s b) (false, mk s c, mk s d)).1 a b n ∧ Kept s (ltP (WyF s) (LF s) (false, mk s a, mk s b) (false, mk s c, mk s d)).2 c d m := by
  have t := fI_two s
  have k1 : Kept s (meetP (WyF s) (false, mk s a, mk s b) (belowP (WyF s) (LF s) (mk s d))) a b n := by
    rw [below_mk (by omega) d2]
    exact meet_kept a1 b2 an nb (by omega) (by omega) (by omega) (by omega)
  have k2 : Kept s (meetP (WyF s) (false, mk s c, mk s d) (aboveP (WyF s) (LF s) (mk s a))) c d m := by
    rw [above_mk a1 (by omega)]
    exact meet_kept c1 d2 cm md (by omega) (by omega) (by omega) (by omega)
  unfold ltP
  dsimp only
  rw [both_ok k1 k2]
  exact ⟨k1, k2⟩
theorem le_kept {s : Bool} {a b c d n m : Int} (a1 : -fI s < a) (b2 : b < fI s) (an : a ≤ n) (nb : n ≤ b) (c1 : -fI s < c) (d2 : d < fI s) (cm : c ≤ m) (md : m ≤ d) (h : n ≤ m) : Kept s (leP (WyF s) (LF s) (false, mk s a, mk s b) (false, mk s c, mk s d)).1 a b n ∧ Kept s (leP (WyF s) (LF s) (false, mk s a, mk s b) (false, mk s c, mk s d)).2 c d m := by
  have t := fI_two s
  have k1 : Kept s (meetP (WyF s) (false, mk s a, mk s b) (false, (LF s).least, mk s d)) a b n := by
    rw [LF_least]
    exact meet_kept a1 b2 an nb (by omega) d2 (by omega) (by omega)
  have k2 : Kept s (meetP (WyF s) (false, mk s c, mk s d) (false, mk s a, (LF s).most)) c d m := by
    rw [LF_most]
    exact meet_kept c1 d2 cm md a1 (by omega) (by omega) (by omega)
  unfold leP
  dsimp only
  rw [both_ok k1 k2]
  exact ⟨k1, k2⟩
theorem without_kept {s : Bool} {a b c d n m : Int} (a1 : -fI s < a) (b2 : b < fI s) (an : a ≤ n) (nb : n ≤ b) (c1 : -fI s < c) (d2 : d < fI s) (cm : c ≤ m) (md : m ≤ d) (h : n ≠ m) : Kept s (withoutP (WyF s) (LF s) (false, mk s a, mk s b) (false, mk s c, mk s d)) a b n := by
  have t := fI_two s
  have self : Kept s (false, mk s a, mk s b) a b n := ⟨a, b, rfl, Int.le_refl _, an, nb, Int.le_refl _⟩
  have oz : ∀ x y : Int, -fI s < x → x < fI s → -fI s < y → y < fI s → ((WyF s).ord (mk s x) (mk s y) = 0 ↔ x = y) := fun x y x1 x2 y1 y2 => by
    rw [ord_mk (by omega) (by omega) (by omega) (by omega)]
    unfold WyI cmpI
    simp only
    split
    · constructor <;> intro <;> omega
    · split
      · constructor <;> intro <;> omega
      · constructor <;> intro <;> omega
  unfold withoutP
  dsimp only
  by_cases q1 : c = d
  · rw [if_neg (by rw [oz c d c1 (by omega) (by omega) d2]; simpa using q1)]
    by_cases q2 : c = a
    · rw [if_pos ((oz c a c1 (by omega) a1 (by omega)).2 q2), above_mk c1 (by omega)]
      exact meet_kept a1 b2 an nb (by omega) (by omega) (by omega) (by omega)
    · rw [if_neg (mt (oz c a c1 (by omega) a1 (by omega)).1 q2)]
      by_cases q3 : c = b
      · rw [if_pos ((oz c b c1 (by omega) (by omega) b2).2 q3), below_mk (by omega) (by omega)]
        exact meet_kept a1 b2 an nb (by omega) (by omega) (by omega) (by omega)
      · rw [if_neg (mt (oz c b c1 (by omega) (by omega) b2).1 q3)]
        exact self
  · rw [if_pos (by rw [oz c d c1 (by omega) (by omega) d2]; exact q1)]
    exact self
def holdI (op n m : Int) : Prop := (op = 12 → n < m) ∧ (op = 13 → n ≤ m) ∧ (op = 14 → m < n) ∧ (op = 15 → m ≤ n) ∧ (op = 16 → n = m) ∧ (op = 17 → n ≠ m)
theorem keeps {s : Bool} {op a b c d n m : Int} (h12 : 12 ≤ op) (h17 : op ≤ 17) (a1 : -fI s < a) (b2 : b < fI s) (an : a ≤ n) (nb : n ≤ b) (c1 : -fI s < c) (d2 : d < fI s) (cm : c ≤ m) (md : m ≤ d) (h : holdI op n m) :
    Kept s (refineP (WyF s) (LF s) op (false, mk s a, mk s b) (false, mk s c, mk s d)).1 a b n ∧ Kept s (refineP (WyF s) (LF s) op (false, mk s a, mk s b) (false, mk s c, mk s d)).2 c d m := by
  obtain ⟨g1, g2, g3, g4, g5, g6⟩ := h
  rcases (show op = 12 ∨ op = 13 ∨ op = 14 ∨ op = 15 ∨ op = 16 ∨ op = 17 by omega) with rfl | rfl | rfl | rfl | rfl | rfl
  · exact lt_kept a1 b2 an nb c1 d2 cm md (g1 rfl)
  · exact le_kept a1 b2 an nb c1 d2 cm md (g2 rfl)
  · obtain ⟨k1, k2⟩ := lt_kept c1 d2 cm md a1 b2 an nb (g3 rfl)
    have e : refineP (WyF s) (LF s) 14 (false, mk s a, mk s b) (false, mk s c, mk s d) = bothP (ltP (WyF s) (LF s) (false, mk s c, mk s d) (false, mk s a, mk s b)).2 (ltP (WyF s) (LF s) (false, mk s c, mk s d) (false, mk s a, mk s b)).1 := rfl
    rw [e, both_ok k2 k1]
    exact ⟨k2, k1⟩
  · obtain ⟨k1, k2⟩ := le_kept c1 d2 cm md a1 b2 an nb (g4 rfl)
    have e : refineP (WyF s) (LF s) 15 (false, mk s a, mk s b) (false, mk s c, mk s d) = bothP (leP (WyF s) (LF s) (false, mk s c, mk s d) (false, mk s a, mk s b)).2 (leP (WyF s) (LF s) (false, mk s c, mk s d) (false, mk s a, mk s b)).1 := rfl
    rw [e, both_ok k2 k1]
    exact ⟨k2, k1⟩
  · have q := g5 rfl
    have k1 : Kept s (meetP (WyF s) (false, mk s a, mk s b) (false, mk s c, mk s d)) a b n := meet_kept a1 b2 an nb c1 d2 (by omega) (by omega)
    have k2 : Kept s (meetP (WyF s) (false, mk s c, mk s d) (false, mk s a, mk s b)) c d m := meet_kept c1 d2 cm md a1 b2 (by omega) (by omega)
    have e : refineP (WyF s) (LF s) 16 (false, mk s a, mk s b) (false, mk s c, mk s d) = bothP (meetP (WyF s) (false, mk s a, mk s b) (false, mk s c, mk s d)) (meetP (WyF s) (false, mk s c, mk s d) (false, mk s a, mk s b)) := rfl
    rw [e, both_ok k1 k2]
    exact ⟨k1, k2⟩
  · have k1 := without_kept (s := s) a1 b2 an nb c1 d2 cm md (g6 rfl)
    have k2 := without_kept (s := s) c1 d2 cm md a1 b2 an nb (Ne.symm (g6 rfl))
    have e : refineP (WyF s) (LF s) 17 (false, mk s a, mk s b) (false, mk s c, mk s d) = bothP (withoutP (WyF s) (LF s) (false, mk s a, mk s b) (false, mk s c, mk s d)) (withoutP (WyF s) (LF s) (false, mk s c, mk s d) (false, mk s a, mk s b)) := rfl
    rw [e, both_ok k1 k2]
    exact ⟨k1, k2⟩
end Go.Proofs.YtgdknlnpfnifiaaGreat


namespace Go.Proofs.YtgdknlnpfnifiaaGreat
open Go.RowKit
set_option linter.unusedVariables false
set_option linter.unusedSimpArgs false
end Go.Proofs.YtgdknlnpfnifiaaGreat


namespace Go.Proofs.YtgdknlnpfnifiaaGreat
set_option linter.unusedVariables false
set_option linter.unusedSimpArgs false
theorem of_mk {s : Bool} {r q : Int} (r1 : -fI s < r) (rq : r ≤ q) (q2 : q < fI s) : rOfF s (mk s r) (mk s q) = (false, mk s r, mk s q) := by
  rw [← of_same]
  unfold ofP
  have p1 : (WyF s).pl (mk s r) = mk s r := plain_mk (by omega) (by omega)
  have p2 : (WyF s).pl (mk s q) = mk s q := plain_mk (by omega) (by omega)
  rw [p1, p2, if_pos]
  unfold rightP
  simp only [Bool.false_eq_true, if_false]
  rw [one_mk r1 (by omega), one_mk (by omega) q2, ord_mk (by omega) (by omega) (by omega) (by omega)]
  simp only [Bool.true_and]
  exact decide_eq_true ((ordI_le _ _).2 rq)
end Go.Proofs.YtgdknlnpfnifiaaGreat


namespace Go.Proofs.YtgdknlnpfnifiaaGreat
open Go.RowKit
set_option linter.unusedVariables false
set_option linter.unusedSimpArgs false
theorem cls_one {s : Bool} {v : Int} (h : (cls s v == 1) = true) : zOf s v = 0 := by
  unfold cls at h
  by_cases h1 : wideB s v = true
  · simp [h1] at h
  · simp only [h1] at h
    by_cases h2 : zOf s v = 0
    · exact h2
    · exfalso
      revert h
      simp [h2]
      (repeat' split) <;> simp
theorem res_rnk {s : Bool} {v r : Int} (h : Res s v r) : rnk s v = r := by
  have p := h.pl
  unfold plainF at p
  rw [if_neg (by rw [h.num]; simp)] at p
  by_cases z : (cls s v == 1) = true
  · rw [if_pos z] at p
    have t := fI_two s
    have e : r = 0 := (mk_inj (s := s) (by omega) (by omega) h.lo h.hi ((mk_zero s).trans p)).symm
    unfold rnk
    rw [cls_one z, e]
    split <;> rfl
  · rw [if_neg z] at p
    rw [p]
    exact mk_rnk h.lo h.hi
theorem less_res {s : Bool} {v u r q : Int} (h : Res s v r) (k : Res s u q) : lessF s v u = decide (r < q) := by
  rw [lessN h.num k.num, res_rnk h, res_rnk k]
theorem res_mk {s : Bool} {r : Int} (h1 : -fI s < r) (h2 : r < fI s) : Res s (mk s r) r := by
  obtain ⟨b, e, hb⟩ := mk_made s r
  have := made_res s b (if r < 0 then -r else r) (by split <;> omega) (by split <;> omega)
  rw [← e] at this
  have e2 : (if b then -(if r < 0 then -r else r) else (if r < 0 then -r else r)) = r := by
    by_cases c : r < 0
    · rw [hb.2 c, if_pos rfl, if_pos c]; omega
    · have : b = false := by cases b with | false => rfl | true => exact absurd (hb.1 rfl) c
      rw [this, if_neg (by simp), if_neg c]
  rw [e2] at this
  exact this
theorem fin_res {s : Bool} {v r : Int} (h : Res s v r) : finF s v = decide (-fI s < r ∧ r < fI s) := by
  have n := h.num
  have i := h.inf
  have l := h.lo
  have u := h.hi
  have c : cls s v = 0 ∨ cls s v = 1 ∨ cls s v = 2 ∨ cls s v = 3 ∨ cls s v = 4 ∨ cls s v = 5 := by
    unfold cls
    (repeat' split) <;> simp
  unfold finF
  rw [Bool.eq_iff_iff]
  rcases c with c | c | c | c | c | c <;> rw [c] at n i ⊢ <;> simp at n i ⊢ <;> omega
theorem fold_if (P : Int → Bool) (t : Int) : ∀ (xs : List Int) (t0 : Int), xs.foldl (fun acc x => if P x then t else acc) t0 = if ∃ v ∈ xs, P v = true then t else t0
  | [], t0 => by simp
  | x :: xs, t0 => by
    rw [List.foldl_cons, fold_if P t xs]
    by_cases h : P x = true
    · rw [if_pos h, if_pos (⟨x, by simp, h⟩ : ∃ v ∈ x :: xs, P v = true)]
      split <;> rfl
    · rw [if_neg h]
      have e : (∃ v ∈ x :: xs, P v = true) ↔ ∃ v ∈ xs, P v = true := by
        constructor
        · rintro ⟨v, hv, h'⟩
          rcases List.mem_cons.1 hv with rfl | hv
          · exact absurd h' h
          · exact ⟨v, hv, h'⟩
        · rintro ⟨v, hv, h'⟩
          exact ⟨v, List.mem_cons_of_mem _ hv, h'⟩
      by_cases q : ∃ v ∈ xs, P v = true
      · rw [if_pos q, if_pos (e.2 q)]
      · rw [if_neg q, if_neg (fun k => q (e.1 k))]
def AllR (s : Bool) (xs : List Int) : Prop := ∀ v ∈ xs, Res s v (rnk s v)
theorem clo_isF {s : Bool} : ∀ (xs : List Int) (x0 : Int), AllR s (x0 :: xs) → (cloF s x0 xs = x0 ∨ cloF s x0 xs ∈ xs) ∧ rnk s (cloF s x0 xs) ≤ rnk s x0 ∧ ∀ v ∈ xs, rnk s (cloF s x0 xs) ≤ rnk s v
  | [], x0, _ => ⟨Or.inl rfl, Int.le_refl _, by simp⟩
  | x :: xs, x0, h => by
    have r0 := h x0 (by simp)
    have rx := h x (by simp)
    obtain ⟨m, em, m1, m2, m3⟩ : ∃ m, (if lessF s x x0 then x else x0) = m ∧ rnk s m ≤ rnk s x0 ∧ rnk s m ≤ rnk s x ∧ (m = x ∨ m = x0) := by
      rw [less_res rx r0]
      by_cases c : rnk s x < rnk s x0
      · exact ⟨x, by simp [c], by omega, by omega, Or.inl rfl⟩
      · exact ⟨x0, by simp [c], by omega, by omega, Or.inr rfl⟩
    have e : cloF s x0 (x :: xs) = cloF s (if lessF s x x0 then x else x0) xs := rfl
    rw [em] at e
    have hm : AllR s (m :: xs) := fun v hv => by
      rcases List.mem_cons.1 hv with rfl | hv
      · rcases m3 with rfl | rfl
        · exact rx
        · exact r0
      · exact h v (by simp [hv])
    obtain ⟨i1, i2, i3⟩ := clo_isF xs m hm
    rw [e]
    refine ⟨?_, by omega, fun v hv => ?_⟩
    · rcases i1 with i1 | i1
      · rw [i1]
        rcases m3 with rfl | rfl
        · exact Or.inr (by simp)
        · exact Or.inl rfl
      · exact Or.inr (List.mem_cons_of_mem _ i1)
    · rcases List.mem_cons.1 hv with rfl | hv
      · omega
      · exact i3 v hv
theorem chi_isF {s : Bool} : ∀ (xs : List Int) (x0 : Int), AllR s (x0 :: xs) → (chiF s x0 xs = x0 ∨ chiF s x0 xs ∈ xs) ∧ rnk s x0 ≤ rnk s (chiF s x0 xs) ∧ ∀ v ∈ xs, rnk s v ≤ rnk s (chiF s x0 xs)
  | [], x0, _ => ⟨Or.inl rfl, Int.le_refl _, by simp⟩
  | x :: xs, x0, h => by
    have r0 := h x0 (by simp)
    have rx := h x (by simp)
    obtain ⟨m, em, m1, m2, m3⟩ : ∃ m, (if lessF s x0 x then x else x0) = m ∧ rnk s x0 ≤ rnk s m ∧ rnk s x ≤ rnk s m ∧ (m = x ∨ m = x0) := by
      rw [less_res r0 rx]
      by_cases c : rnk s x0 < rnk s x
      · exact ⟨x, by simp [c], by omega, by omega, Or.inl rfl⟩
      · exact ⟨x0, by simp [c], by omega, by omega, Or.inr rfl⟩
    have e : chiF s x0 (x :: xs) = chiF s (if lessF s x0 x then x else x0) xs := rfl
    rw [em] at e
    have hm : AllR s (m :: xs) := fun v hv => by
      rcases List.mem_cons.1 hv with rfl | hv
      · rcases m3 with rfl | rfl
        · exact rx
        · exact r0
      · exact h v (by simp [hv])
    obtain ⟨i1, i2, i3⟩ := chi_isF xs m hm
    rw [e]
    refine ⟨?_, by omega, fun v hv => ?_⟩
    · rcases i1 with i1 | i1
      · rw [i1]
        rcases m3 with rfl | rfl
        · exact Or.inr (by simp)
        · exact Or.inl rfl
      · exact Or.inr (List.mem_cons_of_mem _ i1)
    · rcases List.mem_cons.1 hv with rfl | hv
      · omega
      · exact i3 v hv
theorem of_res {s : Bool} {x y r q : Int} (hx : Res s x r) (hy : Res s y q) (r1 : -fI s < r) (rq : r ≤ q) (q2 : q < fI s) : rOfF s x y = (false, mk s r, mk s q) := by
  have e := of_mk (s := s) r1 rq q2
  unfold rOfF at e ⊢
  rw [plain_mk (by omega) (by omega), plain_mk (by omega) (by omega)] at e
  rw [hx.pl, hy.pl]
  exact e
theorem told_lhF {s : Bool} {xs ys : List Int} (ax : AllR s xs) (ay : AllR s ys) {l h : Int} (lx : ∃ v ∈ xs, rnk s v = l) (hx : ∃ v ∈ xs, rnk s v = h) (bx : ∀ v ∈ xs, l ≤ rnk s v ∧ rnk s v ≤ h) (ly : ∃ v ∈ ys, rnk s v = l) (hy : ∃ v ∈ ys, rnk s v = h) (byy : ∀ v ∈ ys, l ≤ rnk s v ∧ rnk s v ≤ h) :
    meetP (WyF s) (hullP (WyF s) xs) (false, (LF s).least, (LF s).most) = (toldF s ys).1 ∧ trapP (WyF s) (LF s) 2 xs = (toldF s ys).2 := by
  have t := fI_two s
  obtain ⟨v1, m1, e1⟩ := lx
  obtain ⟨v2, m2, e2⟩ := hx
  have b1 := ax v1 m1
  have b2 := ax v2 m2
  have l1 := b1.lo
  have l2 := b1.hi
  have h1 := b2.lo
  have h2 := b2.hi
  rw [e1] at l1 l2
  rw [e2] at h1 h2
  have lh : l ≤ h := by have := bx v1 m1; omega
  have hull : hullP (WyF s) xs = (false, mk s l, mk s h) := by
    obtain ⟨p, q, e, ⟨u1, n1, f1⟩, ⟨u2, n2, f2⟩, bb⟩ := hullR s Prod.fst (fun p => rnk s p.1) (xs.map (fun x => (x, (0 : Int)))) (by intro k; rw [List.map_eq_nil_iff] at k; rw [k] at m1; cases m1) (fun p hp => by
      obtain ⟨v, hv, rfl⟩ := List.mem_map.1 hp
      exact ax v hv)
    rw [List.map_map, show (Prod.fst ∘ fun x : Int => (x, (0 : Int))) = id from rfl, List.map_id] at e
    obtain ⟨w1, k1, rfl⟩ := List.mem_map.1 n1
    obtain ⟨w2, k2, rfl⟩ := List.mem_map.1 n2
    dsimp only at f1 f2
    have c1 := bx w1 k1
    have c2 := bx w2 k2
    have c3 := bb (v1, 0) (List.mem_map.2 ⟨v1, m1, rfl⟩)
    have c4 := bb (v2, 0) (List.mem_map.2 ⟨v2, m2, rfl⟩)
    dsimp only at c3 c4
    rw [e, show p = l by omega, show q = h by omega]
  cases ys with
  | nil => obtain ⟨_, k, _⟩ := ly; cases k
  | cons y ys =>
    have ay' : AllR s (y :: y :: ys) := fun v hv => ay v (by simpa using hv)
    obtain ⟨c1, c2, c3⟩ := clo_isF (y :: ys) y ay'
    obtain ⟨d1, d2, d3⟩ := chi_isF (y :: ys) y ay'
    have c1' : cloF s y (y :: ys) ∈ y :: ys := by rcases c1 with c1 | c1; rw [c1]; simp; exact c1
    have d1' : chiF s y (y :: ys) ∈ y :: ys := by rcases d1 with d1 | d1; rw [d1]; simp; exact d1
    have ec : rnk s (cloF s y (y :: ys)) = l := by
      obtain ⟨v, hv, e⟩ := ly
      have := c3 v hv
      have := (byy _ c1').1
      omega
    have ed : rnk s (chiF s y (y :: ys)) = h := by
      obtain ⟨v, hv, e⟩ := hy
      have := d3 v hv
      have := (byy _ d1').2
      omega
    have rc := ay _ c1'
    have rd := ay _ d1'
    rw [ec] at rc
    rw [ed] at rd
    have rm : Res s (fI s - 1) (fI s - 1) := by have := res_mk (s := s) (r := fI s - 1) (by omega) (by omega); rwa [← most_mk] at this
    have rl : Res s (negF s (fI s - 1)) (-(fI s - 1)) := by have := res_mk (s := s) (r := -(fI s - 1)) (by omega) (by omega); rwa [← least_mk] at this
    constructor
    · show _ = clipF s y (y :: ys)
      unfold clipF
      rw [hull, LF_least, LF_most, meetF l1 l2 h1 h2 (by omega) (by omega) (by omega) (by omega), less_res rm rc, less_res rd rl, less_res rc rl, less_res rm rd]
      by_cases q1 : fI s - 1 < l
      · rw [if_pos (decide_eq_true q1), if_pos (by omega)]
      rw [if_neg (show ¬ (decide (fI s - 1 < l) = true) by simpa using q1)]
      by_cases q2 : h < -(fI s - 1)
      · rw [if_pos (show decide (h < -(fI s - 1)) = true from decide_eq_true q2), if_pos (show min h (fI s - 1) < max l (-(fI s - 1)) by omega)]
      rw [if_neg (show ¬ (decide (h < -(fI s - 1)) = true) by simpa using q2), if_neg (show ¬ min h (fI s - 1) < max l (-(fI s - 1)) by omega)]
      have A : ∃ x, (if decide (l < -(fI s - 1)) = true then negF s (fI s - 1) else cloF s y (y :: ys)) = x ∧ Res s x (max l (-(fI s - 1))) := by
        by_cases q : l < -(fI s - 1)
        · exact ⟨_, rfl, by rw [if_pos (decide_eq_true q), show max l (-(fI s - 1)) = -(fI s - 1) by omega]; exact rl⟩
        · exact ⟨_, rfl, by rw [if_neg (by simpa using q), show max l (-(fI s - 1)) = l by omega]; exact rc⟩
      have B : ∃ x, (if decide (fI s - 1 < h) = true then fI s - 1 else chiF s y (y :: ys)) = x ∧ Res s x (min h (fI s - 1)) := by
        by_cases q : fI s - 1 < h
        · exact ⟨_, rfl, by rw [if_pos (decide_eq_true q), show min h (fI s - 1) = fI s - 1 by omega]; exact rm⟩
        · exact ⟨_, rfl, by rw [if_neg (by simpa using q), show min h (fI s - 1) = h by omega]; exact rd⟩
      obtain ⟨x, ex, hx⟩ := A
      obtain ⟨z, ez, hz⟩ := B
      rw [ex, ez, of_res hx hz (by omega) (by omega) (by omega)]
    · show _ = ctF s (y :: ys)
      unfold trapP
      rw [fold_if]
      have e : ctF s (y :: ys) = if ∃ v ∈ y :: ys, (!finF s v) = true then 2 else 0 := by
        unfold ctF
        rw [← fold_if (fun v => !finF s v) 2 (y :: ys) 0]
        congr 1
        funext acc x
        cases finF s x <;> rfl
      rw [e]
      have key : ∀ zs : List Int, AllR s zs → (∃ v ∈ zs, rnk s v = l) → (∃ v ∈ zs, rnk s v = h) → (∀ v ∈ zs, l ≤ rnk s v ∧ rnk s v ≤ h) → ∀ P : Int → Bool, (∀ v ∈ zs, P v = decide (rnk s v = fI s ∨ rnk s v = -fI s)) → ((∃ v ∈ zs, P v = true) ↔ (l = -fI s ∨ h = fI s)) := by
        intro zs az m1 m2 b P hP
        constructor
        · rintro ⟨v, hv, q⟩
          have := b v hv
          rw [hP v hv] at q
          have q' := of_decide_eq_true q
          omega
        · rintro (q | q)
          · obtain ⟨v, hv, e⟩ := m1
            exact ⟨v, hv, by rw [hP v hv]; exact decide_eq_true (by omega)⟩
          · obtain ⟨v, hv, e⟩ := m2
            exact ⟨v, hv, by rw [hP v hv]; exact decide_eq_true (by omega)⟩
      have k1 := key xs ax ⟨v1, m1, e1⟩ ⟨v2, m2, e2⟩ bx (fun v => pastP (WyF s) (LF s) v) (fun v hv => pastF (ax v hv))
      have k2 := key (y :: ys) ay ly hy byy (fun v => !finF s v) (fun v hv => by
        have r := ay v hv
        have := r.lo
        have := r.hi
        rw [fin_res r, Bool.eq_iff_iff]
        simp
        omega)
      by_cases q : l = -fI s ∨ h = fI s
      · rw [if_pos (k1.2 q), if_pos (k2.2 q)]
      · rw [if_neg (fun k => q (k1.1 k)), if_neg (fun k => q (k2.1 k))]
theorem told_setF {s : Bool} {xs ys : List Int} (ax : AllR s xs) (h : ∀ v, v ∈ xs ↔ v ∈ ys) : meetP (WyF s) (hullP (WyF s) xs) (false, (LF s).least, (LF s).most) = (toldF s ys).1 ∧ trapP (WyF s) (LF s) 2 xs = (toldF s ys).2 := by
  cases xs with
  | nil =>
    cases ys with
    | nil => exact ⟨rfl, rfl⟩
    | cons y ys => exact absurd ((h y).2 (by simp)) (by simp)
  | cons x xs =>
    obtain ⟨c1, c2, c3⟩ := clo_isF (x :: xs) x (fun v hv => ax v (by simpa using hv))
    obtain ⟨d1, d2, d3⟩ := chi_isF (x :: xs) x (fun v hv => ax v (by simpa using hv))
    have c1' : cloF s x (x :: xs) ∈ x :: xs := by rcases c1 with c1 | c1; rw [c1]; simp; exact c1
    have d1' : chiF s x (x :: xs) ∈ x :: xs := by rcases d1 with d1 | d1; rw [d1]; simp; exact d1
    exact told_lhF ax (fun v hv => ax v ((h v).2 hv)) ⟨_, c1', rfl⟩ ⟨_, d1', rfl⟩ (fun v hv => ⟨c3 v hv, d3 v hv⟩) ⟨_, (h _).1 c1', rfl⟩ ⟨_, (h _).1 d1', rfl⟩ (fun v hv => ⟨c3 v ((h v).2 hv), d3 v ((h v).2 hv)⟩)
theorem allR_of {s : Bool} {v r : Int} (h : Res s v r) : Res s v (rnk s v) := by rw [res_rnk h]; exact h
end Go.Proofs.YtgdknlnpfnifiaaGreat


namespace Go.Proofs.YtgdknlnpfnifiaaGreat
open Go.RowKit
set_option linter.unusedVariables false
set_option linter.unusedSimpArgs false
end Go.Proofs.YtgdknlnpfnifiaaGreat


namespace Go.Proofs.YtgdknlnpfnifiaaGreat
open Go.RowKit
set_option linter.unusedVariables false
set_option linter.unusedSimpArgs false
theorem told_fin {s : Bool} {xs : List Int} (ax : AllR s xs) {l h : Int} (l0 : -fI s < l) (h0 : h < fI s) (lx : ∃ v ∈ xs, rnk s v = l) (hx : ∃ v ∈ xs, rnk s v = h) (bx : ∀ v ∈ xs, l ≤ rnk s v ∧ rnk s v ≤ h) :
    meetP (WyF s) (hullP (WyF s) xs) (false, (LF s).least, (LF s).most) = (false, mk s l, mk s h) ∧ trapP (WyF s) (LF s) 2 xs = 0 := by
  have t := fI_two s
  obtain ⟨v1, m1, e1⟩ := lx
  obtain ⟨v2, m2, e2⟩ := hx
  have lh : l ≤ h := by have := bx v1 m1; omega
  have hull : hullP (WyF s) xs = (false, mk s l, mk s h) := by
    obtain ⟨p, q, e, ⟨u1, n1, f1⟩, ⟨u2, n2, f2⟩, bb⟩ := hullR s Prod.fst (fun p => rnk s p.1) (xs.map (fun x => (x, (0 : Int)))) (by intro k; rw [List.map_eq_nil_iff] at k; rw [k] at m1; cases m1) (fun p hp => by
      obtain ⟨v, hv, rfl⟩ := List.mem_map.1 hp
      exact ax v hv)
    rw [List.map_map, show (Prod.fst ∘ fun x : Int => (x, (0 : Int))) = id from rfl, List.map_id] at e
    obtain ⟨w1, k1, rfl⟩ := List.mem_map.1 n1
    obtain ⟨w2, k2, rfl⟩ := List.mem_map.1 n2
    dsimp only at f1 f2
    have c1 := bx w1 k1
    have c2 := bx w2 k2
    have c3 := bb (v1, 0) (List.mem_map.2 ⟨v1, m1, rfl⟩)
    have c4 := bb (v2, 0) (List.mem_map.2 ⟨v2, m2, rfl⟩)
    dsimp only at c3 c4
    rw [e, show p = l by omega, show q = h by omega]
  constructor
  · rw [hull, LF_least, LF_most, meetF (by omega) (by omega) (by omega) (by omega) (by omega) (by omega) (by omega) (by omega), if_neg (by omega), show max l (-(fI s - 1)) = l by omega, show min h (fI s - 1) = h by omega]
  · unfold trapP
    rw [fold_if, if_neg]
    rintro ⟨v, hv, q⟩
    have := bx v hv
    have q' : pastP (WyF s) (LF s) v = true := q
    rw [pastF (ax v hv)] at q'
    have := of_decide_eq_true q'
    omega
end Go.Proofs.YtgdknlnpfnifiaaGreat


