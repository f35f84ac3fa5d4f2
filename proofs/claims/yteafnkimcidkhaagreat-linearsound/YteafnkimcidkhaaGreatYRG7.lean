/- Texts of the proof, put together. -/
import Derived.Test.YteafnkimcidkhaaGreatYRMB5
import Derived.Test.YteafnkimcidkhaaGreatYRMB3
import Derived.Test.YteafnkimcidkhaaGreatYRG1
import Derived.Deep.QuietTactic
import Derived.BigQuiet
import Derived.Deep.RegionHeld3
import Derived.Test.YteafnkimcidkhaaGreatYRG2
import Derived.Test.YteafnkimcidkhaaGreatYRG5
import Derived.Test.YteafnkimcidkhaaGreatYRG6
namespace Go.Proofs.YteafnkimcidkhaaGreat
open Go.RowKit
set_option linter.unusedVariables false
set_option linter.unusedSimpArgs false
end Go.Proofs.YteafnkimcidkhaaGreat



namespace Go.Proofs.YteafnkimcidkhaaGreat
open Go.RowKit
set_option linter.unusedVariables false
set_option linter.unusedSimpArgs false
end Go.Proofs.YteafnkimcidkhaaGreat



namespace Go.Proofs.YteafnkimcidkhaaGreat
open Go.RowKit
set_option linter.unusedVariables false
set_option linter.unusedSimpArgs false
end Go.Proofs.YteafnkimcidkhaaGreat



namespace Go.Proofs.YteafnkimcidkhaaGreat
end Go.Proofs.YteafnkimcidkhaaGreat


namespace Go.Proofs.YteafnkimcidkhaaGreat
set_option linter.unusedVariables false
set_option linter.unusedSimpArgs false
def Num (s : Bool) (a : Int) : Prop := (cls s a == 0 || cls s a == 5) = false
theorem ordN {s : Bool} {a b : Int} (h1 : Num s a) (h2 : Num s b) : (WyF s).ord a b = cmpI (rnk s a) (rnk s b) := by
 show (cmpF s a b).1 = _
 unfold cmpF
 rw [h1, h2]
 rfl
theorem one_iff (s : Bool) (a : Int) : (WyF s).one a = (finF s a && (plainF s a == a)) := rfl
theorem pos_cmp (p q : Int) : (0 < cmpI p q) ↔ q < p := by unfold cmpI; split <;> (try split) <;> omega
theorem neg_cmp (p q : Int) : (cmpI p q < 0) ↔ p < q := by unfold cmpI; split <;> (try split) <;> omega
theorem le_cmp (p q : Int) : (cmpI p q ≤ 0) ↔ p ≤ q := by unfold cmpI; split <;> (try split) <;> omega
end Go.Proofs.YteafnkimcidkhaaGreat



namespace Go.Proofs.YteafnkimcidkhaaGreat
open Go.RowKit
set_option linter.unusedVariables false
set_option linter.unusedSimpArgs false
theorem res_rnk {s : Bool} {v r : Int} (h : Res s v r) : rnk s v = r := by
 have hp := h.pl
 have hn := h.num
 unfold plainF at hp
 rw [hn] at hp
 simp only [Bool.false_eq_true, if_false] at hp
 split at hp
 ·rename_i hz
  have hr : r = 0 := by
   have : mk s r = mk s 0 := hp.symm
   exact mk_inj h.lo h.hi (by have := fI_pos s; omega) (by have := fI_pos s; omega) this
  have : rnk s v = 0 := by
   have hz2 : cls s v = 1 := by simpa using hz
   have : zOf s v = 0 := by
    unfold cls at hz2
    repeat' split at hz2
    all_goals first | assumption | (exfalso; simp at hz2; done) | (simp_all; done)
   unfold rnk
   rw [this]
   split <;> rfl
  rw [this, hr]
 ·rw [hp]
  exact mk_rnk h.lo h.hi
theorem les_res {v u r q : Int} (h1 : Res false v r) (h2 : Res false u q) : Res false (lesP v u) (min r q) := by
 have hc : (cmpF false v u).1 = cmpI (rnk false v) (rnk false u) := ordN (s := false) h1.num h2.num
 rw [res_rnk h1, res_rnk h2] at hc
 unfold lesP
 rw [hc]
 by_cases h : q < r
 ·rw [if_pos ((pos_cmp _ _).2 h), show min r q = q by omega]
  exact h2
 ·rw [if_neg fun x => h ((pos_cmp _ _).1 x), show min r q = r by omega]
  exact h1
theorem gre_res {v u r q : Int} (h1 : Res false v r) (h2 : Res false u q) : Res false (greP v u) (max r q) := by
 have hc : (cmpF false v u).1 = cmpI (rnk false v) (rnk false u) := ordN (s := false) h1.num h2.num
 rw [res_rnk h1, res_rnk h2] at hc
 unfold greP
 rw [hc]
 by_cases h : r < q
 ·rw [if_pos ((neg_cmp _ _).2 h), show max r q = q by omega]
  exact h2
 ·rw [if_neg fun x => h ((neg_cmp _ _).1 x), show max r q = r by omega]
  exact h1
def loR (G : Int → Int → Int → Int) (a b c d : Int) : Int := min (min (min (G 2 a c) (G 2 a d)) (G 2 b c)) (G 2 b d)
def hiR (G : Int → Int → Int → Int) (a b c d : Int) : Int := max (max (max (G 1 a c) (G 1 a d)) (G 1 b c)) (G 1 b d)
theorem right_is {a : Bool × Int × Int} (hw : wdR a) (h : liN a = true) : ∃ r q, -fI false < r ∧ r ≤ q ∧ q < fI false ∧ a = (false, mk false r, mk false q) := by
 obtain ⟨e, x, y⟩ := a
 simp only [liN, liR, Bool.and_eq_true, Bool.not_eq_true'] at h
 obtain ⟨h1, rfl⟩ := h
 simp only [rightP, Bool.false_eq_true, if_false, Bool.and_eq_true, decide_eq_true_eq] at h1
 obtain ⟨hx, hy, ho⟩ := h1
 obtain ⟨r, r1, r2, rfl⟩ := one_is hw.1 hx
 obtain ⟨q, q1, q2, rfl⟩ := one_is hw.2 hy
 rw [ord_mk (by omega) (by omega) (by omega) (by omega)] at ho
 have := (le_cmp r q).1 ho
 exact ⟨r, q, r1, this, q2, rfl⟩
theorem mk_right {r q : Int} (h1 : -fI false < r) (h2 : r ≤ q) (h3 : q < fI false) : liN (false, mk false r, mk false q) = true := by
 simp only [liN, liR, rightP, Bool.false_eq_true, if_false, Bool.not_false, Bool.and_true, Bool.and_eq_true, decide_eq_true_eq]
 refine ⟨one_mk h1 (by omega), one_mk (by omega) h3, ?_⟩
 rw [ord_mk (by omega) (by omega) (by omega) (by omega)]
 exact (le_cmp r q).2 h2
theorem liN_R {a : Bool × Int × Int} (h : liN a = true) : liR a = true ∧ a.1 = false := by simpa [liN] using h
theorem outP_mk {g G : Int → Int → Int → Int} {a b c d : Int} (hG : ∀ m x y, (x = a ∨ x = b) → (y = c ∨ y = d) → Res false (g m (mk false x) (mk false y)) (G m x y)) (a1 : -fI false < a) (ab : a ≤ b) (b1 : b < fI false) (c1 : -fI false < c) (cd : c ≤ d) (d1 : d < fI false) :
  outP g (false, mk false a, mk false b) (false, mk false c, mk false d) = if -fI false < loR G a b c d ∧ loR G a b c d ≤ hiR G a b c d ∧ hiR G a b c d < fI false then ((false, mk false (loR G a b c d), mk false (hiR G a b c d)), true) else ((false, 0, 0), false) := by
 have hx := (liN_R (mk_right a1 ab b1)).1
 have hy := (liN_R (mk_right c1 cd d1)).1
 have l1 := les_res (les_res (les_res (les_res (hG 2 a c (Or.inl rfl) (Or.inl rfl)) (hG 2 a c (Or.inl rfl) (Or.inl rfl))) (hG 2 a d (Or.inl rfl) (Or.inr rfl))) (hG 2 b c (Or.inr rfl) (Or.inl rfl))) (hG 2 b d (Or.inr rfl) (Or.inr rfl))
 have g1 := gre_res (gre_res (gre_res (gre_res (hG 1 b d (Or.inr rfl) (Or.inr rfl)) (hG 1 a c (Or.inl rfl) (Or.inl rfl))) (hG 1 a d (Or.inl rfl) (Or.inr rfl))) (hG 1 b c (Or.inr rfl) (Or.inl rfl))) (hG 1 b d (Or.inr rfl) (Or.inr rfl))
 rw [show min (min (min (min (G 2 a c) (G 2 a c)) (G 2 a d)) (G 2 b c)) (G 2 b d) = loR G a b c d by unfold loR; omega] at l1
 rw [show max (max (max (max (G 1 b d) (G 1 a c)) (G 1 a d)) (G 1 b c)) (G 1 b d) = hiR G a b c d by unfold hiR; omega] at g1
 have eo : ofP (WyF false) (loP g (mk false a) (mk false b) (mk false c) (mk false d)) (hiP g (mk false a) (mk false b) (mk false c) (mk false d)) = if -fI false < loR G a b c d ∧ loR G a b c d ≤ hiR G a b c d ∧ hiR G a b c d < fI false then (false, mk false (loR G a b c d), mk false (hiR G a b c d)) else (true, 0, 0) := by
  unfold ofP
  have p1 : (WyF false).pl (loP g (mk false a) (mk false b) (mk false c) (mk false d)) = mk false (loR G a b c d) := l1.pl
  have p2 : (WyF false).pl (hiP g (mk false a) (mk false b) (mk false c) (mk false d)) = mk false (hiR G a b c d) := g1.pl
  rw [p1, p2]
  by_cases h : -fI false < loR G a b c d ∧ loR G a b c d ≤ hiR G a b c d ∧ hiR G a b c d < fI false
  ·rw [if_pos h]
   exact if_pos (liN_R (mk_right h.1 h.2.1 h.2.2)).1
  ·rw [if_neg h, if_neg]
   intro hr
   apply h
   simp only [rightP, Bool.false_eq_true, if_false, Bool.and_eq_true, decide_eq_true_eq] at hr
   obtain ⟨o1, o2, o3⟩ := hr
   have f1 : finF false (mk false (loR G a b c d)) = true := by
    have := o1
    rw [one_iff] at this
    simp only [Bool.and_eq_true] at this
    exact this.1
   have f2 : finF false (mk false (hiR G a b c d)) = true := by
    have := o2
    rw [one_iff] at this
    simp only [Bool.and_eq_true] at this
    exact this.1
   rw [fin_mk l1.lo l1.hi] at f1
   rw [fin_mk g1.lo g1.hi] at f2
   rw [ord_mk l1.lo l1.hi g1.lo g1.hi] at o3
   have o3' := (le_cmp _ _).1 o3
   simp only [decide_eq_true_eq] at f1 f2
   exact ⟨f1.1, o3', f2.2⟩
 unfold outP
 rw [hx, hy]
 simp only [Bool.and_self, Bool.true_eq_false, if_false, Bool.or_self, Bool.false_eq_true]
 rw [eo]
 by_cases h : -fI false < loR G a b c d ∧ loR G a b c d ≤ hiR G a b c d ∧ hiR G a b c d < fI false
 ·simp only [if_pos h, Bool.false_eq_true, if_false]
 ·simp only [if_neg h, if_true]
theorem fin_of_mk {r : Int} (h1 : -fI false < r) (h2 : r < fI false) : finF false (mk false r) = true := by
 rw [fin_mk (by omega) (by omega)]
 simp [h1, h2]
theorem add_resM (s : Bool) (m a b : Int) (fa : finF s a = true) (fb : finF s b = true) : ∃ r, Res s (addF s m a b) r := by
 have n1 := n_num fa
 have n2 := n_num fb
 unfold addF
 rw [n1.1, n2.1, n1.2, n2.2]
 simp only [Bool.or_self, Bool.false_eq_true, if_false, Bool.false_and]
 exact sumT_res _ _ _ _ _ _ _ _
theorem mul_resM (s : Bool) (m a b : Int) (fa : finF s a = true) (fb : finF s b = true) : ∃ r, Res s (mulF s m a b) r := by
 have n1 := n_num fa
 have n2 := n_num fb
 unfold mulF
 rw [n1.1, n2.1, n1.2, n2.2]
 simp only [Bool.or_self, Bool.false_eq_true, if_false, Bool.false_and, Bool.and_false]
 exact rnd_res _ _ _ _ _
def aR (m x y : Int) : Int := rnk false (addF false m (mk false x) (mk false y))
def mR (m x y : Int) : Int := rnk false (mulF false m (mk false x) (mk false y))
theorem aR_res {m x y : Int} (x1 : -fI false < x) (x2 : x < fI false) (y1 : -fI false < y) (y2 : y < fI false) : Res false (addF false m (mk false x) (mk false y)) (aR m x y) := by
 obtain ⟨r, hr⟩ := add_resM false m _ _ (fin_of_mk x1 x2) (fin_of_mk y1 y2)
 rw [aR, res_rnk hr]
 exact hr
theorem mR_res {m x y : Int} (x1 : -fI false < x) (x2 : x < fI false) (y1 : -fI false < y) (y2 : y < fI false) : Res false (mulF false m (mk false x) (mk false y)) (mR m x y) := by
 obtain ⟨r, hr⟩ := mul_resM false m _ _ (fin_of_mk x1 x2) (fin_of_mk y1 y2)
 rw [mR, res_rnk hr]
 exact hr
theorem sumP_mk {a b c d : Int} (a1 : -fI false < a) (ab : a ≤ b) (b1 : b < fI false) (c1 : -fI false < c) (cd : c ≤ d) (d1 : d < fI false) :
  sumP (false, mk false a, mk false b) (false, mk false c, mk false d) = if -fI false < loR aR a b c d ∧ loR aR a b c d ≤ hiR aR a b c d ∧ hiR aR a b c d < fI false then ((false, mk false (loR aR a b c d), mk false (hiR aR a b c d)), true) else ((false, 0, 0), false) :=
 outP_mk (fun m x y hx hy => aR_res (by rcases hx with rfl | rfl <;> omega) (by rcases hx with rfl | rfl <;> omega) (by rcases hy with rfl | rfl <;> omega) (by rcases hy with rfl | rfl <;> omega)) a1 ab b1 c1 cd d1
theorem prodP_mk {a b c d : Int} (a1 : -fI false < a) (ab : a ≤ b) (b1 : b < fI false) (c1 : -fI false < c) (cd : c ≤ d) (d1 : d < fI false) :
  prodP (false, mk false a, mk false b) (false, mk false c, mk false d) = if -fI false < loR mR a b c d ∧ loR mR a b c d ≤ hiR mR a b c d ∧ hiR mR a b c d < fI false then ((false, mk false (loR mR a b c d), mk false (hiR mR a b c d)), true) else ((false, 0, 0), false) :=
 outP_mk (fun m x y hx hy => mR_res (by rcases hx with rfl | rfl <;> omega) (by rcases hx with rfl | rfl <;> omega) (by rcases hy with rfl | rfl <;> omega) (by rcases hy with rfl | rfl <;> omega)) a1 ab b1 c1 cd d1
end Go.Proofs.YteafnkimcidkhaaGreat



namespace Go.Proofs.YteafnkimcidkhaaGreat
set_option linter.unusedVariables false
set_option linter.unusedSimpArgs false
def bump (m : Int) (b : Bool) (n : Nat) (k : Int) : Bool := away m b (quo n k % 2 == 1) (half n k) (low n k)
theorem mag_size (s : Bool) (m : Int) (b : Bool) {n : Nat} (h : n ≠ 0) (e E : Int) (h1 : E ≤ e) (h2 : E ≤ fL s) :
  ∃ x q : Nat, lastOf s n e - fL s = x ∧ quo n (lastOf s n e - e) = q ∧ q < 2 ^ (fP s + 1) ∧ (x = 0 ∨ 2 ^ fP s ≤ q) ∧ val s (x * 2 ^ fP s + q) * 2 ^ (fL s - E).toNat ≤ n * 2 ^ (e - E).toNat ∧ n * 2 ^ (e - E).toNat < val s (x * 2 ^ fP s + q + 1) * 2 ^ (fL s - E).toNat ∧
   ((half n (lastOf s n e - e) || low n (lastOf s n e - e)) = false → n * 2 ^ (e - E).toNat = val s (x * 2 ^ fP s + q) * 2 ^ (fL s - E).toNat) ∧
   mag s m b n e = (if fI s ≤ ((x * 2 ^ fP s + q + (bump m b n (lastOf s n e - e)).toNat : Nat) : Int) then great s m b else ((x * 2 ^ fP s + q + (bump m b n (lastOf s n e - e)).toNat : Nat) : Int)) := by
 obtain ⟨x, ex, q1, q2, q3, q4, q5⟩ := kept s h e E h1 h2
 refine ⟨x, _, ex, rfl, q1, q2, ?_, ?_, ?_, ?_⟩
 ·rw [val_at s x _ (by omega) q2, Nat.mul_assoc, ← Nat.pow_add]; exact q3
 ·rw [Nat.add_assoc, val_at s x _ (by omega) (by omega), Nat.mul_assoc, ← Nat.pow_add]; exact q4
 ·intro hh
  rw [val_at s x _ (by omega) q2, Nat.mul_assoc, ← Nat.pow_add]
  exact q5 hh
 ·unfold mag fin bump
  rw [ex]
  generalize quo n (lastOf s n e - e) = q
  generalize half n (lastOf s n e - e) = g
  generalize low n (lastOf s n e - e) = l
  have e1 : (x : Int) * 2 ^ fP s + ((q + if away m b (q % 2 == 1) g l then 1 else 0 : Nat) : Int) = ((x * 2 ^ fP s + q + (away m b (q % 2 == 1) g l).toNat : Nat) : Int) := by
   generalize away m b (q % 2 == 1) g l = r
   cases r <;> simp <;> omega
  rw [e1]
theorem great_ge (s : Bool) (m : Int) (b : Bool) : fI s - 1 ≤ great s m b := by
 unfold great
 split <;> omega
theorem mag_monoM (s : Bool) (m : Int) (b : Bool) {n n' : Nat} (h : n ≠ 0) (le : n ≤ n') (e : Int) : mag s m b n e ≤ mag s m b n' e := by
 have h' : n' ≠ 0 := by omega
 obtain ⟨x, q, ex, eq, q1, q2, q3, q4, qx, M⟩ := mag_size s m b h e (min e (fL s)) (by omega) (by omega)
 obtain ⟨x', q', ex', eq', q1', q2', q3', q4', qx', M'⟩ := mag_size s m b h' e (min e (fL s)) (by omega) (by omega)
 rw [M, M']
 have p : 0 < 2 ^ (fL s - min e (fL s)).toNat := Nat.two_pow_pos _
 have pe : 0 < 2 ^ (e - min e (fL s)).toNat := Nat.two_pow_pos _
 have zz : x * 2 ^ fP s + q < x' * 2 ^ fP s + q' + 1 := by
  apply lt_of_val s
  have t : val s (x * 2 ^ fP s + q) * 2 ^ (fL s - min e (fL s)).toNat < val s (x' * 2 ^ fP s + q' + 1) * 2 ^ (fL s - min e (fL s)).toNat :=
   Nat.lt_of_le_of_lt q3 (Nat.lt_of_le_of_lt (Nat.mul_le_mul_right _ le) q4')
  exact Nat.lt_of_mul_lt_mul_right t
 have key : x * 2 ^ fP s + q + (bump m b n (lastOf s n e - e)).toNat ≤ x' * 2 ^ fP s + q' + (bump m b n' (lastOf s n' e - e)).toNat := by
  by_cases c : x * 2 ^ fP s + q = x' * 2 ^ fP s + q'
  ·have pw : 2 ^ (fP s + 1) = 2 ^ fP s * 2 := Nat.pow_succ _ _
   have uq : x = x' ∧ q = q' := by
    have p2 : 0 < 2 ^ fP s := Nat.two_pow_pos _
    rw [pw] at q1 q1'
    generalize 2 ^ fP s = B at *
    have : x = x' := by
     rcases Nat.lt_trichotomy x x' with l | l | l
     ·exfalso
      obtain ⟨t, rfl⟩ : ∃ t, x' = x + 1 + t := ⟨x' - x - 1, by omega⟩
      rw [Nat.add_mul, Nat.add_mul] at c
      have : B ≤ q' := by rcases q2' with z | z <;> omega
      have t0 : 0 ≤ t * B := Nat.zero_le _
      omega
     ·exact l
     ·exfalso
      obtain ⟨t, rfl⟩ : ∃ t, x = x' + 1 + t := ⟨x - x' - 1, by omega⟩
      rw [Nat.add_mul, Nat.add_mul] at c
      have : B ≤ q := by rcases q2 with z | z <;> omega
      have t0 : 0 ≤ t * B := Nat.zero_le _
      omega
    subst this
    exact ⟨rfl, by omega⟩
   have el : lastOf s n' e = lastOf s n e := by omega
   rw [el] at eq' qx' ⊢
   have qe : quo n (lastOf s n e - e) = quo n' (lastOf s n e - e) := by rw [eq, eq', uq.2]
   rw [c] at q3 ⊢
   have bm : bump m b n (lastOf s n e - e) = true → bump m b n' (lastOf s n e - e) = true := by
    intro hb
    have lost : (half n (lastOf s n e - e) || low n (lastOf s n e - e)) = true → (half n' (lastOf s n e - e) || low n' (lastOf s n e - e)) = true := by
     intro hl
     cases hn : (half n' (lastOf s n e - e) || low n' (lastOf s n e - e))
     ·exfalso
      have r := qx' hn
      have hnn : n' ≤ n := Nat.le_of_mul_le_mul_right (show n' * 2 ^ (e - min e (fL s)).toNat ≤ n * 2 ^ (e - min e (fL s)).toNat by rw [r]; exact q3) pe
      have en : n = n' := by omega
      subst en
      rw [hn] at hl
      cases hl
     ·rfl
    unfold bump away at hb ⊢
    by_cases m1 : m = 1
    ·rw [if_pos m1] at hb ⊢
     rw [Bool.and_eq_true] at hb ⊢
     exact ⟨lost hb.1, hb.2⟩
    ·rw [if_neg m1] at hb ⊢
     by_cases m2 : m = 2
     ·rw [if_pos m2] at hb ⊢
      rw [Bool.and_eq_true] at hb ⊢
      exact ⟨lost hb.1, hb.2⟩
     ·rw [if_neg m2] at hb ⊢
      by_cases m3 : m = 3
      ·rw [if_pos m3] at hb
       cases hb
      ·rw [if_neg m3] at hb ⊢
       exact nearUp_mono le qe hb
   cases b0 : bump m b n (lastOf s n e - e)
   ·simp
   ·rw [bm b0]
    exact Nat.le_refl _
  ·have := Bool.toNat_le (bump m b n (lastOf s n e - e))
   omega
 have gg := great_ge s m b
 generalize x * 2 ^ fP s + q + (bump m b n (lastOf s n e - e)).toNat = A at *
 generalize x' * 2 ^ fP s + q' + (bump m b n' (lastOf s n' e - e)).toNat = B at *
 split <;> split <;> omega
def mgM (s : Bool) (m : Int) (b : Bool) (n : Nat) (e : Int) : Int := if n = 0 then 0 else mag s m b n e
theorem mgM_bd (s : Bool) (m : Int) (b : Bool) (n : Nat) (e : Int) : 0 ≤ mgM s m b n e ∧ mgM s m b n e ≤ fI s := by
 unfold mgM
 split
 ·exact ⟨Int.le_refl _, fI_pos s⟩
 ·rename_i h
  obtain ⟨z, e1, e2⟩ := mag_any s m b h e
  rw [e1]
  exact ⟨by omega, e2⟩
theorem mgM_mono (s : Bool) (m : Int) (b : Bool) {n n' : Nat} (h : n ≤ n') (e : Int) : mgM s m b n e ≤ mgM s m b n' e := by
 by_cases c : n = 0
 ·have := mgM_bd s m b n' e
  unfold mgM at this ⊢
  rw [if_pos c]
  exact this.1
 ·unfold mgM
  rw [if_neg c, if_neg (by omega)]
  exact mag_monoM s m b c h e
theorem mgM_scale (s : Bool) (m : Int) (b : Bool) (n j : Nat) (e : Int) : mgM s m b (n * 2 ^ j) (e - j) = mgM s m b n e := by
 have p := Nat.two_pow_pos j
 unfold mgM
 by_cases c : n = 0
 ·rw [if_pos c, if_pos (by rw [c, Nat.zero_mul])]
 ·rw [if_neg c, if_neg (by intro h; rcases Nat.mul_eq_zero.1 h with h | h <;> omega)]
  exact mag_scale s m b c j e
def rkM (s : Bool) (m : Int) (n : Int) (e : Int) : Int := if n < 0 then -(mgM s m true n.natAbs e) else mgM s m false n.natAbs e
theorem rkM_mono (s : Bool) (m : Int) {n n' : Int} (h : n ≤ n') (e : Int) : rkM s m n e ≤ rkM s m n' e := by
 have b1 := mgM_bd s m true n.natAbs e
 have b2 := mgM_bd s m false n'.natAbs e
 unfold rkM
 split
 ·split
  ·have := mgM_mono s m true (show n'.natAbs ≤ n.natAbs by omega) e
   omega
  ·omega
 ·split
  ·omega
  ·exact mgM_mono s m false (by omega) e
theorem rkM_scale (s : Bool) (m : Int) (n : Int) (j : Nat) (e : Int) : rkM s m (n * 2 ^ j) (e - j) = rkM s m n e := by
 have p := Nat.two_pow_pos j
 have q : (0 : Int) < 2 ^ j := by exact_mod_cast p
 have a : (n * 2 ^ j).natAbs = n.natAbs * 2 ^ j := by
  rw [Int.natAbs_mul, Int.natAbs_pow]; rfl
 unfold rkM
 rw [a, mgM_scale, mgM_scale]
 by_cases c : n < 0
 ·rw [if_pos c, if_pos (Int.mul_neg_of_neg_of_pos c q)]
 ·rw [if_neg c, if_neg (by have := Int.mul_nonneg (show 0 ≤ n by omega) (Int.le_of_lt q); omega)]
theorem rnd_rkM (s : Bool) (m : Int) (b : Bool) (n : Nat) (e : Int) : Res s (rnd s m b n e) (rkM s m (if b then -(n : Int) else n) e) := by
 have bd := mgM_bd s m b n e
 have r := made_res s b (mgM s m b n e) bd.1 bd.2
 have e1 : rnd s m b n e = sgnd s b (mgM s m b n e) := rfl
 have e2 : rkM s m (if b then -(n : Int) else n) e = if b then -(mgM s m b n e) else mgM s m b n e := by
  unfold rkM
  cases b
  ·simp only [Bool.false_eq_true, if_false, Int.natAbs_natCast]
   rw [if_neg (by omega)]
  ·simp only [if_true, Int.natAbs_neg, Int.natAbs_natCast]
   by_cases c : n = 0
   ·subst c; simp [mgM]
   ·rw [if_pos (by omega)]
 rw [e1, e2]
 exact r
end Go.Proofs.YteafnkimcidkhaaGreat




