/- Quotients times what they are by, in plain numbers. -/
import Derived.Test.YteafnkimcidkhaaGreatMB3
import Derived.Test.YteafnkimcidkhaaGreatMB2
namespace Go.Proofs.YteafnkimcidkhaaGreat
open Go.RowKit
set_option linter.unusedVariables false
set_option linter.unusedSimpArgs false
/-- A whole number times a power of 2 is not above another one. -/
def le2 (n : Nat) (e : Int) (m : Nat) (f : Int) : Prop := n * 2 ^ (e - min e f).toNat ≤ m * 2 ^ (f - min e f).toNat
theorem le2_at {n : Nat} {e : Int} {m : Nat} {f : Int} (E : Int) (h1 : E ≤ e) (h2 : E ≤ f) : le2 n e m f ↔ n * 2 ^ (e - E).toNat ≤ m * 2 ^ (f - E).toNat := by
  unfold le2
  have a : (e - E).toNat = (e - min e f).toNat + (min e f - E).toNat := by omega
  have b : (f - E).toNat = (f - min e f).toNat + (min e f - E).toNat := by omega
  rw [a, b, Nat.pow_add, Nat.pow_add, ← Nat.mul_assoc, ← Nat.mul_assoc]
  exact (Nat.mul_le_mul_right_iff (Nat.two_pow_pos _)).symm
theorem le2_trans {n m k : Nat} {e f g : Int} (h : le2 n e m f) (h' : le2 m f k g) : le2 n e k g := by
  have a := (le2_at (min e (min f g)) (by omega) (by omega)).1 h
  have b := (le2_at (min e (min f g)) (by omega) (by omega)).1 h'
  exact (le2_at (min e (min f g)) (by omega) (by omega)).2 (Nat.le_trans a b)
theorem le2_same {n m : Nat} {e : Int} : le2 n e m e ↔ n ≤ m := by
  rw [le2_at e (Int.le_refl _) (Int.le_refl _), show (e - e).toNat = 0 by omega, Nat.pow_zero, Nat.mul_one, Nat.mul_one]
theorem le2_mul {n m : Nat} {e f : Int} (h : le2 n e m f) (k : Nat) (g : Int) : le2 (n * k) (e + g) (m * k) (f + g) := by
  have a := (le2_at (min e f) (by omega) (by omega)).1 h
  refine (le2_at (min e f + g) (by omega) (by omega)).2 ?_
  rw [show (e + g - (min e f + g)).toNat = (e - min e f).toNat by omega, show (f + g - (min e f + g)).toNat = (f - min e f).toNat by omega]
  have := Nat.mul_le_mul_right k a
  rw [Nat.mul_right_comm, Nat.mul_right_comm m]
  exact this
theorem le2_up (n k : Nat) (e : Int) : le2 n e (n * 2 ^ k) (e - k) ∧ le2 (n * 2 ^ k) (e - k) n e := by
  constructor
  · refine (le2_at (e - k) (by omega) (by omega)).2 ?_
    rw [show (e - (e - (k : Int))).toNat = k by omega, show (e - (k : Int) - (e - k)).toNat = 0 by omega, Nat.pow_zero, Nat.mul_one]
    exact Nat.le_refl _
  · refine (le2_at (e - k) (by omega) (by omega)).2 ?_
    rw [show (e - (e - (k : Int))).toNat = k by omega, show (e - (k : Int) - (e - k)).toNat = 0 by omega, Nat.pow_zero, Nat.mul_one]
    exact Nat.le_refl _
/-- A size is worth its whole number times the power of 2. -/
theorem worth (s b : Bool) (z : Nat) (h : (z : Int) < fI s) : le2 (val s z) (fL s) (whl s (sgnd s b z)).toNat (pwr s (sgnd s b z)) ∧ le2 (whl s (sgnd s b z)).toNat (pwr s (sgnd s b z)) (val s z) (fL s) := by
  obtain ⟨x, q, e, q1, q2, w, p⟩ := size_parts s b z h
  rw [w, p]
  have v := val_at s x q (by omega) q2
  rw [← e] at v
  rw [v]
  obtain ⟨a, b⟩ := le2_up q x (fL s + x)
  rw [show fL s + (x : Int) - x = fL s by omega] at a b
  exact ⟨b, a⟩
theorem down2 (s : Bool) {n : Nat} (h : n ≠ 0) (e : Int) : ∃ z : Nat, mag s 2 false n e = z ∧ (z : Int) < fI s ∧ le2 (val s z) (fL s) n e := by
  obtain ⟨z, a, b, c⟩ := mag_down s 2 false (fun o h l => by cases o <;> cases h <;> cases l <;> rfl) h e (min e (fL s)) (by omega) (by omega)
  exact ⟨z, a, b, (le2_at _ (by omega) (by omega)).2 c⟩
theorem up2 (s : Bool) {n : Nat} (h : n ≠ 0) (e : Int) : ∃ z : Nat, mag s 1 false n e = z ∧ (z : Int) ≤ fI s ∧ ((z : Int) = fI s ∨ le2 n e (val s z) (fL s)) := by
  obtain ⟨z, a, b, c⟩ := mag_up s 1 false (fun o h l => by cases o <;> cases h <;> cases l <;> rfl) h e (min e (fL s)) (by omega) (by omega)
  refine ⟨z, a, b, ?_⟩
  rcases c with c | c
  · exact Or.inl c
  · exact Or.inr ((le2_at _ (by omega) (by omega)).2 c)
/-- With all that is lost, rounded down: not above what is kept. -/
theorem down_sticky (s : Bool) (q : Nat) (e : Int) (t : Bool) (h : fP s + 2 ≤ blen q) : mag s 2 false (2 * q + t.toNat) (e - 1) = mag s 2 false q e := by
  have q0 : q ≠ 0 := by intro c; subst c; rw [blen_zero] at h; omega
  cases t
  · have := mag_scale s 2 false q0 1 e
    rw [show 2 * q + false.toNat = q * 2 ^ 1 by simp; omega]
    exact this
  · have k := mag_sticky s 2 false q0 1 1 (by decide) (by decide) e (last_ge s e h)
    rw [show 2 * q + true.toNat = q * 2 ^ 1 + 1 by simp; omega, show e - 1 = e - ((1 : Nat) : Int) by omega, k]
    unfold mag fin
    have a : ∀ o h l, away 2 false o h l = false := fun o h l => by cases o <;> cases h <;> cases l <;> rfl
    simp only [a]
theorem up_sticky (s : Bool) (q : Nat) (e : Int) (h : fP s + 2 ≤ blen q) : ∃ z : Nat, mag s 1 false (2 * q + 1) (e - 1) = z ∧ (z : Int) ≤ fI s ∧ ((z : Int) = fI s ∨ le2 (q + 1) e (val s z) (fL s)) := by
  have q0 : q ≠ 0 := by intro c; subst c; rw [blen_zero] at h; omega
  have hk := last_ge s e h
  have k1 := mag_sticky s 1 false q0 1 1 (by decide) (by decide) e hk
  have J : ∃ j : Nat, 1 ≤ j ∧ e - (j : Int) < fL s := ⟨(e - fL s).toNat + 1, by omega, by omega⟩
  obtain ⟨j, j1, j2⟩ := J
  have pj : 2 ≤ 2 ^ j := Nat.le_trans (by decide) (Nat.pow_le_pow_right (by decide) j1 : 2 ^ 1 ≤ 2 ^ j)
  have k2 := mag_sticky s 1 false q0 j (2 ^ j - 1) (by omega) (by omega) e hk
  rw [show 2 * q + 1 = q * 2 ^ 1 + 1 by omega, show e - 1 = e - ((1 : Nat) : Int) by omega, k1, ← k2]
  obtain ⟨z, a, b, c⟩ := up2 s (n := q * 2 ^ j + (2 ^ j - 1)) (by omega) (e - j)
  refine ⟨z, a, b, ?_⟩
  rcases c with c | c
  · exact Or.inl c
  · right
    have c := (le2_at (e - j) (Int.le_refl _) (by omega)).1 c
    refine (le2_at (e - j) (by omega) (by omega)).2 ?_
    rw [show (e - (j : Int) - (e - j)).toNat = 0 by omega, Nat.pow_zero, Nat.mul_one] at c
    rw [show (e - (e - (j : Int))).toNat = j by omega, Nat.add_mul, Nat.one_mul]
    have ev : ∃ y, (fL s - (e - (j : Int))).toNat = y + 1 := ⟨(fL s - (e - (j : Int))).toNat - 1, by omega⟩
    obtain ⟨y, ev⟩ := ev
    rw [ev, Nat.pow_succ] at c ⊢
    obtain ⟨i, hi⟩ : ∃ i, 2 ^ j = 2 * i := ⟨2 ^ (j - 1), by rw [Nat.mul_comm, ← Nat.pow_succ]; congr 1; omega⟩
    rw [hi] at c ⊢
    have e1 : q * (2 * i) = 2 * (q * i) := by rw [Nat.mul_left_comm]
    have e2 : val s z * (2 ^ y * 2) = 2 * (val s z * 2 ^ y) := by rw [← Nat.mul_assoc, Nat.mul_comm]
    rw [e1, e2] at c ⊢
    omega
theorem whl_pos (s b : Bool) (z : Nat) (z0 : z ≠ 0) (h : (z : Int) < fI s) : (whl s (sgnd s b z)).toNat ≠ 0 ∧ (whl s (sgnd s b z)).toNat < 2 ^ 53 := by
  obtain ⟨x, q, e, q1, q2, w, p⟩ := size_parts s b z h
  rw [w]
  constructor
  · intro c
    subst c
    rcases q2 with c | c
    · subst c; simp at e; exact z0 e
    · have := Nat.two_pow_pos (fP s); omega
  · exact Nat.lt_of_lt_of_le q1 (Nat.pow_le_pow_right (by decide) (by have := fP_le s; omega))
theorem div_pos_parts (s : Bool) (m : Int) (za zb : Nat) (a0 : za ≠ 0) (b0 : zb ≠ 0) (ha : (za : Int) < fI s) (hb : (zb : Int) < fI s) :
    divF s m (sgnd s false za) (sgnd s false zb) = divT s m false (whl s (sgnd s false za)).toNat (pwr s (sgnd s false za)) (whl s (sgnd s false zb)).toNat (pwr s (sgnd s false zb)) := by
  obtain ⟨c1, c2, c3⟩ := self_cls s false za a0 ha
  obtain ⟨d1, d2, d3⟩ := self_cls s false zb b0 hb
  unfold divF
  rw [c1, c2, c3, d1, d2, d3, self_sgn s false za ha, self_sgn s false zb hb]
  simp only [Bool.or_false, Bool.false_or, Bool.or_self, Bool.false_and, Bool.and_false, Bool.and_self, Bool.false_eq_true, if_false, bne_self_eq_false]
theorem mul_pos_parts (s : Bool) (m : Int) (zl zb : Nat) (b0 : zb ≠ 0) (hl : (zl : Int) < fI s) (hb : (zb : Int) < fI s) :
    mulF s m (sgnd s false zl) (sgnd s false zb) = rnd s m false ((whl s (sgnd s false zl)).toNat * (whl s (sgnd s false zb)).toNat) (pwr s (sgnd s false zl) + pwr s (sgnd s false zb)) := by
  have n1 := num_made s false zl (by omega) (by omega)
  have n2 : (cls s (sgnd s false zl) == 4) = false := by
    have := cls_made s false zl (by omega) (by have := fI_lt s; omega)
    rw [if_neg (by omega), if_neg (by omega)] at this
    rw [this]
    split
    · rfl
    · split <;> rfl
  obtain ⟨d1, d2, d3⟩ := self_cls s false zb b0 hb
  unfold mulF
  rw [n1, n2, d1, d2, d3, self_sgn s false zl hl, self_sgn s false zb hb]
  simp only [Bool.or_false, Bool.false_or, Bool.or_self, Bool.false_and, Bool.and_false, Bool.and_self, Bool.false_eq_true, if_false, bne_self_eq_false]
theorem rnd_down (s : Bool) (n : Nat) (e : Int) : ∃ z : Nat, rnd s 2 false n e = sgnd s false z ∧ (z : Int) < fI s ∧ le2 (val s z) (fL s) n e := by
  unfold rnd
  by_cases c : n = 0
  · rw [if_pos c]
    obtain ⟨i, ei, i0, _⟩ := fI_nat s
    refine ⟨0, rfl, by omega, ?_⟩
    rw [val_zero]
    unfold le2
    rw [Nat.zero_mul]
    exact Nat.zero_le _
  · rw [if_neg c]
    obtain ⟨z, a, b, d⟩ := down2 s c e
    exact ⟨z, by rw [a], b, d⟩
theorem rnd_up (s : Bool) (n : Nat) (h : n ≠ 0) (e : Int) : ∃ z : Nat, rnd s 1 false n e = sgnd s false z ∧ (z : Int) ≤ fI s ∧ ((z : Int) = fI s ∨ le2 n e (val s z) (fL s)) := by
  unfold rnd
  rw [if_neg h]
  obtain ⟨z, a, b, d⟩ := up2 s h e
  exact ⟨z, by rw [a], b, d⟩
theorem quot_big (s : Bool) (wa wb : Nat) (a0 : wa ≠ 0) (b0 : wb ≠ 0) (hb : wb < 2 ^ 53) : fP s + 2 ≤ blen (wa * 2 ^ 130 / wb) := by
  have big : 2 ^ 77 ≤ wa * 2 ^ 130 / wb := by
    rw [Nat.le_div_iff_mul_le (by omega)]
    have h1 : 2 ^ 77 * wb ≤ 2 ^ 77 * 2 ^ 53 := Nat.mul_le_mul_left _ (Nat.le_of_lt hb)
    have e : 2 ^ 77 * 2 ^ 53 = 2 ^ 130 := by rw [← Nat.pow_add]
    have h2 : 2 ^ 130 ≤ wa * 2 ^ 130 := Nat.le_mul_of_pos_left _ (Nat.pos_of_ne_zero a0)
    rw [e] at h1
    exact Nat.le_trans h1 h2
  have := le_blen big
  have := fP_le s
  omega
theorem quot_down (s : Bool) (za zb : Nat) (a0 : za ≠ 0) (b0 : zb ≠ 0) (ha : (za : Int) < fI s) (hb : (zb : Int) < fI s) :
    ∃ zm : Nat, mulF s 2 (divF s 2 (sgnd s false za) (sgnd s false zb)) (sgnd s false zb) = sgnd s false zm ∧ (zm : Int) ≤ fI s ∧ zm ≤ za := by
  rw [div_pos_parts s 2 za zb a0 b0 ha hb]
  obtain ⟨wa0, wa1⟩ := whl_pos s false za a0 ha
  obtain ⟨wb0, wb1⟩ := whl_pos s false zb b0 hb
  obtain ⟨va, va'⟩ := worth s false za ha
  have big := quot_big s _ _ wa0 wb0 wb1
  have q0 : (whl s (sgnd s false za)).toNat * 2 ^ 130 / (whl s (sgnd s false zb)).toNat ≠ 0 := by intro c; rw [c, blen_zero] at big; omega
  have dq := Nat.div_mul_le_self ((whl s (sgnd s false za)).toNat * 2 ^ 130) (whl s (sgnd s false zb)).toNat
  have st := down_sticky s _ (pwr s (sgnd s false za) - pwr s (sgnd s false zb) - 130) (decide ((whl s (sgnd s false za)).toNat * 2 ^ 130 % (whl s (sgnd s false zb)).toNat ≠ 0)) big
  obtain ⟨zl, e1, l1, l2⟩ := down2 s q0 (pwr s (sgnd s false za) - pwr s (sgnd s false zb) - 130)
  have hd : divT s 2 false (whl s (sgnd s false za)).toNat (pwr s (sgnd s false za)) (whl s (sgnd s false zb)).toNat (pwr s (sgnd s false zb)) = sgnd s false zl := by
    unfold divT rnd
    rw [if_neg (by omega), show pwr s (sgnd s false za) - pwr s (sgnd s false zb) - 131 = pwr s (sgnd s false za) - pwr s (sgnd s false zb) - 130 - 1 by omega, st, e1]
  rw [hd, mul_pos_parts s 2 zl zb b0 l1 hb]
  obtain ⟨vl, vl'⟩ := worth s false zl l1
  obtain ⟨zm, em, m1, m2⟩ := rnd_down s ((whl s (sgnd s false zl)).toNat * (whl s (sgnd s false zb)).toNat) (pwr s (sgnd s false zl) + pwr s (sgnd s false zb))
  refine ⟨zm, em, by omega, le_of_val s (le2_same.1 (le2_trans m2 ?_) : val s zm ≤ val s za)⟩
  have c1 := le2_mul (le2_trans vl' l2) (whl s (sgnd s false zb)).toNat (pwr s (sgnd s false zb))
  refine le2_trans c1 ?_
  rw [show pwr s (sgnd s false za) - pwr s (sgnd s false zb) - 130 + pwr s (sgnd s false zb) = pwr s (sgnd s false za) - ((130 : Nat) : Int) by omega]
  exact le2_trans (le2_same.2 dq) (le2_trans (le2_up _ 130 _).2 va')
theorem inf_mul (s : Bool) (m : Int) (zb : Nat) (b0 : zb ≠ 0) (hb : (zb : Int) < fI s) : mulF s m (sgnd s false (fI s)) (sgnd s false zb) = sgnd s false (fI s) := by
  have i0 := fI_pos s
  have l := fI_lt s
  have n1 := num_made s false (fI s) i0 (Int.le_refl _)
  have n2 : cls s (sgnd s false (fI s)) = 4 := by rw [cls_made s false (fI s) i0 l, if_neg (by omega), if_pos rfl]
  obtain ⟨d1, d2, d3⟩ := self_cls s false zb b0 hb
  have g : sgn s (sgnd s false (fI s)) = false := (made s false (fI s) i0 l).2.2.2
  unfold mulF
  rw [n1, n2, d1, d2, d3, g, self_sgn s false zb hb]
  rw [show ((4 : Int) == 4) = true from rfl, show ((4 : Int) == 1) = false from rfl]
  simp only [Bool.or_false, Bool.false_or, Bool.or_self, Bool.false_and, Bool.and_false, Bool.and_self, Bool.true_and, Bool.true_or, Bool.false_eq_true, if_false, if_true, bne_self_eq_false]
theorem quot_up (s : Bool) (za zb : Nat) (a0 : za ≠ 0) (b0 : zb ≠ 0) (ha : (za : Int) < fI s) (hb : (zb : Int) < fI s) :
    ∃ zm : Nat, mulF s 1 (divF s 1 (sgnd s false za) (sgnd s false zb)) (sgnd s false zb) = sgnd s false zm ∧ (zm : Int) ≤ fI s ∧ za ≤ zm := by
  rw [div_pos_parts s 1 za zb a0 b0 ha hb]
  obtain ⟨wa0, wa1⟩ := whl_pos s false za a0 ha
  obtain ⟨wb0, wb1⟩ := whl_pos s false zb b0 hb
  obtain ⟨va, va'⟩ := worth s false za ha
  have big := quot_big s _ _ wa0 wb0 wb1
  generalize hwa : (whl s (sgnd s false za)).toNat = wa at *
  generalize hwb : (whl s (sgnd s false zb)).toNat = wb at *
  generalize hpa : pwr s (sgnd s false za) = pa at *
  generalize hpb : pwr s (sgnd s false zb) = pb at *
  have q0 : wa * 2 ^ 130 / wb ≠ 0 := by intro c; rw [c, blen_zero] at big; omega
  have up := (le2_up wa 130 pa).1
  have A0 : wa * 2 ^ 130 ≠ 0 := Nat.mul_ne_zero wa0 (Nat.ne_of_gt (Nat.two_pow_pos 130))
  have hdiv : divT s 1 false wa pa wb pb = rnd s 1 false (2 * (wa * 2 ^ 130 / wb) + (decide (wa * 2 ^ 130 % wb ≠ 0)).toNat) (pa - pb - 131) := rfl
  rw [hdiv]
  generalize wa * 2 ^ 130 = A at *
  clear hdiv
  have key : ∃ (zh Q : Nat), rnd s 1 false (2 * (A / wb) + (decide (A % wb ≠ 0)).toNat) (pa - pb - 131) = sgnd s false zh ∧ (zh : Int) ≤ fI s ∧ A ≤ Q * wb ∧ ((zh : Int) = fI s ∨ le2 Q (pa - pb - 130) (val s zh) (fL s)) := by
    have dm : A = A / wb * wb + A % wb := by rw [Nat.mul_comm]; exact (Nat.div_add_mod A wb).symm
    have lt : A % wb ≤ wb := Nat.le_of_lt (Nat.mod_lt A (Nat.pos_of_ne_zero wb0))
    generalize A / wb = q at *
    generalize A % wb = r at *
    unfold rnd
    rw [if_neg (by omega), show pa - pb - 131 = pa - pb - 130 - 1 by omega]
    by_cases c : r = 0
    · obtain ⟨z, e1, l1, l2⟩ := up2 s q0 (pa - pb - 130)
      have sc := mag_scale s 1 false q0 1 (pa - pb - 130)
      have d : (decide (r ≠ 0)).toNat = 0 := by rw [decide_eq_false (fun h : r ≠ 0 => h c)]; rfl
      have t1 : 2 * q + 0 = q * 2 ^ 1 := by clear dm lt sc e1 l2 big up; omega
      have t2 : pa - pb - 130 - 1 = pa - pb - 130 - ((1 : Nat) : Int) := rfl
      rw [d, t1, t2, sc, e1]
      refine ⟨z, q, rfl, l1, ?_, l2⟩
      rw [dm, c, Nat.add_zero]
      exact Nat.le_refl _
    · obtain ⟨z, e1, l1, l2⟩ := up_sticky s q (pa - pb - 130) big
      have d : (decide (r ≠ 0)).toNat = 1 := by rw [decide_eq_true (show r ≠ 0 from c)]; rfl
      rw [d, e1]
      refine ⟨z, q + 1, rfl, l1, ?_, l2⟩
      rw [dm, Nat.add_mul, Nat.one_mul]
      exact Nat.add_le_add_left lt _
  obtain ⟨zh, Q, ed, h1, hQ, h2⟩ := key
  rw [ed]
  by_cases c : (zh : Int) = fI s
  · rw [c, inf_mul s 1 zb b0 hb]
    exact ⟨zh, by rw [c], by omega, by omega⟩
  · have h3 : le2 Q (pa - pb - 130) (val s zh) (fL s) := by rcases h2 with t | t; exact absurd t c; exact t
    have hl : (zh : Int) < fI s := by omega
    obtain ⟨vh, vh'⟩ := worth s false zh hl
    have Q0 : Q ≠ 0 := by
      intro t
      subst t
      rw [Nat.zero_mul] at hQ
      omega
    have wh0 : (whl s (sgnd s false zh)).toNat ≠ 0 := by
      intro t
      have g := le2_trans h3 vh
      rw [t] at g
      unfold le2 at g
      rw [Nat.zero_mul] at g
      have : 0 < Q * 2 ^ (pa - pb - 130 - min (pa - pb - 130) (pwr s (sgnd s false zh))).toNat := Nat.mul_pos (by omega) (Nat.two_pow_pos _)
      omega
    rw [mul_pos_parts s 1 zh zb b0 hl hb, hwb, hpb]
    obtain ⟨zm, em, m1, m2⟩ := rnd_up s ((whl s (sgnd s false zh)).toNat * wb) (Nat.mul_ne_zero wh0 wb0) (pwr s (sgnd s false zh) + pb)
    refine ⟨zm, em, m1, ?_⟩
    rcases m2 with t | t
    · omega
    · refine le_of_val s (le2_same.1 (le2_trans ?_ t) : val s za ≤ val s zm)
      have c1 := le2_mul (le2_trans h3 vh) wb pb
      refine le2_trans ?_ c1
      rw [show pa - pb - 130 + pb = pa - ((130 : Nat) : Int) by omega]
      exact le2_trans va (le2_trans up (le2_same.2 hQ))
end Go.Proofs.YteafnkimcidkhaaGreat

