/- Roots' squares, in plain numbers. -/
import Derived.Test.YtfgddpjdkeannadSoftTp
import Derived.Test.YtfgddpjdkeannadSoftQ
namespace Go.Proofs.Ytfgddpjdkeannad
open Go.RowKit
set_option linter.unusedVariables false
set_option linter.unusedSimpArgs false
theorem le2_sq {n m : Nat} {e f : Int} (h : le2 n e m f) : le2 (n * n) (e + e) (m * m) (f + f) := by
  have a := le2_mul h n e
  have b := le2_mul h m f
  rw [Nat.mul_comm n m, Int.add_comm e f] at b
  exact le2_trans a b
theorem root_big (s : Bool) (A : Nat) (h : 2 ^ 125 ≤ A) : fP s + 2 ≤ blen (isq A) := by
  obtain ⟨a, b⟩ := isq_spec A
  have big : 2 ^ 62 ≤ isq A := by
    by_cases c : 2 ^ 62 ≤ isq A
    · exact c
    · have : (isq A + 1) * (isq A + 1) ≤ 2 ^ 62 * 2 ^ 62 := Nat.mul_le_mul (by omega) (by omega)
      omega
  have := le_blen big
  have := fP_le s
  omega
theorem root_parts (u : Nat) (p : Int) (u0 : u ≠ 0) (hu : u < 2 ^ 53) : 2 ^ 125 ≤ u * 2 ^ rootUp u p ∧ p - rootUp u p = (p - rootUp u p) / 2 + (p - rootUp u p) / 2 := by
  obtain ⟨a, b⟩ := blen_le u0
  have d : blen u ≤ 53 := blen_le_of hu
  have g : 126 - blen u ≤ rootUp u p := by unfold rootUp; split <;> omega
  constructor
  · have : 2 ^ (blen u - 1) * 2 ^ rootUp u p ≤ u * 2 ^ rootUp u p := Nat.mul_le_mul_right _ a
    rw [← Nat.pow_add] at this
    exact Nat.le_trans (Nat.pow_le_pow_right (by decide) (by omega)) this
  · unfold rootUp
    split <;> omega
theorem sqrt_pos_parts (s : Bool) (m : Int) (za : Nat) (a0 : za ≠ 0) (ha : (za : Int) < fI s) : sqrtF s m (sgnd s false za) = sqrtT s m (whl s (sgnd s false za)).toNat (pwr s (sgnd s false za)) := by
  obtain ⟨c1, c2, c3⟩ := self_cls s false za a0 ha
  unfold sqrtF
  rw [c1, c2, c3, self_sgn s false za ha]
  simp only [Bool.false_eq_true, if_false]
theorem sq_parts (s : Bool) (m : Int) (zl : Nat) (hl : (zl : Int) < fI s) :
    mulF s m (sgnd s false zl) (sgnd s false zl) = rnd s m false ((whl s (sgnd s false zl)).toNat * (whl s (sgnd s false zl)).toNat) (pwr s (sgnd s false zl) + pwr s (sgnd s false zl)) := by
  have n1 := num_made s false zl (by omega) (by omega)
  have n2 : (cls s (sgnd s false zl) == 4) = false := by
    have := cls_made s false zl (by omega) (by have := fI_lt s; omega)
    rw [if_neg (by omega), if_neg (by omega)] at this
    rw [this]
    split
    · rfl
    · split <;> rfl
  unfold mulF
  rw [n1, n2, self_sgn s false zl hl]
  simp only [Bool.or_false, Bool.false_or, Bool.or_self, Bool.false_and, Bool.and_false, Bool.and_self, Bool.false_eq_true, if_false, bne_self_eq_false]
theorem inf_inf (s : Bool) (m : Int) : mulF s m (sgnd s false (fI s)) (sgnd s false (fI s)) = sgnd s false (fI s) := by
  have i0 := fI_pos s
  have l := fI_lt s
  have n1 := num_made s false (fI s) i0 (Int.le_refl _)
  have n2 : cls s (sgnd s false (fI s)) = 4 := by rw [cls_made s false (fI s) i0 l, if_neg (by omega), if_pos rfl]
  have g : sgn s (sgnd s false (fI s)) = false := (made s false (fI s) i0 l).2.2.2
  unfold mulF
  rw [n1, n2, g, show ((4 : Int) == 4) = true from rfl, show ((4 : Int) == 1) = false from rfl]
  simp only [Bool.or_false, Bool.false_or, Bool.or_self, Bool.false_and, Bool.and_false, Bool.and_self, Bool.true_and, Bool.true_or, Bool.false_eq_true, if_false, if_true, bne_self_eq_false]
theorem sq_down (s : Bool) (za : Nat) (a0 : za ≠ 0) (ha : (za : Int) < fI s) :
    ∃ zm : Nat, mulF s 2 (sqrtF s 2 (sgnd s false za)) (sqrtF s 2 (sgnd s false za)) = sgnd s false zm ∧ (zm : Int) ≤ fI s ∧ zm ≤ za := by
  rw [sqrt_pos_parts s 2 za a0 ha]
  obtain ⟨wa0, wa1⟩ := whl_pos s false za a0 ha
  obtain ⟨va, va'⟩ := worth s false za ha
  obtain ⟨r1, r2⟩ := root_parts _ (pwr s (sgnd s false za)) wa0 wa1
  have up := (le2_up (whl s (sgnd s false za)).toNat (rootUp (whl s (sgnd s false za)).toNat (pwr s (sgnd s false za))) (pwr s (sgnd s false za))).2
  unfold sqrtT
  generalize (pwr s (sgnd s false za) - ((rootUp (whl s (sgnd s false za)).toNat (pwr s (sgnd s false za)) : Nat) : Int)) / 2 = e0 at *
  generalize (whl s (sgnd s false za)).toNat * 2 ^ rootUp (whl s (sgnd s false za)).toNat (pwr s (sgnd s false za)) = A at *
  have big := root_big s A r1
  obtain ⟨i1, i2⟩ := isq_spec A
  have q0 : isq A ≠ 0 := by intro c; rw [c, blen_zero] at big; omega
  have st := down_sticky s (isq A) e0 (decide (A - isq A * isq A ≠ 0)) big
  obtain ⟨zl, e1, l1, l2⟩ := down2 s q0 e0
  have hd : rnd s 2 false (2 * isq A + (decide (A - isq A * isq A ≠ 0)).toNat) (e0 - 1) = sgnd s false zl := by
    unfold rnd
    rw [if_neg (by omega), st, e1]
  rw [hd, sq_parts s 2 zl l1]
  obtain ⟨vl, vl'⟩ := worth s false zl l1
  obtain ⟨zm, em, m1, m2⟩ := rnd_down s ((whl s (sgnd s false zl)).toNat * (whl s (sgnd s false zl)).toNat) (pwr s (sgnd s false zl) + pwr s (sgnd s false zl))
  refine ⟨zm, em, by omega, le_of_val s (le2_same.1 (le2_trans m2 ?_) : val s zm ≤ val s za)⟩
  refine le2_trans (le2_sq (le2_trans vl' l2)) ?_
  rw [← r2]
  exact le2_trans (le2_same.2 i1) (le2_trans up va')
theorem sq_up (s : Bool) (za : Nat) (a0 : za ≠ 0) (ha : (za : Int) < fI s) :
    ∃ zm : Nat, mulF s 1 (sqrtF s 1 (sgnd s false za)) (sqrtF s 1 (sgnd s false za)) = sgnd s false zm ∧ (zm : Int) ≤ fI s ∧ za ≤ zm := by
  rw [sqrt_pos_parts s 1 za a0 ha]
  obtain ⟨wa0, wa1⟩ := whl_pos s false za a0 ha
  obtain ⟨va, va'⟩ := worth s false za ha
  obtain ⟨r1, r2⟩ := root_parts _ (pwr s (sgnd s false za)) wa0 wa1
  have up := (le2_up (whl s (sgnd s false za)).toNat (rootUp (whl s (sgnd s false za)).toNat (pwr s (sgnd s false za))) (pwr s (sgnd s false za))).1
  unfold sqrtT
  generalize (pwr s (sgnd s false za) - ((rootUp (whl s (sgnd s false za)).toNat (pwr s (sgnd s false za)) : Nat) : Int)) / 2 = e0 at *
  generalize (whl s (sgnd s false za)).toNat * 2 ^ rootUp (whl s (sgnd s false za)).toNat (pwr s (sgnd s false za)) = A at *
  have big := root_big s A r1
  obtain ⟨i1, i2⟩ := isq_spec A
  have q0 : isq A ≠ 0 := by intro c; rw [c, blen_zero] at big; omega
  have key : ∃ (zh Q : Nat), rnd s 1 false (2 * isq A + (decide (A - isq A * isq A ≠ 0)).toNat) (e0 - 1) = sgnd s false zh ∧ (zh : Int) ≤ fI s ∧ A ≤ Q * Q ∧ Q ≠ 0 ∧ ((zh : Int) = fI s ∨ le2 Q e0 (val s zh) (fL s)) := by
    generalize hq : isq A = q at *
    unfold rnd
    rw [if_neg (by omega)]
    by_cases c : A - q * q = 0
    · obtain ⟨z, e1, l1, l2⟩ := up2 s q0 e0
      have sc := mag_scale s 1 false q0 1 e0
      have d : (decide (A - q * q ≠ 0)).toNat = 0 := by rw [decide_eq_false (fun h : A - q * q ≠ 0 => h c)]; rfl
      have t1 : 2 * q + 0 = q * 2 ^ 1 := by clear sc e1 l2 big up r1 i1 i2; omega
      have t2 : e0 - 1 = e0 - ((1 : Nat) : Int) := rfl
      rw [d, t1, t2, sc, e1]
      exact ⟨z, q, rfl, l1, by omega, q0, l2⟩
    · obtain ⟨z, e1, l1, l2⟩ := up_sticky s q e0 big
      have d : (decide (A - q * q ≠ 0)).toNat = 1 := by rw [decide_eq_true (show A - q * q ≠ 0 from c)]; rfl
      rw [d, e1]
      exact ⟨z, q + 1, rfl, l1, by omega, by omega, l2⟩
  obtain ⟨zh, Q, ed, h1, hQ, Q0, h2⟩ := key
  rw [ed]
  by_cases c : (zh : Int) = fI s
  · rw [c, inf_inf s 1]
    exact ⟨zh, by rw [c], by omega, by omega⟩
  · have h3 : le2 Q e0 (val s zh) (fL s) := by rcases h2 with t | t; exact absurd t c; exact t
    have hl : (zh : Int) < fI s := by omega
    obtain ⟨vh, vh'⟩ := worth s false zh hl
    have wh0 : (whl s (sgnd s false zh)).toNat ≠ 0 := by
      intro t
      have g := le2_trans h3 vh
      rw [t] at g
      unfold le2 at g
      rw [Nat.zero_mul] at g
      have : 0 < Q * 2 ^ (e0 - min e0 (pwr s (sgnd s false zh))).toNat := Nat.mul_pos (by omega) (Nat.two_pow_pos _)
      omega
    rw [sq_parts s 1 zh hl]
    obtain ⟨zm, em, m1, m2⟩ := rnd_up s ((whl s (sgnd s false zh)).toNat * (whl s (sgnd s false zh)).toNat) (Nat.mul_ne_zero wh0 wh0) (pwr s (sgnd s false zh) + pwr s (sgnd s false zh))
    refine ⟨zm, em, m1, ?_⟩
    rcases m2 with t | t
    · omega
    · refine le_of_val s (le2_same.1 (le2_trans ?_ t) : val s za ≤ val s zm)
      refine le2_trans ?_ (le2_sq (le2_trans h3 vh))
      rw [← r2]
      exact le2_trans va (le2_trans up (le2_same.2 hQ))
theorem cls_zero (s b : Bool) : cls s (sgnd s b 0) = 1 := by
  have i : ¬ (0 : Int) = fI s := by cases s <;> decide
  rw [cls_made s b 0 (Int.le_refl _) (by cases s <;> decide), if_neg (by have := fI_pos s; omega), if_neg i, if_pos rfl]
theorem sqrt_zero (s : Bool) (m : Int) (b : Bool) : sqrtF s m (sgnd s b 0) = sgnd s b 0 := by
  unfold sqrtF
  rw [cls_zero]
  rfl
theorem sq_zero (s : Bool) (m : Int) (b : Bool) : mulF s m (sgnd s b 0) (sgnd s b 0) = sgnd s false 0 := by
  obtain ⟨w, _⟩ := whl_made s b 0 (Int.le_refl _) (by cases s <;> decide)
  rw [if_neg (by rw [Int.zero_ediv]; decide), Int.zero_emod] at w
  unfold mulF
  rw [cls_zero, w, bne_self_eq_false, show ((1 : Int) == 0 || (1 : Int) == 5) = false from rfl, show ((1 : Int) == 4) = false from rfl]
  simp only [Bool.or_false, Bool.false_or, Bool.or_self, Bool.false_and, Bool.and_false, Bool.and_self, Bool.false_eq_true, if_false]
  exact rnd_zero s m false _
theorem not_zero (s b c : Bool) : notF s (sgnd s b 0) (sgnd s c 0) = true := by
  have q := cmp_made s b c 0 0 (Int.le_refl _) (fI_pos s) (Int.le_refl _) (fI_pos s)
  unfold notF
  rw [q]
  cases b <;> cases c <;> rfl
theorem nonneg_of (s : Bool) (a : Int) (h : Word a) (f : finF s a = true) (n : notF s 0 a = true) : (∃ b, a = sgnd s b 0) ∨ ∃ z : Nat, z ≠ 0 ∧ (z : Int) < fI s ∧ a = sgnd s false z := by
  have i0 := fI_pos s
  have l := fI_lt s
  rcases num_or s a h with c | ⟨b, z, rfl, z0, z1⟩
  · unfold finF at f
    rcases Bool.or_eq_true _ _ ▸ c with t | t
    · rw [beq_iff_eq.1 t] at f; exact absurd f (by decide)
    · rw [beq_iff_eq.1 t] at f; exact absurd f (by decide)
  · have q := cmp_made s false b 0 z (Int.le_refl _) i0 z0 z1
    have e0 : sgnd s false 0 = 0 := rfl
    rw [e0] at q
    obtain ⟨k, rfl⟩ := Int.eq_ofNat_of_zero_le z0
    have z2 : ¬ (k : Int) = fI s := by
      intro t
      unfold finF at f
      rw [cls_made s b k z0 (by omega), if_neg (by omega), if_pos t] at f
      exact absurd f (by decide)
    by_cases t : k = 0
    · subst t
      exact Or.inl ⟨b, rfl⟩
    · cases b
      · exact Or.inr ⟨k, t, by omega, rfl⟩
      · unfold notF at n
        rw [q] at n
        simp only [if_true, Bool.false_eq_true, if_false, Bool.true_and, decide_eq_true_eq] at n
        rw [if_neg (by omega), if_pos (by omega)] at n
        exact absurd n (by decide)
theorem sqrtF_word (s : Bool) (m a : Int) (h : Word a) : Word (sqrtF s m a) := by
  unfold sqrtF
  split
  · exact nan_word s
  · split
    · exact h
    · split
      · exact nan_word s
      · split
        · exact h
        · exact rnd_word _ _ _ _ _
theorem roots_law (s : Bool) (a : Int) (h : Word a) (f : finF s a = true) (n : notF s 0 a = true) :
    notF s (mulF s 2 (sqrtF s 2 a) (sqrtF s 2 a)) a = true ∧ notF s a (mulF s 1 (sqrtF s 1 a) (sqrtF s 1 a)) = true := by
  rcases nonneg_of s a h f n with ⟨b, rfl⟩ | ⟨z, z0, z1, rfl⟩
  · rw [sqrt_zero, sqrt_zero, sq_zero, sq_zero]
    exact ⟨not_zero s false b, not_zero s b false⟩
  · obtain ⟨zm, e1, l1, l2⟩ := sq_down s z z0 z1
    obtain ⟨zn, e2, l3, l4⟩ := sq_up s z z0 z1
    rw [e1, e2]
    exact ⟨cmp_num l1 (by omega) rfl rfl l2, cmp_num (by omega) l3 rfl rfl l4⟩
end Go.Proofs.Ytfgddpjdkeannad
