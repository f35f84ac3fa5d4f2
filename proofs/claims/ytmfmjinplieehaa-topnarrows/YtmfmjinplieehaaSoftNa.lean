/- A Double as a Single, and as a Double again: which way it goes. -/
import Derived.Test.YtmfmjinplieehaaConvB
import Derived.Test.YtmfmjinplieehaaSoftTp
namespace Go.Proofs.Ytmfmjinplieehaa
set_option linter.unusedVariables false
set_option linter.unusedSimpArgs false
theorem made_fin (s b : Bool) (y : Nat) (h : (y : Int) < fI s) : (cls s (sgnd s b y) == 0 || cls s (sgnd s b y) == 5) = false ∧ (cls s (sgnd s b y) == 4) = false := by
  have l := fI_lt s
  refine ⟨num_made s b y (by omega) (by omega), ?_⟩
  rw [cls_made s b y (by omega) (by omega)]
  have n1 : ¬ fI s < (y : Int) := by omega
  have n2 : ¬ (y : Int) = fI s := by omega
  rw [if_neg n1, if_neg n2]
  split
  · rfl
  · split <;> rfl
theorem made_inf (s b : Bool) : (cls s (sgnd s b (fI s)) == 0 || cls s (sgnd s b (fI s)) == 5) = false ∧ (cls s (sgnd s b (fI s)) == 4) = true ∧ sgn s (sgnd s b (fI s)) = b := by
  have l := fI_lt s
  have p : 0 ≤ fI s := by cases s <;> decide
  refine ⟨num_made s b _ p (by omega), ?_, (made s b _ p l).2.2.2⟩
  rw [cls_made s b _ p l, if_neg (by omega), if_pos rfl]
  rfl
theorem cvt_inf (s t b : Bool) (m : Int) : cvtF s t m (sgnd s b (fI s)) = sgnd t b (fI t) := by
  obtain ⟨a, c, d⟩ := made_inf s b
  unfold cvtF
  rw [a, c, d]
  rfl
theorem cvt_fin (s t b : Bool) (m : Int) (y : Nat) (h : (y : Int) < fI s) : cvtF s t m (sgnd s b y) = rnd t m b (whl s (sgnd s b y)).toNat (pwr s (sgnd s b y)) := by
  obtain ⟨a, c⟩ := made_fin s b y h
  have d := self_sgn s b y h
  unfold cvtF
  rw [a, c, d]
  rfl
/-- A Single is a Double of the same worth. -/
theorem wid (b : Bool) (m : Int) (y : Nat) (h : (y : Int) < fI true) : ∃ k : Nat, cvtF true false m (sgnd true b y) = sgnd false b k ∧ (k : Int) < fI false ∧ le2 (val true y) (fL true) (val false k) (fL false) ∧ le2 (val false k) (fL false) (val true y) (fL true) := by
  rw [cvt_fin true false b m y h]
  obtain ⟨x, q, hy, q1, q2, e1, e2⟩ := size_parts true b y h
  rw [e1, e2]
  have fi : fI true = 2139095040 := rfl
  have fi2 : fI false = 9218868437227405312 := rfl
  have fl : fL true = -149 := rfl
  have fl2 : fL false = -1074 := rfl
  have p1 : (2 : Nat) ^ fP true = 8388608 := rfl
  have p2 : (2 : Nat) ^ (fP true + 1) = 16777216 := rfl
  have p3 : (2 : Nat) ^ fP false = 4503599627370496 := rfl
  have p4 : (2 : Nat) ^ (fP false + 1) = 9007199254740992 := rfl
  have vy : val true y = q * 2 ^ x := by rw [hy]; exact val_at true x q (by omega) q2
  by_cases q0 : q = 0
  · subst q0
    rw [rnd_zero]
    refine ⟨0, rfl, by decide, ?_, ?_⟩
    · rw [vy, val_zero, Nat.zero_mul, fl, fl2, le2_at (-1074) (by decide) (by decide), Nat.zero_mul, Nat.zero_mul]; exact Nat.le_refl _
    · rw [vy, val_zero, Nat.zero_mul, fl, fl2, le2_at (-1074) (by decide) (by decide), Nat.zero_mul, Nat.zero_mul]; exact Nat.le_refl _
  · obtain ⟨l1, l2⟩ := blen_le q0
    have l3 := lt_blen q
    have l4 : blen q ≤ 24 := blen_le_of (by rw [p2] at q1; exact q1)
    obtain ⟨j, hj⟩ : ∃ j, j = 53 - blen q := ⟨_, rfl⟩
    have hx : x ≤ 255 := by
      rw [hy, p1] at h
      rw [fi] at h
      omega
    obtain ⟨x', hx'⟩ : ∃ x', x' + j = 925 + x := ⟨925 + x - j, by omega⟩
    have b1 : 2 ^ 52 ≤ q * 2 ^ j := by
      have : 2 ^ (blen q - 1) * 2 ^ j ≤ q * 2 ^ j := Nat.mul_le_mul_right _ l1
      rw [← Nat.pow_add] at this
      exact Nat.le_trans (Nat.pow_le_pow_right (by decide) (by omega)) this
    have b2 : q * 2 ^ j < 2 ^ 53 := by
      have : q * 2 ^ j < 2 ^ blen q * 2 ^ j := Nat.mul_lt_mul_of_pos_right l3 (Nat.two_pow_pos _)
      rw [← Nat.pow_add] at this
      exact Nat.lt_of_lt_of_le this (Nat.pow_le_pow_right (by decide) (by omega))
    have hk : ((x' * 2 ^ fP false + q * 2 ^ j : Nat) : Int) < fI false := by
      rw [p3, fi2]
      have : x' ≤ 1200 := by omega
      have : q * 2 ^ j < 9007199254740992 := b2
      generalize q * 2 ^ j = Q at *
      omega
    have ex := mag_exact false m b x' (q * 2 ^ j) (by omega) (by rw [p4]; exact b2) (Or.inr (by rw [p3]; exact b1)) hk
    have sc := mag_scale false m b q0 j (-149 + (x : Int))
    rw [show -149 + (x : Int) - (j : Int) = fL false + (x' : Int) by rw [fl2]; omega, ex] at sc
    refine ⟨x' * 2 ^ fP false + q * 2 ^ j, ?_, hk, ?_, ?_⟩
    · unfold rnd
      rw [if_neg q0, fl, ← sc]
    · rw [vy, val_at false x' (q * 2 ^ j) (by rw [p4]; omega) (Or.inr (by rw [p3]; exact b1)), fl, fl2, le2_at (-1074) (by decide) (by decide)]
      rw [Nat.mul_assoc, Nat.mul_assoc, Nat.mul_assoc, ← Nat.pow_add, ← Nat.pow_add, ← Nat.pow_add]
      apply Nat.le_of_eq
      congr 2
      omega
    · rw [vy, val_at false x' (q * 2 ^ j) (by rw [p4]; omega) (Or.inr (by rw [p3]; exact b1)), fl, fl2, le2_at (-1074) (by decide) (by decide)]
      rw [Nat.mul_assoc, Nat.mul_assoc, Nat.mul_assoc, ← Nat.pow_add, ← Nat.pow_add, ← Nat.pow_add]
      apply Nat.le_of_eq
      congr 2
      omega
theorem not_made {s b : Bool} {y z : Nat} (h : (y : Int) ≤ fI s) (k : (z : Int) ≤ fI s) (l : if b then z ≤ y else y ≤ z) : notF s (sgnd s b y) (sgnd s b z) = true := by
  have q := cmp_made s b b y z (by omega) h (by omega) k
  unfold notF
  rw [q]
  cases b
  · simp only [Bool.false_eq_true, if_false] at l ⊢
    simp
    split
    · decide
    · rw [if_neg (by omega)]; decide
  · simp only [if_true] at l ⊢
    simp
    split
    · decide
    · rw [if_neg (by omega)]; decide
theorem val_of_le2 {s : Bool} {y z : Nat} {e : Int} (h : le2 (val s y) e (val s z) e) : y ≤ z := le_of_val s (le2_same.1 h)
theorem inf_nat (s : Bool) : ∃ i : Nat, fI s = (i : Int) := by cases s <;> exact ⟨_, rfl⟩
/-- Widen of what has been rounded towards 0, and away from it. -/
theorem wide_in (b : Bool) (z y : Nat) (hz : (z : Int) < fI false) (hy : (y : Int) < fI true)
    (h : le2 (val true y) (fL true) (whl false (sgnd false b z)).toNat (pwr false (sgnd false b z))) :
    ∃ k : Nat, cvtF true false 0 (sgnd true b y) = sgnd false b k ∧ (k : Int) ≤ fI false ∧ k ≤ z := by
  obtain ⟨k, e, k1, k2, k3⟩ := wid b 0 y hy
  obtain ⟨w1, w2⟩ := worth false b z hz
  exact ⟨k, e, by omega, val_of_le2 (le2_trans k3 (le2_trans h w2))⟩
theorem wide_out (b : Bool) (z y : Nat) (hz : (z : Int) < fI false) (hy : (y : Int) ≤ fI true)
    (h : (y : Int) = fI true ∨ le2 (whl false (sgnd false b z)).toNat (pwr false (sgnd false b z)) (val true y) (fL true)) :
    ∃ k : Nat, cvtF true false 0 (sgnd true b y) = sgnd false b k ∧ (k : Int) ≤ fI false ∧ z ≤ k := by
  by_cases c : (y : Int) = fI true
  · obtain ⟨i, hi⟩ := inf_nat false
    rw [c, cvt_inf, hi]
    exact ⟨i, rfl, by omega, by omega⟩
  · obtain ⟨k, e, k1, k2, k3⟩ := wid b 0 y (by omega)
    obtain ⟨w1, w2⟩ := worth false b z hz
    rcases h with h | h
    · exact absurd h c
    · exact ⟨k, e, by omega, val_of_le2 (le2_trans w1 (le2_trans h k2))⟩
/-- A number rounded towards 0, or away from it, as a Single. -/
theorem to_in (s b : Bool) (n : Nat) (e : Int) : ∃ y : Nat, rnd s (if b then 1 else 2) b n e = sgnd s b y ∧ (y : Int) < fI s ∧ le2 (val s y) (fL s) n e := by
  obtain ⟨y, e1, e2, e3⟩ := rnd_down s n e
  cases b
  · exact ⟨y, e1, e2, e3⟩
  · obtain ⟨t, f1, f2, f3⟩ := rnd_made s 1 true n e
    have g := rnd_neg s true n e
    rw [f1, neg_made s true t f2 f3] at g
    have g' : sgnd s false t = sgnd s false (y : Int) := g.trans e1
    have : t = (y : Int) := g'
    subst this
    exact ⟨y, f1, e2, e3⟩
theorem to_out (s b : Bool) (n : Nat) (e : Int) : ∃ y : Nat, rnd s (if b then 2 else 1) b n e = sgnd s b y ∧ (y : Int) ≤ fI s ∧ ((y : Int) = fI s ∨ le2 n e (val s y) (fL s)) := by
  by_cases n0 : n = 0
  · subst n0
    rw [rnd_zero]
    refine ⟨0, rfl, by have := fI_pos s; exact this, Or.inr ?_⟩
    unfold le2
    rw [Nat.zero_mul]
    exact Nat.zero_le _
  · obtain ⟨y, e1, e2, e3⟩ := rnd_up s n n0 e
    cases b
    · exact ⟨y, e1, e2, e3⟩
    · have g := rnd_neg s false n e
      rw [e1, neg_made s false y (by omega) e2] at g
      exact ⟨y, g.symm, e2, e3⟩
/-- A Double lies between its Singles; near it is one of them. -/
theorem narrows (a : Int) (h : Word a) (hn : (cls false a == 5) = false) :
    notF false (cvtF true false 0 (cvtF false true 2 a)) a = true ∧ notF false a (cvtF true false 0 (cvtF false true 1 a)) = true ∧ (cvtF false true 0 a = cvtF false true 2 a ∨ cvtF false true 0 a = cvtF false true 1 a) := by
  rcases num_or false a h with c | ⟨b, z', rfl, z0, z1⟩
  · exfalso
    have w : wideB false a = false := rfl
    have c0 : (cls false a == 0) = false := by
      unfold cls
      rw [w, if_neg (by decide)]
      split
      · rfl
      · split
        · rfl
        · split
          · rfl
          · split <;> rfl
    rw [c0, hn] at c
    exact absurd c (by decide)
  · obtain ⟨z, rfl⟩ := Int.eq_ofNat_of_zero_le z0
    by_cases c : (z : Int) = fI false
    · rw [c]
      simp only [cvt_inf]
      obtain ⟨i, hi⟩ := inf_nat false
      rw [hi]
      have t : notF false (sgnd false b i) (sgnd false b i) = true := not_made (by omega) (by omega) (by cases b <;> simp)
      exact ⟨t, t, Or.inl trivial⟩
    · have zl : (z : Int) < fI false := by omega
      rw [cvt_fin false true b 2 z zl, cvt_fin false true b 1 z zl, cvt_fin false true b 0 z zl]
      obtain ⟨yi, ei, i1, i2⟩ := to_in true b (whl false (sgnd false b z)).toNat (pwr false (sgnd false b z))
      obtain ⟨yo, eo, o1, o2⟩ := to_out true b (whl false (sgnd false b z)).toNat (pwr false (sgnd false b z))
      obtain ⟨ki, ki1, ki2, ki3⟩ := wide_in b z yi zl i1 i2
      obtain ⟨ko, ko1, ko2, ko3⟩ := wide_out b z yo zl o1 o2
      have f4 := four_law (four_rnd true b (whl false (sgnd false b z)).toNat (pwr false (sgnd false b z)))
      have f5 : rnd true 0 b (whl false (sgnd false b z)).toNat (pwr false (sgnd false b z)) = rnd true 2 b (whl false (sgnd false b z)).toNat (pwr false (sgnd false b z)) ∨ rnd true 0 b (whl false (sgnd false b z)).toNat (pwr false (sgnd false b z)) = rnd true 1 b (whl false (sgnd false b z)).toNat (pwr false (sgnd false b z)) := by
        rcases f4 with ⟨_, q, _⟩ | ⟨_, _, _, _, q, _⟩
        · exact Or.inr q.symm
        · rcases q with q | q
          · exact Or.inr q
          · exact Or.inl q
      refine ⟨?_, ?_, f5⟩
      · cases b
        · simp only [Bool.false_eq_true, if_false] at ei
          rw [ei, ki1]
          exact not_made ki2 (by omega) (by simpa using ki3)
        · simp only [if_true] at eo
          rw [eo, ko1]
          exact not_made ko2 (by omega) (by simpa using ko3)
      · cases b
        · simp only [Bool.false_eq_true, if_false] at eo
          rw [eo, ko1]
          exact not_made (by omega) ko2 (by simpa using ko3)
        · simp only [if_true] at ei
          rw [ei, ki1]
          exact not_made (by omega) ki2 (by simpa using ki3)
theorem cvt_word (s t : Bool) (m a : Int) : Word (cvtF s t m a) := by
  unfold cvtF
  split
  · cases t <;> exact ⟨by decide, by decide⟩
  · split
    · have l := fI_lt t
      exact (made t _ (fI t) (by cases t <;> decide) l).1
    · obtain ⟨z, e, h0, h1⟩ := rnd_made t m (sgn s a) (whl s a).toNat (pwr s a)
      rw [e]
      have l := fI_lt t
      exact (made t _ z h0 (by omega)).1
theorem cvt_one : cvtF true false 0 1065353216 = 4607182418800017408 := by decide +kernel
end Go.Proofs.Ytmfmjinplieehaa

