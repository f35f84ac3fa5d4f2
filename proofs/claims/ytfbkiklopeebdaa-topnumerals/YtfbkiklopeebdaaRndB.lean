/- What sizes are worth; what is rounded down is not above, what is rounded up is not below. -/
import Derived.Test.YtfbkiklopeebdaaRnd
namespace Go.Proofs.Ytfbkiklopeebdaa
set_option linter.unusedVariables false
set_option linter.unusedSimpArgs false
/-- What a size is worth, in the least steps. -/
def val (s : Bool) (z : Nat) : Nat := if z / 2 ^ fP s = 0 then z else (z % 2 ^ fP s + 2 ^ fP s) * 2 ^ (z / 2 ^ fP s - 1)
theorem val_at (s : Bool) (x q : Nat) (h : q ≤ 2 ^ (fP s + 1)) (h0 : x = 0 ∨ 2 ^ fP s ≤ q) : val s (x * 2 ^ fP s + q) = q * 2 ^ x := by
  unfold val
  have hp := Nat.two_pow_pos (fP s)
  rw [Nat.pow_succ] at h
  generalize hQ : 2 ^ fP s = Q at *
  by_cases c : q < Q
  · have : x = 0 := by omega
    subst this
    rw [Nat.zero_mul, Nat.zero_add, Nat.div_eq_of_lt c, if_pos rfl]
    omega
  · by_cases d : q < 2 * Q
    · have e : x * Q + q = (q - Q) + Q * (x + 1) := by rw [Nat.mul_add, Nat.mul_comm Q]; omega
      rw [e, Nat.add_mul_div_left _ _ hp, Nat.div_eq_of_lt (by omega), Nat.add_mul_mod_self_left, Nat.mod_eq_of_lt (by omega), if_neg (by omega)]
      congr 1
      · omega
      · congr 1; omega
    · have e : x * Q + q = 0 + Q * (x + 2) := by rw [Nat.mul_add, Nat.mul_comm Q]; omega
      rw [e, Nat.add_mul_div_left _ _ hp, Nat.zero_div, Nat.add_mul_mod_self_left, Nat.zero_mod, if_neg (by omega), Nat.zero_add]
      rw [show 0 + (x + 2) - 1 = x + 1 by omega, Nat.pow_succ, show q = Q * 2 by omega, Nat.mul_assoc]
      congr 1
      rw [Nat.mul_comm]
theorem val_parts (s : Bool) (z : Nat) : ∃ x q, z = x * 2 ^ fP s + q ∧ q < 2 ^ (fP s + 1) ∧ (x = 0 ∨ 2 ^ fP s ≤ q) := by
  have hp := Nat.two_pow_pos (fP s)
  rw [Nat.pow_succ]
  generalize 2 ^ fP s = Q at *
  have dm := Nat.div_add_mod z Q
  have lt := Nat.mod_lt z hp
  by_cases c : z < Q
  · exact ⟨0, z, by omega, by omega, Or.inl rfl⟩
  · have : 0 < z / Q := Nat.div_pos (by omega) hp
    refine ⟨z / Q - 1, z % Q + Q, ?_, by omega, Or.inr (by omega)⟩
    have : z / Q * Q = (z / Q - 1) * Q + Q := by rw [← Nat.succ_mul]; congr 1; omega
    rw [Nat.mul_comm] at dm
    omega
theorem val_succ (s : Bool) (z : Nat) : val s z < val s (z + 1) := by
  obtain ⟨x, q, e, h, h0⟩ := val_parts s z
  rw [e, val_at s x q (by omega) h0, Nat.add_assoc, val_at s x (q + 1) (by omega) (by omega)]
  exact Nat.mul_lt_mul_of_pos_right (by omega) (Nat.two_pow_pos x)
theorem val_lt (s : Bool) {y z : Nat} (h : y < z) : val s y < val s z := by
  induction z with
  | zero => omega
  | succ z ih =>
    by_cases c : y = z
    · subst c; exact val_succ s y
    · exact Nat.lt_trans (ih (by omega)) (val_succ s z)
theorem val_le (s : Bool) {y z : Nat} (h : y ≤ z) : val s y ≤ val s z := by
  by_cases c : y = z
  · subst c; exact Nat.le_refl _
  · exact Nat.le_of_lt (val_lt s (by omega))
theorem lt_of_val (s : Bool) {y z : Nat} (h : val s y < val s z) : y < z := by
  by_cases c : y < z
  · exact c
  · have := val_le s (Nat.le_of_not_lt c); omega
theorem le_of_val (s : Bool) {y z : Nat} (h : val s y ≤ val s z) : y ≤ z := by
  by_cases c : y ≤ z
  · exact c
  · have := val_lt s (Nat.lt_of_not_le c); omega
theorem val_zero (s : Bool) : val s 0 = 0 := by unfold val; rw [Nat.zero_div, if_pos rfl]
/-- What is kept, and what it is worth. -/
theorem kept (s : Bool) {n : Nat} (h : n ≠ 0) (e E : Int) (h1 : E ≤ e) (h2 : E ≤ fL s) :
    ∃ x : Nat, lastOf s n e - fL s = x ∧ quo n (lastOf s n e - e) < 2 ^ (fP s + 1) ∧ (x = 0 ∨ 2 ^ fP s ≤ quo n (lastOf s n e - e)) ∧
      quo n (lastOf s n e - e) * 2 ^ (x + (fL s - E).toNat) ≤ n * 2 ^ (e - E).toNat ∧ n * 2 ^ (e - E).toNat < (quo n (lastOf s n e - e) + 1) * 2 ^ (x + (fL s - E).toNat) ∧
      ((half n (lastOf s n e - e) || low n (lastOf s n e - e)) = false → n * 2 ^ (e - E).toNat = quo n (lastOf s n e - e) * 2 ^ (x + (fL s - E).toNat)) := by
  have hl : fL s ≤ lastOf s n e := by unfold lastOf; omega
  have hl2 : (blen n : Int) - (fP s + 1) + e ≤ lastOf s n e := by unfold lastOf; omega
  have hl3 : lastOf s n e = fL s ∨ lastOf s n e = (blen n : Int) - (fP s + 1) + e := by unfold lastOf; omega
  obtain ⟨b1, b2⟩ := blen_le h
  have b3 := lt_blen n
  generalize lastOf s n e = L at *
  refine ⟨(L - fL s).toNat, by omega, ?_⟩
  have ex : (L - fL s).toNat + (fL s - E).toNat = (L - E).toNat := by omega
  rw [ex]
  by_cases c : L - e ≤ 0
  · have q : quo n (L - e) = n * 2 ^ (e - L).toNat := by unfold quo; rw [if_pos c]; congr 2; omega
    have ee : n * 2 ^ (e - L).toNat * 2 ^ (L - E).toNat = n * 2 ^ (e - E).toNat := by rw [Nat.mul_assoc, ← Nat.pow_add]; congr 2; omega
    rw [q]
    refine ⟨?_, ?_, ?_, ?_, ?_⟩
    · have : n * 2 ^ (e - L).toNat < 2 ^ blen n * 2 ^ (e - L).toNat := Nat.mul_lt_mul_of_pos_right b3 (Nat.two_pow_pos _)
      rw [← Nat.pow_add] at this
      exact Nat.lt_of_lt_of_le this (Nat.pow_le_pow_right (by decide) (by omega))
    · rcases hl3 with g | g
      · left; omega
      · right
        have : 2 ^ (blen n - 1) * 2 ^ (e - L).toNat ≤ n * 2 ^ (e - L).toNat := Nat.mul_le_mul_right _ b1
        rw [← Nat.pow_add] at this
        exact Nat.le_trans (Nat.pow_le_pow_right (by decide) (by omega)) this
    · omega
    · rw [Nat.add_mul, ee]; have := Nat.two_pow_pos (L - E).toNat; omega
    · intro _; exact ee.symm
  · have q : quo n (L - e) = n / 2 ^ (L - e).toNat := by unfold quo; rw [if_neg c]
    have hp := Nat.two_pow_pos (L - e).toNat
    have dm := Nat.div_add_mod n (2 ^ (L - e).toNat)
    have lt := Nat.mod_lt n hp
    have ee : 2 ^ (L - E).toNat = 2 ^ (L - e).toNat * 2 ^ (e - E).toNat := by rw [← Nat.pow_add]; congr 1; omega
    have p2 := Nat.two_pow_pos (e - E).toNat
    rw [q]
    refine ⟨?_, ?_, ?_, ?_, ?_⟩
    · rw [Nat.div_lt_iff_lt_mul hp, ← Nat.pow_add]
      exact Nat.lt_of_lt_of_le b3 (Nat.pow_le_pow_right (by decide) (by omega))
    · rcases hl3 with g | g
      · left; omega
      · right
        rw [Nat.le_div_iff_mul_le hp, ← Nat.pow_add]
        exact Nat.le_trans (Nat.pow_le_pow_right (by decide) (by omega)) b1
    · rw [ee, ← Nat.mul_assoc]
      exact Nat.mul_le_mul_right _ (by rw [Nat.mul_comm]; omega)
    · rw [ee, ← Nat.mul_assoc]
      exact Nat.mul_lt_mul_of_pos_right (by rw [Nat.add_mul, Nat.mul_comm]; omega) p2
    · intro ho
      rw [ee, ← Nat.mul_assoc]
      congr 1
      have k1 : 1 ≤ L - e := by omega
      unfold half low at ho
      rw [decide_eq_true k1] at ho
      have kk : (L - e).toNat = ((L - e).toNat - 1) + 1 := by omega
      generalize (L - e).toNat - 1 = j at *
      rw [kk, Nat.pow_succ] at dm ⊢
      simp only [Bool.true_and, Bool.or_eq_false_iff, beq_eq_false_iff_ne, bne_eq_false_iff_eq, ne_eq] at ho
      obtain ⟨o1, o2⟩ := ho
      have t1 := Nat.div_add_mod n (2 ^ j)
      rw [o2] at t1
      have t2 : n / (2 ^ j * 2) = n / 2 ^ j / 2 := (Nat.div_div_eq_div_mul _ _ _).symm
      rw [t2]
      generalize n / 2 ^ j = y at *
      have t3 : y = 2 * (y / 2) := by omega
      have : n = 2 ^ j * y := by omega
      rw [this]
      conv => lhs; rw [t3]
      simp only [Nat.mul_comm, Nat.mul_left_comm, Nat.mul_assoc]
theorem fI_nat (s : Bool) : ∃ i : Nat, fI s = i ∧ 0 < i ∧ (i : Int) < fS s := by
  cases s
  · exact ⟨9218868437227405312, rfl, by decide, by decide⟩
  · exact ⟨2139095040, rfl, by decide, by decide⟩
/-- Never away from 0: what is told is not above. -/
theorem mag_down (s : Bool) (m : Int) (b : Bool) (hm : ∀ o h l, away m b o h l = false) {n : Nat} (h : n ≠ 0) (e E : Int) (h1 : E ≤ e) (h2 : E ≤ fL s) :
    ∃ z : Nat, mag s m b n e = z ∧ (z : Int) < fI s ∧ val s z * 2 ^ (fL s - E).toNat ≤ n * 2 ^ (e - E).toNat := by
  obtain ⟨x, ex, q1, q2, q3, q4, q5⟩ := kept s h e E h1 h2
  obtain ⟨i, ei, i0, _⟩ := fI_nat s
  unfold mag fin great
  rw [ex, ei, hm, hm]
  generalize quo n (lastOf s n e - e) = q at *
  have v := val_at s x q (by omega) q2
  have le : val s (x * 2 ^ fP s + q) * 2 ^ (fL s - E).toNat ≤ n * 2 ^ (e - E).toNat := by rw [v, Nat.mul_assoc, ← Nat.pow_add]; exact q3
  have cast : (x : Int) * 2 ^ fP s + ((q + if false = true then 1 else 0 : Nat) : Int) = ((x * 2 ^ fP s + q : Nat) : Int) := by simp
  rw [cast]
  generalize x * 2 ^ fP s + q = z at *
  by_cases c : (i : Int) ≤ (z : Int)
  · rw [if_pos c, if_neg (by decide)]
    refine ⟨i - 1, by omega, by omega, Nat.le_trans (Nat.mul_le_mul_right _ (val_le s (by omega))) le⟩
  · rw [if_neg c]
    exact ⟨z, rfl, by omega, le⟩
/-- Always away from 0: what is told is not below. -/
theorem mag_up (s : Bool) (m : Int) (b : Bool) (hm : ∀ o h l, away m b o h l = (h || l)) {n : Nat} (h : n ≠ 0) (e E : Int) (h1 : E ≤ e) (h2 : E ≤ fL s) :
    ∃ z : Nat, mag s m b n e = z ∧ (z : Int) ≤ fI s ∧ ((z : Int) = fI s ∨ n * 2 ^ (e - E).toNat ≤ val s z * 2 ^ (fL s - E).toNat) := by
  obtain ⟨x, ex, q1, q2, q3, q4, q5⟩ := kept s h e E h1 h2
  obtain ⟨i, ei, i0, _⟩ := fI_nat s
  unfold mag fin great
  rw [ex, ei, hm, hm]
  generalize quo n (lastOf s n e - e) = q at *
  generalize (half n (lastOf s n e - e) || low n (lastOf s n e - e)) = g at *
  have v := val_at s x q (by omega) q2
  have v1 := val_at s x (q + 1) (by omega) (by omega)
  have le : n * 2 ^ (e - E).toNat ≤ val s (x * 2 ^ fP s + (q + if g = true then 1 else 0)) * 2 ^ (fL s - E).toNat := by
    cases g
    · simp only [Bool.false_eq_true, if_false, Nat.add_zero]
      rw [v, Nat.mul_assoc, ← Nat.pow_add, q5 rfl]
      exact Nat.le_refl _
    · simp only [if_true]
      rw [v1, Nat.mul_assoc, ← Nat.pow_add]
      exact Nat.le_of_lt q4
  generalize (q + if g = true then 1 else 0) = Y at *
  have cast : (x : Int) * 2 ^ fP s + (Y : Int) = ((x * 2 ^ fP s + Y : Nat) : Int) := by rw [Int.natCast_add, Int.natCast_mul]; simp
  rw [cast]
  generalize x * 2 ^ fP s + Y = z at *
  by_cases c : (i : Int) ≤ (z : Int)
  · rw [if_pos c, if_pos (by decide)]
    exact ⟨i, rfl, by omega, Or.inl rfl⟩
  · rw [if_neg c]
    exact ⟨z, rfl, by omega, Or.inr le⟩
/-- All sizes are at most the infinite one's. -/
theorem mag_any (s : Bool) (m : Int) (b : Bool) {n : Nat} (h : n ≠ 0) (e : Int) : ∃ z : Nat, mag s m b n e = z ∧ (z : Int) ≤ fI s := by
  obtain ⟨x, ex, _⟩ := kept s h e (min e (fL s)) (by omega) (by omega)
  obtain ⟨i, ei, i0, _⟩ := fI_nat s
  unfold mag fin great
  rw [ex, ei]
  generalize (quo n (lastOf s n e - e) + if away m b (quo n (lastOf s n e - e) % 2 == 1) (half n (lastOf s n e - e)) (low n (lastOf s n e - e)) = true then 1 else 0) = Y
  have cast : (x : Int) * 2 ^ fP s + (Y : Int) = ((x * 2 ^ fP s + Y : Nat) : Int) := by rw [Int.natCast_add, Int.natCast_mul]; simp
  rw [cast]
  generalize x * 2 ^ fP s + Y = z
  by_cases c : (i : Int) ≤ (z : Int)
  · rw [if_pos c]
    split
    · exact ⟨i, rfl, by omega⟩
    · exact ⟨i - 1, by omega, by omega⟩
  · rw [if_neg c]; exact ⟨z, rfl, by omega⟩
theorem away_none (m : Int) (b o : Bool) : away m b o false false = false := by unfold away; split <;> (try split) <;> (try split) <;> rfl
/-- What is a float already stays itself. -/
theorem mag_exact (s : Bool) (m : Int) (b : Bool) (x q : Nat) (q0 : q ≠ 0) (h : q < 2 ^ (fP s + 1)) (h0 : x = 0 ∨ 2 ^ fP s ≤ q) (hi : ((x * 2 ^ fP s + q : Nat) : Int) < fI s) :
    mag s m b q (fL s + x) = ((x * 2 ^ fP s + q : Nat) : Int) := by
  have hl : lastOf s q (fL s + x) = fL s + x := by
    unfold lastOf
    have c1 := blen_le_of h
    rcases h0 with g | g
    · omega
    · have := le_blen g; omega
  unfold mag fin
  rw [hl]
  have k : fL s + (x : Int) - (fL s + x) = 0 := by omega
  rw [k]
  have a1 : quo q 0 = q := by unfold quo; rw [if_pos (by decide)]; simp
  have a2 : half q 0 = false := rfl
  have a3 : low q 0 = false := rfl
  rw [a1, a2, a3, away_none]
  have cast : (fL s + (x : Int) - fL s) * 2 ^ fP s + ((q + if false = true then 1 else 0 : Nat) : Int) = ((x * 2 ^ fP s + q : Nat) : Int) := by
    have : fL s + (x : Int) - fL s = x := by omega
    rw [this]; simp
  rw [cast, if_neg (by omega)]
theorem away_mirror (b o h l : Bool) : away 1 b o h l = away 2 (!b) o h l := by cases b <;> cases o <;> cases h <;> cases l <;> rfl
/-- Up is, with the other sign, Down. -/
theorem mag_mirror (s b : Bool) (n : Nat) (e : Int) : mag s 1 b n e = mag s 2 (!b) n e := by
  unfold mag fin great
  simp only [away_mirror]
/-- By all modes: one size, or two that are neighbours. -/
theorem mag_modes (s b : Bool) {n : Nat} (h : n ≠ 0) (e : Int) :
    ∃ d u : Nat, d ≤ u ∧ u ≤ d + 1 ∧ (u : Int) ≤ fI s ∧ (d : Int) < fI s ∧ mag s 3 b n e = d ∧ mag s (if b then 1 else 2) b n e = d ∧ mag s (if b then 2 else 1) b n e = u ∧ (mag s 0 b n e = d ∨ mag s 0 b n e = u) := by
  obtain ⟨x, ex, _⟩ := kept s h e (min e (fL s)) (by omega) (by omega)
  obtain ⟨i, ei, i0, _⟩ := fI_nat s
  unfold mag fin great
  rw [ex, ei]
  generalize quo n (lastOf s n e - e) = q
  generalize half n (lastOf s n e - e) = g
  generalize low n (lastOf s n e - e) = l
  have cast : ∀ Y : Nat, (x : Int) * 2 ^ fP s + (Y : Int) = ((x * 2 ^ fP s + Y : Nat) : Int) := fun Y => by rw [Int.natCast_add, Int.natCast_mul]; simp
  simp only [cast]
  generalize x * 2 ^ fP s = B
  have a3 : ∀ o h l, away 3 b o h l = false := fun o h l => rfl
  have ad : ∀ o h l, away (if b then 1 else 2) b o h l = false := fun o h l => by cases b <;> cases o <;> cases h <;> cases l <;> rfl
  have au : ∀ o h l, away (if b then 2 else 1) b o h l = (h || l) := fun o h l => by cases b <;> cases o <;> cases h <;> cases l <;> rfl
  have an : ∀ o h l, away 0 b o h l = (h && (l || o)) := fun o h l => rfl
  simp only [a3, ad, au, an, Bool.false_eq_true, if_false, Bool.or_true, Bool.and_true, if_true, Nat.add_zero]
  have hn : (g && (l || q % 2 == 1)) = true → (g || l) = true := by cases g <;> cases l <;> simp
  generalize (g && (l || q % 2 == 1)) = N at *
  generalize (g || l) = I at *
  by_cases c : (i : Int) ≤ ((B + q : Nat) : Int)
  · have c1 : ∀ t : Nat, (i : Int) ≤ ((B + (q + t) : Nat) : Int) := fun t => by omega
    simp only [if_pos c, if_pos (c1 _)]
    exact ⟨i - 1, i, by omega, by omega, by omega, by omega, by omega, by omega, rfl, Or.inr rfl⟩
  · simp only [if_neg c]
    cases I
    · have : N = false := by cases N; rfl; exact absurd (hn rfl) (by decide)
      subst this
      simp only [Bool.false_eq_true, if_false, Nat.add_zero, if_neg c]
      exact ⟨B + q, B + q, by omega, by omega, by omega, by omega, rfl, rfl, rfl, Or.inl rfl⟩
    · simp only [if_true]
      refine ⟨B + q, B + q + 1, by omega, by omega, by omega, by omega, rfl, rfl, ?_, ?_⟩
      · split <;> omega
      · cases N
        · simp only [Bool.false_eq_true, if_false, Nat.add_zero, if_neg c]; exact Or.inl trivial
        · simp only [if_true]; right; split <;> omega
end Go.Proofs.Ytfbkiklopeebdaa
