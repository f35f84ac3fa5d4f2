/- The reference's second loop of rounding, and what it makes of bits at the end, in plain numbers. -/
import Derived.Test.YtfdinlomlcnjnaaDoorSRefM
import Derived.Test.YtfdinlomlcnjnaaDoorSRefB
namespace Go.Proofs.YtfdinlomlcnjnaaDoor
open Go.RowKit
set_option linter.unusedVariables false
set_option linter.unusedSimpArgs false
theorem half_bit (n : Nat) (k : Int) : half n k = (decide (1 ≤ k) && n.testBit (k.toNat - 1)) := by
  unfold half
  rw [Nat.testBit_eq_decide_div_mod_eq]
  congr 1
theorem mod_no {A i : Nat} (h : A.testBit i = false) : A % 2 ^ (i + 1) = A % 2 ^ i := by
  rw [Nat.mod_pow_succ]
  rw [Nat.testBit_eq_decide_div_mod_eq, decide_eq_false_iff_not] at h
  have : A / 2 ^ i % 2 = 0 := by omega
  rw [this, Nat.mul_zero, Nat.add_zero]
theorem mod_yes {A i : Nat} (h : A.testBit i = true) : A % 2 ^ (i + 1) = A % 2 ^ i + 2 ^ i := by
  rw [Nat.mod_pow_succ]
  rw [Nat.testBit_eq_decide_div_mod_eq, decide_eq_true_iff] at h
  rw [h, Nat.mul_one]
theorem half_other {A i : Nat} {k : Int} (h : ¬ (i : Int) = k - 1) : half (A % 2 ^ (i + 1)) k = half (A % 2 ^ i) k := by
  rw [half_bit, half_bit, Nat.testBit_mod_two_pow, Nat.testBit_mod_two_pow]
  by_cases c : 1 ≤ k
  · have : decide (k.toNat - 1 < i + 1) = decide (k.toNat - 1 < i) := by rw [decide_eq_decide]; omega
    rw [this]
  · rw [decide_eq_false c, Bool.false_and, Bool.false_and]
theorem half_at {A i : Nat} {k : Int} (hb : A.testBit i = true) (h : (i : Int) = k - 1) : half (A % 2 ^ (i + 1)) k = true := by
  rw [half_bit, Nat.testBit_mod_two_pow]
  have e : k.toNat - 1 = i := by omega
  rw [e, hb, decide_eq_true (by omega : 1 ≤ k), decide_eq_true (by omega : i < i + 1)]
  rfl
theorem low_other {A i : Nat} {k : Int} (h : ¬ (i : Int) < k - 1) : low (A % 2 ^ (i + 1)) k = low (A % 2 ^ i) k := by
  unfold low
  by_cases c : 1 ≤ k
  · have d1 : 2 ^ (k.toNat - 1) ∣ 2 ^ i := Nat.pow_dvd_pow 2 (by omega)
    have d2 : 2 ^ (k.toNat - 1) ∣ 2 ^ (i + 1) := Nat.pow_dvd_pow 2 (by omega)
    rw [Nat.mod_mod_of_dvd _ d1, Nat.mod_mod_of_dvd _ d2]
  · rw [decide_eq_false c, Bool.false_and, Bool.false_and]
theorem low_at {A i : Nat} {k : Int} (hb : A.testBit i = true) (h : (i : Int) < k - 1) : low (A % 2 ^ (i + 1)) k = true := by
  unfold low
  have l : A % 2 ^ (i + 1) < 2 ^ (k.toNat - 1) := Nat.lt_of_lt_of_le (Nat.mod_lt _ (Nat.two_pow_pos _)) (Nat.pow_le_pow_right (by decide) (by omega))
  rw [Nat.mod_eq_of_lt l, mod_yes hb, decide_eq_true (by omega : 1 ≤ k)]
  have := Nat.two_pow_pos i
  simp
/-- A round of the second loop: h, l behind it. -/
theorem hl_no {A i : Nat} {k : Int} (hb : A.testBit i = false) : half (A % 2 ^ (i + 1)) k = half (A % 2 ^ i) k ∧ low (A % 2 ^ (i + 1)) k = low (A % 2 ^ i) k := by
  rw [mod_no hb]; exact ⟨rfl, rfl⟩
theorem hl_eq {A i : Nat} {k : Int} (hb : A.testBit i = true) (h : (i : Int) = k - 1) : half (A % 2 ^ (i + 1)) k = true ∧ low (A % 2 ^ (i + 1)) k = low (A % 2 ^ i) k := ⟨half_at hb h, low_other (by omega)⟩
theorem hl_lt {A i : Nat} {k : Int} (hb : A.testBit i = true) (h : (i : Int) < k - 1) : half (A % 2 ^ (i + 1)) k = half (A % 2 ^ i) k ∧ low (A % 2 ^ (i + 1)) k = true := ⟨half_other (by omega), low_at hb h⟩
theorem hl_gt {A i : Nat} {k : Int} (h : k - 1 < (i : Int)) : half (A % 2 ^ (i + 1)) k = half (A % 2 ^ i) k ∧ low (A % 2 ^ (i + 1)) k = low (A % 2 ^ i) k := ⟨half_other (by omega), low_other (by omega)⟩
theorem hl_zero (A : Nat) (k : Int) : half (A % 2 ^ 0) k = false ∧ low (A % 2 ^ 0) k = false := by
  rw [Nat.pow_zero, Nat.mod_one, half_bit]
  unfold low
  simp
/-- A round of the first loop. -/
theorem q_yes {A i : Nat} {k : Int} {t : Nat} (h : (i : Int) - k = (t : Int)) (ht : t < 64) (hq : quo A k < 2 ^ 63) (hb : A.testBit i = true) :
    bits BinOp.or IntKind.u64 ((qTo A k (i + 1) : Nat) : Int) (2 ^ t) = ((qTo A k i : Nat) : Int) := by
  obtain ⟨e1, e2⟩ := qTo_yes A k i (by omega)
  have tt : ((i : Int) - k).toNat = t := by omega
  rw [tt] at e1 e2
  have l := qTo_quo A k (i + 1)
  have p : 2 ^ t < 2 ^ 64 := Nat.pow_lt_pow_right (by decide) ht
  rw [pow_cast, u64_or_nat _ _ (by omega) (by omega), or_pow _ _ e2, e1, hb]
  simp
theorem q_no {A i : Nat} {k : Int} {t : Nat} (h : (i : Int) - k = (t : Int)) (ht : t < 64) (hq : quo A k < 2 ^ 63) (hb : A.testBit i = false) :
    bits BinOp.andNot IntKind.u64 (bits BinOp.or IntKind.u64 ((qTo A k (i + 1) : Nat) : Int) (2 ^ t)) (2 ^ t) = ((qTo A k i : Nat) : Int) := by
  obtain ⟨e1, e2⟩ := qTo_yes A k i (by omega)
  have tt : ((i : Int) - k).toNat = t := by omega
  rw [tt] at e1 e2
  have l := qTo_quo A k (i + 1)
  have p : 2 ^ t < 2 ^ 64 := Nat.pow_lt_pow_right (by decide) ht
  have o : qTo A k (i + 1) ||| 2 ^ t < 2 ^ 64 := Nat.or_lt_two_pow (by omega) p
  rw [pow_cast, u64_or_nat _ _ (by omega) (by omega), u64_andNot_nat _ _ (by omega) (by omega), e1, hb]
  congr 1
  simp only [Bool.toNat_false, Nat.zero_mul, Nat.add_zero]
  rw [show 18446744073709551615 - 2 ^ t = 2 ^ 64 - (2 ^ t + 1) by omega]
  have q0 : (qTo A k (i + 1)).testBit t = false := by
    have := Nat.testBit_mod_two_pow (qTo A k (i + 1)) (t + 1) t
    rw [e2, Nat.zero_testBit] at this
    simpa using this.symm
  apply Nat.eq_of_testBit_eq
  intro j
  rw [Nat.testBit_and, Nat.testBit_or, Nat.testBit_two_pow, Nat.testBit_two_pow_sub_succ p, Nat.testBit_two_pow]
  by_cases c : t = j
  · subst c; simp [q0]
  · by_cases c2 : j < 64
    · simp [c, c2]
    · have : (qTo A k (i + 1)).testBit j = false := Nat.testBit_lt_two_pow (Nat.lt_of_lt_of_le (by omega : qTo A k (i + 1) < 2 ^ 63) (Nat.pow_le_pow_right (by decide) (by omega)))
      simp [c, c2, this]
end Go.Proofs.YtfdinlomlcnjnaaDoor

