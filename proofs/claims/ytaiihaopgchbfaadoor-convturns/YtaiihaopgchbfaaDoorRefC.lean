/- What plumblineref01.add answers: the bits of a sum. -/
import Derived.Test.YtaiihaopgchbfaaDoorRefB
namespace Go.Proofs.YtaiihaopgchbfaaDoor
open Go.RowKit
set_option linter.unusedVariables false

/-- What is carried into place k. -/
def cB (A B c k : Nat) : Bool := decide (2 ^ k ≤ A % 2 ^ k + B % 2 ^ k + c)
theorem cB_zero (A B c : Nat) : cB A B c 0 = decide (1 ≤ c) := by unfold cB; rw [Nat.pow_zero, Nat.mod_one, Nat.mod_one]; simp
theorem bitN (A k : Nat) : A.testBit k = decide (A / 2 ^ k % 2 = 1) := Nat.testBit_eq_decide_div_mod_eq
theorem sum_parts (A B c k : Nat) (hc : c ≤ 1) : (A + B + c) / 2 ^ k = A / 2 ^ k + B / 2 ^ k + (if cB A B c k then 1 else 0) := by
  unfold cB
  have p := pow_pos' k
  have a := Nat.div_add_mod A (2 ^ k)
  have b := Nat.div_add_mod B (2 ^ k)
  have la := Nat.mod_lt A p
  have lb := Nat.mod_lt B p
  generalize A % 2 ^ k = x at *
  generalize B % 2 ^ k = y at *
  generalize A / 2 ^ k = q at *
  generalize B / 2 ^ k = r at *
  have e : A + B + c = (x + y + c) + 2 ^ k * (q + r) := by rw [Nat.mul_add]; omega
  rw [e, Nat.add_mul_div_left _ _ p]
  by_cases h : 2 ^ k ≤ x + y + c
  · have : (x + y + c) / 2 ^ k = 1 := by
      rw [Nat.div_eq_iff p]; omega
    simp [h]; omega
  · rw [Nat.div_eq_of_lt (by omega)]
    simp [h]
theorem sum_bit (A B c k : Nat) (hc : c ≤ 1) : (A + B + c).testBit k = ((A.testBit k ^^ B.testBit k) ^^ cB A B c k) := by
  rw [bitN, bitN, bitN, sum_parts A B c k hc]
  generalize A / 2 ^ k = q
  generalize B / 2 ^ k = r
  rcases Nat.mod_two_eq_zero_or_one q with h1 | h1 <;> rcases Nat.mod_two_eq_zero_or_one r with h2 | h2 <;> cases cB A B c k <;> simp [h1, h2] <;> omega
theorem cB_succ (A B c k : Nat) (hc : c ≤ 1) : cB A B c (k + 1) = (A.testBit k && B.testBit k || (A.testBit k || B.testBit k) && cB A B c k) := by
  rw [bitN, bitN]
  unfold cB
  rw [Nat.mod_pow_succ, Nat.mod_pow_succ, Nat.pow_succ]
  have p := pow_pos' k
  have la := Nat.mod_lt A p
  have lb := Nat.mod_lt B p
  generalize A % 2 ^ k = x at *
  generalize B % 2 ^ k = y at *
  generalize A / 2 ^ k = q at *
  generalize B / 2 ^ k = r at *
  generalize 2 ^ k = P at *
  rcases Nat.mod_two_eq_zero_or_one q with h1 | h1 <;> rcases Nat.mod_two_eq_zero_or_one r with h2 | h2 <;> simp [h1, h2] <;> omega

/-- The row behind k rounds. -/
def sumTo (S k : Nat) (j : Nat) : Bool := decide (j < k) && S.testBit j
theorem sumTo_zero (S : Nat) : sumTo S 0 = fun _ => false := by funext j; simp [sumTo]
theorem sumTo_succ (S k : Nat) (v : Bool) (hv : v = S.testBit k) : (fun i => if i = k then v else sumTo S k i) = sumTo S (k + 1) := by
  funext j
  unfold sumTo
  by_cases e : j = k
  · subst e; simp [hv]
  · have : (decide (j < k)) = decide (j < k + 1) := by rw [decide_eq_decide]; omega
    simp [e, this]
theorem sumTo_full (S k j : Nat) (h : j < k) : sumTo S k j = S.testBit j := by simp [sumTo, h]

end Go.Proofs.YtaiihaopgchbfaaDoor

