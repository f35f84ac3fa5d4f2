/- What plumblineref01.From answers: the number of a row of bools. -/
import Derived.Test.YtfdinlomlcnjnaaDoorRefA
namespace Go.Proofs.YtfdinlomlcnjnaaDoor
open Go.RowKit
set_option linter.unusedVariables false

theorem or_bit (x y : Int) (hx : Word x) (hy : Word y) : Word (bits BinOp.or IntKind.u64 x y) ∧ (bits BinOp.or IntKind.u64 x y).toNat = x.toNat ||| y.toNat := by
  obtain ⟨a, rfl⟩ := Int.eq_ofNat_of_zero_le hx.1
  obtain ⟨b, rfl⟩ := Int.eq_ofNat_of_zero_le hy.1
  have ha := hx.2; have hb := hy.2
  rw [bits_or_u64_nat a b (by omega) (by omega)]
  have l : a ||| b < 2 ^ 64 := Nat.or_lt_two_pow (by omega) (by omega)
  exact ⟨⟨by omega, by omega⟩, rfl⟩
theorem pow_word (k : Nat) (hk : k < 64) : Word ((2 : Int) ^ k) ∧ ((2 : Int) ^ k).toNat = 2 ^ k := by
  have e : (2 : Int) ^ k = ((2 ^ k : Nat) : Int) := by simp
  have l : 2 ^ k < 2 ^ 64 := Nat.pow_lt_pow_right (by decide) hk
  rw [e]
  exact ⟨⟨Int.natCast_nonneg _, by omega⟩, rfl⟩
theorem wrap_pow (k : Nat) (hk : k < 64) : IntKind.u64.wrap ((2 : Int) ^ k) = 2 ^ k := by
  obtain ⟨⟨a, b⟩, _⟩ := pow_word k hk
  rw [IntKind.wrap_u64]; omega
/-- One more bit in the lower word. -/
theorem low_set (h l : Int) (a : Word h) (b : Word l) (k : Nat) (hk : k < 64) : Word (bits BinOp.or IntKind.u64 l (2 ^ k)) ∧ ∀ j, (N h (bits BinOp.or IntKind.u64 l (2 ^ k))).testBit j = ((N h l).testBit j || decide (j = k)) := by
  obtain ⟨p1, p2⟩ := pow_word k hk
  obtain ⟨o1, o2⟩ := or_bit l (2 ^ k) b p1
  refine ⟨o1, fun j => ?_⟩
  rw [N_bit a o1, N_bit a b, o2, p2]
  by_cases c : j < 64
  · rw [if_pos c, if_pos c, Nat.testBit_or, Nat.testBit_two_pow]
    congr 1
    rw [decide_eq_decide]; omega
  · rw [if_neg c, if_neg c]
    have : ¬ j = k := by omega
    simp [this]
theorem high_set (h l : Int) (a : Word h) (b : Word l) (k : Nat) (hk : 64 ≤ k) (hk' : k < 128) : Word (bits BinOp.or IntKind.u64 h (2 ^ (k - 64))) ∧ ∀ j, (N (bits BinOp.or IntKind.u64 h (2 ^ (k - 64))) l).testBit j = ((N h l).testBit j || decide (j = k)) := by
  obtain ⟨p1, p2⟩ := pow_word (k - 64) (by omega)
  obtain ⟨o1, o2⟩ := or_bit h (2 ^ (k - 64)) a p1
  refine ⟨o1, fun j => ?_⟩
  rw [N_bit o1 b, N_bit a b, o2, p2]
  by_cases c : j < 64
  · rw [if_pos c, if_pos c]
    have : ¬ j = k := by omega
    simp [this]
  · rw [if_neg c, if_neg c, Nat.testBit_or, Nat.testBit_two_pow]
    congr 1
    rw [decide_eq_decide]; omega
/-- The number whose bits are f's, up to k. -/
def IsFrom (f : Nat → Bool) (k x : Nat) : Prop := ∀ j, x.testBit j = (decide (j < k) && f j)
theorem isFrom_zero (f : Nat → Bool) : IsFrom f 0 0 := fun j => by simp
theorem IsFrom.skip {f : Nat → Bool} {k x : Nat} (h : IsFrom f k x) (hf : f k = false) : IsFrom f (k + 1) x := fun j => by
  rw [h j]
  by_cases e : j = k
  · subst e; simp [hf]
  · have : (decide (j < k)) = decide (j < k + 1) := by rw [decide_eq_decide]; omega
    rw [this]
theorem IsFrom.step {f : Nat → Bool} {k x y : Nat} (h : IsFrom f k x) (hf : f k = true) (hy : ∀ j, y.testBit j = (x.testBit j || decide (j = k))) : IsFrom f (k + 1) y := fun j => by
  rw [hy j, h j]
  by_cases e : j = k
  · subst e; simp [hf]
  · have : (decide (j < k)) = decide (j < k + 1) := by rw [decide_eq_decide]; omega
    rw [this]; simp [e]

end Go.Proofs.YtfdinlomlcnjnaaDoor

