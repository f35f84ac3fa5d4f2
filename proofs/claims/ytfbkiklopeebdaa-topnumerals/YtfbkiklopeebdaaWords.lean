/- Plain facts on words of 64 bits and on numbers of two words, with no Go in sight: sums, differences, moves by bits. -/
import Derived.RowKit
import Derived.Laws.Bits64
import Derived.Laws.Bits64b
import Derived.Lib.Mul64
import Derived.Lib.BitFns
namespace Go.Proofs.Ytfbkiklopeebdaa
set_option linter.unusedVariables false

/-- A word. -/
def Word (x : Int) : Prop := 0 ≤ x ∧ x < 18446744073709551616
/-- A borrow. -/
def bor (x y : Int) : Int := if x < y then 1 else 0
theorem bor_lo (x y : Int) : 0 ≤ bor x y := by unfold bor; split <;> decide
theorem bor_hi (x y : Int) : bor x y ≤ 1 := by unfold bor; split <;> decide
theorem word_mod (x : Int) : Word (x % 18446744073709551616) := ⟨by omega, by omega⟩
/-- The number of two words. -/
def num (h l : Int) : Int := h * 18446744073709551616 + l
theorem num_lo {h l : Int} (a : Word h) (b : Word l) : 0 ≤ num h l := by unfold num Word at *; omega
theorem num_hi {h l : Int} (a : Word h) (b : Word l) : num h l < 340282366920938463463374607431768211456 := by unfold num Word at *; omega
/-- Two words are told by their number. -/
theorem num_inj {h l h' l' : Int} (a : Word h) (b : Word l) (a' : Word h') (b' : Word l') (e : num h l = num h' l') : h = h' ∧ l = l' := by
  unfold num Word at *; omega
theorem num_zero : num 0 0 = 0 := rfl
/-- The words of a number. -/
theorem num_of (n : Int) : num (n / 18446744073709551616) (n % 18446744073709551616) = n := by unfold num; omega
theorem word_hi {n : Int} (h0 : 0 ≤ n) (h1 : n < 340282366920938463463374607431768211456) : Word (n / 18446744073709551616) := by unfold Word; omega

/-! ### Sums and differences -/
theorem add_num (ah al bh bl : Int) (h1 : Word ah) (h2 : Word al) (h3 : Word bh) (h4 : Word bl) :
    num ((ah + bh + (al + bl) / 18446744073709551616) % 18446744073709551616) ((al + bl) % 18446744073709551616) = (num ah al + num bh bl) % 340282366920938463463374607431768211456 := by
  unfold num Word at *; omega
theorem add_carry (ah al bh bl : Int) (h1 : Word ah) (h2 : Word al) (h3 : Word bh) (h4 : Word bl) :
    ((ah + bh + (al + bl) / 18446744073709551616) / 18446744073709551616 != 0) = decide (340282366920938463463374607431768211456 ≤ num ah al + num bh bl) := by
  rw [Bool.eq_iff_iff, bne_iff_ne, decide_eq_true_iff]
  unfold num Word at *; omega
theorem sub_num (ah al bh bl : Int) (h1 : Word ah) (h2 : Word al) (h3 : Word bh) (h4 : Word bl) :
    num ((ah - bh - bor al bl) % 18446744073709551616) ((al - bl) % 18446744073709551616) = (num ah al - num bh bl) % 340282366920938463463374607431768211456 := by
  unfold num Word bor at *; split <;> omega
theorem sub_borrow (ah al bh bl : Int) (h1 : Word ah) (h2 : Word al) (h3 : Word bh) (h4 : Word bl) :
    ((if ah < bh + bor al bl then (1 : Int) else 0) != 0) = decide (num ah al < num bh bl) := by
  rw [Bool.eq_iff_iff, bne_iff_ne, decide_eq_true_iff]
  unfold num Word bor at *; split <;> split <;> omega

/-! ### Moves -/
theorem pow_split {n : Nat} (h : n ≤ 64) : 2 ^ n * 2 ^ (64 - n) = 18446744073709551616 := by
  rw [← Nat.pow_add, Nat.add_sub_cancel' h]
theorem pow_pos' (n : Nat) : 0 < 2 ^ n := Nat.two_pow_pos n
theorem wrapN (a : Nat) : IntKind.u64.wrap (a : Int) = ((a % 18446744073709551616 : Nat) : Int) := by rw [IntKind.wrap_u64]; omega
theorem castShl (a k : Nat) : (a : Int) * 2 ^ k = ((a * 2 ^ k : Nat) : Int) := by simp
theorem castShr (a k : Nat) : (a : Int) / 2 ^ k = ((a / 2 ^ k : Nat) : Int) := by simp
theorem wshl (a k : Nat) : IntKind.u64.wrap ((a : Int) * 2 ^ k) = ((a * 2 ^ k % 18446744073709551616 : Nat) : Int) := by rw [castShl, wrapN]
theorem shl_min (a k : Nat) : a * 2 ^ min k 64 % 18446744073709551616 = a * 2 ^ k % 18446744073709551616 := by
  by_cases h : k ≤ 64
  · rw [Nat.min_eq_left h]
  · rw [Nat.min_eq_right (by omega)]
    have e : 2 ^ k = 2 ^ (k - 64) * 18446744073709551616 := by
      rw [show (18446744073709551616 : Nat) = 2 ^ 64 from rfl, ← Nat.pow_add]; congr 1; omega
    rw [e, ← Nat.mul_assoc]
    omega
theorem shr_min (a k : Nat) (ha : a < 18446744073709551616) : a / 2 ^ min k 64 = a / 2 ^ k := by
  by_cases h : k ≤ 64
  · rw [Nat.min_eq_left h]
  · rw [Nat.min_eq_right (by omega)]
    have e : 18446744073709551616 ≤ 2 ^ k := by
      rw [show (18446744073709551616 : Nat) = 2 ^ 64 from rfl]; exact Nat.pow_le_pow_right (by decide) (by omega)
    rw [Nat.div_eq_of_lt (show a < 2 ^ k by omega)]
    omega
theorem mul_cut (x P Q : Nat) (e : P * Q = 18446744073709551616) (hQ : 0 < Q) : x * P = x / Q * 18446744073709551616 + x % Q * P := by
  have d := Nat.div_add_mod' x Q
  conv => lhs; rw [← d]
  rw [Nat.add_mul, Nat.mul_assoc, Nat.mul_comm Q P, e]
theorem mul_cut_mod (x P Q : Nat) (e : P * Q = 18446744073709551616) (hQ : 0 < Q) : x * P % 18446744073709551616 = x % Q * P := by
  have c := mul_cut x P Q e hQ
  have l : x % Q * P < 18446744073709551616 := by
    have := Nat.mod_lt x hQ
    have pP : 0 < P := by
      rcases Nat.eq_zero_or_pos P with h | h
      · subst h; simp at e
      · exact h
    have h2 : x % Q * P < Q * P := Nat.mul_lt_mul_of_pos_right this pP
    rw [Nat.mul_comm Q P, e] at h2; exact h2
  rw [c]; omega
theorem or_cut (x y n : Nat) (h : y < 2 ^ n) : (x * 2 ^ n) ||| y = x * 2 ^ n + y := by
  rw [Nat.mul_comm]; exact (Nat.two_pow_add_eq_or_of_lt h x).symm

/-- Up by fewer than 64 bits, on natural numbers. -/
theorem shl_nat (a b n : Nat) (ha : a < 18446744073709551616) (hb : b < 18446744073709551616) (hn : n < 64) :
    ((a * 2 ^ n % 18446744073709551616) ||| (b / 2 ^ (64 - n))) < 18446744073709551616 ∧
    ((a * 2 ^ n % 18446744073709551616) ||| (b / 2 ^ (64 - n))) * 18446744073709551616 + b * 2 ^ n % 18446744073709551616 = (a * 18446744073709551616 + b) * 2 ^ n % 340282366920938463463374607431768211456 := by
  have e := pow_split (n := n) (by omega)
  have pP := pow_pos' n
  have pQ := pow_pos' (64 - n)
  generalize hP : 2 ^ n = P at *
  generalize hQ : 2 ^ (64 - n) = Q at *
  have ca := mul_cut a P Q e pQ
  have cb := mul_cut b P Q e pQ
  have bq : b / Q < P := by
    rw [Nat.div_lt_iff_lt_mul pQ, e]; exact hb
  rw [mul_cut_mod a P Q e pQ, mul_cut_mod b P Q e pQ]
  have o : (a % Q * P) ||| (b / Q) = a % Q * P + b / Q := by rw [← hP]; exact or_cut _ _ _ (by rw [hP]; exact bq)
  rw [o]
  have la : a % Q * P + P ≤ 18446744073709551616 := by
    have := Nat.mod_lt a pQ
    calc a % Q * P + P = (a % Q + 1) * P := by rw [Nat.add_mul, Nat.one_mul]
      _ ≤ Q * P := Nat.mul_le_mul_right P this
      _ = 18446744073709551616 := by rw [Nat.mul_comm, e]
  have lb : b % Q * P < 18446744073709551616 := by
    have := mul_cut_mod b P Q e pQ
    omega
  refine ⟨by omega, ?_⟩
  have t : (a * 18446744073709551616 + b) * P = a * P * 18446744073709551616 + b * P := by
    rw [Nat.add_mul, Nat.mul_right_comm]
  rw [t, ca, cb]
  generalize a % Q * P = u at *
  generalize b % Q * P = v at *
  generalize a / Q = y at *
  generalize b / Q = z at *
  omega

/-- Down by fewer than 64 bits, on natural numbers. -/
theorem shr_nat (a b n : Nat) (ha : a < 18446744073709551616) (hb : b < 18446744073709551616) (hn : n < 64) :
    ((a * 2 ^ (64 - n) % 18446744073709551616) ||| (b / 2 ^ n)) < 18446744073709551616 ∧
    a / 2 ^ n * 18446744073709551616 + ((a * 2 ^ (64 - n) % 18446744073709551616) ||| (b / 2 ^ n)) = (a * 18446744073709551616 + b) / 2 ^ n := by
  have e := pow_split (n := n) (by omega)
  have pP := pow_pos' n
  have pQ := pow_pos' (64 - n)
  generalize hP : 2 ^ n = P at *
  generalize hQ : 2 ^ (64 - n) = Q at *
  have e' : Q * P = 18446744073709551616 := by rw [Nat.mul_comm]; exact e
  have bq : b / P < Q := by
    rw [Nat.div_lt_iff_lt_mul pP, e']; exact hb
  rw [mul_cut_mod a Q P e' pP]
  have o : (a % P * Q) ||| (b / P) = a % P * Q + b / P := by rw [← hQ]; exact or_cut _ _ _ (by rw [hQ]; exact bq)
  rw [o]
  have la : a % P * Q + Q ≤ 18446744073709551616 := by
    have := Nat.mod_lt a pP
    calc a % P * Q + Q = (a % P + 1) * Q := by rw [Nat.add_mul, Nat.one_mul]
      _ ≤ P * Q := Nat.mul_le_mul_right Q this
      _ = 18446744073709551616 := e
  refine ⟨by omega, ?_⟩
  have ca := mul_cut a Q P e' pP
  have t : P * (a * Q) = a * 18446744073709551616 := by
    rw [Nat.mul_left_comm, e]
  rw [← t, Nat.mul_add_div pP, ca]
  omega

theorem pow_ge {k n : Nat} (h : k ≤ n) : 2 ^ n = 2 ^ (n - k) * 2 ^ k := by rw [← Nat.pow_add]; congr 1; omega
theorem shl_nat_big (a b n : Nat) (ha : a < 18446744073709551616) (hb : b < 18446744073709551616) (hn : 64 ≤ n) :
    (b * 2 ^ (n - 64) % 18446744073709551616) * 18446744073709551616 + 0 = (a * 18446744073709551616 + b) * 2 ^ n % 340282366920938463463374607431768211456 := by
  have e : 2 ^ n = 2 ^ (n - 64) * 18446744073709551616 := pow_ge (k := 64) hn
  rw [e]
  have t : (a * 18446744073709551616 + b) * (2 ^ (n - 64) * 18446744073709551616) = a * 2 ^ (n - 64) * 340282366920938463463374607431768211456 + b * 2 ^ (n - 64) * 18446744073709551616 := by
    rw [Nat.add_mul, ← Nat.mul_assoc b, ← Nat.mul_assoc, Nat.mul_right_comm a, Nat.mul_assoc (a * 2 ^ (n - 64))]
  rw [t]
  omega
theorem shr_nat_big (a b n : Nat) (hb : b < 18446744073709551616) (hn : 64 ≤ n) :
    0 * 18446744073709551616 + a / 2 ^ (n - 64) = (a * 18446744073709551616 + b) / 2 ^ n := by
  have e : 2 ^ n = 18446744073709551616 * 2 ^ (n - 64) := by rw [Nat.mul_comm]; exact pow_ge (k := 64) hn
  rw [e, ← Nat.div_div_eq_div_mul]
  have : (a * 18446744073709551616 + b) / 18446744073709551616 = a := by omega
  rw [this]; omega

/-- Down and up again: what is lost is what does not come back. -/
theorem back_nat (a n : Nat) (ha : a < 340282366920938463463374607431768211456) : (a / 2 ^ n * 2 ^ n % 340282366920938463463374607431768211456 = a) ↔ a % 2 ^ n = 0 := by
  have d := Nat.div_add_mod' a (2 ^ n)
  have l : a / 2 ^ n * 2 ^ n ≤ a := Nat.div_mul_le_self a (2 ^ n)
  rw [Nat.mod_eq_of_lt (by omega)]
  omega

end Go.Proofs.Ytfbkiklopeebdaa
