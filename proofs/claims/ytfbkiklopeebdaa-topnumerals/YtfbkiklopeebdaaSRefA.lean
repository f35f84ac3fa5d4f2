/- The reference's sizes, parts and classes of floats. -/
import Derived.Test.YtfbkiklopeebdaaSoftMir
namespace Go.Proofs.Ytfbkiklopeebdaa
open Go.RowKit
set_option linter.unusedVariables false
set_option linter.unusedSimpArgs false
/-- A format's number. -/
def fb (s : Bool) : Int := if s then 1 else 0
def fE (s : Bool) : Int := if s then 8 else 11
/-- A float's exponent. -/
def xpo (s : Bool) (a : Int) : Int := a / 2 ^ fP s % 2 ^ (fE s).toNat
theorem and_bits (x i : Nat) (m : Int) (hm : m = ((2 ^ i - 1 : Nat) : Int)) (hi : 2 ^ i ≤ 18446744073709551616) (a : Int) (ha : a = (x : Int)) (h : x < 18446744073709551616) : bits BinOp.and IntKind.u64 a m = a % 2 ^ i := by
  subst hm ha
  have p := Nat.two_pow_pos i
  have t := u64_and_nat x (2 ^ i - 1) h (by omega)
  rw [Nat.and_two_pow_sub_one_eq_mod] at t
  rw [t, pow_cast, Int.natCast_emod]
theorem cls_ref_d (a : Int) (h : Word a) (w : wideB false a = false) : cls false a = (if xpo false a = 2047 ∧ a % 4503599627370496 ≠ 0 then 5 else if xpo false a = 2047 then 4 else if xpo false a = 0 ∧ a % 4503599627370496 = 0 then 1 else if xpo false a = 0 then 2 else 3) := by
  have h1 := h.1
  have h2 := h.2
  have e := zOf_double a h
  have x : xpo false a = a / 4503599627370496 % 2048 := rfl
  have i : fI false = 9218868437227405312 := rfl
  have p : (2 : Int) ^ fP false = 4503599627370496 := rfl
  unfold cls
  rw [w, if_neg (by decide), e, x, i, p]
  by_cases c1 : 9218868437227405312 < a % 9223372036854775808
  · rw [if_pos c1, if_pos (by omega)]
  · rw [if_neg c1]
    by_cases c2 : a % 9223372036854775808 = 9218868437227405312
    · rw [if_pos c2, if_neg (by omega), if_pos (by omega)]
    · rw [if_neg c2]
      by_cases c3 : a % 9223372036854775808 = 0
      · rw [if_pos c3, if_neg (by omega), if_neg (by omega), if_pos (by omega)]
      · rw [if_neg c3]
        by_cases c4 : a % 9223372036854775808 / 4503599627370496 = 0
        · rw [if_pos c4, if_neg (by omega), if_neg (by omega), if_neg (by omega), if_pos (by omega)]
        · rw [if_neg c4, if_neg (by omega), if_neg (by omega), if_neg (by omega), if_neg (by omega)]
theorem cls_ref_s (a : Int) (h : Word a) (w : wideB true a = false) : cls true a = (if xpo true a = 255 ∧ a % 8388608 ≠ 0 then 5 else if xpo true a = 255 then 4 else if xpo true a = 0 ∧ a % 8388608 = 0 then 1 else if xpo true a = 0 then 2 else 3) := by
  have h1 := h.1
  have h2 := h.2
  have a3 : a < 4294967296 := by unfold wideB at w; simp at w; exact w
  have e := zOf_single a h1 a3
  have x : xpo true a = a / 8388608 % 256 := rfl
  have i : fI true = 2139095040 := rfl
  have p : (2 : Int) ^ fP true = 8388608 := rfl
  unfold cls
  rw [w, if_neg (by decide), e, x, i, p]
  by_cases c1 : 2139095040 < a % 2147483648
  · rw [if_pos c1, if_pos (by omega)]
  · rw [if_neg c1]
    by_cases c2 : a % 2147483648 = 2139095040
    · rw [if_pos c2, if_neg (by omega), if_pos (by omega)]
    · rw [if_neg c2]
      by_cases c3 : a % 2147483648 = 0
      · rw [if_pos c3, if_neg (by omega), if_neg (by omega), if_pos (by omega)]
      · rw [if_neg c3]
        by_cases c4 : a % 2147483648 / 8388608 = 0
        · rw [if_pos c4, if_neg (by omega), if_neg (by omega), if_neg (by omega), if_pos (by omega)]
        · rw [if_neg c4, if_neg (by omega), if_neg (by omega), if_neg (by omega), if_neg (by omega)]
end Go.Proofs.Ytfbkiklopeebdaa

