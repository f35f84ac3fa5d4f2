/- What soft's split, nan, most, signed, order and the tests on parts answer. -/
import Derived.Test.YtfbkiklopeebdaaSoftA
import Derived.Test.YtfbkiklopeebdaaRndB
namespace Go.Proofs.Ytfbkiklopeebdaa
open Go.RowKit
set_option linter.unusedVariables false
set_option linter.unusedSimpArgs false
/-- Has it a sign? -/
def sgn (s : Bool) (a : Int) : Bool := bits BinOp.and IntKind.u64 a (fS s) != 0
/-- Its whole number, and the power of 2. -/
def whl (s : Bool) (a : Int) : Int := if 0 < zOf s a / 2 ^ fP s then a % 2 ^ fP s + 2 ^ fP s else a % 2 ^ fP s
def pwr (s : Bool) (a : Int) : Int := if 0 < zOf s a / 2 ^ fP s then fL s + (zOf s a / 2 ^ fP s - 1) else fL s
/-- A float taken apart. -/
def prtV (s : Bool) (a : Int) : Value := .agg #[.int .i64 (cls s a), .bool (sgn s a), .int .u64 (whl s a), .int .i64 (pwr s a)]

theorem and_lowD (a : Int) (h : Word a) : bits BinOp.and IntKind.u64 a 4503599627370495 = a % 4503599627370496 := by
  obtain ⟨x, rfl⟩ := Int.eq_ofNat_of_zero_le h.1
  have hx := h.2
  have t := u64_and_nat x 4503599627370495 (by omega) (by decide)
  have e : x &&& 4503599627370495 = x % 4503599627370496 := Nat.and_two_pow_sub_one_eq_mod x 52
  rw [e] at t
  exact t.trans (by omega)
theorem or_topD (r : Int) (h0 : 0 ≤ r) (h : r < 4503599627370496) : bits BinOp.or IntKind.u64 r 4503599627370496 = r + 4503599627370496 := by
  obtain ⟨x, rfl⟩ := Int.eq_ofNat_of_zero_le h0
  have t := u64_or_nat x 4503599627370496 (by omega) (by decide)
  have e : x ||| 4503599627370496 = x + 4503599627370496 := by
    have k := Nat.two_pow_add_eq_or_of_lt (i := 52) (b := x) (by omega) 1
    rw [Nat.mul_one] at k
    rw [Nat.or_comm, ← show 2 ^ 52 = 4503599627370496 by decide, ← k, Nat.add_comm]
  rw [e] at t
  exact t.trans (by omega)

theorem and_lowS (a : Int) (h : Word a) : bits BinOp.and IntKind.u64 a 8388607 = a % 8388608 := by
  obtain ⟨x, rfl⟩ := Int.eq_ofNat_of_zero_le h.1
  have hx := h.2
  have t := u64_and_nat x 8388607 (by omega) (by decide)
  have e : x &&& 8388607 = x % 8388608 := Nat.and_two_pow_sub_one_eq_mod x 23
  rw [e] at t
  exact t.trans (by omega)
theorem or_topS (r : Int) (h0 : 0 ≤ r) (h : r < 8388608) : bits BinOp.or IntKind.u64 r 8388608 = r + 8388608 := by
  obtain ⟨x, rfl⟩ := Int.eq_ofNat_of_zero_le h0
  have t := u64_or_nat x 8388608 (by omega) (by decide)
  have e : x ||| 8388608 = x + 8388608 := by
    have k := Nat.two_pow_add_eq_or_of_lt (i := 23) (b := x) (by omega) 1
    rw [Nat.mul_one] at k
    rw [Nat.or_comm, ← show 2 ^ 23 = 8388608 by decide, ← k, Nat.add_comm]
  rw [e] at t
  exact t.trans (by omega)
end Go.Proofs.Ytfbkiklopeebdaa

