/- What soft's nan, most, signed, order and the tests on parts answer. -/
import Derived.Test.YtfbkiklopeebdaaSoftB
namespace Go.Proofs.Ytfbkiklopeebdaa
open Go.RowKit
set_option linter.unusedVariables false
set_option linter.unusedSimpArgs false
def prt (k : Int) (g : Bool) (u p : Int) : Value := .agg #[.int .i64 k, .bool g, .int .u64 u, .int .i64 p]
theorem prtV_eq (s : Bool) (a : Int) : prtV s a = prt (cls s a) (sgn s a) (whl s a) (pwr s a) := rfl
theorem or_nanD : bits BinOp.or IntKind.u64 9218868437227405312 2251799813685248 = 9221120237041090560 := by rfl
theorem or_nanS : bits BinOp.or IntKind.u64 2139095040 4194304 = 2143289344 := by rfl
theorem most_any (s : Bool) (w : World) : Calls Try.prog 37 #[fmtV s] w fun e w' => e = .returned (.int .u64 (fI s - 1)) ∧ w' = w.alloc (fmtO s) := by
  cases s
  · unfold fmtV fmtO
    go_enter Try.func37, Try.ntmps37
    go_wp2_with fail
    go_ret
    exact ⟨rfl, rfl⟩
  · unfold fmtV fmtO
    go_enter Try.func37, Try.ntmps37
    go_wp2_with fail
    go_ret
    exact ⟨rfl, rfl⟩
theorem or_signD (z : Int) (h0 : 0 ≤ z) (h : z < 9223372036854775808) : bits BinOp.or IntKind.u64 z 9223372036854775808 = z + 9223372036854775808 := by
  obtain ⟨x, rfl⟩ := Int.eq_ofNat_of_zero_le h0
  have t := u64_or_nat x 9223372036854775808 (by omega) (by decide)
  have e : x ||| 9223372036854775808 = x + 9223372036854775808 := by
    have k := Nat.two_pow_add_eq_or_of_lt (i := 63) (b := x) (by omega) 1
    rw [Nat.mul_one] at k
    rw [Nat.or_comm, ← show 2 ^ 63 = 9223372036854775808 by decide, ← k, Nat.add_comm]
  rw [e] at t
  exact t.trans (by omega)
theorem or_signS (z : Int) (h0 : 0 ≤ z) (h : z < 2147483648) : bits BinOp.or IntKind.u64 z 2147483648 = z + 2147483648 := by
  obtain ⟨x, rfl⟩ := Int.eq_ofNat_of_zero_le h0
  have t := u64_or_nat x 2147483648 (by omega) (by decide)
  have e : x ||| 2147483648 = x + 2147483648 := by
    have k := Nat.two_pow_add_eq_or_of_lt (i := 31) (b := x) (by omega) 1
    rw [Nat.mul_one] at k
    rw [Nat.or_comm, ← show 2 ^ 31 = 2147483648 by decide, ← k, Nat.add_comm]
  rw [e] at t
  exact t.trans (by omega)
theorem signed_any (s b : Bool) (z : Int) (h0 : 0 ≤ z) (h : z ≤ fI s) (w : World) :
    Calls Try.prog 27 #[fmtV s, .bool b, .int .u64 z] w fun e w' => e = .returned (.int .u64 (sgnd s b z)) ∧ w' = w.alloc (fmtO s) := by
  cases s <;> cases b
  · unfold fmtV fmtO
    go_enter Try.func27, Try.ntmps27
    go_wp2_with fail
    go_ret
    exact ⟨rfl, rfl⟩
  · have o := or_signD z h0 (by unfold fI at h; simp at h; omega)
    have v : sgnd false true z = z + 9223372036854775808 := rfl
    rw [v]
    unfold fmtV fmtO
    go_enter Try.func27, Try.ntmps27
    go_wp2_with fail
    go_ret
    exact ⟨rfl, rfl⟩
  · unfold fmtV fmtO
    go_enter Try.func27, Try.ntmps27
    go_wp2_with fail
    go_ret
    exact ⟨rfl, rfl⟩
  · have o := or_signS z h0 (by unfold fI at h; simp at h; omega)
    have v : sgnd true true z = z + 2147483648 := rfl
    rw [v]
    unfold fmtV fmtO
    go_enter Try.func27, Try.ntmps27
    go_wp2_with fail
    go_ret
    exact ⟨rfl, rfl⟩
end Go.Proofs.Ytfbkiklopeebdaa

