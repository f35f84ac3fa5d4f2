/- What soft's nan, most, signed, order and the tests on parts answer. -/
import Derived.Test.YtfdinlomlcnjnaaDoorSoftB
namespace Go.Proofs.YtfdinlomlcnjnaaDoor
open Go.RowKit
set_option linter.unusedVariables false
set_option linter.unusedSimpArgs false
def prt (k : Int) (g : Bool) (u p : Int) : Value := .agg #[.int .i64 k, .bool g, .int .u64 u, .int .i64 p]
theorem prtV_eq (s : Bool) (a : Int) : prtV s a = prt (cls s a) (sgn s a) (whl s a) (pwr s a) := rfl
def prtO (k : Int) (g : Bool) (u p : Int) : Obj := .cells #[.int .i64 k, .bool g, .int .u64 u, .int .i64 p] 95

theorem or_nanD : bits BinOp.or IntKind.u64 9218868437227405312 2251799813685248 = 9221120237041090560 := by rfl
theorem or_nanS : bits BinOp.or IntKind.u64 2139095040 4194304 = 2143289344 := by rfl
theorem nan_any (s : Bool) (w : World) : Calls Tryd.prog 70 #[fmtV s] w fun e w' => e = .returned (.int .u64 (fNan s)) ∧ Below w.heap.size w w' := by
  have o1 := or_nanD
  have o2 := or_nanS
  cases s
  · unfold fmtV
    go_enter Tryd.func70, Tryd.ntmps70
    go_wp2_with fail
    go_region
    go_wp2_with fail
    go_ret
    exact ⟨rfl, ((Below.refl _ _).alloc (Nat.le_refl _) _).drew⟩
  · unfold fmtV
    go_enter Tryd.func70, Tryd.ntmps70
    go_wp2_with fail
    go_region
    go_wp2_with fail
    go_ret
    exact ⟨rfl, ((Below.refl _ _).alloc (Nat.le_refl _) _).drew⟩
theorem most_any (s : Bool) (w : World) : Calls Tryd.prog 71 #[fmtV s] w fun e w' => e = .returned (.int .u64 (fI s - 1)) ∧ w' = w.alloc (fmtO s) := by
  cases s
  · unfold fmtV fmtO
    go_enter Tryd.func71, Tryd.ntmps71
    go_wp2_with fail
    go_ret
    exact ⟨rfl, rfl⟩
  · unfold fmtV fmtO
    go_enter Tryd.func71, Tryd.ntmps71
    go_wp2_with fail
    go_ret
    exact ⟨rfl, rfl⟩
theorem or_signD (z : Int) (h0 : 0 ≤ z) (h : z < 9223372036854775808) : bits BinOp.or IntKind.u64 z 9223372036854775808 = z + 9223372036854775808 := by
  obtain ⟨x, rfl⟩ := Int.eq_ofNat_of_zero_le h0
  have t := u64_or_nat x 9223372036854775808 (by omega) (by decide)
  have e : x ||| 9223372036854775808 = x + 9223372036854775808 := by
    have k := Nat.two_pow_add_eq_or_of_lt (i := 63) (b := x) (by omega) 1
    rw [Nat.mul_one] at k
    rw [Nat.or_comm, ← show 2 ^ 63 = 9223372036854775808 by decide, ← k, Nat.add_comm]
  rw [e] at t
  exact t.trans (by omega)
theorem or_signS (z : Int) (h0 : 0 ≤ z) (h : z < 2147483648) : bits BinOp.or IntKind.u64 z 2147483648 = z + 2147483648 := by
  obtain ⟨x, rfl⟩ := Int.eq_ofNat_of_zero_le h0
  have t := u64_or_nat x 2147483648 (by omega) (by decide)
  have e : x ||| 2147483648 = x + 2147483648 := by
    have k := Nat.two_pow_add_eq_or_of_lt (i := 31) (b := x) (by omega) 1
    rw [Nat.mul_one] at k
    rw [Nat.or_comm, ← show 2 ^ 31 = 2147483648 by decide, ← k, Nat.add_comm]
  rw [e] at t
  exact t.trans (by omega)
theorem signed_any (s b : Bool) (z : Int) (h0 : 0 ≤ z) (h : z ≤ fI s) (w : World) :
    Calls Tryd.prog 82 #[fmtV s, .bool b, .int .u64 z] w fun e w' => e = .returned (.int .u64 (sgnd s b z)) ∧ w' = w.alloc (fmtO s) := by
  cases s <;> cases b
  · unfold fmtV fmtO
    go_enter Tryd.func82, Tryd.ntmps82
    go_wp2_with fail
    go_ret
    exact ⟨rfl, rfl⟩
  · have o := or_signD z h0 (by unfold fI at h; simp at h; omega)
    have v : sgnd false true z = z + 9223372036854775808 := rfl
    rw [v]
    unfold fmtV fmtO
    go_enter Tryd.func82, Tryd.ntmps82
    go_wp2_with fail
    go_ret
    exact ⟨rfl, rfl⟩
  · unfold fmtV fmtO
    go_enter Tryd.func82, Tryd.ntmps82
    go_wp2_with fail
    go_ret
    exact ⟨rfl, rfl⟩
  · have o := or_signS z h0 (by unfold fI at h; simp at h; omega)
    have v : sgnd true true z = z + 2147483648 := rfl
    rw [v]
    unfold fmtV fmtO
    go_enter Tryd.func82, Tryd.ntmps82
    go_wp2_with fail
    go_ret
    exact ⟨rfl, rfl⟩
theorem noNumber_any (k : Int) (g : Bool) (u p : Int) (w : World) :
    Calls Tryd.prog 73 #[prt k g u p] w fun e w' => e = .returned (.bool (k == 0 || k == 5)) ∧ w' = w.alloc (prtO k g u p) := by
  unfold prt prtO
  by_cases c : k = 0
  · subst c
    go_enter Tryd.func73, Tryd.ntmps73
    go_wp2_with fail
    go_ret
    exact ⟨rfl, rfl⟩
  · have c' : (k == 0) = false := by simp [c]
    rw [c', Bool.false_or]
    go_enter Tryd.func73, Tryd.ntmps73
    go_wp2_with fail
    all_goals go_ret
    all_goals exact ⟨rfl, rfl⟩
end Go.Proofs.YtfdinlomlcnjnaaDoor

