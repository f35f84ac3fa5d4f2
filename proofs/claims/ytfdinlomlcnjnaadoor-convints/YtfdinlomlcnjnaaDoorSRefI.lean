/- The reference's infinite floats; how a float is put together of its parts. -/
import Derived.Test.YtfdinlomlcnjnaaDoorSRefN
import Derived.Test.YtfdinlomlcnjnaaDoorSRefC
import Derived.Deep.QuietTactic
import Derived.BigQuiet
namespace Go.Proofs.YtfdinlomlcnjnaaDoor
open Go.RowKit
set_option linter.unusedVariables false
set_option linter.unusedSimpArgs false
theorem or_top (x i : Nat) (h : x < 2 ^ i) (hi : i < 64) : bits BinOp.or IntKind.u64 ((2 ^ i : Nat) : Int) (x : Int) = ((2 ^ i + x : Nat) : Int) := by
  have p : 2 ^ i < 2 ^ 64 := Nat.pow_lt_pow_right (by decide) hi
  rw [u64_or_nat _ _ (by omega) (by omega)]
  have := Nat.two_pow_add_eq_or_of_lt h 1
  rw [Nat.mul_one] at this
  rw [← this]
theorem or_none (x : Nat) (h : x < 2 ^ 64) : bits BinOp.or IntKind.u64 0 (x : Int) = (x : Int) := by
  have t := u64_or_nat 0 x (by decide) (by omega)
  rw [Nat.zero_or] at t
  exact t
theorem or_lowN (x m i : Nat) (hm : m < 2 ^ i) (h : x * 2 ^ i + m < 2 ^ 64) : bits BinOp.or IntKind.u64 ((x * 2 ^ i : Nat) : Int) (m : Int) = ((x * 2 ^ i + m : Nat) : Int) := by
  rw [u64_or_nat _ _ (by omega) (by omega), Nat.mul_comm x, Nat.two_pow_add_eq_or_of_lt hm x]
/-- The sign ahead of what is less. -/
theorem or_sign (s b : Bool) (x : Nat) (h : (x : Int) < fS s) : bits BinOp.or IntKind.u64 (if b then fS s else 0) (x : Int) = sgnd s b (x : Int) := by
  have e1 : fS false = ((2 ^ 63 : Nat) : Int) := by decide
  have e2 : fS true = ((2 ^ 31 : Nat) : Int) := by decide
  unfold sgnd
  cases b
  · have h' : x < 2 ^ 64 := by cases s; rw [e1] at h; omega; rw [e2] at h; omega
    rw [if_neg (by decide), if_neg (by decide), or_none x h']
  · rw [if_pos rfl, if_pos rfl]
    cases s
    · rw [e1] at h ⊢
      rw [or_top x 63 (by omega) (by decide)]; omega
    · rw [e2] at h ⊢
      rw [or_top x 31 (by omega) (by decide)]; omega
/-- A sign, an exponent and a fraction, put together. -/
theorem put_d (b : Bool) (X M : Nat) (hX : X < 2048) (hM : M < 4503599627370496) : bits BinOp.or IntKind.u64 (bits BinOp.or IntKind.u64 (if b then 9223372036854775808 else 0) ((X * 4503599627370496 : Nat) : Int)) (M : Int) = sgnd false b ((X : Int) * 4503599627370496 + M) := by
  have e := or_sign false b (X * 4503599627370496) (by show _ < (9223372036854775808 : Int); omega)
  have e0 : fS false = 9223372036854775808 := rfl
  rw [e0] at e
  rw [e]
  cases b
  · unfold sgnd
    rw [if_neg (by decide), if_neg (by decide)]
    have t := or_lowN X M 52 (by omega) (by omega)
    rw [show (2 : Nat) ^ 52 = 4503599627370496 from rfl] at t
    rw [t]; omega
  · unfold sgnd
    rw [if_pos rfl, if_pos rfl, e0]
    have t := or_lowN (X + 2048) M 52 (by omega) (by omega)
    rw [show ((X * 4503599627370496 : Nat) : Int) + 9223372036854775808 = (((X + 2048) * 2 ^ 52 : Nat) : Int) by omega, t]
    omega
theorem put_s (b : Bool) (X M : Nat) (hX : X < 256) (hM : M < 8388608) : bits BinOp.or IntKind.u64 (bits BinOp.or IntKind.u64 (if b then 2147483648 else 0) ((X * 8388608 : Nat) : Int)) (M : Int) = sgnd true b ((X : Int) * 8388608 + M) := by
  have e := or_sign true b (X * 8388608) (by show _ < (2147483648 : Int); omega)
  have e0 : fS true = 2147483648 := rfl
  rw [e0] at e
  rw [e]
  cases b
  · unfold sgnd
    rw [if_neg (by decide), if_neg (by decide)]
    have t := or_lowN X M 23 (by omega) (by omega)
    rw [show (2 : Nat) ^ 23 = 8388608 from rfl] at t
    rw [t]; omega
  · unfold sgnd
    rw [if_pos rfl, if_pos rfl, e0]
    have t := or_lowN (X + 256) M 23 (by omega) (by omega)
    rw [show ((X * 8388608 : Nat) : Int) + 2147483648 = (((X + 256) * 2 ^ 23 : Nat) : Int) by omega, t]
    omega
theorem rinf_any (s b : Bool) (w : World) : Calls Tryd.prog 76 #[.int .i64 (fb s), .bool b] w fun e w' => e = .returned (.int .u64 (sgnd s b (fI s))) ∧ ∃ n, w' = w.drewN n := by
  cases s
  · have hs := rsize_d
    have hg : ∀ w, Calls Tryd.prog 80 #[.int .i64 0, .bool b] w fun e w' => e = .returned (.int .u64 (if b then 9223372036854775808 else 0)) ∧ w' = w := rsign_any false b
    have o : bits BinOp.or IntKind.u64 (if b then 9223372036854775808 else 0) 9218868437227405312 = sgnd false b (fI false) := or_sign false b 9218868437227405312 (by decide)
    show Calls Tryd.prog 76 #[.int .i64 0, .bool b] w _
    generalize (if b then (9223372036854775808 : Int) else 0) = S at *
    generalize sgnd false b (fI false) = V at *
    go_enter Tryd.func76, Tryd.ntmps76
    go_wp2_with (go_at_call 67; refine (hs _).mono ?_; rintro e w1 ⟨rfl, rfl⟩)
    go_quiet ((go_at_call 80; exact Calls.quiet_of_same (hg _)))
    go_wp2_with fail
    go_ret
    exact ⟨rfl, _, rfl⟩
  · have hs := rsize_s
    have hg : ∀ w, Calls Tryd.prog 80 #[.int .i64 1, .bool b] w fun e w' => e = .returned (.int .u64 (if b then 2147483648 else 0)) ∧ w' = w := rsign_any true b
    have o : bits BinOp.or IntKind.u64 (if b then 2147483648 else 0) 2139095040 = sgnd true b (fI true) := or_sign true b 2139095040 (by decide)
    show Calls Tryd.prog 76 #[.int .i64 1, .bool b] w _
    generalize (if b then (2147483648 : Int) else 0) = S at *
    generalize sgnd true b (fI true) = V at *
    go_enter Tryd.func76, Tryd.ntmps76
    go_wp2_with (go_at_call 67; refine (hs _).mono ?_; rintro e w1 ⟨rfl, rfl⟩)
    go_quiet ((go_at_call 80; exact Calls.quiet_of_same (hg _)))
    go_wp2_with fail
    go_ret
    exact ⟨rfl, _, rfl⟩
end Go.Proofs.YtfdinlomlcnjnaaDoor

