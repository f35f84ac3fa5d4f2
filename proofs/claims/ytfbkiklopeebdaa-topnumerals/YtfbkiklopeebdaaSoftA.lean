/- What soft's formats say of a float: formatOf, class, split, nan, most, signed. -/
import Derived.Test.YtfbkiklopeebdaaWideG
import Derived.Test.YtfbkiklopeebdaaRnd
import Derived.Laws.BitsAllLaws
namespace Go.Proofs.Ytfbkiklopeebdaa
open Go.RowKit
set_option linter.unusedVariables false
set_option linter.unusedSimpArgs false
/-- A format's numbers and masks: Single or not. -/
def fmtV : Bool → Value
  | true => .agg #[.int .i64 32, .int .i64 23, .int .i64 (-149), .int .u64 2147483648, .int .u64 2139095040]
  | false => .agg #[.int .i64 64, .int .i64 52, .int .i64 (-1074), .int .u64 9223372036854775808, .int .u64 9218868437227405312]
def fmtO : Bool → Obj
  | true => .cells #[.int .i64 32, .int .i64 23, .int .i64 (-149), .int .u64 2147483648, .int .u64 2139095040] 61
  | false => .cells #[.int .i64 64, .int .i64 52, .int .i64 (-1074), .int .u64 9223372036854775808, .int .u64 9218868437227405312] 61
def fNan (s : Bool) : Int := if s then 2143289344 else 9221120237041090560
/-- The bits without the sign. -/
def zOf (s : Bool) (a : Int) : Int := bits BinOp.andNot IntKind.u64 a (fS s)
/-- Is it none of a Single? -/
def wideB (s : Bool) (a : Int) : Bool := s && decide (4294967296 ≤ a)
/-- The class. -/
def cls (s : Bool) (a : Int) : Int :=
  if wideB s a then 0 else if fI s < zOf s a then 5 else if zOf s a = fI s then 4 else if zOf s a = 0 then 1 else if zOf s a / 2 ^ fP s = 0 then 2 else 3
theorem zOf_word (s : Bool) (a : Int) (h : Word a) : Word (zOf s a) := by
  obtain ⟨x, rfl⟩ := Int.eq_ofNat_of_zero_le h.1
  have hx := h.2
  have e : ∃ b : Nat, fS s = (b : Int) ∧ b < 18446744073709551616 := by
    cases s
    · exact ⟨9223372036854775808, rfl, by decide⟩
    · exact ⟨2147483648, rfl, by decide⟩
  obtain ⟨b, e1, e2⟩ := e
  unfold zOf
  rw [e1, u64_andNot_nat x b (by omega) e2]
  have l := Nat.and_le_left (n := x) (m := 18446744073709551615 - b)
  exact ⟨by omega, by omega⟩
theorem zOf_double (a : Int) (h : Word a) : zOf false a = a % 9223372036854775808 := by
  obtain ⟨x, rfl⟩ := Int.eq_ofNat_of_zero_le h.1
  have hx := h.2
  have t := u64_andNot_nat x 9223372036854775808 (by omega) (by decide)
  have e : x &&& (18446744073709551615 - 9223372036854775808) = x % 9223372036854775808 := Nat.and_two_pow_sub_one_eq_mod x 63
  rw [e] at t
  show bits BinOp.andNot IntKind.u64 (x : Int) 9223372036854775808 = _
  exact t.trans (by omega)
theorem zOf_single (a : Int) (h : 0 ≤ a) (h' : a < 4294967296) : zOf true a = a % 2147483648 := by
  obtain ⟨x, rfl⟩ := Int.eq_ofNat_of_zero_le h
  have t := u64_andNot_nat x 2147483648 (by omega) (by decide)
  have e : x &&& (18446744073709551615 - 2147483648) = x % 2147483648 := by
    have l := Nat.and_le_left (n := x) (m := 18446744073709551615 - 2147483648)
    have m := Nat.and_mod_two_pow (a := x) (b := 18446744073709551615 - 2147483648) (n := 32)
    rw [Nat.mod_eq_of_lt (a := x &&& (18446744073709551615 - 2147483648)) (by omega), Nat.mod_eq_of_lt (a := x) (by omega)] at m
    rw [m]
    exact Nat.and_two_pow_sub_one_eq_mod x 31
  rw [e] at t
  show bits BinOp.andNot IntKind.u64 (x : Int) 2147483648 = _
  exact t.trans (by omega)

set_option maxHeartbeats 800000 in
theorem formatOf_any (f : Int) (w : World) :
    Calls Try.prog 25 #[.int .i64 f] w fun e w' => e = .returned (fmtV (f == 1)) ∧ Below w.heap.size w w' := by
  by_cases c : f = 1
  · subst c
    go_enter Try.func25, Try.ntmps25
    go_wp2_with fail
    go_region
    go_wp2_with fail
    exact bodyPost_ret (v := fmtV true) (by simp [results, Try.results25, go_sem, fmtV]) rfl ⟨rfl, (below_two _ _ _).drew⟩
  · have c' : (f == 1) = false := by simp [c]
    rw [c']
    go_enter Try.func25, Try.ntmps25
    go_wp2_with fail
    go_region
    go_wp2_with fail
    exact bodyPost_ret (v := fmtV false) (by simp [results, Try.results25, go_sem, fmtV]) rfl ⟨rfl, (below_two _ _ _).drew⟩

theorem i64_eq {a b : Int} (h : a = b) : Ending.returned (Value.int IntKind.i64 a) = .returned (.int .i64 b) := by rw [h]
end Go.Proofs.Ytfbkiklopeebdaa

