/- The other sign; differences; the statements' own sure test. -/
import Derived.Test.YtfbkiklopeebdaaSoftK
import Derived.Test.YtfbkiklopeebdaaSoftL
import Derived.Test.YtfbkiklopeebdaaSoftM
namespace Go.Proofs.Ytfbkiklopeebdaa
open Go.RowKit
set_option linter.unusedVariables false
set_option linter.unusedSimpArgs false
/-- A float with the other sign. -/
def negF (s : Bool) (a : Int) : Int := if cls s a == 0 || cls s a == 5 then fNan s else bits BinOp.xor IntKind.u64 a (fS s)
theorem fS_nat (s : Bool) : ∃ n : Nat, fS s = (n : Int) ∧ n < 18446744073709551616 := by
  cases s
  · exact ⟨9223372036854775808, rfl, by decide⟩
  · exact ⟨2147483648, rfl, by decide⟩
theorem xor_word (s : Bool) (a : Int) (h : Word a) : Word (bits BinOp.xor IntKind.u64 a (fS s)) := by
  obtain ⟨x, rfl⟩ := Int.eq_ofNat_of_zero_le h.1
  obtain ⟨n, e, l⟩ := fS_nat s
  have hx := h.2
  rw [e, u64_xor_nat x n (by omega) l]
  have : x ^^^ n < 2 ^ 64 := Nat.xor_lt_two_pow (by omega) (by omega)
  exact ⟨by omega, by omega⟩
theorem negF_word (s : Bool) (a : Int) (h : Word a) : Word (negF s a) := by
  unfold negF
  split
  · cases s <;> exact ⟨by decide, by decide⟩
  · exact xor_word s a h
/-- The difference of two floats. -/
def subF (s : Bool) (m a b : Int) : Int := addF s m a (negF s b)
end Go.Proofs.Ytfbkiklopeebdaa

