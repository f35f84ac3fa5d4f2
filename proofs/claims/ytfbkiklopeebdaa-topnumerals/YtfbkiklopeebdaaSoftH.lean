/- Sums and quotients of two floats that are taken apart. -/
import Derived.Test.YtfbkiklopeebdaaSoftG
namespace Go.Proofs.Ytfbkiklopeebdaa
open Go.RowKit
set_option linter.unusedVariables false
set_option linter.unusedSimpArgs false
/-- The whole number and the power of a finite float. -/
def Fin (s : Bool) (u p : Int) : Prop := 0 ≤ u ∧ u < 2 ^ (fP s + 1) ∧ fL s ≤ p ∧ p ≤ 2000 ∧ (fL s < p → 2 ^ fP s ≤ u)
theorem Fin.word {s : Bool} {u p : Int} (h : Fin s u p) : Word u := by
  obtain ⟨a, b, _⟩ := h
  cases s
  · exact ⟨a, Int.lt_trans b (by decide)⟩
  · exact ⟨a, Int.lt_trans b (by decide)⟩
theorem Fin.lt53 {s : Bool} {u p : Int} (h : Fin s u p) : u < 9007199254740992 := by
  obtain ⟨a, b, _⟩ := h
  cases s
  · exact b
  · exact Int.lt_trans b (by decide)
theorem Fin.low {s : Bool} {u p : Int} (h : Fin s u p) : -1074 ≤ p := by
  obtain ⟨_, _, c, _⟩ := h
  cases s
  · exact c
  · exact Int.le_trans (by decide) c
theorem Fin.nat {s : Bool} {u p : Int} (h : Fin s u p) : u.toNat < 2 ^ (fP s + 1) ∧ (fL s < p → 2 ^ fP s ≤ u.toNat) := by
  obtain ⟨a, b, c, d, e⟩ := h
  refine ⟨?_, fun g => ?_⟩
  · rw [pow_cast] at b; omega
  · have := e g; rw [pow_cast] at this; omega
theorem nn_low (u : Int) (h : Word u) : nn 0 u = u.toNat := by unfold nn num; congr 1; omega
/-- Moved up by at most 70 bits. -/
theorem up70 {u h l d : Int} (hu : 0 ≤ u) (hu2 : u < 9007199254740992) (d0 : 0 ≤ d) (d1 : d ≤ 70) (wh : Word h) (wl : Word l)
    (E : num h l = num 0 u * 2 ^ d.toNat % 340282366920938463463374607431768211456) : nn h l = u.toNat * 2 ^ d.toNat ∧ num h l < 2 ^ 123 := by
  have e := nn_num wh wl
  have p : 2 ^ d.toNat ≤ 2 ^ 70 := Nat.pow_le_pow_right (by decide) (by omega)
  obtain ⟨n, rfl⟩ := Int.eq_ofNat_of_zero_le hu
  have z : num 0 (n : Int) = (n : Int) := by unfold num; omega
  rw [z, pow_cast, ← Int.natCast_mul] at E
  have q : n * 2 ^ d.toNat < 2 ^ 53 * 2 ^ 70 := Nat.mul_lt_mul_of_lt_of_le (by omega) p (by decide)
  rw [Int.toNat_natCast]
  generalize n * 2 ^ d.toNat = M at *
  have : (2 : Int) ^ 123 = ((2 ^ 123 : Nat) : Int) := by simp
  omega
theorem sub_nat {ah al bh bl sh sl : Int} (w1 : Word ah) (w2 : Word al) (w3 : Word bh) (w4 : Word bl) (w5 : Word sh) (w6 : Word sl) (E : num sh sl = (num ah al - num bh bl) % 340282366920938463463374607431768211456) (h : nn bh bl ≤ nn ah al) :
    nn sh sl = nn ah al - nn bh bl := by
  have a := nn_num w1 w2
  have b := nn_num w3 w4
  have c := nn_num w5 w6
  have d := num_hi w1 w2
  omega
theorem ru_eq {a b : Int} (h : a = b) : Ending.returned (Value.int IntKind.u64 a) = .returned (.int .u64 b) := by rw [h]
end Go.Proofs.Ytfbkiklopeebdaa

