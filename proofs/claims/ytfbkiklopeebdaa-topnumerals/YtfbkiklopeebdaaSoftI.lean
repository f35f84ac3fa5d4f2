/- The quotient of two floats that are taken apart. -/
import Derived.Test.YtfbkiklopeebdaaSoftH
namespace Go.Proofs.Ytfbkiklopeebdaa
open Go.RowKit
set_option linter.unusedVariables false
set_option linter.unusedSimpArgs false
theorem blen_word {u : Int} (h : Word u) (u0 : u ≠ 0) (u1 : u < 9007199254740992) : 1 ≤ blen (nn 0 u) ∧ blen (nn 0 u) ≤ 53 ∧ 2 ^ 127 ≤ u.toNat * 2 ^ (128 - blen (nn 0 u)) ∧ u.toNat * 2 ^ (128 - blen (nn 0 u)) < 2 ^ 128 := by
  rw [nn_low u h]
  have n0 : u.toNat ≠ 0 := by have := h.1; omega
  obtain ⟨a, b⟩ := blen_le n0
  have c := lt_blen u.toNat
  have d : blen u.toNat ≤ 53 := blen_le_of (by have := h.1; omega)
  refine ⟨b, d, ?_, ?_⟩
  · have : 2 ^ (blen u.toNat - 1) * 2 ^ (128 - blen u.toNat) ≤ u.toNat * 2 ^ (128 - blen u.toNat) := Nat.mul_le_mul_right _ a
    rw [← Nat.pow_add, show blen u.toNat - 1 + (128 - blen u.toNat) = 127 by omega] at this
    exact this
  · have : u.toNat * 2 ^ (128 - blen u.toNat) < 2 ^ blen u.toNat * 2 ^ (128 - blen u.toNat) := Nat.mul_lt_mul_of_pos_right c (Nat.two_pow_pos _)
    rw [← Nat.pow_add, show blen u.toNat + (128 - blen u.toNat) = 128 by omega] at this
    exact this
theorem blen_word2 {u : Int} (h : Word u) (u1 : u < 9007199254740992) : blen (nn 0 u) ≤ 53 ∧ (u ≠ 0 → 2 ^ 127 ≤ u.toNat * 2 ^ (128 - blen (nn 0 u))) ∧ u.toNat * 2 ^ (128 - blen (nn 0 u)) < 2 ^ 128 := by
  by_cases c : u = 0
  · subst c
    exact ⟨by decide, fun h => absurd rfl h, by decide⟩
  · obtain ⟨_, b, c, d⟩ := blen_word h c u1
    exact ⟨b, fun _ => c, d⟩
theorem quo_nat {u v sh sl qh ql r : Int} {up : Nat} (hu : Word u) (hv : Word v) (w1 : Word sh) (w2 : Word sl) (w3 : Word qh) (w4 : Word ql)
    (E : num sh sl = num 0 u * 2 ^ (up : Int).toNat % 340282366920938463463374607431768211456) (lt : u.toNat * 2 ^ up < 2 ^ 128)
    (E2 : num qh ql = num sh sl / v) (E3 : r = num sh sl % v) : nn qh ql = u.toNat * 2 ^ up / v.toNat ∧ (r != 0) = decide (u.toNat * 2 ^ up % v.toNat ≠ 0) := by
  have e1 := nn_num w1 w2
  have e2 := nn_num w3 w4
  obtain ⟨n, rfl⟩ := Int.eq_ofNat_of_zero_le hu.1
  obtain ⟨k, rfl⟩ := Int.eq_ofNat_of_zero_le hv.1
  have z : num 0 (n : Int) = (n : Int) := by unfold num; omega
  rw [z, pow_cast, Int.toNat_natCast, ← Int.natCast_mul] at E
  rw [Int.toNat_natCast, Int.toNat_natCast] at *
  generalize n * 2 ^ up = A at *
  have hA : num sh sl = (A : Int) := by omega
  rw [hA, ← Int.natCast_ediv, ← e2] at E2
  rw [hA, ← Int.natCast_emod] at E3
  refine ⟨by omega, ?_⟩
  rw [E3, Bool.eq_iff_iff, bne_iff_ne, decide_eq_true_iff]
  omega
theorem frozen_on {W w1 : World} (hb : Below W.heap.size W w1) {b o : Nat} {v : Value} (h : W.cell? ⟨b, o, none⟩ = some v) (f : W.frozen? ⟨b, o, none⟩ = false) : w1.frozen? ⟨b, o, none⟩ = false :=
  ((bcell hb).2 _ _ (lt_new h)).trans f
end Go.Proofs.Ytfbkiklopeebdaa

