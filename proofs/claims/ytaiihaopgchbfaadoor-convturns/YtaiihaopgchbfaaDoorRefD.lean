/- What plumblineref01.Add and Sub answer. -/
import Derived.Test.YtaiihaopgchbfaaDoorRefC
namespace Go.Proofs.YtaiihaopgchbfaaDoor
open Go.RowKit
set_option linter.unusedVariables false

/-- What the memory holds while two numbers are reckoned: both, and the place of the answer. -/
structure TwoMem (n : Nat) (ah al bh bl : Int) (w : World) : Prop where
  s0 : n < w.heap.size
  s1 : n + 1 < w.heap.size
  s2 : n + 1 + 1 < w.heap.size
  c0 : w.cell? ⟨n, 0, none⟩ = some (.int .u64 ah)
  c1 : w.cell? ⟨n, 1, none⟩ = some (.int .u64 al)
  d0 : w.cell? ⟨n + 1, 0, none⟩ = some (.int .u64 bh)
  d1 : w.cell? ⟨n + 1, 1, none⟩ = some (.int .u64 bl)
  e0 : ∃ x, w.cell? ⟨n + 1 + 1, 0, none⟩ = some (.int .u64 x)
  e1 : ∃ x, w.cell? ⟨n + 1 + 1, 1, none⟩ = some (.int .u64 x)
  f0 : w.frozen? ⟨n + 1 + 1, 0, none⟩ = false
  f1 : w.frozen? ⟨n + 1 + 1, 1, none⟩ = false
theorem TwoMem.below {n : Nat} {ah al bh bl : Int} {W w1 : World} (h : TwoMem n ah al bh bl W) (hb : Below W.heap.size W w1) : TwoMem n ah al bh bl w1 := by
  obtain ⟨hc, hf⟩ := bcell hb
  have hs := hb.size
  refine ⟨by have := h.s0; omega, by have := h.s1; omega, by have := h.s2; omega, ?_, ?_, ?_, ?_, ?_, ?_, ?_, ?_⟩
  · rw [hc _ _ h.s0]; exact h.c0
  · rw [hc _ _ h.s0]; exact h.c1
  · rw [hc _ _ h.s1]; exact h.d0
  · rw [hc _ _ h.s1]; exact h.d1
  · rw [hc _ _ h.s2]; exact h.e0
  · rw [hc _ _ h.s2]; exact h.e1
  · rw [hf _ _ h.s2]; exact h.f0
  · rw [hf _ _ h.s2]; exact h.f1

theorem TwoMem.drew {n : Nat} {ah al bh bl : Int} {W : World} (h : TwoMem n ah al bh bl W) : TwoMem n ah al bh bl W.drew :=
  ⟨h.s0, h.s1, h.s2, h.c0, h.c1, h.d0, h.d1, h.e0, h.e1, h.f0, h.f1⟩

/-- The carry out of 128 places is what goes round. -/
theorem carry_128 (A B c : Nat) (ha : A < 2 ^ 128) (hb : B < 2 ^ 128) : cB A B c 128 = decide (2 ^ 128 ≤ A + B + c) := by
  unfold cB; rw [Nat.mod_eq_of_lt ha, Nat.mod_eq_of_lt hb]
theorem from_mod (f : Nat → Bool) (S x : Nat) (h : IsFrom f 128 x) (hf : ∀ j, j < 128 → f j = S.testBit j) : x = S % 2 ^ 128 := by
  apply Nat.eq_of_testBit_eq
  intro j
  rw [h j, Nat.testBit_mod_two_pow]
  by_cases c : j < 128
  · simp [c, hf j c]
  · simp [c]

/-! ### Differences -/
def flipTo (B k : Nat) (j : Nat) : Bool := if j < k then !B.testBit j else B.testBit j
theorem flipTo_succ (B k : Nat) : (fun i => if i = k then !B.testBit k else flipTo B k i) = flipTo B (k + 1) := by
  funext j
  unfold flipTo
  by_cases e : j = k
  · subst e; simp
  · by_cases c : j < k
    · have : j < k + 1 := by omega
      simp [e, c, this]
    · have : ¬ j < k + 1 := by omega
      simp [e, c, this]
theorem flip_bit (B j : Nat) (hB : B < 2 ^ 128) (hj : j < 128) : flipTo B 128 j = (2 ^ 128 - (B + 1)).testBit j := by
  unfold flipTo
  rw [Nat.testBit_two_pow_sub_succ hB]
  simp [hj]

end Go.Proofs.YtaiihaopgchbfaaDoor

