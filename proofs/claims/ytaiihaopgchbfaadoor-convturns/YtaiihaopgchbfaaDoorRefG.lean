/- What plumblineref01.Mul answers. -/
import Derived.Test.YtaiihaopgchbfaaDoorRefE
import Derived.Test.YtaiihaopgchbfaaDoorAids
namespace Go.Proofs.YtaiihaopgchbfaaDoor
open Go.RowKit
set_option linter.unusedVariables false

/-- What the memory holds while a sum is gathered: the place of the answer, and the sum. -/
structure SumMem (n : Nat) (sh sl : Int) (w : World) : Prop where
  s0 : n < w.heap.size
  s1 : n + 1 < w.heap.size
  d0 : ∃ x, w.cell? ⟨n, 0, none⟩ = some (.int .u64 x)
  d1 : ∃ x, w.cell? ⟨n, 1, none⟩ = some (.int .u64 x)
  e0 : w.cell? ⟨n + 1, 0, none⟩ = some (.int .u64 sh)
  e1 : w.cell? ⟨n + 1, 1, none⟩ = some (.int .u64 sl)
  f0 : w.frozen? ⟨n, 0, none⟩ = false
  f1 : w.frozen? ⟨n, 1, none⟩ = false
  f2 : w.frozen? ⟨n + 1, 0, none⟩ = false
  f3 : w.frozen? ⟨n + 1, 1, none⟩ = false
theorem SumMem.below {n : Nat} {sh sl : Int} {W w1 : World} (h : SumMem n sh sl W) (hb : Below W.heap.size W w1) : SumMem n sh sl w1 := by
  obtain ⟨hc, hf⟩ := bcell hb
  have hs := hb.size
  refine ⟨by have := h.s0; omega, by have := h.s1; omega, ?_, ?_, ?_, ?_, ?_, ?_, ?_, ?_⟩
  · rw [hc _ _ h.s0]; exact h.d0
  · rw [hc _ _ h.s0]; exact h.d1
  · rw [hc _ _ h.s1]; exact h.e0
  · rw [hc _ _ h.s1]; exact h.e1
  · rw [hf _ _ h.s0]; exact h.f0
  · rw [hf _ _ h.s0]; exact h.f1
  · rw [hf _ _ h.s1]; exact h.f2
  · rw [hf _ _ h.s1]; exact h.f3
theorem SumMem.set {n : Nat} {sh sl : Int} {W : World} (h : SumMem n sh sl W) (x y : Int) : SumMem n x y ((W.setCell ⟨n + 1, 0, none⟩ (.int .u64 x)).setCell ⟨n + 1, 1, none⟩ (.int .u64 y)) := by
  obtain ⟨s0, s1, ⟨x0, d0⟩, ⟨x1, d1⟩, e0, e1, f0, f1, f2, f3⟩ := h
  refine ⟨by simpa using s0, by simpa using s1, ⟨x0, ?_⟩, ⟨x1, ?_⟩, ?_, ?_, ?_, ?_, ?_, ?_⟩ <;> simp [go_sem, *]
theorem SumMem.drew {n : Nat} {sh sl : Int} {W : World} (h : SumMem n sh sl W) : SumMem n sh sl W.drew := ⟨h.s0, h.s1, h.d0, h.d1, h.e0, h.e1, h.f0, h.f1, h.f2, h.f3⟩
theorem sum_start (w : World) : SumMem w.heap.size 0 0 ((w.alloc (.cells #[.int .u64 0, .int .u64 0] 57)).alloc (.cells #[.int .u64 0, .int .u64 0] 57)) := by
  constructor <;> first | (simp [go_sem]; done) | (simp; omega) | (exact ⟨0, by simp [go_sem]⟩)

/-- The sum behind k places. -/
theorem mul_step0 (a b k : Nat) (h : b.testBit k = false) : a * (b % 2 ^ (k + 1)) = a * (b % 2 ^ k) := by
  rw [bitN, decide_eq_false_iff_not] at h
  rw [Nat.mod_pow_succ]
  have : b / 2 ^ k % 2 = 0 := by omega
  rw [this]; simp
theorem mul_step1 (a b k : Nat) (h : b.testBit k = true) : a * (b % 2 ^ (k + 1)) = a * (b % 2 ^ k) + a * 2 ^ k := by
  rw [bitN, decide_eq_true_iff] at h
  rw [Nat.mod_pow_succ, h, Nat.mul_one, Nat.mul_add]
theorem mul_lt (a b k : Nat) (ha : a < 18446744073709551616) (hb : b < 18446744073709551616) : a * (b % 2 ^ k) < 340282366920938463463374607431768211456 := by
  have l := Nat.mod_le b (2 ^ k)
  have : a * (b % 2 ^ k) ≤ 18446744073709551615 * 18446744073709551615 := Nat.mul_le_mul (by omega) (by omega)
  omega
/-- One more place is added. -/
theorem mul_add_step (a b k : Nat) (sh sl ph pl rh rl : Int) (ha : a < 18446744073709551616) (hb : b < 18446744073709551616) (hk : k < 64) (h : b.testBit k = true)
    (S : num sh sl = ((a * (b % 2 ^ k) : Nat) : Int)) (P : num ph pl = num 0 a * 2 ^ k % 340282366920938463463374607431768211456) (R : num rh rl = (num sh sl + num ph pl) % 340282366920938463463374607431768211456) :
    num rh rl = ((a * (b % 2 ^ (k + 1)) : Nat) : Int) := by
  have e := mul_step1 a b k h
  have l := mul_lt a b (k + 1) ha hb
  have p0 : num 0 (a : Int) * 2 ^ k = ((a * 2 ^ k : Nat) : Int) := by unfold num; simp
  rw [p0] at P
  rw [e] at l
  generalize a * 2 ^ k = x at *
  generalize a * (b % 2 ^ k) = y at *
  rw [e, R, S, P]
  omega

end Go.Proofs.YtaiihaopgchbfaaDoor

