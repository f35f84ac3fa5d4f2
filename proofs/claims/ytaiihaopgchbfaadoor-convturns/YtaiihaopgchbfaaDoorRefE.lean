/- What plumblineref01.Shl and Shr answer. -/
import Derived.Test.YtaiihaopgchbfaaDoorRefD
import Derived.Test.YtaiihaopgchbfaaDoorAids
namespace Go.Proofs.YtaiihaopgchbfaaDoor
open Go.RowKit
set_option linter.unusedVariables false

/-- What the memory holds while one number is reckoned: it, and the place of the answer. -/
structure OneMem (n : Nat) (ah al : Int) (w : World) : Prop where
  s0 : n < w.heap.size
  s1 : n + 1 < w.heap.size
  c0 : w.cell? ⟨n, 0, none⟩ = some (.int .u64 ah)
  c1 : w.cell? ⟨n, 1, none⟩ = some (.int .u64 al)
  e0 : ∃ x, w.cell? ⟨n + 1, 0, none⟩ = some (.int .u64 x)
  e1 : ∃ x, w.cell? ⟨n + 1, 1, none⟩ = some (.int .u64 x)
  f0 : w.frozen? ⟨n + 1, 0, none⟩ = false
  f1 : w.frozen? ⟨n + 1, 1, none⟩ = false
theorem OneMem.below {n : Nat} {ah al : Int} {W w1 : World} (h : OneMem n ah al W) (hb : Below W.heap.size W w1) : OneMem n ah al w1 := by
  obtain ⟨hc, hf⟩ := bcell hb
  have hs := hb.size
  refine ⟨by have := h.s0; omega, by have := h.s1; omega, ?_, ?_, ?_, ?_, ?_, ?_⟩
  · rw [hc _ _ h.s0]; exact h.c0
  · rw [hc _ _ h.s0]; exact h.c1
  · rw [hc _ _ h.s1]; exact h.e0
  · rw [hc _ _ h.s1]; exact h.e1
  · rw [hf _ _ h.s1]; exact h.f0
  · rw [hf _ _ h.s1]; exact h.f1
theorem OneMem.far {n : Nat} {ah al : Int} {W : World} (h : OneMem n ah al W) (a : Addr) (v : Value) (h0 : a.block ≠ n) (h1 : a.block ≠ n + 1) : OneMem n ah al (W.setCell a v) := by
  obtain ⟨s0, s1, c0, c1, e0, e1, f0, f1⟩ := h
  refine ⟨by simpa using s0, by simpa using s1, ?_, ?_, ?_, ?_, by simpa [go_sem] using f0, by simpa [go_sem] using f1⟩
  · rw [World.cell?_setCell_far _ _ _ _ h0]; exact c0
  · rw [World.cell?_setCell_far _ _ _ _ h0]; exact c1
  · rw [World.cell?_setCell_far _ _ _ _ h1]; exact e0
  · rw [World.cell?_setCell_far _ _ _ _ h1]; exact e1
theorem one_start (w : World) (ah al : Int) : OneMem w.heap.size ah al ((w.alloc (.cells #[.int .u64 ah, .int .u64 al] 57)).alloc (.cells #[.int .u64 0, .int .u64 0] 57)) := by
  constructor <;> first | (simp [go_sem]; done) | (simp; omega) | (exact ⟨0, by simp [go_sem]⟩)

/-! ### Up -/
def upTo (A M k : Nat) (j : Nat) : Bool := decide (k ≤ j) && (decide (M ≤ j) && A.testBit (j - M))
theorem upTo_start (A M j : Nat) (h : j < 128) : false = upTo A M 128 j := by
  unfold upTo
  have : ¬ 128 ≤ j := by omega
  simp [this]
theorem upTo_step (A M k : Nat) (hk : 1 ≤ k) (hM : M ≤ k - 1) : (fun i => if i = k - 1 then A.testBit (k - 1 - M) else upTo A M k i) = upTo A M (k - 1) := by
  funext j
  unfold upTo
  by_cases e : j = k - 1
  · subst e
    simp [hM]
  · simp only [if_neg e]
    have : (decide (k ≤ j)) = decide (k - 1 ≤ j) := by rw [decide_eq_decide]; omega
    rw [this]
theorem upTo_end (A M k j : Nat) (hk : k = 0 ∨ k - 1 < M) : upTo A M k j = (A * 2 ^ M).testBit j := by
  unfold upTo
  rw [← Nat.shiftLeft_eq, Nat.testBit_shiftLeft]
  by_cases c : M ≤ j
  · have : k ≤ j := by omega
    simp [c, this]
  · simp [c]
theorem num_mul_pow (h l h' l' : Int) (M : Nat) (a : Word h) (b : Word l) (a' : Word h') (b' : Word l') (e : N h' l' = N h l * 2 ^ M % 2 ^ 128) : num h' l' = num h l * 2 ^ M % 340282366920938463463374607431768211456 := by
  rw [← N_cast a b, ← N_cast a' b', e]
  have p : (2 : Nat) ^ 128 = 340282366920938463463374607431768211456 := by decide
  rw [p]
  simp

/-! ### Down -/
def dnTo (A M k : Nat) (j : Nat) : Bool := decide (j + M < k) && A.testBit (M + j)
theorem dnTo_low (A M k : Nat) (h : k < M) : dnTo A M k = dnTo A M (k + 1) := by
  funext j
  unfold dnTo
  have a : ¬ j + M < k := by omega
  have b : ¬ j + M < k + 1 := by omega
  simp [a, b]
theorem dnTo_step (A M k : Nat) (h : M ≤ k) : (fun i => if i = k - M then A.testBit k else dnTo A M k i) = dnTo A M (k + 1) := by
  funext j
  unfold dnTo
  by_cases e : j = k - M
  · subst e
    have a : k - M + M < k + 1 := by omega
    have b : M + (k - M) = k := by omega
    simp [a, b]
  · simp only [if_neg e]
    have : (decide (j + M < k)) = decide (j + M < k + 1) := by rw [decide_eq_decide]; omega
    rw [this]
theorem dnTo_end (A M j : Nat) (hA : A < 2 ^ 128) : dnTo A M 128 j = (A / 2 ^ M).testBit j := by
  unfold dnTo
  rw [← Nat.shiftRight_eq_div_pow, Nat.testBit_shiftRight]
  by_cases c : j + M < 128
  · simp [c]
  · have : A.testBit (M + j) = false := Nat.testBit_lt_two_pow (Nat.lt_of_lt_of_le hA (Nat.pow_le_pow_right (by decide) (by omega)))
    simp [c, this]
/-- Is one of the k lowest bits, and of the M lowest ones, set? -/
def lostTo (A M k : Nat) : Bool := decide (¬ A % 2 ^ (min k M) = 0)
theorem lostTo_zero (A M : Nat) : lostTo A M 0 = false := by
  unfold lostTo
  rw [Nat.zero_min, Nat.pow_zero, Nat.mod_one]; simp
theorem lostTo_high (A M k : Nat) (h : M ≤ k) : lostTo A M (k + 1) = lostTo A M k := by
  unfold lostTo
  rw [Nat.min_eq_right h, Nat.min_eq_right (by omega)]
theorem lostTo_low (A M k : Nat) (h : k < M) : lostTo A M (k + 1) = (lostTo A M k || A.testBit k) := by
  unfold lostTo
  rw [Nat.min_eq_left (by omega), Nat.min_eq_left (by omega), bitN, Nat.mod_pow_succ]
  have p := pow_pos' k
  generalize 2 ^ k = P at *
  generalize A % P = x
  generalize A / P = q
  rcases Nat.mod_two_eq_zero_or_one q with h1 | h1 <;> simp [h1]
  omega
theorem lostTo_end (A M : Nat) (hA : A < 2 ^ 128) : lostTo A M 128 = decide (¬ A % 2 ^ M = 0) := by
  unfold lostTo
  by_cases c : M ≤ 128
  · rw [Nat.min_eq_right c]
  · rw [Nat.min_eq_left (by omega), Nat.mod_eq_of_lt hA, Nat.mod_eq_of_lt (Nat.lt_of_lt_of_le hA (Nat.pow_le_pow_right (by decide) (by omega)))]
theorem from_exact (f : Nat → Bool) (S x : Nat) (h : IsFrom f 128 x) (hf : ∀ j, j < 128 → f j = S.testBit j) (hS : S < 2 ^ 128) : x = S := by
  rw [from_mod f S x h hf, Nat.mod_eq_of_lt hS]

end Go.Proofs.YtaiihaopgchbfaaDoor

