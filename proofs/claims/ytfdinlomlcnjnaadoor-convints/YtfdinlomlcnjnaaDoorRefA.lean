/- Rows of bools in memory; what plumblineref01.Bits and From answer. -/
import Derived.Test.YtfdinlomlcnjnaaDoorWideF
import Derived.Deep.OwnRows
namespace Go.Proofs.YtfdinlomlcnjnaaDoor
open Go.RowKit
set_option linter.unusedVariables false

/-- n bools, one behind the other. -/
def RowB (w : World) (b n : Nat) (f : Nat → Bool) : Prop := ∀ i, i < n → w.cell? ⟨b, i, none⟩ = some (.bool (f i))
/-- n cells that may be written. -/
def RowF (w : World) (b n : Nat) : Prop := ∀ i, i < n → w.frozen? ⟨b, i, none⟩ = false
/-- n new bools. -/
def freshW (w : World) (n : Nat) : World := w.alloc (.cells (madeCells #[.bool false] n) 4)
theorem fresh_size (w : World) (n : Nat) : (freshW w n).heap.size = w.heap.size + 1 := by simp [freshW]
theorem fresh_below (w : World) (n : Nat) : Below w.heap.size w (freshW w n) := (Below.refl _ _).alloc (Nat.le_refl _) _
theorem fresh_row (w : World) (n : Nat) : RowB (freshW w n) w.heap.size n (fun _ => false) := by
  intro i hi
  have := size_madeCells #[Value.bool false] n
  simp [freshW, go_sem, madeCells, hi, Nat.mod_one]
theorem fresh_free (w : World) (n : Nat) : RowF (freshW w n) w.heap.size n := by
  intro i hi
  simp [freshW, go_sem]
theorem make_bools (n : Nat) (hn : n ≤ 1000000) (w : World) : (Instr.makeSlice 67 (.int .i64 n) (.int .i64 n)).run Tryd.prog w = .ok (.slice (some ⟨w.heap.size, 0, none⟩) n n) (freshW w n) := by
  exact run_make_row' (P := Tryd.prog) 67 4 (.bool false) 1 Tryd.underlying67 (by kernel_rfl) rfl .i64 .i64 n (by omega) (by omega) w
theorem make_128 (w : World) : (Instr.makeSlice 67 (.int .i64 128) (.int .i64 128)).run Tryd.prog w = .ok (.slice (some ⟨w.heap.size, 0, none⟩) 128 128) (freshW w 128) := make_bools 128 (by decide) w

theorem RowB.below {W w1 : World} {b n : Nat} {f : Nat → Bool} (h : RowB W b n f) (hb : Below W.heap.size W w1) (hs : b < W.heap.size) : RowB w1 b n f := fun i hi => by
  rw [(bcell hb).1 _ _ hs]; exact h i hi
theorem RowF.below {W w1 : World} {b n : Nat} (h : RowF W b n) (hb : Below W.heap.size W w1) (hs : b < W.heap.size) : RowF w1 b n := fun i hi => by
  rw [(bcell hb).2 _ _ hs]; exact h i hi
theorem RowF.set {W : World} {b n : Nat} (h : RowF W b n) (a : Addr) (v : Value) : RowF (W.setCell a v) b n := fun i hi => by
  simpa [go_sem] using h i hi
theorem RowB.set {W : World} {b n : Nat} {f : Nat → Bool} (h : RowB W b n f) (k : Nat) (v : Bool) (hk : k < n) : RowB (W.setCell ⟨b, k, none⟩ (.bool v)) b n (fun i => if i = k then v else f i) := fun i hi => by
  by_cases e : i = k
  · subst e
    simp [go_sem, h i hi]
  · rw [World.cell?_setCell_other _ _ _ _ (by first | (simp; done) | (simp; omega)), h i hi]
    simp [e]
theorem RowB.far {W : World} {b n : Nat} {f : Nat → Bool} (h : RowB W b n f) (a : Addr) (v : Value) (hk : a.block ≠ b) : RowB (W.setCell a v) b n f := fun i hi => by
  rw [World.cell?_setCell_far _ _ _ _ (by simpa using hk)]; exact h i hi
theorem RowB.drew {W : World} {b n : Nat} {f : Nat → Bool} (h : RowB W b n f) : RowB W.drew b n f := h
theorem RowF.drew {W : World} {b n : Nat} (h : RowF W b n) : RowF W.drew b n := h
theorem RowB.ext {W : World} {b n : Nat} {f g : Nat → Bool} (h : RowB W b n f) (e : ∀ i, i < n → f i = g i) : RowB W b n g := fun i hi => by rw [h i hi, e i hi]

/-- The number of two words, as a natural number. -/
def N (h l : Int) : Nat := (num h l).toNat
theorem N_cast {h l : Int} (a : Word h) (b : Word l) : ((N h l : Nat) : Int) = num h l := Int.toNat_of_nonneg (num_lo a b)
theorem N_lt {h l : Int} (a : Word h) (b : Word l) : N h l < 2 ^ 128 := by
  have := num_hi a b; have e := N_cast a b
  have : (2 : Nat) ^ 128 = 340282366920938463463374607431768211456 := by decide
  omega
theorem N_bit {h l : Int} (a : Word h) (b : Word l) (j : Nat) : (N h l).testBit j = if j < 64 then l.toNat.testBit j else h.toNat.testBit (j - 64) := by
  have e : N h l = 2 ^ 64 * h.toNat + l.toNat := by
    have := N_cast a b; unfold num Word at *; omega
  rw [e]
  exact Nat.testBit_two_pow_mul_add h.toNat (by have := b.1; have := b.2; omega) j
theorem and_one (x : Int) (hx : Word x) : bits BinOp.and IntKind.u64 x 1 = x % 2 := by
  obtain ⟨a, rfl⟩ := Int.eq_ofNat_of_zero_le hx.1
  have ha := hx.2
  have t := bits_and_u64_nat a 1 (by omega) (by omega)
  rw [Nat.and_one_is_mod] at t
  have t' : bits BinOp.and IntKind.u64 (a : Int) 1 = ((a % 2 : Nat) : Int) := t
  rw [t']; omega
/-- A word's bit number k, as the program asks for it. -/
theorem bit_of (x : Int) (hx : Word x) (k : Nat) : (bits BinOp.and IntKind.u64 (x / 2 ^ k) 1 == 1) = x.toNat.testBit k := by
  obtain ⟨a, rfl⟩ := Int.eq_ofNat_of_zero_le hx.1
  have ha := hx.2
  rw [castShr, and_one _ ⟨Int.natCast_nonneg _, by have := Nat.div_le_self a (2 ^ k); omega⟩, Int.toNat_natCast, Nat.testBit_eq_decide_div_mod_eq, Bool.eq_iff_iff, beq_iff_eq, decide_eq_true_iff]
  generalize a / 2 ^ k = q
  omega

/-- What the bits' row holds behind k rounds. -/
def bitsTo (A k : Nat) (j : Nat) : Bool := if j < 64 then decide (j < k) && A.testBit j else decide (j - 64 < k) && A.testBit j
theorem bitsTo_zero (A : Nat) : bitsTo A 0 = fun _ => false := by funext j; simp [bitsTo]
theorem bitsTo_full (A j : Nat) (h : j < 128) : bitsTo A 64 j = A.testBit j := by
  unfold bitsTo; split
  · simp [*]
  · have : j - 64 < 64 := by omega
    simp [this]
theorem bitsTo_succ (A k : Nat) (hk : k < 64) : (fun i => if i = 64 + k then A.testBit (64 + k) else if i = k then A.testBit k else bitsTo A k i) = bitsTo A (k + 1) := by
  funext j
  unfold bitsTo
  by_cases e1 : j = 64 + k
  · subst e1
    have a1 : ¬ 64 + k < 64 := by omega
    have a2 : 64 + k - 64 < k + 1 := by omega
    simp [a1]
  · by_cases e2 : j = k
    · subst e2
      have a0 : ¬ j = 64 + j := by omega
      simp [hk]
    · simp only [if_neg e1, if_neg e2]
      by_cases c : j < 64
      · simp only [if_pos c]
        have : (decide (j < k)) = decide (j < k + 1) := by rw [decide_eq_decide]; omega
        rw [this]
      · simp only [if_neg c]
        have : (decide (j - 64 < k)) = decide (j - 64 < k + 1) := by rw [decide_eq_decide]; omega
        rw [this]

end Go.Proofs.YtfdinlomlcnjnaaDoor

