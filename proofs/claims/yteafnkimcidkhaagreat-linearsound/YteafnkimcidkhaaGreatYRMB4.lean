/- Texts of the proof, put together. -/
import Derived.Test.YteafnkimcidkhaaGreatYRMB3
import Derived.Deep.OwnRows
import Derived.Deep.QuietTactic
import Derived.BigQuiet
import Derived.Deep.CutRange
import Derived.WalkKit
import Derived.Laws.AppendOwnNone
namespace Go.Proofs.YteafnkimcidkhaaGreat
open Go.RowKit
set_option linter.unusedVariables false
set_option linter.unusedSimpArgs false
/-! ### What is kept, bit by bit from the top -/
end Go.Proofs.YteafnkimcidkhaaGreat
namespace Go.Proofs.YteafnkimcidkhaaGreat
open Go.RowKit
set_option linter.unusedVariables false
set_option linter.unusedSimpArgs false
end Go.Proofs.YteafnkimcidkhaaGreat
namespace Go.Proofs.YteafnkimcidkhaaGreat
open Go.RowKit
set_option linter.unusedVariables false

def RowB (w : World) (b n : Nat) (f : Nat → Bool) : Prop := ∀ i, i < n → w.cell? ⟨b, i, none⟩ = some (.bool (f i))
def RowF (w : World) (b n : Nat) : Prop := ∀ i, i < n → w.frozen? ⟨b, i, none⟩ = false
theorem RowB.below {W w1 : World} {b n : Nat} {f : Nat → Bool} (h : RowB W b n f) (hb : Below W.heap.size W w1) (hs : b < W.heap.size) : RowB w1 b n f := fun i hi => by
 rw [(bcell hb).1 _ _ hs]; exact h i hi
theorem RowF.below {W w1 : World} {b n : Nat} (h : RowF W b n) (hb : Below W.heap.size W w1) (hs : b < W.heap.size) : RowF w1 b n := fun i hi => by
 rw [(bcell hb).2 _ _ hs]; exact h i hi
theorem RowF.set {W : World} {b n : Nat} (h : RowF W b n) (a : Addr) (v : Value) : RowF (W.setCell a v) b n := fun i hi => by
 simpa [go_sem] using h i hi
theorem RowB.set {W : World} {b n : Nat} {f : Nat → Bool} (h : RowB W b n f) (k : Nat) (v : Bool) (hk : k < n) : RowB (W.setCell ⟨b, k, none⟩ (.bool v)) b n (fun i => if i = k then v else f i) := fun i hi => by
 by_cases e : i = k
 ·subst e
  simp [go_sem, h i hi]
 ·rw [World.cell?_setCell_other _ _ _ _ (by first | (simp; done) | (simp; omega)), h i hi]
  simp [e]
theorem RowB.far {W : World} {b n : Nat} {f : Nat → Bool} (h : RowB W b n f) (a : Addr) (v : Value) (hk : a.block ≠ b) : RowB (W.setCell a v) b n f := fun i hi => by
 rw [World.cell?_setCell_far _ _ _ _ (by simpa using hk)]; exact h i hi
theorem RowB.drew {W : World} {b n : Nat} {f : Nat → Bool} (h : RowB W b n f) : RowB W.drew b n f := h
theorem RowF.drew {W : World} {b n : Nat} (h : RowF W b n) : RowF W.drew b n := h
theorem RowB.ext {W : World} {b n : Nat} {f g : Nat → Bool} (h : RowB W b n f) (e : ∀ i, i < n → f i = g i) : RowB W b n g := fun i hi => by rw [h i hi, e i hi]
def N (h l : Int) : Nat := (num h l).toNat
end Go.Proofs.YteafnkimcidkhaaGreat
namespace Go.Proofs.YteafnkimcidkhaaGreat
open Go.RowKit
set_option linter.unusedVariables false
set_option linter.unusedSimpArgs false
end Go.Proofs.YteafnkimcidkhaaGreat
namespace Go.Proofs.YteafnkimcidkhaaGreat
open Go.RowKit
set_option linter.unusedVariables false
set_option linter.unusedSimpArgs false
end Go.Proofs.YteafnkimcidkhaaGreat
namespace Go.Proofs.YteafnkimcidkhaaGreat
open Go.RowKit
set_option linter.unusedVariables false

def IsFrom (f : Nat → Bool) (k x : Nat) : Prop := ∀ j, x.testBit j = (decide (j < k) && f j)
theorem IsFrom.skip {f : Nat → Bool} {k x : Nat} (h : IsFrom f k x) (hf : f k = false) : IsFrom f (k + 1) x := fun j => by
 rw [h j]
 by_cases e : j = k
 ·subst e; simp [hf]
 ·have : (decide (j < k)) = decide (j < k + 1) := by rw [decide_eq_decide]; omega
  rw [this]
end Go.Proofs.YteafnkimcidkhaaGreat
namespace Go.Proofs.YteafnkimcidkhaaGreat
open Go.RowKit
set_option linter.unusedVariables false
set_option linter.unusedSimpArgs false
end Go.Proofs.YteafnkimcidkhaaGreat
namespace Go.Proofs.YteafnkimcidkhaaGreat
open Go.RowKit
set_option linter.unusedVariables false
set_option linter.unusedSimpArgs false
end Go.Proofs.YteafnkimcidkhaaGreat
namespace Go.Proofs.YteafnkimcidkhaaGreat
open Go.RowKit
set_option linter.unusedVariables false
set_option linter.unusedSimpArgs false
def BitV (w : World) (v : Value) (n A : Nat) : Prop := A < 2 ^ n ∧ ((v = .slice none 0 0 ∧ n = 0) ∨ ∃ b cap, v = .slice (some ⟨b, 0, none⟩) n cap ∧ b < w.heap.size ∧ RowB w b n (fun i => A.testBit i))
theorem length_nil (w : World) : Calls Tryz.prog 128 #[.slice none 0 0] w fun e w' => e = .returned (.int .i64 0) ∧ w' = w := by
 go_enter Tryz.func128, Tryz.ntmps128
 go_wp2
 go_loopw [3] (fun i wr => i = .int .i64 0 ∧ wr = w) (fun i _ => 0)
 case atStart => exact ⟨rfl, rfl⟩
 case round =>
  obtain ⟨rfl, rfl⟩ := hrel
  go_wp2
  go_ret
  exact ⟨rfl, rfl⟩
/-! ### Rows of bits that the call itself makes -/
def Bl (n A : Nat) : List Value := (List.range n).map (fun i => .bool (A.testBit i))
theorem BitV.below {W w1 : World} {v : Value} {n A : Nat} (h : BitV W v n A) (hb : Below W.heap.size W w1) : BitV w1 v n A := by
 obtain ⟨a, h⟩ := h
 refine ⟨a, ?_⟩
 rcases h with h | ⟨b, cap, e, hs, row⟩
 ·exact Or.inl h
 ·exact Or.inr ⟨b, cap, e, Nat.lt_of_lt_of_le hs hb.size, row.below hb hs⟩
end Go.Proofs.YteafnkimcidkhaaGreat
namespace Go.Proofs.YteafnkimcidkhaaGreat
open Go.RowKit
set_option linter.unusedVariables false

end Go.Proofs.YteafnkimcidkhaaGreat
namespace Go.Proofs.YteafnkimcidkhaaGreat
open Go.RowKit
set_option linter.unusedVariables false

structure TwoMem (n : Nat) (ah al bh bl : Int) (w : World) : Prop where
 s0 : n < w.heap.size
 s1 : n + 1 < w.heap.size
 s2 : n + 1 + 1 < w.heap.size
 c0 : w.cell? ⟨n, 0, none⟩ = some (.int .u64 ah)
 c1 : w.cell? ⟨n, 1, none⟩ = some (.int .u64 al)
 d0 : w.cell? ⟨n + 1, 0, none⟩ = some (.int .u64 bh)
 d1 : w.cell? ⟨n + 1, 1, none⟩ = some (.int .u64 bl)
 e0 : ∃ x, w.cell? ⟨n + 1 + 1, 0, none⟩ = some (.int .u64 x)
 e1 : ∃ x, w.cell? ⟨n + 1 + 1, 1, none⟩ = some (.int .u64 x)
 f0 : w.frozen? ⟨n + 1 + 1, 0, none⟩ = false
 f1 : w.frozen? ⟨n + 1 + 1, 1, none⟩ = false
theorem TwoMem.below {n : Nat} {ah al bh bl : Int} {W w1 : World} (h : TwoMem n ah al bh bl W) (hb : Below W.heap.size W w1) : TwoMem n ah al bh bl w1 := by
 obtain ⟨hc, hf⟩ := bcell hb
 have hs := hb.size
 refine ⟨by have := h.s0; omega, by have := h.s1; omega, by have := h.s2; omega, ?_, ?_, ?_, ?_, ?_, ?_, ?_, ?_⟩
 ·rw [hc _ _ h.s0]; exact h.c0
 ·rw [hc _ _ h.s0]; exact h.c1
 ·rw [hc _ _ h.s1]; exact h.d0
 ·rw [hc _ _ h.s1]; exact h.d1
 ·rw [hc _ _ h.s2]; exact h.e0
 ·rw [hc _ _ h.s2]; exact h.e1
 ·rw [hf _ _ h.s2]; exact h.f0
 ·rw [hf _ _ h.s2]; exact h.f1
theorem TwoMem.drew {n : Nat} {ah al bh bl : Int} {W : World} (h : TwoMem n ah al bh bl W) : TwoMem n ah al bh bl W.drew :=
 ⟨h.s0, h.s1, h.s2, h.c0, h.c1, h.d0, h.d1, h.e0, h.e1, h.f0, h.f1⟩
/-! ### Differences -/
end Go.Proofs.YteafnkimcidkhaaGreat
namespace Go.Proofs.YteafnkimcidkhaaGreat
open Go.RowKit
set_option linter.unusedVariables false

structure OneMem (n : Nat) (ah al : Int) (w : World) : Prop where
 s0 : n < w.heap.size
 s1 : n + 1 < w.heap.size
 c0 : w.cell? ⟨n, 0, none⟩ = some (.int .u64 ah)
 c1 : w.cell? ⟨n, 1, none⟩ = some (.int .u64 al)
 e0 : ∃ x, w.cell? ⟨n + 1, 0, none⟩ = some (.int .u64 x)
 e1 : ∃ x, w.cell? ⟨n + 1, 1, none⟩ = some (.int .u64 x)
 f0 : w.frozen? ⟨n + 1, 0, none⟩ = false
 f1 : w.frozen? ⟨n + 1, 1, none⟩ = false
theorem OneMem.below {n : Nat} {ah al : Int} {W w1 : World} (h : OneMem n ah al W) (hb : Below W.heap.size W w1) : OneMem n ah al w1 := by
 obtain ⟨hc, hf⟩ := bcell hb
 have hs := hb.size
 refine ⟨by have := h.s0; omega, by have := h.s1; omega, ?_, ?_, ?_, ?_, ?_, ?_⟩
 ·rw [hc _ _ h.s0]; exact h.c0
 ·rw [hc _ _ h.s0]; exact h.c1
 ·rw [hc _ _ h.s1]; exact h.e0
 ·rw [hc _ _ h.s1]; exact h.e1
 ·rw [hf _ _ h.s1]; exact h.f0
 ·rw [hf _ _ h.s1]; exact h.f1
theorem OneMem.far {n : Nat} {ah al : Int} {W : World} (h : OneMem n ah al W) (a : Addr) (v : Value) (h0 : a.block ≠ n) (h1 : a.block ≠ n + 1) : OneMem n ah al (W.setCell a v) := by
 obtain ⟨s0, s1, c0, c1, e0, e1, f0, f1⟩ := h
 refine ⟨by simpa using s0, by simpa using s1, ?_, ?_, ?_, ?_, by simpa [go_sem] using f0, by simpa [go_sem] using f1⟩
 ·rw [World.cell?_setCell_far _ _ _ _ h0]; exact c0
 ·rw [World.cell?_setCell_far _ _ _ _ h0]; exact c1
 ·rw [World.cell?_setCell_far _ _ _ _ h1]; exact e0
 ·rw [World.cell?_setCell_far _ _ _ _ h1]; exact e1
/-! ### Up -/
def upTo (A M k : Nat) (j : Nat) : Bool := decide (k ≤ j) && (decide (M ≤ j) && A.testBit (j - M))
/-! ### Down -/
end Go.Proofs.YteafnkimcidkhaaGreat
namespace Go.Proofs.YteafnkimcidkhaaGreat
open Go.RowKit
set_option linter.unusedVariables false

structure SumMem (n : Nat) (sh sl : Int) (w : World) : Prop where
 s0 : n < w.heap.size
 s1 : n + 1 < w.heap.size
 d0 : ∃ x, w.cell? ⟨n, 0, none⟩ = some (.int .u64 x)
 d1 : ∃ x, w.cell? ⟨n, 1, none⟩ = some (.int .u64 x)
 e0 : w.cell? ⟨n + 1, 0, none⟩ = some (.int .u64 sh)
 e1 : w.cell? ⟨n + 1, 1, none⟩ = some (.int .u64 sl)
 f0 : w.frozen? ⟨n, 0, none⟩ = false
 f1 : w.frozen? ⟨n, 1, none⟩ = false
 f2 : w.frozen? ⟨n + 1, 0, none⟩ = false
 f3 : w.frozen? ⟨n + 1, 1, none⟩ = false
theorem SumMem.below {n : Nat} {sh sl : Int} {W w1 : World} (h : SumMem n sh sl W) (hb : Below W.heap.size W w1) : SumMem n sh sl w1 := by
 obtain ⟨hc, hf⟩ := bcell hb
 have hs := hb.size
 refine ⟨by have := h.s0; omega, by have := h.s1; omega, ?_, ?_, ?_, ?_, ?_, ?_, ?_, ?_⟩
 ·rw [hc _ _ h.s0]; exact h.d0
 ·rw [hc _ _ h.s0]; exact h.d1
 ·rw [hc _ _ h.s1]; exact h.e0
 ·rw [hc _ _ h.s1]; exact h.e1
 ·rw [hf _ _ h.s0]; exact h.f0
 ·rw [hf _ _ h.s0]; exact h.f1
 ·rw [hf _ _ h.s1]; exact h.f2
 ·rw [hf _ _ h.s1]; exact h.f3
theorem SumMem.set {n : Nat} {sh sl : Int} {W : World} (h : SumMem n sh sl W) (x y : Int) : SumMem n x y ((W.setCell ⟨n + 1, 0, none⟩ (.int .u64 x)).setCell ⟨n + 1, 1, none⟩ (.int .u64 y)) := by
 obtain ⟨s0, s1, ⟨x0, d0⟩, ⟨x1, d1⟩, e0, e1, f0, f1, f2, f3⟩ := h
 refine ⟨by simpa using s0, by simpa using s1, ⟨x0, ?_⟩, ⟨x1, ?_⟩, ?_, ?_, ?_, ?_, ?_, ?_⟩ <;> simp [go_sem, *]
theorem SumMem.drew {n : Nat} {sh sl : Int} {W : World} (h : SumMem n sh sl W) : SumMem n sh sl W.drew := ⟨h.s0, h.s1, h.d0, h.d1, h.e0, h.e1, h.f0, h.f1, h.f2, h.f3⟩
end Go.Proofs.YteafnkimcidkhaaGreat
namespace Go.Proofs.YteafnkimcidkhaaGreat
open Go.RowKit
set_option linter.unusedVariables false
set_option linter.unusedSimpArgs false
end Go.Proofs.YteafnkimcidkhaaGreat
namespace Go.Proofs.YteafnkimcidkhaaGreat
open Go.RowKit
set_option linter.unusedVariables false

/-! ### The number of bits -/
/-! ### Which one is greater -/
end Go.Proofs.YteafnkimcidkhaaGreat




