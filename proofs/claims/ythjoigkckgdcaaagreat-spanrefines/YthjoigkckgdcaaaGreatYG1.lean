/- Texts of the proof, put together. -/
import Derived.Test.YthjoigkckgdcaaaGreatYMB3
import Derived.Deep.OwnRows
import Derived.Deep.QuietTactic
import Derived.BigQuiet
import Derived.Deep.CutRange
import Derived.WalkKit
import Derived.Laws.AppendOwnNone
namespace Go.Proofs.YthjoigkckgdcaaaGreat
open Go.RowKit
set_option linter.unusedVariables false
set_option linter.unusedSimpArgs false
/-! ### What is kept, bit by bit from the top -/
end Go.Proofs.YthjoigkckgdcaaaGreat
namespace Go.Proofs.YthjoigkckgdcaaaGreat
open Go.RowKit
set_option linter.unusedVariables false
set_option linter.unusedSimpArgs false
end Go.Proofs.YthjoigkckgdcaaaGreat
namespace Go.Proofs.YthjoigkckgdcaaaGreat
open Go.RowKit
set_option linter.unusedVariables false

def RowB (w : World) (b n : Nat) (f : Nat → Bool) : Prop := ∀ i, i < n → w.cell? ⟨b, i, none⟩ = some (.bool (f i))
def RowF (w : World) (b n : Nat) : Prop := ∀ i, i < n → w.frozen? ⟨b, i, none⟩ = false
theorem RowB.below {W w1 : World} {b n : Nat} {f : Nat → Bool} (h : RowB W b n f) (hb : Below W.heap.size W w1) (hs : b < W.heap.size) : RowB w1 b n f := fun i hi => by
  rw [(bcell hb).1 _ _ hs]; exact h i hi
theorem RowF.below {W w1 : World} {b n : Nat} (h : RowF W b n) (hb : Below W.heap.size W w1) (hs : b < W.heap.size) : RowF w1 b n := fun i hi => by
  rw [(bcell hb).2 _ _ hs]; exact h i hi
theorem RowF.set {W : World} {b n : Nat} (h : RowF W b n) (a : Addr) (v : Value) : RowF (W.setCell a v) b n := fun i hi => by
  simpa [go_sem] using h i hi
theorem RowB.set {W : World} {b n : Nat} {f : Nat → Bool} (h : RowB W b n f) (k : Nat) (v : Bool) (hk : k < n) : RowB (W.setCell ⟨b, k, none⟩ (.bool v)) b n (fun i => if i = k then v else f i) := fun i hi => by
  by_cases e : i = k
  · subst e
    simp [go_sem, h i hi]
  · rw [World.cell?_setCell_other _ _ _ _ (by first | (simp; done) | (simp; omega)), h i hi]
    simp [e]
theorem RowB.far {W : World} {b n : Nat} {f : Nat → Bool} (h : RowB W b n f) (a : Addr) (v : Value) (hk : a.block ≠ b) : RowB (W.setCell a v) b n f := fun i hi => by
  rw [World.cell?_setCell_far _ _ _ _ (by simpa using hk)]; exact h i hi
theorem RowB.drew {W : World} {b n : Nat} {f : Nat → Bool} (h : RowB W b n f) : RowB W.drew b n f := h
theorem RowF.drew {W : World} {b n : Nat} (h : RowF W b n) : RowF W.drew b n := h
def N (h l : Int) : Nat := (num h l).toNat
end Go.Proofs.YthjoigkckgdcaaaGreat
namespace Go.Proofs.YthjoigkckgdcaaaGreat
open Go.RowKit
set_option linter.unusedVariables false
set_option linter.unusedSimpArgs false
end Go.Proofs.YthjoigkckgdcaaaGreat
namespace Go.Proofs.YthjoigkckgdcaaaGreat
open Go.RowKit
set_option linter.unusedVariables false
set_option linter.unusedSimpArgs false
end Go.Proofs.YthjoigkckgdcaaaGreat
namespace Go.Proofs.YthjoigkckgdcaaaGreat
open Go.RowKit
set_option linter.unusedVariables false

def IsFrom (f : Nat → Bool) (k x : Nat) : Prop := ∀ j, x.testBit j = (decide (j < k) && f j)
theorem IsFrom.skip {f : Nat → Bool} {k x : Nat} (h : IsFrom f k x) (hf : f k = false) : IsFrom f (k + 1) x := fun j => by
  rw [h j]
  by_cases e : j = k
  · subst e; simp [hf]
  · have : (decide (j < k)) = decide (j < k + 1) := by rw [decide_eq_decide]; omega
    rw [this]
theorem IsFrom.step {f : Nat → Bool} {k x y : Nat} (h : IsFrom f k x) (hf : f k = true) (hy : ∀ j, y.testBit j = (x.testBit j || decide (j = k))) : IsFrom f (k + 1) y := fun j => by
  rw [hy j, h j]
  by_cases e : j = k
  · subst e; simp [hf]
  · have : (decide (j < k)) = decide (j < k + 1) := by rw [decide_eq_decide]; omega
    rw [this]; simp [e]

end Go.Proofs.YthjoigkckgdcaaaGreat
namespace Go.Proofs.YthjoigkckgdcaaaGreat
open Go.RowKit
set_option linter.unusedVariables false
set_option linter.unusedSimpArgs false
end Go.Proofs.YthjoigkckgdcaaaGreat
namespace Go.Proofs.YthjoigkckgdcaaaGreat
open Go.RowKit
set_option linter.unusedVariables false
set_option linter.unusedSimpArgs false
end Go.Proofs.YthjoigkckgdcaaaGreat
namespace Go.Proofs.YthjoigkckgdcaaaGreat
open Go.RowKit
set_option linter.unusedVariables false
set_option linter.unusedSimpArgs false
def BitV (w : World) (v : Value) (n A : Nat) : Prop := A < 2 ^ n ∧ ((v = .slice none 0 0 ∧ n = 0) ∨ ∃ b cap, v = .slice (some ⟨b, 0, none⟩) n cap ∧ b < w.heap.size ∧ RowB w b n (fun i => A.testBit i))
theorem length_nil (w : World) : Calls Tryz.prog 254 #[.slice none 0 0] w fun e w' => e = .returned (.int .i64 0) ∧ w' = w := by
  go_enter Tryz.func254, Tryz.ntmps254
  go_wp2
  go_loopw [3] (fun i wr => i = .int .i64 0 ∧ wr = w) (fun i _ => 0)
  case atStart => exact ⟨rfl, rfl⟩
  case round =>
    obtain ⟨rfl, rfl⟩ := hrel
    go_wp2
    go_ret
    exact ⟨rfl, rfl⟩
/-! ### Rows of bits that the call itself makes -/
def Bl (n A : Nat) : List Value := (List.range n).map (fun i => .bool (A.testBit i))
theorem BitV.below {W w1 : World} {v : Value} {n A : Nat} (h : BitV W v n A) (hb : Below W.heap.size W w1) : BitV w1 v n A := by
  obtain ⟨a, h⟩ := h
  refine ⟨a, ?_⟩
  rcases h with h | ⟨b, cap, e, hs, row⟩
  · exact Or.inl h
  · exact Or.inr ⟨b, cap, e, Nat.lt_of_lt_of_le hs hb.size, row.below hb hs⟩
end Go.Proofs.YthjoigkckgdcaaaGreat
namespace Go.Proofs.YthjoigkckgdcaaaGreat
open Go.RowKit
set_option linter.unusedVariables false

theorem bitN (A k : Nat) : A.testBit k = decide (A / 2 ^ k % 2 = 1) := Nat.testBit_eq_decide_div_mod_eq
end Go.Proofs.YthjoigkckgdcaaaGreat
namespace Go.Proofs.YthjoigkckgdcaaaGreat
open Go.RowKit
set_option linter.unusedVariables false

structure TwoMem (n : Nat) (ah al bh bl : Int) (w : World) : Prop where
  s0 : n < w.heap.size
  s1 : n + 1 < w.heap.size
  s2 : n + 1 + 1 < w.heap.size
  c0 : w.cell? ⟨n, 0, none⟩ = some (.int .u64 ah)
  c1 : w.cell? ⟨n, 1, none⟩ = some (.int .u64 al)
  d0 : w.cell? ⟨n + 1, 0, none⟩ = some (.int .u64 bh)
  d1 : w.cell? ⟨n + 1, 1, none⟩ = some (.int .u64 bl)
  e0 : ∃ x, w.cell? ⟨n + 1 + 1, 0, none⟩ = some (.int .u64 x)
  e1 : ∃ x, w.cell? ⟨n + 1 + 1, 1, none⟩ = some (.int .u64 x)
  f0 : w.frozen? ⟨n + 1 + 1, 0, none⟩ = false
  f1 : w.frozen? ⟨n + 1 + 1, 1, none⟩ = false
theorem TwoMem.below {n : Nat} {ah al bh bl : Int} {W w1 : World} (h : TwoMem n ah al bh bl W) (hb : Below W.heap.size W w1) : TwoMem n ah al bh bl w1 := by
  obtain ⟨hc, hf⟩ := bcell hb
  have hs := hb.size
  refine ⟨by have := h.s0; omega, by have := h.s1; omega, by have := h.s2; omega, ?_, ?_, ?_, ?_, ?_, ?_, ?_, ?_⟩
  · rw [hc _ _ h.s0]; exact h.c0
  · rw [hc _ _ h.s0]; exact h.c1
  · rw [hc _ _ h.s1]; exact h.d0
  · rw [hc _ _ h.s1]; exact h.d1
  · rw [hc _ _ h.s2]; exact h.e0
  · rw [hc _ _ h.s2]; exact h.e1
  · rw [hf _ _ h.s2]; exact h.f0
  · rw [hf _ _ h.s2]; exact h.f1

theorem TwoMem.drew {n : Nat} {ah al bh bl : Int} {W : World} (h : TwoMem n ah al bh bl W) : TwoMem n ah al bh bl W.drew :=
  ⟨h.s0, h.s1, h.s2, h.c0, h.c1, h.d0, h.d1, h.e0, h.e1, h.f0, h.f1⟩

/-! ### Differences -/
end Go.Proofs.YthjoigkckgdcaaaGreat
namespace Go.Proofs.YthjoigkckgdcaaaGreat
open Go.RowKit
set_option linter.unusedVariables false

structure OneMem (n : Nat) (ah al : Int) (w : World) : Prop where
  s0 : n < w.heap.size
  s1 : n + 1 < w.heap.size
  c0 : w.cell? ⟨n, 0, none⟩ = some (.int .u64 ah)
  c1 : w.cell? ⟨n, 1, none⟩ = some (.int .u64 al)
  e0 : ∃ x, w.cell? ⟨n + 1, 0, none⟩ = some (.int .u64 x)
  e1 : ∃ x, w.cell? ⟨n + 1, 1, none⟩ = some (.int .u64 x)
  f0 : w.frozen? ⟨n + 1, 0, none⟩ = false
  f1 : w.frozen? ⟨n + 1, 1, none⟩ = false
theorem OneMem.below {n : Nat} {ah al : Int} {W w1 : World} (h : OneMem n ah al W) (hb : Below W.heap.size W w1) : OneMem n ah al w1 := by
  obtain ⟨hc, hf⟩ := bcell hb
  have hs := hb.size
  refine ⟨by have := h.s0; omega, by have := h.s1; omega, ?_, ?_, ?_, ?_, ?_, ?_⟩
  · rw [hc _ _ h.s0]; exact h.c0
  · rw [hc _ _ h.s0]; exact h.c1
  · rw [hc _ _ h.s1]; exact h.e0
  · rw [hc _ _ h.s1]; exact h.e1
  · rw [hf _ _ h.s1]; exact h.f0
  · rw [hf _ _ h.s1]; exact h.f1
theorem OneMem.far {n : Nat} {ah al : Int} {W : World} (h : OneMem n ah al W) (a : Addr) (v : Value) (h0 : a.block ≠ n) (h1 : a.block ≠ n + 1) : OneMem n ah al (W.setCell a v) := by
  obtain ⟨s0, s1, c0, c1, e0, e1, f0, f1⟩ := h
  refine ⟨by simpa using s0, by simpa using s1, ?_, ?_, ?_, ?_, by simpa [go_sem] using f0, by simpa [go_sem] using f1⟩
  · rw [World.cell?_setCell_far _ _ _ _ h0]; exact c0
  · rw [World.cell?_setCell_far _ _ _ _ h0]; exact c1
  · rw [World.cell?_setCell_far _ _ _ _ h1]; exact e0
  · rw [World.cell?_setCell_far _ _ _ _ h1]; exact e1
/-! ### Up -/
def upTo (A M k : Nat) (j : Nat) : Bool := decide (k ≤ j) && (decide (M ≤ j) && A.testBit (j - M))
/-! ### Down -/
end Go.Proofs.YthjoigkckgdcaaaGreat
namespace Go.Proofs.YthjoigkckgdcaaaGreat
open Go.RowKit
set_option linter.unusedVariables false

structure SumMem (n : Nat) (sh sl : Int) (w : World) : Prop where
  s0 : n < w.heap.size
  s1 : n + 1 < w.heap.size
  d0 : ∃ x, w.cell? ⟨n, 0, none⟩ = some (.int .u64 x)
  d1 : ∃ x, w.cell? ⟨n, 1, none⟩ = some (.int .u64 x)
  e0 : w.cell? ⟨n + 1, 0, none⟩ = some (.int .u64 sh)
  e1 : w.cell? ⟨n + 1, 1, none⟩ = some (.int .u64 sl)
  f0 : w.frozen? ⟨n, 0, none⟩ = false
  f1 : w.frozen? ⟨n, 1, none⟩ = false
  f2 : w.frozen? ⟨n + 1, 0, none⟩ = false
  f3 : w.frozen? ⟨n + 1, 1, none⟩ = false
theorem SumMem.below {n : Nat} {sh sl : Int} {W w1 : World} (h : SumMem n sh sl W) (hb : Below W.heap.size W w1) : SumMem n sh sl w1 := by
  obtain ⟨hc, hf⟩ := bcell hb
  have hs := hb.size
  refine ⟨by have := h.s0; omega, by have := h.s1; omega, ?_, ?_, ?_, ?_, ?_, ?_, ?_, ?_⟩
  · rw [hc _ _ h.s0]; exact h.d0
  · rw [hc _ _ h.s0]; exact h.d1
  · rw [hc _ _ h.s1]; exact h.e0
  · rw [hc _ _ h.s1]; exact h.e1
  · rw [hf _ _ h.s0]; exact h.f0
  · rw [hf _ _ h.s0]; exact h.f1
  · rw [hf _ _ h.s1]; exact h.f2
  · rw [hf _ _ h.s1]; exact h.f3
theorem SumMem.set {n : Nat} {sh sl : Int} {W : World} (h : SumMem n sh sl W) (x y : Int) : SumMem n x y ((W.setCell ⟨n + 1, 0, none⟩ (.int .u64 x)).setCell ⟨n + 1, 1, none⟩ (.int .u64 y)) := by
  obtain ⟨s0, s1, ⟨x0, d0⟩, ⟨x1, d1⟩, e0, e1, f0, f1, f2, f3⟩ := h
  refine ⟨by simpa using s0, by simpa using s1, ⟨x0, ?_⟩, ⟨x1, ?_⟩, ?_, ?_, ?_, ?_, ?_, ?_⟩ <;> simp [go_sem, *]
theorem SumMem.drew {n : Nat} {sh sl : Int} {W : World} (h : SumMem n sh sl W) : SumMem n sh sl W.drew := ⟨h.s0, h.s1, h.d0, h.d1, h.e0, h.e1, h.f0, h.f1, h.f2, h.f3⟩
end Go.Proofs.YthjoigkckgdcaaaGreat
namespace Go.Proofs.YthjoigkckgdcaaaGreat
open Go.RowKit
set_option linter.unusedVariables false
set_option linter.unusedSimpArgs false
end Go.Proofs.YthjoigkckgdcaaaGreat
namespace Go.Proofs.YthjoigkckgdcaaaGreat
open Go.RowKit
set_option linter.unusedVariables false

/-! ### The number of bits -/
structure LenTo (A k n : Nat) : Prop where
  le : n ≤ k
  lt : A % 2 ^ k < 2 ^ n
  ge : A % 2 ^ k = 0 ∨ 2 ^ n ≤ 2 * (A % 2 ^ k)
  zero : A % 2 ^ k = 0 → n = 0
theorem LenTo.no {A k n : Nat} (h : LenTo A k n) (hb : A.testBit k = false) : LenTo A (k + 1) n := by
  rw [bitN, decide_eq_false_iff_not] at hb
  have e : A % 2 ^ (k + 1) = A % 2 ^ k := by
    rw [Nat.mod_pow_succ]
    have : A / 2 ^ k % 2 = 0 := by omega
    rw [this]; omega
  exact ⟨by have := h.le; omega, by rw [e]; exact h.lt, by rw [e]; exact h.ge, by rw [e]; exact h.zero⟩
/-! ### Which one is greater -/
end Go.Proofs.YthjoigkckgdcaaaGreat


namespace Go.Proofs.YthjoigkckgdcaaaGreat
open Go.RowKit
set_option linter.unusedVariables false

structure RootTo (A k r : Nat) : Prop where
  mul : r % 2 ^ k = 0
  room : r + 2 ^ k ≤ 18446744073709551616
  lo : r * r ≤ A
  hi : A < (r + 2 ^ k) * (r + 2 ^ k)
theorem RootTo.bit {A k r : Nat} (h : RootTo A (k + 1) r) : (r ||| 2 ^ k) = r + 2 ^ k ∧ r + 2 ^ k < 18446744073709551616 ∧ r % 2 ^ k = 0 := by
  have m := h.mul
  have p := pow_pos' k
  have ro := h.room
  rw [Nat.pow_succ] at m ro
  have d : r % 2 ^ k = 0 := by
    have := Nat.mod_mul_right_mod r (2 ^ k) 2
    rw [m] at this
    simpa using this.symm
  refine ⟨?_, by omega, d⟩
  have e : r = 2 ^ (k + 1) * (r / 2 ^ (k + 1)) := by
    have := Nat.div_add_mod r (2 ^ (k + 1))
    rw [h.mul] at this; omega
  rw [e]
  exact (Nat.two_pow_add_eq_or_of_lt (by rw [Nat.pow_succ]; omega) _).symm
theorem RootTo.take {A k r : Nat} (h : RootTo A (k + 1) r) (c : (r + 2 ^ k) * (r + 2 ^ k) ≤ A) : RootTo A k (r + 2 ^ k) := by
  obtain ⟨_, _, d⟩ := h.bit
  have ro := h.room
  have hi := h.hi
  have e : r + 2 ^ (k + 1) = r + 2 ^ k + 2 ^ k := by rw [Nat.pow_succ]; omega
  rw [e] at ro hi
  exact ⟨by rw [Nat.add_mod_right]; exact d, ro, c, hi⟩
theorem RootTo.fin {A r : Nat} (h : RootTo A 0 r) : r * r ≤ A ∧ A - r * r ≤ 2 * r := by
  have l := h.lo
  have hi := h.hi
  rw [Nat.pow_zero, Nat.add_mul, Nat.mul_add, Nat.one_mul, Nat.mul_one] at hi
  omega
theorem OneMem.drew {n : Nat} {ah al : Int} {W : World} (h : OneMem n ah al W) : OneMem n ah al W.drew := ⟨h.s0, h.s1, h.c0, h.c1, h.e0, h.e1, h.f0, h.f1⟩
theorem OneMem.alloc {n : Nat} {ah al : Int} {W : World} (h : OneMem n ah al W) (o : Obj) : OneMem n ah al (W.alloc o) :=
  h.below ((Below.refl _ _).alloc (Nat.le_refl _) o)
end Go.Proofs.YthjoigkckgdcaaaGreat
namespace Go.Proofs.YthjoigkckgdcaaaGreat
open Go.RowKit
set_option linter.unusedVariables false

structure DivMem (n q o : Nat) (ah al rh rl : Int) (A : Nat) (f : Nat → Bool) (w : World) : Prop where
  one : OneMem n ah al w
  rq : RowB w q 128 A.testBit
  ro : RowB w o 128 f
  fo : RowF w o 128
  g0 : w.cell? ⟨o + 1, 0, none⟩ = some (.int .u64 rh)
  g1 : w.cell? ⟨o + 1, 1, none⟩ = some (.int .u64 rl)
  k0 : w.frozen? ⟨o + 1, 0, none⟩ = false
  k1 : w.frozen? ⟨o + 1, 1, none⟩ = false
  nq : n + 1 < q
  qo : q < o
  sz : o + 1 < w.heap.size
theorem DivMem.below {n q o : Nat} {ah al rh rl : Int} {A : Nat} {f : Nat → Bool} {W w1 : World} (h : DivMem n q o ah al rh rl A f W) (hb : Below W.heap.size W w1) : DivMem n q o ah al rh rl A f w1 := by
  obtain ⟨hc, hf⟩ := bcell hb
  have hs := hb.size
  have sz := h.sz; have qo := h.qo
  exact ⟨h.one.below hb, h.rq.below hb (by omega), h.ro.below hb (by omega), h.fo.below hb (by omega), cell_on hb h.g0, cell_on hb h.g1, by rw [hf _ _ sz]; exact h.k0, by rw [hf _ _ sz]; exact h.k1, h.nq, h.qo, by omega⟩
theorem DivMem.set1 {n q o : Nat} {ah al rh rl : Int} {A : Nat} {f : Nat → Bool} {W : World} (h : DivMem n q o ah al rh rl A f W) (y : Int) : DivMem n q o ah al rh y A f (W.setCell ⟨o + 1, 1, none⟩ (.int .u64 y)) := by
  have nq := h.nq; have qo := h.qo
  have g0 := h.g0; have g1 := h.g1; have k0 := h.k0; have k1 := h.k1
  exact ⟨h.one.far _ _ (by show o + 1 ≠ _; omega) (by show o + 1 ≠ _; omega), h.rq.far _ _ (by show o + 1 ≠ _; omega), h.ro.far _ _ (by show o + 1 ≠ _; omega), h.fo.set _ _, by simp [go_sem, *], by simp [go_sem, *], by simp [go_sem, *], by simp [go_sem, *], nq, qo, by simpa using h.sz⟩
theorem DivMem.set {n q o : Nat} {ah al rh rl : Int} {A : Nat} {f : Nat → Bool} {W : World} (h : DivMem n q o ah al rh rl A f W) (x y : Int) : DivMem n q o ah al x y A f ((W.setCell ⟨o + 1, 0, none⟩ (.int .u64 x)).setCell ⟨o + 1, 1, none⟩ (.int .u64 y)) := by
  have nq := h.nq; have qo := h.qo
  have g0 := h.g0; have g1 := h.g1; have k0 := h.k0; have k1 := h.k1
  exact ⟨(h.one.far _ _ (by show o + 1 ≠ _; omega) (by show o + 1 ≠ _; omega)).far _ _ (by show o + 1 ≠ _; omega) (by show o + 1 ≠ _; omega), (h.rq.far _ _ (by show o + 1 ≠ _; omega)).far _ _ (by show o + 1 ≠ _; omega), (h.ro.far _ _ (by show o + 1 ≠ _; omega)).far _ _ (by show o + 1 ≠ _; omega), (h.fo.set _ _).set _ _, by simp [go_sem, *], by simp [go_sem, *], by simp [go_sem, *], by simp [go_sem, *], nq, qo, by simpa using h.sz⟩
theorem DivMem.bit {n q o : Nat} {ah al rh rl : Int} {A : Nat} {f : Nat → Bool} {W : World} (h : DivMem n q o ah al rh rl A f W) (k : Nat) (hk : k < 128) (v : Bool) : DivMem n q o ah al rh rl A (fun i => if i = k then v else f i) (W.setCell ⟨o, k, none⟩ (.bool v)) := by
  have nq := h.nq; have qo := h.qo
  have g0 := h.g0; have g1 := h.g1; have k0 := h.k0; have k1 := h.k1
  exact ⟨h.one.far _ _ (by show o ≠ _; omega) (by show o ≠ _; omega), h.rq.far _ _ (by show o ≠ _; omega), h.ro.set k v hk, h.fo.set _ _, by simp [go_sem, *], by simp [go_sem, *], by simp [go_sem, *], by simp [go_sem, *], nq, qo, by simpa using h.sz⟩
end Go.Proofs.YthjoigkckgdcaaaGreat
namespace Go.Proofs.YthjoigkckgdcaaaGreat
open Go.RowKit
set_option linter.unusedVariables false
set_option linter.unusedSimpArgs false
structure QMem (q o nl T : Nat) (rh rl dl : Int) (X : Nat) (f : Nat → Bool) (w : World) : Prop where
  rq : RowB w q nl (fun i => X.testBit i)
  ro : RowB w o T f
  fo : RowF w o T
  g0 : w.cell? ⟨o + 1, 0, none⟩ = some (.int .u64 rh)
  g1 : w.cell? ⟨o + 1, 1, none⟩ = some (.int .u64 rl)
  k0 : w.frozen? ⟨o + 1, 0, none⟩ = false
  k1 : w.frozen? ⟨o + 1, 1, none⟩ = false
  d0 : w.cell? ⟨o + 2, 0, none⟩ = some (.int .u64 0)
  d1 : w.cell? ⟨o + 2, 1, none⟩ = some (.int .u64 dl)
  qo : q < o
  sz : o + 2 < w.heap.size
theorem QMem.below {q o nl T : Nat} {rh rl dl : Int} {X : Nat} {f : Nat → Bool} {W w1 : World} (h : QMem q o nl T rh rl dl X f W) (hb : Below W.heap.size W w1) : QMem q o nl T rh rl dl X f w1 := by
  obtain ⟨hc, hf⟩ := bcell hb
  have hs := hb.size
  have sz := h.sz; have qo := h.qo
  exact ⟨h.rq.below hb (by omega), h.ro.below hb (by omega), h.fo.below hb (by omega), cell_on hb h.g0, cell_on hb h.g1, by rw [hf _ _ (by omega)]; exact h.k0, by rw [hf _ _ (by omega)]; exact h.k1, cell_on hb h.d0, cell_on hb h.d1, h.qo, by omega⟩
theorem QMem.set1 {q o nl T : Nat} {rh rl dl : Int} {X : Nat} {f : Nat → Bool} {W : World} (h : QMem q o nl T rh rl dl X f W) (y : Int) : QMem q o nl T rh y dl X f (W.setCell ⟨o + 1, 1, none⟩ (.int .u64 y)) := by
  have qo := h.qo
  have g0 := h.g0; have g1 := h.g1; have k0 := h.k0; have k1 := h.k1; have d0 := h.d0; have d1 := h.d1
  exact ⟨h.rq.far _ _ (by show o + 1 ≠ _; omega), h.ro.far _ _ (by show o + 1 ≠ _; omega), h.fo.set _ _, by simp [go_sem, *], by simp [go_sem, *], by simp [go_sem, *], by simp [go_sem, *], by simp [go_sem, *], by simp [go_sem, *], qo, by simpa using h.sz⟩
theorem QMem.set {q o nl T : Nat} {rh rl dl : Int} {X : Nat} {f : Nat → Bool} {W : World} (h : QMem q o nl T rh rl dl X f W) (x y : Int) : QMem q o nl T x y dl X f ((W.setCell ⟨o + 1, 0, none⟩ (.int .u64 x)).setCell ⟨o + 1, 1, none⟩ (.int .u64 y)) := by
  have qo := h.qo
  have g0 := h.g0; have g1 := h.g1; have k0 := h.k0; have k1 := h.k1; have d0 := h.d0; have d1 := h.d1
  exact ⟨(h.rq.far _ _ (by show o + 1 ≠ _; omega)).far _ _ (by show o + 1 ≠ _; omega), (h.ro.far _ _ (by show o + 1 ≠ _; omega)).far _ _ (by show o + 1 ≠ _; omega), (h.fo.set _ _).set _ _, by simp [go_sem, *], by simp [go_sem, *], by simp [go_sem, *], by simp [go_sem, *], by simp [go_sem, *], by simp [go_sem, *], qo, by simpa using h.sz⟩
theorem QMem.bit {q o nl T : Nat} {rh rl dl : Int} {X : Nat} {f : Nat → Bool} {W : World} (h : QMem q o nl T rh rl dl X f W) (k : Nat) (hk : k < T) (v : Bool) : QMem q o nl T rh rl dl X (fun i => if i = k then v else f i) (W.setCell ⟨o, k, none⟩ (.bool v)) := by
  have qo := h.qo
  have g0 := h.g0; have g1 := h.g1; have k0 := h.k0; have k1 := h.k1; have d0 := h.d0; have d1 := h.d1
  exact ⟨h.rq.far _ _ (by show o ≠ _; omega), h.ro.set k v hk, h.fo.set _ _, by simp [go_sem, *], by simp [go_sem, *], by simp [go_sem, *], by simp [go_sem, *], by simp [go_sem, *], by simp [go_sem, *], qo, by simpa using h.sz⟩
end Go.Proofs.YthjoigkckgdcaaaGreat
namespace Go.Proofs.YthjoigkckgdcaaaGreat
open Go.RowKit
set_option linter.unusedVariables false
set_option linter.unusedSimpArgs false
end Go.Proofs.YthjoigkckgdcaaaGreat
namespace Go.Proofs.YthjoigkckgdcaaaGreat
open Go.RowKit
set_option linter.unusedVariables false
set_option linter.unusedSimpArgs false
end Go.Proofs.YthjoigkckgdcaaaGreat
namespace Go.Proofs.YthjoigkckgdcaaaGreat
open Go.RowKit
set_option linter.unusedVariables false
set_option linter.unusedSimpArgs false
/-! ### Two rows as numbers -/
/-! ### Differences -/
/-! ### Sums -/
end Go.Proofs.YthjoigkckgdcaaaGreat
namespace Go.Proofs.YthjoigkckgdcaaaGreat
open Go.RowKit
set_option linter.unusedVariables false
set_option linter.unusedSimpArgs false
end Go.Proofs.YthjoigkckgdcaaaGreat
namespace Go.Proofs.YthjoigkckgdcaaaGreat
open Go.RowKit
set_option linter.unusedVariables false
set_option linter.unusedSimpArgs false
end Go.Proofs.YthjoigkckgdcaaaGreat
namespace Go.Proofs.YthjoigkckgdcaaaGreat
open Go.RowKit
set_option linter.unusedVariables false
set_option linter.unusedSimpArgs false
set_option maxHeartbeats 1600000 in
theorem rplain3_any (s : Bool) (a : Int) (h : Word a) (w : World) : Calls Tryz.prog 68 #[.int .i64 (fb s), .int .u64 a] w fun e w' => e = .returned (.int .u64 (plainF s a)) ∧ ∃ n, w' = w.drewN n := by
  have hcl := rclass_any s a h
  have hnan := rnan_any s
  have K := kindsP (cls s a)
  unfold plainF
  generalize hN : (cls s a == 0 || cls s a == 5) = N1 at *
  generalize hI : (cls s a == 1) = I1 at *
  generalize cls s a = k at *
  generalize fNan s = Q at *
  generalize fb s = f at *
  clear hN hI
  rcases K with ⟨rfl, rfl, rfl⟩ | ⟨rfl, rfl, rfl⟩ | ⟨rfl, rfl, rfl⟩ | ⟨rfl, rfl, k0, k5, k1⟩
  · go_enter Tryz.func68, Tryz.ntmps68
    go_wp2_with (first
      | (go_at_call 134; refine (hcl _).mono ?_; rintro e w1 ⟨rfl, n1, rfl⟩)
      | (go_at_call 135; refine (hnan _).mono ?_; rintro e w1 ⟨rfl, rfl⟩)
      | fail)
    go_ret
    exact ⟨rfl, n1 + 1, rfl⟩
  · go_enter Tryz.func68, Tryz.ntmps68
    go_wp2_with (first
      | (go_at_call 134; refine (hcl _).mono ?_; rintro e w1 ⟨rfl, n1, rfl⟩)
      | (go_at_call 135; refine (hnan _).mono ?_; rintro e w1 ⟨rfl, rfl⟩)
      | fail)
    go_ret
    exact ⟨rfl, n1 + 1, rfl⟩
  · go_enter Tryz.func68, Tryz.ntmps68
    go_wp2_with (first
      | (go_at_call 134; refine (hcl _).mono ?_; rintro e w1 ⟨rfl, n1, rfl⟩)
      | fail)
    go_ret
    exact ⟨rfl, n1, rfl⟩
  · go_enter Tryz.func68, Tryz.ntmps68
    go_wp2_with (first
      | (go_at_call 134; refine (hcl _).mono ?_; rintro e w1 ⟨rfl, n1, rfl⟩)
      | fail)
    go_ret
    exact ⟨rfl, n1, rfl⟩
theorem next_ref (s : Bool) (a : Int) (h : Word a) (f : finF s a = true) : (plainF s a = fI s - 1 → nextF s a = fI s - 1) ∧ (plainF s a ≠ fI s - 1 → sgn s (plainF s a) = true → 1 ≤ plainF s a ∧ nextF s a = plainF s (plainF s a - 1)) ∧ (plainF s a ≠ fI s - 1 → sgn s (plainF s a) = false → 0 ≤ plainF s a ∧ plainF s a + 1 < 18446744073709551616 ∧ nextF s a = plainF s a + 1) := by
  obtain ⟨b, z, rfl, hz⟩ := n_made s a h f
  have l := fI_lt s
  have fs : 0 < fS s ∧ fS s ≤ 9223372036854775808 := by cases s <;> decide
  have lp : 1 < fI s := by cases s <;> decide
  have z0s : sgn s 0 = false := by cases s <;> decide +kernel
  rw [n_plain s b z hz]
  by_cases z0 : z = 0
  · subst z0
    rw [if_pos rfl]
    have e : nextF s (sgnd s b ((0 : Nat) : Int)) = 1 := by
      cases b
      · have t := n_pos s 0 (by omega)
        rw [if_neg (by omega)] at t
        exact t
      · exact n_neg0 s
    refine ⟨fun q => by omega, fun _ q => by rw [z0s] at q; exact absurd q (by decide), fun _ _ => ⟨by omega, by omega, by rw [e]; rfl⟩⟩
  · rw [if_neg z0]
    have sg := (made s b z (by omega) (by omega)).2.2.2
    rw [sg]
    cases b
    · have t := n_pos s z hz
      have e : sgnd s false (z : Int) = z := rfl
      rw [e]
      refine ⟨fun q => by rw [t, if_pos q]; exact q, fun _ q => absurd q (by decide), fun q _ => ⟨by omega, by omega, by rw [t, if_neg q]⟩⟩
    · have t := n_neg s z z0 hz
      have e : sgnd s true (z : Int) - 1 = sgnd s true ((z - 1 : Nat) : Int) := by unfold sgnd; simp only [if_true]; omega
      have ne : sgnd s true (z : Int) ≠ fI s - 1 := by unfold sgnd; simp only [if_true]; omega
      refine ⟨fun q => absurd q ne, fun _ _ => ⟨by unfold sgnd; simp only [if_true]; omega, ?_⟩, fun _ q => absurd q (by decide)⟩
      rw [t, e, n_plain s true (z - 1) (by omega)]
      by_cases c : z = 1
      · rw [if_pos c, if_pos (by omega)]
      · rw [if_neg c, if_neg (by omega)]
set_option maxHeartbeats 3200000 in
theorem rnext3_any (s : Bool) (a : Int) (h : Word a) (w : World) : Calls Tryz.prog 93 #[.int .i64 (fb s), .int .u64 a] w fun e w' => e = .returned (.int .u64 (nextF s a)) ∧ ∃ n, w' = w.drewN n := by
  have hfi := rfinite_any s a h
  have hnan := rnan_any s
  have hmo := rmost_any s
  have hpl := rplain3_any s a h
  have hbl := rbelow_any s (plainF s a)
  have wp := n_plainw s a h
  have hp2 := fun (q : 1 ≤ plainF s a) => rplain3_any s (plainF s a - 1) ⟨by omega, by have := wp.2; omega⟩
  cases c : finF s a
  · rw [c] at hfi
    have e : nextF s a = fNan s := (n_off s a h c).1
    rw [e]
    clear hp2 e c
    generalize fNan s = Q at *
    generalize fb s = f at *
    go_enter Tryz.func93, Tryz.ntmps93
    go_wp2_with (first
      | (go_at_call 73; refine (hfi _).mono ?_; rintro e w1 ⟨rfl, n1, rfl⟩)
      | (go_at_call 135; refine (hnan _).mono ?_; rintro e w1 ⟨rfl, rfl⟩)
      | fail)
    go_ret
    exact ⟨rfl, n1 + 1, rfl⟩
  · rw [c] at hfi
    obtain ⟨N1, N2, N3⟩ := next_ref s a h c
    have p0 := wp.1
    have p1 := wp.2
    by_cases t : plainF s a = fI s - 1
    · rw [N1 t]
      rw [t] at hpl hbl
      clear N1 N2 N3 hp2 c p0 p1 t wp
      generalize fI s - 1 = M at *
      generalize fb s = f at *
      go_enter Tryz.func93, Tryz.ntmps93
      go_wp2_with (first
        | (go_at_call 73; refine (hfi _).mono ?_; rintro e w1 ⟨rfl, n1, rfl⟩)
        | (go_at_call 68; refine (hpl _).mono ?_; rintro e w1 ⟨rfl, n2, rfl⟩)
        | (go_at_call 83; refine (hmo _).mono ?_; rintro e w1 ⟨rfl, hw⟩; rw [hw]; clear hw w1)
        | fail)
      go_ret
      exact ⟨rfl, n1 + n2, rfl⟩
    · have t' : (plainF s a == fI s - 1) = false := by simp [t]
      cases g : sgn s (plainF s a)
      · obtain ⟨M0, M1, M2⟩ := N3 t g
        rw [g] at hbl
        rw [M2]
        clear N1 N2 N3 hp2 c M2 g t wp
        generalize plainF s a = A at *
        generalize fI s - 1 = M at *
        generalize fb s = f at *
        have e1 : IntKind.u64.wrap (A + 1) = A + 1 := by rw [IntKind.wrap_u64]; omega
        go_enter Tryz.func93, Tryz.ntmps93
        go_wp2_with (first
          | (go_at_call 73; refine (hfi _).mono ?_; rintro e w1 ⟨rfl, n1, rfl⟩)
          | (go_at_call 68; refine (hpl _).mono ?_; rintro e w1 ⟨rfl, n2, rfl⟩)
          | (go_at_call 83; refine (hmo _).mono ?_; rintro e w1 ⟨rfl, hw⟩; rw [hw]; clear hw w1)
          | (go_at_call 169; refine (hbl _).mono ?_; rintro e w1 ⟨rfl, hw⟩; rw [hw]; clear hw w1)
          | fail)
        go_ret
        exact ⟨rfl, n1 + n2, rfl⟩
      · obtain ⟨M0, M2⟩ := N2 t g
        have hp3 := hp2 M0
        rw [g] at hbl
        rw [M2]
        clear N1 N2 N3 hp2 c M2 g t wp
        generalize plainF s (plainF s a - 1) = R at *
        generalize plainF s a = A at *
        generalize fI s - 1 = M at *
        generalize fb s = f at *
        go_enter Tryz.func93, Tryz.ntmps93
        go_wp2_with fail
        refine (hfi _).mono ?_
        rintro e w1 ⟨rfl, n1, rfl⟩
        go_wp2_with fail
        refine (hpl _).mono ?_
        rintro e w1 ⟨rfl, n2, rfl⟩
        go_wp2_with (first
          | (go_at_call 83; refine (hmo _).mono ?_; rintro e w1 ⟨rfl, hw⟩; rw [hw]; clear hw w1)
          | (go_at_call 169; refine (hbl _).mono ?_; rintro e w1 ⟨rfl, hw⟩; rw [hw]; clear hw w1)
          | (go_at_call 68; refine (hp3 _).mono ?_; rintro e w1 ⟨rfl, n3, rfl⟩)
          | fail)
        go_ret
        exact ⟨rfl, n1 + n2 + n3, rfl⟩
set_option maxHeartbeats 1600000 in
theorem rprev3_any (s : Bool) (a : Int) (h : Word a) (w : World) : Calls Tryz.prog 92 #[.int .i64 (fb s), .int .u64 a] w fun e w' => e = .returned (.int .u64 (prevF s a)) ∧ ∃ n, w' = w.drewN n := by
  have hfi := rfinite_any s a h
  have hnan := rnan_any s
  cases c : finF s a
  · rw [c] at hfi
    have e : prevF s a = fNan s := (n_off s a h c).2
    rw [e]
    clear e c
    generalize fNan s = Q at *
    generalize fb s = f at *
    go_enter Tryz.func92, Tryz.ntmps92
    go_wp2_with (first
      | (go_at_call 73; refine (hfi _).mono ?_; rintro e w1 ⟨rfl, n1, rfl⟩)
      | (go_at_call 135; refine (hnan _).mono ?_; rintro e w1 ⟨rfl, rfl⟩)
      | fail)
    go_ret
    exact ⟨rfl, n1 + 1, rfl⟩
  · rw [c] at hfi
    have h1 := negF_word s a h
    have h2 := n_nextw s _ h1
    have h3 := negF_word s _ h2
    have p1 := rneg_any s a h
    have p2 := rnext3_any s _ h1
    have p3 := rneg_any s _ h2
    have p4 := rplain3_any s _ h3
    unfold prevF
    generalize plainF s (negF s (nextF s (negF s a))) = A4 at *
    generalize negF s (nextF s (negF s a)) = A3 at *
    generalize nextF s (negF s a) = A2 at *
    generalize negF s a = A1 at *
    clear h1 h2 h3 c
    generalize fb s = f at *
    go_enter Tryz.func92, Tryz.ntmps92
    go_wp2_with fail
    refine (hfi _).mono ?_
    rintro e w1 ⟨rfl, n1, rfl⟩
    go_wp2_with fail
    refine (p1 _).mono ?_
    rintro e w1 ⟨rfl, n2, rfl⟩
    go_wp2_with fail
    refine (p2 _).mono ?_
    rintro e w1 ⟨rfl, n3, rfl⟩
    go_wp2_with fail
    refine (p3 _).mono ?_
    rintro e w1 ⟨rfl, n4, rfl⟩
    go_wp2_with fail
    refine (p4 _).mono ?_
    rintro e w1 ⟨rfl, n5, rfl⟩
    go_wp2_with fail
    go_ret
    exact ⟨rfl, n1 + n2 + n3 + n4 + n5, rfl⟩
end Go.Proofs.YthjoigkckgdcaaaGreat


