/- Texts of the proof, put together. -/
import Derived.Test.YtknoibocpbfmmaaGreatDoorYG1
import Derived.Below
import Derived.RowKit
import Derived.WalkKit
import Derived.WalkSpells
import Derived.StillTactics
import Derived.Laws.Pointers
import Derived.Deep.QuietTactic
import Derived.Deep.RegionHeld3
import Derived.Laws.Externs
import Derived.Laws.EntriesVeiled
import Derived.Laws.Cells
import Derived.Laws.Slices
import Derived.Laws.AppendOwn
import Derived.Deep.DeepCutAuto
import Derived.Deep.DeepMust
import Derived.Deep.Cut
import Derived.ScopeJumps
import Derived.Shelf.Abstract
import Derived.BigQuiet
import Derived.LoopN
import Derived.LoopTactic
import Derived.Handy
import Derived.WideShapes
import Derived.Recover
import Derived.WalkSmall
import Derived.WalkLawsBesides
import Derived.Defers
import Derived.Maps.AppendAt
namespace Go.Proofs.YtknoibocpbfmmaaGreatDoor
open Go.RowKit
set_option linter.unusedVariables false
set_option linter.unusedSimpArgs false
/-- All blocks that lay, but one, lie as they lay. -/
structure Onl (b : Nat) (w w' : World) : Prop where
  os : w'.os = w.os
  tape : w'.tape = w.tape
  output : w'.output = w.output
  size : w.heap.size ≤ w'.heap.size
  block : ∀ k, k < w.heap.size → k ≠ b → w'.heap[k]? = w.heap[k]?
theorem Onl.refl (b : Nat) (w : World) : Onl b w w := ⟨rfl, rfl, rfl, Nat.le_refl _, fun _ _ _ => rfl⟩
theorem Onl.trans {b : Nat} {x y z : World} (h : Onl b x y) (k : Onl b y z) : Onl b x z :=
  ⟨k.os.trans h.os, k.tape.trans h.tape, k.output.trans h.output, Nat.le_trans h.size k.size, fun i hi hb => (k.block i (Nat.lt_of_lt_of_le hi h.size) hb).trans (h.block i hi hb)⟩
theorem Onl.drewN {b : Nat} {x y : World} (h : Onl b x y) (n : Nat) : Onl b x (y.drewN n) := ⟨h.os, h.tape, h.output, h.size, h.block⟩
theorem Onl.drew {b : Nat} {x y : World} (h : Onl b x y) : Onl b x y.drew := ⟨h.os, h.tape, h.output, h.size, h.block⟩
theorem Onl.set {b j : Nat} {x y : World} (h : Onl b x y) (v : Value) : Onl b x (y.setCell ⟨b, j, none⟩ v) :=
  ⟨h.os, h.tape, h.output, by simpa [World.setCell] using h.size, fun k hk hb => (Below.heap_setCell y _ v k hb).trans (h.block k hk hb)⟩
theorem Onl.below {b : Nat} {x y z : World} (h : Onl b x y) (k : Below y.heap.size y z) : Onl b x z :=
  ⟨k.os.trans h.os, k.tape.trans h.tape, k.output.trans h.output, Nat.le_trans h.size k.size, fun i hi hb => (k.block i (Nat.lt_of_lt_of_le hi h.size)).trans (h.block i hi hb)⟩
theorem Onl.toBelow {b n : Nat} {x y : World} (h : Onl b x y) (hb : n ≤ b) (hn : n ≤ x.heap.size) : Below n x y :=
  ⟨h.os, h.tape, h.output, h.size, fun k hk => h.block k (Nat.lt_of_lt_of_le hk hn) (by omega)⟩
theorem cell_of_heap {W V : World} {c o : Nat} (h : V.heap[c]? = W.heap[c]?) : V.cell? ⟨c, o, none⟩ = W.cell? ⟨c, o, none⟩ := by
  unfold World.cell?; rw [h]
theorem frozen_of_heap {W V : World} {c o : Nat} (h : V.heap[c]? = W.heap[c]?) : V.frozen? ⟨c, o, none⟩ = W.frozen? ⟨c, o, none⟩ := by
  unfold World.frozen?; rw [h]
theorem Onl.cell {b : Nat} {w w' : World} (h : Onl b w w') {c o : Nat} {v : Value} (hc : c ≠ b) (q : w.cell? ⟨c, o, none⟩ = some v) : w'.cell? ⟨c, o, none⟩ = some v :=
  (cell_of_heap (h.block c (World.block_lt_of_cell? w _ q) hc)).trans q
/-- All blocks of a set lie as they lay. -/
def Kp (lo : Nat → Prop) (W V : World) : Prop := ∀ k, lo k → k < W.heap.size → V.heap[k]? = W.heap[k]?
theorem Kp.cell {lo : Nat → Prop} {W V : World} (h : Kp lo W V) {c o : Nat} {v : Value} (hc : lo c) (q : W.cell? ⟨c, o, none⟩ = some v) : V.cell? ⟨c, o, none⟩ = some v :=
  (cell_of_heap (h c hc (World.block_lt_of_cell? W _ q))).trans q
theorem Onl.kp {b : Nat} {lo : Nat → Prop} {W V : World} (h : Onl b W V) (hb : ¬ lo b) : Kp lo W V := fun k h1 h2 => h.block k h2 (fun e => hb (e ▸ h1))
theorem Kp.trans {lo : Nat → Prop} {x y z : World} (h : Kp lo x y) (hs : x.heap.size ≤ y.heap.size) (k : Kp lo y z) : Kp lo x z := fun i h1 h2 => (k i h1 (Nat.lt_of_lt_of_le h2 hs)).trans (h i h1 h2)
theorem Kp.set {lo : Nat → Prop} {W : World} {c j : Nat} {v : Value} (hc : ¬ lo c) : Kp lo W (W.setCell ⟨c, j, none⟩ v) := fun k h1 _ => Below.heap_setCell W _ v k (fun e => hc (by have e' : k = c := e; rw [← e']; exact h1))
theorem Below.kp {W V : World} (h : Below W.heap.size W V) (lo : Nat → Prop) : Kp lo W V := fun k _ h2 => h.block k h2
/-- Expressions in a row lie in a block, from a place on; all blocks that they reach lie from lo on. -/
def FoAt (W : World) (lo : Nat → Prop) : Fo → Nat → Nat → Prop
  | .nil, _, _ => True
  | .cons op tx ty ks r, c, o => lo c ∧ W.cell? ⟨c, o, none⟩ = some (.int .i64 op) ∧ W.cell? ⟨c, o + 1, none⟩ = some (.string tx) ∧ W.cell? ⟨c, o + 2, none⟩ = some (.int .i64 ty) ∧
      (∃ p q, W.cell? ⟨c, o + 3, none⟩ = some (.slice p ks.len q) ∧ (ks = .nil ∨ ∃ d u, p = some ⟨d, u, none⟩ ∧ FoAt W lo ks d u)) ∧ FoAt W lo r c (o + 4)
/-- A slice of expressions. -/
def SlF (W : World) (lo : Nat → Prop) (v : Value) (f : Fo) : Prop := ∃ p q, v = .slice p f.len q ∧ (f = .nil ∨ ∃ d u, p = some ⟨d, u, none⟩ ∧ FoAt W lo f d u)
theorem FoAt.kp {lo : Nat → Prop} {W V : World} (h : Kp lo W V) : ∀ {f : Fo} {c o : Nat}, FoAt W lo f c o → FoAt V lo f c o
  | .nil, _, _, _ => trivial
  | .cons op tx ty ks r, c, o, k => by
    obtain ⟨k0, k1, k2, k3, ⟨p, q, k4, k5⟩, k6⟩ := k
    refine ⟨k0, h.cell k0 k1, h.cell k0 k2, h.cell k0 k3, ⟨p, q, h.cell k0 k4, ?_⟩, FoAt.kp h k6⟩
    rcases k5 with k5 | ⟨d, u, e, k5⟩
    · exact Or.inl k5
    · exact Or.inr ⟨d, u, e, FoAt.kp h k5⟩
theorem FoAt.lo {lo lo' : Nat → Prop} (h : ∀ k, lo k → lo' k) {W : World} : ∀ {f : Fo} {c o : Nat}, FoAt W lo f c o → FoAt W lo' f c o
  | .nil, _, _, _ => trivial
  | .cons op tx ty ks r, c, o, k => by
    obtain ⟨k0, k1, k2, k3, ⟨p, q, k4, k5⟩, k6⟩ := k
    refine ⟨h _ k0, k1, k2, k3, ⟨p, q, k4, ?_⟩, FoAt.lo h k6⟩
    rcases k5 with k5 | ⟨d, u, e, k5⟩
    · exact Or.inl k5
    · exact Or.inr ⟨d, u, e, FoAt.lo h k5⟩
theorem SlF.kp {lo : Nat → Prop} {W V : World} {v : Value} {f : Fo} (h : Kp lo W V) (k : SlF W lo v f) : SlF V lo v f := by
  obtain ⟨p, q, e, k⟩ := k
  refine ⟨p, q, e, ?_⟩
  rcases k with k | ⟨d, u, e', k⟩
  · exact Or.inl k
  · exact Or.inr ⟨d, u, e', k.kp h⟩
theorem SlF.lo {lo lo' : Nat → Prop} (h : ∀ k, lo k → lo' k) {W : World} {v : Value} {f : Fo} (k : SlF W lo v f) : SlF W lo' v f := by
  obtain ⟨p, q, e, k⟩ := k
  refine ⟨p, q, e, ?_⟩
  rcases k with k | ⟨d, u, e', k⟩
  · exact Or.inl k
  · exact Or.inr ⟨d, u, e', k.lo h⟩
theorem SlF.nil (W : World) (lo : Nat → Prop) : SlF W lo (.slice none 0 0) .nil := ⟨none, 0, rfl, Or.inl rfl⟩
/-- An expression as a value. -/
def ExAt (W : World) (lo : Nat → Prop) (v : Value) (e : Ex) : Prop := ∃ s, v = .agg #[.int .i64 e.op, .string e.tx, .int .i64 e.ty, s] ∧ SlF W lo s e.ks
theorem ExAt.kp {lo : Nat → Prop} {W V : World} {v : Value} {e : Ex} (h : Kp lo W V) (k : ExAt W lo v e) : ExAt V lo v e := by
  obtain ⟨s, e, k⟩ := k; exact ⟨s, e, k.kp h⟩
theorem ExAt.lo {lo lo' : Nat → Prop} (h : ∀ k, lo k → lo' k) {W : World} {v : Value} {e : Ex} (k : ExAt W lo v e) : ExAt W lo' v e := by
  obtain ⟨s, e, k⟩ := k; exact ⟨s, e, k.lo h⟩
/-- An expression in four cells. -/
def ExC (W : World) (lo : Nat → Prop) (c o : Nat) (e : Ex) : Prop := W.cell? ⟨c, o, none⟩ = some (.int .i64 e.op) ∧ W.cell? ⟨c, o + 1, none⟩ = some (.string e.tx) ∧ W.cell? ⟨c, o + 2, none⟩ = some (.int .i64 e.ty) ∧ ∃ s, W.cell? ⟨c, o + 3, none⟩ = some s ∧ SlF W lo s e.ks
theorem ExC.kp {lo : Nat → Prop} {c o : Nat} {W V : World} {e : Ex} (h : Kp lo W V) (hc : lo c) (k : ExC W lo c o e) : ExC V lo c o e := by
  obtain ⟨k1, k2, k3, s, k4, k5⟩ := k
  exact ⟨h.cell hc k1, h.cell hc k2, h.cell hc k3, s, h.cell hc k4, k5.kp h⟩
theorem ExC.lo {lo lo' : Nat → Prop} {c o : Nat} (h : ∀ k, lo k → lo' k) {W : World} {e : Ex} (k : ExC W lo c o e) : ExC W lo' c o e := by
  obtain ⟨k1, k2, k3, s, k4, k5⟩ := k
  exact ⟨k1, k2, k3, s, k4, k5.lo h⟩
/-- One row of expressions, an expression ahead. -/
theorem FoAt.row {W : World} {lo : Nat → Prop} {c o : Nat} {e : Ex} {f : Fo} (hc : lo c) (h : ExC W lo c o e) (k : FoAt W lo f c (o + 4)) : FoAt W lo (e.row f) c o := by
  obtain ⟨k1, k2, k3, s, k4, p, q, rfl, k5⟩ := h
  exact ⟨hc, k1, k2, k3, ⟨p, q, k4, k5⟩, k⟩
theorem FoAt.head {W : World} {lo : Nat → Prop} {c o : Nat} {op ty : Int} {tx : ByteArray} {ks r : Fo} (h : FoAt W lo (.cons op tx ty ks r) c o) : ExC W lo c o ⟨op, tx, ty, ks⟩ ∧ FoAt W lo r c (o + 4) ∧ lo c := by
  obtain ⟨k0, k1, k2, k3, ⟨p, q, k4, k5⟩, k6⟩ := h
  exact ⟨⟨k1, k2, k3, _, k4, p, q, rfl, k5⟩, k6, k0⟩
/-- Statements in a row lie in a block, from a place on. -/
def SoAt (W : World) (lo : Nat → Prop) : So → Nat → Nat → Prop
  | .nil, _, _ => True
  | .cons d nm ix v l h t e r, c, o => lo c ∧ W.cell? ⟨c, o, none⟩ = some (.int .i64 d) ∧ W.cell? ⟨c, o + 1, none⟩ = some (.string nm) ∧ (∃ s, W.cell? ⟨c, o + 2, none⟩ = some s ∧ SlF W lo s ix) ∧
      ExC W lo c (o + 3) v ∧ ExC W lo c (o + 7) l ∧ ExC W lo c (o + 11) h ∧
      (∃ p q, W.cell? ⟨c, o + 15, none⟩ = some (.slice p t.len q) ∧ (t = .nil ∨ ∃ d u, p = some ⟨d, u, none⟩ ∧ SoAt W lo t d u)) ∧
      (∃ p q, W.cell? ⟨c, o + 16, none⟩ = some (.slice p e.len q) ∧ (e = .nil ∨ ∃ d u, p = some ⟨d, u, none⟩ ∧ SoAt W lo e d u)) ∧ SoAt W lo r c (o + 17)
/-- A slice of statements. -/
def SlS (W : World) (lo : Nat → Prop) (v : Value) (f : So) : Prop := ∃ p q, v = .slice p f.len q ∧ (f = .nil ∨ ∃ d u, p = some ⟨d, u, none⟩ ∧ SoAt W lo f d u)
theorem SoAt.kp {lo : Nat → Prop} {W V : World} (h : Kp lo W V) : ∀ {f : So} {c o : Nat}, SoAt W lo f c o → SoAt V lo f c o
  | .nil, _, _, _ => trivial
  | .cons d nm ix v l hh t e r, c, o, k => by
    obtain ⟨k0, k1, k2, ⟨s, k3, k3'⟩, k4, k5, k6, ⟨p, q, k7, k8⟩, ⟨p', q', k9, k10⟩, k11⟩ := k
    refine ⟨k0, h.cell k0 k1, h.cell k0 k2, ⟨s, h.cell k0 k3, k3'.kp h⟩, k4.kp h k0, k5.kp h k0, k6.kp h k0, ⟨p, q, h.cell k0 k7, ?_⟩, ⟨p', q', h.cell k0 k9, ?_⟩, SoAt.kp h k11⟩
    · rcases k8 with k8 | ⟨d, u, e, k8⟩
      · exact Or.inl k8
      · exact Or.inr ⟨d, u, e, SoAt.kp h k8⟩
    · rcases k10 with k10 | ⟨d, u, e, k10⟩
      · exact Or.inl k10
      · exact Or.inr ⟨d, u, e, SoAt.kp h k10⟩
theorem SoAt.lo {lo lo' : Nat → Prop} (h : ∀ k, lo k → lo' k) {W : World} : ∀ {f : So} {c o : Nat}, SoAt W lo f c o → SoAt W lo' f c o
  | .nil, _, _, _ => trivial
  | .cons d nm ix v l hh t e r, c, o, k => by
    obtain ⟨k0, k1, k2, ⟨s, k3, k3'⟩, k4, k5, k6, ⟨p, q, k7, k8⟩, ⟨p', q', k9, k10⟩, k11⟩ := k
    refine ⟨h _ k0, k1, k2, ⟨s, k3, k3'.lo h⟩, k4.lo h, k5.lo h, k6.lo h, ⟨p, q, k7, ?_⟩, ⟨p', q', k9, ?_⟩, SoAt.lo h k11⟩
    · rcases k8 with k8 | ⟨d, u, e, k8⟩
      · exact Or.inl k8
      · exact Or.inr ⟨d, u, e, SoAt.lo h k8⟩
    · rcases k10 with k10 | ⟨d, u, e, k10⟩
      · exact Or.inl k10
      · exact Or.inr ⟨d, u, e, SoAt.lo h k10⟩
theorem SlS.kp {lo : Nat → Prop} {W V : World} {v : Value} {f : So} (h : Kp lo W V) (k : SlS W lo v f) : SlS V lo v f := by
  obtain ⟨p, q, e, k⟩ := k
  refine ⟨p, q, e, ?_⟩
  rcases k with k | ⟨d, u, e', k⟩
  · exact Or.inl k
  · exact Or.inr ⟨d, u, e', k.kp h⟩
theorem SlS.lo {lo lo' : Nat → Prop} (h : ∀ k, lo k → lo' k) {W : World} {v : Value} {f : So} (k : SlS W lo v f) : SlS W lo' v f := by
  obtain ⟨p, q, e, k⟩ := k
  refine ⟨p, q, e, ?_⟩
  rcases k with k | ⟨d, u, e', k⟩
  · exact Or.inl k
  · exact Or.inr ⟨d, u, e', k.lo h⟩
theorem SlS.nil (W : World) (lo : Nat → Prop) : SlS W lo (.slice none 0 0) .nil := ⟨none, 0, rfl, Or.inl rfl⟩
/-- A statement as a value. -/
def StAt (W : World) (lo : Nat → Prop) (v : Value) (s : St) : Prop := ∃ ix vs ls hs t e, v = .agg #[.int .i64 s.dO, .string s.name, ix, .int .i64 s.value.op, .string s.value.tx, .int .i64 s.value.ty, vs, .int .i64 s.low.op, .string s.low.tx, .int .i64 s.low.ty, ls, .int .i64 s.high.op, .string s.high.tx, .int .i64 s.high.ty, hs, t, e] ∧
  SlF W lo ix s.index ∧ SlF W lo vs s.value.ks ∧ SlF W lo ls s.low.ks ∧ SlF W lo hs s.high.ks ∧ SlS W lo t s.thn ∧ SlS W lo e s.els
theorem StAt.kp {lo : Nat → Prop} {W V : World} {v : Value} {s : St} (h : Kp lo W V) (k : StAt W lo v s) : StAt V lo v s := by
  obtain ⟨ix, vs, ls, hs, t, e, rfl, k1, k2, k3, k4, k5, k6⟩ := k
  exact ⟨ix, vs, ls, hs, t, e, rfl, k1.kp h, k2.kp h, k3.kp h, k4.kp h, k5.kp h, k6.kp h⟩
/-- Tokens lie in a block, from a place on. -/
def TkAt (W : World) (c : Nat) : List Tk → Nat → Prop
  | [], _ => True
  | t :: ts, o => W.cell? ⟨c, o, none⟩ = some (.int .i64 t.1) ∧ W.cell? ⟨c, o + 1, none⟩ = some (.string t.2.1) ∧ W.cell? ⟨c, o + 2, none⟩ = some (.int .i64 t.2.2) ∧ TkAt W c ts (o + 3)
theorem TkAt.on {W V : World} {c : Nat} (h : ∀ o v, W.cell? ⟨c, o, none⟩ = some v → V.cell? ⟨c, o, none⟩ = some v) : ∀ {ts : List Tk} {o : Nat}, TkAt W c ts o → TkAt V c ts o
  | [], _, _ => trivial
  | t :: ts, o, ⟨k1, k2, k3, k4⟩ => ⟨h _ _ k1, h _ _ k2, h _ _ k3, TkAt.on h k4⟩
/-- A parser in its block: its tokens (in another block), how deep ( ) are, and were. -/
structure PAt (W : World) (b B : Nat) (ts : List Tk) (o d : Int) : Prop where
  ne : B ≠ b
  tk : ∃ f q, W.cell? ⟨b, 0, none⟩ = some (.slice (some ⟨B, f, none⟩) ts.length q) ∧ ts.length ≤ q ∧ TkAt W B ts f
  op : W.cell? ⟨b, 1, none⟩ = some (.int .i64 o)
  dp : W.cell? ⟨b, 2, none⟩ = some (.int .i64 d)
  fz : ∀ k, W.frozen? ⟨b, k, none⟩ = false
theorem PAt.on {W V : World} {b B : Nat} {ts : List Tk} {o d : Int} (h : PAt W b B ts o d) (hb : V.heap[b]? = W.heap[b]?) (hB : V.heap[B]? = W.heap[B]?) : PAt V b B ts o d := by
  obtain ⟨ne, ⟨f, q, h1, h2, h3⟩, h4, h5, h6⟩ := h
  exact ⟨ne, ⟨f, q, (cell_of_heap hb).trans h1, h2, h3.on (fun o v k => (cell_of_heap hB).trans k)⟩, (cell_of_heap hb).trans h4, (cell_of_heap hb).trans h5, fun k => (frozen_of_heap hb).trans (h6 k)⟩
theorem PAt.lt {W : World} {b B : Nat} {ts : List Tk} {o d : Int} (h : PAt W b B ts o d) : b < W.heap.size := World.block_lt_of_cell? W _ h.op
theorem PAt.ltB {W : World} {b B : Nat} {ts : List Tk} {o d : Int} (h : PAt W b B ts o d) (hts : ts ≠ []) : B < W.heap.size := by
  obtain ⟨f, q, h1, h2, h3⟩ := h.tk
  cases ts with
  | nil => exact absurd rfl hts
  | cons t ts => exact World.block_lt_of_cell? W _ h3.1
end Go.Proofs.YtknoibocpbfmmaaGreatDoor

namespace Go.Proofs.YtknoibocpbfmmaaGreatDoor
open Go.RowKit
set_option linter.unusedVariables false
set_option linter.unusedSimpArgs false
set_option maxRecDepth 100000 in
theorem lx0 (B f n q : Nat) (h : 0 < n) (w : World) : (Instr.indexAt 40 (.slice (some ⟨B, f, none⟩) n q) (.int .i64 0)).run Tryz.prog w = .ok (.pointer (some ⟨B, f, none⟩)) w := by
  have e2 : ∀ w, (sizeOf (Tryz.prog.elem 40)).run Tryz.prog w = .ok 3 w := fun w => by kernel_rfl
  rw [run_indexAt_slice (h := by first | exact Tryz.underlying40 | rfl), if_pos ⟨by omega, by omega⟩, e2]
  simp [go_sem]
theorem lxf0 (a c : Int) (b : ByteArray) (w : World) : (Instr.field 45 (.agg #[.int .i64 a, .string b, .int .i64 c]) 0).run Tryz.prog w = .ok (.int .i64 a) w := by kernel_rfl
theorem lxf1 (a c : Int) (b : ByteArray) (w : World) : (Instr.field 45 (.agg #[.int .i64 a, .string b, .int .i64 c]) 1).run Tryz.prog w = .ok (.string b) w := by kernel_rfl
theorem lxf2 (a c : Int) (b : ByteArray) (w : World) : (Instr.field 45 (.agg #[.int .i64 a, .string b, .int .i64 c]) 2).run Tryz.prog w = .ok (.int .i64 c) w := by kernel_rfl
theorem pb_new {w W : World} (h : Below w.heap.size w W) (o : Obj) : Below w.heap.size w (W.alloc o) := h.alloc h.size o
theorem pb_set {n : Nat} {w W : World} (h : Below n w W) {c j : Nat} (hc : n ≤ c) (v : Value) : Below n w (W.setCell ⟨c, j, none⟩ v) := h.setCell (p := ⟨c, j, none⟩) hc v
theorem pb_call {w W V : World} (h : Below w.heap.size w W) (k : Below W.heap.size W V) : Below w.heap.size w V := h.trans (k.mono h.size)
theorem PAt.bel {W V : World} {b B : Nat} {ts : List Tk} {o d : Int} (h : PAt W b B ts o d) (hts : ts ≠ []) (k : Below W.heap.size W V) : PAt V b B ts o d := h.on (k.block _ h.lt) (k.block _ (h.ltB hts))
set_option maxRecDepth 100000 in
set_option maxHeartbeats 1600000 in
theorem pnext (b B : Nat) (t : Tk) (ts : List Tk) (o d : Int) (w : World) (h : PAt w b B (t :: ts) o d) :
    Calls Tryz.prog 60 #[.pointer (some ⟨b, 0, none⟩)] w fun e w' => e = .returned (.agg #[.int .i64 t.1, .string t.2.1, .int .i64 t.2.2]) ∧ Below w.heap.size w w' := by
  have hlt := h.lt
  have hltB := h.ltB (by simp)
  obtain ⟨f, q, c0, cq, k1, k2, k3, _⟩ := h.tk
  obtain ⟨n, hn⟩ : ∃ n, (t :: ts).length = n := ⟨_, rfl⟩
  have n0 : 0 < n := by rw [← hn]; simp
  rw [hn] at c0
  have ix := lx0 B f n q n0
  clear hn
  generalize t.1 = t1 at *
  generalize t.2.1 = t2 at *
  generalize t.2.2 = t3 at *
  have lf0 := lxf0
  have lf1 := lxf1
  have lf2 := lxf2
  go_enter Tryz.func60, Tryz.ntmps60
  go_wp2_with fail
  exact bodyPost_ret (v := .agg #[.int .i64 t1, .string t2, .int .i64 t3]) (by simp [results, Tryz.results60, go_sem]) rfl ⟨rfl, pb_new (Below.refl _ _) _⟩
set_option maxRecDepth 100000 in
set_option maxHeartbeats 1600000 in
theorem pended (b B : Nat) (t : Tk) (ts : List Tk) (o d : Int) (w : World) (h : PAt w b B (t :: ts) o d) :
    Calls Tryz.prog 62 #[.pointer (some ⟨b, 0, none⟩)] w fun e w' => e = .returned (.bool ((t.1 : Int) == 0)) ∧ Below w.heap.size w w' := by
  have kn := pnext b B t ts o d
  generalize t.2.1 = t2 at *
  generalize t.2.2 = t3 at *
  have lf0 := lxf0
  have lf1 := lxf1
  have lf2 := lxf2
  go_enter Tryz.func62, Tryz.ntmps62
  go_wp2_with (first | (go_at_call 60; refine (kn _ h).mono ?_; rintro e w1 ⟨rfl, g⟩) | fail)
  go_ret
  exact ⟨rfl, g⟩
theorem txt_no {a b : ByteArray} (h : a ≠ b) : (a.toList == b.toList) = false := by
  rw [beq_eq_false_iff_ne]
  intro e
  apply h
  have : a.data.toList = b.data.toList := by rw [← ByteArray.toList_eq, ← ByteArray.toList_eq]; exact e
  cases a; cases b; simp_all
set_option maxRecDepth 100000 in
set_option maxHeartbeats 1600000 in
theorem pskip_no (b B : Nat) (t : Tk) (ts : List Tk) (o d : Int) (s : ByteArray) (hs : t.2.1 ≠ s) (w : World) (h : PAt w b B (t :: ts) o d) :
    Calls Tryz.prog 78 #[.pointer (some ⟨b, 0, none⟩), .string s] w fun e w' => e = .returned (.bool false) ∧ Below w.heap.size w w' := by
  have kn := pnext b B t ts o d
  have ht := txt_no hs
  clear hs
  generalize t.2.1 = t2 at *
  generalize t.2.2 = t3 at *
  have lf0 := lxf0
  have lf1 := lxf1
  have lf2 := lxf2
  go_enter Tryz.func78, Tryz.ntmps78
  go_wp2_with (first | (go_at_call 60; refine (kn _ h).mono ?_; rintro e w1 ⟨rfl, g⟩) | fail)
  go_ret
  exact ⟨rfl, g⟩
theorem PAt.step {W : World} {b B : Nat} {t : Tk} {ts : List Tk} {o d : Int} (h : PAt W b B (t :: ts) o d) {f q : Nat} (c0 : W.cell? ⟨b, 0, none⟩ = some (.slice (some ⟨B, f, none⟩) (t :: ts).length q)) (cq : (t :: ts).length ≤ q) (k4 : TkAt W B ts (f + 3)) :
    PAt (W.setCell ⟨b, 0, none⟩ (.slice (some ⟨B, f + 3, none⟩) ts.length (q - 1))) b B ts o d := by
  refine ⟨h.ne, ⟨f + 3, q - 1, by simp [go_sem, c0], by simp at cq; omega, k4.on fun o v k => ?_⟩, ?_, ?_, fun k => ?_⟩
  · have := h.ne
    rw [World.cell?_setCell_other _ _ _ _ (by simp [this])]
    exact k
  · rw [World.cell?_setCell_other _ _ _ _ (by simp)]; exact h.op
  · rw [World.cell?_setCell_other _ _ _ _ (by simp)]; exact h.dp
  · have := h.fz k
    simpa [go_sem] using this
set_option maxRecDepth 100000 in
set_option maxHeartbeats 1600000 in
theorem pskip_yes (b B : Nat) (t : Tk) (ts : List Tk) (o d : Int) (h0 : ts ≠ []) (w : World) (h : PAt w b B (t :: ts) o d) :
    Calls Tryz.prog 78 #[.pointer (some ⟨b, 0, none⟩), .string t.2.1] w fun e w' => e = .returned (.bool true) ∧ PAt w' b B ts o d ∧ Onl b w w' := by
  have kn := pnext b B t ts o d
  have ht : (t.2.1.toList == t.2.1.toList) = true := by simp
  generalize t.2.1 = t2 at *
  generalize t.2.2 = t3 at *
  have lf0 := lxf0
  have lf1 := lxf1
  have lf2 := lxf2
  go_enter Tryz.func78, Tryz.ntmps78
  go_upto_region 3 with (first | (go_at_call 60; refine (kn _ h).mono ?_; rintro e w1 ⟨rfl, g⟩) | fail)
  have h1 := h.bel (by simp) g
  obtain ⟨f, q, c0, cq, k1, k2, k3, k4⟩ := h1.tk
  have fz := h1.fz 0
  have q1 : ¬ q = 1 := by
    have : ts.length ≠ 0 := fun e => h0 (List.length_eq_zero_iff.1 e)
    simp at cq; omega
  go_wp2_with fail
  go_ret
  exact ⟨rfl, h1.step c0 cq k4, (((Onl.refl b w).below g).set _)⟩
/-- What is given up with. -/
def fltV (e a : Int) : Value := .iface 48 (.agg #[.int .i64 e, .int .i64 a])
def Fault (e a : Int) (x : Ending) : Prop := x = .panicked [{ v := fltV e a, recovered := false }]
set_option maxRecDepth 100000 in
set_option maxHeartbeats 1600000 in
theorem pgive (b B : Nat) (t : Tk) (ts : List Tk) (o d : Int) (w : World) (h : PAt w b B (t :: ts) o d) :
    Calls Tryz.prog 95 #[.pointer (some ⟨b, 0, none⟩)] w fun e w' => Fault 4 t.2.2 e ∧ Below w.heap.size w w' := by
  have kn := pnext b B t ts o d
  have lf0 := lxf0
  have lf1 := lxf1
  have lf2 := lxf2
  unfold Fault fltV
  generalize t.2.1 = t2 at *
  generalize t.2.2 = t3 at *
  go_enter Tryz.func95, Tryz.ntmps95
  go_wp2_with (first | (go_at_call 60; refine (kn _ h).mono ?_; rintro e w1 ⟨rfl, g⟩) | fail)
  exact ⟨rfl, rfl, g⟩
set_option maxRecDepth 100000 in
set_option maxHeartbeats 1600000 in
theorem pwant_yes (b B : Nat) (t : Tk) (ts : List Tk) (o d : Int) (h0 : ts ≠ []) (w : World) (h : PAt w b B (t :: ts) o d) :
    Calls Tryz.prog 80 #[.pointer (some ⟨b, 0, none⟩), .string t.2.1] w fun e w' => e = .returned (.tuple #[]) ∧ PAt w' b B ts o d ∧ Onl b w w' := by
  have kn := pskip_yes b B t ts o d h0
  generalize t.2.1 = t2 at *
  go_enter Tryz.func80, Tryz.ntmps80
  go_wp2_with (first | (go_at_call 78; refine (kn _ h).mono ?_; rintro e w1 ⟨rfl, g1, g⟩) | fail)
  exact bodyPost_end (v := .tuple #[]) (by simp [results, Tryz.results80, go_sem]) rfl ⟨rfl, g1, g⟩
set_option maxRecDepth 100000 in
set_option maxHeartbeats 1600000 in
theorem pwant_no (b B : Nat) (t : Tk) (ts : List Tk) (o d : Int) (s : ByteArray) (hs : t.2.1 ≠ s) (w : World) (h : PAt w b B (t :: ts) o d) :
    Calls Tryz.prog 80 #[.pointer (some ⟨b, 0, none⟩), .string s] w fun e w' => Fault 4 t.2.2 e ∧ Below w.heap.size w w' := by
  have kn := pskip_no b B t ts o d s hs
  have kg := pgive b B t ts o d
  unfold Fault fltV at *
  go_enter Tryz.func80, Tryz.ntmps80
  go_wp2_with (first | (go_at_call 78; refine (kn _ h).mono ?_; rintro e w1 ⟨rfl, g⟩; have h1 := h.bel (by simp) g) | (go_at_call 95; refine (kg _ h1).mono ?_; rintro e w2 ⟨rfl, g2⟩) | fail)
  exact ⟨rfl, rfl, pb_call g g2⟩
set_option maxRecDepth 100000 in
theorem kx (c n q j : Nat) (h : j < n) (w : World) : (Instr.indexAt 135 (.slice (some ⟨c, 0, none⟩) n q) (.int .i64 j)).run Tryz.prog w = .ok (.pointer (some ⟨c, j, none⟩)) w := by
  have e2 : ∀ w, (sizeOf (Tryz.prog.elem 135)).run Tryz.prog w = .ok 1 w := fun w => by kernel_rfl
  rw [run_indexAt_slice (h := by first | exact Tryz.underlying135 | rfl), if_pos ⟨by omega, by omega⟩, e2]
  simp [go_sem]
/-- Kinds in a block. -/
def KsAt (W : World) (c : Nat) (ks : List Nat) : Prop := ∀ j k, ks[j]? = some k → W.cell? ⟨c, j, none⟩ = some (.int .i64 (k : Nat))
set_option maxRecDepth 100000 in
set_option maxHeartbeats 1600000 in
theorem ptake_yes (b B c m q : Nat) (t : Tk) (ts : List Tk) (o d : Int) (h0 : ts ≠ []) (ks : List Nat) (hm : ks.length = m) (m2 : m ≤ 2) (hy : t.1 ∈ ks) (w : World) (hk : KsAt w c ks) (h : PAt w b B (t :: ts) o d) :
    Calls Tryz.prog 77 #[.pointer (some ⟨b, 0, none⟩), .slice (some ⟨c, 0, none⟩) m q] w fun e w' => e = .returned (.string t.2.1) ∧ PAt w' b B ts o d ∧ Onl b w w' := by
  have kn := pnext b B t ts o d
  obtain ⟨kd, hkd⟩ : ∃ k, t.1 = k := ⟨_, rfl⟩
  rw [hkd] at kn hy
  obtain ⟨t2, ht2⟩ : ∃ k, t.2.1 = k := ⟨_, rfl⟩
  rw [ht2] at kn ⊢
  obtain ⟨t3, ht3⟩ : ∃ k, t.2.2 = k := ⟨_, rfl⟩
  rw [ht3] at kn
  clear hkd ht2 ht3
  have lf0 := lxf0
  have lf1 := lxf1
  have lf2 := lxf2
  go_enter Tryz.func77, Tryz.ntmps77
  go_upto_region 2 with (first | (go_at_call 60; refine (kn _ h).mono ?_; rintro e w1 ⟨rfl, g⟩) | fail)
  obtain ⟨W, hW⟩ : ∃ W, w1.alloc (.cells #[.int .i64 kd, .string t2, .int .i64 t3] 45) = W := ⟨_, rfl⟩
  have gW : Below w.heap.size w W := by rw [← hW]; exact pb_new g _
  obtain ⟨p, hp⟩ : ∃ p, w1.heap.size = p := ⟨_, rfl⟩
  have x0 : W.cell? ⟨p, 0, none⟩ = some (.int .i64 kd) := by rw [← hW, ← hp]; simp [go_sem]
  have x1 : W.cell? ⟨p, 1, none⟩ = some (.string t2) := by rw [← hW, ← hp]; simp [go_sem]
  have pb : p ≠ b := by have := h.lt; have := g.size; omega
  have h1 := h.bel (by simp) gW
  have hk1 : Hid (KsAt W c ks) := fun j k e => by
    have := hk j k e
    exact (gW.cell (World.block_lt_of_cell? w _ this)).trans this
  rw [hW]
  (try rw [hp])
  clear hW hp kn h g hk
  obtain ⟨f, q', c0, cq, k1, k2, k3, k4⟩ := h1.tk
  have fz := h1.fz 0
  have q1 : ¬ q' = 1 := by
    have : ts.length ≠ 0 := fun e => h0 (List.length_eq_zero_iff.1 e)
    simp at cq; omega
  have hm' : Hid (ks.length = m) := hm
  clear hm
  go_upto_region 3 with fail
  go_loopw [12] (fun i wr => ∃ j : Nat, i = .int .i64 j ∧ j < m ∧ Hid (∃ j' : Nat, j ≤ j' ∧ ks[j']? = some kd) ∧ W = wr) (fun i _ => m - (intOf i).toNat)
  case atStart =>
    obtain ⟨j', hj', e⟩ := List.getElem_of_mem hy
    exact ⟨0, rfl, by have := hm'.out; omega, ⟨j', by omega, by rw [← e]; exact List.getElem?_eq_getElem hj'⟩, rfl⟩
  case round =>
    obtain ⟨j, rfl, hj, hx, e⟩ := hrel
    subst e
    obtain ⟨k, hkj⟩ : ∃ k, ks[j]? = some k := ⟨_, List.getElem?_eq_getElem (by have := hm'.out; omega)⟩
    have ck := hk1.out j k hkj
    have ix := kx c m q j hj
    have cj : (j : Int) < (m : Int) := by omega
    by_cases ek : kd = k
    · subst ek
      clear hx hk1 hkj
      go_wp2_with fail
      go_ret
      exact ⟨rfl, h1.step c0 cq k4, (Onl.refl b w).below gW |>.set _⟩
    · have ek' : ((kd : Int) == (k : Int)) = false := by rw [beq_eq_false_iff_ne]; omega
      have hx2 : Hid (∃ j' : Nat, j + 1 ≤ j' ∧ ks[j']? = some kd) := by
        obtain ⟨j', h1, h2⟩ := hx.out
        rcases (show j' = j ∨ j + 1 ≤ j' by omega) with e | e
        · subst e; rw [hkj] at h2; exact absurd (Option.some.inj h2).symm ek
        · exact ⟨j', e, h2⟩
      have hj2 : j + 1 < m := by
        obtain ⟨j', h1, h2⟩ := hx2.out
        have := (List.getElem?_eq_some_iff.1 h2).1
        have := hm'.out
        omega
      have wj : IntKind.i64.wrap ((j : Int) + 1) = ((j + 1 : Nat) : Int) := by rw [IntKind.wrap_i64]; omega
      clear hx hk1 hkj ek
      go_wp2_with fail
      exact ⟨⟨j + 1, by go_num, hj2, hx2, trivial⟩, by simp [intOf]; omega⟩
set_option maxRecDepth 100000 in
set_option maxHeartbeats 1600000 in
theorem ptake_no (b B c m q : Nat) (t : Tk) (ts : List Tk) (o d : Int) (ks : List Nat) (hm : ks.length = m) (m2 : m ≤ 2) (hy : t.1 ∉ ks) (w : World) (hk : KsAt w c ks) (h : PAt w b B (t :: ts) o d) :
    Calls Tryz.prog 77 #[.pointer (some ⟨b, 0, none⟩), .slice (some ⟨c, 0, none⟩) m q] w fun e w' => Fault 4 t.2.2 e ∧ Below w.heap.size w w' := by
  have kn := pnext b B t ts o d
  have kg := pgive b B t ts o d
  unfold Fault fltV at *
  obtain ⟨kd, hkd⟩ : ∃ k, t.1 = k := ⟨_, rfl⟩
  rw [hkd] at kn hy
  obtain ⟨t2, ht2⟩ : ∃ k, t.2.1 = k := ⟨_, rfl⟩
  rw [ht2] at kn
  obtain ⟨t3, ht3⟩ : ∃ k, t.2.2 = k := ⟨_, rfl⟩
  rw [ht3] at kn kg ⊢
  clear hkd ht2 ht3
  have lf0 := lxf0
  have lf1 := lxf1
  have lf2 := lxf2
  go_enter Tryz.func77, Tryz.ntmps77
  go_upto_region 2 with (first | (go_at_call 60; refine (kn _ h).mono ?_; rintro e w1 ⟨rfl, g⟩) | fail)
  obtain ⟨W, hW⟩ : ∃ W, w1.alloc (.cells #[.int .i64 kd, .string t2, .int .i64 t3] 45) = W := ⟨_, rfl⟩
  have gW : Below w.heap.size w W := by rw [← hW]; exact pb_new g _
  obtain ⟨p, hp⟩ : ∃ p, w1.heap.size = p := ⟨_, rfl⟩
  have x0 : W.cell? ⟨p, 0, none⟩ = some (.int .i64 kd) := by rw [← hW, ← hp]; simp [go_sem]
  have x1 : W.cell? ⟨p, 1, none⟩ = some (.string t2) := by rw [← hW, ← hp]; simp [go_sem]
  have pb : p ≠ b := by have := h.lt; have := g.size; omega
  have h1 := h.bel (by simp) gW
  have hk1 : Hid (KsAt W c ks) := fun j k e => by
    have := hk j k e
    exact (gW.cell (World.block_lt_of_cell? w _ this)).trans this
  rw [hW]
  (try rw [hp])
  clear hW hp kn h g hk
  have hm' : Hid (ks.length = m) := hm
  clear hm
  go_upto_region 3 with fail
  go_loopw [12] (fun i wr => ∃ j : Nat, i = .int .i64 j ∧ j ≤ m ∧ W = wr) (fun i _ => m - (intOf i).toNat)
  case atStart => exact ⟨0, rfl, by omega, rfl⟩
  case round =>
    obtain ⟨j, rfl, hj, e⟩ := hrel
    subst e
    by_cases cj : j < m
    · obtain ⟨k, hkj⟩ : ∃ k, ks[j]? = some k := ⟨_, List.getElem?_eq_getElem (by have := hm'.out; omega)⟩
      have ck := hk1.out j k hkj
      have ix := kx c m q j cj
      have cj' : (j : Int) < (m : Int) := by omega
      have ek : ¬ kd = k := by
        rintro rfl
        exact hy (List.mem_of_getElem? hkj)
      have ek' : ((kd : Int) == (k : Int)) = false := by rw [beq_eq_false_iff_ne]; omega
      have wj : IntKind.i64.wrap ((j : Int) + 1) = ((j + 1 : Nat) : Int) := by rw [IntKind.wrap_i64]; omega
      clear hk1 hkj ek hy
      go_wp2_with fail
      exact ⟨⟨j + 1, by go_num, by omega, trivial⟩, by simp [intOf]; omega⟩
    · obtain rfl : j = m := by omega
      clear hy hk1
      go_wp2_with (first | (go_at_call 95; refine (kg _ h1).mono ?_; rintro e w2 ⟨rfl, g2⟩) | fail)
      exact ⟨rfl, rfl, pb_call gW g2⟩
end Go.Proofs.YtknoibocpbfmmaaGreatDoor

namespace Go.Proofs.YtknoibocpbfmmaaGreatDoor
open Go.RowKit
set_option linter.unusedVariables false
set_option linter.unusedSimpArgs false
def wdOf (t : Int) : ByteArray := if t = 1 then ⟨#[105, 110, 116]⟩ else if t = 2 then ⟨#[102, 108, 111, 97, 116]⟩ else if t = 3 then ⟨#[100, 111, 117, 98, 108, 101]⟩ else tx0
set_option maxRecDepth 100000 in
set_option maxHeartbeats 1600000 in
theorem pword (t : Int) (w : World) : Calls Tryz.prog 33 #[.int .i64 t] w fun e w' => e = .returned (.string (wdOf t)) ∧ w' = w := by
  by_cases h1 : t = 1
  · subst h1
    go_enter Tryz.func33, Tryz.ntmps33
    go_wp2_with fail
    go_ret
    exact ⟨rfl, rfl⟩
  by_cases h2 : t = 2
  · subst h2
    go_enter Tryz.func33, Tryz.ntmps33
    go_wp2_with fail
    go_ret
    exact ⟨rfl, rfl⟩
  by_cases h3 : t = 3
  · subst h3
    go_enter Tryz.func33, Tryz.ntmps33
    go_wp2_with fail
    go_ret
    exact ⟨rfl, rfl⟩
  have e : wdOf t = tx0 := by unfold wdOf; rw [if_neg h1, if_neg h2, if_neg h3]
  rw [e]
  have k1 : (t == 1) = false := by rw [beq_eq_false_iff_ne]; exact h1
  have k2 : (t == 2) = false := by rw [beq_eq_false_iff_ne]; exact h2
  have k3 : (t == 3) = false := by rw [beq_eq_false_iff_ne]; exact h3
  go_enter Tryz.func33, Tryz.ntmps33
  go_wp2_with fail
  go_ret
  exact ⟨rfl, rfl⟩
theorem ty_yes (j : Nat) (h1 : 1 ≤ j) (h3 : j ≤ 3) : tyOf (wdOf j) = j := by
  rcases (show j = 1 ∨ j = 2 ∨ j = 3 by omega) with rfl | rfl | rfl <;> decide
theorem ty_no {s : ByteArray} (h : ∀ j : Nat, 1 ≤ j → j ≤ 3 → wdOf j ≠ s) : tyOf s = 0 := by
  unfold tyOf
  rw [if_neg (fun e => h 1 (by decide) (by decide) e.symm), if_neg (fun e => h 2 (by decide) (by decide) e.symm), if_neg (fun e => h 3 (by decide) (by decide) e.symm)]
set_option maxRecDepth 100000 in
set_option maxHeartbeats 1600000 in
theorem ptype (s : ByteArray) (w : World) : Calls Tryz.prog 59 #[.string s] w fun e w' => e = .returned (.int .i64 (tyOf s)) ∧ w' = w := by
  have kw := pword
  have tn := @ty_no s
  have ty := ty_yes
  obtain ⟨R, hR⟩ : ∃ R, tyOf s = R := ⟨_, rfl⟩
  rw [hR]
  rw [hR] at tn
  go_enter Tryz.func59, Tryz.ntmps59
  go_upto_region 2 with fail
  have hR' : Hid (tyOf s = R) := hR
  clear hR
  go_loopw [3] (fun i wr => ∃ j : Nat, i = .int .i64 j ∧ 1 ≤ j ∧ j ≤ 4 ∧ Hid (∀ k : Nat, 1 ≤ k → k < j → wdOf k ≠ s) ∧ w = wr) (fun i _ => 4 - (intOf i).toNat)
  case atStart => exact ⟨1, rfl, by omega, by omega, fun k a b => by omega, rfl⟩
  case round =>
    obtain ⟨j, rfl, j1, j4, hx, e⟩ := hrel
    subst e
    by_cases cj : j ≤ 3
    · have cj' : (j : Int) ≤ 3 := by omega
      have wj : IntKind.i64.wrap ((j : Int) + 1) = ((j + 1 : Nat) : Int) := by rw [IntKind.wrap_i64]; omega
      obtain ⟨x, hxj⟩ : ∃ x, wdOf j = x := ⟨_, rfl⟩
      by_cases ex : x = s
      · have eR : Hid ((j : Int) = R) := by have h9 := ty j j1 cj; have h8 := hR'.out; rw [← ex, ← hxj, h9] at h8; exact h8
        subst ex
        have ht : (x.toList == x.toList) = true := by simp
        clear hx tn ty hR'
        go_wp2_with (first | (go_at_call 33; refine (kw _ _).mono ?_; rintro e w1 ⟨rfl, rfl⟩; (try rw [hxj])) | fail)
        go_ret
        exact ⟨by rw [← eR.out]; rfl, rfl⟩
      · have ht := txt_no ex
        have hx2 : Hid (∀ k : Nat, 1 ≤ k → k < j + 1 → wdOf k ≠ s) := fun k a b => by
          rcases (show k < j ∨ k = j by omega) with h | h
          · exact hx.out k a h
          · rw [h, hxj]; exact ex
        clear hx tn ty ex
        go_wp2_with (first | (go_at_call 33; refine (kw _ _).mono ?_; rintro e w1 ⟨rfl, rfl⟩; (try rw [hxj])) | fail)
        exact ⟨⟨j + 1, by go_num, by omega, by omega, hx2, trivial⟩, by simp [intOf]; omega⟩
    · obtain rfl : j = 4 := by omega
      have e0 : R = 0 := by exact tn (fun k a b => hx.out k a (by omega))
      subst e0
      clear tn ty hx
      go_wp2_with fail
      go_ret
      exact ⟨rfl, rfl⟩
/-- The operators as the table has them. -/
def opT : List (Int × ByteArray × Int) := [(19, ⟨#[124, 124]⟩, 0), (18, ⟨#[38, 38]⟩, 1), (12, ⟨#[60]⟩, 2), (13, ⟨#[60, 61]⟩, 2), (14, ⟨#[62]⟩, 2), (15, ⟨#[62, 61]⟩, 2), (16, ⟨#[61, 61]⟩, 2), (17, ⟨#[33, 61]⟩, 2), (8, ⟨#[43]⟩, 3), (9, ⟨#[45]⟩, 3), (10, ⟨#[42]⟩, 4), (11, ⟨#[47]⟩, 4)]
def opC : List (Int × ByteArray × Int) → List Value
  | [] => []
  | x :: r => .int .i64 x.1 :: .string x.2.1 :: .int .i64 x.2.2 :: opC r
/-- The table in memory. -/
def OpsAt (W : World) : Prop := ∀ j v, (opC opT)[j]? = some v → W.cell? ⟨0, j, none⟩ = some v
theorem op_yes {j : Nat} {a l : Int} {t : ByteArray} (h : opT[j]? = some (a, t, l)) : opOf t = (a, l) := by
  have hj := (List.getElem?_eq_some_iff.1 h).1
  have hl : opT.length = 12 := rfl
  rcases (show j = 0 ∨ j = 1 ∨ j = 2 ∨ j = 3 ∨ j = 4 ∨ j = 5 ∨ j = 6 ∨ j = 7 ∨ j = 8 ∨ j = 9 ∨ j = 10 ∨ j = 11 by omega) with rfl | rfl | rfl | rfl | rfl | rfl | rfl | rfl | rfl | rfl | rfl | rfl <;> (simp [opT] at h; obtain ⟨rfl, rfl, rfl⟩ := h; decide)
theorem op_no {s : ByteArray} (h : ∀ (j : Nat) x, opT[j]? = some x → x.2.1 ≠ s) : opOf s = (0, 0) := by
  have g : ∀ (j : Nat) x, opT[j]? = some x → ¬ s = x.2.1 := fun j x e k => h j x e k.symm
  unfold opOf
  rw [if_neg (g 0 _ rfl), if_neg (g 1 _ rfl), if_neg (g 2 _ rfl), if_neg (g 3 _ rfl), if_neg (g 4 _ rfl), if_neg (g 5 _ rfl), if_neg (g 6 _ rfl), if_neg (g 7 _ rfl), if_neg (g 8 _ rfl), if_neg (g 9 _ rfl), if_neg (g 10 _ rfl), if_neg (g 11 _ rfl)]
/-- An element of the table as a value. -/
theorem op_index (j : Nat) (a l : Int) (t : ByteArray) (h : opT[j]? = some (a, t, l)) (w : World) : (Instr.index 146 (.agg (opC opT).toArray) (.int .i64 j)).run Tryz.prog w = .ok (.agg #[.int .i64 a, .string t, .int .i64 l]) w := by
  have hj := (List.getElem?_eq_some_iff.1 h).1
  have hl : opT.length = 12 := rfl
  rcases (show j = 0 ∨ j = 1 ∨ j = 2 ∨ j = 3 ∨ j = 4 ∨ j = 5 ∨ j = 6 ∨ j = 7 ∨ j = 8 ∨ j = 9 ∨ j = 10 ∨ j = 11 by omega) with rfl | rfl | rfl | rfl | rfl | rfl | rfl | rfl | rfl | rfl | rfl | rfl <;> (simp [opT] at h; obtain ⟨rfl, rfl, rfl⟩ := h; show _ = _; kernel_rfl)
end Go.Proofs.YtknoibocpbfmmaaGreatDoor

