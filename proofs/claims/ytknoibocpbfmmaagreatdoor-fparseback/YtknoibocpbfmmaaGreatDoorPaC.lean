/- Programs in memory: expressions and statements as rows of cells; a parser and its tokens. -/
import Derived.Test.YtknoibocpbfmmaaGreatDoorPaB
import Derived.Below
import Derived.RowKit
import Derived.WalkKit
import Derived.WalkSpells
import Derived.StillTactics
import Derived.Laws.Pointers
import Derived.Deep.QuietTactic
import Derived.Deep.RegionHeld3
namespace Go.Proofs.YtknoibocpbfmmaaGreatDoor
open Go.RowKit
set_option linter.unusedVariables false
set_option linter.unusedSimpArgs false
/-- All blocks that lay, but one, lie as they lay. -/
structure Onl (b : Nat) (w w' : World) : Prop where
  os : w'.os = w.os
  tape : w'.tape = w.tape
  output : w'.output = w.output
  size : w.heap.size ≤ w'.heap.size
  block : ∀ k, k < w.heap.size → k ≠ b → w'.heap[k]? = w.heap[k]?
theorem Onl.refl (b : Nat) (w : World) : Onl b w w := ⟨rfl, rfl, rfl, Nat.le_refl _, fun _ _ _ => rfl⟩
theorem Onl.trans {b : Nat} {x y z : World} (h : Onl b x y) (k : Onl b y z) : Onl b x z :=
  ⟨k.os.trans h.os, k.tape.trans h.tape, k.output.trans h.output, Nat.le_trans h.size k.size, fun i hi hb => (k.block i (Nat.lt_of_lt_of_le hi h.size) hb).trans (h.block i hi hb)⟩
theorem Onl.drewN {b : Nat} {x y : World} (h : Onl b x y) (n : Nat) : Onl b x (y.drewN n) := ⟨h.os, h.tape, h.output, h.size, h.block⟩
theorem Onl.drew {b : Nat} {x y : World} (h : Onl b x y) : Onl b x y.drew := ⟨h.os, h.tape, h.output, h.size, h.block⟩
theorem Onl.set {b j : Nat} {x y : World} (h : Onl b x y) (v : Value) : Onl b x (y.setCell ⟨b, j, none⟩ v) :=
  ⟨h.os, h.tape, h.output, by simpa [World.setCell] using h.size, fun k hk hb => (Below.heap_setCell y _ v k hb).trans (h.block k hk hb)⟩
theorem Onl.below {b : Nat} {x y z : World} (h : Onl b x y) (k : Below y.heap.size y z) : Onl b x z :=
  ⟨k.os.trans h.os, k.tape.trans h.tape, k.output.trans h.output, Nat.le_trans h.size k.size, fun i hi hb => (k.block i (Nat.lt_of_lt_of_le hi h.size)).trans (h.block i hi hb)⟩
theorem Onl.toBelow {b n : Nat} {x y : World} (h : Onl b x y) (hb : n ≤ b) (hn : n ≤ x.heap.size) : Below n x y :=
  ⟨h.os, h.tape, h.output, h.size, fun k hk => h.block k (Nat.lt_of_lt_of_le hk hn) (by omega)⟩
theorem cell_of_heap {W V : World} {c o : Nat} (h : V.heap[c]? = W.heap[c]?) : V.cell? ⟨c, o, none⟩ = W.cell? ⟨c, o, none⟩ := by
  unfold World.cell?; rw [h]
theorem frozen_of_heap {W V : World} {c o : Nat} (h : V.heap[c]? = W.heap[c]?) : V.frozen? ⟨c, o, none⟩ = W.frozen? ⟨c, o, none⟩ := by
  unfold World.frozen?; rw [h]
theorem Onl.cell {b : Nat} {w w' : World} (h : Onl b w w') {c o : Nat} {v : Value} (hc : c ≠ b) (q : w.cell? ⟨c, o, none⟩ = some v) : w'.cell? ⟨c, o, none⟩ = some v :=
  (cell_of_heap (h.block c (World.block_lt_of_cell? w _ q) hc)).trans q
/-- All blocks of a set lie as they lay. -/
def Kp (lo : Nat → Prop) (W V : World) : Prop := ∀ k, lo k → k < W.heap.size → V.heap[k]? = W.heap[k]?
theorem Kp.cell {lo : Nat → Prop} {W V : World} (h : Kp lo W V) {c o : Nat} {v : Value} (hc : lo c) (q : W.cell? ⟨c, o, none⟩ = some v) : V.cell? ⟨c, o, none⟩ = some v :=
  (cell_of_heap (h c hc (World.block_lt_of_cell? W _ q))).trans q
theorem Onl.kp {b : Nat} {lo : Nat → Prop} {W V : World} (h : Onl b W V) (hb : ¬ lo b) : Kp lo W V := fun k h1 h2 => h.block k h2 (fun e => hb (e ▸ h1))
theorem Kp.trans {lo : Nat → Prop} {x y z : World} (h : Kp lo x y) (hs : x.heap.size ≤ y.heap.size) (k : Kp lo y z) : Kp lo x z := fun i h1 h2 => (k i h1 (Nat.lt_of_lt_of_le h2 hs)).trans (h i h1 h2)
theorem Kp.set {lo : Nat → Prop} {W : World} {c j : Nat} {v : Value} (hc : ¬ lo c) : Kp lo W (W.setCell ⟨c, j, none⟩ v) := fun k h1 _ => Below.heap_setCell W _ v k (fun e => hc (by have e' : k = c := e; rw [← e']; exact h1))
theorem Below.kp {W V : World} (h : Below W.heap.size W V) (lo : Nat → Prop) : Kp lo W V := fun k _ h2 => h.block k h2
/-- Expressions in a row lie in a block, from a place on; all blocks that they reach lie from lo on. -/
def FoAt (W : World) (lo : Nat → Prop) : Fo → Nat → Nat → Prop
  | .nil, _, _ => True
  | .cons op tx ty ks r, c, o => lo c ∧ W.cell? ⟨c, o, none⟩ = some (.int .i64 op) ∧ W.cell? ⟨c, o + 1, none⟩ = some (.string tx) ∧ W.cell? ⟨c, o + 2, none⟩ = some (.int .i64 ty) ∧
      (∃ p q, W.cell? ⟨c, o + 3, none⟩ = some (.slice p ks.len q) ∧ (ks = .nil ∨ ∃ d u, p = some ⟨d, u, none⟩ ∧ FoAt W lo ks d u)) ∧ FoAt W lo r c (o + 4)
/-- A slice of expressions. -/
def SlF (W : World) (lo : Nat → Prop) (v : Value) (f : Fo) : Prop := ∃ p q, v = .slice p f.len q ∧ (f = .nil ∨ ∃ d u, p = some ⟨d, u, none⟩ ∧ FoAt W lo f d u)
theorem FoAt.kp {lo : Nat → Prop} {W V : World} (h : Kp lo W V) : ∀ {f : Fo} {c o : Nat}, FoAt W lo f c o → FoAt V lo f c o
  | .nil, _, _, _ => trivial
  | .cons op tx ty ks r, c, o, k => by
    obtain ⟨k0, k1, k2, k3, ⟨p, q, k4, k5⟩, k6⟩ := k
    refine ⟨k0, h.cell k0 k1, h.cell k0 k2, h.cell k0 k3, ⟨p, q, h.cell k0 k4, ?_⟩, FoAt.kp h k6⟩
    rcases k5 with k5 | ⟨d, u, e, k5⟩
    · exact Or.inl k5
    · exact Or.inr ⟨d, u, e, FoAt.kp h k5⟩
theorem FoAt.lo {lo lo' : Nat → Prop} (h : ∀ k, lo k → lo' k) {W : World} : ∀ {f : Fo} {c o : Nat}, FoAt W lo f c o → FoAt W lo' f c o
  | .nil, _, _, _ => trivial
  | .cons op tx ty ks r, c, o, k => by
    obtain ⟨k0, k1, k2, k3, ⟨p, q, k4, k5⟩, k6⟩ := k
    refine ⟨h _ k0, k1, k2, k3, ⟨p, q, k4, ?_⟩, FoAt.lo h k6⟩
    rcases k5 with k5 | ⟨d, u, e, k5⟩
    · exact Or.inl k5
    · exact Or.inr ⟨d, u, e, FoAt.lo h k5⟩
theorem SlF.kp {lo : Nat → Prop} {W V : World} {v : Value} {f : Fo} (h : Kp lo W V) (k : SlF W lo v f) : SlF V lo v f := by
  obtain ⟨p, q, e, k⟩ := k
  refine ⟨p, q, e, ?_⟩
  rcases k with k | ⟨d, u, e', k⟩
  · exact Or.inl k
  · exact Or.inr ⟨d, u, e', k.kp h⟩
theorem SlF.lo {lo lo' : Nat → Prop} (h : ∀ k, lo k → lo' k) {W : World} {v : Value} {f : Fo} (k : SlF W lo v f) : SlF W lo' v f := by
  obtain ⟨p, q, e, k⟩ := k
  refine ⟨p, q, e, ?_⟩
  rcases k with k | ⟨d, u, e', k⟩
  · exact Or.inl k
  · exact Or.inr ⟨d, u, e', k.lo h⟩
theorem SlF.nil (W : World) (lo : Nat → Prop) : SlF W lo (.slice none 0 0) .nil := ⟨none, 0, rfl, Or.inl rfl⟩
/-- An expression as a value. -/
def ExAt (W : World) (lo : Nat → Prop) (v : Value) (e : Ex) : Prop := ∃ s, v = .agg #[.int .i64 e.op, .string e.tx, .int .i64 e.ty, s] ∧ SlF W lo s e.ks
theorem ExAt.kp {lo : Nat → Prop} {W V : World} {v : Value} {e : Ex} (h : Kp lo W V) (k : ExAt W lo v e) : ExAt V lo v e := by
  obtain ⟨s, e, k⟩ := k; exact ⟨s, e, k.kp h⟩
theorem ExAt.lo {lo lo' : Nat → Prop} (h : ∀ k, lo k → lo' k) {W : World} {v : Value} {e : Ex} (k : ExAt W lo v e) : ExAt W lo' v e := by
  obtain ⟨s, e, k⟩ := k; exact ⟨s, e, k.lo h⟩
/-- An expression in four cells. -/
def ExC (W : World) (lo : Nat → Prop) (c o : Nat) (e : Ex) : Prop := W.cell? ⟨c, o, none⟩ = some (.int .i64 e.op) ∧ W.cell? ⟨c, o + 1, none⟩ = some (.string e.tx) ∧ W.cell? ⟨c, o + 2, none⟩ = some (.int .i64 e.ty) ∧ ∃ s, W.cell? ⟨c, o + 3, none⟩ = some s ∧ SlF W lo s e.ks
theorem ExC.kp {lo : Nat → Prop} {c o : Nat} {W V : World} {e : Ex} (h : Kp lo W V) (hc : lo c) (k : ExC W lo c o e) : ExC V lo c o e := by
  obtain ⟨k1, k2, k3, s, k4, k5⟩ := k
  exact ⟨h.cell hc k1, h.cell hc k2, h.cell hc k3, s, h.cell hc k4, k5.kp h⟩
theorem ExC.lo {lo lo' : Nat → Prop} {c o : Nat} (h : ∀ k, lo k → lo' k) {W : World} {e : Ex} (k : ExC W lo c o e) : ExC W lo' c o e := by
  obtain ⟨k1, k2, k3, s, k4, k5⟩ := k
  exact ⟨k1, k2, k3, s, k4, k5.lo h⟩
/-- One row of expressions, an expression ahead. -/
theorem FoAt.row {W : World} {lo : Nat → Prop} {c o : Nat} {e : Ex} {f : Fo} (hc : lo c) (h : ExC W lo c o e) (k : FoAt W lo f c (o + 4)) : FoAt W lo (e.row f) c o := by
  obtain ⟨k1, k2, k3, s, k4, p, q, rfl, k5⟩ := h
  exact ⟨hc, k1, k2, k3, ⟨p, q, k4, k5⟩, k⟩
theorem FoAt.head {W : World} {lo : Nat → Prop} {c o : Nat} {op ty : Int} {tx : ByteArray} {ks r : Fo} (h : FoAt W lo (.cons op tx ty ks r) c o) : ExC W lo c o ⟨op, tx, ty, ks⟩ ∧ FoAt W lo r c (o + 4) ∧ lo c := by
  obtain ⟨k0, k1, k2, k3, ⟨p, q, k4, k5⟩, k6⟩ := h
  exact ⟨⟨k1, k2, k3, _, k4, p, q, rfl, k5⟩, k6, k0⟩
/-- Statements in a row lie in a block, from a place on. -/
def SoAt (W : World) (lo : Nat → Prop) : So → Nat → Nat → Prop
  | .nil, _, _ => True
  | .cons d nm ix v l h t e r, c, o => lo c ∧ W.cell? ⟨c, o, none⟩ = some (.int .i64 d) ∧ W.cell? ⟨c, o + 1, none⟩ = some (.string nm) ∧ (∃ s, W.cell? ⟨c, o + 2, none⟩ = some s ∧ SlF W lo s ix) ∧
      ExC W lo c (o + 3) v ∧ ExC W lo c (o + 7) l ∧ ExC W lo c (o + 11) h ∧
      (∃ p q, W.cell? ⟨c, o + 15, none⟩ = some (.slice p t.len q) ∧ (t = .nil ∨ ∃ d u, p = some ⟨d, u, none⟩ ∧ SoAt W lo t d u)) ∧
      (∃ p q, W.cell? ⟨c, o + 16, none⟩ = some (.slice p e.len q) ∧ (e = .nil ∨ ∃ d u, p = some ⟨d, u, none⟩ ∧ SoAt W lo e d u)) ∧ SoAt W lo r c (o + 17)
/-- A slice of statements. -/
def SlS (W : World) (lo : Nat → Prop) (v : Value) (f : So) : Prop := ∃ p q, v = .slice p f.len q ∧ (f = .nil ∨ ∃ d u, p = some ⟨d, u, none⟩ ∧ SoAt W lo f d u)
theorem SoAt.kp {lo : Nat → Prop} {W V : World} (h : Kp lo W V) : ∀ {f : So} {c o : Nat}, SoAt W lo f c o → SoAt V lo f c o
  | .nil, _, _, _ => trivial
  | .cons d nm ix v l hh t e r, c, o, k => by
    obtain ⟨k0, k1, k2, ⟨s, k3, k3'⟩, k4, k5, k6, ⟨p, q, k7, k8⟩, ⟨p', q', k9, k10⟩, k11⟩ := k
    refine ⟨k0, h.cell k0 k1, h.cell k0 k2, ⟨s, h.cell k0 k3, k3'.kp h⟩, k4.kp h k0, k5.kp h k0, k6.kp h k0, ⟨p, q, h.cell k0 k7, ?_⟩, ⟨p', q', h.cell k0 k9, ?_⟩, SoAt.kp h k11⟩
    · rcases k8 with k8 | ⟨d, u, e, k8⟩
      · exact Or.inl k8
      · exact Or.inr ⟨d, u, e, SoAt.kp h k8⟩
    · rcases k10 with k10 | ⟨d, u, e, k10⟩
      · exact Or.inl k10
      · exact Or.inr ⟨d, u, e, SoAt.kp h k10⟩
theorem SoAt.lo {lo lo' : Nat → Prop} (h : ∀ k, lo k → lo' k) {W : World} : ∀ {f : So} {c o : Nat}, SoAt W lo f c o → SoAt W lo' f c o
  | .nil, _, _, _ => trivial
  | .cons d nm ix v l hh t e r, c, o, k => by
    obtain ⟨k0, k1, k2, ⟨s, k3, k3'⟩, k4, k5, k6, ⟨p, q, k7, k8⟩, ⟨p', q', k9, k10⟩, k11⟩ := k
    refine ⟨h _ k0, k1, k2, ⟨s, k3, k3'.lo h⟩, k4.lo h, k5.lo h, k6.lo h, ⟨p, q, k7, ?_⟩, ⟨p', q', k9, ?_⟩, SoAt.lo h k11⟩
    · rcases k8 with k8 | ⟨d, u, e, k8⟩
      · exact Or.inl k8
      · exact Or.inr ⟨d, u, e, SoAt.lo h k8⟩
    · rcases k10 with k10 | ⟨d, u, e, k10⟩
      · exact Or.inl k10
      · exact Or.inr ⟨d, u, e, SoAt.lo h k10⟩
theorem SlS.kp {lo : Nat → Prop} {W V : World} {v : Value} {f : So} (h : Kp lo W V) (k : SlS W lo v f) : SlS V lo v f := by
  obtain ⟨p, q, e, k⟩ := k
  refine ⟨p, q, e, ?_⟩
  rcases k with k | ⟨d, u, e', k⟩
  · exact Or.inl k
  · exact Or.inr ⟨d, u, e', k.kp h⟩
theorem SlS.lo {lo lo' : Nat → Prop} (h : ∀ k, lo k → lo' k) {W : World} {v : Value} {f : So} (k : SlS W lo v f) : SlS W lo' v f := by
  obtain ⟨p, q, e, k⟩ := k
  refine ⟨p, q, e, ?_⟩
  rcases k with k | ⟨d, u, e', k⟩
  · exact Or.inl k
  · exact Or.inr ⟨d, u, e', k.lo h⟩
theorem SlS.nil (W : World) (lo : Nat → Prop) : SlS W lo (.slice none 0 0) .nil := ⟨none, 0, rfl, Or.inl rfl⟩
/-- A statement as a value. -/
def StAt (W : World) (lo : Nat → Prop) (v : Value) (s : St) : Prop := ∃ ix vs ls hs t e, v = .agg #[.int .i64 s.dO, .string s.name, ix, .int .i64 s.value.op, .string s.value.tx, .int .i64 s.value.ty, vs, .int .i64 s.low.op, .string s.low.tx, .int .i64 s.low.ty, ls, .int .i64 s.high.op, .string s.high.tx, .int .i64 s.high.ty, hs, t, e] ∧
  SlF W lo ix s.index ∧ SlF W lo vs s.value.ks ∧ SlF W lo ls s.low.ks ∧ SlF W lo hs s.high.ks ∧ SlS W lo t s.thn ∧ SlS W lo e s.els
theorem StAt.kp {lo : Nat → Prop} {W V : World} {v : Value} {s : St} (h : Kp lo W V) (k : StAt W lo v s) : StAt V lo v s := by
  obtain ⟨ix, vs, ls, hs, t, e, rfl, k1, k2, k3, k4, k5, k6⟩ := k
  exact ⟨ix, vs, ls, hs, t, e, rfl, k1.kp h, k2.kp h, k3.kp h, k4.kp h, k5.kp h, k6.kp h⟩
/-- Tokens lie in a block, from a place on. -/
def TkAt (W : World) (c : Nat) : List Tk → Nat → Prop
  | [], _ => True
  | t :: ts, o => W.cell? ⟨c, o, none⟩ = some (.int .i64 t.1) ∧ W.cell? ⟨c, o + 1, none⟩ = some (.string t.2.1) ∧ W.cell? ⟨c, o + 2, none⟩ = some (.int .i64 t.2.2) ∧ TkAt W c ts (o + 3)
theorem TkAt.on {W V : World} {c : Nat} (h : ∀ o v, W.cell? ⟨c, o, none⟩ = some v → V.cell? ⟨c, o, none⟩ = some v) : ∀ {ts : List Tk} {o : Nat}, TkAt W c ts o → TkAt V c ts o
  | [], _, _ => trivial
  | t :: ts, o, ⟨k1, k2, k3, k4⟩ => ⟨h _ _ k1, h _ _ k2, h _ _ k3, TkAt.on h k4⟩
/-- A parser in its block: its tokens (in another block), how deep ( ) are, and were. -/
structure PAt (W : World) (b B : Nat) (ts : List Tk) (o d : Int) : Prop where
  ne : B ≠ b
  tk : ∃ f q, W.cell? ⟨b, 0, none⟩ = some (.slice (some ⟨B, f, none⟩) ts.length q) ∧ ts.length ≤ q ∧ TkAt W B ts f
  op : W.cell? ⟨b, 1, none⟩ = some (.int .i64 o)
  dp : W.cell? ⟨b, 2, none⟩ = some (.int .i64 d)
  fz : ∀ k, W.frozen? ⟨b, k, none⟩ = false
theorem PAt.on {W V : World} {b B : Nat} {ts : List Tk} {o d : Int} (h : PAt W b B ts o d) (hb : V.heap[b]? = W.heap[b]?) (hB : V.heap[B]? = W.heap[B]?) : PAt V b B ts o d := by
  obtain ⟨ne, ⟨f, q, h1, h2, h3⟩, h4, h5, h6⟩ := h
  exact ⟨ne, ⟨f, q, (cell_of_heap hb).trans h1, h2, h3.on (fun o v k => (cell_of_heap hB).trans k)⟩, (cell_of_heap hb).trans h4, (cell_of_heap hb).trans h5, fun k => (frozen_of_heap hb).trans (h6 k)⟩
theorem PAt.lt {W : World} {b B : Nat} {ts : List Tk} {o d : Int} (h : PAt W b B ts o d) : b < W.heap.size := World.block_lt_of_cell? W _ h.op
theorem PAt.ltB {W : World} {b B : Nat} {ts : List Tk} {o d : Int} (h : PAt W b B ts o d) (hts : ts ≠ []) : B < W.heap.size := by
  obtain ⟨f, q, h1, h2, h3⟩ := h.tk
  cases ts with
  | nil => exact absurd rfl hts
  | cons t ts => exact World.block_lt_of_cell? W _ h3.1
end Go.Proofs.YtknoibocpbfmmaaGreatDoor
