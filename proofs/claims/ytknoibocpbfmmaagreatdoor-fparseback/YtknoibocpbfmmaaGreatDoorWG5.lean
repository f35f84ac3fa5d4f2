/- Texts of the proof, put together. -/
import Derived.Test.YtknoibocpbfmmaaGreatDoorWG1
import Derived.Test.YtknoibocpbfmmaaGreatDoorWG4
import Derived.Test.YtknoibocpbfmmaaGreatDoorWG2
import Derived.Below
import Derived.RowKit
import Derived.WalkKit
import Derived.WalkSpells
import Derived.StillTactics
import Derived.Laws.Pointers
import Derived.Deep.QuietTactic
import Derived.Deep.RegionHeld3
namespace Go.Proofs.YtknoibocpbfmmaaGreatDoor
set_option linter.unusedVariables false
/-- Is a text one number, from end to end? -/
def isNum (s : ByteArray) : Bool := match scanL s.toList with
 | .ok [(k, a, n)] => decide (s.extract a (a + n) = s) && (k == 3 || k == 4)
 | _ => false
/-- Has an expression what its kind has? -/
def exOk (op : Int) (tx : ByteArray) (ty : Int) (n : Nat) : Bool :=
 if op = 1 then isNum tx && (decide (ty = 0) && decide (n = 0))
 else if op = 2 then isN tx.toList && (decide (ty = 0) && decide (n = 0))
 else if op = 3 then isN tx.toList && (decide (ty = 0) && decide (n = 1))
 else if op = 7 then decide (tx = tx0) && (decide (1 ≤ ty ∧ ty ≤ 3) && decide (n = 1))
 else if op = 4 ∨ op = 20 ∨ op = 5 ∨ op = 6 then decide (tx = tx0) && (decide (ty = 0) && decide (n = 1))
 else decide (8 ≤ op ∧ op ≤ 19) && (decide (tx = tx0) && (decide (ty = 0) && decide (n = 2)))
/-- Expressions in a row, so deep: how many are counted then; none: they are not right. -/
def ruF (deep : Nat) : Fo → Nat → Option Nat
 | .nil, x => some x
 | .cons op tx ty ks r, x => if (decide (x + 1 ≤ 2048) && (decide (deep ≤ 24) && exOk op tx ty ks.len)) = true then (ruF (deep + 1) ks (x + 1)).bind fun x => ruF deep r x else none
def ruE (deep : Nat) (e : Ex) (x : Nat) : Option Nat := ruF deep (e.row .nil) x
theorem ruE_eq (deep : Nat) (e : Ex) (x : Nat) : ruE deep e x = if (decide (x + 1 ≤ 2048) && (decide (deep ≤ 24) && exOk e.op e.tx e.ty e.ks.len)) = true then ruF (deep + 1) e.ks (x + 1) else none := by
 unfold ruE Ex.row
 rw [ruF]
 split
 ·cases ruF (deep + 1) e.ks (x + 1) <;> rfl
 ·rfl
theorem ruF_cons (deep : Nat) (e : Ex) (r : Fo) (x : Nat) : ruF deep (e.row r) x = (ruE deep e x).bind fun x => ruF deep r x := by
 rw [ruE_eq, Ex.row, ruF]
 split <;> rfl
def isNone (e : Ex) : Bool := decide (e.op = 0) && (decide (e.tx = tx0) && (decide (e.ty = 0) && decide (e.ks.len = 0)))
/-- Is it a number, perhaps with a sign? -/
def isBd (e : Ex) : Bool := if e.op = 4 then match e.ks with | .cons op _ _ _ _ => decide (op = 1) | .nil => false else decide (e.op = 1)
def ruB (e : Ex) (x : Nat) : Option Nat := (ruE 1 e x).bind fun x => if isBd e = true then some x else none
/-- What must be empty in a statement. -/
def bare (nm : ByteArray) (ix : Nat) (v l h : Ex) (t e : Nat) : Bool := decide (nm = tx0) && (decide (ix = 0) && (isNone v && (isNone l && (isNone h && (decide (t = 0) && decide (e = 0))))))
/-- Statements in a row, in a block so deep: points and expressions. -/
def ruS (deep : Nat) : So → Nat × Nat → Option (Nat × Nat)
 | .nil, c => some c
 | .cons d nm ix v l h t e r, c =>
  if c.1 + 1 ≤ 256 then
   (if d = 1 then if (isN nm.toList && decide (ix.len ≤ 1)) = true then (ruF 1 ix c.2).bind fun x => (ruE 1 v x).bind fun x => if bare tx0 0 exN l h t.len e.len = true then some (c.1 + 1, x) else none else none
   else if d = 2 then if isN nm.toList = true then (ruB l c.2).bind fun x => (ruB h x).bind fun x => if bare tx0 ix.len v exN exN t.len e.len = true then some (c.1 + 1, x) else none else none
   else if d = 3 then (ruE 1 v c.2).bind fun x => if deep + 1 ≤ 24 then (ruS (deep + 1) t (c.1 + 1, x)).bind fun c => (ruS (deep + 1) e c).bind fun c => if bare nm ix.len exN l h 0 0 = true then some c else none else none
   else if d = 4 then (ruE 1 v c.2).bind fun x => if deep + 1 ≤ 24 then (ruS (deep + 1) t (c.1 + 1, x)).bind fun c => if bare nm ix.len exN l h 0 e.len = true then some c else none else none
   else none).bind fun c => ruS deep r c
  else none
/-- A block so deep. -/
def ruK (deep : Nat) (l : So) (c : Nat × Nat) : Option (Nat × Nat) := if deep ≤ 24 then ruS deep l c else none
/-- A statement, so deep, behind its point. -/
def ruT (deep : Nat) (s : St) (c : Nat × Nat) : Option (Nat × Nat) :=
 if s.dO = 1 then if (isN s.name.toList && decide (s.index.len ≤ 1)) = true then (ruF 1 s.index c.2).bind fun x => (ruE 1 s.value x).bind fun x => if bare tx0 0 exN s.low s.high s.thn.len s.els.len = true then some (c.1, x) else none else none
 else if s.dO = 2 then if isN s.name.toList = true then (ruB s.low c.2).bind fun x => (ruB s.high x).bind fun x => if bare tx0 s.index.len s.value exN exN s.thn.len s.els.len = true then some (c.1, x) else none else none
 else if s.dO = 3 then (ruE 1 s.value c.2).bind fun x => (ruK (deep + 1) s.thn (c.1, x)).bind fun c => (ruK (deep + 1) s.els c).bind fun c => if bare s.name s.index.len exN s.low s.high 0 0 = true then some c else none
 else if s.dO = 4 then (ruE 1 s.value c.2).bind fun x => (ruK (deep + 1) s.thn (c.1, x)).bind fun c => if bare s.name s.index.len exN s.low s.high 0 s.els.len = true then some c else none
 else none
theorem ruS_cons (deep : Nat) (s : St) (r : So) (c : Nat × Nat) : ruS deep (s.row r) c = if c.1 + 1 ≤ 256 then (ruT deep s (c.1 + 1, c.2)).bind fun c => ruS deep r c else none := by
 rw [St.row, ruS]
 unfold ruT ruK
 by_cases c0 : c.1 + 1 ≤ 256
 ·rw [if_pos c0, if_pos c0]
  congr 1
  by_cases c1 : s.dO = 1
  ·rw [if_pos c1, if_pos c1]
  ·rw [if_neg c1, if_neg c1]
   by_cases c2 : s.dO = 2
   ·rw [if_pos c2, if_pos c2]
   ·rw [if_neg c2, if_neg c2]
    by_cases c3 : s.dO = 3
    ·rw [if_pos c3, if_pos c3]
     congr 1
     funext x
     by_cases c5 : deep + 1 ≤ 24
     ·rw [if_pos c5, if_pos c5]
      congr 1
      funext y
      rw [if_pos c5]
     ·rw [if_neg c5, if_neg c5]; rfl
    ·rw [if_neg c3, if_neg c3]
     by_cases c4 : s.dO = 4
     ·rw [if_pos c4, if_pos c4]
      congr 1
      funext x
      by_cases c5 : deep + 1 ≤ 24
      ·rw [if_pos c5, if_pos c5]
      ·rw [if_neg c5, if_neg c5]; rfl
     ·rw [if_neg c4, if_neg c4]
 ·rw [if_neg c0, if_neg c0]
def dcOk (d : Dc) : Bool := isN d.1.toList && (decide (1 ≤ d.2.1 ∧ d.2.1 ≤ 3) && decide (0 ≤ d.2.2 ∧ d.2.2 ≤ 64))
/-- A program's points; none: it is not right. -/
def ruP (p : Pg) : Option (Nat × Nat) := if (decide (p.1.length ≤ 24) && p.1.all dcOk) = true then ruK 1 p.2 (0, 0) else none
/-- What a text's parse comes to: the program, or the error and its place. -/
def parT (ts : List Tk) (r : Rs Pg) : Except (Nat × Nat) Pg := match r with
 | .ok p _ d => if decide (d ≤ 24) && (ruP p).isSome then .ok p else .error (5, 0)
 | .bad a => .error (4, a)
 | .more => .error (0, 0)
/-- The tokens of a text, as a parser has them. -/
def tks (s : ByteArray) (l : List (Nat × Nat × Nat)) : List Tk := l.map (fun x => (x.1, s.extract x.2.1 (x.2.1 + x.2.2), x.2.1)) ++ [(0, tx0, s.size)]
/-- fparse.Parse, of a text. -/
def prsL (s : ByteArray) : Except (Nat × Nat) Pg := match scanL s.toList with
 | .error e => .error e
 | .ok l => parT (tks s l) (pgP 16500 (tks s l))
end Go.Proofs.YtknoibocpbfmmaaGreatDoor


namespace Go.Proofs.YtknoibocpbfmmaaGreatDoor
set_option linter.unusedVariables false
/-- Tokens are of some kind, and rise. -/
theorem scanAt_kinds : ∀ (t : List (Nat × Nat × Nat)) (l : List UInt8) (a n : Nat), scanAt l a n = .ok t → ∀ x ∈ t, x.1 ≠ 0 ∧ a ≤ x.2.1 ∧ x.2.1 + x.2.2 ≤ a + l.length
 | t, l, a, n, h => by
  by_cases h0 : l.length = 0
  ·rw [scanAt_end l a n h0] at h
   have := Except.ok.inj h
   subst this
   intro x hx; cases hx
  by_cases hk : (tok l).1 = 0
  ·rw [scanAt_bad l a n h0 hk] at h; cases h
  by_cases hn : n = 2048
  ·subst hn; rw [scanAt_full l a h0 hk] at h; cases h
  rw [scanAt, if_neg h0, dif_neg hk, if_neg hn] at h
  obtain ⟨c, hc⟩ : ∃ c, cnt 1 (l.drop (tok l).2) = c := ⟨_, rfl⟩
  rw [hc] at h
  cases hr : scanAt ((l.drop (tok l).2).drop c) (a + (tok l).2 + c) (n + 1) with
  | error e => rw [hr] at h; cases h
  | ok r =>
   rw [hr] at h
   have h2 := Except.ok.inj h
   subst h2
   have hl := tok_le l
   have hcl := cnt_le 1 (l.drop (tok l).2)
   rw [hc, List.length_drop] at hcl
   intro x hx
   rcases List.mem_cons.1 hx with rfl | hx
   ·exact ⟨hk, Nat.le_refl _, by simp only; omega⟩
   ·obtain ⟨j1, j2, j3⟩ := scanAt_kinds r _ _ _ hr x hx
    simp only [List.length_drop] at j3
    exact ⟨j1, by omega, by omega⟩
theorem scanL_kinds {l : List UInt8} {t : List (Nat × Nat × Nat)} (h : scanL l = .ok t) : ∀ x ∈ t, x.1 ≠ 0 ∧ x.2.1 + x.2.2 ≤ l.length := by
 unfold scanL at h
 split at h
 ·cases h
 ·intro x hx
  obtain ⟨j1, j2, j3⟩ := scanAt_kinds t _ _ _ h x hx
  have := cnt_le 1 l
  rw [List.length_drop] at j3
  exact ⟨j1, by omega⟩
end Go.Proofs.YtknoibocpbfmmaaGreatDoor



namespace Go.Proofs.YtknoibocpbfmmaaGreatDoor
open Go.RowKit
set_option linter.unusedVariables false
set_option linter.unusedSimpArgs false
theorem scanAt_len : ∀ (t : List (Nat × Nat × Nat)) (l : List UInt8) (a n : Nat), n ≤ 2048 → scanAt l a n = .ok t → n + t.length ≤ 2048
 | t, l, a, n, hn0, h => by
  by_cases h0 : l.length = 0
  ·rw [scanAt_end l a n h0] at h
   have := Except.ok.inj h
   subst this
   exact hn0
  by_cases hk : (tok l).1 = 0
  ·rw [scanAt_bad l a n h0 hk] at h; cases h
  by_cases hn : n = 2048
  ·subst hn; rw [scanAt_full l a h0 hk] at h; cases h
  rw [scanAt, if_neg h0, dif_neg hk, if_neg hn] at h
  have hp := tok_pos hk
  have hlt : ((l.drop (tok l).2).drop (cnt 1 (l.drop (tok l).2))).length < l.length := by rw [List.length_drop, List.length_drop]; omega
  cases hr : scanAt ((l.drop (tok l).2).drop (cnt 1 (l.drop (tok l).2))) (a + (tok l).2 + cnt 1 (l.drop (tok l).2)) (n + 1) with
  | error e => rw [hr] at h; cases h
  | ok r =>
   rw [hr] at h
   have h2 := Except.ok.inj h
   subst h2
   have := scanAt_len r _ _ (n + 1) (by omega) hr
   simp
   omega
 termination_by t l => l.length
theorem scanL_len {l : List UInt8} {t : List (Nat × Nat × Nat)} (h : scanL l = .ok t) : t.length ≤ 2048 := by
 unfold scanL at h
 split at h
 ·cases h
 ·have := scanAt_len t _ _ 0 (by omega) h
  omega
end Go.Proofs.YtknoibocpbfmmaaGreatDoor



namespace Go.Proofs.YtknoibocpbfmmaaGreatDoor
open Go.RowKit
set_option linter.unusedVariables false
set_option linter.unusedSimpArgs false
/-- All blocks that lay, but one, lie as they lay. -/
structure Onl (b : Nat) (w w' : World) : Prop where
 os : w'.os = w.os
 tape : w'.tape = w.tape
 output : w'.output = w.output
 size : w.heap.size ≤ w'.heap.size
 block : ∀ k, k < w.heap.size → k ≠ b → w'.heap[k]? = w.heap[k]?
theorem Onl.refl (b : Nat) (w : World) : Onl b w w := ⟨rfl, rfl, rfl, Nat.le_refl _, fun _ _ _ => rfl⟩
theorem Onl.trans {b : Nat} {x y z : World} (h : Onl b x y) (k : Onl b y z) : Onl b x z :=
 ⟨k.os.trans h.os, k.tape.trans h.tape, k.output.trans h.output, Nat.le_trans h.size k.size, fun i hi hb => (k.block i (Nat.lt_of_lt_of_le hi h.size) hb).trans (h.block i hi hb)⟩
theorem Onl.drew {b : Nat} {x y : World} (h : Onl b x y) : Onl b x y.drew := ⟨h.os, h.tape, h.output, h.size, h.block⟩
theorem Onl.set {b j : Nat} {x y : World} (h : Onl b x y) (v : Value) : Onl b x (y.setCell ⟨b, j, none⟩ v) :=
 ⟨h.os, h.tape, h.output, by simpa [World.setCell] using h.size, fun k hk hb => (Below.heap_setCell y _ v k hb).trans (h.block k hk hb)⟩
theorem Onl.below {b : Nat} {x y z : World} (h : Onl b x y) (k : Below y.heap.size y z) : Onl b x z :=
 ⟨k.os.trans h.os, k.tape.trans h.tape, k.output.trans h.output, Nat.le_trans h.size k.size, fun i hi hb => (k.block i (Nat.lt_of_lt_of_le hi h.size)).trans (h.block i hi hb)⟩
theorem Onl.toBelow {b n : Nat} {x y : World} (h : Onl b x y) (hb : n ≤ b) (hn : n ≤ x.heap.size) : Below n x y :=
 ⟨h.os, h.tape, h.output, h.size, fun k hk => h.block k (Nat.lt_of_lt_of_le hk hn) (by omega)⟩
theorem cell_of_heap {W V : World} {c o : Nat} (h : V.heap[c]? = W.heap[c]?) : V.cell? ⟨c, o, none⟩ = W.cell? ⟨c, o, none⟩ := by
 unfold World.cell?; rw [h]
theorem frozen_of_heap {W V : World} {c o : Nat} (h : V.heap[c]? = W.heap[c]?) : V.frozen? ⟨c, o, none⟩ = W.frozen? ⟨c, o, none⟩ := by
 unfold World.frozen?; rw [h]
theorem Onl.cell {b : Nat} {w w' : World} (h : Onl b w w') {c o : Nat} {v : Value} (hc : c ≠ b) (q : w.cell? ⟨c, o, none⟩ = some v) : w'.cell? ⟨c, o, none⟩ = some v :=
 (cell_of_heap (h.block c (World.block_lt_of_cell? w _ q) hc)).trans q
/-- All blocks of a set lie as they lay. -/
def Kp (lo : Nat → Prop) (W V : World) : Prop := ∀ k, lo k → k < W.heap.size → V.heap[k]? = W.heap[k]?
theorem Kp.cell {lo : Nat → Prop} {W V : World} (h : Kp lo W V) {c o : Nat} {v : Value} (hc : lo c) (q : W.cell? ⟨c, o, none⟩ = some v) : V.cell? ⟨c, o, none⟩ = some v :=
 (cell_of_heap (h c hc (World.block_lt_of_cell? W _ q))).trans q
theorem Onl.kp {b : Nat} {lo : Nat → Prop} {W V : World} (h : Onl b W V) (hb : ¬ lo b) : Kp lo W V := fun k h1 h2 => h.block k h2 (fun e => hb (e ▸ h1))
theorem Kp.trans {lo : Nat → Prop} {x y z : World} (h : Kp lo x y) (hs : x.heap.size ≤ y.heap.size) (k : Kp lo y z) : Kp lo x z := fun i h1 h2 => (k i h1 (Nat.lt_of_lt_of_le h2 hs)).trans (h i h1 h2)
theorem Kp.set {lo : Nat → Prop} {W : World} {c j : Nat} {v : Value} (hc : ¬ lo c) : Kp lo W (W.setCell ⟨c, j, none⟩ v) := fun k h1 _ => Below.heap_setCell W _ v k (fun e => hc (by have e' : k = c := e; rw [← e']; exact h1))
theorem Below.kp {W V : World} (h : Below W.heap.size W V) (lo : Nat → Prop) : Kp lo W V := fun k _ h2 => h.block k h2
/-- Expressions in a row lie in a block, from a place on; all blocks that they reach lie from lo on. -/
def FoAt (W : World) (lo : Nat → Prop) : Fo → Nat → Nat → Prop
 | .nil, _, _ => True
 | .cons op tx ty ks r, c, o => lo c ∧ W.cell? ⟨c, o, none⟩ = some (.int .i64 op) ∧ W.cell? ⟨c, o + 1, none⟩ = some (.string tx) ∧ W.cell? ⟨c, o + 2, none⟩ = some (.int .i64 ty) ∧
  (∃ p q, W.cell? ⟨c, o + 3, none⟩ = some (.slice p ks.len q) ∧ (ks = .nil ∨ ∃ d u, p = some ⟨d, u, none⟩ ∧ FoAt W lo ks d u)) ∧ FoAt W lo r c (o + 4)
/-- A slice of expressions. -/
def SlF (W : World) (lo : Nat → Prop) (v : Value) (f : Fo) : Prop := ∃ p q, v = .slice p f.len q ∧ (f = .nil ∨ ∃ d u, p = some ⟨d, u, none⟩ ∧ FoAt W lo f d u)
theorem FoAt.kp {lo : Nat → Prop} {W V : World} (h : Kp lo W V) : ∀ {f : Fo} {c o : Nat}, FoAt W lo f c o → FoAt V lo f c o
 | .nil, _, _, _ => trivial
 | .cons op tx ty ks r, c, o, k => by
  obtain ⟨k0, k1, k2, k3, ⟨p, q, k4, k5⟩, k6⟩ := k
  refine ⟨k0, h.cell k0 k1, h.cell k0 k2, h.cell k0 k3, ⟨p, q, h.cell k0 k4, ?_⟩, FoAt.kp h k6⟩
  rcases k5 with k5 | ⟨d, u, e, k5⟩
  ·exact Or.inl k5
  ·exact Or.inr ⟨d, u, e, FoAt.kp h k5⟩
theorem FoAt.lo {lo lo' : Nat → Prop} (h : ∀ k, lo k → lo' k) {W : World} : ∀ {f : Fo} {c o : Nat}, FoAt W lo f c o → FoAt W lo' f c o
 | .nil, _, _, _ => trivial
 | .cons op tx ty ks r, c, o, k => by
  obtain ⟨k0, k1, k2, k3, ⟨p, q, k4, k5⟩, k6⟩ := k
  refine ⟨h _ k0, k1, k2, k3, ⟨p, q, k4, ?_⟩, FoAt.lo h k6⟩
  rcases k5 with k5 | ⟨d, u, e, k5⟩
  ·exact Or.inl k5
  ·exact Or.inr ⟨d, u, e, FoAt.lo h k5⟩
theorem SlF.kp {lo : Nat → Prop} {W V : World} {v : Value} {f : Fo} (h : Kp lo W V) (k : SlF W lo v f) : SlF V lo v f := by
 obtain ⟨p, q, e, k⟩ := k
 refine ⟨p, q, e, ?_⟩
 rcases k with k | ⟨d, u, e', k⟩
 ·exact Or.inl k
 ·exact Or.inr ⟨d, u, e', k.kp h⟩
theorem SlF.lo {lo lo' : Nat → Prop} (h : ∀ k, lo k → lo' k) {W : World} {v : Value} {f : Fo} (k : SlF W lo v f) : SlF W lo' v f := by
 obtain ⟨p, q, e, k⟩ := k
 refine ⟨p, q, e, ?_⟩
 rcases k with k | ⟨d, u, e', k⟩
 ·exact Or.inl k
 ·exact Or.inr ⟨d, u, e', k.lo h⟩
theorem SlF.nil (W : World) (lo : Nat → Prop) : SlF W lo (.slice none 0 0) .nil := ⟨none, 0, rfl, Or.inl rfl⟩
/-- An expression as a value. -/
def ExAt (W : World) (lo : Nat → Prop) (v : Value) (e : Ex) : Prop := ∃ s, v = .agg #[.int .i64 e.op, .string e.tx, .int .i64 e.ty, s] ∧ SlF W lo s e.ks
theorem ExAt.kp {lo : Nat → Prop} {W V : World} {v : Value} {e : Ex} (h : Kp lo W V) (k : ExAt W lo v e) : ExAt V lo v e := by
 obtain ⟨s, e, k⟩ := k; exact ⟨s, e, k.kp h⟩
theorem ExAt.lo {lo lo' : Nat → Prop} (h : ∀ k, lo k → lo' k) {W : World} {v : Value} {e : Ex} (k : ExAt W lo v e) : ExAt W lo' v e := by
 obtain ⟨s, e, k⟩ := k; exact ⟨s, e, k.lo h⟩
/-- An expression in four cells. -/
def ExC (W : World) (lo : Nat → Prop) (c o : Nat) (e : Ex) : Prop := W.cell? ⟨c, o, none⟩ = some (.int .i64 e.op) ∧ W.cell? ⟨c, o + 1, none⟩ = some (.string e.tx) ∧ W.cell? ⟨c, o + 2, none⟩ = some (.int .i64 e.ty) ∧ ∃ s, W.cell? ⟨c, o + 3, none⟩ = some s ∧ SlF W lo s e.ks
theorem ExC.kp {lo : Nat → Prop} {c o : Nat} {W V : World} {e : Ex} (h : Kp lo W V) (hc : lo c) (k : ExC W lo c o e) : ExC V lo c o e := by
 obtain ⟨k1, k2, k3, s, k4, k5⟩ := k
 exact ⟨h.cell hc k1, h.cell hc k2, h.cell hc k3, s, h.cell hc k4, k5.kp h⟩
theorem ExC.lo {lo lo' : Nat → Prop} {c o : Nat} (h : ∀ k, lo k → lo' k) {W : World} {e : Ex} (k : ExC W lo c o e) : ExC W lo' c o e := by
 obtain ⟨k1, k2, k3, s, k4, k5⟩ := k
 exact ⟨k1, k2, k3, s, k4, k5.lo h⟩
/-- One row of expressions, an expression ahead. -/
theorem FoAt.row {W : World} {lo : Nat → Prop} {c o : Nat} {e : Ex} {f : Fo} (hc : lo c) (h : ExC W lo c o e) (k : FoAt W lo f c (o + 4)) : FoAt W lo (e.row f) c o := by
 obtain ⟨k1, k2, k3, s, k4, p, q, rfl, k5⟩ := h
 exact ⟨hc, k1, k2, k3, ⟨p, q, k4, k5⟩, k⟩
theorem FoAt.head {W : World} {lo : Nat → Prop} {c o : Nat} {op ty : Int} {tx : ByteArray} {ks r : Fo} (h : FoAt W lo (.cons op tx ty ks r) c o) : ExC W lo c o ⟨op, tx, ty, ks⟩ ∧ FoAt W lo r c (o + 4) ∧ lo c := by
 obtain ⟨k0, k1, k2, k3, ⟨p, q, k4, k5⟩, k6⟩ := h
 exact ⟨⟨k1, k2, k3, _, k4, p, q, rfl, k5⟩, k6, k0⟩
/-- Statements in a row lie in a block, from a place on. -/
def SoAt (W : World) (lo : Nat → Prop) : So → Nat → Nat → Prop
 | .nil, _, _ => True
 | .cons d nm ix v l h t e r, c, o => lo c ∧ W.cell? ⟨c, o, none⟩ = some (.int .i64 d) ∧ W.cell? ⟨c, o + 1, none⟩ = some (.string nm) ∧ (∃ s, W.cell? ⟨c, o + 2, none⟩ = some s ∧ SlF W lo s ix) ∧
  ExC W lo c (o + 3) v ∧ ExC W lo c (o + 7) l ∧ ExC W lo c (o + 11) h ∧
  (∃ p q, W.cell? ⟨c, o + 15, none⟩ = some (.slice p t.len q) ∧ (t = .nil ∨ ∃ d u, p = some ⟨d, u, none⟩ ∧ SoAt W lo t d u)) ∧
  (∃ p q, W.cell? ⟨c, o + 16, none⟩ = some (.slice p e.len q) ∧ (e = .nil ∨ ∃ d u, p = some ⟨d, u, none⟩ ∧ SoAt W lo e d u)) ∧ SoAt W lo r c (o + 17)
/-- A slice of statements. -/
def SlS (W : World) (lo : Nat → Prop) (v : Value) (f : So) : Prop := ∃ p q, v = .slice p f.len q ∧ (f = .nil ∨ ∃ d u, p = some ⟨d, u, none⟩ ∧ SoAt W lo f d u)
theorem SoAt.kp {lo : Nat → Prop} {W V : World} (h : Kp lo W V) : ∀ {f : So} {c o : Nat}, SoAt W lo f c o → SoAt V lo f c o
 | .nil, _, _, _ => trivial
 | .cons d nm ix v l hh t e r, c, o, k => by
  obtain ⟨k0, k1, k2, ⟨s, k3, k3'⟩, k4, k5, k6, ⟨p, q, k7, k8⟩, ⟨p', q', k9, k10⟩, k11⟩ := k
  refine ⟨k0, h.cell k0 k1, h.cell k0 k2, ⟨s, h.cell k0 k3, k3'.kp h⟩, k4.kp h k0, k5.kp h k0, k6.kp h k0, ⟨p, q, h.cell k0 k7, ?_⟩, ⟨p', q', h.cell k0 k9, ?_⟩, SoAt.kp h k11⟩
  ·rcases k8 with k8 | ⟨d, u, e, k8⟩
   ·exact Or.inl k8
   ·exact Or.inr ⟨d, u, e, SoAt.kp h k8⟩
  ·rcases k10 with k10 | ⟨d, u, e, k10⟩
   ·exact Or.inl k10
   ·exact Or.inr ⟨d, u, e, SoAt.kp h k10⟩
theorem SoAt.lo {lo lo' : Nat → Prop} (h : ∀ k, lo k → lo' k) {W : World} : ∀ {f : So} {c o : Nat}, SoAt W lo f c o → SoAt W lo' f c o
 | .nil, _, _, _ => trivial
 | .cons d nm ix v l hh t e r, c, o, k => by
  obtain ⟨k0, k1, k2, ⟨s, k3, k3'⟩, k4, k5, k6, ⟨p, q, k7, k8⟩, ⟨p', q', k9, k10⟩, k11⟩ := k
  refine ⟨h _ k0, k1, k2, ⟨s, k3, k3'.lo h⟩, k4.lo h, k5.lo h, k6.lo h, ⟨p, q, k7, ?_⟩, ⟨p', q', k9, ?_⟩, SoAt.lo h k11⟩
  ·rcases k8 with k8 | ⟨d, u, e, k8⟩
   ·exact Or.inl k8
   ·exact Or.inr ⟨d, u, e, SoAt.lo h k8⟩
  ·rcases k10 with k10 | ⟨d, u, e, k10⟩
   ·exact Or.inl k10
   ·exact Or.inr ⟨d, u, e, SoAt.lo h k10⟩
theorem SlS.kp {lo : Nat → Prop} {W V : World} {v : Value} {f : So} (h : Kp lo W V) (k : SlS W lo v f) : SlS V lo v f := by
 obtain ⟨p, q, e, k⟩ := k
 refine ⟨p, q, e, ?_⟩
 rcases k with k | ⟨d, u, e', k⟩
 ·exact Or.inl k
 ·exact Or.inr ⟨d, u, e', k.kp h⟩
theorem SlS.lo {lo lo' : Nat → Prop} (h : ∀ k, lo k → lo' k) {W : World} {v : Value} {f : So} (k : SlS W lo v f) : SlS W lo' v f := by
 obtain ⟨p, q, e, k⟩ := k
 refine ⟨p, q, e, ?_⟩
 rcases k with k | ⟨d, u, e', k⟩
 ·exact Or.inl k
 ·exact Or.inr ⟨d, u, e', k.lo h⟩
theorem SlS.nil (W : World) (lo : Nat → Prop) : SlS W lo (.slice none 0 0) .nil := ⟨none, 0, rfl, Or.inl rfl⟩
/-- A statement as a value. -/
def StAt (W : World) (lo : Nat → Prop) (v : Value) (s : St) : Prop := ∃ ix vs ls hs t e, v = .agg #[.int .i64 s.dO, .string s.name, ix, .int .i64 s.value.op, .string s.value.tx, .int .i64 s.value.ty, vs, .int .i64 s.low.op, .string s.low.tx, .int .i64 s.low.ty, ls, .int .i64 s.high.op, .string s.high.tx, .int .i64 s.high.ty, hs, t, e] ∧
 SlF W lo ix s.index ∧ SlF W lo vs s.value.ks ∧ SlF W lo ls s.low.ks ∧ SlF W lo hs s.high.ks ∧ SlS W lo t s.thn ∧ SlS W lo e s.els
theorem StAt.kp {lo : Nat → Prop} {W V : World} {v : Value} {s : St} (h : Kp lo W V) (k : StAt W lo v s) : StAt V lo v s := by
 obtain ⟨ix, vs, ls, hs, t, e, rfl, k1, k2, k3, k4, k5, k6⟩ := k
 exact ⟨ix, vs, ls, hs, t, e, rfl, k1.kp h, k2.kp h, k3.kp h, k4.kp h, k5.kp h, k6.kp h⟩
/-- Tokens lie in a block, from a place on. -/
def TkAt (W : World) (c : Nat) : List Tk → Nat → Prop
 | [], _ => True
 | t :: ts, o => W.cell? ⟨c, o, none⟩ = some (.int .i64 t.1) ∧ W.cell? ⟨c, o + 1, none⟩ = some (.string t.2.1) ∧ W.cell? ⟨c, o + 2, none⟩ = some (.int .i64 t.2.2) ∧ TkAt W c ts (o + 3)
theorem TkAt.on {W V : World} {c : Nat} (h : ∀ o v, W.cell? ⟨c, o, none⟩ = some v → V.cell? ⟨c, o, none⟩ = some v) : ∀ {ts : List Tk} {o : Nat}, TkAt W c ts o → TkAt V c ts o
 | [], _, _ => trivial
 | t :: ts, o, ⟨k1, k2, k3, k4⟩ => ⟨h _ _ k1, h _ _ k2, h _ _ k3, TkAt.on h k4⟩
/-- A parser in its block: its tokens (in another block), how deep ( ) are, and were. -/
structure PAt (W : World) (b B : Nat) (ts : List Tk) (o d : Int) : Prop where
 ne : B ≠ b
 tk : ∃ f q, W.cell? ⟨b, 0, none⟩ = some (.slice (some ⟨B, f, none⟩) ts.length q) ∧ ts.length ≤ q ∧ TkAt W B ts f
 op : W.cell? ⟨b, 1, none⟩ = some (.int .i64 o)
 dp : W.cell? ⟨b, 2, none⟩ = some (.int .i64 d)
 fz : ∀ k, W.frozen? ⟨b, k, none⟩ = false
theorem PAt.on {W V : World} {b B : Nat} {ts : List Tk} {o d : Int} (h : PAt W b B ts o d) (hb : V.heap[b]? = W.heap[b]?) (hB : V.heap[B]? = W.heap[B]?) : PAt V b B ts o d := by
 obtain ⟨ne, ⟨f, q, h1, h2, h3⟩, h4, h5, h6⟩ := h
 exact ⟨ne, ⟨f, q, (cell_of_heap hb).trans h1, h2, h3.on (fun o v k => (cell_of_heap hB).trans k)⟩, (cell_of_heap hb).trans h4, (cell_of_heap hb).trans h5, fun k => (frozen_of_heap hb).trans (h6 k)⟩
theorem PAt.lt {W : World} {b B : Nat} {ts : List Tk} {o d : Int} (h : PAt W b B ts o d) : b < W.heap.size := World.block_lt_of_cell? W _ h.op
theorem PAt.ltB {W : World} {b B : Nat} {ts : List Tk} {o d : Int} (h : PAt W b B ts o d) (hts : ts ≠ []) : B < W.heap.size := by
 obtain ⟨f, q, h1, h2, h3⟩ := h.tk
 cases ts with
 | nil => exact absurd rfl hts
 | cons t ts => exact World.block_lt_of_cell? W _ h3.1
end Go.Proofs.YtknoibocpbfmmaaGreatDoor


