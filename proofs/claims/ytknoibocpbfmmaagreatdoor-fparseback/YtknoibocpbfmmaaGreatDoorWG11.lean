/- Texts of the proof, put together. -/
import Derived.Test.YtknoibocpbfmmaaGreatDoorWG10
import Derived.Maps.AppendAt
import Derived.Test.YtknoibocpbfmmaaGreatDoorWG7
namespace Go.Proofs.YtknoibocpbfmmaaGreatDoor
open Go.RowKit
set_option linter.unusedVariables false
set_option linter.unusedSimpArgs false
theorem po_same {w w1 : World} {base n size : Nat} {e : TypeId} {v : Value} {xs : List Value} (h : w.ownsRow base e size v n xs) (hk : ∀ k, v.ownBlock = some k → w1.heap[k]? = w.heap[k]?) : w1.ownsRow base e size v n xs := by
 obtain ⟨h1, h2⟩ := h
 refine ⟨h1, h2.imp id ?_⟩
 rintro ⟨g, cap, cur, rfl, e2, e3, e4⟩
 exact ⟨g, cap, cur, rfl, e2, (hk g rfl).trans e3, e4⟩
theorem po_on {w w1 : World} {base n size : Nat} {e : TypeId} {v : Value} {xs : List Value} (hb : Below w.heap.size w w1) (h : w.ownsRow base e size v n xs) : w1.ownsRow base e size v n xs := po_same h (fun k hk => hb.block k (h.lt k hk).2)
theorem po_onl {b : Nat} {w w1 : World} {base n size : Nat} {e : TypeId} {v : Value} {xs : List Value} (hb : Onl b w w1) (hl : b < base) (h : w.ownsRow base e size v n xs) : w1.ownsRow base e size v n xs := po_same h (fun k hk => hb.block k (h.lt k hk).2 (by have := (h.lt k hk).1; omega))
theorem po_shape {w : World} {base n size : Nat} {e : TypeId} {v : Value} {xs : List Value} (h : w.ownsRow base e size v n xs) : ∃ (o : Option Addr) (cap : Nat), v = .slice o n cap := by
 rcases h.2 with ⟨rfl, rfl⟩ | ⟨g, cap, cur, rfl, _⟩
 ·exact ⟨none, 0, rfl⟩
 ·exact ⟨_, _, rfl⟩
theorem Onl.grown {b : Nat} {w V V' : World} {row : Option Nat} (h : Onl b w V) (g : V.grownBy V' row) (hr : ∀ k, row = some k → w.heap.size ≤ k) : Onl b w V' :=
 ⟨g.os.trans h.os, g.tape.trans h.tape, g.output.trans h.output, Nat.le_trans h.size g.size, fun k hk hb => (g.block k (by have := h.size; omega) (fun e => by have := hr k e.symm; omega)).trans (h.block k hk hb)⟩
theorem StV.lt {S : Nat → Prop} {W : World} {v : Value} {s : St} (k : StV W S v s) : StV W (fun k => S k ∧ k < W.heap.size) v s := by
 obtain ⟨p0, q0, p1, q1, p2, q2, p3, q3, p4, q4, p5, q5, e, k0, k1, k2, k3, k4, k5⟩ := k
 exact ⟨p0, q0, p1, q1, p2, q2, p3, q3, p4, q4, p5, q5, e, k0.lt, k1.lt, k2.lt, k3.lt, k4.lt, k5.lt⟩
/-- Statements as the cells of a row. -/
def CsAt (V : World) (S : Nat → Prop) : List St → List Value → Prop
 | [], xs => xs = []
 | s :: ls, xs => ∃ CS ys, xs = CS ++ ys ∧ CS.length = 17 ∧ StV V S (.agg CS.toArray) s ∧ CsAt V S ls ys
theorem CsAt.kp {S : Nat → Prop} {W V : World} (h : Kp S W V) : ∀ {ls : List St} {xs : List Value}, CsAt W S ls xs → CsAt V S ls xs
 | [], _, k => k
 | _ :: _, _, ⟨CS, ys, e, l, k1, k2⟩ => ⟨CS, ys, e, l, k1.kp h, CsAt.kp h k2⟩
theorem CsAt.lo {S S' : Nat → Prop} {W : World} (h : ∀ k, S k → S' k) : ∀ {ls : List St} {xs : List Value}, CsAt W S ls xs → CsAt W S' ls xs
 | [], _, k => k
 | _ :: _, _, ⟨CS, ys, e, l, k1, k2⟩ => ⟨CS, ys, e, l, k1.lo h, CsAt.lo h k2⟩
theorem CsAt.lt {S : Nat → Prop} {W : World} : ∀ {ls : List St} {xs : List Value}, CsAt W S ls xs → CsAt W (fun k => S k ∧ k < W.heap.size) ls xs
 | [], _, k => k
 | _ :: _, _, ⟨CS, ys, e, l, k1, k2⟩ => ⟨CS, ys, e, l, k1.lt, CsAt.lt k2⟩
theorem CsAt.snoc {S : Nat → Prop} {W : World} {s : St} {CS : List Value} (l : CS.length = 17) (k : StV W S (.agg CS.toArray) s) : ∀ {ls : List St} {xs : List Value}, CsAt W S ls xs → CsAt W S (ls ++ [s]) (xs ++ CS)
 | [], xs, h => by
  have h' : xs = [] := h
  subst h'
  exact ⟨CS, [], by simp, l, k, rfl⟩
 | _ :: _, _, ⟨C0, ys, e, l0, k1, k2⟩ => ⟨C0, ys ++ CS, by rw [e, List.append_assoc], l0, k1, CsAt.snoc l k k2⟩
/-- Statements ahead of others. -/
def appS : List St → So → So
 | [], l => l
 | s :: ls, l => s.row (appS ls l)
theorem appS_snoc (s : St) (l : So) : ∀ ls : List St, appS (ls ++ [s]) l = appS ls (s.row l)
 | [] => rfl
 | a :: ls => congrArg a.row (appS_snoc s l ls)
theorem appS_len : ∀ ls : List St, (appS ls .nil).len = ls.length
 | [] => rfl
 | a :: ls => congrArg (· + 1) (appS_len ls)
theorem CsAt.so {S : Nat → Prop} {V : World} {g : Nat} (hg : S g) : ∀ {ls : List St} {xs : List Value} (o : Nat), (∀ j u, xs[j]? = some u → V.cell? ⟨g, o + j, none⟩ = some u) → CsAt V S ls xs → SoAt V S (appS ls .nil) g o
 | [], _, _, _, _ => trivial
 | s :: ls, xs, o, hc, ⟨CS, ys, e, l, ⟨p0, q0, p1, q1, p2, q2, p3, q3, p4, q4, p5, q5, e2, k0, k1, k2, k3, k4, k5⟩, k⟩ => by
  have e3 : CS = [.int .i64 s.dO, .string s.name, .slice p0 s.index.len q0, .int .i64 s.value.op, .string s.value.tx, .int .i64 s.value.ty, .slice p1 s.value.ks.len q1, .int .i64 s.low.op, .string s.low.tx, .int .i64 s.low.ty, .slice p2 s.low.ks.len q2, .int .i64 s.high.op, .string s.high.tx, .int .i64 s.high.ty, .slice p3 s.high.ks.len q3, .slice p4 s.thn.len q4, .slice p5 s.els.len q5] := by
   have : CS.toArray = _ := Value.agg.inj e2
   have h := congrArg Array.toList this
   simpa using h
  subst e3
  subst e
  have hc' : ∀ j u, ys[j]? = some u → V.cell? ⟨g, o + 17 + j, none⟩ = some u := fun j u h => by
   rw [show o + 17 + j = o + (17 + j) by omega]
   refine hc (17 + j) u ?_
   rw [List.getElem?_append_right (by simp)]
   simpa using h
  have c := fun j u (h : ([.int .i64 s.dO, .string s.name, .slice p0 s.index.len q0, .int .i64 s.value.op, .string s.value.tx, .int .i64 s.value.ty, .slice p1 s.value.ks.len q1, .int .i64 s.low.op, .string s.low.tx, .int .i64 s.low.ty, .slice p2 s.low.ks.len q2, .int .i64 s.high.op, .string s.high.tx, .int .i64 s.high.ty, .slice p3 s.high.ks.len q3, .slice p4 s.thn.len q4, .slice p5 s.els.len q5] : List Value)[j]? = some u) => hc j u (by rw [List.getElem?_append_left (List.getElem?_eq_some_iff.1 h).1]; exact h)
  have k0' := k0
  have k1' := k1
  have k2' := k2
  have k3' := k3
  obtain ⟨a4, b4, e4, f4⟩ := k4
  obtain ⟨a5, b5, e5, f5⟩ := k5
  cases e4
  cases e5
  exact ⟨hg, c 0 _ rfl, c 1 _ rfl, ⟨_, c 2 _ rfl, k0⟩, ⟨c 3 _ rfl, c 4 _ rfl, c 5 _ rfl, _, c 6 _ rfl, k1⟩, ⟨c 7 _ rfl, c 8 _ rfl, c 9 _ rfl, _, c 10 _ rfl, k2⟩, ⟨c 11 _ rfl, c 12 _ rfl, c 13 _ rfl, _, c 14 _ rfl, k3⟩, ⟨_, _, c 15 _ rfl, f4⟩, ⟨_, _, c 16 _ rfl, f5⟩, CsAt.so hg (o + 17) hc' k⟩
/-- A row of one's own is a slice of statements. -/
theorem CsAt.sl {V : World} {base : Nat} {e : TypeId} {v : Value} {ls : List St} {xs : List Value} {S : Nat → Prop} (own : V.ownsRow base e 17 v ls.length xs) (hS : ∀ k, S k → base ≤ k) (h : CsAt V S ls xs) : SlS V (Fr base) v (appS ls .nil) := by
 rcases own.2 with ⟨rfl, h0⟩ | ⟨g, cap, cur, rfl, hb, hg, _, _, _, hx⟩
 ·have e : ls = [] := List.length_eq_zero_iff.1 h0
  subst e
  exact SlS.nil _ _
 ·refine ⟨some ⟨g, 0, none⟩, cap, by rw [appS_len], Or.inr ⟨g, 0, rfl, ?_⟩⟩
  refine CsAt.so (S := Fr base) hb 0 (fun j u hu => ?_) (h.lo hS)
  rw [← hx, List.getElem?_take] at hu
  rw [Nat.zero_add]
  split at hu
  ·rw [show V.cell? ⟨g, j, none⟩ = cur[j]? by simp [World.cell?, hg]]
   simpa using hu
  ·cases hu
set_option maxRecDepth 100000 in
theorem st_info : (Tryz.prog.info? 87).map (fun i => (i.zero, i.size, i.bytes)) = some (some (.agg #[.int .i64 0, .string ⟨#[]⟩, .slice none 0 0, .int .i64 0, .string ⟨#[]⟩, .int .i64 0, .slice none 0 0, .int .i64 0, .string ⟨#[]⟩, .int .i64 0, .slice none 0 0, .int .i64 0, .string ⟨#[]⟩, .int .i64 0, .slice none 0 0, .slice none 0 0, .slice none 0 0]), 17, 264) := by kernel_rfl
end Go.Proofs.YtknoibocpbfmmaaGreatDoor


namespace Go.Proofs.YtknoibocpbfmmaaGreatDoor
open Go.RowKit
set_option linter.unusedVariables false
set_option linter.unusedSimpArgs false
/-- A ruler in its block. -/
structure RuAt (W : World) (b : Nat) (c : Nat × Nat) : Prop where
 p : W.cell? ⟨b, 0, none⟩ = some (.int .i64 (c.1 : Nat))
 x : W.cell? ⟨b, 1, none⟩ = some (.int .i64 (c.2 : Nat))
 fz : ∀ k, W.frozen? ⟨b, k, none⟩ = false
 pl : c.1 ≤ 256
 xl : c.2 ≤ 2048
theorem RuAt.lt {W : World} {b : Nat} {c : Nat × Nat} (h : RuAt W b c) : b < W.heap.size := World.block_lt_of_cell? W _ h.p
theorem RuAt.on {W V : World} {b : Nat} {c : Nat × Nat} (h : RuAt W b c) (k : V.heap[b]? = W.heap[b]?) : RuAt V b c :=
 ⟨(cell_of_heap k).trans h.p, (cell_of_heap k).trans h.x, fun j => (frozen_of_heap k).trans (h.fz j), h.pl, h.xl⟩
theorem RuAt.bel {W V : World} {b : Nat} {c : Nat × Nat} (h : RuAt W b c) (k : Below W.heap.size W V) : RuAt V b c := h.on (k.block _ h.lt)
/-- What a part of the ruler comes to. -/
def RuR (r : Option (Nat × Nat)) (b : Nat) (w : World) (e : Ending) (w' : World) : Prop :=
 Onl b w w' ∧ match r with
 | some c => e = .returned (.tuple #[]) ∧ RuAt w' b c
 | none => Fault 4 0 e
/-- All texts of a tree are such as may be. -/
def Fo.szs : Fo → Prop
 | .nil => True
 | .cons op tx ty ks r => tx.size ≤ 9223372036854775807 ∧ ks.szs ∧ r.szs
def SpX (f : Fo) : Prop := ∀ (deep p x : Nat) (S : Nat → Prop) (v : Value) (b : Nat) (w : World), deep ≤ 30 → OpsAt w → b ≠ 0 → ¬ S b → SlF w S v f → RuAt w b (p, x) →
 Calls Tryz.prog 101 #[.pointer (some ⟨b, 0, none⟩), v, .int .i64 deep] w fun e w' => RuR ((ruF deep f x).map fun y => (p, y)) b w e w'
def SpEx (e : Ex) : Prop := ∀ (deep p x : Nat) (S : Nat → Prop) (pp : Option Addr) (qq : Nat) (b : Nat) (w : World), deep ≤ 30 → OpsAt w → b ≠ 0 → ¬ S b → SlF w S (.slice pp e.ks.len qq) e.ks → RuAt w b (p, x) →
 Calls Tryz.prog 102 #[.pointer (some ⟨b, 0, none⟩), .agg #[.int .i64 e.op, .string e.tx, .int .i64 e.ty, .slice pp e.ks.len qq], .int .i64 deep] w fun e' w' => RuR ((ruE deep e x).map fun y => (p, y)) b w e' w'
/-- Between expression's calls: its box, the ruler, the table, the tree. -/
structure SitX (Z : Obj) (b B : Nat) (w V : World) (c : Nat × Nat) (S : Nat → Prop) (v : Value) (f : Fo) : Prop where
 on : Onl b w V
 q : V.heap[B]? = some Z
 R : RuAt V b c
 O : OpsAt V
 T : SlF V S v f
 hS : ∀ k, S k → k ≠ b ∧ k ≠ B
theorem SitX.bel {Z : Obj} {b B : Nat} {w V V' : World} {c : Nat × Nat} {S : Nat → Prop} {v : Value} {f : Fo} (h : SitX Z b B w V c S v f) (g : Below V.heap.size V V') : SitX Z b B w V' c S v f :=
 ⟨h.on.below g, (g.block B (lt_of h.q)).trans h.q, h.R.bel g, h.O.bel g, h.T.kp (Below.kp g _), h.hS⟩
set_option maxRecDepth 100000 in
theorem opf1 (a c : Int) (b : ByteArray) (w : World) : (Instr.field 133 (.agg #[.int .i64 a, .string b, .int .i64 c]) 1).run Tryz.prog w = .ok (.string b) w := by kernel_rfl
theorem wd_ne (t : Int) : decide (wdOf t = tx0) = !decide (1 ≤ t ∧ t ≤ 3) := by
 by_cases h1 : t = 1
 ·subst h1; decide
 by_cases h2 : t = 2
 ·subst h2; decide
 by_cases h3 : t = 3
 ·subst h3; decide
 rw [show wdOf t = tx0 by unfold wdOf; rw [if_neg h1, if_neg h2, if_neg h3], decide_eq_false (show ¬ (1 ≤ t ∧ t ≤ 3) by omega)]
 decide
theorem ex_go {w : World} {b p x : Nat} {S : Nat → Prop} {e : Ex} {pp : Option Addr} {qq : Nat} (hO : OpsAt w) (hG : b ≠ 0) (hS : ¬ S b) (hT : SlF w S (.slice pp e.ks.len qq) e.ks) (hR : RuAt w b (p, x)) (hx : x + 1 ≤ 2048) (xi : Int) (hxi : xi = ((x + 1 : Nat) : Int)) :
  SitX (.cells #[.int .i64 e.op, .string e.tx, .int .i64 e.ty, .slice pp e.ks.len qq] 85 (0, 0)) b w.heap.size w ((w.setCell ⟨b, 1, none⟩ (.int .i64 xi)).alloc (.cells #[.int .i64 e.op, .string e.tx, .int .i64 e.ty, .slice pp e.ks.len qq] 85)) (p, x + 1) (fun k => S k ∧ k < w.heap.size) (.slice pp e.ks.len qq) e.ks := by
 subst hxi
 have lb := hR.lt
 rw [← World.setCell_alloc_past _ _ _ _ lb]
 have ne : w.heap.size ≠ b := by omega
 have gW : Below w.heap.size w (w.alloc (.cells #[.int .i64 e.op, .string e.tx, .int .i64 e.ty, .slice pp e.ks.len qq] 85)) := pb_new (Below.refl _ _) _
 have on1 := (Onl.refl b w).below gW
 have hR1 := hR.bel gW
 have hO1 := hO.bel gW
 have hT1 := hT.lt.kp (Below.kp gW _)
 have q1 := World.alloc_heap_new w (.cells #[.int .i64 e.op, .string e.tx, .int .i64 e.ty, .slice pp e.ks.len qq] 85)
 generalize w.alloc (.cells #[.int .i64 e.op, .string e.tx, .int .i64 e.ty, .slice pp e.ks.len qq] 85) = W at *
 refine ⟨on1.set _, (Below.heap_setCell W _ _ _ ne).trans q1, ⟨?_, ?_, fun k => ?_, hR1.pl, hx⟩, fun j v h => ?_, hT1.kp (Kp.set (fun a => hS a.1)), fun k a => ⟨fun e => hS (e ▸ a.1), Nat.ne_of_lt a.2⟩⟩
 ·rw [World.cell?_setCell_other _ _ _ _ (by simp)]; exact hR1.p
 ·simp [go_sem, hR1.x]
 ·have := hR1.fz k; simpa [go_sem] using this
 ·rw [World.cell?_setCell_other _ _ _ _ (by simp [Ne.symm hG])]; exact hO1 j v h
end Go.Proofs.YtknoibocpbfmmaaGreatDoor



