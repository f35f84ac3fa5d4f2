/- A ruler in memory; expression, over all. -/
import Derived.Test.YtknoibocpbfmmaaGreatDoorPbB
import Derived.Test.YtknoibocpbfmmaaGreatDoorPaV
namespace Go.Proofs.YtknoibocpbfmmaaGreatDoor
open Go.RowKit
set_option linter.unusedVariables false
set_option linter.unusedSimpArgs false
/-- A ruler in its block. -/
structure RuAt (W : World) (b : Nat) (c : Nat × Nat) : Prop where
  p : W.cell? ⟨b, 0, none⟩ = some (.int .i64 (c.1 : Nat))
  x : W.cell? ⟨b, 1, none⟩ = some (.int .i64 (c.2 : Nat))
  fz : ∀ k, W.frozen? ⟨b, k, none⟩ = false
  pl : c.1 ≤ 256
  xl : c.2 ≤ 2048
theorem RuAt.lt {W : World} {b : Nat} {c : Nat × Nat} (h : RuAt W b c) : b < W.heap.size := World.block_lt_of_cell? W _ h.p
theorem RuAt.on {W V : World} {b : Nat} {c : Nat × Nat} (h : RuAt W b c) (k : V.heap[b]? = W.heap[b]?) : RuAt V b c :=
  ⟨(cell_of_heap k).trans h.p, (cell_of_heap k).trans h.x, fun j => (frozen_of_heap k).trans (h.fz j), h.pl, h.xl⟩
theorem RuAt.bel {W V : World} {b : Nat} {c : Nat × Nat} (h : RuAt W b c) (k : Below W.heap.size W V) : RuAt V b c := h.on (k.block _ h.lt)
/-- What a part of the ruler comes to. -/
def RuR (r : Option (Nat × Nat)) (b : Nat) (w : World) (e : Ending) (w' : World) : Prop :=
  Onl b w w' ∧ match r with
  | some c => e = .returned (.tuple #[]) ∧ RuAt w' b c
  | none => Fault 4 0 e
/-- All texts of a tree are such as may be. -/
def Fo.szs : Fo → Prop
  | .nil => True
  | .cons op tx ty ks r => tx.size ≤ 9223372036854775807 ∧ ks.szs ∧ r.szs
def SpX (f : Fo) : Prop := ∀ (deep p x : Nat) (S : Nat → Prop) (v : Value) (b : Nat) (w : World), deep ≤ 30 → OpsAt w → b ≠ 0 → ¬ S b → SlF w S v f → RuAt w b (p, x) →
    Calls Tryz.prog 101 #[.pointer (some ⟨b, 0, none⟩), v, .int .i64 deep] w fun e w' => RuR ((ruF deep f x).map fun y => (p, y)) b w e w'
def SpEx (e : Ex) : Prop := ∀ (deep p x : Nat) (S : Nat → Prop) (pp : Option Addr) (qq : Nat) (b : Nat) (w : World), deep ≤ 30 → OpsAt w → b ≠ 0 → ¬ S b → SlF w S (.slice pp e.ks.len qq) e.ks → RuAt w b (p, x) →
    Calls Tryz.prog 102 #[.pointer (some ⟨b, 0, none⟩), .agg #[.int .i64 e.op, .string e.tx, .int .i64 e.ty, .slice pp e.ks.len qq], .int .i64 deep] w fun e' w' => RuR ((ruE deep e x).map fun y => (p, y)) b w e' w'
/-- Between expression's calls: its box, the ruler, the table, the tree. -/
structure SitX (Z : Obj) (b B : Nat) (w V : World) (c : Nat × Nat) (S : Nat → Prop) (v : Value) (f : Fo) : Prop where
  on : Onl b w V
  q : V.heap[B]? = some Z
  R : RuAt V b c
  O : OpsAt V
  T : SlF V S v f
  hS : ∀ k, S k → k ≠ b ∧ k ≠ B
theorem SitX.bel {Z : Obj} {b B : Nat} {w V V' : World} {c : Nat × Nat} {S : Nat → Prop} {v : Value} {f : Fo} (h : SitX Z b B w V c S v f) (g : Below V.heap.size V V') : SitX Z b B w V' c S v f :=
  ⟨h.on.below g, (g.block B (lt_of h.q)).trans h.q, h.R.bel g, h.O.bel g, h.T.kp (Below.kp g _), h.hS⟩
set_option maxRecDepth 100000 in
theorem opf1 (a c : Int) (b : ByteArray) (w : World) : (Instr.field 133 (.agg #[.int .i64 a, .string b, .int .i64 c]) 1).run Tryz.prog w = .ok (.string b) w := by kernel_rfl
theorem txt_n (a b : ByteArray) : (a.toList != b.toList) = !decide (a = b) := by rw [bne, txt_b]
theorem wd_ne (t : Int) : decide (wdOf t = tx0) = !decide (1 ≤ t ∧ t ≤ 3) := by
  by_cases h1 : t = 1
  · subst h1; decide
  by_cases h2 : t = 2
  · subst h2; decide
  by_cases h3 : t = 3
  · subst h3; decide
  rw [show wdOf t = tx0 by unfold wdOf; rw [if_neg h1, if_neg h2, if_neg h3], decide_eq_false (show ¬ (1 ≤ t ∧ t ≤ 3) by omega)]
  decide
theorem ex_go {w : World} {b p x : Nat} {S : Nat → Prop} {e : Ex} {pp : Option Addr} {qq : Nat} (hO : OpsAt w) (hG : b ≠ 0) (hS : ¬ S b) (hT : SlF w S (.slice pp e.ks.len qq) e.ks) (hR : RuAt w b (p, x)) (hx : x + 1 ≤ 2048) (xi : Int) (hxi : xi = ((x + 1 : Nat) : Int)) :
    SitX (.cells #[.int .i64 e.op, .string e.tx, .int .i64 e.ty, .slice pp e.ks.len qq] 85 (0, 0)) b w.heap.size w ((w.setCell ⟨b, 1, none⟩ (.int .i64 xi)).alloc (.cells #[.int .i64 e.op, .string e.tx, .int .i64 e.ty, .slice pp e.ks.len qq] 85)) (p, x + 1) (fun k => S k ∧ k < w.heap.size) (.slice pp e.ks.len qq) e.ks := by
  subst hxi
  have lb := hR.lt
  rw [← World.setCell_alloc_past _ _ _ _ lb]
  have ne : w.heap.size ≠ b := by omega
  have gW : Below w.heap.size w (w.alloc (.cells #[.int .i64 e.op, .string e.tx, .int .i64 e.ty, .slice pp e.ks.len qq] 85)) := pb_new (Below.refl _ _) _
  have on1 := (Onl.refl b w).below gW
  have hR1 := hR.bel gW
  have hO1 := hO.bel gW
  have hT1 := hT.lt.kp (Below.kp gW _)
  have q1 := World.alloc_heap_new w (.cells #[.int .i64 e.op, .string e.tx, .int .i64 e.ty, .slice pp e.ks.len qq] 85)
  generalize w.alloc (.cells #[.int .i64 e.op, .string e.tx, .int .i64 e.ty, .slice pp e.ks.len qq] 85) = W at *
  refine ⟨on1.set _, (Below.heap_setCell W _ _ _ ne).trans q1, ⟨?_, ?_, fun k => ?_, hR1.pl, hx⟩, fun j v h => ?_, hT1.kp (Kp.set (fun a => hS a.1)), fun k a => ⟨fun e => hS (e ▸ a.1), Nat.ne_of_lt a.2⟩⟩
  · rw [World.cell?_setCell_other _ _ _ _ (by simp)]; exact hR1.p
  · simp [go_sem, hR1.x]
  · have := hR1.fz k; simpa [go_sem] using this
  · rw [World.cell?_setCell_other _ _ _ _ (by simp [Ne.symm hG])]; exact hO1 j v h
end Go.Proofs.YtknoibocpbfmmaaGreatDoor

