/- A ruler: a statement, its frame. -/
import Derived.Test.YtknoibocpbfmmaaGreatDoorPbF
namespace Go.Proofs.YtknoibocpbfmmaaGreatDoor
open Go.RowKit
set_option linter.unusedVariables false
set_option linter.unusedSimpArgs false
def So.szs : So → Prop
  | .nil => True
  | .cons d nm ix v l h t e r => nm.size ≤ 9223372036854775807 ∧ ix.szs ∧ v.szs ∧ l.szs ∧ h.szs ∧ t.szs ∧ e.szs ∧ r.szs
def St.szs (s : St) : Prop := s.name.size ≤ 9223372036854775807 ∧ s.index.szs ∧ s.value.szs ∧ s.low.szs ∧ s.high.szs ∧ s.thn.szs ∧ s.els.szs
/-- A statement's trees, by the slices in its registers. -/
structure StT (V : World) (S : Nat → Prop) (s : St) (p0 : Option Addr) (q0 : Nat) (p1 : Option Addr) (q1 : Nat) (p2 : Option Addr) (q2 : Nat) (p3 : Option Addr) (q3 : Nat) (p4 : Option Addr) (q4 : Nat) (p5 : Option Addr) (q5 : Nat) : Prop where
  T0 : SlF V S (.slice p0 s.index.len q0) s.index
  T1 : SlF V S (.slice p1 s.value.ks.len q1) s.value.ks
  T2 : SlF V S (.slice p2 s.low.ks.len q2) s.low.ks
  T3 : SlF V S (.slice p3 s.high.ks.len q3) s.high.ks
  T4 : SlS V S (.slice p4 s.thn.len q4) s.thn
  T5 : SlS V S (.slice p5 s.els.len q5) s.els
theorem StT.kp {V V' : World} {S : Nat → Prop} {s : St} {p0 : Option Addr} {q0 : Nat} {p1 : Option Addr} {q1 : Nat} {p2 : Option Addr} {q2 : Nat} {p3 : Option Addr} {q3 : Nat} {p4 : Option Addr} {q4 : Nat} {p5 : Option Addr} {q5 : Nat} (h : StT V S s p0 q0 p1 q1 p2 q2 p3 q3 p4 q4 p5 q5) (k : Kp S V V') : StT V' S s p0 q0 p1 q1 p2 q2 p3 q3 p4 q4 p5 q5 := ⟨h.T0.kp k, h.T1.kp k, h.T2.kp k, h.T3.kp k, h.T4.kp k, h.T5.kp k⟩
theorem StT.lt {V : World} {S : Nat → Prop} {s : St} {p0 : Option Addr} {q0 : Nat} {p1 : Option Addr} {q1 : Nat} {p2 : Option Addr} {q2 : Nat} {p3 : Option Addr} {q3 : Nat} {p4 : Option Addr} {q4 : Nat} {p5 : Option Addr} {q5 : Nat} (h : StT V S s p0 q0 p1 q1 p2 q2 p3 q3 p4 q4 p5 q5) : StT V (fun k => S k ∧ k < V.heap.size) s p0 q0 p1 q1 p2 q2 p3 q3 p4 q4 p5 q5 := ⟨h.T0.lt, h.T1.lt, h.T2.lt, h.T3.lt, h.T4.lt, h.T5.lt⟩
def SpK (l : So) : Prop := ∀ (deep : Nat) (c : Nat × Nat) (S : Nat → Prop) (v : Value) (b : Nat) (w : World), deep ≤ 30 → OpsAt w → b ≠ 0 → ¬ S b → SlS w S v l → RuAt w b c →
    Calls Tryz.prog 70 #[.pointer (some ⟨b, 0, none⟩), v, .int .i64 deep] w fun e w' => RuR (ruK deep l c) b w e w'
def SpT (s : St) : Prop := ∀ (deep : Nat) (c : Nat × Nat) (S : Nat → Prop) (p0 : Option Addr) (q0 : Nat) (p1 : Option Addr) (q1 : Nat) (p2 : Option Addr) (q2 : Nat) (p3 : Option Addr) (q3 : Nat) (p4 : Option Addr) (q4 : Nat) (p5 : Option Addr) (q5 : Nat) (b : Nat) (w : World), deep ≤ 24 → OpsAt w → b ≠ 0 → ¬ S b → StT w S s p0 q0 p1 q1 p2 q2 p3 q3 p4 q4 p5 q5 → RuAt w b c →
    Calls Tryz.prog 90 #[.pointer (some ⟨b, 0, none⟩), .agg #[.int .i64 s.dO, .string s.name, .slice p0 s.index.len q0, .int .i64 s.value.op, .string s.value.tx, .int .i64 s.value.ty, .slice p1 s.value.ks.len q1, .int .i64 s.low.op, .string s.low.tx, .int .i64 s.low.ty, .slice p2 s.low.ks.len q2, .int .i64 s.high.op, .string s.high.tx, .int .i64 s.high.ty, .slice p3 s.high.ks.len q3, .slice p4 s.thn.len q4, .slice p5 s.els.len q5], .int .i64 deep] w fun e w' => RuR (ruT deep s c) b w e w'
/-- Between statement's calls. -/
structure SitT (b B : Nat) (w V : World) (c : Nat × Nat) (S : Nat → Prop) (s : St) (p0 : Option Addr) (q0 : Nat) (p1 : Option Addr) (q1 : Nat) (p2 : Option Addr) (q2 : Nat) (p3 : Option Addr) (q3 : Nat) (p4 : Option Addr) (q4 : Nat) (p5 : Option Addr) (q5 : Nat) : Prop where
  on : Onl b w V
  R : RuAt V b c
  O : OpsAt V
  T : StT V S s p0 q0 p1 q1 p2 q2 p3 q3 p4 q4 p5 q5
  hS : ∀ k, S k → k ≠ b ∧ k ≠ B
  hG : b ≠ 0
  BG : B ≠ 0
  Bb : B ≠ b
  wB : w.heap.size ≤ B
theorem SitT.bel {b B : Nat} {w V V' : World} {c : Nat × Nat} {S : Nat → Prop} {s : St} {p0 : Option Addr} {q0 : Nat} {p1 : Option Addr} {q1 : Nat} {p2 : Option Addr} {q2 : Nat} {p3 : Option Addr} {q3 : Nat} {p4 : Option Addr} {q4 : Nat} {p5 : Option Addr} {q5 : Nat} (h : SitT b B w V c S s p0 q0 p1 q1 p2 q2 p3 q3 p4 q4 p5 q5) (g : Below V.heap.size V V') : SitT b B w V' c S s p0 q0 p1 q1 p2 q2 p3 q3 p4 q4 p5 q5 :=
  ⟨h.on.below g, h.R.bel g, h.O.bel g, h.T.kp (Below.kp g _), h.hS, h.hG, h.BG, h.Bb, h.wB⟩
theorem SitT.onl {b B : Nat} {w V V' : World} {c c' : Nat × Nat} {S : Nat → Prop} {s : St} {p0 : Option Addr} {q0 : Nat} {p1 : Option Addr} {q1 : Nat} {p2 : Option Addr} {q2 : Nat} {p3 : Option Addr} {q3 : Nat} {p4 : Option Addr} {q4 : Nat} {p5 : Option Addr} {q5 : Nat} (h : SitT b B w V c S s p0 q0 p1 q1 p2 q2 p3 q3 p4 q4 p5 q5) (g : Onl b V V') (R : RuAt V' b c') : SitT b B w V' c' S s p0 q0 p1 q1 p2 q2 p3 q3 p4 q4 p5 q5 :=
  ⟨h.on.trans g, R, h.O.onl h.hG g, h.T.kp (g.kp (fun a => (h.hS _ a).1 rfl)), h.hS, h.hG, h.BG, h.Bb, h.wB⟩
theorem SitT.set {b B : Nat} {w V : World} {c : Nat × Nat} {S : Nat → Prop} {s : St} {p0 : Option Addr} {q0 : Nat} {p1 : Option Addr} {q1 : Nat} {p2 : Option Addr} {q2 : Nat} {p3 : Option Addr} {q3 : Nat} {p4 : Option Addr} {q4 : Nat} {p5 : Option Addr} {q5 : Nat} (h : SitT b B w V c S s p0 q0 p1 q1 p2 q2 p3 q3 p4 q4 p5 q5) (j : Nat) (v : Value) : SitT b B w (V.setCell ⟨B, j, none⟩ v) c S s p0 q0 p1 q1 p2 q2 p3 q3 p4 q4 p5 q5 :=
  ⟨h.on.setNew h.wB v, h.R.on (Below.heap_setCell V _ v b (fun e => h.Bb e.symm)), fun k u q => (cell_of_heap (Below.heap_setCell V _ v 0 (fun e => h.BG e.symm))).trans (h.O k u q), h.T.kp (Kp.set (fun a => (h.hS _ a).2 rfl)), h.hS, h.hG, h.BG, h.Bb, h.wB⟩
theorem ops_lt {w : World} (h : OpsAt w) : 0 < w.heap.size := World.block_lt_of_cell? w _ (h 0 _ rfl)
theorem st_go {w : World} {b : Nat} {c : Nat × Nat} {S : Nat → Prop} {s : St} {p0 : Option Addr} {q0 : Nat} {p1 : Option Addr} {q1 : Nat} {p2 : Option Addr} {q2 : Nat} {p3 : Option Addr} {q3 : Nat} {p4 : Option Addr} {q4 : Nat} {p5 : Option Addr} {q5 : Nat} (hO : OpsAt w) (hG : b ≠ 0) (hS : ¬ S b) (hT : StT w S s p0 q0 p1 q1 p2 q2 p3 q3 p4 q4 p5 q5) (hR : RuAt w b c) (x : Obj) :
    SitT b w.heap.size w (w.alloc x) c (fun k => S k ∧ k < w.heap.size) s p0 q0 p1 q1 p2 q2 p3 q3 p4 q4 p5 q5 := by
  have g := pb_new (Below.refl w.heap.size w) x
  have lb := hR.lt
  have lo := ops_lt hO
  exact ⟨(Onl.refl b w).below g, hR.bel g, hO.bel g, hT.lt.kp (Below.kp g _), fun k a => ⟨fun e => hS (e ▸ a.1), Nat.ne_of_lt a.2⟩, hG, by omega, by omega, Nat.le_refl _⟩
theorem RuR.fin {b : Nat} {w V V' : World} {r : Option (Nat × Nat)} {e : Ending} (h : Onl b w V) (k : RuR r b V e V') : RuR r b w e V' := ⟨h.trans k.1, k.2⟩
end Go.Proofs.YtknoibocpbfmmaaGreatDoor

