/- Statements: their frame. -/
import Derived.Test.YtknoibocpbfmmaaGreatDoorPaO
namespace Go.Proofs.YtknoibocpbfmmaaGreatDoor
open Go.RowKit
set_option linter.unusedVariables false
set_option linter.unusedSimpArgs false
/-- Values stored into a block, one behind the other. -/
def setN (p : Nat) : Nat → List Value → World → World
  | _, [], V => V
  | j, y :: ys, V => setN p (j + 1) ys (V.setCell ⟨p, j, none⟩ y)
theorem setN_far (p k : Nat) (h : k ≠ p) : ∀ (ys : List Value) (j : Nat) (V : World), (setN p j ys V).heap[k]? = V.heap[k]?
  | [], _, _ => rfl
  | y :: ys, j, V => (setN_far p k h ys (j + 1) _).trans (Below.heap_setCell V _ y k h)
theorem setN_onl {b p : Nat} {w : World} (zp : w.heap.size ≤ p) : ∀ (ys : List Value) (j : Nat) {V : World}, Onl b w V → Onl b w (setN p j ys V)
  | [], _, _, h => h
  | y :: ys, j, _, h => setN_onl zp ys (j + 1) (h.setNew zp y)
/-- A statement as a value, its slices told. -/
def StV (W : World) (S : Nat → Prop) (v : Value) (s : St) : Prop := ∃ p0 q0 p1 q1 p2 q2 p3 q3 p4 q4 p5 q5,
  v = .agg #[.int .i64 s.dO, .string s.name, .slice p0 s.index.len q0, .int .i64 s.value.op, .string s.value.tx, .int .i64 s.value.ty, .slice p1 s.value.ks.len q1, .int .i64 s.low.op, .string s.low.tx, .int .i64 s.low.ty, .slice p2 s.low.ks.len q2, .int .i64 s.high.op, .string s.high.tx, .int .i64 s.high.ty, .slice p3 s.high.ks.len q3, .slice p4 s.thn.len q4, .slice p5 s.els.len q5] ∧
  SlF W S (.slice p0 s.index.len q0) s.index ∧ SlF W S (.slice p1 s.value.ks.len q1) s.value.ks ∧ SlF W S (.slice p2 s.low.ks.len q2) s.low.ks ∧ SlF W S (.slice p3 s.high.ks.len q3) s.high.ks ∧ SlS W S (.slice p4 s.thn.len q4) s.thn ∧ SlS W S (.slice p5 s.els.len q5) s.els
theorem StV.kp {S : Nat → Prop} {W V : World} {v : Value} {s : St} (h : Kp S W V) (k : StV W S v s) : StV V S v s := by
  obtain ⟨p0, q0, p1, q1, p2, q2, p3, q3, p4, q4, p5, q5, e, k0, k1, k2, k3, k4, k5⟩ := k
  exact ⟨p0, q0, p1, q1, p2, q2, p3, q3, p4, q4, p5, q5, e, k0.kp h, k1.kp h, k2.kp h, k3.kp h, k4.kp h, k5.kp h⟩
theorem StV.lo {S S' : Nat → Prop} {W : World} {v : Value} {s : St} (h : ∀ k, S k → S' k) (k : StV W S v s) : StV W S' v s := by
  obtain ⟨p0, q0, p1, q1, p2, q2, p3, q3, p4, q4, p5, q5, e, k0, k1, k2, k3, k4, k5⟩ := k
  exact ⟨p0, q0, p1, q1, p2, q2, p3, q3, p4, q4, p5, q5, e, k0.lo h, k1.lo h, k2.lo h, k3.lo h, k4.lo h, k5.lo h⟩
/-- What a statement's part comes to. -/
def StR (r : Rs St) (b B : Nat) (o : Int) (w : World) (e : Ending) (w' : World) : Prop :=
  Onl b w w' ∧ match r with
  | .ok x us d => ∃ v, e = .returned v ∧ StV w' (Fr w.heap.size) v x ∧ PAt w' b B us o d
  | .bad p => Fault 4 p e
  | .more => True
end Go.Proofs.YtknoibocpbfmmaaGreatDoor
