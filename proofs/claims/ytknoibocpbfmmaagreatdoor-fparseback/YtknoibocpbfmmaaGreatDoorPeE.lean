/- Printed statements: what lies between calls; within; a statement of each kind. -/
import Derived.Test.YtknoibocpbfmmaaGreatDoorPeD
import Derived.Test.YtknoibocpbfmmaaGreatDoorPbG
namespace Go.Proofs.YtknoibocpbfmmaaGreatDoor
open Go.RowKit
set_option linter.unusedVariables false
set_option linter.unusedSimpArgs false
/-- A statement's text. -/
def stL (m : List UInt8) (s : St) : List UInt8 :=
  if s.dO = 1 then m ++ (s.name.data.toList ++ ((ixT (foTx s.index) tx0).data.toList ++ (lEqs ++ (xL s.value ++ ([59] ++ [10])))))
  else if s.dO = 2 then m ++ (lRd ++ (s.name.data.toList ++ (lIn ++ (xL s.low ++ (lCs ++ (xL s.high ++ (lEr ++ [10])))))))
  else if s.dO = 3 then m ++ (lIf ++ (xL s.value ++ (lOp ++ [10]))) ++ (soL (m ++ [32, 32]) s.thn ++ ((if s.els.len = 0 then [] else m ++ (lEl ++ [10]) ++ soL (m ++ [32, 32]) s.els) ++ (m ++ ([125] ++ [10]))))
  else if s.dO = 4 then m ++ (lWh ++ (xL s.value ++ (lOp ++ [10]))) ++ (soL (m ++ [32, 32]) s.thn ++ (m ++ ([125] ++ [10])))
  else []
theorem soL_row (m : List UInt8) (s : St) (r : So) : soL m (s.row r) = stL m s ++ soL m r := by
  rw [St.row, soL]; rfl
theorem PrAt.marg {B b : Nat} {p : Value} {mg mg' : ByteArray} {bs : List Value} {w : World} (h : PrAt B b p mg bs w) : PrAt B b p mg' bs (w.setCell ⟨b, 2, none⟩ (.string mg')) := by
  obtain ⟨hB, v, hb, hown, hne⟩ := h
  refine ⟨hB, v, ?_, ?_, hne⟩
  · simp [World.setCell, Array.getElem?_modify, hb]
  · refine hown.kept (row := some b) ⟨rfl, rfl, rfl, by simp [World.setCell], fun k _ hk => Below.heap_setCell _ _ _ _ (fun e => hk (by simp [e]))⟩ ?_
    exact Or.inr hne
theorem PrU.marg {B b : Nat} {mg mg' : ByteArray} {bs : List Value} {w : World} (h : PrU B b mg bs w) : PrU B b mg' bs (w.setCell ⟨b, 2, none⟩ (.string mg')) := h.imp PrAt.marg PrAt.marg
theorem PrU.le {B b : Nat} {mg : ByteArray} {bs : List Value} {w : World} (h : PrU B b mg bs w) : B ≤ b := by
  rcases h with h | h
  · exact h.1
  · exact h.1
theorem PrU.fz {B b : Nat} {mg : ByteArray} {bs : List Value} {w : World} (h : PrU B b mg bs w) (k : Nat) : w.frozen? ⟨b, k, none⟩ = false := by
  rcases h with h | h
  · exact h.cells.2.2.1 k
  · exact h.cells.2.2.1 k
theorem PrW.marg {B b : Nat} {mg mg' : ByteArray} {l : List UInt8} {w V : World} (h : PrW B b mg l w V) : PrW B b mg' l w (V.setCell ⟨b, 2, none⟩ (.string mg')) := ⟨h.1.marg, h.2.1.setCell (p := ⟨b, 2, none⟩) h.1.le _, h.2.2.setCell ⟨b, 2, none⟩ rfl _⟩
theorem PrW.self {B b : Nat} {mg : ByteArray} {l : List UInt8} {w : World} (h : PrU B b mg (Lib.byteCells l) w) : PrW B b mg l w w := ⟨h, Below.refl _ _, Lib.OthersKept.refl _ _ _⟩
/-- Statements' text is written. -/
def SpB (f : So) : Prop := ∀ (B b : Nat) (mg : ByteArray) (l : List UInt8) (S : Nat → Prop) (v : Value) (w : World), B ≤ w.heap.size → 0 < B → (∀ k, S k → k < B) → OpsAt w → SlS w S v f → PrU B b mg (Lib.byteCells l) w → l.length + (soL mg.data.toList f).length ≤ 140737488355328 →
    Calls Tryz.prog 35 #[.pointer (some ⟨b, 0, none⟩), v] w fun e w' => e = .returned (.tuple #[]) ∧ PrW B b mg (l ++ soL mg.data.toList f) w w'
def SpP (s : St) : Prop := ∀ (B b : Nat) (mg : ByteArray) (l : List UInt8) (S : Nat → Prop) (p0 : Option Addr) (q0 : Nat) (p1 : Option Addr) (q1 : Nat) (p2 : Option Addr) (q2 : Nat) (p3 : Option Addr) (q3 : Nat) (p4 : Option Addr) (q4 : Nat) (p5 : Option Addr) (q5 : Nat) (w : World), B ≤ w.heap.size → 0 < B → (∀ k, S k → k < B) → OpsAt w → StT w S s p0 q0 p1 q1 p2 q2 p3 q3 p4 q4 p5 q5 → PrU B b mg (Lib.byteCells l) w → l.length + (stL mg.data.toList s).length ≤ 140737488355328 →
    Calls Tryz.prog 58 #[.pointer (some ⟨b, 0, none⟩), .agg #[.int .i64 s.dO, .string s.name, .slice p0 s.index.len q0, .int .i64 s.value.op, .string s.value.tx, .int .i64 s.value.ty, .slice p1 s.value.ks.len q1, .int .i64 s.low.op, .string s.low.tx, .int .i64 s.low.ty, .slice p2 s.low.ks.len q2, .int .i64 s.high.op, .string s.high.tx, .int .i64 s.high.ty, .slice p3 s.high.ks.len q3, .slice p4 s.thn.len q4, .slice p5 s.els.len q5]] w fun e w' => e = .returned (.tuple #[]) ∧ PrW B b mg (l ++ stL mg.data.toList s) w w'
/-- A line of these parts, in a block that has been laid since. -/
theorem pline_at (ps : List ByteArray) (n cap : Nat) (hn : ps.length = n) (hn2 : n ≤ 1000000) (B b : Nat) (mg : ByteArray) (l : List UInt8) (w X V : World) (c : Nat) (hW : PrW B b mg l w X) (hB : B ≤ w.heap.size) (g : Below X.heap.size X V) (q : V.heap[c]? = some (.cells (ps.map Value.string).toArray 9 (0, 0))) (hc : X.heap.size ≤ c) (hz : l.length + (mg.size + ((catL ps).length + 1)) ≤ 140737488355328) :
    Calls Tryz.prog 32 #[.pointer (some ⟨b, 0, none⟩), .slice (some ⟨c, 0, none⟩) n cap] V fun e w' => e = .returned (.tuple #[]) ∧ PrW B b mg (l ++ (mg.data.toList ++ (catL ps ++ [10]))) w w' := by
  have hBX : B ≤ X.heap.size := Nat.le_trans hB hW.2.1.size
  have hV := hW.bel hBX g
  have lb := hW.1.cells.2
  refine (pline B b mg l ps c n cap _ 9 V hV.1 (Nat.le_trans hBX g.size) hn q (by decide) (by omega) (fun j s hj => ?_) hz hn2).mono ?_
  · rw [List.getElem?_toArray, List.getElem?_map, hj]; rfl
  · rintro e w' ⟨rfl, h⟩
    exact ⟨rfl, hV.trans h⟩
/-- Between a statement's calls. -/
structure SitP (B b Bx : Nat) (cs : Array Value) (mg : ByteArray) (l : List UInt8) (w V : World) (S : Nat → Prop) (s : St) (p0 : Option Addr) (q0 : Nat) (p1 : Option Addr) (q1 : Nat) (p2 : Option Addr) (q2 : Nat) (p3 : Option Addr) (q3 : Nat) (p4 : Option Addr) (q4 : Nat) (p5 : Option Addr) (q5 : Nat) : Prop where
  W : PrW B b mg l w V
  O : OpsAt V
  T : StT V S s p0 q0 p1 q1 p2 q2 p3 q3 p4 q4 p5 q5
  q : V.heap[Bx]? = some (.cells cs 87 (0, 0))
  bw : B ≤ w.heap.size
  gO : 0 < B
  hS : ∀ k, S k → k < B
  nb : Bx ≠ b
theorem SitP.sz {B b Bx : Nat} {cs : Array Value} {mg : ByteArray} {l : List UInt8} {w V : World} {S : Nat → Prop} {s : St} {p0 : Option Addr} {q0 : Nat} {p1 : Option Addr} {q1 : Nat} {p2 : Option Addr} {q2 : Nat} {p3 : Option Addr} {q3 : Nat} {p4 : Option Addr} {q4 : Nat} {p5 : Option Addr} {q5 : Nat} (h : SitP B b Bx cs mg l w V S s p0 q0 p1 q1 p2 q2 p3 q3 p4 q4 p5 q5) : B ≤ V.heap.size := Nat.le_trans h.bw h.W.2.1.size
theorem SitP.bel {B b Bx : Nat} {cs : Array Value} {mg : ByteArray} {l : List UInt8} {w V V' : World} {S : Nat → Prop} {s : St} {p0 : Option Addr} {q0 : Nat} {p1 : Option Addr} {q1 : Nat} {p2 : Option Addr} {q2 : Nat} {p3 : Option Addr} {q3 : Nat} {p4 : Option Addr} {q4 : Nat} {p5 : Option Addr} {q5 : Nat} (h : SitP B b Bx cs mg l w V S s p0 q0 p1 q1 p2 q2 p3 q3 p4 q4 p5 q5) (g : Below V.heap.size V V') : SitP B b Bx cs mg l w V' S s p0 q0 p1 q1 p2 q2 p3 q3 p4 q4 p5 q5 :=
  ⟨h.W.bel h.sz g, h.O.bel g, h.T.kp (Below.kp g _), (g.block Bx (lt_of h.q)).trans h.q, h.bw, h.gO, h.hS, h.nb⟩
theorem SitP.wr {B b Bx : Nat} {cs : Array Value} {mg mg' : ByteArray} {l l' : List UInt8} {w V V' : World} {S : Nat → Prop} {s : St} {p0 : Option Addr} {q0 : Nat} {p1 : Option Addr} {q1 : Nat} {p2 : Option Addr} {q2 : Nat} {p3 : Option Addr} {q3 : Nat} {p4 : Option Addr} {q4 : Nat} {p5 : Option Addr} {q5 : Nat} (h : SitP B b Bx cs mg l w V S s p0 q0 p1 q1 p2 q2 p3 q3 p4 q4 p5 q5) (k : PrW B b mg' l' V V') : SitP B b Bx cs mg' l' w V' S s p0 q0 p1 q1 p2 q2 p3 q3 p4 q4 p5 q5 :=
  ⟨h.W.trans k, fun j v e => (k.2.1.cell h.gO).trans (h.O j v e), h.T.kp (fun i hi _ => k.2.1.block i (h.hS i hi)), k.2.2 Bx _ h.q (fun e => h.nb (Option.some.inj e)) (fun c z e => by cases e), h.bw, h.gO, h.hS, h.nb⟩
theorem sp_go {B b : Nat} {mg : ByteArray} {l : List UInt8} {w : World} {S : Nat → Prop} {s : St} {p0 : Option Addr} {q0 : Nat} {p1 : Option Addr} {q1 : Nat} {p2 : Option Addr} {q2 : Nat} {p3 : Option Addr} {q3 : Nat} {p4 : Option Addr} {q4 : Nat} {p5 : Option Addr} {q5 : Nat} (hB : B ≤ w.heap.size) (hG : 0 < B) (hS : ∀ k, S k → k < B) (hO : OpsAt w) (hT : StT w S s p0 q0 p1 q1 p2 q2 p3 q3 p4 q4 p5 q5) (hP : PrU B b mg (Lib.byteCells l) w) (cs : Array Value) :
    SitP B b w.heap.size cs mg l w (w.alloc (.cells cs 87)) S s p0 q0 p1 q1 p2 q2 p3 q3 p4 q4 p5 q5 := by
  have g := pb_new (Below.refl w.heap.size w) (.cells cs 87)
  have lb := hP.cells.2
  exact ⟨(PrW.self hP).bel hB g, hO.bel g, hT.kp (Below.kp g _), World.alloc_heap_new _ _, hB, hG, hS, by omega⟩
set_option maxRecDepth 100000 in
set_option maxHeartbeats 3200000 in
theorem pwithin (t : So) (kB : SpB t) (B b : Nat) (mg : ByteArray) (l : List UInt8) (S : Nat → Prop) (v : Value) (w : World) (hB : B ≤ w.heap.size) (hG : 0 < B) (hS : ∀ k, S k → k < B) (hO : OpsAt w) (hT : SlS w S v t) (hP : PrU B b mg (Lib.byteCells l) w) (hz : l.length + (soL (mg.data.toList ++ [32, 32]) t).length ≤ 140737488355328) (hm : mg.size ≤ 140737488355328) :
    Calls Tryz.prog 76 #[.pointer (some ⟨b, 0, none⟩), v] w fun e w' => e = .returned (.tuple #[]) ∧ PrW B b mg (l ++ soL (mg.data.toList ++ [32, 32]) t) w w' := by
  obtain ⟨c2, lb⟩ := hP.cells
  have ff := hP.fz
  have h1 := (PrW.self hP).marg (mg' := mg ++ ⟨#[32, 32]⟩)
  have em : (mg ++ (⟨#[32, 32]⟩ : ByteArray)).data.toList = mg.data.toList ++ [32, 32] := by simp
  have bB := hP.le
  have nO : ¬ S b := fun h => by have := hS b h; omega
  have kS := kB B b (mg ++ ⟨#[32, 32]⟩) l S v _ (by simpa using hB) hG hS (fun j u e => (h1.2.1.cell hG).trans (hO j u e)) (hT.kp (Kp.set nO)) h1.1 (by rw [em]; exact hz)
  rw [em] at kS
  have z2 : (⟨#[32, 32]⟩ : ByteArray).size = 2 := rfl
  obtain ⟨nm, hnm⟩ : ∃ n, mg.size = n := ⟨_, rfl⟩
  have zm : nm ≤ 140737488355328 := by rw [← hnm]; exact hm
  have h1' : Hid (PrW B b (mg ++ ⟨#[32, 32]⟩) l w (w.setCell ⟨b, 2, none⟩ (.string (mg ++ ⟨#[32, 32]⟩)))) := h1
  obtain ⟨pp, qq, rfl, _⟩ := hT
  clear hP hO hS h1 hz hm em
  go_enter Tryz.func76, Tryz.ntmps76
  go_upto_region 3 with (first
    | (go_at_call 35; (refine kS.mono ?_); rintro e v1 ⟨rfl, h2⟩; have f2 := h2.1.fz; have h2' : Hid (PrW B b (mg ++ ⟨#[32, 32]⟩) (l ++ soL (mg.data.toList ++ [32, 32]) t) (w.setCell ⟨b, 2, none⟩ (.string (mg ++ ⟨#[32, 32]⟩))) v1) := h2; have c3 := h2.1.cells.1; clear h2)
    | fail)
  clear ff c2
  go_wp2_with fail
  exact bodyPost_end (v := .tuple #[]) (by simp [results, Tryz.results76, go_sem]) rfl ⟨rfl, (h1'.out.trans h2'.out).marg⟩
theorem pline_sit (ps : List ByteArray) (n cap : Nat) (hn : ps.length = n) (hn2 : n ≤ 1000000) {B b Bx : Nat} {cs : Array Value} {mg : ByteArray} {l : List UInt8} {w X : World} {S : Nat → Prop} {s : St} {p0 : Option Addr} {q0 : Nat} {p1 : Option Addr} {q1 : Nat} {p2 : Option Addr} {q2 : Nat} {p3 : Option Addr} {q3 : Nat} {p4 : Option Addr} {q4 : Nat} {p5 : Option Addr} {q5 : Nat} (h : SitP B b Bx cs mg l w X S s p0 q0 p1 q1 p2 q2 p3 q3 p4 q4 p5 q5) (V : World) (c : Nat) (g : Below X.heap.size X V) (q : V.heap[c]? = some (.cells (ps.map Value.string).toArray 9 (0, 0))) (hc : X.heap.size ≤ c) (hz : l.length + (mg.size + ((catL ps).length + 1)) ≤ 140737488355328) :
    Calls Tryz.prog 32 #[.pointer (some ⟨b, 0, none⟩), .slice (some ⟨c, 0, none⟩) n cap] V fun e w' => e = .returned (.tuple #[]) ∧ SitP B b Bx cs mg (l ++ (mg.data.toList ++ (catL ps ++ [10]))) w w' S s p0 q0 p1 q1 p2 q2 p3 q3 p4 q4 p5 q5 := by
  have hV := h.bel g
  have lb := h.W.1.cells.2
  refine (pline B b mg l ps c n cap _ 9 V hV.W.1 hV.sz hn q (by decide) (by omega) (fun j s hj => ?_) hz hn2).mono ?_
  · rw [List.getElem?_toArray, List.getElem?_map, hj]; rfl
  · rintro e w' ⟨rfl, k⟩
    exact ⟨rfl, hV.wr k⟩
theorem pwith_sit (t : So) (kB : SpB t) {B b Bx : Nat} {cs : Array Value} {mg : ByteArray} {l : List UInt8} {w V : World} {S : Nat → Prop} {s : St} {p0 : Option Addr} {q0 : Nat} {p1 : Option Addr} {q1 : Nat} {p2 : Option Addr} {q2 : Nat} {p3 : Option Addr} {q3 : Nat} {p4 : Option Addr} {q4 : Nat} {p5 : Option Addr} {q5 : Nat} (h : SitP B b Bx cs mg l w V S s p0 q0 p1 q1 p2 q2 p3 q3 p4 q4 p5 q5) (v : Value) (hT : SlS V S v t) (hz : l.length + (soL (mg.data.toList ++ [32, 32]) t).length ≤ 140737488355328) (hm : mg.size ≤ 140737488355328) :
    Calls Tryz.prog 76 #[.pointer (some ⟨b, 0, none⟩), v] V fun e w' => e = .returned (.tuple #[]) ∧ SitP B b Bx cs mg (l ++ soL (mg.data.toList ++ [32, 32]) t) w w' S s p0 q0 p1 q1 p2 q2 p3 q3 p4 q4 p5 q5 := by
  refine (pwithin t kB B b mg l S v V h.sz h.gO h.hS h.O hT h.W.1 hz hm).mono ?_
  rintro e w' ⟨rfl, k⟩
  exact ⟨rfl, h.wr k⟩
end Go.Proofs.YtknoibocpbfmmaaGreatDoor

