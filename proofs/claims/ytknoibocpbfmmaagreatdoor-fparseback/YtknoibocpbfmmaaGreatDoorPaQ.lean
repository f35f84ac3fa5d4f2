/- Statements: read. -/
import Derived.Test.YtknoibocpbfmmaaGreatDoorPaP
import Derived.Deep.MidRow
namespace Go.Proofs.YtknoibocpbfmmaaGreatDoor
open Go.RowKit
set_option linter.unusedVariables false
set_option linter.unusedSimpArgs false
/-- As Sit, of any block of what is told. -/
structure SitZ (Z : Obj) (b B p : Nat) (w V : World) (ts : List Tk) (o d : Int) : Prop where
  on : Onl b w V
  q : V.heap[p]? = some Z
  P : PAt V b B ts o d
  O : OpsAt V
  zp : w.heap.size ≤ p
  pb : p ≠ b
  pB : p ≠ B
  hG : b ≠ 0
  bl : b < w.heap.size
theorem SitZ.bel {Z : Obj} {b B p : Nat} {w V V' : World} {ts : List Tk} {o d : Int} (h : SitZ Z b B p w V ts o d) (hne : ts ≠ []) (g : Below V.heap.size V V') : SitZ Z b B p w V' ts o d :=
  ⟨h.on.below g, (g.block p (lt_of h.q)).trans h.q, h.P.bel hne g, h.O.bel g, h.zp, h.pb, h.pB, h.hG, h.bl⟩
theorem SitZ.onl {Z : Obj} {b B p : Nat} {w V V' : World} {ts us : List Tk} {o d o' d' : Int} (h : SitZ Z b B p w V ts o d) (g : Onl b V V') (P : PAt V' b B us o' d') : SitZ Z b B p w V' us o' d' :=
  ⟨h.on.trans g, (g.block p (lt_of h.q) h.pb).trans h.q, P, h.O.onl h.hG g, h.zp, h.pb, h.pB, h.hG, h.bl⟩
theorem SitZ.new {Z : Obj} {b B p : Nat} {w V : World} {ts : List Tk} {o d : Int} (h : SitZ Z b B p w V ts o d) (hne : ts ≠ []) (x : Obj) : SitZ Z b B p w (V.alloc x) ts o d := h.bel hne (pb_new (Below.refl _ _) _)
theorem SitZ.pl {Z : Obj} {b B p : Nat} {w V : World} {ts : List Tk} {o d : Int} (h : SitZ Z b B p w V ts o d) : p < V.heap.size := lt_of h.q
theorem SitZ.fr {Z : Obj} {b B p : Nat} {w V : World} {ts : List Tk} {o d : Int} (h : SitZ Z b B p w V ts o d) : ∀ k, Fr V.heap.size k → w.heap.size ≤ k ∧ k ≠ p := fun k a => by
  have h1 := h.zp
  have h2 := h.pl
  have h3 : V.heap.size ≤ k := a
  omega
theorem SitZ.nb {Z : Obj} {b B p : Nat} {w V : World} {ts : List Tk} {o d : Int} (h : SitZ Z b B p w V ts o d) : ¬ (w.heap.size ≤ b ∧ b ≠ p) := fun a => by have := h.bl; omega
theorem PAt.setN {b B c : Nat} {ts : List Tk} {o d : Int} (hb : c ≠ b) (hB : c ≠ B) {ys : List Value} {j : Nat} {W : World} (h : PAt W b B ts o d) : PAt (setN c j ys W) b B ts o d :=
  h.on (setN_far c b (fun e => hb e.symm) ys j W) (setN_far c B (fun e => hB e.symm) ys j W)
theorem SitZ.setN {Z : Obj} {b B p : Nat} {w V : World} {ts : List Tk} {o d : Int} (h : SitZ Z b B p w V ts o d) {c : Nat} (zc : w.heap.size ≤ c) (pc : p ≠ c) (cb : c ≠ b) (cB : c ≠ B) (j : Nat) (ys : List Value) : SitZ Z b B p w (setN c j ys V) ts o d := by
  refine ⟨setN_onl zc ys j h.on, (setN_far c p pc ys j V).trans h.q, h.P.setN cb cB, fun k v e => ?_, h.zp, h.pb, h.pB, h.hG, h.bl⟩
  have ne : 0 ≠ c := by have := h.bl; have := h.hG; have := h.zp; omega
  exact (cell_of_heap (setN_far c 0 ne ys j V)).trans (h.O k v e)
/-- All cells of a statement stored into the block of what is told. -/
theorem st_done {Z : Obj} {w V : World} {b B p : Nat} {us : List Tk} {o d : Int} (h : SitZ Z b B p w V us o d) {x : St} {v : Value} {S : Nat → Prop} (hs : StV V S v x) (h1 : ∀ k, S k → w.heap.size ≤ k) (h2 : ¬ S p) {e : Ending} (he : e = .returned v) {r : Rs St} (hr : r = .ok x us d) (ys : List Value) (j : Nat) :
    StR r b B o w e (setN p j ys V) := by
  subst hr
  refine ⟨setN_onl h.zp ys j h.on, v, he, (hs.kp (fun k a _ => setN_far p k (fun e => h2 (e ▸ a)) ys j V)).lo h1, h.P.setN h.pb h.pB⟩
theorem c17 {V : World} {c : Nat} {t : TypeId} {y0 y1 y2 y3 y4 y5 y6 y7 y8 y9 y10 y11 y12 y13 y14 y15 y16 : Value} (q : V.heap[c]? = some (.cells #[y0, y1, y2, y3, y4, y5, y6, y7, y8, y9, y10, y11, y12, y13, y14, y15, y16] t (0, 0))) : V.cell? ⟨c, 0, none⟩ = some y0 ∧ V.cell? ⟨c, 1, none⟩ = some y1 ∧ V.cell? ⟨c, 2, none⟩ = some y2 ∧ V.cell? ⟨c, 3, none⟩ = some y3 ∧ V.cell? ⟨c, 4, none⟩ = some y4 ∧ V.cell? ⟨c, 5, none⟩ = some y5 ∧ V.cell? ⟨c, 6, none⟩ = some y6 ∧ V.cell? ⟨c, 7, none⟩ = some y7 ∧ V.cell? ⟨c, 8, none⟩ = some y8 ∧ V.cell? ⟨c, 9, none⟩ = some y9 ∧ V.cell? ⟨c, 10, none⟩ = some y10 ∧ V.cell? ⟨c, 11, none⟩ = some y11 ∧ V.cell? ⟨c, 12, none⟩ = some y12 ∧ V.cell? ⟨c, 13, none⟩ = some y13 ∧ V.cell? ⟨c, 14, none⟩ = some y14 ∧ V.cell? ⟨c, 15, none⟩ = some y15 ∧ V.cell? ⟨c, 16, none⟩ = some y16 ∧ ∀ j, V.frozen? ⟨c, j, none⟩ = false :=
  ⟨by simp [World.cell?, q], by simp [World.cell?, q], by simp [World.cell?, q], by simp [World.cell?, q], by simp [World.cell?, q], by simp [World.cell?, q], by simp [World.cell?, q], by simp [World.cell?, q], by simp [World.cell?, q], by simp [World.cell?, q], by simp [World.cell?, q], by simp [World.cell?, q], by simp [World.cell?, q], by simp [World.cell?, q], by simp [World.cell?, q], by simp [World.cell?, q], by simp [World.cell?, q], fun j => by simp [World.frozen?, q]⟩
theorem wp_store_by {o : Oper} {a : Act} {w w' : World} {K : Act → World → Prop} {Q : Exit → Act → World → Prop} (ty : TypeId) (x y : Operand) (ho : o.op = .store ty x y) (p v : Value) (hx : a.eval x = p) (hy : a.eval y = v) (hr : (Instr.storeAt ty p v).run Tryz.prog w = .ok () w') (h : K (a.put o.dst undef) w') : o.wp Tryz.prog a w K Q := by
  unfold Oper.wp execOp
  simp only [ho, hx, hy, Sem.run_bind, hr, Result.andThen_ok]
  exact h
theorem rg17 {V : World} {c : Nat} {cs : List Value} {t : TypeId} (q : V.heap[c]? = some (.cells cs.toArray t (0, 0))) : V.rangeAt c 0 cs := fun j v h => by
  rw [Nat.zero_add]
  simp [World.cell?, q, h]
set_option maxRecDepth 100000 in
theorem rs17 {V : World} {c : Nat} {cs : List Value} {t : TypeId} (q : V.heap[c]? = some (.cells cs.toArray t (0, 0))) (hl : cs.length = 17) : (loadVar 87 ⟨c, 0, none⟩).run Tryz.prog V = .ok (.agg cs.toArray) V := by
  have hl' : (loadCells ⟨c, 0, none⟩ 17).run Tryz.prog V = .ok cs.toArray V := by
    have := run_loadCells_list (P := Tryz.prog) V ⟨c, 0, none⟩ cs (fun j v hv => by rw [Addr.add_mid]; exact rg17 q j v hv)
    rw [hl] at this
    exact this
  have ha : (isAgg 87).run Tryz.prog V = .ok true V := by kernel_rfl
  have hz : (sizeOf 87).run Tryz.prog V = .ok 17 V := by kernel_rfl
  simp only [loadVar, Sem.run_bind, Sem.run_pure, Result.andThen, ha, hz, hl', if_true]
theorem ld17 {V : World} {c : Nat} {cs : List Value} {t : TypeId} (q : V.heap[c]? = some (.cells cs.toArray t (0, 0))) (hl : cs.length = 17) : (Instr.loadAt 87 (.pointer (some ⟨c, 0, none⟩))).run Tryz.prog V = .ok (.agg cs.toArray) V := by
  simp only [Instr.loadAt, Instr.sureAddr, Sem.run_bind, Sem.run_pure, Result.andThen, rs17 q hl]
theorem res17 {fn : Func} {a : Array Value} {V : World} {c k : Nat} {v : Value} (hf : fn.results = #[.cell k 87]) (ha : a.getD k undef = .pointer (some ⟨c, 0, none⟩)) (rs : (loadVar 87 ⟨c, 0, none⟩).run Tryz.prog V = .ok v V) : (results fn a).run Tryz.prog V = .ok v V := by
  unfold results
  rw [hf]
  simp [-Array.getD_eq_getD_getElem?, ha, asAddr, rs]
set_option maxRecDepth 100000 in
theorem info17 : (Tryz.prog.info? 87).map (·.size) = some 17 := by kernel_rfl
theorem setCells_setN (p : Nat) : ∀ (ys : List Value) (j : Nat) (V : World), V.setCells p j ys = setN p j ys V
  | [], _, _ => rfl
  | y :: ys, j, V => setCells_setN p ys (j + 1) _
theorem st17 {V : World} {p : Nat} {cs : List Value} {old : Array Value} {t : TypeId} (q : V.heap[p]? = some (.cells old t (0, 0))) (ho : old.size = 17) (hl : cs.length = 17) (h1 : ∀ v ∈ cs, v.oneCell' = true) : (Instr.storeAt 87 (.pointer (some ⟨p, 0, none⟩)) (.agg cs.toArray)).run Tryz.prog V = .ok () (setN p 0 cs V) := by
  have h := run_storeAt_mid (P := Tryz.prog) V p 0 87 cs.toArray (fun j hj => by
    rw [Nat.zero_add]
    have hj' : j < old.size := by rw [ho]; rw [List.size_toArray, hl] at hj; exact hj
    refine ⟨?_, by simp [World.frozen?, q]⟩
    rw [show V.cell? ⟨p, j, none⟩ = old[j]? by simp [World.cell?, q], Array.getElem?_eq_getElem hj']
    rfl) (by rw [List.size_toArray, hl]; exact info17) (all_oneCell_toArray h1)
  rw [← setCells_setN]
  exact h
theorem setN_heap (p : Nat) (t : TypeId) (z : Nat × Nat) : ∀ (ys : List Value) (j : Nat) (V : World) (xs : Array Value), V.heap[p]? = some (.cells xs t z) → ∃ xs', (setN p j ys V).heap[p]? = some (.cells xs' t z) ∧ xs'.size = xs.size ∧ ∀ k, xs'[k]? = if j ≤ k ∧ k < j + ys.length ∧ k < xs.size then ys[k - j]? else xs[k]?
  | [], j, V, xs, q => ⟨xs, q, rfl, fun k => by rw [if_neg (by simp; omega)]⟩
  | y :: ys, j, V, xs, q => by
    obtain ⟨xs', q', e1, e2⟩ := setN_heap p t z ys (j + 1) (V.setCell ⟨p, j, none⟩ y) _ (at_set q j y)
    refine ⟨xs', q', by rw [e1]; simp, fun k => ?_⟩
    rw [e2 k]
    simp only [Array.size_setIfInBounds, List.length_cons, Array.getElem?_setIfInBounds]
    by_cases c : k = j
    · subst c
      by_cases d : k < xs.size
      · rw [if_neg (by omega), if_pos rfl, if_pos d, if_pos (by omega), Nat.sub_self]
        rfl
      · rw [if_neg (by omega), if_pos rfl, if_neg d, if_neg (by omega)]
        exact (Array.getElem?_eq_none (by omega)).symm
    · by_cases d : j + 1 ≤ k ∧ k < j + 1 + ys.length ∧ k < xs.size
      · rw [if_pos d, if_pos (by omega), show k - j = k - (j + 1) + 1 by omega]
        rfl
      · rw [if_neg d, if_neg (fun e => c e.symm), if_neg (by omega)]
theorem setN17 {V : World} {p : Nat} {cs : List Value} {old : Array Value} {t : TypeId} (q : V.heap[p]? = some (.cells old t (0, 0))) (ho : old.size = 17) (hl : cs.length = 17) : (setN p 0 cs V).heap[p]? = some (.cells cs.toArray t (0, 0)) := by
  obtain ⟨xs', q', e1, e2⟩ := setN_heap p t (0, 0) cs 0 V old q
  rw [q']
  congr 2
  apply Array.ext
  · rw [e1, ho, List.size_toArray, hl]
  · intro k h1 h2
    have := e2 k
    rw [if_pos ⟨by omega, by rw [List.size_toArray] at h2; omega, by omega⟩, Array.getElem?_eq_getElem h1, Nat.sub_zero] at this
    rw [List.size_toArray] at h2
    rw [List.getElem?_eq_getElem h2] at this
    simpa using Option.some.inj this
theorem name_yes {α : Type} {t : Tk} {us : List Tk} {f : ByteArray → List Tk → Rs α} (h : t.1 = 1) : nameP (t :: us) f = f t.2.1 us := if_pos h
theorem name_no {α : Type} {t : Tk} {us : List Tk} {f : ByteArray → List Tk → Rs α} (h : t.1 ≠ 1) : nameP (t :: us) f = .bad t.2.2 := if_neg h
end Go.Proofs.YtknoibocpbfmmaaGreatDoor
