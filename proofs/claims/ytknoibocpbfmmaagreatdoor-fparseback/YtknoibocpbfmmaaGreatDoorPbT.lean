/- program: rows of declarations and of statements. -/
import Derived.Test.YtknoibocpbfmmaaGreatDoorPbS
namespace Go.Proofs.YtknoibocpbfmmaaGreatDoor
open Go.RowKit
set_option linter.unusedVariables false
set_option linter.unusedSimpArgs false
/-- What a program comes to. -/
def PgR (r : Rs Pg) (b B : Nat) (w : World) (e : Ending) (w' : World) : Prop :=
  Onl b w w' ∧ match r with
  | .ok x us d => ∃ dv bv, e = .returned (.agg #[dv, bv]) ∧ SlDc w' dv x.1 ∧ SlS w' (Fr w.heap.size) bv x.2 ∧ (∀ k, dv.ownBlock = some k → w.heap.size ≤ k) ∧ PAt w' b B us 0 d
  | .bad p => Fault 4 p e
  | .more => True
theorem Onl.ons {b : Nat} {S : Nat → Prop} {x y : World} (h : Onl b x y) (hb : S b) : OnS S x y := ⟨h.os, h.tape, h.output, h.size, fun k hk hn => h.block k hk (fun e => hn (e ▸ hb))⟩
theorem OnS.onl {b : Nat} {S : Nat → Prop} {x y : World} (h : OnS S x y) (hb : ∀ k, k < x.heap.size → S k → k = b) : Onl b x y := ⟨h.os, h.tape, h.output, h.size, fun k hk hn => h.block k hk (fun e => hn (hb k hk e))⟩
theorem OnS.grown {S : Nat → Prop} {x y z : World} {row : Option Nat} (h : OnS S x y) (g : y.grownBy z row) (hr : ∀ k, row = some k → S k ∨ x.heap.size ≤ k) : OnS S x z :=
  ⟨g.os.trans h.os, g.tape.trans h.tape, g.output.trans h.output, Nat.le_trans h.size g.size, fun k hk hb => (g.block k (Nat.lt_of_lt_of_le hk h.size) (fun e => by rcases hr k e.symm with q | q; exact hb q; omega)).trans (h.block k hk hb)⟩
theorem OnS.thn {S S' : Nat → Prop} {x y z : World} (h : OnS S x y) (g : OnS S' y z) (hs : ∀ k, k < x.heap.size → S' k → S k) : OnS S x z :=
  ⟨g.os.trans h.os, g.tape.trans h.tape, g.output.trans h.output, Nat.le_trans h.size g.size, fun k hk hb => (g.block k (Nat.lt_of_lt_of_le hk h.size) (fun e => hb (hs k hk e))).trans (h.block k hk hb)⟩
theorem OnS.kp {S lo : Nat → Prop} {W V : World} (h : OnS S W V) (hb : ∀ k, lo k → ¬ S k) : Kp lo W V := fun k h1 h2 => h.block k h2 (hb k h1)
theorem OpsAt.ons {W V : World} {S : Nat → Prop} (h : OpsAt W) (hb : ¬ S 0) (k : OnS S W V) : OpsAt V := fun j v e => k.cell hb (h j v e)
theorem EvAt.ons {W V : World} {S : Nat → Prop} (h : EvAt W) (hb : ¬ S 3) (k : OnS S W V) : EvAt V := by
  obtain ⟨ev, h1, h2⟩ := h
  exact ⟨ev, k.cell hb h1, h2⟩
theorem OpsAt.gl {W : World} (h : OpsAt W) : 0 < W.heap.size := World.block_lt_of_cell? W _ (h 0 _ rfl)
theorem EvAt.gl {W : World} (h : EvAt W) : 3 < W.heap.size := by
  obtain ⟨ev, h1, h2⟩ := h
  exact World.block_lt_of_cell? W _ h1
theorem PAt.ons {W V : World} {b B : Nat} {ts : List Tk} {o d : Int} {S : Nat → Prop} (h : PAt W b B ts o d) (hne : ts ≠ []) (k : OnS S W V) (hb : ¬ S b) (hB : ¬ S B) : PAt V b B ts o d := h.on (k.block b h.lt hb) (k.block B (h.ltB hne) hB)
theorem own_ons {S : Nat → Prop} {w w1 : World} {base n size : Nat} {e : TypeId} {v : Value} {xs : List Value} (hb : OnS S w w1) (h : w.ownsRow base e size v n xs) (hs : ∀ k, v.ownBlock = some k → ¬ S k) : w1.ownsRow base e size v n xs := po_same h (fun k hk => hb.block k (h.lt k hk).2 (hs k hk))
/-- Declarations' cells. -/
def dcl : List Dc → List Value
  | [] => []
  | x :: l => .string x.1 :: .int .i64 x.2.1 :: .int .i64 x.2.2 :: dcl l
theorem dcl_snoc (x : Dc) : ∀ l : List Dc, dcl (l ++ [x]) = dcl l ++ [.string x.1, .int .i64 x.2.1, .int .i64 x.2.2]
  | [] => rfl
  | y :: l => by rw [List.cons_append, dcl, dcl, dcl_snoc x l]; rfl
theorem dcl_at : ∀ (l : List Dc) (j : Nat) (d : Dc), l[j]? = some d → (dcl l)[j * 3]? = some (.string d.1) ∧ (dcl l)[j * 3 + 1]? = some (.int .i64 d.2.1) ∧ (dcl l)[j * 3 + 2]? = some (.int .i64 d.2.2)
  | [], j, d, h => by simp at h
  | x :: l, 0, d, h => by simp at h; subst h; exact ⟨rfl, rfl, rfl⟩
  | x :: l, j + 1, d, h => by
    rw [List.getElem?_cons_succ] at h
    have := dcl_at l j d h
    rw [show (j + 1) * 3 = j * 3 + 1 + 1 + 1 by omega]
    exact this
theorem own_dc {V : World} {base : Nat} {e : TypeId} {v : Value} {ls : List Dc} (own : V.ownsRow base e 3 v ls.length (dcl ls)) : SlDc V v ls := by
  rcases own.2 with ⟨rfl, h0⟩ | ⟨g, cap, cur, rfl, hb, hg, _, _, _, hx⟩
  · exact ⟨none, 0, by rw [h0], Or.inl (List.length_eq_zero_iff.1 h0)⟩
  · refine ⟨some ⟨g, 0, none⟩, cap, rfl, Or.inr ⟨g, 0, rfl, fun j d hd => ?_⟩⟩
    have hc : ∀ i u, (dcl ls)[i]? = some u → V.cell? ⟨g, i, none⟩ = some u := fun i u hu => by
      rw [← hx, List.getElem?_take] at hu
      split at hu
      · rw [show V.cell? ⟨g, i, none⟩ = cur[i]? by simp [World.cell?, hg]]
        simpa using hu
      · cases hu
    obtain ⟨h1, h2, h3⟩ := dcl_at ls j d hd
    rw [Nat.zero_add]
    exact ⟨hc _ _ h1, hc _ _ h2, hc _ _ h3⟩
theorem SlDc.same {W V : World} {v : Value} {ds : List Dc} (h : SlDc W v ds) (hb : ∀ k, v.ownBlock = some k → V.heap[k]? = W.heap[k]?) : SlDc V v ds := by
  obtain ⟨p, q, rfl, h⟩ := h
  refine ⟨p, q, rfl, h.imp id ?_⟩
  rintro ⟨c, u, rfl, k⟩
  have e : V.heap[c]? = W.heap[c]? := hb c rfl
  exact ⟨c, u, rfl, fun j d hj => ⟨(cell_of_heap e).trans (k j d hj).1, (cell_of_heap e).trans (k j d hj).2.1, (cell_of_heap e).trans (k j d hj).2.2⟩⟩
theorem dc_info : (Tryz.prog.info? 53).map (fun i => (i.zero, i.size, i.bytes)) = some (some (.agg #[.string ⟨#[]⟩, .int .i64 0, .int .i64 0]), 3, 32) := by kernel_rfl
theorem dc_one (x : Dc) : ∀ u ∈ [Value.string x.1, .int .i64 x.2.1, .int .i64 x.2.2], u.oneCell' = true := by
  intro u hu; simp at hu; rcases hu with rfl | rfl | rfl <;> rfl
theorem dc_cell {W : World} {c : Nat} {y0 y1 y2 : Value} {t : TypeId} (q : W.heap[c]? = some (.cells #[y0, y1, y2] t (0, 0))) : ∀ j u, [y0, y1, y2][j]? = some u → W.cell? (Addr.add ⟨c, 0, none⟩ j) = some u := by
  intro j u h
  rw [Addr.add_mid, Nat.zero_add]
  rw [show W.cell? ⟨c, j, none⟩ = (#[y0, y1, y2] : Array Value)[j]? by simp [World.cell?, q]]
  simpa using h
/-- Between two rounds of the declarations. -/
structure DsI (b B g : Nat) (W V : World) (R : Rs (List Dc)) (ls : List Dc) (us : List Tk) (v : Value) : Prop where
  on : OnS (fun k => k = b ∨ k = g) W V
  qg : V.heap[g]? = some (.cells #[v, .slice none 0 0] 25 (0, 0))
  P : PAt V b B us 0 0
  own : V.ownsRow W.heap.size 53 3 v ls.length (dcl ls)
  hR : ∃ k, R = (dsP k us 0).thn fun l ts d => .ok (ls ++ l) ts d
  z : Tz us
  dz : Dz us
  ln : ls.length + us.length ≤ 1000000
/-- Behind n of load, call, row, append. -/
def PhD (b B n0 : Nat) (us us2 : List Tk) (v : Value) (ls : List Dc) (n : Nat) (w : World) : Prop := PAt w b B (if n = 0 then us else us2) 0 0 ∧ (n < 3 → w.ownsRow n0 53 3 v ls.length (dcl ls))
theorem PhD.ons {b B n0 : Nat} {us us2 : List Tk} {v : Value} {ls : List Dc} {n n' : Nat} {w w' : World} (h : PhD b B n0 us us2 v ls n w) (h1 : us ≠ []) (h2 : us2 ≠ []) (g : Below w.heap.size w w') (hn : (n = 0 ↔ n' = 0) ∧ n ≤ n') : PhD b B n0 us us2 v ls n' w' := by
  refine ⟨?_, fun a => po_on g (h.2 (by omega))⟩
  have := h.1
  by_cases e : n = 0
  · rw [if_pos e] at this
    rw [if_pos (hn.1.1 e)]
    exact this.bel h1 g
  · rw [if_neg e] at this
    rw [if_neg (fun a => e (hn.1.2 a))]
    exact this.bel h2 g
theorem DsI.bel {b B g : Nat} {W V V' : World} {R : Rs (List Dc)} {ls : List Dc} {us : List Tk} {v : Value} (h : DsI b B g W V R ls us v) (k : Below V.heap.size V V') : DsI b B g W V' R ls us v :=
  ⟨h.on.below k, (k.block g (lt_of h.qg)).trans h.qg, h.P.bel h.z.ne k, po_on k h.own, h.hR, h.z, h.dz, h.ln⟩
theorem ds_step {b B g k : Nat} {W V wz : World} {R : Rs (List Dc)} {ls : List Dc} {us us2 : List Tk} {x : Dc} {v y : Value} (hI : DsI b B g W V R ls us v) (hR : R = (dsP k us2 0).thn fun l ts d => .ok (ls ++ [x] ++ l) ts d) (hb : OnS (fun c => c = b ∨ (0 < 3 ∧ some c = v.ownBlock)) V wz) (hP : PAt wz b B us2 0 0)
    (own : wz.ownsRow W.heap.size 53 3 y (ls.length + 1) (dcl ls ++ [.string x.1, .int .i64 x.2.1, .int .i64 x.2.2])) (z2 : Tz us2 ∧ us2.length < us.length) (dz2 : Dz us2) (bg : g ≠ b) (Bg : g ≠ B) (gW : g < W.heap.size) :
    DsI b B g W (wz.setCell ⟨g, 0, none⟩ y) R (ls ++ [x]) us2 y ∧ msR b (wz.setCell ⟨g, 0, none⟩ y) = us2.length := by
  have hq : wz.heap[g]? = some (.cells #[v, .slice none 0 0] 25 (0, 0)) := (hb.block g (lt_of hI.qg) (fun a => a.elim bg (fun q => by have := (hI.own.lt g q.2.symm).1; omega))).trans hI.qg
  have hP2 := hP.far (c := g) (j := 0) bg Bg y
  refine ⟨⟨?_, ?_, hP2, ?_, ⟨k, hR⟩, z2.1, dz2, ?_⟩, hP2.ms⟩
  · exact (hI.on.thn hb (fun c hc a => a.imp id (fun q => by have := (hI.own.lt c q.2.symm).1; omega))).set (Or.inl (Or.inr rfl)) y
  · have := at_set hq 0 y
    simpa using this
  · rw [List.length_append, dcl_snoc]
    exact po_same own (fun c hc => Below.heap_setCell _ _ _ _ (fun e => by have e' : c = g := e; have := (own.lt c hc).1; omega))
  · have := hI.ln; have := z2.2; rw [List.length_append]; simp; omega
theorem drop_tail {α : Type} (l : List α) (j : Nat) : (l.drop j).tail = l.drop (j + 1) := by rw [List.tail_drop]
theorem want_ok {α : Type} {s : ByteArray} {ts : List Tk} {f : List Tk → Rs α} {x : α} {us : List Tk} {d : Int} (h : want s ts f = .ok x us d) : f ts.tail = .ok x us d := by
  unfold want at h
  split at h
  · exact h
  · cases h
/-- What a declaration leaves. -/
theorem dc_left {ts us : List Tk} {d d' : Int} {x : Dc} (h : dcP ts d = .ok x us d') : d' = d ∧ ∃ j, us = ts.drop j := by
  unfold dcP at h
  split at h
  · unfold nameP at h
    split at h
    · dsimp only at h
      split at h
      · split at h
        · have h2 := want_ok (want_ok h)
          cases h2
          refine ⟨rfl, 6, ?_⟩
          simp only [← List.drop_one, List.drop_drop]
        · cases h
      · have h2 := want_ok h
        cases h2
        refine ⟨rfl, 3, ?_⟩
        simp only [← List.drop_one, List.drop_drop]
    · cases h
  · cases h
theorem Dz.drop {ts : List Tk} (h : Dz ts) (j : Nat) : Dz (ts.drop j) := fun t ht => h t (List.mem_of_mem_drop ht)
/-- Between two rounds of the statements. -/
structure SsI (b B g : Nat) (W V : World) (R : Rs So) (dv : Value) (ls : List St) (us : List Tk) (d : Int) (v : Value) (xs : List Value) : Prop where
  on : OnS (fun k => k = b ∨ k = g) W V
  qg : V.heap[g]? = some (.cells #[dv, v] 25 (0, 0))
  P : PAt V b B us 0 d
  own : V.ownsRow W.heap.size 87 17 v ls.length xs
  tr : CsAt V (fun k => W.heap.size ≤ k ∧ some k ≠ v.ownBlock) ls xs
  hR : ∃ k, R = (ssP k us d).thn fun l ts d => .ok (appS ls l) ts d
  z : Tz us
  ln : ls.length + us.length ≤ 1000000
theorem SsI.bel {b B g : Nat} {W V V' : World} {R : Rs So} {dv : Value} {ls : List St} {us : List Tk} {d : Int} {v : Value} {xs : List Value} (h : SsI b B g W V R dv ls us d v xs) (k : Below V.heap.size V V') : SsI b B g W V' R dv ls us d v xs :=
  ⟨h.on.below k, (k.block g (lt_of h.qg)).trans h.qg, h.P.bel h.z.ne k, po_on k h.own, h.tr.kp (Below.kp k _), h.hR, h.z, h.ln⟩
/-- Behind n of load, call, row, append. -/
def PhS (b B n0 : Nat) (us us2 : List Tk) (d d2 : Int) (v : Value) (m : Nat) (xs : List Value) (n : Nat) (w : World) : Prop := PAt w b B (if n = 0 then us else us2) 0 (if n = 0 then d else d2) ∧ (n < 3 → w.ownsRow n0 87 17 v m xs)
theorem PhS.ons {b B n0 m : Nat} {us us2 : List Tk} {d d2 : Int} {v : Value} {xs : List Value} {n n' : Nat} {w w' : World} (h : PhS b B n0 us us2 d d2 v m xs n w) (h1 : us ≠ []) (h2 : us2 ≠ []) (g : Below w.heap.size w w') (hn : (n = 0 ↔ n' = 0) ∧ n ≤ n') : PhS b B n0 us us2 d d2 v m xs n' w' := by
  refine ⟨?_, fun a => po_on g (h.2 (by omega))⟩
  have := h.1
  by_cases e : n = 0
  · rw [if_pos e, if_pos e] at this
    rw [if_pos (hn.1.1 e), if_pos (hn.1.1 e)]
    exact this.bel h1 g
  · rw [if_neg e, if_neg e] at this
    rw [if_neg (fun a => e (hn.1.2 a)), if_neg (fun a => e (hn.1.2 a))]
    exact this.bel h2 g
theorem st_cells {W : World} {c : Nat} {CS : List Value} {t : TypeId} (q : W.heap[c]? = some (.cells CS.toArray t (0, 0))) : ∀ j u, CS[j]? = some u → W.cell? (Addr.add ⟨c, 0, none⟩ j) = some u := by
  intro j u h
  rw [Addr.add_mid, Nat.zero_add]
  simp [World.cell?, q, h]
theorem ss_step {b B g k : Nat} {W V wz : World} {R : Rs So} {dv : Value} {ls : List St} {us us2 : List Tk} {d d2 : Int} {x : St} {v y : Value} {xs CS : List Value} (hI : SsI b B g W V R dv ls us d v xs) (hR : R = (ssP k us2 d2).thn fun l ts d => .ok (appS (ls ++ [x]) l) ts d) (hb : OnS (fun c => c = b ∨ (0 < 3 ∧ some c = v.ownBlock)) V wz) (hP : PAt wz b B us2 0 d2)
    (own : wz.ownsRow W.heap.size 87 17 y (ls.length + 1) (xs ++ CS)) (lC : CS.length = 17) (kS : StV wz (fun k => V.heap.size ≤ k ∧ some k ≠ y.ownBlock) (.agg CS.toArray) x) (hat : y.ownBlock = v.ownBlock ∨ ∃ k, y.ownBlock = some k ∧ V.heap.size ≤ k) (z2 : Tz us2 ∧ us2.length < us.length) (bg : g ≠ b) (Bg : g ≠ B) (bW : b < W.heap.size) (gW : g < W.heap.size) :
    SsI b B g W (wz.setCell ⟨g, 1, none⟩ y) R dv (ls ++ [x]) us2 d2 y (xs ++ CS) ∧ msR b (wz.setCell ⟨g, 1, none⟩ y) = us2.length := by
  have hq : wz.heap[g]? = some (.cells #[dv, v] 25 (0, 0)) := (hb.block g (lt_of hI.qg) (fun a => a.elim bg (fun q => by have := (hI.own.lt g q.2.symm).1; omega))).trans hI.qg
  have hP2 := hP.far (c := g) (j := 1) bg Bg y
  have sz := hI.on.size
  refine ⟨⟨?_, ?_, hP2, ?_, ?_, ⟨k, hR⟩, z2.1, ?_⟩, hP2.ms⟩
  · exact (hI.on.thn hb (fun c hc a => a.imp id (fun q => by have := (hI.own.lt c q.2.symm).1; omega))).set (Or.inl (Or.inr rfl)) y
  · have := at_set hq 1 y
    simpa using this
  · rw [List.length_append]
    exact po_same own (fun c hc => Below.heap_setCell _ _ _ _ (fun e => by have e' : c = g := e; have := (own.lt c hc).1; omega))
  · refine CsAt.kp (Kp.set (c := g) (j := 1) (v := y) (fun a => by have := a.1; omega)) ?_
    refine CsAt.snoc lC (kS.lo (fun c a => ⟨by have := a.1; omega, a.2⟩)) ?_
    refine ((hI.tr.lt).kp (hb.kp (fun c a e => ?_))).lo (fun c a => ⟨a.1.1, fun e => ?_⟩)
    · rcases e with e | e
      · have := a.1.1; omega
      · exact a.1.2 e.2
    · rcases hat with h | ⟨i, h, hi⟩
      · rw [h] at e; exact a.1.2 e
      · rw [h] at e; have := Option.some.inj e; have := a.2; omega
  · have := hI.ln; have := z2.2; rw [List.length_append]; simp; omega
end Go.Proofs.YtknoibocpbfmmaaGreatDoor

