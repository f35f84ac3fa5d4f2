/- Texts of the proof, put together. -/
import Derived.Test.YtknoibocpbfmmaaGreatDoorWPbM
import Derived.Lib.Builder
import Derived.Lib.AppendStr
import Derived.Lib.UnsafeStr
import Derived.Lib.OthersKept
import Derived.Test.YtknoibocpbfmmaaGreatDoorWPeC
import Derived.Test.YtknoibocpbfmmaaGreatDoorWG12
namespace Go.Proofs.YtknoibocpbfmmaaGreatDoor
open Go.RowKit
set_option linter.unusedVariables false
set_option linter.unusedSimpArgs false
/-- A printer in its block: what it has written (in a row of its own), its margin. -/
def PrAt (B b : Nat) (p : Value) (mg : ByteArray) (bs : List Value) (w : World) : Prop :=
 B ≤ b ∧ ∃ v, w.heap[b]? = some (.cells #[p, v, .string mg] 69 (0, 0)) ∧ w.ownsRow B 5 1 v bs.length bs ∧ v.ownBlock ≠ some b
/-- .. not written on yet, or written on. -/
def PrU (B b : Nat) (mg : ByteArray) (bs : List Value) (w : World) : Prop := PrAt B b (.pointer none) mg bs w ∨ PrAt B b (.pointer (some ⟨b, 0, none⟩)) mg bs w
theorem PrAt.cells {B b : Nat} {p : Value} {mg : ByteArray} {bs : List Value} {w : World} (h : PrAt B b p mg bs w) : w.cell? ⟨b, 0, none⟩ = some p ∧ w.cell? ⟨b, 2, none⟩ = some (.string mg) ∧ (∀ k, w.frozen? ⟨b, k, none⟩ = false) ∧ w.shape? b = some (69, 3) ∧ b < w.heap.size := by
 obtain ⟨_, v, hb, _⟩ := h
 exact ⟨by simp [World.cell?, hb], by simp [World.cell?, hb], fun k => by simp [World.frozen?, hb], by simp [World.shape?, hb], lt_of hb⟩
theorem pr_builder : (Tryz.prog.info? 67).map (fun i => i.size) = some 2 := by kernel_rfl
theorem pr_lies : liesAt Tryz.prog Tryz.prog.depth 69 (3 / Tryz.prog.cellsOf 69) 0 67 1 = true := by kernel_rfl
theorem pr_ptr : Tryz.prog.underlying 64 = some (.pointer 67) := by kernel_rfl
theorem pr_uns : Tryz.prog.underlying 128 = some .unsafePointer := by kernel_rfl
set_option maxRecDepth 100000 in
set_option maxHeartbeats 1600000 in
theorem pr_check_used (b : Nat) (w : World) (h0 : w.cell? ⟨b, 0, none⟩ = some (.pointer (some ⟨b, 0, none⟩))) :
  Calls Tryz.prog 72 #[.pointer (some ⟨b, 0, none⟩)] w fun e w' => e = .returned (.tuple #[]) ∧ w' = w := by
 obtain ⟨j, hj, _⟩ := Option.map_eq_some_iff.1 pr_builder
 go_enter Tryz.func72, Tryz.ntmps72
 go_wp2
 rw [Lib.run_neq_ptr_same w _ pr_ptr hj]
 go_wp2
 go_end0
 exact ⟨rfl, rfl⟩
set_option maxRecDepth 100000 in
set_option maxHeartbeats 1600000 in
theorem pr_check_fresh (b : Nat) (w : World) (h0 : w.cell? ⟨b, 0, none⟩ = some (.pointer none)) (hsh : w.shape? b = some (69, 3)) (hfz : w.frozen? ⟨b, 0, none⟩ = false) :
  Calls Tryz.prog 72 #[.pointer (some ⟨b, 0, none⟩)] w fun e w' => e = .returned (.tuple #[]) ∧ w' = w.setCell ⟨b, 0, none⟩ (.pointer (some ⟨b, 0, none⟩)) := by
 obtain ⟨j, hj, hjs⟩ := Option.map_eq_some_iff.1 pr_builder
 go_enter Tryz.func72, Tryz.ntmps72
 go_wp2
 rw [Lib.run_to_unsafe w ⟨b, 0, none⟩ pr_ptr pr_uns hj (by rw [hjs]; decide) hsh (Nat.zero_lt_succ 2)]
 simp only [Result.andThen]
 rw [Oper.upon_value]
 go_wp2
 rw [run_callFunc_extern Tryz.func91 (by kernel_rfl) (by kernel_rfl) (by kernel_rfl) (e := Extern.AbiNoEscape.same) (by kernel_rfl)]
 rw [Lib.run_noEscape]
 simp only [Result.andThen]
 rw [Oper.upon_value]
 go_wp2
 rw [Lib.run_from_unsafe w ⟨b, 0, none⟩ pr_uns pr_ptr hj hsh pr_lies]
 simp only [Result.andThen]
 rw [Oper.upon_value]
 go_wp2
 go_end0
 exact ⟨rfl, rfl⟩
theorem PrAt.used {B b : Nat} {p q : Value} {mg : ByteArray} {bs : List Value} {w : World} (h : PrAt B b p mg bs w) : PrAt B b q mg bs (w.setCell ⟨b, 0, none⟩ q) := by
 obtain ⟨hB, v, hb, hown, hne⟩ := h
 refine ⟨hB, v, ?_, ?_, hne⟩
 ·simp [World.setCell, Array.getElem?_modify, hb]
 ·refine hown.kept (row := some b) ⟨rfl, rfl, rfl, by simp [World.setCell], fun k _ hk => Below.heap_setCell _ _ _ _ (fun e => hk (by simp [e]))⟩ ?_
  exact Or.inr hne
theorem pr_check (B b : Nat) (mg : ByteArray) (bs : List Value) (w : World) (h : PrU B b mg bs w) :
  Calls Tryz.prog 72 #[.pointer (some ⟨b, 0, none⟩)] w fun e w' => e = .returned (.tuple #[]) ∧ PrAt B b (.pointer (some ⟨b, 0, none⟩)) mg bs w' ∧ Below B w w' ∧ Lib.OthersKept 5 (some b) w w' := by
 rcases h with h | h
 ·obtain ⟨c0, _, ff, sh, _⟩ := h.cells
  refine (pr_check_fresh b w c0 sh (ff 0)).mono ?_
  rintro e w' ⟨rfl, rfl⟩
  exact ⟨rfl, h.used, (Below.refl B w).setCell (p := ⟨b, 0, none⟩) h.1 _, (Lib.OthersKept.refl _ _ w).setCell ⟨b, 0, none⟩ rfl _⟩
 ·refine (pr_check_used b w h.cells.1).mono ?_
  rintro e w' ⟨rfl, rfl⟩
  exact ⟨rfl, h, Below.refl B _, Lib.OthersKept.refl _ _ _⟩
theorem PrAt.put {B b : Nat} {p v v' : Value} {mg : ByteArray} {bs' : List Value} {w : World} (hB : B ≤ b) (hb : w.heap[b]? = some (.cells #[p, v, .string mg] 69 (0, 0))) (hown : w.ownsRow B 5 1 v' bs'.length bs') :
  PrAt B b p mg bs' (w.setCell ⟨b, 1, none⟩ v') := by
 have hne := Lib.ownBlock_ne hown hb (by decide)
 refine ⟨hB, v', ?_, ?_, hne⟩
 ·simp [World.setCell, Array.getElem?_modify, hb]
 ·exact hown.kept (row := some b) ⟨rfl, rfl, rfl, by simp [World.setCell], fun k _ hk => Below.heap_setCell _ _ _ _ (fun e => hk (by simp [e]))⟩ (Or.inr hne)
theorem pr_info : (Tryz.prog.info? 5).map (fun i => (i.zero, i.size, i.bytes)) = some (some (.int .u8 0), 1, 1) := by kernel_rfl
theorem pr_sl : Tryz.prog.underlying 65 = some (.slice 5) := by kernel_rfl
theorem pr_str : Tryz.prog.underlying 9 = some .string := by kernel_rfl
set_option maxRecDepth 100000 in
set_option maxHeartbeats 3200000 in
/-- What is written is behind what was. -/
theorem pr_write (B b : Nat) (mg : ByteArray) (bs : List Value) (s : ByteArray) (w : World) (h : PrU B b mg bs w) (hlen : bs.length + s.size ≤ 140737488355328) (hBw : B ≤ w.heap.size) :
  Calls Tryz.prog 56 #[.pointer (some ⟨b, 0, none⟩), .string s] w fun e w' => e = .returned (.tuple #[.int .i64 s.size, .nilIface]) ∧ PrAt B b (.pointer (some ⟨b, 0, none⟩)) mg (bs ++ Lib.strCells s) w' ∧ Below B w w' ∧ Lib.OthersKept 5 (some b) w w' := by
 obtain ⟨i0, hi, hi2⟩ := Option.map_eq_some_iff.1 pr_info
 obtain ⟨hz0, hz12⟩ := Prod.mk.inj hi2
 obtain ⟨hz1, hz2⟩ := Prod.mk.inj hz12
 have kC := pr_check B b mg bs w h
 go_enter Tryz.func56, Tryz.ntmps56
 go_wp2_with (go_at_call 72; refine kC.mono ?_)
 rintro e w1 ⟨rfl, h1, hb1, ok1⟩
 obtain ⟨hB, v, hbk, hown, hne⟩ := h1
 have c0 : w1.cell? ⟨b, 0, none⟩ = some (.pointer (some ⟨b, 0, none⟩)) := by rw [Lib.cell_of_heap hbk]; rfl
 have c1 : w1.cell? ⟨b, 1, none⟩ = some v := by rw [Lib.cell_of_heap hbk]; rfl
 go_wp2_with (at_builtin; refine Lib.wpList_append_own_string _ rfl _ _ 65 9 rfl B 5 i0 pr_sl pr_str hi hz0 hz1 hz2 _ _ _ rfl hown s rfl ?c3 ?c4 ?c5 ?_)
 case c3 => unfold maxLen; omega
 case c4 => omega
 case c5 => have := hb1.size; omega
 intro v' w2 hown' hgrow _
 have hlt : b < w1.heap.size := lt_of hbk
 have hb2 : w2.heap[b]? = some (.cells #[.pointer (some ⟨b, 0, none⟩), v, .string mg] 69 (0, 0)) := by
  rw [hgrow.block b hlt (fun e => hne e.symm)]
  exact hbk
 have d0 : w2.cell? ⟨b, 0, none⟩ = some (.pointer (some ⟨b, 0, none⟩)) := by rw [Lib.cell_of_heap hb2]; rfl
 have d1 : w2.cell? ⟨b, 1, none⟩ = some v := by rw [Lib.cell_of_heap hb2]; rfl
 have f1 : w2.frozen? ⟨b, 1, none⟩ = false := Lib.frozen_of_heap hb2 1
 obtain ⟨ao, n', cap, rfl⟩ : ∃ ao n' cap, v' = .slice ao n' cap := by
  rcases hown'.2 with ⟨hv, _⟩ | ⟨g, cap, cur, hv, _⟩
  ·exact ⟨_, _, _, hv⟩
  ·exact ⟨_, _, _, hv⟩
 go_wp2
 go_ret2
 refine ⟨rfl, ?_, ?_, ?_⟩
 ·exact PrAt.put hB hb2 (bs' := bs ++ Lib.strCells s) (by simpa [Lib.strCells_length] using hown')
 ·exact (hb1.grown hgrow (by have := hb1.size; omega) (fun k hk => (hown.lt k hk).1)).setCell (p := ⟨b, 1, none⟩) hB _
 ·exact (ok1.grown hgrow (Lib.ownsRowF_kind (World.ownsRowF_of hown))).setCell ⟨b, 1, none⟩ rfl _
theorem pr_any {B b : Nat} {mg : ByteArray} {bs : List Value} {w : World} (h : PrU B b mg bs w) : ∃ p, PrAt B b p mg bs w := by
 rcases h with h | h
 ·exact ⟨_, h⟩
 ·exact ⟨_, h⟩
theorem pr_pu8 : Tryz.prog.underlying 106 = some (.pointer 5) := by kernel_rfl
theorem pr_cu8 : Tryz.prog.cellsOf 5 = 1 := by kernel_rfl
set_option maxRecDepth 100000 in
set_option maxHeartbeats 3200000 in
/-- What has been written, as a string. -/
theorem pr_string (B b : Nat) (mg : ByteArray) (l : List UInt8) (w : World) (h : PrU B b mg (Lib.byteCells l) w) (h0 : l ≠ []) :
  Calls Tryz.prog 36 #[.pointer (some ⟨b, 0, none⟩)] w fun e w' => e = .returned (.string ⟨l.toArray⟩) ∧ Below B w w' := by
 obtain ⟨p, hB, v, hbk, hown, hne⟩ := pr_any h
 have hl0 : l.length ≠ 0 := by simpa using h0
 rw [Lib.byteCells_length] at hown
 obtain ⟨g, cap, cur, rfl, hbg, hg, hnc, hcm, hcs, htake⟩ : ∃ g cap cur, v = .slice (some ⟨g, 0, none⟩) l.length cap ∧ B ≤ g ∧ w.heap[g]? = some (.cells cur 5 (0, 0)) ∧ l.length ≤ cap ∧ cap ≤ maxLen ∧ cur.size = cap * 1 ∧ cur.toList.take (l.length * 1) = Lib.byteCells l := by
  rcases hown.2 with ⟨_, hz⟩ | ⟨g, cap, cur, hv, r⟩
  ·exact absurd hz hl0
  ·exact ⟨g, cap, cur, hv, r⟩
 have c1 : w.drew.cell? ⟨b, 1, none⟩ = some (.slice (some ⟨g, 0, none⟩) l.length cap) := by
  have : w.drew.heap[b]? = some (.cells #[p, .slice (some ⟨g, 0, none⟩) l.length cap, .string mg] 69 (0, 0)) := hbk
  rw [Lib.cell_of_heap this]; rfl
 have hSD : (Builtin.unsafeSliceData_ #[65] 106 #[.slice (some ⟨g, 0, none⟩) l.length cap]).run Tryz.prog w.drew = .ok (.pointer (some ⟨g, 0, none⟩)) w.drew :=
  Lib.run_unsafeSliceData_row _ _ _ _ _ _ (by omega)
 have hUS : (Builtin.unsafeString_ #[106, 3] 9 #[.pointer (some ⟨g, 0, none⟩), .int .i64 l.length]).run Tryz.prog w.drew = .ok (.string ⟨l.toArray⟩) (w.drew.freeze ⟨g, 0, none⟩ l.length) := by
  refine Lib.run_unsafeString_row w.drew 106 3 9 5 pr_pu8 pr_cu8 g cur.size (by have hg' : w.drew.heap[g]? = some (.cells cur 5 (0, 0)) := hg; simp [World.shape?, hg']) l h0 (by omega) (by unfold maxLen at hcm; omega) ?_
  intro j x hx
  have := hown.cells (g := g) rfl j (.int .u8 x.toNat) (by simp [Lib.byteCells, hx])
  exact this
 go_enter Tryz.func36, Tryz.ntmps36
 go_wp2
 go_region
 all_goals (go_wp2; go_ret; exact ⟨rfl, Lib.below_freeze (Below.drew (Below.refl B w)) (p := ⟨g, 0, none⟩) hbg _⟩)
theorem pr_none (W : World) (q : Option Addr) : (Builtin.unsafeString_ #[106, 3] 9 #[.pointer q, .int .i64 0]).run Tryz.prog W = .ok (.string .empty) W := Lib.run_unsafeString_none W _ _ _ q
end Go.Proofs.YtknoibocpbfmmaaGreatDoor



namespace Go.Proofs.YtknoibocpbfmmaaGreatDoor
open Go.RowKit
set_option linter.unusedVariables false
set_option linter.unusedSimpArgs false
/-- A printer has been written on: it holds that now, and all else lies as it lay. -/
def PrW (B b : Nat) (mg : ByteArray) (l : List UInt8) (w V : World) : Prop := PrU B b mg (Lib.byteCells l) V ∧ Below B w V ∧ Lib.OthersKept 5 (some b) w V
def catL (ps : List ByteArray) : List UInt8 := ps.flatMap (fun s => s.data.toList)
theorem catL_snoc (ps : List ByteArray) (s : ByteArray) : catL (ps ++ [s]) = catL ps ++ s.data.toList := by simp [catL]
theorem PrW.trans {B b : Nat} {mg mg' : ByteArray} {l l' : List UInt8} {x y z : World} (h : PrW B b mg l x y) (k : PrW B b mg' l' y z) : PrW B b mg' l' x z := ⟨k.1, h.2.1.trans k.2.1, h.2.2.trans k.2.2⟩
theorem PrU.bel {B b : Nat} {mg : ByteArray} {bs : List Value} {w V : World} (h : PrU B b mg bs w) (g : Below w.heap.size w V) : PrU B b mg bs V := by
 have one : ∀ p, PrAt B b p mg bs w → PrAt B b p mg bs V := fun p h => by
  obtain ⟨hB, v, hb, hown, hne⟩ := h
  exact ⟨hB, v, (g.block b (lt_of hb)).trans hb, po_on g hown, hne⟩
 exact h.imp (one _) (one _)
theorem PrW.bel {B b : Nat} {mg : ByteArray} {l : List UInt8} {w V X : World} (h : PrW B b mg l w V) (hB : B ≤ V.heap.size) (g : Below V.heap.size V X) : PrW B b mg l w X :=
 ⟨h.1.bel g, h.2.1.trans (g.mono hB), fun k o hk hb ho => (g.block k (lt_of (h.2.2 k o hk hb ho))).trans (h.2.2 k o hk hb ho)⟩
set_option maxRecDepth 100000 in
theorem pr_one (B b : Nat) (mg : ByteArray) (l : List UInt8) (s : ByteArray) (w V : World) (h : PrW B b mg l w V) (hB : B ≤ w.heap.size) (hz : l.length + s.size ≤ 140737488355328) :
  Calls Tryz.prog 56 #[.pointer (some ⟨b, 0, none⟩), .string s] V fun e w' => e = .returned (.tuple #[.int .i64 s.size, .nilIface]) ∧ PrW B b mg (l ++ s.data.toList) w w' := by
 obtain ⟨g1, g2, g3⟩ := h
 have e := Lib.byteCells_length l
 have z : (Lib.byteCells l).length + s.size ≤ 140737488355328 := by rw [e]; exact hz
 have k := pr_write B b mg (Lib.byteCells l) s V g1 z (Nat.le_trans hB g2.size)
 refine k.mono ?_
 rintro e w' ⟨rfl, h1, h2, h3⟩
 refine ⟨rfl, Or.inr ?_, g2.trans h2, g3.trans h3⟩
 rw [Lib.byteCells_append, ← Lib.strCells_eq]
 exact h1
theorem st_und : Tryz.prog.underlying 35 = some (.slice (Tryz.prog.elem 35)) := by kernel_rfl
theorem st_ix (c u n q j : Nat) (h : j < n) (w : World) : (Instr.indexAt 35 (.slice (some ⟨c, u, none⟩) n q) (.int .i64 j)).run Tryz.prog w = .ok (.pointer (some ⟨c, u + j, none⟩)) w := by
 have e2 : ∀ w, (sizeOf (Tryz.prog.elem 35)).run Tryz.prog w = .ok 1 w := fun w => by kernel_rfl
 rw [run_indexAt_slice (h := st_und)]
 rw [if_pos ⟨by omega, by omega⟩]
 rw [e2]
 simp [go_sem]
theorem PrU.cells {B b : Nat} {mg : ByteArray} {bs : List Value} {w : World} (h : PrU B b mg bs w) : w.cell? ⟨b, 2, none⟩ = some (.string mg) ∧ b < w.heap.size := by
 rcases h with h | h
 ·exact ⟨h.cells.2.1, h.cells.2.2.2.2⟩
 ·exact ⟨h.cells.2.1, h.cells.2.2.2.2⟩
set_option maxRecDepth 100000 in
set_option maxHeartbeats 3200000 in
theorem pline (B b : Nat) (mg : ByteArray) (l : List UInt8) (ps : List ByteArray) (c n cap : Nat) (cs : Array Value) (ty : TypeId) (w : World) (h : PrU B b mg (Lib.byteCells l) w) (hB : B ≤ w.heap.size) (hn : ps.length = n) (q : w.heap[c]? = some (.cells cs ty (0, 0))) (hty : ty ≠ 5) (hcb : c ≠ b)
  (hcs : ∀ (j : Nat) s, ps[j]? = some s → cs[j]? = some (.string s)) (hz : l.length + (mg.size + ((catL ps).length + 1)) ≤ 140737488355328) (hn2 : n ≤ 1000000) :
  Calls Tryz.prog 32 #[.pointer (some ⟨b, 0, none⟩), .slice (some ⟨c, 0, none⟩) n cap] w fun e w' => e = .returned (.tuple #[]) ∧ PrW B b mg (l ++ (mg.data.toList ++ (catL ps ++ [10]))) w w' := by
 have h0 : PrW B b mg l w w := ⟨h, Below.refl _ _, Lib.OthersKept.refl _ _ _⟩
 obtain ⟨c2, lb⟩ := h.cells
 have hall : ∀ X9, Below w.heap.size w X9 → X9.cell? ⟨b, 2, none⟩ = some (.string mg) := fun X9 g => pb_cell g c2
 have kW := fun (V : World) (s : ByteArray) (l' : List UInt8) (h1 : PrW B b mg l' w V) h2 => pr_one B b mg l' s w V h1 hB h2
 have h0' : Hid (PrW B b mg l w w) := h0
 have hq : Hid (∀ V, Lib.OthersKept 5 (some b) w V → ∀ (j : Nat) s, ps[j]? = some s → V.cell? ⟨c, j, none⟩ = some (.string s)) := fun V g j s hj => by
  have := g c _ q (fun e => hcb (Option.some.inj e)) (fun c' z e => by cases e; exact hty rfl)
  simp only [World.cell?, this]
  exact hcs j s hj
 have hn' : Hid (ps.length = n) := hn
 have hz' : Hid (l.length + (mg.size + ((catL ps).length + 1)) ≤ 140737488355328) := hz
 have hB' : Hid (B ≤ w.heap.size) := hB
 clear h h0 q hcs c2 hn hz hty hcb hB
 go_enter Tryz.func32, Tryz.ntmps32
 go_upto_region 0 with fail
 refine wp_region_pre 7 [6, 7, 8, 9, 10, 11, 12, 13] (Rls [Eqv (.pointer (some ⟨b, 0, none⟩)), Eqv (.pointer (some ⟨b, 0, none⟩)), Eqv (.pointer (some ⟨b, 0, none⟩)), Eqv (.pointer (some ⟨b, 0, none⟩)), Eqv (.pointer (some ⟨b, 0, none⟩)), Eqv (.pointer (some ⟨b, 2, none⟩)), Eqv (.string mg)]) [0, 1, 2, 3, 4, 5, 6] (by kernel_rfl) (by kernel_rfl) (by kernel_rfl) (by kernel_rfl) (by kernel_rfl) (r := 1) (lst := #[true, true, true, true, true, true, true, false]) (by kernel_rfl) (by kernel_rfl) (MonoL.of (MonoL.eq (MonoL.eq (MonoL.eq (MonoL.eq (MonoL.eq (MonoL.eq (MonoL.eq MonoL.nil)))))))) ?_ ?_
 ·skip
  refine StepsI.cons (o := _) rfl ?_ ?_
  ·try simp only [List.getElem_toArray, List.getElem_cons_zero, List.getElem_cons_succ]
   refine StepI.of ?_ ?_ ?_
   ·rfl
   ·kernel_rfl
   intro A w hb hT0 hd0 K hK
   have f0 : A.tmps[0]?.getD undef = .pointer (some ⟨b, 0, none⟩) := hT0 0 (by kernel_rfl)
   clear hT0 hd0
   go_simp
   exact hK.out _ _ (Below.refl _ _) rfl
  refine StepsI.cons (o := _) rfl ?_ ?_
  ·try simp only [List.getElem_toArray, List.getElem_cons_zero, List.getElem_cons_succ]
   refine StepI.of ?_ ?_ ?_
   ·rfl
   ·kernel_rfl
   intro A w hb hT0 hd0 K hK
   have e0 : A.tmps[6]?.getD undef = .pointer (some ⟨b, 0, none⟩) := hd0 0 6 (by kernel_rfl)
   clear hT0 hd0
   go_simp
   exact hK.out _ _ (Below.refl _ _) rfl
  refine StepsI.cons (o := _) rfl ?_ ?_
  ·try simp only [List.getElem_toArray, List.getElem_cons_zero, List.getElem_cons_succ]
   refine StepI.of ?_ ?_ ?_
   ·rfl
   ·kernel_rfl
   intro A w hb hT0 hd0 K hK
   have e0 : A.tmps[7]?.getD undef = .pointer (some ⟨b, 0, none⟩) := hd0 1 7 (by kernel_rfl)
   clear hT0 hd0
   go_simp
   exact hK.out _ _ (Below.refl _ _) rfl
  refine StepsI.cons (o := _) rfl ?_ ?_
  ·try simp only [List.getElem_toArray, List.getElem_cons_zero, List.getElem_cons_succ]
   refine StepI.of ?_ ?_ ?_
   ·rfl
   ·kernel_rfl
   intro A w hb hT0 hd0 K hK
   have f0 : A.tmps[0]?.getD undef = .pointer (some ⟨b, 0, none⟩) := hT0 0 (by kernel_rfl)
   clear hT0 hd0
   go_simp
   exact hK.out _ _ (Below.refl _ _) rfl
  refine StepsI.cons (o := _) rfl ?_ ?_
  ·try simp only [List.getElem_toArray, List.getElem_cons_zero, List.getElem_cons_succ]
   refine StepI.of ?_ ?_ ?_
   ·rfl
   ·kernel_rfl
   intro A w hb hT0 hd0 K hK
   have e0 : A.tmps[9]?.getD undef = .pointer (some ⟨b, 0, none⟩) := hd0 3 9 (by kernel_rfl)
   clear hT0 hd0
   go_simp
   exact hK.out _ _ (Below.refl _ _) rfl
  refine StepsI.cons (o := _) rfl ?_ ?_
  ·try simp only [List.getElem_toArray, List.getElem_cons_zero, List.getElem_cons_succ]
   refine StepI.of ?_ ?_ ?_
   ·rfl
   ·kernel_rfl
   intro A w hb hT0 hd0 K hK
   have e0 : A.tmps[10]?.getD undef = .pointer (some ⟨b, 0, none⟩) := hd0 4 10 (by kernel_rfl)
   clear hT0 hd0
   go_simp
   exact hK.out _ _ (Below.refl _ _) rfl
  refine StepsI.cons (o := _) rfl ?_ ?_
  ·try simp only [List.getElem_toArray, List.getElem_cons_zero, List.getElem_cons_succ]
   refine StepI.of ?_ ?_ ?_
   ·rfl
   ·kernel_rfl
   intro A w hb hT0 hd0 K hK
   have z2 := hall w hb
   have e0 : A.tmps[11]?.getD undef = .pointer (some ⟨b, 2, none⟩) := hd0 5 11 (by kernel_rfl)
   clear hT0 hd0
   go_simp
   exact hK.out _ _ (Below.refl _ _) rfl
  exact StepsI.nil
 intro f g wz hb hR
 have e2 : g 8 = .pointer (some ⟨b, 0, none⟩) := hR 2 8 (by decide) (by kernel_rfl)
 have e6 : g 12 = .string mg := hR 6 12 (by decide) (by kernel_rfl)
 simp only [fillT, List.foldl_cons, List.foldl_nil, List.setIfInBounds_toArray, List.set_cons_zero, List.set_cons_succ]
 rw [e2, e6]
 clear e2 e6 hR hall
 refine wpAny_ready (rs := [7]) (by kernel_rfl) (by simp) (AllReady.cons (o := _) rfl (fun K hK => ?_) AllReady.nil)
 go_simp
 have z0 := hz'.out
 refine (kW wz mg l (h0'.out.bel hB'.out hb) (by omega)).mono ?_
 rintro e v1 ⟨rfl, h1⟩
 refine hK _ _ ?_
 clear hK K
 refine wpAny_done (by kernel_rfl) ?_ _
 have I0 : Hid (PrW B b mg (l ++ (mg.data.toList ++ catL (ps.take 0))) w v1) := by
  show PrW B b mg (l ++ (mg.data.toList ++ [])) w v1
  rw [List.append_nil]; exact h1
 have n5 : n < 9223372036854775807 := by omega
 clear h1 hb z0 h0'
 generalize g 6 = u6 at *
 generalize g 7 = u7 at *
 generalize g 9 = u9 at *
 generalize g 10 = u10 at *
 generalize g 11 = u11 at *
 go_upto_region 2 with fail
 go_loopw [16] (fun i wr => ∃ (j : Nat) (V : World), i = .int .i64 j ∧ V = wr ∧ Hid (PrW B b mg (l ++ (mg.data.toList ++ catL (ps.take j))) w V) ∧ j ≤ n) (fun i _ => n - (intOf i).toNat)
 case atStart => exact ⟨0, v1, rfl, rfl, I0, by omega⟩
 case round =>
  clear I0
  obtain ⟨j, V, rfl, e, hI, hj⟩ := hrel
  subst e
  by_cases cj : j < n
  ·have cj' : (j : Int) < (n : Int) := by omega
   obtain ⟨s, hs⟩ : ∃ s, ps[j]? = some s := ⟨_, List.getElem?_eq_getElem (by rw [hn'.out]; exact cj)⟩
   have k0 := hq.out V hI.out.2.2 j s hs
   have ix := st_ix c 0 n cap j cj
   rw [Nat.zero_add] at ix
   have et : catL (ps.take (j + 1)) = catL (ps.take j) ++ s.data.toList := by rw [List.take_add_one, hs]; exact catL_snoc _ _
   have le : (catL (ps.take j)).length + s.size ≤ (catL ps).length := by
    have e2 : catL ps = catL (ps.take (j + 1)) ++ catL (ps.drop (j + 1)) := by unfold catL; rw [← List.flatMap_append, List.take_append_drop]
    rw [e2, et, List.length_append, List.length_append]
    have : s.data.toList.length = s.size := rfl
    omega
   have wj : IntKind.i64.wrap ((j : Int) + 1) = ((j + 1 : Nat) : Int) := by rw [IntKind.wrap_i64]; omega
   have kS := kW V s _ hI.out (by
    have z0 := hz'.out
    simp only [List.length_append]
    have : mg.data.toList.length = mg.size := rfl
    omega)
   have et' : Hid (catL (ps.take (j + 1)) = catL (ps.take j) ++ s.data.toList) := et
   clear hs le et hI
   go_wp2_with (first
    | (go_at_call 56; (refine kS.mono ?_); rintro e v2 ⟨rfl, h2⟩)
    | fail)
   refine ⟨⟨j + 1, v2, by go_num, rfl, ?_, by omega⟩, by simp [intOf]; omega⟩
   show PrW B b mg (l ++ (mg.data.toList ++ catL (ps.take (j + 1)))) w v2
   rw [et'.out]
   simpa using h2
  ·obtain rfl : j = n := by omega
   have nn : ¬ ((j : Int) < (j : Int)) := by omega
   have hI2 := hI.out
   rw [← hn'.out, List.take_length] at hI2
   have kS := kW V ⟨#[10]⟩ _ hI2 (by
    have z0 := hz'.out
    simp only [List.length_append]
    have : mg.data.toList.length = mg.size := rfl
    have : (⟨#[10]⟩ : ByteArray).size = 1 := rfl
    omega)
   clear hI hI2
   go_wp2_with (first
    | (go_at_call 56; (refine kS.mono ?_); rintro e v2 ⟨rfl, h2⟩)
    | fail)
   refine bodyPost_end (v := .tuple #[]) (by simp [results, Tryz.results32, go_sem]) rfl ⟨rfl, ?_⟩
   simpa using h2
end Go.Proofs.YtknoibocpbfmmaaGreatDoor



namespace Go.Proofs.YtknoibocpbfmmaaGreatDoor
open Go.RowKit
set_option linter.unusedVariables false
set_option linter.unusedSimpArgs false
/-- A statement's text. -/
def stL (m : List UInt8) (s : St) : List UInt8 :=
 if s.dO = 1 then m ++ (s.name.data.toList ++ ((ixT (foTx s.index) tx0).data.toList ++ (lEqs ++ (xL s.value ++ ([59] ++ [10])))))
 else if s.dO = 2 then m ++ (lRd ++ (s.name.data.toList ++ (lIn ++ (xL s.low ++ (lCs ++ (xL s.high ++ (lEr ++ [10])))))))
 else if s.dO = 3 then m ++ (lIf ++ (xL s.value ++ (lOp ++ [10]))) ++ (soL (m ++ [32, 32]) s.thn ++ ((if s.els.len = 0 then [] else m ++ (lEl ++ [10]) ++ soL (m ++ [32, 32]) s.els) ++ (m ++ ([125] ++ [10]))))
 else if s.dO = 4 then m ++ (lWh ++ (xL s.value ++ (lOp ++ [10]))) ++ (soL (m ++ [32, 32]) s.thn ++ (m ++ ([125] ++ [10])))
 else []
theorem soL_row (m : List UInt8) (s : St) (r : So) : soL m (s.row r) = stL m s ++ soL m r := by
 rw [St.row, soL]; rfl
theorem PrAt.marg {B b : Nat} {p : Value} {mg mg' : ByteArray} {bs : List Value} {w : World} (h : PrAt B b p mg bs w) : PrAt B b p mg' bs (w.setCell ⟨b, 2, none⟩ (.string mg')) := by
 obtain ⟨hB, v, hb, hown, hne⟩ := h
 refine ⟨hB, v, ?_, ?_, hne⟩
 ·simp [World.setCell, Array.getElem?_modify, hb]
 ·refine hown.kept (row := some b) ⟨rfl, rfl, rfl, by simp [World.setCell], fun k _ hk => Below.heap_setCell _ _ _ _ (fun e => hk (by simp [e]))⟩ ?_
  exact Or.inr hne
theorem PrU.marg {B b : Nat} {mg mg' : ByteArray} {bs : List Value} {w : World} (h : PrU B b mg bs w) : PrU B b mg' bs (w.setCell ⟨b, 2, none⟩ (.string mg')) := h.imp PrAt.marg PrAt.marg
theorem PrU.le {B b : Nat} {mg : ByteArray} {bs : List Value} {w : World} (h : PrU B b mg bs w) : B ≤ b := by
 rcases h with h | h
 ·exact h.1
 ·exact h.1
theorem PrU.fz {B b : Nat} {mg : ByteArray} {bs : List Value} {w : World} (h : PrU B b mg bs w) (k : Nat) : w.frozen? ⟨b, k, none⟩ = false := by
 rcases h with h | h
 ·exact h.cells.2.2.1 k
 ·exact h.cells.2.2.1 k
theorem PrW.marg {B b : Nat} {mg mg' : ByteArray} {l : List UInt8} {w V : World} (h : PrW B b mg l w V) : PrW B b mg' l w (V.setCell ⟨b, 2, none⟩ (.string mg')) := ⟨h.1.marg, h.2.1.setCell (p := ⟨b, 2, none⟩) h.1.le _, h.2.2.setCell ⟨b, 2, none⟩ rfl _⟩
theorem PrW.self {B b : Nat} {mg : ByteArray} {l : List UInt8} {w : World} (h : PrU B b mg (Lib.byteCells l) w) : PrW B b mg l w w := ⟨h, Below.refl _ _, Lib.OthersKept.refl _ _ _⟩
/-- Statements' text is written. -/
def SpB (f : So) : Prop := ∀ (B b : Nat) (mg : ByteArray) (l : List UInt8) (S : Nat → Prop) (v : Value) (w : World), B ≤ w.heap.size → 0 < B → (∀ k, S k → k < B) → OpsAt w → SlS w S v f → PrU B b mg (Lib.byteCells l) w → l.length + (soL mg.data.toList f).length ≤ 140737488355328 →
 Calls Tryz.prog 35 #[.pointer (some ⟨b, 0, none⟩), v] w fun e w' => e = .returned (.tuple #[]) ∧ PrW B b mg (l ++ soL mg.data.toList f) w w'
def SpP (s : St) : Prop := ∀ (B b : Nat) (mg : ByteArray) (l : List UInt8) (S : Nat → Prop) (p0 : Option Addr) (q0 : Nat) (p1 : Option Addr) (q1 : Nat) (p2 : Option Addr) (q2 : Nat) (p3 : Option Addr) (q3 : Nat) (p4 : Option Addr) (q4 : Nat) (p5 : Option Addr) (q5 : Nat) (w : World), B ≤ w.heap.size → 0 < B → (∀ k, S k → k < B) → OpsAt w → StT w S s p0 q0 p1 q1 p2 q2 p3 q3 p4 q4 p5 q5 → PrU B b mg (Lib.byteCells l) w → l.length + (stL mg.data.toList s).length ≤ 140737488355328 →
 Calls Tryz.prog 58 #[.pointer (some ⟨b, 0, none⟩), .agg #[.int .i64 s.dO, .string s.name, .slice p0 s.index.len q0, .int .i64 s.value.op, .string s.value.tx, .int .i64 s.value.ty, .slice p1 s.value.ks.len q1, .int .i64 s.low.op, .string s.low.tx, .int .i64 s.low.ty, .slice p2 s.low.ks.len q2, .int .i64 s.high.op, .string s.high.tx, .int .i64 s.high.ty, .slice p3 s.high.ks.len q3, .slice p4 s.thn.len q4, .slice p5 s.els.len q5]] w fun e w' => e = .returned (.tuple #[]) ∧ PrW B b mg (l ++ stL mg.data.toList s) w w'
/-- A line of these parts, in a block that has been laid since. -/
theorem pline_at (ps : List ByteArray) (n cap : Nat) (hn : ps.length = n) (hn2 : n ≤ 1000000) (B b : Nat) (mg : ByteArray) (l : List UInt8) (w X V : World) (c : Nat) (hW : PrW B b mg l w X) (hB : B ≤ w.heap.size) (g : Below X.heap.size X V) (q : V.heap[c]? = some (.cells (ps.map Value.string).toArray 9 (0, 0))) (hc : X.heap.size ≤ c) (hz : l.length + (mg.size + ((catL ps).length + 1)) ≤ 140737488355328) :
  Calls Tryz.prog 32 #[.pointer (some ⟨b, 0, none⟩), .slice (some ⟨c, 0, none⟩) n cap] V fun e w' => e = .returned (.tuple #[]) ∧ PrW B b mg (l ++ (mg.data.toList ++ (catL ps ++ [10]))) w w' := by
 have hBX : B ≤ X.heap.size := Nat.le_trans hB hW.2.1.size
 have hV := hW.bel hBX g
 have lb := hW.1.cells.2
 refine (pline B b mg l ps c n cap _ 9 V hV.1 (Nat.le_trans hBX g.size) hn q (by decide) (by omega) (fun j s hj => ?_) hz hn2).mono ?_
 ·rw [List.getElem?_toArray, List.getElem?_map, hj]; rfl
 ·rintro e w' ⟨rfl, h⟩
  exact ⟨rfl, hV.trans h⟩
/-- Between a statement's calls. -/
structure SitP (B b Bx : Nat) (cs : Array Value) (mg : ByteArray) (l : List UInt8) (w V : World) (S : Nat → Prop) (s : St) (p0 : Option Addr) (q0 : Nat) (p1 : Option Addr) (q1 : Nat) (p2 : Option Addr) (q2 : Nat) (p3 : Option Addr) (q3 : Nat) (p4 : Option Addr) (q4 : Nat) (p5 : Option Addr) (q5 : Nat) : Prop where
 W : PrW B b mg l w V
 O : OpsAt V
 T : StT V S s p0 q0 p1 q1 p2 q2 p3 q3 p4 q4 p5 q5
 q : V.heap[Bx]? = some (.cells cs 87 (0, 0))
 bw : B ≤ w.heap.size
 gO : 0 < B
 hS : ∀ k, S k → k < B
 nb : Bx ≠ b
theorem SitP.sz {B b Bx : Nat} {cs : Array Value} {mg : ByteArray} {l : List UInt8} {w V : World} {S : Nat → Prop} {s : St} {p0 : Option Addr} {q0 : Nat} {p1 : Option Addr} {q1 : Nat} {p2 : Option Addr} {q2 : Nat} {p3 : Option Addr} {q3 : Nat} {p4 : Option Addr} {q4 : Nat} {p5 : Option Addr} {q5 : Nat} (h : SitP B b Bx cs mg l w V S s p0 q0 p1 q1 p2 q2 p3 q3 p4 q4 p5 q5) : B ≤ V.heap.size := Nat.le_trans h.bw h.W.2.1.size
theorem SitP.bel {B b Bx : Nat} {cs : Array Value} {mg : ByteArray} {l : List UInt8} {w V V' : World} {S : Nat → Prop} {s : St} {p0 : Option Addr} {q0 : Nat} {p1 : Option Addr} {q1 : Nat} {p2 : Option Addr} {q2 : Nat} {p3 : Option Addr} {q3 : Nat} {p4 : Option Addr} {q4 : Nat} {p5 : Option Addr} {q5 : Nat} (h : SitP B b Bx cs mg l w V S s p0 q0 p1 q1 p2 q2 p3 q3 p4 q4 p5 q5) (g : Below V.heap.size V V') : SitP B b Bx cs mg l w V' S s p0 q0 p1 q1 p2 q2 p3 q3 p4 q4 p5 q5 :=
 ⟨h.W.bel h.sz g, h.O.bel g, h.T.kp (Below.kp g _), (g.block Bx (lt_of h.q)).trans h.q, h.bw, h.gO, h.hS, h.nb⟩
theorem SitP.wr {B b Bx : Nat} {cs : Array Value} {mg mg' : ByteArray} {l l' : List UInt8} {w V V' : World} {S : Nat → Prop} {s : St} {p0 : Option Addr} {q0 : Nat} {p1 : Option Addr} {q1 : Nat} {p2 : Option Addr} {q2 : Nat} {p3 : Option Addr} {q3 : Nat} {p4 : Option Addr} {q4 : Nat} {p5 : Option Addr} {q5 : Nat} (h : SitP B b Bx cs mg l w V S s p0 q0 p1 q1 p2 q2 p3 q3 p4 q4 p5 q5) (k : PrW B b mg' l' V V') : SitP B b Bx cs mg' l' w V' S s p0 q0 p1 q1 p2 q2 p3 q3 p4 q4 p5 q5 :=
 ⟨h.W.trans k, fun j v e => (k.2.1.cell h.gO).trans (h.O j v e), h.T.kp (fun i hi _ => k.2.1.block i (h.hS i hi)), k.2.2 Bx _ h.q (fun e => h.nb (Option.some.inj e)) (fun c z e => by cases e), h.bw, h.gO, h.hS, h.nb⟩
theorem sp_go {B b : Nat} {mg : ByteArray} {l : List UInt8} {w : World} {S : Nat → Prop} {s : St} {p0 : Option Addr} {q0 : Nat} {p1 : Option Addr} {q1 : Nat} {p2 : Option Addr} {q2 : Nat} {p3 : Option Addr} {q3 : Nat} {p4 : Option Addr} {q4 : Nat} {p5 : Option Addr} {q5 : Nat} (hB : B ≤ w.heap.size) (hG : 0 < B) (hS : ∀ k, S k → k < B) (hO : OpsAt w) (hT : StT w S s p0 q0 p1 q1 p2 q2 p3 q3 p4 q4 p5 q5) (hP : PrU B b mg (Lib.byteCells l) w) (cs : Array Value) :
  SitP B b w.heap.size cs mg l w (w.alloc (.cells cs 87)) S s p0 q0 p1 q1 p2 q2 p3 q3 p4 q4 p5 q5 := by
 have g := pb_new (Below.refl w.heap.size w) (.cells cs 87)
 have lb := hP.cells.2
 exact ⟨(PrW.self hP).bel hB g, hO.bel g, hT.kp (Below.kp g _), World.alloc_heap_new _ _, hB, hG, hS, by omega⟩
set_option maxRecDepth 100000 in
set_option maxHeartbeats 3200000 in
theorem pwithin (t : So) (kB : SpB t) (B b : Nat) (mg : ByteArray) (l : List UInt8) (S : Nat → Prop) (v : Value) (w : World) (hB : B ≤ w.heap.size) (hG : 0 < B) (hS : ∀ k, S k → k < B) (hO : OpsAt w) (hT : SlS w S v t) (hP : PrU B b mg (Lib.byteCells l) w) (hz : l.length + (soL (mg.data.toList ++ [32, 32]) t).length ≤ 140737488355328) (hm : mg.size ≤ 140737488355328) :
  Calls Tryz.prog 76 #[.pointer (some ⟨b, 0, none⟩), v] w fun e w' => e = .returned (.tuple #[]) ∧ PrW B b mg (l ++ soL (mg.data.toList ++ [32, 32]) t) w w' := by
 obtain ⟨c2, lb⟩ := hP.cells
 have ff := hP.fz
 have h1 := (PrW.self hP).marg (mg' := mg ++ ⟨#[32, 32]⟩)
 have em : (mg ++ (⟨#[32, 32]⟩ : ByteArray)).data.toList = mg.data.toList ++ [32, 32] := by simp
 have bB := hP.le
 have nO : ¬ S b := fun h => by have := hS b h; omega
 have kS := kB B b (mg ++ ⟨#[32, 32]⟩) l S v _ (by simpa using hB) hG hS (fun j u e => (h1.2.1.cell hG).trans (hO j u e)) (hT.kp (Kp.set nO)) h1.1 (by rw [em]; exact hz)
 rw [em] at kS
 have z2 : (⟨#[32, 32]⟩ : ByteArray).size = 2 := rfl
 obtain ⟨nm, hnm⟩ : ∃ n, mg.size = n := ⟨_, rfl⟩
 have zm : nm ≤ 140737488355328 := by rw [← hnm]; exact hm
 have h1' : Hid (PrW B b (mg ++ ⟨#[32, 32]⟩) l w (w.setCell ⟨b, 2, none⟩ (.string (mg ++ ⟨#[32, 32]⟩)))) := h1
 obtain ⟨pp, qq, rfl, _⟩ := hT
 clear hP hO hS h1 hz hm em
 go_enter Tryz.func76, Tryz.ntmps76
 go_upto_region 3 with (first
  | (go_at_call 35; (refine kS.mono ?_); rintro e v1 ⟨rfl, h2⟩; have f2 := h2.1.fz; have h2' : Hid (PrW B b (mg ++ ⟨#[32, 32]⟩) (l ++ soL (mg.data.toList ++ [32, 32]) t) (w.setCell ⟨b, 2, none⟩ (.string (mg ++ ⟨#[32, 32]⟩))) v1) := h2; have c3 := h2.1.cells.1; clear h2)
  | fail)
 clear ff c2
 go_wp2_with fail
 exact bodyPost_end (v := .tuple #[]) (by simp [results, Tryz.results76, go_sem]) rfl ⟨rfl, (h1'.out.trans h2'.out).marg⟩
theorem pline_sit (ps : List ByteArray) (n cap : Nat) (hn : ps.length = n) (hn2 : n ≤ 1000000) {B b Bx : Nat} {cs : Array Value} {mg : ByteArray} {l : List UInt8} {w X : World} {S : Nat → Prop} {s : St} {p0 : Option Addr} {q0 : Nat} {p1 : Option Addr} {q1 : Nat} {p2 : Option Addr} {q2 : Nat} {p3 : Option Addr} {q3 : Nat} {p4 : Option Addr} {q4 : Nat} {p5 : Option Addr} {q5 : Nat} (h : SitP B b Bx cs mg l w X S s p0 q0 p1 q1 p2 q2 p3 q3 p4 q4 p5 q5) (V : World) (c : Nat) (g : Below X.heap.size X V) (q : V.heap[c]? = some (.cells (ps.map Value.string).toArray 9 (0, 0))) (hc : X.heap.size ≤ c) (hz : l.length + (mg.size + ((catL ps).length + 1)) ≤ 140737488355328) :
  Calls Tryz.prog 32 #[.pointer (some ⟨b, 0, none⟩), .slice (some ⟨c, 0, none⟩) n cap] V fun e w' => e = .returned (.tuple #[]) ∧ SitP B b Bx cs mg (l ++ (mg.data.toList ++ (catL ps ++ [10]))) w w' S s p0 q0 p1 q1 p2 q2 p3 q3 p4 q4 p5 q5 := by
 have hV := h.bel g
 have lb := h.W.1.cells.2
 refine (pline B b mg l ps c n cap _ 9 V hV.W.1 hV.sz hn q (by decide) (by omega) (fun j s hj => ?_) hz hn2).mono ?_
 ·rw [List.getElem?_toArray, List.getElem?_map, hj]; rfl
 ·rintro e w' ⟨rfl, k⟩
  exact ⟨rfl, hV.wr k⟩
theorem pwith_sit (t : So) (kB : SpB t) {B b Bx : Nat} {cs : Array Value} {mg : ByteArray} {l : List UInt8} {w V : World} {S : Nat → Prop} {s : St} {p0 : Option Addr} {q0 : Nat} {p1 : Option Addr} {q1 : Nat} {p2 : Option Addr} {q2 : Nat} {p3 : Option Addr} {q3 : Nat} {p4 : Option Addr} {q4 : Nat} {p5 : Option Addr} {q5 : Nat} (h : SitP B b Bx cs mg l w V S s p0 q0 p1 q1 p2 q2 p3 q3 p4 q4 p5 q5) (v : Value) (hT : SlS V S v t) (hz : l.length + (soL (mg.data.toList ++ [32, 32]) t).length ≤ 140737488355328) (hm : mg.size ≤ 140737488355328) :
  Calls Tryz.prog 76 #[.pointer (some ⟨b, 0, none⟩), v] V fun e w' => e = .returned (.tuple #[]) ∧ SitP B b Bx cs mg (l ++ soL (mg.data.toList ++ [32, 32]) t) w w' S s p0 q0 p1 q1 p2 q2 p3 q3 p4 q4 p5 q5 := by
 refine (pwithin t kB B b mg l S v V h.sz h.gO h.hS h.O hT h.W.1 hz hm).mono ?_
 rintro e w' ⟨rfl, k⟩
 exact ⟨rfl, h.wr k⟩
end Go.Proofs.YtknoibocpbfmmaaGreatDoor



