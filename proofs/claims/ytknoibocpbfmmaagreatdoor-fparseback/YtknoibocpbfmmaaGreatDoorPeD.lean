/- A line of a printer: its margin, the parts, a line feed. -/
import Derived.Test.YtknoibocpbfmmaaGreatDoorPeC
import Derived.Test.YtknoibocpbfmmaaGreatDoorPeA
namespace Go.Proofs.YtknoibocpbfmmaaGreatDoor
open Go.RowKit
set_option linter.unusedVariables false
set_option linter.unusedSimpArgs false
/-- A printer has been written on: it holds that now, and all else lies as it lay. -/
def PrW (B b : Nat) (mg : ByteArray) (l : List UInt8) (w V : World) : Prop := PrU B b mg (Lib.byteCells l) V ∧ Below B w V ∧ Lib.OthersKept 5 (some b) w V
def catL (ps : List ByteArray) : List UInt8 := ps.flatMap (fun s => s.data.toList)
theorem catL_snoc (ps : List ByteArray) (s : ByteArray) : catL (ps ++ [s]) = catL ps ++ s.data.toList := by simp [catL]
theorem PrW.trans {B b : Nat} {mg mg' : ByteArray} {l l' : List UInt8} {x y z : World} (h : PrW B b mg l x y) (k : PrW B b mg' l' y z) : PrW B b mg' l' x z := ⟨k.1, h.2.1.trans k.2.1, h.2.2.trans k.2.2⟩
theorem PrU.bel {B b : Nat} {mg : ByteArray} {bs : List Value} {w V : World} (h : PrU B b mg bs w) (g : Below w.heap.size w V) : PrU B b mg bs V := by
  have one : ∀ p, PrAt B b p mg bs w → PrAt B b p mg bs V := fun p h => by
    obtain ⟨hB, v, hb, hown, hne⟩ := h
    exact ⟨hB, v, (g.block b (lt_of hb)).trans hb, po_on g hown, hne⟩
  exact h.imp (one _) (one _)
theorem PrW.bel {B b : Nat} {mg : ByteArray} {l : List UInt8} {w V X : World} (h : PrW B b mg l w V) (hB : B ≤ V.heap.size) (g : Below V.heap.size V X) : PrW B b mg l w X :=
  ⟨h.1.bel g, h.2.1.trans (g.mono hB), fun k o hk hb ho => (g.block k (lt_of (h.2.2 k o hk hb ho))).trans (h.2.2 k o hk hb ho)⟩
set_option maxRecDepth 100000 in
theorem pr_one (B b : Nat) (mg : ByteArray) (l : List UInt8) (s : ByteArray) (w V : World) (h : PrW B b mg l w V) (hB : B ≤ w.heap.size) (hz : l.length + s.size ≤ 140737488355328) :
    Calls Tryz.prog 56 #[.pointer (some ⟨b, 0, none⟩), .string s] V fun e w' => e = .returned (.tuple #[.int .i64 s.size, .nilIface]) ∧ PrW B b mg (l ++ s.data.toList) w w' := by
  obtain ⟨g1, g2, g3⟩ := h
  have e := Lib.byteCells_length l
  have z : (Lib.byteCells l).length + s.size ≤ 140737488355328 := by rw [e]; exact hz
  have k := pr_write B b mg (Lib.byteCells l) s V g1 z (Nat.le_trans hB g2.size)
  refine k.mono ?_
  rintro e w' ⟨rfl, h1, h2, h3⟩
  refine ⟨rfl, Or.inr ?_, g2.trans h2, g3.trans h3⟩
  rw [Lib.byteCells_append, ← Lib.strCells_eq]
  exact h1
theorem st_und : Tryz.prog.underlying 35 = some (.slice (Tryz.prog.elem 35)) := by kernel_rfl
theorem st_ix (c u n q j : Nat) (h : j < n) (w : World) : (Instr.indexAt 35 (.slice (some ⟨c, u, none⟩) n q) (.int .i64 j)).run Tryz.prog w = .ok (.pointer (some ⟨c, u + j, none⟩)) w := by
  have e2 : ∀ w, (sizeOf (Tryz.prog.elem 35)).run Tryz.prog w = .ok 1 w := fun w => by kernel_rfl
  rw [run_indexAt_slice (h := st_und)]
  rw [if_pos ⟨by omega, by omega⟩]
  rw [e2]
  simp [go_sem]
theorem PrU.cells {B b : Nat} {mg : ByteArray} {bs : List Value} {w : World} (h : PrU B b mg bs w) : w.cell? ⟨b, 2, none⟩ = some (.string mg) ∧ b < w.heap.size := by
  rcases h with h | h
  · exact ⟨h.cells.2.1, h.cells.2.2.2.2⟩
  · exact ⟨h.cells.2.1, h.cells.2.2.2.2⟩
set_option maxRecDepth 100000 in
set_option maxHeartbeats 3200000 in
theorem pline (B b : Nat) (mg : ByteArray) (l : List UInt8) (ps : List ByteArray) (c n cap : Nat) (cs : Array Value) (ty : TypeId) (w : World) (h : PrU B b mg (Lib.byteCells l) w) (hB : B ≤ w.heap.size) (hn : ps.length = n) (q : w.heap[c]? = some (.cells cs ty (0, 0))) (hty : ty ≠ 5) (hcb : c ≠ b)
    (hcs : ∀ (j : Nat) s, ps[j]? = some s → cs[j]? = some (.string s)) (hz : l.length + (mg.size + ((catL ps).length + 1)) ≤ 140737488355328) (hn2 : n ≤ 1000000) :
    Calls Tryz.prog 32 #[.pointer (some ⟨b, 0, none⟩), .slice (some ⟨c, 0, none⟩) n cap] w fun e w' => e = .returned (.tuple #[]) ∧ PrW B b mg (l ++ (mg.data.toList ++ (catL ps ++ [10]))) w w' := by
  have h0 : PrW B b mg l w w := ⟨h, Below.refl _ _, Lib.OthersKept.refl _ _ _⟩
  obtain ⟨c2, lb⟩ := h.cells
  have hall : ∀ X9, Below w.heap.size w X9 → X9.cell? ⟨b, 2, none⟩ = some (.string mg) := fun X9 g => pb_cell g c2
  have kW := fun (V : World) (s : ByteArray) (l' : List UInt8) (h1 : PrW B b mg l' w V) h2 => pr_one B b mg l' s w V h1 hB h2
  have h0' : Hid (PrW B b mg l w w) := h0
  have hq : Hid (∀ V, Lib.OthersKept 5 (some b) w V → ∀ (j : Nat) s, ps[j]? = some s → V.cell? ⟨c, j, none⟩ = some (.string s)) := fun V g j s hj => by
    have := g c _ q (fun e => hcb (Option.some.inj e)) (fun c' z e => by cases e; exact hty rfl)
    simp only [World.cell?, this]
    exact hcs j s hj
  have hn' : Hid (ps.length = n) := hn
  have hz' : Hid (l.length + (mg.size + ((catL ps).length + 1)) ≤ 140737488355328) := hz
  have hB' : Hid (B ≤ w.heap.size) := hB
  clear h h0 q hcs c2 hn hz hty hcb hB
  go_enter Tryz.func32, Tryz.ntmps32
  go_upto_region 0 with fail
  refine wp_region_pre 7 [6, 7, 8, 9, 10, 11, 12, 13] (Rls [Eqv (.pointer (some ⟨b, 0, none⟩)), Eqv (.pointer (some ⟨b, 0, none⟩)), Eqv (.pointer (some ⟨b, 0, none⟩)), Eqv (.pointer (some ⟨b, 0, none⟩)), Eqv (.pointer (some ⟨b, 0, none⟩)), Eqv (.pointer (some ⟨b, 2, none⟩)), Eqv (.string mg)]) [0, 1, 2, 3, 4, 5, 6] (by kernel_rfl) (by kernel_rfl) (by kernel_rfl) (by kernel_rfl) (by kernel_rfl) (r := 1) (lst := #[true, true, true, true, true, true, true, false]) (by kernel_rfl) (by kernel_rfl) (MonoL.of (MonoL.eq (MonoL.eq (MonoL.eq (MonoL.eq (MonoL.eq (MonoL.eq (MonoL.eq MonoL.nil)))))))) ?_ ?_
  · skip
    refine StepsI.cons (o := _) rfl ?_ ?_
    · try simp only [List.getElem_toArray, List.getElem_cons_zero, List.getElem_cons_succ]
      refine StepI.of ?_ ?_ ?_
      · rfl
      · kernel_rfl
      intro A w hb hT0 hd0 K hK
      have f0 : A.tmps[0]?.getD undef = .pointer (some ⟨b, 0, none⟩) := hT0 0 (by kernel_rfl)
      clear hT0 hd0
      go_simp
      exact hK.out _ _ (Below.refl _ _) rfl
    refine StepsI.cons (o := _) rfl ?_ ?_
    · try simp only [List.getElem_toArray, List.getElem_cons_zero, List.getElem_cons_succ]
      refine StepI.of ?_ ?_ ?_
      · rfl
      · kernel_rfl
      intro A w hb hT0 hd0 K hK
      have e0 : A.tmps[6]?.getD undef = .pointer (some ⟨b, 0, none⟩) := hd0 0 6 (by kernel_rfl)
      clear hT0 hd0
      go_simp
      exact hK.out _ _ (Below.refl _ _) rfl
    refine StepsI.cons (o := _) rfl ?_ ?_
    · try simp only [List.getElem_toArray, List.getElem_cons_zero, List.getElem_cons_succ]
      refine StepI.of ?_ ?_ ?_
      · rfl
      · kernel_rfl
      intro A w hb hT0 hd0 K hK
      have e0 : A.tmps[7]?.getD undef = .pointer (some ⟨b, 0, none⟩) := hd0 1 7 (by kernel_rfl)
      clear hT0 hd0
      go_simp
      exact hK.out _ _ (Below.refl _ _) rfl
    refine StepsI.cons (o := _) rfl ?_ ?_
    · try simp only [List.getElem_toArray, List.getElem_cons_zero, List.getElem_cons_succ]
      refine StepI.of ?_ ?_ ?_
      · rfl
      · kernel_rfl
      intro A w hb hT0 hd0 K hK
      have f0 : A.tmps[0]?.getD undef = .pointer (some ⟨b, 0, none⟩) := hT0 0 (by kernel_rfl)
      clear hT0 hd0
      go_simp
      exact hK.out _ _ (Below.refl _ _) rfl
    refine StepsI.cons (o := _) rfl ?_ ?_
    · try simp only [List.getElem_toArray, List.getElem_cons_zero, List.getElem_cons_succ]
      refine StepI.of ?_ ?_ ?_
      · rfl
      · kernel_rfl
      intro A w hb hT0 hd0 K hK
      have e0 : A.tmps[9]?.getD undef = .pointer (some ⟨b, 0, none⟩) := hd0 3 9 (by kernel_rfl)
      clear hT0 hd0
      go_simp
      exact hK.out _ _ (Below.refl _ _) rfl
    refine StepsI.cons (o := _) rfl ?_ ?_
    · try simp only [List.getElem_toArray, List.getElem_cons_zero, List.getElem_cons_succ]
      refine StepI.of ?_ ?_ ?_
      · rfl
      · kernel_rfl
      intro A w hb hT0 hd0 K hK
      have e0 : A.tmps[10]?.getD undef = .pointer (some ⟨b, 0, none⟩) := hd0 4 10 (by kernel_rfl)
      clear hT0 hd0
      go_simp
      exact hK.out _ _ (Below.refl _ _) rfl
    refine StepsI.cons (o := _) rfl ?_ ?_
    · try simp only [List.getElem_toArray, List.getElem_cons_zero, List.getElem_cons_succ]
      refine StepI.of ?_ ?_ ?_
      · rfl
      · kernel_rfl
      intro A w hb hT0 hd0 K hK
      have z2 := hall w hb
      have e0 : A.tmps[11]?.getD undef = .pointer (some ⟨b, 2, none⟩) := hd0 5 11 (by kernel_rfl)
      clear hT0 hd0
      go_simp
      exact hK.out _ _ (Below.refl _ _) rfl
    exact StepsI.nil
  intro f g wz hb hR
  have e2 : g 8 = .pointer (some ⟨b, 0, none⟩) := hR 2 8 (by decide) (by kernel_rfl)
  have e6 : g 12 = .string mg := hR 6 12 (by decide) (by kernel_rfl)
  simp only [fillT, List.foldl_cons, List.foldl_nil, List.setIfInBounds_toArray, List.set_cons_zero, List.set_cons_succ]
  rw [e2, e6]
  clear e2 e6 hR hall
  refine wpAny_ready (rs := [7]) (by kernel_rfl) (by simp) (AllReady.cons (o := _) rfl (fun K hK => ?_) AllReady.nil)
  go_simp
  have z0 := hz'.out
  refine (kW wz mg l (h0'.out.bel hB'.out hb) (by omega)).mono ?_
  rintro e v1 ⟨rfl, h1⟩
  refine hK _ _ ?_
  clear hK K
  refine wpAny_done (by kernel_rfl) ?_ _
  have I0 : Hid (PrW B b mg (l ++ (mg.data.toList ++ catL (ps.take 0))) w v1) := by
    show PrW B b mg (l ++ (mg.data.toList ++ [])) w v1
    rw [List.append_nil]; exact h1
  have n5 : n < 9223372036854775807 := by omega
  clear h1 hb z0 h0'
  generalize g 6 = u6 at *
  generalize g 7 = u7 at *
  generalize g 9 = u9 at *
  generalize g 10 = u10 at *
  generalize g 11 = u11 at *
  go_upto_region 2 with fail
  go_loopw [16] (fun i wr => ∃ (j : Nat) (V : World), i = .int .i64 j ∧ V = wr ∧ Hid (PrW B b mg (l ++ (mg.data.toList ++ catL (ps.take j))) w V) ∧ j ≤ n) (fun i _ => n - (intOf i).toNat)
  case atStart => exact ⟨0, v1, rfl, rfl, I0, by omega⟩
  case round =>
    clear I0
    obtain ⟨j, V, rfl, e, hI, hj⟩ := hrel
    subst e
    by_cases cj : j < n
    · have cj' : (j : Int) < (n : Int) := by omega
      obtain ⟨s, hs⟩ : ∃ s, ps[j]? = some s := ⟨_, List.getElem?_eq_getElem (by rw [hn'.out]; exact cj)⟩
      have k0 := hq.out V hI.out.2.2 j s hs
      have ix := st_ix c 0 n cap j cj
      rw [Nat.zero_add] at ix
      have et : catL (ps.take (j + 1)) = catL (ps.take j) ++ s.data.toList := by rw [List.take_add_one, hs]; exact catL_snoc _ _
      have le : (catL (ps.take j)).length + s.size ≤ (catL ps).length := by
        have e2 : catL ps = catL (ps.take (j + 1)) ++ catL (ps.drop (j + 1)) := by unfold catL; rw [← List.flatMap_append, List.take_append_drop]
        rw [e2, et, List.length_append, List.length_append]
        have : s.data.toList.length = s.size := rfl
        omega
      have wj : IntKind.i64.wrap ((j : Int) + 1) = ((j + 1 : Nat) : Int) := by rw [IntKind.wrap_i64]; omega
      have kS := kW V s _ hI.out (by
        have z0 := hz'.out
        simp only [List.length_append]
        have : mg.data.toList.length = mg.size := rfl
        omega)
      have et' : Hid (catL (ps.take (j + 1)) = catL (ps.take j) ++ s.data.toList) := et
      clear hs le et hI
      go_wp2_with (first
        | (go_at_call 56; (refine kS.mono ?_); rintro e v2 ⟨rfl, h2⟩)
        | fail)
      refine ⟨⟨j + 1, v2, by go_num, rfl, ?_, by omega⟩, by simp [intOf]; omega⟩
      show PrW B b mg (l ++ (mg.data.toList ++ catL (ps.take (j + 1)))) w v2
      rw [et'.out]
      simpa using h2
    · obtain rfl : j = n := by omega
      have nn : ¬ ((j : Int) < (j : Int)) := by omega
      have hI2 := hI.out
      rw [← hn'.out, List.take_length] at hI2
      have kS := kW V ⟨#[10]⟩ _ hI2 (by
        have z0 := hz'.out
        simp only [List.length_append]
        have : mg.data.toList.length = mg.size := rfl
        have : (⟨#[10]⟩ : ByteArray).size = 1 := rfl
        omega)
      clear hI hI2
      go_wp2_with (first
        | (go_at_call 56; (refine kS.mono ?_); rintro e v2 ⟨rfl, h2⟩)
        | fail)
      refine bodyPost_end (v := .tuple #[]) (by simp [results, Tryz.results32, go_sem]) rfl ⟨rfl, ?_⟩
      simpa using h2
end Go.Proofs.YtknoibocpbfmmaaGreatDoor

