/- plumblineref05: an expression is the same as itself, wherever both lie. -/
import Derived.Test.YtknoibocpbfmmaaGreatDoorPfA
import Derived.Test.YtknoibocpbfmmaaGreatDoorWpI
namespace Go.Proofs.YtknoibocpbfmmaaGreatDoor
open Go.RowKit
set_option linter.unusedVariables false
set_option linter.unusedSimpArgs false
def SrA (e : Ex) : Prop := ∀ (S S' : Nat → Prop) (pp pp' : Option Addr) (qq qq' : Nat) (w : World), SlF w S (.slice pp e.ks.len qq) e.ks → SlF w S' (.slice pp' e.ks.len qq') e.ks →
  Calls Tryz.prog 41 #[.agg #[.int .i64 e.op, .string e.tx, .int .i64 e.ty, .slice pp e.ks.len qq], .agg #[.int .i64 e.op, .string e.tx, .int .i64 e.ty, .slice pp' e.ks.len qq']] w fun r w' => r = .returned (.bool true) ∧ Below w.heap.size w w'
set_option maxRecDepth 100000 in
set_option maxHeartbeats 3200000 in
theorem srF (f : Fo) (hA : f.all SrA) (hz : f.len ≤ 1099511627776) (S S' : Nat → Prop) (pp pp' : Option Addr) (qq qq' : Nat) (w : World) (hT : SlF w S (.slice pp f.len qq) f) (hU : SlF w S' (.slice pp' f.len qq') f) :
    Calls Tryz.prog 40 #[.slice pp f.len qq, .slice pp' f.len qq'] w fun e' w' => e' = .returned (.bool true) ∧ Below w.heap.size w w' := by
  obtain ⟨m, hm⟩ : ∃ m, f.len = m := ⟨_, rfl⟩
  rw [hm] at hT hU hz ⊢
  have hm' : Hid (f.len = m) := hm
  have hA' : Hid (f.all SrA) := hA
  have hT' : Hid (SlF w S (.slice pp m qq) f) := hT
  have hU' : Hid (SlF w S' (.slice pp' m qq') f) := hU
  have hm40 : Hid (m ≤ 1099511627776) := hz
  have hl' : ¬ (m : Int) ≠ (m : Int) := by simp
  clear hm hA hT hU hz
  go_enter Tryz.func40, Tryz.ntmps40
  go_upto_region 4 with fail
  go_loopw [5] (fun i wr => ∃ (j : Nat) (V : World), i = .int .i64 j ∧ V = wr ∧ Hid (Below w.heap.size w V) ∧ j ≤ m) (fun i _ => m - (intOf i).toNat)
  case atStart => exact ⟨0, w, rfl, rfl, Below.refl _ _, by omega⟩
  case round =>
    obtain ⟨j, V, rfl, e, gV, hj⟩ := hrel
    subst e
    by_cases cj : j < m
    · have cj' : (j : Int) < (m : Int) := by omega
      obtain ⟨op, tx, ty, ks, hf⟩ := Fo.drop_at (f := f) (j := j) (by rw [hm'.out]; exact cj)
      have hal := Fo.all_drop j hA'.out
      rw [hf] at hal
      have hTT := hT'.out.kp (Below.kp gV.out _)
      have hUU := hU'.out.kp (Below.kp gV.out _)
      obtain ⟨p2, q2, e2, hT⟩ := hTT
      obtain ⟨rfl, e4, rfl⟩ := Value.slice.inj e2
      clear e2 e4
      obtain ⟨p2, q2, e2, hU⟩ := hUU
      obtain ⟨rfl, e4, rfl⟩ := Value.slice.inj e2
      clear e2 e4
      rcases hT with hT | ⟨c, u, rfl, hT⟩
      · exfalso; have := hm'.out; rw [hT] at this; simp [Fo.len] at this; omega
      rcases hU with hU | ⟨c', u', rfl, hU⟩
      · exfalso; have := hm'.out; rw [hU] at this; simp [Fo.len] at this; omega
      have hTj := FoAt.drop j hT
      rw [hf] at hTj
      obtain ⟨⟨k0, k1, k2, s3, k3, hs3⟩, _, lc⟩ := hTj.head
      obtain ⟨p3, q3, rfl, hs3'⟩ := hs3
      have hUj := FoAt.drop j hU
      rw [hf] at hUj
      obtain ⟨⟨l0, l1, l2, s4, l3, hs4⟩, _, lc'⟩ := hUj.head
      obtain ⟨p4, q4, rfl, hs4'⟩ := hs4
      simp only at k0 k1 k2 k3 l0 l1 l2 l3 hs3' hs4'
      have hTs : SlF V S (.slice p3 ks.len q3) ks := ⟨p3, q3, rfl, hs3'⟩
      have hUs : SlF V S' (.slice p4 ks.len q4) ks := ⟨p4, q4, rfl, hs4'⟩
      have kE := fun Y (g : Below V.heap.size V Y) => hal.1 S S' p3 p4 q3 q4 Y (hTs.kp (Below.kp g _)) (hUs.kp (Below.kp g _))
      simp only at kE
      have ix := ex_ix c u m qq j cj
      have iy := ex_ix c' u' m qq' j cj
      have wj : IntKind.i64.wrap ((j : Int) + 1) = ((j + 1 : Nat) : Int) := by have := hm40.out; rw [IntKind.wrap_i64]; omega
      have gV' : Hid (Below w.heap.size w V) := gV
      clear hTj hUj hT hU hs3' hs4' hTs hUs lc lc' hal hf gV
      generalize hks : ks.len = n3 at *
      clear hks
      generalize u + j * 4 = o at *
      generalize u' + j * 4 = o' at *
      have hall : ∀ X9, Below V.heap.size V X9 → (X9.cell? ⟨c, o, none⟩ = some (.int .i64 op) ∧ X9.cell? ⟨c, o + 1, none⟩ = some (.string tx) ∧ X9.cell? ⟨c, o + 2, none⟩ = some (.int .i64 ty) ∧ X9.cell? ⟨c, o + 3, none⟩ = some (.slice p3 n3 q3) ∧ X9.cell? ⟨c', o', none⟩ = some (.int .i64 op) ∧ X9.cell? ⟨c', o' + 1, none⟩ = some (.string tx) ∧ X9.cell? ⟨c', o' + 2, none⟩ = some (.int .i64 ty) ∧ X9.cell? ⟨c', o' + 3, none⟩ = some (.slice p4 n3 q4)) := fun X9 g => ⟨pb_cell g k0, pb_cell g k1, pb_cell g k2, pb_cell g k3, pb_cell g l0, pb_cell g l1, pb_cell g l2, pb_cell g l3⟩
      clear k0 k1 k2 k3 l0 l1 l2 l3
      go_upto_region 6 with fail
      refine wp_region_inv [17, 18, 19, 20, 21, 22, 23, 24, 25, 26] (Rls [Eqv (.slice (some ⟨c, u, none⟩) m qq), Eqv (.int .i64 (j : Int)), Eqv (.pointer (some ⟨c, o, none⟩)), Eqv (.agg #[.int .i64 op, .string tx, .int .i64 ty, .slice p3 n3 q3]), Eqv (.slice (some ⟨c', u', none⟩) m qq'), Eqv (.int .i64 (j : Int)), Eqv (.pointer (some ⟨c', o', none⟩)), Eqv (.agg #[.int .i64 op, .string tx, .int .i64 ty, .slice p4 n3 q4]), Eqv (.bool true), Eqv (.bool false)]) [0, 1, 2, 3, 4, 5, 6, 7, 8, 9] (by kernel_rfl) (by kernel_rfl) (by kernel_rfl) (by kernel_rfl) (MonoL.of (MonoL.eq (MonoL.eq (MonoL.eq (MonoL.eq (MonoL.eq (MonoL.eq (MonoL.eq (MonoL.eq (MonoL.eq (MonoL.eq MonoL.nil))))))))))) ?_ ?_
      · skip
        refine StepsI.cons (o := _) rfl ?_ ?_
        · try simp only [List.getElem_toArray, List.getElem_cons_zero, List.getElem_cons_succ]
          refine StepI.of ?_ ?_ ?_
          · rfl
          · kernel_rfl
          intro A w hb hT0 hd0 K hK
          have f0 : A.tmps[0]?.getD undef = .slice (some ⟨c, u, none⟩) m qq := hT0 0 (by kernel_rfl)
          clear hT0 hd0
          go_simp
          exact hK.out _ _ (Below.refl _ _) rfl
        refine StepsI.cons (o := _) rfl ?_ ?_
        · try simp only [List.getElem_toArray, List.getElem_cons_zero, List.getElem_cons_succ]
          refine StepI.of ?_ ?_ ?_
          · rfl
          · kernel_rfl
          intro A w hb hT0 hd0 K hK
          have f0 : A.tmps[5]?.getD undef = .int .i64 (j : Int) := hT0 5 (by kernel_rfl)
          clear hT0 hd0
          go_simp
          exact hK.out _ _ (Below.refl _ _) rfl
        refine StepsI.cons (o := _) rfl ?_ ?_
        · try simp only [List.getElem_toArray, List.getElem_cons_zero, List.getElem_cons_succ]
          refine StepI.of ?_ ?_ ?_
          · rfl
          · kernel_rfl
          intro A w hb hT0 hd0 K hK
          have e0 : A.tmps[17]?.getD undef = .slice (some ⟨c, u, none⟩) m qq := hd0 0 17 (by kernel_rfl)
          have e1 : A.tmps[18]?.getD undef = .int .i64 (j : Int) := hd0 1 18 (by kernel_rfl)
          clear hT0 hd0
          go_simp
          exact hK.out _ _ (Below.refl _ _) rfl
        refine StepsI.cons (o := _) rfl ?_ ?_
        · try simp only [List.getElem_toArray, List.getElem_cons_zero, List.getElem_cons_succ]
          refine StepI.of ?_ ?_ ?_
          · rfl
          · kernel_rfl
          intro A w hb hT0 hd0 K hK
          obtain ⟨z0, z1, z2, z3, y0, y1, y2, y3⟩ := hall w hb
          have e0 : A.tmps[19]?.getD undef = .pointer (some ⟨c, o, none⟩) := hd0 2 19 (by kernel_rfl)
          clear hT0 hd0
          go_simp
          exact hK.out _ _ (Below.refl _ _) rfl
        refine StepsI.cons (o := _) rfl ?_ ?_
        · try simp only [List.getElem_toArray, List.getElem_cons_zero, List.getElem_cons_succ]
          refine StepI.of ?_ ?_ ?_
          · rfl
          · kernel_rfl
          intro A w hb hT0 hd0 K hK
          have f0 : A.tmps[1]?.getD undef = .slice (some ⟨c', u', none⟩) m qq' := hT0 1 (by kernel_rfl)
          clear hT0 hd0
          go_simp
          exact hK.out _ _ (Below.refl _ _) rfl
        refine StepsI.cons (o := _) rfl ?_ ?_
        · try simp only [List.getElem_toArray, List.getElem_cons_zero, List.getElem_cons_succ]
          refine StepI.of ?_ ?_ ?_
          · rfl
          · kernel_rfl
          intro A w hb hT0 hd0 K hK
          have f0 : A.tmps[5]?.getD undef = .int .i64 (j : Int) := hT0 5 (by kernel_rfl)
          clear hT0 hd0
          go_simp
          exact hK.out _ _ (Below.refl _ _) rfl
        refine StepsI.cons (o := _) rfl ?_ ?_
        · try simp only [List.getElem_toArray, List.getElem_cons_zero, List.getElem_cons_succ]
          refine StepI.of ?_ ?_ ?_
          · rfl
          · kernel_rfl
          intro A w hb hT0 hd0 K hK
          have e0 : A.tmps[21]?.getD undef = .slice (some ⟨c', u', none⟩) m qq' := hd0 4 21 (by kernel_rfl)
          have e1 : A.tmps[22]?.getD undef = .int .i64 (j : Int) := hd0 5 22 (by kernel_rfl)
          clear hT0 hd0
          go_simp
          exact hK.out _ _ (Below.refl _ _) rfl
        refine StepsI.cons (o := _) rfl ?_ ?_
        · try simp only [List.getElem_toArray, List.getElem_cons_zero, List.getElem_cons_succ]
          refine StepI.of ?_ ?_ ?_
          · rfl
          · kernel_rfl
          intro A w hb hT0 hd0 K hK
          obtain ⟨z0, z1, z2, z3, y0, y1, y2, y3⟩ := hall w hb
          have e0 : A.tmps[23]?.getD undef = .pointer (some ⟨c', o', none⟩) := hd0 6 23 (by kernel_rfl)
          clear hT0 hd0
          go_simp
          exact hK.out _ _ (Below.refl _ _) rfl
        refine StepsI.cons (o := _) rfl ?_ ?_
        · try simp only [List.getElem_toArray, List.getElem_cons_zero, List.getElem_cons_succ]
          refine StepI.of ?_ ?_ ?_
          · rfl
          · kernel_rfl
          intro A w hb hT0 hd0 K hK
          have e0 : A.tmps[20]?.getD undef = .agg #[.int .i64 op, .string tx, .int .i64 ty, .slice p3 n3 q3] := hd0 3 20 (by kernel_rfl)
          have e1 : A.tmps[24]?.getD undef = .agg #[.int .i64 op, .string tx, .int .i64 ty, .slice p4 n3 q4] := hd0 7 24 (by kernel_rfl)
          clear hT0 hd0
          go_simp
          refine (kE w hb).mono ?_
          rintro e w2 ⟨rfl, g⟩
          exact hK.out _ _ g (rfl)
        refine StepsI.cons (o := _) rfl ?_ ?_
        · try simp only [List.getElem_toArray, List.getElem_cons_zero, List.getElem_cons_succ]
          refine StepI.of ?_ ?_ ?_
          · rfl
          · kernel_rfl
          intro A w hb hT0 hd0 K hK
          have e0 : A.tmps[25]?.getD undef = .bool true := hd0 8 25 (by kernel_rfl)
          clear hT0 hd0
          go_simp
          exact hK.out _ _ (Below.refl _ _) rfl
        exact StepsI.nil
      intro g wz hb hR
      have e6 : g 26 = .bool false := hR 9 26 (by decide) (by kernel_rfl)
      simp only [fillT, List.foldl_cons, List.foldl_nil, List.setIfInBounds_toArray, List.set_cons_zero, List.set_cons_succ]
      rw [e6]
      clear e6 hR hall kE ix iy
      go_wp2_with fail
      exact ⟨⟨j + 1, wz, by go_num, rfl, pb_call gV'.out hb, by omega⟩, by simp [intOf]; omega⟩
    · obtain rfl : j = m := by omega
      have nn : ¬ ((j : Int) < (j : Int)) := by omega
      have g' := gV.out
      go_wp2_with fail
      go_ret
      exact ⟨rfl, g'⟩
set_option maxRecDepth 100000 in
set_option maxHeartbeats 3200000 in
theorem srE (op : Int) (tx : ByteArray) (ty : Int) (ks : Fo) (hA : ks.all SrA) (hz : ks.len ≤ 1099511627776) : SrA ⟨op, tx, ty, ks⟩ := by
  intro S S' pp pp' qq qq' w hT hU
  simp only at hT hU ⊢
  have g1 := pb_new (Below.refl w.heap.size w) (.cells #[.int .i64 op, .string tx, .int .i64 ty, .slice pp ks.len qq] 85)
  obtain ⟨X, hX⟩ : ∃ X, w.alloc (.cells #[.int .i64 op, .string tx, .int .i64 ty, .slice pp ks.len qq] 85) = X := ⟨_, rfl⟩
  have qX : X.heap[w.heap.size]? = some (.cells #[.int .i64 op, .string tx, .int .i64 ty, .slice pp ks.len qq] 85 (0, 0)) := by rw [← hX]; exact World.alloc_heap_new _ _
  have sX : X.heap.size = w.heap.size + 1 := by rw [← hX]; simp [go_sem]
  rw [hX] at g1
  have g2 := pb_new (Below.refl X.heap.size X) (.cells #[.int .i64 op, .string tx, .int .i64 ty, .slice pp' ks.len qq'] 85)
  obtain ⟨Y, hY⟩ : ∃ Y, X.alloc (.cells #[.int .i64 op, .string tx, .int .i64 ty, .slice pp' ks.len qq'] 85) = Y := ⟨_, rfl⟩
  have qY : Y.heap[w.heap.size + 1]? = some (.cells #[.int .i64 op, .string tx, .int .i64 ty, .slice pp' ks.len qq'] 85 (0, 0)) := by rw [← hY, ← sX]; exact World.alloc_heap_new _ _
  rw [hY] at g2
  obtain ⟨b2, hb2⟩ : ∃ b, w.heap.size = b := ⟨_, rfl⟩
  rw [hb2] at qX qY sX
  have qX2 : Y.heap[b2]? = some (.cells #[.int .i64 op, .string tx, .int .i64 ty, .slice pp ks.len qq] 85 (0, 0)) := (g2.block b2 (by omega)).trans qX
  obtain ⟨f0, f1, f2, f3, ff⟩ := ex_cells qX2
  obtain ⟨h0, h1, h2, h3, hh⟩ := ex_cells qY
  have kF := srF ks hA hz S S' pp pp' qq qq' Y ((hT.kp (Below.kp g1 _)).kp (Below.kp g2 _)) ((hU.kp (Below.kp g1 _)).kp (Below.kp g2 _))
  have gY : Hid (Below w.heap.size w Y) := pb_call g1 g2
  have hX' : Hid (w.alloc (.cells #[.int .i64 op, .string tx, .int .i64 ty, .slice pp ks.len qq] 85) = X) := hX
  have hY' : Hid (X.alloc (.cells #[.int .i64 op, .string tx, .int .i64 ty, .slice pp' ks.len qq'] 85) = Y) := hY
  have hb2' : Hid (w.heap.size = b2 ∧ X.heap.size = b2 + 1) := ⟨hb2, sX⟩
  clear hX hY hb2 sX qX qX2 qY g1 g2 hT hU hA hz
  generalize ks.len = n3 at *
  go_enter Tryz.func41, Tryz.ntmps41
  go_upto_region 1 with fail
  rw [hX'.out]
  rw [hY'.out]
  (try rw [hb2'.out.1])
  (try rw [hb2'.out.2])
  clear hX' hY' hb2'
  go_wp2_with (first
    | (go_at_call 40; (refine kF.mono ?_); rintro e v1 ⟨rfl, g3⟩)
    | fail)
  go_ret
  exact ⟨rfl, pb_call gY.out g3⟩
/-- All expressions of a tree. -/
theorem sr_of : ∀ f : Fo, f.wt ≤ 1099511627776 → f.all SrA
  | .nil, _ => trivial
  | .cons op tx ty ks r, hw => by
    have w1 : tx.size + 20 + ks.wt + r.wt ≤ 1099511627776 := hw
    have l := Fo.len_wt ks
    exact ⟨srE op tx ty ks (sr_of ks (by omega)) (by omega), sr_of r (by omega)⟩
end Go.Proofs.YtknoibocpbfmmaaGreatDoor

