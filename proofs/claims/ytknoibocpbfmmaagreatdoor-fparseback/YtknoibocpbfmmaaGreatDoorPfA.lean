/- Are two trees the same? Expressions. -/
import Derived.Test.YtknoibocpbfmmaaGreatDoorPeL
namespace Go.Proofs.YtknoibocpbfmmaaGreatDoor
open Go.RowKit
set_option linter.unusedVariables false
set_option linter.unusedSimpArgs false
def SqA (e : Ex) : Prop := ∀ (e2 : Ex) (S S' : Nat → Prop) (pp pp' : Option Addr) (qq qq' : Nat) (w : World), SlF w S (.slice pp e.ks.len qq) e.ks → SlF w S' (.slice pp' e2.ks.len qq') e2.ks →
  Calls Tryz.prog 89 #[.agg #[.int .i64 e.op, .string e.tx, .int .i64 e.ty, .slice pp e.ks.len qq], .agg #[.int .i64 e2.op, .string e2.tx, .int .i64 e2.ty, .slice pp' e2.ks.len qq']] w fun r w' => r = .returned (.bool (decide (e = e2))) ∧ Below w.heap.size w w'
abbrev sqV : Value := .func (.func 89) #[] #[]
theorem tl_inj {a b : ByteArray} (h : a.toList = b.toList) : a = b := by
  rw [toL, toL] at h
  exact ByteArray.ext (Array.ext' h)
theorem Fo.len_wt : ∀ f : Fo, f.len ≤ f.wt
  | .nil => Nat.le_refl _
  | .cons op tx ty ks r => by
    have := Fo.len_wt r
    show r.len + 1 ≤ tx.size + 20 + ks.wt + r.wt
    omega
theorem Fo.len0 {f : Fo} (h : f.len = 0) : f = .nil := by cases f with
  | nil => rfl
  | cons a b c k r => simp [Fo.len] at h
set_option maxRecDepth 100000 in
set_option maxHeartbeats 3200000 in
theorem sqF (f : Fo) (hA : f.all SqA) (g : Fo) (hz : f.len ≤ 1099511627776) (S S' : Nat → Prop) (pp pp' : Option Addr) (qq qq' : Nat) (w : World) (hT : SlF w S (.slice pp f.len qq) f) (hU : SlF w S' (.slice pp' g.len qq') g) :
    Calls Tryz.prog 88 #[.slice pp f.len qq, .slice pp' g.len qq', sqV] w fun e' w' => e' = .returned (.bool (decide (f = g))) ∧ Below w.heap.size w w' := by
  by_cases hl : f.len = g.len
  · obtain ⟨R, hR⟩ : ∃ R, decide (f = g) = R := ⟨_, rfl⟩
    rw [hR]
    rw [← hl] at hU ⊢
    obtain ⟨m, hm⟩ : ∃ m, f.len = m := ⟨_, rfl⟩
    rw [hm] at hT hU hz ⊢
    have hm' : Hid (f.len = m ∧ g.len = m) := ⟨hm, hl.symm.trans hm⟩
    have hA' : Hid (f.all SqA) := hA
    have hT' : Hid (SlF w S (.slice pp m qq) f) := hT
    have hU' : Hid (SlF w S' (.slice pp' m qq') g) := hU
    have hI : Hid (decide (f.drop 0 = g.drop 0) = R) := hR
    have hm40 : Hid (m ≤ 1099511627776) := hz
    have hl' : ¬ (m : Int) ≠ (m : Int) := by simp
    clear hm hA hT hU hR hz hl
    go_enter Tryz.func88, Tryz.ntmps88
    go_upto_region 4 with fail
    go_loopw [17] (fun i wr => ∃ (j : Nat) (V : World), i = .int .i64 j ∧ V = wr ∧ Hid (Below w.heap.size w V) ∧ Hid (decide (f.drop j = g.drop j) = R) ∧ j ≤ m) (fun i _ => m - (intOf i).toNat)
    case atStart => exact ⟨0, w, rfl, rfl, Below.refl _ _, hI, by omega⟩
    case round =>
      clear hI
      obtain ⟨j, V, rfl, e, gV, hI, hj⟩ := hrel
      subst e
      by_cases cj : j < m
      · have cj' : (j : Int) < (m : Int) := by omega
        obtain ⟨op, tx, ty, ks, hf⟩ := Fo.drop_at (f := f) (j := j) (by rw [hm'.out.1]; exact cj)
        obtain ⟨op', tx', ty', ks', hg⟩ := Fo.drop_at (f := g) (j := j) (by rw [hm'.out.2]; exact cj)
        have hal := Fo.all_drop j hA'.out
        rw [hf] at hal
        have hq := hI.out
        rw [hf, hg] at hq
        have hTT := hT'.out.kp (Below.kp gV.out _)
        have hUU := hU'.out.kp (Below.kp gV.out _)
        obtain ⟨p2, q2, e2, hT⟩ := hTT
        obtain ⟨rfl, e4, rfl⟩ := Value.slice.inj e2
        clear e2 e4
        obtain ⟨p2, q2, e2, hU⟩ := hUU
        obtain ⟨rfl, e4, rfl⟩ := Value.slice.inj e2
        clear e2 e4
        rcases hT with hT | ⟨c, u, rfl, hT⟩
        · exfalso; have := hm'.out.1; rw [hT] at this; simp [Fo.len] at this; omega
        rcases hU with hU | ⟨c', u', rfl, hU⟩
        · exfalso; have := hm'.out.2; rw [hU] at this; simp [Fo.len] at this; omega
        have hTj := FoAt.drop j hT
        rw [hf] at hTj
        obtain ⟨⟨k0, k1, k2, s3, k3, hs3⟩, _, lc⟩ := hTj.head
        obtain ⟨p3, q3, rfl, hs3'⟩ := hs3
        have hUj := FoAt.drop j hU
        rw [hg] at hUj
        obtain ⟨⟨l0, l1, l2, s4, l3, hs4⟩, _, lc'⟩ := hUj.head
        obtain ⟨p4, q4, rfl, hs4'⟩ := hs4
        simp only at k0 k1 k2 k3 l0 l1 l2 l3 hs3' hs4'
        have g1 := pb_new (Below.refl V.heap.size V) (.cells #[.int .i64 op, .string tx, .int .i64 ty, .slice p3 ks.len q3] 85)
        obtain ⟨X, hX⟩ : ∃ X, V.alloc (.cells #[.int .i64 op, .string tx, .int .i64 ty, .slice p3 ks.len q3] 85) = X := ⟨_, rfl⟩
        have qX : X.heap[V.heap.size]? = some (.cells #[.int .i64 op, .string tx, .int .i64 ty, .slice p3 ks.len q3] 85 (0, 0)) := by rw [← hX]; exact World.alloc_heap_new _ _
        have sX : X.heap.size = V.heap.size + 1 := by rw [← hX]; simp [go_sem]
        rw [hX] at g1
        have g2 := pb_new (Below.refl X.heap.size X) (.cells #[.int .i64 op', .string tx', .int .i64 ty', .slice p4 ks'.len q4] 85)
        obtain ⟨Y, hY⟩ : ∃ Y, X.alloc (.cells #[.int .i64 op', .string tx', .int .i64 ty', .slice p4 ks'.len q4] 85) = Y := ⟨_, rfl⟩
        have qY : Y.heap[V.heap.size + 1]? = some (.cells #[.int .i64 op', .string tx', .int .i64 ty', .slice p4 ks'.len q4] 85 (0, 0)) := by rw [← hY, ← sX]; exact World.alloc_heap_new _ _
        rw [hY] at g2
        have kE := hal.1 ⟨op', tx', ty', ks'⟩ S S' p3 p4 q3 q4 Y (((show SlF V S (.slice p3 ks.len q3) ks from ⟨p3, q3, rfl, hs3'⟩).kp (Below.kp g1 _)).kp (Below.kp g2 _)) (((show SlF V S' (.slice p4 ks'.len q4) ks' from ⟨p4, q4, rfl, hs4'⟩).kp (Below.kp g1 _)).kp (Below.kp g2 _))
        have ix := ex_ix c u m qq j cj
        have iy := ex_ix c' u' m qq' j cj
        have wj : IntKind.i64.wrap ((j : Int) + 1) = ((j + 1 : Nat) : Int) := by have := hm40.out; rw [IntKind.wrap_i64]; omega
        obtain ⟨b8, hb8⟩ : ∃ b, V.heap.size = b := ⟨_, rfl⟩
        rw [hb8] at qX qY sX
        have qX2 : Y.heap[b8]? = some (.cells #[.int .i64 op, .string tx, .int .i64 ty, .slice p3 ks.len q3] 85 (0, 0)) := (g2.block b8 (by omega)).trans qX
        obtain ⟨f0, f1, f2, f3, ff⟩ := ex_cells qX2
        obtain ⟨h0, h1, h2, h3, hh⟩ := ex_cells qY
        have l0' := pb_cell g1 l0
        have l1' := pb_cell g1 l1
        have l2' := pb_cell g1 l2
        have l3' := pb_cell g1 l3
        have gY : Hid (Below w.heap.size w Y) := pb_call (pb_call gV.out g1) g2
        obtain ⟨D, hD⟩ : ∃ D, decide ((⟨op, tx, ty, ks⟩ : Ex) = ⟨op', tx', ty', ks'⟩) = D := ⟨_, rfl⟩
        rw [hD] at kE
        have hq2 : Hid ((D = true → decide (f.drop (j + 1) = g.drop (j + 1)) = R) ∧ (D = false → R = false)) := by
          refine ⟨fun h => ?_, fun h => ?_⟩
          · rw [h] at hD
            have := of_decide_eq_true hD
            cases this
            rw [← hq]
            simp
          · rw [h] at hD
            have := of_decide_eq_false hD
            rw [← hq]
            refine decide_eq_false fun hc => this ?_
            injection hc with a b c d
            rw [a, b, c, d]
        have hX' : Hid (V.alloc (.cells #[.int .i64 op, .string tx, .int .i64 ty, .slice p3 ks.len q3] 85) = X) := hX
        have hY' : Hid (X.alloc (.cells #[.int .i64 op', .string tx', .int .i64 ty', .slice p4 ks'.len q4] 85) = Y) := hY
        have hb8' : Hid (V.heap.size = b8 ∧ X.heap.size = b8 + 1) := ⟨hb8, sX⟩
        clear hq hI hT hU hTj hUj hs3' hs4' lc lc' hal hf hg hD qX qX2 qY hX hY hb8 sX g1 g2 gV l0 l1 l2 l3
        generalize hks : ks.len = n3 at *
        generalize hks' : ks'.len = n4 at *
        clear hks hks'
        generalize u + j * 4 = o at *
        generalize u' + j * 4 = o' at *
        go_upto_region 6 with fail
        rw [hX'.out]
        (try rw [hb8'.out.1])
        clear k0 k1 k2 k3 ix
        go_upto_region 7 with fail
        rw [hY'.out]
        (try rw [hb8'.out.2])
        clear l0' l1' l2' l3' iy hX' hY' hb8'
        cases D with
        | true =>
          go_wp2_with (first
            | (go_at_call 89; (refine kE.mono ?_); rintro e v1 ⟨rfl, g3⟩)
            | fail)
          exact ⟨⟨j + 1, v1, by go_num, rfl, pb_call gY.out g3, (by first | exact hq2.out.1 rfl | exact hq2.out.1 trivial), by omega⟩, by simp [intOf]; omega⟩
        | false =>
          obtain rfl := hq2.out.2 rfl
          go_wp2_with (first
            | (go_at_call 89; (refine kE.mono ?_); rintro e v1 ⟨rfl, g3⟩)
            | fail)
          go_ret
          exact ⟨rfl, pb_call gY.out g3⟩
      · obtain rfl : j = m := by omega
        have nn : ¬ ((j : Int) < (j : Int)) := by omega
        have hq := hI.out
        have e1 : f.drop j = .nil := by rw [← hm'.out.1]; exact Fo.drop_end f
        have e2 : g.drop j = .nil := by rw [← hm'.out.2]; exact Fo.drop_end g
        rw [e1, e2] at hq
        obtain rfl : R = true := by rw [← hq]; simp
        have g' := gV.out
        clear hI e1 e2
        go_wp2_with fail
        go_ret
        exact ⟨rfl, g'⟩
  · have hne : ¬ f = g := fun h => hl (by rw [h])
    rw [decide_eq_false hne]
    have hl' : (f.len : Int) ≠ (g.len : Int) := by omega
    clear hT hU hne hl hA
    generalize f.len = n at *
    generalize g.len = m at *
    go_enter Tryz.func88, Tryz.ntmps88
    go_wp2_with fail
    go_ret
    exact ⟨rfl, Below.refl _ _⟩
set_option maxRecDepth 100000 in
set_option maxHeartbeats 3200000 in
theorem sqE (op : Int) (tx : ByteArray) (ty : Int) (ks : Fo) (hA : ks.all SqA) (hz : ks.len ≤ 1099511627776) : SqA ⟨op, tx, ty, ks⟩ := by
  rintro ⟨op', tx', ty', ks'⟩ S S' pp pp' qq qq' w hT hU
  simp only at hT hU ⊢
  have g1 := pb_new (Below.refl w.heap.size w) (.cells #[.int .i64 op, .string tx, .int .i64 ty, .slice pp ks.len qq] 85)
  obtain ⟨X, hX⟩ : ∃ X, w.alloc (.cells #[.int .i64 op, .string tx, .int .i64 ty, .slice pp ks.len qq] 85) = X := ⟨_, rfl⟩
  have qX : X.heap[w.heap.size]? = some (.cells #[.int .i64 op, .string tx, .int .i64 ty, .slice pp ks.len qq] 85 (0, 0)) := by rw [← hX]; exact World.alloc_heap_new _ _
  have sX : X.heap.size = w.heap.size + 1 := by rw [← hX]; simp [go_sem]
  rw [hX] at g1
  have g2 := pb_new (Below.refl X.heap.size X) (.cells #[.int .i64 op', .string tx', .int .i64 ty', .slice pp' ks'.len qq'] 85)
  obtain ⟨Y, hY⟩ : ∃ Y, X.alloc (.cells #[.int .i64 op', .string tx', .int .i64 ty', .slice pp' ks'.len qq'] 85) = Y := ⟨_, rfl⟩
  have qY : Y.heap[w.heap.size + 1]? = some (.cells #[.int .i64 op', .string tx', .int .i64 ty', .slice pp' ks'.len qq'] 85 (0, 0)) := by rw [← hY, ← sX]; exact World.alloc_heap_new _ _
  rw [hY] at g2
  obtain ⟨b2, hb2⟩ : ∃ b, w.heap.size = b := ⟨_, rfl⟩
  rw [hb2] at qX qY sX
  have qX2 : Y.heap[b2]? = some (.cells #[.int .i64 op, .string tx, .int .i64 ty, .slice pp ks.len qq] 85 (0, 0)) := (g2.block b2 (by omega)).trans qX
  obtain ⟨f0, f1, f2, f3, ff⟩ := ex_cells qX2
  obtain ⟨h0, h1, h2, h3, hh⟩ := ex_cells qY
  have kF := sqF ks hA ks' hz S S' pp pp' qq qq' Y ((hT.kp (Below.kp g1 _)).kp (Below.kp g2 _)) ((hU.kp (Below.kp g1 _)).kp (Below.kp g2 _))
  have gY : Hid (Below w.heap.size w Y) := pb_call g1 g2
  have hX' : Hid (w.alloc (.cells #[.int .i64 op, .string tx, .int .i64 ty, .slice pp ks.len qq] 85) = X) := hX
  have hY' : Hid (X.alloc (.cells #[.int .i64 op', .string tx', .int .i64 ty', .slice pp' ks'.len qq'] 85) = Y) := hY
  have hb2' : Hid (w.heap.size = b2 ∧ X.heap.size = b2 + 1) := ⟨hb2, sX⟩
  obtain ⟨D, hD⟩ : ∃ D, decide (ks = ks') = D := ⟨_, rfl⟩
  rw [hD] at kF
  obtain ⟨R, hR⟩ : ∃ R, decide ((⟨op, tx, ty, ks⟩ : Ex) = ⟨op', tx', ty', ks'⟩) = R := ⟨_, rfl⟩
  have hr : Hid ((¬ op = op' → R = false) ∧ (¬ tx = tx' → R = false) ∧ (¬ ty = ty' → R = false) ∧ (op = op' → tx = tx' → ty = ty' → R = D)) := by
    refine ⟨fun h => ?_, fun h => ?_, fun h => ?_, fun a b c => ?_⟩
    · rw [← hR]; exact decide_eq_false fun e => h (by injection e)
    · rw [← hR]; exact decide_eq_false fun e => h (by injection e)
    · rw [← hR]; exact decide_eq_false fun e => h (by injection e)
    · rw [← hR, ← hD, a, b, c]; simp
  rw [hR]
  clear hX hY hb2 sX qX qX2 qY g1 g2 hT hU hA hz hD hR
  generalize ks.len = n3 at *
  generalize ks'.len = n4 at *
  go_enter Tryz.func89, Tryz.ntmps89
  go_upto_region 1 with fail
  rw [hX'.out]
  rw [hY'.out]
  (try rw [hb2'.out.1])
  (try rw [hb2'.out.2])
  clear hX' hY' hb2'
  by_cases c0 : op = op'
  · subst c0
    by_cases c1 : tx = tx'
    · subst c1
      by_cases c2 : ty = ty'
      · subst c2
        obtain rfl := hr.out.2.2.2 rfl rfl rfl
        clear hr
        go_wp2_with (first
          | (go_at_call 88; (refine kF.mono ?_); rintro e v1 ⟨rfl, g3⟩)
          | fail)
        go_ret
        exact ⟨rfl, pb_call gY.out g3⟩
      · obtain rfl := hr.out.2.2.1 c2
        have c2' : (ty == ty') = false := beq_false_of_ne c2
        clear hr kF
        go_wp2_with fail
        go_ret
        exact ⟨rfl, gY.out⟩
    · obtain rfl := hr.out.2.1 c1
      have c1' : (tx.toList == tx'.toList) = false := beq_false_of_ne (fun h => c1 (tl_inj h))
      clear hr kF
      go_wp2_with fail
      go_ret
      exact ⟨rfl, gY.out⟩
  · obtain rfl := hr.out.1 c0
    have c0' : (op == op') = false := beq_false_of_ne c0
    clear hr kF
    go_wp2_with fail
    go_ret
    exact ⟨rfl, gY.out⟩
/-- All expressions of a tree. -/
theorem sq_of : ∀ f : Fo, f.wt ≤ 1099511627776 → f.all SqA
  | .nil, _ => trivial
  | .cons op tx ty ks r, hw => by
    have w1 : tx.size + 20 + ks.wt + r.wt ≤ 1099511627776 := hw
    have := fo_size ks
    have l := Fo.len_wt ks
    exact ⟨sqE op tx ty ks (sq_of ks (by omega)) (by omega), sq_of r (by omega)⟩
end Go.Proofs.YtknoibocpbfmmaaGreatDoor

