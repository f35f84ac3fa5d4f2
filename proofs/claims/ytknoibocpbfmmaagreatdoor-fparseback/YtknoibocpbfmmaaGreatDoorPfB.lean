/- Are two trees the same? Statements. -/
import Derived.Test.YtknoibocpbfmmaaGreatDoorPfA
import Derived.Test.YtknoibocpbfmmaaGreatDoorPeG
namespace Go.Proofs.YtknoibocpbfmmaaGreatDoor
open Go.RowKit
set_option linter.unusedVariables false
set_option linter.unusedSimpArgs false
theorem wp_assign_by {o : Oper} {a : Act} {w : World} {K : Act → World → Prop} {Q : Exit → Act → World → Prop} (x : Operand) (ho : o.op = .assign x) (v : Value) (hx : a.eval x = v) (h : K (a.put o.dst v) w) : o.wp Tryz.prog a w K Q := by
  unfold Oper.wp execOp
  simp only [ho, hx, Sem.run_bind, Sem.run_pure, Result.andThen_ok]
  exact h
def SqT (s : St) : Prop := ∀ (s2 : St) (S S' : Nat → Prop) (p0 : Option Addr) (q0 : Nat) (p1 : Option Addr) (q1 : Nat) (p2 : Option Addr) (q2 : Nat) (p3 : Option Addr) (q3 : Nat) (p4 : Option Addr) (q4 : Nat) (p5 : Option Addr) (q5 : Nat) (p0' : Option Addr) (q0' : Nat) (p1' : Option Addr) (q1' : Nat) (p2' : Option Addr) (q2' : Nat) (p3' : Option Addr) (q3' : Nat) (p4' : Option Addr) (q4' : Nat) (p5' : Option Addr) (q5' : Nat) (w : World), StT w S s p0 q0 p1 q1 p2 q2 p3 q3 p4 q4 p5 q5 → StT w S' s2 p0' q0' p1' q1' p2' q2' p3' q3' p4' q4' p5' q5' →
  Calls Tryz.prog 67 #[.agg #[.int .i64 s.dO, .string s.name, .slice p0 s.index.len q0, .int .i64 s.value.op, .string s.value.tx, .int .i64 s.value.ty, .slice p1 s.value.ks.len q1, .int .i64 s.low.op, .string s.low.tx, .int .i64 s.low.ty, .slice p2 s.low.ks.len q2, .int .i64 s.high.op, .string s.high.tx, .int .i64 s.high.ty, .slice p3 s.high.ks.len q3, .slice p4 s.thn.len q4, .slice p5 s.els.len q5], .agg #[.int .i64 s2.dO, .string s2.name, .slice p0' s2.index.len q0', .int .i64 s2.value.op, .string s2.value.tx, .int .i64 s2.value.ty, .slice p1' s2.value.ks.len q1', .int .i64 s2.low.op, .string s2.low.tx, .int .i64 s2.low.ty, .slice p2' s2.low.ks.len q2', .int .i64 s2.high.op, .string s2.high.tx, .int .i64 s2.high.ty, .slice p3' s2.high.ks.len q3', .slice p4' s2.thn.len q4', .slice p5' s2.els.len q5']] w fun r w' => r = .returned (.bool (decide (s.row .nil = s2.row .nil))) ∧ Below w.heap.size w w'
abbrev sqW : Value := .func (.func 67) #[] #[]
theorem row_eq {s s2 : St} {r r2 : So} (h : s.row r = s2.row r2) : s.row .nil = s2.row .nil ∧ r = r2 := by
  unfold St.row at h ⊢
  injection h with a b c d e f g i j
  rw [a, b, c, d, e, f, g, i, j]
  exact ⟨rfl, rfl⟩
theorem row_of {s s2 : St} (h : s.row .nil = s2.row .nil) (r : So) : s.row r = s2.row r := by
  unfold St.row at h ⊢
  injection h with a b c d e f g i j
  rw [a, b, c, d, e, f, g, i]
set_option maxRecDepth 100000 in
set_option maxHeartbeats 3200000 in
theorem sqS (f : So) (hA : f.all SqT) (g : So) (hz : f.len ≤ 1099511627776) (S S' : Nat → Prop) (pp pp' : Option Addr) (qq qq' : Nat) (w : World) (hT : SlS w S (.slice pp f.len qq) f) (hU : SlS w S' (.slice pp' g.len qq') g) :
    Calls Tryz.prog 66 #[.slice pp f.len qq, .slice pp' g.len qq', sqW] w fun e' w' => e' = .returned (.bool (decide (f = g))) ∧ Below w.heap.size w w' := by
  by_cases hl : f.len = g.len
  · obtain ⟨R, hR⟩ : ∃ R, decide (f = g) = R := ⟨_, rfl⟩
    rw [hR]
    rw [← hl] at hU ⊢
    obtain ⟨m, hm⟩ : ∃ m, f.len = m := ⟨_, rfl⟩
    rw [hm] at hT hU hz ⊢
    have hm' : Hid (f.len = m ∧ g.len = m) := ⟨hm, hl.symm.trans hm⟩
    have hA' : Hid (f.all SqT) := hA
    have hT' : Hid (SlS w S (.slice pp m qq) f) := hT
    have hU' : Hid (SlS w S' (.slice pp' m qq') g) := hU
    have hI : Hid (decide (f.drop 0 = g.drop 0) = R) := hR
    have hm40 : Hid (m ≤ 1099511627776) := hz
    have hl' : ¬ (m : Int) ≠ (m : Int) := by simp
    clear hm hA hT hU hR hz hl
    go_enter Tryz.func66, Tryz.ntmps66
    go_upto_region 4 with fail
    go_loopw [17] (fun i wr => ∃ (j : Nat) (V : World), i = .int .i64 j ∧ V = wr ∧ Hid (Below w.heap.size w V) ∧ Hid (decide (f.drop j = g.drop j) = R) ∧ j ≤ m) (fun i _ => m - (intOf i).toNat)
    case atStart => exact ⟨0, w, rfl, rfl, Below.refl _ _, hI, by omega⟩
    case round =>
      clear hI
      obtain ⟨j, V, rfl, e, gV, hI, hj⟩ := hrel
      subst e
      by_cases cj : j < m
      · have cj' : (j : Int) < (m : Int) := by omega
        obtain ⟨s, hf⟩ := So.drop_at (f := f) (j := j) (by rw [hm'.out.1]; exact cj)
        obtain ⟨s2, hg⟩ := So.drop_at (f := g) (j := j) (by rw [hm'.out.2]; exact cj)
        have hal := So.all_drop j hA'.out
        rw [hf] at hal
        have hq := hI.out
        rw [hf, hg] at hq
        have hTT := hT'.out.kp (Below.kp gV.out _)
        have hUU := hU'.out.kp (Below.kp gV.out _)
        obtain ⟨p2', q2', e2, hT⟩ := hTT
        obtain ⟨rfl, e4, rfl⟩ := Value.slice.inj e2
        clear e2 e4
        obtain ⟨p2', q2', e2, hU⟩ := hUU
        obtain ⟨rfl, e4, rfl⟩ := Value.slice.inj e2
        clear e2 e4
        rcases hT with hT | ⟨c, u, rfl, hT⟩
        · exfalso; have := hm'.out.1; rw [hT] at this; simp [So.len] at this; omega
        rcases hU with hU | ⟨c', u', rfl, hU⟩
        · exfalso; have := hm'.out.2; rw [hU] at this; simp [So.len] at this; omega
        have hTj := SoAt.drop j hT
        rw [hf] at hTj
        have hUj := SoAt.drop j hU
        rw [hg] at hUj
        obtain ⟨lc, p0, q0, p1, q1, p2, q2, p3, q3, p4, q4, p5, q5, sT, k0, k1, k2, k3, k4, k5, k6, k7, k8, k9, k10, k11, k12, k13, k14, k15, k16⟩ := hTj.cells
        obtain ⟨lc', p0', q0', p1', q1', p2', q2', p3', q3', p4', q4', p5', q5', sU, m0, m1, m2, m3, m4, m5, m6, m7, m8, m9, m10, m11, m12, m13, m14, m15, m16⟩ := hUj.cells
        obtain ⟨D, hD⟩ : ∃ D, decide (s.row .nil = s2.row .nil) = D := ⟨_, rfl⟩
        have kS : ∀ Y, Below V.heap.size V Y → Calls Tryz.prog 67 #[.agg #[.int .i64 s.dO, .string s.name, .slice p0 s.index.len q0, .int .i64 s.value.op, .string s.value.tx, .int .i64 s.value.ty, .slice p1 s.value.ks.len q1, .int .i64 s.low.op, .string s.low.tx, .int .i64 s.low.ty, .slice p2 s.low.ks.len q2, .int .i64 s.high.op, .string s.high.tx, .int .i64 s.high.ty, .slice p3 s.high.ks.len q3, .slice p4 s.thn.len q4, .slice p5 s.els.len q5], .agg #[.int .i64 s2.dO, .string s2.name, .slice p0' s2.index.len q0', .int .i64 s2.value.op, .string s2.value.tx, .int .i64 s2.value.ty, .slice p1' s2.value.ks.len q1', .int .i64 s2.low.op, .string s2.low.tx, .int .i64 s2.low.ty, .slice p2' s2.low.ks.len q2', .int .i64 s2.high.op, .string s2.high.tx, .int .i64 s2.high.ty, .slice p3' s2.high.ks.len q3', .slice p4' s2.thn.len q4', .slice p5' s2.els.len q5']] Y fun r w' => r = .returned (.bool D) ∧ Below Y.heap.size Y w' := fun Y g => by
          rw [← hD]
          exact (show SqT s from hal.1) s2 S S' p0 q0 p1 q1 p2 q2 p3 q3 p4 q4 p5 q5 p0' q0' p1' q1' p2' q2' p3' q3' p4' q4' p5' q5' Y (sT.kp (Below.kp g _)) (sU.kp (Below.kp g _))
        have hq2 : Hid ((D = true → decide (f.drop (j + 1) = g.drop (j + 1)) = R) ∧ (D = false → R = false)) := by
          refine ⟨fun h => ?_, fun h => ?_⟩
          · rw [h] at hD
            have e := of_decide_eq_true hD
            rw [← hq]
            refine decide_eq_decide.2 ⟨fun h => ?_, fun h => (row_eq h).2⟩
            rw [h]; exact row_of e _
          · rw [h] at hD
            have := of_decide_eq_false hD
            rw [← hq]
            exact decide_eq_false fun hc => this (row_eq hc).1
        have ix := so_ix c u m qq j cj
        have iy := so_ix c' u' m qq' j cj
        have cV : c < V.heap.size := World.block_lt_of_cell? V _ k0
        have wj : IntKind.i64.wrap ((j : Int) + 1) = ((j + 1 : Nat) : Int) := by have := hm40.out; rw [IntKind.wrap_i64]; omega
        generalize u + j * 17 = o at *
        generalize u' + j * 17 = o' at *
        obtain ⟨CSA, hCSA⟩ : ∃ CS : List Value, [.int .i64 s.dO, .string s.name, .slice p0 s.index.len q0, .int .i64 s.value.op, .string s.value.tx, .int .i64 s.value.ty, .slice p1 s.value.ks.len q1, .int .i64 s.low.op, .string s.low.tx, .int .i64 s.low.ty, .slice p2 s.low.ks.len q2, .int .i64 s.high.op, .string s.high.tx, .int .i64 s.high.ty, .slice p3 s.high.ks.len q3, .slice p4 s.thn.len q4, .slice p5 s.els.len q5] = CS := ⟨_, rfl⟩
        have hlA : CSA.length = 17 := by rw [← hCSA]; rfl
        have h1A : ∀ v ∈ CSA, v.oneCell' = true := by
          rw [← hCSA]
          intro v hv
          simp only [List.mem_cons, List.not_mem_nil, or_false] at hv
          rcases hv with rfl | rfl | rfl | rfl | rfl | rfl | rfl | rfl | rfl | rfl | rfl | rfl | rfl | rfl | rfl | rfl | rfl <;> rfl
        have kcA : V.rangeAt c o CSA := by
          rw [← hCSA]
          intro jj v hv
          match jj, hv with
          | 0, hv => obtain rfl := Option.some.inj hv; exact k0
          | 1, hv => obtain rfl := Option.some.inj hv; exact k1
          | 2, hv => obtain rfl := Option.some.inj hv; exact k2
          | 3, hv => obtain rfl := Option.some.inj hv; exact k3
          | 4, hv => obtain rfl := Option.some.inj hv; exact k4
          | 5, hv => obtain rfl := Option.some.inj hv; exact k5
          | 6, hv => obtain rfl := Option.some.inj hv; exact k6
          | 7, hv => obtain rfl := Option.some.inj hv; exact k7
          | 8, hv => obtain rfl := Option.some.inj hv; exact k8
          | 9, hv => obtain rfl := Option.some.inj hv; exact k9
          | 10, hv => obtain rfl := Option.some.inj hv; exact k10
          | 11, hv => obtain rfl := Option.some.inj hv; exact k11
          | 12, hv => obtain rfl := Option.some.inj hv; exact k12
          | 13, hv => obtain rfl := Option.some.inj hv; exact k13
          | 14, hv => obtain rfl := Option.some.inj hv; exact k14
          | 15, hv => obtain rfl := Option.some.inj hv; exact k15
          | 16, hv => obtain rfl := Option.some.inj hv; exact k16
          | n + 17, hv => cases hv
        obtain ⟨CSB, hCSB⟩ : ∃ CS : List Value, [.int .i64 s2.dO, .string s2.name, .slice p0' s2.index.len q0', .int .i64 s2.value.op, .string s2.value.tx, .int .i64 s2.value.ty, .slice p1' s2.value.ks.len q1', .int .i64 s2.low.op, .string s2.low.tx, .int .i64 s2.low.ty, .slice p2' s2.low.ks.len q2', .int .i64 s2.high.op, .string s2.high.tx, .int .i64 s2.high.ty, .slice p3' s2.high.ks.len q3', .slice p4' s2.thn.len q4', .slice p5' s2.els.len q5'] = CS := ⟨_, rfl⟩
        have hlB : CSB.length = 17 := by rw [← hCSB]; rfl
        have h1B : ∀ v ∈ CSB, v.oneCell' = true := by
          rw [← hCSB]
          intro v hv
          simp only [List.mem_cons, List.not_mem_nil, or_false] at hv
          rcases hv with rfl | rfl | rfl | rfl | rfl | rfl | rfl | rfl | rfl | rfl | rfl | rfl | rfl | rfl | rfl | rfl | rfl <;> rfl
        have kcB : V.rangeAt c' o' CSB := by
          rw [← hCSB]
          intro jj v hv
          match jj, hv with
          | 0, hv => obtain rfl := Option.some.inj hv; exact m0
          | 1, hv => obtain rfl := Option.some.inj hv; exact m1
          | 2, hv => obtain rfl := Option.some.inj hv; exact m2
          | 3, hv => obtain rfl := Option.some.inj hv; exact m3
          | 4, hv => obtain rfl := Option.some.inj hv; exact m4
          | 5, hv => obtain rfl := Option.some.inj hv; exact m5
          | 6, hv => obtain rfl := Option.some.inj hv; exact m6
          | 7, hv => obtain rfl := Option.some.inj hv; exact m7
          | 8, hv => obtain rfl := Option.some.inj hv; exact m8
          | 9, hv => obtain rfl := Option.some.inj hv; exact m9
          | 10, hv => obtain rfl := Option.some.inj hv; exact m10
          | 11, hv => obtain rfl := Option.some.inj hv; exact m11
          | 12, hv => obtain rfl := Option.some.inj hv; exact m12
          | 13, hv => obtain rfl := Option.some.inj hv; exact m13
          | 14, hv => obtain rfl := Option.some.inj hv; exact m14
          | 15, hv => obtain rfl := Option.some.inj hv; exact m15
          | 16, hv => obtain rfl := Option.some.inj hv; exact m16
          | n + 17, hv => cases hv
        have kS9 : ∀ Y, Below V.heap.size V Y → Calls Tryz.prog 67 #[.agg CSA.toArray, .agg CSB.toArray] Y fun r w' => r = .returned (.bool D) ∧ Below Y.heap.size Y w' := by rw [← hCSA, ← hCSB]; exact kS
        clear kS k0 k1 k2 k3 k4 k5 k6 k7 k8 k9 k10 k11 k12 k13 k14 k15 k16 m0 m1 m2 m3 m4 m5 m6 m7 m8 m9 m10 m11 m12 m13 m14 m15 m16 hCSA hCSB hq hI hD
        clear hTj hT hUj hU hal sT sU lc lc' hf hg
        have g1 := pb_new (Below.refl V.heap.size V) (.cells CSA.toArray 87)
        have qX := World.alloc_heap_new V (.cells CSA.toArray 87)
        obtain ⟨X, hX⟩ : ∃ X, V.alloc (.cells CSA.toArray 87) = X := ⟨_, rfl⟩
        have sX : X.heap.size = V.heap.size + 1 := by rw [← hX]; simp [go_sem]
        rw [hX] at g1 qX
        have g2 := pb_new (Below.refl X.heap.size X) (.cells CSB.toArray 87)
        have qY := World.alloc_heap_new X (.cells CSB.toArray 87)
        obtain ⟨Y, hY⟩ : ∃ Y, X.alloc (.cells CSB.toArray 87) = Y := ⟨_, rfl⟩
        rw [hY] at g2 qY
        rw [sX] at qY
        obtain ⟨b8, hb8⟩ : ∃ b, V.heap.size = b := ⟨_, rfl⟩
        rw [hb8] at qX qY sX
        have qX2 : Y.heap[b8]? = some (.cells CSA.toArray 87 (0, 0)) := (g2.block b8 (by omega)).trans qX
        have kcB' : X.rangeAt c' o' CSB := fun jj v hv => pb_cell g1 (kcB jj v hv)
        have kE := kS9 Y (g1.trans (g2.mono g1.size))
        have gY : Hid (Below w.heap.size w Y) := pb_call (pb_call gV.out g1) g2
        have snA := sn17 V hlA h1A
        have snB := sn17 X hlB h1B
        have hX' : Hid (V.alloc (.cells CSA.toArray 87) = X) := hX
        have hY' : Hid (X.alloc (.cells CSB.toArray 87) = Y) := hY
        have hb8' : Hid (V.heap.size = b8 ∧ X.heap.size = b8 + 1) := ⟨hb8, sX⟩
        clear qX hX hY hb8 sX g1 g2 gV kS9 cV
        go_upto_region 5 with fail
        refine wp_region_list ?_
        refine Eq.mpr (if_pos (by rfl)) (Or.inl ?_)
        refine wp_move_by (.tmp 17) rfl _ rfl ?_
        simp only [Act.put, List.setIfInBounds_toArray, List.set_cons_zero, List.set_cons_succ]
        refine Eq.mpr (if_pos (by rfl)) (Or.inl ?_)
        refine wp_index_by 23 (.tmp 15) (.tmp 17) rfl _ _ _ rfl rfl (ix _) ?_
        simp only [Act.put, List.setIfInBounds_toArray, List.set_cons_zero, List.set_cons_succ]
        refine Eq.mpr (if_pos (by rfl)) (Or.inl ?_)
        refine wp_load_by 87 (.tmp 20) rfl _ _ rfl (ld17o kcA hlA) ?_
        simp only [Act.put, List.setIfInBounds_toArray, List.set_cons_zero, List.set_cons_succ]
        refine Eq.mpr (if_pos (by rfl)) (Or.inl ?_)
        refine wp_alloc_by 87 rfl _ (al17 _) ?_
        simp only [Act.put, List.setIfInBounds_toArray, List.set_cons_zero, List.set_cons_succ]
        refine Eq.mpr (if_pos (by rfl)) (Or.inl ?_)
        refine wp_assign_by (.tmp 19) rfl _ rfl ?_
        simp only [Act.put, List.setIfInBounds_toArray, List.set_cons_zero, List.set_cons_succ]
        refine Eq.mpr (if_pos (by rfl)) (Or.inl ?_)
        refine wp_store_by 87 (.tmp 8) (.tmp 21) rfl _ _ rfl rfl snA ?_
        simp only [Act.put, List.setIfInBounds_toArray, List.set_cons_zero, List.set_cons_succ]
        rw [hX'.out]
        (try rw [hb8'.out.1])
        clear snA hX' kcA h1A ix kcB
        go_upto_region 6 with fail
        refine wp_region_list ?_
        refine Eq.mpr (if_pos (by rfl)) (Or.inl ?_)
        refine wp_move_by (.tmp 1) rfl _ rfl ?_
        simp only [Act.put, List.setIfInBounds_toArray, List.set_cons_zero, List.set_cons_succ]
        refine Eq.mpr (if_pos (by rfl)) (Or.inl ?_)
        refine wp_move_by (.tmp 7) rfl _ rfl ?_
        simp only [Act.put, List.setIfInBounds_toArray, List.set_cons_zero, List.set_cons_succ]
        refine Eq.mpr (if_pos (by rfl)) (Or.inl ?_)
        refine wp_index_by 23 (.tmp 22) (.tmp 23) rfl _ _ _ rfl rfl (iy _) ?_
        simp only [Act.put, List.setIfInBounds_toArray, List.set_cons_zero, List.set_cons_succ]
        refine Eq.mpr (if_pos (by rfl)) (Or.inl ?_)
        refine wp_load_by 87 (.tmp 24) rfl _ _ rfl (ld17o kcB' hlB) ?_
        simp only [Act.put, List.setIfInBounds_toArray, List.set_cons_zero, List.set_cons_succ]
        refine Eq.mpr (if_pos (by rfl)) (Or.inl ?_)
        refine wp_alloc_by 87 rfl _ (al17 _) ?_
        simp only [Act.put, List.setIfInBounds_toArray, List.set_cons_zero, List.set_cons_succ]
        refine Eq.mpr (if_pos (by rfl)) (Or.inl ?_)
        refine wp_store_by 87 (.tmp 9) (.tmp 25) rfl _ _ rfl rfl snB ?_
        simp only [Act.put, List.setIfInBounds_toArray, List.set_cons_zero, List.set_cons_succ]
        rw [hY'.out]
        (try rw [hb8'.out.2])
        clear snB hY' kcB' h1B iy hb8'
        go_upto_region 7 with fail
        refine wp_region_list ?_
        refine Eq.mpr (if_pos (by rfl)) (Or.inl ?_)
        refine wp_move_by (.tmp 2) rfl _ rfl ?_
        simp only [Act.put, List.setIfInBounds_toArray, List.set_cons_zero, List.set_cons_succ]
        refine Eq.mpr (if_pos (by rfl)) (Or.inl ?_)
        refine wp_load_by 87 (.tmp 8) rfl _ _ rfl (ld17 qX2 hlA) ?_
        simp only [Act.put, List.setIfInBounds_toArray, List.set_cons_zero, List.set_cons_succ]
        refine Eq.mpr (if_pos (by rfl)) (Or.inl ?_)
        refine wp_load_by 87 (.tmp 9) rfl _ _ rfl (ld17 qY hlB) ?_
        simp only [Act.put, List.setIfInBounds_toArray, List.set_cons_zero, List.set_cons_succ]
        cases D with
        | true =>
          go_wp2_with (first
            | (go_at_call 67; (refine kE.mono ?_); rintro e v1 ⟨rfl, g3⟩)
            | fail)
          exact ⟨⟨j + 1, v1, by go_num, rfl, pb_call gY.out g3, (by first | exact hq2.out.1 rfl | exact hq2.out.1 trivial), by omega⟩, by simp [intOf]; omega⟩
        | false =>
          obtain rfl := hq2.out.2 rfl
          go_wp2_with (first
            | (go_at_call 67; (refine kE.mono ?_); rintro e v1 ⟨rfl, g3⟩)
            | fail)
          go_ret
          exact ⟨rfl, pb_call gY.out g3⟩
      · obtain rfl : j = m := by omega
        have nn : ¬ ((j : Int) < (j : Int)) := by omega
        have hq := hI.out
        have e1 : f.drop j = .nil := by rw [← hm'.out.1]; exact So.drop_end f
        have e2 : g.drop j = .nil := by rw [← hm'.out.2]; exact So.drop_end g
        rw [e1, e2] at hq
        obtain rfl : R = true := by rw [← hq]; simp
        have g' := gV.out
        clear hI e1 e2
        go_wp2_with fail
        go_ret
        exact ⟨rfl, g'⟩
  · have hne : ¬ f = g := fun h => hl (by rw [h])
    rw [decide_eq_false hne]
    have hl' : (f.len : Int) ≠ (g.len : Int) := by omega
    clear hT hU hne hl hA
    generalize f.len = n at *
    generalize g.len = m at *
    go_enter Tryz.func66, Tryz.ntmps66
    go_wp2_with fail
    go_ret
    exact ⟨rfl, Below.refl _ _⟩
set_option maxRecDepth 100000 in
set_option maxHeartbeats 3200000 in
theorem sqB (f : So) (hA : f.all SqT) (g : So) (hz : f.len ≤ 1099511627776) (S S' : Nat → Prop) (pp pp' : Option Addr) (qq qq' : Nat) (w : World) (hT : SlS w S (.slice pp f.len qq) f) (hU : SlS w S' (.slice pp' g.len qq') g) :
    Calls Tryz.prog 49 #[.slice pp f.len qq, .slice pp' g.len qq'] w fun e' w' => e' = .returned (.bool (decide (f = g))) ∧ Below w.heap.size w w' := by
  have k := sqS f hA g hz S S' pp pp' qq qq' w hT hU
  clear hT hU hA
  generalize decide (f = g) = D at *
  generalize f.len = n at *
  generalize g.len = m at *
  go_enter Tryz.func49, Tryz.ntmps49
  go_wp2_with (first
    | (go_at_call 66; (refine k.mono ?_); rintro e v1 ⟨rfl, g3⟩)
    | fail)
  go_ret
  exact ⟨rfl, g3⟩
theorem st_dec (s s2 : St) : decide (s.row .nil = s2.row .nil) = (decide (s.dO = s2.dO) && (decide (s.name = s2.name) && (decide (s.index = s2.index) && (decide (s.value = s2.value) && (decide (s.low = s2.low) && (decide (s.high = s2.high) && (decide (s.thn = s2.thn) && decide (s.els = s2.els)))))))) := by
  have : (s.row .nil = s2.row .nil) ↔ (s.dO = s2.dO ∧ s.name = s2.name ∧ s.index = s2.index ∧ s.value = s2.value ∧ s.low = s2.low ∧ s.high = s2.high ∧ s.thn = s2.thn ∧ s.els = s2.els) := by
    unfold St.row
    constructor
    · intro h
      injection h with a b c d e f g i j
      exact ⟨a, b, c, d, e, f, g, i⟩
    · rintro ⟨a, b, c, d, e, f, g, i⟩
      rw [a, b, c, d, e, f, g, i]
  rw [show decide (s.row .nil = s2.row .nil) = decide (s.dO = s2.dO ∧ s.name = s2.name ∧ s.index = s2.index ∧ s.value = s2.value ∧ s.low = s2.low ∧ s.high = s2.high ∧ s.thn = s2.thn ∧ s.els = s2.els) from decide_eq_decide.2 this]
  simp only [Bool.decide_and]
set_option maxRecDepth 100000 in
set_option maxHeartbeats 16000000 in
theorem sqT (s : St) (hx : s.index.all SqA) (lx : s.index.len ≤ 1099511627776) (hv : SqA s.value) (hl : SqA s.low) (hh : SqA s.high) (ht : s.thn.all SqT) (lt : s.thn.len ≤ 1099511627776) (he : s.els.all SqT) (le : s.els.len ≤ 1099511627776) : SqT s := by
  intro s2 S S' p0 q0 p1 q1 p2 q2 p3 q3 p4 q4 p5 q5 p0' q0' p1' q1' p2' q2' p3' q3' p4' q4' p5' q5' w hT hU
  have g1 := pb_new (Below.refl w.heap.size w) (.cells #[.int .i64 s.dO, .string s.name, .slice p0 s.index.len q0, .int .i64 s.value.op, .string s.value.tx, .int .i64 s.value.ty, .slice p1 s.value.ks.len q1, .int .i64 s.low.op, .string s.low.tx, .int .i64 s.low.ty, .slice p2 s.low.ks.len q2, .int .i64 s.high.op, .string s.high.tx, .int .i64 s.high.ty, .slice p3 s.high.ks.len q3, .slice p4 s.thn.len q4, .slice p5 s.els.len q5] 87)
  obtain ⟨X, hX⟩ : ∃ X, w.alloc (.cells #[.int .i64 s.dO, .string s.name, .slice p0 s.index.len q0, .int .i64 s.value.op, .string s.value.tx, .int .i64 s.value.ty, .slice p1 s.value.ks.len q1, .int .i64 s.low.op, .string s.low.tx, .int .i64 s.low.ty, .slice p2 s.low.ks.len q2, .int .i64 s.high.op, .string s.high.tx, .int .i64 s.high.ty, .slice p3 s.high.ks.len q3, .slice p4 s.thn.len q4, .slice p5 s.els.len q5] 87) = X := ⟨_, rfl⟩
  have qX : X.heap[w.heap.size]? = some (.cells #[.int .i64 s.dO, .string s.name, .slice p0 s.index.len q0, .int .i64 s.value.op, .string s.value.tx, .int .i64 s.value.ty, .slice p1 s.value.ks.len q1, .int .i64 s.low.op, .string s.low.tx, .int .i64 s.low.ty, .slice p2 s.low.ks.len q2, .int .i64 s.high.op, .string s.high.tx, .int .i64 s.high.ty, .slice p3 s.high.ks.len q3, .slice p4 s.thn.len q4, .slice p5 s.els.len q5] 87 (0, 0)) := by rw [← hX]; exact World.alloc_heap_new _ _
  have sX : X.heap.size = w.heap.size + 1 := by rw [← hX]; simp [go_sem]
  rw [hX] at g1
  have g2 := pb_new (Below.refl X.heap.size X) (.cells #[.int .i64 s2.dO, .string s2.name, .slice p0' s2.index.len q0', .int .i64 s2.value.op, .string s2.value.tx, .int .i64 s2.value.ty, .slice p1' s2.value.ks.len q1', .int .i64 s2.low.op, .string s2.low.tx, .int .i64 s2.low.ty, .slice p2' s2.low.ks.len q2', .int .i64 s2.high.op, .string s2.high.tx, .int .i64 s2.high.ty, .slice p3' s2.high.ks.len q3', .slice p4' s2.thn.len q4', .slice p5' s2.els.len q5'] 87)
  obtain ⟨Y, hY⟩ : ∃ Y, X.alloc (.cells #[.int .i64 s2.dO, .string s2.name, .slice p0' s2.index.len q0', .int .i64 s2.value.op, .string s2.value.tx, .int .i64 s2.value.ty, .slice p1' s2.value.ks.len q1', .int .i64 s2.low.op, .string s2.low.tx, .int .i64 s2.low.ty, .slice p2' s2.low.ks.len q2', .int .i64 s2.high.op, .string s2.high.tx, .int .i64 s2.high.ty, .slice p3' s2.high.ks.len q3', .slice p4' s2.thn.len q4', .slice p5' s2.els.len q5'] 87) = Y := ⟨_, rfl⟩
  have qY : Y.heap[w.heap.size + 1]? = some (.cells #[.int .i64 s2.dO, .string s2.name, .slice p0' s2.index.len q0', .int .i64 s2.value.op, .string s2.value.tx, .int .i64 s2.value.ty, .slice p1' s2.value.ks.len q1', .int .i64 s2.low.op, .string s2.low.tx, .int .i64 s2.low.ty, .slice p2' s2.low.ks.len q2', .int .i64 s2.high.op, .string s2.high.tx, .int .i64 s2.high.ty, .slice p3' s2.high.ks.len q3', .slice p4' s2.thn.len q4', .slice p5' s2.els.len q5'] 87 (0, 0)) := by rw [← hY, ← sX]; exact World.alloc_heap_new _ _
  rw [hY] at g2
  obtain ⟨b2, hb2⟩ : ∃ b, w.heap.size = b := ⟨_, rfl⟩
  rw [hb2] at qX qY sX
  have qX2 : Y.heap[b2]? = some (.cells #[.int .i64 s.dO, .string s.name, .slice p0 s.index.len q0, .int .i64 s.value.op, .string s.value.tx, .int .i64 s.value.ty, .slice p1 s.value.ks.len q1, .int .i64 s.low.op, .string s.low.tx, .int .i64 s.low.ty, .slice p2 s.low.ks.len q2, .int .i64 s.high.op, .string s.high.tx, .int .i64 s.high.ty, .slice p3 s.high.ks.len q3, .slice p4 s.thn.len q4, .slice p5 s.els.len q5] 87 (0, 0)) := (g2.block b2 (by omega)).trans qX
  obtain ⟨f0, f1, f2, f3, f4, f5, f6, f7, f8, f9, f10, f11, f12, f13, f14, f15, f16, ff⟩ := c17 qX2
  obtain ⟨h0, h1, h2, h3, h4, h5, h6, h7, h8, h9, h10, h11, h12, h13, h14, h15, h16, hhh⟩ := c17 qY
  clear ff hhh
  have hall : ∀ V, Below Y.heap.size Y V → (V.cell? ⟨b2, 0, none⟩ = some (.int .i64 s.dO) ∧ V.cell? ⟨b2, 1, none⟩ = some (.string s.name) ∧ V.cell? ⟨b2, 2, none⟩ = some (.slice p0 s.index.len q0) ∧ V.cell? ⟨b2, 3, none⟩ = some (.int .i64 s.value.op) ∧ V.cell? ⟨b2, 4, none⟩ = some (.string s.value.tx) ∧ V.cell? ⟨b2, 5, none⟩ = some (.int .i64 s.value.ty) ∧ V.cell? ⟨b2, 6, none⟩ = some (.slice p1 s.value.ks.len q1) ∧ V.cell? ⟨b2, 7, none⟩ = some (.int .i64 s.low.op) ∧ V.cell? ⟨b2, 8, none⟩ = some (.string s.low.tx) ∧ V.cell? ⟨b2, 9, none⟩ = some (.int .i64 s.low.ty) ∧ V.cell? ⟨b2, 10, none⟩ = some (.slice p2 s.low.ks.len q2) ∧ V.cell? ⟨b2, 11, none⟩ = some (.int .i64 s.high.op) ∧ V.cell? ⟨b2, 12, none⟩ = some (.string s.high.tx) ∧ V.cell? ⟨b2, 13, none⟩ = some (.int .i64 s.high.ty) ∧ V.cell? ⟨b2, 14, none⟩ = some (.slice p3 s.high.ks.len q3) ∧ V.cell? ⟨b2, 15, none⟩ = some (.slice p4 s.thn.len q4) ∧ V.cell? ⟨b2, 16, none⟩ = some (.slice p5 s.els.len q5) ∧ V.cell? ⟨b2 + 1, 0, none⟩ = some (.int .i64 s2.dO) ∧ V.cell? ⟨b2 + 1, 1, none⟩ = some (.string s2.name) ∧ V.cell? ⟨b2 + 1, 2, none⟩ = some (.slice p0' s2.index.len q0') ∧ V.cell? ⟨b2 + 1, 3, none⟩ = some (.int .i64 s2.value.op) ∧ V.cell? ⟨b2 + 1, 4, none⟩ = some (.string s2.value.tx) ∧ V.cell? ⟨b2 + 1, 5, none⟩ = some (.int .i64 s2.value.ty) ∧ V.cell? ⟨b2 + 1, 6, none⟩ = some (.slice p1' s2.value.ks.len q1') ∧ V.cell? ⟨b2 + 1, 7, none⟩ = some (.int .i64 s2.low.op) ∧ V.cell? ⟨b2 + 1, 8, none⟩ = some (.string s2.low.tx) ∧ V.cell? ⟨b2 + 1, 9, none⟩ = some (.int .i64 s2.low.ty) ∧ V.cell? ⟨b2 + 1, 10, none⟩ = some (.slice p2' s2.low.ks.len q2') ∧ V.cell? ⟨b2 + 1, 11, none⟩ = some (.int .i64 s2.high.op) ∧ V.cell? ⟨b2 + 1, 12, none⟩ = some (.string s2.high.tx) ∧ V.cell? ⟨b2 + 1, 13, none⟩ = some (.int .i64 s2.high.ty) ∧ V.cell? ⟨b2 + 1, 14, none⟩ = some (.slice p3' s2.high.ks.len q3') ∧ V.cell? ⟨b2 + 1, 15, none⟩ = some (.slice p4' s2.thn.len q4') ∧ V.cell? ⟨b2 + 1, 16, none⟩ = some (.slice p5' s2.els.len q5')) := fun V g => ⟨pb_cell g f0, pb_cell g f1, pb_cell g f2, pb_cell g f3, pb_cell g f4, pb_cell g f5, pb_cell g f6, pb_cell g f7, pb_cell g f8, pb_cell g f9, pb_cell g f10, pb_cell g f11, pb_cell g f12, pb_cell g f13, pb_cell g f14, pb_cell g f15, pb_cell g f16, pb_cell g h0, pb_cell g h1, pb_cell g h2, pb_cell g h3, pb_cell g h4, pb_cell g h5, pb_cell g h6, pb_cell g h7, pb_cell g h8, pb_cell g h9, pb_cell g h10, pb_cell g h11, pb_cell g h12, pb_cell g h13, pb_cell g h14, pb_cell g h15, pb_cell g h16⟩
  obtain ⟨t0, t1, t2, t3, t4, t5⟩ := hT
  obtain ⟨u0, u1, u2, u3, u4, u5⟩ := hU
  have tk : ∀ V, Below Y.heap.size Y V → ∀ lo, Kp lo w V := fun V g lo => Below.kp (pb_call (pb_call g1 g2) g) lo
  have k1 := fun V (g : Below Y.heap.size Y V) => sqF s.index hx s2.index lx S S' p0 p0' q0 q0' V (t0.kp (tk V g _)) (u0.kp (tk V g _))
  have k2 := fun V (g : Below Y.heap.size Y V) => hv s2.value S S' p1 p1' q1 q1' V (t1.kp (tk V g _)) (u1.kp (tk V g _))
  have k3 := fun V (g : Below Y.heap.size Y V) => hl s2.low S S' p2 p2' q2 q2' V (t2.kp (tk V g _)) (u2.kp (tk V g _))
  have k4 := fun V (g : Below Y.heap.size Y V) => hh s2.high S S' p3 p3' q3 q3' V (t3.kp (tk V g _)) (u3.kp (tk V g _))
  have k5 := fun V (g : Below Y.heap.size Y V) => sqB s.thn ht s2.thn lt S S' p4 p4' q4 q4' V (t4.kp (tk V g _)) (u4.kp (tk V g _))
  have k6 := fun V (g : Below Y.heap.size Y V) => sqB s.els he s2.els le S S' p5 p5' q5 q5' V (t5.kp (tk V g _)) (u5.kp (tk V g _))
  have gY : Hid (Below w.heap.size w Y) := pb_call g1 g2
  have hX' : Hid (w.alloc (.cells #[.int .i64 s.dO, .string s.name, .slice p0 s.index.len q0, .int .i64 s.value.op, .string s.value.tx, .int .i64 s.value.ty, .slice p1 s.value.ks.len q1, .int .i64 s.low.op, .string s.low.tx, .int .i64 s.low.ty, .slice p2 s.low.ks.len q2, .int .i64 s.high.op, .string s.high.tx, .int .i64 s.high.ty, .slice p3 s.high.ks.len q3, .slice p4 s.thn.len q4, .slice p5 s.els.len q5] 87) = X) := hX
  have hY' : Hid (X.alloc (.cells #[.int .i64 s2.dO, .string s2.name, .slice p0' s2.index.len q0', .int .i64 s2.value.op, .string s2.value.tx, .int .i64 s2.value.ty, .slice p1' s2.value.ks.len q1', .int .i64 s2.low.op, .string s2.low.tx, .int .i64 s2.low.ty, .slice p2' s2.low.ks.len q2', .int .i64 s2.high.op, .string s2.high.tx, .int .i64 s2.high.ty, .slice p3' s2.high.ks.len q3', .slice p4' s2.thn.len q4', .slice p5' s2.els.len q5'] 87) = Y) := hY
  have hb2' : Hid (w.heap.size = b2 ∧ X.heap.size = b2 + 1) := ⟨hb2, sX⟩
  rw [st_dec]
  generalize decide (s.index = s2.index) = D1 at *
  generalize decide (s.value = s2.value) = D2 at *
  generalize decide (s.low = s2.low) = D3 at *
  generalize decide (s.high = s2.high) = D4 at *
  generalize decide (s.thn = s2.thn) = D5 at *
  generalize decide (s.els = s2.els) = D6 at *
  obtain ⟨R, hR⟩ : ∃ R, (decide (s.dO = s2.dO) && (decide (s.name = s2.name) && (D1 && (D2 && (D3 && (D4 && (D5 && D6))))))) = R := ⟨_, rfl⟩
  rw [hR]
  have hr : Hid ((decide (s.dO = s2.dO) && (decide (s.name = s2.name) && (D1 && (D2 && (D3 && (D4 && (D5 && D6))))))) = R) := hR
  have gg := Below.refl Y.heap.size Y
  clear hX hY hb2 sX qX qX2 qY g1 g2 t0 t1 t2 t3 t4 t5 u0 u1 u2 u3 u4 u5 tk hR hx lx hv hl hh ht lt he le
  go_enter Tryz.func67, Tryz.ntmps67
  go_upto_region 1 with fail
  rw [hX'.out]
  rw [hY'.out]
  (try rw [hb2'.out.1])
  (try rw [hb2'.out.2])
  clear hX' hY' hb2'
  by_cases c0 : s.dO = s2.dO
  · by_cases c1 : s.name = s2.name
    · have e1 : (s.name.toList == s2.name.toList) = true := by rw [c1]; simp
      have e0 : (s.dO == s2.dO) = true := by rw [c0]; simp
      cases D1 with
      | false =>
        obtain rfl : R = false := by rw [← hr.out]; simp [c0, c1]
        clear hr
        clear k2 k3 k4 k5 k6
        go_wp2_with (first
          | (go_at_call 88; (first | (refine (k1 _ gg).mono ?_; clear k1)); rintro e v1 ⟨rfl, g3⟩; replace gg := pb_call gg g3; clear f0 f1 f2 f3 f4 f5 f6 f7 f8 f9 f10 f11 f12 f13 f14 f15 f16 h0 h1 h2 h3 h4 h5 h6 h7 h8 h9 h10 h11 h12 h13 h14 h15 h16 g3; obtain ⟨f0, f1, f2, f3, f4, f5, f6, f7, f8, f9, f10, f11, f12, f13, f14, f15, f16, h0, h1, h2, h3, h4, h5, h6, h7, h8, h9, h10, h11, h12, h13, h14, h15, h16⟩ := hall _ gg)
          | fail)
        go_ret
        exact ⟨rfl, pb_call gY.out gg⟩
      | true =>
        cases D2 with
        | false =>
          obtain rfl : R = false := by rw [← hr.out]; simp [c0, c1]
          clear hr
          clear k3 k4 k5 k6
          go_wp2_with (first
            | (go_at_call 88; (first | (refine (k1 _ gg).mono ?_; clear k1)); rintro e v1 ⟨rfl, g3⟩; replace gg := pb_call gg g3; clear f0 f1 f2 f3 f4 f5 f6 f7 f8 f9 f10 f11 f12 f13 f14 f15 f16 h0 h1 h2 h3 h4 h5 h6 h7 h8 h9 h10 h11 h12 h13 h14 h15 h16 g3; obtain ⟨f0, f1, f2, f3, f4, f5, f6, f7, f8, f9, f10, f11, f12, f13, f14, f15, f16, h0, h1, h2, h3, h4, h5, h6, h7, h8, h9, h10, h11, h12, h13, h14, h15, h16⟩ := hall _ gg)
            | (go_at_call 89; (first | (refine (k2 _ gg).mono ?_; clear k2)); rintro e v1 ⟨rfl, g3⟩; replace gg := pb_call gg g3; clear f0 f1 f2 f3 f4 f5 f6 f7 f8 f9 f10 f11 f12 f13 f14 f15 f16 h0 h1 h2 h3 h4 h5 h6 h7 h8 h9 h10 h11 h12 h13 h14 h15 h16 g3; obtain ⟨f0, f1, f2, f3, f4, f5, f6, f7, f8, f9, f10, f11, f12, f13, f14, f15, f16, h0, h1, h2, h3, h4, h5, h6, h7, h8, h9, h10, h11, h12, h13, h14, h15, h16⟩ := hall _ gg)
            | fail)
          go_ret
          exact ⟨rfl, pb_call gY.out gg⟩
        | true =>
          cases D3 with
          | false =>
            obtain rfl : R = false := by rw [← hr.out]; simp [c0, c1]
            clear hr
            clear k4 k5 k6
            go_wp2_with (first
              | (go_at_call 88; (first | (refine (k1 _ gg).mono ?_; clear k1)); rintro e v1 ⟨rfl, g3⟩; replace gg := pb_call gg g3; clear f0 f1 f2 f3 f4 f5 f6 f7 f8 f9 f10 f11 f12 f13 f14 f15 f16 h0 h1 h2 h3 h4 h5 h6 h7 h8 h9 h10 h11 h12 h13 h14 h15 h16 g3; obtain ⟨f0, f1, f2, f3, f4, f5, f6, f7, f8, f9, f10, f11, f12, f13, f14, f15, f16, h0, h1, h2, h3, h4, h5, h6, h7, h8, h9, h10, h11, h12, h13, h14, h15, h16⟩ := hall _ gg)
              | (go_at_call 89; (first | (refine (k2 _ gg).mono ?_; clear k2) | (refine (k3 _ gg).mono ?_; clear k3)); rintro e v1 ⟨rfl, g3⟩; replace gg := pb_call gg g3; clear f0 f1 f2 f3 f4 f5 f6 f7 f8 f9 f10 f11 f12 f13 f14 f15 f16 h0 h1 h2 h3 h4 h5 h6 h7 h8 h9 h10 h11 h12 h13 h14 h15 h16 g3; obtain ⟨f0, f1, f2, f3, f4, f5, f6, f7, f8, f9, f10, f11, f12, f13, f14, f15, f16, h0, h1, h2, h3, h4, h5, h6, h7, h8, h9, h10, h11, h12, h13, h14, h15, h16⟩ := hall _ gg)
              | fail)
            go_ret
            exact ⟨rfl, pb_call gY.out gg⟩
          | true =>
            cases D4 with
            | false =>
              obtain rfl : R = false := by rw [← hr.out]; simp [c0, c1]
              clear hr
              clear k5 k6
              go_wp2_with (first
                | (go_at_call 88; (first | (refine (k1 _ gg).mono ?_; clear k1)); rintro e v1 ⟨rfl, g3⟩; replace gg := pb_call gg g3; clear f0 f1 f2 f3 f4 f5 f6 f7 f8 f9 f10 f11 f12 f13 f14 f15 f16 h0 h1 h2 h3 h4 h5 h6 h7 h8 h9 h10 h11 h12 h13 h14 h15 h16 g3; obtain ⟨f0, f1, f2, f3, f4, f5, f6, f7, f8, f9, f10, f11, f12, f13, f14, f15, f16, h0, h1, h2, h3, h4, h5, h6, h7, h8, h9, h10, h11, h12, h13, h14, h15, h16⟩ := hall _ gg)
                | (go_at_call 89; (first | (refine (k2 _ gg).mono ?_; clear k2) | (refine (k3 _ gg).mono ?_; clear k3) | (refine (k4 _ gg).mono ?_; clear k4)); rintro e v1 ⟨rfl, g3⟩; replace gg := pb_call gg g3; clear f0 f1 f2 f3 f4 f5 f6 f7 f8 f9 f10 f11 f12 f13 f14 f15 f16 h0 h1 h2 h3 h4 h5 h6 h7 h8 h9 h10 h11 h12 h13 h14 h15 h16 g3; obtain ⟨f0, f1, f2, f3, f4, f5, f6, f7, f8, f9, f10, f11, f12, f13, f14, f15, f16, h0, h1, h2, h3, h4, h5, h6, h7, h8, h9, h10, h11, h12, h13, h14, h15, h16⟩ := hall _ gg)
                | fail)
              go_ret
              exact ⟨rfl, pb_call gY.out gg⟩
            | true =>
              cases D5 with
              | false =>
                obtain rfl : R = false := by rw [← hr.out]; simp [c0, c1]
                clear hr
                clear k6
                go_wp2_with (first
                  | (go_at_call 88; (first | (refine (k1 _ gg).mono ?_; clear k1)); rintro e v1 ⟨rfl, g3⟩; replace gg := pb_call gg g3; clear f0 f1 f2 f3 f4 f5 f6 f7 f8 f9 f10 f11 f12 f13 f14 f15 f16 h0 h1 h2 h3 h4 h5 h6 h7 h8 h9 h10 h11 h12 h13 h14 h15 h16 g3; obtain ⟨f0, f1, f2, f3, f4, f5, f6, f7, f8, f9, f10, f11, f12, f13, f14, f15, f16, h0, h1, h2, h3, h4, h5, h6, h7, h8, h9, h10, h11, h12, h13, h14, h15, h16⟩ := hall _ gg)
                  | (go_at_call 89; (first | (refine (k2 _ gg).mono ?_; clear k2) | (refine (k3 _ gg).mono ?_; clear k3) | (refine (k4 _ gg).mono ?_; clear k4)); rintro e v1 ⟨rfl, g3⟩; replace gg := pb_call gg g3; clear f0 f1 f2 f3 f4 f5 f6 f7 f8 f9 f10 f11 f12 f13 f14 f15 f16 h0 h1 h2 h3 h4 h5 h6 h7 h8 h9 h10 h11 h12 h13 h14 h15 h16 g3; obtain ⟨f0, f1, f2, f3, f4, f5, f6, f7, f8, f9, f10, f11, f12, f13, f14, f15, f16, h0, h1, h2, h3, h4, h5, h6, h7, h8, h9, h10, h11, h12, h13, h14, h15, h16⟩ := hall _ gg)
                  | (go_at_call 49; (first | (refine (k5 _ gg).mono ?_; clear k5)); rintro e v1 ⟨rfl, g3⟩; replace gg := pb_call gg g3; clear f0 f1 f2 f3 f4 f5 f6 f7 f8 f9 f10 f11 f12 f13 f14 f15 f16 h0 h1 h2 h3 h4 h5 h6 h7 h8 h9 h10 h11 h12 h13 h14 h15 h16 g3; obtain ⟨f0, f1, f2, f3, f4, f5, f6, f7, f8, f9, f10, f11, f12, f13, f14, f15, f16, h0, h1, h2, h3, h4, h5, h6, h7, h8, h9, h10, h11, h12, h13, h14, h15, h16⟩ := hall _ gg)
                  | fail)
                go_ret
                exact ⟨rfl, pb_call gY.out gg⟩
              | true =>
                cases D6 with
                | false =>
                  obtain rfl : R = false := by rw [← hr.out]; simp [c0, c1]
                  clear hr
                  go_wp2_with (first
                    | (go_at_call 88; (first | (refine (k1 _ gg).mono ?_; clear k1)); rintro e v1 ⟨rfl, g3⟩; replace gg := pb_call gg g3; clear f0 f1 f2 f3 f4 f5 f6 f7 f8 f9 f10 f11 f12 f13 f14 f15 f16 h0 h1 h2 h3 h4 h5 h6 h7 h8 h9 h10 h11 h12 h13 h14 h15 h16 g3; obtain ⟨f0, f1, f2, f3, f4, f5, f6, f7, f8, f9, f10, f11, f12, f13, f14, f15, f16, h0, h1, h2, h3, h4, h5, h6, h7, h8, h9, h10, h11, h12, h13, h14, h15, h16⟩ := hall _ gg)
                    | (go_at_call 89; (first | (refine (k2 _ gg).mono ?_; clear k2) | (refine (k3 _ gg).mono ?_; clear k3) | (refine (k4 _ gg).mono ?_; clear k4)); rintro e v1 ⟨rfl, g3⟩; replace gg := pb_call gg g3; clear f0 f1 f2 f3 f4 f5 f6 f7 f8 f9 f10 f11 f12 f13 f14 f15 f16 h0 h1 h2 h3 h4 h5 h6 h7 h8 h9 h10 h11 h12 h13 h14 h15 h16 g3; obtain ⟨f0, f1, f2, f3, f4, f5, f6, f7, f8, f9, f10, f11, f12, f13, f14, f15, f16, h0, h1, h2, h3, h4, h5, h6, h7, h8, h9, h10, h11, h12, h13, h14, h15, h16⟩ := hall _ gg)
                    | (go_at_call 49; (first | (refine (k5 _ gg).mono ?_; clear k5) | (refine (k6 _ gg).mono ?_; clear k6)); rintro e v1 ⟨rfl, g3⟩; replace gg := pb_call gg g3; clear f0 f1 f2 f3 f4 f5 f6 f7 f8 f9 f10 f11 f12 f13 f14 f15 f16 h0 h1 h2 h3 h4 h5 h6 h7 h8 h9 h10 h11 h12 h13 h14 h15 h16 g3; obtain ⟨f0, f1, f2, f3, f4, f5, f6, f7, f8, f9, f10, f11, f12, f13, f14, f15, f16, h0, h1, h2, h3, h4, h5, h6, h7, h8, h9, h10, h11, h12, h13, h14, h15, h16⟩ := hall _ gg)
                    | fail)
                  go_ret
                  exact ⟨rfl, pb_call gY.out gg⟩
                | true =>
                  obtain rfl : R = true := by rw [← hr.out]; simp [c0, c1]
                  clear hr
                  go_wp2_with (first
                    | (go_at_call 88; (first | (refine (k1 _ gg).mono ?_; clear k1)); rintro e v1 ⟨rfl, g3⟩; replace gg := pb_call gg g3; clear f0 f1 f2 f3 f4 f5 f6 f7 f8 f9 f10 f11 f12 f13 f14 f15 f16 h0 h1 h2 h3 h4 h5 h6 h7 h8 h9 h10 h11 h12 h13 h14 h15 h16 g3; obtain ⟨f0, f1, f2, f3, f4, f5, f6, f7, f8, f9, f10, f11, f12, f13, f14, f15, f16, h0, h1, h2, h3, h4, h5, h6, h7, h8, h9, h10, h11, h12, h13, h14, h15, h16⟩ := hall _ gg)
                    | (go_at_call 89; (first | (refine (k2 _ gg).mono ?_; clear k2) | (refine (k3 _ gg).mono ?_; clear k3) | (refine (k4 _ gg).mono ?_; clear k4)); rintro e v1 ⟨rfl, g3⟩; replace gg := pb_call gg g3; clear f0 f1 f2 f3 f4 f5 f6 f7 f8 f9 f10 f11 f12 f13 f14 f15 f16 h0 h1 h2 h3 h4 h5 h6 h7 h8 h9 h10 h11 h12 h13 h14 h15 h16 g3; obtain ⟨f0, f1, f2, f3, f4, f5, f6, f7, f8, f9, f10, f11, f12, f13, f14, f15, f16, h0, h1, h2, h3, h4, h5, h6, h7, h8, h9, h10, h11, h12, h13, h14, h15, h16⟩ := hall _ gg)
                    | (go_at_call 49; (first | (refine (k5 _ gg).mono ?_; clear k5) | (refine (k6 _ gg).mono ?_; clear k6)); rintro e v1 ⟨rfl, g3⟩; replace gg := pb_call gg g3; clear f0 f1 f2 f3 f4 f5 f6 f7 f8 f9 f10 f11 f12 f13 f14 f15 f16 h0 h1 h2 h3 h4 h5 h6 h7 h8 h9 h10 h11 h12 h13 h14 h15 h16 g3; obtain ⟨f0, f1, f2, f3, f4, f5, f6, f7, f8, f9, f10, f11, f12, f13, f14, f15, f16, h0, h1, h2, h3, h4, h5, h6, h7, h8, h9, h10, h11, h12, h13, h14, h15, h16⟩ := hall _ gg)
                    | fail)
                  go_ret
                  exact ⟨rfl, pb_call gY.out gg⟩
    · obtain rfl : R = false := by rw [← hr.out]; simp [c1]
      have c1' : (s.name.toList == s2.name.toList) = false := beq_false_of_ne (fun h => c1 (tl_inj h))
      have e0 : (s.dO == s2.dO) = true := by rw [c0]; simp
      clear hr c1
      clear k1 k2 k3 k4 k5 k6
      go_wp2_with (first
        | fail)
      go_ret
      exact ⟨rfl, pb_call gY.out gg⟩
  · obtain rfl : R = false := by rw [← hr.out]; simp [c0]
    have c0' : (s.dO == s2.dO) = false := beq_false_of_ne c0
    clear hr
    clear k1 k2 k3 k4 k5 k6
    go_wp2_with (first
      | fail)
    go_ret
    exact ⟨rfl, pb_call gY.out gg⟩
end Go.Proofs.YtknoibocpbfmmaaGreatDoor

