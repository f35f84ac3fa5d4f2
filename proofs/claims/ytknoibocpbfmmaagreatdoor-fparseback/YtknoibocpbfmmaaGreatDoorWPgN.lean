/- plumblineref05: statements are the same as themselves, wherever both lie. -/
import Derived.Test.YtknoibocpbfmmaaGreatDoorWG22
import Derived.Test.YtknoibocpbfmmaaGreatDoorWG24
import Derived.Deep.RegionHeld
namespace Go.Proofs.YtknoibocpbfmmaaGreatDoor
open Go.RowKit
set_option linter.unusedVariables false
set_option linter.unusedSimpArgs false
def RmB (f : So) : Prop := ∀ (S S' : Nat → Prop) (pp pp' : Option Addr) (qq qq' : Nat) (w : World), SlS w S (.slice pp f.len qq) f → SlS w S' (.slice pp' f.len qq') f →
 Calls Tryz.prog 22 #[.slice pp f.len qq, .slice pp' f.len qq'] w fun r w' => r = .returned (.bool true) ∧ Below w.heap.size w w'
def RmT (s : St) : Prop := (s.index.all SrA ∧ s.index.len ≤ 1099511627776) ∧ SrA s.value ∧ SrA s.low ∧ SrA s.high ∧ RmB s.thn ∧ RmB s.els
/-- A store of 17 cells into a block that the call owns. -/
theorem own17 {X V : World} {b : Nat} {cs : List Value} {old : Array Value} (g : Below X.heap.size X V) (hb : X.heap.size ≤ b) (q : V.heap[b]? = some (.cells old 87 (0, 0))) (ho : old.size = 17) (hl : cs.length = 17) :
  Below X.heap.size X (setN b 0 cs V) ∧ (setN b 0 cs V).heap[b]? = some (.cells cs.toArray 87 (0, 0)) ∧ ∀ k, k ≠ b → (setN b 0 cs V).heap[k]? = V.heap[k]? := by
 refine ⟨?_, setN17 q ho hl, fun k hk => setN_far b k hk cs 0 V⟩
 have h := setN_onl (b := X.heap.size) (w := X) hb cs 0 (V := V) (Onl.below (Onl.refl _ _) g)
 exact h.toBelow (Nat.le_refl _) (Nat.le_refl _)
theorem if_load {ops : Array Oper} {S : World → Prop} {o : Oper} {a : Act} (ty : TypeId) (x : Operand) (ho : o.op = .load ty x) (hw : Region.wanted o (yielded ops a.tmps) = true) (p v : Value) (hx : a.eval x = p) (hr : ∀ w, S w → (Instr.loadAt ty p).run Tryz.prog w = .ok v w) : YieldsIf Tryz.prog ops S o v a := Or.inl ⟨hw, fun w hS => by
 unfold execOp
 simp only [ho, hx, Sem.run_bind, hr w hS, Result.andThen_ok, Sem.run_pure]⟩
set_option maxRecDepth 100000 in
set_option maxHeartbeats 6400000 in
theorem smS (f : So) (hA : f.all RmT) (hz : f.len ≤ 1099511627776) : RmB f := by
 intro S S' pp pp' qq qq' w hT hU
 obtain ⟨m, hm⟩ : ∃ m, f.len = m := ⟨_, rfl⟩
 rw [hm] at hT hU hz ⊢
 have hm' : Hid (f.len = m) := hm
 have hA' : Hid (f.all RmT) := hA
 have hT' : Hid (SlS w S (.slice pp m qq) f) := hT
 have hU' : Hid (SlS w S' (.slice pp' m qq') f) := hU
 have hm40 : Hid (m ≤ 1099511627776) := hz
 have hl' : ¬ (m : Int) ≠ (m : Int) := by simp
 clear hm hA hT hU hz
 go_enter Tryz.func22, Tryz.ntmps22
 go_upto_region 4 with fail
 go_loopw [5] (fun i wr => ∃ (j : Nat) (V : World), i = .int .i64 j ∧ V = wr ∧ Hid (Below w.heap.size w V) ∧ j ≤ m) (fun i _ => m - (intOf i).toNat)
 case atStart => exact ⟨0, w, rfl, rfl, Below.refl _ _, by omega⟩
 case round =>
  obtain ⟨j, V, rfl, e, gV, hj⟩ := hrel
  subst e
  by_cases cj : j < m
  ·have cj' : (j : Int) < (m : Int) := by omega
   obtain ⟨s, hf⟩ := So.drop_at (f := f) (j := j) (by rw [hm'.out]; exact cj)
   have hal := So.all_drop j hA'.out
   rw [hf] at hal
   have hTT := hT'.out.kp (Below.kp gV.out _)
   have hUU := hU'.out.kp (Below.kp gV.out _)
   obtain ⟨p2', q2', e2, hT⟩ := hTT
   obtain ⟨rfl, e4, rfl⟩ := Value.slice.inj e2
   clear e2 e4
   obtain ⟨p2', q2', e2, hU⟩ := hUU
   obtain ⟨rfl, e4, rfl⟩ := Value.slice.inj e2
   clear e2 e4
   rcases hT with hT | ⟨c, u, rfl, hT⟩
   ·exfalso; have := hm'.out; rw [hT] at this; simp [So.len] at this; omega
   rcases hU with hU | ⟨c', u', rfl, hU⟩
   ·exfalso; have := hm'.out; rw [hU] at this; simp [So.len] at this; omega
   have hTj := SoAt.drop j hT
   rw [hf] at hTj
   have hUj := SoAt.drop j hU
   rw [hf] at hUj
   obtain ⟨lc, p0, q0, p1, q1, p2, q2, p3, q3, p4, q4, p5, q5, sT, k0, k1, k2, k3, k4, k5, k6, k7, k8, k9, k10, k11, k12, k13, k14, k15, k16⟩ := hTj.cells
   obtain ⟨lc', p0', q0', p1', q1', p2', q2', p3', q3', p4', q4', p5', q5', sU, m0, m1, m2, m3, m4, m5, m6, m7, m8, m9, m10, m11, m12, m13, m14, m15, m16⟩ := hUj.cells
   have ix := so_ix c u m qq j cj
   have iy := so_ix c' u' m qq' j cj
   have wj : IntKind.i64.wrap ((j : Int) + 1) = ((j + 1 : Nat) : Int) := by have := hm40.out; rw [IntKind.wrap_i64]; omega
   generalize u + j * 17 = o at *
   generalize u' + j * 17 = o' at *
   obtain ⟨CSA, hCSA⟩ : ∃ CS : List Value, [.int .i64 s.dO, .string s.name, .slice p0 s.index.len q0, .int .i64 s.value.op, .string s.value.tx, .int .i64 s.value.ty, .slice p1 s.value.ks.len q1, .int .i64 s.low.op, .string s.low.tx, .int .i64 s.low.ty, .slice p2 s.low.ks.len q2, .int .i64 s.high.op, .string s.high.tx, .int .i64 s.high.ty, .slice p3 s.high.ks.len q3, .slice p4 s.thn.len q4, .slice p5 s.els.len q5] = CS := ⟨_, rfl⟩
   have hlA : CSA.length = 17 := by rw [← hCSA]; rfl
   have h1A : ∀ v ∈ CSA, v.oneCell' = true := by
    rw [← hCSA]
    intro v hv
    simp only [List.mem_cons, List.not_mem_nil, or_false] at hv
    rcases hv with rfl | rfl | rfl | rfl | rfl | rfl | rfl | rfl | rfl | rfl | rfl | rfl | rfl | rfl | rfl | rfl | rfl <;> rfl
   have kcA : V.rangeAt c o CSA := by
    rw [← hCSA]
    intro jj v hv
    match jj, hv with
    | 0, hv => obtain rfl := Option.some.inj hv; exact k0
    | 1, hv => obtain rfl := Option.some.inj hv; exact k1
    | 2, hv => obtain rfl := Option.some.inj hv; exact k2
    | 3, hv => obtain rfl := Option.some.inj hv; exact k3
    | 4, hv => obtain rfl := Option.some.inj hv; exact k4
    | 5, hv => obtain rfl := Option.some.inj hv; exact k5
    | 6, hv => obtain rfl := Option.some.inj hv; exact k6
    | 7, hv => obtain rfl := Option.some.inj hv; exact k7
    | 8, hv => obtain rfl := Option.some.inj hv; exact k8
    | 9, hv => obtain rfl := Option.some.inj hv; exact k9
    | 10, hv => obtain rfl := Option.some.inj hv; exact k10
    | 11, hv => obtain rfl := Option.some.inj hv; exact k11
    | 12, hv => obtain rfl := Option.some.inj hv; exact k12
    | 13, hv => obtain rfl := Option.some.inj hv; exact k13
    | 14, hv => obtain rfl := Option.some.inj hv; exact k14
    | 15, hv => obtain rfl := Option.some.inj hv; exact k15
    | 16, hv => obtain rfl := Option.some.inj hv; exact k16
    | n + 17, hv => cases hv
   obtain ⟨CSB, hCSB⟩ : ∃ CS : List Value, [.int .i64 s.dO, .string s.name, .slice p0' s.index.len q0', .int .i64 s.value.op, .string s.value.tx, .int .i64 s.value.ty, .slice p1' s.value.ks.len q1', .int .i64 s.low.op, .string s.low.tx, .int .i64 s.low.ty, .slice p2' s.low.ks.len q2', .int .i64 s.high.op, .string s.high.tx, .int .i64 s.high.ty, .slice p3' s.high.ks.len q3', .slice p4' s.thn.len q4', .slice p5' s.els.len q5'] = CS := ⟨_, rfl⟩
   have hlB : CSB.length = 17 := by rw [← hCSB]; rfl
   have h1B : ∀ v ∈ CSB, v.oneCell' = true := by
    rw [← hCSB]
    intro v hv
    simp only [List.mem_cons, List.not_mem_nil, or_false] at hv
    rcases hv with rfl | rfl | rfl | rfl | rfl | rfl | rfl | rfl | rfl | rfl | rfl | rfl | rfl | rfl | rfl | rfl | rfl <;> rfl
   have kcB : V.rangeAt c' o' CSB := by
    rw [← hCSB]
    intro jj v hv
    match jj, hv with
    | 0, hv => obtain rfl := Option.some.inj hv; exact m0
    | 1, hv => obtain rfl := Option.some.inj hv; exact m1
    | 2, hv => obtain rfl := Option.some.inj hv; exact m2
    | 3, hv => obtain rfl := Option.some.inj hv; exact m3
    | 4, hv => obtain rfl := Option.some.inj hv; exact m4
    | 5, hv => obtain rfl := Option.some.inj hv; exact m5
    | 6, hv => obtain rfl := Option.some.inj hv; exact m6
    | 7, hv => obtain rfl := Option.some.inj hv; exact m7
    | 8, hv => obtain rfl := Option.some.inj hv; exact m8
    | 9, hv => obtain rfl := Option.some.inj hv; exact m9
    | 10, hv => obtain rfl := Option.some.inj hv; exact m10
    | 11, hv => obtain rfl := Option.some.inj hv; exact m11
    | 12, hv => obtain rfl := Option.some.inj hv; exact m12
    | 13, hv => obtain rfl := Option.some.inj hv; exact m13
    | 14, hv => obtain rfl := Option.some.inj hv; exact m14
    | 15, hv => obtain rfl := Option.some.inj hv; exact m15
    | 16, hv => obtain rfl := Option.some.inj hv; exact m16
    | n + 17, hv => cases hv
   clear k0 k1 k2 k3 k4 k5 k6 k7 k8 k9 k10 k11 k12 k13 k14 k15 k16 m0 m1 m2 m3 m4 m5 m6 m7 m8 m9 m10 m11 m12 m13 m14 m15 m16
   clear hTj hT hUj hU lc lc' hf
   obtain ⟨⟨hx, lx⟩, hv, hlo, hhi, hSt, hSe⟩ : RmT s := hal.1
   obtain ⟨t0, t1, t2, t3, t4, t5⟩ := sT
   obtain ⟨u0, u1, u2, u3, u4, u5⟩ := sU
   have k1 := fun Y (g : Below V.heap.size V Y) => srF s.index hx lx S S' p0 p0' q0 q0' Y (t0.kp (Below.kp g _)) (u0.kp (Below.kp g _))
   have k2 := fun Y (g : Below V.heap.size V Y) => hv S S' p1 p1' q1 q1' Y (t1.kp (Below.kp g _)) (u1.kp (Below.kp g _))
   have k3 := fun Y (g : Below V.heap.size V Y) => hlo S S' p2 p2' q2 q2' Y (t2.kp (Below.kp g _)) (u2.kp (Below.kp g _))
   have k4 := fun Y (g : Below V.heap.size V Y) => hhi S S' p3 p3' q3 q3' Y (t3.kp (Below.kp g _)) (u3.kp (Below.kp g _))
   have k5 := fun Y (g : Below V.heap.size V Y) => hSt S S' p4 p4' q4 q4' Y (t4.kp (Below.kp g _)) (u4.kp (Below.kp g _))
   have k6 := fun Y (g : Below V.heap.size V Y) => hSe S S' p5 p5' q5 q5' Y (t5.kp (Below.kp g _)) (u5.kp (Below.kp g _))
   clear t0 t1 t2 t3 t4 t5 u0 u1 u2 u3 u4 u5 hx lx hv hlo hhi hSt hSe hal
   have hal0 : ∀ Y, Below V.heap.size V Y → (Y.rangeAt c o CSA ∧ Y.rangeAt c' o' CSB) := fun Y g => ⟨fun jj v hv => pb_cell g (kcA jj v hv), fun jj v hv => pb_cell g (kcB jj v hv)⟩
   clear kcA kcB
   go_upto_region 6 with fail
   go_cut [6, 7] from 19 to 26 (fun s6 s7 Y => ∃ ba bb, s6 = .pointer (some ⟨ba, 0, none⟩) ∧ s7 = .pointer (some ⟨bb, 0, none⟩) ∧ Y.heap[ba]? = some (.cells CSA.toArray 87 (0, 0)) ∧ Y.heap[bb]? = some (.cells CSB.toArray 87 (0, 0)) ∧ Below V.heap.size V Y)
   case first =>
    clear k1 k2 k3 k4 k5 k6
    refine wp_region_held_drew (S := (fun V9 => V9.rangeAt c o CSA ∧ V9.rangeAt c' o' CSB)) (by kernel_rfl) (hal0 _ (Below.refl V.heap.size V).drew) (fun hHeld => ?_)
    refine wpAnyH_take (i := 0) (oi := _) (v := .slice (some ⟨c, u, none⟩) m qq) rfl (by kernel_rfl) (by kernel_rfl) (by kernel_rfl) (fun _ _ _ h => h) (Or.inl ⟨by rfl, fun w' hSw => by obtain ⟨y0, y1⟩ := hSw; go_simp⟩) hHeld ?_
    first | simp only [Act.put, List.getElem_toArray, List.getElem_cons_zero, List.getElem_cons_succ, List.setIfInBounds_toArray, List.set_cons_zero, List.set_cons_succ] | skip
    refine wpAnyH_take (i := 1) (oi := _) (v := .int .i64 (j : Int)) rfl (by kernel_rfl) (by kernel_rfl) (by kernel_rfl) (fun _ _ _ h => h) (Or.inl ⟨by rfl, fun w' hSw => by obtain ⟨y0, y1⟩ := hSw; go_simp⟩) hHeld ?_
    first | simp only [Act.put, List.getElem_toArray, List.getElem_cons_zero, List.getElem_cons_succ, List.setIfInBounds_toArray, List.set_cons_zero, List.set_cons_succ] | skip
    refine wpAnyH_take (i := 2) (oi := _) (v := .pointer (some ⟨c, o, none⟩)) rfl (by kernel_rfl) (by kernel_rfl) (by kernel_rfl) (fun _ _ _ h => h) (Or.inl ⟨by rfl, fun w' hSw => by obtain ⟨y0, y1⟩ := hSw; go_simp⟩) hHeld ?_
    first | simp only [Act.put, List.getElem_toArray, List.getElem_cons_zero, List.getElem_cons_succ, List.setIfInBounds_toArray, List.set_cons_zero, List.set_cons_succ] | skip
    refine wpAnyH_take (i := 3) (oi := _) (v := .agg CSA.toArray) rfl (by kernel_rfl) (by kernel_rfl) (by kernel_rfl) (fun _ _ _ h => h) (if_load 87 (.tmp 21) rfl (by rfl) _ _ rfl (fun w' hSw => ld17o hSw.1 hlA)) hHeld ?_
    first | simp only [Act.put, List.getElem_toArray, List.getElem_cons_zero, List.getElem_cons_succ, List.setIfInBounds_toArray, List.set_cons_zero, List.set_cons_succ] | skip
    refine wpAnyH_take (i := 4) (oi := _) (v := .slice (some ⟨c', u', none⟩) m qq') rfl (by kernel_rfl) (by kernel_rfl) (by kernel_rfl) (fun _ _ _ h => h) (Or.inl ⟨by rfl, fun w' hSw => by obtain ⟨y0, y1⟩ := hSw; go_simp⟩) hHeld ?_
    first | simp only [Act.put, List.getElem_toArray, List.getElem_cons_zero, List.getElem_cons_succ, List.setIfInBounds_toArray, List.set_cons_zero, List.set_cons_succ] | skip
    refine wpAnyH_take (i := 5) (oi := _) (v := .int .i64 (j : Int)) rfl (by kernel_rfl) (by kernel_rfl) (by kernel_rfl) (fun _ _ _ h => h) (Or.inl ⟨by rfl, fun w' hSw => by obtain ⟨y0, y1⟩ := hSw; go_simp⟩) hHeld ?_
    first | simp only [Act.put, List.getElem_toArray, List.getElem_cons_zero, List.getElem_cons_succ, List.setIfInBounds_toArray, List.set_cons_zero, List.set_cons_succ] | skip
    refine wpAnyH_take (i := 6) (oi := _) (v := .pointer (some ⟨c', o', none⟩)) rfl (by kernel_rfl) (by kernel_rfl) (by kernel_rfl) (fun _ _ _ h => h) (Or.inl ⟨by rfl, fun w' hSw => by obtain ⟨y0, y1⟩ := hSw; go_simp⟩) hHeld ?_
    first | simp only [Act.put, List.getElem_toArray, List.getElem_cons_zero, List.getElem_cons_succ, List.setIfInBounds_toArray, List.set_cons_zero, List.set_cons_succ] | skip
    refine wpAnyH_take (i := 7) (oi := _) (v := .agg CSB.toArray) rfl (by kernel_rfl) (by kernel_rfl) (by kernel_rfl) (fun _ _ _ h => h) (if_load 87 (.tmp 25) rfl (by rfl) _ _ rfl (fun w' hSw => ld17o hSw.2 hlB)) hHeld ?_
    first | simp only [Act.put, List.getElem_toArray, List.getElem_cons_zero, List.getElem_cons_succ, List.setIfInBounds_toArray, List.set_cons_zero, List.set_cons_succ] | skip
    have gV0 := (Below.refl V.heap.size V).drew
    obtain ⟨V0, eV0⟩ : ∃ Y, V.drew = Y := ⟨_, rfl⟩
    rw [eV0] at gV0 hHeld ⊢
    refine wpAnyH_ready (rs := [8, 9]) (by kernel_rfl) (by simp) (AllReadyH.cons (o := _) rfl (fun K hK => ?_) (AllReadyH.cons (o := _) rfl (fun K hK => ?_) AllReadyH.nil))
    ·skip
     refine Eq.mpr (if_pos (by rfl)) ?_
     refine wp_alloc_by 87 rfl _ (al17 _) ?_
     simp only [Act.put, List.getElem_toArray, List.getElem_cons_zero, List.getElem_cons_succ, List.setIfInBounds_toArray, List.set_cons_zero, List.set_cons_succ]
     have gY1 := pb_call gV0 (pb_new (Below.refl V0.heap.size V0) (.cells z17 87))
     have qn1 := World.alloc_heap_new V0 (.cells z17 87)
     have sz1 : (V0.alloc (.cells z17 87)).heap.size = V0.heap.size + 1 := by simp [go_sem]
     have kp1 : ∀ k, k < V0.heap.size → (V0.alloc (.cells z17 87)).heap[k]? = V0.heap[k]? := fun k hk => Below.heap_alloc _ _ k hk
     obtain ⟨Y1, eY1⟩ : ∃ Y, V0.alloc (.cells z17 87) = Y := ⟨_, rfl⟩
     obtain ⟨bk1, eb1⟩ : ∃ b, V0.heap.size = b := ⟨_, rfl⟩
     rw [eY1] at gY1 qn1 sz1 kp1 ⊢
     rw [eb1] at qn1 sz1 kp1 ⊢
     have lb1 : V.heap.size ≤ bk1 := by rw [← eb1]; exact (gV0).size
     refine hK.out _ _ (hal0 _ gY1) (fun hH1 => ?_)
     clear hK K hHeld
     refine wpAnyH_ready (rs := [9]) (by kernel_rfl) (by simp) (AllReadyH.cons (o := _) rfl (fun K hK => ?_) AllReadyH.nil)
     ·skip
      refine Eq.mpr (if_pos (by rfl)) ?_
      refine wp_alloc_by 87 rfl _ (al17 _) ?_
      simp only [Act.put, List.getElem_toArray, List.getElem_cons_zero, List.getElem_cons_succ, List.setIfInBounds_toArray, List.set_cons_zero, List.set_cons_succ]
      have gY2 := pb_call gY1 (pb_new (Below.refl Y1.heap.size Y1) (.cells z17 87))
      have qn2 := World.alloc_heap_new Y1 (.cells z17 87)
      have sz2 : (Y1.alloc (.cells z17 87)).heap.size = Y1.heap.size + 1 := by simp [go_sem]
      have kp2 : ∀ k, k < Y1.heap.size → (Y1.alloc (.cells z17 87)).heap[k]? = Y1.heap[k]? := fun k hk => Below.heap_alloc _ _ k hk
      obtain ⟨Y2, eY2⟩ : ∃ Y, Y1.alloc (.cells z17 87) = Y := ⟨_, rfl⟩
      obtain ⟨bk2, eb2⟩ : ∃ b, Y1.heap.size = b := ⟨_, rfl⟩
      rw [eY2] at gY2 qn2 sz2 kp2 ⊢
      rw [eb2] at qn2 sz2 kp2 ⊢
      have lb2 : V.heap.size ≤ bk2 := by rw [← eb2]; exact (gY1).size
      have lA2 : bk1 < bk2 := by rw [← eb2]; exact lt_of qn1
      have fA2 := (kp2 _ lA2).trans qn1
      refine hK.out _ _ (hal0 _ gY2) (fun hH2 => ?_)
      clear hK K hH1
      refine wpAnyH_ready (rs := [10]) (by kernel_rfl) (by simp) (AllReadyH.cons (o := _) rfl (fun K hK => ?_) AllReadyH.nil)
      ·skip
       refine Eq.mpr (if_pos (by rfl)) ?_
       refine wp_store_by 87 (.tmp 6) (.tmp 22) rfl _ _ rfl rfl (st17 fA2 rfl hlA h1A) ?_
       simp only [Act.put, List.getElem_toArray, List.getElem_cons_zero, List.getElem_cons_succ, List.setIfInBounds_toArray, List.set_cons_zero, List.set_cons_succ]
       obtain ⟨gY3, qn3, kp3⟩ := own17 gY2 lb1 fA2 rfl hlA
       obtain ⟨Y3, eY3⟩ : ∃ Y, setN bk1 0 CSA Y2 = Y := ⟨_, rfl⟩
       rw [eY3] at gY3 qn3 kp3 ⊢
       have fB3 := (kp3 bk2 (by omega)).trans qn2
       refine hK.out _ _ (hal0 _ gY3) (fun hH3 => ?_)
       clear hK K hH2
       refine wpAnyH_ready (rs := [11]) (by kernel_rfl) (by simp) (AllReadyH.cons (o := _) rfl (fun K hK => ?_) AllReadyH.nil)
       ·skip
        refine Eq.mpr (if_pos (by rfl)) ?_
        refine wp_store_by 87 (.tmp 7) (.tmp 26) rfl _ _ rfl rfl (st17 fB3 rfl hlB h1B) ?_
        simp only [Act.put, List.getElem_toArray, List.getElem_cons_zero, List.getElem_cons_succ, List.setIfInBounds_toArray, List.set_cons_zero, List.set_cons_succ]
        obtain ⟨gY4, qn4, kp4⟩ := own17 gY3 lb2 fB3 rfl hlB
        obtain ⟨Y4, eY4⟩ : ∃ Y, setN bk2 0 CSB Y3 = Y := ⟨_, rfl⟩
        rw [eY4] at gY4 qn4 kp4 ⊢
        have fA4 := (kp4 bk1 (by omega)).trans qn3
        refine hK.out _ _ (hal0 _ gY4) (fun hH4 => ?_)
        clear hK K hH3
        refine wpAnyH_done (by kernel_rfl) ?_ _
        go_wp2_with fail
        go_meet
        exact ⟨bk1, bk2, rfl, rfl, fA4, qn4, gY4⟩
    ·skip
     refine Eq.mpr (if_pos (by rfl)) ?_
     refine wp_alloc_by 87 rfl _ (al17 _) ?_
     simp only [Act.put, List.getElem_toArray, List.getElem_cons_zero, List.getElem_cons_succ, List.setIfInBounds_toArray, List.set_cons_zero, List.set_cons_succ]
     have gY5 := pb_call gV0 (pb_new (Below.refl V0.heap.size V0) (.cells z17 87))
     have qn5 := World.alloc_heap_new V0 (.cells z17 87)
     have sz5 : (V0.alloc (.cells z17 87)).heap.size = V0.heap.size + 1 := by simp [go_sem]
     have kp5 : ∀ k, k < V0.heap.size → (V0.alloc (.cells z17 87)).heap[k]? = V0.heap[k]? := fun k hk => Below.heap_alloc _ _ k hk
     obtain ⟨Y5, eY5⟩ : ∃ Y, V0.alloc (.cells z17 87) = Y := ⟨_, rfl⟩
     obtain ⟨bk5, eb5⟩ : ∃ b, V0.heap.size = b := ⟨_, rfl⟩
     rw [eY5] at gY5 qn5 sz5 kp5 ⊢
     rw [eb5] at qn5 sz5 kp5 ⊢
     have lb5 : V.heap.size ≤ bk5 := by rw [← eb5]; exact (gV0).size
     refine hK.out _ _ (hal0 _ gY5) (fun hH5 => ?_)
     clear hK K hHeld
     refine wpAnyH_ready (rs := [8]) (by kernel_rfl) (by simp) (AllReadyH.cons (o := _) rfl (fun K hK => ?_) AllReadyH.nil)
     ·skip
      refine Eq.mpr (if_pos (by rfl)) ?_
      refine wp_alloc_by 87 rfl _ (al17 _) ?_
      simp only [Act.put, List.getElem_toArray, List.getElem_cons_zero, List.getElem_cons_succ, List.setIfInBounds_toArray, List.set_cons_zero, List.set_cons_succ]
      have gY6 := pb_call gY5 (pb_new (Below.refl Y5.heap.size Y5) (.cells z17 87))
      have qn6 := World.alloc_heap_new Y5 (.cells z17 87)
      have sz6 : (Y5.alloc (.cells z17 87)).heap.size = Y5.heap.size + 1 := by simp [go_sem]
      have kp6 : ∀ k, k < Y5.heap.size → (Y5.alloc (.cells z17 87)).heap[k]? = Y5.heap[k]? := fun k hk => Below.heap_alloc _ _ k hk
      obtain ⟨Y6, eY6⟩ : ∃ Y, Y5.alloc (.cells z17 87) = Y := ⟨_, rfl⟩
      obtain ⟨bk6, eb6⟩ : ∃ b, Y5.heap.size = b := ⟨_, rfl⟩
      rw [eY6] at gY6 qn6 sz6 kp6 ⊢
      rw [eb6] at qn6 sz6 kp6 ⊢
      have lb6 : V.heap.size ≤ bk6 := by rw [← eb6]; exact (gY5).size
      have lB6 : bk5 < bk6 := by rw [← eb6]; exact lt_of qn5
      have fB6 := (kp6 _ lB6).trans qn5
      refine hK.out _ _ (hal0 _ gY6) (fun hH6 => ?_)
      clear hK K hH5
      refine wpAnyH_ready (rs := [10]) (by kernel_rfl) (by simp) (AllReadyH.cons (o := _) rfl (fun K hK => ?_) AllReadyH.nil)
      ·skip
       refine Eq.mpr (if_pos (by rfl)) ?_
       refine wp_store_by 87 (.tmp 6) (.tmp 22) rfl _ _ rfl rfl (st17 qn6 rfl hlA h1A) ?_
       simp only [Act.put, List.getElem_toArray, List.getElem_cons_zero, List.getElem_cons_succ, List.setIfInBounds_toArray, List.set_cons_zero, List.set_cons_succ]
       obtain ⟨gY7, qn7, kp7⟩ := own17 gY6 lb6 qn6 rfl hlA
       obtain ⟨Y7, eY7⟩ : ∃ Y, setN bk6 0 CSA Y6 = Y := ⟨_, rfl⟩
       rw [eY7] at gY7 qn7 kp7 ⊢
       have fB7 := (kp7 bk5 (by omega)).trans fB6
       refine hK.out _ _ (hal0 _ gY7) (fun hH7 => ?_)
       clear hK K hH6
       refine wpAnyH_ready (rs := [11]) (by kernel_rfl) (by simp) (AllReadyH.cons (o := _) rfl (fun K hK => ?_) AllReadyH.nil)
       ·skip
        refine Eq.mpr (if_pos (by rfl)) ?_
        refine wp_store_by 87 (.tmp 7) (.tmp 26) rfl _ _ rfl rfl (st17 fB7 rfl hlB h1B) ?_
        simp only [Act.put, List.getElem_toArray, List.getElem_cons_zero, List.getElem_cons_succ, List.setIfInBounds_toArray, List.set_cons_zero, List.set_cons_succ]
        obtain ⟨gY8, qn8, kp8⟩ := own17 gY7 lb5 fB7 rfl hlB
        obtain ⟨Y8, eY8⟩ : ∃ Y, setN bk5 0 CSB Y7 = Y := ⟨_, rfl⟩
        rw [eY8] at gY8 qn8 kp8 ⊢
        have fA8 := (kp8 bk6 (by omega)).trans qn7
        refine hK.out _ _ (hal0 _ gY8) (fun hH8 => ?_)
        clear hK K hH7
        refine wpAnyH_done (by kernel_rfl) ?_ _
        go_wp2_with fail
        go_meet
        exact ⟨bk6, bk5, rfl, rfl, fA8, qn8, gY8⟩
   obtain ⟨Y, hY⟩ : ∃ X, X = wc := ⟨_, rfl⟩
   subst hY
   obtain ⟨ba, bb, rfl, rfl, qa, qb, gY⟩ := hcut
   rw [← hCSA] at qa
   rw [← hCSB] at qb
   clear hCSA hCSB hlA hlB h1A h1B hal0 ix iy
   obtain ⟨f0, f1, f2, f3, f4, f5, f6, f7, f8, f9, f10, f11, f12, f13, f14, f15, f16, ff⟩ := c17 (show Y.heap[ba]? = some (.cells #[.int .i64 s.dO, .string s.name, .slice p0 s.index.len q0, .int .i64 s.value.op, .string s.value.tx, .int .i64 s.value.ty, .slice p1 s.value.ks.len q1, .int .i64 s.low.op, .string s.low.tx, .int .i64 s.low.ty, .slice p2 s.low.ks.len q2, .int .i64 s.high.op, .string s.high.tx, .int .i64 s.high.ty, .slice p3 s.high.ks.len q3, .slice p4 s.thn.len q4, .slice p5 s.els.len q5] 87 (0, 0)) from qa)
   obtain ⟨h0, h1, h2, h3, h4, h5, h6, h7, h8, h9, h10, h11, h12, h13, h14, h15, h16, hh⟩ := c17 (show Y.heap[bb]? = some (.cells #[.int .i64 s.dO, .string s.name, .slice p0' s.index.len q0', .int .i64 s.value.op, .string s.value.tx, .int .i64 s.value.ty, .slice p1' s.value.ks.len q1', .int .i64 s.low.op, .string s.low.tx, .int .i64 s.low.ty, .slice p2' s.low.ks.len q2', .int .i64 s.high.op, .string s.high.tx, .int .i64 s.high.ty, .slice p3' s.high.ks.len q3', .slice p4' s.thn.len q4', .slice p5' s.els.len q5'] 87 (0, 0)) from qb)
   clear ff hh qa qb
   have hall : ∀ Z, Below V.heap.size V Z → Below Y.heap.size Y Z → (Z.cell? ⟨ba, 0, none⟩ = some (.int .i64 s.dO) ∧ Z.cell? ⟨ba, 1, none⟩ = some (.string s.name) ∧ Z.cell? ⟨ba, 2, none⟩ = some (.slice p0 s.index.len q0) ∧ Z.cell? ⟨ba, 3, none⟩ = some (.int .i64 s.value.op) ∧ Z.cell? ⟨ba, 4, none⟩ = some (.string s.value.tx) ∧ Z.cell? ⟨ba, 5, none⟩ = some (.int .i64 s.value.ty) ∧ Z.cell? ⟨ba, 6, none⟩ = some (.slice p1 s.value.ks.len q1) ∧ Z.cell? ⟨ba, 7, none⟩ = some (.int .i64 s.low.op) ∧ Z.cell? ⟨ba, 8, none⟩ = some (.string s.low.tx) ∧ Z.cell? ⟨ba, 9, none⟩ = some (.int .i64 s.low.ty) ∧ Z.cell? ⟨ba, 10, none⟩ = some (.slice p2 s.low.ks.len q2) ∧ Z.cell? ⟨ba, 11, none⟩ = some (.int .i64 s.high.op) ∧ Z.cell? ⟨ba, 12, none⟩ = some (.string s.high.tx) ∧ Z.cell? ⟨ba, 13, none⟩ = some (.int .i64 s.high.ty) ∧ Z.cell? ⟨ba, 14, none⟩ = some (.slice p3 s.high.ks.len q3) ∧ Z.cell? ⟨ba, 15, none⟩ = some (.slice p4 s.thn.len q4) ∧ Z.cell? ⟨ba, 16, none⟩ = some (.slice p5 s.els.len q5) ∧ Z.cell? ⟨bb, 0, none⟩ = some (.int .i64 s.dO) ∧ Z.cell? ⟨bb, 1, none⟩ = some (.string s.name) ∧ Z.cell? ⟨bb, 2, none⟩ = some (.slice p0' s.index.len q0') ∧ Z.cell? ⟨bb, 3, none⟩ = some (.int .i64 s.value.op) ∧ Z.cell? ⟨bb, 4, none⟩ = some (.string s.value.tx) ∧ Z.cell? ⟨bb, 5, none⟩ = some (.int .i64 s.value.ty) ∧ Z.cell? ⟨bb, 6, none⟩ = some (.slice p1' s.value.ks.len q1') ∧ Z.cell? ⟨bb, 7, none⟩ = some (.int .i64 s.low.op) ∧ Z.cell? ⟨bb, 8, none⟩ = some (.string s.low.tx) ∧ Z.cell? ⟨bb, 9, none⟩ = some (.int .i64 s.low.ty) ∧ Z.cell? ⟨bb, 10, none⟩ = some (.slice p2' s.low.ks.len q2') ∧ Z.cell? ⟨bb, 11, none⟩ = some (.int .i64 s.high.op) ∧ Z.cell? ⟨bb, 12, none⟩ = some (.string s.high.tx) ∧ Z.cell? ⟨bb, 13, none⟩ = some (.int .i64 s.high.ty) ∧ Z.cell? ⟨bb, 14, none⟩ = some (.slice p3' s.high.ks.len q3') ∧ Z.cell? ⟨bb, 15, none⟩ = some (.slice p4' s.thn.len q4') ∧ Z.cell? ⟨bb, 16, none⟩ = some (.slice p5' s.els.len q5')) := fun Z _ g => ⟨pb_cell g f0, pb_cell g f1, pb_cell g f2, pb_cell g f3, pb_cell g f4, pb_cell g f5, pb_cell g f6, pb_cell g f7, pb_cell g f8, pb_cell g f9, pb_cell g f10, pb_cell g f11, pb_cell g f12, pb_cell g f13, pb_cell g f14, pb_cell g f15, pb_cell g f16, pb_cell g h0, pb_cell g h1, pb_cell g h2, pb_cell g h3, pb_cell g h4, pb_cell g h5, pb_cell g h6, pb_cell g h7, pb_cell g h8, pb_cell g h9, pb_cell g h10, pb_cell g h11, pb_cell g h12, pb_cell g h13, pb_cell g h14, pb_cell g h15, pb_cell g h16⟩
   generalize s.dO = d0 at *
   generalize s.name = d1 at *
   generalize s.index.len = l0 at *
   generalize s.thn.len = l4 at *
   generalize s.els.len = l5 at *
   generalize s.value.ks.len = l1 at *
   generalize s.low.ks.len = l2 at *
   generalize s.high.ks.len = l3 at *
   generalize s.value.op = a0 at *
   generalize s.value.tx = a1 at *
   generalize s.value.ty = a2 at *
   generalize s.low.op = b0 at *
   generalize s.low.tx = b1 at *
   generalize s.low.ty = b2 at *
   generalize s.high.op = c0 at *
   generalize s.high.tx = c1 at *
   generalize s.high.ty = c2 at *
   have gVY : Hid (Below V.heap.size V Y) := gY
   replace k1 := fun Z (g : Below Y.heap.size Y Z) => k1 Z (pb_call gVY.out g)
   replace k2 := fun Z (g : Below Y.heap.size Y Z) => k2 Z (pb_call gVY.out g)
   replace k3 := fun Z (g : Below Y.heap.size Y Z) => k3 Z (pb_call gVY.out g)
   replace k4 := fun Z (g : Below Y.heap.size Y Z) => k4 Z (pb_call gVY.out g)
   replace k5 := fun Z (g : Below Y.heap.size Y Z) => k5 Z (pb_call gVY.out g)
   replace k6 := fun Z (g : Below Y.heap.size Y Z) => k6 Z (pb_call gVY.out g)
   replace hall := fun Z (g : Below Y.heap.size Y Z) => hall Z (pb_call gVY.out g) g
   have gg := Below.refl Y.heap.size Y
   clear gY
   go_wp2_with (first
    | (go_at_call 40; (first | (refine (k1 _ gg).mono ?_; clear k1)); rintro e v1 ⟨rfl, g3⟩; replace gg := pb_call gg g3; clear f0 f1 f2 f3 f4 f5 f6 f7 f8 f9 f10 f11 f12 f13 f14 f15 f16 h0 h1 h2 h3 h4 h5 h6 h7 h8 h9 h10 h11 h12 h13 h14 h15 h16 g3; obtain ⟨f0, f1, f2, f3, f4, f5, f6, f7, f8, f9, f10, f11, f12, f13, f14, f15, f16, h0, h1, h2, h3, h4, h5, h6, h7, h8, h9, h10, h11, h12, h13, h14, h15, h16⟩ := hall _ gg)
    | (go_at_call 41; (first | (refine (k2 _ gg).mono ?_; clear k2) | (refine (k3 _ gg).mono ?_; clear k3) | (refine (k4 _ gg).mono ?_; clear k4)); rintro e v1 ⟨rfl, g3⟩; replace gg := pb_call gg g3; clear f0 f1 f2 f3 f4 f5 f6 f7 f8 f9 f10 f11 f12 f13 f14 f15 f16 h0 h1 h2 h3 h4 h5 h6 h7 h8 h9 h10 h11 h12 h13 h14 h15 h16 g3; obtain ⟨f0, f1, f2, f3, f4, f5, f6, f7, f8, f9, f10, f11, f12, f13, f14, f15, f16, h0, h1, h2, h3, h4, h5, h6, h7, h8, h9, h10, h11, h12, h13, h14, h15, h16⟩ := hall _ gg)
    | (go_at_call 22; (first | (refine (k5 _ gg).mono ?_; clear k5) | (refine (k6 _ gg).mono ?_; clear k6)); rintro e v1 ⟨rfl, g3⟩; replace gg := pb_call gg g3; clear f0 f1 f2 f3 f4 f5 f6 f7 f8 f9 f10 f11 f12 f13 f14 f15 f16 h0 h1 h2 h3 h4 h5 h6 h7 h8 h9 h10 h11 h12 h13 h14 h15 h16 g3; obtain ⟨f0, f1, f2, f3, f4, f5, f6, f7, f8, f9, f10, f11, f12, f13, f14, f15, f16, h0, h1, h2, h3, h4, h5, h6, h7, h8, h9, h10, h11, h12, h13, h14, h15, h16⟩ := hall _ gg)
    | fail)
   exact ⟨⟨j + 1, _, by go_num, rfl, pb_call gV.out (pb_call gVY.out gg), by omega⟩, by simp [intOf]; omega⟩
  ·obtain rfl : j = m := by omega
   have nn : ¬ ((j : Int) < (j : Int)) := by omega
   have g' := gV.out
   go_wp2_with fail
   go_ret
   exact ⟨rfl, g'⟩
theorem sm_of : ∀ f : So, f.wt ≤ 1099511627776 → f.all RmT
 | .nil, _ => trivial
 | .cons d nm ix v l h t e r, hw => by
  have w1 : nm.size + ix.wt + (v.row .nil).wt + (l.row .nil).wt + (h.row .nil).wt + t.wt + e.wt + r.wt + 1 ≤ 1099511627776 := hw
  have a := so_len_wt t
  have b := so_len_wt e
  have c := Fo.len_wt ix
  exact ⟨⟨⟨sr_of ix (by omega), by show ix.len ≤ _; omega⟩, (sr_of (v.row .nil) (by omega)).1, (sr_of (l.row .nil) (by omega)).1, (sr_of (h.row .nil) (by omega)).1, smS t (sm_of t (by omega)) (by omega), smS e (sm_of e (by omega)) (by omega)⟩, sm_of r (by omega)⟩
end Go.Proofs.YtknoibocpbfmmaaGreatDoor



