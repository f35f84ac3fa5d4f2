/- Texts of the proof, put together. -/
import Derived.Test.YtknoibocpbfmmaaGreatDoorWG24
namespace Go.Proofs.YtknoibocpbfmmaaGreatDoor
open Go.RowKit
set_option linter.unusedVariables false
set_option linter.unusedSimpArgs false
def So.ac : So → Nat
 | .nil => 0
 | .cons _ _ ix v l h t e r => ix.cnt + (v.ks.cnt + l.ks.cnt + h.ks.cnt + 3) + t.ac + e.ac + r.ac
theorem So.row_ac (s : St) (r : So) : (s.row r).ac = s.index.cnt + (s.value.ks.cnt + s.low.ks.cnt + s.high.ks.cnt + 3) + s.thn.ac + s.els.ac + r.ac := rfl
/-- What is needed of a statement's expressions. -/
def SxT (s : St) : Prop := s.index.all SxA ∧ s.index.len ≤ 1099511627776 ∧ SxA s.value ∧ SxA s.low ∧ SxA s.high
def three (s : St) : Fo := s.value.row (s.low.row (s.high.row .nil))
theorem three_cnt (s : St) : (three s).cnt = s.value.ks.cnt + s.low.ks.cnt + s.high.ks.cnt + 3 := by
 show s.value.ks.cnt + 1 + (s.low.ks.cnt + 1 + (s.high.ks.cnt + 1 + 0)) = _
 omega
def SaB (f : So) : Prop := ∀ (most : Nat) (S : Nat → Prop) (pp : Option Addr) (qq : Nat) (w : World), f.ac ≤ most → most ≤ 1099511627776 → SlS w S (.slice pp f.len qq) f →
 Calls Tryz.prog 24 #[.slice pp f.len qq, .int .i64 (most : Int)] w fun r w' => r = .returned (.int .i64 ((f.ac : Nat) : Int)) ∧ Below w.heap.size w w'
/-- Three expressions in a block of their own. -/
theorem three_at {Y : World} {S : Nat → Prop} {s : St} {b : Nat} {t : TypeId} {p1 p2 p3 : Option Addr} {q1 q2 q3 : Nat} (q : Y.heap[b]? = some (.cells #[.int .i64 s.value.op, .string s.value.tx, .int .i64 s.value.ty, .slice p1 s.value.ks.len q1, .int .i64 s.low.op, .string s.low.tx, .int .i64 s.low.ty, .slice p2 s.low.ks.len q2, .int .i64 s.high.op, .string s.high.tx, .int .i64 s.high.ty, .slice p3 s.high.ks.len q3] t (0, 0)))
  (t1 : SlF Y S (.slice p1 s.value.ks.len q1) s.value.ks) (t2 : SlF Y S (.slice p2 s.low.ks.len q2) s.low.ks) (t3 : SlF Y S (.slice p3 s.high.ks.len q3) s.high.ks) : SlF Y (fun _ => True) (.slice (some ⟨b, 0, none⟩) 3 3) (three s) := by
 have u1 := t1.lo (lo' := fun _ => True) (fun _ _ => trivial)
 have u2 := t2.lo (lo' := fun _ => True) (fun _ _ => trivial)
 have u3 := t3.lo (lo' := fun _ => True) (fun _ _ => trivial)
 obtain ⟨a1, c1, e1, k1⟩ := u1
 obtain ⟨rfl, _, rfl⟩ := Value.slice.inj e1
 obtain ⟨a2, c2, e2, k2⟩ := u2
 obtain ⟨rfl, _, rfl⟩ := Value.slice.inj e2
 obtain ⟨a3, c3, e3, k3⟩ := u3
 obtain ⟨rfl, _, rfl⟩ := Value.slice.inj e3
 refine ⟨_, 3, rfl, Or.inr ⟨b, 0, rfl, trivial, ?_, ?_, ?_, ⟨p1, q1, ?_, k1⟩, trivial, ?_, ?_, ?_, ⟨p2, q2, ?_, k2⟩, trivial, ?_, ?_, ?_, ⟨p3, q3, ?_, k3⟩, trivial⟩⟩ <;> simp [World.cell?, q]
set_option maxRecDepth 100000 in
set_option maxHeartbeats 6400000 in
theorem saS (f : So) (hA : f.all (fun s => SxT s ∧ SaB s.thn ∧ SaB s.els)) (hz : f.len ≤ 1099511627776) : SaB f := by
 intro most S pp qq w hm hM hT
 obtain ⟨C, hC⟩ : ∃ C, f.ac = C := ⟨_, rfl⟩
 rw [hC] at hm ⊢
 obtain ⟨m, hm0⟩ : ∃ m, f.len = m := ⟨_, rfl⟩
 rw [hm0] at hT hz ⊢
 have hm' : Hid (f.len = m) := hm0
 have hA' : Hid (f.all (fun s => SxT s ∧ SaB s.thn ∧ SaB s.els)) := hA
 have hT' : Hid (SlS w S (.slice pp m qq) f) := hT
 have hm40 : Hid (m ≤ 1099511627776 ∧ C ≤ most ∧ most ≤ 1099511627776) := ⟨hz, hm, hM⟩
 have hI : Hid (0 + (f.drop 0).ac = C) := by show 0 + f.ac = C; rw [Nat.zero_add]; exact hC
 clear hm0 hA hT hz hm hM hC
 go_enter Tryz.func24, Tryz.ntmps24
 go_upto_region 3 with fail
 go_loopw [6, 5] (fun i n wr => ∃ (j a : Nat) (V : World), i = .int .i64 j ∧ n = .int .i64 (a : Int) ∧ V = wr ∧ Hid (Below w.heap.size w V) ∧ Hid (a + (f.drop j).ac = C) ∧ j ≤ m) (fun i _ _ => m - (intOf i).toNat)
 case atStart => exact ⟨0, 0, w, rfl, rfl, rfl, Below.refl _ _, hI, by omega⟩
 case round =>
  clear hI
  obtain ⟨j, a, V, rfl, rfl, e, gV, hI, hj⟩ := hrel
  subst e
  have hq := hI.out
  have b40 := hm40.out
  have ha : (a : Int) ≤ (most : Int) := by omega
  by_cases cj : j < m
  ·have cj' : (j : Int) < (m : Int) := by omega
   obtain ⟨s, hf⟩ := So.drop_at (f := f) (j := j) (by rw [hm'.out]; exact cj)
   have hal := So.all_drop j hA'.out
   rw [hf] at hal hq
   rw [So.row_ac] at hq
   have hTT := hT'.out.kp (Below.kp gV.out _)
   obtain ⟨p2', q2', e2, hT⟩ := hTT
   obtain ⟨rfl, e4, rfl⟩ := Value.slice.inj e2
   clear e2 e4
   rcases hT with hT | ⟨c, u, rfl, hT⟩
   ·exfalso; have := hm'.out; rw [hT] at this; simp [So.len] at this; omega
   have hTj := SoAt.drop j hT
   rw [hf] at hTj
   obtain ⟨lc, p0, q0, p1, q1, p2, q2, p3, q3, p4, q4, p5, q5, sT, k0, k1, k2, k3, k4, k5, k6, k7, k8, k9, k10, k11, k12, k13, k14, k15, k16⟩ := hTj.cells
   obtain ⟨t0, t1, t2, t3, t4, t5⟩ := sT
   obtain ⟨⟨hx, lx, hv, hlo, hhi⟩, hSt, hSe⟩ : SxT s ∧ SaB s.thn ∧ SaB s.els := hal.1
   obtain ⟨nx, hnx⟩ : ∃ n, s.index.cnt = n := ⟨_, rfl⟩
   obtain ⟨n3, hn3⟩ : ∃ n, s.value.ks.cnt + s.low.ks.cnt + s.high.ks.cnt + 3 = n := ⟨_, rfl⟩
   obtain ⟨nt, hnt⟩ : ∃ n, s.thn.ac = n := ⟨_, rfl⟩
   obtain ⟨ne, hne⟩ : ∃ n, s.els.ac = n := ⟨_, rfl⟩
   rw [hnx, hn3, hnt, hne] at hq
   have kX : ∀ Y, Below V.heap.size V Y → Calls Tryz.prog 42 #[.slice p0 s.index.len q0, .int .i64 (most : Int)] Y fun r w' => r = .returned (.int .i64 (nx : Int)) ∧ Below Y.heap.size Y w' := fun Y g => by
    rw [← hnx]; exact xsF s.index hx lx most (by omega) (by omega) S p0 q0 Y (t0.kp (Below.kp g _))
   have kT : ∀ Y b ty, Below V.heap.size V Y → Y.heap[b]? = some (.cells #[.int .i64 s.value.op, .string s.value.tx, .int .i64 s.value.ty, .slice p1 s.value.ks.len q1, .int .i64 s.low.op, .string s.low.tx, .int .i64 s.low.ty, .slice p2 s.low.ks.len q2, .int .i64 s.high.op, .string s.high.tx, .int .i64 s.high.ty, .slice p3 s.high.ks.len q3] ty (0, 0)) → Calls Tryz.prog 42 #[.slice (some ⟨b, 0, none⟩) 3 3, .int .i64 (most : Int)] Y fun r w' => r = .returned (.int .i64 (n3 : Int)) ∧ Below Y.heap.size Y w' := fun Y b ty g q => by
    rw [← hn3, ← three_cnt]
    exact xsF (three s) ⟨hv, hlo, hhi, trivial⟩ (by show (3 : Nat) ≤ _; omega) most (by rw [three_cnt]; omega) (by omega) _ _ 3 Y (three_at q (t1.kp (Below.kp g _)) (t2.kp (Below.kp g _)) (t3.kp (Below.kp g _)))
   have kA : ∀ Y, Below V.heap.size V Y → Calls Tryz.prog 24 #[.slice p4 s.thn.len q4, .int .i64 (most : Int)] Y fun r w' => r = .returned (.int .i64 (nt : Int)) ∧ Below Y.heap.size Y w' := fun Y g => by rw [← hnt]; exact hSt most S p4 q4 Y (by omega) (by omega) (t4.kp (Below.kp g _))
   have kB : ∀ Y, Below V.heap.size V Y → Calls Tryz.prog 24 #[.slice p5 s.els.len q5, .int .i64 (most : Int)] Y fun r w' => r = .returned (.int .i64 (ne : Int)) ∧ Below Y.heap.size Y w' := fun Y g => by rw [← hne]; exact hSe most S p5 q5 Y (by omega) (by omega) (t5.kp (Below.kp g _))
   have ix := so_ix c u m qq j cj
   have wj : IntKind.i64.wrap ((j : Int) + 1) = ((j + 1 : Nat) : Int) := by rw [IntKind.wrap_i64]; omega
   have w1 : IntKind.i64.wrap ((a : Int) + (nx : Int)) = (a : Int) + (nx : Int) := by rw [IntKind.wrap_i64]; omega
   have w2 : IntKind.i64.wrap ((a : Int) + (nx : Int) + (n3 : Int)) = (a : Int) + (nx : Int) + (n3 : Int) := by rw [IntKind.wrap_i64]; omega
   have w3 : IntKind.i64.wrap ((a : Int) + (nx : Int) + (n3 : Int) + (nt : Int)) = (a : Int) + (nx : Int) + (n3 : Int) + (nt : Int) := by rw [IntKind.wrap_i64]; omega
   have w4 : IntKind.i64.wrap ((a : Int) + (nx : Int) + (n3 : Int) + (nt : Int) + (ne : Int)) = ((a + nx + n3 + nt + ne : Nat) : Int) := by rw [IntKind.wrap_i64]; omega
   have h1 : (a : Int) + (nx : Int) + (n3 : Int) ≤ (most : Int) := by omega
   have h2 : (a : Int) + (nx : Int) + (n3 : Int) + (nt : Int) ≤ (most : Int) := by omega
   have hI2 : Hid (a + nx + n3 + nt + ne + (f.drop (j + 1)).ac = C) := by show _ = _; omega
   have cV : c < V.heap.size := World.block_lt_of_cell? V _ k0
   generalize u + j * 17 = o at *
   obtain ⟨CSA, hCSA⟩ : ∃ CS : List Value, [.int .i64 s.dO, .string s.name, .slice p0 s.index.len q0, .int .i64 s.value.op, .string s.value.tx, .int .i64 s.value.ty, .slice p1 s.value.ks.len q1, .int .i64 s.low.op, .string s.low.tx, .int .i64 s.low.ty, .slice p2 s.low.ks.len q2, .int .i64 s.high.op, .string s.high.tx, .int .i64 s.high.ty, .slice p3 s.high.ks.len q3, .slice p4 s.thn.len q4, .slice p5 s.els.len q5] = CS := ⟨_, rfl⟩
   have hlA : CSA.length = 17 := by rw [← hCSA]; rfl
   have h1A : ∀ v ∈ CSA, v.oneCell' = true := by
    rw [← hCSA]
    intro v hv
    simp only [List.mem_cons, List.not_mem_nil, or_false] at hv
    rcases hv with rfl | rfl | rfl | rfl | rfl | rfl | rfl | rfl | rfl | rfl | rfl | rfl | rfl | rfl | rfl | rfl | rfl <;> rfl
   have kcA : V.rangeAt c o CSA := by
    rw [← hCSA]
    intro jj v hv
    match jj, hv with
    | 0, hv => obtain rfl := Option.some.inj hv; exact k0
    | 1, hv => obtain rfl := Option.some.inj hv; exact k1
    | 2, hv => obtain rfl := Option.some.inj hv; exact k2
    | 3, hv => obtain rfl := Option.some.inj hv; exact k3
    | 4, hv => obtain rfl := Option.some.inj hv; exact k4
    | 5, hv => obtain rfl := Option.some.inj hv; exact k5
    | 6, hv => obtain rfl := Option.some.inj hv; exact k6
    | 7, hv => obtain rfl := Option.some.inj hv; exact k7
    | 8, hv => obtain rfl := Option.some.inj hv; exact k8
    | 9, hv => obtain rfl := Option.some.inj hv; exact k9
    | 10, hv => obtain rfl := Option.some.inj hv; exact k10
    | 11, hv => obtain rfl := Option.some.inj hv; exact k11
    | 12, hv => obtain rfl := Option.some.inj hv; exact k12
    | 13, hv => obtain rfl := Option.some.inj hv; exact k13
    | 14, hv => obtain rfl := Option.some.inj hv; exact k14
    | 15, hv => obtain rfl := Option.some.inj hv; exact k15
    | 16, hv => obtain rfl := Option.some.inj hv; exact k16
    | n + 17, hv => cases hv
   clear k0 k1 k2 k3 k4 k5 k6 k7 k8 k9 k10 k11 k12 k13 k14 k15 k16
   clear hTj hT hal lc hf hq hI b40 t0 t1 t2 t3 t4 t5 hx lx hv hlo hhi hSt hSe hnx hn3 hnt hne
   have g1 := pb_new (Below.refl V.heap.size V) (.cells CSA.toArray 87)
   have qX := World.alloc_heap_new V (.cells CSA.toArray 87)
   obtain ⟨X, hX⟩ : ∃ X, V.alloc (.cells CSA.toArray 87) = X := ⟨_, rfl⟩
   rw [hX] at g1 qX
   obtain ⟨b8, hb8⟩ : ∃ b, V.heap.size = b := ⟨_, rfl⟩
   rw [hb8] at qX
   have snA := sn17 V hlA h1A
   have hX' : Hid (V.alloc (.cells CSA.toArray 87) = X) := hX
   have hb8' : Hid (V.heap.size = b8) := hb8
   have gVX : Hid (Below V.heap.size V X) := g1
   clear hX hb8 g1 cV
   go_upto_region 5 with fail
   refine wp_region_list ?_
   refine Eq.mpr (if_pos (by rfl)) (Or.inl ?_)
   refine wp_move_by (.tmp 0) rfl _ rfl ?_
   simp only [Act.put, List.setIfInBounds_toArray, List.set_cons_zero, List.set_cons_succ]
   refine Eq.mpr (if_pos (by rfl)) (Or.inl ?_)
   refine wp_move_by (.tmp 6) rfl _ rfl ?_
   simp only [Act.put, List.setIfInBounds_toArray, List.set_cons_zero, List.set_cons_succ]
   refine Eq.mpr (if_pos (by rfl)) (Or.inl ?_)
   refine wp_index_by 23 (.tmp 19) (.tmp 20) rfl _ _ _ rfl rfl (ix _) ?_
   simp only [Act.put, List.setIfInBounds_toArray, List.set_cons_zero, List.set_cons_succ]
   refine Eq.mpr (if_pos (by rfl)) (Or.inl ?_)
   refine wp_load_by 87 (.tmp 21) rfl _ _ rfl (ld17o kcA hlA) ?_
   simp only [Act.put, List.setIfInBounds_toArray, List.set_cons_zero, List.set_cons_succ]
   refine Eq.mpr (if_pos (by rfl)) (Or.inl ?_)
   refine wp_alloc_by 87 rfl _ (al17 _) ?_
   simp only [Act.put, List.setIfInBounds_toArray, List.set_cons_zero, List.set_cons_succ]
   refine Eq.mpr (if_pos (by rfl)) (Or.inl ?_)
   refine wp_store_by 87 (.tmp 7) (.tmp 22) rfl _ _ rfl rfl snA ?_
   simp only [Act.put, List.setIfInBounds_toArray, List.set_cons_zero, List.set_cons_succ]
   rw [hX'.out]
   (try rw [hb8'.out])
   clear snA hX' kcA h1A ix hb8'
   rw [← hCSA] at qX
   obtain ⟨f0, f1, f2, f3, f4, f5, f6, f7, f8, f9, f10, f11, f12, f13, f14, f15, f16, ff⟩ := c17 (show X.heap[b8]? = some (.cells #[.int .i64 s.dO, .string s.name, .slice p0 s.index.len q0, .int .i64 s.value.op, .string s.value.tx, .int .i64 s.value.ty, .slice p1 s.value.ks.len q1, .int .i64 s.low.op, .string s.low.tx, .int .i64 s.low.ty, .slice p2 s.low.ks.len q2, .int .i64 s.high.op, .string s.high.tx, .int .i64 s.high.ty, .slice p3 s.high.ks.len q3, .slice p4 s.thn.len q4, .slice p5 s.els.len q5] 87 (0, 0)) from qX)
   clear qX ff hCSA hlA f0 f1
   generalize s.index.len = l0 at *
   generalize s.thn.len = l4 at *
   generalize s.els.len = l5 at *
   generalize s.value.ks.len = l1 at *
   generalize s.low.ks.len = l2 at *
   generalize s.high.ks.len = l3 at *
   generalize s.value.op = a0 at *
   generalize s.value.tx = a1 at *
   generalize s.value.ty = a2 at *
   generalize s.low.op = b0 at *
   generalize s.low.tx = b1 at *
   generalize s.low.ty = b2 at *
   generalize s.high.op = c0 at *
   generalize s.high.tx = c1 at *
   generalize s.high.ty = c2 at *
   have hall : ∀ Y, Below X.heap.size X Y → (Y.cell? ⟨b8, 2, none⟩ = some (.slice p0 l0 q0) ∧ Y.cell? ⟨b8, 3, none⟩ = some (.int .i64 a0) ∧ Y.cell? ⟨b8, 4, none⟩ = some (.string a1) ∧ Y.cell? ⟨b8, 5, none⟩ = some (.int .i64 a2) ∧ Y.cell? ⟨b8, 6, none⟩ = some (.slice p1 l1 q1) ∧ Y.cell? ⟨b8, 7, none⟩ = some (.int .i64 b0) ∧ Y.cell? ⟨b8, 8, none⟩ = some (.string b1) ∧ Y.cell? ⟨b8, 9, none⟩ = some (.int .i64 b2) ∧ Y.cell? ⟨b8, 10, none⟩ = some (.slice p2 l2 q2) ∧ Y.cell? ⟨b8, 11, none⟩ = some (.int .i64 c0) ∧ Y.cell? ⟨b8, 12, none⟩ = some (.string c1) ∧ Y.cell? ⟨b8, 13, none⟩ = some (.int .i64 c2) ∧ Y.cell? ⟨b8, 14, none⟩ = some (.slice p3 l3 q3) ∧ Y.cell? ⟨b8, 15, none⟩ = some (.slice p4 l4 q4) ∧ Y.cell? ⟨b8, 16, none⟩ = some (.slice p5 l5 q5)) := fun Y g => ⟨pb_cell g f2, pb_cell g f3, pb_cell g f4, pb_cell g f5, pb_cell g f6, pb_cell g f7, pb_cell g f8, pb_cell g f9, pb_cell g f10, pb_cell g f11, pb_cell g f12, pb_cell g f13, pb_cell g f14, pb_cell g f15, pb_cell g f16⟩
   have bX := Below.refl X.heap.size X
   go_upto_region 7 with (first
    | (go_at_call 42; (refine (kX _ gVX.out).mono ?_); rintro e v1 ⟨rfl, g3⟩)
    | fail)
   replace bX := pb_call bX g3
   clear f2 f3 f4 f5 f6 f7 f8 f9 f10 f11 f12 f13 f14 f15 f16 kX g3
   obtain ⟨f2, f3, f4, f5, f6, f7, f8, f9, f10, f11, f12, f13, f14, f15, f16⟩ := hall _ bX
   have qT := World.alloc_heap_new v1 (.cells #[.int .i64 a0, .string a1, .int .i64 a2, .slice p1 l1 q1, .int .i64 b0, .string b1, .int .i64 b2, .slice p2 l2 q2, .int .i64 c0, .string c1, .int .i64 c2, .slice p3 l3 q3] 85)
   have gT := pb_call bX (pb_new (Below.refl v1.heap.size v1) (.cells #[.int .i64 a0, .string a1, .int .i64 a2, .slice p1 l1 q1, .int .i64 b0, .string b1, .int .i64 b2, .slice p2 l2 q2, .int .i64 c0, .string c1, .int .i64 c2, .slice p3 l3 q3] 85))
   go_upto_region 8 with (first
    | (go_at_call 42; (refine (kT _ _ _ (pb_call gVX.out gT) qT).mono ?_); rintro e v2 ⟨rfl, g4⟩)
    | fail)
   replace bX := pb_call gT g4
   clear f2 f3 f4 f5 f6 f7 f8 f9 f10 f11 f12 f13 f14 f15 f16 kT g4 qT gT
   obtain ⟨f2, f3, f4, f5, f6, f7, f8, f9, f10, f11, f12, f13, f14, f15, f16⟩ := hall _ bX
   go_wp2_with (first
    | (go_at_call 24; (first | (refine (kA _ (pb_call gVX.out bX)).mono ?_; clear kA; rintro e v3 ⟨rfl, g5⟩; replace f16 := pb_cell g5 f16) | (refine (kB _ (pb_call gVX.out (pb_call bX g5))).mono ?_; clear kB; rintro e v4 ⟨rfl, g6⟩)))
    | fail)
   exact ⟨⟨j + 1, a + nx + n3 + nt + ne, v4, by go_num, by first | rfl | go_num, rfl, pb_call gV.out (pb_call gVX.out (pb_call (pb_call bX g5) g6)), hI2, by omega⟩, by simp [intOf]; omega⟩
  ·obtain rfl : j = m := by omega
   have nn : ¬ ((j : Int) < (j : Int)) := by omega
   rw [← hm'.out, So.drop_end] at hq
   obtain rfl : a = C := by rw [← hq]; rfl
   have g' := gV.out
   clear hI hq
   go_wp2_with fail
   go_ret
   exact ⟨rfl, g'⟩
theorem sa_of : ∀ f : So, f.wt ≤ 1099511627776 → f.all (fun s => SxT s ∧ SaB s.thn ∧ SaB s.els)
 | .nil, _ => trivial
 | .cons d nm ix v l h t e r, hw => by
  have w1 : nm.size + ix.wt + (v.row .nil).wt + (l.row .nil).wt + (h.row .nil).wt + t.wt + e.wt + r.wt + 1 ≤ 1099511627776 := hw
  have a := so_len_wt t
  have b := so_len_wt e
  have c := Fo.len_wt ix
  exact ⟨⟨⟨sx_of ix (by omega), by show ix.len ≤ _; omega, (sx_of (v.row .nil) (by omega)).1, (sx_of (l.row .nil) (by omega)).1, (sx_of (h.row .nil) (by omega)).1⟩, saS t (sa_of t (by omega)) (by omega), saS e (sa_of e (by omega)) (by omega)⟩, sa_of r (by omega)⟩
end Go.Proofs.YtknoibocpbfmmaaGreatDoor



namespace Go.Proofs.YtknoibocpbfmmaaGreatDoor
open Go.RowKit
set_option linter.unusedVariables false
set_option linter.unusedSimpArgs false
/-- How deep blocks are. -/
def So.bd : So → Nat
 | .nil => 0
 | .cons _ _ _ _ _ _ t e r => max (max t.bd e.bd + 1) r.bd
def Bdk (f : So) (n : Nat) : Prop := f = .nil ∨ n + f.bd ≤ 25
theorem So.bd_drop : ∀ (f : So) (j : Nat), (f.drop j).bd ≤ f.bd
 | f, 0 => Nat.le_refl _
 | .nil, j + 1 => Nat.le_refl _
 | .cons _ _ _ _ _ _ t e r, j + 1 => by
  have := So.bd_drop r j
  show (r.drop j).bd ≤ max (max t.bd e.bd + 1) r.bd
  omega
def RsT (s : St) : Prop := ∀ (n : Nat) (S : Nat → Prop) (p0 : Option Addr) (q0 : Nat) (p1 : Option Addr) (q1 : Nat) (p2 : Option Addr) (q2 : Nat) (p3 : Option Addr) (q3 : Nat) (p4 : Option Addr) (q4 : Nat) (p5 : Option Addr) (q5 : Nat) (w : World), n ≤ 24 → Bdk s.thn (n + 1) → Bdk s.els (n + 1) → StT w S s p0 q0 p1 q1 p2 q2 p3 q3 p4 q4 p5 q5 →
 Calls Tryz.prog 47 #[.agg #[.int .i64 s.dO, .string s.name, .slice p0 s.index.len q0, .int .i64 s.value.op, .string s.value.tx, .int .i64 s.value.ty, .slice p1 s.value.ks.len q1, .int .i64 s.low.op, .string s.low.tx, .int .i64 s.low.ty, .slice p2 s.low.ks.len q2, .int .i64 s.high.op, .string s.high.tx, .int .i64 s.high.ty, .slice p3 s.high.ks.len q3, .slice p4 s.thn.len q4, .slice p5 s.els.len q5], .int .i64 (n : Int)] w fun r w' => r = .returned (.bool true) ∧ Below w.heap.size w w'
set_option maxRecDepth 100000 in
set_option maxHeartbeats 6400000 in
theorem rbB (f : So) (hA : f.all RsT) (hz : f.len ≤ 1099511627776) (n : Nat) (hn : n ≤ 100) (hd : Bdk f n) (S : Nat → Prop) (pp : Option Addr) (qq : Nat) (w : World) (hT : SlS w S (.slice pp f.len qq) f) :
  Calls Tryz.prog 27 #[.slice pp f.len qq, .int .i64 (n : Int)] w fun r w' => r = .returned (.bool true) ∧ Below w.heap.size w w' := by
 obtain ⟨m, hm0⟩ : ∃ m, f.len = m := ⟨_, rfl⟩
 rw [hm0] at hT hz ⊢
 have hm' : Hid (f.len = m) := hm0
 have hA' : Hid (f.all RsT) := hA
 have hT' : Hid (SlS w S (.slice pp m qq) f) := hT
 have hm40 : Hid (m ≤ 1099511627776 ∧ n ≤ 100 ∧ Bdk f n) := ⟨hz, hn, hd⟩
 have hc : m = 0 ∨ 0 < m ∧ n ≤ 24 := by
  rcases hd with h | h
  ·left; rw [← hm0, h]; rfl
  ·by_cases c : m = 0
   ·exact Or.inl c
   ·right
    refine ⟨by omega, ?_⟩
    cases f with
    | nil => rw [← hm0] at c; exact absurd rfl c
    | cons _ _ _ _ _ _ t e r =>
     have h' : n + max (max t.bd e.bd + 1) r.bd ≤ 25 := h
     omega
 clear hm0 hA hT hz hn hd
 go_enter Tryz.func27, Tryz.ntmps27
 rcases hc with rfl | ⟨m0, hn24⟩
 ·go_upto_region 4 with fail
  refine wp_loop_rounds 1 ?_
  rw [rounds_succ]
  go_wp2_with fail
  go_ret
  exact ⟨rfl, Below.refl _ _⟩
 ·have d1 : decide ((0 : Int) < (m : Int)) = true := decide_eq_true (by omega)
  have d2 : decide ((24 : Int) < (n : Int)) = false := decide_eq_false (by omega)
  have d3 : ¬ (24 : Int) < (n : Int) := by omega
  have d4 : ¬ 24 < n := by omega
  go_upto_region 4 with fail
  clear d1 d2 d3 d4
  go_loopw [5] (fun i wr => ∃ (j : Nat) (V : World), i = .int .i64 j ∧ V = wr ∧ Hid (Below w.heap.size w V) ∧ j ≤ m) (fun i _ => m - (intOf i).toNat)
  case atStart => exact ⟨0, w, rfl, rfl, Below.refl _ _, by omega⟩
  case round =>
   obtain ⟨j, V, rfl, e, gV, hj⟩ := hrel
   subst e
   have b40 := hm40.out
   by_cases cj : j < m
   ·have cj' : (j : Int) < (m : Int) := by omega
    obtain ⟨s, hf⟩ := So.drop_at (f := f) (j := j) (by rw [hm'.out]; exact cj)
    have hal := So.all_drop j hA'.out
    have hbd := So.bd_drop f j
    rw [hf] at hal hbd
    have hbd' : max (max s.thn.bd s.els.bd + 1) (f.drop (j + 1)).bd ≤ f.bd := hbd
    have hfn : n + f.bd ≤ 25 := b40.2.2.resolve_left (fun h => by have := hm'.out; rw [h] at this; simp [So.len] at this; omega)
    have hTT := hT'.out.kp (Below.kp gV.out _)
    obtain ⟨p2', q2', e2, hT⟩ := hTT
    obtain ⟨rfl, e4, rfl⟩ := Value.slice.inj e2
    clear e2 e4
    rcases hT with hT | ⟨c, u, rfl, hT⟩
    ·exfalso; have := hm'.out; rw [hT] at this; simp [So.len] at this; omega
    have hTj := SoAt.drop j hT
    rw [hf] at hTj
    obtain ⟨lc, p0, q0, p1, q1, p2, q2, p3, q3, p4, q4, p5, q5, sT, k0, k1, k2, k3, k4, k5, k6, k7, k8, k9, k10, k11, k12, k13, k14, k15, k16⟩ := hTj.cells
    have kS := (show RsT s from hal.1) n S p0 q0 p1 q1 p2 q2 p3 q3 p4 q4 p5 q5 V hn24 (Or.inr (by omega)) (Or.inr (by omega)) sT
    have ix := so_ix c u m qq j cj
    have wj : IntKind.i64.wrap ((j : Int) + 1) = ((j + 1 : Nat) : Int) := by rw [IntKind.wrap_i64]; omega
    generalize u + j * 17 = o at *
    obtain ⟨CSA, hCSA⟩ : ∃ CS : List Value, [.int .i64 s.dO, .string s.name, .slice p0 s.index.len q0, .int .i64 s.value.op, .string s.value.tx, .int .i64 s.value.ty, .slice p1 s.value.ks.len q1, .int .i64 s.low.op, .string s.low.tx, .int .i64 s.low.ty, .slice p2 s.low.ks.len q2, .int .i64 s.high.op, .string s.high.tx, .int .i64 s.high.ty, .slice p3 s.high.ks.len q3, .slice p4 s.thn.len q4, .slice p5 s.els.len q5] = CS := ⟨_, rfl⟩
    have hlA : CSA.length = 17 := by rw [← hCSA]; rfl
    have h1A : ∀ v ∈ CSA, v.oneCell' = true := by
     rw [← hCSA]
     intro v hv
     simp only [List.mem_cons, List.not_mem_nil, or_false] at hv
     rcases hv with rfl | rfl | rfl | rfl | rfl | rfl | rfl | rfl | rfl | rfl | rfl | rfl | rfl | rfl | rfl | rfl | rfl <;> rfl
    have kcA : V.rangeAt c o CSA := by
     rw [← hCSA]
     intro jj v hv
     match jj, hv with
     | 0, hv => obtain rfl := Option.some.inj hv; exact k0
     | 1, hv => obtain rfl := Option.some.inj hv; exact k1
     | 2, hv => obtain rfl := Option.some.inj hv; exact k2
     | 3, hv => obtain rfl := Option.some.inj hv; exact k3
     | 4, hv => obtain rfl := Option.some.inj hv; exact k4
     | 5, hv => obtain rfl := Option.some.inj hv; exact k5
     | 6, hv => obtain rfl := Option.some.inj hv; exact k6
     | 7, hv => obtain rfl := Option.some.inj hv; exact k7
     | 8, hv => obtain rfl := Option.some.inj hv; exact k8
     | 9, hv => obtain rfl := Option.some.inj hv; exact k9
     | 10, hv => obtain rfl := Option.some.inj hv; exact k10
     | 11, hv => obtain rfl := Option.some.inj hv; exact k11
     | 12, hv => obtain rfl := Option.some.inj hv; exact k12
     | 13, hv => obtain rfl := Option.some.inj hv; exact k13
     | 14, hv => obtain rfl := Option.some.inj hv; exact k14
     | 15, hv => obtain rfl := Option.some.inj hv; exact k15
     | 16, hv => obtain rfl := Option.some.inj hv; exact k16
     | n + 17, hv => cases hv
    have kS9 : Calls Tryz.prog 47 #[.agg CSA.toArray, .int .i64 (n : Int)] V fun r w' => r = .returned (.bool true) ∧ Below V.heap.size V w' := by rw [← hCSA]; exact kS
    clear kS k0 k1 k2 k3 k4 k5 k6 k7 k8 k9 k10 k11 k12 k13 k14 k15 k16 hCSA h1A
    clear hTj hT hal lc hf hbd hbd' hfn b40 sT
    go_upto_region 6 with fail
    refine wp_region_list ?_
    refine Eq.mpr (if_pos (by rfl)) (Or.inl ?_)
    refine wp_move_by (.tmp 0) rfl _ rfl ?_
    simp only [Act.put, List.setIfInBounds_toArray, List.set_cons_zero, List.set_cons_succ]
    refine Eq.mpr (if_pos (by rfl)) (Or.inl ?_)
    refine wp_move_by (.tmp 5) rfl _ rfl ?_
    simp only [Act.put, List.setIfInBounds_toArray, List.set_cons_zero, List.set_cons_succ]
    refine Eq.mpr (if_pos (by rfl)) (Or.inl ?_)
    refine wp_index_by 23 (.tmp 19) (.tmp 20) rfl _ _ _ rfl rfl (ix _) ?_
    simp only [Act.put, List.setIfInBounds_toArray, List.set_cons_zero, List.set_cons_succ]
    refine Eq.mpr (if_pos (by rfl)) (Or.inl ?_)
    refine wp_load_by 87 (.tmp 21) rfl _ _ rfl (ld17o kcA hlA) ?_
    simp only [Act.put, List.setIfInBounds_toArray, List.set_cons_zero, List.set_cons_succ]
    clear kcA hlA ix
    go_wp2_with (first
     | (go_at_call 47; (refine kS9.mono ?_); rintro e v1 ⟨rfl, g3⟩)
     | fail)
    exact ⟨⟨j + 1, v1, by go_num, rfl, pb_call gV.out g3, by omega⟩, by simp [intOf]; omega⟩
   ·obtain rfl : j = m := by omega
    have nn : ¬ ((j : Int) < (j : Int)) := by omega
    have g' := gV.out
    go_wp2_with fail
    go_ret
    exact ⟨rfl, g'⟩
end Go.Proofs.YtknoibocpbfmmaaGreatDoor



