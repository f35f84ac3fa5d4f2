/- plumblineref05: how many expressions statements have, where none is none. -/
import Derived.Test.YtknoibocpbfmmaaGreatDoorWG26
import Derived.Test.YtknoibocpbfmmaaGreatDoorWG25
import Derived.Test.YtknoibocpbfmmaaGreatDoorWWpI
namespace Go.Proofs.YtknoibocpbfmmaaGreatDoor
open Go.RowKit
set_option linter.unusedVariables false
set_option linter.unusedSimpArgs false
theorem rnone_any (e : Ex) (h : NoY e) (pp : Option Addr) (qq : Nat) (w : World) : Calls Tryz.prog 46 #[.agg #[.int .i64 e.op, .string e.tx, .int .i64 e.ty, .slice pp e.ks.len qq]] w fun r w' => r = .returned (.bool (decide (e.op = 0))) ∧ Below w.heap.size w w' := by
 rcases h with h | rfl
 ·rw [decide_eq_false h]
  exact rnone_no e.op h e.tx e.ty pp e.ks.len qq w
 ·exact rnone_yes pp qq w
theorem nc_yes {e : Ex} (h : decide (e.op = 0) = true) : e.nc = 0 := by
 unfold Ex.nc; rw [if_pos (of_decide_eq_true h)]
theorem nc_no {e : Ex} (h : decide (e.op = 0) = false) : e.nc = e.ks.cnt + 1 := by
 unfold Ex.nc; rw [if_neg (of_decide_eq_false h)]
/-- One of three in a block. -/
theorem one_cnt (e : Ex) (hz : decide (e.op = 0) = false) (hx : SxA e) (hc : e.nc ≤ 4096) {S : Nat → Prop} {Y : World} {b o qq : Nat} {p : Option Addr} {q : Nat} (c0 : Y.cell? ⟨b, o, none⟩ = some (.int .i64 e.op)) (c1 : Y.cell? ⟨b, o + 1, none⟩ = some (.string e.tx)) (c2 : Y.cell? ⟨b, o + 2, none⟩ = some (.int .i64 e.ty)) (c3 : Y.cell? ⟨b, o + 3, none⟩ = some (.slice p e.ks.len q)) (t : SlF Y S (.slice p e.ks.len q) e.ks) :
  Calls Tryz.prog 42 #[.slice (some ⟨b, o, none⟩) 1 qq, .int .i64 4096] Y fun r w' => r = .returned (.int .i64 (e.nc : Int)) ∧ Below Y.heap.size Y w' := by
 have n := nc_no hz
 have c : (e.row .nil).cnt = e.ks.cnt + 1 + 0 := rfl
 rw [n]
 have u := t.lo (lo' := fun _ => True) (fun _ _ => trivial)
 obtain ⟨a1, b1, e1, k1⟩ := u
 obtain ⟨rfl, _, rfl⟩ := Value.slice.inj e1
 have k := xsF (e.row .nil) ⟨hx, trivial⟩ (by show (1 : Nat) ≤ _; omega) 4096 (by omega) (by omega) (fun _ => True) (some ⟨b, o, none⟩) qq Y ⟨_, qq, rfl, Or.inr ⟨b, o, rfl, trivial, c0, c1, c2, ⟨p, q, c3, k1⟩, trivial⟩⟩
 rw [c] at k
 exact k
def ScB (f : So) : Prop := ∀ (S : Nat → Prop) (pp : Option Addr) (qq : Nat) (w : World), f.ct ≤ 4096 → SlS w S (.slice pp f.len qq) f →
 Calls Tryz.prog 26 #[.slice pp f.len qq] w fun r w' => r = .returned (.int .i64 ((f.ct : Nat) : Int)) ∧ Below w.heap.size w w'
def ScT (s : St) : Prop := SxT s ∧ (NoY s.value ∧ NoY s.low ∧ NoY s.high) ∧ ScB s.thn ∧ ScB s.els
def pre3 (x y z : Nat) : Nat → Nat
 | 0 => 0
 | 1 => x
 | 2 => x + y
 | _ => x + y + z
set_option maxRecDepth 100000 in
set_option maxHeartbeats 6400000 in
theorem scS (f : So) (hA : f.all ScT) (hz : f.len ≤ 1099511627776) : ScB f := by
 intro S pp qq w hm hT
 obtain ⟨C, hC⟩ : ∃ C, f.ct = C := ⟨_, rfl⟩
 rw [hC] at hm ⊢
 obtain ⟨m, hm0⟩ : ∃ m, f.len = m := ⟨_, rfl⟩
 rw [hm0] at hT hz ⊢
 have hm' : Hid (f.len = m) := hm0
 have hA' : Hid (f.all ScT) := hA
 have hT' : Hid (SlS w S (.slice pp m qq) f) := hT
 have hm40 : Hid (m ≤ 1099511627776 ∧ C ≤ 4096) := ⟨hz, hm⟩
 have hI : Hid (0 + (f.drop 0).ct = C) := by show 0 + f.ct = C; rw [Nat.zero_add]; exact hC
 clear hm0 hA hT hz hm hC
 go_enter Tryz.func26, Tryz.ntmps26
 go_upto_region 3 with fail
 go_loopw [4, 3] (fun i n wr => ∃ (j a : Nat) (V : World), i = .int .i64 j ∧ n = .int .i64 (a : Int) ∧ V = wr ∧ Hid (Below w.heap.size w V) ∧ Hid (a + (f.drop j).ct = C) ∧ j ≤ m) (fun i _ _ => m - (intOf i).toNat)
 case atStart => exact ⟨0, 0, w, rfl, rfl, rfl, Below.refl _ _, hI, by omega⟩
 case round =>
  clear hI
  obtain ⟨j, a, V, rfl, rfl, e, gV, hI, hj⟩ := hrel
  subst e
  have hq := hI.out
  have b40 := hm40.out
  by_cases cj : j < m
  ·have cj' : (j : Int) < (m : Int) := by omega
   obtain ⟨s, hf⟩ := So.drop_at (f := f) (j := j) (by rw [hm'.out]; exact cj)
   have hal := So.all_drop j hA'.out
   rw [hf] at hal hq
   rw [So.row_ct] at hq
   have hTT := hT'.out.kp (Below.kp gV.out _)
   obtain ⟨p2', q2', e2, hT⟩ := hTT
   obtain ⟨rfl, e4, rfl⟩ := Value.slice.inj e2
   clear e2 e4
   rcases hT with hT | ⟨c, u, rfl, hT⟩
   ·exfalso; have := hm'.out; rw [hT] at this; simp [So.len] at this; omega
   have hTj := SoAt.drop j hT
   rw [hf] at hTj
   obtain ⟨lc, p0, q0, p1, q1, p2, q2, p3, q3, p4, q4, p5, q5, sT, k0, k1, k2, k3, k4, k5, k6, k7, k8, k9, k10, k11, k12, k13, k14, k15, k16⟩ := hTj.cells
   obtain ⟨t0, t1, t2, t3, t4, t5⟩ := sT
   obtain ⟨⟨hx, lx, hv, hlo, hhi⟩, ⟨o1, o2, o3⟩, hSt, hSe⟩ : ScT s := hal.1
   obtain ⟨nx, hnx⟩ : ∃ n, s.index.cnt = n := ⟨_, rfl⟩
   obtain ⟨n1, hn1⟩ : ∃ n, s.value.nc = n := ⟨_, rfl⟩
   obtain ⟨n2, hn2⟩ : ∃ n, s.low.nc = n := ⟨_, rfl⟩
   obtain ⟨n3, hn3⟩ : ∃ n, s.high.nc = n := ⟨_, rfl⟩
   obtain ⟨nt, hnt⟩ : ∃ n, s.thn.ct = n := ⟨_, rfl⟩
   obtain ⟨ne, hne⟩ : ∃ n, s.els.ct = n := ⟨_, rfl⟩
   rw [hnx, hn1, hn2, hn3, hnt, hne] at hq
   have kX : ∀ Y, Below V.heap.size V Y → Calls Tryz.prog 42 #[.slice p0 s.index.len q0, .int .i64 4096] Y fun r w' => r = .returned (.int .i64 (nx : Int)) ∧ Below Y.heap.size Y w' := fun Y g => by
    rw [← hnx]; exact xsF s.index hx lx 4096 (by omega) (by omega) S p0 q0 Y (t0.kp (Below.kp g _))
   have kN1 := fun Y => rnone_any s.value o1 p1 q1 Y
   have kN2 := fun Y => rnone_any s.low o2 p2 q2 Y
   have kN3 := fun Y => rnone_any s.high o3 p3 q3 Y
   have y1 : decide (s.value.op = 0) = true → n1 = 0 := fun h => hn1 ▸ nc_yes h
   have y2 : decide (s.low.op = 0) = true → n2 = 0 := fun h => hn2 ▸ nc_yes h
   have y3 : decide (s.high.op = 0) = true → n3 = 0 := fun h => hn3 ▸ nc_yes h
   have kP1 : decide (s.value.op = 0) = false → ∀ Y b, Below V.heap.size V Y → Y.cell? ⟨b, 0, none⟩ = some (.int .i64 s.value.op) → Y.cell? ⟨b, 1, none⟩ = some (.string s.value.tx) → Y.cell? ⟨b, 2, none⟩ = some (.int .i64 s.value.ty) → Y.cell? ⟨b, 3, none⟩ = some (.slice p1 s.value.ks.len q1) → Calls Tryz.prog 42 #[.slice (some ⟨b, 0, none⟩) 1 3, .int .i64 4096] Y fun r w' => r = .returned (.int .i64 (n1 : Int)) ∧ Below Y.heap.size Y w' := fun hz Y b g x0 x1 x2 x3 => by
    rw [← hn1]; exact one_cnt s.value hz hv (by omega) x0 x1 x2 x3 (t1.kp (Below.kp g _))
   have kP2 : decide (s.low.op = 0) = false → ∀ Y b, Below V.heap.size V Y → Y.cell? ⟨b, 4, none⟩ = some (.int .i64 s.low.op) → Y.cell? ⟨b, 5, none⟩ = some (.string s.low.tx) → Y.cell? ⟨b, 6, none⟩ = some (.int .i64 s.low.ty) → Y.cell? ⟨b, 7, none⟩ = some (.slice p2 s.low.ks.len q2) → Calls Tryz.prog 42 #[.slice (some ⟨b, 4, none⟩) 1 2, .int .i64 4096] Y fun r w' => r = .returned (.int .i64 (n2 : Int)) ∧ Below Y.heap.size Y w' := fun hz Y b g x0 x1 x2 x3 => by
    rw [← hn2]; exact one_cnt s.low hz hlo (by omega) x0 x1 x2 x3 (t2.kp (Below.kp g _))
   have kP3 : decide (s.high.op = 0) = false → ∀ Y b, Below V.heap.size V Y → Y.cell? ⟨b, 8, none⟩ = some (.int .i64 s.high.op) → Y.cell? ⟨b, 9, none⟩ = some (.string s.high.tx) → Y.cell? ⟨b, 10, none⟩ = some (.int .i64 s.high.ty) → Y.cell? ⟨b, 11, none⟩ = some (.slice p3 s.high.ks.len q3) → Calls Tryz.prog 42 #[.slice (some ⟨b, 8, none⟩) 1 1, .int .i64 4096] Y fun r w' => r = .returned (.int .i64 (n3 : Int)) ∧ Below Y.heap.size Y w' := fun hz Y b g x0 x1 x2 x3 => by
    rw [← hn3]; exact one_cnt s.high hz hhi (by omega) x0 x1 x2 x3 (t3.kp (Below.kp g _))
   have kA0 : ∀ Y, Below V.heap.size V Y → Calls Tryz.prog 26 #[.slice p4 s.thn.len q4] Y fun r w' => r = .returned (.int .i64 (nt : Int)) ∧ Below Y.heap.size Y w' := fun Y g => by rw [← hnt]; exact hSt S p4 q4 Y (by omega) (t4.kp (Below.kp g _))
   have kB0 : ∀ Y, Below V.heap.size V Y → Calls Tryz.prog 26 #[.slice p5 s.els.len q5] Y fun r w' => r = .returned (.int .i64 (ne : Int)) ∧ Below Y.heap.size Y w' := fun Y g => by rw [← hne]; exact hSe S p5 q5 Y (by omega) (t5.kp (Below.kp g _))
   generalize decide (s.value.op = 0) = zz1 at *
   generalize decide (s.low.op = 0) = zz2 at *
   generalize decide (s.high.op = 0) = zz3 at *
   have ix := so_ix c u m qq j cj
   have wj : IntKind.i64.wrap ((j : Int) + 1) = ((j + 1 : Nat) : Int) := by rw [IntKind.wrap_i64]; omega
   have w1 : IntKind.i64.wrap ((a : Int) + (nx : Int)) = (a : Int) + (nx : Int) := by rw [IntKind.wrap_i64]; omega
   have b60 : Hid (a + nx + n1 + n2 + n3 + nt + ne + (f.drop (j + 1)).ct = C ∧ C ≤ 4096) := ⟨by omega, b40.2⟩
   have cV : c < V.heap.size := World.block_lt_of_cell? V _ k0
   generalize u + j * 17 = o at *
   obtain ⟨CSA, hCSA⟩ : ∃ CS : List Value, [.int .i64 s.dO, .string s.name, .slice p0 s.index.len q0, .int .i64 s.value.op, .string s.value.tx, .int .i64 s.value.ty, .slice p1 s.value.ks.len q1, .int .i64 s.low.op, .string s.low.tx, .int .i64 s.low.ty, .slice p2 s.low.ks.len q2, .int .i64 s.high.op, .string s.high.tx, .int .i64 s.high.ty, .slice p3 s.high.ks.len q3, .slice p4 s.thn.len q4, .slice p5 s.els.len q5] = CS := ⟨_, rfl⟩
   have hlA : CSA.length = 17 := by rw [← hCSA]; rfl
   have h1A : ∀ v ∈ CSA, v.oneCell' = true := by
    rw [← hCSA]
    intro v hv
    simp only [List.mem_cons, List.not_mem_nil, or_false] at hv
    rcases hv with rfl | rfl | rfl | rfl | rfl | rfl | rfl | rfl | rfl | rfl | rfl | rfl | rfl | rfl | rfl | rfl | rfl <;> rfl
   have kcA : V.rangeAt c o CSA := by
    rw [← hCSA]
    intro jj v hv
    match jj, hv with
    | 0, hv => obtain rfl := Option.some.inj hv; exact k0
    | 1, hv => obtain rfl := Option.some.inj hv; exact k1
    | 2, hv => obtain rfl := Option.some.inj hv; exact k2
    | 3, hv => obtain rfl := Option.some.inj hv; exact k3
    | 4, hv => obtain rfl := Option.some.inj hv; exact k4
    | 5, hv => obtain rfl := Option.some.inj hv; exact k5
    | 6, hv => obtain rfl := Option.some.inj hv; exact k6
    | 7, hv => obtain rfl := Option.some.inj hv; exact k7
    | 8, hv => obtain rfl := Option.some.inj hv; exact k8
    | 9, hv => obtain rfl := Option.some.inj hv; exact k9
    | 10, hv => obtain rfl := Option.some.inj hv; exact k10
    | 11, hv => obtain rfl := Option.some.inj hv; exact k11
    | 12, hv => obtain rfl := Option.some.inj hv; exact k12
    | 13, hv => obtain rfl := Option.some.inj hv; exact k13
    | 14, hv => obtain rfl := Option.some.inj hv; exact k14
    | 15, hv => obtain rfl := Option.some.inj hv; exact k15
    | 16, hv => obtain rfl := Option.some.inj hv; exact k16
    | n + 17, hv => cases hv
   clear k0 k1 k2 k3 k4 k5 k6 k7 k8 k9 k10 k11 k12 k13 k14 k15 k16
   clear hTj hT hal lc hf hq hI b40 t0 t1 t2 t3 t4 t5 hx lx hv hlo hhi hSt hSe hnx hn1 hn2 hn3 hnt hne o1 o2 o3
   have g1 := pb_new (Below.refl V.heap.size V) (.cells CSA.toArray 87)
   have qX := World.alloc_heap_new V (.cells CSA.toArray 87)
   obtain ⟨X, hX⟩ : ∃ X, V.alloc (.cells CSA.toArray 87) = X := ⟨_, rfl⟩
   rw [hX] at g1 qX
   obtain ⟨b8, hb8⟩ : ∃ b, V.heap.size = b := ⟨_, rfl⟩
   rw [hb8] at qX
   have snA := sn17 V hlA h1A
   have hX' : Hid (V.alloc (.cells CSA.toArray 87) = X) := hX
   have hb8' : Hid (V.heap.size = b8) := hb8
   have gVX : Hid (Below V.heap.size V X) := g1
   clear hX hb8 g1 cV
   go_upto_region 5 with fail
   refine wp_region_list ?_
   refine Eq.mpr (if_pos (by rfl)) (Or.inl ?_)
   refine wp_move_by (.tmp 0) rfl _ rfl ?_
   simp only [Act.put, List.setIfInBounds_toArray, List.set_cons_zero, List.set_cons_succ]
   refine Eq.mpr (if_pos (by rfl)) (Or.inl ?_)
   refine wp_move_by (.tmp 4) rfl _ rfl ?_
   simp only [Act.put, List.setIfInBounds_toArray, List.set_cons_zero, List.set_cons_succ]
   refine Eq.mpr (if_pos (by rfl)) (Or.inl ?_)
   refine wp_index_by 23 (.tmp 14) (.tmp 15) rfl _ _ _ rfl rfl (ix _) ?_
   simp only [Act.put, List.setIfInBounds_toArray, List.set_cons_zero, List.set_cons_succ]
   refine Eq.mpr (if_pos (by rfl)) (Or.inl ?_)
   refine wp_load_by 87 (.tmp 16) rfl _ _ rfl (ld17o kcA hlA) ?_
   simp only [Act.put, List.setIfInBounds_toArray, List.set_cons_zero, List.set_cons_succ]
   refine Eq.mpr (if_pos (by rfl)) (Or.inl ?_)
   refine wp_alloc_by 87 rfl _ (al17 _) ?_
   simp only [Act.put, List.setIfInBounds_toArray, List.set_cons_zero, List.set_cons_succ]
   refine Eq.mpr (if_pos (by rfl)) (Or.inl ?_)
   refine wp_store_by 87 (.tmp 5) (.tmp 17) rfl _ _ rfl rfl snA ?_
   simp only [Act.put, List.setIfInBounds_toArray, List.set_cons_zero, List.set_cons_succ]
   rw [hX'.out]
   (try rw [hb8'.out])
   clear snA hX' kcA h1A ix hb8'
   rw [← hCSA] at qX
   obtain ⟨f0, f1, f2, f3, f4, f5, f6, f7, f8, f9, f10, f11, f12, f13, f14, f15, f16, ff⟩ := c17 (show X.heap[b8]? = some (.cells #[.int .i64 s.dO, .string s.name, .slice p0 s.index.len q0, .int .i64 s.value.op, .string s.value.tx, .int .i64 s.value.ty, .slice p1 s.value.ks.len q1, .int .i64 s.low.op, .string s.low.tx, .int .i64 s.low.ty, .slice p2 s.low.ks.len q2, .int .i64 s.high.op, .string s.high.tx, .int .i64 s.high.ty, .slice p3 s.high.ks.len q3, .slice p4 s.thn.len q4, .slice p5 s.els.len q5] 87 (0, 0)) from qX)
   clear qX ff hCSA hlA f0 f1
   generalize s.index.len = l0 at *
   generalize s.thn.len = l4 at *
   generalize s.els.len = l5 at *
   generalize s.value.ks.len = l1 at *
   generalize s.low.ks.len = l2 at *
   generalize s.high.ks.len = l3 at *
   generalize s.value.op = a0 at *
   generalize s.value.tx = a1 at *
   generalize s.value.ty = a2 at *
   generalize s.low.op = b0 at *
   generalize s.low.tx = b1 at *
   generalize s.low.ty = b2 at *
   generalize s.high.op = c0 at *
   generalize s.high.tx = c1 at *
   generalize s.high.ty = c2 at *
   have hall : ∀ Y, Below X.heap.size X Y → (Y.cell? ⟨b8, 3, none⟩ = some (.int .i64 a0) ∧ Y.cell? ⟨b8, 4, none⟩ = some (.string a1) ∧ Y.cell? ⟨b8, 5, none⟩ = some (.int .i64 a2) ∧ Y.cell? ⟨b8, 6, none⟩ = some (.slice p1 l1 q1) ∧ Y.cell? ⟨b8, 7, none⟩ = some (.int .i64 b0) ∧ Y.cell? ⟨b8, 8, none⟩ = some (.string b1) ∧ Y.cell? ⟨b8, 9, none⟩ = some (.int .i64 b2) ∧ Y.cell? ⟨b8, 10, none⟩ = some (.slice p2 l2 q2) ∧ Y.cell? ⟨b8, 11, none⟩ = some (.int .i64 c0) ∧ Y.cell? ⟨b8, 12, none⟩ = some (.string c1) ∧ Y.cell? ⟨b8, 13, none⟩ = some (.int .i64 c2) ∧ Y.cell? ⟨b8, 14, none⟩ = some (.slice p3 l3 q3) ∧ Y.cell? ⟨b8, 15, none⟩ = some (.slice p4 l4 q4) ∧ Y.cell? ⟨b8, 16, none⟩ = some (.slice p5 l5 q5)) := fun Y g => ⟨pb_cell g f3, pb_cell g f4, pb_cell g f5, pb_cell g f6, pb_cell g f7, pb_cell g f8, pb_cell g f9, pb_cell g f10, pb_cell g f11, pb_cell g f12, pb_cell g f13, pb_cell g f14, pb_cell g f15, pb_cell g f16⟩
   have bX := Below.refl X.heap.size X
   go_upto_region 7 with (first
    | (go_at_call 42; (refine (kX _ gVX.out).mono ?_); rintro e v1 ⟨rfl, g3⟩)
    | fail)
   replace bX := pb_call bX g3
   clear f2 f3 f4 f5 f6 f7 f8 f9 f10 f11 f12 f13 f14 f15 f16 kX g3
   obtain ⟨f3, f4, f5, f6, f7, f8, f9, f10, f11, f12, f13, f14, f15, f16⟩ := hall _ bX
   have qT := World.alloc_heap_new v1 (.cells #[.int .i64 a0, .string a1, .int .i64 a2, .slice p1 l1 q1, .int .i64 b0, .string b1, .int .i64 b2, .slice p2 l2 q2, .int .i64 c0, .string c1, .int .i64 c2, .slice p3 l3 q3] 85)
   have gT := pb_new (Below.refl v1.heap.size v1) (.cells #[.int .i64 a0, .string a1, .int .i64 a2, .slice p1 l1 q1, .int .i64 b0, .string b1, .int .i64 b2, .slice p2 l2 q2, .int .i64 c0, .string c1, .int .i64 c2, .slice p3 l3 q3] 85)
   obtain ⟨T, hT⟩ : ∃ X, v1.alloc (.cells #[.int .i64 a0, .string a1, .int .i64 a2, .slice p1 l1 q1, .int .i64 b0, .string b1, .int .i64 b2, .slice p2 l2 q2, .int .i64 c0, .string c1, .int .i64 c2, .slice p3 l3 q3] 85) = X := ⟨_, rfl⟩
   obtain ⟨bb, hbb⟩ : ∃ b, v1.heap.size = b := ⟨_, rfl⟩
   rw [hT] at qT gT
   rw [hbb] at qT
   go_upto_region 8 with fail
   (try rw [hT])
   (try rw [hbb])
   replace bX := pb_call bX gT
   clear f3 f4 f5 f6 f7 f8 f9 f10 f11 f12 f13 f14 f15 f16 hT hbb gT
   obtain ⟨f3, f4, f5, f6, f7, f8, f9, f10, f11, f12, f13, f14, f15, f16⟩ := hall _ bX
   clear f3 f4 f5 f6 f7 f8 f9 f10 f11 f12 f13 f14 hall
   have gVT : Hid (Below V.heap.size V T) := pb_call gVX.out bX
   have hal2 : ∀ Y, Below T.heap.size T Y → (Y.cell? ⟨bb, 0, none⟩ = some (.int .i64 a0) ∧ Y.cell? ⟨bb, 1, none⟩ = some (.string a1) ∧ Y.cell? ⟨bb, 2, none⟩ = some (.int .i64 a2) ∧ Y.cell? ⟨bb, 3, none⟩ = some (.slice p1 l1 q1) ∧ Y.cell? ⟨bb, 4, none⟩ = some (.int .i64 b0) ∧ Y.cell? ⟨bb, 5, none⟩ = some (.string b1) ∧ Y.cell? ⟨bb, 6, none⟩ = some (.int .i64 b2) ∧ Y.cell? ⟨bb, 7, none⟩ = some (.slice p2 l2 q2) ∧ Y.cell? ⟨bb, 8, none⟩ = some (.int .i64 c0) ∧ Y.cell? ⟨bb, 9, none⟩ = some (.string c1) ∧ Y.cell? ⟨bb, 10, none⟩ = some (.int .i64 c2) ∧ Y.cell? ⟨bb, 11, none⟩ = some (.slice p3 l3 q3)) := fun Y g => ⟨pb_cell g (by simp [World.cell?, qT]), pb_cell g (by simp [World.cell?, qT]), pb_cell g (by simp [World.cell?, qT]), pb_cell g (by simp [World.cell?, qT]), pb_cell g (by simp [World.cell?, qT]), pb_cell g (by simp [World.cell?, qT]), pb_cell g (by simp [World.cell?, qT]), pb_cell g (by simp [World.cell?, qT]), pb_cell g (by simp [World.cell?, qT]), pb_cell g (by simp [World.cell?, qT]), pb_cell g (by simp [World.cell?, qT]), pb_cell g (by simp [World.cell?, qT])⟩
   have kQ1 := fun hz Y (g : Below T.heap.size T Y) => kP1 hz Y bb (pb_call gVT.out g) (hal2 Y g).1 (hal2 Y g).2.1 (hal2 Y g).2.2.1 (hal2 Y g).2.2.2.1
   have kQ2 := fun hz Y (g : Below T.heap.size T Y) => kP2 hz Y bb (pb_call gVT.out g) (hal2 Y g).2.2.2.2.1 (hal2 Y g).2.2.2.2.2.1 (hal2 Y g).2.2.2.2.2.2.1 (hal2 Y g).2.2.2.2.2.2.2.1
   have kQ3 := fun hz Y (g : Below T.heap.size T Y) => kP3 hz Y bb (pb_call gVT.out g) (hal2 Y g).2.2.2.2.2.2.2.2.1 (hal2 Y g).2.2.2.2.2.2.2.2.2.1 (hal2 Y g).2.2.2.2.2.2.2.2.2.2.1 (hal2 Y g).2.2.2.2.2.2.2.2.2.2.2
   clear kP1 kP2 kP3 qT
   obtain ⟨A0, hA0⟩ : ∃ n, a + nx = n := ⟨_, rfl⟩
   have eA0 : (a : Int) + (nx : Int) = (A0 : Int) := by omega
   rw [hA0] at b60
   rw [eA0]
   go_upto_region 9 with fail
   go_loopw [7, 3] (fun k n wr => ∃ (jj aa : Nat) (V3 : World), k = .int .i64 jj ∧ n = .int .i64 (aa : Int) ∧ V3 = wr ∧ Hid (Below T.heap.size T V3) ∧ Hid (aa = A0 + pre3 n1 n2 n3 jj) ∧ jj ≤ 3) (fun k _ _ => 3 - (intOf k).toNat)
   case atStart => exact ⟨0, A0, T, rfl, rfl, rfl, Below.refl _ _, rfl, by omega⟩
   case round =>
    obtain ⟨jj, aa, V3, rfl, rfl, e, gT3, hq3, hj3⟩ := hrel
    subst e
    have bT := gT3.out
    by_cases j0 : jj = 0
    ·subst j0
     obtain rfl : A0 = aa := by have := hq3.out; simp only [pre3] at this; omega
     obtain ⟨z0, z1, z2, z3⟩ := hal2 V3 bT
     have ix := ex_ix bb 0 3 3 0 (by decide)
     simp only [Nat.zero_mul, Nat.one_mul, Nat.zero_add, Nat.reduceMul] at ix
     have wk : IntKind.i64.wrap ((0 : Int) + 1) = 1 := by rw [IntKind.wrap_i64]; omega
     cases hz : zz1 with
     | true =>
      obtain rfl : n1 = 0 := y1 hz
      rw [hz] at kN1
      go_wp2_with (first
       | (go_at_call 46; (refine (kN1 _).mono ?_); rintro e v4 ⟨rfl, g5⟩)
       | fail)
      exact ⟨⟨1, _, v4, by go_num, rfl, rfl, pb_call bT g5, by show _ = _; simp only [pre3] <;> omega, by omega⟩, by simp [intOf]⟩
     | false =>
      rw [hz] at kN1
      go_upto_region 12 with (first
       | (go_at_call 46; (refine (kN1 _).mono ?_); rintro e v4 ⟨rfl, g5⟩)
       | fail)
      have w9 : IntKind.i64.wrap (((A0 : Int)) + (n1 : Int)) = (A0 : Int) + (n1 : Int) := by have := b60.out; rw [IntKind.wrap_i64]; omega
      go_wp2_with (first
       | (go_at_call 42; (refine (kQ1 hz _ (pb_call bT g5)).mono ?_); rintro e v5 ⟨rfl, g6⟩)
       | fail)
      exact ⟨⟨1, A0 + n1, v5, by go_num, by first | rfl | go_num, rfl, pb_call bT (pb_call g5 g6), by show _ = _; simp only [pre3] <;> omega, by omega⟩, by simp [intOf]⟩
    by_cases j1 : jj = 1
    ·subst j1
     obtain rfl : aa = A0 + n1 := by have := hq3.out; simp only [pre3] at this; omega
     obtain ⟨z0, z1, z2, z3⟩ := hal2 V3 bT
     have ix := ex_ix bb 0 3 3 1 (by decide)
     simp only [Nat.zero_mul, Nat.one_mul, Nat.zero_add, Nat.reduceMul] at ix
     have wk : IntKind.i64.wrap ((1 : Int) + 1) = 2 := by rw [IntKind.wrap_i64]; omega
     cases hz : zz2 with
     | true =>
      obtain rfl : n2 = 0 := y2 hz
      rw [hz] at kN2
      go_wp2_with (first
       | (go_at_call 46; (refine (kN2 _).mono ?_); rintro e v4 ⟨rfl, g5⟩)
       | fail)
      exact ⟨⟨2, _, v4, by go_num, rfl, rfl, pb_call bT g5, by show _ = _; simp only [pre3] <;> omega, by omega⟩, by simp [intOf]⟩
     | false =>
      rw [hz] at kN2
      go_upto_region 12 with (first
       | (go_at_call 46; (refine (kN2 _).mono ?_); rintro e v4 ⟨rfl, g5⟩)
       | fail)
      have w9 : IntKind.i64.wrap (((A0 : Int) + (n1 : Int)) + (n2 : Int)) = (A0 : Int) + (n1 : Int) + (n2 : Int) := by have := b60.out; rw [IntKind.wrap_i64]; omega
      go_wp2_with (first
       | (go_at_call 42; (refine (kQ2 hz _ (pb_call bT g5)).mono ?_); rintro e v5 ⟨rfl, g6⟩)
       | fail)
      exact ⟨⟨2, A0 + n1 + n2, v5, by go_num, by first | rfl | go_num, rfl, pb_call bT (pb_call g5 g6), by show _ = _; simp only [pre3] <;> omega, by omega⟩, by simp [intOf]⟩
    by_cases j2 : jj = 2
    ·subst j2
     obtain rfl : aa = A0 + n1 + n2 := by have := hq3.out; simp only [pre3] at this; omega
     obtain ⟨z0, z1, z2, z3⟩ := hal2 V3 bT
     have ix := ex_ix bb 0 3 3 2 (by decide)
     simp only [Nat.zero_mul, Nat.one_mul, Nat.zero_add, Nat.reduceMul] at ix
     have wk : IntKind.i64.wrap ((2 : Int) + 1) = 3 := by rw [IntKind.wrap_i64]; omega
     cases hz : zz3 with
     | true =>
      obtain rfl : n3 = 0 := y3 hz
      rw [hz] at kN3
      go_wp2_with (first
       | (go_at_call 46; (refine (kN3 _).mono ?_); rintro e v4 ⟨rfl, g5⟩)
       | fail)
      exact ⟨⟨3, _, v4, by go_num, rfl, rfl, pb_call bT g5, by show _ = _; simp only [pre3] <;> omega, by omega⟩, by simp [intOf]⟩
     | false =>
      rw [hz] at kN3
      go_upto_region 12 with (first
       | (go_at_call 46; (refine (kN3 _).mono ?_); rintro e v4 ⟨rfl, g5⟩)
       | fail)
      have w9 : IntKind.i64.wrap (((A0 : Int) + (n1 : Int) + (n2 : Int)) + (n3 : Int)) = (A0 : Int) + (n1 : Int) + (n2 : Int) + (n3 : Int) := by have := b60.out; rw [IntKind.wrap_i64]; omega
      go_wp2_with (first
       | (go_at_call 42; (refine (kQ3 hz _ (pb_call bT g5)).mono ?_); rintro e v5 ⟨rfl, g6⟩)
       | fail)
      exact ⟨⟨3, A0 + n1 + n2 + n3, v5, by go_num, by first | rfl | go_num, rfl, pb_call bT (pb_call g5 g6), by show _ = _; simp only [pre3] <;> omega, by omega⟩, by simp [intOf]⟩
    obtain rfl : jj = 3 := by omega
    have ea : aa = A0 + (n1 + n2 + n3) := hq3.out
    have wn : ¬ ((3 : Int) < 3) := by omega
    have hI2 : Hid (aa + (nt + ne) + (f.drop (j + 1)).ct = C) := by have := b60.out; show _ = _; omega
    have w3 : IntKind.i64.wrap ((nt : Int) + (ne : Int)) = (nt : Int) + (ne : Int) := by have := b60.out; rw [IntKind.wrap_i64]; omega
    have w4 : IntKind.i64.wrap ((aa : Int) + ((nt : Int) + (ne : Int))) = (aa : Int) + ((nt : Int) + (ne : Int)) := by have := b60.out; rw [IntKind.wrap_i64]; omega
    replace f15 := pb_cell bT f15
    replace f16 := pb_cell bT f16
    replace bX := pb_call bX bT
    have hal3 : ∀ Y, Below V3.heap.size V3 Y → (Y.cell? ⟨b8, 15, none⟩ = some (.slice p4 l4 q4) ∧ Y.cell? ⟨b8, 16, none⟩ = some (.slice p5 l5 q5)) := fun Y g => ⟨pb_cell g f15, pb_cell g f16⟩
    have kA := fun Y (g : Below V3.heap.size V3 Y) => kA0 Y (pb_call gVX.out (pb_call bX g))
    have kB := fun Y (g : Below V3.heap.size V3 Y) => kB0 Y (pb_call gVX.out (pb_call bX g))
    clear f15 f16 kA0 kB0 ea hq3 hal2 kQ1 kQ2 kQ3 kN1 kN2 kN3 y1 y2 y3 gVT eA0 hA0 b60 j0 j1 j2 hj3 gT3 w1
    go_upto_region 13 with fail
    refine wp_region_pre 9 [48, 49, 50, 51, 52, 53, 54, 55, 56] (Rls [Eqv (.int .i64 (aa : Int)), Eqv (.pointer (some ⟨b8, 15, none⟩)), Eqv (.slice p4 l4 q4), Eqv (.int .i64 (nt : Int)), Eqv (.pointer (some ⟨b8, 16, none⟩)), Eqv (.slice p5 l5 q5), Eqv (.int .i64 (ne : Int)), Eqv (.int .i64 ((nt : Int) + (ne : Int))), Eqv (.int .i64 ((aa : Int) + ((nt : Int) + (ne : Int))))]) [0, 1, 2, 3, 4, 5, 6, 7, 8] (by kernel_rfl) (by kernel_rfl) (by kernel_rfl) (by kernel_rfl) (by kernel_rfl) (r := 1) (lst := #[true, true, true, true, true, true, true, true, true, false]) (by kernel_rfl) (by kernel_rfl) (MonoL.of (MonoL.eq (MonoL.eq (MonoL.eq (MonoL.eq (MonoL.eq (MonoL.eq (MonoL.eq (MonoL.eq (MonoL.eq MonoL.nil)))))))))) ?_ ?_
    ·skip
     refine StepsI.cons (o := _) rfl ?_ ?_
     ·try simp only [List.getElem_toArray, List.getElem_cons_zero, List.getElem_cons_succ]
      refine StepI.of ?_ ?_ ?_
      ·rfl
      ·kernel_rfl
      intro A w hb hT0 hd0 K hK
      have f0 : A.tmps[3]?.getD undef = .int .i64 (aa : Int) := hT0 3 (by kernel_rfl)
      clear hT0 hd0
      go_simp
      exact hK.out _ _ (Below.refl _ _) rfl
     refine StepsI.cons (o := _) rfl ?_ ?_
     ·try simp only [List.getElem_toArray, List.getElem_cons_zero, List.getElem_cons_succ]
      refine StepI.of ?_ ?_ ?_
      ·rfl
      ·kernel_rfl
      intro A w hb hT0 hd0 K hK
      have f0 : A.tmps[5]?.getD undef = .pointer (some ⟨b8, 0, none⟩) := hT0 5 (by kernel_rfl)
      clear hT0 hd0
      go_simp
      exact hK.out _ _ (Below.refl _ _) rfl
     refine StepsI.cons (o := _) rfl ?_ ?_
     ·try simp only [List.getElem_toArray, List.getElem_cons_zero, List.getElem_cons_succ]
      refine StepI.of ?_ ?_ ?_
      ·rfl
      ·kernel_rfl
      intro A w hb hT0 hd0 K hK
      obtain ⟨z6, z7⟩ := hal3 w hb
      have e0 : A.tmps[49]?.getD undef = .pointer (some ⟨b8, 15, none⟩) := hd0 1 49 (by kernel_rfl)
      clear hT0 hd0
      go_simp
      exact hK.out _ _ (Below.refl _ _) rfl
     refine StepsI.cons (o := _) rfl ?_ ?_
     ·try simp only [List.getElem_toArray, List.getElem_cons_zero, List.getElem_cons_succ]
      refine StepI.of ?_ ?_ ?_
      ·rfl
      ·kernel_rfl
      intro A w hb hT0 hd0 K hK
      have e0 : A.tmps[50]?.getD undef = .slice p4 l4 q4 := hd0 2 50 (by kernel_rfl)
      clear hT0 hd0
      go_simp
      refine (kA w hb).mono ?_
      rintro e w2 ⟨rfl, g⟩
      exact hK.out _ _ g (rfl)
     refine StepsI.cons (o := _) rfl ?_ ?_
     ·try simp only [List.getElem_toArray, List.getElem_cons_zero, List.getElem_cons_succ]
      refine StepI.of ?_ ?_ ?_
      ·rfl
      ·kernel_rfl
      intro A w hb hT0 hd0 K hK
      have f0 : A.tmps[5]?.getD undef = .pointer (some ⟨b8, 0, none⟩) := hT0 5 (by kernel_rfl)
      clear hT0 hd0
      go_simp
      exact hK.out _ _ (Below.refl _ _) rfl
     refine StepsI.cons (o := _) rfl ?_ ?_
     ·try simp only [List.getElem_toArray, List.getElem_cons_zero, List.getElem_cons_succ]
      refine StepI.of ?_ ?_ ?_
      ·rfl
      ·kernel_rfl
      intro A w hb hT0 hd0 K hK
      obtain ⟨z6, z7⟩ := hal3 w hb
      have e0 : A.tmps[52]?.getD undef = .pointer (some ⟨b8, 16, none⟩) := hd0 4 52 (by kernel_rfl)
      clear hT0 hd0
      go_simp
      exact hK.out _ _ (Below.refl _ _) rfl
     refine StepsI.cons (o := _) rfl ?_ ?_
     ·try simp only [List.getElem_toArray, List.getElem_cons_zero, List.getElem_cons_succ]
      refine StepI.of ?_ ?_ ?_
      ·rfl
      ·kernel_rfl
      intro A w hb hT0 hd0 K hK
      have e0 : A.tmps[53]?.getD undef = .slice p5 l5 q5 := hd0 5 53 (by kernel_rfl)
      clear hT0 hd0
      go_simp
      refine (kB w hb).mono ?_
      rintro e w2 ⟨rfl, g⟩
      exact hK.out _ _ g (rfl)
     refine StepsI.cons (o := _) rfl ?_ ?_
     ·try simp only [List.getElem_toArray, List.getElem_cons_zero, List.getElem_cons_succ]
      refine StepI.of ?_ ?_ ?_
      ·rfl
      ·kernel_rfl
      intro A w hb hT0 hd0 K hK
      have e0 : A.tmps[51]?.getD undef = .int .i64 (nt : Int) := hd0 3 51 (by kernel_rfl)
      have e1 : A.tmps[54]?.getD undef = .int .i64 (ne : Int) := hd0 6 54 (by kernel_rfl)
      clear hT0 hd0
      have wy := w3
      go_simp
      exact hK.out _ _ (Below.refl _ _) rfl
     refine StepsI.cons (o := _) rfl ?_ ?_
     ·try simp only [List.getElem_toArray, List.getElem_cons_zero, List.getElem_cons_succ]
      refine StepI.of ?_ ?_ ?_
      ·rfl
      ·kernel_rfl
      intro A w hb hT0 hd0 K hK
      have e0 : A.tmps[48]?.getD undef = .int .i64 (aa : Int) := hd0 0 48 (by kernel_rfl)
      have e1 : A.tmps[55]?.getD undef = .int .i64 ((nt : Int) + (ne : Int)) := hd0 7 55 (by kernel_rfl)
      clear hT0 hd0
      have wy := w4
      go_simp
      exact hK.out _ _ (Below.refl _ _) rfl
     exact StepsI.nil
    intro f g wz hb hR
    have e9 : g 56 = .int .i64 ((aa : Int) + ((nt : Int) + (ne : Int))) := hR 8 56 (by decide) (by kernel_rfl)
    simp only [fillT, List.foldl_cons, List.foldl_nil, List.setIfInBounds_toArray, List.set_cons_zero, List.set_cons_succ]
    rw [e9]
    clear e9 hR kA kB
    refine wpAny_ready (rs := [9]) (by kernel_rfl) (by simp) (AllReady.cons (o := _) rfl (fun K hK => ?_) AllReady.nil)
    go_simp
    refine hK _ _ ?_
    clear hK K
    refine wpAny_done (by kernel_rfl) ?_ _
    generalize g 48 = u48 at *
    generalize g 49 = u49 at *
    generalize g 50 = u50 at *
    generalize g 51 = u51 at *
    generalize g 52 = u52 at *
    generalize g 53 = u53 at *
    generalize g 54 = u54 at *
    generalize g 55 = u55 at *
    go_wp2_with fail
    exact ⟨⟨j + 1, aa + (nt + ne), wz, by go_num, by first | rfl | go_num, rfl, pb_call gV.out (pb_call gVX.out (pb_call bX hb)), hI2, by omega⟩, by simp [intOf]; omega⟩
  ·obtain rfl : j = m := by omega
   have nn : ¬ ((j : Int) < (j : Int)) := by omega
   rw [← hm'.out, So.drop_end] at hq
   obtain rfl : a = C := by rw [← hq]; rfl
   have g' := gV.out
   clear hI hq
   go_wp2_with fail
   go_ret
   exact ⟨rfl, g'⟩
theorem sc_of : ∀ f : So, f.cts → f.wt ≤ 549755813888 → f.all ScT
 | .nil, _, _ => trivial
 | .cons d nm ix v l h t e r, hc, hw => by
  have w1 : nm.size + ix.wt + (v.row .nil).wt + (l.row .nil).wt + (h.row .nil).wt + t.wt + e.wt + r.wt + 1 ≤ 549755813888 := hw
  have a := so_len_wt t
  have b := so_len_wt e
  have c := Fo.len_wt ix
  exact ⟨⟨⟨sx_of ix (by omega), by show ix.len ≤ _; omega, (sx_of (v.row .nil) (by omega)).1, (sx_of (l.row .nil) (by omega)).1, (sx_of (h.row .nil) (by omega)).1⟩, hc.1, scS t (sc_of t hc.2.1 (by omega)) (by omega), scS e (sc_of e hc.2.2.1 (by omega)) (by omega)⟩, sc_of r hc.2.2.2 (by omega)⟩
end Go.Proofs.YtknoibocpbfmmaaGreatDoor



