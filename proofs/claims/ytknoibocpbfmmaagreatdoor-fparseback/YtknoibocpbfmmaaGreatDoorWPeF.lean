/- Printed statements: a statement of each kind. -/
import Derived.Test.YtknoibocpbfmmaaGreatDoorWG20
namespace Go.Proofs.YtknoibocpbfmmaaGreatDoor
open Go.RowKit
set_option linter.unusedVariables false
set_option linter.unusedSimpArgs false
set_option maxRecDepth 100000 in
set_option maxHeartbeats 3200000 in
theorem sp_1 (s : St) (hop : s.dO = 1) (hx : s.index.oks) (hv : (s.value.row .nil).oks) (wx : s.index.wt ≤ 549755813888) (wv : (s.value.row .nil).wt ≤ 549755813888) : SpP s := by
 intro B b mg l S p0 q0 p1 q1 p2 q2 p3 q3 p4 q4 p5 q5 w hB hG hS hO hT hP hz
 rw [hop]
 have hI := sp_go hB hG hS hO hT hP #[.int .i64 1, .string s.name, .slice p0 s.index.len q0, .int .i64 s.value.op, .string s.value.tx, .int .i64 s.value.ty, .slice p1 s.value.ks.len q1, .int .i64 s.low.op, .string s.low.tx, .int .i64 s.low.ty, .slice p2 s.low.ks.len q2, .int .i64 s.high.op, .string s.high.tx, .int .i64 s.high.ty, .slice p3 s.high.ks.len q3, .slice p4 s.thn.len q4, .slice p5 s.els.len q5]
 obtain ⟨X, hX⟩ : ∃ X, w.alloc (.cells #[.int .i64 1, .string s.name, .slice p0 s.index.len q0, .int .i64 s.value.op, .string s.value.tx, .int .i64 s.value.ty, .slice p1 s.value.ks.len q1, .int .i64 s.low.op, .string s.low.tx, .int .i64 s.low.ty, .slice p2 s.low.ks.len q2, .int .i64 s.high.op, .string s.high.tx, .int .i64 s.high.ty, .slice p3 s.high.ks.len q3, .slice p4 s.thn.len q4, .slice p5 s.els.len q5] 87) = X := ⟨_, rfl⟩
 obtain ⟨Bx, hBx⟩ : ∃ B, w.heap.size = B := ⟨_, rfl⟩
 rw [hX] at hI
 have hI2 := hI
 rw [hBx] at hI2
 have hX' : Hid (w.alloc (.cells #[.int .i64 1, .string s.name, .slice p0 s.index.len q0, .int .i64 s.value.op, .string s.value.tx, .int .i64 s.value.ty, .slice p1 s.value.ks.len q1, .int .i64 s.low.op, .string s.low.tx, .int .i64 s.low.ty, .slice p2 s.low.ks.len q2, .int .i64 s.high.op, .string s.high.tx, .int .i64 s.high.ty, .slice p3 s.high.ks.len q3, .slice p4 s.thn.len q4, .slice p5 s.els.len q5] 87) = X) := hX
 have hBx' : Hid (w.heap.size = Bx) := hBx
 have bw : Hid (B ≤ w.heap.size) := hB
 have lb : Hid (b < X.heap.size) := hI2.W.1.cells.2
 have zt : stL mg.data.toList s = mg.data.toList ++ (s.name.data.toList ++ ((ixT (foTx s.index) tx0).data.toList ++ (lEqs ++ (xL s.value ++ ([59] ++ [10]))))) := by unfold stL; rw [if_pos hop]
 obtain ⟨FL, hFL⟩ : ∃ FL, stL mg.data.toList s = FL := ⟨_, rfl⟩
 rw [hFL]
 rw [zt] at hz
 have hFL' : Hid (mg.data.toList ++ (s.name.data.toList ++ ((ixT (foTx s.index) tx0).data.toList ++ (lEqs ++ (xL s.value ++ ([59] ++ [10]))))) = FL) := zt.symm.trans hFL
 have zm : mg.data.toList.length = mg.size := rfl
 clear hX hBx hI hO hT hP zt hB hFL
 have kE0 := pexT s.value hv wv
 have kI0 := fun V h1 h2 => pixT s.index (ea_of s.index hx wx) (Nat.le_trans (fo_size _) (by omega)) S p0 q0 V h1 h2
 have hE0 : Hid (exT s.value = exT s.value) := rfl
 obtain ⟨E, hE1⟩ : ∃ E, exT s.value = E := ⟨_, rfl⟩
 have hE : Hid (exT s.value = E) := hE1
 obtain ⟨I, hI1⟩ : ∃ I, ixT (foTx s.index) tx0 = I := ⟨_, rfl⟩
 rw [hI1] at kI0 hz
 have hI9 : Hid (ixT (foTx s.index) tx0 = I) := hI1
 have kE : ∀ V, Below X.heap.size X V → Calls Tryz.prog 75 #[.agg #[.int .i64 s.value.op, .string s.value.tx, .int .i64 s.value.ty, .slice p1 s.value.ks.len q1]] V fun e' w' => e' = .returned (.string E) ∧ Below V.heap.size V w' := fun V g => by
  have := kE0 S p1 q1 V (hI2.O.bel g) (hI2.T.T1.kp (Below.kp g _))
  rw [hE1] at this
  exact this
 have kI : ∀ V, Below X.heap.size X V → Calls Tryz.prog 74 #[.slice p0 s.index.len q0] V fun e' w' => e' = .returned (.string I) ∧ Below V.heap.size V w' := fun V g => kI0 V (hI2.O.bel g) (hI2.T.T0.kp (Below.kp g _))
 have hz2 : Hid (l.length + (mg.size + ((catL [s.name, I, ⟨#[32, 61, 32]⟩, E, ⟨#[59]⟩]).length + 1)) ≤ 140737488355328) := by
  show _ ≤ _
  rw [show xL s.value = E.data.toList from by rw [← hE1]; rfl] at hz
  simp [catL] at hz ⊢
  omega
 obtain ⟨f0, f1, f2, f3, f4, f5, f6, f7, f8, f9, f10, f11, f12, f13, f14, f15, f16, ff⟩ := c17 hI2.q
 have hall : ∀ X9, Below X.heap.size X X9 → (X9.cell? ⟨Bx, 1, none⟩ = some (.string s.name) ∧ X9.cell? ⟨Bx, 2, none⟩ = some (.slice p0 s.index.len q0) ∧ X9.cell? ⟨Bx, 3, none⟩ = some (.int .i64 s.value.op) ∧ X9.cell? ⟨Bx, 3 + 1, none⟩ = some (.string s.value.tx) ∧ X9.cell? ⟨Bx, 3 + 2, none⟩ = some (.int .i64 s.value.ty) ∧ X9.cell? ⟨Bx, 3 + 3, none⟩ = some (.slice p1 s.value.ks.len q1)) := fun X9 g => ⟨pb_cell g f1, pb_cell g f2, pb_cell g f3, pb_cell g f4, pb_cell g f5, pb_cell g f6⟩
 clear hz hE1 hI1 kE0 kI0 f1 f2 f3 f4 f5 f6 f7 f8 f9 f10 f11 f12 f13 f14 f15 f16 ff
 go_enter Tryz.func58, Tryz.ntmps58
 go_upto_region 1 with fail
 rw [hX'.out]
 (try rw [hBx'.out])
 clear hX'
 go_upto_region 3 with fail
 refine wp_region_pre 10 [8, 9, 10, 11, 12, 13, 14, 15, 16, 17, 18] (Rls [Eqv (.pointer (some ⟨b, 0, none⟩)), Eqv (.pointer (some ⟨Bx, 1, none⟩)), Eqv (.string s.name), Eqv (.pointer (some ⟨Bx, 2, none⟩)), Eqv (.slice p0 s.index.len q0), Eqv (.string I), Eqv (.pointer (some ⟨Bx, 3, none⟩)), Eqv (.agg #[.int .i64 s.value.op, .string s.value.tx, .int .i64 s.value.ty, .slice p1 s.value.ks.len q1]), Eqv (.string E), (fun v w => ∃ c, v = .slice (some ⟨c, 0, none⟩) 5 5 ∧ w.heap[c]? = some (.cells #[.string s.name, .string I, .string ⟨#[32, 61, 32]⟩, .string E, .string ⟨#[59]⟩] 9 (0, 0)) ∧ X.heap.size ≤ c)]) [0, 1, 2, 3, 4, 5, 6, 7, 8, 9] (by kernel_rfl) (by kernel_rfl) (by kernel_rfl) (by kernel_rfl) (by kernel_rfl) (r := 1) (lst := #[true, true, true, true, true, true, true, true, true, true, false]) (by kernel_rfl) (by kernel_rfl) (MonoL.of (MonoL.eq (MonoL.eq (MonoL.eq (MonoL.eq (MonoL.eq (MonoL.eq (MonoL.eq (MonoL.eq (MonoL.eq (MonoL.cons (fun v w w2 ⟨c, h1, h2, h3⟩ g => ⟨c, h1, (g.block c (lt_of h2)).trans h2, h3⟩) MonoL.nil))))))))))) ?_ ?_
 ·skip
  refine StepsI.cons (o := _) rfl ?_ ?_
  ·try simp only [List.getElem_toArray, List.getElem_cons_zero, List.getElem_cons_succ]
   refine StepI.of ?_ ?_ ?_
   ·rfl
   ·kernel_rfl
   intro A w hb hT0 hd0 K hK
   have f0 : A.tmps[0]?.getD undef = .pointer (some ⟨b, 0, none⟩) := hT0 0 (by kernel_rfl)
   clear hT0 hd0
   go_simp
   exact hK.out _ _ (Below.refl _ _) rfl
  refine StepsI.cons (o := _) rfl ?_ ?_
  ·try simp only [List.getElem_toArray, List.getElem_cons_zero, List.getElem_cons_succ]
   refine StepI.of ?_ ?_ ?_
   ·rfl
   ·kernel_rfl
   intro A w hb hT0 hd0 K hK
   have f0 : A.tmps[3]?.getD undef = .pointer (some ⟨Bx, 0, none⟩) := hT0 3 (by kernel_rfl)
   clear hT0 hd0
   go_simp
   exact hK.out _ _ (Below.refl _ _) rfl
  refine StepsI.cons (o := _) rfl ?_ ?_
  ·try simp only [List.getElem_toArray, List.getElem_cons_zero, List.getElem_cons_succ]
   refine StepI.of ?_ ?_ ?_
   ·rfl
   ·kernel_rfl
   intro A w hb hT0 hd0 K hK
   obtain ⟨z1, z2, z3, z4, z5, z6⟩ := hall w hb
   have e0 : A.tmps[9]?.getD undef = .pointer (some ⟨Bx, 1, none⟩) := hd0 1 9 (by kernel_rfl)
   clear hT0 hd0
   go_simp
   exact hK.out _ _ (Below.refl _ _) rfl
  refine StepsI.cons (o := _) rfl ?_ ?_
  ·try simp only [List.getElem_toArray, List.getElem_cons_zero, List.getElem_cons_succ]
   refine StepI.of ?_ ?_ ?_
   ·rfl
   ·kernel_rfl
   intro A w hb hT0 hd0 K hK
   have f0 : A.tmps[3]?.getD undef = .pointer (some ⟨Bx, 0, none⟩) := hT0 3 (by kernel_rfl)
   clear hT0 hd0
   go_simp
   exact hK.out _ _ (Below.refl _ _) rfl
  refine StepsI.cons (o := _) rfl ?_ ?_
  ·try simp only [List.getElem_toArray, List.getElem_cons_zero, List.getElem_cons_succ]
   refine StepI.of ?_ ?_ ?_
   ·rfl
   ·kernel_rfl
   intro A w hb hT0 hd0 K hK
   obtain ⟨z1, z2, z3, z4, z5, z6⟩ := hall w hb
   have e0 : A.tmps[11]?.getD undef = .pointer (some ⟨Bx, 2, none⟩) := hd0 3 11 (by kernel_rfl)
   clear hT0 hd0
   go_simp
   exact hK.out _ _ (Below.refl _ _) rfl
  refine StepsI.cons (o := _) rfl ?_ ?_
  ·try simp only [List.getElem_toArray, List.getElem_cons_zero, List.getElem_cons_succ]
   refine StepI.of ?_ ?_ ?_
   ·rfl
   ·kernel_rfl
   intro A w hb hT0 hd0 K hK
   have e0 : A.tmps[12]?.getD undef = .slice p0 s.index.len q0 := hd0 4 12 (by kernel_rfl)
   clear hT0 hd0
   go_simp
   refine (kI w hb).mono ?_
   rintro e w2 ⟨rfl, g⟩
   exact hK.out _ _ g (rfl)
  refine StepsI.cons (o := _) rfl ?_ ?_
  ·try simp only [List.getElem_toArray, List.getElem_cons_zero, List.getElem_cons_succ]
   refine StepI.of ?_ ?_ ?_
   ·rfl
   ·kernel_rfl
   intro A w hb hT0 hd0 K hK
   have f0 : A.tmps[3]?.getD undef = .pointer (some ⟨Bx, 0, none⟩) := hT0 3 (by kernel_rfl)
   clear hT0 hd0
   go_simp
   exact hK.out _ _ (Below.refl _ _) rfl
  refine StepsI.cons (o := _) rfl ?_ ?_
  ·try simp only [List.getElem_toArray, List.getElem_cons_zero, List.getElem_cons_succ]
   refine StepI.of ?_ ?_ ?_
   ·rfl
   ·kernel_rfl
   intro A w hb hT0 hd0 K hK
   obtain ⟨z1, z2, z3, z4, z5, z6⟩ := hall w hb
   have e0 : A.tmps[14]?.getD undef = .pointer (some ⟨Bx, 3, none⟩) := hd0 6 14 (by kernel_rfl)
   clear hT0 hd0
   go_simp
   exact hK.out _ _ (Below.refl _ _) rfl
  refine StepsI.cons (o := _) rfl ?_ ?_
  ·try simp only [List.getElem_toArray, List.getElem_cons_zero, List.getElem_cons_succ]
   refine StepI.of ?_ ?_ ?_
   ·rfl
   ·kernel_rfl
   intro A w hb hT0 hd0 K hK
   have e0 : A.tmps[15]?.getD undef = .agg #[.int .i64 s.value.op, .string s.value.tx, .int .i64 s.value.ty, .slice p1 s.value.ks.len q1] := hd0 7 15 (by kernel_rfl)
   clear hT0 hd0
   go_simp
   refine (kE w hb).mono ?_
   rintro e w2 ⟨rfl, g⟩
   exact hK.out _ _ g (rfl)
  refine StepsI.cons (o := _) rfl ?_ ?_
  ·try simp only [List.getElem_toArray, List.getElem_cons_zero, List.getElem_cons_succ]
   refine StepI.of ?_ ?_ ?_
   ·rfl
   ·kernel_rfl
   intro A w hb hT0 hd0 K hK
   have e0 : A.tmps[10]?.getD undef = .string s.name := hd0 2 10 (by kernel_rfl)
   have e1 : A.tmps[13]?.getD undef = .string I := hd0 5 13 (by kernel_rfl)
   have e2 : A.tmps[16]?.getD undef = .string E := hd0 8 16 (by kernel_rfl)
   clear hT0 hd0
   go_simp
   exact hK.out _ _ (pb_new (Below.refl _ _) _) ⟨_, rfl, World.alloc_heap_new _ _, hb.size⟩
  exact StepsI.nil
 intro f g wz hb hR
 have e0 : g 8 = .pointer (some ⟨b, 0, none⟩) := hR 0 8 (by decide) (by kernel_rfl)
 obtain ⟨c, e9, qc, lc⟩ : ∃ c, g 17 = .slice (some ⟨c, 0, none⟩) 5 5 ∧ wz.heap[c]? = some (.cells #[.string s.name, .string I, .string ⟨#[32, 61, 32]⟩, .string E, .string ⟨#[59]⟩] 9 (0, 0)) ∧ X.heap.size ≤ c := hR 9 17 (by decide) (by kernel_rfl)
 simp only [fillT, List.foldl_cons, List.foldl_nil, List.setIfInBounds_toArray, List.set_cons_zero, List.set_cons_succ]
 rw [e0, e9]
 clear e0 e9 hR hall kI kE
 refine wpAny_ready (rs := [10]) (by kernel_rfl) (by simp) (AllReady.cons (o := _) rfl (fun K hK => ?_) AllReady.nil)
 go_simp
 refine (pline_at [s.name, I, ⟨#[32, 61, 32]⟩, E, ⟨#[59]⟩] 5 5 rfl (by decide) B b mg l w X wz c hI2.W bw.out hb qc lc hz2.out).mono ?_
 rintro e v1 ⟨rfl, hW⟩
 refine hK _ _ ?_
 clear hK K
 refine wpAny_done (by kernel_rfl) ?_ _
 clear qc lc hb
 generalize g 9 = u9 at *
 generalize g 10 = u10 at *
 generalize g 11 = u11 at *
 generalize g 12 = u12 at *
 generalize g 13 = u13 at *
 generalize g 14 = u14 at *
 generalize g 15 = u15 at *
 generalize g 16 = u16 at *
 have hW2 : PrW B b mg (l ++ (mg.data.toList ++ (s.name.data.toList ++ ((ixT (foTx s.index) tx0).data.toList ++ (lEqs ++ (xL s.value ++ ([59] ++ [10]))))))) w v1 := by
  rw [hI9.out]
  rw [show xL s.value = E.data.toList from by rw [← hE.out]; rfl]
  simpa [catL] using hW
 clear hW
 go_wp2_with fail
 exact bodyPost_end (v := .tuple #[]) (by simp [results, Tryz.results58, go_sem]) rfl ⟨rfl, by rw [← hFL'.out]; exact hW2⟩
set_option maxRecDepth 100000 in
set_option maxHeartbeats 3200000 in
theorem sp_2 (s : St) (hop : s.dO = 2) (hx : (s.low.row .nil).oks) (hv : (s.high.row .nil).oks) (wx : (s.low.row .nil).wt ≤ 549755813888) (wv : (s.high.row .nil).wt ≤ 549755813888) : SpP s := by
 intro B b mg l S p0 q0 p1 q1 p2 q2 p3 q3 p4 q4 p5 q5 w hB hG hS hO hT hP hz
 rw [hop]
 have hI := sp_go hB hG hS hO hT hP #[.int .i64 2, .string s.name, .slice p0 s.index.len q0, .int .i64 s.value.op, .string s.value.tx, .int .i64 s.value.ty, .slice p1 s.value.ks.len q1, .int .i64 s.low.op, .string s.low.tx, .int .i64 s.low.ty, .slice p2 s.low.ks.len q2, .int .i64 s.high.op, .string s.high.tx, .int .i64 s.high.ty, .slice p3 s.high.ks.len q3, .slice p4 s.thn.len q4, .slice p5 s.els.len q5]
 obtain ⟨X, hX⟩ : ∃ X, w.alloc (.cells #[.int .i64 2, .string s.name, .slice p0 s.index.len q0, .int .i64 s.value.op, .string s.value.tx, .int .i64 s.value.ty, .slice p1 s.value.ks.len q1, .int .i64 s.low.op, .string s.low.tx, .int .i64 s.low.ty, .slice p2 s.low.ks.len q2, .int .i64 s.high.op, .string s.high.tx, .int .i64 s.high.ty, .slice p3 s.high.ks.len q3, .slice p4 s.thn.len q4, .slice p5 s.els.len q5] 87) = X := ⟨_, rfl⟩
 obtain ⟨Bx, hBx⟩ : ∃ B, w.heap.size = B := ⟨_, rfl⟩
 rw [hX] at hI
 have hI2 := hI
 rw [hBx] at hI2
 have hX' : Hid (w.alloc (.cells #[.int .i64 2, .string s.name, .slice p0 s.index.len q0, .int .i64 s.value.op, .string s.value.tx, .int .i64 s.value.ty, .slice p1 s.value.ks.len q1, .int .i64 s.low.op, .string s.low.tx, .int .i64 s.low.ty, .slice p2 s.low.ks.len q2, .int .i64 s.high.op, .string s.high.tx, .int .i64 s.high.ty, .slice p3 s.high.ks.len q3, .slice p4 s.thn.len q4, .slice p5 s.els.len q5] 87) = X) := hX
 have hBx' : Hid (w.heap.size = Bx) := hBx
 have bw : Hid (B ≤ w.heap.size) := hB
 have lb : Hid (b < X.heap.size) := hI2.W.1.cells.2
 have zt : stL mg.data.toList s = mg.data.toList ++ (lRd ++ (s.name.data.toList ++ (lIn ++ (xL s.low ++ (lCs ++ (xL s.high ++ (lEr ++ [10]))))))) := by unfold stL; rw [if_neg (by omega), if_pos hop]
 obtain ⟨FL, hFL⟩ : ∃ FL, stL mg.data.toList s = FL := ⟨_, rfl⟩
 rw [hFL]
 rw [zt] at hz
 have hFL' : Hid (mg.data.toList ++ (lRd ++ (s.name.data.toList ++ (lIn ++ (xL s.low ++ (lCs ++ (xL s.high ++ (lEr ++ [10]))))))) = FL) := zt.symm.trans hFL
 have zm : mg.data.toList.length = mg.size := rfl
 clear hX hBx hI hO hT hP zt hB hFL
 have kE0 := pexT s.high hv wv
 have kI0 := pexT s.low hx wx
 obtain ⟨E, hE1⟩ : ∃ E, exT s.high = E := ⟨_, rfl⟩
 have hE : Hid (exT s.high = E) := hE1
 obtain ⟨I, hI0⟩ : ∃ I, exT s.low = I := ⟨_, rfl⟩
 have hI1 : Hid (exT s.low = I) := hI0
 have kE : ∀ V, Below X.heap.size X V → Calls Tryz.prog 75 #[.agg #[.int .i64 s.high.op, .string s.high.tx, .int .i64 s.high.ty, .slice p3 s.high.ks.len q3]] V fun e' w' => e' = .returned (.string E) ∧ Below V.heap.size V w' := fun V g => by
  have := kE0 S p3 q3 V (hI2.O.bel g) (hI2.T.T3.kp (Below.kp g _))
  rw [hE1] at this
  exact this
 have kI : ∀ V, Below X.heap.size X V → Calls Tryz.prog 75 #[.agg #[.int .i64 s.low.op, .string s.low.tx, .int .i64 s.low.ty, .slice p2 s.low.ks.len q2]] V fun e' w' => e' = .returned (.string I) ∧ Below V.heap.size V w' := fun V g => by
  have := kI0 S p2 q2 V (hI2.O.bel g) (hI2.T.T2.kp (Below.kp g _))
  rw [hI0] at this
  exact this
 have hz2 : Hid (l.length + (mg.size + ((catL [⟨#[114, 101, 97, 100, 32]⟩, s.name, ⟨#[32, 105, 110, 32, 91]⟩, I, ⟨#[44, 32]⟩, E, ⟨#[93, 59]⟩]).length + 1)) ≤ 140737488355328) := by
  show _ ≤ _
  rw [show xL s.high = E.data.toList from by rw [← hE1]; rfl, show xL s.low = I.data.toList from by rw [← hI0]; rfl] at hz
  simp [catL] at hz ⊢
  omega
 obtain ⟨f0, f1, f2, f3, f4, f5, f6, f7, f8, f9, f10, f11, f12, f13, f14, f15, f16, ff⟩ := c17 hI2.q
 have hall : ∀ X9, Below X.heap.size X X9 → (X9.cell? ⟨Bx, 1, none⟩ = some (.string s.name) ∧ X9.cell? ⟨Bx, 7, none⟩ = some (.int .i64 s.low.op) ∧ X9.cell? ⟨Bx, 7 + 1, none⟩ = some (.string s.low.tx) ∧ X9.cell? ⟨Bx, 7 + 2, none⟩ = some (.int .i64 s.low.ty) ∧ X9.cell? ⟨Bx, 7 + 3, none⟩ = some (.slice p2 s.low.ks.len q2) ∧ X9.cell? ⟨Bx, 11, none⟩ = some (.int .i64 s.high.op) ∧ X9.cell? ⟨Bx, 11 + 1, none⟩ = some (.string s.high.tx) ∧ X9.cell? ⟨Bx, 11 + 2, none⟩ = some (.int .i64 s.high.ty) ∧ X9.cell? ⟨Bx, 11 + 3, none⟩ = some (.slice p3 s.high.ks.len q3)) := fun X9 g => ⟨pb_cell g f1, pb_cell g f7, pb_cell g f8, pb_cell g f9, pb_cell g f10, pb_cell g f11, pb_cell g f12, pb_cell g f13, pb_cell g f14⟩
 clear hz hE1 hI0 kE0 kI0 f1 f2 f3 f4 f5 f6 f7 f8 f9 f10 f11 f12 f13 f14 f15 f16 ff
 go_enter Tryz.func58, Tryz.ntmps58
 go_upto_region 1 with fail
 rw [hX'.out]
 (try rw [hBx'.out])
 clear hX'
 go_upto_region 5 with fail
 refine wp_region_pre 10 [21, 22, 23, 24, 25, 26, 27, 28, 29, 30, 31] (Rls [Eqv (.pointer (some ⟨b, 0, none⟩)), Eqv (.pointer (some ⟨Bx, 1, none⟩)), Eqv (.string s.name), Eqv (.pointer (some ⟨Bx, 7, none⟩)), Eqv (.agg #[.int .i64 s.low.op, .string s.low.tx, .int .i64 s.low.ty, .slice p2 s.low.ks.len q2]), Eqv (.string I), Eqv (.pointer (some ⟨Bx, 11, none⟩)), Eqv (.agg #[.int .i64 s.high.op, .string s.high.tx, .int .i64 s.high.ty, .slice p3 s.high.ks.len q3]), Eqv (.string E), (fun v w => ∃ c, v = .slice (some ⟨c, 0, none⟩) 7 7 ∧ w.heap[c]? = some (.cells #[.string ⟨#[114, 101, 97, 100, 32]⟩, .string s.name, .string ⟨#[32, 105, 110, 32, 91]⟩, .string I, .string ⟨#[44, 32]⟩, .string E, .string ⟨#[93, 59]⟩] 9 (0, 0)) ∧ X.heap.size ≤ c)]) [0, 1, 2, 3, 4, 5, 6, 7, 8, 9] (by kernel_rfl) (by kernel_rfl) (by kernel_rfl) (by kernel_rfl) (by kernel_rfl) (r := 1) (lst := #[true, true, true, true, true, true, true, true, true, true, false]) (by kernel_rfl) (by kernel_rfl) (MonoL.of (MonoL.eq (MonoL.eq (MonoL.eq (MonoL.eq (MonoL.eq (MonoL.eq (MonoL.eq (MonoL.eq (MonoL.eq (MonoL.cons (fun v w w2 ⟨c, h1, h2, h3⟩ g => ⟨c, h1, (g.block c (lt_of h2)).trans h2, h3⟩) MonoL.nil))))))))))) ?_ ?_
 ·skip
  refine StepsI.cons (o := _) rfl ?_ ?_
  ·try simp only [List.getElem_toArray, List.getElem_cons_zero, List.getElem_cons_succ]
   refine StepI.of ?_ ?_ ?_
   ·rfl
   ·kernel_rfl
   intro A w hb hT0 hd0 K hK
   have f0 : A.tmps[0]?.getD undef = .pointer (some ⟨b, 0, none⟩) := hT0 0 (by kernel_rfl)
   clear hT0 hd0
   go_simp
   exact hK.out _ _ (Below.refl _ _) rfl
  refine StepsI.cons (o := _) rfl ?_ ?_
  ·try simp only [List.getElem_toArray, List.getElem_cons_zero, List.getElem_cons_succ]
   refine StepI.of ?_ ?_ ?_
   ·rfl
   ·kernel_rfl
   intro A w hb hT0 hd0 K hK
   have f0 : A.tmps[3]?.getD undef = .pointer (some ⟨Bx, 0, none⟩) := hT0 3 (by kernel_rfl)
   clear hT0 hd0
   go_simp
   exact hK.out _ _ (Below.refl _ _) rfl
  refine StepsI.cons (o := _) rfl ?_ ?_
  ·try simp only [List.getElem_toArray, List.getElem_cons_zero, List.getElem_cons_succ]
   refine StepI.of ?_ ?_ ?_
   ·rfl
   ·kernel_rfl
   intro A w hb hT0 hd0 K hK
   obtain ⟨z1, z3, z4, z5, z6, y3, y4, y5, y6⟩ := hall w hb
   have e0 : A.tmps[22]?.getD undef = .pointer (some ⟨Bx, 1, none⟩) := hd0 1 22 (by kernel_rfl)
   clear hT0 hd0
   go_simp
   exact hK.out _ _ (Below.refl _ _) rfl
  refine StepsI.cons (o := _) rfl ?_ ?_
  ·try simp only [List.getElem_toArray, List.getElem_cons_zero, List.getElem_cons_succ]
   refine StepI.of ?_ ?_ ?_
   ·rfl
   ·kernel_rfl
   intro A w hb hT0 hd0 K hK
   have f0 : A.tmps[3]?.getD undef = .pointer (some ⟨Bx, 0, none⟩) := hT0 3 (by kernel_rfl)
   clear hT0 hd0
   go_simp
   exact hK.out _ _ (Below.refl _ _) rfl
  refine StepsI.cons (o := _) rfl ?_ ?_
  ·try simp only [List.getElem_toArray, List.getElem_cons_zero, List.getElem_cons_succ]
   refine StepI.of ?_ ?_ ?_
   ·rfl
   ·kernel_rfl
   intro A w hb hT0 hd0 K hK
   obtain ⟨z1, z3, z4, z5, z6, y3, y4, y5, y6⟩ := hall w hb
   have e0 : A.tmps[24]?.getD undef = .pointer (some ⟨Bx, 7, none⟩) := hd0 3 24 (by kernel_rfl)
   clear hT0 hd0
   go_simp
   exact hK.out _ _ (Below.refl _ _) rfl
  refine StepsI.cons (o := _) rfl ?_ ?_
  ·try simp only [List.getElem_toArray, List.getElem_cons_zero, List.getElem_cons_succ]
   refine StepI.of ?_ ?_ ?_
   ·rfl
   ·kernel_rfl
   intro A w hb hT0 hd0 K hK
   have e0 : A.tmps[25]?.getD undef = .agg #[.int .i64 s.low.op, .string s.low.tx, .int .i64 s.low.ty, .slice p2 s.low.ks.len q2] := hd0 4 25 (by kernel_rfl)
   clear hT0 hd0
   go_simp
   refine (kI w hb).mono ?_
   rintro e w2 ⟨rfl, g⟩
   exact hK.out _ _ g (rfl)
  refine StepsI.cons (o := _) rfl ?_ ?_
  ·try simp only [List.getElem_toArray, List.getElem_cons_zero, List.getElem_cons_succ]
   refine StepI.of ?_ ?_ ?_
   ·rfl
   ·kernel_rfl
   intro A w hb hT0 hd0 K hK
   have f0 : A.tmps[3]?.getD undef = .pointer (some ⟨Bx, 0, none⟩) := hT0 3 (by kernel_rfl)
   clear hT0 hd0
   go_simp
   exact hK.out _ _ (Below.refl _ _) rfl
  refine StepsI.cons (o := _) rfl ?_ ?_
  ·try simp only [List.getElem_toArray, List.getElem_cons_zero, List.getElem_cons_succ]
   refine StepI.of ?_ ?_ ?_
   ·rfl
   ·kernel_rfl
   intro A w hb hT0 hd0 K hK
   obtain ⟨z1, z3, z4, z5, z6, y3, y4, y5, y6⟩ := hall w hb
   have e0 : A.tmps[27]?.getD undef = .pointer (some ⟨Bx, 11, none⟩) := hd0 6 27 (by kernel_rfl)
   clear hT0 hd0
   go_simp
   exact hK.out _ _ (Below.refl _ _) rfl
  refine StepsI.cons (o := _) rfl ?_ ?_
  ·try simp only [List.getElem_toArray, List.getElem_cons_zero, List.getElem_cons_succ]
   refine StepI.of ?_ ?_ ?_
   ·rfl
   ·kernel_rfl
   intro A w hb hT0 hd0 K hK
   have e0 : A.tmps[28]?.getD undef = .agg #[.int .i64 s.high.op, .string s.high.tx, .int .i64 s.high.ty, .slice p3 s.high.ks.len q3] := hd0 7 28 (by kernel_rfl)
   clear hT0 hd0
   go_simp
   refine (kE w hb).mono ?_
   rintro e w2 ⟨rfl, g⟩
   exact hK.out _ _ g (rfl)
  refine StepsI.cons (o := _) rfl ?_ ?_
  ·try simp only [List.getElem_toArray, List.getElem_cons_zero, List.getElem_cons_succ]
   refine StepI.of ?_ ?_ ?_
   ·rfl
   ·kernel_rfl
   intro A w hb hT0 hd0 K hK
   have e0 : A.tmps[23]?.getD undef = .string s.name := hd0 2 23 (by kernel_rfl)
   have e1 : A.tmps[26]?.getD undef = .string I := hd0 5 26 (by kernel_rfl)
   have e2 : A.tmps[29]?.getD undef = .string E := hd0 8 29 (by kernel_rfl)
   clear hT0 hd0
   go_simp
   exact hK.out _ _ (pb_new (Below.refl _ _) _) ⟨_, rfl, World.alloc_heap_new _ _, hb.size⟩
  exact StepsI.nil
 intro f g wz hb hR
 have e0 : g 21 = .pointer (some ⟨b, 0, none⟩) := hR 0 21 (by decide) (by kernel_rfl)
 obtain ⟨c, e9, qc, lc⟩ : ∃ c, g 30 = .slice (some ⟨c, 0, none⟩) 7 7 ∧ wz.heap[c]? = some (.cells #[.string ⟨#[114, 101, 97, 100, 32]⟩, .string s.name, .string ⟨#[32, 105, 110, 32, 91]⟩, .string I, .string ⟨#[44, 32]⟩, .string E, .string ⟨#[93, 59]⟩] 9 (0, 0)) ∧ X.heap.size ≤ c := hR 9 30 (by decide) (by kernel_rfl)
 simp only [fillT, List.foldl_cons, List.foldl_nil, List.setIfInBounds_toArray, List.set_cons_zero, List.set_cons_succ]
 rw [e0, e9]
 clear e0 e9 hR hall kI kE
 refine wpAny_ready (rs := [10]) (by kernel_rfl) (by simp) (AllReady.cons (o := _) rfl (fun K hK => ?_) AllReady.nil)
 go_simp
 refine (pline_sit [⟨#[114, 101, 97, 100, 32]⟩, s.name, ⟨#[32, 105, 110, 32, 91]⟩, I, ⟨#[44, 32]⟩, E, ⟨#[93, 59]⟩] 7 7 rfl (by decide) hI2 wz c hb qc lc hz2.out).mono ?_
 rintro e v1 ⟨rfl, hW⟩
 refine hK _ _ ?_
 clear hK K
 refine wpAny_done (by kernel_rfl) ?_ _
 clear qc lc hb
 generalize g 22 = u22 at *
 generalize g 23 = u23 at *
 generalize g 24 = u24 at *
 generalize g 25 = u25 at *
 generalize g 26 = u26 at *
 generalize g 27 = u27 at *
 generalize g 28 = u28 at *
 generalize g 29 = u29 at *
 have hW2 : PrW B b mg (l ++ (mg.data.toList ++ (lRd ++ (s.name.data.toList ++ (lIn ++ (xL s.low ++ (lCs ++ (xL s.high ++ (lEr ++ [10]))))))))) w v1 := by
  rw [show xL s.high = E.data.toList from by rw [← hE.out]; rfl, show xL s.low = I.data.toList from by rw [← hI1.out]; rfl]
  simpa [catL] using hW.W
 clear hW
 go_wp2_with fail
 exact bodyPost_end (v := .tuple #[]) (by simp [results, Tryz.results58, go_sem]) rfl ⟨rfl, by rw [← hFL'.out]; exact hW2⟩
set_option maxRecDepth 100000 in
set_option maxHeartbeats 3200000 in
theorem sp_3 (s : St) (hop : s.dO = 3) (k1 : SpB s.thn) (k2 : SpB s.els) (hv : (s.value.row .nil).oks) (wv : (s.value.row .nil).wt ≤ 549755813888) : SpP s := by
 intro B b mg l S p0 q0 p1 q1 p2 q2 p3 q3 p4 q4 p5 q5 w hB hG hS hO hT hP hz
 rw [hop]
 have hI := sp_go hB hG hS hO hT hP #[.int .i64 3, .string s.name, .slice p0 s.index.len q0, .int .i64 s.value.op, .string s.value.tx, .int .i64 s.value.ty, .slice p1 s.value.ks.len q1, .int .i64 s.low.op, .string s.low.tx, .int .i64 s.low.ty, .slice p2 s.low.ks.len q2, .int .i64 s.high.op, .string s.high.tx, .int .i64 s.high.ty, .slice p3 s.high.ks.len q3, .slice p4 s.thn.len q4, .slice p5 s.els.len q5]
 obtain ⟨X, hX⟩ : ∃ X, w.alloc (.cells #[.int .i64 3, .string s.name, .slice p0 s.index.len q0, .int .i64 s.value.op, .string s.value.tx, .int .i64 s.value.ty, .slice p1 s.value.ks.len q1, .int .i64 s.low.op, .string s.low.tx, .int .i64 s.low.ty, .slice p2 s.low.ks.len q2, .int .i64 s.high.op, .string s.high.tx, .int .i64 s.high.ty, .slice p3 s.high.ks.len q3, .slice p4 s.thn.len q4, .slice p5 s.els.len q5] 87) = X := ⟨_, rfl⟩
 obtain ⟨Bx, hBx⟩ : ∃ B, w.heap.size = B := ⟨_, rfl⟩
 rw [hX] at hI
 have hI2 := hI
 rw [hBx] at hI2
 have hX' : Hid (w.alloc (.cells #[.int .i64 3, .string s.name, .slice p0 s.index.len q0, .int .i64 s.value.op, .string s.value.tx, .int .i64 s.value.ty, .slice p1 s.value.ks.len q1, .int .i64 s.low.op, .string s.low.tx, .int .i64 s.low.ty, .slice p2 s.low.ks.len q2, .int .i64 s.high.op, .string s.high.tx, .int .i64 s.high.ty, .slice p3 s.high.ks.len q3, .slice p4 s.thn.len q4, .slice p5 s.els.len q5] 87) = X) := hX
 have hBx' : Hid (w.heap.size = Bx) := hBx
 have bw : Hid (B ≤ w.heap.size) := hB
 have lb : Hid (b < X.heap.size) := hI2.W.1.cells.2
 have zt : stL mg.data.toList s = mg.data.toList ++ (lIf ++ (xL s.value ++ (lOp ++ [10]))) ++ (soL (mg.data.toList ++ [32, 32]) s.thn ++ ((if s.els.len = 0 then [] else mg.data.toList ++ (lEl ++ [10]) ++ soL (mg.data.toList ++ [32, 32]) s.els) ++ (mg.data.toList ++ ([125] ++ [10])))) := by unfold stL; rw [if_neg (by omega), if_neg (by omega), if_pos hop]
 obtain ⟨FL, hFL⟩ : ∃ FL, stL mg.data.toList s = FL := ⟨_, rfl⟩
 rw [hFL]
 rw [zt] at hz
 have hFL' : Hid (mg.data.toList ++ (lIf ++ (xL s.value ++ (lOp ++ [10]))) ++ (soL (mg.data.toList ++ [32, 32]) s.thn ++ ((if s.els.len = 0 then [] else mg.data.toList ++ (lEl ++ [10]) ++ soL (mg.data.toList ++ [32, 32]) s.els) ++ (mg.data.toList ++ ([125] ++ [10])))) = FL) := zt.symm.trans hFL
 have zm : mg.data.toList.length = mg.size := rfl
 clear hX hBx hI hO hT hP zt hB hFL
 have kE0 := pexT s.value hv wv
 obtain ⟨E, hE1⟩ : ∃ E, exT s.value = E := ⟨_, rfl⟩
 have hE : Hid (exT s.value = E) := hE1
 have kE : ∀ V, Below X.heap.size X V → Calls Tryz.prog 75 #[.agg #[.int .i64 s.value.op, .string s.value.tx, .int .i64 s.value.ty, .slice p1 s.value.ks.len q1]] V fun e' w' => e' = .returned (.string E) ∧ Below V.heap.size V w' := fun V g => by
  have := kE0 S p1 q1 V (hI2.O.bel g) (hI2.T.T1.kp (Below.kp g _))
  rw [hE1] at this
  exact this
 have eE : xL s.value = E.data.toList := by rw [← hE1]; rfl
 have hz2 : Hid (l.length + (mg.size + ((catL [⟨#[105, 102, 32, 40]⟩, E, ⟨#[41, 32, 123]⟩]).length + 1)) ≤ 140737488355328) := by
  show _ ≤ _
  rw [eE] at hz
  simp [catL] at hz ⊢
  omega
 have hzm : Hid (mg.size ≤ 140737488355328) := by
  show _ ≤ _
  simp at hz
  omega
 have hz3 : Hid ((l ++ (mg.data.toList ++ (catL [⟨#[105, 102, 32, 40]⟩, E, ⟨#[41, 32, 123]⟩] ++ [10]))).length + (soL (mg.data.toList ++ [32, 32]) s.thn).length ≤ 140737488355328) := by
  show _ ≤ _
  rw [eE] at hz
  simp [catL] at hz ⊢
  omega
 have hz' : Hid (l.length + (mg.data.toList ++ (lIf ++ (xL s.value ++ (lOp ++ [10]))) ++ (soL (mg.data.toList ++ [32, 32]) s.thn ++ ((if s.els.len = 0 then [] else mg.data.toList ++ (lEl ++ [10]) ++ soL (mg.data.toList ++ [32, 32]) s.els) ++ (mg.data.toList ++ ([125] ++ [10]))))).length ≤ 140737488355328) := hz
 obtain ⟨f0, _, _, f3, f4, f5, f6, _, _, _, _, _, _, _, _, _, _, _⟩ := c17 hI2.q
 clear hz hE1 kE0 eE
 go_enter Tryz.func58, Tryz.ntmps58
 go_upto_region 1 with fail
 rw [hX'.out]
 (try rw [hBx'.out])
 clear hX'
 go_upto_region 8 with (first
  | (go_at_call 75; (refine (kE _ (Below.refl _ _)).mono ?_); rintro e v1 ⟨rfl, g1⟩)
  | (go_at_call 32; (refine (pline_sit [⟨#[105, 102, 32, 40]⟩, E, ⟨#[41, 32, 123]⟩] 3 3 rfl (by decide) hI2 _ _ (pb_call g1 (pb_new (Below.refl _ _) _)) (World.alloc_heap_new _ _) g1.size hz2.out).mono ?_); rintro e v2 ⟨rfl, hI3⟩)
  | fail)
 clear f0 f3 f4 f5 f6 hI2 kE g1
 obtain ⟨_, _, _, _, _, _, _, _, _, _, _, _, _, _, _, c15, _, _⟩ := c17 hI3.q
 go_upto_region 9 with (first
  | (go_at_call 76; (refine (pwith_sit s.thn k1 hI3 _ hI3.T.T4 hz3.out hzm.out).mono ?_); rintro e v3 ⟨rfl, hI4⟩)
  | fail)
 clear c15 hI3
 obtain ⟨_, _, _, _, _, _, _, _, _, _, _, _, _, _, _, _, c16, _⟩ := c17 hI4.q
 by_cases z : s.els.len = 0
 ·have z' : ¬ ((0 : Int) < ((s.els.len : Nat) : Int)) := by omega
  have hz4 : (l ++ (mg.data.toList ++ (catL [⟨#[105, 102, 32, 40]⟩, E, ⟨#[41, 32, 123]⟩] ++ [10])) ++ soL (mg.data.toList ++ [32, 32]) s.thn).length + (mg.size + ((catL [⟨#[125]⟩]).length + 1)) ≤ 140737488355328 := by
   have hz := hz'.out
   rw [show xL s.value = E.data.toList from by rw [← hE.out]; rfl, if_pos z] at hz
   simp [catL] at hz ⊢
   omega
  go_upto_region 12 with fail
  clear c16
  go_wp2_with (first
   | (go_at_call 32; (refine (pline_sit [⟨#[125]⟩] 1 1 rfl (by decide) hI4 _ _ (pb_new (Below.refl _ _) _) (World.alloc_heap_new _ _) (Nat.le_refl _) hz4).mono ?_); rintro e v4 ⟨rfl, hI5⟩)
   | fail)
  have hW2 : PrW B b mg (l ++ (mg.data.toList ++ (lIf ++ (xL s.value ++ (lOp ++ [10]))) ++ (soL (mg.data.toList ++ [32, 32]) s.thn ++ ((if s.els.len = 0 then [] else mg.data.toList ++ (lEl ++ [10]) ++ soL (mg.data.toList ++ [32, 32]) s.els) ++ (mg.data.toList ++ ([125] ++ [10])))))) w v4 := by
   rw [show xL s.value = E.data.toList from by rw [← hE.out]; rfl, if_pos z]
   simpa [catL] using hI5.W
  exact bodyPost_end (v := .tuple #[]) (by simp [results, Tryz.results58, go_sem]) rfl ⟨rfl, by rw [← hFL'.out]; exact hW2⟩
 ·have z' : ((0 : Int) < ((s.els.len : Nat) : Int)) := by omega
  have hzz : (l ++ (mg.data.toList ++ (catL [⟨#[105, 102, 32, 40]⟩, E, ⟨#[41, 32, 123]⟩] ++ [10])) ++ soL (mg.data.toList ++ [32, 32]) s.thn).length + (mg.size + ((catL [⟨#[125, 32, 101, 108, 115, 101, 32, 123]⟩]).length + 1)) ≤ 140737488355328 ∧ (l ++ (mg.data.toList ++ (catL [⟨#[105, 102, 32, 40]⟩, E, ⟨#[41, 32, 123]⟩] ++ [10])) ++ soL (mg.data.toList ++ [32, 32]) s.thn ++ (mg.data.toList ++ (catL [⟨#[125, 32, 101, 108, 115, 101, 32, 123]⟩] ++ [10]))).length + (soL (mg.data.toList ++ [32, 32]) s.els).length ≤ 140737488355328 ∧ (l ++ (mg.data.toList ++ (catL [⟨#[105, 102, 32, 40]⟩, E, ⟨#[41, 32, 123]⟩] ++ [10])) ++ soL (mg.data.toList ++ [32, 32]) s.thn ++ (mg.data.toList ++ (catL [⟨#[125, 32, 101, 108, 115, 101, 32, 123]⟩] ++ [10])) ++ soL (mg.data.toList ++ [32, 32]) s.els).length + (mg.size + ((catL [⟨#[125]⟩]).length + 1)) ≤ 140737488355328 := by
   have hz := hz'.out
   rw [show xL s.value = E.data.toList from by rw [← hE.out]; rfl, if_neg z] at hz
   simp [catL] at hz ⊢
   omega
  have hz4 : Hid _ := hzz.1
  have hz5 : Hid _ := hzz.2.1
  have hz6 : Hid _ := hzz.2.2
  clear hzz
  go_upto_region 11 with (first
   | (go_at_call 32; (refine (pline_sit [⟨#[125, 32, 101, 108, 115, 101, 32, 123]⟩] 1 1 rfl (by decide) hI4 _ _ (pb_new (Below.refl _ _) _) (World.alloc_heap_new _ _) (Nat.le_refl _) hz4.out).mono ?_); rintro e v4 ⟨rfl, hI5⟩)
   | fail)
  clear c16 hI4
  obtain ⟨_, _, _, _, _, _, _, _, _, _, _, _, _, _, _, _, c16, _⟩ := c17 hI5.q
  go_upto_region 12 with (first
   | (go_at_call 76; (refine (pwith_sit s.els k2 hI5 _ hI5.T.T5 hz5.out hzm.out).mono ?_); rintro e v5 ⟨rfl, hI6⟩)
   | fail)
  clear c16 hI5
  go_wp2_with (first
   | (go_at_call 32; (refine (pline_sit [⟨#[125]⟩] 1 1 rfl (by decide) hI6 _ _ (pb_new (Below.refl _ _) _) (World.alloc_heap_new _ _) (Nat.le_refl _) hz6.out).mono ?_); rintro e v6 ⟨rfl, hI7⟩)
   | fail)
  have hW2 : PrW B b mg (l ++ (mg.data.toList ++ (lIf ++ (xL s.value ++ (lOp ++ [10]))) ++ (soL (mg.data.toList ++ [32, 32]) s.thn ++ ((if s.els.len = 0 then [] else mg.data.toList ++ (lEl ++ [10]) ++ soL (mg.data.toList ++ [32, 32]) s.els) ++ (mg.data.toList ++ ([125] ++ [10])))))) w v6 := by
   rw [show xL s.value = E.data.toList from by rw [← hE.out]; rfl, if_neg z]
   simpa [catL] using hI7.W
  exact bodyPost_end (v := .tuple #[]) (by simp [results, Tryz.results58, go_sem]) rfl ⟨rfl, by rw [← hFL'.out]; exact hW2⟩
set_option maxRecDepth 100000 in
set_option maxHeartbeats 3200000 in
theorem sp_4 (s : St) (hop : s.dO = 4) (k1 : SpB s.thn) (hv : (s.value.row .nil).oks) (wv : (s.value.row .nil).wt ≤ 549755813888) : SpP s := by
 intro B b mg l S p0 q0 p1 q1 p2 q2 p3 q3 p4 q4 p5 q5 w hB hG hS hO hT hP hz
 rw [hop]
 have hI := sp_go hB hG hS hO hT hP #[.int .i64 4, .string s.name, .slice p0 s.index.len q0, .int .i64 s.value.op, .string s.value.tx, .int .i64 s.value.ty, .slice p1 s.value.ks.len q1, .int .i64 s.low.op, .string s.low.tx, .int .i64 s.low.ty, .slice p2 s.low.ks.len q2, .int .i64 s.high.op, .string s.high.tx, .int .i64 s.high.ty, .slice p3 s.high.ks.len q3, .slice p4 s.thn.len q4, .slice p5 s.els.len q5]
 obtain ⟨X, hX⟩ : ∃ X, w.alloc (.cells #[.int .i64 4, .string s.name, .slice p0 s.index.len q0, .int .i64 s.value.op, .string s.value.tx, .int .i64 s.value.ty, .slice p1 s.value.ks.len q1, .int .i64 s.low.op, .string s.low.tx, .int .i64 s.low.ty, .slice p2 s.low.ks.len q2, .int .i64 s.high.op, .string s.high.tx, .int .i64 s.high.ty, .slice p3 s.high.ks.len q3, .slice p4 s.thn.len q4, .slice p5 s.els.len q5] 87) = X := ⟨_, rfl⟩
 obtain ⟨Bx, hBx⟩ : ∃ B, w.heap.size = B := ⟨_, rfl⟩
 rw [hX] at hI
 have hI2 := hI
 rw [hBx] at hI2
 have hX' : Hid (w.alloc (.cells #[.int .i64 4, .string s.name, .slice p0 s.index.len q0, .int .i64 s.value.op, .string s.value.tx, .int .i64 s.value.ty, .slice p1 s.value.ks.len q1, .int .i64 s.low.op, .string s.low.tx, .int .i64 s.low.ty, .slice p2 s.low.ks.len q2, .int .i64 s.high.op, .string s.high.tx, .int .i64 s.high.ty, .slice p3 s.high.ks.len q3, .slice p4 s.thn.len q4, .slice p5 s.els.len q5] 87) = X) := hX
 have hBx' : Hid (w.heap.size = Bx) := hBx
 have bw : Hid (B ≤ w.heap.size) := hB
 have lb : Hid (b < X.heap.size) := hI2.W.1.cells.2
 have zt : stL mg.data.toList s = mg.data.toList ++ (lWh ++ (xL s.value ++ (lOp ++ [10]))) ++ (soL (mg.data.toList ++ [32, 32]) s.thn ++ (mg.data.toList ++ ([125] ++ [10]))) := by unfold stL; rw [if_neg (by omega), if_neg (by omega), if_neg (by omega), if_pos hop]
 obtain ⟨FL, hFL⟩ : ∃ FL, stL mg.data.toList s = FL := ⟨_, rfl⟩
 rw [hFL]
 rw [zt] at hz
 have hFL' : Hid (mg.data.toList ++ (lWh ++ (xL s.value ++ (lOp ++ [10]))) ++ (soL (mg.data.toList ++ [32, 32]) s.thn ++ (mg.data.toList ++ ([125] ++ [10]))) = FL) := zt.symm.trans hFL
 have zm : mg.data.toList.length = mg.size := rfl
 clear hX hBx hI hO hT hP zt hB hFL
 have kE0 := pexT s.value hv wv
 obtain ⟨E, hE1⟩ : ∃ E, exT s.value = E := ⟨_, rfl⟩
 have hE : Hid (exT s.value = E) := hE1
 have kE : ∀ V, Below X.heap.size X V → Calls Tryz.prog 75 #[.agg #[.int .i64 s.value.op, .string s.value.tx, .int .i64 s.value.ty, .slice p1 s.value.ks.len q1]] V fun e' w' => e' = .returned (.string E) ∧ Below V.heap.size V w' := fun V g => by
  have := kE0 S p1 q1 V (hI2.O.bel g) (hI2.T.T1.kp (Below.kp g _))
  rw [hE1] at this
  exact this
 have eE : xL s.value = E.data.toList := by rw [← hE1]; rfl
 have hz2 : Hid (l.length + (mg.size + ((catL [⟨#[119, 104, 105, 108, 101, 32, 40]⟩, E, ⟨#[41, 32, 123]⟩]).length + 1)) ≤ 140737488355328) := by
  show _ ≤ _
  rw [eE] at hz
  simp [catL] at hz ⊢
  omega
 have hzm : Hid (mg.size ≤ 140737488355328) := by
  show _ ≤ _
  simp at hz
  omega
 have hz3 : Hid ((l ++ (mg.data.toList ++ (catL [⟨#[119, 104, 105, 108, 101, 32, 40]⟩, E, ⟨#[41, 32, 123]⟩] ++ [10]))).length + (soL (mg.data.toList ++ [32, 32]) s.thn).length ≤ 140737488355328) := by
  show _ ≤ _
  rw [eE] at hz
  simp [catL] at hz ⊢
  omega
 have hz' : Hid (l.length + (mg.data.toList ++ (lWh ++ (xL s.value ++ (lOp ++ [10]))) ++ (soL (mg.data.toList ++ [32, 32]) s.thn ++ (mg.data.toList ++ ([125] ++ [10])))).length ≤ 140737488355328) := hz
 obtain ⟨f0, _, _, f3, f4, f5, f6, _, _, _, _, _, _, _, _, _, _, _⟩ := c17 hI2.q
 clear hz hE1 kE0 eE
 go_enter Tryz.func58, Tryz.ntmps58
 go_upto_region 1 with fail
 rw [hX'.out]
 (try rw [hBx'.out])
 clear hX'
 go_upto_region 15 with (first
  | (go_at_call 75; (refine (kE _ (Below.refl _ _)).mono ?_); rintro e v1 ⟨rfl, g1⟩)
  | (go_at_call 32; (refine (pline_sit [⟨#[119, 104, 105, 108, 101, 32, 40]⟩, E, ⟨#[41, 32, 123]⟩] 3 3 rfl (by decide) hI2 _ _ (pb_call g1 (pb_new (Below.refl _ _) _)) (World.alloc_heap_new _ _) g1.size hz2.out).mono ?_); rintro e v2 ⟨rfl, hI3⟩)
  | fail)
 clear f0 f3 f4 f5 f6 hI2 kE g1
 obtain ⟨_, _, _, _, _, _, _, _, _, _, _, _, _, _, _, c15, _, _⟩ := c17 hI3.q
 have hz4 : Hid ((l ++ (mg.data.toList ++ (catL [⟨#[119, 104, 105, 108, 101, 32, 40]⟩, E, ⟨#[41, 32, 123]⟩] ++ [10])) ++ soL (mg.data.toList ++ [32, 32]) s.thn).length + (mg.size + ((catL [⟨#[125]⟩]).length + 1)) ≤ 140737488355328) := by
  show _ ≤ _
  have hz := hz'.out
  rw [show xL s.value = E.data.toList from by rw [← hE.out]; rfl] at hz
  simp [catL] at hz ⊢
  omega
 go_upto_region 16 with (first
  | (go_at_call 76; (refine (pwith_sit s.thn k1 hI3 _ hI3.T.T4 hz3.out hzm.out).mono ?_); rintro e v3 ⟨rfl, hI4⟩)
  | fail)
 clear c15 hI3
 go_wp2_with (first
  | (go_at_call 32; (refine (pline_sit [⟨#[125]⟩] 1 1 rfl (by decide) hI4 _ _ (pb_new (Below.refl _ _) _) (World.alloc_heap_new _ _) (Nat.le_refl _) hz4.out).mono ?_); rintro e v4 ⟨rfl, hI5⟩)
  | fail)
 have hW2 : PrW B b mg (l ++ (mg.data.toList ++ (lWh ++ (xL s.value ++ (lOp ++ [10]))) ++ (soL (mg.data.toList ++ [32, 32]) s.thn ++ (mg.data.toList ++ ([125] ++ [10]))))) w v4 := by
  rw [show xL s.value = E.data.toList from by rw [← hE.out]; rfl]
  simpa [catL] using hI5.W
 exact bodyPost_end (v := .tuple #[]) (by simp [results, Tryz.results58, go_sem]) rfl ⟨rfl, by rw [← hFL'.out]; exact hW2⟩
end Go.Proofs.YtknoibocpbfmmaaGreatDoor



