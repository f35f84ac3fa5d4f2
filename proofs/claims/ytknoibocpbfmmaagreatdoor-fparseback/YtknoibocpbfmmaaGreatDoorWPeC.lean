/- Texts of expressions: expressionText, of each kind, over all. -/
import Derived.Test.YtknoibocpbfmmaaGreatDoorWG19
import Derived.Test.YtknoibocpbfmmaaGreatDoorWWpI
namespace Go.Proofs.YtknoibocpbfmmaaGreatDoor
open Go.RowKit
set_option linter.unusedVariables false
set_option linter.unusedSimpArgs false
theorem ex_ix0 (c u n q : Nat) (h : 0 < n) (w : World) : (Instr.indexAt 82 (.slice (some ⟨c, u, none⟩) n q) (.int .i64 0)).run Tryz.prog w = .ok (.pointer (some ⟨c, u, none⟩)) w := by
 have := ex_ix c u n q 0 h w
 simpa using this
theorem ex_ix1 (c u n q : Nat) (h : 1 < n) (w : World) : (Instr.indexAt 82 (.slice (some ⟨c, u, none⟩) n q) (.int .i64 1)).run Tryz.prog w = .ok (.pointer (some ⟨c, u + 4, none⟩)) w := by
 have := ex_ix c u n q 1 h w
 simpa using this
set_option maxRecDepth 100000 in
set_option maxHeartbeats 3200000 in
theorem ex_T1 (tx : ByteArray) (ks : Fo) (kA : ks.all SpA) (hz : tx.size + wtL (foTx ks) ≤ 1099511627776) : SpA ⟨1, tx, 0, ks⟩ := by
 intro S pp qq w hO hT
 simp only at hT ⊢
 have gX := pb_new (Below.refl w.heap.size w) (.cells #[.int .i64 1, .string tx, .int .i64 0, .slice pp ks.len qq] 85)
 have qX := World.alloc_heap_new w (.cells #[.int .i64 1, .string tx, .int .i64 0, .slice pp ks.len qq] 85)
 have hO2 := hO.bel gX
 have hT2 := hT.kp (Below.kp gX _)
 obtain ⟨X, hX⟩ : ∃ X, w.alloc (.cells #[.int .i64 1, .string tx, .int .i64 0, .slice pp ks.len qq] 85) = X := ⟨_, rfl⟩
 obtain ⟨b, hb⟩ : ∃ b, w.heap.size = b := ⟨_, rfl⟩
 rw [hX] at gX qX hO2 hT2
 rw [hb] at qX
 have hgX : Hid (Below w.heap.size w X) := gX
 have hX' : Hid (w.alloc (.cells #[.int .i64 1, .string tx, .int .i64 0, .slice pp ks.len qq] 85) = X) := hX
 have hb' : Hid (w.heap.size = b) := hb
 have hO3 : Hid (OpsAt X) := hO2
 have e1 : exT ⟨1, tx, 0, ks⟩ = tx ++ ixT (foTx ks) tx0 := rfl
 rw [e1]
 have zI := ix_size (foTx ks) tx0
 have kI0 := fun V h1 h2 => pixT ks kA (by omega) S pp qq V h1 h2
 obtain ⟨I, hI⟩ : ∃ I, ixT (foTx ks) tx0 = I := ⟨_, rfl⟩
 rw [hI] at kI0 zI ⊢
 obtain ⟨nI, hnI⟩ : ∃ n, I.size = n := ⟨_, rfl⟩
 obtain ⟨nt, hnt⟩ : ∃ n, tx.size = n := ⟨_, rfl⟩
 have zs : nt + nI ≤ 1099511627776 := by rw [hnt] at hz; rw [hnI] at zI; have : (tx0 : ByteArray).size = 0 := rfl; omega
 have kI : ∀ V, Below X.heap.size X V → Calls Tryz.prog 74 #[.slice pp ks.len qq] V fun e' w' => e' = .returned (.string I) ∧ Below V.heap.size V w' := fun V g => kI0 V (hO3.out.bel g) (hT2.kp (Below.kp g _))
 obtain ⟨m, hm⟩ : ∃ m, ks.len = m := ⟨_, rfl⟩
 rw [hm] at qX kI hX'
 rw [hm]
 obtain ⟨f0, f1, f2, f3, ff⟩ := ex_cells qX
 have hall : ∀ X9, Below X.heap.size X X9 → (X9.cell? ⟨b, 1, none⟩ = some (.string tx) ∧ X9.cell? ⟨b, 3, none⟩ = some (.slice pp m qq)) := fun X9 g => ⟨pb_cell g f1, pb_cell g f3⟩
 clear hX hb gX hT hT2 hO hO2 kI0 hz zI hI hm
 go_enter Tryz.func75, Tryz.ntmps75
 go_upto_region 1 with fail
 rw [hX'.out]
 (try rw [hb'.out])
 clear hX' hb'
 go_upto_region 5 with fail
 refine wp_region_inv [10, 11, 12, 13, 14, 15, 2] (Rls [Eqv (.pointer (some ⟨b, 1, none⟩)), Eqv (.string tx), Eqv (.pointer (some ⟨b, 3, none⟩)), Eqv (.slice pp m qq), Eqv (.string I), Eqv (.string (tx ++ I)), Eqv (.string (tx ++ I))]) [0, 1, 2, 3, 4, 5, 6] (by kernel_rfl) (by kernel_rfl) (by kernel_rfl) (by kernel_rfl) (MonoL.of (MonoL.eq (MonoL.eq (MonoL.eq (MonoL.eq (MonoL.eq (MonoL.eq (MonoL.eq MonoL.nil)))))))) ?_ ?_
 ·skip
  refine StepsI.cons (o := _) rfl ?_ ?_
  ·try simp only [List.getElem_toArray, List.getElem_cons_zero, List.getElem_cons_succ]
   refine StepI.of ?_ ?_ ?_
   ·rfl
   ·kernel_rfl
   intro A w hb hT0 hd0 K hK
   have f0 : A.tmps[1]?.getD undef = .pointer (some ⟨b, 0, none⟩) := hT0 1 (by kernel_rfl)
   clear hT0 hd0
   go_simp
   exact hK.out _ _ (Below.refl _ _) rfl
  refine StepsI.cons (o := _) rfl ?_ ?_
  ·try simp only [List.getElem_toArray, List.getElem_cons_zero, List.getElem_cons_succ]
   refine StepI.of ?_ ?_ ?_
   ·rfl
   ·kernel_rfl
   intro A w hb hT0 hd0 K hK
   obtain ⟨z1, z3⟩ := hall w hb
   have e0 : A.tmps[10]?.getD undef = .pointer (some ⟨b, 1, none⟩) := hd0 0 10 (by kernel_rfl)
   clear hT0 hd0
   go_simp
   exact hK.out _ _ (Below.refl _ _) rfl
  refine StepsI.cons (o := _) rfl ?_ ?_
  ·try simp only [List.getElem_toArray, List.getElem_cons_zero, List.getElem_cons_succ]
   refine StepI.of ?_ ?_ ?_
   ·rfl
   ·kernel_rfl
   intro A w hb hT0 hd0 K hK
   have f0 : A.tmps[1]?.getD undef = .pointer (some ⟨b, 0, none⟩) := hT0 1 (by kernel_rfl)
   clear hT0 hd0
   go_simp
   exact hK.out _ _ (Below.refl _ _) rfl
  refine StepsI.cons (o := _) rfl ?_ ?_
  ·try simp only [List.getElem_toArray, List.getElem_cons_zero, List.getElem_cons_succ]
   refine StepI.of ?_ ?_ ?_
   ·rfl
   ·kernel_rfl
   intro A w hb hT0 hd0 K hK
   obtain ⟨z1, z3⟩ := hall w hb
   have e0 : A.tmps[12]?.getD undef = .pointer (some ⟨b, 3, none⟩) := hd0 2 12 (by kernel_rfl)
   clear hT0 hd0
   go_simp
   exact hK.out _ _ (Below.refl _ _) rfl
  refine StepsI.cons (o := _) rfl ?_ ?_
  ·try simp only [List.getElem_toArray, List.getElem_cons_zero, List.getElem_cons_succ]
   refine StepI.of ?_ ?_ ?_
   ·rfl
   ·kernel_rfl
   intro A w hb hT0 hd0 K hK
   have e0 : A.tmps[13]?.getD undef = .slice pp m qq := hd0 3 13 (by kernel_rfl)
   clear hT0 hd0
   go_simp
   refine (kI w hb).mono ?_
   rintro e w2 ⟨rfl, g⟩
   exact hK.out _ _ g (rfl)
  refine StepsI.cons (o := _) rfl ?_ ?_
  ·try simp only [List.getElem_toArray, List.getElem_cons_zero, List.getElem_cons_succ]
   refine StepI.of ?_ ?_ ?_
   ·rfl
   ·kernel_rfl
   intro A w hb hT0 hd0 K hK
   have e0 : A.tmps[11]?.getD undef = .string tx := hd0 1 11 (by kernel_rfl)
   have e1 : A.tmps[14]?.getD undef = .string I := hd0 4 14 (by kernel_rfl)
   clear hT0 hd0
   have nq : ¬ 9223372036854775807 < nt + nI := by omega
   go_simp
   exact hK.out _ _ (Below.refl _ _) rfl
  refine StepsI.cons (o := _) rfl ?_ ?_
  ·try simp only [List.getElem_toArray, List.getElem_cons_zero, List.getElem_cons_succ]
   refine StepI.of ?_ ?_ ?_
   ·rfl
   ·kernel_rfl
   intro A w hb hT0 hd0 K hK
   have e0 : A.tmps[15]?.getD undef = .string (tx ++ I) := hd0 5 15 (by kernel_rfl)
   clear hT0 hd0
   go_simp
   exact hK.out _ _ (Below.refl _ _) rfl
  exact StepsI.nil
 intro g wz hb hR
 have e6 : g 2 = .string (tx ++ I) := hR 6 2 (by decide) (by kernel_rfl)
 simp only [fillT, List.foldl_cons, List.foldl_nil, List.setIfInBounds_toArray, List.set_cons_zero, List.set_cons_succ]
 rw [e6]
 clear e6 hR hall kI
 go_wp2_with fail
 go_ret
 exact ⟨rfl, pb_call hgX.out hb⟩
set_option maxRecDepth 100000 in
set_option maxHeartbeats 3200000 in
theorem ex_T2 (tx : ByteArray) (ks : Fo) (kA : ks.all SpA) (hz : tx.size + wtL (foTx ks) ≤ 1099511627776) : SpA ⟨2, tx, 0, ks⟩ := by
 intro S pp qq w hO hT
 simp only at hT ⊢
 have gX := pb_new (Below.refl w.heap.size w) (.cells #[.int .i64 2, .string tx, .int .i64 0, .slice pp ks.len qq] 85)
 have qX := World.alloc_heap_new w (.cells #[.int .i64 2, .string tx, .int .i64 0, .slice pp ks.len qq] 85)
 have hO2 := hO.bel gX
 have hT2 := hT.kp (Below.kp gX _)
 obtain ⟨X, hX⟩ : ∃ X, w.alloc (.cells #[.int .i64 2, .string tx, .int .i64 0, .slice pp ks.len qq] 85) = X := ⟨_, rfl⟩
 obtain ⟨b, hb⟩ : ∃ b, w.heap.size = b := ⟨_, rfl⟩
 rw [hX] at gX qX hO2 hT2
 rw [hb] at qX
 have hgX : Hid (Below w.heap.size w X) := gX
 have hX' : Hid (w.alloc (.cells #[.int .i64 2, .string tx, .int .i64 0, .slice pp ks.len qq] 85) = X) := hX
 have hb' : Hid (w.heap.size = b) := hb
 have hO3 : Hid (OpsAt X) := hO2
 have e1 : exT ⟨2, tx, 0, ks⟩ = tx ++ ixT (foTx ks) tx0 := rfl
 rw [e1]
 have zI := ix_size (foTx ks) tx0
 have kI0 := fun V h1 h2 => pixT ks kA (by omega) S pp qq V h1 h2
 obtain ⟨I, hI⟩ : ∃ I, ixT (foTx ks) tx0 = I := ⟨_, rfl⟩
 rw [hI] at kI0 zI ⊢
 obtain ⟨nI, hnI⟩ : ∃ n, I.size = n := ⟨_, rfl⟩
 obtain ⟨nt, hnt⟩ : ∃ n, tx.size = n := ⟨_, rfl⟩
 have zs : nt + nI ≤ 1099511627776 := by rw [hnt] at hz; rw [hnI] at zI; have : (tx0 : ByteArray).size = 0 := rfl; omega
 have kI : ∀ V, Below X.heap.size X V → Calls Tryz.prog 74 #[.slice pp ks.len qq] V fun e' w' => e' = .returned (.string I) ∧ Below V.heap.size V w' := fun V g => kI0 V (hO3.out.bel g) (hT2.kp (Below.kp g _))
 obtain ⟨m, hm⟩ : ∃ m, ks.len = m := ⟨_, rfl⟩
 rw [hm] at qX kI hX'
 rw [hm]
 obtain ⟨f0, f1, f2, f3, ff⟩ := ex_cells qX
 have hall : ∀ X9, Below X.heap.size X X9 → (X9.cell? ⟨b, 1, none⟩ = some (.string tx) ∧ X9.cell? ⟨b, 3, none⟩ = some (.slice pp m qq)) := fun X9 g => ⟨pb_cell g f1, pb_cell g f3⟩
 clear hX hb gX hT hT2 hO hO2 kI0 hz zI hI hm
 go_enter Tryz.func75, Tryz.ntmps75
 go_upto_region 1 with fail
 rw [hX'.out]
 (try rw [hb'.out])
 clear hX' hb'
 go_upto_region 5 with fail
 refine wp_region_inv [10, 11, 12, 13, 14, 15, 2] (Rls [Eqv (.pointer (some ⟨b, 1, none⟩)), Eqv (.string tx), Eqv (.pointer (some ⟨b, 3, none⟩)), Eqv (.slice pp m qq), Eqv (.string I), Eqv (.string (tx ++ I)), Eqv (.string (tx ++ I))]) [0, 1, 2, 3, 4, 5, 6] (by kernel_rfl) (by kernel_rfl) (by kernel_rfl) (by kernel_rfl) (MonoL.of (MonoL.eq (MonoL.eq (MonoL.eq (MonoL.eq (MonoL.eq (MonoL.eq (MonoL.eq MonoL.nil)))))))) ?_ ?_
 ·skip
  refine StepsI.cons (o := _) rfl ?_ ?_
  ·try simp only [List.getElem_toArray, List.getElem_cons_zero, List.getElem_cons_succ]
   refine StepI.of ?_ ?_ ?_
   ·rfl
   ·kernel_rfl
   intro A w hb hT0 hd0 K hK
   have f0 : A.tmps[1]?.getD undef = .pointer (some ⟨b, 0, none⟩) := hT0 1 (by kernel_rfl)
   clear hT0 hd0
   go_simp
   exact hK.out _ _ (Below.refl _ _) rfl
  refine StepsI.cons (o := _) rfl ?_ ?_
  ·try simp only [List.getElem_toArray, List.getElem_cons_zero, List.getElem_cons_succ]
   refine StepI.of ?_ ?_ ?_
   ·rfl
   ·kernel_rfl
   intro A w hb hT0 hd0 K hK
   obtain ⟨z1, z3⟩ := hall w hb
   have e0 : A.tmps[10]?.getD undef = .pointer (some ⟨b, 1, none⟩) := hd0 0 10 (by kernel_rfl)
   clear hT0 hd0
   go_simp
   exact hK.out _ _ (Below.refl _ _) rfl
  refine StepsI.cons (o := _) rfl ?_ ?_
  ·try simp only [List.getElem_toArray, List.getElem_cons_zero, List.getElem_cons_succ]
   refine StepI.of ?_ ?_ ?_
   ·rfl
   ·kernel_rfl
   intro A w hb hT0 hd0 K hK
   have f0 : A.tmps[1]?.getD undef = .pointer (some ⟨b, 0, none⟩) := hT0 1 (by kernel_rfl)
   clear hT0 hd0
   go_simp
   exact hK.out _ _ (Below.refl _ _) rfl
  refine StepsI.cons (o := _) rfl ?_ ?_
  ·try simp only [List.getElem_toArray, List.getElem_cons_zero, List.getElem_cons_succ]
   refine StepI.of ?_ ?_ ?_
   ·rfl
   ·kernel_rfl
   intro A w hb hT0 hd0 K hK
   obtain ⟨z1, z3⟩ := hall w hb
   have e0 : A.tmps[12]?.getD undef = .pointer (some ⟨b, 3, none⟩) := hd0 2 12 (by kernel_rfl)
   clear hT0 hd0
   go_simp
   exact hK.out _ _ (Below.refl _ _) rfl
  refine StepsI.cons (o := _) rfl ?_ ?_
  ·try simp only [List.getElem_toArray, List.getElem_cons_zero, List.getElem_cons_succ]
   refine StepI.of ?_ ?_ ?_
   ·rfl
   ·kernel_rfl
   intro A w hb hT0 hd0 K hK
   have e0 : A.tmps[13]?.getD undef = .slice pp m qq := hd0 3 13 (by kernel_rfl)
   clear hT0 hd0
   go_simp
   refine (kI w hb).mono ?_
   rintro e w2 ⟨rfl, g⟩
   exact hK.out _ _ g (rfl)
  refine StepsI.cons (o := _) rfl ?_ ?_
  ·try simp only [List.getElem_toArray, List.getElem_cons_zero, List.getElem_cons_succ]
   refine StepI.of ?_ ?_ ?_
   ·rfl
   ·kernel_rfl
   intro A w hb hT0 hd0 K hK
   have e0 : A.tmps[11]?.getD undef = .string tx := hd0 1 11 (by kernel_rfl)
   have e1 : A.tmps[14]?.getD undef = .string I := hd0 4 14 (by kernel_rfl)
   clear hT0 hd0
   have nq : ¬ 9223372036854775807 < nt + nI := by omega
   go_simp
   exact hK.out _ _ (Below.refl _ _) rfl
  refine StepsI.cons (o := _) rfl ?_ ?_
  ·try simp only [List.getElem_toArray, List.getElem_cons_zero, List.getElem_cons_succ]
   refine StepI.of ?_ ?_ ?_
   ·rfl
   ·kernel_rfl
   intro A w hb hT0 hd0 K hK
   have e0 : A.tmps[15]?.getD undef = .string (tx ++ I) := hd0 5 15 (by kernel_rfl)
   clear hT0 hd0
   go_simp
   exact hK.out _ _ (Below.refl _ _) rfl
  exact StepsI.nil
 intro g wz hb hR
 have e6 : g 2 = .string (tx ++ I) := hR 6 2 (by decide) (by kernel_rfl)
 simp only [fillT, List.foldl_cons, List.foldl_nil, List.setIfInBounds_toArray, List.set_cons_zero, List.set_cons_succ]
 rw [e6]
 clear e6 hR hall kI
 go_wp2_with fail
 go_ret
 exact ⟨rfl, pb_call hgX.out hb⟩
set_option maxRecDepth 100000 in
set_option maxHeartbeats 3200000 in
theorem ex_T3 (tx : ByteArray) (ks : Fo) (kA : ks.all SpA) (hz : tx.size + wtL (foTx ks) ≤ 1099511627776) : SpA ⟨3, tx, 0, ks⟩ := by
 intro S pp qq w hO hT
 simp only at hT ⊢
 have gX := pb_new (Below.refl w.heap.size w) (.cells #[.int .i64 3, .string tx, .int .i64 0, .slice pp ks.len qq] 85)
 have qX := World.alloc_heap_new w (.cells #[.int .i64 3, .string tx, .int .i64 0, .slice pp ks.len qq] 85)
 have hO2 := hO.bel gX
 have hT2 := hT.kp (Below.kp gX _)
 obtain ⟨X, hX⟩ : ∃ X, w.alloc (.cells #[.int .i64 3, .string tx, .int .i64 0, .slice pp ks.len qq] 85) = X := ⟨_, rfl⟩
 obtain ⟨b, hb⟩ : ∃ b, w.heap.size = b := ⟨_, rfl⟩
 rw [hX] at gX qX hO2 hT2
 rw [hb] at qX
 have hgX : Hid (Below w.heap.size w X) := gX
 have hX' : Hid (w.alloc (.cells #[.int .i64 3, .string tx, .int .i64 0, .slice pp ks.len qq] 85) = X) := hX
 have hb' : Hid (w.heap.size = b) := hb
 have hO3 : Hid (OpsAt X) := hO2
 have e1 : exT ⟨3, tx, 0, ks⟩ = tx ++ ixT (foTx ks) tx0 := rfl
 rw [e1]
 have zI := ix_size (foTx ks) tx0
 have kI0 := fun V h1 h2 => pixT ks kA (by omega) S pp qq V h1 h2
 obtain ⟨I, hI⟩ : ∃ I, ixT (foTx ks) tx0 = I := ⟨_, rfl⟩
 rw [hI] at kI0 zI ⊢
 obtain ⟨nI, hnI⟩ : ∃ n, I.size = n := ⟨_, rfl⟩
 obtain ⟨nt, hnt⟩ : ∃ n, tx.size = n := ⟨_, rfl⟩
 have zs : nt + nI ≤ 1099511627776 := by rw [hnt] at hz; rw [hnI] at zI; have : (tx0 : ByteArray).size = 0 := rfl; omega
 have kI : ∀ V, Below X.heap.size X V → Calls Tryz.prog 74 #[.slice pp ks.len qq] V fun e' w' => e' = .returned (.string I) ∧ Below V.heap.size V w' := fun V g => kI0 V (hO3.out.bel g) (hT2.kp (Below.kp g _))
 obtain ⟨m, hm⟩ : ∃ m, ks.len = m := ⟨_, rfl⟩
 rw [hm] at qX kI hX'
 rw [hm]
 obtain ⟨f0, f1, f2, f3, ff⟩ := ex_cells qX
 have hall : ∀ X9, Below X.heap.size X X9 → (X9.cell? ⟨b, 1, none⟩ = some (.string tx) ∧ X9.cell? ⟨b, 3, none⟩ = some (.slice pp m qq)) := fun X9 g => ⟨pb_cell g f1, pb_cell g f3⟩
 clear hX hb gX hT hT2 hO hO2 kI0 hz zI hI hm
 go_enter Tryz.func75, Tryz.ntmps75
 go_upto_region 1 with fail
 rw [hX'.out]
 (try rw [hb'.out])
 clear hX' hb'
 go_upto_region 5 with fail
 refine wp_region_inv [10, 11, 12, 13, 14, 15, 2] (Rls [Eqv (.pointer (some ⟨b, 1, none⟩)), Eqv (.string tx), Eqv (.pointer (some ⟨b, 3, none⟩)), Eqv (.slice pp m qq), Eqv (.string I), Eqv (.string (tx ++ I)), Eqv (.string (tx ++ I))]) [0, 1, 2, 3, 4, 5, 6] (by kernel_rfl) (by kernel_rfl) (by kernel_rfl) (by kernel_rfl) (MonoL.of (MonoL.eq (MonoL.eq (MonoL.eq (MonoL.eq (MonoL.eq (MonoL.eq (MonoL.eq MonoL.nil)))))))) ?_ ?_
 ·skip
  refine StepsI.cons (o := _) rfl ?_ ?_
  ·try simp only [List.getElem_toArray, List.getElem_cons_zero, List.getElem_cons_succ]
   refine StepI.of ?_ ?_ ?_
   ·rfl
   ·kernel_rfl
   intro A w hb hT0 hd0 K hK
   have f0 : A.tmps[1]?.getD undef = .pointer (some ⟨b, 0, none⟩) := hT0 1 (by kernel_rfl)
   clear hT0 hd0
   go_simp
   exact hK.out _ _ (Below.refl _ _) rfl
  refine StepsI.cons (o := _) rfl ?_ ?_
  ·try simp only [List.getElem_toArray, List.getElem_cons_zero, List.getElem_cons_succ]
   refine StepI.of ?_ ?_ ?_
   ·rfl
   ·kernel_rfl
   intro A w hb hT0 hd0 K hK
   obtain ⟨z1, z3⟩ := hall w hb
   have e0 : A.tmps[10]?.getD undef = .pointer (some ⟨b, 1, none⟩) := hd0 0 10 (by kernel_rfl)
   clear hT0 hd0
   go_simp
   exact hK.out _ _ (Below.refl _ _) rfl
  refine StepsI.cons (o := _) rfl ?_ ?_
  ·try simp only [List.getElem_toArray, List.getElem_cons_zero, List.getElem_cons_succ]
   refine StepI.of ?_ ?_ ?_
   ·rfl
   ·kernel_rfl
   intro A w hb hT0 hd0 K hK
   have f0 : A.tmps[1]?.getD undef = .pointer (some ⟨b, 0, none⟩) := hT0 1 (by kernel_rfl)
   clear hT0 hd0
   go_simp
   exact hK.out _ _ (Below.refl _ _) rfl
  refine StepsI.cons (o := _) rfl ?_ ?_
  ·try simp only [List.getElem_toArray, List.getElem_cons_zero, List.getElem_cons_succ]
   refine StepI.of ?_ ?_ ?_
   ·rfl
   ·kernel_rfl
   intro A w hb hT0 hd0 K hK
   obtain ⟨z1, z3⟩ := hall w hb
   have e0 : A.tmps[12]?.getD undef = .pointer (some ⟨b, 3, none⟩) := hd0 2 12 (by kernel_rfl)
   clear hT0 hd0
   go_simp
   exact hK.out _ _ (Below.refl _ _) rfl
  refine StepsI.cons (o := _) rfl ?_ ?_
  ·try simp only [List.getElem_toArray, List.getElem_cons_zero, List.getElem_cons_succ]
   refine StepI.of ?_ ?_ ?_
   ·rfl
   ·kernel_rfl
   intro A w hb hT0 hd0 K hK
   have e0 : A.tmps[13]?.getD undef = .slice pp m qq := hd0 3 13 (by kernel_rfl)
   clear hT0 hd0
   go_simp
   refine (kI w hb).mono ?_
   rintro e w2 ⟨rfl, g⟩
   exact hK.out _ _ g (rfl)
  refine StepsI.cons (o := _) rfl ?_ ?_
  ·try simp only [List.getElem_toArray, List.getElem_cons_zero, List.getElem_cons_succ]
   refine StepI.of ?_ ?_ ?_
   ·rfl
   ·kernel_rfl
   intro A w hb hT0 hd0 K hK
   have e0 : A.tmps[11]?.getD undef = .string tx := hd0 1 11 (by kernel_rfl)
   have e1 : A.tmps[14]?.getD undef = .string I := hd0 4 14 (by kernel_rfl)
   clear hT0 hd0
   have nq : ¬ 9223372036854775807 < nt + nI := by omega
   go_simp
   exact hK.out _ _ (Below.refl _ _) rfl
  refine StepsI.cons (o := _) rfl ?_ ?_
  ·try simp only [List.getElem_toArray, List.getElem_cons_zero, List.getElem_cons_succ]
   refine StepI.of ?_ ?_ ?_
   ·rfl
   ·kernel_rfl
   intro A w hb hT0 hd0 K hK
   have e0 : A.tmps[15]?.getD undef = .string (tx ++ I) := hd0 5 15 (by kernel_rfl)
   clear hT0 hd0
   go_simp
   exact hK.out _ _ (Below.refl _ _) rfl
  exact StepsI.nil
 intro g wz hb hR
 have e6 : g 2 = .string (tx ++ I) := hR 6 2 (by decide) (by kernel_rfl)
 simp only [fillT, List.foldl_cons, List.foldl_nil, List.setIfInBounds_toArray, List.set_cons_zero, List.set_cons_succ]
 rw [e6]
 clear e6 hR hall kI
 go_wp2_with fail
 go_ret
 exact ⟨rfl, pb_call hgX.out hb⟩
set_option maxRecDepth 100000 in
set_option maxHeartbeats 3200000 in
theorem ex_T4 (a : Int) (b1 : ByteArray) (c1 : Int) (k : Fo) (kA : SpA ⟨a, b1, c1, k⟩) (hz : (exTx a b1 c1 (foTx k)).size ≤ 549755813888) : SpA ⟨4, tx0, 0, .cons a b1 c1 k .nil⟩ := by
 intro S pp qq w hO hT
 simp only at hT ⊢
 have gX := pb_new (Below.refl w.heap.size w) (.cells #[.int .i64 4, .string tx0, .int .i64 0, .slice pp (Fo.cons a b1 c1 k .nil).len qq] 85)
 have qX := World.alloc_heap_new w (.cells #[.int .i64 4, .string tx0, .int .i64 0, .slice pp (Fo.cons a b1 c1 k .nil).len qq] 85)
 have hO2 := hO.bel gX
 have hT2 := hT.kp (Below.kp gX _)
 obtain ⟨X, hX⟩ : ∃ X, w.alloc (.cells #[.int .i64 4, .string tx0, .int .i64 0, .slice pp (Fo.cons a b1 c1 k .nil).len qq] 85) = X := ⟨_, rfl⟩
 obtain ⟨b, hb⟩ : ∃ b, w.heap.size = b := ⟨_, rfl⟩
 rw [hX] at gX qX hO2 hT2
 rw [hb] at qX
 have hgX : Hid (Below w.heap.size w X) := gX
 have hX' : Hid (w.alloc (.cells #[.int .i64 4, .string tx0, .int .i64 0, .slice pp (Fo.cons a b1 c1 k .nil).len qq] 85) = X) := hX
 have hb' : Hid (w.heap.size = b) := hb
 have hO3 : Hid (OpsAt X) := hO2
 obtain ⟨p2, q2, e2, hK⟩ := hT2
 obtain ⟨rfl, e4, rfl⟩ := Value.slice.inj e2
 clear e2 e4
 rcases hK with hK | ⟨c, u, rfl, hK⟩
 ·cases hK
 obtain ⟨⟨k0, k1, k2, s3, k3, hs3⟩, _, lc⟩ := hK.head
 obtain ⟨p3, q3, rfl, hs3'⟩ := hs3
 have e1 : exT ⟨4, tx0, 0, .cons a b1 c1 k .nil⟩ = tMi ++ kdT 5 (exT ⟨a, b1, c1, k⟩, a) := rfl
 rw [e1]
 have zI := kd_size 5 (exT ⟨a, b1, c1, k⟩, a)
 have zE : (exT ⟨a, b1, c1, k⟩).size ≤ 549755813888 := hz
 have kI := pkidT ⟨a, b1, c1, k⟩ kA (by omega) 5 S p3 q3 X hO2 ⟨p3, q3, rfl, hs3'⟩
 simp only at kI zI
 obtain ⟨I, hI⟩ : ∃ I, kdT 5 (exT ⟨a, b1, c1, k⟩, a) = I := ⟨_, rfl⟩
 rw [hI] at kI zI ⊢
 obtain ⟨nI, hnI⟩ : ∃ n, I.size = n := ⟨_, rfl⟩
 have zs : 1 + nI ≤ 1099511627776 := by omega
 have s1 : (⟨#[45]⟩ : ByteArray).size = 1 := rfl
 have ix := ex_ix0 c u 1 qq (by decide)
 have el : (Fo.cons a b1 c1 k .nil).len = 1 := rfl
 rw [el] at qX hX'
 rw [el]
 obtain ⟨f0, f1, f2, f3, ff⟩ := ex_cells qX
 clear hX hb gX hT hO hO2 hz zI hI hK hs3' lc zE
 go_enter Tryz.func75, Tryz.ntmps75
 go_upto_region 1 with fail
 rw [hX'.out]
 (try rw [hb'.out])
 clear hX' hb'
 go_wp2_with (first
  | (go_at_call 93; (refine kI.mono ?_); rintro e v1 ⟨rfl, g1⟩)
  | fail)
 go_ret
 exact ⟨rfl, pb_call hgX.out g1⟩
set_option maxRecDepth 100000 in
set_option maxHeartbeats 3200000 in
theorem ex_T20 (a : Int) (b1 : ByteArray) (c1 : Int) (k : Fo) (kA : SpA ⟨a, b1, c1, k⟩) (hz : (exTx a b1 c1 (foTx k)).size ≤ 549755813888) : SpA ⟨20, tx0, 0, .cons a b1 c1 k .nil⟩ := by
 intro S pp qq w hO hT
 simp only at hT ⊢
 have gX := pb_new (Below.refl w.heap.size w) (.cells #[.int .i64 20, .string tx0, .int .i64 0, .slice pp (Fo.cons a b1 c1 k .nil).len qq] 85)
 have qX := World.alloc_heap_new w (.cells #[.int .i64 20, .string tx0, .int .i64 0, .slice pp (Fo.cons a b1 c1 k .nil).len qq] 85)
 have hO2 := hO.bel gX
 have hT2 := hT.kp (Below.kp gX _)
 obtain ⟨X, hX⟩ : ∃ X, w.alloc (.cells #[.int .i64 20, .string tx0, .int .i64 0, .slice pp (Fo.cons a b1 c1 k .nil).len qq] 85) = X := ⟨_, rfl⟩
 obtain ⟨b, hb⟩ : ∃ b, w.heap.size = b := ⟨_, rfl⟩
 rw [hX] at gX qX hO2 hT2
 rw [hb] at qX
 have hgX : Hid (Below w.heap.size w X) := gX
 have hX' : Hid (w.alloc (.cells #[.int .i64 20, .string tx0, .int .i64 0, .slice pp (Fo.cons a b1 c1 k .nil).len qq] 85) = X) := hX
 have hb' : Hid (w.heap.size = b) := hb
 have hO3 : Hid (OpsAt X) := hO2
 obtain ⟨p2, q2, e2, hK⟩ := hT2
 obtain ⟨rfl, e4, rfl⟩ := Value.slice.inj e2
 clear e2 e4
 rcases hK with hK | ⟨c, u, rfl, hK⟩
 ·cases hK
 obtain ⟨⟨k0, k1, k2, s3, k3, hs3⟩, _, lc⟩ := hK.head
 obtain ⟨p3, q3, rfl, hs3'⟩ := hs3
 have e1 : exT ⟨20, tx0, 0, .cons a b1 c1 k .nil⟩ = tNo ++ kdT 5 (exT ⟨a, b1, c1, k⟩, a) := rfl
 rw [e1]
 have zI := kd_size 5 (exT ⟨a, b1, c1, k⟩, a)
 have zE : (exT ⟨a, b1, c1, k⟩).size ≤ 549755813888 := hz
 have kI := pkidT ⟨a, b1, c1, k⟩ kA (by omega) 5 S p3 q3 X hO2 ⟨p3, q3, rfl, hs3'⟩
 simp only at kI zI
 obtain ⟨I, hI⟩ : ∃ I, kdT 5 (exT ⟨a, b1, c1, k⟩, a) = I := ⟨_, rfl⟩
 rw [hI] at kI zI ⊢
 obtain ⟨nI, hnI⟩ : ∃ n, I.size = n := ⟨_, rfl⟩
 have zs : 1 + nI ≤ 1099511627776 := by omega
 have s1 : (⟨#[33]⟩ : ByteArray).size = 1 := rfl
 have ix := ex_ix0 c u 1 qq (by decide)
 have el : (Fo.cons a b1 c1 k .nil).len = 1 := rfl
 rw [el] at qX hX'
 rw [el]
 obtain ⟨f0, f1, f2, f3, ff⟩ := ex_cells qX
 clear hX hb gX hT hO hO2 hz zI hI hK hs3' lc zE
 go_enter Tryz.func75, Tryz.ntmps75
 go_upto_region 1 with fail
 rw [hX'.out]
 (try rw [hb'.out])
 clear hX' hb'
 go_wp2_with (first
  | (go_at_call 93; (refine kI.mono ?_); rintro e v1 ⟨rfl, g1⟩)
  | fail)
 go_ret
 exact ⟨rfl, pb_call hgX.out g1⟩
set_option maxRecDepth 100000 in
set_option maxHeartbeats 3200000 in
theorem ex_T5 (a : Int) (b1 : ByteArray) (c1 : Int) (k : Fo) (kA : SpA ⟨a, b1, c1, k⟩) (hz : (exTx a b1 c1 (foTx k)).size ≤ 549755813888) : SpA ⟨5, tx0, 0, .cons a b1 c1 k .nil⟩ := by
 intro S pp qq w hO hT
 simp only at hT ⊢
 have gX := pb_new (Below.refl w.heap.size w) (.cells #[.int .i64 5, .string tx0, .int .i64 0, .slice pp (Fo.cons a b1 c1 k .nil).len qq] 85)
 have qX := World.alloc_heap_new w (.cells #[.int .i64 5, .string tx0, .int .i64 0, .slice pp (Fo.cons a b1 c1 k .nil).len qq] 85)
 have hO2 := hO.bel gX
 have hT2 := hT.kp (Below.kp gX _)
 obtain ⟨X, hX⟩ : ∃ X, w.alloc (.cells #[.int .i64 5, .string tx0, .int .i64 0, .slice pp (Fo.cons a b1 c1 k .nil).len qq] 85) = X := ⟨_, rfl⟩
 obtain ⟨b, hb⟩ : ∃ b, w.heap.size = b := ⟨_, rfl⟩
 rw [hX] at gX qX hO2 hT2
 rw [hb] at qX
 have hgX : Hid (Below w.heap.size w X) := gX
 have hX' : Hid (w.alloc (.cells #[.int .i64 5, .string tx0, .int .i64 0, .slice pp (Fo.cons a b1 c1 k .nil).len qq] 85) = X) := hX
 have hb' : Hid (w.heap.size = b) := hb
 have hO3 : Hid (OpsAt X) := hO2
 obtain ⟨p2, q2, e2, hK⟩ := hT2
 obtain ⟨rfl, e4, rfl⟩ := Value.slice.inj e2
 clear e2 e4
 rcases hK with hK | ⟨c, u, rfl, hK⟩
 ·cases hK
 obtain ⟨⟨k0, k1, k2, s3, k3, hs3⟩, _, lc⟩ := hK.head
 obtain ⟨p3, q3, rfl, hs3'⟩ := hs3
 have e1 : exT ⟨5, tx0, 0, .cons a b1 c1 k .nil⟩ = tAbp ++ exT ⟨a, b1, c1, k⟩ ++ tRp := rfl
 rw [e1]
 have zE : (exT ⟨a, b1, c1, k⟩).size ≤ 549755813888 := hz
 have kI := kA S p3 q3 X hO2 ⟨p3, q3, rfl, hs3'⟩
 simp only at kI
 obtain ⟨I, hI⟩ : ∃ I, exT ⟨a, b1, c1, k⟩ = I := ⟨_, rfl⟩
 rw [hI] at kI zE ⊢
 obtain ⟨nI, hnI⟩ : ∃ n, I.size = n := ⟨_, rfl⟩
 have zs : nI ≤ 549755813888 := by omega
 have s1 : (⟨#[97, 98, 115, 40]⟩ : ByteArray).size = 4 := rfl
 have s2 : (⟨#[41]⟩ : ByteArray).size = 1 := rfl
 have s3 : ((⟨#[97, 98, 115, 40]⟩ : ByteArray) ++ I).size = 4 + nI := by rw [z_app, hnI]; rfl
 have ix := ex_ix0 c u 1 qq (by decide)
 have el : (Fo.cons a b1 c1 k .nil).len = 1 := rfl
 rw [el] at qX hX'
 rw [el]
 obtain ⟨f0, f1, f2, f3, ff⟩ := ex_cells qX
 clear hX hb gX hT hO hO2 hz hI hK hs3' lc zE
 go_enter Tryz.func75, Tryz.ntmps75
 go_upto_region 1 with fail
 rw [hX'.out]
 (try rw [hb'.out])
 clear hX' hb'
 go_wp2_with (first
  | (go_at_call 75; (refine kI.mono ?_); rintro e v1 ⟨rfl, g1⟩)
  | fail)
 go_ret
 exact ⟨rfl, pb_call hgX.out g1⟩
set_option maxRecDepth 100000 in
set_option maxHeartbeats 3200000 in
theorem ex_T6 (a : Int) (b1 : ByteArray) (c1 : Int) (k : Fo) (kA : SpA ⟨a, b1, c1, k⟩) (hz : (exTx a b1 c1 (foTx k)).size ≤ 549755813888) : SpA ⟨6, tx0, 0, .cons a b1 c1 k .nil⟩ := by
 intro S pp qq w hO hT
 simp only at hT ⊢
 have gX := pb_new (Below.refl w.heap.size w) (.cells #[.int .i64 6, .string tx0, .int .i64 0, .slice pp (Fo.cons a b1 c1 k .nil).len qq] 85)
 have qX := World.alloc_heap_new w (.cells #[.int .i64 6, .string tx0, .int .i64 0, .slice pp (Fo.cons a b1 c1 k .nil).len qq] 85)
 have hO2 := hO.bel gX
 have hT2 := hT.kp (Below.kp gX _)
 obtain ⟨X, hX⟩ : ∃ X, w.alloc (.cells #[.int .i64 6, .string tx0, .int .i64 0, .slice pp (Fo.cons a b1 c1 k .nil).len qq] 85) = X := ⟨_, rfl⟩
 obtain ⟨b, hb⟩ : ∃ b, w.heap.size = b := ⟨_, rfl⟩
 rw [hX] at gX qX hO2 hT2
 rw [hb] at qX
 have hgX : Hid (Below w.heap.size w X) := gX
 have hX' : Hid (w.alloc (.cells #[.int .i64 6, .string tx0, .int .i64 0, .slice pp (Fo.cons a b1 c1 k .nil).len qq] 85) = X) := hX
 have hb' : Hid (w.heap.size = b) := hb
 have hO3 : Hid (OpsAt X) := hO2
 obtain ⟨p2, q2, e2, hK⟩ := hT2
 obtain ⟨rfl, e4, rfl⟩ := Value.slice.inj e2
 clear e2 e4
 rcases hK with hK | ⟨c, u, rfl, hK⟩
 ·cases hK
 obtain ⟨⟨k0, k1, k2, s3, k3, hs3⟩, _, lc⟩ := hK.head
 obtain ⟨p3, q3, rfl, hs3'⟩ := hs3
 have e1 : exT ⟨6, tx0, 0, .cons a b1 c1 k .nil⟩ = tSqp ++ exT ⟨a, b1, c1, k⟩ ++ tRp := rfl
 rw [e1]
 have zE : (exT ⟨a, b1, c1, k⟩).size ≤ 549755813888 := hz
 have kI := kA S p3 q3 X hO2 ⟨p3, q3, rfl, hs3'⟩
 simp only at kI
 obtain ⟨I, hI⟩ : ∃ I, exT ⟨a, b1, c1, k⟩ = I := ⟨_, rfl⟩
 rw [hI] at kI zE ⊢
 obtain ⟨nI, hnI⟩ : ∃ n, I.size = n := ⟨_, rfl⟩
 have zs : nI ≤ 549755813888 := by omega
 have s1 : (⟨#[115, 113, 114, 116, 40]⟩ : ByteArray).size = 5 := rfl
 have s2 : (⟨#[41]⟩ : ByteArray).size = 1 := rfl
 have s3 : ((⟨#[115, 113, 114, 116, 40]⟩ : ByteArray) ++ I).size = 5 + nI := by rw [z_app, hnI]; rfl
 have ix := ex_ix0 c u 1 qq (by decide)
 have el : (Fo.cons a b1 c1 k .nil).len = 1 := rfl
 rw [el] at qX hX'
 rw [el]
 obtain ⟨f0, f1, f2, f3, ff⟩ := ex_cells qX
 clear hX hb gX hT hO hO2 hz hI hK hs3' lc zE
 go_enter Tryz.func75, Tryz.ntmps75
 go_upto_region 1 with fail
 rw [hX'.out]
 (try rw [hb'.out])
 clear hX' hb'
 go_wp2_with (first
  | (go_at_call 75; (refine kI.mono ?_); rintro e v1 ⟨rfl, g1⟩)
  | fail)
 go_ret
 exact ⟨rfl, pb_call hgX.out g1⟩
set_option maxRecDepth 100000 in
set_option maxHeartbeats 3200000 in
theorem ex_T7 (ty : Int) (a : Int) (b1 : ByteArray) (c1 : Int) (k : Fo) (kA : SpA ⟨a, b1, c1, k⟩) (hz : (exTx a b1 c1 (foTx k)).size ≤ 549755813888) : SpA ⟨7, tx0, ty, .cons a b1 c1 k .nil⟩ := by
 intro S pp qq w hO hT
 simp only at hT ⊢
 have gX := pb_new (Below.refl w.heap.size w) (.cells #[.int .i64 7, .string tx0, .int .i64 ty, .slice pp (Fo.cons a b1 c1 k .nil).len qq] 85)
 have qX := World.alloc_heap_new w (.cells #[.int .i64 7, .string tx0, .int .i64 ty, .slice pp (Fo.cons a b1 c1 k .nil).len qq] 85)
 have hO2 := hO.bel gX
 have hT2 := hT.kp (Below.kp gX _)
 obtain ⟨X, hX⟩ : ∃ X, w.alloc (.cells #[.int .i64 7, .string tx0, .int .i64 ty, .slice pp (Fo.cons a b1 c1 k .nil).len qq] 85) = X := ⟨_, rfl⟩
 obtain ⟨b, hb⟩ : ∃ b, w.heap.size = b := ⟨_, rfl⟩
 rw [hX] at gX qX hO2 hT2
 rw [hb] at qX
 have hgX : Hid (Below w.heap.size w X) := gX
 have hX' : Hid (w.alloc (.cells #[.int .i64 7, .string tx0, .int .i64 ty, .slice pp (Fo.cons a b1 c1 k .nil).len qq] 85) = X) := hX
 have hb' : Hid (w.heap.size = b) := hb
 have hO3 : Hid (OpsAt X) := hO2
 obtain ⟨p2, q2, e2, hK⟩ := hT2
 obtain ⟨rfl, e4, rfl⟩ := Value.slice.inj e2
 clear e2 e4
 rcases hK with hK | ⟨c, u, rfl, hK⟩
 ·cases hK
 obtain ⟨⟨k0, k1, k2, s3, k3, hs3⟩, _, lc⟩ := hK.head
 obtain ⟨p3, q3, rfl, hs3'⟩ := hs3
 have e1 : exT ⟨7, tx0, ty, .cons a b1 c1 k .nil⟩ = wdOf ty ++ tLp ++ exT ⟨a, b1, c1, k⟩ ++ tRp := rfl
 rw [e1]
 have zE : (exT ⟨a, b1, c1, k⟩).size ≤ 549755813888 := hz
 have zW := wd_size ty
 have kW := pword ty
 have kI : ∀ V, Below X.heap.size X V → Calls Tryz.prog 75 #[.agg #[.int .i64 a, .string b1, .int .i64 c1, .slice p3 k.len q3]] V fun e' w' => e' = .returned (.string (exT ⟨a, b1, c1, k⟩)) ∧ Below V.heap.size V w' := fun V g => kA S p3 q3 V (hO3.out.bel g) ((show SlF X S (.slice p3 k.len q3) k from ⟨p3, q3, rfl, hs3'⟩).kp (Below.kp g _))
 obtain ⟨I, hI⟩ : ∃ I, exT ⟨a, b1, c1, k⟩ = I := ⟨_, rfl⟩
 obtain ⟨W, hW⟩ : ∃ W, wdOf ty = W := ⟨_, rfl⟩
 rw [hI] at kI zE ⊢
 rw [hW] at kW zW ⊢
 obtain ⟨nI, hnI⟩ : ∃ n, I.size = n := ⟨_, rfl⟩
 obtain ⟨nW, hnW⟩ : ∃ n, W.size = n := ⟨_, rfl⟩
 have zs : nI ≤ 549755813888 := by omega
 have zw : nW ≤ 6 := by omega
 have s1 : (⟨#[40]⟩ : ByteArray).size = 1 := rfl
 have s2 : (⟨#[41]⟩ : ByteArray).size = 1 := rfl
 have s3 : (W ++ (⟨#[40]⟩ : ByteArray)).size = nW + 1 := by rw [z_app, hnW]; rfl
 have s4 : (W ++ (⟨#[40]⟩ : ByteArray) ++ I).size = nW + 1 + nI := by rw [z_app, s3, hnI]
 have ix := ex_ix0 c u 1 qq (by decide)
 have el : (Fo.cons a b1 c1 k .nil).len = 1 := rfl
 rw [el] at qX hX'
 rw [el]
 obtain ⟨f0, f1, f2, f3, ff⟩ := ex_cells qX
 clear hs3'
 generalize k.len = n3 at *
 have hall : ∀ X9, Below X.heap.size X X9 → (X9.cell? ⟨b, 2, none⟩ = some (.int .i64 ty) ∧ X9.cell? ⟨b, 3, none⟩ = some (.slice (some ⟨c, u, none⟩) 1 qq) ∧ X9.cell? ⟨c, u, none⟩ = some (.int .i64 a) ∧ X9.cell? ⟨c, u + 1, none⟩ = some (.string b1) ∧ X9.cell? ⟨c, u + 2, none⟩ = some (.int .i64 c1) ∧ X9.cell? ⟨c, u + 3, none⟩ = some (.slice p3 n3 q3)) := fun X9 g => ⟨pb_cell g f2, pb_cell g f3, pb_cell g k0, pb_cell g k1, pb_cell g k2, pb_cell g k3⟩
 clear hX hb gX hT hO hO2 hz hI hK lc zE hW zW
 go_enter Tryz.func75, Tryz.ntmps75
 go_upto_region 1 with fail
 rw [hX'.out]
 (try rw [hb'.out])
 clear hX' hb'
 go_upto_region 15 with fail
 refine wp_region_inv [52, 53, 54, 55, 56, 57, 58, 59, 60, 61, 62, 2] (Rls [Eqv (.pointer (some ⟨b, 2, none⟩)), Eqv (.int .i64 ty), Eqv (.string W), Eqv (.string (W ++ ⟨#[40]⟩)), Eqv (.pointer (some ⟨b, 3, none⟩)), Eqv (.slice (some ⟨c, u, none⟩) 1 qq), Eqv (.pointer (some ⟨c, u, none⟩)), Eqv (.agg #[.int .i64 a, .string b1, .int .i64 c1, .slice p3 n3 q3]), Eqv (.string I), Eqv (.string (W ++ ⟨#[40]⟩ ++ I)), Eqv (.string (W ++ ⟨#[40]⟩ ++ I ++ ⟨#[41]⟩)), Eqv (.string (W ++ ⟨#[40]⟩ ++ I ++ ⟨#[41]⟩))]) [0, 1, 2, 3, 4, 5, 6, 7, 8, 9, 10, 11] (by kernel_rfl) (by kernel_rfl) (by kernel_rfl) (by kernel_rfl) (MonoL.of (MonoL.eq (MonoL.eq (MonoL.eq (MonoL.eq (MonoL.eq (MonoL.eq (MonoL.eq (MonoL.eq (MonoL.eq (MonoL.eq (MonoL.eq (MonoL.eq MonoL.nil))))))))))))) ?_ ?_
 ·skip
  refine StepsI.cons (o := _) rfl ?_ ?_
  ·try simp only [List.getElem_toArray, List.getElem_cons_zero, List.getElem_cons_succ]
   refine StepI.of ?_ ?_ ?_
   ·rfl
   ·kernel_rfl
   intro A w hb hT0 hd0 K hK
   have f0 : A.tmps[1]?.getD undef = .pointer (some ⟨b, 0, none⟩) := hT0 1 (by kernel_rfl)
   clear hT0 hd0
   go_simp
   exact hK.out _ _ (Below.refl _ _) rfl
  refine StepsI.cons (o := _) rfl ?_ ?_
  ·try simp only [List.getElem_toArray, List.getElem_cons_zero, List.getElem_cons_succ]
   refine StepI.of ?_ ?_ ?_
   ·rfl
   ·kernel_rfl
   intro A w hb hT0 hd0 K hK
   obtain ⟨z2, z3, y0, y1, y2, y3⟩ := hall w hb
   have e0 : A.tmps[52]?.getD undef = .pointer (some ⟨b, 2, none⟩) := hd0 0 52 (by kernel_rfl)
   clear hT0 hd0
   go_simp
   exact hK.out _ _ (Below.refl _ _) rfl
  refine StepsI.cons (o := _) rfl ?_ ?_
  ·try simp only [List.getElem_toArray, List.getElem_cons_zero, List.getElem_cons_succ]
   refine StepI.of ?_ ?_ ?_
   ·rfl
   ·kernel_rfl
   intro A w hb hT0 hd0 K hK
   have e0 : A.tmps[53]?.getD undef = .int .i64 ty := hd0 1 53 (by kernel_rfl)
   clear hT0 hd0
   go_simp
   refine (kW w).mono ?_
   rintro e w2 ⟨rfl, rfl⟩
   exact hK.out _ _ (Below.refl _ _) rfl
  refine StepsI.cons (o := _) rfl ?_ ?_
  ·try simp only [List.getElem_toArray, List.getElem_cons_zero, List.getElem_cons_succ]
   refine StepI.of ?_ ?_ ?_
   ·rfl
   ·kernel_rfl
   intro A w hb hT0 hd0 K hK
   have e0 : A.tmps[54]?.getD undef = .string W := hd0 2 54 (by kernel_rfl)
   clear hT0 hd0
   have nq : ¬ 9223372036854775807 < nW + 1 := by omega
   go_simp
   exact hK.out _ _ (Below.refl _ _) rfl
  refine StepsI.cons (o := _) rfl ?_ ?_
  ·try simp only [List.getElem_toArray, List.getElem_cons_zero, List.getElem_cons_succ]
   refine StepI.of ?_ ?_ ?_
   ·rfl
   ·kernel_rfl
   intro A w hb hT0 hd0 K hK
   have f0 : A.tmps[1]?.getD undef = .pointer (some ⟨b, 0, none⟩) := hT0 1 (by kernel_rfl)
   clear hT0 hd0
   go_simp
   exact hK.out _ _ (Below.refl _ _) rfl
  refine StepsI.cons (o := _) rfl ?_ ?_
  ·try simp only [List.getElem_toArray, List.getElem_cons_zero, List.getElem_cons_succ]
   refine StepI.of ?_ ?_ ?_
   ·rfl
   ·kernel_rfl
   intro A w hb hT0 hd0 K hK
   obtain ⟨z2, z3, y0, y1, y2, y3⟩ := hall w hb
   have e0 : A.tmps[56]?.getD undef = .pointer (some ⟨b, 3, none⟩) := hd0 4 56 (by kernel_rfl)
   clear hT0 hd0
   go_simp
   exact hK.out _ _ (Below.refl _ _) rfl
  refine StepsI.cons (o := _) rfl ?_ ?_
  ·try simp only [List.getElem_toArray, List.getElem_cons_zero, List.getElem_cons_succ]
   refine StepI.of ?_ ?_ ?_
   ·rfl
   ·kernel_rfl
   intro A w hb hT0 hd0 K hK
   have e0 : A.tmps[57]?.getD undef = .slice (some ⟨c, u, none⟩) 1 qq := hd0 5 57 (by kernel_rfl)
   clear hT0 hd0
   go_simp
   exact hK.out _ _ (Below.refl _ _) rfl
  refine StepsI.cons (o := _) rfl ?_ ?_
  ·try simp only [List.getElem_toArray, List.getElem_cons_zero, List.getElem_cons_succ]
   refine StepI.of ?_ ?_ ?_
   ·rfl
   ·kernel_rfl
   intro A w hb hT0 hd0 K hK
   obtain ⟨z2, z3, y0, y1, y2, y3⟩ := hall w hb
   have e0 : A.tmps[58]?.getD undef = .pointer (some ⟨c, u, none⟩) := hd0 6 58 (by kernel_rfl)
   clear hT0 hd0
   go_simp
   exact hK.out _ _ (Below.refl _ _) rfl
  refine StepsI.cons (o := _) rfl ?_ ?_
  ·try simp only [List.getElem_toArray, List.getElem_cons_zero, List.getElem_cons_succ]
   refine StepI.of ?_ ?_ ?_
   ·rfl
   ·kernel_rfl
   intro A w hb hT0 hd0 K hK
   have e0 : A.tmps[59]?.getD undef = .agg #[.int .i64 a, .string b1, .int .i64 c1, .slice p3 n3 q3] := hd0 7 59 (by kernel_rfl)
   clear hT0 hd0
   go_simp
   refine (kI w hb).mono ?_
   rintro e w2 ⟨rfl, g⟩
   exact hK.out _ _ g (rfl)
  refine StepsI.cons (o := _) rfl ?_ ?_
  ·try simp only [List.getElem_toArray, List.getElem_cons_zero, List.getElem_cons_succ]
   refine StepI.of ?_ ?_ ?_
   ·rfl
   ·kernel_rfl
   intro A w hb hT0 hd0 K hK
   have e0 : A.tmps[55]?.getD undef = .string (W ++ ⟨#[40]⟩) := hd0 3 55 (by kernel_rfl)
   have e1 : A.tmps[60]?.getD undef = .string I := hd0 8 60 (by kernel_rfl)
   clear hT0 hd0
   have nq : ¬ 9223372036854775807 < nW + 1 + nI := by omega
   go_simp
   exact hK.out _ _ (Below.refl _ _) rfl
  refine StepsI.cons (o := _) rfl ?_ ?_
  ·try simp only [List.getElem_toArray, List.getElem_cons_zero, List.getElem_cons_succ]
   refine StepI.of ?_ ?_ ?_
   ·rfl
   ·kernel_rfl
   intro A w hb hT0 hd0 K hK
   have e0 : A.tmps[61]?.getD undef = .string (W ++ ⟨#[40]⟩ ++ I) := hd0 9 61 (by kernel_rfl)
   clear hT0 hd0
   have nq : ¬ 9223372036854775807 < nW + 1 + nI + 1 := by omega
   go_simp
   exact hK.out _ _ (Below.refl _ _) rfl
  refine StepsI.cons (o := _) rfl ?_ ?_
  ·try simp only [List.getElem_toArray, List.getElem_cons_zero, List.getElem_cons_succ]
   refine StepI.of ?_ ?_ ?_
   ·rfl
   ·kernel_rfl
   intro A w hb hT0 hd0 K hK
   have e0 : A.tmps[62]?.getD undef = .string (W ++ ⟨#[40]⟩ ++ I ++ ⟨#[41]⟩) := hd0 10 62 (by kernel_rfl)
   clear hT0 hd0
   go_simp
   exact hK.out _ _ (Below.refl _ _) rfl
  exact StepsI.nil
 intro g wz hb hR
 have e6 : g 2 = .string (W ++ ⟨#[40]⟩ ++ I ++ ⟨#[41]⟩) := hR 11 2 (by decide) (by kernel_rfl)
 simp only [fillT, List.foldl_cons, List.foldl_nil, List.setIfInBounds_toArray, List.set_cons_zero, List.set_cons_succ]
 rw [e6]
 clear e6 hR hall kI
 go_wp2_with fail
 go_ret
 exact ⟨rfl, pb_call hgX.out hb⟩
set_option maxRecDepth 100000 in
set_option maxHeartbeats 3200000 in
theorem ex_To (op : Int) (hop : 8 ≤ op ∧ op ≤ 19) (a : Int) (b1 : ByteArray) (c1 : Int) (k : Fo) (a2 : Int) (b2 : ByteArray) (c2 : Int) (k2 : Fo) (kA : SpA ⟨a, b1, c1, k⟩) (kB : SpA ⟨a2, b2, c2, k2⟩) (hz : (exTx a b1 c1 (foTx k)).size ≤ 549755813888) (hz2 : (exTx a2 b2 c2 (foTx k2)).size ≤ 549755813888) : SpA ⟨op, tx0, 0, .cons a b1 c1 k (.cons a2 b2 c2 k2 .nil)⟩ := by
 intro S pp qq w hO hT
 simp only at hT ⊢
 have gX := pb_new (Below.refl w.heap.size w) (.cells #[.int .i64 op, .string tx0, .int .i64 0, .slice pp (Fo.cons a b1 c1 k (.cons a2 b2 c2 k2 .nil)).len qq] 85)
 have qX := World.alloc_heap_new w (.cells #[.int .i64 op, .string tx0, .int .i64 0, .slice pp (Fo.cons a b1 c1 k (.cons a2 b2 c2 k2 .nil)).len qq] 85)
 have hO2 := hO.bel gX
 have hT2 := hT.kp (Below.kp gX _)
 obtain ⟨X, hX⟩ : ∃ X, w.alloc (.cells #[.int .i64 op, .string tx0, .int .i64 0, .slice pp (Fo.cons a b1 c1 k (.cons a2 b2 c2 k2 .nil)).len qq] 85) = X := ⟨_, rfl⟩
 obtain ⟨b, hb⟩ : ∃ b, w.heap.size = b := ⟨_, rfl⟩
 rw [hX] at gX qX hO2 hT2
 rw [hb] at qX
 have hgX : Hid (Below w.heap.size w X) := gX
 have hX' : Hid (w.alloc (.cells #[.int .i64 op, .string tx0, .int .i64 0, .slice pp (Fo.cons a b1 c1 k (.cons a2 b2 c2 k2 .nil)).len qq] 85) = X) := hX
 have hb' : Hid (w.heap.size = b) := hb
 have hO3 : Hid (OpsAt X) := hO2
 obtain ⟨p2, q2, e2, hK⟩ := hT2
 obtain ⟨rfl, e4, rfl⟩ := Value.slice.inj e2
 clear e2 e4
 rcases hK with hK | ⟨c, u, rfl, hK⟩
 ·cases hK
 obtain ⟨⟨k0, k1, k2x, s3, k3, hs3⟩, hK2, lc⟩ := hK.head
 obtain ⟨p3, q3, rfl, hs3'⟩ := hs3
 obtain ⟨⟨j0, j1, j2, s4, j3, hs4⟩, _, _⟩ := hK2.head
 obtain ⟨p4, q4, rfl, hs4'⟩ := hs4
 have nn : ¬ (op = 1 ∨ op = 2 ∨ op = 3) ∧ ¬ op = 4 ∧ ¬ op = 20 ∧ ¬ op = 5 ∧ ¬ op = 6 ∧ ¬ op = 7 := by omega
 have e1 : exT ⟨op, tx0, 0, .cons a b1 c1 k (.cons a2 b2 c2 k2 .nil)⟩ = kdT (ofT op).2.2 (exT ⟨a, b1, c1, k⟩, a) ++ tSp ++ (ofT op).2.1 ++ tSp ++ kdT ((ofT op).2.2 + 1) (exT ⟨a2, b2, c2, k2⟩, a2) := by
  unfold exT exTx
  rw [if_neg nn.1, if_neg nn.2.1, if_neg nn.2.2.1, if_neg nn.2.2.2.1, if_neg nn.2.2.2.2.1, if_neg nn.2.2.2.2.2]; rfl
 rw [e1]
 have zI := kd_size (ofT op).2.2 (exT ⟨a, b1, c1, k⟩, a)
 have zJ := kd_size ((ofT op).2.2 + 1) (exT ⟨a2, b2, c2, k2⟩, a2)
 have zE : (exT ⟨a, b1, c1, k⟩).size ≤ 549755813888 := hz
 have zE2 : (exT ⟨a2, b2, c2, k2⟩).size ≤ 549755813888 := hz2
 have zG := of_size op
 have lr := lev_range op
 have kF := popFor op X hO2
 have kI0 := fun V h g => pkidT ⟨a, b1, c1, k⟩ kA (by omega) (ofT op).2.2 S p3 q3 V h ((show SlF X S (.slice p3 k.len q3) k from ⟨p3, q3, rfl, hs3'⟩).kp (Below.kp g _))
 have kJ0 := fun V h g => pkidT ⟨a2, b2, c2, k2⟩ kB (by omega) ((ofT op).2.2 + 1) S p4 q4 V h ((show SlF X S (.slice p4 k2.len q4) k2 from ⟨p4, q4, rfl, hs4'⟩).kp (Below.kp g _))
 simp only at kI0 kJ0 zI zJ
 have lr2 : 0 ≤ (ofT op).2.2 ∧ (ofT op).2.2 ≤ 5 := lr
 obtain ⟨I, hI⟩ : ∃ I, kdT (ofT op).2.2 (exT ⟨a, b1, c1, k⟩, a) = I := ⟨_, rfl⟩
 obtain ⟨J, hJ⟩ : ∃ I, kdT ((ofT op).2.2 + 1) (exT ⟨a2, b2, c2, k2⟩, a2) = I := ⟨_, rfl⟩
 rw [hI] at kI0 zI ⊢
 rw [hJ] at kJ0 zJ ⊢
 obtain ⟨L, hL⟩ : ∃ L, (ofT op).2.2 = L := ⟨_, rfl⟩
 obtain ⟨G, hG⟩ : ∃ L, (ofT op).2.1 = L := ⟨_, rfl⟩
 obtain ⟨o1, ho1⟩ : ∃ L, (ofT op).1 = L := ⟨_, rfl⟩
 rw [hL] at kI0 kJ0 lr2 kF
 rw [hG] at kF zG ⊢
 rw [ho1] at kF
 obtain ⟨nI, hnI⟩ : ∃ n, I.size = n := ⟨_, rfl⟩
 obtain ⟨nJ, hnJ⟩ : ∃ n, J.size = n := ⟨_, rfl⟩
 obtain ⟨nG, hnG⟩ : ∃ n, G.size = n := ⟨_, rfl⟩
 have zs : nI ≤ 549755813890 := by omega
 have zs2 : nJ ≤ 549755813890 := by omega
 have zs3 : nG ≤ 2 := by omega
 have wL : IntKind.i64.wrap (L + 1) = L + 1 := by rw [IntKind.wrap_i64]; omega
 have s1 : (⟨#[32]⟩ : ByteArray).size = 1 := rfl
 have s3 : (I ++ (⟨#[32]⟩ : ByteArray)).size = nI + 1 := by rw [z_app, hnI]; rfl
 have s4 : (I ++ (⟨#[32]⟩ : ByteArray) ++ G).size = nI + 1 + nG := by rw [z_app, s3, hnG]
 have s5 : (I ++ (⟨#[32]⟩ : ByteArray) ++ G ++ (⟨#[32]⟩ : ByteArray)).size = nI + 1 + nG + 1 := by rw [z_app, s4]; rfl
 have ix := ex_ix0 c u 2 qq (by decide)
 have ix1 := ex_ix1 c u 2 qq (by decide)
 have el : (Fo.cons a b1 c1 k (.cons a2 b2 c2 k2 .nil)).len = 2 := rfl
 rw [el] at qX hX'
 rw [el]
 clear hs3' hs4' e1
 generalize k.len = n3 at *
 generalize k2.len = n4 at *
 obtain ⟨f0, f1, f2, f3, ff⟩ := ex_cells qX
 have q4 : (op == 4) = false := by rw [beq_eq_false_iff_ne]; omega
 have q20 : (op == 20) = false := by rw [beq_eq_false_iff_ne]; omega
 have q5 : (op == 5) = false := by rw [beq_eq_false_iff_ne]; omega
 have q6 : (op == 6) = false := by rw [beq_eq_false_iff_ne]; omega
 have q7 : (op == 7) = false := by rw [beq_eq_false_iff_ne]; omega
 have q1 : (op == 1) = false := by rw [beq_eq_false_iff_ne]; omega
 have q2 : (op == 2) = false := by rw [beq_eq_false_iff_ne]; omega
 have q3' : (op == 3) = false := by rw [beq_eq_false_iff_ne]; omega
 clear hX hb gX hT hO hO2 hz hz2 hI hJ hK hK2 lc zE zE2 hL hG ho1 zI zJ zG lr nn hop
 go_enter Tryz.func75, Tryz.ntmps75
 go_upto_region 1 with fail
 rw [hX'.out]
 (try rw [hb'.out])
 clear hX' hb'
 go_upto_region 16 with fail
 clear q1 q2 q3' q4 q20 q5 q6 q7
 go_upto_region 17 with (first
  | (go_at_call 94; (refine kF.mono ?_); rintro e v1 ⟨rfl, g1⟩)
  | fail)
 have gY := pb_call g1 (pb_new (Below.refl v1.heap.size v1) (.cells #[.int .i64 o1, .string G, .int .i64 L] 133))
 have qY := World.alloc_heap_new v1 (.cells #[.int .i64 o1, .string G, .int .i64 L] 133)
 obtain ⟨Y, hY⟩ : ∃ Y, v1.alloc (.cells #[.int .i64 o1, .string G, .int .i64 L] 133) = Y := ⟨_, rfl⟩
 obtain ⟨b3, hb3⟩ : ∃ b, v1.heap.size = b := ⟨_, rfl⟩
 rw [hY] at gY qY ⊢
 rw [hb3] at qY
 (try rw [hb3])
 have r1 : Y.cell? ⟨b3, 1, none⟩ = some (.string G) := by simp [World.cell?, qY]
 have r2 : Y.cell? ⟨b3, 2, none⟩ = some (.int .i64 L) := by simp [World.cell?, qY]
 have kI : ∀ V, Below Y.heap.size Y V → Calls Tryz.prog 93 #[.agg #[.int .i64 a, .string b1, .int .i64 c1, .slice p3 n3 q3], .int .i64 L] V fun e' w' => e' = .returned (.string I) ∧ Below V.heap.size V w' := fun V g => kI0 V (hO3.out.bel (pb_call gY g)) (pb_call gY g)
 have kJ : ∀ V, Below Y.heap.size Y V → Calls Tryz.prog 93 #[.agg #[.int .i64 a2, .string b2, .int .i64 c2, .slice p4 n4 q4], .int .i64 (L + 1)] V fun e' w' => e' = .returned (.string J) ∧ Below V.heap.size V w' := fun V g => kJ0 V (hO3.out.bel (pb_call gY g)) (pb_call gY g)
 have hall : ∀ X9, Below Y.heap.size Y X9 → (X9.cell? ⟨b, 3, none⟩ = some (.slice (some ⟨c, u, none⟩) 2 qq) ∧ X9.cell? ⟨c, u, none⟩ = some (.int .i64 a) ∧ X9.cell? ⟨c, u + 1, none⟩ = some (.string b1) ∧ X9.cell? ⟨c, u + 2, none⟩ = some (.int .i64 c1) ∧ X9.cell? ⟨c, u + 3, none⟩ = some (.slice p3 n3 q3) ∧ X9.cell? ⟨c, u + 4, none⟩ = some (.int .i64 a2) ∧ X9.cell? ⟨c, u + 4 + 1, none⟩ = some (.string b2) ∧ X9.cell? ⟨c, u + 4 + 2, none⟩ = some (.int .i64 c2) ∧ X9.cell? ⟨c, u + 4 + 3, none⟩ = some (.slice p4 n4 q4) ∧ X9.cell? ⟨b3, 1, none⟩ = some (.string G) ∧ X9.cell? ⟨b3, 2, none⟩ = some (.int .i64 L)) := fun X9 g => ⟨pb_cell (pb_call gY g) f3, pb_cell (pb_call gY g) k0, pb_cell (pb_call gY g) k1, pb_cell (pb_call gY g) k2x, pb_cell (pb_call gY g) k3, pb_cell (pb_call gY g) j0, pb_cell (pb_call gY g) j1, pb_cell (pb_call gY g) j2, pb_cell (pb_call gY g) j3, pb_cell g r1, pb_cell g r2⟩
 have hgY : Hid (Below X.heap.size X Y) := gY
 clear hY hb3 g1 gY qY kI0 kJ0 kF qX r1 r2
 refine wp_region_inv [66, 67, 68, 69, 70, 71, 72, 73, 74, 75, 76, 77, 78, 79, 80, 81, 82, 83, 84, 85, 86, 2] (Rls [Eqv (.pointer (some ⟨b, 3, none⟩)), Eqv (.slice (some ⟨c, u, none⟩) 2 qq), Eqv (.pointer (some ⟨c, u, none⟩)), Eqv (.agg #[.int .i64 a, .string b1, .int .i64 c1, .slice p3 n3 q3]), Eqv (.pointer (some ⟨b3, 2, none⟩)), Eqv (.int .i64 L), Eqv (.string I), Eqv (.string (I ++ ⟨#[32]⟩)), Eqv (.pointer (some ⟨b3, 1, none⟩)), Eqv (.string G), Eqv (.string (I ++ ⟨#[32]⟩ ++ G)), Eqv (.string (I ++ ⟨#[32]⟩ ++ G ++ ⟨#[32]⟩)), Eqv (.pointer (some ⟨b, 3, none⟩)), Eqv (.slice (some ⟨c, u, none⟩) 2 qq), Eqv (.pointer (some ⟨c, u + 4, none⟩)), Eqv (.agg #[.int .i64 a2, .string b2, .int .i64 c2, .slice p4 n4 q4]), Eqv (.pointer (some ⟨b3, 2, none⟩)), Eqv (.int .i64 L), Eqv (.int .i64 (L + 1)), Eqv (.string J), Eqv (.string (I ++ ⟨#[32]⟩ ++ G ++ ⟨#[32]⟩ ++ J)), Eqv (.string (I ++ ⟨#[32]⟩ ++ G ++ ⟨#[32]⟩ ++ J))]) [0, 1, 2, 3, 4, 5, 6, 7, 8, 9, 10, 11, 12, 13, 14, 15, 16, 17, 18, 19, 20, 21] (by kernel_rfl) (by kernel_rfl) (by kernel_rfl) (by kernel_rfl) (MonoL.of (MonoL.eq (MonoL.eq (MonoL.eq (MonoL.eq (MonoL.eq (MonoL.eq (MonoL.eq (MonoL.eq (MonoL.eq (MonoL.eq (MonoL.eq (MonoL.eq (MonoL.eq (MonoL.eq (MonoL.eq (MonoL.eq (MonoL.eq (MonoL.eq (MonoL.eq (MonoL.eq (MonoL.eq (MonoL.eq MonoL.nil))))))))))))))))))))))) ?_ ?_
 ·skip
  refine StepsI.cons (o := _) rfl ?_ ?_
  ·try simp only [List.getElem_toArray, List.getElem_cons_zero, List.getElem_cons_succ]
   refine StepI.of ?_ ?_ ?_
   ·rfl
   ·kernel_rfl
   intro A w hb hT0 hd0 K hK
   have f0 : A.tmps[1]?.getD undef = .pointer (some ⟨b, 0, none⟩) := hT0 1 (by kernel_rfl)
   clear hT0 hd0
   go_simp
   exact hK.out _ _ (Below.refl _ _) rfl
  refine StepsI.cons (o := _) rfl ?_ ?_
  ·try simp only [List.getElem_toArray, List.getElem_cons_zero, List.getElem_cons_succ]
   refine StepI.of ?_ ?_ ?_
   ·rfl
   ·kernel_rfl
   intro A w hb hT0 hd0 K hK
   obtain ⟨z3, y0, y1, y2, y3, x0, x1, x2, x3, w1, w2⟩ := hall w hb
   have e0 : A.tmps[66]?.getD undef = .pointer (some ⟨b, 3, none⟩) := hd0 0 66 (by kernel_rfl)
   clear hT0 hd0
   go_simp
   exact hK.out _ _ (Below.refl _ _) rfl
  refine StepsI.cons (o := _) rfl ?_ ?_
  ·try simp only [List.getElem_toArray, List.getElem_cons_zero, List.getElem_cons_succ]
   refine StepI.of ?_ ?_ ?_
   ·rfl
   ·kernel_rfl
   intro A w hb hT0 hd0 K hK
   have e0 : A.tmps[67]?.getD undef = .slice (some ⟨c, u, none⟩) 2 qq := hd0 1 67 (by kernel_rfl)
   clear hT0 hd0
   go_simp
   exact hK.out _ _ (Below.refl _ _) rfl
  refine StepsI.cons (o := _) rfl ?_ ?_
  ·try simp only [List.getElem_toArray, List.getElem_cons_zero, List.getElem_cons_succ]
   refine StepI.of ?_ ?_ ?_
   ·rfl
   ·kernel_rfl
   intro A w hb hT0 hd0 K hK
   obtain ⟨z3, y0, y1, y2, y3, x0, x1, x2, x3, w1, w2⟩ := hall w hb
   have e0 : A.tmps[68]?.getD undef = .pointer (some ⟨c, u, none⟩) := hd0 2 68 (by kernel_rfl)
   clear hT0 hd0
   go_simp
   exact hK.out _ _ (Below.refl _ _) rfl
  refine StepsI.cons (o := _) rfl ?_ ?_
  ·try simp only [List.getElem_toArray, List.getElem_cons_zero, List.getElem_cons_succ]
   refine StepI.of ?_ ?_ ?_
   ·rfl
   ·kernel_rfl
   intro A w hb hT0 hd0 K hK
   have f0 : A.tmps[3]?.getD undef = .pointer (some ⟨b3, 0, none⟩) := hT0 3 (by kernel_rfl)
   clear hT0 hd0
   go_simp
   exact hK.out _ _ (Below.refl _ _) rfl
  refine StepsI.cons (o := _) rfl ?_ ?_
  ·try simp only [List.getElem_toArray, List.getElem_cons_zero, List.getElem_cons_succ]
   refine StepI.of ?_ ?_ ?_
   ·rfl
   ·kernel_rfl
   intro A w hb hT0 hd0 K hK
   obtain ⟨z3, y0, y1, y2, y3, x0, x1, x2, x3, w1, w2⟩ := hall w hb
   have e0 : A.tmps[70]?.getD undef = .pointer (some ⟨b3, 2, none⟩) := hd0 4 70 (by kernel_rfl)
   clear hT0 hd0
   go_simp
   exact hK.out _ _ (Below.refl _ _) rfl
  refine StepsI.cons (o := _) rfl ?_ ?_
  ·try simp only [List.getElem_toArray, List.getElem_cons_zero, List.getElem_cons_succ]
   refine StepI.of ?_ ?_ ?_
   ·rfl
   ·kernel_rfl
   intro A w hb hT0 hd0 K hK
   have e0 : A.tmps[69]?.getD undef = .agg #[.int .i64 a, .string b1, .int .i64 c1, .slice p3 n3 q3] := hd0 3 69 (by kernel_rfl)
   have e1 : A.tmps[71]?.getD undef = .int .i64 L := hd0 5 71 (by kernel_rfl)
   clear hT0 hd0
   go_simp
   refine (kI w hb).mono ?_
   rintro e w2 ⟨rfl, g⟩
   exact hK.out _ _ g (rfl)
  refine StepsI.cons (o := _) rfl ?_ ?_
  ·try simp only [List.getElem_toArray, List.getElem_cons_zero, List.getElem_cons_succ]
   refine StepI.of ?_ ?_ ?_
   ·rfl
   ·kernel_rfl
   intro A w hb hT0 hd0 K hK
   have e0 : A.tmps[72]?.getD undef = .string I := hd0 6 72 (by kernel_rfl)
   clear hT0 hd0
   have nq : ¬ 9223372036854775807 < nI + 1 := by omega
   go_simp
   exact hK.out _ _ (Below.refl _ _) rfl
  refine StepsI.cons (o := _) rfl ?_ ?_
  ·try simp only [List.getElem_toArray, List.getElem_cons_zero, List.getElem_cons_succ]
   refine StepI.of ?_ ?_ ?_
   ·rfl
   ·kernel_rfl
   intro A w hb hT0 hd0 K hK
   have f0 : A.tmps[3]?.getD undef = .pointer (some ⟨b3, 0, none⟩) := hT0 3 (by kernel_rfl)
   clear hT0 hd0
   go_simp
   exact hK.out _ _ (Below.refl _ _) rfl
  refine StepsI.cons (o := _) rfl ?_ ?_
  ·try simp only [List.getElem_toArray, List.getElem_cons_zero, List.getElem_cons_succ]
   refine StepI.of ?_ ?_ ?_
   ·rfl
   ·kernel_rfl
   intro A w hb hT0 hd0 K hK
   obtain ⟨z3, y0, y1, y2, y3, x0, x1, x2, x3, w1, w2⟩ := hall w hb
   have e0 : A.tmps[74]?.getD undef = .pointer (some ⟨b3, 1, none⟩) := hd0 8 74 (by kernel_rfl)
   clear hT0 hd0
   go_simp
   exact hK.out _ _ (Below.refl _ _) rfl
  refine StepsI.cons (o := _) rfl ?_ ?_
  ·try simp only [List.getElem_toArray, List.getElem_cons_zero, List.getElem_cons_succ]
   refine StepI.of ?_ ?_ ?_
   ·rfl
   ·kernel_rfl
   intro A w hb hT0 hd0 K hK
   have e0 : A.tmps[73]?.getD undef = .string (I ++ ⟨#[32]⟩) := hd0 7 73 (by kernel_rfl)
   have e1 : A.tmps[75]?.getD undef = .string G := hd0 9 75 (by kernel_rfl)
   clear hT0 hd0
   have nq : ¬ 9223372036854775807 < nI + 1 + nG := by omega
   go_simp
   exact hK.out _ _ (Below.refl _ _) rfl
  refine StepsI.cons (o := _) rfl ?_ ?_
  ·try simp only [List.getElem_toArray, List.getElem_cons_zero, List.getElem_cons_succ]
   refine StepI.of ?_ ?_ ?_
   ·rfl
   ·kernel_rfl
   intro A w hb hT0 hd0 K hK
   have e0 : A.tmps[76]?.getD undef = .string (I ++ ⟨#[32]⟩ ++ G) := hd0 10 76 (by kernel_rfl)
   clear hT0 hd0
   have nq : ¬ 9223372036854775807 < nI + 1 + nG + 1 := by omega
   go_simp
   exact hK.out _ _ (Below.refl _ _) rfl
  refine StepsI.cons (o := _) rfl ?_ ?_
  ·try simp only [List.getElem_toArray, List.getElem_cons_zero, List.getElem_cons_succ]
   refine StepI.of ?_ ?_ ?_
   ·rfl
   ·kernel_rfl
   intro A w hb hT0 hd0 K hK
   have f0 : A.tmps[1]?.getD undef = .pointer (some ⟨b, 0, none⟩) := hT0 1 (by kernel_rfl)
   clear hT0 hd0
   go_simp
   exact hK.out _ _ (Below.refl _ _) rfl
  refine StepsI.cons (o := _) rfl ?_ ?_
  ·try simp only [List.getElem_toArray, List.getElem_cons_zero, List.getElem_cons_succ]
   refine StepI.of ?_ ?_ ?_
   ·rfl
   ·kernel_rfl
   intro A w hb hT0 hd0 K hK
   obtain ⟨z3, y0, y1, y2, y3, x0, x1, x2, x3, w1, w2⟩ := hall w hb
   have e0 : A.tmps[78]?.getD undef = .pointer (some ⟨b, 3, none⟩) := hd0 12 78 (by kernel_rfl)
   clear hT0 hd0
   go_simp
   exact hK.out _ _ (Below.refl _ _) rfl
  refine StepsI.cons (o := _) rfl ?_ ?_
  ·try simp only [List.getElem_toArray, List.getElem_cons_zero, List.getElem_cons_succ]
   refine StepI.of ?_ ?_ ?_
   ·rfl
   ·kernel_rfl
   intro A w hb hT0 hd0 K hK
   have e0 : A.tmps[79]?.getD undef = .slice (some ⟨c, u, none⟩) 2 qq := hd0 13 79 (by kernel_rfl)
   clear hT0 hd0
   go_simp
   exact hK.out _ _ (Below.refl _ _) rfl
  refine StepsI.cons (o := _) rfl ?_ ?_
  ·try simp only [List.getElem_toArray, List.getElem_cons_zero, List.getElem_cons_succ]
   refine StepI.of ?_ ?_ ?_
   ·rfl
   ·kernel_rfl
   intro A w hb hT0 hd0 K hK
   obtain ⟨z3, y0, y1, y2, y3, x0, x1, x2, x3, w1, w2⟩ := hall w hb
   have e0 : A.tmps[80]?.getD undef = .pointer (some ⟨c, u + 4, none⟩) := hd0 14 80 (by kernel_rfl)
   clear hT0 hd0
   go_simp
   exact hK.out _ _ (Below.refl _ _) rfl
  refine StepsI.cons (o := _) rfl ?_ ?_
  ·try simp only [List.getElem_toArray, List.getElem_cons_zero, List.getElem_cons_succ]
   refine StepI.of ?_ ?_ ?_
   ·rfl
   ·kernel_rfl
   intro A w hb hT0 hd0 K hK
   have f0 : A.tmps[3]?.getD undef = .pointer (some ⟨b3, 0, none⟩) := hT0 3 (by kernel_rfl)
   clear hT0 hd0
   go_simp
   exact hK.out _ _ (Below.refl _ _) rfl
  refine StepsI.cons (o := _) rfl ?_ ?_
  ·try simp only [List.getElem_toArray, List.getElem_cons_zero, List.getElem_cons_succ]
   refine StepI.of ?_ ?_ ?_
   ·rfl
   ·kernel_rfl
   intro A w hb hT0 hd0 K hK
   obtain ⟨z3, y0, y1, y2, y3, x0, x1, x2, x3, w1, w2⟩ := hall w hb
   have e0 : A.tmps[82]?.getD undef = .pointer (some ⟨b3, 2, none⟩) := hd0 16 82 (by kernel_rfl)
   clear hT0 hd0
   go_simp
   exact hK.out _ _ (Below.refl _ _) rfl
  refine StepsI.cons (o := _) rfl ?_ ?_
  ·try simp only [List.getElem_toArray, List.getElem_cons_zero, List.getElem_cons_succ]
   refine StepI.of ?_ ?_ ?_
   ·rfl
   ·kernel_rfl
   intro A w hb hT0 hd0 K hK
   have e0 : A.tmps[83]?.getD undef = .int .i64 L := hd0 17 83 (by kernel_rfl)
   clear hT0 hd0
   go_simp
   exact hK.out _ _ (Below.refl _ _) rfl
  refine StepsI.cons (o := _) rfl ?_ ?_
  ·try simp only [List.getElem_toArray, List.getElem_cons_zero, List.getElem_cons_succ]
   refine StepI.of ?_ ?_ ?_
   ·rfl
   ·kernel_rfl
   intro A w hb hT0 hd0 K hK
   have e0 : A.tmps[81]?.getD undef = .agg #[.int .i64 a2, .string b2, .int .i64 c2, .slice p4 n4 q4] := hd0 15 81 (by kernel_rfl)
   have e1 : A.tmps[84]?.getD undef = .int .i64 (L + 1) := hd0 18 84 (by kernel_rfl)
   clear hT0 hd0
   go_simp
   refine (kJ w hb).mono ?_
   rintro e w2 ⟨rfl, g⟩
   exact hK.out _ _ g (rfl)
  refine StepsI.cons (o := _) rfl ?_ ?_
  ·try simp only [List.getElem_toArray, List.getElem_cons_zero, List.getElem_cons_succ]
   refine StepI.of ?_ ?_ ?_
   ·rfl
   ·kernel_rfl
   intro A w hb hT0 hd0 K hK
   have e0 : A.tmps[77]?.getD undef = .string (I ++ ⟨#[32]⟩ ++ G ++ ⟨#[32]⟩) := hd0 11 77 (by kernel_rfl)
   have e1 : A.tmps[85]?.getD undef = .string J := hd0 19 85 (by kernel_rfl)
   clear hT0 hd0
   have nq : ¬ 9223372036854775807 < nI + 1 + nG + 1 + nJ := by omega
   go_simp
   exact hK.out _ _ (Below.refl _ _) rfl
  refine StepsI.cons (o := _) rfl ?_ ?_
  ·try simp only [List.getElem_toArray, List.getElem_cons_zero, List.getElem_cons_succ]
   refine StepI.of ?_ ?_ ?_
   ·rfl
   ·kernel_rfl
   intro A w hb hT0 hd0 K hK
   have e0 : A.tmps[86]?.getD undef = .string (I ++ ⟨#[32]⟩ ++ G ++ ⟨#[32]⟩ ++ J) := hd0 20 86 (by kernel_rfl)
   clear hT0 hd0
   go_simp
   exact hK.out _ _ (Below.refl _ _) rfl
  exact StepsI.nil
 intro g wz hb hR
 have e6 : g 2 = .string (I ++ ⟨#[32]⟩ ++ G ++ ⟨#[32]⟩ ++ J) := hR 21 2 (by decide) (by kernel_rfl)
 simp only [fillT, List.foldl_cons, List.foldl_nil, List.setIfInBounds_toArray, List.set_cons_zero, List.set_cons_succ]
 rw [e6]
 clear e6 hR hall kI kJ
 go_wp2_with fail
 go_ret
 exact ⟨rfl, pb_call hgX.out (pb_call hgY.out hb)⟩
theorem ea_of : ∀ f : Fo, f.oks → f.wt ≤ 549755813888 → f.all SpA
 | .nil, _, _ => trivial
 | .cons op tx ty ks r, h, hw => by
  have w1 : tx.size + 20 + ks.wt + r.wt ≤ 549755813888 := hw
  have ih := ea_of ks h.2.1 (by omega)
  refine ⟨?_, ea_of r h.2.2 (by omega)⟩
  have z := fo_size ks
  have one : ∀ {a : Int} {b : ByteArray} {c : Int} {k r : Fo}, ks = .cons a b c k r → (exTx a b c (foTx k)).size ≤ 549755813888 := fun {a b c k r} e => by
   have z1 := ex_size a b c (foTx k)
   have z2 := fo_size k
   rw [e] at w1
   have w2 : tx.size + 20 + (b.size + 20 + k.wt + r.wt) + _ ≤ 549755813888 := w1
   omega
  rcases ok_cases h.1 with ⟨rfl, hn, rfl, h0⟩ | ⟨rfl, hn, rfl, h0⟩ | ⟨rfl, hn, rfl, h1⟩ | ⟨rfl, rfl, ht, h1⟩ | ⟨hop, rfl, rfl, h1⟩ | ⟨hop, rfl, rfl, h2⟩
  ·exact ex_T1 tx ks ih (by omega)
  ·exact ex_T2 tx ks ih (by omega)
  ·exact ex_T3 tx ks ih (by omega)
  ·obtain ⟨a, b, c, k, rfl⟩ := len1 h1
   exact ex_T7 ty a b c k ih.1 (one rfl)
  ·obtain ⟨a, b, c, k, rfl⟩ := len1 h1
   rcases hop with rfl | rfl | rfl | rfl
   ·exact ex_T4 a b c k ih.1 (one rfl)
   ·exact ex_T20 a b c k ih.1 (one rfl)
   ·exact ex_T5 a b c k ih.1 (one rfl)
   ·exact ex_T6 a b c k ih.1 (one rfl)
  ·obtain ⟨a, b, c, k, a', b', c', k', rfl⟩ := len2 h2
   refine ex_To op hop a b c k a' b' c' k' ih.1 ih.2.1 (one rfl) ?_
   have z1 := ex_size a' b' c' (foTx k')
   have z2 := fo_size k'
   have w2 : tx0.size + 20 + (b.size + 20 + k.wt + (b'.size + 20 + k'.wt + 0)) + r.wt ≤ 549755813888 := w1
   omega
theorem pexT (e : Ex) (h : (e.row .nil).oks) (hw : (e.row .nil).wt ≤ 549755813888) : SpA e := (ea_of _ h hw).1
end Go.Proofs.YtknoibocpbfmmaaGreatDoor



