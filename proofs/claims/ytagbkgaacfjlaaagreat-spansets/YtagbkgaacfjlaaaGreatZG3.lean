/- Texts of the proof, put together. -/
import Derived.Test.YtagbkgaacfjlaaaGreatZG5
import Derived.Deep.DeepCutAuto
namespace Go.Proofs.YtagbkgaacfjlaaaGreat
open Go.RowKit
set_option linter.unusedVariables false
set_option linter.unusedSimpArgs false
set_option maxRecDepth 100000 in
set_option maxHeartbeats 6400000 in
theorem tright_t (p f : Int) (e1 : Bool) (a b : Int) (e2 : Bool) (c d : Int) (R2 : Bool) (kf : ∀ V, Calls Tryz.prog 15 #[.int .i64 p] V fun e w' => e = .returned (.int .i64 f) ∧ Below V.heap.size V w') (k1 : ∀ V, Calls Tryz.prog 17 #[.int .i64 f, .agg #[.bool e1, .int .u64 a, .int .u64 b]] V fun e w' => e = .returned (.bool true) ∧ Below V.heap.size V w') (k2 : ∀ V, Calls Tryz.prog 17 #[.int .i64 f, .agg #[.bool e2, .int .u64 c, .int .u64 d]] V fun e w' => e = .returned (.bool R2) ∧ Below V.heap.size V w') (w : World) : Calls Tryz.prog 22 #[.agg #[.int .i64 p, .bool e1, .int .u64 a, .int .u64 b, .bool e2, .int .u64 c, .int .u64 d]] w fun e w' => e = .returned (.bool R2) ∧ Below w.heap.size w w' := by
  go_enter Tryz.func22, Tryz.ntmps22
  go_wp2_with fail
  obtain ⟨W, hW⟩ : ∃ W, (w.alloc (.cells #[.int .i64 p, .bool e1, .int .u64 a, .int .u64 b, .bool e2, .int .u64 c, .int .u64 d] 27)) = W := ⟨_, rfl⟩
  have x0 : W.cell? ⟨w.heap.size, 0, none⟩ = some (.int .i64 p) := by rw [← hW]; simp [go_sem]
  have x1 : W.cell? ⟨w.heap.size, 1, none⟩ = some (.bool e1) := by rw [← hW]; simp [go_sem]
  have x2 : W.cell? ⟨w.heap.size, 2, none⟩ = some (.int .u64 a) := by rw [← hW]; simp [go_sem]
  have x3 : W.cell? ⟨w.heap.size, 3, none⟩ = some (.int .u64 b) := by rw [← hW]; simp [go_sem]
  have x4 : W.cell? ⟨w.heap.size, 4, none⟩ = some (.bool e2) := by rw [← hW]; simp [go_sem]
  have x5 : W.cell? ⟨w.heap.size, 5, none⟩ = some (.int .u64 c) := by rw [← hW]; simp [go_sem]
  have x6 : W.cell? ⟨w.heap.size, 6, none⟩ = some (.int .u64 d) := by rw [← hW]; simp [go_sem]
  have bW : Below w.heap.size w W := by rw [← hW]; exact (sp_new (Below.refl _ _) _)
  have zW : W.heap.size = w.heap.size + 1 := by rw [← hW]; simp
  rw [hW]
  clear hW
  have kf2 := kf
  go_region_held3 (fun w' => w'.cell? ⟨w.heap.size, 0, none⟩ = some (.int .i64 p) ∧ w'.cell? ⟨w.heap.size, 1, none⟩ = some (.bool e1) ∧ w'.cell? ⟨w.heap.size, 2, none⟩ = some (.int .u64 a) ∧ w'.cell? ⟨w.heap.size, 3, none⟩ = some (.int .u64 b) ∧ w'.cell? ⟨w.heap.size, 4, none⟩ = some (.bool e2) ∧ w'.cell? ⟨w.heap.size, 5, none⟩ = some (.int .u64 c) ∧ w'.cell? ⟨w.heap.size, 6, none⟩ = some (.int .u64 d)) (exact ⟨x0, x1, x2, x3, x4, x5, x6⟩)
    (first
      | (go_at_call 15; refine (kf _).mono ?_; rintro e v1 ⟨rfl, g⟩; replace g : Below W.heap.size W v1 := ⟨g.os, g.tape, g.output, g.size, g.block⟩; replace bW := sp_call bW g; replace x0 := sp_cell_on g x0; replace x1 := sp_cell_on g x1; replace x2 := sp_cell_on g x2; replace x3 := sp_cell_on g x3; replace x4 := sp_cell_on g x4; replace x5 := sp_cell_on g x5; replace x6 := sp_cell_on g x6; clear g; clear kf)
      | (go_at_call 17; refine (k1 _).mono ?_; rintro e v2 ⟨rfl, g⟩; replace g : Below v1.heap.size v1 v2 := ⟨g.os, g.tape, g.output, g.size, g.block⟩; replace bW := sp_call bW g; replace x0 := sp_cell_on g x0; replace x1 := sp_cell_on g x1; replace x2 := sp_cell_on g x2; replace x3 := sp_cell_on g x3; replace x4 := sp_cell_on g x4; replace x5 := sp_cell_on g x5; replace x6 := sp_cell_on g x6; clear g; clear k1)
      | (go_at_call 15; refine (kf2 _).mono ?_; rintro e v3 ⟨rfl, g⟩; replace g : Below v2.heap.size v2 v3 := ⟨g.os, g.tape, g.output, g.size, g.block⟩; replace bW := sp_call bW g; replace x0 := sp_cell_on g x0; replace x1 := sp_cell_on g x1; replace x2 := sp_cell_on g x2; replace x3 := sp_cell_on g x3; replace x4 := sp_cell_on g x4; replace x5 := sp_cell_on g x5; replace x6 := sp_cell_on g x6; clear g)
      | (go_at_call 17; refine (k2 _).mono ?_; rintro e v4 ⟨rfl, g⟩; replace g : Below v3.heap.size v3 v4 := ⟨g.os, g.tape, g.output, g.size, g.block⟩; replace bW := sp_call bW g; replace x0 := sp_cell_on g x0; replace x1 := sp_cell_on g x1; replace x2 := sp_cell_on g x2; replace x3 := sp_cell_on g x3; replace x4 := sp_cell_on g x4; replace x5 := sp_cell_on g x5; replace x6 := sp_cell_on g x6; clear g)
      | fail)
  all_goals go_wp2
  all_goals go_ret
  all_goals exact ⟨rfl, bW⟩
set_option maxRecDepth 100000 in
set_option maxHeartbeats 6400000 in
theorem tright_f (p f : Int) (e1 : Bool) (a b : Int) (e2 : Bool) (c d : Int) (kf : ∀ V, Calls Tryz.prog 15 #[.int .i64 p] V fun e w' => e = .returned (.int .i64 f) ∧ Below V.heap.size V w') (k1 : ∀ V, Calls Tryz.prog 17 #[.int .i64 f, .agg #[.bool e1, .int .u64 a, .int .u64 b]] V fun e w' => e = .returned (.bool false) ∧ Below V.heap.size V w') (w : World) : Calls Tryz.prog 22 #[.agg #[.int .i64 p, .bool e1, .int .u64 a, .int .u64 b, .bool e2, .int .u64 c, .int .u64 d]] w fun e w' => e = .returned (.bool false) ∧ Below w.heap.size w w' := by
  go_enter Tryz.func22, Tryz.ntmps22
  go_wp2_with fail
  obtain ⟨W, hW⟩ : ∃ W, (w.alloc (.cells #[.int .i64 p, .bool e1, .int .u64 a, .int .u64 b, .bool e2, .int .u64 c, .int .u64 d] 27)) = W := ⟨_, rfl⟩
  have x0 : W.cell? ⟨w.heap.size, 0, none⟩ = some (.int .i64 p) := by rw [← hW]; simp [go_sem]
  have x1 : W.cell? ⟨w.heap.size, 1, none⟩ = some (.bool e1) := by rw [← hW]; simp [go_sem]
  have x2 : W.cell? ⟨w.heap.size, 2, none⟩ = some (.int .u64 a) := by rw [← hW]; simp [go_sem]
  have x3 : W.cell? ⟨w.heap.size, 3, none⟩ = some (.int .u64 b) := by rw [← hW]; simp [go_sem]
  have x4 : W.cell? ⟨w.heap.size, 4, none⟩ = some (.bool e2) := by rw [← hW]; simp [go_sem]
  have x5 : W.cell? ⟨w.heap.size, 5, none⟩ = some (.int .u64 c) := by rw [← hW]; simp [go_sem]
  have x6 : W.cell? ⟨w.heap.size, 6, none⟩ = some (.int .u64 d) := by rw [← hW]; simp [go_sem]
  have bW : Below w.heap.size w W := by rw [← hW]; exact (sp_new (Below.refl _ _) _)
  have zW : W.heap.size = w.heap.size + 1 := by rw [← hW]; simp
  rw [hW]
  clear hW
  refine wp_region_held_drew (S := (fun w' => w'.cell? ⟨w.heap.size, 0, none⟩ = some (.int .i64 p) ∧ w'.cell? ⟨w.heap.size, 1, none⟩ = some (.bool e1) ∧ w'.cell? ⟨w.heap.size, 2, none⟩ = some (.int .u64 a) ∧ w'.cell? ⟨w.heap.size, 3, none⟩ = some (.int .u64 b) ∧ w'.cell? ⟨w.heap.size, 4, none⟩ = some (.bool e2) ∧ w'.cell? ⟨w.heap.size, 5, none⟩ = some (.int .u64 c) ∧ w'.cell? ⟨w.heap.size, 6, none⟩ = some (.int .u64 d))) (by kernel_rfl) ⟨x0, x1, x2, x3, x4, x5, x6⟩ (fun hH0 => ?_)
  refine wpAnyH_take (i := 0) (oi := _) (v := .pointer (some ⟨w.heap.size, 0, none⟩)) rfl (by kernel_rfl) (by kernel_rfl) (by kernel_rfl) (fun _ _ _ h => h) (Or.inl ⟨by rfl, fun w' hSw => by obtain ⟨z0, z1, z2, z3, z4, z5, z6⟩ := hSw; go_simp⟩) hH0 ?_
  simp only [Act.put, List.getElem_toArray, List.getElem_cons_zero, List.getElem_cons_succ, List.setIfInBounds_toArray, List.set_cons_zero, List.set_cons_succ]
  refine wpAnyH_take (i := 1) (oi := _) (v := .int .i64 p) rfl (by kernel_rfl) (by kernel_rfl) (by kernel_rfl) (fun _ _ _ h => h) (Or.inl ⟨by rfl, fun w' hSw => by obtain ⟨z0, z1, z2, z3, z4, z5, z6⟩ := hSw; go_simp⟩) hH0 ?_
  simp only [Act.put, List.getElem_toArray, List.getElem_cons_zero, List.getElem_cons_succ, List.setIfInBounds_toArray, List.set_cons_zero, List.set_cons_succ]
  refine wpAnyH_take (i := 3) (oi := _) (v := .pointer (some ⟨w.heap.size, 1, none⟩)) rfl (by kernel_rfl) (by kernel_rfl) (by kernel_rfl) (fun _ _ _ h => h) (Or.inl ⟨by rfl, fun w' hSw => by obtain ⟨z0, z1, z2, z3, z4, z5, z6⟩ := hSw; go_simp⟩) hH0 ?_
  simp only [Act.put, List.getElem_toArray, List.getElem_cons_zero, List.getElem_cons_succ, List.setIfInBounds_toArray, List.set_cons_zero, List.set_cons_succ]
  refine wpAnyH_take (i := 4) (oi := _) (v := .agg #[.bool e1, .int .u64 a, .int .u64 b]) rfl (by kernel_rfl) (by kernel_rfl) (by kernel_rfl) (fun _ _ _ h => h) (Or.inl ⟨by rfl, fun w' hSw => by obtain ⟨z0, z1, z2, z3, z4, z5, z6⟩ := hSw; go_simp⟩) hH0 ?_
  simp only [Act.put, List.getElem_toArray, List.getElem_cons_zero, List.getElem_cons_succ, List.setIfInBounds_toArray, List.set_cons_zero, List.set_cons_succ]
  refine wpAnyH_ready (rs := [2]) (by kernel_rfl) (by simp) (AllReadyH.cons (o := _) rfl (fun K hK => ?_) AllReadyH.nil)
  go_simp
  refine (kf _).mono ?_
  rintro e v1 ⟨rfl, g1⟩
  replace g1 : Below W.heap.size W v1 := ⟨g1.os, g1.tape, g1.output, g1.size, g1.block⟩
  replace x0 := sp_cell_on g1 x0; replace x1 := sp_cell_on g1 x1; replace x2 := sp_cell_on g1 x2; replace x3 := sp_cell_on g1 x3; replace x4 := sp_cell_on g1 x4; replace x5 := sp_cell_on g1 x5; replace x6 := sp_cell_on g1 x6
  replace bW := sp_call bW g1
  go_wp2_with fail
  refine hK.out _ _ ⟨x0, x1, x2, x3, x4, x5, x6⟩ (fun hH1 => ?_)
  clear hK K hH0
  try simp only [Act.put, List.getElem_toArray, List.getElem_cons_zero, List.getElem_cons_succ, List.setIfInBounds_toArray, List.set_cons_zero, List.set_cons_succ]
  refine wpAnyH_ready (rs := [5]) (by kernel_rfl) (by simp) (AllReadyH.cons (o := _) rfl (fun K hK => ?_) AllReadyH.nil)
  go_simp
  refine (k1 _).mono ?_
  rintro e v2 ⟨rfl, g2⟩
  replace g2 : Below v1.heap.size v1 v2 := ⟨g2.os, g2.tape, g2.output, g2.size, g2.block⟩
  replace x0 := sp_cell_on g2 x0; replace x1 := sp_cell_on g2 x1; replace x2 := sp_cell_on g2 x2; replace x3 := sp_cell_on g2 x3; replace x4 := sp_cell_on g2 x4; replace x5 := sp_cell_on g2 x5; replace x6 := sp_cell_on g2 x6
  replace bW := sp_call bW g2
  go_wp2_with fail
  refine hK.out _ _ ⟨x0, x1, x2, x3, x4, x5, x6⟩ (fun hH2 => ?_)
  clear hK K hH1
  try simp only [Act.put, List.getElem_toArray, List.getElem_cons_zero, List.getElem_cons_succ, List.setIfInBounds_toArray, List.set_cons_zero, List.set_cons_succ]
  refine wpAnyH_take (i := 6) (oi := _) (v := .bool false) rfl (by kernel_rfl) (by kernel_rfl) (by kernel_rfl) (fun _ _ _ h => h) (Or.inl ⟨by rfl, fun w' hSw => by obtain ⟨z0, z1, z2, z3, z4, z5, z6⟩ := hSw; go_simp⟩) hH2 ?_
  simp only [Act.put, List.getElem_toArray, List.getElem_cons_zero, List.getElem_cons_succ, List.setIfInBounds_toArray, List.set_cons_zero, List.set_cons_succ]
  refine wpAnyH_take (i := 7) (oi := _) (v := undef) rfl (by kernel_rfl) (by kernel_rfl) (by kernel_rfl) (fun _ _ _ h => h) (Or.inr ⟨by rfl, rfl⟩) hH2 ?_
  simp only [Act.put, List.getElem_toArray, List.getElem_cons_zero, List.getElem_cons_succ, List.setIfInBounds_toArray, List.set_cons_zero, List.set_cons_succ]
  refine wpAnyH_take (i := 8) (oi := _) (v := undef) rfl (by kernel_rfl) (by kernel_rfl) (by kernel_rfl) (fun _ _ _ h => h) (Or.inr ⟨by rfl, rfl⟩) hH2 ?_
  simp only [Act.put, List.getElem_toArray, List.getElem_cons_zero, List.getElem_cons_succ, List.setIfInBounds_toArray, List.set_cons_zero, List.set_cons_succ]
  refine wpAnyH_take (i := 9) (oi := _) (v := undef) rfl (by kernel_rfl) (by kernel_rfl) (by kernel_rfl) (fun _ _ _ h => h) (Or.inr ⟨by rfl, rfl⟩) hH2 ?_
  simp only [Act.put, List.getElem_toArray, List.getElem_cons_zero, List.getElem_cons_succ, List.setIfInBounds_toArray, List.set_cons_zero, List.set_cons_succ]
  refine wpAnyH_take (i := 10) (oi := _) (v := undef) rfl (by kernel_rfl) (by kernel_rfl) (by kernel_rfl) (fun _ _ _ h => h) (Or.inr ⟨by rfl, rfl⟩) hH2 ?_
  simp only [Act.put, List.getElem_toArray, List.getElem_cons_zero, List.getElem_cons_succ, List.setIfInBounds_toArray, List.set_cons_zero, List.set_cons_succ]
  refine wpAnyH_take (i := 11) (oi := _) (v := undef) rfl (by kernel_rfl) (by kernel_rfl) (by kernel_rfl) (fun _ _ _ h => h) (Or.inr ⟨by rfl, rfl⟩) hH2 ?_
  simp only [Act.put, List.getElem_toArray, List.getElem_cons_zero, List.getElem_cons_succ, List.setIfInBounds_toArray, List.set_cons_zero, List.set_cons_succ]
  refine wpAnyH_take (i := 12) (oi := _) (v := undef) rfl (by kernel_rfl) (by kernel_rfl) (by kernel_rfl) (fun _ _ _ h => h) (Or.inr ⟨by rfl, rfl⟩) hH2 ?_
  simp only [Act.put, List.getElem_toArray, List.getElem_cons_zero, List.getElem_cons_succ, List.setIfInBounds_toArray, List.set_cons_zero, List.set_cons_succ]
  refine wpAnyH_take (i := 13) (oi := _) (v := .bool false) rfl (by kernel_rfl) (by kernel_rfl) (by kernel_rfl) (fun _ _ _ h => h) (Or.inl ⟨by rfl, fun w' hSw => by obtain ⟨z0, z1, z2, z3, z4, z5, z6⟩ := hSw; go_simp⟩) hH2 ?_
  simp only [Act.put, List.getElem_toArray, List.getElem_cons_zero, List.getElem_cons_succ, List.setIfInBounds_toArray, List.set_cons_zero, List.set_cons_succ]
  refine wpAnyH_take (i := 14) (oi := _) (v := .bool false) rfl (by kernel_rfl) (by kernel_rfl) (by kernel_rfl) (fun _ _ _ h => h) (Or.inl ⟨by rfl, fun w' hSw => by obtain ⟨z0, z1, z2, z3, z4, z5, z6⟩ := hSw; go_simp⟩) hH2 ?_
  simp only [Act.put, List.getElem_toArray, List.getElem_cons_zero, List.getElem_cons_succ, List.setIfInBounds_toArray, List.set_cons_zero, List.set_cons_succ]
  refine wpAnyH_done (by kernel_rfl) ?_ _
  go_wp2_with fail
  go_ret
  exact ⟨rfl, bW⟩
end Go.Proofs.YtagbkgaacfjlaaaGreat

namespace Go.Proofs.YtagbkgaacfjlaaaGreat
open Go.RowKit
set_option linter.unusedVariables false
set_option linter.unusedSimpArgs false
set_option maxRecDepth 100000 in
set_option maxHeartbeats 6400000 in
theorem sets_out (p f : Int) (e1 : Bool) (a b : Int) (e2 : Bool) (c d : Int) (lo hi lo1 ho lt ht : Int) (R1 eo et : Bool) (kf : ∀ V, Calls Tryz.prog 15 #[.int .i64 p] V fun e w' => e = .returned (.int .i64 f) ∧ Below V.heap.size V w') (sRight : ∀ V, Calls Tryz.prog 16 #[.int .i64 f, .agg #[.bool e1, .int .u64 a, .int .u64 b]] V fun e w' => e = .returned (.bool R1) ∧ Below V.heap.size V w') (rRight : ∀ V, Calls Tryz.prog 17 #[.int .i64 f, .agg #[.bool e1, .int .u64 a, .int .u64 b]] V fun e w' => e = .returned (.bool R1) ∧ Below V.heap.size V w') (sOf : ∀ V, Calls Tryz.prog 18 #[.int .i64 f, .int .u64 lo, .int .u64 hi] V fun e w' => e = .returned (.agg #[.bool eo, .int .u64 lo1, .int .u64 ho]) ∧ Below V.heap.size V w') (rOf : ∀ V, Calls Tryz.prog 19 #[.int .i64 f, .int .u64 lo, .int .u64 hi] V fun e w' => e = .returned (.agg #[.bool eo, .int .u64 lo1, .int .u64 ho]) ∧ Below V.heap.size V w') (sTop : ∀ V, Calls Tryz.prog 20 #[.int .i64 f] V fun e w' => e = .returned (.agg #[.bool et, .int .u64 lt, .int .u64 ht]) ∧ Below V.heap.size V w') (rTop : ∀ V, Calls Tryz.prog 21 #[.int .i64 f] V fun e w' => e = .returned (.agg #[.bool et, .int .u64 lt, .int .u64 ht]) ∧ Below V.heap.size V w') (kt : ∀ V, Calls Tryz.prog 22 #[.agg #[.int .i64 p, .bool e1, .int .u64 a, .int .u64 b, .bool e2, .int .u64 c, .int .u64 d]] V fun e w' => e = .returned (.bool false) ∧ Below V.heap.size V w') (hl : ∀ V, Calls Tryz.prog 23 #[] V fun e w' => e = .returned (.bool true) ∧ Below V.heap.size V w') (w : World) : Calls Tryz.prog 3 #[.agg #[.int .i64 p, .bool e1, .int .u64 a, .int .u64 b, .bool e2, .int .u64 c, .int .u64 d], .int .u64 lo, .int .u64 hi] w fun e w' => e = .returned (.bool true) ∧ Below w.heap.size w w' := by
  go_enter Tryz.func3, Tryz.ntmps3
  go_upto_region 1 with fail
  obtain ⟨W, hW⟩ : ∃ W, (w.alloc (.cells #[.int .i64 p, .bool e1, .int .u64 a, .int .u64 b, .bool e2, .int .u64 c, .int .u64 d] 27)) = W := ⟨_, rfl⟩
  have x0 : W.cell? ⟨w.heap.size, 0, none⟩ = some (.int .i64 p) := by rw [← hW]; simp [go_sem]
  have x1 : W.cell? ⟨w.heap.size, 1, none⟩ = some (.bool e1) := by rw [← hW]; simp [go_sem]
  have x2 : W.cell? ⟨w.heap.size, 2, none⟩ = some (.int .u64 a) := by rw [← hW]; simp [go_sem]
  have x3 : W.cell? ⟨w.heap.size, 3, none⟩ = some (.int .u64 b) := by rw [← hW]; simp [go_sem]
  have x4 : W.cell? ⟨w.heap.size, 4, none⟩ = some (.bool e2) := by rw [← hW]; simp [go_sem]
  have x5 : W.cell? ⟨w.heap.size, 5, none⟩ = some (.int .u64 c) := by rw [← hW]; simp [go_sem]
  have x6 : W.cell? ⟨w.heap.size, 6, none⟩ = some (.int .u64 d) := by rw [← hW]; simp [go_sem]
  have bW : Below w.heap.size w W := by rw [← hW]; exact (sp_new (Below.refl _ _) _)
  have zW : W.heap.size = w.heap.size + 1 := by rw [← hW]; simp
  rw [hW]
  clear hW
  go_upto_region 2 with (first
    | (go_at_call 15; refine (kf _).mono ?_; rintro e v0 ⟨rfl, g⟩; replace bW := sp_call bW g; replace x0 := sp_cell_on g x0; replace x1 := sp_cell_on g x1; replace x2 := sp_cell_on g x2; replace x3 := sp_cell_on g x3; replace x4 := sp_cell_on g x4; replace x5 := sp_cell_on g x5; replace x6 := sp_cell_on g x6; clear g)
    | fail)
  go_region_held3 (fun w' => w'.cell? ⟨w.heap.size, 0, none⟩ = some (.int .i64 p) ∧ w'.cell? ⟨w.heap.size, 1, none⟩ = some (.bool e1) ∧ w'.cell? ⟨w.heap.size, 2, none⟩ = some (.int .u64 a) ∧ w'.cell? ⟨w.heap.size, 3, none⟩ = some (.int .u64 b) ∧ w'.cell? ⟨w.heap.size, 4, none⟩ = some (.bool e2) ∧ w'.cell? ⟨w.heap.size, 5, none⟩ = some (.int .u64 c) ∧ w'.cell? ⟨w.heap.size, 6, none⟩ = some (.int .u64 d)) (exact ⟨x0, x1, x2, x3, x4, x5, x6⟩)
    (first
      | (go_at_call 16; refine (sRight _).mono ?_; rintro e sRight_ ⟨rfl, g⟩; replace g : Below v0.heap.size v0 sRight_ := ⟨g.os, g.tape, g.output, g.size, g.block⟩; replace bW := sp_call bW g; replace x0 := sp_cell_on g x0; replace x1 := sp_cell_on g x1; replace x2 := sp_cell_on g x2; replace x3 := sp_cell_on g x3; replace x4 := sp_cell_on g x4; replace x5 := sp_cell_on g x5; replace x6 := sp_cell_on g x6; clear g)
      | (go_at_call 17; refine (rRight _).mono ?_; rintro e rRight_ ⟨rfl, g⟩; replace g : Below sRight_.heap.size sRight_ rRight_ := ⟨g.os, g.tape, g.output, g.size, g.block⟩; replace bW := sp_call bW g; replace x0 := sp_cell_on g x0; replace x1 := sp_cell_on g x1; replace x2 := sp_cell_on g x2; replace x3 := sp_cell_on g x3; replace x4 := sp_cell_on g x4; replace x5 := sp_cell_on g x5; replace x6 := sp_cell_on g x6; clear g)
      | (go_at_call 18; refine (sOf _).mono ?_; rintro e sOf_ ⟨rfl, g⟩; replace g : Below rRight_.heap.size rRight_ sOf_ := ⟨g.os, g.tape, g.output, g.size, g.block⟩; replace bW := sp_call bW g; replace x0 := sp_cell_on g x0; replace x1 := sp_cell_on g x1; replace x2 := sp_cell_on g x2; replace x3 := sp_cell_on g x3; replace x4 := sp_cell_on g x4; replace x5 := sp_cell_on g x5; replace x6 := sp_cell_on g x6; clear g)
      | (go_at_call 19; refine (rOf _).mono ?_; rintro e rOf_ ⟨rfl, g⟩; replace g : Below sOf_.heap.size sOf_ rOf_ := ⟨g.os, g.tape, g.output, g.size, g.block⟩; replace bW := sp_call bW g; replace x0 := sp_cell_on g x0; replace x1 := sp_cell_on g x1; replace x2 := sp_cell_on g x2; replace x3 := sp_cell_on g x3; replace x4 := sp_cell_on g x4; replace x5 := sp_cell_on g x5; replace x6 := sp_cell_on g x6; clear g)
      | (go_at_call 20; refine (sTop _).mono ?_; rintro e sTop_ ⟨rfl, g⟩; replace g : Below rOf_.heap.size rOf_ sTop_ := ⟨g.os, g.tape, g.output, g.size, g.block⟩; replace bW := sp_call bW g; replace x0 := sp_cell_on g x0; replace x1 := sp_cell_on g x1; replace x2 := sp_cell_on g x2; replace x3 := sp_cell_on g x3; replace x4 := sp_cell_on g x4; replace x5 := sp_cell_on g x5; replace x6 := sp_cell_on g x6; clear g)
      | (go_at_call 21; refine (rTop _).mono ?_; rintro e rTop_ ⟨rfl, g⟩; replace g : Below sTop_.heap.size sTop_ rTop_ := ⟨g.os, g.tape, g.output, g.size, g.block⟩; replace bW := sp_call bW g; replace x0 := sp_cell_on g x0; replace x1 := sp_cell_on g x1; replace x2 := sp_cell_on g x2; replace x3 := sp_cell_on g x3; replace x4 := sp_cell_on g x4; replace x5 := sp_cell_on g x5; replace x6 := sp_cell_on g x6; clear g)
      | fail)
  go_wp2_with (first
    | (go_at_call 22; refine (kt _).mono ?_; rintro e vt ⟨rfl, g⟩; replace bW := sp_call bW g; replace x0 := sp_cell_on g x0; replace x1 := sp_cell_on g x1; replace x2 := sp_cell_on g x2; replace x3 := sp_cell_on g x3; replace x4 := sp_cell_on g x4; replace x5 := sp_cell_on g x5; replace x6 := sp_cell_on g x6; clear g)
    | (go_at_call 23; refine (hl _).mono ?_; rintro e vl ⟨rfl, g⟩; replace bW := sp_call bW g; clear g)
    | fail)
  go_ret
  exact ⟨rfl, bW⟩
end Go.Proofs.YtagbkgaacfjlaaaGreat

namespace Go.Proofs.YtagbkgaacfjlaaaGreat
open Go.RowKit
set_option linter.unusedVariables false
set_option linter.unusedSimpArgs false
set_option maxRecDepth 100000 in
set_option maxHeartbeats 6400000 in
theorem sets_ok (p f : Int) (e1 : Bool) (a b : Int) (e2 : Bool) (c d : Int) (lo hi lo1 ho lt ht lm hm lj hj lw hw : Int) (R1 eo et em ej ew Rh Rw : Bool) (kf : ∀ V, Calls Tryz.prog 15 #[.int .i64 p] V fun e w' => e = .returned (.int .i64 f) ∧ Below V.heap.size V w') (sRight : ∀ V, Calls Tryz.prog 16 #[.int .i64 f, .agg #[.bool e1, .int .u64 a, .int .u64 b]] V fun e w' => e = .returned (.bool R1) ∧ Below V.heap.size V w') (rRight : ∀ V, Calls Tryz.prog 17 #[.int .i64 f, .agg #[.bool e1, .int .u64 a, .int .u64 b]] V fun e w' => e = .returned (.bool R1) ∧ Below V.heap.size V w') (sOf : ∀ V, Calls Tryz.prog 18 #[.int .i64 f, .int .u64 lo, .int .u64 hi] V fun e w' => e = .returned (.agg #[.bool eo, .int .u64 lo1, .int .u64 ho]) ∧ Below V.heap.size V w') (rOf : ∀ V, Calls Tryz.prog 19 #[.int .i64 f, .int .u64 lo, .int .u64 hi] V fun e w' => e = .returned (.agg #[.bool eo, .int .u64 lo1, .int .u64 ho]) ∧ Below V.heap.size V w') (sTop : ∀ V, Calls Tryz.prog 20 #[.int .i64 f] V fun e w' => e = .returned (.agg #[.bool et, .int .u64 lt, .int .u64 ht]) ∧ Below V.heap.size V w') (rTop : ∀ V, Calls Tryz.prog 21 #[.int .i64 f] V fun e w' => e = .returned (.agg #[.bool et, .int .u64 lt, .int .u64 ht]) ∧ Below V.heap.size V w') (kt : ∀ V, Calls Tryz.prog 22 #[.agg #[.int .i64 p, .bool e1, .int .u64 a, .int .u64 b, .bool e2, .int .u64 c, .int .u64 d]] V fun e w' => e = .returned (.bool true) ∧ Below V.heap.size V w') (hl : ∀ V, Calls Tryz.prog 23 #[] V fun e w' => e = .returned (.bool true) ∧ Below V.heap.size V w') (sHas : ∀ V, Calls Tryz.prog 24 #[.int .i64 f, .agg #[.bool e1, .int .u64 a, .int .u64 b], .int .u64 lo] V fun e w' => e = .returned (.bool Rh) ∧ Below V.heap.size V w') (rHas : ∀ V, Calls Tryz.prog 25 #[.int .i64 f, .agg #[.bool e1, .int .u64 a, .int .u64 b], .int .u64 lo] V fun e w' => e = .returned (.bool Rh) ∧ Below V.heap.size V w') (sMeet : ∀ V, Calls Tryz.prog 26 #[.int .i64 f, .agg #[.bool e1, .int .u64 a, .int .u64 b], .agg #[.bool e2, .int .u64 c, .int .u64 d]] V fun e w' => e = .returned (.agg #[.bool em, .int .u64 lm, .int .u64 hm]) ∧ Below V.heap.size V w') (rMeet : ∀ V, Calls Tryz.prog 27 #[.int .i64 f, .agg #[.bool e1, .int .u64 a, .int .u64 b], .agg #[.bool e2, .int .u64 c, .int .u64 d]] V fun e w' => e = .returned (.agg #[.bool em, .int .u64 lm, .int .u64 hm]) ∧ Below V.heap.size V w') (sJoin : ∀ V, Calls Tryz.prog 28 #[.int .i64 f, .agg #[.bool e1, .int .u64 a, .int .u64 b], .agg #[.bool e2, .int .u64 c, .int .u64 d]] V fun e w' => e = .returned (.agg #[.bool ej, .int .u64 lj, .int .u64 hj]) ∧ Below V.heap.size V w') (rJoin : ∀ V, Calls Tryz.prog 29 #[.int .i64 f, .agg #[.bool e1, .int .u64 a, .int .u64 b], .agg #[.bool e2, .int .u64 c, .int .u64 d]] V fun e w' => e = .returned (.agg #[.bool ej, .int .u64 lj, .int .u64 hj]) ∧ Below V.heap.size V w') (sWithin : ∀ V, Calls Tryz.prog 30 #[.int .i64 f, .agg #[.bool e1, .int .u64 a, .int .u64 b], .agg #[.bool e2, .int .u64 c, .int .u64 d]] V fun e w' => e = .returned (.bool Rw) ∧ Below V.heap.size V w') (rWithin : ∀ V, Calls Tryz.prog 31 #[.int .i64 f, .agg #[.bool e1, .int .u64 a, .int .u64 b], .agg #[.bool e2, .int .u64 c, .int .u64 d]] V fun e w' => e = .returned (.bool Rw) ∧ Below V.heap.size V w') (sWiden : ∀ V, Calls Tryz.prog 32 #[.int .i64 f, .agg #[.bool e1, .int .u64 a, .int .u64 b], .agg #[.bool e2, .int .u64 c, .int .u64 d]] V fun e w' => e = .returned (.agg #[.bool ew, .int .u64 lw, .int .u64 hw]) ∧ Below V.heap.size V w') (rWiden : ∀ V, Calls Tryz.prog 33 #[.int .i64 f, .agg #[.bool e1, .int .u64 a, .int .u64 b], .agg #[.bool e2, .int .u64 c, .int .u64 d]] V fun e w' => e = .returned (.agg #[.bool ew, .int .u64 lw, .int .u64 hw]) ∧ Below V.heap.size V w') (w : World) : Calls Tryz.prog 3 #[.agg #[.int .i64 p, .bool e1, .int .u64 a, .int .u64 b, .bool e2, .int .u64 c, .int .u64 d], .int .u64 lo, .int .u64 hi] w fun e w' => e = .returned (.bool true) ∧ Below w.heap.size w w' := by
  go_enter Tryz.func3, Tryz.ntmps3
  go_upto_region 1 with fail
  obtain ⟨W, hW⟩ : ∃ W, (w.alloc (.cells #[.int .i64 p, .bool e1, .int .u64 a, .int .u64 b, .bool e2, .int .u64 c, .int .u64 d] 27)) = W := ⟨_, rfl⟩
  have x0 : W.cell? ⟨w.heap.size, 0, none⟩ = some (.int .i64 p) := by rw [← hW]; simp [go_sem]
  have x1 : W.cell? ⟨w.heap.size, 1, none⟩ = some (.bool e1) := by rw [← hW]; simp [go_sem]
  have x2 : W.cell? ⟨w.heap.size, 2, none⟩ = some (.int .u64 a) := by rw [← hW]; simp [go_sem]
  have x3 : W.cell? ⟨w.heap.size, 3, none⟩ = some (.int .u64 b) := by rw [← hW]; simp [go_sem]
  have x4 : W.cell? ⟨w.heap.size, 4, none⟩ = some (.bool e2) := by rw [← hW]; simp [go_sem]
  have x5 : W.cell? ⟨w.heap.size, 5, none⟩ = some (.int .u64 c) := by rw [← hW]; simp [go_sem]
  have x6 : W.cell? ⟨w.heap.size, 6, none⟩ = some (.int .u64 d) := by rw [← hW]; simp [go_sem]
  have bW : Below w.heap.size w W := by rw [← hW]; exact (sp_new (Below.refl _ _) _)
  have zW : W.heap.size = w.heap.size + 1 := by rw [← hW]; simp
  rw [hW]
  clear hW
  go_upto_region 2 with (first
    | (go_at_call 15; refine (kf _).mono ?_; rintro e v0 ⟨rfl, g⟩; replace bW := sp_call bW g; replace x0 := sp_cell_on g x0; replace x1 := sp_cell_on g x1; replace x2 := sp_cell_on g x2; replace x3 := sp_cell_on g x3; replace x4 := sp_cell_on g x4; replace x5 := sp_cell_on g x5; replace x6 := sp_cell_on g x6; clear g)
    | fail)
  go_region_held3 (fun w' => w'.cell? ⟨w.heap.size, 0, none⟩ = some (.int .i64 p) ∧ w'.cell? ⟨w.heap.size, 1, none⟩ = some (.bool e1) ∧ w'.cell? ⟨w.heap.size, 2, none⟩ = some (.int .u64 a) ∧ w'.cell? ⟨w.heap.size, 3, none⟩ = some (.int .u64 b) ∧ w'.cell? ⟨w.heap.size, 4, none⟩ = some (.bool e2) ∧ w'.cell? ⟨w.heap.size, 5, none⟩ = some (.int .u64 c) ∧ w'.cell? ⟨w.heap.size, 6, none⟩ = some (.int .u64 d)) (exact ⟨x0, x1, x2, x3, x4, x5, x6⟩)
    (first
      | (go_at_call 16; refine (sRight _).mono ?_; rintro e sRight_ ⟨rfl, g⟩; replace g : Below v0.heap.size v0 sRight_ := ⟨g.os, g.tape, g.output, g.size, g.block⟩; replace bW := sp_call bW g; replace x0 := sp_cell_on g x0; replace x1 := sp_cell_on g x1; replace x2 := sp_cell_on g x2; replace x3 := sp_cell_on g x3; replace x4 := sp_cell_on g x4; replace x5 := sp_cell_on g x5; replace x6 := sp_cell_on g x6; clear g)
      | (go_at_call 17; refine (rRight _).mono ?_; rintro e rRight_ ⟨rfl, g⟩; replace g : Below sRight_.heap.size sRight_ rRight_ := ⟨g.os, g.tape, g.output, g.size, g.block⟩; replace bW := sp_call bW g; replace x0 := sp_cell_on g x0; replace x1 := sp_cell_on g x1; replace x2 := sp_cell_on g x2; replace x3 := sp_cell_on g x3; replace x4 := sp_cell_on g x4; replace x5 := sp_cell_on g x5; replace x6 := sp_cell_on g x6; clear g)
      | (go_at_call 18; refine (sOf _).mono ?_; rintro e sOf_ ⟨rfl, g⟩; replace g : Below rRight_.heap.size rRight_ sOf_ := ⟨g.os, g.tape, g.output, g.size, g.block⟩; replace bW := sp_call bW g; replace x0 := sp_cell_on g x0; replace x1 := sp_cell_on g x1; replace x2 := sp_cell_on g x2; replace x3 := sp_cell_on g x3; replace x4 := sp_cell_on g x4; replace x5 := sp_cell_on g x5; replace x6 := sp_cell_on g x6; clear g)
      | (go_at_call 19; refine (rOf _).mono ?_; rintro e rOf_ ⟨rfl, g⟩; replace g : Below sOf_.heap.size sOf_ rOf_ := ⟨g.os, g.tape, g.output, g.size, g.block⟩; replace bW := sp_call bW g; replace x0 := sp_cell_on g x0; replace x1 := sp_cell_on g x1; replace x2 := sp_cell_on g x2; replace x3 := sp_cell_on g x3; replace x4 := sp_cell_on g x4; replace x5 := sp_cell_on g x5; replace x6 := sp_cell_on g x6; clear g)
      | (go_at_call 20; refine (sTop _).mono ?_; rintro e sTop_ ⟨rfl, g⟩; replace g : Below rOf_.heap.size rOf_ sTop_ := ⟨g.os, g.tape, g.output, g.size, g.block⟩; replace bW := sp_call bW g; replace x0 := sp_cell_on g x0; replace x1 := sp_cell_on g x1; replace x2 := sp_cell_on g x2; replace x3 := sp_cell_on g x3; replace x4 := sp_cell_on g x4; replace x5 := sp_cell_on g x5; replace x6 := sp_cell_on g x6; clear g)
      | (go_at_call 21; refine (rTop _).mono ?_; rintro e rTop_ ⟨rfl, g⟩; replace g : Below sTop_.heap.size sTop_ rTop_ := ⟨g.os, g.tape, g.output, g.size, g.block⟩; replace bW := sp_call bW g; replace x0 := sp_cell_on g x0; replace x1 := sp_cell_on g x1; replace x2 := sp_cell_on g x2; replace x3 := sp_cell_on g x3; replace x4 := sp_cell_on g x4; replace x5 := sp_cell_on g x5; replace x6 := sp_cell_on g x6; clear g)
      | fail)
  go_upto_region 6 with (first
    | (go_at_call 22; refine (kt _).mono ?_; rintro e vt ⟨rfl, g⟩; replace bW := sp_call bW g; replace x0 := sp_cell_on g x0; replace x1 := sp_cell_on g x1; replace x2 := sp_cell_on g x2; replace x3 := sp_cell_on g x3; replace x4 := sp_cell_on g x4; replace x5 := sp_cell_on g x5; replace x6 := sp_cell_on g x6; clear g)
    | fail)
  simp only [List.append]
  go_region_held3 (fun w' => w'.cell? ⟨w.heap.size, 0, none⟩ = some (.int .i64 p) ∧ w'.cell? ⟨w.heap.size, 1, none⟩ = some (.bool e1) ∧ w'.cell? ⟨w.heap.size, 2, none⟩ = some (.int .u64 a) ∧ w'.cell? ⟨w.heap.size, 3, none⟩ = some (.int .u64 b) ∧ w'.cell? ⟨w.heap.size, 4, none⟩ = some (.bool e2) ∧ w'.cell? ⟨w.heap.size, 5, none⟩ = some (.int .u64 c) ∧ w'.cell? ⟨w.heap.size, 6, none⟩ = some (.int .u64 d)) (exact ⟨x0, x1, x2, x3, x4, x5, x6⟩)
    (first
      | (go_at_call 23; refine (hl _).mono ?_; rintro e vl ⟨rfl, g⟩; replace g : Below vt.heap.size vt vl := ⟨g.os, g.tape, g.output, g.size, g.block⟩; replace bW := sp_call bW g; replace x0 := sp_cell_on g x0; replace x1 := sp_cell_on g x1; replace x2 := sp_cell_on g x2; replace x3 := sp_cell_on g x3; replace x4 := sp_cell_on g x4; replace x5 := sp_cell_on g x5; replace x6 := sp_cell_on g x6; clear g)
      | (go_at_call 24; refine (sHas _).mono ?_; rintro e sHas_ ⟨rfl, g⟩; replace g : Below vl.heap.size vl sHas_ := ⟨g.os, g.tape, g.output, g.size, g.block⟩; replace bW := sp_call bW g; replace x0 := sp_cell_on g x0; replace x1 := sp_cell_on g x1; replace x2 := sp_cell_on g x2; replace x3 := sp_cell_on g x3; replace x4 := sp_cell_on g x4; replace x5 := sp_cell_on g x5; replace x6 := sp_cell_on g x6; clear g)
      | (go_at_call 25; refine (rHas _).mono ?_; rintro e rHas_ ⟨rfl, g⟩; replace g : Below sHas_.heap.size sHas_ rHas_ := ⟨g.os, g.tape, g.output, g.size, g.block⟩; replace bW := sp_call bW g; replace x0 := sp_cell_on g x0; replace x1 := sp_cell_on g x1; replace x2 := sp_cell_on g x2; replace x3 := sp_cell_on g x3; replace x4 := sp_cell_on g x4; replace x5 := sp_cell_on g x5; replace x6 := sp_cell_on g x6; clear g)
      | (go_at_call 26; refine (sMeet _).mono ?_; rintro e sMeet_ ⟨rfl, g⟩; replace g : Below rHas_.heap.size rHas_ sMeet_ := ⟨g.os, g.tape, g.output, g.size, g.block⟩; replace bW := sp_call bW g; replace x0 := sp_cell_on g x0; replace x1 := sp_cell_on g x1; replace x2 := sp_cell_on g x2; replace x3 := sp_cell_on g x3; replace x4 := sp_cell_on g x4; replace x5 := sp_cell_on g x5; replace x6 := sp_cell_on g x6; clear g)
      | (go_at_call 27; refine (rMeet _).mono ?_; rintro e rMeet_ ⟨rfl, g⟩; replace g : Below sMeet_.heap.size sMeet_ rMeet_ := ⟨g.os, g.tape, g.output, g.size, g.block⟩; replace bW := sp_call bW g; replace x0 := sp_cell_on g x0; replace x1 := sp_cell_on g x1; replace x2 := sp_cell_on g x2; replace x3 := sp_cell_on g x3; replace x4 := sp_cell_on g x4; replace x5 := sp_cell_on g x5; replace x6 := sp_cell_on g x6; clear g)
      | (go_at_call 28; refine (sJoin _).mono ?_; rintro e sJoin_ ⟨rfl, g⟩; replace g : Below rMeet_.heap.size rMeet_ sJoin_ := ⟨g.os, g.tape, g.output, g.size, g.block⟩; replace bW := sp_call bW g; replace x0 := sp_cell_on g x0; replace x1 := sp_cell_on g x1; replace x2 := sp_cell_on g x2; replace x3 := sp_cell_on g x3; replace x4 := sp_cell_on g x4; replace x5 := sp_cell_on g x5; replace x6 := sp_cell_on g x6; clear g)
      | (go_at_call 29; refine (rJoin _).mono ?_; rintro e rJoin_ ⟨rfl, g⟩; replace g : Below sJoin_.heap.size sJoin_ rJoin_ := ⟨g.os, g.tape, g.output, g.size, g.block⟩; replace bW := sp_call bW g; replace x0 := sp_cell_on g x0; replace x1 := sp_cell_on g x1; replace x2 := sp_cell_on g x2; replace x3 := sp_cell_on g x3; replace x4 := sp_cell_on g x4; replace x5 := sp_cell_on g x5; replace x6 := sp_cell_on g x6; clear g)
      | (go_at_call 30; refine (sWithin _).mono ?_; rintro e sWithin_ ⟨rfl, g⟩; replace g : Below rJoin_.heap.size rJoin_ sWithin_ := ⟨g.os, g.tape, g.output, g.size, g.block⟩; replace bW := sp_call bW g; replace x0 := sp_cell_on g x0; replace x1 := sp_cell_on g x1; replace x2 := sp_cell_on g x2; replace x3 := sp_cell_on g x3; replace x4 := sp_cell_on g x4; replace x5 := sp_cell_on g x5; replace x6 := sp_cell_on g x6; clear g)
      | (go_at_call 31; refine (rWithin _).mono ?_; rintro e rWithin_ ⟨rfl, g⟩; replace g : Below sWithin_.heap.size sWithin_ rWithin_ := ⟨g.os, g.tape, g.output, g.size, g.block⟩; replace bW := sp_call bW g; replace x0 := sp_cell_on g x0; replace x1 := sp_cell_on g x1; replace x2 := sp_cell_on g x2; replace x3 := sp_cell_on g x3; replace x4 := sp_cell_on g x4; replace x5 := sp_cell_on g x5; replace x6 := sp_cell_on g x6; clear g)
      | (go_at_call 32; refine (sWiden _).mono ?_; rintro e sWiden_ ⟨rfl, g⟩; replace g : Below rWithin_.heap.size rWithin_ sWiden_ := ⟨g.os, g.tape, g.output, g.size, g.block⟩; replace bW := sp_call bW g; replace x0 := sp_cell_on g x0; replace x1 := sp_cell_on g x1; replace x2 := sp_cell_on g x2; replace x3 := sp_cell_on g x3; replace x4 := sp_cell_on g x4; replace x5 := sp_cell_on g x5; replace x6 := sp_cell_on g x6; clear g)
      | (go_at_call 33; refine (rWiden _).mono ?_; rintro e rWiden_ ⟨rfl, g⟩; replace g : Below sWiden_.heap.size sWiden_ rWiden_ := ⟨g.os, g.tape, g.output, g.size, g.block⟩; replace bW := sp_call bW g; replace x0 := sp_cell_on g x0; replace x1 := sp_cell_on g x1; replace x2 := sp_cell_on g x2; replace x3 := sp_cell_on g x3; replace x4 := sp_cell_on g x4; replace x5 := sp_cell_on g x5; replace x6 := sp_cell_on g x6; clear g)
      | fail)
  all_goals go_wp2
  all_goals go_ret
  all_goals exact ⟨by simp, bW⟩
end Go.Proofs.YtagbkgaacfjlaaaGreat

