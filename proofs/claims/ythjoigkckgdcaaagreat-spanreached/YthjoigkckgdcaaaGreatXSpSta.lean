/- The pair's right, and SpanSets, walked. -/
import Derived.Test.YthjoigkckgdcaaaGreatXSpFl
import Derived.Deep.DeepCutAuto
namespace Go.Proofs.YthjoigkckgdcaaaGreat
open Go.RowKit
set_option linter.unusedVariables false
set_option linter.unusedSimpArgs false
set_option maxRecDepth 100000 in
set_option maxHeartbeats 6400000 in
theorem tright_t (p f : Int) (e1 : Bool) (a b : Int) (e2 : Bool) (c d : Int) (R2 : Bool) (kf : ∀ V, Calls Tryz.prog 15 #[.int .i64 p] V fun e w' => e = .returned (.int .i64 f) ∧ Below V.heap.size V w') (k1 : ∀ V, Calls Tryz.prog 17 #[.int .i64 f, .agg #[.bool e1, .int .u64 a, .int .u64 b]] V fun e w' => e = .returned (.bool true) ∧ Below V.heap.size V w') (k2 : ∀ V, Calls Tryz.prog 17 #[.int .i64 f, .agg #[.bool e2, .int .u64 c, .int .u64 d]] V fun e w' => e = .returned (.bool R2) ∧ Below V.heap.size V w') (w : World) : Calls Tryz.prog 22 #[.agg #[.int .i64 p, .bool e1, .int .u64 a, .int .u64 b, .bool e2, .int .u64 c, .int .u64 d]] w fun e w' => e = .returned (.bool R2) ∧ Below w.heap.size w w' := by
  go_enter Tryz.func22, Tryz.ntmps22
  go_wp2_with fail
  obtain ⟨W, hW⟩ : ∃ W, (w.alloc (.cells #[.int .i64 p, .bool e1, .int .u64 a, .int .u64 b, .bool e2, .int .u64 c, .int .u64 d] 27)) = W := ⟨_, rfl⟩
  have x0 : W.cell? ⟨w.heap.size, 0, none⟩ = some (.int .i64 p) := by rw [← hW]; simp [go_sem]
  have x1 : W.cell? ⟨w.heap.size, 1, none⟩ = some (.bool e1) := by rw [← hW]; simp [go_sem]
  have x2 : W.cell? ⟨w.heap.size, 2, none⟩ = some (.int .u64 a) := by rw [← hW]; simp [go_sem]
  have x3 : W.cell? ⟨w.heap.size, 3, none⟩ = some (.int .u64 b) := by rw [← hW]; simp [go_sem]
  have x4 : W.cell? ⟨w.heap.size, 4, none⟩ = some (.bool e2) := by rw [← hW]; simp [go_sem]
  have x5 : W.cell? ⟨w.heap.size, 5, none⟩ = some (.int .u64 c) := by rw [← hW]; simp [go_sem]
  have x6 : W.cell? ⟨w.heap.size, 6, none⟩ = some (.int .u64 d) := by rw [← hW]; simp [go_sem]
  have bW : Below w.heap.size w W := by rw [← hW]; exact (sp_new (Below.refl _ _) _)
  have zW : W.heap.size = w.heap.size + 1 := by rw [← hW]; simp
  rw [hW]
  clear hW
  have kf2 := kf
  go_region_held3 (fun w' => w'.cell? ⟨w.heap.size, 0, none⟩ = some (.int .i64 p) ∧ w'.cell? ⟨w.heap.size, 1, none⟩ = some (.bool e1) ∧ w'.cell? ⟨w.heap.size, 2, none⟩ = some (.int .u64 a) ∧ w'.cell? ⟨w.heap.size, 3, none⟩ = some (.int .u64 b) ∧ w'.cell? ⟨w.heap.size, 4, none⟩ = some (.bool e2) ∧ w'.cell? ⟨w.heap.size, 5, none⟩ = some (.int .u64 c) ∧ w'.cell? ⟨w.heap.size, 6, none⟩ = some (.int .u64 d)) (exact ⟨x0, x1, x2, x3, x4, x5, x6⟩)
    (first
      | (go_at_call 15; refine (kf _).mono ?_; rintro e v1 ⟨rfl, g⟩; replace g : Below W.heap.size W v1 := ⟨g.os, g.tape, g.output, g.size, g.block⟩; replace bW := sp_call bW g; replace x0 := sO g x0; replace x1 := sO g x1; replace x2 := sO g x2; replace x3 := sO g x3; replace x4 := sO g x4; replace x5 := sO g x5; replace x6 := sO g x6; clear g; clear kf)
      | (go_at_call 17; refine (k1 _).mono ?_; rintro e v2 ⟨rfl, g⟩; replace g : Below v1.heap.size v1 v2 := ⟨g.os, g.tape, g.output, g.size, g.block⟩; replace bW := sp_call bW g; replace x0 := sO g x0; replace x1 := sO g x1; replace x2 := sO g x2; replace x3 := sO g x3; replace x4 := sO g x4; replace x5 := sO g x5; replace x6 := sO g x6; clear g; clear k1)
      | (go_at_call 15; refine (kf2 _).mono ?_; rintro e v3 ⟨rfl, g⟩; replace g : Below v2.heap.size v2 v3 := ⟨g.os, g.tape, g.output, g.size, g.block⟩; replace bW := sp_call bW g; replace x0 := sO g x0; replace x1 := sO g x1; replace x2 := sO g x2; replace x3 := sO g x3; replace x4 := sO g x4; replace x5 := sO g x5; replace x6 := sO g x6; clear g)
      | (go_at_call 17; refine (k2 _).mono ?_; rintro e v4 ⟨rfl, g⟩; replace g : Below v3.heap.size v3 v4 := ⟨g.os, g.tape, g.output, g.size, g.block⟩; replace bW := sp_call bW g; replace x0 := sO g x0; replace x1 := sO g x1; replace x2 := sO g x2; replace x3 := sO g x3; replace x4 := sO g x4; replace x5 := sO g x5; replace x6 := sO g x6; clear g)
      | fail)
  all_goals go_wp2
  all_goals go_ret
  all_goals exact ⟨rfl, bW⟩
set_option maxRecDepth 100000 in
set_option maxHeartbeats 6400000 in
theorem tright_f (p f : Int) (e1 : Bool) (a b : Int) (e2 : Bool) (c d : Int) (kf : ∀ V, Calls Tryz.prog 15 #[.int .i64 p] V fun e w' => e = .returned (.int .i64 f) ∧ Below V.heap.size V w') (k1 : ∀ V, Calls Tryz.prog 17 #[.int .i64 f, .agg #[.bool e1, .int .u64 a, .int .u64 b]] V fun e w' => e = .returned (.bool false) ∧ Below V.heap.size V w') (w : World) : Calls Tryz.prog 22 #[.agg #[.int .i64 p, .bool e1, .int .u64 a, .int .u64 b, .bool e2, .int .u64 c, .int .u64 d]] w fun e w' => e = .returned (.bool false) ∧ Below w.heap.size w w' := by
  go_enter Tryz.func22, Tryz.ntmps22
  go_wp2_with fail
  obtain ⟨W, hW⟩ : ∃ W, (w.alloc (.cells #[.int .i64 p, .bool e1, .int .u64 a, .int .u64 b, .bool e2, .int .u64 c, .int .u64 d] 27)) = W := ⟨_, rfl⟩
  have x0 : W.cell? ⟨w.heap.size, 0, none⟩ = some (.int .i64 p) := by rw [← hW]; simp [go_sem]
  have x1 : W.cell? ⟨w.heap.size, 1, none⟩ = some (.bool e1) := by rw [← hW]; simp [go_sem]
  have x2 : W.cell? ⟨w.heap.size, 2, none⟩ = some (.int .u64 a) := by rw [← hW]; simp [go_sem]
  have x3 : W.cell? ⟨w.heap.size, 3, none⟩ = some (.int .u64 b) := by rw [← hW]; simp [go_sem]
  have x4 : W.cell? ⟨w.heap.size, 4, none⟩ = some (.bool e2) := by rw [← hW]; simp [go_sem]
  have x5 : W.cell? ⟨w.heap.size, 5, none⟩ = some (.int .u64 c) := by rw [← hW]; simp [go_sem]
  have x6 : W.cell? ⟨w.heap.size, 6, none⟩ = some (.int .u64 d) := by rw [← hW]; simp [go_sem]
  have bW : Below w.heap.size w W := by rw [← hW]; exact (sp_new (Below.refl _ _) _)
  have zW : W.heap.size = w.heap.size + 1 := by rw [← hW]; simp
  rw [hW]
  clear hW
  refine wp_region_held_drew (S := (fun w' => w'.cell? ⟨w.heap.size, 0, none⟩ = some (.int .i64 p) ∧ w'.cell? ⟨w.heap.size, 1, none⟩ = some (.bool e1) ∧ w'.cell? ⟨w.heap.size, 2, none⟩ = some (.int .u64 a) ∧ w'.cell? ⟨w.heap.size, 3, none⟩ = some (.int .u64 b) ∧ w'.cell? ⟨w.heap.size, 4, none⟩ = some (.bool e2) ∧ w'.cell? ⟨w.heap.size, 5, none⟩ = some (.int .u64 c) ∧ w'.cell? ⟨w.heap.size, 6, none⟩ = some (.int .u64 d))) (by kernel_rfl) ⟨x0, x1, x2, x3, x4, x5, x6⟩ (fun hH0 => ?_)
  refine wpAnyH_take (i := 0) (oi := _) (v := .pointer (some ⟨w.heap.size, 0, none⟩)) rfl (by kernel_rfl) (by kernel_rfl) (by kernel_rfl) (fun _ _ _ h => h) (Or.inl ⟨by rfl, fun w' hSw => by obtain ⟨z0, z1, z2, z3, z4, z5, z6⟩ := hSw; go_simp⟩) hH0 ?_
  simp only [Act.put, gA, gB, gC, gD, gE, gG]
  refine wpAnyH_take (i := 1) (oi := _) (v := .int .i64 p) rfl (by kernel_rfl) (by kernel_rfl) (by kernel_rfl) (fun _ _ _ h => h) (Or.inl ⟨by rfl, fun w' hSw => by obtain ⟨z0, z1, z2, z3, z4, z5, z6⟩ := hSw; go_simp⟩) hH0 ?_
  simp only [Act.put, gA, gB, gC, gD, gE, gG]
  refine wpAnyH_take (i := 3) (oi := _) (v := .pointer (some ⟨w.heap.size, 1, none⟩)) rfl (by kernel_rfl) (by kernel_rfl) (by kernel_rfl) (fun _ _ _ h => h) (Or.inl ⟨by rfl, fun w' hSw => by obtain ⟨z0, z1, z2, z3, z4, z5, z6⟩ := hSw; go_simp⟩) hH0 ?_
  simp only [Act.put, gA, gB, gC, gD, gE, gG]
  refine wpAnyH_take (i := 4) (oi := _) (v := .agg #[.bool e1, .int .u64 a, .int .u64 b]) rfl (by kernel_rfl) (by kernel_rfl) (by kernel_rfl) (fun _ _ _ h => h) (Or.inl ⟨by rfl, fun w' hSw => by obtain ⟨z0, z1, z2, z3, z4, z5, z6⟩ := hSw; go_simp⟩) hH0 ?_
  simp only [Act.put, gA, gB, gC, gD, gE, gG]
  refine wpAnyH_ready (rs := [2]) (by kernel_rfl) (by simp) (AllReadyH.cons (o := _) rfl (fun K hK => ?_) AllReadyH.nil)
  go_simp
  refine (kf _).mono ?_
  rintro e v1 ⟨rfl, g1⟩
  replace g1 : Below W.heap.size W v1 := ⟨g1.os, g1.tape, g1.output, g1.size, g1.block⟩
  replace x0 := sO g1 x0; replace x1 := sO g1 x1; replace x2 := sO g1 x2; replace x3 := sO g1 x3; replace x4 := sO g1 x4; replace x5 := sO g1 x5; replace x6 := sO g1 x6
  replace bW := sp_call bW g1
  go_wp2_with fail
  refine hK.out _ _ ⟨x0, x1, x2, x3, x4, x5, x6⟩ (fun hH1 => ?_)
  clear hK K hH0
  try simp only [Act.put, gA, gB, gC, gD, gE, gG]
  refine wpAnyH_ready (rs := [5]) (by kernel_rfl) (by simp) (AllReadyH.cons (o := _) rfl (fun K hK => ?_) AllReadyH.nil)
  go_simp
  refine (k1 _).mono ?_
  rintro e v2 ⟨rfl, g2⟩
  replace g2 : Below v1.heap.size v1 v2 := ⟨g2.os, g2.tape, g2.output, g2.size, g2.block⟩
  replace x0 := sO g2 x0; replace x1 := sO g2 x1; replace x2 := sO g2 x2; replace x3 := sO g2 x3; replace x4 := sO g2 x4; replace x5 := sO g2 x5; replace x6 := sO g2 x6
  replace bW := sp_call bW g2
  go_wp2_with fail
  refine hK.out _ _ ⟨x0, x1, x2, x3, x4, x5, x6⟩ (fun hH2 => ?_)
  clear hK K hH1
  try simp only [Act.put, gA, gB, gC, gD, gE, gG]
  refine wpAnyH_take (i := 6) (oi := _) (v := .bool false) rfl (by kernel_rfl) (by kernel_rfl) (by kernel_rfl) (fun _ _ _ h => h) (Or.inl ⟨by rfl, fun w' hSw => by obtain ⟨z0, z1, z2, z3, z4, z5, z6⟩ := hSw; go_simp⟩) hH2 ?_
  simp only [Act.put, gA, gB, gC, gD, gE, gG]
  refine wpAnyH_take (i := 7) (oi := _) (v := undef) rfl (by kernel_rfl) (by kernel_rfl) (by kernel_rfl) (fun _ _ _ h => h) (Or.inr ⟨by rfl, rfl⟩) hH2 ?_
  simp only [Act.put, gA, gB, gC, gD, gE, gG]
  refine wpAnyH_take (i := 8) (oi := _) (v := undef) rfl (by kernel_rfl) (by kernel_rfl) (by kernel_rfl) (fun _ _ _ h => h) (Or.inr ⟨by rfl, rfl⟩) hH2 ?_
  simp only [Act.put, gA, gB, gC, gD, gE, gG]
  refine wpAnyH_take (i := 9) (oi := _) (v := undef) rfl (by kernel_rfl) (by kernel_rfl) (by kernel_rfl) (fun _ _ _ h => h) (Or.inr ⟨by rfl, rfl⟩) hH2 ?_
  simp only [Act.put, gA, gB, gC, gD, gE, gG]
  refine wpAnyH_take (i := 10) (oi := _) (v := undef) rfl (by kernel_rfl) (by kernel_rfl) (by kernel_rfl) (fun _ _ _ h => h) (Or.inr ⟨by rfl, rfl⟩) hH2 ?_
  simp only [Act.put, gA, gB, gC, gD, gE, gG]
  refine wpAnyH_take (i := 11) (oi := _) (v := undef) rfl (by kernel_rfl) (by kernel_rfl) (by kernel_rfl) (fun _ _ _ h => h) (Or.inr ⟨by rfl, rfl⟩) hH2 ?_
  simp only [Act.put, gA, gB, gC, gD, gE, gG]
  refine wpAnyH_take (i := 12) (oi := _) (v := undef) rfl (by kernel_rfl) (by kernel_rfl) (by kernel_rfl) (fun _ _ _ h => h) (Or.inr ⟨by rfl, rfl⟩) hH2 ?_
  simp only [Act.put, gA, gB, gC, gD, gE, gG]
  refine wpAnyH_take (i := 13) (oi := _) (v := .bool false) rfl (by kernel_rfl) (by kernel_rfl) (by kernel_rfl) (fun _ _ _ h => h) (Or.inl ⟨by rfl, fun w' hSw => by obtain ⟨z0, z1, z2, z3, z4, z5, z6⟩ := hSw; go_simp⟩) hH2 ?_
  simp only [Act.put, gA, gB, gC, gD, gE, gG]
  refine wpAnyH_take (i := 14) (oi := _) (v := .bool false) rfl (by kernel_rfl) (by kernel_rfl) (by kernel_rfl) (fun _ _ _ h => h) (Or.inl ⟨by rfl, fun w' hSw => by obtain ⟨z0, z1, z2, z3, z4, z5, z6⟩ := hSw; go_simp⟩) hH2 ?_
  simp only [Act.put, gA, gB, gC, gD, gE, gG]
  refine wpAnyH_done (by kernel_rfl) ?_ _
  go_wp2_with fail
  go_ret
  exact ⟨rfl, bW⟩
end Go.Proofs.YthjoigkckgdcaaaGreat


