/- plumblineref08.To, ToInt, FromInt. -/
import Derived.Test.YtgdknlnpfnifiaaGreatTG18
import Derived.Deep.DeepCutAuto
import Derived.BigQuiet
namespace Go.Proofs.YtgdknlnpfnifiaaGreat
open Go.RowKit
set_option linter.unusedVariables false
set_option linter.unusedSimpArgs false
set_option maxRecDepth 100000 in
set_option maxHeartbeats 6400000 in
theorem rto_e (f t a b : Int) (k1 : ∀ V, Calls Tryz.prog 28 #[] V fun e w' => e = .returned (.agg #[.bool true, .int .u64 0, .int .u64 0]) ∧ Below V.heap.size V w') (w : World) :
    Calls Tryz.prog 14 #[.int .i64 f, .int .i64 t, .agg #[.bool true, .int .u64 a, .int .u64 b]] w fun e w' => e = .returned (.tuple #[.agg #[.bool true, .int .u64 0, .int .u64 0], .int .i64 0]) ∧ Below w.heap.size w w' := by
  go_enter Tryz.func14, Tryz.ntmps14
  go_upto_region 1 with fail
  obtain ⟨W, hW⟩ : ∃ W, ((w.alloc (.cells #[.bool true, .int .u64 a, .int .u64 b] 26)).alloc (.cells #[.bool false, .int .u64 0, .int .u64 0] 26)) = W := ⟨_, rfl⟩
  have a0 : W.cell? ⟨w.heap.size, 0, none⟩ = some (.bool true) := by rw [← hW]; simp [go_sem]
  have a1 : W.cell? ⟨w.heap.size, 1, none⟩ = some (.int .u64 a) := by rw [← hW]; simp [go_sem]
  have a2 : W.cell? ⟨w.heap.size, 2, none⟩ = some (.int .u64 b) := by rw [← hW]; simp [go_sem]
  have r0 : W.cell? ⟨w.heap.size + 1, 0, none⟩ = some (.bool false) := by rw [← hW]; simp [go_sem]
  have r1 : W.cell? ⟨w.heap.size + 1, 1, none⟩ = some (.int .u64 0) := by rw [← hW]; simp [go_sem]
  have r2 : W.cell? ⟨w.heap.size + 1, 2, none⟩ = some (.int .u64 0) := by rw [← hW]; simp [go_sem]
  have bW : Below w.heap.size w W := by rw [← hW]; exact (sp_new (sp_new (Below.refl _ _) _) _)
  have zW : W.heap.size = w.heap.size + 2 := by rw [← hW]; simp
  have fz : ∀ j, W.frozen? ⟨w.heap.size + 1, j, none⟩ = false := by intro j; rw [← hW]; simp [go_sem]
  rw [hW]
  clear hW
  replace zW := Nat.le_of_eq zW.symm
  go_wp2_with (first
    | (go_at_call 28; (with_reducible refine (k1 _).mono ?_); rintro e v1 ⟨rfl, g⟩; replace fz : ∀ j, v1.frozen? ⟨w.heap.size + 1, j, none⟩ = false := fun j => (g.frozen (p := ⟨w.heap.size + 1, j, none⟩) (by first | (simp; done) | (simp; omega))).trans (fz j); replace bW := sp_call bW g; replace zW := Nat.le_trans zW g.size; replace a0 := sO g a0; replace a1 := sO g a1; replace a2 := sO g a2; replace r0 := sO g r0; replace r1 := sO g r1; replace r2 := sO g r2; clear g)
    | fail)
  exact bodyPost_ret (v := .tuple #[.agg #[.bool true, .int .u64 0, .int .u64 0], .int .i64 0]) (by simp [results, Tryz.results14, go_sem, a0, a1, a2, r0, r1, r2]) rfl ⟨rfl, by first | exact sp_set3 bW (by omega) _ _ _ | exact bW⟩
set_option maxRecDepth 100000 in
set_option maxHeartbeats 6400000 in
theorem rto_s (f a b : Int) (w : World) :
    Calls Tryz.prog 14 #[.int .i64 f, .int .i64 f, .agg #[.bool false, .int .u64 a, .int .u64 b]] w fun e w' => e = .returned (.tuple #[.agg #[.bool false, .int .u64 a, .int .u64 b], .int .i64 0]) ∧ Below w.heap.size w w' := by
  go_enter Tryz.func14, Tryz.ntmps14
  go_upto_region 1 with fail
  obtain ⟨W, hW⟩ : ∃ W, ((w.alloc (.cells #[.bool false, .int .u64 a, .int .u64 b] 26)).alloc (.cells #[.bool false, .int .u64 0, .int .u64 0] 26)) = W := ⟨_, rfl⟩
  have a0 : W.cell? ⟨w.heap.size, 0, none⟩ = some (.bool false) := by rw [← hW]; simp [go_sem]
  have a1 : W.cell? ⟨w.heap.size, 1, none⟩ = some (.int .u64 a) := by rw [← hW]; simp [go_sem]
  have a2 : W.cell? ⟨w.heap.size, 2, none⟩ = some (.int .u64 b) := by rw [← hW]; simp [go_sem]
  have r0 : W.cell? ⟨w.heap.size + 1, 0, none⟩ = some (.bool false) := by rw [← hW]; simp [go_sem]
  have r1 : W.cell? ⟨w.heap.size + 1, 1, none⟩ = some (.int .u64 0) := by rw [← hW]; simp [go_sem]
  have r2 : W.cell? ⟨w.heap.size + 1, 2, none⟩ = some (.int .u64 0) := by rw [← hW]; simp [go_sem]
  have bW : Below w.heap.size w W := by rw [← hW]; exact (sp_new (sp_new (Below.refl _ _) _) _)
  have zW : W.heap.size = w.heap.size + 2 := by rw [← hW]; simp
  have fz : ∀ j, W.frozen? ⟨w.heap.size + 1, j, none⟩ = false := by intro j; rw [← hW]; simp [go_sem]
  rw [hW]
  clear hW
  replace zW := Nat.le_of_eq zW.symm
  go_wp2_with fail
  exact bodyPost_ret (v := .tuple #[.agg #[.bool false, .int .u64 a, .int .u64 b], .int .i64 0]) (by simp [results, Tryz.results14, go_sem, a0, a1, a2, r0, r1, r2]) rfl ⟨rfl, by first | exact sp_set3 bW (by omega) _ _ _ | exact bW⟩
set_option maxRecDepth 100000 in
set_option maxHeartbeats 6400000 in
theorem rto_w (a b x y : Int) (re : Bool) (rl rh : Int) (k1 : ∀ V, Calls Tryz.prog 48 #[.int .u64 (a)] V fun e w' => e = .returned (.int .u64 (x)) ∧ Below V.heap.size V w') (k2 : ∀ V, Calls Tryz.prog 48 #[.int .u64 (b)] V fun e w' => e = .returned (.int .u64 (y)) ∧ Below V.heap.size V w') (k3 : ∀ V, Calls Tryz.prog 33 #[.int .i64 (0), .int .u64 (x), .int .u64 (y)] V fun e w' => e = .returned (.agg #[.bool re, .int .u64 rl, .int .u64 rh]) ∧ Below V.heap.size V w') (w : World) :
    Calls Tryz.prog 14 #[.int .i64 1, .int .i64 0, .agg #[.bool false, .int .u64 a, .int .u64 b]] w fun e w' => e = .returned (.tuple #[.agg #[.bool re, .int .u64 rl, .int .u64 rh], .int .i64 0]) ∧ Below w.heap.size w w' := by
  go_enter Tryz.func14, Tryz.ntmps14
  go_upto_region 1 with fail
  obtain ⟨W, hW⟩ : ∃ W, ((w.alloc (.cells #[.bool false, .int .u64 a, .int .u64 b] 26)).alloc (.cells #[.bool false, .int .u64 0, .int .u64 0] 26)) = W := ⟨_, rfl⟩
  have a0 : W.cell? ⟨w.heap.size, 0, none⟩ = some (.bool false) := by rw [← hW]; simp [go_sem]
  have a1 : W.cell? ⟨w.heap.size, 1, none⟩ = some (.int .u64 a) := by rw [← hW]; simp [go_sem]
  have a2 : W.cell? ⟨w.heap.size, 2, none⟩ = some (.int .u64 b) := by rw [← hW]; simp [go_sem]
  have r0 : W.cell? ⟨w.heap.size + 1, 0, none⟩ = some (.bool false) := by rw [← hW]; simp [go_sem]
  have r1 : W.cell? ⟨w.heap.size + 1, 1, none⟩ = some (.int .u64 0) := by rw [← hW]; simp [go_sem]
  have r2 : W.cell? ⟨w.heap.size + 1, 2, none⟩ = some (.int .u64 0) := by rw [← hW]; simp [go_sem]
  have bW : Below w.heap.size w W := by rw [← hW]; exact (sp_new (sp_new (Below.refl _ _) _) _)
  have zW : W.heap.size = w.heap.size + 2 := by rw [← hW]; simp
  have fz : ∀ j, W.frozen? ⟨w.heap.size + 1, j, none⟩ = false := by intro j; rw [← hW]; simp [go_sem]
  rw [hW]
  clear hW
  replace zW := Nat.le_of_eq zW.symm
  go_upto_region 6 with fail
  have cc : Below W.heap.size W W := Below.refl _ _
  have hall : ∀ X9, Below W.heap.size W X9 → (X9.cell? ⟨w.heap.size, 0, none⟩ = some (.bool false) ∧ X9.cell? ⟨w.heap.size, 1, none⟩ = some (.int .u64 a) ∧ X9.cell? ⟨w.heap.size, 2, none⟩ = some (.int .u64 b)) := fun X9 cc => ⟨sO cc a0, sO cc a1, sO cc a2⟩
  have hst : ∀ X9 x9 y9 z9, Below W.heap.size W X9 → ((((X9.setCell ⟨w.heap.size + 1, 0, none⟩ x9).setCell ⟨w.heap.size + 1, 1, none⟩ y9).setCell ⟨w.heap.size + 1, 2, none⟩ z9).cell? ⟨w.heap.size, 0, none⟩ = some (.bool false) ∧ (((X9.setCell ⟨w.heap.size + 1, 0, none⟩ x9).setCell ⟨w.heap.size + 1, 1, none⟩ y9).setCell ⟨w.heap.size + 1, 2, none⟩ z9).cell? ⟨w.heap.size, 1, none⟩ = some (.int .u64 a) ∧ (((X9.setCell ⟨w.heap.size + 1, 0, none⟩ x9).setCell ⟨w.heap.size + 1, 1, none⟩ y9).setCell ⟨w.heap.size + 1, 2, none⟩ z9).cell? ⟨w.heap.size, 2, none⟩ = some (.int .u64 b)) := fun X9 x9 y9 z9 cc => ⟨sp_keep3 (sO cc a0) (by omega) _ _ _, sp_keep3 (sO cc a1) (by omega) _ _ _, sp_keep3 (sO cc a2) (by omega) _ _ _⟩
  go_region_held3 (fun w' => w'.cell? ⟨w.heap.size, 0, none⟩ = some (.bool false) ∧ w'.cell? ⟨w.heap.size, 1, none⟩ = some (.int .u64 a) ∧ w'.cell? ⟨w.heap.size, 2, none⟩ = some (.int .u64 b)) (first | exact hall _ (by first | with_reducible exact cc | with_reducible exact cc.drew | with_reducible exact sp_new cc _ | with_reducible exact (sp_new cc _).drew | with_reducible exact sp_new cc.drew _) | exact hst _ _ _ _ (by first | with_reducible exact cc | with_reducible exact cc.drew | with_reducible exact sp_new cc _ | with_reducible exact (sp_new cc _).drew | with_reducible exact sp_new cc.drew _))
    (first
      | (go_at_call 48; (with_reducible refine (k1 _).mono ?_); rintro e u1 ⟨rfl, g⟩; replace cc := sp_call (show Below W.heap.size W _ by first | with_reducible exact cc | with_reducible exact cc.drew | with_reducible exact sp_new cc _ | with_reducible exact (sp_new cc _).drew | with_reducible exact sp_new cc.drew _) g; clear g; clear k1)
      | (go_at_call 48; (with_reducible refine (k2 _).mono ?_); rintro e u2 ⟨rfl, g⟩; replace cc := sp_call (show Below W.heap.size W _ by first | with_reducible exact cc | with_reducible exact cc.drew | with_reducible exact sp_new cc _ | with_reducible exact (sp_new cc _).drew | with_reducible exact sp_new cc.drew _) g; clear g)
      | (go_at_call 33; (with_reducible refine (k3 _).mono ?_); rintro e u3 ⟨rfl, g⟩; replace cc := sp_call (show Below W.heap.size W _ by first | with_reducible exact cc | with_reducible exact cc.drew | with_reducible exact sp_new cc _ | with_reducible exact (sp_new cc _).drew | with_reducible exact sp_new cc.drew _) g; clear g; have zc := cc.size; replace r0 := sO cc r0; replace r1 := sO cc r1; replace r2 := sO cc r2; replace fz : ∀ j, u3.frozen? ⟨w.heap.size + 1, j, none⟩ = false := fun j => (cc.frozen (p := ⟨w.heap.size + 1, j, none⟩) (by first | (simp; done) | (simp; omega))).trans (fz j); replace bW := sp_call bW cc)
      | fail)
  all_goals go_wp2
  all_goals exact bodyPost_ret (v := .tuple #[.agg #[.bool re, .int .u64 rl, .int .u64 rh], .int .i64 0]) (by simp [results, Tryz.results14, go_sem, r0, r1, r2]) rfl ⟨rfl, sp_set3 bW (by omega) _ _ _⟩
set_option maxRecDepth 100000 in
set_option maxHeartbeats 6400000 in
theorem rto_n (a b x y : Int) (re : Bool) (rl rh tr : Int) (k1 : ∀ V, Calls Tryz.prog 49 #[.int .i64 (0), .int .u64 (a)] V fun e w' => e = .returned (.int .u64 (x)) ∧ Below V.heap.size V w') (k2 : ∀ V, Calls Tryz.prog 49 #[.int .i64 (0), .int .u64 (b)] V fun e w' => e = .returned (.int .u64 (y)) ∧ Below V.heap.size V w') (k3 : ∀ bk cap V, V.cell? ⟨bk, 0, none⟩ = some (.int .u64 x) → V.cell? ⟨bk, 1, none⟩ = some (.int .u64 y) → Calls Tryz.prog 29 #[.int .i64 1, .slice (some ⟨bk, 0, none⟩) 2 cap] V fun e w' => e = .returned (.tuple #[.agg #[.bool re, .int .u64 rl, .int .u64 rh], .int .i64 tr]) ∧ Below V.heap.size V w') (w : World) :
    Calls Tryz.prog 14 #[.int .i64 0, .int .i64 1, .agg #[.bool false, .int .u64 a, .int .u64 b]] w fun e w' => e = .returned (.tuple #[.agg #[.bool re, .int .u64 rl, .int .u64 rh], .int .i64 tr]) ∧ Below w.heap.size w w' := by
  go_enter Tryz.func14, Tryz.ntmps14
  go_upto_region 1 with fail
  obtain ⟨W, hW⟩ : ∃ W, ((w.alloc (.cells #[.bool false, .int .u64 a, .int .u64 b] 26)).alloc (.cells #[.bool false, .int .u64 0, .int .u64 0] 26)) = W := ⟨_, rfl⟩
  have a0 : W.cell? ⟨w.heap.size, 0, none⟩ = some (.bool false) := by rw [← hW]; simp [go_sem]
  have a1 : W.cell? ⟨w.heap.size, 1, none⟩ = some (.int .u64 a) := by rw [← hW]; simp [go_sem]
  have a2 : W.cell? ⟨w.heap.size, 2, none⟩ = some (.int .u64 b) := by rw [← hW]; simp [go_sem]
  have r0 : W.cell? ⟨w.heap.size + 1, 0, none⟩ = some (.bool false) := by rw [← hW]; simp [go_sem]
  have r1 : W.cell? ⟨w.heap.size + 1, 1, none⟩ = some (.int .u64 0) := by rw [← hW]; simp [go_sem]
  have r2 : W.cell? ⟨w.heap.size + 1, 2, none⟩ = some (.int .u64 0) := by rw [← hW]; simp [go_sem]
  have bW : Below w.heap.size w W := by rw [← hW]; exact (sp_new (sp_new (Below.refl _ _) _) _)
  have zW : W.heap.size = w.heap.size + 2 := by rw [← hW]; simp
  have fz : ∀ j, W.frozen? ⟨w.heap.size + 1, j, none⟩ = false := by intro j; rw [← hW]; simp [go_sem]
  rw [hW]
  clear hW
  replace zW := Nat.le_of_eq zW.symm
  go_upto_region 7 with fail
  have cc : Below W.heap.size W W := Below.refl _ _
  have hall : ∀ X9, Below W.heap.size W X9 → (X9.cell? ⟨w.heap.size, 0, none⟩ = some (.bool false) ∧ X9.cell? ⟨w.heap.size, 1, none⟩ = some (.int .u64 a) ∧ X9.cell? ⟨w.heap.size, 2, none⟩ = some (.int .u64 b)) := fun X9 cc => ⟨sO cc a0, sO cc a1, sO cc a2⟩
  have hst : ∀ X9 x9 y9 z9, Below W.heap.size W X9 → ((((X9.setCell ⟨w.heap.size + 1, 0, none⟩ x9).setCell ⟨w.heap.size + 1, 1, none⟩ y9).setCell ⟨w.heap.size + 1, 2, none⟩ z9).cell? ⟨w.heap.size, 0, none⟩ = some (.bool false) ∧ (((X9.setCell ⟨w.heap.size + 1, 0, none⟩ x9).setCell ⟨w.heap.size + 1, 1, none⟩ y9).setCell ⟨w.heap.size + 1, 2, none⟩ z9).cell? ⟨w.heap.size, 1, none⟩ = some (.int .u64 a) ∧ (((X9.setCell ⟨w.heap.size + 1, 0, none⟩ x9).setCell ⟨w.heap.size + 1, 1, none⟩ y9).setCell ⟨w.heap.size + 1, 2, none⟩ z9).cell? ⟨w.heap.size, 2, none⟩ = some (.int .u64 b)) := fun X9 x9 y9 z9 cc => ⟨sp_keep3 (sO cc a0) (by omega) _ _ _, sp_keep3 (sO cc a1) (by omega) _ _ _, sp_keep3 (sO cc a2) (by omega) _ _ _⟩
  go_region_held3 (fun w' => w'.cell? ⟨w.heap.size, 0, none⟩ = some (.bool false) ∧ w'.cell? ⟨w.heap.size, 1, none⟩ = some (.int .u64 a) ∧ w'.cell? ⟨w.heap.size, 2, none⟩ = some (.int .u64 b)) (first | exact hall _ (by first | with_reducible exact cc | with_reducible exact cc.drew | with_reducible exact sp_new cc _ | with_reducible exact (sp_new cc _).drew | with_reducible exact sp_new cc.drew _) | exact hst _ _ _ _ (by first | with_reducible exact cc | with_reducible exact cc.drew | with_reducible exact sp_new cc _ | with_reducible exact (sp_new cc _).drew | with_reducible exact sp_new cc.drew _))
    (first
      | (go_at_call 49; (with_reducible refine (k1 _).mono ?_); rintro e u1 ⟨rfl, g⟩; replace cc := sp_call (show Below W.heap.size W _ by first | with_reducible exact cc | with_reducible exact cc.drew | with_reducible exact sp_new cc _ | with_reducible exact (sp_new cc _).drew | with_reducible exact sp_new cc.drew _) g; clear g; clear k1)
      | (go_at_call 49; (with_reducible refine (k2 _).mono ?_); rintro e u2 ⟨rfl, g⟩; replace cc := sp_call (show Below W.heap.size W _ by first | with_reducible exact cc | with_reducible exact cc.drew | with_reducible exact sp_new cc _ | with_reducible exact (sp_new cc _).drew | with_reducible exact sp_new cc.drew _) g; clear g)
      | (go_at_call 29; (with_reducible refine (k3 _ _ _ (by simp [go_sem]) (by simp [go_sem])).mono ?_); rintro e u3 ⟨rfl, g⟩; replace cc := sp_call (show Below W.heap.size W _ by first | with_reducible exact cc | with_reducible exact cc.drew | with_reducible exact sp_new cc _ | with_reducible exact (sp_new cc _).drew | with_reducible exact sp_new cc.drew _) g; clear g; have zc := cc.size; replace r0 := sO cc r0; replace r1 := sO cc r1; replace r2 := sO cc r2; replace fz : ∀ j, u3.frozen? ⟨w.heap.size + 1, j, none⟩ = false := fun j => (cc.frozen (p := ⟨w.heap.size + 1, j, none⟩) (by first | (simp; done) | (simp; omega))).trans (fz j); replace bW := sp_call bW cc)
      | fail)
  all_goals go_wp2
  all_goals exact bodyPost_ret (v := .tuple #[.agg #[.bool re, .int .u64 rl, .int .u64 rh], .int .i64 tr]) (by simp [results, Tryz.results14, go_sem, r0, r1, r2]) rfl ⟨rfl, sp_set3 bW (by omega) _ _ _⟩
set_option maxRecDepth 100000 in
set_option maxHeartbeats 6400000 in
theorem rfi_e (f a b : Int) (k1 : ∀ V, Calls Tryz.prog 28 #[] V fun e w' => e = .returned (.agg #[.bool true, .int .u64 0, .int .u64 0]) ∧ Below V.heap.size V w') (w : World) :
    Calls Tryz.prog 18 #[.int .i64 f, .agg #[.bool true, .int .i64 a, .int .i64 b]] w fun e w' => e = .returned (.agg #[.bool true, .int .u64 0, .int .u64 0]) ∧ Below w.heap.size w w' := by
  go_enter Tryz.func18, Tryz.ntmps18
  go_upto_region 1 with fail
  obtain ⟨W, hW⟩ : ∃ W, ((w.alloc (.cells #[.bool true, .int .i64 a, .int .i64 b] 39)).alloc (.cells #[.bool false, .int .u64 0, .int .u64 0] 26)) = W := ⟨_, rfl⟩
  have a0 : W.cell? ⟨w.heap.size, 0, none⟩ = some (.bool true) := by rw [← hW]; simp [go_sem]
  have a1 : W.cell? ⟨w.heap.size, 1, none⟩ = some (.int .i64 a) := by rw [← hW]; simp [go_sem]
  have a2 : W.cell? ⟨w.heap.size, 2, none⟩ = some (.int .i64 b) := by rw [← hW]; simp [go_sem]
  have r0 : W.cell? ⟨w.heap.size + 1, 0, none⟩ = some (.bool false) := by rw [← hW]; simp [go_sem]
  have r1 : W.cell? ⟨w.heap.size + 1, 1, none⟩ = some (.int .u64 0) := by rw [← hW]; simp [go_sem]
  have r2 : W.cell? ⟨w.heap.size + 1, 2, none⟩ = some (.int .u64 0) := by rw [← hW]; simp [go_sem]
  have bW : Below w.heap.size w W := by rw [← hW]; exact (sp_new (sp_new (Below.refl _ _) _) _)
  have zW : W.heap.size = w.heap.size + 2 := by rw [← hW]; simp
  have fz : ∀ j, W.frozen? ⟨w.heap.size + 1, j, none⟩ = false := by intro j; rw [← hW]; simp [go_sem]
  rw [hW]
  clear hW
  replace zW := Nat.le_of_eq zW.symm
  go_wp2_with (first
    | (go_at_call 28; (with_reducible refine (k1 _).mono ?_); rintro e v1 ⟨rfl, g⟩; replace fz : ∀ j, v1.frozen? ⟨w.heap.size + 1, j, none⟩ = false := fun j => (g.frozen (p := ⟨w.heap.size + 1, j, none⟩) (by first | (simp; done) | (simp; omega))).trans (fz j); replace bW := sp_call bW g; replace zW := Nat.le_trans zW g.size; replace a0 := sO g a0; replace a1 := sO g a1; replace a2 := sO g a2; replace r0 := sO g r0; replace r1 := sO g r1; replace r2 := sO g r2; clear g)
    | fail)
  exact bodyPost_ret (v := .agg #[.bool true, .int .u64 0, .int .u64 0]) (by simp [results, Tryz.results18, go_sem, a0, a1, a2, r0, r1, r2]) rfl ⟨rfl, by first | exact sp_set3 bW (by omega) _ _ _ | exact bW⟩
set_option maxRecDepth 100000 in
set_option maxHeartbeats 6400000 in
theorem rfi_n (f a b x y : Int) (re : Bool) (rl rh : Int) (k1 : ∀ V, Calls Tryz.prog 63 #[.int .i64 (f), .int .i64 (0), .int .i64 (a)] V fun e w' => e = .returned (.int .u64 (x)) ∧ Below V.heap.size V w') (k2 : ∀ V, Calls Tryz.prog 63 #[.int .i64 (f), .int .i64 (0), .int .i64 (b)] V fun e w' => e = .returned (.int .u64 (y)) ∧ Below V.heap.size V w') (k3 : ∀ V, Calls Tryz.prog 33 #[.int .i64 (f), .int .u64 (x), .int .u64 (y)] V fun e w' => e = .returned (.agg #[.bool re, .int .u64 rl, .int .u64 rh]) ∧ Below V.heap.size V w') (w : World) :
    Calls Tryz.prog 18 #[.int .i64 f, .agg #[.bool false, .int .i64 a, .int .i64 b]] w fun e w' => e = .returned (.agg #[.bool re, .int .u64 rl, .int .u64 rh]) ∧ Below w.heap.size w w' := by
  go_enter Tryz.func18, Tryz.ntmps18
  go_upto_region 1 with fail
  obtain ⟨W, hW⟩ : ∃ W, ((w.alloc (.cells #[.bool false, .int .i64 a, .int .i64 b] 39)).alloc (.cells #[.bool false, .int .u64 0, .int .u64 0] 26)) = W := ⟨_, rfl⟩
  have a0 : W.cell? ⟨w.heap.size, 0, none⟩ = some (.bool false) := by rw [← hW]; simp [go_sem]
  have a1 : W.cell? ⟨w.heap.size, 1, none⟩ = some (.int .i64 a) := by rw [← hW]; simp [go_sem]
  have a2 : W.cell? ⟨w.heap.size, 2, none⟩ = some (.int .i64 b) := by rw [← hW]; simp [go_sem]
  have r0 : W.cell? ⟨w.heap.size + 1, 0, none⟩ = some (.bool false) := by rw [← hW]; simp [go_sem]
  have r1 : W.cell? ⟨w.heap.size + 1, 1, none⟩ = some (.int .u64 0) := by rw [← hW]; simp [go_sem]
  have r2 : W.cell? ⟨w.heap.size + 1, 2, none⟩ = some (.int .u64 0) := by rw [← hW]; simp [go_sem]
  have bW : Below w.heap.size w W := by rw [← hW]; exact (sp_new (sp_new (Below.refl _ _) _) _)
  have zW : W.heap.size = w.heap.size + 2 := by rw [← hW]; simp
  have fz : ∀ j, W.frozen? ⟨w.heap.size + 1, j, none⟩ = false := by intro j; rw [← hW]; simp [go_sem]
  rw [hW]
  clear hW
  replace zW := Nat.le_of_eq zW.symm
  go_upto_region 3 with fail
  have cc : Below W.heap.size W W := Below.refl _ _
  have hall : ∀ X9, Below W.heap.size W X9 → (X9.cell? ⟨w.heap.size, 0, none⟩ = some (.bool false) ∧ X9.cell? ⟨w.heap.size, 1, none⟩ = some (.int .i64 a) ∧ X9.cell? ⟨w.heap.size, 2, none⟩ = some (.int .i64 b)) := fun X9 cc => ⟨sO cc a0, sO cc a1, sO cc a2⟩
  have hst : ∀ X9 x9 y9 z9, Below W.heap.size W X9 → ((((X9.setCell ⟨w.heap.size + 1, 0, none⟩ x9).setCell ⟨w.heap.size + 1, 1, none⟩ y9).setCell ⟨w.heap.size + 1, 2, none⟩ z9).cell? ⟨w.heap.size, 0, none⟩ = some (.bool false) ∧ (((X9.setCell ⟨w.heap.size + 1, 0, none⟩ x9).setCell ⟨w.heap.size + 1, 1, none⟩ y9).setCell ⟨w.heap.size + 1, 2, none⟩ z9).cell? ⟨w.heap.size, 1, none⟩ = some (.int .i64 a) ∧ (((X9.setCell ⟨w.heap.size + 1, 0, none⟩ x9).setCell ⟨w.heap.size + 1, 1, none⟩ y9).setCell ⟨w.heap.size + 1, 2, none⟩ z9).cell? ⟨w.heap.size, 2, none⟩ = some (.int .i64 b)) := fun X9 x9 y9 z9 cc => ⟨sp_keep3 (sO cc a0) (by omega) _ _ _, sp_keep3 (sO cc a1) (by omega) _ _ _, sp_keep3 (sO cc a2) (by omega) _ _ _⟩
  go_region_held3 (fun w' => w'.cell? ⟨w.heap.size, 0, none⟩ = some (.bool false) ∧ w'.cell? ⟨w.heap.size, 1, none⟩ = some (.int .i64 a) ∧ w'.cell? ⟨w.heap.size, 2, none⟩ = some (.int .i64 b)) (first | exact hall _ (by first | with_reducible exact cc | with_reducible exact cc.drew | with_reducible exact sp_new cc _ | with_reducible exact (sp_new cc _).drew | with_reducible exact sp_new cc.drew _) | exact hst _ _ _ _ (by first | with_reducible exact cc | with_reducible exact cc.drew | with_reducible exact sp_new cc _ | with_reducible exact (sp_new cc _).drew | with_reducible exact sp_new cc.drew _))
    (first
      | (go_at_call 63; (with_reducible refine (k1 _).mono ?_); rintro e u1 ⟨rfl, g⟩; replace cc := sp_call (show Below W.heap.size W _ by first | with_reducible exact cc | with_reducible exact cc.drew | with_reducible exact sp_new cc _ | with_reducible exact (sp_new cc _).drew | with_reducible exact sp_new cc.drew _) g; clear g; clear k1)
      | (go_at_call 63; (with_reducible refine (k2 _).mono ?_); rintro e u2 ⟨rfl, g⟩; replace cc := sp_call (show Below W.heap.size W _ by first | with_reducible exact cc | with_reducible exact cc.drew | with_reducible exact sp_new cc _ | with_reducible exact (sp_new cc _).drew | with_reducible exact sp_new cc.drew _) g; clear g)
      | (go_at_call 33; (with_reducible refine (k3 _).mono ?_); rintro e u3 ⟨rfl, g⟩; replace cc := sp_call (show Below W.heap.size W _ by first | with_reducible exact cc | with_reducible exact cc.drew | with_reducible exact sp_new cc _ | with_reducible exact (sp_new cc _).drew | with_reducible exact sp_new cc.drew _) g; clear g; have zc := cc.size; replace r0 := sO cc r0; replace r1 := sO cc r1; replace r2 := sO cc r2; replace fz : ∀ j, u3.frozen? ⟨w.heap.size + 1, j, none⟩ = false := fun j => (cc.frozen (p := ⟨w.heap.size + 1, j, none⟩) (by first | (simp; done) | (simp; omega))).trans (fz j); replace bW := sp_call bW cc)
      | fail)
  all_goals go_wp2
  all_goals exact bodyPost_ret (v := .agg #[.bool re, .int .u64 rl, .int .u64 rh]) (by simp [results, Tryz.results18, go_sem, r0, r1, r2]) rfl ⟨rfl, sp_set3 bW (by omega) _ _ _⟩
set_option maxRecDepth 100000 in
set_option maxHeartbeats 6400000 in
theorem rti_e (f a b : Int) (k1 : ∀ V, Calls Tryz.prog 56 #[] V fun e w' => e = .returned (.agg #[.bool true, .int .i64 0, .int .i64 0]) ∧ Below V.heap.size V w') (w : World) :
    Calls Tryz.prog 16 #[.int .i64 f, .agg #[.bool true, .int .u64 a, .int .u64 b]] w fun e w' => e = .returned (.tuple #[.agg #[.bool true, .int .i64 0, .int .i64 0], .int .i64 0]) ∧ Below w.heap.size w w' := by
  go_enter Tryz.func16, Tryz.ntmps16
  go_upto_region 1 with fail
  obtain ⟨W, hW⟩ : ∃ W, ((w.alloc (.cells #[.bool true, .int .u64 a, .int .u64 b] 26)).alloc (.cells #[.bool false, .int .i64 0, .int .i64 0] 39)) = W := ⟨_, rfl⟩
  have a0 : W.cell? ⟨w.heap.size, 0, none⟩ = some (.bool true) := by rw [← hW]; simp [go_sem]
  have a1 : W.cell? ⟨w.heap.size, 1, none⟩ = some (.int .u64 a) := by rw [← hW]; simp [go_sem]
  have a2 : W.cell? ⟨w.heap.size, 2, none⟩ = some (.int .u64 b) := by rw [← hW]; simp [go_sem]
  have r0 : W.cell? ⟨w.heap.size + 1, 0, none⟩ = some (.bool false) := by rw [← hW]; simp [go_sem]
  have r1 : W.cell? ⟨w.heap.size + 1, 1, none⟩ = some (.int .i64 0) := by rw [← hW]; simp [go_sem]
  have r2 : W.cell? ⟨w.heap.size + 1, 2, none⟩ = some (.int .i64 0) := by rw [← hW]; simp [go_sem]
  have bW : Below w.heap.size w W := by rw [← hW]; exact (sp_new (sp_new (Below.refl _ _) _) _)
  have zW : W.heap.size = w.heap.size + 2 := by rw [← hW]; simp
  have fz : ∀ j, W.frozen? ⟨w.heap.size + 1, j, none⟩ = false := by intro j; rw [← hW]; simp [go_sem]
  rw [hW]
  clear hW
  replace zW := Nat.le_of_eq zW.symm
  go_wp2_with (first
    | (go_at_call 56; (with_reducible refine (k1 _).mono ?_); rintro e v1 ⟨rfl, g⟩; replace fz : ∀ j, v1.frozen? ⟨w.heap.size + 1, j, none⟩ = false := fun j => (g.frozen (p := ⟨w.heap.size + 1, j, none⟩) (by first | (simp; done) | (simp; omega))).trans (fz j); replace bW := sp_call bW g; replace zW := Nat.le_trans zW g.size; replace a0 := sO g a0; replace a1 := sO g a1; replace a2 := sO g a2; replace r0 := sO g r0; replace r1 := sO g r1; replace r2 := sO g r2; clear g)
    | fail)
  exact bodyPost_ret (v := .tuple #[.agg #[.bool true, .int .i64 0, .int .i64 0], .int .i64 0]) (by simp [results, Tryz.results16, go_sem, a0, a1, a2, r0, r1, r2]) rfl ⟨rfl, by first | exact sp_set3 bW (by omega) _ _ _ | exact bW⟩
set_option maxRecDepth 100000 in
set_option maxHeartbeats 6400000 in
theorem rti_n (f a b x y : Int) (ok is la lb : Bool) (re : Bool) (rl rh : Int) (k1 : ∀ V, Calls Tryz.prog 57 #[.int .i64 (f), .int .u64 (a)] V fun e w' => e = .returned (.tuple #[.int .i64 x, .bool ok]) ∧ Below V.heap.size V w') (k2 : ∀ V, Calls Tryz.prog 57 #[.int .i64 (f), .int .u64 (b)] V fun e w' => e = .returned (.tuple #[.int .i64 y, .bool is]) ∧ Below V.heap.size V w') (kb : ∀ V, Calls Tryz.prog 21 #[.int .i64 (3)] V fun e w' => e = .returned (.int .i64 (4)) ∧ Below V.heap.size V w')
    (k3 : ∀ V, Calls Tryz.prog 41 #[.int .i64 (f), .int .u64 (a), .int .u64 (0)] V fun e w' => e = .returned (.bool la) ∧ Below V.heap.size V w') (k4 : ∀ V, Calls Tryz.prog 41 #[.int .i64 (f), .int .u64 (b), .int .u64 (0)] V fun e w' => e = .returned (.bool lb) ∧ Below V.heap.size V w') (kn : ∀ V, Calls Tryz.prog 56 #[] V fun e w' => e = .returned (.agg #[.bool true, .int .i64 0, .int .i64 0]) ∧ Below V.heap.size V w') (k5 : ∀ V, Calls Tryz.prog 58 #[.int .i64 (if ok then x else -2147483648), .int .i64 (if is then y else 2147483647)] V fun e w' => e = .returned (.agg #[.bool re, .int .i64 rl, .int .i64 rh]) ∧ Below V.heap.size V w') (w : World) :
    Calls Tryz.prog 16 #[.int .i64 f, .agg #[.bool false, .int .u64 a, .int .u64 b]] w fun e w' => e = .returned (.tuple #[.agg #[.bool (if ok = false ∧ la = false then (true, 0, 0) else if is = false ∧ lb = true then (true, 0, 0) else (re, rl, rh) : Bool × Int × Int).1, .int .i64 (if ok = false ∧ la = false then (true, 0, 0) else if is = false ∧ lb = true then (true, 0, 0) else (re, rl, rh) : Bool × Int × Int).2.1, .int .i64 (if ok = false ∧ la = false then (true, 0, 0) else if is = false ∧ lb = true then (true, 0, 0) else (re, rl, rh) : Bool × Int × Int).2.2], .int .i64 (if ok = true ∧ is = true then 0 else 4)]) ∧ Below w.heap.size w w' := by
  cases ok
  · cases la
    · simp only [Bool.false_eq_true, if_false, if_true, and_self, false_and] at k5 ⊢
      cases is
      · skip
        go_enter Tryz.func16, Tryz.ntmps16
        go_upto_region 1 with fail
        obtain ⟨W, hW⟩ : ∃ W, ((w.alloc (.cells #[.bool false, .int .u64 a, .int .u64 b] 26)).alloc (.cells #[.bool false, .int .i64 0, .int .i64 0] 39)) = W := ⟨_, rfl⟩
        have a0 : W.cell? ⟨w.heap.size, 0, none⟩ = some (.bool false) := by rw [← hW]; simp [go_sem]
        have a1 : W.cell? ⟨w.heap.size, 1, none⟩ = some (.int .u64 a) := by rw [← hW]; simp [go_sem]
        have a2 : W.cell? ⟨w.heap.size, 2, none⟩ = some (.int .u64 b) := by rw [← hW]; simp [go_sem]
        have r0 : W.cell? ⟨w.heap.size + 1, 0, none⟩ = some (.bool false) := by rw [← hW]; simp [go_sem]
        have r1 : W.cell? ⟨w.heap.size + 1, 1, none⟩ = some (.int .i64 0) := by rw [← hW]; simp [go_sem]
        have r2 : W.cell? ⟨w.heap.size + 1, 2, none⟩ = some (.int .i64 0) := by rw [← hW]; simp [go_sem]
        have bW : Below w.heap.size w W := by rw [← hW]; exact (sp_new (sp_new (Below.refl _ _) _) _)
        have zW : W.heap.size = w.heap.size + 2 := by rw [← hW]; simp
        have fz : ∀ j, W.frozen? ⟨w.heap.size + 1, j, none⟩ = false := by intro j; rw [← hW]; simp [go_sem]
        rw [hW]
        clear hW
        replace zW := Nat.le_of_eq zW.symm
        go_wp2_with (first
          | (go_at_call 57; (with_reducible refine (k1 _).mono ?_); rintro e v1 ⟨rfl, g⟩; replace fz : ∀ j, v1.frozen? ⟨w.heap.size + 1, j, none⟩ = false := fun j => (g.frozen (p := ⟨w.heap.size + 1, j, none⟩) (by first | (simp; done) | (simp; omega))).trans (fz j); replace bW := sp_call bW g; replace zW := Nat.le_trans zW g.size; replace a0 := sO g a0; replace a1 := sO g a1; replace a2 := sO g a2; replace r0 := sO g r0; replace r1 := sO g r1; replace r2 := sO g r2; clear g; clear k1)
          | (go_at_call 57; (with_reducible refine (k2 _).mono ?_); rintro e v2 ⟨rfl, g⟩; replace fz : ∀ j, v2.frozen? ⟨w.heap.size + 1, j, none⟩ = false := fun j => (g.frozen (p := ⟨w.heap.size + 1, j, none⟩) (by first | (simp; done) | (simp; omega))).trans (fz j); replace bW := sp_call bW g; replace zW := Nat.le_trans zW g.size; replace a0 := sO g a0; replace a1 := sO g a1; replace a2 := sO g a2; replace r0 := sO g r0; replace r1 := sO g r1; replace r2 := sO g r2; clear g)
          | (go_at_call 21; (with_reducible refine (kb _).mono ?_); rintro e v3 ⟨rfl, g⟩; replace fz : ∀ j, v3.frozen? ⟨w.heap.size + 1, j, none⟩ = false := fun j => (g.frozen (p := ⟨w.heap.size + 1, j, none⟩) (by first | (simp; done) | (simp; omega))).trans (fz j); replace bW := sp_call bW g; replace zW := Nat.le_trans zW g.size; replace a0 := sO g a0; replace a1 := sO g a1; replace a2 := sO g a2; replace r0 := sO g r0; replace r1 := sO g r1; replace r2 := sO g r2; clear g)
          | (go_at_call 41; (with_reducible refine (k3 _).mono ?_); rintro e v4 ⟨rfl, g⟩; replace fz : ∀ j, v4.frozen? ⟨w.heap.size + 1, j, none⟩ = false := fun j => (g.frozen (p := ⟨w.heap.size + 1, j, none⟩) (by first | (simp; done) | (simp; omega))).trans (fz j); replace bW := sp_call bW g; replace zW := Nat.le_trans zW g.size; replace a0 := sO g a0; replace a1 := sO g a1; replace a2 := sO g a2; replace r0 := sO g r0; replace r1 := sO g r1; replace r2 := sO g r2; clear g; clear k3)
          | (go_at_call 41; (with_reducible refine (k4 _).mono ?_); rintro e v5 ⟨rfl, g⟩; replace fz : ∀ j, v5.frozen? ⟨w.heap.size + 1, j, none⟩ = false := fun j => (g.frozen (p := ⟨w.heap.size + 1, j, none⟩) (by first | (simp; done) | (simp; omega))).trans (fz j); replace bW := sp_call bW g; replace zW := Nat.le_trans zW g.size; replace a0 := sO g a0; replace a1 := sO g a1; replace a2 := sO g a2; replace r0 := sO g r0; replace r1 := sO g r1; replace r2 := sO g r2; clear g)
          | (go_at_call 56; (with_reducible refine (kn _).mono ?_); rintro e v6 ⟨rfl, g⟩; replace fz : ∀ j, v6.frozen? ⟨w.heap.size + 1, j, none⟩ = false := fun j => (g.frozen (p := ⟨w.heap.size + 1, j, none⟩) (by first | (simp; done) | (simp; omega))).trans (fz j); replace bW := sp_call bW g; replace zW := Nat.le_trans zW g.size; replace a0 := sO g a0; replace a1 := sO g a1; replace a2 := sO g a2; replace r0 := sO g r0; replace r1 := sO g r1; replace r2 := sO g r2; clear g)
          | (go_at_call 58; (with_reducible refine (k5 _).mono ?_); rintro e v7 ⟨rfl, g⟩; replace fz : ∀ j, v7.frozen? ⟨w.heap.size + 1, j, none⟩ = false := fun j => (g.frozen (p := ⟨w.heap.size + 1, j, none⟩) (by first | (simp; done) | (simp; omega))).trans (fz j); replace bW := sp_call bW g; replace zW := Nat.le_trans zW g.size; replace a0 := sO g a0; replace a1 := sO g a1; replace a2 := sO g a2; replace r0 := sO g r0; replace r1 := sO g r1; replace r2 := sO g r2; clear g)
          | fail)
        exact bodyPost_ret (v := .tuple #[.agg #[.bool true, .int .i64 0, .int .i64 0], .int .i64 4]) (by simp [results, Tryz.results16, go_sem, a0, a1, a2, r0, r1, r2]) rfl ⟨rfl, by first | exact sp_set3 bW (by omega) _ _ _ | exact bW⟩
      · skip
        go_enter Tryz.func16, Tryz.ntmps16
        go_upto_region 1 with fail
        obtain ⟨W, hW⟩ : ∃ W, ((w.alloc (.cells #[.bool false, .int .u64 a, .int .u64 b] 26)).alloc (.cells #[.bool false, .int .i64 0, .int .i64 0] 39)) = W := ⟨_, rfl⟩
        have a0 : W.cell? ⟨w.heap.size, 0, none⟩ = some (.bool false) := by rw [← hW]; simp [go_sem]
        have a1 : W.cell? ⟨w.heap.size, 1, none⟩ = some (.int .u64 a) := by rw [← hW]; simp [go_sem]
        have a2 : W.cell? ⟨w.heap.size, 2, none⟩ = some (.int .u64 b) := by rw [← hW]; simp [go_sem]
        have r0 : W.cell? ⟨w.heap.size + 1, 0, none⟩ = some (.bool false) := by rw [← hW]; simp [go_sem]
        have r1 : W.cell? ⟨w.heap.size + 1, 1, none⟩ = some (.int .i64 0) := by rw [← hW]; simp [go_sem]
        have r2 : W.cell? ⟨w.heap.size + 1, 2, none⟩ = some (.int .i64 0) := by rw [← hW]; simp [go_sem]
        have bW : Below w.heap.size w W := by rw [← hW]; exact (sp_new (sp_new (Below.refl _ _) _) _)
        have zW : W.heap.size = w.heap.size + 2 := by rw [← hW]; simp
        have fz : ∀ j, W.frozen? ⟨w.heap.size + 1, j, none⟩ = false := by intro j; rw [← hW]; simp [go_sem]
        rw [hW]
        clear hW
        replace zW := Nat.le_of_eq zW.symm
        go_wp2_with (first
          | (go_at_call 57; (with_reducible refine (k1 _).mono ?_); rintro e v1 ⟨rfl, g⟩; replace fz : ∀ j, v1.frozen? ⟨w.heap.size + 1, j, none⟩ = false := fun j => (g.frozen (p := ⟨w.heap.size + 1, j, none⟩) (by first | (simp; done) | (simp; omega))).trans (fz j); replace bW := sp_call bW g; replace zW := Nat.le_trans zW g.size; replace a0 := sO g a0; replace a1 := sO g a1; replace a2 := sO g a2; replace r0 := sO g r0; replace r1 := sO g r1; replace r2 := sO g r2; clear g; clear k1)
          | (go_at_call 57; (with_reducible refine (k2 _).mono ?_); rintro e v2 ⟨rfl, g⟩; replace fz : ∀ j, v2.frozen? ⟨w.heap.size + 1, j, none⟩ = false := fun j => (g.frozen (p := ⟨w.heap.size + 1, j, none⟩) (by first | (simp; done) | (simp; omega))).trans (fz j); replace bW := sp_call bW g; replace zW := Nat.le_trans zW g.size; replace a0 := sO g a0; replace a1 := sO g a1; replace a2 := sO g a2; replace r0 := sO g r0; replace r1 := sO g r1; replace r2 := sO g r2; clear g)
          | (go_at_call 21; (with_reducible refine (kb _).mono ?_); rintro e v3 ⟨rfl, g⟩; replace fz : ∀ j, v3.frozen? ⟨w.heap.size + 1, j, none⟩ = false := fun j => (g.frozen (p := ⟨w.heap.size + 1, j, none⟩) (by first | (simp; done) | (simp; omega))).trans (fz j); replace bW := sp_call bW g; replace zW := Nat.le_trans zW g.size; replace a0 := sO g a0; replace a1 := sO g a1; replace a2 := sO g a2; replace r0 := sO g r0; replace r1 := sO g r1; replace r2 := sO g r2; clear g)
          | (go_at_call 41; (with_reducible refine (k3 _).mono ?_); rintro e v4 ⟨rfl, g⟩; replace fz : ∀ j, v4.frozen? ⟨w.heap.size + 1, j, none⟩ = false := fun j => (g.frozen (p := ⟨w.heap.size + 1, j, none⟩) (by first | (simp; done) | (simp; omega))).trans (fz j); replace bW := sp_call bW g; replace zW := Nat.le_trans zW g.size; replace a0 := sO g a0; replace a1 := sO g a1; replace a2 := sO g a2; replace r0 := sO g r0; replace r1 := sO g r1; replace r2 := sO g r2; clear g; clear k3)
          | (go_at_call 41; (with_reducible refine (k4 _).mono ?_); rintro e v5 ⟨rfl, g⟩; replace fz : ∀ j, v5.frozen? ⟨w.heap.size + 1, j, none⟩ = false := fun j => (g.frozen (p := ⟨w.heap.size + 1, j, none⟩) (by first | (simp; done) | (simp; omega))).trans (fz j); replace bW := sp_call bW g; replace zW := Nat.le_trans zW g.size; replace a0 := sO g a0; replace a1 := sO g a1; replace a2 := sO g a2; replace r0 := sO g r0; replace r1 := sO g r1; replace r2 := sO g r2; clear g)
          | (go_at_call 56; (with_reducible refine (kn _).mono ?_); rintro e v6 ⟨rfl, g⟩; replace fz : ∀ j, v6.frozen? ⟨w.heap.size + 1, j, none⟩ = false := fun j => (g.frozen (p := ⟨w.heap.size + 1, j, none⟩) (by first | (simp; done) | (simp; omega))).trans (fz j); replace bW := sp_call bW g; replace zW := Nat.le_trans zW g.size; replace a0 := sO g a0; replace a1 := sO g a1; replace a2 := sO g a2; replace r0 := sO g r0; replace r1 := sO g r1; replace r2 := sO g r2; clear g)
          | (go_at_call 58; (with_reducible refine (k5 _).mono ?_); rintro e v7 ⟨rfl, g⟩; replace fz : ∀ j, v7.frozen? ⟨w.heap.size + 1, j, none⟩ = false := fun j => (g.frozen (p := ⟨w.heap.size + 1, j, none⟩) (by first | (simp; done) | (simp; omega))).trans (fz j); replace bW := sp_call bW g; replace zW := Nat.le_trans zW g.size; replace a0 := sO g a0; replace a1 := sO g a1; replace a2 := sO g a2; replace r0 := sO g r0; replace r1 := sO g r1; replace r2 := sO g r2; clear g)
          | fail)
        exact bodyPost_ret (v := .tuple #[.agg #[.bool true, .int .i64 0, .int .i64 0], .int .i64 4]) (by simp [results, Tryz.results16, go_sem, a0, a1, a2, r0, r1, r2]) rfl ⟨rfl, by first | exact sp_set3 bW (by omega) _ _ _ | exact bW⟩
    · cases is
      · cases lb
        · simp only [Bool.false_eq_true, Bool.true_eq_false, if_false, if_true, and_self, false_and, and_false, and_true] at k5 ⊢
          go_enter Tryz.func16, Tryz.ntmps16
          go_upto_region 1 with fail
          obtain ⟨W, hW⟩ : ∃ W, ((w.alloc (.cells #[.bool false, .int .u64 a, .int .u64 b] 26)).alloc (.cells #[.bool false, .int .i64 0, .int .i64 0] 39)) = W := ⟨_, rfl⟩
          have a0 : W.cell? ⟨w.heap.size, 0, none⟩ = some (.bool false) := by rw [← hW]; simp [go_sem]
          have a1 : W.cell? ⟨w.heap.size, 1, none⟩ = some (.int .u64 a) := by rw [← hW]; simp [go_sem]
          have a2 : W.cell? ⟨w.heap.size, 2, none⟩ = some (.int .u64 b) := by rw [← hW]; simp [go_sem]
          have r0 : W.cell? ⟨w.heap.size + 1, 0, none⟩ = some (.bool false) := by rw [← hW]; simp [go_sem]
          have r1 : W.cell? ⟨w.heap.size + 1, 1, none⟩ = some (.int .i64 0) := by rw [← hW]; simp [go_sem]
          have r2 : W.cell? ⟨w.heap.size + 1, 2, none⟩ = some (.int .i64 0) := by rw [← hW]; simp [go_sem]
          have bW : Below w.heap.size w W := by rw [← hW]; exact (sp_new (sp_new (Below.refl _ _) _) _)
          have zW : W.heap.size = w.heap.size + 2 := by rw [← hW]; simp
          have fz : ∀ j, W.frozen? ⟨w.heap.size + 1, j, none⟩ = false := by intro j; rw [← hW]; simp [go_sem]
          rw [hW]
          clear hW
          replace zW := Nat.le_of_eq zW.symm
          go_wp2_with (first
            | (go_at_call 57; (with_reducible refine (k1 _).mono ?_); rintro e v1 ⟨rfl, g⟩; replace fz : ∀ j, v1.frozen? ⟨w.heap.size + 1, j, none⟩ = false := fun j => (g.frozen (p := ⟨w.heap.size + 1, j, none⟩) (by first | (simp; done) | (simp; omega))).trans (fz j); replace bW := sp_call bW g; replace zW := Nat.le_trans zW g.size; replace a0 := sO g a0; replace a1 := sO g a1; replace a2 := sO g a2; replace r0 := sO g r0; replace r1 := sO g r1; replace r2 := sO g r2; clear g; clear k1)
            | (go_at_call 57; (with_reducible refine (k2 _).mono ?_); rintro e v2 ⟨rfl, g⟩; replace fz : ∀ j, v2.frozen? ⟨w.heap.size + 1, j, none⟩ = false := fun j => (g.frozen (p := ⟨w.heap.size + 1, j, none⟩) (by first | (simp; done) | (simp; omega))).trans (fz j); replace bW := sp_call bW g; replace zW := Nat.le_trans zW g.size; replace a0 := sO g a0; replace a1 := sO g a1; replace a2 := sO g a2; replace r0 := sO g r0; replace r1 := sO g r1; replace r2 := sO g r2; clear g)
            | (go_at_call 21; (with_reducible refine (kb _).mono ?_); rintro e v3 ⟨rfl, g⟩; replace fz : ∀ j, v3.frozen? ⟨w.heap.size + 1, j, none⟩ = false := fun j => (g.frozen (p := ⟨w.heap.size + 1, j, none⟩) (by first | (simp; done) | (simp; omega))).trans (fz j); replace bW := sp_call bW g; replace zW := Nat.le_trans zW g.size; replace a0 := sO g a0; replace a1 := sO g a1; replace a2 := sO g a2; replace r0 := sO g r0; replace r1 := sO g r1; replace r2 := sO g r2; clear g)
            | (go_at_call 41; (with_reducible refine (k3 _).mono ?_); rintro e v4 ⟨rfl, g⟩; replace fz : ∀ j, v4.frozen? ⟨w.heap.size + 1, j, none⟩ = false := fun j => (g.frozen (p := ⟨w.heap.size + 1, j, none⟩) (by first | (simp; done) | (simp; omega))).trans (fz j); replace bW := sp_call bW g; replace zW := Nat.le_trans zW g.size; replace a0 := sO g a0; replace a1 := sO g a1; replace a2 := sO g a2; replace r0 := sO g r0; replace r1 := sO g r1; replace r2 := sO g r2; clear g; clear k3)
            | (go_at_call 41; (with_reducible refine (k4 _).mono ?_); rintro e v5 ⟨rfl, g⟩; replace fz : ∀ j, v5.frozen? ⟨w.heap.size + 1, j, none⟩ = false := fun j => (g.frozen (p := ⟨w.heap.size + 1, j, none⟩) (by first | (simp; done) | (simp; omega))).trans (fz j); replace bW := sp_call bW g; replace zW := Nat.le_trans zW g.size; replace a0 := sO g a0; replace a1 := sO g a1; replace a2 := sO g a2; replace r0 := sO g r0; replace r1 := sO g r1; replace r2 := sO g r2; clear g)
            | (go_at_call 56; (with_reducible refine (kn _).mono ?_); rintro e v6 ⟨rfl, g⟩; replace fz : ∀ j, v6.frozen? ⟨w.heap.size + 1, j, none⟩ = false := fun j => (g.frozen (p := ⟨w.heap.size + 1, j, none⟩) (by first | (simp; done) | (simp; omega))).trans (fz j); replace bW := sp_call bW g; replace zW := Nat.le_trans zW g.size; replace a0 := sO g a0; replace a1 := sO g a1; replace a2 := sO g a2; replace r0 := sO g r0; replace r1 := sO g r1; replace r2 := sO g r2; clear g)
            | (go_at_call 58; (with_reducible refine (k5 _).mono ?_); rintro e v7 ⟨rfl, g⟩; replace fz : ∀ j, v7.frozen? ⟨w.heap.size + 1, j, none⟩ = false := fun j => (g.frozen (p := ⟨w.heap.size + 1, j, none⟩) (by first | (simp; done) | (simp; omega))).trans (fz j); replace bW := sp_call bW g; replace zW := Nat.le_trans zW g.size; replace a0 := sO g a0; replace a1 := sO g a1; replace a2 := sO g a2; replace r0 := sO g r0; replace r1 := sO g r1; replace r2 := sO g r2; clear g)
            | fail)
          exact bodyPost_ret (v := .tuple #[.agg #[.bool re, .int .i64 rl, .int .i64 rh], .int .i64 4]) (by simp [results, Tryz.results16, go_sem, a0, a1, a2, r0, r1, r2]) rfl ⟨rfl, by first | exact sp_set3 bW (by omega) _ _ _ | exact bW⟩
        · simp only [Bool.false_eq_true, Bool.true_eq_false, if_false, if_true, and_self, false_and, and_false, and_true] at k5 ⊢
          go_enter Tryz.func16, Tryz.ntmps16
          go_upto_region 1 with fail
          obtain ⟨W, hW⟩ : ∃ W, ((w.alloc (.cells #[.bool false, .int .u64 a, .int .u64 b] 26)).alloc (.cells #[.bool false, .int .i64 0, .int .i64 0] 39)) = W := ⟨_, rfl⟩
          have a0 : W.cell? ⟨w.heap.size, 0, none⟩ = some (.bool false) := by rw [← hW]; simp [go_sem]
          have a1 : W.cell? ⟨w.heap.size, 1, none⟩ = some (.int .u64 a) := by rw [← hW]; simp [go_sem]
          have a2 : W.cell? ⟨w.heap.size, 2, none⟩ = some (.int .u64 b) := by rw [← hW]; simp [go_sem]
          have r0 : W.cell? ⟨w.heap.size + 1, 0, none⟩ = some (.bool false) := by rw [← hW]; simp [go_sem]
          have r1 : W.cell? ⟨w.heap.size + 1, 1, none⟩ = some (.int .i64 0) := by rw [← hW]; simp [go_sem]
          have r2 : W.cell? ⟨w.heap.size + 1, 2, none⟩ = some (.int .i64 0) := by rw [← hW]; simp [go_sem]
          have bW : Below w.heap.size w W := by rw [← hW]; exact (sp_new (sp_new (Below.refl _ _) _) _)
          have zW : W.heap.size = w.heap.size + 2 := by rw [← hW]; simp
          have fz : ∀ j, W.frozen? ⟨w.heap.size + 1, j, none⟩ = false := by intro j; rw [← hW]; simp [go_sem]
          rw [hW]
          clear hW
          replace zW := Nat.le_of_eq zW.symm
          go_wp2_with (first
            | (go_at_call 57; (with_reducible refine (k1 _).mono ?_); rintro e v1 ⟨rfl, g⟩; replace fz : ∀ j, v1.frozen? ⟨w.heap.size + 1, j, none⟩ = false := fun j => (g.frozen (p := ⟨w.heap.size + 1, j, none⟩) (by first | (simp; done) | (simp; omega))).trans (fz j); replace bW := sp_call bW g; replace zW := Nat.le_trans zW g.size; replace a0 := sO g a0; replace a1 := sO g a1; replace a2 := sO g a2; replace r0 := sO g r0; replace r1 := sO g r1; replace r2 := sO g r2; clear g; clear k1)
            | (go_at_call 57; (with_reducible refine (k2 _).mono ?_); rintro e v2 ⟨rfl, g⟩; replace fz : ∀ j, v2.frozen? ⟨w.heap.size + 1, j, none⟩ = false := fun j => (g.frozen (p := ⟨w.heap.size + 1, j, none⟩) (by first | (simp; done) | (simp; omega))).trans (fz j); replace bW := sp_call bW g; replace zW := Nat.le_trans zW g.size; replace a0 := sO g a0; replace a1 := sO g a1; replace a2 := sO g a2; replace r0 := sO g r0; replace r1 := sO g r1; replace r2 := sO g r2; clear g)
            | (go_at_call 21; (with_reducible refine (kb _).mono ?_); rintro e v3 ⟨rfl, g⟩; replace fz : ∀ j, v3.frozen? ⟨w.heap.size + 1, j, none⟩ = false := fun j => (g.frozen (p := ⟨w.heap.size + 1, j, none⟩) (by first | (simp; done) | (simp; omega))).trans (fz j); replace bW := sp_call bW g; replace zW := Nat.le_trans zW g.size; replace a0 := sO g a0; replace a1 := sO g a1; replace a2 := sO g a2; replace r0 := sO g r0; replace r1 := sO g r1; replace r2 := sO g r2; clear g)
            | (go_at_call 41; (with_reducible refine (k3 _).mono ?_); rintro e v4 ⟨rfl, g⟩; replace fz : ∀ j, v4.frozen? ⟨w.heap.size + 1, j, none⟩ = false := fun j => (g.frozen (p := ⟨w.heap.size + 1, j, none⟩) (by first | (simp; done) | (simp; omega))).trans (fz j); replace bW := sp_call bW g; replace zW := Nat.le_trans zW g.size; replace a0 := sO g a0; replace a1 := sO g a1; replace a2 := sO g a2; replace r0 := sO g r0; replace r1 := sO g r1; replace r2 := sO g r2; clear g; clear k3)
            | (go_at_call 41; (with_reducible refine (k4 _).mono ?_); rintro e v5 ⟨rfl, g⟩; replace fz : ∀ j, v5.frozen? ⟨w.heap.size + 1, j, none⟩ = false := fun j => (g.frozen (p := ⟨w.heap.size + 1, j, none⟩) (by first | (simp; done) | (simp; omega))).trans (fz j); replace bW := sp_call bW g; replace zW := Nat.le_trans zW g.size; replace a0 := sO g a0; replace a1 := sO g a1; replace a2 := sO g a2; replace r0 := sO g r0; replace r1 := sO g r1; replace r2 := sO g r2; clear g)
            | (go_at_call 56; (with_reducible refine (kn _).mono ?_); rintro e v6 ⟨rfl, g⟩; replace fz : ∀ j, v6.frozen? ⟨w.heap.size + 1, j, none⟩ = false := fun j => (g.frozen (p := ⟨w.heap.size + 1, j, none⟩) (by first | (simp; done) | (simp; omega))).trans (fz j); replace bW := sp_call bW g; replace zW := Nat.le_trans zW g.size; replace a0 := sO g a0; replace a1 := sO g a1; replace a2 := sO g a2; replace r0 := sO g r0; replace r1 := sO g r1; replace r2 := sO g r2; clear g)
            | (go_at_call 58; (with_reducible refine (k5 _).mono ?_); rintro e v7 ⟨rfl, g⟩; replace fz : ∀ j, v7.frozen? ⟨w.heap.size + 1, j, none⟩ = false := fun j => (g.frozen (p := ⟨w.heap.size + 1, j, none⟩) (by first | (simp; done) | (simp; omega))).trans (fz j); replace bW := sp_call bW g; replace zW := Nat.le_trans zW g.size; replace a0 := sO g a0; replace a1 := sO g a1; replace a2 := sO g a2; replace r0 := sO g r0; replace r1 := sO g r1; replace r2 := sO g r2; clear g)
            | fail)
          exact bodyPost_ret (v := .tuple #[.agg #[.bool true, .int .i64 0, .int .i64 0], .int .i64 4]) (by simp [results, Tryz.results16, go_sem, a0, a1, a2, r0, r1, r2]) rfl ⟨rfl, by first | exact sp_set3 bW (by omega) _ _ _ | exact bW⟩
      · simp only [Bool.false_eq_true, Bool.true_eq_false, if_false, if_true, and_self, false_and, and_false, and_true] at k5 ⊢
        go_enter Tryz.func16, Tryz.ntmps16
        go_upto_region 1 with fail
        obtain ⟨W, hW⟩ : ∃ W, ((w.alloc (.cells #[.bool false, .int .u64 a, .int .u64 b] 26)).alloc (.cells #[.bool false, .int .i64 0, .int .i64 0] 39)) = W := ⟨_, rfl⟩
        have a0 : W.cell? ⟨w.heap.size, 0, none⟩ = some (.bool false) := by rw [← hW]; simp [go_sem]
        have a1 : W.cell? ⟨w.heap.size, 1, none⟩ = some (.int .u64 a) := by rw [← hW]; simp [go_sem]
        have a2 : W.cell? ⟨w.heap.size, 2, none⟩ = some (.int .u64 b) := by rw [← hW]; simp [go_sem]
        have r0 : W.cell? ⟨w.heap.size + 1, 0, none⟩ = some (.bool false) := by rw [← hW]; simp [go_sem]
        have r1 : W.cell? ⟨w.heap.size + 1, 1, none⟩ = some (.int .i64 0) := by rw [← hW]; simp [go_sem]
        have r2 : W.cell? ⟨w.heap.size + 1, 2, none⟩ = some (.int .i64 0) := by rw [← hW]; simp [go_sem]
        have bW : Below w.heap.size w W := by rw [← hW]; exact (sp_new (sp_new (Below.refl _ _) _) _)
        have zW : W.heap.size = w.heap.size + 2 := by rw [← hW]; simp
        have fz : ∀ j, W.frozen? ⟨w.heap.size + 1, j, none⟩ = false := by intro j; rw [← hW]; simp [go_sem]
        rw [hW]
        clear hW
        replace zW := Nat.le_of_eq zW.symm
        go_wp2_with (first
          | (go_at_call 57; (with_reducible refine (k1 _).mono ?_); rintro e v1 ⟨rfl, g⟩; replace fz : ∀ j, v1.frozen? ⟨w.heap.size + 1, j, none⟩ = false := fun j => (g.frozen (p := ⟨w.heap.size + 1, j, none⟩) (by first | (simp; done) | (simp; omega))).trans (fz j); replace bW := sp_call bW g; replace zW := Nat.le_trans zW g.size; replace a0 := sO g a0; replace a1 := sO g a1; replace a2 := sO g a2; replace r0 := sO g r0; replace r1 := sO g r1; replace r2 := sO g r2; clear g; clear k1)
          | (go_at_call 57; (with_reducible refine (k2 _).mono ?_); rintro e v2 ⟨rfl, g⟩; replace fz : ∀ j, v2.frozen? ⟨w.heap.size + 1, j, none⟩ = false := fun j => (g.frozen (p := ⟨w.heap.size + 1, j, none⟩) (by first | (simp; done) | (simp; omega))).trans (fz j); replace bW := sp_call bW g; replace zW := Nat.le_trans zW g.size; replace a0 := sO g a0; replace a1 := sO g a1; replace a2 := sO g a2; replace r0 := sO g r0; replace r1 := sO g r1; replace r2 := sO g r2; clear g)
          | (go_at_call 21; (with_reducible refine (kb _).mono ?_); rintro e v3 ⟨rfl, g⟩; replace fz : ∀ j, v3.frozen? ⟨w.heap.size + 1, j, none⟩ = false := fun j => (g.frozen (p := ⟨w.heap.size + 1, j, none⟩) (by first | (simp; done) | (simp; omega))).trans (fz j); replace bW := sp_call bW g; replace zW := Nat.le_trans zW g.size; replace a0 := sO g a0; replace a1 := sO g a1; replace a2 := sO g a2; replace r0 := sO g r0; replace r1 := sO g r1; replace r2 := sO g r2; clear g)
          | (go_at_call 41; (with_reducible refine (k3 _).mono ?_); rintro e v4 ⟨rfl, g⟩; replace fz : ∀ j, v4.frozen? ⟨w.heap.size + 1, j, none⟩ = false := fun j => (g.frozen (p := ⟨w.heap.size + 1, j, none⟩) (by first | (simp; done) | (simp; omega))).trans (fz j); replace bW := sp_call bW g; replace zW := Nat.le_trans zW g.size; replace a0 := sO g a0; replace a1 := sO g a1; replace a2 := sO g a2; replace r0 := sO g r0; replace r1 := sO g r1; replace r2 := sO g r2; clear g; clear k3)
          | (go_at_call 41; (with_reducible refine (k4 _).mono ?_); rintro e v5 ⟨rfl, g⟩; replace fz : ∀ j, v5.frozen? ⟨w.heap.size + 1, j, none⟩ = false := fun j => (g.frozen (p := ⟨w.heap.size + 1, j, none⟩) (by first | (simp; done) | (simp; omega))).trans (fz j); replace bW := sp_call bW g; replace zW := Nat.le_trans zW g.size; replace a0 := sO g a0; replace a1 := sO g a1; replace a2 := sO g a2; replace r0 := sO g r0; replace r1 := sO g r1; replace r2 := sO g r2; clear g)
          | (go_at_call 56; (with_reducible refine (kn _).mono ?_); rintro e v6 ⟨rfl, g⟩; replace fz : ∀ j, v6.frozen? ⟨w.heap.size + 1, j, none⟩ = false := fun j => (g.frozen (p := ⟨w.heap.size + 1, j, none⟩) (by first | (simp; done) | (simp; omega))).trans (fz j); replace bW := sp_call bW g; replace zW := Nat.le_trans zW g.size; replace a0 := sO g a0; replace a1 := sO g a1; replace a2 := sO g a2; replace r0 := sO g r0; replace r1 := sO g r1; replace r2 := sO g r2; clear g)
          | (go_at_call 58; (with_reducible refine (k5 _).mono ?_); rintro e v7 ⟨rfl, g⟩; replace fz : ∀ j, v7.frozen? ⟨w.heap.size + 1, j, none⟩ = false := fun j => (g.frozen (p := ⟨w.heap.size + 1, j, none⟩) (by first | (simp; done) | (simp; omega))).trans (fz j); replace bW := sp_call bW g; replace zW := Nat.le_trans zW g.size; replace a0 := sO g a0; replace a1 := sO g a1; replace a2 := sO g a2; replace r0 := sO g r0; replace r1 := sO g r1; replace r2 := sO g r2; clear g)
          | fail)
        exact bodyPost_ret (v := .tuple #[.agg #[.bool re, .int .i64 rl, .int .i64 rh], .int .i64 4]) (by simp [results, Tryz.results16, go_sem, a0, a1, a2, r0, r1, r2]) rfl ⟨rfl, by first | exact sp_set3 bW (by omega) _ _ _ | exact bW⟩
  · cases is
    · cases lb
      · simp only [Bool.false_eq_true, Bool.true_eq_false, if_false, if_true, and_self, false_and, and_false, and_true] at k5 ⊢
        go_enter Tryz.func16, Tryz.ntmps16
        go_upto_region 1 with fail
        obtain ⟨W, hW⟩ : ∃ W, ((w.alloc (.cells #[.bool false, .int .u64 a, .int .u64 b] 26)).alloc (.cells #[.bool false, .int .i64 0, .int .i64 0] 39)) = W := ⟨_, rfl⟩
        have a0 : W.cell? ⟨w.heap.size, 0, none⟩ = some (.bool false) := by rw [← hW]; simp [go_sem]
        have a1 : W.cell? ⟨w.heap.size, 1, none⟩ = some (.int .u64 a) := by rw [← hW]; simp [go_sem]
        have a2 : W.cell? ⟨w.heap.size, 2, none⟩ = some (.int .u64 b) := by rw [← hW]; simp [go_sem]
        have r0 : W.cell? ⟨w.heap.size + 1, 0, none⟩ = some (.bool false) := by rw [← hW]; simp [go_sem]
        have r1 : W.cell? ⟨w.heap.size + 1, 1, none⟩ = some (.int .i64 0) := by rw [← hW]; simp [go_sem]
        have r2 : W.cell? ⟨w.heap.size + 1, 2, none⟩ = some (.int .i64 0) := by rw [← hW]; simp [go_sem]
        have bW : Below w.heap.size w W := by rw [← hW]; exact (sp_new (sp_new (Below.refl _ _) _) _)
        have zW : W.heap.size = w.heap.size + 2 := by rw [← hW]; simp
        have fz : ∀ j, W.frozen? ⟨w.heap.size + 1, j, none⟩ = false := by intro j; rw [← hW]; simp [go_sem]
        rw [hW]
        clear hW
        replace zW := Nat.le_of_eq zW.symm
        go_wp2_with (first
          | (go_at_call 57; (with_reducible refine (k1 _).mono ?_); rintro e v1 ⟨rfl, g⟩; replace fz : ∀ j, v1.frozen? ⟨w.heap.size + 1, j, none⟩ = false := fun j => (g.frozen (p := ⟨w.heap.size + 1, j, none⟩) (by first | (simp; done) | (simp; omega))).trans (fz j); replace bW := sp_call bW g; replace zW := Nat.le_trans zW g.size; replace a0 := sO g a0; replace a1 := sO g a1; replace a2 := sO g a2; replace r0 := sO g r0; replace r1 := sO g r1; replace r2 := sO g r2; clear g; clear k1)
          | (go_at_call 57; (with_reducible refine (k2 _).mono ?_); rintro e v2 ⟨rfl, g⟩; replace fz : ∀ j, v2.frozen? ⟨w.heap.size + 1, j, none⟩ = false := fun j => (g.frozen (p := ⟨w.heap.size + 1, j, none⟩) (by first | (simp; done) | (simp; omega))).trans (fz j); replace bW := sp_call bW g; replace zW := Nat.le_trans zW g.size; replace a0 := sO g a0; replace a1 := sO g a1; replace a2 := sO g a2; replace r0 := sO g r0; replace r1 := sO g r1; replace r2 := sO g r2; clear g)
          | (go_at_call 21; (with_reducible refine (kb _).mono ?_); rintro e v3 ⟨rfl, g⟩; replace fz : ∀ j, v3.frozen? ⟨w.heap.size + 1, j, none⟩ = false := fun j => (g.frozen (p := ⟨w.heap.size + 1, j, none⟩) (by first | (simp; done) | (simp; omega))).trans (fz j); replace bW := sp_call bW g; replace zW := Nat.le_trans zW g.size; replace a0 := sO g a0; replace a1 := sO g a1; replace a2 := sO g a2; replace r0 := sO g r0; replace r1 := sO g r1; replace r2 := sO g r2; clear g)
          | (go_at_call 41; (with_reducible refine (k3 _).mono ?_); rintro e v4 ⟨rfl, g⟩; replace fz : ∀ j, v4.frozen? ⟨w.heap.size + 1, j, none⟩ = false := fun j => (g.frozen (p := ⟨w.heap.size + 1, j, none⟩) (by first | (simp; done) | (simp; omega))).trans (fz j); replace bW := sp_call bW g; replace zW := Nat.le_trans zW g.size; replace a0 := sO g a0; replace a1 := sO g a1; replace a2 := sO g a2; replace r0 := sO g r0; replace r1 := sO g r1; replace r2 := sO g r2; clear g; clear k3)
          | (go_at_call 41; (with_reducible refine (k4 _).mono ?_); rintro e v5 ⟨rfl, g⟩; replace fz : ∀ j, v5.frozen? ⟨w.heap.size + 1, j, none⟩ = false := fun j => (g.frozen (p := ⟨w.heap.size + 1, j, none⟩) (by first | (simp; done) | (simp; omega))).trans (fz j); replace bW := sp_call bW g; replace zW := Nat.le_trans zW g.size; replace a0 := sO g a0; replace a1 := sO g a1; replace a2 := sO g a2; replace r0 := sO g r0; replace r1 := sO g r1; replace r2 := sO g r2; clear g)
          | (go_at_call 56; (with_reducible refine (kn _).mono ?_); rintro e v6 ⟨rfl, g⟩; replace fz : ∀ j, v6.frozen? ⟨w.heap.size + 1, j, none⟩ = false := fun j => (g.frozen (p := ⟨w.heap.size + 1, j, none⟩) (by first | (simp; done) | (simp; omega))).trans (fz j); replace bW := sp_call bW g; replace zW := Nat.le_trans zW g.size; replace a0 := sO g a0; replace a1 := sO g a1; replace a2 := sO g a2; replace r0 := sO g r0; replace r1 := sO g r1; replace r2 := sO g r2; clear g)
          | (go_at_call 58; (with_reducible refine (k5 _).mono ?_); rintro e v7 ⟨rfl, g⟩; replace fz : ∀ j, v7.frozen? ⟨w.heap.size + 1, j, none⟩ = false := fun j => (g.frozen (p := ⟨w.heap.size + 1, j, none⟩) (by first | (simp; done) | (simp; omega))).trans (fz j); replace bW := sp_call bW g; replace zW := Nat.le_trans zW g.size; replace a0 := sO g a0; replace a1 := sO g a1; replace a2 := sO g a2; replace r0 := sO g r0; replace r1 := sO g r1; replace r2 := sO g r2; clear g)
          | fail)
        exact bodyPost_ret (v := .tuple #[.agg #[.bool re, .int .i64 rl, .int .i64 rh], .int .i64 4]) (by simp [results, Tryz.results16, go_sem, a0, a1, a2, r0, r1, r2]) rfl ⟨rfl, by first | exact sp_set3 bW (by omega) _ _ _ | exact bW⟩
      · simp only [Bool.false_eq_true, Bool.true_eq_false, if_false, if_true, and_self, false_and, and_false, and_true] at k5 ⊢
        go_enter Tryz.func16, Tryz.ntmps16
        go_upto_region 1 with fail
        obtain ⟨W, hW⟩ : ∃ W, ((w.alloc (.cells #[.bool false, .int .u64 a, .int .u64 b] 26)).alloc (.cells #[.bool false, .int .i64 0, .int .i64 0] 39)) = W := ⟨_, rfl⟩
        have a0 : W.cell? ⟨w.heap.size, 0, none⟩ = some (.bool false) := by rw [← hW]; simp [go_sem]
        have a1 : W.cell? ⟨w.heap.size, 1, none⟩ = some (.int .u64 a) := by rw [← hW]; simp [go_sem]
        have a2 : W.cell? ⟨w.heap.size, 2, none⟩ = some (.int .u64 b) := by rw [← hW]; simp [go_sem]
        have r0 : W.cell? ⟨w.heap.size + 1, 0, none⟩ = some (.bool false) := by rw [← hW]; simp [go_sem]
        have r1 : W.cell? ⟨w.heap.size + 1, 1, none⟩ = some (.int .i64 0) := by rw [← hW]; simp [go_sem]
        have r2 : W.cell? ⟨w.heap.size + 1, 2, none⟩ = some (.int .i64 0) := by rw [← hW]; simp [go_sem]
        have bW : Below w.heap.size w W := by rw [← hW]; exact (sp_new (sp_new (Below.refl _ _) _) _)
        have zW : W.heap.size = w.heap.size + 2 := by rw [← hW]; simp
        have fz : ∀ j, W.frozen? ⟨w.heap.size + 1, j, none⟩ = false := by intro j; rw [← hW]; simp [go_sem]
        rw [hW]
        clear hW
        replace zW := Nat.le_of_eq zW.symm
        go_wp2_with (first
          | (go_at_call 57; (with_reducible refine (k1 _).mono ?_); rintro e v1 ⟨rfl, g⟩; replace fz : ∀ j, v1.frozen? ⟨w.heap.size + 1, j, none⟩ = false := fun j => (g.frozen (p := ⟨w.heap.size + 1, j, none⟩) (by first | (simp; done) | (simp; omega))).trans (fz j); replace bW := sp_call bW g; replace zW := Nat.le_trans zW g.size; replace a0 := sO g a0; replace a1 := sO g a1; replace a2 := sO g a2; replace r0 := sO g r0; replace r1 := sO g r1; replace r2 := sO g r2; clear g; clear k1)
          | (go_at_call 57; (with_reducible refine (k2 _).mono ?_); rintro e v2 ⟨rfl, g⟩; replace fz : ∀ j, v2.frozen? ⟨w.heap.size + 1, j, none⟩ = false := fun j => (g.frozen (p := ⟨w.heap.size + 1, j, none⟩) (by first | (simp; done) | (simp; omega))).trans (fz j); replace bW := sp_call bW g; replace zW := Nat.le_trans zW g.size; replace a0 := sO g a0; replace a1 := sO g a1; replace a2 := sO g a2; replace r0 := sO g r0; replace r1 := sO g r1; replace r2 := sO g r2; clear g)
          | (go_at_call 21; (with_reducible refine (kb _).mono ?_); rintro e v3 ⟨rfl, g⟩; replace fz : ∀ j, v3.frozen? ⟨w.heap.size + 1, j, none⟩ = false := fun j => (g.frozen (p := ⟨w.heap.size + 1, j, none⟩) (by first | (simp; done) | (simp; omega))).trans (fz j); replace bW := sp_call bW g; replace zW := Nat.le_trans zW g.size; replace a0 := sO g a0; replace a1 := sO g a1; replace a2 := sO g a2; replace r0 := sO g r0; replace r1 := sO g r1; replace r2 := sO g r2; clear g)
          | (go_at_call 41; (with_reducible refine (k3 _).mono ?_); rintro e v4 ⟨rfl, g⟩; replace fz : ∀ j, v4.frozen? ⟨w.heap.size + 1, j, none⟩ = false := fun j => (g.frozen (p := ⟨w.heap.size + 1, j, none⟩) (by first | (simp; done) | (simp; omega))).trans (fz j); replace bW := sp_call bW g; replace zW := Nat.le_trans zW g.size; replace a0 := sO g a0; replace a1 := sO g a1; replace a2 := sO g a2; replace r0 := sO g r0; replace r1 := sO g r1; replace r2 := sO g r2; clear g; clear k3)
          | (go_at_call 41; (with_reducible refine (k4 _).mono ?_); rintro e v5 ⟨rfl, g⟩; replace fz : ∀ j, v5.frozen? ⟨w.heap.size + 1, j, none⟩ = false := fun j => (g.frozen (p := ⟨w.heap.size + 1, j, none⟩) (by first | (simp; done) | (simp; omega))).trans (fz j); replace bW := sp_call bW g; replace zW := Nat.le_trans zW g.size; replace a0 := sO g a0; replace a1 := sO g a1; replace a2 := sO g a2; replace r0 := sO g r0; replace r1 := sO g r1; replace r2 := sO g r2; clear g)
          | (go_at_call 56; (with_reducible refine (kn _).mono ?_); rintro e v6 ⟨rfl, g⟩; replace fz : ∀ j, v6.frozen? ⟨w.heap.size + 1, j, none⟩ = false := fun j => (g.frozen (p := ⟨w.heap.size + 1, j, none⟩) (by first | (simp; done) | (simp; omega))).trans (fz j); replace bW := sp_call bW g; replace zW := Nat.le_trans zW g.size; replace a0 := sO g a0; replace a1 := sO g a1; replace a2 := sO g a2; replace r0 := sO g r0; replace r1 := sO g r1; replace r2 := sO g r2; clear g)
          | (go_at_call 58; (with_reducible refine (k5 _).mono ?_); rintro e v7 ⟨rfl, g⟩; replace fz : ∀ j, v7.frozen? ⟨w.heap.size + 1, j, none⟩ = false := fun j => (g.frozen (p := ⟨w.heap.size + 1, j, none⟩) (by first | (simp; done) | (simp; omega))).trans (fz j); replace bW := sp_call bW g; replace zW := Nat.le_trans zW g.size; replace a0 := sO g a0; replace a1 := sO g a1; replace a2 := sO g a2; replace r0 := sO g r0; replace r1 := sO g r1; replace r2 := sO g r2; clear g)
          | fail)
        exact bodyPost_ret (v := .tuple #[.agg #[.bool true, .int .i64 0, .int .i64 0], .int .i64 4]) (by simp [results, Tryz.results16, go_sem, a0, a1, a2, r0, r1, r2]) rfl ⟨rfl, by first | exact sp_set3 bW (by omega) _ _ _ | exact bW⟩
    · simp only [Bool.false_eq_true, Bool.true_eq_false, if_false, if_true, and_self, false_and, and_false, and_true] at k5 ⊢
      go_enter Tryz.func16, Tryz.ntmps16
      go_upto_region 1 with fail
      obtain ⟨W, hW⟩ : ∃ W, ((w.alloc (.cells #[.bool false, .int .u64 a, .int .u64 b] 26)).alloc (.cells #[.bool false, .int .i64 0, .int .i64 0] 39)) = W := ⟨_, rfl⟩
      have a0 : W.cell? ⟨w.heap.size, 0, none⟩ = some (.bool false) := by rw [← hW]; simp [go_sem]
      have a1 : W.cell? ⟨w.heap.size, 1, none⟩ = some (.int .u64 a) := by rw [← hW]; simp [go_sem]
      have a2 : W.cell? ⟨w.heap.size, 2, none⟩ = some (.int .u64 b) := by rw [← hW]; simp [go_sem]
      have r0 : W.cell? ⟨w.heap.size + 1, 0, none⟩ = some (.bool false) := by rw [← hW]; simp [go_sem]
      have r1 : W.cell? ⟨w.heap.size + 1, 1, none⟩ = some (.int .i64 0) := by rw [← hW]; simp [go_sem]
      have r2 : W.cell? ⟨w.heap.size + 1, 2, none⟩ = some (.int .i64 0) := by rw [← hW]; simp [go_sem]
      have bW : Below w.heap.size w W := by rw [← hW]; exact (sp_new (sp_new (Below.refl _ _) _) _)
      have zW : W.heap.size = w.heap.size + 2 := by rw [← hW]; simp
      have fz : ∀ j, W.frozen? ⟨w.heap.size + 1, j, none⟩ = false := by intro j; rw [← hW]; simp [go_sem]
      rw [hW]
      clear hW
      replace zW := Nat.le_of_eq zW.symm
      go_wp2_with (first
        | (go_at_call 57; (with_reducible refine (k1 _).mono ?_); rintro e v1 ⟨rfl, g⟩; replace fz : ∀ j, v1.frozen? ⟨w.heap.size + 1, j, none⟩ = false := fun j => (g.frozen (p := ⟨w.heap.size + 1, j, none⟩) (by first | (simp; done) | (simp; omega))).trans (fz j); replace bW := sp_call bW g; replace zW := Nat.le_trans zW g.size; replace a0 := sO g a0; replace a1 := sO g a1; replace a2 := sO g a2; replace r0 := sO g r0; replace r1 := sO g r1; replace r2 := sO g r2; clear g; clear k1)
        | (go_at_call 57; (with_reducible refine (k2 _).mono ?_); rintro e v2 ⟨rfl, g⟩; replace fz : ∀ j, v2.frozen? ⟨w.heap.size + 1, j, none⟩ = false := fun j => (g.frozen (p := ⟨w.heap.size + 1, j, none⟩) (by first | (simp; done) | (simp; omega))).trans (fz j); replace bW := sp_call bW g; replace zW := Nat.le_trans zW g.size; replace a0 := sO g a0; replace a1 := sO g a1; replace a2 := sO g a2; replace r0 := sO g r0; replace r1 := sO g r1; replace r2 := sO g r2; clear g)
        | (go_at_call 21; (with_reducible refine (kb _).mono ?_); rintro e v3 ⟨rfl, g⟩; replace fz : ∀ j, v3.frozen? ⟨w.heap.size + 1, j, none⟩ = false := fun j => (g.frozen (p := ⟨w.heap.size + 1, j, none⟩) (by first | (simp; done) | (simp; omega))).trans (fz j); replace bW := sp_call bW g; replace zW := Nat.le_trans zW g.size; replace a0 := sO g a0; replace a1 := sO g a1; replace a2 := sO g a2; replace r0 := sO g r0; replace r1 := sO g r1; replace r2 := sO g r2; clear g)
        | (go_at_call 41; (with_reducible refine (k3 _).mono ?_); rintro e v4 ⟨rfl, g⟩; replace fz : ∀ j, v4.frozen? ⟨w.heap.size + 1, j, none⟩ = false := fun j => (g.frozen (p := ⟨w.heap.size + 1, j, none⟩) (by first | (simp; done) | (simp; omega))).trans (fz j); replace bW := sp_call bW g; replace zW := Nat.le_trans zW g.size; replace a0 := sO g a0; replace a1 := sO g a1; replace a2 := sO g a2; replace r0 := sO g r0; replace r1 := sO g r1; replace r2 := sO g r2; clear g; clear k3)
        | (go_at_call 41; (with_reducible refine (k4 _).mono ?_); rintro e v5 ⟨rfl, g⟩; replace fz : ∀ j, v5.frozen? ⟨w.heap.size + 1, j, none⟩ = false := fun j => (g.frozen (p := ⟨w.heap.size + 1, j, none⟩) (by first | (simp; done) | (simp; omega))).trans (fz j); replace bW := sp_call bW g; replace zW := Nat.le_trans zW g.size; replace a0 := sO g a0; replace a1 := sO g a1; replace a2 := sO g a2; replace r0 := sO g r0; replace r1 := sO g r1; replace r2 := sO g r2; clear g)
        | (go_at_call 56; (with_reducible refine (kn _).mono ?_); rintro e v6 ⟨rfl, g⟩; replace fz : ∀ j, v6.frozen? ⟨w.heap.size + 1, j, none⟩ = false := fun j => (g.frozen (p := ⟨w.heap.size + 1, j, none⟩) (by first | (simp; done) | (simp; omega))).trans (fz j); replace bW := sp_call bW g; replace zW := Nat.le_trans zW g.size; replace a0 := sO g a0; replace a1 := sO g a1; replace a2 := sO g a2; replace r0 := sO g r0; replace r1 := sO g r1; replace r2 := sO g r2; clear g)
        | (go_at_call 58; (with_reducible refine (k5 _).mono ?_); rintro e v7 ⟨rfl, g⟩; replace fz : ∀ j, v7.frozen? ⟨w.heap.size + 1, j, none⟩ = false := fun j => (g.frozen (p := ⟨w.heap.size + 1, j, none⟩) (by first | (simp; done) | (simp; omega))).trans (fz j); replace bW := sp_call bW g; replace zW := Nat.le_trans zW g.size; replace a0 := sO g a0; replace a1 := sO g a1; replace a2 := sO g a2; replace r0 := sO g r0; replace r1 := sO g r1; replace r2 := sO g r2; clear g)
        | fail)
      exact bodyPost_ret (v := .tuple #[.agg #[.bool re, .int .i64 rl, .int .i64 rh], .int .i64 0]) (by simp [results, Tryz.results16, go_sem, a0, a1, a2, r0, r1, r2]) rfl ⟨rfl, by first | exact sp_set3 bW (by omega) _ _ _ | exact bW⟩
end Go.Proofs.YtgdknlnpfnifiaaGreat

