/- span's exported calls of ints. -/
import Derived.Test.YthjoigkckgdcaaaGreatUSpX
import Derived.Test.YthjoigkckgdcaaaGreatUSpOi
import Derived.Deep.DeepCutAuto
namespace Go.Proofs.YthjoigkckgdcaaaGreat
open Go.RowKit
set_option linter.unusedVariables false
set_option linter.unusedSimpArgs false
set_option maxRecDepth 100000 in
set_option maxHeartbeats 6400000 in
theorem intTwo_of (op : Int) (e1 e2 : Bool) (a b c d : Int) (me : Bool) (mlo mhi TR : Int) (h2 : ∀ V, Calls Tryz.prog 128 #[.agg (lvi LnI), .int .i64 op, .agg #[.bool e1, .int .i64 a, .int .i64 b], .agg #[.bool e2, .int .i64 c, .int .i64 d]] V fun e w' => e = .returned (.tuple #[.agg #[.bool me, .int .i64 mlo, .int .i64 mhi], .int .i64 TR]) ∧ Below V.heap.size V w') (w : World) :
    Calls Tryz.prog 62 #[.int .i64 op, .agg #[.bool e1, .int .i64 a, .int .i64 b], .agg #[.bool e2, .int .i64 c, .int .i64 d]] w fun e w' => e = .returned (.tuple #[.agg #[.bool me, .int .i64 mlo, .int .i64 mhi], .int .i64 TR]) ∧ Below w.heap.size w w' := by
  have h5 := intRange_any me mlo mhi
  have ho1 := ofInts_any
  have ho2 := ofInts_any
  go_enter Tryz.func62, Tryz.ntmps62
  go_upto_region 1 with fail
  obtain ⟨W, hW⟩ : ∃ W, (((w.alloc (.cells #[.bool e1, .int .i64 a, .int .i64 b] 47)).alloc (.cells #[.bool e2, .int .i64 c, .int .i64 d] 47)).alloc (.cells #[.bool false, .int .i64 0, .int .i64 0] 47)) = W := ⟨_, rfl⟩
  have a0 : W.cell? ⟨w.heap.size, 0, none⟩ = some (.bool e1) := by rw [← hW]; simp [go_sem]
  have a1 : W.cell? ⟨w.heap.size, 1, none⟩ = some (.int .i64 a) := by rw [← hW]; simp [go_sem]
  have a2 : W.cell? ⟨w.heap.size, 2, none⟩ = some (.int .i64 b) := by rw [← hW]; simp [go_sem]
  have b0 : W.cell? ⟨w.heap.size + 1, 0, none⟩ = some (.bool e2) := by rw [← hW]; simp [go_sem]
  have b1 : W.cell? ⟨w.heap.size + 1, 1, none⟩ = some (.int .i64 c) := by rw [← hW]; simp [go_sem]
  have b2 : W.cell? ⟨w.heap.size + 1, 2, none⟩ = some (.int .i64 d) := by rw [← hW]; simp [go_sem]
  have r0 : W.cell? ⟨w.heap.size + 1 + 1, 0, none⟩ = some (.bool false) := by rw [← hW]; simp [go_sem]
  have r1 : W.cell? ⟨w.heap.size + 1 + 1, 1, none⟩ = some (.int .i64 0) := by rw [← hW]; simp [go_sem]
  have r2 : W.cell? ⟨w.heap.size + 1 + 1, 2, none⟩ = some (.int .i64 0) := by rw [← hW]; simp [go_sem]
  have bW : Below w.heap.size w W := by rw [← hW]; exact (sp_new (sp_new (sp_new (Below.refl _ _) _) _) _)
  have zW : W.heap.size = w.heap.size + 3 := by rw [← hW]; simp
  have fz : ∀ j, W.frozen? ⟨w.heap.size + 1 + 1, j, none⟩ = false := by intro j; rw [← hW]; simp [go_sem]
  rw [hW]
  clear hW
  have hall : ∀ X, Below W.heap.size W X → (X.cell? ⟨w.heap.size, 0, none⟩ = some (.bool e1) ∧ X.cell? ⟨w.heap.size, 1, none⟩ = some (.int .i64 a) ∧ X.cell? ⟨w.heap.size, 2, none⟩ = some (.int .i64 b) ∧ X.cell? ⟨w.heap.size + 1, 0, none⟩ = some (.bool e2) ∧ X.cell? ⟨w.heap.size + 1, 1, none⟩ = some (.int .i64 c) ∧ X.cell? ⟨w.heap.size + 1, 2, none⟩ = some (.int .i64 d)) := fun X cc => ⟨sO cc a0, sO cc a1, sO cc a2, sO cc b0, sO cc b1, sO cc b2⟩
  have cc : Below W.heap.size W W := Below.refl _ _
  replace zW := Nat.le_of_eq zW.symm
  go_cut [8, 9] from 10 to 19 (fun s u0 X => ∃ b : Nat, s = .pointer (some ⟨b, 0, none⟩) ∧ u0 = .int .i64 TR ∧ W.heap.size ≤ b ∧ X.cell? ⟨b, 0, none⟩ = some (.bool me) ∧ X.cell? ⟨b, 1, none⟩ = some (.int .i64 mlo) ∧ X.cell? ⟨b, 2, none⟩ = some (.int .i64 mhi) ∧ Below W.heap.size W X)
  case first =>
   go_region_held3 (fun w' => w'.cell? ⟨w.heap.size, 0, none⟩ = some (.bool e1) ∧ w'.cell? ⟨w.heap.size, 1, none⟩ = some (.int .i64 a) ∧ w'.cell? ⟨w.heap.size, 2, none⟩ = some (.int .i64 b) ∧ w'.cell? ⟨w.heap.size + 1, 0, none⟩ = some (.bool e2) ∧ w'.cell? ⟨w.heap.size + 1, 1, none⟩ = some (.int .i64 c) ∧ w'.cell? ⟨w.heap.size + 1, 2, none⟩ = some (.int .i64 d)) (first | exact hall _ (by first | exact cc | exact cc.drew | exact sp_new cc _ | exact (sp_new cc _).drew | exact sp_new cc.drew _ | exact sp_new (sp_new cc _) _ | exact sp_set3 cc (by omega) _ _ _ | exact (sp_set3 cc (by omega) _ _ _).drew) | trivial)
     (first
       | (go_at_call 109; refine (ints_any _).mono ?_; rintro e v1 ⟨rfl, g⟩; replace cc := sp_call (show Below W.heap.size W _ by first | exact cc | exact cc.drew | exact sp_new cc _ | exact (sp_new cc _).drew | exact sp_new cc.drew _ | exact sp_new (sp_new cc _) _) g; have zcv1 := cc.size; (try first | (have qb := carry1i (o := (Obj.cells #[.bool false, .int .i64 0, .int .i64 0] 139 (0, 0))) g (by assumption)) | (have qb := carry2i (o := (Obj.cells #[.bool false, .int .i64 0, .int .i64 0] 139 (0, 0))) g (by assumption)) | (have qb := carry3i (o := (Obj.cells #[.bool false, .int .i64 0, .int .i64 0] 139 (0, 0))) g (by assumption)) | skip); (try first | (have qb : v1.heap[W.heap.size]? = some (Obj.cells #[.bool false, .int .i64 0, .int .i64 0] 139 (0, 0)) := carry1i g (World.alloc_heap_new W (Obj.cells #[.bool false, .int .i64 0, .int .i64 0] 139 (0, 0)))) | (have qb : v1.heap[W.heap.size]? = some (Obj.cells #[.bool false, .int .i64 0, .int .i64 0] 139 (0, 0)) := carry1i g (World.alloc_heap_new W.drew (Obj.cells #[.bool false, .int .i64 0, .int .i64 0] 139 (0, 0)))) | (have qb : v1.heap[W.heap.size]? = some (Obj.cells #[.bool false, .int .i64 0, .int .i64 0] 139 (0, 0)) := carry1i g (show (World.drew (World.alloc W (Obj.cells #[.bool false, .int .i64 0, .int .i64 0] 139 (0, 0)))).heap[W.heap.size]? = some (Obj.cells #[.bool false, .int .i64 0, .int .i64 0] 139 (0, 0)) from World.alloc_heap_new W (Obj.cells #[.bool false, .int .i64 0, .int .i64 0] 139 (0, 0)))) | skip); skip)
       | (go_at_call 118; refine (ho1 _ _ _ _).mono ?_; rintro e v2 ⟨rfl, g⟩; replace cc := sp_call (show Below W.heap.size W _ by first | exact cc | exact cc.drew | exact sp_new cc _ | exact (sp_new cc _).drew | exact sp_new cc.drew _ | exact sp_new (sp_new cc _) _) g; have zcv2 := cc.size; (try first | (have qb := carry1i (o := (Obj.cells #[.bool false, .int .i64 0, .int .i64 0] 139 (0, 0))) g (by assumption)) | (have qb := carry2i (o := (Obj.cells #[.bool false, .int .i64 0, .int .i64 0] 139 (0, 0))) g (by assumption)) | (have qb := carry3i (o := (Obj.cells #[.bool false, .int .i64 0, .int .i64 0] 139 (0, 0))) g (by assumption)) | skip); (try first | (have qb : v2.heap[v1.heap.size]? = some (Obj.cells #[.bool false, .int .i64 0, .int .i64 0] 139 (0, 0)) := carry1i g (World.alloc_heap_new v1 (Obj.cells #[.bool false, .int .i64 0, .int .i64 0] 139 (0, 0)))) | (have qb : v2.heap[v1.heap.size]? = some (Obj.cells #[.bool false, .int .i64 0, .int .i64 0] 139 (0, 0)) := carry1i g (World.alloc_heap_new v1.drew (Obj.cells #[.bool false, .int .i64 0, .int .i64 0] 139 (0, 0)))) | (have qb : v2.heap[v1.heap.size]? = some (Obj.cells #[.bool false, .int .i64 0, .int .i64 0] 139 (0, 0)) := carry1i g (show (World.drew (World.alloc v1 (Obj.cells #[.bool false, .int .i64 0, .int .i64 0] 139 (0, 0)))).heap[v1.heap.size]? = some (Obj.cells #[.bool false, .int .i64 0, .int .i64 0] 139 (0, 0)) from World.alloc_heap_new v1 (Obj.cells #[.bool false, .int .i64 0, .int .i64 0] 139 (0, 0)))) | skip); clear ho1)
       | (go_at_call 118; refine (ho2 _ _ _ _).mono ?_; rintro e v3 ⟨rfl, g⟩; replace cc := sp_call (show Below W.heap.size W _ by first | exact cc | exact cc.drew | exact sp_new cc _ | exact (sp_new cc _).drew | exact sp_new cc.drew _ | exact sp_new (sp_new cc _) _) g; have zcv3 := cc.size; (try first | (have qb := carry1i (o := (Obj.cells #[.bool false, .int .i64 0, .int .i64 0] 139 (0, 0))) g (by assumption)) | (have qb := carry2i (o := (Obj.cells #[.bool false, .int .i64 0, .int .i64 0] 139 (0, 0))) g (by assumption)) | (have qb := carry3i (o := (Obj.cells #[.bool false, .int .i64 0, .int .i64 0] 139 (0, 0))) g (by assumption)) | skip); (try first | (have qb : v3.heap[v2.heap.size]? = some (Obj.cells #[.bool false, .int .i64 0, .int .i64 0] 139 (0, 0)) := carry1i g (World.alloc_heap_new v2 (Obj.cells #[.bool false, .int .i64 0, .int .i64 0] 139 (0, 0)))) | (have qb : v3.heap[v2.heap.size]? = some (Obj.cells #[.bool false, .int .i64 0, .int .i64 0] 139 (0, 0)) := carry1i g (World.alloc_heap_new v2.drew (Obj.cells #[.bool false, .int .i64 0, .int .i64 0] 139 (0, 0)))) | (have qb : v3.heap[v2.heap.size]? = some (Obj.cells #[.bool false, .int .i64 0, .int .i64 0] 139 (0, 0)) := carry1i g (show (World.drew (World.alloc v2 (Obj.cells #[.bool false, .int .i64 0, .int .i64 0] 139 (0, 0)))).heap[v2.heap.size]? = some (Obj.cells #[.bool false, .int .i64 0, .int .i64 0] 139 (0, 0)) from World.alloc_heap_new v2 (Obj.cells #[.bool false, .int .i64 0, .int .i64 0] 139 (0, 0)))) | skip); skip)
       | (go_at_call 128; refine (h2 _).mono ?_; rintro e v4 ⟨rfl, g⟩; replace cc := sp_call (show Below W.heap.size W _ by first | exact cc | exact cc.drew | exact sp_new cc _ | exact (sp_new cc _).drew | exact sp_new cc.drew _ | exact sp_new (sp_new cc _) _) g; have zcv4 := cc.size; (try first | (have qb := carry1i (o := (Obj.cells #[.bool false, .int .i64 0, .int .i64 0] 139 (0, 0))) g (by assumption)) | (have qb := carry2i (o := (Obj.cells #[.bool false, .int .i64 0, .int .i64 0] 139 (0, 0))) g (by assumption)) | (have qb := carry3i (o := (Obj.cells #[.bool false, .int .i64 0, .int .i64 0] 139 (0, 0))) g (by assumption)) | skip); (try first | (have qb : v4.heap[v3.heap.size]? = some (Obj.cells #[.bool false, .int .i64 0, .int .i64 0] 139 (0, 0)) := carry1i g (World.alloc_heap_new v3 (Obj.cells #[.bool false, .int .i64 0, .int .i64 0] 139 (0, 0)))) | (have qb : v4.heap[v3.heap.size]? = some (Obj.cells #[.bool false, .int .i64 0, .int .i64 0] 139 (0, 0)) := carry1i g (World.alloc_heap_new v3.drew (Obj.cells #[.bool false, .int .i64 0, .int .i64 0] 139 (0, 0)))) | (have qb : v4.heap[v3.heap.size]? = some (Obj.cells #[.bool false, .int .i64 0, .int .i64 0] 139 (0, 0)) := carry1i g (show (World.drew (World.alloc v3 (Obj.cells #[.bool false, .int .i64 0, .int .i64 0] 139 (0, 0)))).heap[v3.heap.size]? = some (Obj.cells #[.bool false, .int .i64 0, .int .i64 0] 139 (0, 0)) from World.alloc_heap_new v3 (Obj.cells #[.bool false, .int .i64 0, .int .i64 0] 139 (0, 0)))) | skip); (try first | (have hq := zcellsi (v := v4) (by assumption); obtain ⟨q0, q1, q2, qf⟩ := hq) | skip); skip)
       | fail)
   all_goals go_wp2_with fail
   all_goals go_meet
   all_goals exact ⟨_, rfl, rfl, by omega, by first | (simp [go_sem]; done) | (simp [go_sem, q0, q1, q2]; done), by first | (simp [go_sem]; done) | (simp [go_sem, q0, q1, q2]; done), by first | (simp [go_sem]; done) | (simp [go_sem, q0, q1, q2]; done), by first | exact sp_new cc _ | exact sp_set3 cc (by omega) _ _ _⟩
  case rest =>
   obtain ⟨bq, rfl, rfl, hbq, t0, t1, t2, cX⟩ := hcut
   replace r0 := sO cX r0
   replace r1 := sO cX r1
   replace r2 := sO cX r2
   replace fz := fun j => (cX.frozen (p := ⟨w.heap.size + 1 + 1, j, none⟩) (by simp; omega)).trans (fz j)
   have zX := cX.size
   have bX := sp_call bW cX
   clear hall cc
   go_wp2_with (first
     | (go_at_call 112; refine (h5 _).mono ?_; rintro e v5 ⟨rfl, g⟩; replace fz := fun j => (g.frozen (p := ⟨w.heap.size + 1 + 1, j, none⟩) (by simp; omega)).trans (fz j); replace bX := sp_call bX g; replace r0 := sO g r0; replace r1 := sO g r1; replace r2 := sO g r2; clear g)
     | fail)
   exact bodyPost_ret (v := .tuple #[.agg #[.bool me, .int .i64 mlo, .int .i64 mhi], .int .i64 TR]) (by simp [results, Tryz.results62, go_sem, r0, r1, r2]) rfl ⟨rfl, sp_set3 bX (by omega) _ _ _⟩
set_option maxRecDepth 100000 in
set_option maxHeartbeats 3200000 in
theorem intOf_of (x y : Int) (me : Bool) (mlo mhi : Int) (h : ∀ V, Calls Tryz.prog 121 #[.agg (lvi LnI), .int .i64 x, .int .i64 y] V fun e w' => e = .returned (.agg #[.bool me, .int .i64 mlo, .int .i64 mhi]) ∧ Below V.heap.size V w') (w : World) :
    Calls Tryz.prog 48 #[.int .i64 x, .int .i64 y] w fun e w' => e = .returned (.agg #[.bool me, .int .i64 mlo, .int .i64 mhi]) ∧ Below w.heap.size w w' := by
  have h1 := ints_any
  have h5 := intRange_any me mlo mhi
  generalize lvi LnI = LV at *
  go_enter Tryz.func48, Tryz.ntmps48
  go_wp2_with fail
  obtain ⟨W, hW⟩ : ∃ W, w.alloc (.cells #[.bool false, .int .i64 0, .int .i64 0] 47) = W := ⟨_, rfl⟩
  have r0 : W.cell? ⟨w.heap.size, 0, none⟩ = some (.bool false) := by rw [← hW]; simp [go_sem]
  have r1 : W.cell? ⟨w.heap.size, 1, none⟩ = some (.int .i64 0) := by rw [← hW]; simp [go_sem]
  have r2 : W.cell? ⟨w.heap.size, 2, none⟩ = some (.int .i64 0) := by rw [← hW]; simp [go_sem]
  have fz : ∀ j, W.frozen? ⟨w.heap.size, j, none⟩ = false := by intro j; rw [← hW]; simp [go_sem]
  have bW : Below w.heap.size w W := by rw [← hW]; exact sp_new (Below.refl _ _) _
  have zW : w.heap.size < W.heap.size := by rw [← hW]; simp
  rw [hW]
  clear hW
  refine (h1 _).mono ?_
  rintro e v1 ⟨rfl, g1⟩
  go_wp2_with fail
  refine (h _).mono ?_
  rintro e v2 ⟨rfl, g2⟩
  go_wp2_with fail
  refine (h5 _).mono ?_
  rintro e v3 ⟨rfl, g3⟩
  have g := sp_call (sp_call g1 g2) g3
  replace fz := fun j => (g.frozen (p := ⟨w.heap.size, j, none⟩) zW).trans (fz j)
  replace bW := sp_call bW g
  replace r0 := sO g r0; replace r1 := sO g r1; replace r2 := sO g r2
  go_wp2_with fail
  exact bodyPost_ret (v := .agg #[.bool me, .int .i64 mlo, .int .i64 mhi]) (by simp [results, Tryz.results48, go_sem, r0, r1, r2]) rfl ⟨rfl, sp_set3 bW (by omega) _ _ _⟩
end Go.Proofs.YthjoigkckgdcaaaGreat

