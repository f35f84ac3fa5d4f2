/- Texts of the proof, put together. -/
import Derived.Test.YtgdknlnpfnifiaaGreatTG14
import Derived.Deep.DeepCutAuto
import Derived.Test.YtgdknlnpfnifiaaGreatTG18
namespace Go.Proofs.YtgdknlnpfnifiaaGreat
open Go.RowKit
set_option linter.unusedVariables false
set_option linter.unusedSimpArgs false
set_option maxRecDepth 100000 in
set_option maxHeartbeats 6400000 in
theorem of_i {L : Ln} {A : Ways} {B : Nat} {w0 : World} (H : Actsi L A B w0) (x y : Int) (dx : A.dom x) (dy : A.dom y) (dpx : A.dom (A.pl x)) (dpy : A.dom (A.pl y)) (w : World) (ok : Below B w0 w) :
    Calls Tryz.prog 65 #[.agg (lvi L), .int .i64 x, .int .i64 y] w fun e w' => e = .returned (sVi (ofP A x y)) ∧ Below w.heap.size w w' := by
  have h1 := fun V ok => H.pl x V dx ok
  have h2 := fun V ok => H.pl y V dy ok
  have h3 := fun V ok => right_i H false (A.pl x) (A.pl y) dpx dpy V ok
  have h4 := none_i
  have hB := H.hB
  have ep := H.ep
  obtain ⟨R, HR⟩ : ∃ R, Hid (R = sVi (ofP A x y)) := ⟨_, rfl⟩
  rw [← HR.out]
  replace HR := HR.out
  unfold sVi ofP at HR
  unfold lvi at *
  clear H
  generalize rightP A (false, A.pl x, A.pl y) = rt at *
  generalize A.pl x = px at *
  generalize A.pl y = py at *
  replace HR : Hid _ := HR
  go_enter Tryz.func65, Tryz.ntmps65
  go_upto_region 1 with fail
  obtain ⟨W, hW⟩ : ∃ W, ((w.alloc (.cells #[.int .i64 L.least, .int .i64 L.most, .int .i64 L.past, .func (.func L.ko) #[] L.co, .func (.func L.kp) #[] L.cp, .func (.func L.k1) #[] L.c1, .func (.func L.kv) #[] L.cv, .func (.func L.kn) #[] L.cn, .func (.func L.ku) #[] L.cu, .func (.func L.kt) #[] L.ct, .func (.func L.kz) #[] L.cz] 93)).alloc (.cells #[.bool false, .int .i64 0, .int .i64 0] 96)) = W := ⟨_, rfl⟩
  have l0 : W.cell? ⟨w.heap.size, 0, none⟩ = some (.int .i64 L.least) := by rw [← hW]; simp [go_sem]
  have l1 : W.cell? ⟨w.heap.size, 1, none⟩ = some (.int .i64 L.most) := by rw [← hW]; simp [go_sem]
  have l2 : W.cell? ⟨w.heap.size, 2, none⟩ = some (.int .i64 L.past) := by rw [← hW]; simp [go_sem]
  have l3 : W.cell? ⟨w.heap.size, 3, none⟩ = some (.func (.func L.ko) #[] L.co) := by rw [← hW]; simp [go_sem]
  have l4 : W.cell? ⟨w.heap.size, 4, none⟩ = some (.func (.func L.kp) #[] L.cp) := by rw [← hW]; simp [go_sem]
  have l5 : W.cell? ⟨w.heap.size, 5, none⟩ = some (.func (.func L.k1) #[] L.c1) := by rw [← hW]; simp [go_sem]
  have l6 : W.cell? ⟨w.heap.size, 6, none⟩ = some (.func (.func L.kv) #[] L.cv) := by rw [← hW]; simp [go_sem]
  have l7 : W.cell? ⟨w.heap.size, 7, none⟩ = some (.func (.func L.kn) #[] L.cn) := by rw [← hW]; simp [go_sem]
  have l8 : W.cell? ⟨w.heap.size, 8, none⟩ = some (.func (.func L.ku) #[] L.cu) := by rw [← hW]; simp [go_sem]
  have l9 : W.cell? ⟨w.heap.size, 9, none⟩ = some (.func (.func L.kt) #[] L.ct) := by rw [← hW]; simp [go_sem]
  have l10 : W.cell? ⟨w.heap.size, 10, none⟩ = some (.func (.func L.kz) #[] L.cz) := by rw [← hW]; simp [go_sem]
  have r0 : W.cell? ⟨w.heap.size + 1, 0, none⟩ = some (.bool false) := by rw [← hW]; simp [go_sem]
  have r1 : W.cell? ⟨w.heap.size + 1, 1, none⟩ = some (.int .i64 0) := by rw [← hW]; simp [go_sem]
  have r2 : W.cell? ⟨w.heap.size + 1, 2, none⟩ = some (.int .i64 0) := by rw [← hW]; simp [go_sem]
  have okW : Below B w0 W := by rw [← hW]; exact (ok_new hB (ok_new hB ok _) _)
  have bW : Below w.heap.size w W := by rw [← hW]; exact (sp_new (sp_new (Below.refl _ _) _) _)
  have zW : W.heap.size = w.heap.size + 2 := by rw [← hW]; simp
  have fz : ∀ j, W.frozen? ⟨w.heap.size + 1, j, none⟩ = false := by intro j; rw [← hW]; simp [go_sem]
  rw [hW]
  clear hW
  have okc : ∀ X, Below W.heap.size W X → Below B w0 X := fun X cc => ok_call hB okW cc
  have hall : ∀ X, Below W.heap.size W X → (X.cell? ⟨w.heap.size, 0, none⟩ = some (.int .i64 L.least) ∧ X.cell? ⟨w.heap.size, 1, none⟩ = some (.int .i64 L.most) ∧ X.cell? ⟨w.heap.size, 2, none⟩ = some (.int .i64 L.past) ∧ X.cell? ⟨w.heap.size, 3, none⟩ = some (.func (.func L.ko) #[] L.co) ∧ X.cell? ⟨w.heap.size, 4, none⟩ = some (.func (.func L.kp) #[] L.cp) ∧ X.cell? ⟨w.heap.size, 5, none⟩ = some (.func (.func L.k1) #[] L.c1) ∧ X.cell? ⟨w.heap.size, 6, none⟩ = some (.func (.func L.kv) #[] L.cv) ∧ X.cell? ⟨w.heap.size, 7, none⟩ = some (.func (.func L.kn) #[] L.cn) ∧ X.cell? ⟨w.heap.size, 8, none⟩ = some (.func (.func L.ku) #[] L.cu) ∧ X.cell? ⟨w.heap.size, 9, none⟩ = some (.func (.func L.kt) #[] L.ct) ∧ X.cell? ⟨w.heap.size, 10, none⟩ = some (.func (.func L.kz) #[] L.cz)) := fun X cc => ⟨sO cc l0, sO cc l1, sO cc l2, sO cc l3, sO cc l4, sO cc l5, sO cc l6, sO cc l7, sO cc l8, sO cc l9, sO cc l10⟩
  have cc : Below W.heap.size W W := Below.refl _ _
  replace zW := Nat.le_of_eq zW.symm
  go_cut [7] from 8 to 16 (fun s X => ∃ b : Nat, s = .pointer (some ⟨b, 0, none⟩) ∧ W.heap.size ≤ b ∧ X.cell? ⟨b, 0, none⟩ = some (.bool false) ∧ X.cell? ⟨b, 1, none⟩ = some (.int .i64 px) ∧ X.cell? ⟨b, 2, none⟩ = some (.int .i64 py) ∧ Below W.heap.size W X)
  case first =>
   go_region_held3 (fun w' => w'.cell? ⟨w.heap.size, 0, none⟩ = some (.int .i64 L.least) ∧ w'.cell? ⟨w.heap.size, 1, none⟩ = some (.int .i64 L.most) ∧ w'.cell? ⟨w.heap.size, 2, none⟩ = some (.int .i64 L.past) ∧ w'.cell? ⟨w.heap.size, 3, none⟩ = some (.func (.func L.ko) #[] L.co) ∧ w'.cell? ⟨w.heap.size, 4, none⟩ = some (.func (.func L.kp) #[] L.cp) ∧ w'.cell? ⟨w.heap.size, 5, none⟩ = some (.func (.func L.k1) #[] L.c1) ∧ w'.cell? ⟨w.heap.size, 6, none⟩ = some (.func (.func L.kv) #[] L.cv) ∧ w'.cell? ⟨w.heap.size, 7, none⟩ = some (.func (.func L.kn) #[] L.cn) ∧ w'.cell? ⟨w.heap.size, 8, none⟩ = some (.func (.func L.ku) #[] L.cu) ∧ w'.cell? ⟨w.heap.size, 9, none⟩ = some (.func (.func L.kt) #[] L.ct) ∧ w'.cell? ⟨w.heap.size, 10, none⟩ = some (.func (.func L.kz) #[] L.cz)) (first | exact hall _ (by first | exact cc | exact cc.drew | exact sp_new cc _ | exact (sp_new cc _).drew | exact sp_new cc.drew _ | exact sp_new (sp_new cc _) _ | exact sp_set3 cc (by omega) _ _ _ | exact (sp_set3 cc (by omega) _ _ _).drew) | trivial)
     (first
       | (go_at_fn L.kp; refine (h1 _ (okc _ (by first | exact cc | exact cc.drew | exact sp_new cc _ | exact (sp_new cc _).drew | exact sp_new cc.drew _ | exact sp_new (sp_new cc _) _))).mono ?_; rintro e v1 ⟨rfl, g⟩; replace cc := sp_call (show Below W.heap.size W _ by first | exact cc | exact cc.drew | exact sp_new cc _ | exact (sp_new cc _).drew | exact sp_new cc.drew _ | exact sp_new (sp_new cc _) _) g; have zcv1 := cc.size; (try first | (have qb := carry1i (o := (Obj.cells #[.bool false, .int .i64 0, .int .i64 0] 96 (0, 0))) g (by assumption)) | (have qb := carry2i (o := (Obj.cells #[.bool false, .int .i64 0, .int .i64 0] 96 (0, 0))) g (by assumption)) | (have qb := carry3i (o := (Obj.cells #[.bool false, .int .i64 0, .int .i64 0] 96 (0, 0))) g (by assumption)) | skip); (try first | (have qb : v1.heap[W.heap.size]? = some (Obj.cells #[.bool false, .int .i64 0, .int .i64 0] 96 (0, 0)) := carry1i g (World.alloc_heap_new W (Obj.cells #[.bool false, .int .i64 0, .int .i64 0] 96 (0, 0)))) | (have qb : v1.heap[W.heap.size]? = some (Obj.cells #[.bool false, .int .i64 0, .int .i64 0] 96 (0, 0)) := carry1i g (World.alloc_heap_new W.drew (Obj.cells #[.bool false, .int .i64 0, .int .i64 0] 96 (0, 0)))) | (have qb : v1.heap[W.heap.size]? = some (Obj.cells #[.bool false, .int .i64 0, .int .i64 0] 96 (0, 0)) := carry1i g (show (World.drew (World.alloc W (Obj.cells #[.bool false, .int .i64 0, .int .i64 0] 96 (0, 0)))).heap[W.heap.size]? = some (Obj.cells #[.bool false, .int .i64 0, .int .i64 0] 96 (0, 0)) from World.alloc_heap_new W (Obj.cells #[.bool false, .int .i64 0, .int .i64 0] 96 (0, 0)))) | skip); skip)
       | (go_at_fn L.kp; refine (h2 _ (okc _ (by first | exact cc | exact cc.drew | exact sp_new cc _ | exact (sp_new cc _).drew | exact sp_new cc.drew _ | exact sp_new (sp_new cc _) _))).mono ?_; rintro e v2 ⟨rfl, g⟩; replace cc := sp_call (show Below W.heap.size W _ by first | exact cc | exact cc.drew | exact sp_new cc _ | exact (sp_new cc _).drew | exact sp_new cc.drew _ | exact sp_new (sp_new cc _) _) g; have zcv2 := cc.size; (try first | (have qb := carry1i (o := (Obj.cells #[.bool false, .int .i64 0, .int .i64 0] 96 (0, 0))) g (by assumption)) | (have qb := carry2i (o := (Obj.cells #[.bool false, .int .i64 0, .int .i64 0] 96 (0, 0))) g (by assumption)) | (have qb := carry3i (o := (Obj.cells #[.bool false, .int .i64 0, .int .i64 0] 96 (0, 0))) g (by assumption)) | skip); (try first | (have qb : v2.heap[v1.heap.size]? = some (Obj.cells #[.bool false, .int .i64 0, .int .i64 0] 96 (0, 0)) := carry1i g (World.alloc_heap_new v1 (Obj.cells #[.bool false, .int .i64 0, .int .i64 0] 96 (0, 0)))) | (have qb : v2.heap[v1.heap.size]? = some (Obj.cells #[.bool false, .int .i64 0, .int .i64 0] 96 (0, 0)) := carry1i g (World.alloc_heap_new v1.drew (Obj.cells #[.bool false, .int .i64 0, .int .i64 0] 96 (0, 0)))) | (have qb : v2.heap[v1.heap.size]? = some (Obj.cells #[.bool false, .int .i64 0, .int .i64 0] 96 (0, 0)) := carry1i g (show (World.drew (World.alloc v1 (Obj.cells #[.bool false, .int .i64 0, .int .i64 0] 96 (0, 0)))).heap[v1.heap.size]? = some (Obj.cells #[.bool false, .int .i64 0, .int .i64 0] 96 (0, 0)) from World.alloc_heap_new v1 (Obj.cells #[.bool false, .int .i64 0, .int .i64 0] 96 (0, 0)))) | skip); (try first | (have hq := zcellsi (v := v2) (by assumption); obtain ⟨q0, q1, q2, qf⟩ := hq) | skip); skip)
       | fail)
   all_goals go_wp2_with fail
   all_goals go_meet
   all_goals exact ⟨_, rfl, by omega, by first | (simp [go_sem]; done) | (simp [go_sem, q0, q1, q2]; done), by first | (simp [go_sem]; done) | (simp [go_sem, q0, q1, q2]; done), by first | (simp [go_sem]; done) | (simp [go_sem, q0, q1, q2]; done), by first | exact sp_new cc _ | exact sp_set3 cc (by omega) _ _ _⟩
  case rest =>
   obtain ⟨bq, rfl, hbq, t0, t1, t2, cX⟩ := hcut
   have hl := hall _ cX
   clear l0 l1 l2 l3 l4 l5 l6 l7 l8 l9 l10
   obtain ⟨l0, l1, l2, l3, l4, l5, l6, l7, l8, l9, l10⟩ := hl
   replace r0 := sO cX r0
   replace r1 := sO cX r1
   replace r2 := sO cX r2
   replace fz := fun j => (cX.frozen (p := ⟨w.heap.size + 1, j, none⟩) (by simp; omega)).trans (fz j)
   have zX := cX.size
   have bX := sp_call bW cX
   clear hall cc
   cases rt
   · go_wp2_with (first
       | (go_at_call 139; refine (h3 _ (okc _ cX)).mono ?_; rintro e v3 ⟨rfl, g⟩; replace fz := fun j => (g.frozen (p := ⟨w.heap.size + 1, j, none⟩) (by simp; omega)).trans (fz j); have z3 := g.size; replace bX := sp_call bX g; replace t0 := sO g t0; replace t1 := sO g t1; replace t2 := sO g t2; replace r0 := sO g r0; replace r1 := sO g r1; replace r2 := sO g r2; clear g)
       | (go_at_call 126; refine (h4 _).mono ?_; rintro e v4 ⟨rfl, g⟩; replace fz := fun j => (g.frozen (p := ⟨w.heap.size + 1, j, none⟩) (by simp; omega)).trans (fz j); replace bX := sp_call bX g; replace r0 := sO g r0; replace r1 := sO g r1; replace r2 := sO g r2; clear g)
       | fail)
     exact bodyPost_ret (v := .agg #[.bool true, .int .i64 0, .int .i64 0]) (by simp [results, Tryz.results65, go_sem, r0, r1, r2]) rfl ⟨by rw [HR.out]; simp, sp_set3 bX (by omega) _ _ _⟩
   · go_wp2_with (first
       | (go_at_call 139; refine (h3 _ (okc _ cX)).mono ?_; rintro e v3 ⟨rfl, g⟩; replace fz := fun j => (g.frozen (p := ⟨w.heap.size + 1, j, none⟩) (by simp; omega)).trans (fz j); have z3 := g.size; replace bX := sp_call bX g; replace t0 := sO g t0; replace t1 := sO g t1; replace t2 := sO g t2; replace r0 := sO g r0; replace r1 := sO g r1; replace r2 := sO g r2; clear g)
       | fail)
     exact bodyPost_ret (v := .agg #[.bool false, .int .i64 px, .int .i64 py]) (by simp [results, Tryz.results65, go_sem, r0, r1, r2]) rfl ⟨by rw [HR.out]; simp, sp_set3 bX (by omega) _ _ _⟩
end Go.Proofs.YtgdknlnpfnifiaaGreat


namespace Go.Proofs.YtgdknlnpfnifiaaGreat
open Go.RowKit
set_option linter.unusedVariables false
set_option linter.unusedSimpArgs false
set_option maxRecDepth 100000 in
set_option maxHeartbeats 6400000 in
theorem intTwo_of (op : Int) (e1 e2 : Bool) (a b c d : Int) (me : Bool) (mlo mhi TR : Int) (h2 : ∀ V, Calls Tryz.prog 64 #[.agg (lvi LnI), .int .i64 op, .agg #[.bool e1, .int .i64 a, .int .i64 b], .agg #[.bool e2, .int .i64 c, .int .i64 d]] V fun e w' => e = .returned (.tuple #[.agg #[.bool me, .int .i64 mlo, .int .i64 mhi], .int .i64 TR]) ∧ Below V.heap.size V w') (w : World) :
    Calls Tryz.prog 19 #[.int .i64 op, .agg #[.bool e1, .int .i64 a, .int .i64 b], .agg #[.bool e2, .int .i64 c, .int .i64 d]] w fun e w' => e = .returned (.tuple #[.agg #[.bool me, .int .i64 mlo, .int .i64 mhi], .int .i64 TR]) ∧ Below w.heap.size w w' := by
  have h5 := intRange_any me mlo mhi
  have ho1 := ofInts_any
  have ho2 := ofInts_any
  go_enter Tryz.func19, Tryz.ntmps19
  go_upto_region 1 with fail
  obtain ⟨W, hW⟩ : ∃ W, (((w.alloc (.cells #[.bool e1, .int .i64 a, .int .i64 b] 39)).alloc (.cells #[.bool e2, .int .i64 c, .int .i64 d] 39)).alloc (.cells #[.bool false, .int .i64 0, .int .i64 0] 39)) = W := ⟨_, rfl⟩
  have a0 : W.cell? ⟨w.heap.size, 0, none⟩ = some (.bool e1) := by rw [← hW]; simp [go_sem]
  have a1 : W.cell? ⟨w.heap.size, 1, none⟩ = some (.int .i64 a) := by rw [← hW]; simp [go_sem]
  have a2 : W.cell? ⟨w.heap.size, 2, none⟩ = some (.int .i64 b) := by rw [← hW]; simp [go_sem]
  have b0 : W.cell? ⟨w.heap.size + 1, 0, none⟩ = some (.bool e2) := by rw [← hW]; simp [go_sem]
  have b1 : W.cell? ⟨w.heap.size + 1, 1, none⟩ = some (.int .i64 c) := by rw [← hW]; simp [go_sem]
  have b2 : W.cell? ⟨w.heap.size + 1, 2, none⟩ = some (.int .i64 d) := by rw [← hW]; simp [go_sem]
  have r0 : W.cell? ⟨w.heap.size + 1 + 1, 0, none⟩ = some (.bool false) := by rw [← hW]; simp [go_sem]
  have r1 : W.cell? ⟨w.heap.size + 1 + 1, 1, none⟩ = some (.int .i64 0) := by rw [← hW]; simp [go_sem]
  have r2 : W.cell? ⟨w.heap.size + 1 + 1, 2, none⟩ = some (.int .i64 0) := by rw [← hW]; simp [go_sem]
  have bW : Below w.heap.size w W := by rw [← hW]; exact (sp_new (sp_new (sp_new (Below.refl _ _) _) _) _)
  have zW : W.heap.size = w.heap.size + 3 := by rw [← hW]; simp
  have fz : ∀ j, W.frozen? ⟨w.heap.size + 1 + 1, j, none⟩ = false := by intro j; rw [← hW]; simp [go_sem]
  rw [hW]
  clear hW
  have hall : ∀ X, Below W.heap.size W X → (X.cell? ⟨w.heap.size, 0, none⟩ = some (.bool e1) ∧ X.cell? ⟨w.heap.size, 1, none⟩ = some (.int .i64 a) ∧ X.cell? ⟨w.heap.size, 2, none⟩ = some (.int .i64 b) ∧ X.cell? ⟨w.heap.size + 1, 0, none⟩ = some (.bool e2) ∧ X.cell? ⟨w.heap.size + 1, 1, none⟩ = some (.int .i64 c) ∧ X.cell? ⟨w.heap.size + 1, 2, none⟩ = some (.int .i64 d)) := fun X cc => ⟨sO cc a0, sO cc a1, sO cc a2, sO cc b0, sO cc b1, sO cc b2⟩
  have cc : Below W.heap.size W W := Below.refl _ _
  replace zW := Nat.le_of_eq zW.symm
  go_cut [8, 9] from 10 to 19 (fun s u0 X => ∃ b : Nat, s = .pointer (some ⟨b, 0, none⟩) ∧ u0 = .int .i64 TR ∧ W.heap.size ≤ b ∧ X.cell? ⟨b, 0, none⟩ = some (.bool me) ∧ X.cell? ⟨b, 1, none⟩ = some (.int .i64 mlo) ∧ X.cell? ⟨b, 2, none⟩ = some (.int .i64 mhi) ∧ Below W.heap.size W X)
  case first =>
   go_region_held3 (fun w' => w'.cell? ⟨w.heap.size, 0, none⟩ = some (.bool e1) ∧ w'.cell? ⟨w.heap.size, 1, none⟩ = some (.int .i64 a) ∧ w'.cell? ⟨w.heap.size, 2, none⟩ = some (.int .i64 b) ∧ w'.cell? ⟨w.heap.size + 1, 0, none⟩ = some (.bool e2) ∧ w'.cell? ⟨w.heap.size + 1, 1, none⟩ = some (.int .i64 c) ∧ w'.cell? ⟨w.heap.size + 1, 2, none⟩ = some (.int .i64 d)) (first | exact hall _ (by first | exact cc | exact cc.drew | exact sp_new cc _ | exact (sp_new cc _).drew | exact sp_new cc.drew _ | exact sp_new (sp_new cc _) _ | exact sp_set3 cc (by omega) _ _ _ | exact (sp_set3 cc (by omega) _ _ _).drew) | trivial)
     (first
       | (go_at_call 52; refine (ints_any _).mono ?_; rintro e v1 ⟨rfl, g⟩; replace cc := sp_call (show Below W.heap.size W _ by first | exact cc | exact cc.drew | exact sp_new cc _ | exact (sp_new cc _).drew | exact sp_new cc.drew _ | exact sp_new (sp_new cc _) _) g; have zcv1 := cc.size; (try first | (have qb := carry1i (o := (Obj.cells #[.bool false, .int .i64 0, .int .i64 0] 96 (0, 0))) g (by assumption)) | (have qb := carry2i (o := (Obj.cells #[.bool false, .int .i64 0, .int .i64 0] 96 (0, 0))) g (by assumption)) | (have qb := carry3i (o := (Obj.cells #[.bool false, .int .i64 0, .int .i64 0] 96 (0, 0))) g (by assumption)) | skip); (try first | (have qb : v1.heap[W.heap.size]? = some (Obj.cells #[.bool false, .int .i64 0, .int .i64 0] 96 (0, 0)) := carry1i g (World.alloc_heap_new W (Obj.cells #[.bool false, .int .i64 0, .int .i64 0] 96 (0, 0)))) | (have qb : v1.heap[W.heap.size]? = some (Obj.cells #[.bool false, .int .i64 0, .int .i64 0] 96 (0, 0)) := carry1i g (World.alloc_heap_new W.drew (Obj.cells #[.bool false, .int .i64 0, .int .i64 0] 96 (0, 0)))) | (have qb : v1.heap[W.heap.size]? = some (Obj.cells #[.bool false, .int .i64 0, .int .i64 0] 96 (0, 0)) := carry1i g (show (World.drew (World.alloc W (Obj.cells #[.bool false, .int .i64 0, .int .i64 0] 96 (0, 0)))).heap[W.heap.size]? = some (Obj.cells #[.bool false, .int .i64 0, .int .i64 0] 96 (0, 0)) from World.alloc_heap_new W (Obj.cells #[.bool false, .int .i64 0, .int .i64 0] 96 (0, 0)))) | skip); skip)
       | (go_at_call 62; refine (ho1 _ _ _ _).mono ?_; rintro e v2 ⟨rfl, g⟩; replace cc := sp_call (show Below W.heap.size W _ by first | exact cc | exact cc.drew | exact sp_new cc _ | exact (sp_new cc _).drew | exact sp_new cc.drew _ | exact sp_new (sp_new cc _) _) g; have zcv2 := cc.size; (try first | (have qb := carry1i (o := (Obj.cells #[.bool false, .int .i64 0, .int .i64 0] 96 (0, 0))) g (by assumption)) | (have qb := carry2i (o := (Obj.cells #[.bool false, .int .i64 0, .int .i64 0] 96 (0, 0))) g (by assumption)) | (have qb := carry3i (o := (Obj.cells #[.bool false, .int .i64 0, .int .i64 0] 96 (0, 0))) g (by assumption)) | skip); (try first | (have qb : v2.heap[v1.heap.size]? = some (Obj.cells #[.bool false, .int .i64 0, .int .i64 0] 96 (0, 0)) := carry1i g (World.alloc_heap_new v1 (Obj.cells #[.bool false, .int .i64 0, .int .i64 0] 96 (0, 0)))) | (have qb : v2.heap[v1.heap.size]? = some (Obj.cells #[.bool false, .int .i64 0, .int .i64 0] 96 (0, 0)) := carry1i g (World.alloc_heap_new v1.drew (Obj.cells #[.bool false, .int .i64 0, .int .i64 0] 96 (0, 0)))) | (have qb : v2.heap[v1.heap.size]? = some (Obj.cells #[.bool false, .int .i64 0, .int .i64 0] 96 (0, 0)) := carry1i g (show (World.drew (World.alloc v1 (Obj.cells #[.bool false, .int .i64 0, .int .i64 0] 96 (0, 0)))).heap[v1.heap.size]? = some (Obj.cells #[.bool false, .int .i64 0, .int .i64 0] 96 (0, 0)) from World.alloc_heap_new v1 (Obj.cells #[.bool false, .int .i64 0, .int .i64 0] 96 (0, 0)))) | skip); clear ho1)
       | (go_at_call 62; refine (ho2 _ _ _ _).mono ?_; rintro e v3 ⟨rfl, g⟩; replace cc := sp_call (show Below W.heap.size W _ by first | exact cc | exact cc.drew | exact sp_new cc _ | exact (sp_new cc _).drew | exact sp_new cc.drew _ | exact sp_new (sp_new cc _) _) g; have zcv3 := cc.size; (try first | (have qb := carry1i (o := (Obj.cells #[.bool false, .int .i64 0, .int .i64 0] 96 (0, 0))) g (by assumption)) | (have qb := carry2i (o := (Obj.cells #[.bool false, .int .i64 0, .int .i64 0] 96 (0, 0))) g (by assumption)) | (have qb := carry3i (o := (Obj.cells #[.bool false, .int .i64 0, .int .i64 0] 96 (0, 0))) g (by assumption)) | skip); (try first | (have qb : v3.heap[v2.heap.size]? = some (Obj.cells #[.bool false, .int .i64 0, .int .i64 0] 96 (0, 0)) := carry1i g (World.alloc_heap_new v2 (Obj.cells #[.bool false, .int .i64 0, .int .i64 0] 96 (0, 0)))) | (have qb : v3.heap[v2.heap.size]? = some (Obj.cells #[.bool false, .int .i64 0, .int .i64 0] 96 (0, 0)) := carry1i g (World.alloc_heap_new v2.drew (Obj.cells #[.bool false, .int .i64 0, .int .i64 0] 96 (0, 0)))) | (have qb : v3.heap[v2.heap.size]? = some (Obj.cells #[.bool false, .int .i64 0, .int .i64 0] 96 (0, 0)) := carry1i g (show (World.drew (World.alloc v2 (Obj.cells #[.bool false, .int .i64 0, .int .i64 0] 96 (0, 0)))).heap[v2.heap.size]? = some (Obj.cells #[.bool false, .int .i64 0, .int .i64 0] 96 (0, 0)) from World.alloc_heap_new v2 (Obj.cells #[.bool false, .int .i64 0, .int .i64 0] 96 (0, 0)))) | skip); skip)
       | (go_at_call 64; refine (h2 _).mono ?_; rintro e v4 ⟨rfl, g⟩; replace cc := sp_call (show Below W.heap.size W _ by first | exact cc | exact cc.drew | exact sp_new cc _ | exact (sp_new cc _).drew | exact sp_new cc.drew _ | exact sp_new (sp_new cc _) _) g; have zcv4 := cc.size; (try first | (have qb := carry1i (o := (Obj.cells #[.bool false, .int .i64 0, .int .i64 0] 96 (0, 0))) g (by assumption)) | (have qb := carry2i (o := (Obj.cells #[.bool false, .int .i64 0, .int .i64 0] 96 (0, 0))) g (by assumption)) | (have qb := carry3i (o := (Obj.cells #[.bool false, .int .i64 0, .int .i64 0] 96 (0, 0))) g (by assumption)) | skip); (try first | (have qb : v4.heap[v3.heap.size]? = some (Obj.cells #[.bool false, .int .i64 0, .int .i64 0] 96 (0, 0)) := carry1i g (World.alloc_heap_new v3 (Obj.cells #[.bool false, .int .i64 0, .int .i64 0] 96 (0, 0)))) | (have qb : v4.heap[v3.heap.size]? = some (Obj.cells #[.bool false, .int .i64 0, .int .i64 0] 96 (0, 0)) := carry1i g (World.alloc_heap_new v3.drew (Obj.cells #[.bool false, .int .i64 0, .int .i64 0] 96 (0, 0)))) | (have qb : v4.heap[v3.heap.size]? = some (Obj.cells #[.bool false, .int .i64 0, .int .i64 0] 96 (0, 0)) := carry1i g (show (World.drew (World.alloc v3 (Obj.cells #[.bool false, .int .i64 0, .int .i64 0] 96 (0, 0)))).heap[v3.heap.size]? = some (Obj.cells #[.bool false, .int .i64 0, .int .i64 0] 96 (0, 0)) from World.alloc_heap_new v3 (Obj.cells #[.bool false, .int .i64 0, .int .i64 0] 96 (0, 0)))) | skip); (try first | (have hq := zcellsi (v := v4) (by assumption); obtain ⟨q0, q1, q2, qf⟩ := hq) | skip); skip)
       | fail)
   all_goals go_wp2_with fail
   all_goals go_meet
   all_goals exact ⟨_, rfl, rfl, by omega, by first | (simp [go_sem]; done) | (simp [go_sem, q0, q1, q2]; done), by first | (simp [go_sem]; done) | (simp [go_sem, q0, q1, q2]; done), by first | (simp [go_sem]; done) | (simp [go_sem, q0, q1, q2]; done), by first | exact sp_new cc _ | exact sp_set3 cc (by omega) _ _ _⟩
  case rest =>
   obtain ⟨bq, rfl, rfl, hbq, t0, t1, t2, cX⟩ := hcut
   replace r0 := sO cX r0
   replace r1 := sO cX r1
   replace r2 := sO cX r2
   replace fz := fun j => (cX.frozen (p := ⟨w.heap.size + 1 + 1, j, none⟩) (by simp; omega)).trans (fz j)
   have zX := cX.size
   have bX := sp_call bW cX
   clear hall cc
   go_wp2_with (first
     | (go_at_call 55; refine (h5 _).mono ?_; rintro e v5 ⟨rfl, g⟩; replace fz := fun j => (g.frozen (p := ⟨w.heap.size + 1 + 1, j, none⟩) (by simp; omega)).trans (fz j); replace bX := sp_call bX g; replace r0 := sO g r0; replace r1 := sO g r1; replace r2 := sO g r2; clear g)
     | fail)
   exact bodyPost_ret (v := .tuple #[.agg #[.bool me, .int .i64 mlo, .int .i64 mhi], .int .i64 TR]) (by simp [results, Tryz.results19, go_sem, r0, r1, r2]) rfl ⟨rfl, sp_set3 bX (by omega) _ _ _⟩
set_option maxRecDepth 100000 in
set_option maxHeartbeats 3200000 in
theorem intOf_of (x y : Int) (me : Bool) (mlo mhi : Int) (h : ∀ V, Calls Tryz.prog 65 #[.agg (lvi LnI), .int .i64 x, .int .i64 y] V fun e w' => e = .returned (.agg #[.bool me, .int .i64 mlo, .int .i64 mhi]) ∧ Below V.heap.size V w') (w : World) :
    Calls Tryz.prog 20 #[.int .i64 x, .int .i64 y] w fun e w' => e = .returned (.agg #[.bool me, .int .i64 mlo, .int .i64 mhi]) ∧ Below w.heap.size w w' := by
  have h1 := ints_any
  have h5 := intRange_any me mlo mhi
  generalize lvi LnI = LV at *
  go_enter Tryz.func20, Tryz.ntmps20
  go_wp2_with fail
  obtain ⟨W, hW⟩ : ∃ W, w.alloc (.cells #[.bool false, .int .i64 0, .int .i64 0] 39) = W := ⟨_, rfl⟩
  have r0 : W.cell? ⟨w.heap.size, 0, none⟩ = some (.bool false) := by rw [← hW]; simp [go_sem]
  have r1 : W.cell? ⟨w.heap.size, 1, none⟩ = some (.int .i64 0) := by rw [← hW]; simp [go_sem]
  have r2 : W.cell? ⟨w.heap.size, 2, none⟩ = some (.int .i64 0) := by rw [← hW]; simp [go_sem]
  have fz : ∀ j, W.frozen? ⟨w.heap.size, j, none⟩ = false := by intro j; rw [← hW]; simp [go_sem]
  have bW : Below w.heap.size w W := by rw [← hW]; exact sp_new (Below.refl _ _) _
  have zW : w.heap.size < W.heap.size := by rw [← hW]; simp
  rw [hW]
  clear hW
  refine (h1 _).mono ?_
  rintro e v1 ⟨rfl, g1⟩
  go_wp2_with fail
  refine (h _).mono ?_
  rintro e v2 ⟨rfl, g2⟩
  go_wp2_with fail
  refine (h5 _).mono ?_
  rintro e v3 ⟨rfl, g3⟩
  have g := sp_call (sp_call g1 g2) g3
  replace fz := fun j => (g.frozen (p := ⟨w.heap.size, j, none⟩) zW).trans (fz j)
  replace bW := sp_call bW g
  replace r0 := sO g r0; replace r1 := sO g r1; replace r2 := sO g r2
  go_wp2_with fail
  exact bodyPost_ret (v := .agg #[.bool me, .int .i64 mlo, .int .i64 mhi]) (by simp [results, Tryz.results20, go_sem, r0, r1, r2]) rfl ⟨rfl, sp_set3 bW (by omega) _ _ _⟩
end Go.Proofs.YtgdknlnpfnifiaaGreat


namespace Go.Proofs.YtgdknlnpfnifiaaGreat
open Go.RowKit
set_option linter.unusedVariables false
set_option linter.unusedSimpArgs false
theorem domI_0 : WyI.dom 0 := by unfold WyI; exact ⟨by decide, by decide⟩
theorem domI_of {x : Int} (h1 : -9223372036854775808 ≤ x) (h2 : x ≤ 9223372036854775807) : WyI.dom x := ⟨h1, h2⟩
theorem intOf_any (x y : Int) (hx : -9223372036854775808 ≤ x ∧ x ≤ 9223372036854775807) (hy : -9223372036854775808 ≤ y ∧ y ≤ 9223372036854775807) (w : World) :
    Calls Tryz.prog 20 #[.int .i64 x, .int .i64 y] w fun e w' => e = .returned (.agg #[.bool (ofP WyI x y).1, .int .i64 (ofP WyI x y).2.1, .int .i64 (ofP WyI x y).2.2]) ∧ Below w.heap.size w w' :=
  intOf_of x y _ _ _ (fun V => of_i (acts_i V) x y hx hy hx hy V (Below.refl _ _)) w
theorem live_mul (w : World) : Calls Tryz.prog 19 #[.int .i64 10, .agg #[.bool false, .int .i64 1, .int .i64 3], .agg #[.bool false, .int .i64 (-2), .int .i64 2]] w fun e w' => e = .returned (.tuple #[.agg #[.bool false, .int .i64 (-6), .int .i64 6], .int .i64 0]) ∧ Below w.heap.size w w' := by
  refine intTwo_of 10 false false 1 3 (-2) 2 false (-6) 6 0 (fun V => ?_) w
  have h := two_i (acts_i V) (enters_of Tryz.func124 (by kernel_rfl) rfl) 8 trapsOf_4 10 rfl (okI 10) (gI 10) (by2_i 10 (by decide) V) 1 3 (-2) 2 domI_0 (domI_of (by decide) (by decide)) (domI_of (by decide) (by decide)) (fun p hp => by
    have : p ∈ [((1 : Int), (-2 : Int)), (1, 2), (3, -2), (3, 2)] := hp
    simp only [List.mem_cons, List.not_mem_nil, or_false] at this
    rcases this with rfl | rfl | rfl | rfl <;> exact ⟨by unfold okI; decide, by unfold WyI gI; decide, by unfold WyI gI; decide⟩) V (Below.refl _ _)
  exact h
theorem live_div (w : World) : Calls Tryz.prog 19 #[.int .i64 11, .agg #[.bool false, .int .i64 1, .int .i64 1], .agg #[.bool false, .int .i64 (-1), .int .i64 1]] w fun e w' => e = .returned (.tuple #[.agg #[.bool false, .int .i64 (-1), .int .i64 1], .int .i64 16]) ∧ Below w.heap.size w w' := by
  refine intTwo_of 11 false false 1 1 (-1) 1 false (-1) 1 16 (fun V => ?_) w
  have h := twod_i (acts_i V) (enters_of Tryz.func124 (by kernel_rfl) rfl) (enters_of Tryz.func125 (by kernel_rfl) rfl) 8 trapsOf_4 (okI 11) (gI 11) (by2_i 11 (by decide) V) 1 1 (-1) 1 16 domI_0 domI_0 (by decide) (domI_of (by decide) (by decide)) (domI_of (by decide) (by decide)) (domI_of (by decide) (by decide)) (domI_of (by decide) (by decide)) (domI_of (by decide) (by decide)) (domI_of (by decide) (by decide)) (fun p hp => by
    have : p ∈ [((1 : Int), (-1 : Int)), (1, -1), (1, 1), (1, 1), (1, -1), (1, -1), (1, 1), (1, 1)] := hp
    simp only [List.mem_cons, List.not_mem_nil, or_false] at this
    rcases this with rfl | rfl | rfl | rfl | rfl | rfl | rfl | rfl <;> exact ⟨by unfold okI; decide, by unfold WyI gI; decide, by unfold WyI gI; decide⟩) V (Below.refl _ _) (fun V' _ => byZero_i false 1 1 V')
  exact h
end Go.Proofs.YtgdknlnpfnifiaaGreat


