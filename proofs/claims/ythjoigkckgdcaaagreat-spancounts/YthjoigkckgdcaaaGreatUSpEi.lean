/- span.without on a line. -/
import Derived.Test.YthjoigkckgdcaaaGreatUSpWi
import Derived.Test.YthjoigkckgdcaaaGreatUSpEp
import Derived.Deep.DeepCutAuto
namespace Go.Proofs.YthjoigkckgdcaaaGreat
open Go.RowKit
set_option linter.unusedVariables false
set_option linter.unusedSimpArgs false
set_option maxRecDepth 100000 in
set_option maxHeartbeats 6400000 in
theorem without_i {L : Ln} {A : Ways} {B : Nat} {w0 : World} (H : Actsi L A B w0) (e1 e2 : Bool) (a b c d : Int) (da : A.dom a) (db : A.dom b) (dc : A.dom c) (dd : A.dom d) (oc : A.one c = true) (d0 : A.dom 0) (dn : A.dom (A.nxt c)) (dp : A.dom (A.prv c)) (dl : A.dom L.least) (dm : A.dom L.most) (w : World) (ok : Below B w0 w) :
    Calls Tryz.prog 218 #[.agg (lvi L), .agg #[.bool e1, .int .i64 a, .int .i64 b], .agg #[.bool e2, .int .i64 c, .int .i64 d]] w fun e w' => e = .returned (sVi (withoutP A L (e1, a, b) (e2, c, d))) ∧ Below w.heap.size w w' := by
  have h1 := fun V ok => H.ord c d V dc dd ok
  have h2 := fun V ok => H.ord c a V dc da ok
  have h3 := fun V ok => H.ord c b V dc db ok
  have hB := H.hB
  have eo := H.eo
  obtain ⟨R, HR⟩ : ∃ R, Hid (R = sVi (withoutP A L (e1, a, b) (e2, c, d))) := ⟨_, rfl⟩
  rw [← HR.out]
  replace HR := HR.out
  unfold withoutP at HR
  dsimp only at HR
  by_cases q1 : A.ord c d = 0
  · rw [if_neg (by simpa using q1)] at HR
    rw [q1] at h1
    by_cases q2 : A.ord c a = 0
    · rw [if_pos q2] at HR
      rw [q2] at h2
      have hA := above_i H c dc oc dm
      have hM := fun V ok => meet_i H e1 (aboveP A L c).1 a b (aboveP A L c).2.1 (aboveP A L c).2.2 da db (above_dom (L := L) d0 dn dm).1 (above_dom (L := L) d0 dn dm).2 V ok
      unfold mVi at hM
      unfold sVi at hA
      rw [show (((aboveP A L c).1, (aboveP A L c).2.1, (aboveP A L c).2.2) : Bool × Int × Int) = aboveP A L c from rfl] at hM
      generalize meetP A (e1, a, b) (aboveP A L c) = M at *
      obtain ⟨me, mlo, mhi⟩ := M
      generalize aboveP A L c = N at *
      obtain ⟨ne, nlo, nhi⟩ := N
      dsimp only at hA hM HR
      replace HR : Hid _ := HR
      unfold lvi sVi at *
      clear H q1 q2 h3
      go_enter Tryz.func218, Tryz.ntmps218
      go_upto_region 1 with fail
      obtain ⟨W, hW⟩ : ∃ W, ((((w.alloc (.cells #[.int .i64 L.least, .int .i64 L.most, .int .i64 L.past, .func (.func L.ko) #[] L.co, .func (.func L.kp) #[] L.cp, .func (.func L.k1) #[] L.c1, .func (.func L.kv) #[] L.cv, .func (.func L.kn) #[] L.cn, .func (.func L.ku) #[] L.cu, .func (.func L.kt) #[] L.ct, .func (.func L.kz) #[] L.cz] 136)).alloc (.cells #[.bool e1, .int .i64 a, .int .i64 b] 139)).alloc (.cells #[.bool e2, .int .i64 c, .int .i64 d] 139)).alloc (.cells #[.bool false, .int .i64 0, .int .i64 0] 139)) = W := ⟨_, rfl⟩
      have l0 : W.cell? ⟨w.heap.size, 0, none⟩ = some (.int .i64 L.least) := by rw [← hW]; simp [go_sem]
      have l1 : W.cell? ⟨w.heap.size, 1, none⟩ = some (.int .i64 L.most) := by rw [← hW]; simp [go_sem]
      have l2 : W.cell? ⟨w.heap.size, 2, none⟩ = some (.int .i64 L.past) := by rw [← hW]; simp [go_sem]
      have l3 : W.cell? ⟨w.heap.size, 3, none⟩ = some (.func (.func L.ko) #[] L.co) := by rw [← hW]; simp [go_sem]
      have l4 : W.cell? ⟨w.heap.size, 4, none⟩ = some (.func (.func L.kp) #[] L.cp) := by rw [← hW]; simp [go_sem]
      have l5 : W.cell? ⟨w.heap.size, 5, none⟩ = some (.func (.func L.k1) #[] L.c1) := by rw [← hW]; simp [go_sem]
      have l6 : W.cell? ⟨w.heap.size, 6, none⟩ = some (.func (.func L.kv) #[] L.cv) := by rw [← hW]; simp [go_sem]
      have l7 : W.cell? ⟨w.heap.size, 7, none⟩ = some (.func (.func L.kn) #[] L.cn) := by rw [← hW]; simp [go_sem]
      have l8 : W.cell? ⟨w.heap.size, 8, none⟩ = some (.func (.func L.ku) #[] L.cu) := by rw [← hW]; simp [go_sem]
      have l9 : W.cell? ⟨w.heap.size, 9, none⟩ = some (.func (.func L.kt) #[] L.ct) := by rw [← hW]; simp [go_sem]
      have l10 : W.cell? ⟨w.heap.size, 10, none⟩ = some (.func (.func L.kz) #[] L.cz) := by rw [← hW]; simp [go_sem]
      have a0 : W.cell? ⟨w.heap.size + 1, 0, none⟩ = some (.bool e1) := by rw [← hW]; simp [go_sem]
      have a1 : W.cell? ⟨w.heap.size + 1, 1, none⟩ = some (.int .i64 a) := by rw [← hW]; simp [go_sem]
      have a2 : W.cell? ⟨w.heap.size + 1, 2, none⟩ = some (.int .i64 b) := by rw [← hW]; simp [go_sem]
      have b0 : W.cell? ⟨w.heap.size + 1 + 1, 0, none⟩ = some (.bool e2) := by rw [← hW]; simp [go_sem]
      have b1 : W.cell? ⟨w.heap.size + 1 + 1, 1, none⟩ = some (.int .i64 c) := by rw [← hW]; simp [go_sem]
      have b2 : W.cell? ⟨w.heap.size + 1 + 1, 2, none⟩ = some (.int .i64 d) := by rw [← hW]; simp [go_sem]
      have r0 : W.cell? ⟨w.heap.size + 1 + 1 + 1, 0, none⟩ = some (.bool false) := by rw [← hW]; simp [go_sem]
      have r1 : W.cell? ⟨w.heap.size + 1 + 1 + 1, 1, none⟩ = some (.int .i64 0) := by rw [← hW]; simp [go_sem]
      have r2 : W.cell? ⟨w.heap.size + 1 + 1 + 1, 2, none⟩ = some (.int .i64 0) := by rw [← hW]; simp [go_sem]
      have okW : Below B w0 W := by rw [← hW]; exact (ok_new hB (ok_new hB (ok_new hB (ok_new hB ok _) _) _) _)
      have bW : Below w.heap.size w W := by rw [← hW]; exact (sp_new (sp_new (sp_new (sp_new (Below.refl _ _) _) _) _) _)
      have zW : W.heap.size = w.heap.size + 4 := by rw [← hW]; simp
      have fz : ∀ j, W.frozen? ⟨w.heap.size + 1 + 1 + 1, j, none⟩ = false := by intro j; rw [← hW]; simp [go_sem]
      rw [hW]
      clear hW
      replace zW := Nat.le_of_eq zW.symm
      go_upto_region 5 with (first
        | (go_at_fn L.ko; with_reducible refine (h1 _ okW).mono ?_; rintro e v1 ⟨rfl, g⟩; replace l0 := sO g l0; replace l1 := sO g l1; replace l2 := sO g l2; replace l3 := sO g l3; replace l4 := sO g l4; replace l5 := sO g l5; replace l6 := sO g l6; replace l7 := sO g l7; replace l8 := sO g l8; replace l9 := sO g l9; replace l10 := sO g l10; replace a0 := sO g a0; replace a1 := sO g a1; replace a2 := sO g a2; replace b0 := sO g b0; replace b1 := sO g b1; replace b2 := sO g b2; replace r0 := sO g r0; replace r1 := sO g r1; replace r2 := sO g r2; replace okW := ok_call hB okW g; replace bW := sp_call bW g; replace fz : ∀ j, v1.frozen? ⟨w.heap.size + 1 + 1 + 1, j, none⟩ = false := fun j => (g.frozen (p := ⟨w.heap.size + 1 + 1 + 1, j, none⟩) (by simp; omega)).trans (fz j); have z_v1 := g.size; clear g; clear h1)
        | (go_at_fn L.ko; with_reducible refine (h2 _ okW).mono ?_; rintro e v2 ⟨rfl, g⟩; replace l0 := sO g l0; replace l1 := sO g l1; replace l2 := sO g l2; replace l3 := sO g l3; replace l4 := sO g l4; replace l5 := sO g l5; replace l6 := sO g l6; replace l7 := sO g l7; replace l8 := sO g l8; replace l9 := sO g l9; replace l10 := sO g l10; replace a0 := sO g a0; replace a1 := sO g a1; replace a2 := sO g a2; replace b0 := sO g b0; replace b1 := sO g b1; replace b2 := sO g b2; replace r0 := sO g r0; replace r1 := sO g r1; replace r2 := sO g r2; replace okW := ok_call hB okW g; replace bW := sp_call bW g; replace fz : ∀ j, v2.frozen? ⟨w.heap.size + 1 + 1 + 1, j, none⟩ = false := fun j => (g.frozen (p := ⟨w.heap.size + 1 + 1 + 1, j, none⟩) (by simp; omega)).trans (fz j); have z_v2 := g.size; clear g; clear h2)
        | fail)
      go_region_held3 (fun w' => w'.cell? ⟨w.heap.size, 0, none⟩ = some (.int .i64 L.least) ∧ w'.cell? ⟨w.heap.size, 1, none⟩ = some (.int .i64 L.most) ∧ w'.cell? ⟨w.heap.size, 2, none⟩ = some (.int .i64 L.past) ∧ w'.cell? ⟨w.heap.size, 3, none⟩ = some (.func (.func L.ko) #[] L.co) ∧ w'.cell? ⟨w.heap.size, 4, none⟩ = some (.func (.func L.kp) #[] L.cp) ∧ w'.cell? ⟨w.heap.size, 5, none⟩ = some (.func (.func L.k1) #[] L.c1) ∧ w'.cell? ⟨w.heap.size, 6, none⟩ = some (.func (.func L.kv) #[] L.cv) ∧ w'.cell? ⟨w.heap.size, 7, none⟩ = some (.func (.func L.kn) #[] L.cn) ∧ w'.cell? ⟨w.heap.size, 8, none⟩ = some (.func (.func L.ku) #[] L.cu) ∧ w'.cell? ⟨w.heap.size, 9, none⟩ = some (.func (.func L.kt) #[] L.ct) ∧ w'.cell? ⟨w.heap.size, 10, none⟩ = some (.func (.func L.kz) #[] L.cz) ∧ w'.cell? ⟨w.heap.size + 1, 0, none⟩ = some (.bool e1) ∧ w'.cell? ⟨w.heap.size + 1, 1, none⟩ = some (.int .i64 a) ∧ w'.cell? ⟨w.heap.size + 1, 2, none⟩ = some (.int .i64 b)) (first | exact ⟨l0, l1, l2, l3, l4, l5, l6, l7, l8, l9, l10, a0, a1, a2⟩ | exact ⟨sp_keep3 l0 (by omega) _ _ _, sp_keep3 l1 (by omega) _ _ _, sp_keep3 l2 (by omega) _ _ _, sp_keep3 l3 (by omega) _ _ _, sp_keep3 l4 (by omega) _ _ _, sp_keep3 l5 (by omega) _ _ _, sp_keep3 l6 (by omega) _ _ _, sp_keep3 l7 (by omega) _ _ _, sp_keep3 l8 (by omega) _ _ _, sp_keep3 l9 (by omega) _ _ _, sp_keep3 l10 (by omega) _ _ _, sp_keep3 a0 (by omega) _ _ _, sp_keep3 a1 (by omega) _ _ _, sp_keep3 a2 (by omega) _ _ _⟩)
        (first
          | (go_at_call 216; refine (hA _ (by first | exact okW | exact okW.drew)).mono ?_; rintro e u1 ⟨rfl, g1⟩; replace g1 : Below v2.heap.size v2 u1 := ⟨g1.os, g1.tape, g1.output, g1.size, g1.block⟩; replace l0 := sO g1 l0; replace l1 := sO g1 l1; replace l2 := sO g1 l2; replace l3 := sO g1 l3; replace l4 := sO g1 l4; replace l5 := sO g1 l5; replace l6 := sO g1 l6; replace l7 := sO g1 l7; replace l8 := sO g1 l8; replace l9 := sO g1 l9; replace l10 := sO g1 l10; replace a0 := sO g1 a0; replace a1 := sO g1 a1; replace a2 := sO g1 a2; replace b0 := sO g1 b0; replace b1 := sO g1 b1; replace b2 := sO g1 b2; replace r0 := sO g1 r0; replace r1 := sO g1 r1; replace r2 := sO g1 r2; replace okW := ok_call hB okW g1; replace bW := sp_call bW g1; replace fz : ∀ j, u1.frozen? ⟨w.heap.size + 1 + 1 + 1, j, none⟩ = false := fun j => (g1.frozen (p := ⟨w.heap.size + 1 + 1 + 1, j, none⟩) (by simp; omega)).trans (fz j); have z_u1 := g1.size; clear g1)
          | (go_at_call 124; refine (hM _ (by first | exact okW | exact okW.drew)).mono ?_; rintro e u2 ⟨rfl, g2⟩; replace g2 : Below u1.heap.size u1 u2 := ⟨g2.os, g2.tape, g2.output, g2.size, g2.block⟩; replace l0 := sO g2 l0; replace l1 := sO g2 l1; replace l2 := sO g2 l2; replace l3 := sO g2 l3; replace l4 := sO g2 l4; replace l5 := sO g2 l5; replace l6 := sO g2 l6; replace l7 := sO g2 l7; replace l8 := sO g2 l8; replace l9 := sO g2 l9; replace l10 := sO g2 l10; replace a0 := sO g2 a0; replace a1 := sO g2 a1; replace a2 := sO g2 a2; replace b0 := sO g2 b0; replace b1 := sO g2 b1; replace b2 := sO g2 b2; replace r0 := sO g2 r0; replace r1 := sO g2 r1; replace r2 := sO g2 r2; replace okW := ok_call hB okW g2; replace bW := sp_call bW g2; replace fz : ∀ j, u2.frozen? ⟨w.heap.size + 1 + 1 + 1, j, none⟩ = false := fun j => (g2.frozen (p := ⟨w.heap.size + 1 + 1 + 1, j, none⟩) (by simp; omega)).trans (fz j); have z_u2 := g2.size; clear g2)
          | fail)
      all_goals go_wp2
      all_goals exact bodyPost_ret (v := .agg #[.bool me, .int .i64 mlo, .int .i64 mhi]) (by simp [results, Tryz.results218, go_sem, r0, r1, r2]) rfl ⟨by rw [HR.out], sp_set3 bW (by omega) _ _ _⟩
    · rw [if_neg q2] at HR
      by_cases q3 : A.ord c b = 0
      · rw [if_pos q3] at HR
        rw [q3] at h3
        have hA := below_i H c dc oc dl
        have hM := fun V ok => meet_i H e1 (belowP A L c).1 a b (belowP A L c).2.1 (belowP A L c).2.2 da db (below_dom (L := L) d0 dp dl).1 (below_dom (L := L) d0 dp dl).2 V ok
        unfold mVi at hM
        unfold sVi at hA
        rw [show (((belowP A L c).1, (belowP A L c).2.1, (belowP A L c).2.2) : Bool × Int × Int) = belowP A L c from rfl] at hM
        generalize meetP A (e1, a, b) (belowP A L c) = M at *
        obtain ⟨me, mlo, mhi⟩ := M
        generalize belowP A L c = N at *
        obtain ⟨ne, nlo, nhi⟩ := N
        dsimp only at hA hM HR
        replace HR : Hid _ := HR
        unfold lvi sVi at *
        clear H q1 q3
        generalize A.ord c a = o2 at *
        go_enter Tryz.func218, Tryz.ntmps218
        go_upto_region 1 with fail
        obtain ⟨W, hW⟩ : ∃ W, ((((w.alloc (.cells #[.int .i64 L.least, .int .i64 L.most, .int .i64 L.past, .func (.func L.ko) #[] L.co, .func (.func L.kp) #[] L.cp, .func (.func L.k1) #[] L.c1, .func (.func L.kv) #[] L.cv, .func (.func L.kn) #[] L.cn, .func (.func L.ku) #[] L.cu, .func (.func L.kt) #[] L.ct, .func (.func L.kz) #[] L.cz] 136)).alloc (.cells #[.bool e1, .int .i64 a, .int .i64 b] 139)).alloc (.cells #[.bool e2, .int .i64 c, .int .i64 d] 139)).alloc (.cells #[.bool false, .int .i64 0, .int .i64 0] 139)) = W := ⟨_, rfl⟩
        have l0 : W.cell? ⟨w.heap.size, 0, none⟩ = some (.int .i64 L.least) := by rw [← hW]; simp [go_sem]
        have l1 : W.cell? ⟨w.heap.size, 1, none⟩ = some (.int .i64 L.most) := by rw [← hW]; simp [go_sem]
        have l2 : W.cell? ⟨w.heap.size, 2, none⟩ = some (.int .i64 L.past) := by rw [← hW]; simp [go_sem]
        have l3 : W.cell? ⟨w.heap.size, 3, none⟩ = some (.func (.func L.ko) #[] L.co) := by rw [← hW]; simp [go_sem]
        have l4 : W.cell? ⟨w.heap.size, 4, none⟩ = some (.func (.func L.kp) #[] L.cp) := by rw [← hW]; simp [go_sem]
        have l5 : W.cell? ⟨w.heap.size, 5, none⟩ = some (.func (.func L.k1) #[] L.c1) := by rw [← hW]; simp [go_sem]
        have l6 : W.cell? ⟨w.heap.size, 6, none⟩ = some (.func (.func L.kv) #[] L.cv) := by rw [← hW]; simp [go_sem]
        have l7 : W.cell? ⟨w.heap.size, 7, none⟩ = some (.func (.func L.kn) #[] L.cn) := by rw [← hW]; simp [go_sem]
        have l8 : W.cell? ⟨w.heap.size, 8, none⟩ = some (.func (.func L.ku) #[] L.cu) := by rw [← hW]; simp [go_sem]
        have l9 : W.cell? ⟨w.heap.size, 9, none⟩ = some (.func (.func L.kt) #[] L.ct) := by rw [← hW]; simp [go_sem]
        have l10 : W.cell? ⟨w.heap.size, 10, none⟩ = some (.func (.func L.kz) #[] L.cz) := by rw [← hW]; simp [go_sem]
        have a0 : W.cell? ⟨w.heap.size + 1, 0, none⟩ = some (.bool e1) := by rw [← hW]; simp [go_sem]
        have a1 : W.cell? ⟨w.heap.size + 1, 1, none⟩ = some (.int .i64 a) := by rw [← hW]; simp [go_sem]
        have a2 : W.cell? ⟨w.heap.size + 1, 2, none⟩ = some (.int .i64 b) := by rw [← hW]; simp [go_sem]
        have b0 : W.cell? ⟨w.heap.size + 1 + 1, 0, none⟩ = some (.bool e2) := by rw [← hW]; simp [go_sem]
        have b1 : W.cell? ⟨w.heap.size + 1 + 1, 1, none⟩ = some (.int .i64 c) := by rw [← hW]; simp [go_sem]
        have b2 : W.cell? ⟨w.heap.size + 1 + 1, 2, none⟩ = some (.int .i64 d) := by rw [← hW]; simp [go_sem]
        have r0 : W.cell? ⟨w.heap.size + 1 + 1 + 1, 0, none⟩ = some (.bool false) := by rw [← hW]; simp [go_sem]
        have r1 : W.cell? ⟨w.heap.size + 1 + 1 + 1, 1, none⟩ = some (.int .i64 0) := by rw [← hW]; simp [go_sem]
        have r2 : W.cell? ⟨w.heap.size + 1 + 1 + 1, 2, none⟩ = some (.int .i64 0) := by rw [← hW]; simp [go_sem]
        have okW : Below B w0 W := by rw [← hW]; exact (ok_new hB (ok_new hB (ok_new hB (ok_new hB ok _) _) _) _)
        have bW : Below w.heap.size w W := by rw [← hW]; exact (sp_new (sp_new (sp_new (sp_new (Below.refl _ _) _) _) _) _)
        have zW : W.heap.size = w.heap.size + 4 := by rw [← hW]; simp
        have fz : ∀ j, W.frozen? ⟨w.heap.size + 1 + 1 + 1, j, none⟩ = false := by intro j; rw [← hW]; simp [go_sem]
        rw [hW]
        clear hW
        replace zW := Nat.le_of_eq zW.symm
        go_upto_region 7 with (first
          | (go_at_fn L.ko; with_reducible refine (h1 _ okW).mono ?_; rintro e v1 ⟨rfl, g⟩; replace l0 := sO g l0; replace l1 := sO g l1; replace l2 := sO g l2; replace l3 := sO g l3; replace l4 := sO g l4; replace l5 := sO g l5; replace l6 := sO g l6; replace l7 := sO g l7; replace l8 := sO g l8; replace l9 := sO g l9; replace l10 := sO g l10; replace a0 := sO g a0; replace a1 := sO g a1; replace a2 := sO g a2; replace b0 := sO g b0; replace b1 := sO g b1; replace b2 := sO g b2; replace r0 := sO g r0; replace r1 := sO g r1; replace r2 := sO g r2; replace okW := ok_call hB okW g; replace bW := sp_call bW g; replace fz : ∀ j, v1.frozen? ⟨w.heap.size + 1 + 1 + 1, j, none⟩ = false := fun j => (g.frozen (p := ⟨w.heap.size + 1 + 1 + 1, j, none⟩) (by simp; omega)).trans (fz j); have z_v1 := g.size; clear g; clear h1)
          | (go_at_fn L.ko; with_reducible refine (h2 _ okW).mono ?_; rintro e v2 ⟨rfl, g⟩; replace l0 := sO g l0; replace l1 := sO g l1; replace l2 := sO g l2; replace l3 := sO g l3; replace l4 := sO g l4; replace l5 := sO g l5; replace l6 := sO g l6; replace l7 := sO g l7; replace l8 := sO g l8; replace l9 := sO g l9; replace l10 := sO g l10; replace a0 := sO g a0; replace a1 := sO g a1; replace a2 := sO g a2; replace b0 := sO g b0; replace b1 := sO g b1; replace b2 := sO g b2; replace r0 := sO g r0; replace r1 := sO g r1; replace r2 := sO g r2; replace okW := ok_call hB okW g; replace bW := sp_call bW g; replace fz : ∀ j, v2.frozen? ⟨w.heap.size + 1 + 1 + 1, j, none⟩ = false := fun j => (g.frozen (p := ⟨w.heap.size + 1 + 1 + 1, j, none⟩) (by simp; omega)).trans (fz j); have z_v2 := g.size; clear g; clear h2)
          | (go_at_fn L.ko; with_reducible refine (h3 _ okW).mono ?_; rintro e v3 ⟨rfl, g⟩; replace l0 := sO g l0; replace l1 := sO g l1; replace l2 := sO g l2; replace l3 := sO g l3; replace l4 := sO g l4; replace l5 := sO g l5; replace l6 := sO g l6; replace l7 := sO g l7; replace l8 := sO g l8; replace l9 := sO g l9; replace l10 := sO g l10; replace a0 := sO g a0; replace a1 := sO g a1; replace a2 := sO g a2; replace b0 := sO g b0; replace b1 := sO g b1; replace b2 := sO g b2; replace r0 := sO g r0; replace r1 := sO g r1; replace r2 := sO g r2; replace okW := ok_call hB okW g; replace bW := sp_call bW g; replace fz : ∀ j, v3.frozen? ⟨w.heap.size + 1 + 1 + 1, j, none⟩ = false := fun j => (g.frozen (p := ⟨w.heap.size + 1 + 1 + 1, j, none⟩) (by simp; omega)).trans (fz j); have z_v3 := g.size; clear g; clear h3)
          | fail)
        go_region_held3 (fun w' => w'.cell? ⟨w.heap.size, 0, none⟩ = some (.int .i64 L.least) ∧ w'.cell? ⟨w.heap.size, 1, none⟩ = some (.int .i64 L.most) ∧ w'.cell? ⟨w.heap.size, 2, none⟩ = some (.int .i64 L.past) ∧ w'.cell? ⟨w.heap.size, 3, none⟩ = some (.func (.func L.ko) #[] L.co) ∧ w'.cell? ⟨w.heap.size, 4, none⟩ = some (.func (.func L.kp) #[] L.cp) ∧ w'.cell? ⟨w.heap.size, 5, none⟩ = some (.func (.func L.k1) #[] L.c1) ∧ w'.cell? ⟨w.heap.size, 6, none⟩ = some (.func (.func L.kv) #[] L.cv) ∧ w'.cell? ⟨w.heap.size, 7, none⟩ = some (.func (.func L.kn) #[] L.cn) ∧ w'.cell? ⟨w.heap.size, 8, none⟩ = some (.func (.func L.ku) #[] L.cu) ∧ w'.cell? ⟨w.heap.size, 9, none⟩ = some (.func (.func L.kt) #[] L.ct) ∧ w'.cell? ⟨w.heap.size, 10, none⟩ = some (.func (.func L.kz) #[] L.cz) ∧ w'.cell? ⟨w.heap.size + 1, 0, none⟩ = some (.bool e1) ∧ w'.cell? ⟨w.heap.size + 1, 1, none⟩ = some (.int .i64 a) ∧ w'.cell? ⟨w.heap.size + 1, 2, none⟩ = some (.int .i64 b)) (first | exact ⟨l0, l1, l2, l3, l4, l5, l6, l7, l8, l9, l10, a0, a1, a2⟩ | exact ⟨sp_keep3 l0 (by omega) _ _ _, sp_keep3 l1 (by omega) _ _ _, sp_keep3 l2 (by omega) _ _ _, sp_keep3 l3 (by omega) _ _ _, sp_keep3 l4 (by omega) _ _ _, sp_keep3 l5 (by omega) _ _ _, sp_keep3 l6 (by omega) _ _ _, sp_keep3 l7 (by omega) _ _ _, sp_keep3 l8 (by omega) _ _ _, sp_keep3 l9 (by omega) _ _ _, sp_keep3 l10 (by omega) _ _ _, sp_keep3 a0 (by omega) _ _ _, sp_keep3 a1 (by omega) _ _ _, sp_keep3 a2 (by omega) _ _ _⟩)
          (first
            | (go_at_call 213; refine (hA _ (by first | exact okW | exact okW.drew)).mono ?_; rintro e u1 ⟨rfl, g1⟩; replace g1 : Below v3.heap.size v3 u1 := ⟨g1.os, g1.tape, g1.output, g1.size, g1.block⟩; replace l0 := sO g1 l0; replace l1 := sO g1 l1; replace l2 := sO g1 l2; replace l3 := sO g1 l3; replace l4 := sO g1 l4; replace l5 := sO g1 l5; replace l6 := sO g1 l6; replace l7 := sO g1 l7; replace l8 := sO g1 l8; replace l9 := sO g1 l9; replace l10 := sO g1 l10; replace a0 := sO g1 a0; replace a1 := sO g1 a1; replace a2 := sO g1 a2; replace b0 := sO g1 b0; replace b1 := sO g1 b1; replace b2 := sO g1 b2; replace r0 := sO g1 r0; replace r1 := sO g1 r1; replace r2 := sO g1 r2; replace okW := ok_call hB okW g1; replace bW := sp_call bW g1; replace fz : ∀ j, u1.frozen? ⟨w.heap.size + 1 + 1 + 1, j, none⟩ = false := fun j => (g1.frozen (p := ⟨w.heap.size + 1 + 1 + 1, j, none⟩) (by simp; omega)).trans (fz j); have z_u1 := g1.size; clear g1)
            | (go_at_call 124; refine (hM _ (by first | exact okW | exact okW.drew)).mono ?_; rintro e u2 ⟨rfl, g2⟩; replace g2 : Below u1.heap.size u1 u2 := ⟨g2.os, g2.tape, g2.output, g2.size, g2.block⟩; replace l0 := sO g2 l0; replace l1 := sO g2 l1; replace l2 := sO g2 l2; replace l3 := sO g2 l3; replace l4 := sO g2 l4; replace l5 := sO g2 l5; replace l6 := sO g2 l6; replace l7 := sO g2 l7; replace l8 := sO g2 l8; replace l9 := sO g2 l9; replace l10 := sO g2 l10; replace a0 := sO g2 a0; replace a1 := sO g2 a1; replace a2 := sO g2 a2; replace b0 := sO g2 b0; replace b1 := sO g2 b1; replace b2 := sO g2 b2; replace r0 := sO g2 r0; replace r1 := sO g2 r1; replace r2 := sO g2 r2; replace okW := ok_call hB okW g2; replace bW := sp_call bW g2; replace fz : ∀ j, u2.frozen? ⟨w.heap.size + 1 + 1 + 1, j, none⟩ = false := fun j => (g2.frozen (p := ⟨w.heap.size + 1 + 1 + 1, j, none⟩) (by simp; omega)).trans (fz j); have z_u2 := g2.size; clear g2)
            | fail)
        all_goals go_wp2
        all_goals exact bodyPost_ret (v := .agg #[.bool me, .int .i64 mlo, .int .i64 mhi]) (by simp [results, Tryz.results218, go_sem, r0, r1, r2]) rfl ⟨by rw [HR.out], sp_set3 bW (by omega) _ _ _⟩
      · rw [if_neg q3] at HR
        replace HR : Hid _ := HR
        unfold lvi sVi at *
        clear H q1
        generalize A.ord c a = o2 at *
        generalize A.ord c b = o3 at *
        go_enter Tryz.func218, Tryz.ntmps218
        go_upto_region 1 with fail
        obtain ⟨W, hW⟩ : ∃ W, ((((w.alloc (.cells #[.int .i64 L.least, .int .i64 L.most, .int .i64 L.past, .func (.func L.ko) #[] L.co, .func (.func L.kp) #[] L.cp, .func (.func L.k1) #[] L.c1, .func (.func L.kv) #[] L.cv, .func (.func L.kn) #[] L.cn, .func (.func L.ku) #[] L.cu, .func (.func L.kt) #[] L.ct, .func (.func L.kz) #[] L.cz] 136)).alloc (.cells #[.bool e1, .int .i64 a, .int .i64 b] 139)).alloc (.cells #[.bool e2, .int .i64 c, .int .i64 d] 139)).alloc (.cells #[.bool false, .int .i64 0, .int .i64 0] 139)) = W := ⟨_, rfl⟩
        have l0 : W.cell? ⟨w.heap.size, 0, none⟩ = some (.int .i64 L.least) := by rw [← hW]; simp [go_sem]
        have l1 : W.cell? ⟨w.heap.size, 1, none⟩ = some (.int .i64 L.most) := by rw [← hW]; simp [go_sem]
        have l2 : W.cell? ⟨w.heap.size, 2, none⟩ = some (.int .i64 L.past) := by rw [← hW]; simp [go_sem]
        have l3 : W.cell? ⟨w.heap.size, 3, none⟩ = some (.func (.func L.ko) #[] L.co) := by rw [← hW]; simp [go_sem]
        have l4 : W.cell? ⟨w.heap.size, 4, none⟩ = some (.func (.func L.kp) #[] L.cp) := by rw [← hW]; simp [go_sem]
        have l5 : W.cell? ⟨w.heap.size, 5, none⟩ = some (.func (.func L.k1) #[] L.c1) := by rw [← hW]; simp [go_sem]
        have l6 : W.cell? ⟨w.heap.size, 6, none⟩ = some (.func (.func L.kv) #[] L.cv) := by rw [← hW]; simp [go_sem]
        have l7 : W.cell? ⟨w.heap.size, 7, none⟩ = some (.func (.func L.kn) #[] L.cn) := by rw [← hW]; simp [go_sem]
        have l8 : W.cell? ⟨w.heap.size, 8, none⟩ = some (.func (.func L.ku) #[] L.cu) := by rw [← hW]; simp [go_sem]
        have l9 : W.cell? ⟨w.heap.size, 9, none⟩ = some (.func (.func L.kt) #[] L.ct) := by rw [← hW]; simp [go_sem]
        have l10 : W.cell? ⟨w.heap.size, 10, none⟩ = some (.func (.func L.kz) #[] L.cz) := by rw [← hW]; simp [go_sem]
        have a0 : W.cell? ⟨w.heap.size + 1, 0, none⟩ = some (.bool e1) := by rw [← hW]; simp [go_sem]
        have a1 : W.cell? ⟨w.heap.size + 1, 1, none⟩ = some (.int .i64 a) := by rw [← hW]; simp [go_sem]
        have a2 : W.cell? ⟨w.heap.size + 1, 2, none⟩ = some (.int .i64 b) := by rw [← hW]; simp [go_sem]
        have b0 : W.cell? ⟨w.heap.size + 1 + 1, 0, none⟩ = some (.bool e2) := by rw [← hW]; simp [go_sem]
        have b1 : W.cell? ⟨w.heap.size + 1 + 1, 1, none⟩ = some (.int .i64 c) := by rw [← hW]; simp [go_sem]
        have b2 : W.cell? ⟨w.heap.size + 1 + 1, 2, none⟩ = some (.int .i64 d) := by rw [← hW]; simp [go_sem]
        have r0 : W.cell? ⟨w.heap.size + 1 + 1 + 1, 0, none⟩ = some (.bool false) := by rw [← hW]; simp [go_sem]
        have r1 : W.cell? ⟨w.heap.size + 1 + 1 + 1, 1, none⟩ = some (.int .i64 0) := by rw [← hW]; simp [go_sem]
        have r2 : W.cell? ⟨w.heap.size + 1 + 1 + 1, 2, none⟩ = some (.int .i64 0) := by rw [← hW]; simp [go_sem]
        have okW : Below B w0 W := by rw [← hW]; exact (ok_new hB (ok_new hB (ok_new hB (ok_new hB ok _) _) _) _)
        have bW : Below w.heap.size w W := by rw [← hW]; exact (sp_new (sp_new (sp_new (sp_new (Below.refl _ _) _) _) _) _)
        have zW : W.heap.size = w.heap.size + 4 := by rw [← hW]; simp
        have fz : ∀ j, W.frozen? ⟨w.heap.size + 1 + 1 + 1, j, none⟩ = false := by intro j; rw [← hW]; simp [go_sem]
        rw [hW]
        clear hW
        replace zW := Nat.le_of_eq zW.symm
        go_wp2_with (first
          | (go_at_fn L.ko; with_reducible refine (h1 _ okW).mono ?_; rintro e v1 ⟨rfl, g⟩; replace l0 := sO g l0; replace l1 := sO g l1; replace l2 := sO g l2; replace l3 := sO g l3; replace l4 := sO g l4; replace l5 := sO g l5; replace l6 := sO g l6; replace l7 := sO g l7; replace l8 := sO g l8; replace l9 := sO g l9; replace l10 := sO g l10; replace a0 := sO g a0; replace a1 := sO g a1; replace a2 := sO g a2; replace b0 := sO g b0; replace b1 := sO g b1; replace b2 := sO g b2; replace r0 := sO g r0; replace r1 := sO g r1; replace r2 := sO g r2; replace okW := ok_call hB okW g; replace bW := sp_call bW g; replace fz : ∀ j, v1.frozen? ⟨w.heap.size + 1 + 1 + 1, j, none⟩ = false := fun j => (g.frozen (p := ⟨w.heap.size + 1 + 1 + 1, j, none⟩) (by simp; omega)).trans (fz j); have z_v1 := g.size; clear g; clear h1)
          | (go_at_fn L.ko; with_reducible refine (h2 _ okW).mono ?_; rintro e v2 ⟨rfl, g⟩; replace l0 := sO g l0; replace l1 := sO g l1; replace l2 := sO g l2; replace l3 := sO g l3; replace l4 := sO g l4; replace l5 := sO g l5; replace l6 := sO g l6; replace l7 := sO g l7; replace l8 := sO g l8; replace l9 := sO g l9; replace l10 := sO g l10; replace a0 := sO g a0; replace a1 := sO g a1; replace a2 := sO g a2; replace b0 := sO g b0; replace b1 := sO g b1; replace b2 := sO g b2; replace r0 := sO g r0; replace r1 := sO g r1; replace r2 := sO g r2; replace okW := ok_call hB okW g; replace bW := sp_call bW g; replace fz : ∀ j, v2.frozen? ⟨w.heap.size + 1 + 1 + 1, j, none⟩ = false := fun j => (g.frozen (p := ⟨w.heap.size + 1 + 1 + 1, j, none⟩) (by simp; omega)).trans (fz j); have z_v2 := g.size; clear g; clear h2)
          | (go_at_fn L.ko; with_reducible refine (h3 _ okW).mono ?_; rintro e v3 ⟨rfl, g⟩; replace l0 := sO g l0; replace l1 := sO g l1; replace l2 := sO g l2; replace l3 := sO g l3; replace l4 := sO g l4; replace l5 := sO g l5; replace l6 := sO g l6; replace l7 := sO g l7; replace l8 := sO g l8; replace l9 := sO g l9; replace l10 := sO g l10; replace a0 := sO g a0; replace a1 := sO g a1; replace a2 := sO g a2; replace b0 := sO g b0; replace b1 := sO g b1; replace b2 := sO g b2; replace r0 := sO g r0; replace r1 := sO g r1; replace r2 := sO g r2; replace okW := ok_call hB okW g; replace bW := sp_call bW g; replace fz : ∀ j, v3.frozen? ⟨w.heap.size + 1 + 1 + 1, j, none⟩ = false := fun j => (g.frozen (p := ⟨w.heap.size + 1 + 1 + 1, j, none⟩) (by simp; omega)).trans (fz j); have z_v3 := g.size; clear g; clear h3)
          | fail)
        exact bodyPost_ret (v := .agg #[.bool e1, .int .i64 a, .int .i64 b]) (by simp [results, Tryz.results218, go_sem, r0, r1, r2, *]) rfl ⟨by rw [HR.out], sp_set3 bW (by omega) _ _ _⟩
  · rw [if_pos (by simpa using q1)] at HR
    replace HR : Hid _ := HR
    unfold lvi sVi at *
    clear H h2 h3
    generalize A.ord c d = o1 at *
    go_enter Tryz.func218, Tryz.ntmps218
    go_upto_region 1 with fail
    obtain ⟨W, hW⟩ : ∃ W, ((((w.alloc (.cells #[.int .i64 L.least, .int .i64 L.most, .int .i64 L.past, .func (.func L.ko) #[] L.co, .func (.func L.kp) #[] L.cp, .func (.func L.k1) #[] L.c1, .func (.func L.kv) #[] L.cv, .func (.func L.kn) #[] L.cn, .func (.func L.ku) #[] L.cu, .func (.func L.kt) #[] L.ct, .func (.func L.kz) #[] L.cz] 136)).alloc (.cells #[.bool e1, .int .i64 a, .int .i64 b] 139)).alloc (.cells #[.bool e2, .int .i64 c, .int .i64 d] 139)).alloc (.cells #[.bool false, .int .i64 0, .int .i64 0] 139)) = W := ⟨_, rfl⟩
    have l0 : W.cell? ⟨w.heap.size, 0, none⟩ = some (.int .i64 L.least) := by rw [← hW]; simp [go_sem]
    have l1 : W.cell? ⟨w.heap.size, 1, none⟩ = some (.int .i64 L.most) := by rw [← hW]; simp [go_sem]
    have l2 : W.cell? ⟨w.heap.size, 2, none⟩ = some (.int .i64 L.past) := by rw [← hW]; simp [go_sem]
    have l3 : W.cell? ⟨w.heap.size, 3, none⟩ = some (.func (.func L.ko) #[] L.co) := by rw [← hW]; simp [go_sem]
    have l4 : W.cell? ⟨w.heap.size, 4, none⟩ = some (.func (.func L.kp) #[] L.cp) := by rw [← hW]; simp [go_sem]
    have l5 : W.cell? ⟨w.heap.size, 5, none⟩ = some (.func (.func L.k1) #[] L.c1) := by rw [← hW]; simp [go_sem]
    have l6 : W.cell? ⟨w.heap.size, 6, none⟩ = some (.func (.func L.kv) #[] L.cv) := by rw [← hW]; simp [go_sem]
    have l7 : W.cell? ⟨w.heap.size, 7, none⟩ = some (.func (.func L.kn) #[] L.cn) := by rw [← hW]; simp [go_sem]
    have l8 : W.cell? ⟨w.heap.size, 8, none⟩ = some (.func (.func L.ku) #[] L.cu) := by rw [← hW]; simp [go_sem]
    have l9 : W.cell? ⟨w.heap.size, 9, none⟩ = some (.func (.func L.kt) #[] L.ct) := by rw [← hW]; simp [go_sem]
    have l10 : W.cell? ⟨w.heap.size, 10, none⟩ = some (.func (.func L.kz) #[] L.cz) := by rw [← hW]; simp [go_sem]
    have a0 : W.cell? ⟨w.heap.size + 1, 0, none⟩ = some (.bool e1) := by rw [← hW]; simp [go_sem]
    have a1 : W.cell? ⟨w.heap.size + 1, 1, none⟩ = some (.int .i64 a) := by rw [← hW]; simp [go_sem]
    have a2 : W.cell? ⟨w.heap.size + 1, 2, none⟩ = some (.int .i64 b) := by rw [← hW]; simp [go_sem]
    have b0 : W.cell? ⟨w.heap.size + 1 + 1, 0, none⟩ = some (.bool e2) := by rw [← hW]; simp [go_sem]
    have b1 : W.cell? ⟨w.heap.size + 1 + 1, 1, none⟩ = some (.int .i64 c) := by rw [← hW]; simp [go_sem]
    have b2 : W.cell? ⟨w.heap.size + 1 + 1, 2, none⟩ = some (.int .i64 d) := by rw [← hW]; simp [go_sem]
    have r0 : W.cell? ⟨w.heap.size + 1 + 1 + 1, 0, none⟩ = some (.bool false) := by rw [← hW]; simp [go_sem]
    have r1 : W.cell? ⟨w.heap.size + 1 + 1 + 1, 1, none⟩ = some (.int .i64 0) := by rw [← hW]; simp [go_sem]
    have r2 : W.cell? ⟨w.heap.size + 1 + 1 + 1, 2, none⟩ = some (.int .i64 0) := by rw [← hW]; simp [go_sem]
    have okW : Below B w0 W := by rw [← hW]; exact (ok_new hB (ok_new hB (ok_new hB (ok_new hB ok _) _) _) _)
    have bW : Below w.heap.size w W := by rw [← hW]; exact (sp_new (sp_new (sp_new (sp_new (Below.refl _ _) _) _) _) _)
    have zW : W.heap.size = w.heap.size + 4 := by rw [← hW]; simp
    have fz : ∀ j, W.frozen? ⟨w.heap.size + 1 + 1 + 1, j, none⟩ = false := by intro j; rw [← hW]; simp [go_sem]
    rw [hW]
    clear hW
    replace zW := Nat.le_of_eq zW.symm
    go_wp2_with (first
      | (go_at_fn L.ko; with_reducible refine (h1 _ okW).mono ?_; rintro e v1 ⟨rfl, g⟩; replace l0 := sO g l0; replace l1 := sO g l1; replace l2 := sO g l2; replace l3 := sO g l3; replace l4 := sO g l4; replace l5 := sO g l5; replace l6 := sO g l6; replace l7 := sO g l7; replace l8 := sO g l8; replace l9 := sO g l9; replace l10 := sO g l10; replace a0 := sO g a0; replace a1 := sO g a1; replace a2 := sO g a2; replace b0 := sO g b0; replace b1 := sO g b1; replace b2 := sO g b2; replace r0 := sO g r0; replace r1 := sO g r1; replace r2 := sO g r2; replace okW := ok_call hB okW g; replace bW := sp_call bW g; replace fz : ∀ j, v1.frozen? ⟨w.heap.size + 1 + 1 + 1, j, none⟩ = false := fun j => (g.frozen (p := ⟨w.heap.size + 1 + 1 + 1, j, none⟩) (by simp; omega)).trans (fz j); have z_v1 := g.size; clear g; clear h1)
      | fail)
    exact bodyPost_ret (v := .agg #[.bool e1, .int .i64 a, .int .i64 b]) (by simp [results, Tryz.results218, go_sem, r0, r1, r2, *]) rfl ⟨by rw [HR.out], sp_set3 bW (by omega) _ _ _⟩
end Go.Proofs.YthjoigkckgdcaaaGreat

