/- Texts of the proof, put together. -/
import Derived.Test.YtgdknlnpfnifiaaGreatTG3
import Derived.Test.YtgdknlnpfnifiaaGreatTRgEi
namespace Go.Proofs.YtgdknlnpfnifiaaGreat
open Go.RowKit
set_option linter.unusedVariables false
set_option linter.unusedSimpArgs false
def lvi (L : Ln) : Array Value := #[.int .i64 L.least, .int .i64 L.most, .int .i64 L.past, .func (.func L.ko) #[] L.co, .func (.func L.kp) #[] L.cp, .func (.func L.k1) #[] L.c1, .func (.func L.kv) #[] L.cv, .func (.func L.kn) #[] L.cn, .func (.func L.ku) #[] L.cu, .func (.func L.kt) #[] L.ct, .func (.func L.kz) #[] L.cz]
structure Actsi (L : Ln) (A : Ways) (B : Nat) (w0 : World) : Prop where
  hB : B ≤ w0.heap.size
  ord : ∀ x y V, A.dom x → A.dom y → Below B w0 V → Calls Tryz.prog L.ko (#[.int .i64 x, .int .i64 y] ++ L.co) V fun e V' => e = .returned (.int .i64 (A.ord x y)) ∧ Below V.heap.size V V'
  pl : ∀ x V, A.dom x → Below B w0 V → Calls Tryz.prog L.kp (#[.int .i64 x] ++ L.cp) V fun e V' => e = .returned (.int .i64 (A.pl x)) ∧ Below V.heap.size V V'
  one : ∀ x V, A.dom x → Below B w0 V → Calls Tryz.prog L.k1 (#[.int .i64 x] ++ L.c1) V fun e V' => e = .returned (.bool (A.one x)) ∧ Below V.heap.size V V'
  prv : ∀ x V, A.dom x → A.one x = true → Below B w0 V → Calls Tryz.prog L.kv (#[.int .i64 x] ++ L.cv) V fun e V' => e = .returned (.int .i64 (A.prv x)) ∧ Below V.heap.size V V'
  nxt : ∀ x V, A.dom x → A.one x = true → Below B w0 V → Calls Tryz.prog L.kn (#[.int .i64 x] ++ L.cn) V fun e V' => e = .returned (.int .i64 (A.nxt x)) ∧ Below V.heap.size V V'
  eo : ∀ args w, (callFunc L.ko args).run Tryz.prog w = .ok (.enter L.ko args) w
  ep : ∀ args w, (callFunc L.kp args).run Tryz.prog w = .ok (.enter L.kp args) w
  e1 : ∀ args w, (callFunc L.k1 args).run Tryz.prog w = .ok (.enter L.k1 args) w
  ev : ∀ args w, (callFunc L.kv args).run Tryz.prog w = .ok (.enter L.kv args) w
  en : ∀ args w, (callFunc L.kn args).run Tryz.prog w = .ok (.enter L.kn args) w
set_option maxRecDepth 100000 in
set_option maxHeartbeats 1600000 in
theorem greater_i {L : Ln} {A : Ways} {B : Nat} {w0 : World} (H : Actsi L A B w0) (x y : Int) (dx : A.dom x) (dy : A.dom y) (w : World) (ok : Below B w0 w) :
    Calls Tryz.prog 191 #[.agg (lvi L), .int .i64 x, .int .i64 y] w fun e w' => e = .returned (.int .i64 (if 0 < A.ord y x then y else x)) ∧ Below w.heap.size w w' := by
  have ho := H.ord y x (w.alloc (.cells (lvi L) 93)) dy dx (ok_new H.hB ok _)
  have eo := H.eo
  unfold lvi at *
  by_cases c : 0 < A.ord y x
  all_goals
    generalize A.ord y x = c0 at *
    simp only [c, if_true, if_false]
    go_enter Tryz.func191, Tryz.ntmps191
    go_wp2_with (go_at_fn L.ko; refine ho.mono ?_; rintro e w1 ⟨rfl, b1⟩)
    go_ret
    exact ⟨rfl, sp_call (sp_new (Below.refl _ _) _) b1⟩
set_option maxRecDepth 100000 in
set_option maxHeartbeats 1600000 in
theorem smaller_i {L : Ln} {A : Ways} {B : Nat} {w0 : World} (H : Actsi L A B w0) (x y : Int) (dx : A.dom x) (dy : A.dom y) (w : World) (ok : Below B w0 w) :
    Calls Tryz.prog 190 #[.agg (lvi L), .int .i64 x, .int .i64 y] w fun e w' => e = .returned (.int .i64 (if A.ord y x < 0 then y else x)) ∧ Below w.heap.size w w' := by
  have ho := H.ord y x (w.alloc (.cells (lvi L) 93)) dy dx (ok_new H.hB ok _)
  have eo := H.eo
  unfold lvi at *
  by_cases c : A.ord y x < 0
  all_goals
    generalize A.ord y x = c0 at *
    simp only [c, if_true, if_false]
    go_enter Tryz.func190, Tryz.ntmps190
    go_wp2_with (go_at_fn L.ko; refine ho.mono ?_; rintro e w1 ⟨rfl, b1⟩)
    go_ret
    exact ⟨rfl, sp_call (sp_new (Below.refl _ _) _) b1⟩
end Go.Proofs.YtgdknlnpfnifiaaGreat

namespace Go.Proofs.YtgdknlnpfnifiaaGreat
open Go.RowKit
set_option linter.unusedVariables false
set_option linter.unusedSimpArgs false
set_option maxRecDepth 100000 in
set_option maxHeartbeats 800000 in
theorem none_i (w : World) : Calls Tryz.prog 126 #[] w fun e w' => e = .returned (.agg #[.bool true, .int .i64 0, .int .i64 0]) ∧ Below w.heap.size w w' := by
  go_enter Tryz.func126, Tryz.ntmps126
  go_wp2_with fail
  refine bodyPost_ret (v := .agg #[.bool true, .int .i64 0, .int .i64 0]) (by simp [results, Tryz.results126, go_sem]) rfl ?_
  exact ⟨rfl, sp_new (Below.refl _ _) _⟩
set_option maxRecDepth 100000 in
set_option maxHeartbeats 1600000 in
theorem all_i (L : Ln) (w : World) : Calls Tryz.prog 129 #[.agg (lvi L)] w fun e w' => e = .returned (.agg #[.bool false, .int .i64 L.least, .int .i64 L.most]) ∧ Below w.heap.size w w' := by
  unfold lvi
  go_enter Tryz.func129, Tryz.ntmps129
  go_wp2_with fail
  refine bodyPost_ret (v := .agg #[.bool false, .int .i64 L.least, .int .i64 L.most]) (by simp [results, Tryz.results129, go_sem]) rfl ?_
  exact ⟨rfl, sp_new (sp_new (Below.refl _ _) _) _⟩
def mVi (A : Ways) (p q : Bool × Int × Int) : Array Value := #[.bool (meetP A p q).1, .int .i64 (meetP A p q).2.1, .int .i64 (meetP A p q).2.2]
set_option maxRecDepth 100000 in
set_option maxHeartbeats 3200000 in
theorem meet_i {L : Ln} {A : Ways} {B : Nat} {w0 : World} (H : Actsi L A B w0) (e1 e2 : Bool) (a b c d : Int) (da : A.dom a) (db : A.dom b) (dc : A.dom c) (dd : A.dom d) (w : World) (ok : Below B w0 w) :
    Calls Tryz.prog 128 #[.agg (lvi L), .agg #[.bool e1, .int .i64 a, .int .i64 b], .agg #[.bool e2, .int .i64 c, .int .i64 d]] w fun e w' => e = .returned (.agg (mVi A (e1, a, b) (e2, c, d))) ∧ Below w.heap.size w w' := by
  have h1 := greater_i H a c da dc
  have h2 := smaller_i H b d db dd
  have h3 := none_i
  have hB := H.hB
  have eo := H.eo
  have ho := fun V => H.ord (grt A a c) (sml A b d) V (grt_dom da dc) (sml_dom db dd)
  obtain ⟨R, HR⟩ : ∃ R, Hid (R = mVi A (e1, a, b) (e2, c, d)) := ⟨_, rfl⟩
  rw [← HR.out]
  replace HR := HR.out
  unfold mVi meetP at HR
  have e1' : (if 0 < A.ord c a then c else a) = grt A a c := rfl
  have e2' : (if A.ord d b < 0 then d else b) = sml A b d := rfl
  rw [e1'] at h1
  rw [e2'] at h2
  clear e1' e2' H
  simp only at HR
  generalize grt A a c = lo at *
  generalize sml A b d = hi at *
  generalize A.ord lo hi = o at *
  replace HR : Hid _ := HR
  unfold lvi at *
  go_enter Tryz.func128, Tryz.ntmps128
  go_wp2_with fail
  obtain ⟨W, hW⟩ : ∃ W, (((w.alloc (.cells #[.int .i64 L.least, .int .i64 L.most, .int .i64 L.past, .func (.func L.ko) #[] L.co, .func (.func L.kp) #[] L.cp, .func (.func L.k1) #[] L.c1, .func (.func L.kv) #[] L.cv, .func (.func L.kn) #[] L.cn, .func (.func L.ku) #[] L.cu, .func (.func L.kt) #[] L.ct, .func (.func L.kz) #[] L.cz] 93)).alloc (.cells #[.bool e1, .int .i64 a, .int .i64 b] 96)).alloc (.cells #[.bool e2, .int .i64 c, .int .i64 d] 96)).alloc (.cells #[.bool false, .int .i64 0, .int .i64 0] 96) = W := ⟨_, rfl⟩
  have l0 : W.cell? ⟨w.heap.size, 0, none⟩ = some (.int .i64 L.least) := by rw [← hW]; simp [go_sem]
  have l1 : W.cell? ⟨w.heap.size, 1, none⟩ = some (.int .i64 L.most) := by rw [← hW]; simp [go_sem]
  have l2 : W.cell? ⟨w.heap.size, 2, none⟩ = some (.int .i64 L.past) := by rw [← hW]; simp [go_sem]
  have l3 : W.cell? ⟨w.heap.size, 3, none⟩ = some (.func (.func L.ko) #[] L.co) := by rw [← hW]; simp [go_sem]
  have l4 : W.cell? ⟨w.heap.size, 4, none⟩ = some (.func (.func L.kp) #[] L.cp) := by rw [← hW]; simp [go_sem]
  have l5 : W.cell? ⟨w.heap.size, 5, none⟩ = some (.func (.func L.k1) #[] L.c1) := by rw [← hW]; simp [go_sem]
  have l6 : W.cell? ⟨w.heap.size, 6, none⟩ = some (.func (.func L.kv) #[] L.cv) := by rw [← hW]; simp [go_sem]
  have l7 : W.cell? ⟨w.heap.size, 7, none⟩ = some (.func (.func L.kn) #[] L.cn) := by rw [← hW]; simp [go_sem]
  have l8 : W.cell? ⟨w.heap.size, 8, none⟩ = some (.func (.func L.ku) #[] L.cu) := by rw [← hW]; simp [go_sem]
  have l9 : W.cell? ⟨w.heap.size, 9, none⟩ = some (.func (.func L.kt) #[] L.ct) := by rw [← hW]; simp [go_sem]
  have l10 : W.cell? ⟨w.heap.size, 10, none⟩ = some (.func (.func L.kz) #[] L.cz) := by rw [← hW]; simp [go_sem]
  have a0 : W.cell? ⟨w.heap.size + 1, 0, none⟩ = some (.bool e1) := by rw [← hW]; simp [go_sem]
  have a1 : W.cell? ⟨w.heap.size + 1, 1, none⟩ = some (.int .i64 a) := by rw [← hW]; simp [go_sem]
  have a2 : W.cell? ⟨w.heap.size + 1, 2, none⟩ = some (.int .i64 b) := by rw [← hW]; simp [go_sem]
  have b0 : W.cell? ⟨w.heap.size + 1 + 1, 0, none⟩ = some (.bool e2) := by rw [← hW]; simp [go_sem]
  have b1 : W.cell? ⟨w.heap.size + 1 + 1, 1, none⟩ = some (.int .i64 c) := by rw [← hW]; simp [go_sem]
  have b2 : W.cell? ⟨w.heap.size + 1 + 1, 2, none⟩ = some (.int .i64 d) := by rw [← hW]; simp [go_sem]
  have okW : Below B w0 W := by rw [← hW]; exact ok_new hB (ok_new hB (ok_new hB (ok_new hB ok _) _) _) _
  have bW : Below w.heap.size w W := by rw [← hW]; exact sp_new (sp_new (sp_new (sp_new (Below.refl _ _) _) _) _) _
  have zW : W.heap.size = w.heap.size + 4 := by rw [← hW]; simp
  have r0 : W.cell? ⟨w.heap.size + 1 + 1 + 1, 0, none⟩ = some (.bool false) := by rw [← hW]; simp [go_sem]
  have r1 : W.cell? ⟨w.heap.size + 1 + 1 + 1, 1, none⟩ = some (.int .i64 0) := by rw [← hW]; simp [go_sem]
  have r2 : W.cell? ⟨w.heap.size + 1 + 1 + 1, 2, none⟩ = some (.int .i64 0) := by rw [← hW]; simp [go_sem]
  have fz : ∀ j, W.frozen? ⟨w.heap.size + 1 + 1 + 1, j, none⟩ = false := by intro j; rw [← hW]; simp [go_sem]
  rw [hW]
  clear hW
  go_region_held3 (fun w' => w'.cell? ⟨w.heap.size, 0, none⟩ = some (.int .i64 L.least) ∧ w'.cell? ⟨w.heap.size, 1, none⟩ = some (.int .i64 L.most) ∧ w'.cell? ⟨w.heap.size, 2, none⟩ = some (.int .i64 L.past) ∧ w'.cell? ⟨w.heap.size, 3, none⟩ = some (.func (.func L.ko) #[] L.co) ∧ w'.cell? ⟨w.heap.size, 4, none⟩ = some (.func (.func L.kp) #[] L.cp) ∧ w'.cell? ⟨w.heap.size, 5, none⟩ = some (.func (.func L.k1) #[] L.c1) ∧ w'.cell? ⟨w.heap.size, 6, none⟩ = some (.func (.func L.kv) #[] L.cv) ∧ w'.cell? ⟨w.heap.size, 7, none⟩ = some (.func (.func L.kn) #[] L.cn) ∧ w'.cell? ⟨w.heap.size, 8, none⟩ = some (.func (.func L.ku) #[] L.cu) ∧ w'.cell? ⟨w.heap.size, 9, none⟩ = some (.func (.func L.kt) #[] L.ct) ∧ w'.cell? ⟨w.heap.size, 10, none⟩ = some (.func (.func L.kz) #[] L.cz) ∧ w'.cell? ⟨w.heap.size + 1, 0, none⟩ = some (.bool e1) ∧ w'.cell? ⟨w.heap.size + 1, 1, none⟩ = some (.int .i64 a) ∧ w'.cell? ⟨w.heap.size + 1, 2, none⟩ = some (.int .i64 b) ∧ w'.cell? ⟨w.heap.size + 1 + 1, 0, none⟩ = some (.bool e2) ∧ w'.cell? ⟨w.heap.size + 1 + 1, 1, none⟩ = some (.int .i64 c) ∧ w'.cell? ⟨w.heap.size + 1 + 1, 2, none⟩ = some (.int .i64 d)) (exact ⟨l0, l1, l2, l3, l4, l5, l6, l7, l8, l9, l10, a0, a1, a2, b0, b1, b2⟩)
    (first
      | (go_at_call 191; refine (h1 _ (by first | exact okW | exact okW.drew)).mono ?_; rintro e w1 ⟨rfl, g1⟩; replace g1 : Below W.heap.size W w1 := ⟨g1.os, g1.tape, g1.output, g1.size, g1.block⟩; replace l0 := sO g1 l0; replace l1 := sO g1 l1; replace l2 := sO g1 l2; replace l3 := sO g1 l3; replace l4 := sO g1 l4; replace l5 := sO g1 l5; replace l6 := sO g1 l6; replace l7 := sO g1 l7; replace l8 := sO g1 l8; replace l9 := sO g1 l9; replace l10 := sO g1 l10; replace a0 := sO g1 a0; replace a1 := sO g1 a1; replace a2 := sO g1 a2; replace b0 := sO g1 b0; replace b1 := sO g1 b1; replace b2 := sO g1 b2; replace okW := ok_call hB okW g1)
      | (go_at_call 190; refine (h2 _ (by first | exact okW | exact okW.drew)).mono ?_; rintro e w2 ⟨rfl, g2⟩; replace g2 : Below w1.heap.size w1 w2 := ⟨g2.os, g2.tape, g2.output, g2.size, g2.block⟩; replace l0 := sO g2 l0; replace l1 := sO g2 l1; replace l2 := sO g2 l2; replace l3 := sO g2 l3; replace l4 := sO g2 l4; replace l5 := sO g2 l5; replace l6 := sO g2 l6; replace l7 := sO g2 l7; replace l8 := sO g2 l8; replace l9 := sO g2 l9; replace l10 := sO g2 l10; replace a0 := sO g2 a0; replace a1 := sO g2 a1; replace a2 := sO g2 a2; replace b0 := sO g2 b0; replace b1 := sO g2 b1; replace b2 := sO g2 b2; replace okW := ok_call hB okW g2)
      | fail)
  have g : Below W.heap.size W w2 := sp_call g1 g2
  replace bW := sp_call bW g
  replace r0 := sO g r0; replace r1 := sO g r1; replace r2 := sO g r2
  replace fz : ∀ j, w2.frozen? ⟨w.heap.size + 1 + 1 + 1, j, none⟩ = false := fun j => (g.frozen (p := ⟨w.heap.size + 1 + 1 + 1, j, none⟩) (by simp; omega)).trans (fz j)
  have z2 := g.size
  clear g g1 g2 h1 h2
  cases e1
  · cases e2
    · by_cases c0 : 0 < o
      · go_wp2_with (first
      | (go_at_fn L.ko; refine (ho _ okW).mono ?_; rintro e w3 ⟨rfl, g3⟩; replace l0 := sO g3 l0; replace l3 := sO g3 l3; replace a0 := sO g3 a0; replace a1 := sO g3 a1; replace a2 := sO g3 a2; replace b0 := sO g3 b0; replace b1 := sO g3 b1; replace b2 := sO g3 b2; replace r0 := sO g3 r0; replace r1 := sO g3 r1; replace r2 := sO g3 r2; replace bW := sp_call bW g3; replace fz : ∀ j, w3.frozen? ⟨w.heap.size + 1 + 1 + 1, j, none⟩ = false := fun j => (g3.frozen (p := ⟨w.heap.size + 1 + 1 + 1, j, none⟩) (by simp; omega)).trans (fz j); have z3 := g3.size; clear g3)
      | (go_at_call 126; refine (h3 _).mono ?_; rintro e w4 ⟨rfl, g4⟩; replace r0 := sO g4 r0; replace r1 := sO g4 r1; replace r2 := sO g4 r2; replace bW := sp_call bW g4; replace fz : ∀ j, w4.frozen? ⟨w.heap.size + 1 + 1 + 1, j, none⟩ = false := fun j => (g4.frozen (p := ⟨w.heap.size + 1 + 1 + 1, j, none⟩) (by simp; omega)).trans (fz j))
      | fail)
        exact bodyPost_ret (v := .agg #[.bool true, .int .i64 0, .int .i64 0]) (by simp [results, Tryz.results128, go_sem, r0, r1, r2]) rfl ⟨by rw [HR.out]; simp [*], sp_set3 bW (by omega) _ _ _⟩
      · go_wp2_with (first
      | (go_at_fn L.ko; refine (ho _ okW).mono ?_; rintro e w3 ⟨rfl, g3⟩; replace l0 := sO g3 l0; replace l3 := sO g3 l3; replace a0 := sO g3 a0; replace a1 := sO g3 a1; replace a2 := sO g3 a2; replace b0 := sO g3 b0; replace b1 := sO g3 b1; replace b2 := sO g3 b2; replace r0 := sO g3 r0; replace r1 := sO g3 r1; replace r2 := sO g3 r2; replace bW := sp_call bW g3; replace fz : ∀ j, w3.frozen? ⟨w.heap.size + 1 + 1 + 1, j, none⟩ = false := fun j => (g3.frozen (p := ⟨w.heap.size + 1 + 1 + 1, j, none⟩) (by simp; omega)).trans (fz j); have z3 := g3.size; clear g3)
      | (go_at_call 126; refine (h3 _).mono ?_; rintro e w4 ⟨rfl, g4⟩; replace r0 := sO g4 r0; replace r1 := sO g4 r1; replace r2 := sO g4 r2; replace bW := sp_call bW g4; replace fz : ∀ j, w4.frozen? ⟨w.heap.size + 1 + 1 + 1, j, none⟩ = false := fun j => (g4.frozen (p := ⟨w.heap.size + 1 + 1 + 1, j, none⟩) (by simp; omega)).trans (fz j))
      | fail)
        exact bodyPost_ret (v := .agg #[.bool false, .int .i64 lo, .int .i64 hi]) (by simp [results, Tryz.results128, go_sem, r0, r1, r2]) rfl ⟨by rw [HR.out]; simp [show ¬ 0 < o by omega], sp_set3 bW (by omega) _ _ _⟩
    · go_wp2_with (first
      | (go_at_fn L.ko; refine (ho _ okW).mono ?_; rintro e w3 ⟨rfl, g3⟩; replace l0 := sO g3 l0; replace l3 := sO g3 l3; replace a0 := sO g3 a0; replace a1 := sO g3 a1; replace a2 := sO g3 a2; replace b0 := sO g3 b0; replace b1 := sO g3 b1; replace b2 := sO g3 b2; replace r0 := sO g3 r0; replace r1 := sO g3 r1; replace r2 := sO g3 r2; replace bW := sp_call bW g3; replace fz : ∀ j, w3.frozen? ⟨w.heap.size + 1 + 1 + 1, j, none⟩ = false := fun j => (g3.frozen (p := ⟨w.heap.size + 1 + 1 + 1, j, none⟩) (by simp; omega)).trans (fz j); have z3 := g3.size; clear g3)
      | (go_at_call 126; refine (h3 _).mono ?_; rintro e w4 ⟨rfl, g4⟩; replace r0 := sO g4 r0; replace r1 := sO g4 r1; replace r2 := sO g4 r2; replace bW := sp_call bW g4; replace fz : ∀ j, w4.frozen? ⟨w.heap.size + 1 + 1 + 1, j, none⟩ = false := fun j => (g4.frozen (p := ⟨w.heap.size + 1 + 1 + 1, j, none⟩) (by simp; omega)).trans (fz j))
      | fail)
      exact bodyPost_ret (v := .agg #[.bool true, .int .i64 0, .int .i64 0]) (by simp [results, Tryz.results128, go_sem, r0, r1, r2]) rfl ⟨by rw [HR.out]; simp [*], sp_set3 bW (by omega) _ _ _⟩
  · go_wp2_with (first
      | (go_at_fn L.ko; refine (ho _ okW).mono ?_; rintro e w3 ⟨rfl, g3⟩; replace l0 := sO g3 l0; replace l3 := sO g3 l3; replace a0 := sO g3 a0; replace a1 := sO g3 a1; replace a2 := sO g3 a2; replace b0 := sO g3 b0; replace b1 := sO g3 b1; replace b2 := sO g3 b2; replace r0 := sO g3 r0; replace r1 := sO g3 r1; replace r2 := sO g3 r2; replace bW := sp_call bW g3; replace fz : ∀ j, w3.frozen? ⟨w.heap.size + 1 + 1 + 1, j, none⟩ = false := fun j => (g3.frozen (p := ⟨w.heap.size + 1 + 1 + 1, j, none⟩) (by simp; omega)).trans (fz j); have z3 := g3.size; clear g3)
      | (go_at_call 126; refine (h3 _).mono ?_; rintro e w4 ⟨rfl, g4⟩; replace r0 := sO g4 r0; replace r1 := sO g4 r1; replace r2 := sO g4 r2; replace bW := sp_call bW g4; replace fz : ∀ j, w4.frozen? ⟨w.heap.size + 1 + 1 + 1, j, none⟩ = false := fun j => (g4.frozen (p := ⟨w.heap.size + 1 + 1 + 1, j, none⟩) (by simp; omega)).trans (fz j))
      | fail)
    exact bodyPost_ret (v := .agg #[.bool true, .int .i64 0, .int .i64 0]) (by simp [results, Tryz.results128, go_sem, r0, r1, r2]) rfl ⟨by rw [HR.out]; simp [*], sp_set3 bW (by omega) _ _ _⟩
end Go.Proofs.YtgdknlnpfnifiaaGreat

namespace Go.Proofs.YtgdknlnpfnifiaaGreat
open Go.RowKit
set_option linter.unusedVariables false
set_option linter.unusedSimpArgs false
set_option maxRecDepth 100000 in
set_option maxHeartbeats 3200000 in
theorem join_i {L : Ln} {A : Ways} {B : Nat} {w0 : World} (H : Actsi L A B w0) (e1 e2 : Bool) (a b c d : Int) (da : A.dom a) (db : A.dom b) (dc : A.dom c) (dd : A.dom d) (w : World) (ok : Below B w0 w) :
    Calls Tryz.prog 127 #[.agg (lvi L), .agg #[.bool e1, .int .i64 a, .int .i64 b], .agg #[.bool e2, .int .i64 c, .int .i64 d]] w fun e w' => e = .returned (sVi (joinP A (e1, a, b) (e2, c, d))) ∧ Below w.heap.size w w' := by
  have h1 : ∀ V, Below B w0 V → Calls Tryz.prog 190 #[.agg (lvi L), .int .i64 a, .int .i64 c] V fun e w' => e = .returned (.int .i64 (sml A a c)) ∧ Below V.heap.size V w' := smaller_i H a c da dc
  have h2 : ∀ V, Below B w0 V → Calls Tryz.prog 191 #[.agg (lvi L), .int .i64 b, .int .i64 d] V fun e w' => e = .returned (.int .i64 (grt A b d)) ∧ Below V.heap.size V w' := greater_i H b d db dd
  have hB := H.hB
  obtain ⟨R, HR⟩ : ∃ R, Hid (R = sVi (joinP A (e1, a, b) (e2, c, d))) := ⟨_, rfl⟩
  rw [← HR.out]
  replace HR := HR.out
  unfold sVi joinP at HR
  simp only at HR
  clear H
  generalize sml A a c = lo at *
  generalize grt A b d = hi at *
  replace HR : Hid _ := HR
  unfold lvi at *
  cases e1
  · cases e2
    · go_enter Tryz.func127, Tryz.ntmps127
      go_wp2_with fail
      obtain ⟨W, hW⟩ : ∃ W, ((((w.alloc (.cells #[.int .i64 L.least, .int .i64 L.most, .int .i64 L.past, .func (.func L.ko) #[] L.co, .func (.func L.kp) #[] L.cp, .func (.func L.k1) #[] L.c1, .func (.func L.kv) #[] L.cv, .func (.func L.kn) #[] L.cn, .func (.func L.ku) #[] L.cu, .func (.func L.kt) #[] L.ct, .func (.func L.kz) #[] L.cz] 93)).alloc (.cells #[.bool false, .int .i64 a, .int .i64 b] 96)).alloc (.cells #[.bool false, .int .i64 c, .int .i64 d] 96)).alloc (.cells #[.bool false, .int .i64 0, .int .i64 0] 96)) = W := ⟨_, rfl⟩
      have l0 : W.cell? ⟨w.heap.size, 0, none⟩ = some (.int .i64 L.least) := by rw [← hW]; simp [go_sem]
      have l1 : W.cell? ⟨w.heap.size, 1, none⟩ = some (.int .i64 L.most) := by rw [← hW]; simp [go_sem]
      have l2 : W.cell? ⟨w.heap.size, 2, none⟩ = some (.int .i64 L.past) := by rw [← hW]; simp [go_sem]
      have l3 : W.cell? ⟨w.heap.size, 3, none⟩ = some (.func (.func L.ko) #[] L.co) := by rw [← hW]; simp [go_sem]
      have l4 : W.cell? ⟨w.heap.size, 4, none⟩ = some (.func (.func L.kp) #[] L.cp) := by rw [← hW]; simp [go_sem]
      have l5 : W.cell? ⟨w.heap.size, 5, none⟩ = some (.func (.func L.k1) #[] L.c1) := by rw [← hW]; simp [go_sem]
      have l6 : W.cell? ⟨w.heap.size, 6, none⟩ = some (.func (.func L.kv) #[] L.cv) := by rw [← hW]; simp [go_sem]
      have l7 : W.cell? ⟨w.heap.size, 7, none⟩ = some (.func (.func L.kn) #[] L.cn) := by rw [← hW]; simp [go_sem]
      have l8 : W.cell? ⟨w.heap.size, 8, none⟩ = some (.func (.func L.ku) #[] L.cu) := by rw [← hW]; simp [go_sem]
      have l9 : W.cell? ⟨w.heap.size, 9, none⟩ = some (.func (.func L.kt) #[] L.ct) := by rw [← hW]; simp [go_sem]
      have l10 : W.cell? ⟨w.heap.size, 10, none⟩ = some (.func (.func L.kz) #[] L.cz) := by rw [← hW]; simp [go_sem]
      have a0 : W.cell? ⟨w.heap.size + 1, 0, none⟩ = some (.bool false) := by rw [← hW]; simp [go_sem]
      have a1 : W.cell? ⟨w.heap.size + 1, 1, none⟩ = some (.int .i64 a) := by rw [← hW]; simp [go_sem]
      have a2 : W.cell? ⟨w.heap.size + 1, 2, none⟩ = some (.int .i64 b) := by rw [← hW]; simp [go_sem]
      have b0 : W.cell? ⟨w.heap.size + 1 + 1, 0, none⟩ = some (.bool false) := by rw [← hW]; simp [go_sem]
      have b1 : W.cell? ⟨w.heap.size + 1 + 1, 1, none⟩ = some (.int .i64 c) := by rw [← hW]; simp [go_sem]
      have b2 : W.cell? ⟨w.heap.size + 1 + 1, 2, none⟩ = some (.int .i64 d) := by rw [← hW]; simp [go_sem]
      have r0 : W.cell? ⟨w.heap.size + 1 + 1 + 1, 0, none⟩ = some (.bool false) := by rw [← hW]; simp [go_sem]
      have r1 : W.cell? ⟨w.heap.size + 1 + 1 + 1, 1, none⟩ = some (.int .i64 0) := by rw [← hW]; simp [go_sem]
      have r2 : W.cell? ⟨w.heap.size + 1 + 1 + 1, 2, none⟩ = some (.int .i64 0) := by rw [← hW]; simp [go_sem]
      have okW : Below B w0 W := by rw [← hW]; exact (ok_new hB (ok_new hB (ok_new hB (ok_new hB ok _) _) _) _)
      have bW : Below w.heap.size w W := by rw [← hW]; exact (sp_new (sp_new (sp_new (sp_new (Below.refl _ _) _) _) _) _)
      have zW : W.heap.size = w.heap.size + 4 := by rw [← hW]; simp
      have fz : ∀ j, W.frozen? ⟨w.heap.size + 1 + 1 + 1, j, none⟩ = false := by intro j; rw [← hW]; simp [go_sem]
      rw [hW]
      clear hW
      go_region_held3 (fun w' => w'.cell? ⟨w.heap.size, 0, none⟩ = some (.int .i64 L.least) ∧ w'.cell? ⟨w.heap.size, 1, none⟩ = some (.int .i64 L.most) ∧ w'.cell? ⟨w.heap.size, 2, none⟩ = some (.int .i64 L.past) ∧ w'.cell? ⟨w.heap.size, 3, none⟩ = some (.func (.func L.ko) #[] L.co) ∧ w'.cell? ⟨w.heap.size, 4, none⟩ = some (.func (.func L.kp) #[] L.cp) ∧ w'.cell? ⟨w.heap.size, 5, none⟩ = some (.func (.func L.k1) #[] L.c1) ∧ w'.cell? ⟨w.heap.size, 6, none⟩ = some (.func (.func L.kv) #[] L.cv) ∧ w'.cell? ⟨w.heap.size, 7, none⟩ = some (.func (.func L.kn) #[] L.cn) ∧ w'.cell? ⟨w.heap.size, 8, none⟩ = some (.func (.func L.ku) #[] L.cu) ∧ w'.cell? ⟨w.heap.size, 9, none⟩ = some (.func (.func L.kt) #[] L.ct) ∧ w'.cell? ⟨w.heap.size, 10, none⟩ = some (.func (.func L.kz) #[] L.cz) ∧ w'.cell? ⟨w.heap.size + 1, 0, none⟩ = some (.bool false) ∧ w'.cell? ⟨w.heap.size + 1, 1, none⟩ = some (.int .i64 a) ∧ w'.cell? ⟨w.heap.size + 1, 2, none⟩ = some (.int .i64 b) ∧ w'.cell? ⟨w.heap.size + 1 + 1, 0, none⟩ = some (.bool false) ∧ w'.cell? ⟨w.heap.size + 1 + 1, 1, none⟩ = some (.int .i64 c) ∧ w'.cell? ⟨w.heap.size + 1 + 1, 2, none⟩ = some (.int .i64 d)) (first | exact ⟨l0, l1, l2, l3, l4, l5, l6, l7, l8, l9, l10, a0, a1, a2, b0, b1, b2⟩ | exact ⟨sp_keep3 l0 (by omega) _ _ _, sp_keep3 l1 (by omega) _ _ _, sp_keep3 l2 (by omega) _ _ _, sp_keep3 l3 (by omega) _ _ _, sp_keep3 l4 (by omega) _ _ _, sp_keep3 l5 (by omega) _ _ _, sp_keep3 l6 (by omega) _ _ _, sp_keep3 l7 (by omega) _ _ _, sp_keep3 l8 (by omega) _ _ _, sp_keep3 l9 (by omega) _ _ _, sp_keep3 l10 (by omega) _ _ _, sp_keep3 a0 (by omega) _ _ _, sp_keep3 a1 (by omega) _ _ _, sp_keep3 a2 (by omega) _ _ _, sp_keep3 b0 (by omega) _ _ _, sp_keep3 b1 (by omega) _ _ _, sp_keep3 b2 (by omega) _ _ _⟩)
        (first
          | (go_at_call 190; refine (h1 _ (by first | exact okW | exact okW.drew)).mono ?_; rintro e w1 ⟨rfl, g1⟩; replace g1 : Below W.heap.size W w1 := ⟨g1.os, g1.tape, g1.output, g1.size, g1.block⟩; replace l0 := sO g1 l0; replace l1 := sO g1 l1; replace l2 := sO g1 l2; replace l3 := sO g1 l3; replace l4 := sO g1 l4; replace l5 := sO g1 l5; replace l6 := sO g1 l6; replace l7 := sO g1 l7; replace l8 := sO g1 l8; replace l9 := sO g1 l9; replace l10 := sO g1 l10; replace a0 := sO g1 a0; replace a1 := sO g1 a1; replace a2 := sO g1 a2; replace b0 := sO g1 b0; replace b1 := sO g1 b1; replace b2 := sO g1 b2; replace r0 := sO g1 r0; replace r1 := sO g1 r1; replace r2 := sO g1 r2; replace okW := ok_call hB okW g1; replace bW := sp_call bW g1; replace fz : ∀ j, w1.frozen? ⟨w.heap.size + 1 + 1 + 1, j, none⟩ = false := fun j => (g1.frozen (p := ⟨w.heap.size + 1 + 1 + 1, j, none⟩) (by simp; omega)).trans (fz j); have z1 := g1.size)
          | (go_at_call 191; refine (h2 _ (by first | exact okW | exact okW.drew)).mono ?_; rintro e w2 ⟨rfl, g2⟩; replace g2 : Below w1.heap.size w1 w2 := ⟨g2.os, g2.tape, g2.output, g2.size, g2.block⟩; replace l0 := sO g2 l0; replace l1 := sO g2 l1; replace l2 := sO g2 l2; replace l3 := sO g2 l3; replace l4 := sO g2 l4; replace l5 := sO g2 l5; replace l6 := sO g2 l6; replace l7 := sO g2 l7; replace l8 := sO g2 l8; replace l9 := sO g2 l9; replace l10 := sO g2 l10; replace a0 := sO g2 a0; replace a1 := sO g2 a1; replace a2 := sO g2 a2; replace b0 := sO g2 b0; replace b1 := sO g2 b1; replace b2 := sO g2 b2; replace r0 := sO g2 r0; replace r1 := sO g2 r1; replace r2 := sO g2 r2; replace okW := ok_call hB okW g2; replace bW := sp_call bW g2; replace fz : ∀ j, w2.frozen? ⟨w.heap.size + 1 + 1 + 1, j, none⟩ = false := fun j => (g2.frozen (p := ⟨w.heap.size + 1 + 1 + 1, j, none⟩) (by simp; omega)).trans (fz j); have z2 := g2.size)
          | fail)
      go_wp2
      exact bodyPost_ret (v := .agg #[.bool false, .int .i64 lo, .int .i64 hi]) (by simp [results, Tryz.results127, go_sem, r0, r1, r2]) rfl ⟨by rw [HR.out]; simp, sp_set3 bW (by omega) _ _ _⟩
    · go_enter Tryz.func127, Tryz.ntmps127
      go_wp2_with fail
      exact bodyPost_ret (v := .agg #[.bool false, .int .i64 a, .int .i64 b]) (by simp [results, Tryz.results127, go_sem]) rfl ⟨by rw [HR.out]; simp, (sp_new (sp_new (sp_new (sp_new (Below.refl _ _) _) _) _) _)⟩
  · go_enter Tryz.func127, Tryz.ntmps127
    go_wp2_with fail
    exact bodyPost_ret (v := .agg #[.bool e2, .int .i64 c, .int .i64 d]) (by simp [results, Tryz.results127, go_sem]) rfl ⟨by rw [HR.out]; simp, (sp_new (sp_new (sp_new (sp_new (Below.refl _ _) _) _) _) _)⟩
end Go.Proofs.YtgdknlnpfnifiaaGreat

