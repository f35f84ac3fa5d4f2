/- Texts of the proof, put together. -/
import Derived.Test.YtgdknlnpfnifiaaGreatTSpFl
import Derived.Test.YtgdknlnpfnifiaaGreatTG5
namespace Go.Proofs.YtgdknlnpfnifiaaGreat
open Go.RowKit
set_option linter.unusedVariables false
set_option linter.unusedSimpArgs false
def FlAt (f : Int) (L : Ln) (B : Nat) (w0 : World) : Prop := ∃ p q, L = LnF (f == 1) p q ∧ B ≤ w0.heap.size ∧ p < B ∧ q < B ∧ w0.cell? ⟨p, 0, none⟩ = some (.int .i64 f) ∧ LineAt w0 q L
theorem floats_at (f : Int) (w : World) : Calls Tryz.prog 24 #[.int .i64 f] w fun e w' => ∃ L, e = .returned (.agg (lvf L)) ∧ FlAt f L w'.heap.size w' ∧ Below w.heap.size w w' := by
  refine (floats_any f w).mono ?_
  rintro e w' ⟨q, rfl, h1, h2, h3, h4, h5, h6⟩
  exact ⟨_, rfl, ⟨w.heap.size, q, rfl, Nat.le_refl _, h4, h5, h1, h2⟩, h6⟩
theorem fl_acts {f : Int} {L : Ln} {B : Nat} {w0 : World} (h : FlAt f L B w0) : Actsf L (WyF (f == 1)) B w0 := by
  obtain ⟨p, q, rfl, h1, h2, h3, h4, h5⟩ := h
  exact acts_f f p q B w0 h1 h2 h4
theorem fl_least {f : Int} {L : Ln} {B : Nat} {w0 : World} (h : FlAt f L B w0) : L.least = negF (f == 1) (fI (f == 1) - 1) ∧ L.most = fI (f == 1) - 1 ∧ L.past = 2 := by
  obtain ⟨p, q, rfl, _⟩ := h
  exact ⟨rfl, rfl, rfl⟩
set_option maxRecDepth 100000 in
set_option maxHeartbeats 6400000 in
theorem ofFloats_any (e1 : Bool) (a b : Int) (w : World) : Calls Tryz.prog 26 #[.agg #[.bool e1, .int .u64 a, .int .u64 b]] w fun e w' => e = .returned (.agg #[.bool e1, .int .u64 a, .int .u64 b]) ∧ Below w.heap.size w w' := by
  go_enter Tryz.func26, Tryz.ntmps26
  go_wp2_with fail
  exact bodyPost_ret (v := .agg #[.bool e1, .int .u64 a, .int .u64 b]) (by simp [results, Tryz.results26, go_sem]) rfl ⟨rfl, sp_new (sp_new (Below.refl _ _) _) _⟩
set_option maxRecDepth 100000 in
set_option maxHeartbeats 6400000 in
theorem floatRange_any (e1 : Bool) (a b : Int) (w : World) : Calls Tryz.prog 27 #[.agg #[.bool e1, .int .u64 a, .int .u64 b]] w fun e w' => e = .returned (.agg #[.bool e1, .int .u64 a, .int .u64 b]) ∧ Below w.heap.size w w' := by
  go_enter Tryz.func27, Tryz.ntmps27
  go_wp2_with fail
  exact bodyPost_ret (v := .agg #[.bool e1, .int .u64 a, .int .u64 b]) (by simp [results, Tryz.results27, go_sem]) rfl ⟨rfl, sp_new (sp_new (Below.refl _ _) _) _⟩
set_option maxRecDepth 100000 in
set_option maxHeartbeats 6400000 in
theorem right_of (f : Int) (e1 : Bool) (a b : Int) (r : Bool) (h : ∀ L B w0, FlAt f L B w0 → ∀ V, Below B w0 V → Calls Tryz.prog 66 #[.agg (lvf L), .agg #[.bool e1, .int .u64 a, .int .u64 b]] V fun e w' => e = .returned (.bool r) ∧ Below V.heap.size V w') (w : World) :
    Calls Tryz.prog 22 #[.int .i64 f, .agg #[.bool e1, .int .u64 a, .int .u64 b]] w fun e w' => e = .returned (.bool r) ∧ Below w.heap.size w w' := by
  have h1 := floats_at f
  have ho1 := ofFloats_any
  have ho2 := ofFloats_any
  go_enter Tryz.func22, Tryz.ntmps22
  go_wp2_with fail
  obtain ⟨W, hW⟩ : ∃ W, (w.alloc (.cells #[.bool e1, .int .u64 a, .int .u64 b] 26)) = W := ⟨_, rfl⟩
  have a0 : W.cell? ⟨w.heap.size, 0, none⟩ = some (.bool e1) := by rw [← hW]; simp [go_sem]
  have a1 : W.cell? ⟨w.heap.size, 1, none⟩ = some (.int .u64 a) := by rw [← hW]; simp [go_sem]
  have a2 : W.cell? ⟨w.heap.size, 2, none⟩ = some (.int .u64 b) := by rw [← hW]; simp [go_sem]
  have bW : Below w.heap.size w W := by rw [← hW]; exact (sp_new (Below.refl _ _) _)
  have zW : W.heap.size = w.heap.size + 1 := by rw [← hW]; simp
  rw [hW]
  clear hW
  go_region_held3 (fun w' => w'.cell? ⟨w.heap.size, 0, none⟩ = some (.bool e1) ∧ w'.cell? ⟨w.heap.size, 1, none⟩ = some (.int .u64 a) ∧ w'.cell? ⟨w.heap.size, 2, none⟩ = some (.int .u64 b)) (exact ⟨a0, a1, a2⟩)
    (first
      | (go_at_call 24; refine (h1 _).mono ?_; rintro e v1 ⟨L, rfl, hL, g⟩; replace g : Below W.heap.size W v1 := ⟨g.os, g.tape, g.output, g.size, g.block⟩; replace bW := sp_call bW g; replace a0 := sO g a0; replace a1 := sO g a1; replace a2 := sO g a2; have oL : Below v1.heap.size v1 v1 := Below.refl _ _; clear g)
      | (go_at_call 26; refine (ho1 _ _ _ _).mono ?_; rintro e v2 ⟨rfl, g⟩; replace g : Below v1.heap.size v1 v2 := ⟨g.os, g.tape, g.output, g.size, g.block⟩; replace bW := sp_call bW g; replace a0 := sO g a0; replace a1 := sO g a1; replace a2 := sO g a2; replace oL := sp_call oL g; clear g; clear ho1)
      | (go_at_call 66; refine (h L _ _ hL _ (by first | exact oL | exact oL.drew)).mono ?_; rintro e v9 ⟨rfl, g⟩; replace g : Below v2.heap.size v2 v9 := ⟨g.os, g.tape, g.output, g.size, g.block⟩; replace bW := sp_call bW g; replace a0 := sO g a0; replace a1 := sO g a1; replace a2 := sO g a2; clear g)
      | fail)
  all_goals go_wp2
  all_goals go_ret
  all_goals exact ⟨rfl, bW⟩
set_option maxRecDepth 100000 in
set_option maxHeartbeats 6400000 in
theorem top_of (f : Int)  (me : Bool) (mlo mhi : Int) (h : ∀ L B w0, FlAt f L B w0 → ∀ V, Below B w0 V → Calls Tryz.prog 67 #[.agg (lvf L)] V fun e w' => e = .returned (.agg #[.bool me, .int .u64 mlo, .int .u64 mhi]) ∧ Below V.heap.size V w') (w : World) :
    Calls Tryz.prog 23 #[.int .i64 f] w fun e w' => e = .returned (.agg #[.bool me, .int .u64 mlo, .int .u64 mhi]) ∧ Below w.heap.size w w' := by
  have h1 := floats_at f
  have h5 := floatRange_any me mlo mhi
  go_enter Tryz.func23, Tryz.ntmps23
  go_wp2_with fail
  obtain ⟨W, hW⟩ : ∃ W, w.alloc (.cells #[.bool false, .int .u64 0, .int .u64 0] 26) = W := ⟨_, rfl⟩
  have r0 : W.cell? ⟨w.heap.size, 0, none⟩ = some (.bool false) := by rw [← hW]; simp [go_sem]
  have r1 : W.cell? ⟨w.heap.size, 1, none⟩ = some (.int .u64 0) := by rw [← hW]; simp [go_sem]
  have r2 : W.cell? ⟨w.heap.size, 2, none⟩ = some (.int .u64 0) := by rw [← hW]; simp [go_sem]
  have fz : ∀ j, W.frozen? ⟨w.heap.size, j, none⟩ = false := by intro j; rw [← hW]; simp [go_sem]
  have bW : Below w.heap.size w W := by rw [← hW]; exact sp_new (Below.refl _ _) _
  have zW : w.heap.size < W.heap.size := by rw [← hW]; simp
  rw [hW]
  clear hW
  refine (h1 _).mono ?_
  rintro e v1 ⟨L, rfl, hL, g1⟩
  go_wp2_with fail
  refine (h L _ _ hL _ (Below.refl _ _)).mono ?_
  rintro e v2 ⟨rfl, g2⟩
  go_wp2_with fail
  refine (h5 _).mono ?_
  rintro e v3 ⟨rfl, g3⟩
  have g := sp_call (sp_call g1 g2) g3
  replace fz := fun j => (g.frozen (p := ⟨w.heap.size, j, none⟩) zW).trans (fz j)
  replace bW := sp_call bW g
  replace r0 := sO g r0; replace r1 := sO g r1; replace r2 := sO g r2
  go_wp2_with fail
  exact bodyPost_ret (v := .agg #[.bool me, .int .u64 mlo, .int .u64 mhi]) (by simp [results, Tryz.results23, go_sem, r0, r1, r2]) rfl ⟨rfl, sp_set3 bW (by omega) _ _ _⟩
theorem top_any (f : Int) (w : World) : Calls Tryz.prog 23 #[.int .i64 f] w fun e w' => e = .returned (.agg #[.bool false, .int .u64 (negF (f == 1) (fI (f == 1) - 1)), .int .u64 (fI (f == 1) - 1)]) ∧ Below w.heap.size w w' :=
  top_of f false _ _ (fun L B w0 hL V _ => by
    have e := fl_least hL
    rw [← e.1, ← e.2.1]
    exact all_f L V) w
theorem right_any (f : Int) (e1 : Bool) (a b : Int) (ha : Word a) (hb : Word b) (w : World) : Calls Tryz.prog 22 #[.int .i64 f, .agg #[.bool e1, .int .u64 a, .int .u64 b]] w fun e w' => e = .returned (.bool (rightP (WyF (f == 1)) (e1, a, b))) ∧ Below w.heap.size w w' :=
  right_of f e1 a b _ (fun L B w0 hL V ok => right_f (fl_acts hL) e1 a b ha hb V ok) w
end Go.Proofs.YtgdknlnpfnifiaaGreat


namespace Go.Proofs.YtgdknlnpfnifiaaGreat
open Go.RowKit
set_option linter.unusedVariables false
set_option linter.unusedSimpArgs false
set_option maxRecDepth 100000 in
set_option maxHeartbeats 3200000 in
theorem join_f {L : Ln} {A : Ways} {B : Nat} {w0 : World} (H : Actsf L A B w0) (e1 e2 : Bool) (a b c d : Int) (da : A.dom a) (db : A.dom b) (dc : A.dom c) (dd : A.dom d) (w : World) (ok : Below B w0 w) :
    Calls Tryz.prog 108 #[.agg (lvf L), .agg #[.bool e1, .int .u64 a, .int .u64 b], .agg #[.bool e2, .int .u64 c, .int .u64 d]] w fun e w' => e = .returned (sVf (joinP A (e1, a, b) (e2, c, d))) ∧ Below w.heap.size w w' := by
  have h1 : ∀ V, Below B w0 V → Calls Tryz.prog 168 #[.agg (lvf L), .int .u64 a, .int .u64 c] V fun e w' => e = .returned (.int .u64 (sml A a c)) ∧ Below V.heap.size V w' := smaller_f H a c da dc
  have h2 : ∀ V, Below B w0 V → Calls Tryz.prog 167 #[.agg (lvf L), .int .u64 b, .int .u64 d] V fun e w' => e = .returned (.int .u64 (grt A b d)) ∧ Below V.heap.size V w' := greater_f H b d db dd
  have hB := H.hB
  obtain ⟨R, HR⟩ : ∃ R, Hid (R = sVf (joinP A (e1, a, b) (e2, c, d))) := ⟨_, rfl⟩
  rw [← HR.out]
  replace HR := HR.out
  unfold sVf joinP at HR
  simp only at HR
  clear H
  generalize sml A a c = lo at *
  generalize grt A b d = hi at *
  replace HR : Hid _ := HR
  unfold lvf at *
  cases e1
  · cases e2
    · go_enter Tryz.func108, Tryz.ntmps108
      go_wp2_with fail
      obtain ⟨W, hW⟩ : ∃ W, ((((w.alloc (.cells #[.int .u64 L.least, .int .u64 L.most, .int .i64 L.past, .func (.func L.ko) #[] L.co, .func (.func L.kp) #[] L.cp, .func (.func L.k1) #[] L.c1, .func (.func L.kv) #[] L.cv, .func (.func L.kn) #[] L.cn, .func (.func L.ku) #[] L.cu, .func (.func L.kt) #[] L.ct, .func (.func L.kz) #[] L.cz] 59)).alloc (.cells #[.bool false, .int .u64 a, .int .u64 b] 50)).alloc (.cells #[.bool false, .int .u64 c, .int .u64 d] 50)).alloc (.cells #[.bool false, .int .u64 0, .int .u64 0] 50)) = W := ⟨_, rfl⟩
      have l0 : W.cell? ⟨w.heap.size, 0, none⟩ = some (.int .u64 L.least) := by rw [← hW]; simp [go_sem]
      have l1 : W.cell? ⟨w.heap.size, 1, none⟩ = some (.int .u64 L.most) := by rw [← hW]; simp [go_sem]
      have l2 : W.cell? ⟨w.heap.size, 2, none⟩ = some (.int .i64 L.past) := by rw [← hW]; simp [go_sem]
      have l3 : W.cell? ⟨w.heap.size, 3, none⟩ = some (.func (.func L.ko) #[] L.co) := by rw [← hW]; simp [go_sem]
      have l4 : W.cell? ⟨w.heap.size, 4, none⟩ = some (.func (.func L.kp) #[] L.cp) := by rw [← hW]; simp [go_sem]
      have l5 : W.cell? ⟨w.heap.size, 5, none⟩ = some (.func (.func L.k1) #[] L.c1) := by rw [← hW]; simp [go_sem]
      have l6 : W.cell? ⟨w.heap.size, 6, none⟩ = some (.func (.func L.kv) #[] L.cv) := by rw [← hW]; simp [go_sem]
      have l7 : W.cell? ⟨w.heap.size, 7, none⟩ = some (.func (.func L.kn) #[] L.cn) := by rw [← hW]; simp [go_sem]
      have l8 : W.cell? ⟨w.heap.size, 8, none⟩ = some (.func (.func L.ku) #[] L.cu) := by rw [← hW]; simp [go_sem]
      have l9 : W.cell? ⟨w.heap.size, 9, none⟩ = some (.func (.func L.kt) #[] L.ct) := by rw [← hW]; simp [go_sem]
      have l10 : W.cell? ⟨w.heap.size, 10, none⟩ = some (.func (.func L.kz) #[] L.cz) := by rw [← hW]; simp [go_sem]
      have a0 : W.cell? ⟨w.heap.size + 1, 0, none⟩ = some (.bool false) := by rw [← hW]; simp [go_sem]
      have a1 : W.cell? ⟨w.heap.size + 1, 1, none⟩ = some (.int .u64 a) := by rw [← hW]; simp [go_sem]
      have a2 : W.cell? ⟨w.heap.size + 1, 2, none⟩ = some (.int .u64 b) := by rw [← hW]; simp [go_sem]
      have b0 : W.cell? ⟨w.heap.size + 1 + 1, 0, none⟩ = some (.bool false) := by rw [← hW]; simp [go_sem]
      have b1 : W.cell? ⟨w.heap.size + 1 + 1, 1, none⟩ = some (.int .u64 c) := by rw [← hW]; simp [go_sem]
      have b2 : W.cell? ⟨w.heap.size + 1 + 1, 2, none⟩ = some (.int .u64 d) := by rw [← hW]; simp [go_sem]
      have r0 : W.cell? ⟨w.heap.size + 1 + 1 + 1, 0, none⟩ = some (.bool false) := by rw [← hW]; simp [go_sem]
      have r1 : W.cell? ⟨w.heap.size + 1 + 1 + 1, 1, none⟩ = some (.int .u64 0) := by rw [← hW]; simp [go_sem]
      have r2 : W.cell? ⟨w.heap.size + 1 + 1 + 1, 2, none⟩ = some (.int .u64 0) := by rw [← hW]; simp [go_sem]
      have okW : Below B w0 W := by rw [← hW]; exact (ok_new hB (ok_new hB (ok_new hB (ok_new hB ok _) _) _) _)
      have bW : Below w.heap.size w W := by rw [← hW]; exact (sp_new (sp_new (sp_new (sp_new (Below.refl _ _) _) _) _) _)
      have zW : W.heap.size = w.heap.size + 4 := by rw [← hW]; simp
      have fz : ∀ j, W.frozen? ⟨w.heap.size + 1 + 1 + 1, j, none⟩ = false := by intro j; rw [← hW]; simp [go_sem]
      rw [hW]
      clear hW
      go_region_held3 (fun w' => w'.cell? ⟨w.heap.size, 0, none⟩ = some (.int .u64 L.least) ∧ w'.cell? ⟨w.heap.size, 1, none⟩ = some (.int .u64 L.most) ∧ w'.cell? ⟨w.heap.size, 2, none⟩ = some (.int .i64 L.past) ∧ w'.cell? ⟨w.heap.size, 3, none⟩ = some (.func (.func L.ko) #[] L.co) ∧ w'.cell? ⟨w.heap.size, 4, none⟩ = some (.func (.func L.kp) #[] L.cp) ∧ w'.cell? ⟨w.heap.size, 5, none⟩ = some (.func (.func L.k1) #[] L.c1) ∧ w'.cell? ⟨w.heap.size, 6, none⟩ = some (.func (.func L.kv) #[] L.cv) ∧ w'.cell? ⟨w.heap.size, 7, none⟩ = some (.func (.func L.kn) #[] L.cn) ∧ w'.cell? ⟨w.heap.size, 8, none⟩ = some (.func (.func L.ku) #[] L.cu) ∧ w'.cell? ⟨w.heap.size, 9, none⟩ = some (.func (.func L.kt) #[] L.ct) ∧ w'.cell? ⟨w.heap.size, 10, none⟩ = some (.func (.func L.kz) #[] L.cz) ∧ w'.cell? ⟨w.heap.size + 1, 0, none⟩ = some (.bool false) ∧ w'.cell? ⟨w.heap.size + 1, 1, none⟩ = some (.int .u64 a) ∧ w'.cell? ⟨w.heap.size + 1, 2, none⟩ = some (.int .u64 b) ∧ w'.cell? ⟨w.heap.size + 1 + 1, 0, none⟩ = some (.bool false) ∧ w'.cell? ⟨w.heap.size + 1 + 1, 1, none⟩ = some (.int .u64 c) ∧ w'.cell? ⟨w.heap.size + 1 + 1, 2, none⟩ = some (.int .u64 d)) (first | exact ⟨l0, l1, l2, l3, l4, l5, l6, l7, l8, l9, l10, a0, a1, a2, b0, b1, b2⟩ | exact ⟨sp_keep3 l0 (by omega) _ _ _, sp_keep3 l1 (by omega) _ _ _, sp_keep3 l2 (by omega) _ _ _, sp_keep3 l3 (by omega) _ _ _, sp_keep3 l4 (by omega) _ _ _, sp_keep3 l5 (by omega) _ _ _, sp_keep3 l6 (by omega) _ _ _, sp_keep3 l7 (by omega) _ _ _, sp_keep3 l8 (by omega) _ _ _, sp_keep3 l9 (by omega) _ _ _, sp_keep3 l10 (by omega) _ _ _, sp_keep3 a0 (by omega) _ _ _, sp_keep3 a1 (by omega) _ _ _, sp_keep3 a2 (by omega) _ _ _, sp_keep3 b0 (by omega) _ _ _, sp_keep3 b1 (by omega) _ _ _, sp_keep3 b2 (by omega) _ _ _⟩)
        (first
          | (go_at_call 168; refine (h1 _ (by first | exact okW | exact okW.drew)).mono ?_; rintro e w1 ⟨rfl, g1⟩; replace g1 : Below W.heap.size W w1 := ⟨g1.os, g1.tape, g1.output, g1.size, g1.block⟩; replace l0 := sO g1 l0; replace l1 := sO g1 l1; replace l2 := sO g1 l2; replace l3 := sO g1 l3; replace l4 := sO g1 l4; replace l5 := sO g1 l5; replace l6 := sO g1 l6; replace l7 := sO g1 l7; replace l8 := sO g1 l8; replace l9 := sO g1 l9; replace l10 := sO g1 l10; replace a0 := sO g1 a0; replace a1 := sO g1 a1; replace a2 := sO g1 a2; replace b0 := sO g1 b0; replace b1 := sO g1 b1; replace b2 := sO g1 b2; replace r0 := sO g1 r0; replace r1 := sO g1 r1; replace r2 := sO g1 r2; replace okW := ok_call hB okW g1; replace bW := sp_call bW g1; replace fz : ∀ j, w1.frozen? ⟨w.heap.size + 1 + 1 + 1, j, none⟩ = false := fun j => (g1.frozen (p := ⟨w.heap.size + 1 + 1 + 1, j, none⟩) (by simp; omega)).trans (fz j); have z1 := g1.size)
          | (go_at_call 167; refine (h2 _ (by first | exact okW | exact okW.drew)).mono ?_; rintro e w2 ⟨rfl, g2⟩; replace g2 : Below w1.heap.size w1 w2 := ⟨g2.os, g2.tape, g2.output, g2.size, g2.block⟩; replace l0 := sO g2 l0; replace l1 := sO g2 l1; replace l2 := sO g2 l2; replace l3 := sO g2 l3; replace l4 := sO g2 l4; replace l5 := sO g2 l5; replace l6 := sO g2 l6; replace l7 := sO g2 l7; replace l8 := sO g2 l8; replace l9 := sO g2 l9; replace l10 := sO g2 l10; replace a0 := sO g2 a0; replace a1 := sO g2 a1; replace a2 := sO g2 a2; replace b0 := sO g2 b0; replace b1 := sO g2 b1; replace b2 := sO g2 b2; replace r0 := sO g2 r0; replace r1 := sO g2 r1; replace r2 := sO g2 r2; replace okW := ok_call hB okW g2; replace bW := sp_call bW g2; replace fz : ∀ j, w2.frozen? ⟨w.heap.size + 1 + 1 + 1, j, none⟩ = false := fun j => (g2.frozen (p := ⟨w.heap.size + 1 + 1 + 1, j, none⟩) (by simp; omega)).trans (fz j); have z2 := g2.size)
          | fail)
      go_wp2
      exact bodyPost_ret (v := .agg #[.bool false, .int .u64 lo, .int .u64 hi]) (by simp [results, Tryz.results108, go_sem, r0, r1, r2]) rfl ⟨by rw [HR.out]; simp, sp_set3 bW (by omega) _ _ _⟩
    · go_enter Tryz.func108, Tryz.ntmps108
      go_wp2_with fail
      exact bodyPost_ret (v := .agg #[.bool false, .int .u64 a, .int .u64 b]) (by simp [results, Tryz.results108, go_sem]) rfl ⟨by rw [HR.out]; simp, (sp_new (sp_new (sp_new (sp_new (Below.refl _ _) _) _) _) _)⟩
  · go_enter Tryz.func108, Tryz.ntmps108
    go_wp2_with fail
    exact bodyPost_ret (v := .agg #[.bool e2, .int .u64 c, .int .u64 d]) (by simp [results, Tryz.results108, go_sem]) rfl ⟨by rw [HR.out]; simp, (sp_new (sp_new (sp_new (sp_new (Below.refl _ _) _) _) _) _)⟩
end Go.Proofs.YtgdknlnpfnifiaaGreat

