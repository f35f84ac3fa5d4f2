/- plumblineref08.IntRefine, intWithout. -/
import Derived.Test.YthjoigkckgdcaaaGreatUG3
import Derived.Test.YthjoigkckgdcaaaGreatUSpEp
import Derived.Deep.DeepCutAuto
namespace Go.Proofs.YthjoigkckgdcaaaGreat
open Go.RowKit
set_option linter.unusedVariables false
set_option linter.unusedSimpArgs false
theorem rt_dr {w W : World} (h : Below w.heap.size w W) : Below w.heap.size w W.drew := ⟨h.os, h.tape, h.output, h.size, h.block⟩
theorem rt_st {w W : World} (h : Below w.heap.size w W) {b j : Nat} (hb : w.heap.size ≤ b) (x : Value) : Below w.heap.size w (W.setCell ⟨b, j, none⟩ x) := h.setCell (p := ⟨b, j, none⟩) hb x
def rWoI (p : Bool × Int × Int) (x : Int) : Bool × Int × Int := if p.2.1 = x ∧ p.2.2 = x then (true, 0, 0) else if p.2.1 = x then (p.1, p.2.1 + 1, p.2.2) else if p.2.2 = x then (p.1, p.2.1, p.2.2 - 1) else p
set_option maxRecDepth 100000 in
set_option maxHeartbeats 6400000 in
theorem rwoI (e1 : Bool) (a b x : Int) (da : -2147483648 ≤ a) (da2 : a ≤ 2147483647) (db : -2147483648 ≤ b) (db2 : b ≤ 2147483647) (w : World) : Calls Tryz.prog 133 #[.agg #[.bool e1, .int .i64 a, .int .i64 b], .int .i64 x] w fun e w' => e = .returned (.agg #[.bool (rWoI (e1, a, b) x).1, .int .i64 (rWoI (e1, a, b) x).2.1, .int .i64 (rWoI (e1, a, b) x).2.2]) ∧ Below w.heap.size w w' := by
  unfold rWoI
  dsimp only
  by_cases h1 : a = x
  · by_cases h2 : b = x
    · rw [if_pos ⟨h1, h2⟩]
      subst h1
      subst h2
      dsimp only
      go_enter Tryz.func133, Tryz.ntmps133
      go_wp2_with (go_at_call 113; refine (rnoneI _).mono ?_; rintro e v1 ⟨rfl, rfl⟩)
      exact bodyPost_ret (v := .agg #[.bool true, .int .i64 0, .int .i64 0]) (by simp [results, Tryz.results133, go_sem]) rfl ⟨rfl, by (repeat (first | exact Below.refl _ _ | with_reducible refine sp_new ?_ _ | with_reducible refine rt_st ?_ (by simp; try omega) _))⟩
    · rw [if_neg (fun h => h2 h.2), if_pos h1]
      subst h1
      dsimp only
      go_enter Tryz.func133, Tryz.ntmps133
      go_wp2_with (go_at_call 113; refine (rnoneI _).mono ?_; rintro e v1 ⟨rfl, rfl⟩)
      exact bodyPost_ret (v := .agg #[.bool e1, .int .i64 (a + 1), .int .i64 b]) (by simp [results, Tryz.results133, go_sem]) rfl ⟨rfl, by (repeat (first | exact Below.refl _ _ | with_reducible refine sp_new ?_ _ | with_reducible refine rt_st ?_ (by simp; try omega) _))⟩
  · rw [if_neg (fun h => h1 h.1), if_neg h1]
    by_cases h2 : b = x
    · rw [if_pos h2]
      subst h2
      dsimp only
      go_enter Tryz.func133, Tryz.ntmps133
      go_wp2_with (go_at_call 113; refine (rnoneI _).mono ?_; rintro e v1 ⟨rfl, rfl⟩)
      exact bodyPost_ret (v := .agg #[.bool e1, .int .i64 a, .int .i64 (b - 1)]) (by simp [results, Tryz.results133, go_sem]) rfl ⟨rfl, by (repeat (first | exact Below.refl _ _ | with_reducible refine sp_new ?_ _ | with_reducible refine rt_st ?_ (by simp; try omega) _))⟩
    · rw [if_neg h2]
      dsimp only
      go_enter Tryz.func133, Tryz.ntmps133
      go_wp2_with (go_at_call 113; refine (rnoneI _).mono ?_; rintro e v1 ⟨rfl, rfl⟩)
      exact bodyPost_ret (v := .agg #[.bool e1, .int .i64 a, .int .i64 b]) (by simp [results, Tryz.results133, go_sem]) rfl ⟨rfl, by (repeat (first | exact Below.refl _ _ | with_reducible refine sp_new ?_ _ | with_reducible refine rt_st ?_ (by simp; try omega) _))⟩
set_option maxRecDepth 100000 in
set_option maxHeartbeats 6400000 in
theorem rt_lt (a b c d : Int) (pe qe : Bool) (pl ph ql qh : Int) (da : -2147483648 ≤ a) (da2 : a ≤ 2147483647) (db : -2147483648 ≤ b) (db2 : b ≤ 2147483647) (dc : -2147483648 ≤ c) (dc2 : c ≤ 2147483647) (dd : -2147483648 ≤ d) (dd2 : d ≤ 2147483647) (xe ye : Bool) (xl xh yl yh : Int) (k1 : ∀ V, Calls Tryz.prog 49 #[.int .i64 (-2147483648), .int .i64 (d - 1)] V fun e w' => e = .returned (.agg #[.bool xe, .int .i64 xl, .int .i64 xh]) ∧ Below V.heap.size V w') (k2 : ∀ V, Calls Tryz.prog 55 #[.agg #[.bool false, .int .i64 a, .int .i64 b], .agg #[.bool xe, .int .i64 xl, .int .i64 xh]] V fun e w' => e = .returned (.agg #[.bool pe, .int .i64 pl, .int .i64 ph]) ∧ Below V.heap.size V w') (k3 : ∀ V, Calls Tryz.prog 49 #[.int .i64 (a + 1), .int .i64 2147483647] V fun e w' => e = .returned (.agg #[.bool ye, .int .i64 yl, .int .i64 yh]) ∧ Below V.heap.size V w') (k4 : ∀ V, Calls Tryz.prog 55 #[.agg #[.bool false, .int .i64 c, .int .i64 d], .agg #[.bool ye, .int .i64 yl, .int .i64 yh]] V fun e w' => e = .returned (.agg #[.bool qe, .int .i64 ql, .int .i64 qh]) ∧ Below V.heap.size V w') (w : World) :
    Calls Tryz.prog 67 #[.int .i64 12, .agg #[.bool false, .int .i64 a, .int .i64 b], .agg #[.bool false, .int .i64 c, .int .i64 d]] w fun e w' => e = .returned (.tuple #[.agg #[.bool (bothP (pe, pl, ph) (qe, ql, qh)).1.1, .int .i64 (bothP (pe, pl, ph) (qe, ql, qh)).1.2.1, .int .i64 (bothP (pe, pl, ph) (qe, ql, qh)).1.2.2], .agg #[.bool (bothP (pe, pl, ph) (qe, ql, qh)).2.1, .int .i64 (bothP (pe, pl, ph) (qe, ql, qh)).2.2.1, .int .i64 (bothP (pe, pl, ph) (qe, ql, qh)).2.2.2]]) ∧ Below w.heap.size w w' := by
  have hn : ∀ V, Calls Tryz.prog 113 #[] V fun e w' => e = .returned (.agg #[.bool true, .int .i64 0, .int .i64 0]) ∧ Below V.heap.size V w' := fun V => (rnoneI V).mono fun e w' h => ⟨h.1, by rw [h.2]; exact sp_new (Below.refl _ _) _⟩
  have hn2 := hn
  unfold bothP
  dsimp only
  go_enter Tryz.func67, Tryz.ntmps67
  go_upto_region 5 with fail
  go_cut [8, 9] from 26 to 27 (fun s u X => ∃ (W : World) (b10 b11 : Nat), W = X ∧ s = .pointer (some ⟨b10, 0, none⟩) ∧ u = .pointer (some ⟨b11, 0, none⟩) ∧ w.heap.size + 4 ≤ b10 ∧ w.heap.size + 4 ≤ b11 ∧ b10 ≠ b11 ∧ b10 < X.heap.size ∧ b11 < X.heap.size ∧ X.cell? ⟨w.heap.size, 0, none⟩ = some (.bool false) ∧ X.cell? ⟨w.heap.size, 1, none⟩ = some (.int .i64 a) ∧ X.cell? ⟨w.heap.size, 2, none⟩ = some (.int .i64 b) ∧ X.cell? ⟨w.heap.size + 1, 0, none⟩ = some (.bool false) ∧ X.cell? ⟨w.heap.size + 1, 1, none⟩ = some (.int .i64 c) ∧ X.cell? ⟨w.heap.size + 1, 2, none⟩ = some (.int .i64 d) ∧ X.cell? ⟨w.heap.size + 1 + 1, 0, none⟩ = some (.bool false) ∧ X.cell? ⟨w.heap.size + 1 + 1, 1, none⟩ = some (.int .i64 0) ∧ X.cell? ⟨w.heap.size + 1 + 1, 2, none⟩ = some (.int .i64 0) ∧ X.cell? ⟨w.heap.size + 1 + 1 + 1, 0, none⟩ = some (.bool false) ∧ X.cell? ⟨w.heap.size + 1 + 1 + 1, 1, none⟩ = some (.int .i64 0) ∧ X.cell? ⟨w.heap.size + 1 + 1 + 1, 2, none⟩ = some (.int .i64 0) ∧ X.cell? ⟨b10, 0, none⟩ = some (.bool false) ∧ X.cell? ⟨b10, 1, none⟩ = some (.int .i64 a) ∧ X.cell? ⟨b10, 2, none⟩ = some (.int .i64 b) ∧ X.cell? ⟨b11, 0, none⟩ = some (.bool false) ∧ X.cell? ⟨b11, 1, none⟩ = some (.int .i64 c) ∧ X.cell? ⟨b11, 2, none⟩ = some (.int .i64 d) ∧ (∀ j, X.frozen? ⟨w.heap.size + 1 + 1, j, none⟩ = false) ∧ (∀ j, X.frozen? ⟨w.heap.size + 1 + 1 + 1, j, none⟩ = false) ∧ (∀ j, X.frozen? ⟨b10, j, none⟩ = false) ∧ (∀ j, X.frozen? ⟨b11, j, none⟩ = false) ∧ Below w.heap.size w X)
  case first =>
   go_region
   all_goals go_wp2_with fail
   all_goals go_meet
   all_goals exact ⟨_, _, _, rfl, rfl, rfl, by simp, by simp, by simp, by simp, by simp, by simp [go_sem], by simp [go_sem], by simp [go_sem], by simp [go_sem], by simp [go_sem], by simp [go_sem], by simp [go_sem], by simp [go_sem], by simp [go_sem], by simp [go_sem], by simp [go_sem], by simp [go_sem], by simp [go_sem], by simp [go_sem], by simp [go_sem], by simp [go_sem], by simp [go_sem], by simp [go_sem], by intro j; simp [go_sem], by intro j; simp [go_sem], by intro j; simp [go_sem], by intro j; simp [go_sem], by (repeat (first | exact Below.refl _ _ | with_reducible refine sp_new ?_ _ | with_reducible refine rt_dr ?_ | with_reducible refine rt_st ?_ (by simp; try omega) _))⟩
  case rest =>
   obtain ⟨W, b10, b11, rfl, rfl, rfl, z1, z2, z3, z4, z5, a0, a1, a2, b0, b1, b2, r0, r1, r2, s0, s1, s2, t0, t1, t2, u0, u1, u2, fr, fs, ft, fu, bW⟩ := hcut
   rename_i K1 hK1
   refine hK1 _ _ ?_
   clear hK1
   go_step
   go_cut [8, 9] from 28 to 104 (fun s u X => ∃ W2 : World, W2 = X ∧ s = .pointer (some ⟨b10, 0, none⟩) ∧ u = .pointer (some ⟨b11, 0, none⟩) ∧ X.cell? ⟨w.heap.size + 1 + 1, 0, none⟩ = some (.bool false) ∧ X.cell? ⟨w.heap.size + 1 + 1, 1, none⟩ = some (.int .i64 0) ∧ X.cell? ⟨w.heap.size + 1 + 1, 2, none⟩ = some (.int .i64 0) ∧ X.cell? ⟨w.heap.size + 1 + 1 + 1, 0, none⟩ = some (.bool false) ∧ X.cell? ⟨w.heap.size + 1 + 1 + 1, 1, none⟩ = some (.int .i64 0) ∧ X.cell? ⟨w.heap.size + 1 + 1 + 1, 2, none⟩ = some (.int .i64 0) ∧ X.cell? ⟨b10, 0, none⟩ = some (.bool pe) ∧ X.cell? ⟨b10, 1, none⟩ = some (.int .i64 pl) ∧ X.cell? ⟨b10, 2, none⟩ = some (.int .i64 ph) ∧ X.cell? ⟨b11, 0, none⟩ = some (.bool qe) ∧ X.cell? ⟨b11, 1, none⟩ = some (.int .i64 ql) ∧ X.cell? ⟨b11, 2, none⟩ = some (.int .i64 qh) ∧ (∀ j, X.frozen? ⟨w.heap.size + 1 + 1, j, none⟩ = false) ∧ (∀ j, X.frozen? ⟨w.heap.size + 1 + 1 + 1, j, none⟩ = false) ∧ w.heap.size + 4 ≤ X.heap.size ∧ Below w.heap.size w X)
   case first =>
    go_upto_region 12 with fail
    refine wp_region_held_drew (S := (fun w' => w'.cell? ⟨w.heap.size, 0, none⟩ = some (.bool false) ∧ w'.cell? ⟨w.heap.size, 1, none⟩ = some (.int .i64 a) ∧ w'.cell? ⟨w.heap.size, 2, none⟩ = some (.int .i64 b) ∧ w'.cell? ⟨w.heap.size + 1, 0, none⟩ = some (.bool false) ∧ w'.cell? ⟨w.heap.size + 1, 1, none⟩ = some (.int .i64 c) ∧ w'.cell? ⟨w.heap.size + 1, 2, none⟩ = some (.int .i64 d))) (by kernel_rfl) ⟨a0, a1, a2, b0, b1, b2⟩ (fun hH => ?_)
    refine wpAnyH_take (i := 0) (oi := _) (v := .agg #[.bool false, .int .i64 a, .int .i64 b]) rfl (by kernel_rfl) (by kernel_rfl) (by kernel_rfl) (fun _ _ _ h => h) (Or.inl ⟨by rfl, fun w' hSw => by obtain ⟨za0, za1, za2, zb0, zb1, zb2⟩ := hSw; go_simp⟩) hH ?_
    simp only [Act.put, gA, gB, gC, gD, gE, gG]
    refine wpAnyH_take (i := 1) (oi := _) (v := .pointer (some ⟨w.heap.size + 1, 2, none⟩)) rfl (by kernel_rfl) (by kernel_rfl) (by kernel_rfl) (fun _ _ _ h => h) (Or.inl ⟨by rfl, fun w' hSw => by obtain ⟨za0, za1, za2, zb0, zb1, zb2⟩ := hSw; go_simp⟩) hH ?_
    simp only [Act.put, gA, gB, gC, gD, gE, gG]
    refine wpAnyH_take (i := 2) (oi := _) (v := .int .i64 d) rfl (by kernel_rfl) (by kernel_rfl) (by kernel_rfl) (fun _ _ _ h => h) (Or.inl ⟨by rfl, fun w' hSw => by obtain ⟨za0, za1, za2, zb0, zb1, zb2⟩ := hSw; go_simp⟩) hH ?_
    simp only [Act.put, gA, gB, gC, gD, gE, gG]
    refine wpAnyH_take (i := 3) (oi := _) (v := .int .i64 (d - 1)) rfl (by kernel_rfl) (by kernel_rfl) (by kernel_rfl) (fun _ _ _ h => h) (Or.inl ⟨by rfl, fun w' hSw => by obtain ⟨za0, za1, za2, zb0, zb1, zb2⟩ := hSw; go_simp; rw [IntKind.wrap_i64]; omega⟩) hH ?_
    simp only [Act.put, gA, gB, gC, gD, gE, gG]
    refine wpAnyH_take (i := 6) (oi := _) (v := .agg #[.bool false, .int .i64 c, .int .i64 d]) rfl (by kernel_rfl) (by kernel_rfl) (by kernel_rfl) (fun _ _ _ h => h) (Or.inl ⟨by rfl, fun w' hSw => by obtain ⟨za0, za1, za2, zb0, zb1, zb2⟩ := hSw; go_simp⟩) hH ?_
    simp only [Act.put, gA, gB, gC, gD, gE, gG]
    refine wpAnyH_take (i := 7) (oi := _) (v := .pointer (some ⟨w.heap.size, 1, none⟩)) rfl (by kernel_rfl) (by kernel_rfl) (by kernel_rfl) (fun _ _ _ h => h) (Or.inl ⟨by rfl, fun w' hSw => by obtain ⟨za0, za1, za2, zb0, zb1, zb2⟩ := hSw; go_simp⟩) hH ?_
    simp only [Act.put, gA, gB, gC, gD, gE, gG]
    refine wpAnyH_take (i := 8) (oi := _) (v := .int .i64 a) rfl (by kernel_rfl) (by kernel_rfl) (by kernel_rfl) (fun _ _ _ h => h) (Or.inl ⟨by rfl, fun w' hSw => by obtain ⟨za0, za1, za2, zb0, zb1, zb2⟩ := hSw; go_simp⟩) hH ?_
    simp only [Act.put, gA, gB, gC, gD, gE, gG]
    refine wpAnyH_take (i := 9) (oi := _) (v := .int .i64 (a + 1)) rfl (by kernel_rfl) (by kernel_rfl) (by kernel_rfl) (fun _ _ _ h => h) (Or.inl ⟨by rfl, fun w' hSw => by obtain ⟨za0, za1, za2, zb0, zb1, zb2⟩ := hSw; go_simp; rw [IntKind.wrap_i64]; omega⟩) hH ?_
    simp only [Act.put, gA, gB, gC, gD, gE, gG]
    refine wpAnyH_ready (rs := [4]) (by kernel_rfl) (by simp) (AllReadyH.cons (o := _) rfl (fun K hK => ?_) AllReadyH.nil)
    go_simp
    refine (k1 _).mono ?_
    rintro e v1 ⟨rfl, g⟩
    replace g : Below W.heap.size W v1 := ⟨g.os, g.tape, g.output, g.size, g.block⟩; replace a0 := sO g a0; replace a1 := sO g a1; replace a2 := sO g a2; replace b0 := sO g b0; replace b1 := sO g b1; replace b2 := sO g b2; replace r0 := sO g r0; replace r1 := sO g r1; replace r2 := sO g r2; replace s0 := sO g s0; replace s1 := sO g s1; replace s2 := sO g s2; replace t0 := sO g t0; replace t1 := sO g t1; replace t2 := sO g t2; replace u0 := sO g u0; replace u1 := sO g u1; replace u2 := sO g u2; replace bW := sp_call bW g; have z_v1 := g.size; replace fr : ∀ j, v1.frozen? ⟨w.heap.size + 1 + 1, j, none⟩ = false := fun j => (g.frozen (p := ⟨w.heap.size + 1 + 1, j, none⟩) (by simp; omega)).trans (fr j); replace fs : ∀ j, v1.frozen? ⟨w.heap.size + 1 + 1 + 1, j, none⟩ = false := fun j => (g.frozen (p := ⟨w.heap.size + 1 + 1 + 1, j, none⟩) (by simp; omega)).trans (fs j); replace ft : ∀ j, v1.frozen? ⟨b10, j, none⟩ = false := fun j => (g.frozen (p := ⟨b10, j, none⟩) (by simp; omega)).trans (ft j); replace fu : ∀ j, v1.frozen? ⟨b11, j, none⟩ = false := fun j => (g.frozen (p := ⟨b11, j, none⟩) (by simp; omega)).trans (fu j); clear g
    go_wp2_with fail
    refine hK.out _ _ ⟨a0, a1, a2, b0, b1, b2⟩ (fun hH => ?_)
    clear hK K k1
    try simp only [Act.put, gA, gB, gC, gD, gE, gG]
    refine wpAnyH_ready (rs := [5]) (by kernel_rfl) (by simp) (AllReadyH.cons (o := _) rfl (fun K hK => ?_) AllReadyH.nil)
    go_simp
    refine (k2 _).mono ?_
    rintro e v2 ⟨rfl, g⟩
    replace g : Below v1.heap.size v1 v2 := ⟨g.os, g.tape, g.output, g.size, g.block⟩; replace a0 := sO g a0; replace a1 := sO g a1; replace a2 := sO g a2; replace b0 := sO g b0; replace b1 := sO g b1; replace b2 := sO g b2; replace r0 := sO g r0; replace r1 := sO g r1; replace r2 := sO g r2; replace s0 := sO g s0; replace s1 := sO g s1; replace s2 := sO g s2; replace t0 := sO g t0; replace t1 := sO g t1; replace t2 := sO g t2; replace u0 := sO g u0; replace u1 := sO g u1; replace u2 := sO g u2; replace bW := sp_call bW g; have z_v2 := g.size; replace fr : ∀ j, v2.frozen? ⟨w.heap.size + 1 + 1, j, none⟩ = false := fun j => (g.frozen (p := ⟨w.heap.size + 1 + 1, j, none⟩) (by simp; omega)).trans (fr j); replace fs : ∀ j, v2.frozen? ⟨w.heap.size + 1 + 1 + 1, j, none⟩ = false := fun j => (g.frozen (p := ⟨w.heap.size + 1 + 1 + 1, j, none⟩) (by simp; omega)).trans (fs j); replace ft : ∀ j, v2.frozen? ⟨b10, j, none⟩ = false := fun j => (g.frozen (p := ⟨b10, j, none⟩) (by simp; omega)).trans (ft j); replace fu : ∀ j, v2.frozen? ⟨b11, j, none⟩ = false := fun j => (g.frozen (p := ⟨b11, j, none⟩) (by simp; omega)).trans (fu j); clear g
    go_wp2_with fail
    refine hK.out _ _ ⟨a0, a1, a2, b0, b1, b2⟩ (fun hH => ?_)
    clear hK K k2
    try simp only [Act.put, gA, gB, gC, gD, gE, gG]
    refine wpAnyH_ready (rs := [10]) (by kernel_rfl) (by simp) (AllReadyH.cons (o := _) rfl (fun K hK => ?_) AllReadyH.nil)
    go_simp
    refine (k3 _).mono ?_
    rintro e v3 ⟨rfl, g⟩
    replace g : Below v2.heap.size v2 v3 := ⟨g.os, g.tape, g.output, g.size, g.block⟩; replace a0 := sO g a0; replace a1 := sO g a1; replace a2 := sO g a2; replace b0 := sO g b0; replace b1 := sO g b1; replace b2 := sO g b2; replace r0 := sO g r0; replace r1 := sO g r1; replace r2 := sO g r2; replace s0 := sO g s0; replace s1 := sO g s1; replace s2 := sO g s2; replace t0 := sO g t0; replace t1 := sO g t1; replace t2 := sO g t2; replace u0 := sO g u0; replace u1 := sO g u1; replace u2 := sO g u2; replace bW := sp_call bW g; have z_v3 := g.size; replace fr : ∀ j, v3.frozen? ⟨w.heap.size + 1 + 1, j, none⟩ = false := fun j => (g.frozen (p := ⟨w.heap.size + 1 + 1, j, none⟩) (by simp; omega)).trans (fr j); replace fs : ∀ j, v3.frozen? ⟨w.heap.size + 1 + 1 + 1, j, none⟩ = false := fun j => (g.frozen (p := ⟨w.heap.size + 1 + 1 + 1, j, none⟩) (by simp; omega)).trans (fs j); replace ft : ∀ j, v3.frozen? ⟨b10, j, none⟩ = false := fun j => (g.frozen (p := ⟨b10, j, none⟩) (by simp; omega)).trans (ft j); replace fu : ∀ j, v3.frozen? ⟨b11, j, none⟩ = false := fun j => (g.frozen (p := ⟨b11, j, none⟩) (by simp; omega)).trans (fu j); clear g
    go_wp2_with fail
    refine hK.out _ _ ⟨a0, a1, a2, b0, b1, b2⟩ (fun hH => ?_)
    clear hK K k3
    try simp only [Act.put, gA, gB, gC, gD, gE, gG]
    refine wpAnyH_ready (rs := [11]) (by kernel_rfl) (by simp) (AllReadyH.cons (o := _) rfl (fun K hK => ?_) AllReadyH.nil)
    go_simp
    refine (k4 _).mono ?_
    rintro e v4 ⟨rfl, g⟩
    replace g : Below v3.heap.size v3 v4 := ⟨g.os, g.tape, g.output, g.size, g.block⟩; replace a0 := sO g a0; replace a1 := sO g a1; replace a2 := sO g a2; replace b0 := sO g b0; replace b1 := sO g b1; replace b2 := sO g b2; replace r0 := sO g r0; replace r1 := sO g r1; replace r2 := sO g r2; replace s0 := sO g s0; replace s1 := sO g s1; replace s2 := sO g s2; replace t0 := sO g t0; replace t1 := sO g t1; replace t2 := sO g t2; replace u0 := sO g u0; replace u1 := sO g u1; replace u2 := sO g u2; replace bW := sp_call bW g; have z_v4 := g.size; replace fr : ∀ j, v4.frozen? ⟨w.heap.size + 1 + 1, j, none⟩ = false := fun j => (g.frozen (p := ⟨w.heap.size + 1 + 1, j, none⟩) (by simp; omega)).trans (fr j); replace fs : ∀ j, v4.frozen? ⟨w.heap.size + 1 + 1 + 1, j, none⟩ = false := fun j => (g.frozen (p := ⟨w.heap.size + 1 + 1 + 1, j, none⟩) (by simp; omega)).trans (fs j); replace ft : ∀ j, v4.frozen? ⟨b10, j, none⟩ = false := fun j => (g.frozen (p := ⟨b10, j, none⟩) (by simp; omega)).trans (ft j); replace fu : ∀ j, v4.frozen? ⟨b11, j, none⟩ = false := fun j => (g.frozen (p := ⟨b11, j, none⟩) (by simp; omega)).trans (fu j); clear g
    go_wp2_with fail
    refine hK.out _ _ ⟨a0, a1, a2, b0, b1, b2⟩ (fun hH => ?_)
    clear hK K k4
    try simp only [Act.put, gA, gB, gC, gD, gE, gG]
    refine wpAnyH_ready (rs := [12]) (by kernel_rfl) (by simp) (AllReadyH.cons (o := _) rfl (fun K hK => ?_) AllReadyH.nil)
    go_simp
    refine hK.out _ _ ⟨(sp_keep3 a0 (by omega) _ _ _), (sp_keep3 a1 (by omega) _ _ _), (sp_keep3 a2 (by omega) _ _ _), (sp_keep3 b0 (by omega) _ _ _), (sp_keep3 b1 (by omega) _ _ _), (sp_keep3 b2 (by omega) _ _ _)⟩ (fun hH => ?_)
    clear hK K
    try simp only [Act.put, gA, gB, gC, gD, gE, gG]
    refine wpAnyH_ready (rs := [13]) (by kernel_rfl) (by simp) (AllReadyH.cons (o := _) rfl (fun K hK => ?_) AllReadyH.nil)
    go_simp
    refine hK.out _ _ ⟨(sp_keep3 (sp_keep3 a0 (by omega) _ _ _) (by omega) _ _ _), (sp_keep3 (sp_keep3 a1 (by omega) _ _ _) (by omega) _ _ _), (sp_keep3 (sp_keep3 a2 (by omega) _ _ _) (by omega) _ _ _), (sp_keep3 (sp_keep3 b0 (by omega) _ _ _) (by omega) _ _ _), (sp_keep3 (sp_keep3 b1 (by omega) _ _ _) (by omega) _ _ _), (sp_keep3 (sp_keep3 b2 (by omega) _ _ _) (by omega) _ _ _)⟩ (fun hH => ?_)
    clear hK K
    try simp only [Act.put, gA, gB, gC, gD, gE, gG]
    refine wpAnyH_done (by kernel_rfl) ?_ _
    obtain ⟨W6, hW⟩ : ∃ W6, (((v4.setCell ⟨b10, 0, none⟩ (.bool pe)).setCell ⟨b10, 1, none⟩ (.int .i64 pl)).setCell ⟨b10, 2, none⟩ (.int .i64 ph)) = W6 := ⟨_, rfl⟩
    replace t0 : W6.cell? ⟨b10, 0, none⟩ = some (.bool pe) := by rw [← hW]; simp [go_sem, t0, t1, t2]
    replace t1 : W6.cell? ⟨b10, 1, none⟩ = some (.int .i64 pl) := by rw [← hW]; simp [go_sem, t1, t2]
    replace t2 : W6.cell? ⟨b10, 2, none⟩ = some (.int .i64 ph) := by rw [← hW]; simp [go_sem, t2]
    replace a0 := hW ▸ sp_keep3 (b := b10) a0 (by omega) (.bool pe) (.int .i64 pl) (.int .i64 ph)
    replace a1 := hW ▸ sp_keep3 (b := b10) a1 (by omega) (.bool pe) (.int .i64 pl) (.int .i64 ph)
    replace a2 := hW ▸ sp_keep3 (b := b10) a2 (by omega) (.bool pe) (.int .i64 pl) (.int .i64 ph)
    replace b0 := hW ▸ sp_keep3 (b := b10) b0 (by omega) (.bool pe) (.int .i64 pl) (.int .i64 ph)
    replace b1 := hW ▸ sp_keep3 (b := b10) b1 (by omega) (.bool pe) (.int .i64 pl) (.int .i64 ph)
    replace b2 := hW ▸ sp_keep3 (b := b10) b2 (by omega) (.bool pe) (.int .i64 pl) (.int .i64 ph)
    replace r0 := hW ▸ sp_keep3 (b := b10) r0 (by omega) (.bool pe) (.int .i64 pl) (.int .i64 ph)
    replace r1 := hW ▸ sp_keep3 (b := b10) r1 (by omega) (.bool pe) (.int .i64 pl) (.int .i64 ph)
    replace r2 := hW ▸ sp_keep3 (b := b10) r2 (by omega) (.bool pe) (.int .i64 pl) (.int .i64 ph)
    replace s0 := hW ▸ sp_keep3 (b := b10) s0 (by omega) (.bool pe) (.int .i64 pl) (.int .i64 ph)
    replace s1 := hW ▸ sp_keep3 (b := b10) s1 (by omega) (.bool pe) (.int .i64 pl) (.int .i64 ph)
    replace s2 := hW ▸ sp_keep3 (b := b10) s2 (by omega) (.bool pe) (.int .i64 pl) (.int .i64 ph)
    replace u0 := hW ▸ sp_keep3 (b := b10) u0 (by omega) (.bool pe) (.int .i64 pl) (.int .i64 ph)
    replace u1 := hW ▸ sp_keep3 (b := b10) u1 (by omega) (.bool pe) (.int .i64 pl) (.int .i64 ph)
    replace u2 := hW ▸ sp_keep3 (b := b10) u2 (by omega) (.bool pe) (.int .i64 pl) (.int .i64 ph)
    replace fr : ∀ j, W6.frozen? ⟨w.heap.size + 1 + 1, j, none⟩ = false := by intro j; rw [← hW]; simp [go_sem, fr]
    replace fs : ∀ j, W6.frozen? ⟨w.heap.size + 1 + 1 + 1, j, none⟩ = false := by intro j; rw [← hW]; simp [go_sem, fs]
    replace ft : ∀ j, W6.frozen? ⟨b10, j, none⟩ = false := by intro j; rw [← hW]; simp [go_sem, ft]
    replace fu : ∀ j, W6.frozen? ⟨b11, j, none⟩ = false := by intro j; rw [← hW]; simp [go_sem, fu]
    replace bW : Below w.heap.size w W6 := by rw [← hW]; (repeat (first | with_reducible exact bW | with_reducible refine rt_dr ?_ | with_reducible refine rt_st ?_ (by omega) _))
    have zs_W6 : W6.heap.size = v4.heap.size := by rw [← hW]; simp
    rw [hW]
    clear hW
    obtain ⟨W7, hW⟩ : ∃ W7, (((W6.setCell ⟨b11, 0, none⟩ (.bool qe)).setCell ⟨b11, 1, none⟩ (.int .i64 ql)).setCell ⟨b11, 2, none⟩ (.int .i64 qh)) = W7 := ⟨_, rfl⟩
    replace u0 : W7.cell? ⟨b11, 0, none⟩ = some (.bool qe) := by rw [← hW]; simp [go_sem, u0, u1, u2]
    replace u1 : W7.cell? ⟨b11, 1, none⟩ = some (.int .i64 ql) := by rw [← hW]; simp [go_sem, u1, u2]
    replace u2 : W7.cell? ⟨b11, 2, none⟩ = some (.int .i64 qh) := by rw [← hW]; simp [go_sem, u2]
    replace a0 := hW ▸ sp_keep3 (b := b11) a0 (by omega) (.bool qe) (.int .i64 ql) (.int .i64 qh)
    replace a1 := hW ▸ sp_keep3 (b := b11) a1 (by omega) (.bool qe) (.int .i64 ql) (.int .i64 qh)
    replace a2 := hW ▸ sp_keep3 (b := b11) a2 (by omega) (.bool qe) (.int .i64 ql) (.int .i64 qh)
    replace b0 := hW ▸ sp_keep3 (b := b11) b0 (by omega) (.bool qe) (.int .i64 ql) (.int .i64 qh)
    replace b1 := hW ▸ sp_keep3 (b := b11) b1 (by omega) (.bool qe) (.int .i64 ql) (.int .i64 qh)
    replace b2 := hW ▸ sp_keep3 (b := b11) b2 (by omega) (.bool qe) (.int .i64 ql) (.int .i64 qh)
    replace r0 := hW ▸ sp_keep3 (b := b11) r0 (by omega) (.bool qe) (.int .i64 ql) (.int .i64 qh)
    replace r1 := hW ▸ sp_keep3 (b := b11) r1 (by omega) (.bool qe) (.int .i64 ql) (.int .i64 qh)
    replace r2 := hW ▸ sp_keep3 (b := b11) r2 (by omega) (.bool qe) (.int .i64 ql) (.int .i64 qh)
    replace s0 := hW ▸ sp_keep3 (b := b11) s0 (by omega) (.bool qe) (.int .i64 ql) (.int .i64 qh)
    replace s1 := hW ▸ sp_keep3 (b := b11) s1 (by omega) (.bool qe) (.int .i64 ql) (.int .i64 qh)
    replace s2 := hW ▸ sp_keep3 (b := b11) s2 (by omega) (.bool qe) (.int .i64 ql) (.int .i64 qh)
    replace t0 := hW ▸ sp_keep3 (b := b11) t0 (by omega) (.bool qe) (.int .i64 ql) (.int .i64 qh)
    replace t1 := hW ▸ sp_keep3 (b := b11) t1 (by omega) (.bool qe) (.int .i64 ql) (.int .i64 qh)
    replace t2 := hW ▸ sp_keep3 (b := b11) t2 (by omega) (.bool qe) (.int .i64 ql) (.int .i64 qh)
    replace fr : ∀ j, W7.frozen? ⟨w.heap.size + 1 + 1, j, none⟩ = false := by intro j; rw [← hW]; simp [go_sem, fr]
    replace fs : ∀ j, W7.frozen? ⟨w.heap.size + 1 + 1 + 1, j, none⟩ = false := by intro j; rw [← hW]; simp [go_sem, fs]
    replace ft : ∀ j, W7.frozen? ⟨b10, j, none⟩ = false := by intro j; rw [← hW]; simp [go_sem, ft]
    replace fu : ∀ j, W7.frozen? ⟨b11, j, none⟩ = false := by intro j; rw [← hW]; simp [go_sem, fu]
    replace bW : Below w.heap.size w W7 := by rw [← hW]; (repeat (first | with_reducible exact bW | with_reducible refine rt_dr ?_ | with_reducible refine rt_st ?_ (by omega) _))
    have zs_W7 : W7.heap.size = W6.heap.size := by rw [← hW]; simp
    rw [hW]
    clear hW
    go_wp2_with fail
    go_meet
    exact ⟨_, rfl, rfl, rfl, r0, r1, r2, s0, s1, s2, t0, t1, t2, u0, u1, u2, fr, fs, by omega, bW⟩
   case rest =>
    try clear he hl hh
    clear a0 a1 a2 b0 b1 b2 r0 r1 r2 s0 s1 s2 t0 t1 t2 u0 u1 u2 fr fs ft fu bW z4 z5
    obtain ⟨X, rfl, rfl, rfl, r0, r1, r2, s0, s1, s2, t0, t1, t2, u0, u1, u2, fr, fs, zX, bW⟩ := hcut
    cases pe
    · cases qe
      · go_upto_region 24 with fail
        go_region
        all_goals go_wp2_with fail
        all_goals exact bodyPost_ret (v := .tuple #[.agg #[.bool false, .int .i64 pl, .int .i64 ph], .agg #[.bool false, .int .i64 ql, .int .i64 qh]]) (by simp [results, Tryz.results67, go_sem, r0, r1, r2, s0, s1, s2]) rfl ⟨by simp, by (repeat (first | with_reducible exact bW | with_reducible refine rt_dr ?_ | with_reducible refine rt_st ?_ (by omega) _))⟩
      · go_wp2_with (first
          | (go_at_call 113; refine (hn _).mono ?_; rintro e vn ⟨rfl, g⟩; replace r0 := sO g r0; replace r1 := sO g r1; replace r2 := sO g r2; replace s0 := sO g s0; replace s1 := sO g s1; replace s2 := sO g s2; replace bW := sp_call bW g; have z_vn := g.size; replace fr : ∀ j, vn.frozen? ⟨w.heap.size + 1 + 1, j, none⟩ = false := fun j => (g.frozen (p := ⟨w.heap.size + 1 + 1, j, none⟩) (by simp; omega)).trans (fr j); replace fs : ∀ j, vn.frozen? ⟨w.heap.size + 1 + 1 + 1, j, none⟩ = false := fun j => (g.frozen (p := ⟨w.heap.size + 1 + 1 + 1, j, none⟩) (by simp; omega)).trans (fs j); clear g; clear hn)
          | (go_at_call 113; refine (hn2 _).mono ?_; rintro e vn2 ⟨rfl, g⟩; replace r0 := sO g r0; replace r1 := sO g r1; replace r2 := sO g r2; replace s0 := sO g s0; replace s1 := sO g s1; replace s2 := sO g s2; replace bW := sp_call bW g; have z_vn2 := g.size; replace fr : ∀ j, vn2.frozen? ⟨w.heap.size + 1 + 1, j, none⟩ = false := fun j => (g.frozen (p := ⟨w.heap.size + 1 + 1, j, none⟩) (by simp; omega)).trans (fr j); replace fs : ∀ j, vn2.frozen? ⟨w.heap.size + 1 + 1 + 1, j, none⟩ = false := fun j => (g.frozen (p := ⟨w.heap.size + 1 + 1 + 1, j, none⟩) (by simp; omega)).trans (fs j); clear g; clear hn2)
          | fail)
        exact bodyPost_ret (v := .tuple #[.agg #[.bool true, .int .i64 0, .int .i64 0], .agg #[.bool true, .int .i64 0, .int .i64 0]]) (by simp [results, Tryz.results67, go_sem, r0, r1, r2, s0, s1, s2]) rfl ⟨by simp, by (repeat (first | with_reducible exact bW | with_reducible refine rt_dr ?_ | with_reducible refine rt_st ?_ (by omega) _))⟩
    · go_wp2_with (first
        | (go_at_call 113; refine (hn _).mono ?_; rintro e vn ⟨rfl, g⟩; replace r0 := sO g r0; replace r1 := sO g r1; replace r2 := sO g r2; replace s0 := sO g s0; replace s1 := sO g s1; replace s2 := sO g s2; replace bW := sp_call bW g; have z_vn := g.size; replace fr : ∀ j, vn.frozen? ⟨w.heap.size + 1 + 1, j, none⟩ = false := fun j => (g.frozen (p := ⟨w.heap.size + 1 + 1, j, none⟩) (by simp; omega)).trans (fr j); replace fs : ∀ j, vn.frozen? ⟨w.heap.size + 1 + 1 + 1, j, none⟩ = false := fun j => (g.frozen (p := ⟨w.heap.size + 1 + 1 + 1, j, none⟩) (by simp; omega)).trans (fs j); clear g; clear hn)
        | (go_at_call 113; refine (hn2 _).mono ?_; rintro e vn2 ⟨rfl, g⟩; replace r0 := sO g r0; replace r1 := sO g r1; replace r2 := sO g r2; replace s0 := sO g s0; replace s1 := sO g s1; replace s2 := sO g s2; replace bW := sp_call bW g; have z_vn2 := g.size; replace fr : ∀ j, vn2.frozen? ⟨w.heap.size + 1 + 1, j, none⟩ = false := fun j => (g.frozen (p := ⟨w.heap.size + 1 + 1, j, none⟩) (by simp; omega)).trans (fr j); replace fs : ∀ j, vn2.frozen? ⟨w.heap.size + 1 + 1 + 1, j, none⟩ = false := fun j => (g.frozen (p := ⟨w.heap.size + 1 + 1 + 1, j, none⟩) (by simp; omega)).trans (fs j); clear g; clear hn2)
        | fail)
      exact bodyPost_ret (v := .tuple #[.agg #[.bool true, .int .i64 0, .int .i64 0], .agg #[.bool true, .int .i64 0, .int .i64 0]]) (by simp [results, Tryz.results67, go_sem, r0, r1, r2, s0, s1, s2]) rfl ⟨by simp, by (repeat (first | with_reducible exact bW | with_reducible refine rt_dr ?_ | with_reducible refine rt_st ?_ (by omega) _))⟩
set_option maxRecDepth 100000 in
set_option maxHeartbeats 6400000 in
theorem rt_le (a b c d : Int) (pe qe : Bool) (pl ph ql qh : Int) (da : -2147483648 ≤ a) (da2 : a ≤ 2147483647) (db : -2147483648 ≤ b) (db2 : b ≤ 2147483647) (dc : -2147483648 ≤ c) (dc2 : c ≤ 2147483647) (dd : -2147483648 ≤ d) (dd2 : d ≤ 2147483647) (xe ye : Bool) (xl xh yl yh : Int) (k1 : ∀ V, Calls Tryz.prog 49 #[.int .i64 (-2147483648), .int .i64 d] V fun e w' => e = .returned (.agg #[.bool xe, .int .i64 xl, .int .i64 xh]) ∧ Below V.heap.size V w') (k2 : ∀ V, Calls Tryz.prog 55 #[.agg #[.bool false, .int .i64 a, .int .i64 b], .agg #[.bool xe, .int .i64 xl, .int .i64 xh]] V fun e w' => e = .returned (.agg #[.bool pe, .int .i64 pl, .int .i64 ph]) ∧ Below V.heap.size V w') (k3 : ∀ V, Calls Tryz.prog 49 #[.int .i64 a, .int .i64 2147483647] V fun e w' => e = .returned (.agg #[.bool ye, .int .i64 yl, .int .i64 yh]) ∧ Below V.heap.size V w') (k4 : ∀ V, Calls Tryz.prog 55 #[.agg #[.bool false, .int .i64 c, .int .i64 d], .agg #[.bool ye, .int .i64 yl, .int .i64 yh]] V fun e w' => e = .returned (.agg #[.bool qe, .int .i64 ql, .int .i64 qh]) ∧ Below V.heap.size V w') (w : World) :
    Calls Tryz.prog 67 #[.int .i64 13, .agg #[.bool false, .int .i64 a, .int .i64 b], .agg #[.bool false, .int .i64 c, .int .i64 d]] w fun e w' => e = .returned (.tuple #[.agg #[.bool (bothP (pe, pl, ph) (qe, ql, qh)).1.1, .int .i64 (bothP (pe, pl, ph) (qe, ql, qh)).1.2.1, .int .i64 (bothP (pe, pl, ph) (qe, ql, qh)).1.2.2], .agg #[.bool (bothP (pe, pl, ph) (qe, ql, qh)).2.1, .int .i64 (bothP (pe, pl, ph) (qe, ql, qh)).2.2.1, .int .i64 (bothP (pe, pl, ph) (qe, ql, qh)).2.2.2]]) ∧ Below w.heap.size w w' := by
  have hn : ∀ V, Calls Tryz.prog 113 #[] V fun e w' => e = .returned (.agg #[.bool true, .int .i64 0, .int .i64 0]) ∧ Below V.heap.size V w' := fun V => (rnoneI V).mono fun e w' h => ⟨h.1, by rw [h.2]; exact sp_new (Below.refl _ _) _⟩
  have hn2 := hn
  unfold bothP
  dsimp only
  go_enter Tryz.func67, Tryz.ntmps67
  go_upto_region 5 with fail
  go_cut [8, 9] from 26 to 27 (fun s u X => ∃ (W : World) (b10 b11 : Nat), W = X ∧ s = .pointer (some ⟨b10, 0, none⟩) ∧ u = .pointer (some ⟨b11, 0, none⟩) ∧ w.heap.size + 4 ≤ b10 ∧ w.heap.size + 4 ≤ b11 ∧ b10 ≠ b11 ∧ b10 < X.heap.size ∧ b11 < X.heap.size ∧ X.cell? ⟨w.heap.size, 0, none⟩ = some (.bool false) ∧ X.cell? ⟨w.heap.size, 1, none⟩ = some (.int .i64 a) ∧ X.cell? ⟨w.heap.size, 2, none⟩ = some (.int .i64 b) ∧ X.cell? ⟨w.heap.size + 1, 0, none⟩ = some (.bool false) ∧ X.cell? ⟨w.heap.size + 1, 1, none⟩ = some (.int .i64 c) ∧ X.cell? ⟨w.heap.size + 1, 2, none⟩ = some (.int .i64 d) ∧ X.cell? ⟨w.heap.size + 1 + 1, 0, none⟩ = some (.bool false) ∧ X.cell? ⟨w.heap.size + 1 + 1, 1, none⟩ = some (.int .i64 0) ∧ X.cell? ⟨w.heap.size + 1 + 1, 2, none⟩ = some (.int .i64 0) ∧ X.cell? ⟨w.heap.size + 1 + 1 + 1, 0, none⟩ = some (.bool false) ∧ X.cell? ⟨w.heap.size + 1 + 1 + 1, 1, none⟩ = some (.int .i64 0) ∧ X.cell? ⟨w.heap.size + 1 + 1 + 1, 2, none⟩ = some (.int .i64 0) ∧ X.cell? ⟨b10, 0, none⟩ = some (.bool false) ∧ X.cell? ⟨b10, 1, none⟩ = some (.int .i64 a) ∧ X.cell? ⟨b10, 2, none⟩ = some (.int .i64 b) ∧ X.cell? ⟨b11, 0, none⟩ = some (.bool false) ∧ X.cell? ⟨b11, 1, none⟩ = some (.int .i64 c) ∧ X.cell? ⟨b11, 2, none⟩ = some (.int .i64 d) ∧ (∀ j, X.frozen? ⟨w.heap.size + 1 + 1, j, none⟩ = false) ∧ (∀ j, X.frozen? ⟨w.heap.size + 1 + 1 + 1, j, none⟩ = false) ∧ (∀ j, X.frozen? ⟨b10, j, none⟩ = false) ∧ (∀ j, X.frozen? ⟨b11, j, none⟩ = false) ∧ Below w.heap.size w X)
  case first =>
   go_region
   all_goals go_wp2_with fail
   all_goals go_meet
   all_goals exact ⟨_, _, _, rfl, rfl, rfl, by simp, by simp, by simp, by simp, by simp, by simp [go_sem], by simp [go_sem], by simp [go_sem], by simp [go_sem], by simp [go_sem], by simp [go_sem], by simp [go_sem], by simp [go_sem], by simp [go_sem], by simp [go_sem], by simp [go_sem], by simp [go_sem], by simp [go_sem], by simp [go_sem], by simp [go_sem], by simp [go_sem], by simp [go_sem], by simp [go_sem], by intro j; simp [go_sem], by intro j; simp [go_sem], by intro j; simp [go_sem], by intro j; simp [go_sem], by (repeat (first | exact Below.refl _ _ | with_reducible refine sp_new ?_ _ | with_reducible refine rt_dr ?_ | with_reducible refine rt_st ?_ (by simp; try omega) _))⟩
  case rest =>
   obtain ⟨W, b10, b11, rfl, rfl, rfl, z1, z2, z3, z4, z5, a0, a1, a2, b0, b1, b2, r0, r1, r2, s0, s1, s2, t0, t1, t2, u0, u1, u2, fr, fs, ft, fu, bW⟩ := hcut
   rename_i K1 hK1
   refine hK1 _ _ ?_
   clear hK1
   go_step
   go_cut [8, 9] from 28 to 104 (fun s u X => ∃ W2 : World, W2 = X ∧ s = .pointer (some ⟨b10, 0, none⟩) ∧ u = .pointer (some ⟨b11, 0, none⟩) ∧ X.cell? ⟨w.heap.size + 1 + 1, 0, none⟩ = some (.bool false) ∧ X.cell? ⟨w.heap.size + 1 + 1, 1, none⟩ = some (.int .i64 0) ∧ X.cell? ⟨w.heap.size + 1 + 1, 2, none⟩ = some (.int .i64 0) ∧ X.cell? ⟨w.heap.size + 1 + 1 + 1, 0, none⟩ = some (.bool false) ∧ X.cell? ⟨w.heap.size + 1 + 1 + 1, 1, none⟩ = some (.int .i64 0) ∧ X.cell? ⟨w.heap.size + 1 + 1 + 1, 2, none⟩ = some (.int .i64 0) ∧ X.cell? ⟨b10, 0, none⟩ = some (.bool pe) ∧ X.cell? ⟨b10, 1, none⟩ = some (.int .i64 pl) ∧ X.cell? ⟨b10, 2, none⟩ = some (.int .i64 ph) ∧ X.cell? ⟨b11, 0, none⟩ = some (.bool qe) ∧ X.cell? ⟨b11, 1, none⟩ = some (.int .i64 ql) ∧ X.cell? ⟨b11, 2, none⟩ = some (.int .i64 qh) ∧ (∀ j, X.frozen? ⟨w.heap.size + 1 + 1, j, none⟩ = false) ∧ (∀ j, X.frozen? ⟨w.heap.size + 1 + 1 + 1, j, none⟩ = false) ∧ w.heap.size + 4 ≤ X.heap.size ∧ Below w.heap.size w X)
   case first =>
    go_upto_region 14 with fail
    refine wp_region_held_drew (S := (fun w' => w'.cell? ⟨w.heap.size, 0, none⟩ = some (.bool false) ∧ w'.cell? ⟨w.heap.size, 1, none⟩ = some (.int .i64 a) ∧ w'.cell? ⟨w.heap.size, 2, none⟩ = some (.int .i64 b) ∧ w'.cell? ⟨w.heap.size + 1, 0, none⟩ = some (.bool false) ∧ w'.cell? ⟨w.heap.size + 1, 1, none⟩ = some (.int .i64 c) ∧ w'.cell? ⟨w.heap.size + 1, 2, none⟩ = some (.int .i64 d))) (by kernel_rfl) ⟨a0, a1, a2, b0, b1, b2⟩ (fun hH => ?_)
    refine wpAnyH_take (i := 0) (oi := _) (v := .agg #[.bool false, .int .i64 a, .int .i64 b]) rfl (by kernel_rfl) (by kernel_rfl) (by kernel_rfl) (fun _ _ _ h => h) (Or.inl ⟨by rfl, fun w' hSw => by obtain ⟨za0, za1, za2, zb0, zb1, zb2⟩ := hSw; go_simp⟩) hH ?_
    simp only [Act.put, gA, gB, gC, gD, gE, gG]
    refine wpAnyH_take (i := 1) (oi := _) (v := .pointer (some ⟨w.heap.size + 1, 2, none⟩)) rfl (by kernel_rfl) (by kernel_rfl) (by kernel_rfl) (fun _ _ _ h => h) (Or.inl ⟨by rfl, fun w' hSw => by obtain ⟨za0, za1, za2, zb0, zb1, zb2⟩ := hSw; go_simp⟩) hH ?_
    simp only [Act.put, gA, gB, gC, gD, gE, gG]
    refine wpAnyH_take (i := 2) (oi := _) (v := .int .i64 d) rfl (by kernel_rfl) (by kernel_rfl) (by kernel_rfl) (fun _ _ _ h => h) (Or.inl ⟨by rfl, fun w' hSw => by obtain ⟨za0, za1, za2, zb0, zb1, zb2⟩ := hSw; go_simp⟩) hH ?_
    simp only [Act.put, gA, gB, gC, gD, gE, gG]
    refine wpAnyH_take (i := 5) (oi := _) (v := .agg #[.bool false, .int .i64 c, .int .i64 d]) rfl (by kernel_rfl) (by kernel_rfl) (by kernel_rfl) (fun _ _ _ h => h) (Or.inl ⟨by rfl, fun w' hSw => by obtain ⟨za0, za1, za2, zb0, zb1, zb2⟩ := hSw; go_simp⟩) hH ?_
    simp only [Act.put, gA, gB, gC, gD, gE, gG]
    refine wpAnyH_take (i := 6) (oi := _) (v := .pointer (some ⟨w.heap.size, 1, none⟩)) rfl (by kernel_rfl) (by kernel_rfl) (by kernel_rfl) (fun _ _ _ h => h) (Or.inl ⟨by rfl, fun w' hSw => by obtain ⟨za0, za1, za2, zb0, zb1, zb2⟩ := hSw; go_simp⟩) hH ?_
    simp only [Act.put, gA, gB, gC, gD, gE, gG]
    refine wpAnyH_take (i := 7) (oi := _) (v := .int .i64 a) rfl (by kernel_rfl) (by kernel_rfl) (by kernel_rfl) (fun _ _ _ h => h) (Or.inl ⟨by rfl, fun w' hSw => by obtain ⟨za0, za1, za2, zb0, zb1, zb2⟩ := hSw; go_simp⟩) hH ?_
    simp only [Act.put, gA, gB, gC, gD, gE, gG]
    refine wpAnyH_ready (rs := [3]) (by kernel_rfl) (by simp) (AllReadyH.cons (o := _) rfl (fun K hK => ?_) AllReadyH.nil)
    go_simp
    refine (k1 _).mono ?_
    rintro e v1 ⟨rfl, g⟩
    replace g : Below W.heap.size W v1 := ⟨g.os, g.tape, g.output, g.size, g.block⟩; replace a0 := sO g a0; replace a1 := sO g a1; replace a2 := sO g a2; replace b0 := sO g b0; replace b1 := sO g b1; replace b2 := sO g b2; replace r0 := sO g r0; replace r1 := sO g r1; replace r2 := sO g r2; replace s0 := sO g s0; replace s1 := sO g s1; replace s2 := sO g s2; replace t0 := sO g t0; replace t1 := sO g t1; replace t2 := sO g t2; replace u0 := sO g u0; replace u1 := sO g u1; replace u2 := sO g u2; replace bW := sp_call bW g; have z_v1 := g.size; replace fr : ∀ j, v1.frozen? ⟨w.heap.size + 1 + 1, j, none⟩ = false := fun j => (g.frozen (p := ⟨w.heap.size + 1 + 1, j, none⟩) (by simp; omega)).trans (fr j); replace fs : ∀ j, v1.frozen? ⟨w.heap.size + 1 + 1 + 1, j, none⟩ = false := fun j => (g.frozen (p := ⟨w.heap.size + 1 + 1 + 1, j, none⟩) (by simp; omega)).trans (fs j); replace ft : ∀ j, v1.frozen? ⟨b10, j, none⟩ = false := fun j => (g.frozen (p := ⟨b10, j, none⟩) (by simp; omega)).trans (ft j); replace fu : ∀ j, v1.frozen? ⟨b11, j, none⟩ = false := fun j => (g.frozen (p := ⟨b11, j, none⟩) (by simp; omega)).trans (fu j); clear g
    go_wp2_with fail
    refine hK.out _ _ ⟨a0, a1, a2, b0, b1, b2⟩ (fun hH => ?_)
    clear hK K k1
    try simp only [Act.put, gA, gB, gC, gD, gE, gG]
    refine wpAnyH_ready (rs := [4]) (by kernel_rfl) (by simp) (AllReadyH.cons (o := _) rfl (fun K hK => ?_) AllReadyH.nil)
    go_simp
    refine (k2 _).mono ?_
    rintro e v2 ⟨rfl, g⟩
    replace g : Below v1.heap.size v1 v2 := ⟨g.os, g.tape, g.output, g.size, g.block⟩; replace a0 := sO g a0; replace a1 := sO g a1; replace a2 := sO g a2; replace b0 := sO g b0; replace b1 := sO g b1; replace b2 := sO g b2; replace r0 := sO g r0; replace r1 := sO g r1; replace r2 := sO g r2; replace s0 := sO g s0; replace s1 := sO g s1; replace s2 := sO g s2; replace t0 := sO g t0; replace t1 := sO g t1; replace t2 := sO g t2; replace u0 := sO g u0; replace u1 := sO g u1; replace u2 := sO g u2; replace bW := sp_call bW g; have z_v2 := g.size; replace fr : ∀ j, v2.frozen? ⟨w.heap.size + 1 + 1, j, none⟩ = false := fun j => (g.frozen (p := ⟨w.heap.size + 1 + 1, j, none⟩) (by simp; omega)).trans (fr j); replace fs : ∀ j, v2.frozen? ⟨w.heap.size + 1 + 1 + 1, j, none⟩ = false := fun j => (g.frozen (p := ⟨w.heap.size + 1 + 1 + 1, j, none⟩) (by simp; omega)).trans (fs j); replace ft : ∀ j, v2.frozen? ⟨b10, j, none⟩ = false := fun j => (g.frozen (p := ⟨b10, j, none⟩) (by simp; omega)).trans (ft j); replace fu : ∀ j, v2.frozen? ⟨b11, j, none⟩ = false := fun j => (g.frozen (p := ⟨b11, j, none⟩) (by simp; omega)).trans (fu j); clear g
    go_wp2_with fail
    refine hK.out _ _ ⟨a0, a1, a2, b0, b1, b2⟩ (fun hH => ?_)
    clear hK K k2
    try simp only [Act.put, gA, gB, gC, gD, gE, gG]
    refine wpAnyH_ready (rs := [8]) (by kernel_rfl) (by simp) (AllReadyH.cons (o := _) rfl (fun K hK => ?_) AllReadyH.nil)
    go_simp
    refine (k3 _).mono ?_
    rintro e v3 ⟨rfl, g⟩
    replace g : Below v2.heap.size v2 v3 := ⟨g.os, g.tape, g.output, g.size, g.block⟩; replace a0 := sO g a0; replace a1 := sO g a1; replace a2 := sO g a2; replace b0 := sO g b0; replace b1 := sO g b1; replace b2 := sO g b2; replace r0 := sO g r0; replace r1 := sO g r1; replace r2 := sO g r2; replace s0 := sO g s0; replace s1 := sO g s1; replace s2 := sO g s2; replace t0 := sO g t0; replace t1 := sO g t1; replace t2 := sO g t2; replace u0 := sO g u0; replace u1 := sO g u1; replace u2 := sO g u2; replace bW := sp_call bW g; have z_v3 := g.size; replace fr : ∀ j, v3.frozen? ⟨w.heap.size + 1 + 1, j, none⟩ = false := fun j => (g.frozen (p := ⟨w.heap.size + 1 + 1, j, none⟩) (by simp; omega)).trans (fr j); replace fs : ∀ j, v3.frozen? ⟨w.heap.size + 1 + 1 + 1, j, none⟩ = false := fun j => (g.frozen (p := ⟨w.heap.size + 1 + 1 + 1, j, none⟩) (by simp; omega)).trans (fs j); replace ft : ∀ j, v3.frozen? ⟨b10, j, none⟩ = false := fun j => (g.frozen (p := ⟨b10, j, none⟩) (by simp; omega)).trans (ft j); replace fu : ∀ j, v3.frozen? ⟨b11, j, none⟩ = false := fun j => (g.frozen (p := ⟨b11, j, none⟩) (by simp; omega)).trans (fu j); clear g
    go_wp2_with fail
    refine hK.out _ _ ⟨a0, a1, a2, b0, b1, b2⟩ (fun hH => ?_)
    clear hK K k3
    try simp only [Act.put, gA, gB, gC, gD, gE, gG]
    refine wpAnyH_ready (rs := [9]) (by kernel_rfl) (by simp) (AllReadyH.cons (o := _) rfl (fun K hK => ?_) AllReadyH.nil)
    go_simp
    refine (k4 _).mono ?_
    rintro e v4 ⟨rfl, g⟩
    replace g : Below v3.heap.size v3 v4 := ⟨g.os, g.tape, g.output, g.size, g.block⟩; replace a0 := sO g a0; replace a1 := sO g a1; replace a2 := sO g a2; replace b0 := sO g b0; replace b1 := sO g b1; replace b2 := sO g b2; replace r0 := sO g r0; replace r1 := sO g r1; replace r2 := sO g r2; replace s0 := sO g s0; replace s1 := sO g s1; replace s2 := sO g s2; replace t0 := sO g t0; replace t1 := sO g t1; replace t2 := sO g t2; replace u0 := sO g u0; replace u1 := sO g u1; replace u2 := sO g u2; replace bW := sp_call bW g; have z_v4 := g.size; replace fr : ∀ j, v4.frozen? ⟨w.heap.size + 1 + 1, j, none⟩ = false := fun j => (g.frozen (p := ⟨w.heap.size + 1 + 1, j, none⟩) (by simp; omega)).trans (fr j); replace fs : ∀ j, v4.frozen? ⟨w.heap.size + 1 + 1 + 1, j, none⟩ = false := fun j => (g.frozen (p := ⟨w.heap.size + 1 + 1 + 1, j, none⟩) (by simp; omega)).trans (fs j); replace ft : ∀ j, v4.frozen? ⟨b10, j, none⟩ = false := fun j => (g.frozen (p := ⟨b10, j, none⟩) (by simp; omega)).trans (ft j); replace fu : ∀ j, v4.frozen? ⟨b11, j, none⟩ = false := fun j => (g.frozen (p := ⟨b11, j, none⟩) (by simp; omega)).trans (fu j); clear g
    go_wp2_with fail
    refine hK.out _ _ ⟨a0, a1, a2, b0, b1, b2⟩ (fun hH => ?_)
    clear hK K k4
    try simp only [Act.put, gA, gB, gC, gD, gE, gG]
    refine wpAnyH_ready (rs := [10]) (by kernel_rfl) (by simp) (AllReadyH.cons (o := _) rfl (fun K hK => ?_) AllReadyH.nil)
    go_simp
    refine hK.out _ _ ⟨(sp_keep3 a0 (by omega) _ _ _), (sp_keep3 a1 (by omega) _ _ _), (sp_keep3 a2 (by omega) _ _ _), (sp_keep3 b0 (by omega) _ _ _), (sp_keep3 b1 (by omega) _ _ _), (sp_keep3 b2 (by omega) _ _ _)⟩ (fun hH => ?_)
    clear hK K
    try simp only [Act.put, gA, gB, gC, gD, gE, gG]
    refine wpAnyH_ready (rs := [11]) (by kernel_rfl) (by simp) (AllReadyH.cons (o := _) rfl (fun K hK => ?_) AllReadyH.nil)
    go_simp
    refine hK.out _ _ ⟨(sp_keep3 (sp_keep3 a0 (by omega) _ _ _) (by omega) _ _ _), (sp_keep3 (sp_keep3 a1 (by omega) _ _ _) (by omega) _ _ _), (sp_keep3 (sp_keep3 a2 (by omega) _ _ _) (by omega) _ _ _), (sp_keep3 (sp_keep3 b0 (by omega) _ _ _) (by omega) _ _ _), (sp_keep3 (sp_keep3 b1 (by omega) _ _ _) (by omega) _ _ _), (sp_keep3 (sp_keep3 b2 (by omega) _ _ _) (by omega) _ _ _)⟩ (fun hH => ?_)
    clear hK K
    try simp only [Act.put, gA, gB, gC, gD, gE, gG]
    refine wpAnyH_done (by kernel_rfl) ?_ _
    obtain ⟨W6, hW⟩ : ∃ W6, (((v4.setCell ⟨b10, 0, none⟩ (.bool pe)).setCell ⟨b10, 1, none⟩ (.int .i64 pl)).setCell ⟨b10, 2, none⟩ (.int .i64 ph)) = W6 := ⟨_, rfl⟩
    replace t0 : W6.cell? ⟨b10, 0, none⟩ = some (.bool pe) := by rw [← hW]; simp [go_sem, t0, t1, t2]
    replace t1 : W6.cell? ⟨b10, 1, none⟩ = some (.int .i64 pl) := by rw [← hW]; simp [go_sem, t1, t2]
    replace t2 : W6.cell? ⟨b10, 2, none⟩ = some (.int .i64 ph) := by rw [← hW]; simp [go_sem, t2]
    replace a0 := hW ▸ sp_keep3 (b := b10) a0 (by omega) (.bool pe) (.int .i64 pl) (.int .i64 ph)
    replace a1 := hW ▸ sp_keep3 (b := b10) a1 (by omega) (.bool pe) (.int .i64 pl) (.int .i64 ph)
    replace a2 := hW ▸ sp_keep3 (b := b10) a2 (by omega) (.bool pe) (.int .i64 pl) (.int .i64 ph)
    replace b0 := hW ▸ sp_keep3 (b := b10) b0 (by omega) (.bool pe) (.int .i64 pl) (.int .i64 ph)
    replace b1 := hW ▸ sp_keep3 (b := b10) b1 (by omega) (.bool pe) (.int .i64 pl) (.int .i64 ph)
    replace b2 := hW ▸ sp_keep3 (b := b10) b2 (by omega) (.bool pe) (.int .i64 pl) (.int .i64 ph)
    replace r0 := hW ▸ sp_keep3 (b := b10) r0 (by omega) (.bool pe) (.int .i64 pl) (.int .i64 ph)
    replace r1 := hW ▸ sp_keep3 (b := b10) r1 (by omega) (.bool pe) (.int .i64 pl) (.int .i64 ph)
    replace r2 := hW ▸ sp_keep3 (b := b10) r2 (by omega) (.bool pe) (.int .i64 pl) (.int .i64 ph)
    replace s0 := hW ▸ sp_keep3 (b := b10) s0 (by omega) (.bool pe) (.int .i64 pl) (.int .i64 ph)
    replace s1 := hW ▸ sp_keep3 (b := b10) s1 (by omega) (.bool pe) (.int .i64 pl) (.int .i64 ph)
    replace s2 := hW ▸ sp_keep3 (b := b10) s2 (by omega) (.bool pe) (.int .i64 pl) (.int .i64 ph)
    replace u0 := hW ▸ sp_keep3 (b := b10) u0 (by omega) (.bool pe) (.int .i64 pl) (.int .i64 ph)
    replace u1 := hW ▸ sp_keep3 (b := b10) u1 (by omega) (.bool pe) (.int .i64 pl) (.int .i64 ph)
    replace u2 := hW ▸ sp_keep3 (b := b10) u2 (by omega) (.bool pe) (.int .i64 pl) (.int .i64 ph)
    replace fr : ∀ j, W6.frozen? ⟨w.heap.size + 1 + 1, j, none⟩ = false := by intro j; rw [← hW]; simp [go_sem, fr]
    replace fs : ∀ j, W6.frozen? ⟨w.heap.size + 1 + 1 + 1, j, none⟩ = false := by intro j; rw [← hW]; simp [go_sem, fs]
    replace ft : ∀ j, W6.frozen? ⟨b10, j, none⟩ = false := by intro j; rw [← hW]; simp [go_sem, ft]
    replace fu : ∀ j, W6.frozen? ⟨b11, j, none⟩ = false := by intro j; rw [← hW]; simp [go_sem, fu]
    replace bW : Below w.heap.size w W6 := by rw [← hW]; (repeat (first | with_reducible exact bW | with_reducible refine rt_dr ?_ | with_reducible refine rt_st ?_ (by omega) _))
    have zs_W6 : W6.heap.size = v4.heap.size := by rw [← hW]; simp
    rw [hW]
    clear hW
    obtain ⟨W7, hW⟩ : ∃ W7, (((W6.setCell ⟨b11, 0, none⟩ (.bool qe)).setCell ⟨b11, 1, none⟩ (.int .i64 ql)).setCell ⟨b11, 2, none⟩ (.int .i64 qh)) = W7 := ⟨_, rfl⟩
    replace u0 : W7.cell? ⟨b11, 0, none⟩ = some (.bool qe) := by rw [← hW]; simp [go_sem, u0, u1, u2]
    replace u1 : W7.cell? ⟨b11, 1, none⟩ = some (.int .i64 ql) := by rw [← hW]; simp [go_sem, u1, u2]
    replace u2 : W7.cell? ⟨b11, 2, none⟩ = some (.int .i64 qh) := by rw [← hW]; simp [go_sem, u2]
    replace a0 := hW ▸ sp_keep3 (b := b11) a0 (by omega) (.bool qe) (.int .i64 ql) (.int .i64 qh)
    replace a1 := hW ▸ sp_keep3 (b := b11) a1 (by omega) (.bool qe) (.int .i64 ql) (.int .i64 qh)
    replace a2 := hW ▸ sp_keep3 (b := b11) a2 (by omega) (.bool qe) (.int .i64 ql) (.int .i64 qh)
    replace b0 := hW ▸ sp_keep3 (b := b11) b0 (by omega) (.bool qe) (.int .i64 ql) (.int .i64 qh)
    replace b1 := hW ▸ sp_keep3 (b := b11) b1 (by omega) (.bool qe) (.int .i64 ql) (.int .i64 qh)
    replace b2 := hW ▸ sp_keep3 (b := b11) b2 (by omega) (.bool qe) (.int .i64 ql) (.int .i64 qh)
    replace r0 := hW ▸ sp_keep3 (b := b11) r0 (by omega) (.bool qe) (.int .i64 ql) (.int .i64 qh)
    replace r1 := hW ▸ sp_keep3 (b := b11) r1 (by omega) (.bool qe) (.int .i64 ql) (.int .i64 qh)
    replace r2 := hW ▸ sp_keep3 (b := b11) r2 (by omega) (.bool qe) (.int .i64 ql) (.int .i64 qh)
    replace s0 := hW ▸ sp_keep3 (b := b11) s0 (by omega) (.bool qe) (.int .i64 ql) (.int .i64 qh)
    replace s1 := hW ▸ sp_keep3 (b := b11) s1 (by omega) (.bool qe) (.int .i64 ql) (.int .i64 qh)
    replace s2 := hW ▸ sp_keep3 (b := b11) s2 (by omega) (.bool qe) (.int .i64 ql) (.int .i64 qh)
    replace t0 := hW ▸ sp_keep3 (b := b11) t0 (by omega) (.bool qe) (.int .i64 ql) (.int .i64 qh)
    replace t1 := hW ▸ sp_keep3 (b := b11) t1 (by omega) (.bool qe) (.int .i64 ql) (.int .i64 qh)
    replace t2 := hW ▸ sp_keep3 (b := b11) t2 (by omega) (.bool qe) (.int .i64 ql) (.int .i64 qh)
    replace fr : ∀ j, W7.frozen? ⟨w.heap.size + 1 + 1, j, none⟩ = false := by intro j; rw [← hW]; simp [go_sem, fr]
    replace fs : ∀ j, W7.frozen? ⟨w.heap.size + 1 + 1 + 1, j, none⟩ = false := by intro j; rw [← hW]; simp [go_sem, fs]
    replace ft : ∀ j, W7.frozen? ⟨b10, j, none⟩ = false := by intro j; rw [← hW]; simp [go_sem, ft]
    replace fu : ∀ j, W7.frozen? ⟨b11, j, none⟩ = false := by intro j; rw [← hW]; simp [go_sem, fu]
    replace bW : Below w.heap.size w W7 := by rw [← hW]; (repeat (first | with_reducible exact bW | with_reducible refine rt_dr ?_ | with_reducible refine rt_st ?_ (by omega) _))
    have zs_W7 : W7.heap.size = W6.heap.size := by rw [← hW]; simp
    rw [hW]
    clear hW
    go_wp2_with fail
    go_meet
    exact ⟨_, rfl, rfl, rfl, r0, r1, r2, s0, s1, s2, t0, t1, t2, u0, u1, u2, fr, fs, by omega, bW⟩
   case rest =>
    try clear he hl hh
    clear a0 a1 a2 b0 b1 b2 r0 r1 r2 s0 s1 s2 t0 t1 t2 u0 u1 u2 fr fs ft fu bW z4 z5
    obtain ⟨X, rfl, rfl, rfl, r0, r1, r2, s0, s1, s2, t0, t1, t2, u0, u1, u2, fr, fs, zX, bW⟩ := hcut
    cases pe
    · cases qe
      · go_upto_region 24 with fail
        go_region
        all_goals go_wp2_with fail
        all_goals exact bodyPost_ret (v := .tuple #[.agg #[.bool false, .int .i64 pl, .int .i64 ph], .agg #[.bool false, .int .i64 ql, .int .i64 qh]]) (by simp [results, Tryz.results67, go_sem, r0, r1, r2, s0, s1, s2]) rfl ⟨by simp, by (repeat (first | with_reducible exact bW | with_reducible refine rt_dr ?_ | with_reducible refine rt_st ?_ (by omega) _))⟩
      · go_wp2_with (first
          | (go_at_call 113; refine (hn _).mono ?_; rintro e vn ⟨rfl, g⟩; replace r0 := sO g r0; replace r1 := sO g r1; replace r2 := sO g r2; replace s0 := sO g s0; replace s1 := sO g s1; replace s2 := sO g s2; replace bW := sp_call bW g; have z_vn := g.size; replace fr : ∀ j, vn.frozen? ⟨w.heap.size + 1 + 1, j, none⟩ = false := fun j => (g.frozen (p := ⟨w.heap.size + 1 + 1, j, none⟩) (by simp; omega)).trans (fr j); replace fs : ∀ j, vn.frozen? ⟨w.heap.size + 1 + 1 + 1, j, none⟩ = false := fun j => (g.frozen (p := ⟨w.heap.size + 1 + 1 + 1, j, none⟩) (by simp; omega)).trans (fs j); clear g; clear hn)
          | (go_at_call 113; refine (hn2 _).mono ?_; rintro e vn2 ⟨rfl, g⟩; replace r0 := sO g r0; replace r1 := sO g r1; replace r2 := sO g r2; replace s0 := sO g s0; replace s1 := sO g s1; replace s2 := sO g s2; replace bW := sp_call bW g; have z_vn2 := g.size; replace fr : ∀ j, vn2.frozen? ⟨w.heap.size + 1 + 1, j, none⟩ = false := fun j => (g.frozen (p := ⟨w.heap.size + 1 + 1, j, none⟩) (by simp; omega)).trans (fr j); replace fs : ∀ j, vn2.frozen? ⟨w.heap.size + 1 + 1 + 1, j, none⟩ = false := fun j => (g.frozen (p := ⟨w.heap.size + 1 + 1 + 1, j, none⟩) (by simp; omega)).trans (fs j); clear g; clear hn2)
          | fail)
        exact bodyPost_ret (v := .tuple #[.agg #[.bool true, .int .i64 0, .int .i64 0], .agg #[.bool true, .int .i64 0, .int .i64 0]]) (by simp [results, Tryz.results67, go_sem, r0, r1, r2, s0, s1, s2]) rfl ⟨by simp, by (repeat (first | with_reducible exact bW | with_reducible refine rt_dr ?_ | with_reducible refine rt_st ?_ (by omega) _))⟩
    · go_wp2_with (first
        | (go_at_call 113; refine (hn _).mono ?_; rintro e vn ⟨rfl, g⟩; replace r0 := sO g r0; replace r1 := sO g r1; replace r2 := sO g r2; replace s0 := sO g s0; replace s1 := sO g s1; replace s2 := sO g s2; replace bW := sp_call bW g; have z_vn := g.size; replace fr : ∀ j, vn.frozen? ⟨w.heap.size + 1 + 1, j, none⟩ = false := fun j => (g.frozen (p := ⟨w.heap.size + 1 + 1, j, none⟩) (by simp; omega)).trans (fr j); replace fs : ∀ j, vn.frozen? ⟨w.heap.size + 1 + 1 + 1, j, none⟩ = false := fun j => (g.frozen (p := ⟨w.heap.size + 1 + 1 + 1, j, none⟩) (by simp; omega)).trans (fs j); clear g; clear hn)
        | (go_at_call 113; refine (hn2 _).mono ?_; rintro e vn2 ⟨rfl, g⟩; replace r0 := sO g r0; replace r1 := sO g r1; replace r2 := sO g r2; replace s0 := sO g s0; replace s1 := sO g s1; replace s2 := sO g s2; replace bW := sp_call bW g; have z_vn2 := g.size; replace fr : ∀ j, vn2.frozen? ⟨w.heap.size + 1 + 1, j, none⟩ = false := fun j => (g.frozen (p := ⟨w.heap.size + 1 + 1, j, none⟩) (by simp; omega)).trans (fr j); replace fs : ∀ j, vn2.frozen? ⟨w.heap.size + 1 + 1 + 1, j, none⟩ = false := fun j => (g.frozen (p := ⟨w.heap.size + 1 + 1 + 1, j, none⟩) (by simp; omega)).trans (fs j); clear g; clear hn2)
        | fail)
      exact bodyPost_ret (v := .tuple #[.agg #[.bool true, .int .i64 0, .int .i64 0], .agg #[.bool true, .int .i64 0, .int .i64 0]]) (by simp [results, Tryz.results67, go_sem, r0, r1, r2, s0, s1, s2]) rfl ⟨by simp, by (repeat (first | with_reducible exact bW | with_reducible refine rt_dr ?_ | with_reducible refine rt_st ?_ (by omega) _))⟩
set_option maxRecDepth 100000 in
set_option maxHeartbeats 6400000 in
theorem rt_gt (a b c d : Int) (pe qe : Bool) (pl ph ql qh : Int) (da : -2147483648 ≤ a) (da2 : a ≤ 2147483647) (db : -2147483648 ≤ b) (db2 : b ≤ 2147483647) (dc : -2147483648 ≤ c) (dc2 : c ≤ 2147483647) (dd : -2147483648 ≤ d) (dd2 : d ≤ 2147483647) (xe ye : Bool) (xl xh yl yh : Int) (k1 : ∀ V, Calls Tryz.prog 49 #[.int .i64 (c + 1), .int .i64 2147483647] V fun e w' => e = .returned (.agg #[.bool xe, .int .i64 xl, .int .i64 xh]) ∧ Below V.heap.size V w') (k2 : ∀ V, Calls Tryz.prog 55 #[.agg #[.bool false, .int .i64 a, .int .i64 b], .agg #[.bool xe, .int .i64 xl, .int .i64 xh]] V fun e w' => e = .returned (.agg #[.bool pe, .int .i64 pl, .int .i64 ph]) ∧ Below V.heap.size V w') (k3 : ∀ V, Calls Tryz.prog 49 #[.int .i64 (-2147483648), .int .i64 (b - 1)] V fun e w' => e = .returned (.agg #[.bool ye, .int .i64 yl, .int .i64 yh]) ∧ Below V.heap.size V w') (k4 : ∀ V, Calls Tryz.prog 55 #[.agg #[.bool false, .int .i64 c, .int .i64 d], .agg #[.bool ye, .int .i64 yl, .int .i64 yh]] V fun e w' => e = .returned (.agg #[.bool qe, .int .i64 ql, .int .i64 qh]) ∧ Below V.heap.size V w') (w : World) :
    Calls Tryz.prog 67 #[.int .i64 14, .agg #[.bool false, .int .i64 a, .int .i64 b], .agg #[.bool false, .int .i64 c, .int .i64 d]] w fun e w' => e = .returned (.tuple #[.agg #[.bool (bothP (pe, pl, ph) (qe, ql, qh)).1.1, .int .i64 (bothP (pe, pl, ph) (qe, ql, qh)).1.2.1, .int .i64 (bothP (pe, pl, ph) (qe, ql, qh)).1.2.2], .agg #[.bool (bothP (pe, pl, ph) (qe, ql, qh)).2.1, .int .i64 (bothP (pe, pl, ph) (qe, ql, qh)).2.2.1, .int .i64 (bothP (pe, pl, ph) (qe, ql, qh)).2.2.2]]) ∧ Below w.heap.size w w' := by
  have hn : ∀ V, Calls Tryz.prog 113 #[] V fun e w' => e = .returned (.agg #[.bool true, .int .i64 0, .int .i64 0]) ∧ Below V.heap.size V w' := fun V => (rnoneI V).mono fun e w' h => ⟨h.1, by rw [h.2]; exact sp_new (Below.refl _ _) _⟩
  have hn2 := hn
  unfold bothP
  dsimp only
  go_enter Tryz.func67, Tryz.ntmps67
  go_upto_region 5 with fail
  go_cut [8, 9] from 26 to 27 (fun s u X => ∃ (W : World) (b10 b11 : Nat), W = X ∧ s = .pointer (some ⟨b10, 0, none⟩) ∧ u = .pointer (some ⟨b11, 0, none⟩) ∧ w.heap.size + 4 ≤ b10 ∧ w.heap.size + 4 ≤ b11 ∧ b10 ≠ b11 ∧ b10 < X.heap.size ∧ b11 < X.heap.size ∧ X.cell? ⟨w.heap.size, 0, none⟩ = some (.bool false) ∧ X.cell? ⟨w.heap.size, 1, none⟩ = some (.int .i64 a) ∧ X.cell? ⟨w.heap.size, 2, none⟩ = some (.int .i64 b) ∧ X.cell? ⟨w.heap.size + 1, 0, none⟩ = some (.bool false) ∧ X.cell? ⟨w.heap.size + 1, 1, none⟩ = some (.int .i64 c) ∧ X.cell? ⟨w.heap.size + 1, 2, none⟩ = some (.int .i64 d) ∧ X.cell? ⟨w.heap.size + 1 + 1, 0, none⟩ = some (.bool false) ∧ X.cell? ⟨w.heap.size + 1 + 1, 1, none⟩ = some (.int .i64 0) ∧ X.cell? ⟨w.heap.size + 1 + 1, 2, none⟩ = some (.int .i64 0) ∧ X.cell? ⟨w.heap.size + 1 + 1 + 1, 0, none⟩ = some (.bool false) ∧ X.cell? ⟨w.heap.size + 1 + 1 + 1, 1, none⟩ = some (.int .i64 0) ∧ X.cell? ⟨w.heap.size + 1 + 1 + 1, 2, none⟩ = some (.int .i64 0) ∧ X.cell? ⟨b10, 0, none⟩ = some (.bool false) ∧ X.cell? ⟨b10, 1, none⟩ = some (.int .i64 a) ∧ X.cell? ⟨b10, 2, none⟩ = some (.int .i64 b) ∧ X.cell? ⟨b11, 0, none⟩ = some (.bool false) ∧ X.cell? ⟨b11, 1, none⟩ = some (.int .i64 c) ∧ X.cell? ⟨b11, 2, none⟩ = some (.int .i64 d) ∧ (∀ j, X.frozen? ⟨w.heap.size + 1 + 1, j, none⟩ = false) ∧ (∀ j, X.frozen? ⟨w.heap.size + 1 + 1 + 1, j, none⟩ = false) ∧ (∀ j, X.frozen? ⟨b10, j, none⟩ = false) ∧ (∀ j, X.frozen? ⟨b11, j, none⟩ = false) ∧ Below w.heap.size w X)
  case first =>
   go_region
   all_goals go_wp2_with fail
   all_goals go_meet
   all_goals exact ⟨_, _, _, rfl, rfl, rfl, by simp, by simp, by simp, by simp, by simp, by simp [go_sem], by simp [go_sem], by simp [go_sem], by simp [go_sem], by simp [go_sem], by simp [go_sem], by simp [go_sem], by simp [go_sem], by simp [go_sem], by simp [go_sem], by simp [go_sem], by simp [go_sem], by simp [go_sem], by simp [go_sem], by simp [go_sem], by simp [go_sem], by simp [go_sem], by simp [go_sem], by intro j; simp [go_sem], by intro j; simp [go_sem], by intro j; simp [go_sem], by intro j; simp [go_sem], by (repeat (first | exact Below.refl _ _ | with_reducible refine sp_new ?_ _ | with_reducible refine rt_dr ?_ | with_reducible refine rt_st ?_ (by simp; try omega) _))⟩
  case rest =>
   obtain ⟨W, b10, b11, rfl, rfl, rfl, z1, z2, z3, z4, z5, a0, a1, a2, b0, b1, b2, r0, r1, r2, s0, s1, s2, t0, t1, t2, u0, u1, u2, fr, fs, ft, fu, bW⟩ := hcut
   rename_i K1 hK1
   refine hK1 _ _ ?_
   clear hK1
   go_step
   go_cut [8, 9] from 28 to 104 (fun s u X => ∃ W2 : World, W2 = X ∧ s = .pointer (some ⟨b10, 0, none⟩) ∧ u = .pointer (some ⟨b11, 0, none⟩) ∧ X.cell? ⟨w.heap.size + 1 + 1, 0, none⟩ = some (.bool false) ∧ X.cell? ⟨w.heap.size + 1 + 1, 1, none⟩ = some (.int .i64 0) ∧ X.cell? ⟨w.heap.size + 1 + 1, 2, none⟩ = some (.int .i64 0) ∧ X.cell? ⟨w.heap.size + 1 + 1 + 1, 0, none⟩ = some (.bool false) ∧ X.cell? ⟨w.heap.size + 1 + 1 + 1, 1, none⟩ = some (.int .i64 0) ∧ X.cell? ⟨w.heap.size + 1 + 1 + 1, 2, none⟩ = some (.int .i64 0) ∧ X.cell? ⟨b10, 0, none⟩ = some (.bool pe) ∧ X.cell? ⟨b10, 1, none⟩ = some (.int .i64 pl) ∧ X.cell? ⟨b10, 2, none⟩ = some (.int .i64 ph) ∧ X.cell? ⟨b11, 0, none⟩ = some (.bool qe) ∧ X.cell? ⟨b11, 1, none⟩ = some (.int .i64 ql) ∧ X.cell? ⟨b11, 2, none⟩ = some (.int .i64 qh) ∧ (∀ j, X.frozen? ⟨w.heap.size + 1 + 1, j, none⟩ = false) ∧ (∀ j, X.frozen? ⟨w.heap.size + 1 + 1 + 1, j, none⟩ = false) ∧ w.heap.size + 4 ≤ X.heap.size ∧ Below w.heap.size w X)
   case first =>
    go_upto_region 16 with fail
    refine wp_region_held_drew (S := (fun w' => w'.cell? ⟨w.heap.size, 0, none⟩ = some (.bool false) ∧ w'.cell? ⟨w.heap.size, 1, none⟩ = some (.int .i64 a) ∧ w'.cell? ⟨w.heap.size, 2, none⟩ = some (.int .i64 b) ∧ w'.cell? ⟨w.heap.size + 1, 0, none⟩ = some (.bool false) ∧ w'.cell? ⟨w.heap.size + 1, 1, none⟩ = some (.int .i64 c) ∧ w'.cell? ⟨w.heap.size + 1, 2, none⟩ = some (.int .i64 d))) (by kernel_rfl) ⟨a0, a1, a2, b0, b1, b2⟩ (fun hH => ?_)
    refine wpAnyH_take (i := 0) (oi := _) (v := .agg #[.bool false, .int .i64 a, .int .i64 b]) rfl (by kernel_rfl) (by kernel_rfl) (by kernel_rfl) (fun _ _ _ h => h) (Or.inl ⟨by rfl, fun w' hSw => by obtain ⟨za0, za1, za2, zb0, zb1, zb2⟩ := hSw; go_simp⟩) hH ?_
    simp only [Act.put, gA, gB, gC, gD, gE, gG]
    refine wpAnyH_take (i := 1) (oi := _) (v := .pointer (some ⟨w.heap.size + 1, 1, none⟩)) rfl (by kernel_rfl) (by kernel_rfl) (by kernel_rfl) (fun _ _ _ h => h) (Or.inl ⟨by rfl, fun w' hSw => by obtain ⟨za0, za1, za2, zb0, zb1, zb2⟩ := hSw; go_simp⟩) hH ?_
    simp only [Act.put, gA, gB, gC, gD, gE, gG]
    refine wpAnyH_take (i := 2) (oi := _) (v := .int .i64 c) rfl (by kernel_rfl) (by kernel_rfl) (by kernel_rfl) (fun _ _ _ h => h) (Or.inl ⟨by rfl, fun w' hSw => by obtain ⟨za0, za1, za2, zb0, zb1, zb2⟩ := hSw; go_simp⟩) hH ?_
    simp only [Act.put, gA, gB, gC, gD, gE, gG]
    refine wpAnyH_take (i := 3) (oi := _) (v := .int .i64 (c + 1)) rfl (by kernel_rfl) (by kernel_rfl) (by kernel_rfl) (fun _ _ _ h => h) (Or.inl ⟨by rfl, fun w' hSw => by obtain ⟨za0, za1, za2, zb0, zb1, zb2⟩ := hSw; go_simp; rw [IntKind.wrap_i64]; omega⟩) hH ?_
    simp only [Act.put, gA, gB, gC, gD, gE, gG]
    refine wpAnyH_take (i := 6) (oi := _) (v := .agg #[.bool false, .int .i64 c, .int .i64 d]) rfl (by kernel_rfl) (by kernel_rfl) (by kernel_rfl) (fun _ _ _ h => h) (Or.inl ⟨by rfl, fun w' hSw => by obtain ⟨za0, za1, za2, zb0, zb1, zb2⟩ := hSw; go_simp⟩) hH ?_
    simp only [Act.put, gA, gB, gC, gD, gE, gG]
    refine wpAnyH_take (i := 7) (oi := _) (v := .pointer (some ⟨w.heap.size, 2, none⟩)) rfl (by kernel_rfl) (by kernel_rfl) (by kernel_rfl) (fun _ _ _ h => h) (Or.inl ⟨by rfl, fun w' hSw => by obtain ⟨za0, za1, za2, zb0, zb1, zb2⟩ := hSw; go_simp⟩) hH ?_
    simp only [Act.put, gA, gB, gC, gD, gE, gG]
    refine wpAnyH_take (i := 8) (oi := _) (v := .int .i64 b) rfl (by kernel_rfl) (by kernel_rfl) (by kernel_rfl) (fun _ _ _ h => h) (Or.inl ⟨by rfl, fun w' hSw => by obtain ⟨za0, za1, za2, zb0, zb1, zb2⟩ := hSw; go_simp⟩) hH ?_
    simp only [Act.put, gA, gB, gC, gD, gE, gG]
    refine wpAnyH_take (i := 9) (oi := _) (v := .int .i64 (b - 1)) rfl (by kernel_rfl) (by kernel_rfl) (by kernel_rfl) (fun _ _ _ h => h) (Or.inl ⟨by rfl, fun w' hSw => by obtain ⟨za0, za1, za2, zb0, zb1, zb2⟩ := hSw; go_simp; rw [IntKind.wrap_i64]; omega⟩) hH ?_
    simp only [Act.put, gA, gB, gC, gD, gE, gG]
    refine wpAnyH_ready (rs := [4]) (by kernel_rfl) (by simp) (AllReadyH.cons (o := _) rfl (fun K hK => ?_) AllReadyH.nil)
    go_simp
    refine (k1 _).mono ?_
    rintro e v1 ⟨rfl, g⟩
    replace g : Below W.heap.size W v1 := ⟨g.os, g.tape, g.output, g.size, g.block⟩; replace a0 := sO g a0; replace a1 := sO g a1; replace a2 := sO g a2; replace b0 := sO g b0; replace b1 := sO g b1; replace b2 := sO g b2; replace r0 := sO g r0; replace r1 := sO g r1; replace r2 := sO g r2; replace s0 := sO g s0; replace s1 := sO g s1; replace s2 := sO g s2; replace t0 := sO g t0; replace t1 := sO g t1; replace t2 := sO g t2; replace u0 := sO g u0; replace u1 := sO g u1; replace u2 := sO g u2; replace bW := sp_call bW g; have z_v1 := g.size; replace fr : ∀ j, v1.frozen? ⟨w.heap.size + 1 + 1, j, none⟩ = false := fun j => (g.frozen (p := ⟨w.heap.size + 1 + 1, j, none⟩) (by simp; omega)).trans (fr j); replace fs : ∀ j, v1.frozen? ⟨w.heap.size + 1 + 1 + 1, j, none⟩ = false := fun j => (g.frozen (p := ⟨w.heap.size + 1 + 1 + 1, j, none⟩) (by simp; omega)).trans (fs j); replace ft : ∀ j, v1.frozen? ⟨b10, j, none⟩ = false := fun j => (g.frozen (p := ⟨b10, j, none⟩) (by simp; omega)).trans (ft j); replace fu : ∀ j, v1.frozen? ⟨b11, j, none⟩ = false := fun j => (g.frozen (p := ⟨b11, j, none⟩) (by simp; omega)).trans (fu j); clear g
    go_wp2_with fail
    refine hK.out _ _ ⟨a0, a1, a2, b0, b1, b2⟩ (fun hH => ?_)
    clear hK K k1
    try simp only [Act.put, gA, gB, gC, gD, gE, gG]
    refine wpAnyH_ready (rs := [5]) (by kernel_rfl) (by simp) (AllReadyH.cons (o := _) rfl (fun K hK => ?_) AllReadyH.nil)
    go_simp
    refine (k2 _).mono ?_
    rintro e v2 ⟨rfl, g⟩
    replace g : Below v1.heap.size v1 v2 := ⟨g.os, g.tape, g.output, g.size, g.block⟩; replace a0 := sO g a0; replace a1 := sO g a1; replace a2 := sO g a2; replace b0 := sO g b0; replace b1 := sO g b1; replace b2 := sO g b2; replace r0 := sO g r0; replace r1 := sO g r1; replace r2 := sO g r2; replace s0 := sO g s0; replace s1 := sO g s1; replace s2 := sO g s2; replace t0 := sO g t0; replace t1 := sO g t1; replace t2 := sO g t2; replace u0 := sO g u0; replace u1 := sO g u1; replace u2 := sO g u2; replace bW := sp_call bW g; have z_v2 := g.size; replace fr : ∀ j, v2.frozen? ⟨w.heap.size + 1 + 1, j, none⟩ = false := fun j => (g.frozen (p := ⟨w.heap.size + 1 + 1, j, none⟩) (by simp; omega)).trans (fr j); replace fs : ∀ j, v2.frozen? ⟨w.heap.size + 1 + 1 + 1, j, none⟩ = false := fun j => (g.frozen (p := ⟨w.heap.size + 1 + 1 + 1, j, none⟩) (by simp; omega)).trans (fs j); replace ft : ∀ j, v2.frozen? ⟨b10, j, none⟩ = false := fun j => (g.frozen (p := ⟨b10, j, none⟩) (by simp; omega)).trans (ft j); replace fu : ∀ j, v2.frozen? ⟨b11, j, none⟩ = false := fun j => (g.frozen (p := ⟨b11, j, none⟩) (by simp; omega)).trans (fu j); clear g
    go_wp2_with fail
    refine hK.out _ _ ⟨a0, a1, a2, b0, b1, b2⟩ (fun hH => ?_)
    clear hK K k2
    try simp only [Act.put, gA, gB, gC, gD, gE, gG]
    refine wpAnyH_ready (rs := [10]) (by kernel_rfl) (by simp) (AllReadyH.cons (o := _) rfl (fun K hK => ?_) AllReadyH.nil)
    go_simp
    refine (k3 _).mono ?_
    rintro e v3 ⟨rfl, g⟩
    replace g : Below v2.heap.size v2 v3 := ⟨g.os, g.tape, g.output, g.size, g.block⟩; replace a0 := sO g a0; replace a1 := sO g a1; replace a2 := sO g a2; replace b0 := sO g b0; replace b1 := sO g b1; replace b2 := sO g b2; replace r0 := sO g r0; replace r1 := sO g r1; replace r2 := sO g r2; replace s0 := sO g s0; replace s1 := sO g s1; replace s2 := sO g s2; replace t0 := sO g t0; replace t1 := sO g t1; replace t2 := sO g t2; replace u0 := sO g u0; replace u1 := sO g u1; replace u2 := sO g u2; replace bW := sp_call bW g; have z_v3 := g.size; replace fr : ∀ j, v3.frozen? ⟨w.heap.size + 1 + 1, j, none⟩ = false := fun j => (g.frozen (p := ⟨w.heap.size + 1 + 1, j, none⟩) (by simp; omega)).trans (fr j); replace fs : ∀ j, v3.frozen? ⟨w.heap.size + 1 + 1 + 1, j, none⟩ = false := fun j => (g.frozen (p := ⟨w.heap.size + 1 + 1 + 1, j, none⟩) (by simp; omega)).trans (fs j); replace ft : ∀ j, v3.frozen? ⟨b10, j, none⟩ = false := fun j => (g.frozen (p := ⟨b10, j, none⟩) (by simp; omega)).trans (ft j); replace fu : ∀ j, v3.frozen? ⟨b11, j, none⟩ = false := fun j => (g.frozen (p := ⟨b11, j, none⟩) (by simp; omega)).trans (fu j); clear g
    go_wp2_with fail
    refine hK.out _ _ ⟨a0, a1, a2, b0, b1, b2⟩ (fun hH => ?_)
    clear hK K k3
    try simp only [Act.put, gA, gB, gC, gD, gE, gG]
    refine wpAnyH_ready (rs := [11]) (by kernel_rfl) (by simp) (AllReadyH.cons (o := _) rfl (fun K hK => ?_) AllReadyH.nil)
    go_simp
    refine (k4 _).mono ?_
    rintro e v4 ⟨rfl, g⟩
    replace g : Below v3.heap.size v3 v4 := ⟨g.os, g.tape, g.output, g.size, g.block⟩; replace a0 := sO g a0; replace a1 := sO g a1; replace a2 := sO g a2; replace b0 := sO g b0; replace b1 := sO g b1; replace b2 := sO g b2; replace r0 := sO g r0; replace r1 := sO g r1; replace r2 := sO g r2; replace s0 := sO g s0; replace s1 := sO g s1; replace s2 := sO g s2; replace t0 := sO g t0; replace t1 := sO g t1; replace t2 := sO g t2; replace u0 := sO g u0; replace u1 := sO g u1; replace u2 := sO g u2; replace bW := sp_call bW g; have z_v4 := g.size; replace fr : ∀ j, v4.frozen? ⟨w.heap.size + 1 + 1, j, none⟩ = false := fun j => (g.frozen (p := ⟨w.heap.size + 1 + 1, j, none⟩) (by simp; omega)).trans (fr j); replace fs : ∀ j, v4.frozen? ⟨w.heap.size + 1 + 1 + 1, j, none⟩ = false := fun j => (g.frozen (p := ⟨w.heap.size + 1 + 1 + 1, j, none⟩) (by simp; omega)).trans (fs j); replace ft : ∀ j, v4.frozen? ⟨b10, j, none⟩ = false := fun j => (g.frozen (p := ⟨b10, j, none⟩) (by simp; omega)).trans (ft j); replace fu : ∀ j, v4.frozen? ⟨b11, j, none⟩ = false := fun j => (g.frozen (p := ⟨b11, j, none⟩) (by simp; omega)).trans (fu j); clear g
    go_wp2_with fail
    refine hK.out _ _ ⟨a0, a1, a2, b0, b1, b2⟩ (fun hH => ?_)
    clear hK K k4
    try simp only [Act.put, gA, gB, gC, gD, gE, gG]
    refine wpAnyH_ready (rs := [12]) (by kernel_rfl) (by simp) (AllReadyH.cons (o := _) rfl (fun K hK => ?_) AllReadyH.nil)
    go_simp
    refine hK.out _ _ ⟨(sp_keep3 a0 (by omega) _ _ _), (sp_keep3 a1 (by omega) _ _ _), (sp_keep3 a2 (by omega) _ _ _), (sp_keep3 b0 (by omega) _ _ _), (sp_keep3 b1 (by omega) _ _ _), (sp_keep3 b2 (by omega) _ _ _)⟩ (fun hH => ?_)
    clear hK K
    try simp only [Act.put, gA, gB, gC, gD, gE, gG]
    refine wpAnyH_ready (rs := [13]) (by kernel_rfl) (by simp) (AllReadyH.cons (o := _) rfl (fun K hK => ?_) AllReadyH.nil)
    go_simp
    refine hK.out _ _ ⟨(sp_keep3 (sp_keep3 a0 (by omega) _ _ _) (by omega) _ _ _), (sp_keep3 (sp_keep3 a1 (by omega) _ _ _) (by omega) _ _ _), (sp_keep3 (sp_keep3 a2 (by omega) _ _ _) (by omega) _ _ _), (sp_keep3 (sp_keep3 b0 (by omega) _ _ _) (by omega) _ _ _), (sp_keep3 (sp_keep3 b1 (by omega) _ _ _) (by omega) _ _ _), (sp_keep3 (sp_keep3 b2 (by omega) _ _ _) (by omega) _ _ _)⟩ (fun hH => ?_)
    clear hK K
    try simp only [Act.put, gA, gB, gC, gD, gE, gG]
    refine wpAnyH_done (by kernel_rfl) ?_ _
    obtain ⟨W6, hW⟩ : ∃ W6, (((v4.setCell ⟨b10, 0, none⟩ (.bool pe)).setCell ⟨b10, 1, none⟩ (.int .i64 pl)).setCell ⟨b10, 2, none⟩ (.int .i64 ph)) = W6 := ⟨_, rfl⟩
    replace t0 : W6.cell? ⟨b10, 0, none⟩ = some (.bool pe) := by rw [← hW]; simp [go_sem, t0, t1, t2]
    replace t1 : W6.cell? ⟨b10, 1, none⟩ = some (.int .i64 pl) := by rw [← hW]; simp [go_sem, t1, t2]
    replace t2 : W6.cell? ⟨b10, 2, none⟩ = some (.int .i64 ph) := by rw [← hW]; simp [go_sem, t2]
    replace a0 := hW ▸ sp_keep3 (b := b10) a0 (by omega) (.bool pe) (.int .i64 pl) (.int .i64 ph)
    replace a1 := hW ▸ sp_keep3 (b := b10) a1 (by omega) (.bool pe) (.int .i64 pl) (.int .i64 ph)
    replace a2 := hW ▸ sp_keep3 (b := b10) a2 (by omega) (.bool pe) (.int .i64 pl) (.int .i64 ph)
    replace b0 := hW ▸ sp_keep3 (b := b10) b0 (by omega) (.bool pe) (.int .i64 pl) (.int .i64 ph)
    replace b1 := hW ▸ sp_keep3 (b := b10) b1 (by omega) (.bool pe) (.int .i64 pl) (.int .i64 ph)
    replace b2 := hW ▸ sp_keep3 (b := b10) b2 (by omega) (.bool pe) (.int .i64 pl) (.int .i64 ph)
    replace r0 := hW ▸ sp_keep3 (b := b10) r0 (by omega) (.bool pe) (.int .i64 pl) (.int .i64 ph)
    replace r1 := hW ▸ sp_keep3 (b := b10) r1 (by omega) (.bool pe) (.int .i64 pl) (.int .i64 ph)
    replace r2 := hW ▸ sp_keep3 (b := b10) r2 (by omega) (.bool pe) (.int .i64 pl) (.int .i64 ph)
    replace s0 := hW ▸ sp_keep3 (b := b10) s0 (by omega) (.bool pe) (.int .i64 pl) (.int .i64 ph)
    replace s1 := hW ▸ sp_keep3 (b := b10) s1 (by omega) (.bool pe) (.int .i64 pl) (.int .i64 ph)
    replace s2 := hW ▸ sp_keep3 (b := b10) s2 (by omega) (.bool pe) (.int .i64 pl) (.int .i64 ph)
    replace u0 := hW ▸ sp_keep3 (b := b10) u0 (by omega) (.bool pe) (.int .i64 pl) (.int .i64 ph)
    replace u1 := hW ▸ sp_keep3 (b := b10) u1 (by omega) (.bool pe) (.int .i64 pl) (.int .i64 ph)
    replace u2 := hW ▸ sp_keep3 (b := b10) u2 (by omega) (.bool pe) (.int .i64 pl) (.int .i64 ph)
    replace fr : ∀ j, W6.frozen? ⟨w.heap.size + 1 + 1, j, none⟩ = false := by intro j; rw [← hW]; simp [go_sem, fr]
    replace fs : ∀ j, W6.frozen? ⟨w.heap.size + 1 + 1 + 1, j, none⟩ = false := by intro j; rw [← hW]; simp [go_sem, fs]
    replace ft : ∀ j, W6.frozen? ⟨b10, j, none⟩ = false := by intro j; rw [← hW]; simp [go_sem, ft]
    replace fu : ∀ j, W6.frozen? ⟨b11, j, none⟩ = false := by intro j; rw [← hW]; simp [go_sem, fu]
    replace bW : Below w.heap.size w W6 := by rw [← hW]; (repeat (first | with_reducible exact bW | with_reducible refine rt_dr ?_ | with_reducible refine rt_st ?_ (by omega) _))
    have zs_W6 : W6.heap.size = v4.heap.size := by rw [← hW]; simp
    rw [hW]
    clear hW
    obtain ⟨W7, hW⟩ : ∃ W7, (((W6.setCell ⟨b11, 0, none⟩ (.bool qe)).setCell ⟨b11, 1, none⟩ (.int .i64 ql)).setCell ⟨b11, 2, none⟩ (.int .i64 qh)) = W7 := ⟨_, rfl⟩
    replace u0 : W7.cell? ⟨b11, 0, none⟩ = some (.bool qe) := by rw [← hW]; simp [go_sem, u0, u1, u2]
    replace u1 : W7.cell? ⟨b11, 1, none⟩ = some (.int .i64 ql) := by rw [← hW]; simp [go_sem, u1, u2]
    replace u2 : W7.cell? ⟨b11, 2, none⟩ = some (.int .i64 qh) := by rw [← hW]; simp [go_sem, u2]
    replace a0 := hW ▸ sp_keep3 (b := b11) a0 (by omega) (.bool qe) (.int .i64 ql) (.int .i64 qh)
    replace a1 := hW ▸ sp_keep3 (b := b11) a1 (by omega) (.bool qe) (.int .i64 ql) (.int .i64 qh)
    replace a2 := hW ▸ sp_keep3 (b := b11) a2 (by omega) (.bool qe) (.int .i64 ql) (.int .i64 qh)
    replace b0 := hW ▸ sp_keep3 (b := b11) b0 (by omega) (.bool qe) (.int .i64 ql) (.int .i64 qh)
    replace b1 := hW ▸ sp_keep3 (b := b11) b1 (by omega) (.bool qe) (.int .i64 ql) (.int .i64 qh)
    replace b2 := hW ▸ sp_keep3 (b := b11) b2 (by omega) (.bool qe) (.int .i64 ql) (.int .i64 qh)
    replace r0 := hW ▸ sp_keep3 (b := b11) r0 (by omega) (.bool qe) (.int .i64 ql) (.int .i64 qh)
    replace r1 := hW ▸ sp_keep3 (b := b11) r1 (by omega) (.bool qe) (.int .i64 ql) (.int .i64 qh)
    replace r2 := hW ▸ sp_keep3 (b := b11) r2 (by omega) (.bool qe) (.int .i64 ql) (.int .i64 qh)
    replace s0 := hW ▸ sp_keep3 (b := b11) s0 (by omega) (.bool qe) (.int .i64 ql) (.int .i64 qh)
    replace s1 := hW ▸ sp_keep3 (b := b11) s1 (by omega) (.bool qe) (.int .i64 ql) (.int .i64 qh)
    replace s2 := hW ▸ sp_keep3 (b := b11) s2 (by omega) (.bool qe) (.int .i64 ql) (.int .i64 qh)
    replace t0 := hW ▸ sp_keep3 (b := b11) t0 (by omega) (.bool qe) (.int .i64 ql) (.int .i64 qh)
    replace t1 := hW ▸ sp_keep3 (b := b11) t1 (by omega) (.bool qe) (.int .i64 ql) (.int .i64 qh)
    replace t2 := hW ▸ sp_keep3 (b := b11) t2 (by omega) (.bool qe) (.int .i64 ql) (.int .i64 qh)
    replace fr : ∀ j, W7.frozen? ⟨w.heap.size + 1 + 1, j, none⟩ = false := by intro j; rw [← hW]; simp [go_sem, fr]
    replace fs : ∀ j, W7.frozen? ⟨w.heap.size + 1 + 1 + 1, j, none⟩ = false := by intro j; rw [← hW]; simp [go_sem, fs]
    replace ft : ∀ j, W7.frozen? ⟨b10, j, none⟩ = false := by intro j; rw [← hW]; simp [go_sem, ft]
    replace fu : ∀ j, W7.frozen? ⟨b11, j, none⟩ = false := by intro j; rw [← hW]; simp [go_sem, fu]
    replace bW : Below w.heap.size w W7 := by rw [← hW]; (repeat (first | with_reducible exact bW | with_reducible refine rt_dr ?_ | with_reducible refine rt_st ?_ (by omega) _))
    have zs_W7 : W7.heap.size = W6.heap.size := by rw [← hW]; simp
    rw [hW]
    clear hW
    go_wp2_with fail
    go_meet
    exact ⟨_, rfl, rfl, rfl, r0, r1, r2, s0, s1, s2, t0, t1, t2, u0, u1, u2, fr, fs, by omega, bW⟩
   case rest =>
    try clear he hl hh
    clear a0 a1 a2 b0 b1 b2 r0 r1 r2 s0 s1 s2 t0 t1 t2 u0 u1 u2 fr fs ft fu bW z4 z5
    obtain ⟨X, rfl, rfl, rfl, r0, r1, r2, s0, s1, s2, t0, t1, t2, u0, u1, u2, fr, fs, zX, bW⟩ := hcut
    cases pe
    · cases qe
      · go_upto_region 24 with fail
        go_region
        all_goals go_wp2_with fail
        all_goals exact bodyPost_ret (v := .tuple #[.agg #[.bool false, .int .i64 pl, .int .i64 ph], .agg #[.bool false, .int .i64 ql, .int .i64 qh]]) (by simp [results, Tryz.results67, go_sem, r0, r1, r2, s0, s1, s2]) rfl ⟨by simp, by (repeat (first | with_reducible exact bW | with_reducible refine rt_dr ?_ | with_reducible refine rt_st ?_ (by omega) _))⟩
      · go_wp2_with (first
          | (go_at_call 113; refine (hn _).mono ?_; rintro e vn ⟨rfl, g⟩; replace r0 := sO g r0; replace r1 := sO g r1; replace r2 := sO g r2; replace s0 := sO g s0; replace s1 := sO g s1; replace s2 := sO g s2; replace bW := sp_call bW g; have z_vn := g.size; replace fr : ∀ j, vn.frozen? ⟨w.heap.size + 1 + 1, j, none⟩ = false := fun j => (g.frozen (p := ⟨w.heap.size + 1 + 1, j, none⟩) (by simp; omega)).trans (fr j); replace fs : ∀ j, vn.frozen? ⟨w.heap.size + 1 + 1 + 1, j, none⟩ = false := fun j => (g.frozen (p := ⟨w.heap.size + 1 + 1 + 1, j, none⟩) (by simp; omega)).trans (fs j); clear g; clear hn)
          | (go_at_call 113; refine (hn2 _).mono ?_; rintro e vn2 ⟨rfl, g⟩; replace r0 := sO g r0; replace r1 := sO g r1; replace r2 := sO g r2; replace s0 := sO g s0; replace s1 := sO g s1; replace s2 := sO g s2; replace bW := sp_call bW g; have z_vn2 := g.size; replace fr : ∀ j, vn2.frozen? ⟨w.heap.size + 1 + 1, j, none⟩ = false := fun j => (g.frozen (p := ⟨w.heap.size + 1 + 1, j, none⟩) (by simp; omega)).trans (fr j); replace fs : ∀ j, vn2.frozen? ⟨w.heap.size + 1 + 1 + 1, j, none⟩ = false := fun j => (g.frozen (p := ⟨w.heap.size + 1 + 1 + 1, j, none⟩) (by simp; omega)).trans (fs j); clear g; clear hn2)
          | fail)
        exact bodyPost_ret (v := .tuple #[.agg #[.bool true, .int .i64 0, .int .i64 0], .agg #[.bool true, .int .i64 0, .int .i64 0]]) (by simp [results, Tryz.results67, go_sem, r0, r1, r2, s0, s1, s2]) rfl ⟨by simp, by (repeat (first | with_reducible exact bW | with_reducible refine rt_dr ?_ | with_reducible refine rt_st ?_ (by omega) _))⟩
    · go_wp2_with (first
        | (go_at_call 113; refine (hn _).mono ?_; rintro e vn ⟨rfl, g⟩; replace r0 := sO g r0; replace r1 := sO g r1; replace r2 := sO g r2; replace s0 := sO g s0; replace s1 := sO g s1; replace s2 := sO g s2; replace bW := sp_call bW g; have z_vn := g.size; replace fr : ∀ j, vn.frozen? ⟨w.heap.size + 1 + 1, j, none⟩ = false := fun j => (g.frozen (p := ⟨w.heap.size + 1 + 1, j, none⟩) (by simp; omega)).trans (fr j); replace fs : ∀ j, vn.frozen? ⟨w.heap.size + 1 + 1 + 1, j, none⟩ = false := fun j => (g.frozen (p := ⟨w.heap.size + 1 + 1 + 1, j, none⟩) (by simp; omega)).trans (fs j); clear g; clear hn)
        | (go_at_call 113; refine (hn2 _).mono ?_; rintro e vn2 ⟨rfl, g⟩; replace r0 := sO g r0; replace r1 := sO g r1; replace r2 := sO g r2; replace s0 := sO g s0; replace s1 := sO g s1; replace s2 := sO g s2; replace bW := sp_call bW g; have z_vn2 := g.size; replace fr : ∀ j, vn2.frozen? ⟨w.heap.size + 1 + 1, j, none⟩ = false := fun j => (g.frozen (p := ⟨w.heap.size + 1 + 1, j, none⟩) (by simp; omega)).trans (fr j); replace fs : ∀ j, vn2.frozen? ⟨w.heap.size + 1 + 1 + 1, j, none⟩ = false := fun j => (g.frozen (p := ⟨w.heap.size + 1 + 1 + 1, j, none⟩) (by simp; omega)).trans (fs j); clear g; clear hn2)
        | fail)
      exact bodyPost_ret (v := .tuple #[.agg #[.bool true, .int .i64 0, .int .i64 0], .agg #[.bool true, .int .i64 0, .int .i64 0]]) (by simp [results, Tryz.results67, go_sem, r0, r1, r2, s0, s1, s2]) rfl ⟨by simp, by (repeat (first | with_reducible exact bW | with_reducible refine rt_dr ?_ | with_reducible refine rt_st ?_ (by omega) _))⟩
set_option maxRecDepth 100000 in
set_option maxHeartbeats 6400000 in
theorem rt_ge (a b c d : Int) (pe qe : Bool) (pl ph ql qh : Int) (da : -2147483648 ≤ a) (da2 : a ≤ 2147483647) (db : -2147483648 ≤ b) (db2 : b ≤ 2147483647) (dc : -2147483648 ≤ c) (dc2 : c ≤ 2147483647) (dd : -2147483648 ≤ d) (dd2 : d ≤ 2147483647) (xe ye : Bool) (xl xh yl yh : Int) (k1 : ∀ V, Calls Tryz.prog 49 #[.int .i64 c, .int .i64 2147483647] V fun e w' => e = .returned (.agg #[.bool xe, .int .i64 xl, .int .i64 xh]) ∧ Below V.heap.size V w') (k2 : ∀ V, Calls Tryz.prog 55 #[.agg #[.bool false, .int .i64 a, .int .i64 b], .agg #[.bool xe, .int .i64 xl, .int .i64 xh]] V fun e w' => e = .returned (.agg #[.bool pe, .int .i64 pl, .int .i64 ph]) ∧ Below V.heap.size V w') (k3 : ∀ V, Calls Tryz.prog 49 #[.int .i64 (-2147483648), .int .i64 b] V fun e w' => e = .returned (.agg #[.bool ye, .int .i64 yl, .int .i64 yh]) ∧ Below V.heap.size V w') (k4 : ∀ V, Calls Tryz.prog 55 #[.agg #[.bool false, .int .i64 c, .int .i64 d], .agg #[.bool ye, .int .i64 yl, .int .i64 yh]] V fun e w' => e = .returned (.agg #[.bool qe, .int .i64 ql, .int .i64 qh]) ∧ Below V.heap.size V w') (w : World) :
    Calls Tryz.prog 67 #[.int .i64 15, .agg #[.bool false, .int .i64 a, .int .i64 b], .agg #[.bool false, .int .i64 c, .int .i64 d]] w fun e w' => e = .returned (.tuple #[.agg #[.bool (bothP (pe, pl, ph) (qe, ql, qh)).1.1, .int .i64 (bothP (pe, pl, ph) (qe, ql, qh)).1.2.1, .int .i64 (bothP (pe, pl, ph) (qe, ql, qh)).1.2.2], .agg #[.bool (bothP (pe, pl, ph) (qe, ql, qh)).2.1, .int .i64 (bothP (pe, pl, ph) (qe, ql, qh)).2.2.1, .int .i64 (bothP (pe, pl, ph) (qe, ql, qh)).2.2.2]]) ∧ Below w.heap.size w w' := by
  have hn : ∀ V, Calls Tryz.prog 113 #[] V fun e w' => e = .returned (.agg #[.bool true, .int .i64 0, .int .i64 0]) ∧ Below V.heap.size V w' := fun V => (rnoneI V).mono fun e w' h => ⟨h.1, by rw [h.2]; exact sp_new (Below.refl _ _) _⟩
  have hn2 := hn
  unfold bothP
  dsimp only
  go_enter Tryz.func67, Tryz.ntmps67
  go_upto_region 5 with fail
  go_cut [8, 9] from 26 to 27 (fun s u X => ∃ (W : World) (b10 b11 : Nat), W = X ∧ s = .pointer (some ⟨b10, 0, none⟩) ∧ u = .pointer (some ⟨b11, 0, none⟩) ∧ w.heap.size + 4 ≤ b10 ∧ w.heap.size + 4 ≤ b11 ∧ b10 ≠ b11 ∧ b10 < X.heap.size ∧ b11 < X.heap.size ∧ X.cell? ⟨w.heap.size, 0, none⟩ = some (.bool false) ∧ X.cell? ⟨w.heap.size, 1, none⟩ = some (.int .i64 a) ∧ X.cell? ⟨w.heap.size, 2, none⟩ = some (.int .i64 b) ∧ X.cell? ⟨w.heap.size + 1, 0, none⟩ = some (.bool false) ∧ X.cell? ⟨w.heap.size + 1, 1, none⟩ = some (.int .i64 c) ∧ X.cell? ⟨w.heap.size + 1, 2, none⟩ = some (.int .i64 d) ∧ X.cell? ⟨w.heap.size + 1 + 1, 0, none⟩ = some (.bool false) ∧ X.cell? ⟨w.heap.size + 1 + 1, 1, none⟩ = some (.int .i64 0) ∧ X.cell? ⟨w.heap.size + 1 + 1, 2, none⟩ = some (.int .i64 0) ∧ X.cell? ⟨w.heap.size + 1 + 1 + 1, 0, none⟩ = some (.bool false) ∧ X.cell? ⟨w.heap.size + 1 + 1 + 1, 1, none⟩ = some (.int .i64 0) ∧ X.cell? ⟨w.heap.size + 1 + 1 + 1, 2, none⟩ = some (.int .i64 0) ∧ X.cell? ⟨b10, 0, none⟩ = some (.bool false) ∧ X.cell? ⟨b10, 1, none⟩ = some (.int .i64 a) ∧ X.cell? ⟨b10, 2, none⟩ = some (.int .i64 b) ∧ X.cell? ⟨b11, 0, none⟩ = some (.bool false) ∧ X.cell? ⟨b11, 1, none⟩ = some (.int .i64 c) ∧ X.cell? ⟨b11, 2, none⟩ = some (.int .i64 d) ∧ (∀ j, X.frozen? ⟨w.heap.size + 1 + 1, j, none⟩ = false) ∧ (∀ j, X.frozen? ⟨w.heap.size + 1 + 1 + 1, j, none⟩ = false) ∧ (∀ j, X.frozen? ⟨b10, j, none⟩ = false) ∧ (∀ j, X.frozen? ⟨b11, j, none⟩ = false) ∧ Below w.heap.size w X)
  case first =>
   go_region
   all_goals go_wp2_with fail
   all_goals go_meet
   all_goals exact ⟨_, _, _, rfl, rfl, rfl, by simp, by simp, by simp, by simp, by simp, by simp [go_sem], by simp [go_sem], by simp [go_sem], by simp [go_sem], by simp [go_sem], by simp [go_sem], by simp [go_sem], by simp [go_sem], by simp [go_sem], by simp [go_sem], by simp [go_sem], by simp [go_sem], by simp [go_sem], by simp [go_sem], by simp [go_sem], by simp [go_sem], by simp [go_sem], by simp [go_sem], by intro j; simp [go_sem], by intro j; simp [go_sem], by intro j; simp [go_sem], by intro j; simp [go_sem], by (repeat (first | exact Below.refl _ _ | with_reducible refine sp_new ?_ _ | with_reducible refine rt_dr ?_ | with_reducible refine rt_st ?_ (by simp; try omega) _))⟩
  case rest =>
   obtain ⟨W, b10, b11, rfl, rfl, rfl, z1, z2, z3, z4, z5, a0, a1, a2, b0, b1, b2, r0, r1, r2, s0, s1, s2, t0, t1, t2, u0, u1, u2, fr, fs, ft, fu, bW⟩ := hcut
   rename_i K1 hK1
   refine hK1 _ _ ?_
   clear hK1
   go_step
   go_cut [8, 9] from 28 to 104 (fun s u X => ∃ W2 : World, W2 = X ∧ s = .pointer (some ⟨b10, 0, none⟩) ∧ u = .pointer (some ⟨b11, 0, none⟩) ∧ X.cell? ⟨w.heap.size + 1 + 1, 0, none⟩ = some (.bool false) ∧ X.cell? ⟨w.heap.size + 1 + 1, 1, none⟩ = some (.int .i64 0) ∧ X.cell? ⟨w.heap.size + 1 + 1, 2, none⟩ = some (.int .i64 0) ∧ X.cell? ⟨w.heap.size + 1 + 1 + 1, 0, none⟩ = some (.bool false) ∧ X.cell? ⟨w.heap.size + 1 + 1 + 1, 1, none⟩ = some (.int .i64 0) ∧ X.cell? ⟨w.heap.size + 1 + 1 + 1, 2, none⟩ = some (.int .i64 0) ∧ X.cell? ⟨b10, 0, none⟩ = some (.bool pe) ∧ X.cell? ⟨b10, 1, none⟩ = some (.int .i64 pl) ∧ X.cell? ⟨b10, 2, none⟩ = some (.int .i64 ph) ∧ X.cell? ⟨b11, 0, none⟩ = some (.bool qe) ∧ X.cell? ⟨b11, 1, none⟩ = some (.int .i64 ql) ∧ X.cell? ⟨b11, 2, none⟩ = some (.int .i64 qh) ∧ (∀ j, X.frozen? ⟨w.heap.size + 1 + 1, j, none⟩ = false) ∧ (∀ j, X.frozen? ⟨w.heap.size + 1 + 1 + 1, j, none⟩ = false) ∧ w.heap.size + 4 ≤ X.heap.size ∧ Below w.heap.size w X)
   case first =>
    go_upto_region 18 with fail
    refine wp_region_held_drew (S := (fun w' => w'.cell? ⟨w.heap.size, 0, none⟩ = some (.bool false) ∧ w'.cell? ⟨w.heap.size, 1, none⟩ = some (.int .i64 a) ∧ w'.cell? ⟨w.heap.size, 2, none⟩ = some (.int .i64 b) ∧ w'.cell? ⟨w.heap.size + 1, 0, none⟩ = some (.bool false) ∧ w'.cell? ⟨w.heap.size + 1, 1, none⟩ = some (.int .i64 c) ∧ w'.cell? ⟨w.heap.size + 1, 2, none⟩ = some (.int .i64 d))) (by kernel_rfl) ⟨a0, a1, a2, b0, b1, b2⟩ (fun hH => ?_)
    refine wpAnyH_take (i := 0) (oi := _) (v := .agg #[.bool false, .int .i64 a, .int .i64 b]) rfl (by kernel_rfl) (by kernel_rfl) (by kernel_rfl) (fun _ _ _ h => h) (Or.inl ⟨by rfl, fun w' hSw => by obtain ⟨za0, za1, za2, zb0, zb1, zb2⟩ := hSw; go_simp⟩) hH ?_
    simp only [Act.put, gA, gB, gC, gD, gE, gG]
    refine wpAnyH_take (i := 1) (oi := _) (v := .pointer (some ⟨w.heap.size + 1, 1, none⟩)) rfl (by kernel_rfl) (by kernel_rfl) (by kernel_rfl) (fun _ _ _ h => h) (Or.inl ⟨by rfl, fun w' hSw => by obtain ⟨za0, za1, za2, zb0, zb1, zb2⟩ := hSw; go_simp⟩) hH ?_
    simp only [Act.put, gA, gB, gC, gD, gE, gG]
    refine wpAnyH_take (i := 2) (oi := _) (v := .int .i64 c) rfl (by kernel_rfl) (by kernel_rfl) (by kernel_rfl) (fun _ _ _ h => h) (Or.inl ⟨by rfl, fun w' hSw => by obtain ⟨za0, za1, za2, zb0, zb1, zb2⟩ := hSw; go_simp⟩) hH ?_
    simp only [Act.put, gA, gB, gC, gD, gE, gG]
    refine wpAnyH_take (i := 5) (oi := _) (v := .agg #[.bool false, .int .i64 c, .int .i64 d]) rfl (by kernel_rfl) (by kernel_rfl) (by kernel_rfl) (fun _ _ _ h => h) (Or.inl ⟨by rfl, fun w' hSw => by obtain ⟨za0, za1, za2, zb0, zb1, zb2⟩ := hSw; go_simp⟩) hH ?_
    simp only [Act.put, gA, gB, gC, gD, gE, gG]
    refine wpAnyH_take (i := 6) (oi := _) (v := .pointer (some ⟨w.heap.size, 2, none⟩)) rfl (by kernel_rfl) (by kernel_rfl) (by kernel_rfl) (fun _ _ _ h => h) (Or.inl ⟨by rfl, fun w' hSw => by obtain ⟨za0, za1, za2, zb0, zb1, zb2⟩ := hSw; go_simp⟩) hH ?_
    simp only [Act.put, gA, gB, gC, gD, gE, gG]
    refine wpAnyH_take (i := 7) (oi := _) (v := .int .i64 b) rfl (by kernel_rfl) (by kernel_rfl) (by kernel_rfl) (fun _ _ _ h => h) (Or.inl ⟨by rfl, fun w' hSw => by obtain ⟨za0, za1, za2, zb0, zb1, zb2⟩ := hSw; go_simp⟩) hH ?_
    simp only [Act.put, gA, gB, gC, gD, gE, gG]
    refine wpAnyH_ready (rs := [3]) (by kernel_rfl) (by simp) (AllReadyH.cons (o := _) rfl (fun K hK => ?_) AllReadyH.nil)
    go_simp
    refine (k1 _).mono ?_
    rintro e v1 ⟨rfl, g⟩
    replace g : Below W.heap.size W v1 := ⟨g.os, g.tape, g.output, g.size, g.block⟩; replace a0 := sO g a0; replace a1 := sO g a1; replace a2 := sO g a2; replace b0 := sO g b0; replace b1 := sO g b1; replace b2 := sO g b2; replace r0 := sO g r0; replace r1 := sO g r1; replace r2 := sO g r2; replace s0 := sO g s0; replace s1 := sO g s1; replace s2 := sO g s2; replace t0 := sO g t0; replace t1 := sO g t1; replace t2 := sO g t2; replace u0 := sO g u0; replace u1 := sO g u1; replace u2 := sO g u2; replace bW := sp_call bW g; have z_v1 := g.size; replace fr : ∀ j, v1.frozen? ⟨w.heap.size + 1 + 1, j, none⟩ = false := fun j => (g.frozen (p := ⟨w.heap.size + 1 + 1, j, none⟩) (by simp; omega)).trans (fr j); replace fs : ∀ j, v1.frozen? ⟨w.heap.size + 1 + 1 + 1, j, none⟩ = false := fun j => (g.frozen (p := ⟨w.heap.size + 1 + 1 + 1, j, none⟩) (by simp; omega)).trans (fs j); replace ft : ∀ j, v1.frozen? ⟨b10, j, none⟩ = false := fun j => (g.frozen (p := ⟨b10, j, none⟩) (by simp; omega)).trans (ft j); replace fu : ∀ j, v1.frozen? ⟨b11, j, none⟩ = false := fun j => (g.frozen (p := ⟨b11, j, none⟩) (by simp; omega)).trans (fu j); clear g
    go_wp2_with fail
    refine hK.out _ _ ⟨a0, a1, a2, b0, b1, b2⟩ (fun hH => ?_)
    clear hK K k1
    try simp only [Act.put, gA, gB, gC, gD, gE, gG]
    refine wpAnyH_ready (rs := [4]) (by kernel_rfl) (by simp) (AllReadyH.cons (o := _) rfl (fun K hK => ?_) AllReadyH.nil)
    go_simp
    refine (k2 _).mono ?_
    rintro e v2 ⟨rfl, g⟩
    replace g : Below v1.heap.size v1 v2 := ⟨g.os, g.tape, g.output, g.size, g.block⟩; replace a0 := sO g a0; replace a1 := sO g a1; replace a2 := sO g a2; replace b0 := sO g b0; replace b1 := sO g b1; replace b2 := sO g b2; replace r0 := sO g r0; replace r1 := sO g r1; replace r2 := sO g r2; replace s0 := sO g s0; replace s1 := sO g s1; replace s2 := sO g s2; replace t0 := sO g t0; replace t1 := sO g t1; replace t2 := sO g t2; replace u0 := sO g u0; replace u1 := sO g u1; replace u2 := sO g u2; replace bW := sp_call bW g; have z_v2 := g.size; replace fr : ∀ j, v2.frozen? ⟨w.heap.size + 1 + 1, j, none⟩ = false := fun j => (g.frozen (p := ⟨w.heap.size + 1 + 1, j, none⟩) (by simp; omega)).trans (fr j); replace fs : ∀ j, v2.frozen? ⟨w.heap.size + 1 + 1 + 1, j, none⟩ = false := fun j => (g.frozen (p := ⟨w.heap.size + 1 + 1 + 1, j, none⟩) (by simp; omega)).trans (fs j); replace ft : ∀ j, v2.frozen? ⟨b10, j, none⟩ = false := fun j => (g.frozen (p := ⟨b10, j, none⟩) (by simp; omega)).trans (ft j); replace fu : ∀ j, v2.frozen? ⟨b11, j, none⟩ = false := fun j => (g.frozen (p := ⟨b11, j, none⟩) (by simp; omega)).trans (fu j); clear g
    go_wp2_with fail
    refine hK.out _ _ ⟨a0, a1, a2, b0, b1, b2⟩ (fun hH => ?_)
    clear hK K k2
    try simp only [Act.put, gA, gB, gC, gD, gE, gG]
    refine wpAnyH_ready (rs := [8]) (by kernel_rfl) (by simp) (AllReadyH.cons (o := _) rfl (fun K hK => ?_) AllReadyH.nil)
    go_simp
    refine (k3 _).mono ?_
    rintro e v3 ⟨rfl, g⟩
    replace g : Below v2.heap.size v2 v3 := ⟨g.os, g.tape, g.output, g.size, g.block⟩; replace a0 := sO g a0; replace a1 := sO g a1; replace a2 := sO g a2; replace b0 := sO g b0; replace b1 := sO g b1; replace b2 := sO g b2; replace r0 := sO g r0; replace r1 := sO g r1; replace r2 := sO g r2; replace s0 := sO g s0; replace s1 := sO g s1; replace s2 := sO g s2; replace t0 := sO g t0; replace t1 := sO g t1; replace t2 := sO g t2; replace u0 := sO g u0; replace u1 := sO g u1; replace u2 := sO g u2; replace bW := sp_call bW g; have z_v3 := g.size; replace fr : ∀ j, v3.frozen? ⟨w.heap.size + 1 + 1, j, none⟩ = false := fun j => (g.frozen (p := ⟨w.heap.size + 1 + 1, j, none⟩) (by simp; omega)).trans (fr j); replace fs : ∀ j, v3.frozen? ⟨w.heap.size + 1 + 1 + 1, j, none⟩ = false := fun j => (g.frozen (p := ⟨w.heap.size + 1 + 1 + 1, j, none⟩) (by simp; omega)).trans (fs j); replace ft : ∀ j, v3.frozen? ⟨b10, j, none⟩ = false := fun j => (g.frozen (p := ⟨b10, j, none⟩) (by simp; omega)).trans (ft j); replace fu : ∀ j, v3.frozen? ⟨b11, j, none⟩ = false := fun j => (g.frozen (p := ⟨b11, j, none⟩) (by simp; omega)).trans (fu j); clear g
    go_wp2_with fail
    refine hK.out _ _ ⟨a0, a1, a2, b0, b1, b2⟩ (fun hH => ?_)
    clear hK K k3
    try simp only [Act.put, gA, gB, gC, gD, gE, gG]
    refine wpAnyH_ready (rs := [9]) (by kernel_rfl) (by simp) (AllReadyH.cons (o := _) rfl (fun K hK => ?_) AllReadyH.nil)
    go_simp
    refine (k4 _).mono ?_
    rintro e v4 ⟨rfl, g⟩
    replace g : Below v3.heap.size v3 v4 := ⟨g.os, g.tape, g.output, g.size, g.block⟩; replace a0 := sO g a0; replace a1 := sO g a1; replace a2 := sO g a2; replace b0 := sO g b0; replace b1 := sO g b1; replace b2 := sO g b2; replace r0 := sO g r0; replace r1 := sO g r1; replace r2 := sO g r2; replace s0 := sO g s0; replace s1 := sO g s1; replace s2 := sO g s2; replace t0 := sO g t0; replace t1 := sO g t1; replace t2 := sO g t2; replace u0 := sO g u0; replace u1 := sO g u1; replace u2 := sO g u2; replace bW := sp_call bW g; have z_v4 := g.size; replace fr : ∀ j, v4.frozen? ⟨w.heap.size + 1 + 1, j, none⟩ = false := fun j => (g.frozen (p := ⟨w.heap.size + 1 + 1, j, none⟩) (by simp; omega)).trans (fr j); replace fs : ∀ j, v4.frozen? ⟨w.heap.size + 1 + 1 + 1, j, none⟩ = false := fun j => (g.frozen (p := ⟨w.heap.size + 1 + 1 + 1, j, none⟩) (by simp; omega)).trans (fs j); replace ft : ∀ j, v4.frozen? ⟨b10, j, none⟩ = false := fun j => (g.frozen (p := ⟨b10, j, none⟩) (by simp; omega)).trans (ft j); replace fu : ∀ j, v4.frozen? ⟨b11, j, none⟩ = false := fun j => (g.frozen (p := ⟨b11, j, none⟩) (by simp; omega)).trans (fu j); clear g
    go_wp2_with fail
    refine hK.out _ _ ⟨a0, a1, a2, b0, b1, b2⟩ (fun hH => ?_)
    clear hK K k4
    try simp only [Act.put, gA, gB, gC, gD, gE, gG]
    refine wpAnyH_ready (rs := [10]) (by kernel_rfl) (by simp) (AllReadyH.cons (o := _) rfl (fun K hK => ?_) AllReadyH.nil)
    go_simp
    refine hK.out _ _ ⟨(sp_keep3 a0 (by omega) _ _ _), (sp_keep3 a1 (by omega) _ _ _), (sp_keep3 a2 (by omega) _ _ _), (sp_keep3 b0 (by omega) _ _ _), (sp_keep3 b1 (by omega) _ _ _), (sp_keep3 b2 (by omega) _ _ _)⟩ (fun hH => ?_)
    clear hK K
    try simp only [Act.put, gA, gB, gC, gD, gE, gG]
    refine wpAnyH_ready (rs := [11]) (by kernel_rfl) (by simp) (AllReadyH.cons (o := _) rfl (fun K hK => ?_) AllReadyH.nil)
    go_simp
    refine hK.out _ _ ⟨(sp_keep3 (sp_keep3 a0 (by omega) _ _ _) (by omega) _ _ _), (sp_keep3 (sp_keep3 a1 (by omega) _ _ _) (by omega) _ _ _), (sp_keep3 (sp_keep3 a2 (by omega) _ _ _) (by omega) _ _ _), (sp_keep3 (sp_keep3 b0 (by omega) _ _ _) (by omega) _ _ _), (sp_keep3 (sp_keep3 b1 (by omega) _ _ _) (by omega) _ _ _), (sp_keep3 (sp_keep3 b2 (by omega) _ _ _) (by omega) _ _ _)⟩ (fun hH => ?_)
    clear hK K
    try simp only [Act.put, gA, gB, gC, gD, gE, gG]
    refine wpAnyH_done (by kernel_rfl) ?_ _
    obtain ⟨W6, hW⟩ : ∃ W6, (((v4.setCell ⟨b10, 0, none⟩ (.bool pe)).setCell ⟨b10, 1, none⟩ (.int .i64 pl)).setCell ⟨b10, 2, none⟩ (.int .i64 ph)) = W6 := ⟨_, rfl⟩
    replace t0 : W6.cell? ⟨b10, 0, none⟩ = some (.bool pe) := by rw [← hW]; simp [go_sem, t0, t1, t2]
    replace t1 : W6.cell? ⟨b10, 1, none⟩ = some (.int .i64 pl) := by rw [← hW]; simp [go_sem, t1, t2]
    replace t2 : W6.cell? ⟨b10, 2, none⟩ = some (.int .i64 ph) := by rw [← hW]; simp [go_sem, t2]
    replace a0 := hW ▸ sp_keep3 (b := b10) a0 (by omega) (.bool pe) (.int .i64 pl) (.int .i64 ph)
    replace a1 := hW ▸ sp_keep3 (b := b10) a1 (by omega) (.bool pe) (.int .i64 pl) (.int .i64 ph)
    replace a2 := hW ▸ sp_keep3 (b := b10) a2 (by omega) (.bool pe) (.int .i64 pl) (.int .i64 ph)
    replace b0 := hW ▸ sp_keep3 (b := b10) b0 (by omega) (.bool pe) (.int .i64 pl) (.int .i64 ph)
    replace b1 := hW ▸ sp_keep3 (b := b10) b1 (by omega) (.bool pe) (.int .i64 pl) (.int .i64 ph)
    replace b2 := hW ▸ sp_keep3 (b := b10) b2 (by omega) (.bool pe) (.int .i64 pl) (.int .i64 ph)
    replace r0 := hW ▸ sp_keep3 (b := b10) r0 (by omega) (.bool pe) (.int .i64 pl) (.int .i64 ph)
    replace r1 := hW ▸ sp_keep3 (b := b10) r1 (by omega) (.bool pe) (.int .i64 pl) (.int .i64 ph)
    replace r2 := hW ▸ sp_keep3 (b := b10) r2 (by omega) (.bool pe) (.int .i64 pl) (.int .i64 ph)
    replace s0 := hW ▸ sp_keep3 (b := b10) s0 (by omega) (.bool pe) (.int .i64 pl) (.int .i64 ph)
    replace s1 := hW ▸ sp_keep3 (b := b10) s1 (by omega) (.bool pe) (.int .i64 pl) (.int .i64 ph)
    replace s2 := hW ▸ sp_keep3 (b := b10) s2 (by omega) (.bool pe) (.int .i64 pl) (.int .i64 ph)
    replace u0 := hW ▸ sp_keep3 (b := b10) u0 (by omega) (.bool pe) (.int .i64 pl) (.int .i64 ph)
    replace u1 := hW ▸ sp_keep3 (b := b10) u1 (by omega) (.bool pe) (.int .i64 pl) (.int .i64 ph)
    replace u2 := hW ▸ sp_keep3 (b := b10) u2 (by omega) (.bool pe) (.int .i64 pl) (.int .i64 ph)
    replace fr : ∀ j, W6.frozen? ⟨w.heap.size + 1 + 1, j, none⟩ = false := by intro j; rw [← hW]; simp [go_sem, fr]
    replace fs : ∀ j, W6.frozen? ⟨w.heap.size + 1 + 1 + 1, j, none⟩ = false := by intro j; rw [← hW]; simp [go_sem, fs]
    replace ft : ∀ j, W6.frozen? ⟨b10, j, none⟩ = false := by intro j; rw [← hW]; simp [go_sem, ft]
    replace fu : ∀ j, W6.frozen? ⟨b11, j, none⟩ = false := by intro j; rw [← hW]; simp [go_sem, fu]
    replace bW : Below w.heap.size w W6 := by rw [← hW]; (repeat (first | with_reducible exact bW | with_reducible refine rt_dr ?_ | with_reducible refine rt_st ?_ (by omega) _))
    have zs_W6 : W6.heap.size = v4.heap.size := by rw [← hW]; simp
    rw [hW]
    clear hW
    obtain ⟨W7, hW⟩ : ∃ W7, (((W6.setCell ⟨b11, 0, none⟩ (.bool qe)).setCell ⟨b11, 1, none⟩ (.int .i64 ql)).setCell ⟨b11, 2, none⟩ (.int .i64 qh)) = W7 := ⟨_, rfl⟩
    replace u0 : W7.cell? ⟨b11, 0, none⟩ = some (.bool qe) := by rw [← hW]; simp [go_sem, u0, u1, u2]
    replace u1 : W7.cell? ⟨b11, 1, none⟩ = some (.int .i64 ql) := by rw [← hW]; simp [go_sem, u1, u2]
    replace u2 : W7.cell? ⟨b11, 2, none⟩ = some (.int .i64 qh) := by rw [← hW]; simp [go_sem, u2]
    replace a0 := hW ▸ sp_keep3 (b := b11) a0 (by omega) (.bool qe) (.int .i64 ql) (.int .i64 qh)
    replace a1 := hW ▸ sp_keep3 (b := b11) a1 (by omega) (.bool qe) (.int .i64 ql) (.int .i64 qh)
    replace a2 := hW ▸ sp_keep3 (b := b11) a2 (by omega) (.bool qe) (.int .i64 ql) (.int .i64 qh)
    replace b0 := hW ▸ sp_keep3 (b := b11) b0 (by omega) (.bool qe) (.int .i64 ql) (.int .i64 qh)
    replace b1 := hW ▸ sp_keep3 (b := b11) b1 (by omega) (.bool qe) (.int .i64 ql) (.int .i64 qh)
    replace b2 := hW ▸ sp_keep3 (b := b11) b2 (by omega) (.bool qe) (.int .i64 ql) (.int .i64 qh)
    replace r0 := hW ▸ sp_keep3 (b := b11) r0 (by omega) (.bool qe) (.int .i64 ql) (.int .i64 qh)
    replace r1 := hW ▸ sp_keep3 (b := b11) r1 (by omega) (.bool qe) (.int .i64 ql) (.int .i64 qh)
    replace r2 := hW ▸ sp_keep3 (b := b11) r2 (by omega) (.bool qe) (.int .i64 ql) (.int .i64 qh)
    replace s0 := hW ▸ sp_keep3 (b := b11) s0 (by omega) (.bool qe) (.int .i64 ql) (.int .i64 qh)
    replace s1 := hW ▸ sp_keep3 (b := b11) s1 (by omega) (.bool qe) (.int .i64 ql) (.int .i64 qh)
    replace s2 := hW ▸ sp_keep3 (b := b11) s2 (by omega) (.bool qe) (.int .i64 ql) (.int .i64 qh)
    replace t0 := hW ▸ sp_keep3 (b := b11) t0 (by omega) (.bool qe) (.int .i64 ql) (.int .i64 qh)
    replace t1 := hW ▸ sp_keep3 (b := b11) t1 (by omega) (.bool qe) (.int .i64 ql) (.int .i64 qh)
    replace t2 := hW ▸ sp_keep3 (b := b11) t2 (by omega) (.bool qe) (.int .i64 ql) (.int .i64 qh)
    replace fr : ∀ j, W7.frozen? ⟨w.heap.size + 1 + 1, j, none⟩ = false := by intro j; rw [← hW]; simp [go_sem, fr]
    replace fs : ∀ j, W7.frozen? ⟨w.heap.size + 1 + 1 + 1, j, none⟩ = false := by intro j; rw [← hW]; simp [go_sem, fs]
    replace ft : ∀ j, W7.frozen? ⟨b10, j, none⟩ = false := by intro j; rw [← hW]; simp [go_sem, ft]
    replace fu : ∀ j, W7.frozen? ⟨b11, j, none⟩ = false := by intro j; rw [← hW]; simp [go_sem, fu]
    replace bW : Below w.heap.size w W7 := by rw [← hW]; (repeat (first | with_reducible exact bW | with_reducible refine rt_dr ?_ | with_reducible refine rt_st ?_ (by omega) _))
    have zs_W7 : W7.heap.size = W6.heap.size := by rw [← hW]; simp
    rw [hW]
    clear hW
    go_wp2_with fail
    go_meet
    exact ⟨_, rfl, rfl, rfl, r0, r1, r2, s0, s1, s2, t0, t1, t2, u0, u1, u2, fr, fs, by omega, bW⟩
   case rest =>
    try clear he hl hh
    clear a0 a1 a2 b0 b1 b2 r0 r1 r2 s0 s1 s2 t0 t1 t2 u0 u1 u2 fr fs ft fu bW z4 z5
    obtain ⟨X, rfl, rfl, rfl, r0, r1, r2, s0, s1, s2, t0, t1, t2, u0, u1, u2, fr, fs, zX, bW⟩ := hcut
    cases pe
    · cases qe
      · go_upto_region 24 with fail
        go_region
        all_goals go_wp2_with fail
        all_goals exact bodyPost_ret (v := .tuple #[.agg #[.bool false, .int .i64 pl, .int .i64 ph], .agg #[.bool false, .int .i64 ql, .int .i64 qh]]) (by simp [results, Tryz.results67, go_sem, r0, r1, r2, s0, s1, s2]) rfl ⟨by simp, by (repeat (first | with_reducible exact bW | with_reducible refine rt_dr ?_ | with_reducible refine rt_st ?_ (by omega) _))⟩
      · go_wp2_with (first
          | (go_at_call 113; refine (hn _).mono ?_; rintro e vn ⟨rfl, g⟩; replace r0 := sO g r0; replace r1 := sO g r1; replace r2 := sO g r2; replace s0 := sO g s0; replace s1 := sO g s1; replace s2 := sO g s2; replace bW := sp_call bW g; have z_vn := g.size; replace fr : ∀ j, vn.frozen? ⟨w.heap.size + 1 + 1, j, none⟩ = false := fun j => (g.frozen (p := ⟨w.heap.size + 1 + 1, j, none⟩) (by simp; omega)).trans (fr j); replace fs : ∀ j, vn.frozen? ⟨w.heap.size + 1 + 1 + 1, j, none⟩ = false := fun j => (g.frozen (p := ⟨w.heap.size + 1 + 1 + 1, j, none⟩) (by simp; omega)).trans (fs j); clear g; clear hn)
          | (go_at_call 113; refine (hn2 _).mono ?_; rintro e vn2 ⟨rfl, g⟩; replace r0 := sO g r0; replace r1 := sO g r1; replace r2 := sO g r2; replace s0 := sO g s0; replace s1 := sO g s1; replace s2 := sO g s2; replace bW := sp_call bW g; have z_vn2 := g.size; replace fr : ∀ j, vn2.frozen? ⟨w.heap.size + 1 + 1, j, none⟩ = false := fun j => (g.frozen (p := ⟨w.heap.size + 1 + 1, j, none⟩) (by simp; omega)).trans (fr j); replace fs : ∀ j, vn2.frozen? ⟨w.heap.size + 1 + 1 + 1, j, none⟩ = false := fun j => (g.frozen (p := ⟨w.heap.size + 1 + 1 + 1, j, none⟩) (by simp; omega)).trans (fs j); clear g; clear hn2)
          | fail)
        exact bodyPost_ret (v := .tuple #[.agg #[.bool true, .int .i64 0, .int .i64 0], .agg #[.bool true, .int .i64 0, .int .i64 0]]) (by simp [results, Tryz.results67, go_sem, r0, r1, r2, s0, s1, s2]) rfl ⟨by simp, by (repeat (first | with_reducible exact bW | with_reducible refine rt_dr ?_ | with_reducible refine rt_st ?_ (by omega) _))⟩
    · go_wp2_with (first
        | (go_at_call 113; refine (hn _).mono ?_; rintro e vn ⟨rfl, g⟩; replace r0 := sO g r0; replace r1 := sO g r1; replace r2 := sO g r2; replace s0 := sO g s0; replace s1 := sO g s1; replace s2 := sO g s2; replace bW := sp_call bW g; have z_vn := g.size; replace fr : ∀ j, vn.frozen? ⟨w.heap.size + 1 + 1, j, none⟩ = false := fun j => (g.frozen (p := ⟨w.heap.size + 1 + 1, j, none⟩) (by simp; omega)).trans (fr j); replace fs : ∀ j, vn.frozen? ⟨w.heap.size + 1 + 1 + 1, j, none⟩ = false := fun j => (g.frozen (p := ⟨w.heap.size + 1 + 1 + 1, j, none⟩) (by simp; omega)).trans (fs j); clear g; clear hn)
        | (go_at_call 113; refine (hn2 _).mono ?_; rintro e vn2 ⟨rfl, g⟩; replace r0 := sO g r0; replace r1 := sO g r1; replace r2 := sO g r2; replace s0 := sO g s0; replace s1 := sO g s1; replace s2 := sO g s2; replace bW := sp_call bW g; have z_vn2 := g.size; replace fr : ∀ j, vn2.frozen? ⟨w.heap.size + 1 + 1, j, none⟩ = false := fun j => (g.frozen (p := ⟨w.heap.size + 1 + 1, j, none⟩) (by simp; omega)).trans (fr j); replace fs : ∀ j, vn2.frozen? ⟨w.heap.size + 1 + 1 + 1, j, none⟩ = false := fun j => (g.frozen (p := ⟨w.heap.size + 1 + 1 + 1, j, none⟩) (by simp; omega)).trans (fs j); clear g; clear hn2)
        | fail)
      exact bodyPost_ret (v := .tuple #[.agg #[.bool true, .int .i64 0, .int .i64 0], .agg #[.bool true, .int .i64 0, .int .i64 0]]) (by simp [results, Tryz.results67, go_sem, r0, r1, r2, s0, s1, s2]) rfl ⟨by simp, by (repeat (first | with_reducible exact bW | with_reducible refine rt_dr ?_ | with_reducible refine rt_st ?_ (by omega) _))⟩
set_option maxRecDepth 100000 in
set_option maxHeartbeats 6400000 in
theorem rt_eq (a b c d : Int) (pe qe : Bool) (pl ph ql qh : Int) (k1 : ∀ V, Calls Tryz.prog 55 #[.agg #[.bool false, .int .i64 a, .int .i64 b], .agg #[.bool false, .int .i64 c, .int .i64 d]] V fun e w' => e = .returned (.agg #[.bool pe, .int .i64 pl, .int .i64 ph]) ∧ Below V.heap.size V w') (he : qe = pe) (hl : ql = pl) (hh : qh = ph) (w : World) :
    Calls Tryz.prog 67 #[.int .i64 16, .agg #[.bool false, .int .i64 a, .int .i64 b], .agg #[.bool false, .int .i64 c, .int .i64 d]] w fun e w' => e = .returned (.tuple #[.agg #[.bool (bothP (pe, pl, ph) (qe, ql, qh)).1.1, .int .i64 (bothP (pe, pl, ph) (qe, ql, qh)).1.2.1, .int .i64 (bothP (pe, pl, ph) (qe, ql, qh)).1.2.2], .agg #[.bool (bothP (pe, pl, ph) (qe, ql, qh)).2.1, .int .i64 (bothP (pe, pl, ph) (qe, ql, qh)).2.2.1, .int .i64 (bothP (pe, pl, ph) (qe, ql, qh)).2.2.2]]) ∧ Below w.heap.size w w' := by
  have hn : ∀ V, Calls Tryz.prog 113 #[] V fun e w' => e = .returned (.agg #[.bool true, .int .i64 0, .int .i64 0]) ∧ Below V.heap.size V w' := fun V => (rnoneI V).mono fun e w' h => ⟨h.1, by rw [h.2]; exact sp_new (Below.refl _ _) _⟩
  have hn2 := hn
  unfold bothP
  dsimp only
  replace he : Hid _ := he
  replace hl : Hid _ := hl
  replace hh : Hid _ := hh
  go_enter Tryz.func67, Tryz.ntmps67
  go_upto_region 5 with fail
  go_cut [8, 9] from 26 to 27 (fun s u X => ∃ (W : World) (b10 b11 : Nat), W = X ∧ s = .pointer (some ⟨b10, 0, none⟩) ∧ u = .pointer (some ⟨b11, 0, none⟩) ∧ w.heap.size + 4 ≤ b10 ∧ w.heap.size + 4 ≤ b11 ∧ b10 ≠ b11 ∧ b10 < X.heap.size ∧ b11 < X.heap.size ∧ X.cell? ⟨w.heap.size, 0, none⟩ = some (.bool false) ∧ X.cell? ⟨w.heap.size, 1, none⟩ = some (.int .i64 a) ∧ X.cell? ⟨w.heap.size, 2, none⟩ = some (.int .i64 b) ∧ X.cell? ⟨w.heap.size + 1, 0, none⟩ = some (.bool false) ∧ X.cell? ⟨w.heap.size + 1, 1, none⟩ = some (.int .i64 c) ∧ X.cell? ⟨w.heap.size + 1, 2, none⟩ = some (.int .i64 d) ∧ X.cell? ⟨w.heap.size + 1 + 1, 0, none⟩ = some (.bool false) ∧ X.cell? ⟨w.heap.size + 1 + 1, 1, none⟩ = some (.int .i64 0) ∧ X.cell? ⟨w.heap.size + 1 + 1, 2, none⟩ = some (.int .i64 0) ∧ X.cell? ⟨w.heap.size + 1 + 1 + 1, 0, none⟩ = some (.bool false) ∧ X.cell? ⟨w.heap.size + 1 + 1 + 1, 1, none⟩ = some (.int .i64 0) ∧ X.cell? ⟨w.heap.size + 1 + 1 + 1, 2, none⟩ = some (.int .i64 0) ∧ X.cell? ⟨b10, 0, none⟩ = some (.bool false) ∧ X.cell? ⟨b10, 1, none⟩ = some (.int .i64 a) ∧ X.cell? ⟨b10, 2, none⟩ = some (.int .i64 b) ∧ X.cell? ⟨b11, 0, none⟩ = some (.bool false) ∧ X.cell? ⟨b11, 1, none⟩ = some (.int .i64 c) ∧ X.cell? ⟨b11, 2, none⟩ = some (.int .i64 d) ∧ (∀ j, X.frozen? ⟨w.heap.size + 1 + 1, j, none⟩ = false) ∧ (∀ j, X.frozen? ⟨w.heap.size + 1 + 1 + 1, j, none⟩ = false) ∧ (∀ j, X.frozen? ⟨b10, j, none⟩ = false) ∧ (∀ j, X.frozen? ⟨b11, j, none⟩ = false) ∧ Below w.heap.size w X)
  case first =>
   go_region
   all_goals go_wp2_with fail
   all_goals go_meet
   all_goals exact ⟨_, _, _, rfl, rfl, rfl, by simp, by simp, by simp, by simp, by simp, by simp [go_sem], by simp [go_sem], by simp [go_sem], by simp [go_sem], by simp [go_sem], by simp [go_sem], by simp [go_sem], by simp [go_sem], by simp [go_sem], by simp [go_sem], by simp [go_sem], by simp [go_sem], by simp [go_sem], by simp [go_sem], by simp [go_sem], by simp [go_sem], by simp [go_sem], by simp [go_sem], by intro j; simp [go_sem], by intro j; simp [go_sem], by intro j; simp [go_sem], by intro j; simp [go_sem], by (repeat (first | exact Below.refl _ _ | with_reducible refine sp_new ?_ _ | with_reducible refine rt_dr ?_ | with_reducible refine rt_st ?_ (by simp; try omega) _))⟩
  case rest =>
   obtain ⟨W, b10, b11, rfl, rfl, rfl, z1, z2, z3, z4, z5, a0, a1, a2, b0, b1, b2, r0, r1, r2, s0, s1, s2, t0, t1, t2, u0, u1, u2, fr, fs, ft, fu, bW⟩ := hcut
   rename_i K1 hK1
   refine hK1 _ _ ?_
   clear hK1
   go_step
   go_cut [8, 9] from 28 to 104 (fun s u X => ∃ W2 : World, W2 = X ∧ s = .pointer (some ⟨b10, 0, none⟩) ∧ u = .pointer (some ⟨b11, 0, none⟩) ∧ X.cell? ⟨w.heap.size + 1 + 1, 0, none⟩ = some (.bool false) ∧ X.cell? ⟨w.heap.size + 1 + 1, 1, none⟩ = some (.int .i64 0) ∧ X.cell? ⟨w.heap.size + 1 + 1, 2, none⟩ = some (.int .i64 0) ∧ X.cell? ⟨w.heap.size + 1 + 1 + 1, 0, none⟩ = some (.bool false) ∧ X.cell? ⟨w.heap.size + 1 + 1 + 1, 1, none⟩ = some (.int .i64 0) ∧ X.cell? ⟨w.heap.size + 1 + 1 + 1, 2, none⟩ = some (.int .i64 0) ∧ X.cell? ⟨b10, 0, none⟩ = some (.bool pe) ∧ X.cell? ⟨b10, 1, none⟩ = some (.int .i64 pl) ∧ X.cell? ⟨b10, 2, none⟩ = some (.int .i64 ph) ∧ X.cell? ⟨b11, 0, none⟩ = some (.bool qe) ∧ X.cell? ⟨b11, 1, none⟩ = some (.int .i64 ql) ∧ X.cell? ⟨b11, 2, none⟩ = some (.int .i64 qh) ∧ (∀ j, X.frozen? ⟨w.heap.size + 1 + 1, j, none⟩ = false) ∧ (∀ j, X.frozen? ⟨w.heap.size + 1 + 1 + 1, j, none⟩ = false) ∧ w.heap.size + 4 ≤ X.heap.size ∧ Below w.heap.size w X)
   case first =>
    go_wp2_with (first
      | (go_at_call 55; refine (k1 _).mono ?_; rintro e v1 ⟨rfl, g⟩; replace a0 := sO g a0; replace a1 := sO g a1; replace a2 := sO g a2; replace b0 := sO g b0; replace b1 := sO g b1; replace b2 := sO g b2; replace r0 := sO g r0; replace r1 := sO g r1; replace r2 := sO g r2; replace s0 := sO g s0; replace s1 := sO g s1; replace s2 := sO g s2; replace t0 := sO g t0; replace t1 := sO g t1; replace t2 := sO g t2; replace u0 := sO g u0; replace u1 := sO g u1; replace u2 := sO g u2; replace bW := sp_call bW g; have z_v1 := g.size; replace fr : ∀ j, v1.frozen? ⟨w.heap.size + 1 + 1, j, none⟩ = false := fun j => (g.frozen (p := ⟨w.heap.size + 1 + 1, j, none⟩) (by simp; omega)).trans (fr j); replace fs : ∀ j, v1.frozen? ⟨w.heap.size + 1 + 1 + 1, j, none⟩ = false := fun j => (g.frozen (p := ⟨w.heap.size + 1 + 1 + 1, j, none⟩) (by simp; omega)).trans (fs j); replace ft : ∀ j, v1.frozen? ⟨b10, j, none⟩ = false := fun j => (g.frozen (p := ⟨b10, j, none⟩) (by simp; omega)).trans (ft j); replace fu : ∀ j, v1.frozen? ⟨b11, j, none⟩ = false := fun j => (g.frozen (p := ⟨b11, j, none⟩) (by simp; omega)).trans (fu j); clear g)
      | fail)
    go_meet
    exact ⟨_, rfl, rfl, rfl, sp_keep3 (sp_keep3 r0 (by omega) _ _ _) (by omega) _ _ _, sp_keep3 (sp_keep3 r1 (by omega) _ _ _) (by omega) _ _ _, sp_keep3 (sp_keep3 r2 (by omega) _ _ _) (by omega) _ _ _, sp_keep3 (sp_keep3 s0 (by omega) _ _ _) (by omega) _ _ _, sp_keep3 (sp_keep3 s1 (by omega) _ _ _) (by omega) _ _ _, sp_keep3 (sp_keep3 s2 (by omega) _ _ _) (by omega) _ _ _, by simp [go_sem, t0, t1, t2, u0, u1, u2, z3, Ne.symm z3], by simp [go_sem, t0, t1, t2, u0, u1, u2, z3, Ne.symm z3], by simp [go_sem, t0, t1, t2, u0, u1, u2, z3, Ne.symm z3], by rw [he.out]; simp [go_sem, t0, t1, t2, u0, u1, u2, z3, Ne.symm z3], by rw [hl.out]; simp [go_sem, t0, t1, t2, u0, u1, u2, z3, Ne.symm z3], by rw [hh.out]; simp [go_sem, t0, t1, t2, u0, u1, u2, z3, Ne.symm z3], by intro j; simp [go_sem, fr], by intro j; simp [go_sem, fs], by simp; omega, by (repeat (first | with_reducible exact bW | with_reducible refine rt_dr ?_ | with_reducible refine rt_st ?_ (by omega) _))⟩
   case rest =>
    try clear he hl hh
    clear a0 a1 a2 b0 b1 b2 r0 r1 r2 s0 s1 s2 t0 t1 t2 u0 u1 u2 fr fs ft fu bW z4 z5
    obtain ⟨X, rfl, rfl, rfl, r0, r1, r2, s0, s1, s2, t0, t1, t2, u0, u1, u2, fr, fs, zX, bW⟩ := hcut
    cases pe
    · cases qe
      · go_upto_region 24 with fail
        go_region
        all_goals go_wp2_with fail
        all_goals exact bodyPost_ret (v := .tuple #[.agg #[.bool false, .int .i64 pl, .int .i64 ph], .agg #[.bool false, .int .i64 ql, .int .i64 qh]]) (by simp [results, Tryz.results67, go_sem, r0, r1, r2, s0, s1, s2]) rfl ⟨by simp, by (repeat (first | with_reducible exact bW | with_reducible refine rt_dr ?_ | with_reducible refine rt_st ?_ (by omega) _))⟩
      · go_wp2_with (first
          | (go_at_call 113; refine (hn _).mono ?_; rintro e vn ⟨rfl, g⟩; replace r0 := sO g r0; replace r1 := sO g r1; replace r2 := sO g r2; replace s0 := sO g s0; replace s1 := sO g s1; replace s2 := sO g s2; replace bW := sp_call bW g; have z_vn := g.size; replace fr : ∀ j, vn.frozen? ⟨w.heap.size + 1 + 1, j, none⟩ = false := fun j => (g.frozen (p := ⟨w.heap.size + 1 + 1, j, none⟩) (by simp; omega)).trans (fr j); replace fs : ∀ j, vn.frozen? ⟨w.heap.size + 1 + 1 + 1, j, none⟩ = false := fun j => (g.frozen (p := ⟨w.heap.size + 1 + 1 + 1, j, none⟩) (by simp; omega)).trans (fs j); clear g; clear hn)
          | (go_at_call 113; refine (hn2 _).mono ?_; rintro e vn2 ⟨rfl, g⟩; replace r0 := sO g r0; replace r1 := sO g r1; replace r2 := sO g r2; replace s0 := sO g s0; replace s1 := sO g s1; replace s2 := sO g s2; replace bW := sp_call bW g; have z_vn2 := g.size; replace fr : ∀ j, vn2.frozen? ⟨w.heap.size + 1 + 1, j, none⟩ = false := fun j => (g.frozen (p := ⟨w.heap.size + 1 + 1, j, none⟩) (by simp; omega)).trans (fr j); replace fs : ∀ j, vn2.frozen? ⟨w.heap.size + 1 + 1 + 1, j, none⟩ = false := fun j => (g.frozen (p := ⟨w.heap.size + 1 + 1 + 1, j, none⟩) (by simp; omega)).trans (fs j); clear g; clear hn2)
          | fail)
        exact bodyPost_ret (v := .tuple #[.agg #[.bool true, .int .i64 0, .int .i64 0], .agg #[.bool true, .int .i64 0, .int .i64 0]]) (by simp [results, Tryz.results67, go_sem, r0, r1, r2, s0, s1, s2]) rfl ⟨by simp, by (repeat (first | with_reducible exact bW | with_reducible refine rt_dr ?_ | with_reducible refine rt_st ?_ (by omega) _))⟩
    · go_wp2_with (first
        | (go_at_call 113; refine (hn _).mono ?_; rintro e vn ⟨rfl, g⟩; replace r0 := sO g r0; replace r1 := sO g r1; replace r2 := sO g r2; replace s0 := sO g s0; replace s1 := sO g s1; replace s2 := sO g s2; replace bW := sp_call bW g; have z_vn := g.size; replace fr : ∀ j, vn.frozen? ⟨w.heap.size + 1 + 1, j, none⟩ = false := fun j => (g.frozen (p := ⟨w.heap.size + 1 + 1, j, none⟩) (by simp; omega)).trans (fr j); replace fs : ∀ j, vn.frozen? ⟨w.heap.size + 1 + 1 + 1, j, none⟩ = false := fun j => (g.frozen (p := ⟨w.heap.size + 1 + 1 + 1, j, none⟩) (by simp; omega)).trans (fs j); clear g; clear hn)
        | (go_at_call 113; refine (hn2 _).mono ?_; rintro e vn2 ⟨rfl, g⟩; replace r0 := sO g r0; replace r1 := sO g r1; replace r2 := sO g r2; replace s0 := sO g s0; replace s1 := sO g s1; replace s2 := sO g s2; replace bW := sp_call bW g; have z_vn2 := g.size; replace fr : ∀ j, vn2.frozen? ⟨w.heap.size + 1 + 1, j, none⟩ = false := fun j => (g.frozen (p := ⟨w.heap.size + 1 + 1, j, none⟩) (by simp; omega)).trans (fr j); replace fs : ∀ j, vn2.frozen? ⟨w.heap.size + 1 + 1 + 1, j, none⟩ = false := fun j => (g.frozen (p := ⟨w.heap.size + 1 + 1 + 1, j, none⟩) (by simp; omega)).trans (fs j); clear g; clear hn2)
        | fail)
      exact bodyPost_ret (v := .tuple #[.agg #[.bool true, .int .i64 0, .int .i64 0], .agg #[.bool true, .int .i64 0, .int .i64 0]]) (by simp [results, Tryz.results67, go_sem, r0, r1, r2, s0, s1, s2]) rfl ⟨by simp, by (repeat (first | with_reducible exact bW | with_reducible refine rt_dr ?_ | with_reducible refine rt_st ?_ (by omega) _))⟩
set_option maxRecDepth 100000 in
set_option maxHeartbeats 6400000 in
theorem rt_ne (a b c d : Int) (pe qe : Bool) (pl ph ql qh : Int) (hp : (c = d ∧ ∀ V, Calls Tryz.prog 133 #[.agg #[.bool false, .int .i64 a, .int .i64 b], .int .i64 c] V fun e w' => e = .returned (.agg #[.bool pe, .int .i64 pl, .int .i64 ph]) ∧ Below V.heap.size V w') ∨ (¬ c = d ∧ pe = false ∧ pl = a ∧ ph = b)) (hq : (a = b ∧ ∀ V, Calls Tryz.prog 133 #[.agg #[.bool false, .int .i64 c, .int .i64 d], .int .i64 a] V fun e w' => e = .returned (.agg #[.bool qe, .int .i64 ql, .int .i64 qh]) ∧ Below V.heap.size V w') ∨ (¬ a = b ∧ qe = false ∧ ql = c ∧ qh = d)) (w : World) :
    Calls Tryz.prog 67 #[.int .i64 17, .agg #[.bool false, .int .i64 a, .int .i64 b], .agg #[.bool false, .int .i64 c, .int .i64 d]] w fun e w' => e = .returned (.tuple #[.agg #[.bool (bothP (pe, pl, ph) (qe, ql, qh)).1.1, .int .i64 (bothP (pe, pl, ph) (qe, ql, qh)).1.2.1, .int .i64 (bothP (pe, pl, ph) (qe, ql, qh)).1.2.2], .agg #[.bool (bothP (pe, pl, ph) (qe, ql, qh)).2.1, .int .i64 (bothP (pe, pl, ph) (qe, ql, qh)).2.2.1, .int .i64 (bothP (pe, pl, ph) (qe, ql, qh)).2.2.2]]) ∧ Below w.heap.size w w' := by
  have hn : ∀ V, Calls Tryz.prog 113 #[] V fun e w' => e = .returned (.agg #[.bool true, .int .i64 0, .int .i64 0]) ∧ Below V.heap.size V w' := fun V => (rnoneI V).mono fun e w' h => ⟨h.1, by rw [h.2]; exact sp_new (Below.refl _ _) _⟩
  have hn2 := hn
  unfold bothP
  dsimp only
  go_enter Tryz.func67, Tryz.ntmps67
  go_upto_region 5 with fail
  go_cut [8, 9] from 26 to 27 (fun s u X => ∃ (W : World) (b10 b11 : Nat), W = X ∧ s = .pointer (some ⟨b10, 0, none⟩) ∧ u = .pointer (some ⟨b11, 0, none⟩) ∧ w.heap.size + 4 ≤ b10 ∧ w.heap.size + 4 ≤ b11 ∧ b10 ≠ b11 ∧ b10 < X.heap.size ∧ b11 < X.heap.size ∧ X.cell? ⟨w.heap.size, 0, none⟩ = some (.bool false) ∧ X.cell? ⟨w.heap.size, 1, none⟩ = some (.int .i64 a) ∧ X.cell? ⟨w.heap.size, 2, none⟩ = some (.int .i64 b) ∧ X.cell? ⟨w.heap.size + 1, 0, none⟩ = some (.bool false) ∧ X.cell? ⟨w.heap.size + 1, 1, none⟩ = some (.int .i64 c) ∧ X.cell? ⟨w.heap.size + 1, 2, none⟩ = some (.int .i64 d) ∧ X.cell? ⟨w.heap.size + 1 + 1, 0, none⟩ = some (.bool false) ∧ X.cell? ⟨w.heap.size + 1 + 1, 1, none⟩ = some (.int .i64 0) ∧ X.cell? ⟨w.heap.size + 1 + 1, 2, none⟩ = some (.int .i64 0) ∧ X.cell? ⟨w.heap.size + 1 + 1 + 1, 0, none⟩ = some (.bool false) ∧ X.cell? ⟨w.heap.size + 1 + 1 + 1, 1, none⟩ = some (.int .i64 0) ∧ X.cell? ⟨w.heap.size + 1 + 1 + 1, 2, none⟩ = some (.int .i64 0) ∧ X.cell? ⟨b10, 0, none⟩ = some (.bool false) ∧ X.cell? ⟨b10, 1, none⟩ = some (.int .i64 a) ∧ X.cell? ⟨b10, 2, none⟩ = some (.int .i64 b) ∧ X.cell? ⟨b11, 0, none⟩ = some (.bool false) ∧ X.cell? ⟨b11, 1, none⟩ = some (.int .i64 c) ∧ X.cell? ⟨b11, 2, none⟩ = some (.int .i64 d) ∧ (∀ j, X.frozen? ⟨w.heap.size + 1 + 1, j, none⟩ = false) ∧ (∀ j, X.frozen? ⟨w.heap.size + 1 + 1 + 1, j, none⟩ = false) ∧ (∀ j, X.frozen? ⟨b10, j, none⟩ = false) ∧ (∀ j, X.frozen? ⟨b11, j, none⟩ = false) ∧ Below w.heap.size w X)
  case first =>
   go_region
   all_goals go_wp2_with fail
   all_goals go_meet
   all_goals exact ⟨_, _, _, rfl, rfl, rfl, by simp, by simp, by simp, by simp, by simp, by simp [go_sem], by simp [go_sem], by simp [go_sem], by simp [go_sem], by simp [go_sem], by simp [go_sem], by simp [go_sem], by simp [go_sem], by simp [go_sem], by simp [go_sem], by simp [go_sem], by simp [go_sem], by simp [go_sem], by simp [go_sem], by simp [go_sem], by simp [go_sem], by simp [go_sem], by simp [go_sem], by intro j; simp [go_sem], by intro j; simp [go_sem], by intro j; simp [go_sem], by intro j; simp [go_sem], by (repeat (first | exact Below.refl _ _ | with_reducible refine sp_new ?_ _ | with_reducible refine rt_dr ?_ | with_reducible refine rt_st ?_ (by simp; try omega) _))⟩
  case rest =>
   obtain ⟨W, b10, b11, rfl, rfl, rfl, z1, z2, z3, z4, z5, a0, a1, a2, b0, b1, b2, r0, r1, r2, s0, s1, s2, t0, t1, t2, u0, u1, u2, fr, fs, ft, fu, bW⟩ := hcut
   rename_i K1 hK1
   refine hK1 _ _ ?_
   clear hK1
   go_step
   go_cut [8, 9] from 28 to 104 (fun s u X => ∃ W2 : World, W2 = X ∧ s = .pointer (some ⟨b10, 0, none⟩) ∧ u = .pointer (some ⟨b11, 0, none⟩) ∧ X.cell? ⟨w.heap.size + 1 + 1, 0, none⟩ = some (.bool false) ∧ X.cell? ⟨w.heap.size + 1 + 1, 1, none⟩ = some (.int .i64 0) ∧ X.cell? ⟨w.heap.size + 1 + 1, 2, none⟩ = some (.int .i64 0) ∧ X.cell? ⟨w.heap.size + 1 + 1 + 1, 0, none⟩ = some (.bool false) ∧ X.cell? ⟨w.heap.size + 1 + 1 + 1, 1, none⟩ = some (.int .i64 0) ∧ X.cell? ⟨w.heap.size + 1 + 1 + 1, 2, none⟩ = some (.int .i64 0) ∧ X.cell? ⟨b10, 0, none⟩ = some (.bool pe) ∧ X.cell? ⟨b10, 1, none⟩ = some (.int .i64 pl) ∧ X.cell? ⟨b10, 2, none⟩ = some (.int .i64 ph) ∧ X.cell? ⟨b11, 0, none⟩ = some (.bool qe) ∧ X.cell? ⟨b11, 1, none⟩ = some (.int .i64 ql) ∧ X.cell? ⟨b11, 2, none⟩ = some (.int .i64 qh) ∧ (∀ j, X.frozen? ⟨w.heap.size + 1 + 1, j, none⟩ = false) ∧ (∀ j, X.frozen? ⟨w.heap.size + 1 + 1 + 1, j, none⟩ = false) ∧ w.heap.size + 4 ≤ X.heap.size ∧ Below w.heap.size w X)
   case first =>
    rcases hp with ⟨h1, k1⟩ | ⟨h1, rfl, rfl, rfl⟩
    · subst h1
      rcases hq with ⟨h2, k2⟩ | ⟨h2, rfl, rfl, rfl⟩
      · subst h2
        go_upto_region 9 with (first
          | (go_at_call 133; refine (k1 _).mono ?_; rintro e v1 ⟨rfl, g⟩; replace a0 := sO g a0; replace a1 := sO g a1; replace a2 := sO g a2; replace b0 := sO g b0; replace b1 := sO g b1; replace b2 := sO g b2; replace r0 := sO g r0; replace r1 := sO g r1; replace r2 := sO g r2; replace s0 := sO g s0; replace s1 := sO g s1; replace s2 := sO g s2; replace t0 := sO g t0; replace t1 := sO g t1; replace t2 := sO g t2; replace u0 := sO g u0; replace u1 := sO g u1; replace u2 := sO g u2; replace bW := sp_call bW g; have z_v1 := g.size; replace fr : ∀ j, v1.frozen? ⟨w.heap.size + 1 + 1, j, none⟩ = false := fun j => (g.frozen (p := ⟨w.heap.size + 1 + 1, j, none⟩) (by simp; omega)).trans (fr j); replace fs : ∀ j, v1.frozen? ⟨w.heap.size + 1 + 1 + 1, j, none⟩ = false := fun j => (g.frozen (p := ⟨w.heap.size + 1 + 1 + 1, j, none⟩) (by simp; omega)).trans (fs j); replace ft : ∀ j, v1.frozen? ⟨b10, j, none⟩ = false := fun j => (g.frozen (p := ⟨b10, j, none⟩) (by simp; omega)).trans (ft j); replace fu : ∀ j, v1.frozen? ⟨b11, j, none⟩ = false := fun j => (g.frozen (p := ⟨b11, j, none⟩) (by simp; omega)).trans (fu j); clear g; clear k1)
          | fail)
        obtain ⟨W6, hW⟩ : ∃ W6, (((v1.setCell ⟨b10, 0, none⟩ (.bool pe)).setCell ⟨b10, 1, none⟩ (.int .i64 pl)).setCell ⟨b10, 2, none⟩ (.int .i64 ph)) = W6 := ⟨_, rfl⟩
        replace t0 : W6.cell? ⟨b10, 0, none⟩ = some (.bool pe) := by rw [← hW]; simp [go_sem, t0, t1, t2]
        replace t1 : W6.cell? ⟨b10, 1, none⟩ = some (.int .i64 pl) := by rw [← hW]; simp [go_sem, t1, t2]
        replace t2 : W6.cell? ⟨b10, 2, none⟩ = some (.int .i64 ph) := by rw [← hW]; simp [go_sem, t2]
        replace a0 := hW ▸ sp_keep3 (b := b10) a0 (by omega) (.bool pe) (.int .i64 pl) (.int .i64 ph)
        replace a1 := hW ▸ sp_keep3 (b := b10) a1 (by omega) (.bool pe) (.int .i64 pl) (.int .i64 ph)
        replace a2 := hW ▸ sp_keep3 (b := b10) a2 (by omega) (.bool pe) (.int .i64 pl) (.int .i64 ph)
        replace b0 := hW ▸ sp_keep3 (b := b10) b0 (by omega) (.bool pe) (.int .i64 pl) (.int .i64 ph)
        replace b1 := hW ▸ sp_keep3 (b := b10) b1 (by omega) (.bool pe) (.int .i64 pl) (.int .i64 ph)
        replace b2 := hW ▸ sp_keep3 (b := b10) b2 (by omega) (.bool pe) (.int .i64 pl) (.int .i64 ph)
        replace r0 := hW ▸ sp_keep3 (b := b10) r0 (by omega) (.bool pe) (.int .i64 pl) (.int .i64 ph)
        replace r1 := hW ▸ sp_keep3 (b := b10) r1 (by omega) (.bool pe) (.int .i64 pl) (.int .i64 ph)
        replace r2 := hW ▸ sp_keep3 (b := b10) r2 (by omega) (.bool pe) (.int .i64 pl) (.int .i64 ph)
        replace s0 := hW ▸ sp_keep3 (b := b10) s0 (by omega) (.bool pe) (.int .i64 pl) (.int .i64 ph)
        replace s1 := hW ▸ sp_keep3 (b := b10) s1 (by omega) (.bool pe) (.int .i64 pl) (.int .i64 ph)
        replace s2 := hW ▸ sp_keep3 (b := b10) s2 (by omega) (.bool pe) (.int .i64 pl) (.int .i64 ph)
        replace u0 := hW ▸ sp_keep3 (b := b10) u0 (by omega) (.bool pe) (.int .i64 pl) (.int .i64 ph)
        replace u1 := hW ▸ sp_keep3 (b := b10) u1 (by omega) (.bool pe) (.int .i64 pl) (.int .i64 ph)
        replace u2 := hW ▸ sp_keep3 (b := b10) u2 (by omega) (.bool pe) (.int .i64 pl) (.int .i64 ph)
        replace fr : ∀ j, W6.frozen? ⟨w.heap.size + 1 + 1, j, none⟩ = false := by intro j; rw [← hW]; simp [go_sem, fr]
        replace fs : ∀ j, W6.frozen? ⟨w.heap.size + 1 + 1 + 1, j, none⟩ = false := by intro j; rw [← hW]; simp [go_sem, fs]
        replace ft : ∀ j, W6.frozen? ⟨b10, j, none⟩ = false := by intro j; rw [← hW]; simp [go_sem, ft]
        replace fu : ∀ j, W6.frozen? ⟨b11, j, none⟩ = false := by intro j; rw [← hW]; simp [go_sem, fu]
        replace bW : Below w.heap.size w W6 := by rw [← hW]; (repeat (first | with_reducible exact bW | with_reducible refine rt_dr ?_ | with_reducible refine rt_st ?_ (by omega) _))
        have zs_W6 : W6.heap.size = v1.heap.size := by rw [← hW]; simp
        rw [hW]
        clear hW
        go_wp2_with (first
          | (go_at_call 133; refine (k2 _).mono ?_; rintro e v2 ⟨rfl, g⟩; replace a0 := sO g a0; replace a1 := sO g a1; replace a2 := sO g a2; replace b0 := sO g b0; replace b1 := sO g b1; replace b2 := sO g b2; replace r0 := sO g r0; replace r1 := sO g r1; replace r2 := sO g r2; replace s0 := sO g s0; replace s1 := sO g s1; replace s2 := sO g s2; replace t0 := sO g t0; replace t1 := sO g t1; replace t2 := sO g t2; replace u0 := sO g u0; replace u1 := sO g u1; replace u2 := sO g u2; replace bW := sp_call bW g; have z_v2 := g.size; replace fr : ∀ j, v2.frozen? ⟨w.heap.size + 1 + 1, j, none⟩ = false := fun j => (g.frozen (p := ⟨w.heap.size + 1 + 1, j, none⟩) (by simp; omega)).trans (fr j); replace fs : ∀ j, v2.frozen? ⟨w.heap.size + 1 + 1 + 1, j, none⟩ = false := fun j => (g.frozen (p := ⟨w.heap.size + 1 + 1 + 1, j, none⟩) (by simp; omega)).trans (fs j); replace ft : ∀ j, v2.frozen? ⟨b10, j, none⟩ = false := fun j => (g.frozen (p := ⟨b10, j, none⟩) (by simp; omega)).trans (ft j); replace fu : ∀ j, v2.frozen? ⟨b11, j, none⟩ = false := fun j => (g.frozen (p := ⟨b11, j, none⟩) (by simp; omega)).trans (fu j); clear g)
          | fail)
        go_meet
        exact ⟨_, rfl, rfl, rfl, sp_keep3 r0 (by omega) _ _ _, sp_keep3 r1 (by omega) _ _ _, sp_keep3 r2 (by omega) _ _ _, sp_keep3 s0 (by omega) _ _ _, sp_keep3 s1 (by omega) _ _ _, sp_keep3 s2 (by omega) _ _ _, by simp [go_sem, t0, t1, t2, u0, u1, u2, z3, Ne.symm z3], by simp [go_sem, t0, t1, t2, u0, u1, u2, z3, Ne.symm z3], by simp [go_sem, t0, t1, t2, u0, u1, u2, z3, Ne.symm z3], by simp [go_sem, t0, t1, t2, u0, u1, u2, z3, Ne.symm z3], by simp [go_sem, t0, t1, t2, u0, u1, u2, z3, Ne.symm z3], by simp [go_sem, t0, t1, t2, u0, u1, u2, z3, Ne.symm z3], by intro j; simp [go_sem, fr], by intro j; simp [go_sem, fs], by simp; omega, by (repeat (first | with_reducible exact bW | with_reducible refine rt_dr ?_ | with_reducible refine rt_st ?_ (by omega) _))⟩
      · skip
        go_wp2_with (first
          | (go_at_call 133; refine (k1 _).mono ?_; rintro e v1 ⟨rfl, g⟩; replace a0 := sO g a0; replace a1 := sO g a1; replace a2 := sO g a2; replace b0 := sO g b0; replace b1 := sO g b1; replace b2 := sO g b2; replace r0 := sO g r0; replace r1 := sO g r1; replace r2 := sO g r2; replace s0 := sO g s0; replace s1 := sO g s1; replace s2 := sO g s2; replace t0 := sO g t0; replace t1 := sO g t1; replace t2 := sO g t2; replace u0 := sO g u0; replace u1 := sO g u1; replace u2 := sO g u2; replace bW := sp_call bW g; have z_v1 := g.size; replace fr : ∀ j, v1.frozen? ⟨w.heap.size + 1 + 1, j, none⟩ = false := fun j => (g.frozen (p := ⟨w.heap.size + 1 + 1, j, none⟩) (by simp; omega)).trans (fr j); replace fs : ∀ j, v1.frozen? ⟨w.heap.size + 1 + 1 + 1, j, none⟩ = false := fun j => (g.frozen (p := ⟨w.heap.size + 1 + 1 + 1, j, none⟩) (by simp; omega)).trans (fs j); replace ft : ∀ j, v1.frozen? ⟨b10, j, none⟩ = false := fun j => (g.frozen (p := ⟨b10, j, none⟩) (by simp; omega)).trans (ft j); replace fu : ∀ j, v1.frozen? ⟨b11, j, none⟩ = false := fun j => (g.frozen (p := ⟨b11, j, none⟩) (by simp; omega)).trans (fu j); clear g; clear k1)
          | fail)
        go_meet
        exact ⟨_, rfl, rfl, rfl, sp_keep3 r0 (by omega) _ _ _, sp_keep3 r1 (by omega) _ _ _, sp_keep3 r2 (by omega) _ _ _, sp_keep3 s0 (by omega) _ _ _, sp_keep3 s1 (by omega) _ _ _, sp_keep3 s2 (by omega) _ _ _, by simp [go_sem, t0, t1, t2, u0, u1, u2, z3, Ne.symm z3], by simp [go_sem, t0, t1, t2, u0, u1, u2, z3, Ne.symm z3], by simp [go_sem, t0, t1, t2, u0, u1, u2, z3, Ne.symm z3], by simp [go_sem, t0, t1, t2, u0, u1, u2, z3, Ne.symm z3], by simp [go_sem, t0, t1, t2, u0, u1, u2, z3, Ne.symm z3], by simp [go_sem, t0, t1, t2, u0, u1, u2, z3, Ne.symm z3], by intro j; simp [go_sem, fr], by intro j; simp [go_sem, fs], by simp; omega, by (repeat (first | with_reducible exact bW | with_reducible refine rt_dr ?_ | with_reducible refine rt_st ?_ (by omega) _))⟩
    · rcases hq with ⟨h2, k2⟩ | ⟨h2, rfl, rfl, rfl⟩
      · subst h2
        go_wp2_with (first
          | (go_at_call 133; refine (k2 _).mono ?_; rintro e v2 ⟨rfl, g⟩; replace a0 := sO g a0; replace a1 := sO g a1; replace a2 := sO g a2; replace b0 := sO g b0; replace b1 := sO g b1; replace b2 := sO g b2; replace r0 := sO g r0; replace r1 := sO g r1; replace r2 := sO g r2; replace s0 := sO g s0; replace s1 := sO g s1; replace s2 := sO g s2; replace t0 := sO g t0; replace t1 := sO g t1; replace t2 := sO g t2; replace u0 := sO g u0; replace u1 := sO g u1; replace u2 := sO g u2; replace bW := sp_call bW g; have z_v2 := g.size; replace fr : ∀ j, v2.frozen? ⟨w.heap.size + 1 + 1, j, none⟩ = false := fun j => (g.frozen (p := ⟨w.heap.size + 1 + 1, j, none⟩) (by simp; omega)).trans (fr j); replace fs : ∀ j, v2.frozen? ⟨w.heap.size + 1 + 1 + 1, j, none⟩ = false := fun j => (g.frozen (p := ⟨w.heap.size + 1 + 1 + 1, j, none⟩) (by simp; omega)).trans (fs j); replace ft : ∀ j, v2.frozen? ⟨b10, j, none⟩ = false := fun j => (g.frozen (p := ⟨b10, j, none⟩) (by simp; omega)).trans (ft j); replace fu : ∀ j, v2.frozen? ⟨b11, j, none⟩ = false := fun j => (g.frozen (p := ⟨b11, j, none⟩) (by simp; omega)).trans (fu j); clear g)
          | fail)
        go_meet
        exact ⟨_, rfl, rfl, rfl, sp_keep3 r0 (by omega) _ _ _, sp_keep3 r1 (by omega) _ _ _, sp_keep3 r2 (by omega) _ _ _, sp_keep3 s0 (by omega) _ _ _, sp_keep3 s1 (by omega) _ _ _, sp_keep3 s2 (by omega) _ _ _, by simp [go_sem, t0, t1, t2, u0, u1, u2, z3, Ne.symm z3], by simp [go_sem, t0, t1, t2, u0, u1, u2, z3, Ne.symm z3], by simp [go_sem, t0, t1, t2, u0, u1, u2, z3, Ne.symm z3], by simp [go_sem, t0, t1, t2, u0, u1, u2, z3, Ne.symm z3], by simp [go_sem, t0, t1, t2, u0, u1, u2, z3, Ne.symm z3], by simp [go_sem, t0, t1, t2, u0, u1, u2, z3, Ne.symm z3], by intro j; simp [go_sem, fr], by intro j; simp [go_sem, fs], by simp; omega, by (repeat (first | with_reducible exact bW | with_reducible refine rt_dr ?_ | with_reducible refine rt_st ?_ (by omega) _))⟩
      · go_wp2_with fail
        go_meet
        exact ⟨_, rfl, rfl, rfl, r0, r1, r2, s0, s1, s2, t0, t1, t2, u0, u1, u2, fr, fs, by omega, by (repeat (first | with_reducible exact bW | with_reducible refine rt_dr ?_ | with_reducible refine rt_st ?_ (by omega) _))⟩
   case rest =>
    try clear he hl hh
    clear a0 a1 a2 b0 b1 b2 r0 r1 r2 s0 s1 s2 t0 t1 t2 u0 u1 u2 fr fs ft fu bW z4 z5
    obtain ⟨X, rfl, rfl, rfl, r0, r1, r2, s0, s1, s2, t0, t1, t2, u0, u1, u2, fr, fs, zX, bW⟩ := hcut
    cases pe
    · cases qe
      · go_upto_region 24 with fail
        go_region
        all_goals go_wp2_with fail
        all_goals exact bodyPost_ret (v := .tuple #[.agg #[.bool false, .int .i64 pl, .int .i64 ph], .agg #[.bool false, .int .i64 ql, .int .i64 qh]]) (by simp [results, Tryz.results67, go_sem, r0, r1, r2, s0, s1, s2]) rfl ⟨by simp, by (repeat (first | with_reducible exact bW | with_reducible refine rt_dr ?_ | with_reducible refine rt_st ?_ (by omega) _))⟩
      · go_wp2_with (first
          | (go_at_call 113; refine (hn _).mono ?_; rintro e vn ⟨rfl, g⟩; replace r0 := sO g r0; replace r1 := sO g r1; replace r2 := sO g r2; replace s0 := sO g s0; replace s1 := sO g s1; replace s2 := sO g s2; replace bW := sp_call bW g; have z_vn := g.size; replace fr : ∀ j, vn.frozen? ⟨w.heap.size + 1 + 1, j, none⟩ = false := fun j => (g.frozen (p := ⟨w.heap.size + 1 + 1, j, none⟩) (by simp; omega)).trans (fr j); replace fs : ∀ j, vn.frozen? ⟨w.heap.size + 1 + 1 + 1, j, none⟩ = false := fun j => (g.frozen (p := ⟨w.heap.size + 1 + 1 + 1, j, none⟩) (by simp; omega)).trans (fs j); clear g; clear hn)
          | (go_at_call 113; refine (hn2 _).mono ?_; rintro e vn2 ⟨rfl, g⟩; replace r0 := sO g r0; replace r1 := sO g r1; replace r2 := sO g r2; replace s0 := sO g s0; replace s1 := sO g s1; replace s2 := sO g s2; replace bW := sp_call bW g; have z_vn2 := g.size; replace fr : ∀ j, vn2.frozen? ⟨w.heap.size + 1 + 1, j, none⟩ = false := fun j => (g.frozen (p := ⟨w.heap.size + 1 + 1, j, none⟩) (by simp; omega)).trans (fr j); replace fs : ∀ j, vn2.frozen? ⟨w.heap.size + 1 + 1 + 1, j, none⟩ = false := fun j => (g.frozen (p := ⟨w.heap.size + 1 + 1 + 1, j, none⟩) (by simp; omega)).trans (fs j); clear g; clear hn2)
          | fail)
        exact bodyPost_ret (v := .tuple #[.agg #[.bool true, .int .i64 0, .int .i64 0], .agg #[.bool true, .int .i64 0, .int .i64 0]]) (by simp [results, Tryz.results67, go_sem, r0, r1, r2, s0, s1, s2]) rfl ⟨by simp, by (repeat (first | with_reducible exact bW | with_reducible refine rt_dr ?_ | with_reducible refine rt_st ?_ (by omega) _))⟩
    · go_wp2_with (first
        | (go_at_call 113; refine (hn _).mono ?_; rintro e vn ⟨rfl, g⟩; replace r0 := sO g r0; replace r1 := sO g r1; replace r2 := sO g r2; replace s0 := sO g s0; replace s1 := sO g s1; replace s2 := sO g s2; replace bW := sp_call bW g; have z_vn := g.size; replace fr : ∀ j, vn.frozen? ⟨w.heap.size + 1 + 1, j, none⟩ = false := fun j => (g.frozen (p := ⟨w.heap.size + 1 + 1, j, none⟩) (by simp; omega)).trans (fr j); replace fs : ∀ j, vn.frozen? ⟨w.heap.size + 1 + 1 + 1, j, none⟩ = false := fun j => (g.frozen (p := ⟨w.heap.size + 1 + 1 + 1, j, none⟩) (by simp; omega)).trans (fs j); clear g; clear hn)
        | (go_at_call 113; refine (hn2 _).mono ?_; rintro e vn2 ⟨rfl, g⟩; replace r0 := sO g r0; replace r1 := sO g r1; replace r2 := sO g r2; replace s0 := sO g s0; replace s1 := sO g s1; replace s2 := sO g s2; replace bW := sp_call bW g; have z_vn2 := g.size; replace fr : ∀ j, vn2.frozen? ⟨w.heap.size + 1 + 1, j, none⟩ = false := fun j => (g.frozen (p := ⟨w.heap.size + 1 + 1, j, none⟩) (by simp; omega)).trans (fr j); replace fs : ∀ j, vn2.frozen? ⟨w.heap.size + 1 + 1 + 1, j, none⟩ = false := fun j => (g.frozen (p := ⟨w.heap.size + 1 + 1 + 1, j, none⟩) (by simp; omega)).trans (fs j); clear g; clear hn2)
        | fail)
      exact bodyPost_ret (v := .tuple #[.agg #[.bool true, .int .i64 0, .int .i64 0], .agg #[.bool true, .int .i64 0, .int .i64 0]]) (by simp [results, Tryz.results67, go_sem, r0, r1, r2, s0, s1, s2]) rfl ⟨by simp, by (repeat (first | with_reducible exact bW | with_reducible refine rt_dr ?_ | with_reducible refine rt_st ?_ (by omega) _))⟩
set_option maxRecDepth 100000 in
set_option maxHeartbeats 6400000 in
theorem rt_none (op : Int) (h12 : 12 ≤ op) (h17 : op ≤ 17) (e1 : Bool) (a b : Int) (e2 : Bool) (c d : Int) (he : (e1 || e2) = true) (w : World) :
    Calls Tryz.prog 67 #[.int .i64 op, .agg #[.bool e1, .int .i64 a, .int .i64 b], .agg #[.bool e2, .int .i64 c, .int .i64 d]] w fun e w' => e = .returned (.tuple #[.agg #[.bool true, .int .i64 0, .int .i64 0], .agg #[.bool true, .int .i64 0, .int .i64 0]]) ∧ Below w.heap.size w w' := by
  have hn : ∀ V, Calls Tryz.prog 113 #[] V fun e w' => e = .returned (.agg #[.bool true, .int .i64 0, .int .i64 0]) ∧ w' = V.alloc (.cells #[.bool true, .int .i64 0, .int .i64 0] 47) := fun V => rnoneI V
  have g1 : ¬ op < 12 := by omega
  have g2 : ¬ 17 < op := by omega
  clear h12 h17
  cases e1
  · cases e2
    · simp at he
    · clear he
      go_enter Tryz.func67, Tryz.ntmps67
      go_wp2_with (go_at_call 113; refine (hn _).mono ?_; rintro e v1 ⟨rfl, rfl⟩)
      exact bodyPost_ret (v := .tuple #[.agg #[.bool true, .int .i64 0, .int .i64 0], .agg #[.bool true, .int .i64 0, .int .i64 0]]) (by simp [results, Tryz.results67, go_sem]) rfl ⟨by simp, by (repeat (first | exact Below.refl _ _ | with_reducible refine sp_new ?_ _ | with_reducible refine rt_st ?_ (by simp; try omega) _))⟩
  · clear he
    go_enter Tryz.func67, Tryz.ntmps67
    go_wp2_with (go_at_call 113; refine (hn _).mono ?_; rintro e v1 ⟨rfl, rfl⟩)
    exact bodyPost_ret (v := .tuple #[.agg #[.bool true, .int .i64 0, .int .i64 0], .agg #[.bool true, .int .i64 0, .int .i64 0]]) (by simp [results, Tryz.results67, go_sem]) rfl ⟨by simp, by (repeat (first | exact Below.refl _ _ | with_reducible refine sp_new ?_ _ | with_reducible refine rt_st ?_ (by simp; try omega) _))⟩
set_option maxRecDepth 100000 in
set_option maxHeartbeats 6400000 in
theorem rt_out (op : Int) (ho : op < 12 ∨ 17 < op) (e1 : Bool) (a b : Int) (e2 : Bool) (c d : Int) (w : World) :
    Calls Tryz.prog 67 #[.int .i64 op, .agg #[.bool e1, .int .i64 a, .int .i64 b], .agg #[.bool e2, .int .i64 c, .int .i64 d]] w fun e w' => e = .returned (.tuple #[.agg #[.bool e1, .int .i64 a, .int .i64 b], .agg #[.bool e2, .int .i64 c, .int .i64 d]]) ∧ Below w.heap.size w w' := by
  rcases ho with g1 | g2
  · go_enter Tryz.func67, Tryz.ntmps67
    go_upto_region 2 with fail
    go_region
    all_goals go_wp2_with fail
    all_goals exact bodyPost_ret (v := .tuple #[.agg #[.bool e1, .int .i64 a, .int .i64 b], .agg #[.bool e2, .int .i64 c, .int .i64 d]]) (by simp [results, Tryz.results67, go_sem]) rfl ⟨by simp, by (repeat (first | exact Below.refl _ _ | with_reducible refine sp_new ?_ _ | with_reducible refine rt_dr ?_ | with_reducible refine rt_st ?_ (by simp; try omega) _))⟩
  · have g1 : ¬ op < 12 := by omega
    go_enter Tryz.func67, Tryz.ntmps67
    go_upto_region 2 with fail
    go_region
    all_goals go_wp2_with fail
    all_goals exact bodyPost_ret (v := .tuple #[.agg #[.bool e1, .int .i64 a, .int .i64 b], .agg #[.bool e2, .int .i64 c, .int .i64 d]]) (by simp [results, Tryz.results67, go_sem]) rfl ⟨by simp, by (repeat (first | exact Below.refl _ _ | with_reducible refine sp_new ?_ _ | with_reducible refine rt_dr ?_ | with_reducible refine rt_st ?_ (by simp; try omega) _))⟩
end Go.Proofs.YthjoigkckgdcaaaGreat

