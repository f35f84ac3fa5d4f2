/- Texts of the proof, put together. -/
import Derived.Test.YthjoigkckgdcaaaGreatXSpFl
import Derived.Deep.DeepCutAuto
import Derived.Test.YthjoigkckgdcaaaGreatXSpFt
import Derived.Test.YthjoigkckgdcaaaGreatXG1
import Derived.Test.YthjoigkckgdcaaaGreatXG3
import Derived.Test.YthjoigkckgdcaaaGreatXSpLv
namespace Go.Proofs.YthjoigkckgdcaaaGreat
open Go.RowKit
set_option linter.unusedVariables false
set_option linter.unusedSimpArgs false
end Go.Proofs.YthjoigkckgdcaaaGreat


namespace Go.Proofs.YthjoigkckgdcaaaGreat
open Go.RowKit
set_option linter.unusedVariables false
set_option linter.unusedSimpArgs false
def tOf (s : Bool) : Int := if s then 2 else 3
def floatV (s : Bool) (x : Int) : Int × Int × Int := if cls s x == 0 || cls s x == 5 then (0, 0, 1) else if cls s x == 4 then (0, 0, 2) else (tOf s, plainF s x, 0)
def vV (v : Int × Int × Int) : Value := .tuple #[.agg #[.int .i64 v.1, .int .i64 0, .int .u64 v.2.1], .int .i64 v.2.2]
set_option maxRecDepth 100000 in
set_option maxHeartbeats 6400000 in
theorem rfmt (s : Bool) (w : World) : Calls Tryz.prog 136 #[.int .i64 (tOf s)] w fun e w' => e = .returned (.int .i64 (fb s)) ∧ w' = w := by
  cases s
  · show Calls Tryz.prog 136 #[.int .i64 3] w _
    go_enter Tryz.func136, Tryz.ntmps136
    go_wp2_with fail
    go_ret
    exact ⟨rfl, rfl⟩
  · show Calls Tryz.prog 136 #[.int .i64 2] w _
    go_enter Tryz.func136, Tryz.ntmps136
    go_wp2_with fail
    go_ret
    exact ⟨rfl, rfl⟩
theorem sp_dNk {w W : World} (h : Below w.heap.size w W) (n : Nat) : Below w.heap.size w (W.drewN n) := ⟨h.os, h.tape, h.output, h.size, h.block⟩
theorem sp_set1k {w W : World} (h : Below w.heap.size w W) {b j : Nat} (hb : w.heap.size ≤ b) (x : Value) : Below w.heap.size w (W.setCell ⟨b, j, none⟩ x) := h.setCell (p := ⟨b, j, none⟩) hb x
set_option maxRecDepth 100000 in
set_option maxHeartbeats 6400000 in
theorem rfloat_any (s : Bool) (x : Int) (h : Word x) (w : World) : Calls Tryz.prog 137 #[.int .i64 (tOf s), .int .u64 x] w fun e w' => e = .returned (vV (floatV s x)) ∧ Below w.heap.size w w' := by
  have hf := rfmt s
  have hc := rclass_any s x h
  have hp := rplain3_any s x h
  unfold floatV vV
  generalize plainF s x = P at *
  generalize cls s x = k at *
  generalize tOf s = t at *
  generalize fb s = f at *
  by_cases k5 : k = 5
  · subst k5
    simp only [show ((5 : Int) == 0 || (5 : Int) == 5) = true from rfl, if_true]
    go_enter Tryz.func137, Tryz.ntmps137
    go_wp2_with (first
      | (go_at_call 136; refine (hf _).mono ?_; rintro e w1 ⟨rfl, rfl⟩)
      | (go_at_call 134; refine (hc _).mono ?_; rintro e w2 ⟨rfl, n2, rfl⟩)
      | fail)
    exact bodyPost_ret (v := .tuple #[.agg #[.int .i64 0, .int .i64 0, .int .u64 0], .int .i64 1]) (by simp [results, Tryz.results137, go_sem]) rfl ⟨rfl, by (repeat (first | with_reducible exact Below.refl _ _ | with_reducible refine sp_new ?_ _ | with_reducible refine sp_dNk ?_ _ | with_reducible refine sp_set1k ?_ (by omega) _))⟩
  by_cases k0 : k = 0
  · subst k0
    simp only [show ((0 : Int) == 0 || (0 : Int) == 5) = true from rfl, if_true]
    go_enter Tryz.func137, Tryz.ntmps137
    go_wp2_with (first
      | (go_at_call 136; refine (hf _).mono ?_; rintro e w1 ⟨rfl, rfl⟩)
      | (go_at_call 134; refine (hc _).mono ?_; rintro e w2 ⟨rfl, n2, rfl⟩)
      | fail)
    exact bodyPost_ret (v := .tuple #[.agg #[.int .i64 0, .int .i64 0, .int .u64 0], .int .i64 1]) (by simp [results, Tryz.results137, go_sem]) rfl ⟨rfl, by (repeat (first | with_reducible exact Below.refl _ _ | with_reducible refine sp_new ?_ _ | with_reducible refine sp_dNk ?_ _ | with_reducible refine sp_set1k ?_ (by omega) _))⟩
  by_cases k4 : k = 4
  · subst k4
    simp only [show ((4 : Int) == 0 || (4 : Int) == 5) = false from rfl, show ((4 : Int) == 4) = true from rfl, if_true, Bool.false_eq_true, if_false]
    go_enter Tryz.func137, Tryz.ntmps137
    go_wp2_with (first
      | (go_at_call 136; refine (hf _).mono ?_; rintro e w1 ⟨rfl, rfl⟩)
      | (go_at_call 134; refine (hc _).mono ?_; rintro e w2 ⟨rfl, n2, rfl⟩)
      | fail)
    exact bodyPost_ret (v := .tuple #[.agg #[.int .i64 0, .int .i64 0, .int .u64 0], .int .i64 2]) (by simp [results, Tryz.results137, go_sem]) rfl ⟨rfl, by (repeat (first | with_reducible exact Below.refl _ _ | with_reducible refine sp_new ?_ _ | with_reducible refine sp_dNk ?_ _ | with_reducible refine sp_set1k ?_ (by omega) _))⟩
  have b5 : (k == 5) = false := by simp [k5]
  have b0 : (k == 0) = false := by simp [k0]
  have b4 : (k == 4) = false := by simp [k4]
  rw [b5, b0, b4]
  simp only [Bool.or_self, Bool.false_eq_true, if_false]
  clear k5 k0 k4
  go_enter Tryz.func137, Tryz.ntmps137
  go_wp2_with (first
    | (go_at_call 136; refine (hf _).mono ?_; rintro e w1 ⟨rfl, rfl⟩)
    | (go_at_call 134; refine (hc _).mono ?_; rintro e w2 ⟨rfl, n2, rfl⟩)
    | (go_at_call 68; refine (hp _).mono ?_; rintro e w3 ⟨rfl, n3, rfl⟩)
    | fail)
  exact bodyPost_ret (v := .tuple #[.agg #[.int .i64 t, .int .i64 0, .int .u64 P], .int .i64 0]) (by simp [results, Tryz.results137, go_sem]) rfl ⟨rfl, by (repeat (first | with_reducible exact Below.refl _ _ | with_reducible refine sp_new ?_ _ | with_reducible refine sp_dNk ?_ _ | with_reducible refine sp_set1k ?_ (by omega) _))⟩
set_option maxRecDepth 100000 in
set_option maxHeartbeats 6400000 in
theorem rtwof_add (s : Bool) (a b : Int) (h1 : Word a) (h2 : Word b) (hr : Word (gF 8 s a b)) (w : World) : Calls Tryz.prog 69 #[.int .i64 8, .agg #[.int .i64 (tOf s), .int .i64 0, .int .u64 a], .agg #[.int .i64 (tOf s), .int .i64 0, .int .u64 b]] w fun e w' => e = .returned (vV (floatV s (gF 8 s a b))) ∧ Below w.heap.size w w' := by
  have hf := rfmt s
  have hx := raddF_any s 0 a b h1 h2
  have hv := rfloat_any s (gF 8 s a b) hr
  have e : gF 8 s a b = addF s 0 a b := by simp [gF]
  rw [e] at hv ⊢
  clear e hr
  have ht : (tOf s != 1) = true := by cases s <;> rfl
  generalize addF s 0 a b = X at *
  generalize floatV s X = fv at *
  obtain ⟨m, n, k⟩ := fv
  unfold vV at *
  dsimp only at *
  generalize tOf s = t at *
  generalize fb s = f at *
  go_enter Tryz.func69, Tryz.ntmps69
  go_upto_region 5 with (first
    | (go_at_call 136; refine (hf _).mono ?_; rintro e w1 ⟨rfl, rfl⟩)
    | fail)
  obtain ⟨W, hW⟩ : ∃ W, (((w.alloc (.cells #[.int .i64 t, .int .i64 0, .int .u64 a] 71)).alloc (.cells #[.int .i64 t, .int .i64 0, .int .u64 b] 71)).alloc (.cells #[.int .i64 0, .int .i64 0, .int .u64 0] 71)) = W := ⟨_, rfl⟩
  have a0 : W.cell? ⟨w.heap.size, 0, none⟩ = some (.int .i64 t) := by rw [← hW]; simp [go_sem]
  have a1 : W.cell? ⟨w.heap.size, 1, none⟩ = some (.int .i64 0) := by rw [← hW]; simp [go_sem]
  have a2 : W.cell? ⟨w.heap.size, 2, none⟩ = some (.int .u64 a) := by rw [← hW]; simp [go_sem]
  have b0 : W.cell? ⟨w.heap.size + 1, 0, none⟩ = some (.int .i64 t) := by rw [← hW]; simp [go_sem]
  have b1 : W.cell? ⟨w.heap.size + 1, 1, none⟩ = some (.int .i64 0) := by rw [← hW]; simp [go_sem]
  have b2 : W.cell? ⟨w.heap.size + 1, 2, none⟩ = some (.int .u64 b) := by rw [← hW]; simp [go_sem]
  have r0 : W.cell? ⟨w.heap.size + 1 + 1, 0, none⟩ = some (.int .i64 0) := by rw [← hW]; simp [go_sem]
  have r1 : W.cell? ⟨w.heap.size + 1 + 1, 1, none⟩ = some (.int .i64 0) := by rw [← hW]; simp [go_sem]
  have r2 : W.cell? ⟨w.heap.size + 1 + 1, 2, none⟩ = some (.int .u64 0) := by rw [← hW]; simp [go_sem]
  have bW : Below w.heap.size w W := by rw [← hW]; exact (sp_new (sp_new (sp_new (Below.refl _ _) _) _) _)
  have zW : W.heap.size = w.heap.size + 3 := by rw [← hW]; simp
  have fz : ∀ j, W.frozen? ⟨w.heap.size + 1 + 1, j, none⟩ = false := by intro j; rw [← hW]; simp [go_sem]
  rw [hW]
  clear hW
  replace zW := Nat.le_of_eq zW.symm
  go_region_held3 (fun w' => w'.cell? ⟨w.heap.size, 0, none⟩ = some (.int .i64 t) ∧ w'.cell? ⟨w.heap.size, 1, none⟩ = some (.int .i64 0) ∧ w'.cell? ⟨w.heap.size, 2, none⟩ = some (.int .u64 a) ∧ w'.cell? ⟨w.heap.size + 1, 0, none⟩ = some (.int .i64 t) ∧ w'.cell? ⟨w.heap.size + 1, 1, none⟩ = some (.int .i64 0) ∧ w'.cell? ⟨w.heap.size + 1, 2, none⟩ = some (.int .u64 b)) (first | exact ⟨a0, a1, a2, b0, b1, b2⟩ | exact ⟨sp_keep3 a0 (by omega) _ _ _, sp_keep3 a1 (by omega) _ _ _, sp_keep3 a2 (by omega) _ _ _, sp_keep3 b0 (by omega) _ _ _, sp_keep3 b1 (by omega) _ _ _, sp_keep3 b2 (by omega) _ _ _⟩)
    (first
      | (go_at_call 138; refine (hx _).mono ?_; rintro e v1 ⟨rfl, g⟩; replace g : Below W.heap.size W v1 := ⟨g.os, g.tape, g.output, g.size, g.block⟩; replace a0 := sO g a0; replace a1 := sO g a1; replace a2 := sO g a2; replace b0 := sO g b0; replace b1 := sO g b1; replace b2 := sO g b2; replace r0 := sO g r0; replace r1 := sO g r1; replace r2 := sO g r2; replace bW := sp_call bW g; replace fz : ∀ j, v1.frozen? ⟨w.heap.size + 1 + 1, j, none⟩ = false := fun j => (g.frozen (p := ⟨w.heap.size + 1 + 1, j, none⟩) (by simp; omega)).trans (fz j); have z1 := g.size; clear g)
      | (go_at_call 137; refine (hv _).mono ?_; rintro e v2 ⟨rfl, g⟩; replace g : Below v1.heap.size v1 v2 := ⟨g.os, g.tape, g.output, g.size, g.block⟩; replace a0 := sO g a0; replace a1 := sO g a1; replace a2 := sO g a2; replace b0 := sO g b0; replace b1 := sO g b1; replace b2 := sO g b2; replace r0 := sO g r0; replace r1 := sO g r1; replace r2 := sO g r2; replace bW := sp_call bW g; replace fz : ∀ j, v2.frozen? ⟨w.heap.size + 1 + 1, j, none⟩ = false := fun j => (g.frozen (p := ⟨w.heap.size + 1 + 1, j, none⟩) (by simp; omega)).trans (fz j); have z2 := g.size; clear g)
      | fail)
  all_goals go_wp2
  all_goals exact bodyPost_ret (v := .tuple #[.agg #[.int .i64 m, .int .i64 0, .int .u64 n], .int .i64 k]) (by simp [results, Tryz.results69, go_sem, r0, r1, r2]) rfl ⟨rfl, sp_set3 bW (by omega) _ _ _⟩
set_option maxRecDepth 100000 in
set_option maxHeartbeats 6400000 in
theorem rtwof_sub (s : Bool) (a b : Int) (h1 : Word a) (h2 : Word b) (hr : Word (gF 9 s a b)) (w : World) : Calls Tryz.prog 69 #[.int .i64 9, .agg #[.int .i64 (tOf s), .int .i64 0, .int .u64 a], .agg #[.int .i64 (tOf s), .int .i64 0, .int .u64 b]] w fun e w' => e = .returned (vV (floatV s (gF 9 s a b))) ∧ Below w.heap.size w w' := by
  have hf := rfmt s
  have hx := rsubF_any s 0 a b h1 h2
  have hv := rfloat_any s (gF 9 s a b) hr
  have e : gF 9 s a b = subF s 0 a b := by simp [gF]
  rw [e] at hv ⊢
  clear e hr
  have ht : (tOf s != 1) = true := by cases s <;> rfl
  generalize subF s 0 a b = X at *
  generalize floatV s X = fv at *
  obtain ⟨m, n, k⟩ := fv
  unfold vV at *
  dsimp only at *
  generalize tOf s = t at *
  generalize fb s = f at *
  go_enter Tryz.func69, Tryz.ntmps69
  go_upto_region 7 with (first
    | (go_at_call 136; refine (hf _).mono ?_; rintro e w1 ⟨rfl, rfl⟩)
    | fail)
  obtain ⟨W, hW⟩ : ∃ W, (((w.alloc (.cells #[.int .i64 t, .int .i64 0, .int .u64 a] 71)).alloc (.cells #[.int .i64 t, .int .i64 0, .int .u64 b] 71)).alloc (.cells #[.int .i64 0, .int .i64 0, .int .u64 0] 71)) = W := ⟨_, rfl⟩
  have a0 : W.cell? ⟨w.heap.size, 0, none⟩ = some (.int .i64 t) := by rw [← hW]; simp [go_sem]
  have a1 : W.cell? ⟨w.heap.size, 1, none⟩ = some (.int .i64 0) := by rw [← hW]; simp [go_sem]
  have a2 : W.cell? ⟨w.heap.size, 2, none⟩ = some (.int .u64 a) := by rw [← hW]; simp [go_sem]
  have b0 : W.cell? ⟨w.heap.size + 1, 0, none⟩ = some (.int .i64 t) := by rw [← hW]; simp [go_sem]
  have b1 : W.cell? ⟨w.heap.size + 1, 1, none⟩ = some (.int .i64 0) := by rw [← hW]; simp [go_sem]
  have b2 : W.cell? ⟨w.heap.size + 1, 2, none⟩ = some (.int .u64 b) := by rw [← hW]; simp [go_sem]
  have r0 : W.cell? ⟨w.heap.size + 1 + 1, 0, none⟩ = some (.int .i64 0) := by rw [← hW]; simp [go_sem]
  have r1 : W.cell? ⟨w.heap.size + 1 + 1, 1, none⟩ = some (.int .i64 0) := by rw [← hW]; simp [go_sem]
  have r2 : W.cell? ⟨w.heap.size + 1 + 1, 2, none⟩ = some (.int .u64 0) := by rw [← hW]; simp [go_sem]
  have bW : Below w.heap.size w W := by rw [← hW]; exact (sp_new (sp_new (sp_new (Below.refl _ _) _) _) _)
  have zW : W.heap.size = w.heap.size + 3 := by rw [← hW]; simp
  have fz : ∀ j, W.frozen? ⟨w.heap.size + 1 + 1, j, none⟩ = false := by intro j; rw [← hW]; simp [go_sem]
  rw [hW]
  clear hW
  replace zW := Nat.le_of_eq zW.symm
  go_region_held3 (fun w' => w'.cell? ⟨w.heap.size, 0, none⟩ = some (.int .i64 t) ∧ w'.cell? ⟨w.heap.size, 1, none⟩ = some (.int .i64 0) ∧ w'.cell? ⟨w.heap.size, 2, none⟩ = some (.int .u64 a) ∧ w'.cell? ⟨w.heap.size + 1, 0, none⟩ = some (.int .i64 t) ∧ w'.cell? ⟨w.heap.size + 1, 1, none⟩ = some (.int .i64 0) ∧ w'.cell? ⟨w.heap.size + 1, 2, none⟩ = some (.int .u64 b)) (first | exact ⟨a0, a1, a2, b0, b1, b2⟩ | exact ⟨sp_keep3 a0 (by omega) _ _ _, sp_keep3 a1 (by omega) _ _ _, sp_keep3 a2 (by omega) _ _ _, sp_keep3 b0 (by omega) _ _ _, sp_keep3 b1 (by omega) _ _ _, sp_keep3 b2 (by omega) _ _ _⟩)
    (first
      | (go_at_call 139; refine (hx _).mono ?_; rintro e v1 ⟨rfl, g⟩; replace g : Below W.heap.size W v1 := ⟨g.os, g.tape, g.output, g.size, g.block⟩; replace a0 := sO g a0; replace a1 := sO g a1; replace a2 := sO g a2; replace b0 := sO g b0; replace b1 := sO g b1; replace b2 := sO g b2; replace r0 := sO g r0; replace r1 := sO g r1; replace r2 := sO g r2; replace bW := sp_call bW g; replace fz : ∀ j, v1.frozen? ⟨w.heap.size + 1 + 1, j, none⟩ = false := fun j => (g.frozen (p := ⟨w.heap.size + 1 + 1, j, none⟩) (by simp; omega)).trans (fz j); have z1 := g.size; clear g)
      | (go_at_call 137; refine (hv _).mono ?_; rintro e v2 ⟨rfl, g⟩; replace g : Below v1.heap.size v1 v2 := ⟨g.os, g.tape, g.output, g.size, g.block⟩; replace a0 := sO g a0; replace a1 := sO g a1; replace a2 := sO g a2; replace b0 := sO g b0; replace b1 := sO g b1; replace b2 := sO g b2; replace r0 := sO g r0; replace r1 := sO g r1; replace r2 := sO g r2; replace bW := sp_call bW g; replace fz : ∀ j, v2.frozen? ⟨w.heap.size + 1 + 1, j, none⟩ = false := fun j => (g.frozen (p := ⟨w.heap.size + 1 + 1, j, none⟩) (by simp; omega)).trans (fz j); have z2 := g.size; clear g)
      | fail)
  all_goals go_wp2
  all_goals exact bodyPost_ret (v := .tuple #[.agg #[.int .i64 m, .int .i64 0, .int .u64 n], .int .i64 k]) (by simp [results, Tryz.results69, go_sem, r0, r1, r2]) rfl ⟨rfl, sp_set3 bW (by omega) _ _ _⟩
set_option maxRecDepth 100000 in
set_option maxHeartbeats 6400000 in
theorem rtwof_mul (s : Bool) (a b : Int) (h1 : Word a) (h2 : Word b) (hr : Word (gF 10 s a b)) (w : World) : Calls Tryz.prog 69 #[.int .i64 10, .agg #[.int .i64 (tOf s), .int .i64 0, .int .u64 a], .agg #[.int .i64 (tOf s), .int .i64 0, .int .u64 b]] w fun e w' => e = .returned (vV (floatV s (gF 10 s a b))) ∧ Below w.heap.size w w' := by
  have hf := rfmt s
  have hx := rmulF_any s 0 a b h1 h2
  have hv := rfloat_any s (gF 10 s a b) hr
  have e : gF 10 s a b = mulF s 0 a b := by simp [gF]
  rw [e] at hv ⊢
  clear e hr
  have ht : (tOf s != 1) = true := by cases s <;> rfl
  generalize mulF s 0 a b = X at *
  generalize floatV s X = fv at *
  obtain ⟨m, n, k⟩ := fv
  unfold vV at *
  dsimp only at *
  generalize tOf s = t at *
  generalize fb s = f at *
  go_enter Tryz.func69, Tryz.ntmps69
  go_upto_region 9 with (first
    | (go_at_call 136; refine (hf _).mono ?_; rintro e w1 ⟨rfl, rfl⟩)
    | fail)
  obtain ⟨W, hW⟩ : ∃ W, (((w.alloc (.cells #[.int .i64 t, .int .i64 0, .int .u64 a] 71)).alloc (.cells #[.int .i64 t, .int .i64 0, .int .u64 b] 71)).alloc (.cells #[.int .i64 0, .int .i64 0, .int .u64 0] 71)) = W := ⟨_, rfl⟩
  have a0 : W.cell? ⟨w.heap.size, 0, none⟩ = some (.int .i64 t) := by rw [← hW]; simp [go_sem]
  have a1 : W.cell? ⟨w.heap.size, 1, none⟩ = some (.int .i64 0) := by rw [← hW]; simp [go_sem]
  have a2 : W.cell? ⟨w.heap.size, 2, none⟩ = some (.int .u64 a) := by rw [← hW]; simp [go_sem]
  have b0 : W.cell? ⟨w.heap.size + 1, 0, none⟩ = some (.int .i64 t) := by rw [← hW]; simp [go_sem]
  have b1 : W.cell? ⟨w.heap.size + 1, 1, none⟩ = some (.int .i64 0) := by rw [← hW]; simp [go_sem]
  have b2 : W.cell? ⟨w.heap.size + 1, 2, none⟩ = some (.int .u64 b) := by rw [← hW]; simp [go_sem]
  have r0 : W.cell? ⟨w.heap.size + 1 + 1, 0, none⟩ = some (.int .i64 0) := by rw [← hW]; simp [go_sem]
  have r1 : W.cell? ⟨w.heap.size + 1 + 1, 1, none⟩ = some (.int .i64 0) := by rw [← hW]; simp [go_sem]
  have r2 : W.cell? ⟨w.heap.size + 1 + 1, 2, none⟩ = some (.int .u64 0) := by rw [← hW]; simp [go_sem]
  have bW : Below w.heap.size w W := by rw [← hW]; exact (sp_new (sp_new (sp_new (Below.refl _ _) _) _) _)
  have zW : W.heap.size = w.heap.size + 3 := by rw [← hW]; simp
  have fz : ∀ j, W.frozen? ⟨w.heap.size + 1 + 1, j, none⟩ = false := by intro j; rw [← hW]; simp [go_sem]
  rw [hW]
  clear hW
  replace zW := Nat.le_of_eq zW.symm
  go_region_held3 (fun w' => w'.cell? ⟨w.heap.size, 0, none⟩ = some (.int .i64 t) ∧ w'.cell? ⟨w.heap.size, 1, none⟩ = some (.int .i64 0) ∧ w'.cell? ⟨w.heap.size, 2, none⟩ = some (.int .u64 a) ∧ w'.cell? ⟨w.heap.size + 1, 0, none⟩ = some (.int .i64 t) ∧ w'.cell? ⟨w.heap.size + 1, 1, none⟩ = some (.int .i64 0) ∧ w'.cell? ⟨w.heap.size + 1, 2, none⟩ = some (.int .u64 b)) (first | exact ⟨a0, a1, a2, b0, b1, b2⟩ | exact ⟨sp_keep3 a0 (by omega) _ _ _, sp_keep3 a1 (by omega) _ _ _, sp_keep3 a2 (by omega) _ _ _, sp_keep3 b0 (by omega) _ _ _, sp_keep3 b1 (by omega) _ _ _, sp_keep3 b2 (by omega) _ _ _⟩)
    (first
      | (go_at_call 140; refine (hx _).mono ?_; rintro e v1 ⟨rfl, g⟩; replace g : Below W.heap.size W v1 := ⟨g.os, g.tape, g.output, g.size, g.block⟩; replace a0 := sO g a0; replace a1 := sO g a1; replace a2 := sO g a2; replace b0 := sO g b0; replace b1 := sO g b1; replace b2 := sO g b2; replace r0 := sO g r0; replace r1 := sO g r1; replace r2 := sO g r2; replace bW := sp_call bW g; replace fz : ∀ j, v1.frozen? ⟨w.heap.size + 1 + 1, j, none⟩ = false := fun j => (g.frozen (p := ⟨w.heap.size + 1 + 1, j, none⟩) (by simp; omega)).trans (fz j); have z1 := g.size; clear g)
      | (go_at_call 137; refine (hv _).mono ?_; rintro e v2 ⟨rfl, g⟩; replace g : Below v1.heap.size v1 v2 := ⟨g.os, g.tape, g.output, g.size, g.block⟩; replace a0 := sO g a0; replace a1 := sO g a1; replace a2 := sO g a2; replace b0 := sO g b0; replace b1 := sO g b1; replace b2 := sO g b2; replace r0 := sO g r0; replace r1 := sO g r1; replace r2 := sO g r2; replace bW := sp_call bW g; replace fz : ∀ j, v2.frozen? ⟨w.heap.size + 1 + 1, j, none⟩ = false := fun j => (g.frozen (p := ⟨w.heap.size + 1 + 1, j, none⟩) (by simp; omega)).trans (fz j); have z2 := g.size; clear g)
      | fail)
  all_goals go_wp2
  all_goals exact bodyPost_ret (v := .tuple #[.agg #[.int .i64 m, .int .i64 0, .int .u64 n], .int .i64 k]) (by simp [results, Tryz.results69, go_sem, r0, r1, r2]) rfl ⟨rfl, sp_set3 bW (by omega) _ _ _⟩
set_option maxRecDepth 100000 in
set_option maxHeartbeats 6400000 in
theorem rtwof_div (s : Bool) (a b : Int) (h1 : Word a) (h2 : Word b) (hr : Word (gF 11 s a b)) (w : World) : Calls Tryz.prog 69 #[.int .i64 11, .agg #[.int .i64 (tOf s), .int .i64 0, .int .u64 a], .agg #[.int .i64 (tOf s), .int .i64 0, .int .u64 b]] w fun e w' => e = .returned (vV (floatV s (gF 11 s a b))) ∧ Below w.heap.size w w' := by
  have hf := rfmt s
  have hx := rdivF_any s 0 a b h1 h2
  have hv := rfloat_any s (gF 11 s a b) hr
  have e : gF 11 s a b = divF s 0 a b := by simp [gF]
  rw [e] at hv ⊢
  clear e hr
  have ht : (tOf s != 1) = true := by cases s <;> rfl
  generalize divF s 0 a b = X at *
  generalize floatV s X = fv at *
  obtain ⟨m, n, k⟩ := fv
  unfold vV at *
  dsimp only at *
  generalize tOf s = t at *
  generalize fb s = f at *
  go_enter Tryz.func69, Tryz.ntmps69
  go_upto_region 10 with (first
    | (go_at_call 136; refine (hf _).mono ?_; rintro e w1 ⟨rfl, rfl⟩)
    | fail)
  obtain ⟨W, hW⟩ : ∃ W, (((w.alloc (.cells #[.int .i64 t, .int .i64 0, .int .u64 a] 71)).alloc (.cells #[.int .i64 t, .int .i64 0, .int .u64 b] 71)).alloc (.cells #[.int .i64 0, .int .i64 0, .int .u64 0] 71)) = W := ⟨_, rfl⟩
  have a0 : W.cell? ⟨w.heap.size, 0, none⟩ = some (.int .i64 t) := by rw [← hW]; simp [go_sem]
  have a1 : W.cell? ⟨w.heap.size, 1, none⟩ = some (.int .i64 0) := by rw [← hW]; simp [go_sem]
  have a2 : W.cell? ⟨w.heap.size, 2, none⟩ = some (.int .u64 a) := by rw [← hW]; simp [go_sem]
  have b0 : W.cell? ⟨w.heap.size + 1, 0, none⟩ = some (.int .i64 t) := by rw [← hW]; simp [go_sem]
  have b1 : W.cell? ⟨w.heap.size + 1, 1, none⟩ = some (.int .i64 0) := by rw [← hW]; simp [go_sem]
  have b2 : W.cell? ⟨w.heap.size + 1, 2, none⟩ = some (.int .u64 b) := by rw [← hW]; simp [go_sem]
  have r0 : W.cell? ⟨w.heap.size + 1 + 1, 0, none⟩ = some (.int .i64 0) := by rw [← hW]; simp [go_sem]
  have r1 : W.cell? ⟨w.heap.size + 1 + 1, 1, none⟩ = some (.int .i64 0) := by rw [← hW]; simp [go_sem]
  have r2 : W.cell? ⟨w.heap.size + 1 + 1, 2, none⟩ = some (.int .u64 0) := by rw [← hW]; simp [go_sem]
  have bW : Below w.heap.size w W := by rw [← hW]; exact (sp_new (sp_new (sp_new (Below.refl _ _) _) _) _)
  have zW : W.heap.size = w.heap.size + 3 := by rw [← hW]; simp
  have fz : ∀ j, W.frozen? ⟨w.heap.size + 1 + 1, j, none⟩ = false := by intro j; rw [← hW]; simp [go_sem]
  rw [hW]
  clear hW
  replace zW := Nat.le_of_eq zW.symm
  go_region_held3 (fun w' => w'.cell? ⟨w.heap.size, 0, none⟩ = some (.int .i64 t) ∧ w'.cell? ⟨w.heap.size, 1, none⟩ = some (.int .i64 0) ∧ w'.cell? ⟨w.heap.size, 2, none⟩ = some (.int .u64 a) ∧ w'.cell? ⟨w.heap.size + 1, 0, none⟩ = some (.int .i64 t) ∧ w'.cell? ⟨w.heap.size + 1, 1, none⟩ = some (.int .i64 0) ∧ w'.cell? ⟨w.heap.size + 1, 2, none⟩ = some (.int .u64 b)) (first | exact ⟨a0, a1, a2, b0, b1, b2⟩ | exact ⟨sp_keep3 a0 (by omega) _ _ _, sp_keep3 a1 (by omega) _ _ _, sp_keep3 a2 (by omega) _ _ _, sp_keep3 b0 (by omega) _ _ _, sp_keep3 b1 (by omega) _ _ _, sp_keep3 b2 (by omega) _ _ _⟩)
    (first
      | (go_at_call 141; refine (hx _).mono ?_; rintro e v1 ⟨rfl, g⟩; replace g : Below W.heap.size W v1 := ⟨g.os, g.tape, g.output, g.size, g.block⟩; replace a0 := sO g a0; replace a1 := sO g a1; replace a2 := sO g a2; replace b0 := sO g b0; replace b1 := sO g b1; replace b2 := sO g b2; replace r0 := sO g r0; replace r1 := sO g r1; replace r2 := sO g r2; replace bW := sp_call bW g; replace fz : ∀ j, v1.frozen? ⟨w.heap.size + 1 + 1, j, none⟩ = false := fun j => (g.frozen (p := ⟨w.heap.size + 1 + 1, j, none⟩) (by simp; omega)).trans (fz j); have z1 := g.size; clear g)
      | (go_at_call 137; refine (hv _).mono ?_; rintro e v2 ⟨rfl, g⟩; replace g : Below v1.heap.size v1 v2 := ⟨g.os, g.tape, g.output, g.size, g.block⟩; replace a0 := sO g a0; replace a1 := sO g a1; replace a2 := sO g a2; replace b0 := sO g b0; replace b1 := sO g b1; replace b2 := sO g b2; replace r0 := sO g r0; replace r1 := sO g r1; replace r2 := sO g r2; replace bW := sp_call bW g; replace fz : ∀ j, v2.frozen? ⟨w.heap.size + 1 + 1, j, none⟩ = false := fun j => (g.frozen (p := ⟨w.heap.size + 1 + 1, j, none⟩) (by simp; omega)).trans (fz j); have z2 := g.size; clear g)
      | fail)
  all_goals go_wp2
  all_goals exact bodyPost_ret (v := .tuple #[.agg #[.int .i64 m, .int .i64 0, .int .u64 n], .int .i64 k]) (by simp [results, Tryz.results69, go_sem, r0, r1, r2]) rfl ⟨rfl, sp_set3 bW (by omega) _ _ _⟩
end Go.Proofs.YthjoigkckgdcaaaGreat


namespace Go.Proofs.YthjoigkckgdcaaaGreat
open Go.RowKit
set_option linter.unusedVariables false
set_option linter.unusedSimpArgs false
theorem fb_eq (s : Bool) : (fb s == 1) = s := by cases s <;> rfl
theorem b_eq {e r : Ending} {V w' : World} (h : e = r ∧ w' = V) : e = r ∧ Below V.heap.size V w' := ⟨h.1, by rw [h.2]; exact Below.refl _ _⟩
set_option maxRecDepth 100000 in
theorem format8 (p : Int) (w : World) : Calls Tryz.prog 15 #[.int .i64 p] w fun e w' => e = .returned (.int .i64 (fb (p == 1))) ∧ w' = w := by
  by_cases c : p = 1
  · subst c
    go_enter Tryz.func15, Tryz.ntmps15
    go_wp2_with fail
    go_ret
    exact ⟨rfl, rfl⟩
  · have c1 : (p == 1) = false := by simp [c]
    rw [c1]
    clear c
    go_enter Tryz.func15, Tryz.ntmps15
    go_wp2_with fail
    go_ret
    exact ⟨rfl, rfl⟩
set_option maxRecDepth 100000 in
theorem typeOf8 (s : Bool) (w : World) : Calls Tryz.prog 70 #[.int .i64 (fb s)] w fun e w' => e = .returned (.int .i64 (tOf s)) ∧ w' = w := by
  cases s
  · show Calls Tryz.prog 70 #[.int .i64 0] w _
    go_enter Tryz.func70, Tryz.ntmps70
    go_wp2_with fail
    go_ret
    exact ⟨rfl, rfl⟩
  · show Calls Tryz.prog 70 #[.int .i64 1] w _
    go_enter Tryz.func70, Tryz.ntmps70
    go_wp2_with fail
    go_ret
    exact ⟨rfl, rfl⟩
theorem rtwof_any (op : Int) (hop : op = 8 ∨ op = 9 ∨ op = 10 ∨ op = 11) (s : Bool) (a b : Int) (h1 : Word a) (h2 : Word b) (w : World) : Calls Tryz.prog 69 #[.int .i64 op, .agg #[.int .i64 (tOf s), .int .i64 0, .int .u64 a], .agg #[.int .i64 (tOf s), .int .i64 0, .int .u64 b]] w fun e w' => e = .returned (vV (floatV s (gF op s a b))) ∧ Below w.heap.size w w' := by
  have hr := gF_word op s a b h1 h2
  rcases hop with rfl | rfl | rfl | rfl
  · exact rtwof_add s a b h1 h2 hr w
  · exact rtwof_sub s a b h1 h2 hr w
  · exact rtwof_mul s a b h1 h2 hr w
  · exact rtwof_div s a b h1 h2 hr w
theorem floatV_res {s : Bool} {v r : Int} (h : Res s v r) : floatV s v = if r = fI s ∨ r = -fI s then (0, 0, 2) else (tOf s, mk s r, 0) := by
  obtain ⟨_, _, p, n, i⟩ := h
  unfold floatV
  rw [n, i, p]
  by_cases c : r = fI s ∨ r = -fI s
  · rw [if_pos c, decide_eq_true c]; rfl
  · rw [if_neg c, decide_eq_false c]; rfl
end Go.Proofs.YthjoigkckgdcaaaGreat


