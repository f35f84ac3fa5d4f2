/- Texts of the proof, put together. -/
import Derived.Test.YthjoigkckgdcaaaGreatUSpR
namespace Go.Proofs.YthjoigkckgdcaaaGreat
open Go.RowKit
set_option linter.unusedVariables false
set_option linter.unusedSimpArgs false
theorem sp_set1i {w W : World} (h : Below w.heap.size w W) {b j : Nat} (hb : w.heap.size ≤ b) (x : Value) : Below w.heap.size w (W.setCell ⟨b, j, none⟩ x) := h.setCell (p := ⟨b, j, none⟩) hb x
def rMeetI (p q : Bool × Int × Int) : Bool × Int × Int := if p.1 || q.1 then (true, 0, 0) else if min p.2.2 q.2.2 < max p.2.1 q.2.1 then (true, 0, 0) else (false, max p.2.1 q.2.1, min p.2.2 q.2.2)
set_option maxRecDepth 100000 in
set_option maxHeartbeats 6400000 in
theorem rnoneI (w : World) : Calls Tryz.prog 113 #[] w fun e w' => e = .returned (.agg #[.bool true, .int .i64 0, .int .i64 0]) ∧ w' = w.alloc (.cells #[.bool true, .int .i64 0, .int .i64 0] 47) := by
  go_enter Tryz.func113, Tryz.ntmps113
  go_wp2_with fail
  exact bodyPost_ret (v := .agg #[.bool true, .int .i64 0, .int .i64 0]) (by simp [results, Tryz.results113, go_sem]) rfl ⟨rfl, rfl⟩
set_option maxRecDepth 100000 in
set_option maxHeartbeats 6400000 in
theorem rmeetI_any (e1 : Bool) (a b : Int) (e2 : Bool) (c d : Int) (w : World) : Calls Tryz.prog 55 #[.agg #[.bool e1, .int .i64 a, .int .i64 b], .agg #[.bool e2, .int .i64 c, .int .i64 d]] w fun r w' => r = .returned (.agg #[.bool (rMeetI (e1, a, b) (e2, c, d)).1, .int .i64 (rMeetI (e1, a, b) (e2, c, d)).2.1, .int .i64 (rMeetI (e1, a, b) (e2, c, d)).2.2]) ∧ Below w.heap.size w w' := by
  obtain ⟨R, HR⟩ : ∃ R, rMeetI (e1, a, b) (e2, c, d) = R := ⟨_, rfl⟩
  rw [HR]
  unfold rMeetI at HR
  dsimp only at HR
  cases e1
  · cases e2
    · simp only [Bool.or_self, Bool.false_eq_true, if_false] at HR
      by_cases q1 : a < c
      · skip
        by_cases q2 : d < b
        · rw [show max a c = c by omega, show min b d = d by omega] at HR
          by_cases q3 : d < c
          · rw [if_pos q3] at HR
            subst HR
            go_enter Tryz.func55, Tryz.ntmps55
            go_wp2_with (first
              | (go_at_call 113; refine (rnoneI _).mono ?_; rintro e w9 ⟨rfl, rfl⟩)
              | fail)
            exact bodyPost_ret (v := .agg #[.bool true, .int .i64 0, .int .i64 0]) (by simp [results, Tryz.results55, go_sem]) rfl ⟨rfl, by (repeat (first | with_reducible exact Below.refl _ _ | with_reducible assumption | with_reducible refine sp_new ?_ _ | with_reducible refine sp_set1i ?_ (by omega) _))⟩
          · rw [if_neg q3] at HR
            subst HR
            go_enter Tryz.func55, Tryz.ntmps55
            go_wp2_with (first
              | (go_at_call 113; refine (rnoneI _).mono ?_; rintro e w9 ⟨rfl, rfl⟩)
              | fail)
            exact bodyPost_ret (v := .agg #[.bool false, .int .i64 c, .int .i64 d]) (by simp [results, Tryz.results55, go_sem]) rfl ⟨rfl, by (repeat (first | with_reducible exact Below.refl _ _ | with_reducible assumption | with_reducible refine sp_new ?_ _ | with_reducible refine sp_set1i ?_ (by omega) _))⟩
        · rw [show max a c = c by omega, show min b d = b by omega] at HR
          by_cases q3 : b < c
          · rw [if_pos q3] at HR
            subst HR
            go_enter Tryz.func55, Tryz.ntmps55
            go_wp2_with (first
              | (go_at_call 113; refine (rnoneI _).mono ?_; rintro e w9 ⟨rfl, rfl⟩)
              | fail)
            exact bodyPost_ret (v := .agg #[.bool true, .int .i64 0, .int .i64 0]) (by simp [results, Tryz.results55, go_sem]) rfl ⟨rfl, by (repeat (first | with_reducible exact Below.refl _ _ | with_reducible assumption | with_reducible refine sp_new ?_ _ | with_reducible refine sp_set1i ?_ (by omega) _))⟩
          · rw [if_neg q3] at HR
            subst HR
            go_enter Tryz.func55, Tryz.ntmps55
            go_wp2_with (first
              | (go_at_call 113; refine (rnoneI _).mono ?_; rintro e w9 ⟨rfl, rfl⟩)
              | fail)
            exact bodyPost_ret (v := .agg #[.bool false, .int .i64 c, .int .i64 b]) (by simp [results, Tryz.results55, go_sem]) rfl ⟨rfl, by (repeat (first | with_reducible exact Below.refl _ _ | with_reducible assumption | with_reducible refine sp_new ?_ _ | with_reducible refine sp_set1i ?_ (by omega) _))⟩
      · skip
        by_cases q2 : d < b
        · rw [show max a c = a by omega, show min b d = d by omega] at HR
          by_cases q3 : d < a
          · rw [if_pos q3] at HR
            subst HR
            go_enter Tryz.func55, Tryz.ntmps55
            go_wp2_with (first
              | (go_at_call 113; refine (rnoneI _).mono ?_; rintro e w9 ⟨rfl, rfl⟩)
              | fail)
            exact bodyPost_ret (v := .agg #[.bool true, .int .i64 0, .int .i64 0]) (by simp [results, Tryz.results55, go_sem]) rfl ⟨rfl, by (repeat (first | with_reducible exact Below.refl _ _ | with_reducible assumption | with_reducible refine sp_new ?_ _ | with_reducible refine sp_set1i ?_ (by omega) _))⟩
          · rw [if_neg q3] at HR
            subst HR
            go_enter Tryz.func55, Tryz.ntmps55
            go_wp2_with (first
              | (go_at_call 113; refine (rnoneI _).mono ?_; rintro e w9 ⟨rfl, rfl⟩)
              | fail)
            exact bodyPost_ret (v := .agg #[.bool false, .int .i64 a, .int .i64 d]) (by simp [results, Tryz.results55, go_sem]) rfl ⟨rfl, by (repeat (first | with_reducible exact Below.refl _ _ | with_reducible assumption | with_reducible refine sp_new ?_ _ | with_reducible refine sp_set1i ?_ (by omega) _))⟩
        · rw [show max a c = a by omega, show min b d = b by omega] at HR
          by_cases q3 : b < a
          · rw [if_pos q3] at HR
            subst HR
            go_enter Tryz.func55, Tryz.ntmps55
            go_wp2_with (first
              | (go_at_call 113; refine (rnoneI _).mono ?_; rintro e w9 ⟨rfl, rfl⟩)
              | fail)
            exact bodyPost_ret (v := .agg #[.bool true, .int .i64 0, .int .i64 0]) (by simp [results, Tryz.results55, go_sem]) rfl ⟨rfl, by (repeat (first | with_reducible exact Below.refl _ _ | with_reducible assumption | with_reducible refine sp_new ?_ _ | with_reducible refine sp_set1i ?_ (by omega) _))⟩
          · rw [if_neg q3] at HR
            subst HR
            go_enter Tryz.func55, Tryz.ntmps55
            go_wp2_with (first
              | (go_at_call 113; refine (rnoneI _).mono ?_; rintro e w9 ⟨rfl, rfl⟩)
              | fail)
            exact bodyPost_ret (v := .agg #[.bool false, .int .i64 a, .int .i64 b]) (by simp [results, Tryz.results55, go_sem]) rfl ⟨rfl, by (repeat (first | with_reducible exact Below.refl _ _ | with_reducible assumption | with_reducible refine sp_new ?_ _ | with_reducible refine sp_set1i ?_ (by omega) _))⟩
    · simp only [Bool.or_true, if_true] at HR
      subst HR
      go_enter Tryz.func55, Tryz.ntmps55
      go_wp2_with (first
        | (go_at_call 113; refine (rnoneI _).mono ?_; rintro e w9 ⟨rfl, rfl⟩)
        | fail)
      exact bodyPost_ret (v := .agg #[.bool true, .int .i64 0, .int .i64 0]) (by simp [results, Tryz.results55, go_sem]) rfl ⟨rfl, by (repeat (first | with_reducible exact Below.refl _ _ | with_reducible assumption | with_reducible refine sp_new ?_ _ | with_reducible refine sp_set1i ?_ (by omega) _))⟩
  · simp only [Bool.true_or, if_true] at HR
    subst HR
    go_enter Tryz.func55, Tryz.ntmps55
    go_wp2_with (first
      | (go_at_call 113; refine (rnoneI _).mono ?_; rintro e w9 ⟨rfl, rfl⟩)
      | fail)
    exact bodyPost_ret (v := .agg #[.bool true, .int .i64 0, .int .i64 0]) (by simp [results, Tryz.results55, go_sem]) rfl ⟨rfl, by (repeat (first | with_reducible exact Below.refl _ _ | with_reducible assumption | with_reducible refine sp_new ?_ _ | with_reducible refine sp_set1i ?_ (by omega) _))⟩
end Go.Proofs.YthjoigkckgdcaaaGreat

namespace Go.Proofs.YthjoigkckgdcaaaGreat
open Go.RowKit
set_option linter.unusedVariables false
set_option linter.unusedSimpArgs false
def rOfI (x y : Int) : Bool × Int × Int := if rI false x y then (false, x, y) else (true, 0, 0)
set_option maxRecDepth 100000 in
set_option maxHeartbeats 6400000 in
theorem rofI_any (x y : Int) (w : World) : Calls Tryz.prog 49 #[.int .i64 x, .int .i64 y] w fun e w' => e = .returned (.agg #[.bool (rOfI x y).1, .int .i64 (rOfI x y).2.1, .int .i64 (rOfI x y).2.2]) ∧ Below w.heap.size w w' := by
  have nb : ∀ V, Calls Tryz.prog 113 #[] V fun e w' => e = .returned (.agg #[.bool true, .int .i64 0, .int .i64 0]) ∧ Below V.heap.size V w' := fun V => (rnoneI V).mono fun e w' h => ⟨h.1, by rw [h.2]; exact sp_new (Below.refl _ _) _⟩
  have hr := rright_i false x y
  unfold rOfI
  generalize rI false x y = R at *
  cases R
  · simp only [Bool.false_eq_true, if_false]
    go_enter Tryz.func49, Tryz.ntmps49
    go_wp2_with (first
      | (go_at_call 47; refine (hr _).mono ?_; rintro e w3 ⟨rfl, g⟩; have hc := fun b j h => g.cell (p := ⟨b, j, none⟩) h; have hf := fun b j h => g.frozen (p := ⟨b, j, none⟩) h; have r0 : w3.cell? ⟨w.heap.size, 0, none⟩ = some (.bool false) := (hc _ _ (by simp; omega)).trans (by simp [go_sem]); have r1 : w3.cell? ⟨w.heap.size, 1, none⟩ = some (.int .i64 0) := (hc _ _ (by simp; omega)).trans (by simp [go_sem]); have r2 : w3.cell? ⟨w.heap.size, 2, none⟩ = some (.int .i64 0) := (hc _ _ (by simp; omega)).trans (by simp [go_sem]); have t0 : w3.cell? ⟨w.heap.size + 1, 0, none⟩ = some (.bool false) := (hc _ _ (by simp)).trans (by simp [go_sem]); have t1 : w3.cell? ⟨w.heap.size + 1, 1, none⟩ = some (.int .i64 x) := (hc _ _ (by simp)).trans (by simp [go_sem]); have t2 : w3.cell? ⟨w.heap.size + 1, 2, none⟩ = some (.int .i64 y) := (hc _ _ (by simp)).trans (by simp [go_sem]); have fz : ∀ j, w3.frozen? ⟨w.heap.size, j, none⟩ = false := fun j => (hf _ _ (by simp; omega)).trans (by simp [go_sem]); have zg : w.heap.size + 1 < w3.heap.size := (by have := g.size; simp at this; omega); have zh : w.heap.size < w3.heap.size := (by omega); have b1 := sp_call (show Below w.heap.size w _ by (repeat (first | with_reducible exact Below.refl _ _ | with_reducible assumption | with_reducible refine sp_new ?_ _ | with_reducible refine sp_set1i ?_ (by omega) _))) g; clear hc hf g)
      | (go_at_call 113; refine (nb _).mono ?_; rintro e w9 ⟨rfl, g⟩; replace fz := fun j => (g.frozen (p := ⟨w.heap.size, j, none⟩) zh).trans (fz j); replace r0 := sO g r0; replace r1 := sO g r1; replace r2 := sO g r2; replace b1 := sp_call b1 g; clear g)
      | fail)
    exact bodyPost_ret (v := .agg #[.bool true, .int .i64 0, .int .i64 0]) (by simp [results, Tryz.results49, go_sem, r0, r1, r2]) rfl ⟨by simp, by (repeat (first | with_reducible exact Below.refl _ _ | with_reducible assumption | with_reducible refine sp_new ?_ _ | with_reducible refine sp_set1i ?_ (by omega) _))⟩
  · simp only [if_true]
    go_enter Tryz.func49, Tryz.ntmps49
    go_wp2_with (first
      | (go_at_call 47; refine (hr _).mono ?_; rintro e w3 ⟨rfl, g⟩; have hc := fun b j h => g.cell (p := ⟨b, j, none⟩) h; have hf := fun b j h => g.frozen (p := ⟨b, j, none⟩) h; have r0 : w3.cell? ⟨w.heap.size, 0, none⟩ = some (.bool false) := (hc _ _ (by simp; omega)).trans (by simp [go_sem]); have r1 : w3.cell? ⟨w.heap.size, 1, none⟩ = some (.int .i64 0) := (hc _ _ (by simp; omega)).trans (by simp [go_sem]); have r2 : w3.cell? ⟨w.heap.size, 2, none⟩ = some (.int .i64 0) := (hc _ _ (by simp; omega)).trans (by simp [go_sem]); have t0 : w3.cell? ⟨w.heap.size + 1, 0, none⟩ = some (.bool false) := (hc _ _ (by simp)).trans (by simp [go_sem]); have t1 : w3.cell? ⟨w.heap.size + 1, 1, none⟩ = some (.int .i64 x) := (hc _ _ (by simp)).trans (by simp [go_sem]); have t2 : w3.cell? ⟨w.heap.size + 1, 2, none⟩ = some (.int .i64 y) := (hc _ _ (by simp)).trans (by simp [go_sem]); have fz : ∀ j, w3.frozen? ⟨w.heap.size, j, none⟩ = false := fun j => (hf _ _ (by simp; omega)).trans (by simp [go_sem]); have zg : w.heap.size + 1 < w3.heap.size := (by have := g.size; simp at this; omega); have zh : w.heap.size < w3.heap.size := (by omega); have b1 := sp_call (show Below w.heap.size w _ by (repeat (first | with_reducible exact Below.refl _ _ | with_reducible assumption | with_reducible refine sp_new ?_ _ | with_reducible refine sp_set1i ?_ (by omega) _))) g; clear hc hf g)
      | fail)
    exact bodyPost_ret (v := .agg #[.bool false, .int .i64 x, .int .i64 y]) (by simp [results, Tryz.results49, go_sem, r0, r1, r2]) rfl ⟨by simp, by (repeat (first | with_reducible exact Below.refl _ _ | with_reducible assumption | with_reducible refine sp_new ?_ _ | with_reducible refine sp_set1i ?_ (by omega) _))⟩
end Go.Proofs.YthjoigkckgdcaaaGreat

