/- Texts of the proof, put together. -/
import Derived.Test.YtgdknlnpfnifiaaGreatTG19
namespace Go.Proofs.YtgdknlnpfnifiaaGreat
open Go.RowKit
set_option linter.unusedVariables false
set_option linter.unusedSimpArgs false
set_option maxRecDepth 100000 in
theorem rbit_5 (w : World) : Calls Tryz.prog 21 #[.int .i64 5] w fun e w' => e = .returned (.int .i64 16) ∧ w' = w := by
  go_enter Tryz.func21, Tryz.ntmps21
  go_wp2_with fail
  go_ret
  exact ⟨rfl, rfl⟩
def rI (e : Bool) (a b : Int) : Bool := if e then (a == 0 && b == 0) else decide (a ≤ b) && (decide (-2147483648 ≤ a) && decide (b ≤ 2147483647))
set_option maxRecDepth 100000 in
set_option maxHeartbeats 1600000 in
theorem rright_i (e : Bool) (a b : Int) (w : World) : Calls Tryz.prog 132 #[.agg #[.bool e, .int .i64 a, .int .i64 b]] w fun r w' => r = .returned (.bool (rI e a b)) ∧ Below w.heap.size w w' := by
  unfold rI
  cases e
  · rcases q1 : decide (a ≤ b) with _ | _
    · go_enter Tryz.func132, Tryz.ntmps132
      go_wp2_with fail
      go_ret
      exact ⟨by simp, sp_new (Below.refl _ _) _⟩
    · rcases q2 : decide (-2147483648 ≤ a) with _ | _
      · go_enter Tryz.func132, Tryz.ntmps132
        go_wp2_with fail
        go_ret
        exact ⟨by simp, sp_new (Below.refl _ _) _⟩
      · rcases q3 : decide (b ≤ 2147483647) with _ | _
        · go_enter Tryz.func132, Tryz.ntmps132
          go_wp2_with fail
          go_ret
          exact ⟨by simp, sp_new (Below.refl _ _) _⟩
        · go_enter Tryz.func132, Tryz.ntmps132
          go_wp2_with fail
          go_ret
          exact ⟨by simp, sp_new (Below.refl _ _) _⟩
  · rcases q1 : (a == 0) with _ | _
    · go_enter Tryz.func132, Tryz.ntmps132
      go_wp2_with fail
      go_ret
      exact ⟨by simp, sp_new (Below.refl _ _) _⟩
    · rcases q2 : (b == 0) with _ | _
      all_goals
        go_enter Tryz.func132, Tryz.ntmps132
        go_wp2_with fail
        go_ret
        exact ⟨by simp, sp_new (Below.refl _ _) _⟩
def hI (e : Bool) (a b x : Int) : Bool := !e && (decide (a ≤ x) && decide (x ≤ b))
end Go.Proofs.YtgdknlnpfnifiaaGreat


namespace Go.Proofs.YtgdknlnpfnifiaaGreat
open Go.RowKit
set_option linter.unusedVariables false
set_option linter.unusedSimpArgs false
theorem sp_set1i {w W : World} (h : Below w.heap.size w W) {b j : Nat} (hb : w.heap.size ≤ b) (x : Value) : Below w.heap.size w (W.setCell ⟨b, j, none⟩ x) := h.setCell (p := ⟨b, j, none⟩) hb x
set_option maxRecDepth 100000 in
set_option maxHeartbeats 6400000 in
theorem rnoneI (w : World) : Calls Tryz.prog 56 #[] w fun e w' => e = .returned (.agg #[.bool true, .int .i64 0, .int .i64 0]) ∧ w' = w.alloc (.cells #[.bool true, .int .i64 0, .int .i64 0] 39) := by
  go_enter Tryz.func56, Tryz.ntmps56
  go_wp2_with fail
  exact bodyPost_ret (v := .agg #[.bool true, .int .i64 0, .int .i64 0]) (by simp [results, Tryz.results56, go_sem]) rfl ⟨rfl, rfl⟩
end Go.Proofs.YtgdknlnpfnifiaaGreat


namespace Go.Proofs.YtgdknlnpfnifiaaGreat
open Go.RowKit
set_option linter.unusedVariables false
set_option linter.unusedSimpArgs false
def rOfI (x y : Int) : Bool × Int × Int := if rI false x y then (false, x, y) else (true, 0, 0)
set_option maxRecDepth 100000 in
set_option maxHeartbeats 6400000 in
theorem rofI_any (x y : Int) (w : World) : Calls Tryz.prog 58 #[.int .i64 x, .int .i64 y] w fun e w' => e = .returned (.agg #[.bool (rOfI x y).1, .int .i64 (rOfI x y).2.1, .int .i64 (rOfI x y).2.2]) ∧ Below w.heap.size w w' := by
  have nb : ∀ V, Calls Tryz.prog 56 #[] V fun e w' => e = .returned (.agg #[.bool true, .int .i64 0, .int .i64 0]) ∧ Below V.heap.size V w' := fun V => (rnoneI V).mono fun e w' h => ⟨h.1, by rw [h.2]; exact sp_new (Below.refl _ _) _⟩
  have hr := rright_i false x y
  unfold rOfI
  generalize rI false x y = R at *
  cases R
  · simp only [Bool.false_eq_true, if_false]
    go_enter Tryz.func58, Tryz.ntmps58
    go_wp2_with (first
      | (go_at_call 132; refine (hr _).mono ?_; rintro e w3 ⟨rfl, g⟩; have hc := fun b j h => g.cell (p := ⟨b, j, none⟩) h; have hf := fun b j h => g.frozen (p := ⟨b, j, none⟩) h; have r0 : w3.cell? ⟨w.heap.size, 0, none⟩ = some (.bool false) := (hc _ _ (by simp; omega)).trans (by simp [go_sem]); have r1 : w3.cell? ⟨w.heap.size, 1, none⟩ = some (.int .i64 0) := (hc _ _ (by simp; omega)).trans (by simp [go_sem]); have r2 : w3.cell? ⟨w.heap.size, 2, none⟩ = some (.int .i64 0) := (hc _ _ (by simp; omega)).trans (by simp [go_sem]); have t0 : w3.cell? ⟨w.heap.size + 1, 0, none⟩ = some (.bool false) := (hc _ _ (by simp)).trans (by simp [go_sem]); have t1 : w3.cell? ⟨w.heap.size + 1, 1, none⟩ = some (.int .i64 x) := (hc _ _ (by simp)).trans (by simp [go_sem]); have t2 : w3.cell? ⟨w.heap.size + 1, 2, none⟩ = some (.int .i64 y) := (hc _ _ (by simp)).trans (by simp [go_sem]); have fz : ∀ j, w3.frozen? ⟨w.heap.size, j, none⟩ = false := fun j => (hf _ _ (by simp; omega)).trans (by simp [go_sem]); have zg : w.heap.size + 1 < w3.heap.size := (by have := g.size; simp at this; omega); have zh : w.heap.size < w3.heap.size := (by omega); have b1 := sp_call (show Below w.heap.size w _ by (repeat (first | with_reducible exact Below.refl _ _ | with_reducible assumption | with_reducible refine sp_new ?_ _ | with_reducible refine sp_set1i ?_ (by omega) _))) g; clear hc hf g)
      | (go_at_call 56; refine (nb _).mono ?_; rintro e w9 ⟨rfl, g⟩; replace fz := fun j => (g.frozen (p := ⟨w.heap.size, j, none⟩) zh).trans (fz j); replace r0 := sO g r0; replace r1 := sO g r1; replace r2 := sO g r2; replace b1 := sp_call b1 g; clear g)
      | fail)
    exact bodyPost_ret (v := .agg #[.bool true, .int .i64 0, .int .i64 0]) (by simp [results, Tryz.results58, go_sem, r0, r1, r2]) rfl ⟨by simp, by (repeat (first | with_reducible exact Below.refl _ _ | with_reducible assumption | with_reducible refine sp_new ?_ _ | with_reducible refine sp_set1i ?_ (by omega) _))⟩
  · simp only [if_true]
    go_enter Tryz.func58, Tryz.ntmps58
    go_wp2_with (first
      | (go_at_call 132; refine (hr _).mono ?_; rintro e w3 ⟨rfl, g⟩; have hc := fun b j h => g.cell (p := ⟨b, j, none⟩) h; have hf := fun b j h => g.frozen (p := ⟨b, j, none⟩) h; have r0 : w3.cell? ⟨w.heap.size, 0, none⟩ = some (.bool false) := (hc _ _ (by simp; omega)).trans (by simp [go_sem]); have r1 : w3.cell? ⟨w.heap.size, 1, none⟩ = some (.int .i64 0) := (hc _ _ (by simp; omega)).trans (by simp [go_sem]); have r2 : w3.cell? ⟨w.heap.size, 2, none⟩ = some (.int .i64 0) := (hc _ _ (by simp; omega)).trans (by simp [go_sem]); have t0 : w3.cell? ⟨w.heap.size + 1, 0, none⟩ = some (.bool false) := (hc _ _ (by simp)).trans (by simp [go_sem]); have t1 : w3.cell? ⟨w.heap.size + 1, 1, none⟩ = some (.int .i64 x) := (hc _ _ (by simp)).trans (by simp [go_sem]); have t2 : w3.cell? ⟨w.heap.size + 1, 2, none⟩ = some (.int .i64 y) := (hc _ _ (by simp)).trans (by simp [go_sem]); have fz : ∀ j, w3.frozen? ⟨w.heap.size, j, none⟩ = false := fun j => (hf _ _ (by simp; omega)).trans (by simp [go_sem]); have zg : w.heap.size + 1 < w3.heap.size := (by have := g.size; simp at this; omega); have zh : w.heap.size < w3.heap.size := (by omega); have b1 := sp_call (show Below w.heap.size w _ by (repeat (first | with_reducible exact Below.refl _ _ | with_reducible assumption | with_reducible refine sp_new ?_ _ | with_reducible refine sp_set1i ?_ (by omega) _))) g; clear hc hf g)
      | fail)
    exact bodyPost_ret (v := .agg #[.bool false, .int .i64 x, .int .i64 y]) (by simp [results, Tryz.results58, go_sem, r0, r1, r2]) rfl ⟨by simp, by (repeat (first | with_reducible exact Below.refl _ _ | with_reducible assumption | with_reducible refine sp_new ?_ _ | with_reducible refine sp_set1i ?_ (by omega) _))⟩
end Go.Proofs.YtgdknlnpfnifiaaGreat


