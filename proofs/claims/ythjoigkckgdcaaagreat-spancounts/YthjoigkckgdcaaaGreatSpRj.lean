/- plumblineref08 of ints: IntOf, IntTop, IntWiden. -/
import Derived.Test.YthjoigkckgdcaaaGreatSpRi
namespace Go.Proofs.YthjoigkckgdcaaaGreat
open Go.RowKit
set_option linter.unusedVariables false
set_option linter.unusedSimpArgs false
def rOfI (x y : Int) : Bool × Int × Int := if rI false x y then (false, x, y) else (true, 0, 0)
set_option maxRecDepth 100000 in
set_option maxHeartbeats 6400000 in
theorem rofI_any (x y : Int) (w : World) : Calls Tryz.prog 49 #[.int .i64 x, .int .i64 y] w fun e w' => e = .returned (.agg #[.bool (rOfI x y).1, .int .i64 (rOfI x y).2.1, .int .i64 (rOfI x y).2.2]) ∧ Below w.heap.size w w' := by
  have nb : ∀ V, Calls Tryz.prog 113 #[] V fun e w' => e = .returned (.agg #[.bool true, .int .i64 0, .int .i64 0]) ∧ Below V.heap.size V w' := fun V => (rnoneI V).mono fun e w' h => ⟨h.1, by rw [h.2]; exact sp_new (Below.refl _ _) _⟩
  have hr := rright_i false x y
  unfold rOfI
  generalize rI false x y = R at *
  cases R
  · simp only [Bool.false_eq_true, if_false]
    go_enter Tryz.func49, Tryz.ntmps49
    go_wp2_with (first
      | (go_at_call 47; refine (hr _).mono ?_; rintro e w3 ⟨rfl, g⟩; have hc := fun b j h => g.cell (p := ⟨b, j, none⟩) h; have hf := fun b j h => g.frozen (p := ⟨b, j, none⟩) h; have r0 : w3.cell? ⟨w.heap.size, 0, none⟩ = some (.bool false) := (hc _ _ (by simp; omega)).trans (by simp [go_sem]); have r1 : w3.cell? ⟨w.heap.size, 1, none⟩ = some (.int .i64 0) := (hc _ _ (by simp; omega)).trans (by simp [go_sem]); have r2 : w3.cell? ⟨w.heap.size, 2, none⟩ = some (.int .i64 0) := (hc _ _ (by simp; omega)).trans (by simp [go_sem]); have t0 : w3.cell? ⟨w.heap.size + 1, 0, none⟩ = some (.bool false) := (hc _ _ (by simp)).trans (by simp [go_sem]); have t1 : w3.cell? ⟨w.heap.size + 1, 1, none⟩ = some (.int .i64 x) := (hc _ _ (by simp)).trans (by simp [go_sem]); have t2 : w3.cell? ⟨w.heap.size + 1, 2, none⟩ = some (.int .i64 y) := (hc _ _ (by simp)).trans (by simp [go_sem]); have fz : ∀ j, w3.frozen? ⟨w.heap.size, j, none⟩ = false := fun j => (hf _ _ (by simp; omega)).trans (by simp [go_sem]); have zg : w.heap.size + 1 < w3.heap.size := (by have := g.size; simp at this; omega); have zh : w.heap.size < w3.heap.size := (by omega); have b1 := sp_call (show Below w.heap.size w _ by (repeat (first | with_reducible exact Below.refl _ _ | with_reducible assumption | with_reducible refine sp_new ?_ _ | with_reducible refine sp_set1i ?_ (by omega) _))) g; clear hc hf g)
      | (go_at_call 113; refine (nb _).mono ?_; rintro e w9 ⟨rfl, g⟩; replace fz := fun j => (g.frozen (p := ⟨w.heap.size, j, none⟩) zh).trans (fz j); replace r0 := sp_cell_on g r0; replace r1 := sp_cell_on g r1; replace r2 := sp_cell_on g r2; replace b1 := sp_call b1 g; clear g)
      | fail)
    exact bodyPost_ret (v := .agg #[.bool true, .int .i64 0, .int .i64 0]) (by simp [results, Tryz.results49, go_sem, r0, r1, r2]) rfl ⟨by simp, by (repeat (first | with_reducible exact Below.refl _ _ | with_reducible assumption | with_reducible refine sp_new ?_ _ | with_reducible refine sp_set1i ?_ (by omega) _))⟩
  · simp only [if_true]
    go_enter Tryz.func49, Tryz.ntmps49
    go_wp2_with (first
      | (go_at_call 47; refine (hr _).mono ?_; rintro e w3 ⟨rfl, g⟩; have hc := fun b j h => g.cell (p := ⟨b, j, none⟩) h; have hf := fun b j h => g.frozen (p := ⟨b, j, none⟩) h; have r0 : w3.cell? ⟨w.heap.size, 0, none⟩ = some (.bool false) := (hc _ _ (by simp; omega)).trans (by simp [go_sem]); have r1 : w3.cell? ⟨w.heap.size, 1, none⟩ = some (.int .i64 0) := (hc _ _ (by simp; omega)).trans (by simp [go_sem]); have r2 : w3.cell? ⟨w.heap.size, 2, none⟩ = some (.int .i64 0) := (hc _ _ (by simp; omega)).trans (by simp [go_sem]); have t0 : w3.cell? ⟨w.heap.size + 1, 0, none⟩ = some (.bool false) := (hc _ _ (by simp)).trans (by simp [go_sem]); have t1 : w3.cell? ⟨w.heap.size + 1, 1, none⟩ = some (.int .i64 x) := (hc _ _ (by simp)).trans (by simp [go_sem]); have t2 : w3.cell? ⟨w.heap.size + 1, 2, none⟩ = some (.int .i64 y) := (hc _ _ (by simp)).trans (by simp [go_sem]); have fz : ∀ j, w3.frozen? ⟨w.heap.size, j, none⟩ = false := fun j => (hf _ _ (by simp; omega)).trans (by simp [go_sem]); have zg : w.heap.size + 1 < w3.heap.size := (by have := g.size; simp at this; omega); have zh : w.heap.size < w3.heap.size := (by omega); have b1 := sp_call (show Below w.heap.size w _ by (repeat (first | with_reducible exact Below.refl _ _ | with_reducible assumption | with_reducible refine sp_new ?_ _ | with_reducible refine sp_set1i ?_ (by omega) _))) g; clear hc hf g)
      | fail)
    exact bodyPost_ret (v := .agg #[.bool false, .int .i64 x, .int .i64 y]) (by simp [results, Tryz.results49, go_sem, r0, r1, r2]) rfl ⟨by simp, by (repeat (first | with_reducible exact Below.refl _ _ | with_reducible assumption | with_reducible refine sp_new ?_ _ | with_reducible refine sp_set1i ?_ (by omega) _))⟩
set_option maxRecDepth 100000 in
set_option maxHeartbeats 6400000 in
theorem rtopI_any (w : World) : Calls Tryz.prog 51 #[] w fun e w' => e = .returned (.agg #[.bool false, .int .i64 (-2147483648), .int .i64 2147483647]) ∧ Below w.heap.size w w' := by
  have ho := rofI_any (-2147483648) 2147483647
  rw [show rOfI (-2147483648) 2147483647 = (false, -2147483648, 2147483647) by decide] at ho
  dsimp only at ho
  go_enter Tryz.func51, Tryz.ntmps51
  go_wp2_with (first
    | (go_at_call 49; refine (ho _).mono ?_; rintro e w3 ⟨rfl, g⟩; have hc := fun b j h => g.cell (p := ⟨b, j, none⟩) h; have hf := fun b j h => g.frozen (p := ⟨b, j, none⟩) h; have r0 : w3.cell? ⟨w.heap.size, 0, none⟩ = some (.bool false) := (hc _ _ (by simp)).trans (by simp [go_sem]); have r1 : w3.cell? ⟨w.heap.size, 1, none⟩ = some (.int .i64 0) := (hc _ _ (by simp)).trans (by simp [go_sem]); have r2 : w3.cell? ⟨w.heap.size, 2, none⟩ = some (.int .i64 0) := (hc _ _ (by simp)).trans (by simp [go_sem]); have fz : ∀ j, w3.frozen? ⟨w.heap.size, j, none⟩ = false := fun j => (hf _ _ (by simp)).trans (by simp [go_sem]); have b1 := sp_call (show Below w.heap.size w _ by (repeat (first | with_reducible exact Below.refl _ _ | with_reducible assumption | with_reducible refine sp_new ?_ _ | with_reducible refine sp_set1i ?_ (by omega) _))) g; clear hc hf g)
    | fail)
  exact bodyPost_ret (v := .agg #[.bool false, .int .i64 (-2147483648), .int .i64 2147483647]) (by simp [results, Tryz.results51, go_sem, r0, r1, r2]) rfl ⟨rfl, by (repeat (first | with_reducible exact Below.refl _ _ | with_reducible assumption | with_reducible refine sp_new ?_ _ | with_reducible refine sp_set1i ?_ (by omega) _))⟩
end Go.Proofs.YthjoigkckgdcaaaGreat
