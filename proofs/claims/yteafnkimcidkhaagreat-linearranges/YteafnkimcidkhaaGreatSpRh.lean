/- plumblineref08 of floats: Of, Top, Widen; the pair's right. -/
import Derived.Test.YteafnkimcidkhaaGreatSpRg
import Derived.Deep.RegionHeld3
namespace Go.Proofs.YteafnkimcidkhaaGreat
open Go.RowKit
set_option linter.unusedVariables false
set_option linter.unusedSimpArgs false
def rOfF (s : Bool) (x y : Int) : Bool × Int × Int := if rRF s false (plainF s x) (plainF s y) then (false, plainF s x, plainF s y) else (true, 0, 0)
def rWidenF (s : Bool) (p q : Bool × Int × Int) : Bool × Int × Int := if p.1 then q else if q.1 then p else (false, if lessF s q.2.1 p.2.1 then (if lessF s q.2.1 0 then negF s (fI s - 1) else 0) else p.2.1, if lessF s p.2.2 q.2.2 then (if lessF s 0 q.2.2 then fI s - 1 else 0) else p.2.2)
theorem bcellr {W w1 : World} (hb : Below W.heap.size W w1) : (∀ b o, b < W.heap.size → w1.cell? ⟨b, o, none⟩ = W.cell? ⟨b, o, none⟩) ∧ (∀ b o, b < W.heap.size → w1.frozen? ⟨b, o, none⟩ = W.frozen? ⟨b, o, none⟩) :=
  ⟨fun b o h => hb.cell (p := ⟨b, o, none⟩) h, fun b o h => hb.frozen (p := ⟨b, o, none⟩) h⟩
theorem sp_callr {w W w1 : World} (h : Below w.heap.size w W) (hb : Below W.heap.size W w1) : Below w.heap.size w w1 := h.trans (hb.mono h.size)
set_option maxRecDepth 100000 in
set_option maxHeartbeats 6400000 in
theorem rofF_any (s : Bool) (x y : Int) (h1 : Word x) (h2 : Word y) (w : World) : Calls Tryz.prog 42 #[.int .i64 (fb s), .int .u64 x, .int .u64 y] w fun e w' => e = .returned (.agg #[.bool (rOfF s x y).1, .int .u64 (rOfF s x y).2.1, .int .u64 (rOfF s x y).2.2]) ∧ Below w.heap.size w w' := by
  have hda : ∀ (w : World) (n : Nat) (o : Obj), (w.drewN n).alloc o = (w.alloc o).drewN n := fun _ _ _ => rfl
  have hds : ∀ (w : World) (n : Nat) (p : Addr) (v : Value), (w.drewN n).setCell p v = (w.setCell p v).drewN n := fun _ _ _ _ => rfl
  have nb : ∀ V, Calls Tryz.prog 55 #[] V fun e w' => e = .returned (.agg #[.bool true, .int .u64 0, .int .u64 0]) ∧ Below V.heap.size V w' := fun V => (rnoneF V).mono fun e w' h => ⟨h.1, by rw [h.2]; exact sp_new (Below.refl _ _) _⟩
  have p1 := rplain3_any s x h1
  have p2 := rplain3_any s y h2
  have hr := rrightF_any s false (plainF s x) (plainF s y) (n_plainw s x h1) (n_plainw s y h2)
  unfold rOfF
  generalize rRF s false (plainF s x) (plainF s y) = R at *
  generalize plainF s x = X at *
  generalize plainF s y = Y at *
  generalize fb s = f at *
  cases R
  · simp only [Bool.false_eq_true, if_false]
    go_enter Tryz.func42, Tryz.ntmps42
    go_wp2_with (first
      | (go_at_call 83; refine (p1 _).mono ?_; rintro e w1 ⟨rfl, n1, rfl⟩; clear p1)
      | (go_at_call 83; refine (p2 _).mono ?_; rintro e w2 ⟨rfl, n2, rfl⟩; clear p2)
      | (go_at_call 47; refine (hr _).mono ?_; rintro e w3 ⟨rfl, g⟩; obtain ⟨hc, hf⟩ := bcellr g; have r0 : w3.cell? ⟨w.heap.size, 0, none⟩ = some (.bool false) := (hc _ _ (by simp; omega)).trans (by simp [go_sem]); have r1 : w3.cell? ⟨w.heap.size, 1, none⟩ = some (.int .u64 0) := (hc _ _ (by simp; omega)).trans (by simp [go_sem]); have r2 : w3.cell? ⟨w.heap.size, 2, none⟩ = some (.int .u64 0) := (hc _ _ (by simp; omega)).trans (by simp [go_sem]); have t0 : w3.cell? ⟨w.heap.size + 1, 0, none⟩ = some (.bool false) := (hc _ _ (by simp)).trans (by simp [go_sem]); have t1 : w3.cell? ⟨w.heap.size + 1, 1, none⟩ = some (.int .u64 X) := (hc _ _ (by simp)).trans (by simp [go_sem]); have t2 : w3.cell? ⟨w.heap.size + 1, 2, none⟩ = some (.int .u64 Y) := (hc _ _ (by simp)).trans (by simp [go_sem]); have fz : ∀ j, w3.frozen? ⟨w.heap.size, j, none⟩ = false := fun j => (hf _ _ (by simp; omega)).trans (by simp [go_sem]); have zg : w.heap.size + 1 < w3.heap.size := (by have := g.size; simp at this; omega); have zh : w.heap.size < w3.heap.size := (by omega); have b1 := sp_callr (show Below w.heap.size w _ by (repeat (first | with_reducible exact Below.refl _ _ | with_reducible assumption | with_reducible refine sp_dNr ?_ _ | with_reducible refine sp_new ?_ _ | with_reducible refine sp_drewr ?_ | with_reducible refine sp_set1r ?_ (by omega) _))) g; clear hc hf g)
      | (go_at_call 55; refine (nb _).mono ?_; rintro e w9 ⟨rfl, g⟩; replace fz := fun j => (g.frozen (p := ⟨w.heap.size, j, none⟩) zh).trans (fz j); replace r0 := sp_cell_on g r0; replace r1 := sp_cell_on g r1; replace r2 := sp_cell_on g r2; replace b1 := sp_call b1 g; clear g)
      | fail)
    exact bodyPost_ret (v := .agg #[.bool true, .int .u64 0, .int .u64 0]) (by simp [results, Tryz.results42, go_sem, r0, r1, r2]) rfl ⟨by simp, by (repeat (first | with_reducible exact Below.refl _ _ | with_reducible assumption | with_reducible refine sp_dNr ?_ _ | with_reducible refine sp_new ?_ _ | with_reducible refine sp_drewr ?_ | with_reducible refine sp_set1r ?_ (by omega) _))⟩
  · simp only [if_true]
    go_enter Tryz.func42, Tryz.ntmps42
    go_wp2_with (first
      | (go_at_call 83; refine (p1 _).mono ?_; rintro e w1 ⟨rfl, n1, rfl⟩; clear p1)
      | (go_at_call 83; refine (p2 _).mono ?_; rintro e w2 ⟨rfl, n2, rfl⟩; clear p2)
      | (go_at_call 47; refine (hr _).mono ?_; rintro e w3 ⟨rfl, g⟩; obtain ⟨hc, hf⟩ := bcellr g; have r0 : w3.cell? ⟨w.heap.size, 0, none⟩ = some (.bool false) := (hc _ _ (by simp; omega)).trans (by simp [go_sem]); have r1 : w3.cell? ⟨w.heap.size, 1, none⟩ = some (.int .u64 0) := (hc _ _ (by simp; omega)).trans (by simp [go_sem]); have r2 : w3.cell? ⟨w.heap.size, 2, none⟩ = some (.int .u64 0) := (hc _ _ (by simp; omega)).trans (by simp [go_sem]); have t0 : w3.cell? ⟨w.heap.size + 1, 0, none⟩ = some (.bool false) := (hc _ _ (by simp)).trans (by simp [go_sem]); have t1 : w3.cell? ⟨w.heap.size + 1, 1, none⟩ = some (.int .u64 X) := (hc _ _ (by simp)).trans (by simp [go_sem]); have t2 : w3.cell? ⟨w.heap.size + 1, 2, none⟩ = some (.int .u64 Y) := (hc _ _ (by simp)).trans (by simp [go_sem]); have fz : ∀ j, w3.frozen? ⟨w.heap.size, j, none⟩ = false := fun j => (hf _ _ (by simp; omega)).trans (by simp [go_sem]); have zg : w.heap.size + 1 < w3.heap.size := (by have := g.size; simp at this; omega); have zh : w.heap.size < w3.heap.size := (by omega); have b1 := sp_callr (show Below w.heap.size w _ by (repeat (first | with_reducible exact Below.refl _ _ | with_reducible assumption | with_reducible refine sp_dNr ?_ _ | with_reducible refine sp_new ?_ _ | with_reducible refine sp_drewr ?_ | with_reducible refine sp_set1r ?_ (by omega) _))) g; clear hc hf g)
      | fail)
    exact bodyPost_ret (v := .agg #[.bool false, .int .u64 X, .int .u64 Y]) (by simp [results, Tryz.results42, go_sem, r0, r1, r2]) rfl ⟨by simp, by (repeat (first | with_reducible exact Below.refl _ _ | with_reducible assumption | with_reducible refine sp_dNr ?_ _ | with_reducible refine sp_new ?_ _ | with_reducible refine sp_drewr ?_ | with_reducible refine sp_set1r ?_ (by omega) _))⟩
end Go.Proofs.YteafnkimcidkhaaGreat

