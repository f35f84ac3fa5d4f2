/- plumblineref08 of floats: upTo, from, without. -/
import Derived.Test.YthjoigkckgdcaaaGreatSpRh
import Derived.Deep.DeepCutAuto
namespace Go.Proofs.YthjoigkckgdcaaaGreat
open Go.RowKit
set_option linter.unusedVariables false
set_option linter.unusedSimpArgs false
def rUpTo (s : Bool) (x : Int) (st : Bool) : Bool × Int × Int := if st then (if x = negF s (fI s - 1) then (true, 0, 0) else rOfF s (negF s (fI s - 1)) (prevF s x)) else rOfF s (negF s (fI s - 1)) x
def rFrom (s : Bool) (x : Int) (st : Bool) : Bool × Int × Int := if st then (if x = fI s - 1 then (true, 0, 0) else rOfF s (nextF s x) (fI s - 1)) else rOfF s x (fI s - 1)
def rWithoutF (s : Bool) (p : Bool × Int × Int) (x : Int) : Bool × Int × Int := if p.2.1 = x ∧ p.2.2 = x then (true, 0, 0) else if p.2.1 = x then (p.1, nextF s x, p.2.2) else if p.2.2 = x then (p.1, p.2.1, prevF s x) else p
set_option maxRecDepth 100000 in
set_option maxHeartbeats 6400000 in
theorem rupto_any (s : Bool) (x : Int) (st : Bool) (hx : Word x) (w : World) : Calls Tryz.prog 99 #[.int .i64 (fb s), .int .u64 x, .bool st] w fun e w' => e = .returned (.agg #[.bool (rUpTo s x st).1, .int .u64 (rUpTo s x st).2.1, .int .u64 (rUpTo s x st).2.2]) ∧ Below w.heap.size w w' := by
  have hn : ∀ V, Calls Tryz.prog 80 #[] V fun e w' => e = .returned (.agg #[.bool true, .int .u64 0, .int .u64 0]) ∧ Below V.heap.size V w' := fun V => (rnoneF V).mono fun e w' h => ⟨h.1, by rw [h.2]; exact sp_new (Below.refl _ _) _⟩
  have he : ∀ V, Calls Tryz.prog 82 #[.int .i64 (fb s)] V fun e w' => e = .returned (.int .u64 (negF s (fI s - 1))) ∧ Below V.heap.size V w' := fun V => (rleastF s V).mono fun e w' h => ⟨h.1, by first | (obtain ⟨n, hn⟩ := h.2; rw [hn]; exact sp_dNr (Below.refl _ _) n) | (rw [h.2]; exact Below.refl _ _)⟩
  have he2 := he
  have hs : ∀ V, Calls Tryz.prog 92 #[.int .i64 (fb s), .int .u64 x] V fun e w' => e = .returned (.int .u64 (prevF s x)) ∧ Below V.heap.size V w' := fun V => (rprev3_any s x hx V).mono fun e w' h => ⟨h.1, by obtain ⟨n, hn⟩ := h.2; rw [hn]; exact sp_dNr (Below.refl _ _) n⟩
  have we : Word (negF s (fI s - 1)) := by cases s <;> exact ⟨by decide +kernel, by decide +kernel⟩
  have ws : Word (prevF s x) := n_plainw s _ (negF_word s _ (n_nextw s _ (negF_word s x hx)))
  have o1 := rofF_any s (negF s (fI s - 1)) (x) we hx
  have o2 := rofF_any s (negF s (fI s - 1)) (prevF s x) we ws
  unfold rUpTo
  generalize rOfF s (negF s (fI s - 1)) (x) = O1 at *
  generalize rOfF s (negF s (fI s - 1)) (prevF s x) = O2 at *
  generalize negF s (fI s - 1) = LE at *
  generalize prevF s x = S at *
  generalize fb s = f at *
  obtain ⟨oe, ol, oh⟩ := O1
  obtain ⟨pe, pl, ph⟩ := O2
  dsimp only at *
  clear we ws hx
  cases st
  · simp only [Bool.false_eq_true, if_false]
    clear o2 hs hn he2
    go_enter Tryz.func99, Tryz.ntmps99
    go_upto_region 1 with fail
    obtain ⟨W, hW⟩ : ∃ W, w.alloc (.cells #[.bool false, .int .u64 0, .int .u64 0] 25) = W := ⟨_, rfl⟩
    have r0 : W.cell? ⟨w.heap.size, 0, none⟩ = some (.bool false) := by rw [← hW]; simp [go_sem]
    have r1 : W.cell? ⟨w.heap.size, 1, none⟩ = some (.int .u64 0) := by rw [← hW]; simp [go_sem]
    have r2 : W.cell? ⟨w.heap.size, 2, none⟩ = some (.int .u64 0) := by rw [← hW]; simp [go_sem]
    have fz : ∀ j, W.frozen? ⟨w.heap.size, j, none⟩ = false := by intro j; rw [← hW]; simp [go_sem]
    have bW : Below w.heap.size w W := by rw [← hW]; exact sp_new (Below.refl _ _) _
    have zW : w.heap.size < W.heap.size := by rw [← hW]; simp
    rw [hW]
    clear hW
    go_wp2_with (first
      | (go_at_call 82; refine (he _).mono ?_; rintro e v1 ⟨rfl, g⟩; replace g : Below _ _ v1 := g; replace fz : ∀ j, v1.frozen? ⟨w.heap.size, j, none⟩ = false := fun j => (g.frozen (p := ⟨w.heap.size, j, none⟩) (by simp; omega)).trans (fz j); have z_v1 := g.size; replace bW := sp_call bW g; replace r0 := sp_cell_on g r0; replace r1 := sp_cell_on g r1; replace r2 := sp_cell_on g r2; clear g)
      | (go_at_call 19; refine (o1 _).mono ?_; rintro e v2 ⟨rfl, g⟩; replace g : Below _ _ v2 := g; replace fz : ∀ j, v2.frozen? ⟨w.heap.size, j, none⟩ = false := fun j => (g.frozen (p := ⟨w.heap.size, j, none⟩) (by simp; omega)).trans (fz j); have z_v2 := g.size; replace bW := sp_call bW g; replace r0 := sp_cell_on g r0; replace r1 := sp_cell_on g r1; replace r2 := sp_cell_on g r2; clear g)
      | fail)
    exact bodyPost_ret (v := .agg #[.bool oe, .int .u64 ol, .int .u64 oh]) (by simp [results, Tryz.results99, go_sem, r0, r1, r2]) rfl ⟨rfl, sp_set3 bW (by omega) _ _ _⟩
  · simp only [if_true]
    by_cases q : x = LE
    · rw [if_pos q]
      subst q
      clear o1 o2 hs he2
      go_enter Tryz.func99, Tryz.ntmps99
      go_upto_region 1 with fail
      obtain ⟨W, hW⟩ : ∃ W, w.alloc (.cells #[.bool false, .int .u64 0, .int .u64 0] 25) = W := ⟨_, rfl⟩
      have r0 : W.cell? ⟨w.heap.size, 0, none⟩ = some (.bool false) := by rw [← hW]; simp [go_sem]
      have r1 : W.cell? ⟨w.heap.size, 1, none⟩ = some (.int .u64 0) := by rw [← hW]; simp [go_sem]
      have r2 : W.cell? ⟨w.heap.size, 2, none⟩ = some (.int .u64 0) := by rw [← hW]; simp [go_sem]
      have fz : ∀ j, W.frozen? ⟨w.heap.size, j, none⟩ = false := by intro j; rw [← hW]; simp [go_sem]
      have bW : Below w.heap.size w W := by rw [← hW]; exact sp_new (Below.refl _ _) _
      have zW : w.heap.size < W.heap.size := by rw [← hW]; simp
      rw [hW]
      clear hW
      go_wp2_with (first
        | (go_at_call 82; refine (he _).mono ?_; rintro e v1 ⟨rfl, g⟩; replace g : Below _ _ v1 := g; replace fz : ∀ j, v1.frozen? ⟨w.heap.size, j, none⟩ = false := fun j => (g.frozen (p := ⟨w.heap.size, j, none⟩) (by simp; omega)).trans (fz j); have z_v1 := g.size; replace bW := sp_call bW g; replace r0 := sp_cell_on g r0; replace r1 := sp_cell_on g r1; replace r2 := sp_cell_on g r2; clear g)
        | (go_at_call 80; refine (hn _).mono ?_; rintro e v2 ⟨rfl, g⟩; replace g : Below _ _ v2 := g; replace fz : ∀ j, v2.frozen? ⟨w.heap.size, j, none⟩ = false := fun j => (g.frozen (p := ⟨w.heap.size, j, none⟩) (by simp; omega)).trans (fz j); have z_v2 := g.size; replace bW := sp_call bW g; replace r0 := sp_cell_on g r0; replace r1 := sp_cell_on g r1; replace r2 := sp_cell_on g r2; clear g)
        | fail)
      exact bodyPost_ret (v := .agg #[.bool true, .int .u64 0, .int .u64 0]) (by simp [results, Tryz.results99, go_sem, r0, r1, r2]) rfl ⟨rfl, sp_set3 bW (by omega) _ _ _⟩
    · rw [if_neg q]
      clear o1 hn
      go_enter Tryz.func99, Tryz.ntmps99
      go_upto_region 1 with fail
      obtain ⟨W, hW⟩ : ∃ W, w.alloc (.cells #[.bool false, .int .u64 0, .int .u64 0] 25) = W := ⟨_, rfl⟩
      have r0 : W.cell? ⟨w.heap.size, 0, none⟩ = some (.bool false) := by rw [← hW]; simp [go_sem]
      have r1 : W.cell? ⟨w.heap.size, 1, none⟩ = some (.int .u64 0) := by rw [← hW]; simp [go_sem]
      have r2 : W.cell? ⟨w.heap.size, 2, none⟩ = some (.int .u64 0) := by rw [← hW]; simp [go_sem]
      have fz : ∀ j, W.frozen? ⟨w.heap.size, j, none⟩ = false := by intro j; rw [← hW]; simp [go_sem]
      have bW : Below w.heap.size w W := by rw [← hW]; exact sp_new (Below.refl _ _) _
      have zW : w.heap.size < W.heap.size := by rw [← hW]; simp
      rw [hW]
      clear hW
      go_wp2_with (first
        | (go_at_call 82; refine (he _).mono ?_; rintro e v1 ⟨rfl, g⟩; replace g : Below _ _ v1 := g; replace fz : ∀ j, v1.frozen? ⟨w.heap.size, j, none⟩ = false := fun j => (g.frozen (p := ⟨w.heap.size, j, none⟩) (by simp; omega)).trans (fz j); have z_v1 := g.size; replace bW := sp_call bW g; replace r0 := sp_cell_on g r0; replace r1 := sp_cell_on g r1; replace r2 := sp_cell_on g r2; clear g; clear he)
        | (go_at_call 82; refine (he2 _).mono ?_; rintro e v3 ⟨rfl, g⟩; replace g : Below _ _ v3 := g; replace fz : ∀ j, v3.frozen? ⟨w.heap.size, j, none⟩ = false := fun j => (g.frozen (p := ⟨w.heap.size, j, none⟩) (by simp; omega)).trans (fz j); have z_v3 := g.size; replace bW := sp_call bW g; replace r0 := sp_cell_on g r0; replace r1 := sp_cell_on g r1; replace r2 := sp_cell_on g r2; clear g)
        | (go_at_call 92; refine (hs _).mono ?_; rintro e v2 ⟨rfl, g⟩; replace g : Below _ _ v2 := g; replace fz : ∀ j, v2.frozen? ⟨w.heap.size, j, none⟩ = false := fun j => (g.frozen (p := ⟨w.heap.size, j, none⟩) (by simp; omega)).trans (fz j); have z_v2 := g.size; replace bW := sp_call bW g; replace r0 := sp_cell_on g r0; replace r1 := sp_cell_on g r1; replace r2 := sp_cell_on g r2; clear g)
        | (go_at_call 19; refine (o2 _).mono ?_; rintro e v4 ⟨rfl, g⟩; replace g : Below _ _ v4 := g; replace fz : ∀ j, v4.frozen? ⟨w.heap.size, j, none⟩ = false := fun j => (g.frozen (p := ⟨w.heap.size, j, none⟩) (by simp; omega)).trans (fz j); have z_v4 := g.size; replace bW := sp_call bW g; replace r0 := sp_cell_on g r0; replace r1 := sp_cell_on g r1; replace r2 := sp_cell_on g r2; clear g)
        | fail)
      exact bodyPost_ret (v := .agg #[.bool pe, .int .u64 pl, .int .u64 ph]) (by simp [results, Tryz.results99, go_sem, r0, r1, r2]) rfl ⟨rfl, sp_set3 bW (by omega) _ _ _⟩
set_option maxRecDepth 100000 in
set_option maxHeartbeats 6400000 in
theorem rfrom_any (s : Bool) (x : Int) (st : Bool) (hx : Word x) (w : World) : Calls Tryz.prog 100 #[.int .i64 (fb s), .int .u64 x, .bool st] w fun e w' => e = .returned (.agg #[.bool (rFrom s x st).1, .int .u64 (rFrom s x st).2.1, .int .u64 (rFrom s x st).2.2]) ∧ Below w.heap.size w w' := by
  have hn : ∀ V, Calls Tryz.prog 80 #[] V fun e w' => e = .returned (.agg #[.bool true, .int .u64 0, .int .u64 0]) ∧ Below V.heap.size V w' := fun V => (rnoneF V).mono fun e w' h => ⟨h.1, by rw [h.2]; exact sp_new (Below.refl _ _) _⟩
  have he : ∀ V, Calls Tryz.prog 83 #[.int .i64 (fb s)] V fun e w' => e = .returned (.int .u64 ((fI s - 1))) ∧ Below V.heap.size V w' := fun V => (rmost_any s V).mono fun e w' h => ⟨h.1, by first | (obtain ⟨n, hn⟩ := h.2; rw [hn]; exact sp_dNr (Below.refl _ _) n) | (rw [h.2]; exact Below.refl _ _)⟩
  have he2 := he
  have hs : ∀ V, Calls Tryz.prog 93 #[.int .i64 (fb s), .int .u64 x] V fun e w' => e = .returned (.int .u64 (nextF s x)) ∧ Below V.heap.size V w' := fun V => (rnext3_any s x hx V).mono fun e w' h => ⟨h.1, by obtain ⟨n, hn⟩ := h.2; rw [hn]; exact sp_dNr (Below.refl _ _) n⟩
  have we : Word ((fI s - 1)) := by cases s <;> exact ⟨by decide +kernel, by decide +kernel⟩
  have ws : Word (nextF s x) := n_nextw s x hx
  have o1 := rofF_any s (x) (fI s - 1) hx we
  have o2 := rofF_any s (nextF s x) (fI s - 1) ws we
  unfold rFrom
  generalize rOfF s (x) (fI s - 1) = O1 at *
  generalize rOfF s (nextF s x) (fI s - 1) = O2 at *
  generalize (fI s - 1) = MO at *
  generalize nextF s x = S at *
  generalize fb s = f at *
  obtain ⟨oe, ol, oh⟩ := O1
  obtain ⟨pe, pl, ph⟩ := O2
  dsimp only at *
  clear we ws hx
  cases st
  · simp only [Bool.false_eq_true, if_false]
    clear o2 hs hn he2
    go_enter Tryz.func100, Tryz.ntmps100
    go_upto_region 1 with fail
    obtain ⟨W, hW⟩ : ∃ W, w.alloc (.cells #[.bool false, .int .u64 0, .int .u64 0] 25) = W := ⟨_, rfl⟩
    have r0 : W.cell? ⟨w.heap.size, 0, none⟩ = some (.bool false) := by rw [← hW]; simp [go_sem]
    have r1 : W.cell? ⟨w.heap.size, 1, none⟩ = some (.int .u64 0) := by rw [← hW]; simp [go_sem]
    have r2 : W.cell? ⟨w.heap.size, 2, none⟩ = some (.int .u64 0) := by rw [← hW]; simp [go_sem]
    have fz : ∀ j, W.frozen? ⟨w.heap.size, j, none⟩ = false := by intro j; rw [← hW]; simp [go_sem]
    have bW : Below w.heap.size w W := by rw [← hW]; exact sp_new (Below.refl _ _) _
    have zW : w.heap.size < W.heap.size := by rw [← hW]; simp
    rw [hW]
    clear hW
    go_wp2_with (first
      | (go_at_call 83; refine (he _).mono ?_; rintro e v1 ⟨rfl, g⟩; replace g : Below _ _ v1 := g; replace fz : ∀ j, v1.frozen? ⟨w.heap.size, j, none⟩ = false := fun j => (g.frozen (p := ⟨w.heap.size, j, none⟩) (by simp; omega)).trans (fz j); have z_v1 := g.size; replace bW := sp_call bW g; replace r0 := sp_cell_on g r0; replace r1 := sp_cell_on g r1; replace r2 := sp_cell_on g r2; clear g)
      | (go_at_call 19; refine (o1 _).mono ?_; rintro e v2 ⟨rfl, g⟩; replace g : Below _ _ v2 := g; replace fz : ∀ j, v2.frozen? ⟨w.heap.size, j, none⟩ = false := fun j => (g.frozen (p := ⟨w.heap.size, j, none⟩) (by simp; omega)).trans (fz j); have z_v2 := g.size; replace bW := sp_call bW g; replace r0 := sp_cell_on g r0; replace r1 := sp_cell_on g r1; replace r2 := sp_cell_on g r2; clear g)
      | fail)
    exact bodyPost_ret (v := .agg #[.bool oe, .int .u64 ol, .int .u64 oh]) (by simp [results, Tryz.results100, go_sem, r0, r1, r2]) rfl ⟨rfl, sp_set3 bW (by omega) _ _ _⟩
  · simp only [if_true]
    by_cases q : x = MO
    · rw [if_pos q]
      subst q
      clear o1 o2 hs he2
      go_enter Tryz.func100, Tryz.ntmps100
      go_upto_region 1 with fail
      obtain ⟨W, hW⟩ : ∃ W, w.alloc (.cells #[.bool false, .int .u64 0, .int .u64 0] 25) = W := ⟨_, rfl⟩
      have r0 : W.cell? ⟨w.heap.size, 0, none⟩ = some (.bool false) := by rw [← hW]; simp [go_sem]
      have r1 : W.cell? ⟨w.heap.size, 1, none⟩ = some (.int .u64 0) := by rw [← hW]; simp [go_sem]
      have r2 : W.cell? ⟨w.heap.size, 2, none⟩ = some (.int .u64 0) := by rw [← hW]; simp [go_sem]
      have fz : ∀ j, W.frozen? ⟨w.heap.size, j, none⟩ = false := by intro j; rw [← hW]; simp [go_sem]
      have bW : Below w.heap.size w W := by rw [← hW]; exact sp_new (Below.refl _ _) _
      have zW : w.heap.size < W.heap.size := by rw [← hW]; simp
      rw [hW]
      clear hW
      go_wp2_with (first
        | (go_at_call 83; refine (he _).mono ?_; rintro e v1 ⟨rfl, g⟩; replace g : Below _ _ v1 := g; replace fz : ∀ j, v1.frozen? ⟨w.heap.size, j, none⟩ = false := fun j => (g.frozen (p := ⟨w.heap.size, j, none⟩) (by simp; omega)).trans (fz j); have z_v1 := g.size; replace bW := sp_call bW g; replace r0 := sp_cell_on g r0; replace r1 := sp_cell_on g r1; replace r2 := sp_cell_on g r2; clear g)
        | (go_at_call 80; refine (hn _).mono ?_; rintro e v2 ⟨rfl, g⟩; replace g : Below _ _ v2 := g; replace fz : ∀ j, v2.frozen? ⟨w.heap.size, j, none⟩ = false := fun j => (g.frozen (p := ⟨w.heap.size, j, none⟩) (by simp; omega)).trans (fz j); have z_v2 := g.size; replace bW := sp_call bW g; replace r0 := sp_cell_on g r0; replace r1 := sp_cell_on g r1; replace r2 := sp_cell_on g r2; clear g)
        | fail)
      exact bodyPost_ret (v := .agg #[.bool true, .int .u64 0, .int .u64 0]) (by simp [results, Tryz.results100, go_sem, r0, r1, r2]) rfl ⟨rfl, sp_set3 bW (by omega) _ _ _⟩
    · rw [if_neg q]
      clear o1 hn
      go_enter Tryz.func100, Tryz.ntmps100
      go_upto_region 1 with fail
      obtain ⟨W, hW⟩ : ∃ W, w.alloc (.cells #[.bool false, .int .u64 0, .int .u64 0] 25) = W := ⟨_, rfl⟩
      have r0 : W.cell? ⟨w.heap.size, 0, none⟩ = some (.bool false) := by rw [← hW]; simp [go_sem]
      have r1 : W.cell? ⟨w.heap.size, 1, none⟩ = some (.int .u64 0) := by rw [← hW]; simp [go_sem]
      have r2 : W.cell? ⟨w.heap.size, 2, none⟩ = some (.int .u64 0) := by rw [← hW]; simp [go_sem]
      have fz : ∀ j, W.frozen? ⟨w.heap.size, j, none⟩ = false := by intro j; rw [← hW]; simp [go_sem]
      have bW : Below w.heap.size w W := by rw [← hW]; exact sp_new (Below.refl _ _) _
      have zW : w.heap.size < W.heap.size := by rw [← hW]; simp
      rw [hW]
      clear hW
      go_wp2_with (first
        | (go_at_call 83; refine (he _).mono ?_; rintro e v1 ⟨rfl, g⟩; replace g : Below _ _ v1 := g; replace fz : ∀ j, v1.frozen? ⟨w.heap.size, j, none⟩ = false := fun j => (g.frozen (p := ⟨w.heap.size, j, none⟩) (by simp; omega)).trans (fz j); have z_v1 := g.size; replace bW := sp_call bW g; replace r0 := sp_cell_on g r0; replace r1 := sp_cell_on g r1; replace r2 := sp_cell_on g r2; clear g; clear he)
        | (go_at_call 83; refine (he2 _).mono ?_; rintro e v3 ⟨rfl, g⟩; replace g : Below _ _ v3 := g; replace fz : ∀ j, v3.frozen? ⟨w.heap.size, j, none⟩ = false := fun j => (g.frozen (p := ⟨w.heap.size, j, none⟩) (by simp; omega)).trans (fz j); have z_v3 := g.size; replace bW := sp_call bW g; replace r0 := sp_cell_on g r0; replace r1 := sp_cell_on g r1; replace r2 := sp_cell_on g r2; clear g)
        | (go_at_call 93; refine (hs _).mono ?_; rintro e v2 ⟨rfl, g⟩; replace g : Below _ _ v2 := g; replace fz : ∀ j, v2.frozen? ⟨w.heap.size, j, none⟩ = false := fun j => (g.frozen (p := ⟨w.heap.size, j, none⟩) (by simp; omega)).trans (fz j); have z_v2 := g.size; replace bW := sp_call bW g; replace r0 := sp_cell_on g r0; replace r1 := sp_cell_on g r1; replace r2 := sp_cell_on g r2; clear g)
        | (go_at_call 19; refine (o2 _).mono ?_; rintro e v4 ⟨rfl, g⟩; replace g : Below _ _ v4 := g; replace fz : ∀ j, v4.frozen? ⟨w.heap.size, j, none⟩ = false := fun j => (g.frozen (p := ⟨w.heap.size, j, none⟩) (by simp; omega)).trans (fz j); have z_v4 := g.size; replace bW := sp_call bW g; replace r0 := sp_cell_on g r0; replace r1 := sp_cell_on g r1; replace r2 := sp_cell_on g r2; clear g)
        | fail)
      exact bodyPost_ret (v := .agg #[.bool pe, .int .u64 pl, .int .u64 ph]) (by simp [results, Tryz.results100, go_sem, r0, r1, r2]) rfl ⟨rfl, sp_set3 bW (by omega) _ _ _⟩
set_option maxRecDepth 100000 in
set_option maxHeartbeats 6400000 in
theorem rwithoutF_any (s : Bool) (e1 : Bool) (a b x : Int) (hx : Word x) (w : World) : Calls Tryz.prog 101 #[.int .i64 (fb s), .agg #[.bool e1, .int .u64 a, .int .u64 b], .int .u64 x] w fun e w' => e = .returned (.agg #[.bool (rWithoutF s (e1, a, b) x).1, .int .u64 (rWithoutF s (e1, a, b) x).2.1, .int .u64 (rWithoutF s (e1, a, b) x).2.2]) ∧ Below w.heap.size w w' := by
  have hn : ∀ V, Calls Tryz.prog 80 #[] V fun e w' => e = .returned (.agg #[.bool true, .int .u64 0, .int .u64 0]) ∧ Below V.heap.size V w' := fun V => (rnoneF V).mono fun e w' h => ⟨h.1, by rw [h.2]; exact sp_new (Below.refl _ _) _⟩
  have h1 : ∀ V, Calls Tryz.prog 93 #[.int .i64 (fb s), .int .u64 x] V fun e w' => e = .returned (.int .u64 (nextF s x)) ∧ Below V.heap.size V w' := fun V => (rnext3_any s x hx V).mono fun e w' h => ⟨h.1, by obtain ⟨n, hn⟩ := h.2; rw [hn]; exact sp_dNr (Below.refl _ _) n⟩
  have h2 : ∀ V, Calls Tryz.prog 92 #[.int .i64 (fb s), .int .u64 x] V fun e w' => e = .returned (.int .u64 (prevF s x)) ∧ Below V.heap.size V w' := fun V => (rprev3_any s x hx V).mono fun e w' h => ⟨h.1, by obtain ⟨n, hn⟩ := h.2; rw [hn]; exact sp_dNr (Below.refl _ _) n⟩
  unfold rWithoutF
  dsimp only
  generalize nextF s x = N at *
  generalize prevF s x = P at *
  generalize fb s = f at *
  clear hx
  by_cases qa : a = x
  · by_cases qb : b = x
    · rw [if_pos ⟨qa, qb⟩]
      subst qa
      subst qb
      clear h1 h2
      go_enter Tryz.func101, Tryz.ntmps101
      go_upto_region 1 with fail
      obtain ⟨W, hW⟩ : ∃ W, (w.alloc (.cells #[.bool e1, .int .u64 b, .int .u64 b] 25)).alloc (.cells #[.bool false, .int .u64 0, .int .u64 0] 25) = W := ⟨_, rfl⟩
      have a0 : W.cell? ⟨w.heap.size, 0, none⟩ = some (.bool e1) := by rw [← hW]; simp [go_sem]
      have a1 : W.cell? ⟨w.heap.size, 1, none⟩ = some (.int .u64 b) := by rw [← hW]; simp [go_sem]
      have a2 : W.cell? ⟨w.heap.size, 2, none⟩ = some (.int .u64 b) := by rw [← hW]; simp [go_sem]
      have r0 : W.cell? ⟨w.heap.size + 1, 0, none⟩ = some (.bool false) := by rw [← hW]; simp [go_sem]
      have r1 : W.cell? ⟨w.heap.size + 1, 1, none⟩ = some (.int .u64 0) := by rw [← hW]; simp [go_sem]
      have r2 : W.cell? ⟨w.heap.size + 1, 2, none⟩ = some (.int .u64 0) := by rw [← hW]; simp [go_sem]
      have fa : ∀ j, W.frozen? ⟨w.heap.size, j, none⟩ = false := by intro j; rw [← hW]; simp [go_sem]
      have fz : ∀ j, W.frozen? ⟨w.heap.size + 1, j, none⟩ = false := by intro j; rw [← hW]; simp [go_sem]
      have bW : Below w.heap.size w W := by rw [← hW]; exact sp_new (sp_new (Below.refl _ _) _) _
      have zW : w.heap.size + 1 < W.heap.size := by rw [← hW]; simp
      rw [hW]
      clear hW
      go_wp2_with (first
        | (go_at_call 80; refine (hn _).mono ?_; rintro e v1 ⟨rfl, g⟩; replace fz : ∀ j, v1.frozen? ⟨w.heap.size + 1, j, none⟩ = false := fun j => (g.frozen (p := ⟨w.heap.size + 1, j, none⟩) (by simp; omega)).trans (fz j); replace fa : ∀ j, v1.frozen? ⟨w.heap.size, j, none⟩ = false := fun j => (g.frozen (p := ⟨w.heap.size, j, none⟩) (by simp; omega)).trans (fa j); have z_v1 := g.size; replace bW := sp_call bW g; replace a0 := sp_cell_on g a0; replace a1 := sp_cell_on g a1; replace a2 := sp_cell_on g a2; replace r0 := sp_cell_on g r0; replace r1 := sp_cell_on g r1; replace r2 := sp_cell_on g r2; clear g)
        | fail)
      exact bodyPost_ret (v := .agg #[.bool true, .int .u64 0, .int .u64 0]) (by simp [results, Tryz.results101, go_sem, a0, a1, a2, r0, r1, r2]) rfl ⟨rfl, by (repeat (first | with_reducible exact bW | with_reducible exact Below.refl _ _ | with_reducible refine sp_new ?_ _ | with_reducible refine sp_dNr ?_ _ | with_reducible refine sp_set1r ?_ (by omega) _))⟩
    · rw [if_neg (fun h => qb h.2), if_pos qa]
      subst qa
      clear h2 hn
      go_enter Tryz.func101, Tryz.ntmps101
      go_upto_region 1 with fail
      obtain ⟨W, hW⟩ : ∃ W, (w.alloc (.cells #[.bool e1, .int .u64 a, .int .u64 b] 25)).alloc (.cells #[.bool false, .int .u64 0, .int .u64 0] 25) = W := ⟨_, rfl⟩
      have a0 : W.cell? ⟨w.heap.size, 0, none⟩ = some (.bool e1) := by rw [← hW]; simp [go_sem]
      have a1 : W.cell? ⟨w.heap.size, 1, none⟩ = some (.int .u64 a) := by rw [← hW]; simp [go_sem]
      have a2 : W.cell? ⟨w.heap.size, 2, none⟩ = some (.int .u64 b) := by rw [← hW]; simp [go_sem]
      have r0 : W.cell? ⟨w.heap.size + 1, 0, none⟩ = some (.bool false) := by rw [← hW]; simp [go_sem]
      have r1 : W.cell? ⟨w.heap.size + 1, 1, none⟩ = some (.int .u64 0) := by rw [← hW]; simp [go_sem]
      have r2 : W.cell? ⟨w.heap.size + 1, 2, none⟩ = some (.int .u64 0) := by rw [← hW]; simp [go_sem]
      have fa : ∀ j, W.frozen? ⟨w.heap.size, j, none⟩ = false := by intro j; rw [← hW]; simp [go_sem]
      have fz : ∀ j, W.frozen? ⟨w.heap.size + 1, j, none⟩ = false := by intro j; rw [← hW]; simp [go_sem]
      have bW : Below w.heap.size w W := by rw [← hW]; exact sp_new (sp_new (Below.refl _ _) _) _
      have zW : w.heap.size + 1 < W.heap.size := by rw [← hW]; simp
      rw [hW]
      clear hW
      go_wp2_with (first
        | (go_at_call 93; refine (h1 _).mono ?_; rintro e v1 ⟨rfl, g⟩; replace fz : ∀ j, v1.frozen? ⟨w.heap.size + 1, j, none⟩ = false := fun j => (g.frozen (p := ⟨w.heap.size + 1, j, none⟩) (by simp; omega)).trans (fz j); replace fa : ∀ j, v1.frozen? ⟨w.heap.size, j, none⟩ = false := fun j => (g.frozen (p := ⟨w.heap.size, j, none⟩) (by simp; omega)).trans (fa j); have z_v1 := g.size; replace bW := sp_call bW g; replace a0 := sp_cell_on g a0; replace a1 := sp_cell_on g a1; replace a2 := sp_cell_on g a2; replace r0 := sp_cell_on g r0; replace r1 := sp_cell_on g r1; replace r2 := sp_cell_on g r2; clear g)
        | fail)
      exact bodyPost_ret (v := .agg #[.bool e1, .int .u64 N, .int .u64 b]) (by simp [results, Tryz.results101, go_sem, a0, a1, a2, r0, r1, r2]) rfl ⟨rfl, by (repeat (first | with_reducible exact bW | with_reducible exact Below.refl _ _ | with_reducible refine sp_new ?_ _ | with_reducible refine sp_dNr ?_ _ | with_reducible refine sp_set1r ?_ (by omega) _))⟩
  · by_cases qb : b = x
    · rw [if_neg (fun h => qa h.1), if_neg qa, if_pos qb]
      subst qb
      clear h1 hn
      go_enter Tryz.func101, Tryz.ntmps101
      go_upto_region 1 with fail
      obtain ⟨W, hW⟩ : ∃ W, (w.alloc (.cells #[.bool e1, .int .u64 a, .int .u64 b] 25)).alloc (.cells #[.bool false, .int .u64 0, .int .u64 0] 25) = W := ⟨_, rfl⟩
      have a0 : W.cell? ⟨w.heap.size, 0, none⟩ = some (.bool e1) := by rw [← hW]; simp [go_sem]
      have a1 : W.cell? ⟨w.heap.size, 1, none⟩ = some (.int .u64 a) := by rw [← hW]; simp [go_sem]
      have a2 : W.cell? ⟨w.heap.size, 2, none⟩ = some (.int .u64 b) := by rw [← hW]; simp [go_sem]
      have r0 : W.cell? ⟨w.heap.size + 1, 0, none⟩ = some (.bool false) := by rw [← hW]; simp [go_sem]
      have r1 : W.cell? ⟨w.heap.size + 1, 1, none⟩ = some (.int .u64 0) := by rw [← hW]; simp [go_sem]
      have r2 : W.cell? ⟨w.heap.size + 1, 2, none⟩ = some (.int .u64 0) := by rw [← hW]; simp [go_sem]
      have fa : ∀ j, W.frozen? ⟨w.heap.size, j, none⟩ = false := by intro j; rw [← hW]; simp [go_sem]
      have fz : ∀ j, W.frozen? ⟨w.heap.size + 1, j, none⟩ = false := by intro j; rw [← hW]; simp [go_sem]
      have bW : Below w.heap.size w W := by rw [← hW]; exact sp_new (sp_new (Below.refl _ _) _) _
      have zW : w.heap.size + 1 < W.heap.size := by rw [← hW]; simp
      rw [hW]
      clear hW
      go_wp2_with (first
        | (go_at_call 92; refine (h2 _).mono ?_; rintro e v1 ⟨rfl, g⟩; replace fz : ∀ j, v1.frozen? ⟨w.heap.size + 1, j, none⟩ = false := fun j => (g.frozen (p := ⟨w.heap.size + 1, j, none⟩) (by simp; omega)).trans (fz j); replace fa : ∀ j, v1.frozen? ⟨w.heap.size, j, none⟩ = false := fun j => (g.frozen (p := ⟨w.heap.size, j, none⟩) (by simp; omega)).trans (fa j); have z_v1 := g.size; replace bW := sp_call bW g; replace a0 := sp_cell_on g a0; replace a1 := sp_cell_on g a1; replace a2 := sp_cell_on g a2; replace r0 := sp_cell_on g r0; replace r1 := sp_cell_on g r1; replace r2 := sp_cell_on g r2; clear g)
        | fail)
      exact bodyPost_ret (v := .agg #[.bool e1, .int .u64 a, .int .u64 P]) (by simp [results, Tryz.results101, go_sem, a0, a1, a2, r0, r1, r2]) rfl ⟨rfl, by (repeat (first | with_reducible exact bW | with_reducible exact Below.refl _ _ | with_reducible refine sp_new ?_ _ | with_reducible refine sp_dNr ?_ _ | with_reducible refine sp_set1r ?_ (by omega) _))⟩
    · rw [if_neg (fun h => qa h.1), if_neg qa, if_neg qb]
      clear h1 h2 hn
      go_enter Tryz.func101, Tryz.ntmps101
      go_upto_region 1 with fail
      obtain ⟨W, hW⟩ : ∃ W, (w.alloc (.cells #[.bool e1, .int .u64 a, .int .u64 b] 25)).alloc (.cells #[.bool false, .int .u64 0, .int .u64 0] 25) = W := ⟨_, rfl⟩
      have a0 : W.cell? ⟨w.heap.size, 0, none⟩ = some (.bool e1) := by rw [← hW]; simp [go_sem]
      have a1 : W.cell? ⟨w.heap.size, 1, none⟩ = some (.int .u64 a) := by rw [← hW]; simp [go_sem]
      have a2 : W.cell? ⟨w.heap.size, 2, none⟩ = some (.int .u64 b) := by rw [← hW]; simp [go_sem]
      have r0 : W.cell? ⟨w.heap.size + 1, 0, none⟩ = some (.bool false) := by rw [← hW]; simp [go_sem]
      have r1 : W.cell? ⟨w.heap.size + 1, 1, none⟩ = some (.int .u64 0) := by rw [← hW]; simp [go_sem]
      have r2 : W.cell? ⟨w.heap.size + 1, 2, none⟩ = some (.int .u64 0) := by rw [← hW]; simp [go_sem]
      have fa : ∀ j, W.frozen? ⟨w.heap.size, j, none⟩ = false := by intro j; rw [← hW]; simp [go_sem]
      have fz : ∀ j, W.frozen? ⟨w.heap.size + 1, j, none⟩ = false := by intro j; rw [← hW]; simp [go_sem]
      have bW : Below w.heap.size w W := by rw [← hW]; exact sp_new (sp_new (Below.refl _ _) _) _
      have zW : w.heap.size + 1 < W.heap.size := by rw [← hW]; simp
      rw [hW]
      clear hW
      go_wp2_with fail
      exact bodyPost_ret (v := .agg #[.bool e1, .int .u64 a, .int .u64 b]) (by simp [results, Tryz.results101, go_sem, a0, a1, a2, r0, r1, r2]) rfl ⟨rfl, by (repeat (first | with_reducible exact bW | with_reducible exact Below.refl _ _ | with_reducible refine sp_new ?_ _ | with_reducible refine sp_dNr ?_ _ | with_reducible refine sp_set1r ?_ (by omega) _))⟩
end Go.Proofs.YthjoigkckgdcaaaGreat

