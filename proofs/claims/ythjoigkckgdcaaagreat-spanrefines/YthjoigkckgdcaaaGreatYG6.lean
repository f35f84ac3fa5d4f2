/- Texts of the proof, put together. -/
import Derived.Test.YthjoigkckgdcaaaGreatYG2
import Derived.Deep.DeepCutAuto
import Derived.Test.YthjoigkckgdcaaaGreatYSpEp
namespace Go.Proofs.YthjoigkckgdcaaaGreat
open Go.RowKit
set_option linter.unusedVariables false
set_option linter.unusedSimpArgs false
def rUpTo (s : Bool) (x : Int) (st : Bool) : Bool × Int × Int := if st then (if x = negF s (fI s - 1) then (true, 0, 0) else rOfF s (negF s (fI s - 1)) (prevF s x)) else rOfF s (negF s (fI s - 1)) x
def rFrom (s : Bool) (x : Int) (st : Bool) : Bool × Int × Int := if st then (if x = fI s - 1 then (true, 0, 0) else rOfF s (nextF s x) (fI s - 1)) else rOfF s x (fI s - 1)
def rWithoutF (s : Bool) (p : Bool × Int × Int) (x : Int) : Bool × Int × Int := if p.2.1 = x ∧ p.2.2 = x then (true, 0, 0) else if p.2.1 = x then (p.1, nextF s x, p.2.2) else if p.2.2 = x then (p.1, p.2.1, prevF s x) else p
set_option maxRecDepth 100000 in
set_option maxHeartbeats 6400000 in
theorem rupto_any (s : Bool) (x : Int) (st : Bool) (hx : Word x) (w : World) : Calls Tryz.prog 99 #[.int .i64 (fb s), .int .u64 x, .bool st] w fun e w' => e = .returned (.agg #[.bool (rUpTo s x st).1, .int .u64 (rUpTo s x st).2.1, .int .u64 (rUpTo s x st).2.2]) ∧ Below w.heap.size w w' := by
  have hn : ∀ V, Calls Tryz.prog 80 #[] V fun e w' => e = .returned (.agg #[.bool true, .int .u64 0, .int .u64 0]) ∧ Below V.heap.size V w' := fun V => (rnoneF V).mono fun e w' h => ⟨h.1, by rw [h.2]; exact sp_new (Below.refl _ _) _⟩
  have he : ∀ V, Calls Tryz.prog 82 #[.int .i64 (fb s)] V fun e w' => e = .returned (.int .u64 (negF s (fI s - 1))) ∧ Below V.heap.size V w' := fun V => (rleastF s V).mono fun e w' h => ⟨h.1, by first | (obtain ⟨n, hn⟩ := h.2; rw [hn]; exact sp_dNr (Below.refl _ _) n) | (rw [h.2]; exact Below.refl _ _)⟩
  have he2 := he
  have hs : ∀ V, Calls Tryz.prog 92 #[.int .i64 (fb s), .int .u64 x] V fun e w' => e = .returned (.int .u64 (prevF s x)) ∧ Below V.heap.size V w' := fun V => (rprev3_any s x hx V).mono fun e w' h => ⟨h.1, by obtain ⟨n, hn⟩ := h.2; rw [hn]; exact sp_dNr (Below.refl _ _) n⟩
  have we : Word (negF s (fI s - 1)) := by cases s <;> exact ⟨by decide +kernel, by decide +kernel⟩
  have ws : Word (prevF s x) := n_plainw s _ (negF_word s _ (n_nextw s _ (negF_word s x hx)))
  have o1 := rofF_any s (negF s (fI s - 1)) (x) we hx
  have o2 := rofF_any s (negF s (fI s - 1)) (prevF s x) we ws
  unfold rUpTo
  generalize rOfF s (negF s (fI s - 1)) (x) = O1 at *
  generalize rOfF s (negF s (fI s - 1)) (prevF s x) = O2 at *
  generalize negF s (fI s - 1) = LE at *
  generalize prevF s x = S at *
  generalize fb s = f at *
  obtain ⟨oe, ol, oh⟩ := O1
  obtain ⟨pe, pl, ph⟩ := O2
  dsimp only at *
  clear we ws hx
  cases st
  · simp only [Bool.false_eq_true, if_false]
    clear o2 hs hn he2
    go_enter Tryz.func99, Tryz.ntmps99
    go_upto_region 1 with fail
    obtain ⟨W, hW⟩ : ∃ W, w.alloc (.cells #[.bool false, .int .u64 0, .int .u64 0] 25) = W := ⟨_, rfl⟩
    have r0 : W.cell? ⟨w.heap.size, 0, none⟩ = some (.bool false) := by rw [← hW]; simp [go_sem]
    have r1 : W.cell? ⟨w.heap.size, 1, none⟩ = some (.int .u64 0) := by rw [← hW]; simp [go_sem]
    have r2 : W.cell? ⟨w.heap.size, 2, none⟩ = some (.int .u64 0) := by rw [← hW]; simp [go_sem]
    have fz : ∀ j, W.frozen? ⟨w.heap.size, j, none⟩ = false := by intro j; rw [← hW]; simp [go_sem]
    have bW : Below w.heap.size w W := by rw [← hW]; exact sp_new (Below.refl _ _) _
    have zW : w.heap.size < W.heap.size := by rw [← hW]; simp
    rw [hW]
    clear hW
    go_wp2_with (first
      | (go_at_call 82; refine (he _).mono ?_; rintro e v1 ⟨rfl, g⟩; replace g : Below _ _ v1 := g; replace fz : ∀ j, v1.frozen? ⟨w.heap.size, j, none⟩ = false := fun j => (g.frozen (p := ⟨w.heap.size, j, none⟩) (by simp; omega)).trans (fz j); have z_v1 := g.size; replace bW := sp_call bW g; replace r0 := sO g r0; replace r1 := sO g r1; replace r2 := sO g r2; clear g)
      | (go_at_call 19; refine (o1 _).mono ?_; rintro e v2 ⟨rfl, g⟩; replace g : Below _ _ v2 := g; replace fz : ∀ j, v2.frozen? ⟨w.heap.size, j, none⟩ = false := fun j => (g.frozen (p := ⟨w.heap.size, j, none⟩) (by simp; omega)).trans (fz j); have z_v2 := g.size; replace bW := sp_call bW g; replace r0 := sO g r0; replace r1 := sO g r1; replace r2 := sO g r2; clear g)
      | fail)
    exact bodyPost_ret (v := .agg #[.bool oe, .int .u64 ol, .int .u64 oh]) (by simp [results, Tryz.results99, go_sem, r0, r1, r2]) rfl ⟨rfl, sp_set3 bW (by omega) _ _ _⟩
  · simp only [if_true]
    by_cases q : x = LE
    · rw [if_pos q]
      subst q
      clear o1 o2 hs he2
      go_enter Tryz.func99, Tryz.ntmps99
      go_upto_region 1 with fail
      obtain ⟨W, hW⟩ : ∃ W, w.alloc (.cells #[.bool false, .int .u64 0, .int .u64 0] 25) = W := ⟨_, rfl⟩
      have r0 : W.cell? ⟨w.heap.size, 0, none⟩ = some (.bool false) := by rw [← hW]; simp [go_sem]
      have r1 : W.cell? ⟨w.heap.size, 1, none⟩ = some (.int .u64 0) := by rw [← hW]; simp [go_sem]
      have r2 : W.cell? ⟨w.heap.size, 2, none⟩ = some (.int .u64 0) := by rw [← hW]; simp [go_sem]
      have fz : ∀ j, W.frozen? ⟨w.heap.size, j, none⟩ = false := by intro j; rw [← hW]; simp [go_sem]
      have bW : Below w.heap.size w W := by rw [← hW]; exact sp_new (Below.refl _ _) _
      have zW : w.heap.size < W.heap.size := by rw [← hW]; simp
      rw [hW]
      clear hW
      go_wp2_with (first
        | (go_at_call 82; refine (he _).mono ?_; rintro e v1 ⟨rfl, g⟩; replace g : Below _ _ v1 := g; replace fz : ∀ j, v1.frozen? ⟨w.heap.size, j, none⟩ = false := fun j => (g.frozen (p := ⟨w.heap.size, j, none⟩) (by simp; omega)).trans (fz j); have z_v1 := g.size; replace bW := sp_call bW g; replace r0 := sO g r0; replace r1 := sO g r1; replace r2 := sO g r2; clear g)
        | (go_at_call 80; refine (hn _).mono ?_; rintro e v2 ⟨rfl, g⟩; replace g : Below _ _ v2 := g; replace fz : ∀ j, v2.frozen? ⟨w.heap.size, j, none⟩ = false := fun j => (g.frozen (p := ⟨w.heap.size, j, none⟩) (by simp; omega)).trans (fz j); have z_v2 := g.size; replace bW := sp_call bW g; replace r0 := sO g r0; replace r1 := sO g r1; replace r2 := sO g r2; clear g)
        | fail)
      exact bodyPost_ret (v := .agg #[.bool true, .int .u64 0, .int .u64 0]) (by simp [results, Tryz.results99, go_sem, r0, r1, r2]) rfl ⟨rfl, sp_set3 bW (by omega) _ _ _⟩
    · rw [if_neg q]
      clear o1 hn
      go_enter Tryz.func99, Tryz.ntmps99
      go_upto_region 1 with fail
      obtain ⟨W, hW⟩ : ∃ W, w.alloc (.cells #[.bool false, .int .u64 0, .int .u64 0] 25) = W := ⟨_, rfl⟩
      have r0 : W.cell? ⟨w.heap.size, 0, none⟩ = some (.bool false) := by rw [← hW]; simp [go_sem]
      have r1 : W.cell? ⟨w.heap.size, 1, none⟩ = some (.int .u64 0) := by rw [← hW]; simp [go_sem]
      have r2 : W.cell? ⟨w.heap.size, 2, none⟩ = some (.int .u64 0) := by rw [← hW]; simp [go_sem]
      have fz : ∀ j, W.frozen? ⟨w.heap.size, j, none⟩ = false := by intro j; rw [← hW]; simp [go_sem]
      have bW : Below w.heap.size w W := by rw [← hW]; exact sp_new (Below.refl _ _) _
      have zW : w.heap.size < W.heap.size := by rw [← hW]; simp
      rw [hW]
      clear hW
      go_wp2_with (first
        | (go_at_call 82; refine (he _).mono ?_; rintro e v1 ⟨rfl, g⟩; replace g : Below _ _ v1 := g; replace fz : ∀ j, v1.frozen? ⟨w.heap.size, j, none⟩ = false := fun j => (g.frozen (p := ⟨w.heap.size, j, none⟩) (by simp; omega)).trans (fz j); have z_v1 := g.size; replace bW := sp_call bW g; replace r0 := sO g r0; replace r1 := sO g r1; replace r2 := sO g r2; clear g; clear he)
        | (go_at_call 82; refine (he2 _).mono ?_; rintro e v3 ⟨rfl, g⟩; replace g : Below _ _ v3 := g; replace fz : ∀ j, v3.frozen? ⟨w.heap.size, j, none⟩ = false := fun j => (g.frozen (p := ⟨w.heap.size, j, none⟩) (by simp; omega)).trans (fz j); have z_v3 := g.size; replace bW := sp_call bW g; replace r0 := sO g r0; replace r1 := sO g r1; replace r2 := sO g r2; clear g)
        | (go_at_call 92; refine (hs _).mono ?_; rintro e v2 ⟨rfl, g⟩; replace g : Below _ _ v2 := g; replace fz : ∀ j, v2.frozen? ⟨w.heap.size, j, none⟩ = false := fun j => (g.frozen (p := ⟨w.heap.size, j, none⟩) (by simp; omega)).trans (fz j); have z_v2 := g.size; replace bW := sp_call bW g; replace r0 := sO g r0; replace r1 := sO g r1; replace r2 := sO g r2; clear g)
        | (go_at_call 19; refine (o2 _).mono ?_; rintro e v4 ⟨rfl, g⟩; replace g : Below _ _ v4 := g; replace fz : ∀ j, v4.frozen? ⟨w.heap.size, j, none⟩ = false := fun j => (g.frozen (p := ⟨w.heap.size, j, none⟩) (by simp; omega)).trans (fz j); have z_v4 := g.size; replace bW := sp_call bW g; replace r0 := sO g r0; replace r1 := sO g r1; replace r2 := sO g r2; clear g)
        | fail)
      exact bodyPost_ret (v := .agg #[.bool pe, .int .u64 pl, .int .u64 ph]) (by simp [results, Tryz.results99, go_sem, r0, r1, r2]) rfl ⟨rfl, sp_set3 bW (by omega) _ _ _⟩
set_option maxRecDepth 100000 in
set_option maxHeartbeats 6400000 in
theorem rfrom_any (s : Bool) (x : Int) (st : Bool) (hx : Word x) (w : World) : Calls Tryz.prog 100 #[.int .i64 (fb s), .int .u64 x, .bool st] w fun e w' => e = .returned (.agg #[.bool (rFrom s x st).1, .int .u64 (rFrom s x st).2.1, .int .u64 (rFrom s x st).2.2]) ∧ Below w.heap.size w w' := by
  have hn : ∀ V, Calls Tryz.prog 80 #[] V fun e w' => e = .returned (.agg #[.bool true, .int .u64 0, .int .u64 0]) ∧ Below V.heap.size V w' := fun V => (rnoneF V).mono fun e w' h => ⟨h.1, by rw [h.2]; exact sp_new (Below.refl _ _) _⟩
  have he : ∀ V, Calls Tryz.prog 83 #[.int .i64 (fb s)] V fun e w' => e = .returned (.int .u64 ((fI s - 1))) ∧ Below V.heap.size V w' := fun V => (rmost_any s V).mono fun e w' h => ⟨h.1, by first | (obtain ⟨n, hn⟩ := h.2; rw [hn]; exact sp_dNr (Below.refl _ _) n) | (rw [h.2]; exact Below.refl _ _)⟩
  have he2 := he
  have hs : ∀ V, Calls Tryz.prog 93 #[.int .i64 (fb s), .int .u64 x] V fun e w' => e = .returned (.int .u64 (nextF s x)) ∧ Below V.heap.size V w' := fun V => (rnext3_any s x hx V).mono fun e w' h => ⟨h.1, by obtain ⟨n, hn⟩ := h.2; rw [hn]; exact sp_dNr (Below.refl _ _) n⟩
  have we : Word ((fI s - 1)) := by cases s <;> exact ⟨by decide +kernel, by decide +kernel⟩
  have ws : Word (nextF s x) := n_nextw s x hx
  have o1 := rofF_any s (x) (fI s - 1) hx we
  have o2 := rofF_any s (nextF s x) (fI s - 1) ws we
  unfold rFrom
  generalize rOfF s (x) (fI s - 1) = O1 at *
  generalize rOfF s (nextF s x) (fI s - 1) = O2 at *
  generalize (fI s - 1) = MO at *
  generalize nextF s x = S at *
  generalize fb s = f at *
  obtain ⟨oe, ol, oh⟩ := O1
  obtain ⟨pe, pl, ph⟩ := O2
  dsimp only at *
  clear we ws hx
  cases st
  · simp only [Bool.false_eq_true, if_false]
    clear o2 hs hn he2
    go_enter Tryz.func100, Tryz.ntmps100
    go_upto_region 1 with fail
    obtain ⟨W, hW⟩ : ∃ W, w.alloc (.cells #[.bool false, .int .u64 0, .int .u64 0] 25) = W := ⟨_, rfl⟩
    have r0 : W.cell? ⟨w.heap.size, 0, none⟩ = some (.bool false) := by rw [← hW]; simp [go_sem]
    have r1 : W.cell? ⟨w.heap.size, 1, none⟩ = some (.int .u64 0) := by rw [← hW]; simp [go_sem]
    have r2 : W.cell? ⟨w.heap.size, 2, none⟩ = some (.int .u64 0) := by rw [← hW]; simp [go_sem]
    have fz : ∀ j, W.frozen? ⟨w.heap.size, j, none⟩ = false := by intro j; rw [← hW]; simp [go_sem]
    have bW : Below w.heap.size w W := by rw [← hW]; exact sp_new (Below.refl _ _) _
    have zW : w.heap.size < W.heap.size := by rw [← hW]; simp
    rw [hW]
    clear hW
    go_wp2_with (first
      | (go_at_call 83; refine (he _).mono ?_; rintro e v1 ⟨rfl, g⟩; replace g : Below _ _ v1 := g; replace fz : ∀ j, v1.frozen? ⟨w.heap.size, j, none⟩ = false := fun j => (g.frozen (p := ⟨w.heap.size, j, none⟩) (by simp; omega)).trans (fz j); have z_v1 := g.size; replace bW := sp_call bW g; replace r0 := sO g r0; replace r1 := sO g r1; replace r2 := sO g r2; clear g)
      | (go_at_call 19; refine (o1 _).mono ?_; rintro e v2 ⟨rfl, g⟩; replace g : Below _ _ v2 := g; replace fz : ∀ j, v2.frozen? ⟨w.heap.size, j, none⟩ = false := fun j => (g.frozen (p := ⟨w.heap.size, j, none⟩) (by simp; omega)).trans (fz j); have z_v2 := g.size; replace bW := sp_call bW g; replace r0 := sO g r0; replace r1 := sO g r1; replace r2 := sO g r2; clear g)
      | fail)
    exact bodyPost_ret (v := .agg #[.bool oe, .int .u64 ol, .int .u64 oh]) (by simp [results, Tryz.results100, go_sem, r0, r1, r2]) rfl ⟨rfl, sp_set3 bW (by omega) _ _ _⟩
  · simp only [if_true]
    by_cases q : x = MO
    · rw [if_pos q]
      subst q
      clear o1 o2 hs he2
      go_enter Tryz.func100, Tryz.ntmps100
      go_upto_region 1 with fail
      obtain ⟨W, hW⟩ : ∃ W, w.alloc (.cells #[.bool false, .int .u64 0, .int .u64 0] 25) = W := ⟨_, rfl⟩
      have r0 : W.cell? ⟨w.heap.size, 0, none⟩ = some (.bool false) := by rw [← hW]; simp [go_sem]
      have r1 : W.cell? ⟨w.heap.size, 1, none⟩ = some (.int .u64 0) := by rw [← hW]; simp [go_sem]
      have r2 : W.cell? ⟨w.heap.size, 2, none⟩ = some (.int .u64 0) := by rw [← hW]; simp [go_sem]
      have fz : ∀ j, W.frozen? ⟨w.heap.size, j, none⟩ = false := by intro j; rw [← hW]; simp [go_sem]
      have bW : Below w.heap.size w W := by rw [← hW]; exact sp_new (Below.refl _ _) _
      have zW : w.heap.size < W.heap.size := by rw [← hW]; simp
      rw [hW]
      clear hW
      go_wp2_with (first
        | (go_at_call 83; refine (he _).mono ?_; rintro e v1 ⟨rfl, g⟩; replace g : Below _ _ v1 := g; replace fz : ∀ j, v1.frozen? ⟨w.heap.size, j, none⟩ = false := fun j => (g.frozen (p := ⟨w.heap.size, j, none⟩) (by simp; omega)).trans (fz j); have z_v1 := g.size; replace bW := sp_call bW g; replace r0 := sO g r0; replace r1 := sO g r1; replace r2 := sO g r2; clear g)
        | (go_at_call 80; refine (hn _).mono ?_; rintro e v2 ⟨rfl, g⟩; replace g : Below _ _ v2 := g; replace fz : ∀ j, v2.frozen? ⟨w.heap.size, j, none⟩ = false := fun j => (g.frozen (p := ⟨w.heap.size, j, none⟩) (by simp; omega)).trans (fz j); have z_v2 := g.size; replace bW := sp_call bW g; replace r0 := sO g r0; replace r1 := sO g r1; replace r2 := sO g r2; clear g)
        | fail)
      exact bodyPost_ret (v := .agg #[.bool true, .int .u64 0, .int .u64 0]) (by simp [results, Tryz.results100, go_sem, r0, r1, r2]) rfl ⟨rfl, sp_set3 bW (by omega) _ _ _⟩
    · rw [if_neg q]
      clear o1 hn
      go_enter Tryz.func100, Tryz.ntmps100
      go_upto_region 1 with fail
      obtain ⟨W, hW⟩ : ∃ W, w.alloc (.cells #[.bool false, .int .u64 0, .int .u64 0] 25) = W := ⟨_, rfl⟩
      have r0 : W.cell? ⟨w.heap.size, 0, none⟩ = some (.bool false) := by rw [← hW]; simp [go_sem]
      have r1 : W.cell? ⟨w.heap.size, 1, none⟩ = some (.int .u64 0) := by rw [← hW]; simp [go_sem]
      have r2 : W.cell? ⟨w.heap.size, 2, none⟩ = some (.int .u64 0) := by rw [← hW]; simp [go_sem]
      have fz : ∀ j, W.frozen? ⟨w.heap.size, j, none⟩ = false := by intro j; rw [← hW]; simp [go_sem]
      have bW : Below w.heap.size w W := by rw [← hW]; exact sp_new (Below.refl _ _) _
      have zW : w.heap.size < W.heap.size := by rw [← hW]; simp
      rw [hW]
      clear hW
      go_wp2_with (first
        | (go_at_call 83; refine (he _).mono ?_; rintro e v1 ⟨rfl, g⟩; replace g : Below _ _ v1 := g; replace fz : ∀ j, v1.frozen? ⟨w.heap.size, j, none⟩ = false := fun j => (g.frozen (p := ⟨w.heap.size, j, none⟩) (by simp; omega)).trans (fz j); have z_v1 := g.size; replace bW := sp_call bW g; replace r0 := sO g r0; replace r1 := sO g r1; replace r2 := sO g r2; clear g; clear he)
        | (go_at_call 83; refine (he2 _).mono ?_; rintro e v3 ⟨rfl, g⟩; replace g : Below _ _ v3 := g; replace fz : ∀ j, v3.frozen? ⟨w.heap.size, j, none⟩ = false := fun j => (g.frozen (p := ⟨w.heap.size, j, none⟩) (by simp; omega)).trans (fz j); have z_v3 := g.size; replace bW := sp_call bW g; replace r0 := sO g r0; replace r1 := sO g r1; replace r2 := sO g r2; clear g)
        | (go_at_call 93; refine (hs _).mono ?_; rintro e v2 ⟨rfl, g⟩; replace g : Below _ _ v2 := g; replace fz : ∀ j, v2.frozen? ⟨w.heap.size, j, none⟩ = false := fun j => (g.frozen (p := ⟨w.heap.size, j, none⟩) (by simp; omega)).trans (fz j); have z_v2 := g.size; replace bW := sp_call bW g; replace r0 := sO g r0; replace r1 := sO g r1; replace r2 := sO g r2; clear g)
        | (go_at_call 19; refine (o2 _).mono ?_; rintro e v4 ⟨rfl, g⟩; replace g : Below _ _ v4 := g; replace fz : ∀ j, v4.frozen? ⟨w.heap.size, j, none⟩ = false := fun j => (g.frozen (p := ⟨w.heap.size, j, none⟩) (by simp; omega)).trans (fz j); have z_v4 := g.size; replace bW := sp_call bW g; replace r0 := sO g r0; replace r1 := sO g r1; replace r2 := sO g r2; clear g)
        | fail)
      exact bodyPost_ret (v := .agg #[.bool pe, .int .u64 pl, .int .u64 ph]) (by simp [results, Tryz.results100, go_sem, r0, r1, r2]) rfl ⟨rfl, sp_set3 bW (by omega) _ _ _⟩
set_option maxRecDepth 100000 in
set_option maxHeartbeats 6400000 in
theorem rwithoutF_any (s : Bool) (e1 : Bool) (a b x : Int) (hx : Word x) (w : World) : Calls Tryz.prog 101 #[.int .i64 (fb s), .agg #[.bool e1, .int .u64 a, .int .u64 b], .int .u64 x] w fun e w' => e = .returned (.agg #[.bool (rWithoutF s (e1, a, b) x).1, .int .u64 (rWithoutF s (e1, a, b) x).2.1, .int .u64 (rWithoutF s (e1, a, b) x).2.2]) ∧ Below w.heap.size w w' := by
  have hn : ∀ V, Calls Tryz.prog 80 #[] V fun e w' => e = .returned (.agg #[.bool true, .int .u64 0, .int .u64 0]) ∧ Below V.heap.size V w' := fun V => (rnoneF V).mono fun e w' h => ⟨h.1, by rw [h.2]; exact sp_new (Below.refl _ _) _⟩
  have h1 : ∀ V, Calls Tryz.prog 93 #[.int .i64 (fb s), .int .u64 x] V fun e w' => e = .returned (.int .u64 (nextF s x)) ∧ Below V.heap.size V w' := fun V => (rnext3_any s x hx V).mono fun e w' h => ⟨h.1, by obtain ⟨n, hn⟩ := h.2; rw [hn]; exact sp_dNr (Below.refl _ _) n⟩
  have h2 : ∀ V, Calls Tryz.prog 92 #[.int .i64 (fb s), .int .u64 x] V fun e w' => e = .returned (.int .u64 (prevF s x)) ∧ Below V.heap.size V w' := fun V => (rprev3_any s x hx V).mono fun e w' h => ⟨h.1, by obtain ⟨n, hn⟩ := h.2; rw [hn]; exact sp_dNr (Below.refl _ _) n⟩
  unfold rWithoutF
  dsimp only
  generalize nextF s x = N at *
  generalize prevF s x = P at *
  generalize fb s = f at *
  clear hx
  by_cases qa : a = x
  · by_cases qb : b = x
    · rw [if_pos ⟨qa, qb⟩]
      subst qa
      subst qb
      clear h1 h2
      go_enter Tryz.func101, Tryz.ntmps101
      go_upto_region 1 with fail
      obtain ⟨W, hW⟩ : ∃ W, (w.alloc (.cells #[.bool e1, .int .u64 b, .int .u64 b] 25)).alloc (.cells #[.bool false, .int .u64 0, .int .u64 0] 25) = W := ⟨_, rfl⟩
      have a0 : W.cell? ⟨w.heap.size, 0, none⟩ = some (.bool e1) := by rw [← hW]; simp [go_sem]
      have a1 : W.cell? ⟨w.heap.size, 1, none⟩ = some (.int .u64 b) := by rw [← hW]; simp [go_sem]
      have a2 : W.cell? ⟨w.heap.size, 2, none⟩ = some (.int .u64 b) := by rw [← hW]; simp [go_sem]
      have r0 : W.cell? ⟨w.heap.size + 1, 0, none⟩ = some (.bool false) := by rw [← hW]; simp [go_sem]
      have r1 : W.cell? ⟨w.heap.size + 1, 1, none⟩ = some (.int .u64 0) := by rw [← hW]; simp [go_sem]
      have r2 : W.cell? ⟨w.heap.size + 1, 2, none⟩ = some (.int .u64 0) := by rw [← hW]; simp [go_sem]
      have fa : ∀ j, W.frozen? ⟨w.heap.size, j, none⟩ = false := by intro j; rw [← hW]; simp [go_sem]
      have fz : ∀ j, W.frozen? ⟨w.heap.size + 1, j, none⟩ = false := by intro j; rw [← hW]; simp [go_sem]
      have bW : Below w.heap.size w W := by rw [← hW]; exact sp_new (sp_new (Below.refl _ _) _) _
      have zW : w.heap.size + 1 < W.heap.size := by rw [← hW]; simp
      rw [hW]
      clear hW
      go_wp2_with (first
        | (go_at_call 80; refine (hn _).mono ?_; rintro e v1 ⟨rfl, g⟩; replace fz : ∀ j, v1.frozen? ⟨w.heap.size + 1, j, none⟩ = false := fun j => (g.frozen (p := ⟨w.heap.size + 1, j, none⟩) (by simp; omega)).trans (fz j); replace fa : ∀ j, v1.frozen? ⟨w.heap.size, j, none⟩ = false := fun j => (g.frozen (p := ⟨w.heap.size, j, none⟩) (by simp; omega)).trans (fa j); have z_v1 := g.size; replace bW := sp_call bW g; replace a0 := sO g a0; replace a1 := sO g a1; replace a2 := sO g a2; replace r0 := sO g r0; replace r1 := sO g r1; replace r2 := sO g r2; clear g)
        | fail)
      exact bodyPost_ret (v := .agg #[.bool true, .int .u64 0, .int .u64 0]) (by simp [results, Tryz.results101, go_sem, a0, a1, a2, r0, r1, r2]) rfl ⟨rfl, by (repeat (first | with_reducible exact bW | with_reducible exact Below.refl _ _ | with_reducible refine sp_new ?_ _ | with_reducible refine sp_dNr ?_ _ | with_reducible refine sp_set1r ?_ (by omega) _))⟩
    · rw [if_neg (fun h => qb h.2), if_pos qa]
      subst qa
      clear h2 hn
      go_enter Tryz.func101, Tryz.ntmps101
      go_upto_region 1 with fail
      obtain ⟨W, hW⟩ : ∃ W, (w.alloc (.cells #[.bool e1, .int .u64 a, .int .u64 b] 25)).alloc (.cells #[.bool false, .int .u64 0, .int .u64 0] 25) = W := ⟨_, rfl⟩
      have a0 : W.cell? ⟨w.heap.size, 0, none⟩ = some (.bool e1) := by rw [← hW]; simp [go_sem]
      have a1 : W.cell? ⟨w.heap.size, 1, none⟩ = some (.int .u64 a) := by rw [← hW]; simp [go_sem]
      have a2 : W.cell? ⟨w.heap.size, 2, none⟩ = some (.int .u64 b) := by rw [← hW]; simp [go_sem]
      have r0 : W.cell? ⟨w.heap.size + 1, 0, none⟩ = some (.bool false) := by rw [← hW]; simp [go_sem]
      have r1 : W.cell? ⟨w.heap.size + 1, 1, none⟩ = some (.int .u64 0) := by rw [← hW]; simp [go_sem]
      have r2 : W.cell? ⟨w.heap.size + 1, 2, none⟩ = some (.int .u64 0) := by rw [← hW]; simp [go_sem]
      have fa : ∀ j, W.frozen? ⟨w.heap.size, j, none⟩ = false := by intro j; rw [← hW]; simp [go_sem]
      have fz : ∀ j, W.frozen? ⟨w.heap.size + 1, j, none⟩ = false := by intro j; rw [← hW]; simp [go_sem]
      have bW : Below w.heap.size w W := by rw [← hW]; exact sp_new (sp_new (Below.refl _ _) _) _
      have zW : w.heap.size + 1 < W.heap.size := by rw [← hW]; simp
      rw [hW]
      clear hW
      go_wp2_with (first
        | (go_at_call 93; refine (h1 _).mono ?_; rintro e v1 ⟨rfl, g⟩; replace fz : ∀ j, v1.frozen? ⟨w.heap.size + 1, j, none⟩ = false := fun j => (g.frozen (p := ⟨w.heap.size + 1, j, none⟩) (by simp; omega)).trans (fz j); replace fa : ∀ j, v1.frozen? ⟨w.heap.size, j, none⟩ = false := fun j => (g.frozen (p := ⟨w.heap.size, j, none⟩) (by simp; omega)).trans (fa j); have z_v1 := g.size; replace bW := sp_call bW g; replace a0 := sO g a0; replace a1 := sO g a1; replace a2 := sO g a2; replace r0 := sO g r0; replace r1 := sO g r1; replace r2 := sO g r2; clear g)
        | fail)
      exact bodyPost_ret (v := .agg #[.bool e1, .int .u64 N, .int .u64 b]) (by simp [results, Tryz.results101, go_sem, a0, a1, a2, r0, r1, r2]) rfl ⟨rfl, by (repeat (first | with_reducible exact bW | with_reducible exact Below.refl _ _ | with_reducible refine sp_new ?_ _ | with_reducible refine sp_dNr ?_ _ | with_reducible refine sp_set1r ?_ (by omega) _))⟩
  · by_cases qb : b = x
    · rw [if_neg (fun h => qa h.1), if_neg qa, if_pos qb]
      subst qb
      clear h1 hn
      go_enter Tryz.func101, Tryz.ntmps101
      go_upto_region 1 with fail
      obtain ⟨W, hW⟩ : ∃ W, (w.alloc (.cells #[.bool e1, .int .u64 a, .int .u64 b] 25)).alloc (.cells #[.bool false, .int .u64 0, .int .u64 0] 25) = W := ⟨_, rfl⟩
      have a0 : W.cell? ⟨w.heap.size, 0, none⟩ = some (.bool e1) := by rw [← hW]; simp [go_sem]
      have a1 : W.cell? ⟨w.heap.size, 1, none⟩ = some (.int .u64 a) := by rw [← hW]; simp [go_sem]
      have a2 : W.cell? ⟨w.heap.size, 2, none⟩ = some (.int .u64 b) := by rw [← hW]; simp [go_sem]
      have r0 : W.cell? ⟨w.heap.size + 1, 0, none⟩ = some (.bool false) := by rw [← hW]; simp [go_sem]
      have r1 : W.cell? ⟨w.heap.size + 1, 1, none⟩ = some (.int .u64 0) := by rw [← hW]; simp [go_sem]
      have r2 : W.cell? ⟨w.heap.size + 1, 2, none⟩ = some (.int .u64 0) := by rw [← hW]; simp [go_sem]
      have fa : ∀ j, W.frozen? ⟨w.heap.size, j, none⟩ = false := by intro j; rw [← hW]; simp [go_sem]
      have fz : ∀ j, W.frozen? ⟨w.heap.size + 1, j, none⟩ = false := by intro j; rw [← hW]; simp [go_sem]
      have bW : Below w.heap.size w W := by rw [← hW]; exact sp_new (sp_new (Below.refl _ _) _) _
      have zW : w.heap.size + 1 < W.heap.size := by rw [← hW]; simp
      rw [hW]
      clear hW
      go_wp2_with (first
        | (go_at_call 92; refine (h2 _).mono ?_; rintro e v1 ⟨rfl, g⟩; replace fz : ∀ j, v1.frozen? ⟨w.heap.size + 1, j, none⟩ = false := fun j => (g.frozen (p := ⟨w.heap.size + 1, j, none⟩) (by simp; omega)).trans (fz j); replace fa : ∀ j, v1.frozen? ⟨w.heap.size, j, none⟩ = false := fun j => (g.frozen (p := ⟨w.heap.size, j, none⟩) (by simp; omega)).trans (fa j); have z_v1 := g.size; replace bW := sp_call bW g; replace a0 := sO g a0; replace a1 := sO g a1; replace a2 := sO g a2; replace r0 := sO g r0; replace r1 := sO g r1; replace r2 := sO g r2; clear g)
        | fail)
      exact bodyPost_ret (v := .agg #[.bool e1, .int .u64 a, .int .u64 P]) (by simp [results, Tryz.results101, go_sem, a0, a1, a2, r0, r1, r2]) rfl ⟨rfl, by (repeat (first | with_reducible exact bW | with_reducible exact Below.refl _ _ | with_reducible refine sp_new ?_ _ | with_reducible refine sp_dNr ?_ _ | with_reducible refine sp_set1r ?_ (by omega) _))⟩
    · rw [if_neg (fun h => qa h.1), if_neg qa, if_neg qb]
      clear h1 h2 hn
      go_enter Tryz.func101, Tryz.ntmps101
      go_upto_region 1 with fail
      obtain ⟨W, hW⟩ : ∃ W, (w.alloc (.cells #[.bool e1, .int .u64 a, .int .u64 b] 25)).alloc (.cells #[.bool false, .int .u64 0, .int .u64 0] 25) = W := ⟨_, rfl⟩
      have a0 : W.cell? ⟨w.heap.size, 0, none⟩ = some (.bool e1) := by rw [← hW]; simp [go_sem]
      have a1 : W.cell? ⟨w.heap.size, 1, none⟩ = some (.int .u64 a) := by rw [← hW]; simp [go_sem]
      have a2 : W.cell? ⟨w.heap.size, 2, none⟩ = some (.int .u64 b) := by rw [← hW]; simp [go_sem]
      have r0 : W.cell? ⟨w.heap.size + 1, 0, none⟩ = some (.bool false) := by rw [← hW]; simp [go_sem]
      have r1 : W.cell? ⟨w.heap.size + 1, 1, none⟩ = some (.int .u64 0) := by rw [← hW]; simp [go_sem]
      have r2 : W.cell? ⟨w.heap.size + 1, 2, none⟩ = some (.int .u64 0) := by rw [← hW]; simp [go_sem]
      have fa : ∀ j, W.frozen? ⟨w.heap.size, j, none⟩ = false := by intro j; rw [← hW]; simp [go_sem]
      have fz : ∀ j, W.frozen? ⟨w.heap.size + 1, j, none⟩ = false := by intro j; rw [← hW]; simp [go_sem]
      have bW : Below w.heap.size w W := by rw [← hW]; exact sp_new (sp_new (Below.refl _ _) _) _
      have zW : w.heap.size + 1 < W.heap.size := by rw [← hW]; simp
      rw [hW]
      clear hW
      go_wp2_with fail
      exact bodyPost_ret (v := .agg #[.bool e1, .int .u64 a, .int .u64 b]) (by simp [results, Tryz.results101, go_sem, a0, a1, a2, r0, r1, r2]) rfl ⟨rfl, by (repeat (first | with_reducible exact bW | with_reducible exact Below.refl _ _ | with_reducible refine sp_new ?_ _ | with_reducible refine sp_dNr ?_ _ | with_reducible refine sp_set1r ?_ (by omega) _))⟩
end Go.Proofs.YthjoigkckgdcaaaGreat


namespace Go.Proofs.YthjoigkckgdcaaaGreat
open Go.RowKit
set_option linter.unusedVariables false
set_option linter.unusedSimpArgs false
theorem rr_dr {w W : World} (h : Below w.heap.size w W) : Below w.heap.size w W.drew := ⟨h.os, h.tape, h.output, h.size, h.block⟩
theorem rr_st {w W : World} (h : Below w.heap.size w W) {b j : Nat} (hb : w.heap.size ≤ b) (x : Value) : Below w.heap.size w (W.setCell ⟨b, j, none⟩ x) := h.setCell (p := ⟨b, j, none⟩) hb x
set_option maxRecDepth 100000 in
set_option maxHeartbeats 6400000 in
theorem rr_lt (f : Int) (a b c d : Int) (pe qe : Bool) (pl ph ql qh : Int) (xe ye : Bool) (xl xh yl yh : Int) (k1 : ∀ V, Calls Tryz.prog 99 #[.int .i64 f, .int .u64 d, .bool true] V fun e w' => e = .returned (.agg #[.bool xe, .int .u64 xl, .int .u64 xh]) ∧ Below V.heap.size V w') (k2 : ∀ V, Calls Tryz.prog 27 #[.int .i64 f, .agg #[.bool false, .int .u64 a, .int .u64 b], .agg #[.bool xe, .int .u64 xl, .int .u64 xh]] V fun e w' => e = .returned (.agg #[.bool pe, .int .u64 pl, .int .u64 ph]) ∧ Below V.heap.size V w') (k3 : ∀ V, Calls Tryz.prog 100 #[.int .i64 f, .int .u64 a, .bool true] V fun e w' => e = .returned (.agg #[.bool ye, .int .u64 yl, .int .u64 yh]) ∧ Below V.heap.size V w') (k4 : ∀ V, Calls Tryz.prog 27 #[.int .i64 f, .agg #[.bool false, .int .u64 c, .int .u64 d], .agg #[.bool ye, .int .u64 yl, .int .u64 yh]] V fun e w' => e = .returned (.agg #[.bool qe, .int .u64 ql, .int .u64 qh]) ∧ Below V.heap.size V w') (w : World) :
    Calls Tryz.prog 39 #[.int .i64 f, .int .i64 12, .agg #[.bool false, .int .u64 a, .int .u64 b], .agg #[.bool false, .int .u64 c, .int .u64 d]] w fun e w' => e = .returned (.tuple #[.agg #[.bool (bothP (pe, pl, ph) (qe, ql, qh)).1.1, .int .u64 (bothP (pe, pl, ph) (qe, ql, qh)).1.2.1, .int .u64 (bothP (pe, pl, ph) (qe, ql, qh)).1.2.2], .agg #[.bool (bothP (pe, pl, ph) (qe, ql, qh)).2.1, .int .u64 (bothP (pe, pl, ph) (qe, ql, qh)).2.2.1, .int .u64 (bothP (pe, pl, ph) (qe, ql, qh)).2.2.2]]) ∧ Below w.heap.size w w' := by
  have hn : ∀ V, Calls Tryz.prog 80 #[] V fun e w' => e = .returned (.agg #[.bool true, .int .u64 0, .int .u64 0]) ∧ Below V.heap.size V w' := fun V => (rnoneF V).mono fun e w' h => ⟨h.1, by rw [h.2]; exact sp_new (Below.refl _ _) _⟩
  have hn2 := hn
  unfold bothP
  dsimp only
  go_enter Tryz.func39, Tryz.ntmps39
  go_upto_region 5 with fail
  go_cut [10, 11] from 28 to 29 (fun s u X => ∃ (W : World) (b10 b11 : Nat), W = X ∧ s = .pointer (some ⟨b10, 0, none⟩) ∧ u = .pointer (some ⟨b11, 0, none⟩) ∧ w.heap.size + 4 ≤ b10 ∧ w.heap.size + 4 ≤ b11 ∧ b10 ≠ b11 ∧ b10 < X.heap.size ∧ b11 < X.heap.size ∧ X.cell? ⟨w.heap.size, 0, none⟩ = some (.bool false) ∧ X.cell? ⟨w.heap.size, 1, none⟩ = some (.int .u64 a) ∧ X.cell? ⟨w.heap.size, 2, none⟩ = some (.int .u64 b) ∧ X.cell? ⟨w.heap.size + 1, 0, none⟩ = some (.bool false) ∧ X.cell? ⟨w.heap.size + 1, 1, none⟩ = some (.int .u64 c) ∧ X.cell? ⟨w.heap.size + 1, 2, none⟩ = some (.int .u64 d) ∧ X.cell? ⟨w.heap.size + 1 + 1, 0, none⟩ = some (.bool false) ∧ X.cell? ⟨w.heap.size + 1 + 1, 1, none⟩ = some (.int .u64 0) ∧ X.cell? ⟨w.heap.size + 1 + 1, 2, none⟩ = some (.int .u64 0) ∧ X.cell? ⟨w.heap.size + 1 + 1 + 1, 0, none⟩ = some (.bool false) ∧ X.cell? ⟨w.heap.size + 1 + 1 + 1, 1, none⟩ = some (.int .u64 0) ∧ X.cell? ⟨w.heap.size + 1 + 1 + 1, 2, none⟩ = some (.int .u64 0) ∧ X.cell? ⟨b10, 0, none⟩ = some (.bool false) ∧ X.cell? ⟨b10, 1, none⟩ = some (.int .u64 a) ∧ X.cell? ⟨b10, 2, none⟩ = some (.int .u64 b) ∧ X.cell? ⟨b11, 0, none⟩ = some (.bool false) ∧ X.cell? ⟨b11, 1, none⟩ = some (.int .u64 c) ∧ X.cell? ⟨b11, 2, none⟩ = some (.int .u64 d) ∧ (∀ j, X.frozen? ⟨w.heap.size + 1 + 1, j, none⟩ = false) ∧ (∀ j, X.frozen? ⟨w.heap.size + 1 + 1 + 1, j, none⟩ = false) ∧ (∀ j, X.frozen? ⟨b10, j, none⟩ = false) ∧ (∀ j, X.frozen? ⟨b11, j, none⟩ = false) ∧ Below w.heap.size w X)
  case first =>
   go_region
   all_goals go_wp2_with fail
   all_goals go_meet
   all_goals exact ⟨_, _, _, rfl, rfl, rfl, by simp, by simp, by simp, by simp, by simp, by simp [go_sem], by simp [go_sem], by simp [go_sem], by simp [go_sem], by simp [go_sem], by simp [go_sem], by simp [go_sem], by simp [go_sem], by simp [go_sem], by simp [go_sem], by simp [go_sem], by simp [go_sem], by simp [go_sem], by simp [go_sem], by simp [go_sem], by simp [go_sem], by simp [go_sem], by simp [go_sem], by intro j; simp [go_sem], by intro j; simp [go_sem], by intro j; simp [go_sem], by intro j; simp [go_sem], by (repeat (first | exact Below.refl _ _ | with_reducible refine sp_new ?_ _ | with_reducible refine rr_dr ?_ | with_reducible refine rr_st ?_ (by simp; try omega) _))⟩
  case rest =>
   obtain ⟨W, b10, b11, rfl, rfl, rfl, z1, z2, z3, z4, z5, a0, a1, a2, b0, b1, b2, r0, r1, r2, s0, s1, s2, t0, t1, t2, u0, u1, u2, fr, fs, ft, fu, bW⟩ := hcut
   rename_i K1 hK1
   refine hK1 _ _ ?_
   clear hK1
   go_step
   go_cut [10, 11] from 30 to 99 (fun s u X => ∃ W2 : World, W2 = X ∧ s = .pointer (some ⟨b10, 0, none⟩) ∧ u = .pointer (some ⟨b11, 0, none⟩) ∧ X.cell? ⟨w.heap.size + 1 + 1, 0, none⟩ = some (.bool false) ∧ X.cell? ⟨w.heap.size + 1 + 1, 1, none⟩ = some (.int .u64 0) ∧ X.cell? ⟨w.heap.size + 1 + 1, 2, none⟩ = some (.int .u64 0) ∧ X.cell? ⟨w.heap.size + 1 + 1 + 1, 0, none⟩ = some (.bool false) ∧ X.cell? ⟨w.heap.size + 1 + 1 + 1, 1, none⟩ = some (.int .u64 0) ∧ X.cell? ⟨w.heap.size + 1 + 1 + 1, 2, none⟩ = some (.int .u64 0) ∧ X.cell? ⟨b10, 0, none⟩ = some (.bool pe) ∧ X.cell? ⟨b10, 1, none⟩ = some (.int .u64 pl) ∧ X.cell? ⟨b10, 2, none⟩ = some (.int .u64 ph) ∧ X.cell? ⟨b11, 0, none⟩ = some (.bool qe) ∧ X.cell? ⟨b11, 1, none⟩ = some (.int .u64 ql) ∧ X.cell? ⟨b11, 2, none⟩ = some (.int .u64 qh) ∧ (∀ j, X.frozen? ⟨w.heap.size + 1 + 1, j, none⟩ = false) ∧ (∀ j, X.frozen? ⟨w.heap.size + 1 + 1 + 1, j, none⟩ = false) ∧ w.heap.size + 4 ≤ X.heap.size ∧ Below w.heap.size w X)
   case first =>
    go_upto_region 13 with fail
    rename_i KK hKK
    replace hKK : Hid _ := hKK
    refine wp_region_held_drew (S := (fun w' => w'.cell? ⟨w.heap.size, 0, none⟩ = some (.bool false) ∧ w'.cell? ⟨w.heap.size, 1, none⟩ = some (.int .u64 a) ∧ w'.cell? ⟨w.heap.size, 2, none⟩ = some (.int .u64 b) ∧ w'.cell? ⟨w.heap.size + 1, 0, none⟩ = some (.bool false) ∧ w'.cell? ⟨w.heap.size + 1, 1, none⟩ = some (.int .u64 c) ∧ w'.cell? ⟨w.heap.size + 1, 2, none⟩ = some (.int .u64 d))) (by kernel_rfl) ⟨a0, a1, a2, b0, b1, b2⟩ (fun hH => ?_)
    refine wpAnyH_take (i := 0) (oi := _) (v := .int .i64 f) rfl (by kernel_rfl) (by kernel_rfl) (by kernel_rfl) (fun _ _ _ h => h) (Or.inl ⟨by rfl, fun w' hSw => by obtain ⟨za0, za1, za2, zb0, zb1, zb2⟩ := hSw; go_simp⟩) hH ?_
    simp only [Act.put, gA, gB, gC, gD, gE, gG]
    refine wpAnyH_take (i := 1) (oi := _) (v := .agg #[.bool false, .int .u64 a, .int .u64 b]) rfl (by kernel_rfl) (by kernel_rfl) (by kernel_rfl) (fun _ _ _ h => h) (Or.inl ⟨by rfl, fun w' hSw => by obtain ⟨za0, za1, za2, zb0, zb1, zb2⟩ := hSw; go_simp⟩) hH ?_
    simp only [Act.put, gA, gB, gC, gD, gE, gG]
    refine wpAnyH_take (i := 2) (oi := _) (v := .int .i64 f) rfl (by kernel_rfl) (by kernel_rfl) (by kernel_rfl) (fun _ _ _ h => h) (Or.inl ⟨by rfl, fun w' hSw => by obtain ⟨za0, za1, za2, zb0, zb1, zb2⟩ := hSw; go_simp⟩) hH ?_
    simp only [Act.put, gA, gB, gC, gD, gE, gG]
    refine wpAnyH_take (i := 3) (oi := _) (v := .pointer (some ⟨w.heap.size + 1, 2, none⟩)) rfl (by kernel_rfl) (by kernel_rfl) (by kernel_rfl) (fun _ _ _ h => h) (Or.inl ⟨by rfl, fun w' hSw => by obtain ⟨za0, za1, za2, zb0, zb1, zb2⟩ := hSw; go_simp⟩) hH ?_
    simp only [Act.put, gA, gB, gC, gD, gE, gG]
    refine wpAnyH_take (i := 4) (oi := _) (v := .int .u64 d) rfl (by kernel_rfl) (by kernel_rfl) (by kernel_rfl) (fun _ _ _ h => h) (Or.inl ⟨by rfl, fun w' hSw => by obtain ⟨za0, za1, za2, zb0, zb1, zb2⟩ := hSw; go_simp⟩) hH ?_
    simp only [Act.put, gA, gB, gC, gD, gE, gG]
    refine wpAnyH_take (i := 5) (oi := _) (v := .int .i64 12) rfl (by kernel_rfl) (by kernel_rfl) (by kernel_rfl) (fun _ _ _ h => h) (Or.inl ⟨by rfl, fun w' hSw => by obtain ⟨za0, za1, za2, zb0, zb1, zb2⟩ := hSw; go_simp⟩) hH ?_
    simp only [Act.put, gA, gB, gC, gD, gE, gG]
    refine wpAnyH_take (i := 6) (oi := _) (v := .bool true) rfl (by kernel_rfl) (by kernel_rfl) (by kernel_rfl) (fun _ _ _ h => h) (Or.inl ⟨by rfl, fun w' hSw => by obtain ⟨za0, za1, za2, zb0, zb1, zb2⟩ := hSw; go_simp⟩) hH ?_
    simp only [Act.put, gA, gB, gC, gD, gE, gG]
    refine wpAnyH_ready (rs := [7]) (by kernel_rfl) (by simp) (AllReadyH.cons (o := _) rfl (fun K hK => ?_) AllReadyH.nil)
    go_simp
    refine (k1 _).mono ?_
    rintro e v1 ⟨rfl, g⟩
    replace g : Below W.heap.size W v1 := ⟨g.os, g.tape, g.output, g.size, g.block⟩; replace a0 := sO g a0; replace a1 := sO g a1; replace a2 := sO g a2; replace b0 := sO g b0; replace b1 := sO g b1; replace b2 := sO g b2; replace r0 := sO g r0; replace r1 := sO g r1; replace r2 := sO g r2; replace s0 := sO g s0; replace s1 := sO g s1; replace s2 := sO g s2; replace t0 := sO g t0; replace t1 := sO g t1; replace t2 := sO g t2; replace u0 := sO g u0; replace u1 := sO g u1; replace u2 := sO g u2; replace bW := sp_call bW g; have z_v1 := g.size; replace fr : ∀ j, v1.frozen? ⟨w.heap.size + 1 + 1, j, none⟩ = false := fun j => (g.frozen (p := ⟨w.heap.size + 1 + 1, j, none⟩) (by simp; omega)).trans (fr j); replace fs : ∀ j, v1.frozen? ⟨w.heap.size + 1 + 1 + 1, j, none⟩ = false := fun j => (g.frozen (p := ⟨w.heap.size + 1 + 1 + 1, j, none⟩) (by simp; omega)).trans (fs j); replace ft : ∀ j, v1.frozen? ⟨b10, j, none⟩ = false := fun j => (g.frozen (p := ⟨b10, j, none⟩) (by simp; omega)).trans (ft j); replace fu : ∀ j, v1.frozen? ⟨b11, j, none⟩ = false := fun j => (g.frozen (p := ⟨b11, j, none⟩) (by simp; omega)).trans (fu j); clear g
    go_wp2_with fail
    refine hK.out _ _ ⟨a0, a1, a2, b0, b1, b2⟩ (fun hH => ?_)
    clear hK K k1
    try simp only [Act.put, gA, gB, gC, gD, gE, gG]
    refine wpAnyH_ready (rs := [8]) (by kernel_rfl) (by simp) (AllReadyH.cons (o := _) rfl (fun K hK => ?_) AllReadyH.nil)
    go_simp
    refine (k2 _).mono ?_
    rintro e v2 ⟨rfl, g⟩
    replace g : Below v1.heap.size v1 v2 := ⟨g.os, g.tape, g.output, g.size, g.block⟩; replace a0 := sO g a0; replace a1 := sO g a1; replace a2 := sO g a2; replace b0 := sO g b0; replace b1 := sO g b1; replace b2 := sO g b2; replace r0 := sO g r0; replace r1 := sO g r1; replace r2 := sO g r2; replace s0 := sO g s0; replace s1 := sO g s1; replace s2 := sO g s2; replace t0 := sO g t0; replace t1 := sO g t1; replace t2 := sO g t2; replace u0 := sO g u0; replace u1 := sO g u1; replace u2 := sO g u2; replace bW := sp_call bW g; have z_v2 := g.size; replace fr : ∀ j, v2.frozen? ⟨w.heap.size + 1 + 1, j, none⟩ = false := fun j => (g.frozen (p := ⟨w.heap.size + 1 + 1, j, none⟩) (by simp; omega)).trans (fr j); replace fs : ∀ j, v2.frozen? ⟨w.heap.size + 1 + 1 + 1, j, none⟩ = false := fun j => (g.frozen (p := ⟨w.heap.size + 1 + 1 + 1, j, none⟩) (by simp; omega)).trans (fs j); replace ft : ∀ j, v2.frozen? ⟨b10, j, none⟩ = false := fun j => (g.frozen (p := ⟨b10, j, none⟩) (by simp; omega)).trans (ft j); replace fu : ∀ j, v2.frozen? ⟨b11, j, none⟩ = false := fun j => (g.frozen (p := ⟨b11, j, none⟩) (by simp; omega)).trans (fu j); clear g
    go_wp2_with fail
    refine hK.out _ _ ⟨a0, a1, a2, b0, b1, b2⟩ (fun hH => ?_)
    clear hK K k2
    try simp only [Act.put, gA, gB, gC, gD, gE, gG]
    refine wpAnyH_ready (rs := [9]) (by kernel_rfl) (by simp) (AllReadyH.cons (o := _) rfl (fun K hK => ?_) AllReadyH.nil)
    go_simp
    refine hK.out _ _ ⟨sp_keep3 a0 (by omega) _ _ _, sp_keep3 a1 (by omega) _ _ _, sp_keep3 a2 (by omega) _ _ _, sp_keep3 b0 (by omega) _ _ _, sp_keep3 b1 (by omega) _ _ _, sp_keep3 b2 (by omega) _ _ _⟩ (fun hH => ?_)
    clear hK K
    try simp only [Act.put, gA, gB, gC, gD, gE, gG]
    refine wpAnyH_done (by kernel_rfl) ?_ _
    obtain ⟨W6, hW⟩ : ∃ W6, (((v2.setCell ⟨b10, 0, none⟩ (.bool pe)).setCell ⟨b10, 1, none⟩ (.int .u64 pl)).setCell ⟨b10, 2, none⟩ (.int .u64 ph)) = W6 := ⟨_, rfl⟩
    replace t0 : W6.cell? ⟨b10, 0, none⟩ = some (.bool pe) := by rw [← hW]; simp [go_sem, t0, t1, t2]
    replace t1 : W6.cell? ⟨b10, 1, none⟩ = some (.int .u64 pl) := by rw [← hW]; simp [go_sem, t1, t2]
    replace t2 : W6.cell? ⟨b10, 2, none⟩ = some (.int .u64 ph) := by rw [← hW]; simp [go_sem, t2]
    replace a0 := hW ▸ sp_keep3 (b := b10) a0 (by omega) (.bool pe) (.int .u64 pl) (.int .u64 ph)
    replace a1 := hW ▸ sp_keep3 (b := b10) a1 (by omega) (.bool pe) (.int .u64 pl) (.int .u64 ph)
    replace a2 := hW ▸ sp_keep3 (b := b10) a2 (by omega) (.bool pe) (.int .u64 pl) (.int .u64 ph)
    replace b0 := hW ▸ sp_keep3 (b := b10) b0 (by omega) (.bool pe) (.int .u64 pl) (.int .u64 ph)
    replace b1 := hW ▸ sp_keep3 (b := b10) b1 (by omega) (.bool pe) (.int .u64 pl) (.int .u64 ph)
    replace b2 := hW ▸ sp_keep3 (b := b10) b2 (by omega) (.bool pe) (.int .u64 pl) (.int .u64 ph)
    replace r0 := hW ▸ sp_keep3 (b := b10) r0 (by omega) (.bool pe) (.int .u64 pl) (.int .u64 ph)
    replace r1 := hW ▸ sp_keep3 (b := b10) r1 (by omega) (.bool pe) (.int .u64 pl) (.int .u64 ph)
    replace r2 := hW ▸ sp_keep3 (b := b10) r2 (by omega) (.bool pe) (.int .u64 pl) (.int .u64 ph)
    replace s0 := hW ▸ sp_keep3 (b := b10) s0 (by omega) (.bool pe) (.int .u64 pl) (.int .u64 ph)
    replace s1 := hW ▸ sp_keep3 (b := b10) s1 (by omega) (.bool pe) (.int .u64 pl) (.int .u64 ph)
    replace s2 := hW ▸ sp_keep3 (b := b10) s2 (by omega) (.bool pe) (.int .u64 pl) (.int .u64 ph)
    replace u0 := hW ▸ sp_keep3 (b := b10) u0 (by omega) (.bool pe) (.int .u64 pl) (.int .u64 ph)
    replace u1 := hW ▸ sp_keep3 (b := b10) u1 (by omega) (.bool pe) (.int .u64 pl) (.int .u64 ph)
    replace u2 := hW ▸ sp_keep3 (b := b10) u2 (by omega) (.bool pe) (.int .u64 pl) (.int .u64 ph)
    replace fr : ∀ j, W6.frozen? ⟨w.heap.size + 1 + 1, j, none⟩ = false := by intro j; rw [← hW]; simp [go_sem, fr]
    replace fs : ∀ j, W6.frozen? ⟨w.heap.size + 1 + 1 + 1, j, none⟩ = false := by intro j; rw [← hW]; simp [go_sem, fs]
    replace ft : ∀ j, W6.frozen? ⟨b10, j, none⟩ = false := by intro j; rw [← hW]; simp [go_sem, ft]
    replace fu : ∀ j, W6.frozen? ⟨b11, j, none⟩ = false := by intro j; rw [← hW]; simp [go_sem, fu]
    replace bW : Below w.heap.size w W6 := by rw [← hW]; (repeat (first | with_reducible exact bW | with_reducible refine rr_dr ?_ | with_reducible refine rr_st ?_ (by omega) _))
    have zs_W6 : W6.heap.size = v2.heap.size := by rw [← hW]; simp
    rw [hW]
    clear hW
    refine hKK.out _ _ ?_
    clear hKK
    go_upto_region 14 with fail
    refine wp_region_held_drew (S := (fun w' => w'.cell? ⟨w.heap.size, 0, none⟩ = some (.bool false) ∧ w'.cell? ⟨w.heap.size, 1, none⟩ = some (.int .u64 a) ∧ w'.cell? ⟨w.heap.size, 2, none⟩ = some (.int .u64 b) ∧ w'.cell? ⟨w.heap.size + 1, 0, none⟩ = some (.bool false) ∧ w'.cell? ⟨w.heap.size + 1, 1, none⟩ = some (.int .u64 c) ∧ w'.cell? ⟨w.heap.size + 1, 2, none⟩ = some (.int .u64 d))) (by kernel_rfl) ⟨a0, a1, a2, b0, b1, b2⟩ (fun hH => ?_)
    refine wpAnyH_take (i := 0) (oi := _) (v := .int .i64 f) rfl (by kernel_rfl) (by kernel_rfl) (by kernel_rfl) (fun _ _ _ h => h) (Or.inl ⟨by rfl, fun w' hSw => by obtain ⟨za0, za1, za2, zb0, zb1, zb2⟩ := hSw; go_simp⟩) hH ?_
    simp only [Act.put, gA, gB, gC, gD, gE, gG]
    refine wpAnyH_take (i := 1) (oi := _) (v := .agg #[.bool false, .int .u64 c, .int .u64 d]) rfl (by kernel_rfl) (by kernel_rfl) (by kernel_rfl) (fun _ _ _ h => h) (Or.inl ⟨by rfl, fun w' hSw => by obtain ⟨za0, za1, za2, zb0, zb1, zb2⟩ := hSw; go_simp⟩) hH ?_
    simp only [Act.put, gA, gB, gC, gD, gE, gG]
    refine wpAnyH_take (i := 2) (oi := _) (v := .int .i64 f) rfl (by kernel_rfl) (by kernel_rfl) (by kernel_rfl) (fun _ _ _ h => h) (Or.inl ⟨by rfl, fun w' hSw => by obtain ⟨za0, za1, za2, zb0, zb1, zb2⟩ := hSw; go_simp⟩) hH ?_
    simp only [Act.put, gA, gB, gC, gD, gE, gG]
    refine wpAnyH_take (i := 3) (oi := _) (v := .pointer (some ⟨w.heap.size, 1, none⟩)) rfl (by kernel_rfl) (by kernel_rfl) (by kernel_rfl) (fun _ _ _ h => h) (Or.inl ⟨by rfl, fun w' hSw => by obtain ⟨za0, za1, za2, zb0, zb1, zb2⟩ := hSw; go_simp⟩) hH ?_
    simp only [Act.put, gA, gB, gC, gD, gE, gG]
    refine wpAnyH_take (i := 4) (oi := _) (v := .int .u64 a) rfl (by kernel_rfl) (by kernel_rfl) (by kernel_rfl) (fun _ _ _ h => h) (Or.inl ⟨by rfl, fun w' hSw => by obtain ⟨za0, za1, za2, zb0, zb1, zb2⟩ := hSw; go_simp⟩) hH ?_
    simp only [Act.put, gA, gB, gC, gD, gE, gG]
    refine wpAnyH_take (i := 5) (oi := _) (v := .int .i64 12) rfl (by kernel_rfl) (by kernel_rfl) (by kernel_rfl) (fun _ _ _ h => h) (Or.inl ⟨by rfl, fun w' hSw => by obtain ⟨za0, za1, za2, zb0, zb1, zb2⟩ := hSw; go_simp⟩) hH ?_
    simp only [Act.put, gA, gB, gC, gD, gE, gG]
    refine wpAnyH_take (i := 6) (oi := _) (v := .bool true) rfl (by kernel_rfl) (by kernel_rfl) (by kernel_rfl) (fun _ _ _ h => h) (Or.inl ⟨by rfl, fun w' hSw => by obtain ⟨za0, za1, za2, zb0, zb1, zb2⟩ := hSw; go_simp⟩) hH ?_
    simp only [Act.put, gA, gB, gC, gD, gE, gG]
    refine wpAnyH_ready (rs := [7]) (by kernel_rfl) (by simp) (AllReadyH.cons (o := _) rfl (fun K hK => ?_) AllReadyH.nil)
    go_simp
    refine (k3 _).mono ?_
    rintro e v3 ⟨rfl, g⟩
    replace g : Below W6.heap.size W6 v3 := ⟨g.os, g.tape, g.output, g.size, g.block⟩; replace a0 := sO g a0; replace a1 := sO g a1; replace a2 := sO g a2; replace b0 := sO g b0; replace b1 := sO g b1; replace b2 := sO g b2; replace r0 := sO g r0; replace r1 := sO g r1; replace r2 := sO g r2; replace s0 := sO g s0; replace s1 := sO g s1; replace s2 := sO g s2; replace t0 := sO g t0; replace t1 := sO g t1; replace t2 := sO g t2; replace u0 := sO g u0; replace u1 := sO g u1; replace u2 := sO g u2; replace bW := sp_call bW g; have z_v3 := g.size; replace fr : ∀ j, v3.frozen? ⟨w.heap.size + 1 + 1, j, none⟩ = false := fun j => (g.frozen (p := ⟨w.heap.size + 1 + 1, j, none⟩) (by simp; omega)).trans (fr j); replace fs : ∀ j, v3.frozen? ⟨w.heap.size + 1 + 1 + 1, j, none⟩ = false := fun j => (g.frozen (p := ⟨w.heap.size + 1 + 1 + 1, j, none⟩) (by simp; omega)).trans (fs j); replace ft : ∀ j, v3.frozen? ⟨b10, j, none⟩ = false := fun j => (g.frozen (p := ⟨b10, j, none⟩) (by simp; omega)).trans (ft j); replace fu : ∀ j, v3.frozen? ⟨b11, j, none⟩ = false := fun j => (g.frozen (p := ⟨b11, j, none⟩) (by simp; omega)).trans (fu j); clear g
    go_wp2_with fail
    refine hK.out _ _ ⟨a0, a1, a2, b0, b1, b2⟩ (fun hH => ?_)
    clear hK K k3
    try simp only [Act.put, gA, gB, gC, gD, gE, gG]
    refine wpAnyH_ready (rs := [8]) (by kernel_rfl) (by simp) (AllReadyH.cons (o := _) rfl (fun K hK => ?_) AllReadyH.nil)
    go_simp
    refine (k4 _).mono ?_
    rintro e v4 ⟨rfl, g⟩
    replace g : Below v3.heap.size v3 v4 := ⟨g.os, g.tape, g.output, g.size, g.block⟩; replace a0 := sO g a0; replace a1 := sO g a1; replace a2 := sO g a2; replace b0 := sO g b0; replace b1 := sO g b1; replace b2 := sO g b2; replace r0 := sO g r0; replace r1 := sO g r1; replace r2 := sO g r2; replace s0 := sO g s0; replace s1 := sO g s1; replace s2 := sO g s2; replace t0 := sO g t0; replace t1 := sO g t1; replace t2 := sO g t2; replace u0 := sO g u0; replace u1 := sO g u1; replace u2 := sO g u2; replace bW := sp_call bW g; have z_v4 := g.size; replace fr : ∀ j, v4.frozen? ⟨w.heap.size + 1 + 1, j, none⟩ = false := fun j => (g.frozen (p := ⟨w.heap.size + 1 + 1, j, none⟩) (by simp; omega)).trans (fr j); replace fs : ∀ j, v4.frozen? ⟨w.heap.size + 1 + 1 + 1, j, none⟩ = false := fun j => (g.frozen (p := ⟨w.heap.size + 1 + 1 + 1, j, none⟩) (by simp; omega)).trans (fs j); replace ft : ∀ j, v4.frozen? ⟨b10, j, none⟩ = false := fun j => (g.frozen (p := ⟨b10, j, none⟩) (by simp; omega)).trans (ft j); replace fu : ∀ j, v4.frozen? ⟨b11, j, none⟩ = false := fun j => (g.frozen (p := ⟨b11, j, none⟩) (by simp; omega)).trans (fu j); clear g
    go_wp2_with fail
    refine hK.out _ _ ⟨a0, a1, a2, b0, b1, b2⟩ (fun hH => ?_)
    clear hK K k4
    try simp only [Act.put, gA, gB, gC, gD, gE, gG]
    refine wpAnyH_ready (rs := [9]) (by kernel_rfl) (by simp) (AllReadyH.cons (o := _) rfl (fun K hK => ?_) AllReadyH.nil)
    go_simp
    refine hK.out _ _ ⟨sp_keep3 a0 (by omega) _ _ _, sp_keep3 a1 (by omega) _ _ _, sp_keep3 a2 (by omega) _ _ _, sp_keep3 b0 (by omega) _ _ _, sp_keep3 b1 (by omega) _ _ _, sp_keep3 b2 (by omega) _ _ _⟩ (fun hH => ?_)
    clear hK K
    try simp only [Act.put, gA, gB, gC, gD, gE, gG]
    refine wpAnyH_done (by kernel_rfl) ?_ _
    obtain ⟨W7, hW⟩ : ∃ W7, (((v4.setCell ⟨b11, 0, none⟩ (.bool qe)).setCell ⟨b11, 1, none⟩ (.int .u64 ql)).setCell ⟨b11, 2, none⟩ (.int .u64 qh)) = W7 := ⟨_, rfl⟩
    replace u0 : W7.cell? ⟨b11, 0, none⟩ = some (.bool qe) := by rw [← hW]; simp [go_sem, u0, u1, u2]
    replace u1 : W7.cell? ⟨b11, 1, none⟩ = some (.int .u64 ql) := by rw [← hW]; simp [go_sem, u1, u2]
    replace u2 : W7.cell? ⟨b11, 2, none⟩ = some (.int .u64 qh) := by rw [← hW]; simp [go_sem, u2]
    replace a0 := hW ▸ sp_keep3 (b := b11) a0 (by omega) (.bool qe) (.int .u64 ql) (.int .u64 qh)
    replace a1 := hW ▸ sp_keep3 (b := b11) a1 (by omega) (.bool qe) (.int .u64 ql) (.int .u64 qh)
    replace a2 := hW ▸ sp_keep3 (b := b11) a2 (by omega) (.bool qe) (.int .u64 ql) (.int .u64 qh)
    replace b0 := hW ▸ sp_keep3 (b := b11) b0 (by omega) (.bool qe) (.int .u64 ql) (.int .u64 qh)
    replace b1 := hW ▸ sp_keep3 (b := b11) b1 (by omega) (.bool qe) (.int .u64 ql) (.int .u64 qh)
    replace b2 := hW ▸ sp_keep3 (b := b11) b2 (by omega) (.bool qe) (.int .u64 ql) (.int .u64 qh)
    replace r0 := hW ▸ sp_keep3 (b := b11) r0 (by omega) (.bool qe) (.int .u64 ql) (.int .u64 qh)
    replace r1 := hW ▸ sp_keep3 (b := b11) r1 (by omega) (.bool qe) (.int .u64 ql) (.int .u64 qh)
    replace r2 := hW ▸ sp_keep3 (b := b11) r2 (by omega) (.bool qe) (.int .u64 ql) (.int .u64 qh)
    replace s0 := hW ▸ sp_keep3 (b := b11) s0 (by omega) (.bool qe) (.int .u64 ql) (.int .u64 qh)
    replace s1 := hW ▸ sp_keep3 (b := b11) s1 (by omega) (.bool qe) (.int .u64 ql) (.int .u64 qh)
    replace s2 := hW ▸ sp_keep3 (b := b11) s2 (by omega) (.bool qe) (.int .u64 ql) (.int .u64 qh)
    replace t0 := hW ▸ sp_keep3 (b := b11) t0 (by omega) (.bool qe) (.int .u64 ql) (.int .u64 qh)
    replace t1 := hW ▸ sp_keep3 (b := b11) t1 (by omega) (.bool qe) (.int .u64 ql) (.int .u64 qh)
    replace t2 := hW ▸ sp_keep3 (b := b11) t2 (by omega) (.bool qe) (.int .u64 ql) (.int .u64 qh)
    replace fr : ∀ j, W7.frozen? ⟨w.heap.size + 1 + 1, j, none⟩ = false := by intro j; rw [← hW]; simp [go_sem, fr]
    replace fs : ∀ j, W7.frozen? ⟨w.heap.size + 1 + 1 + 1, j, none⟩ = false := by intro j; rw [← hW]; simp [go_sem, fs]
    replace ft : ∀ j, W7.frozen? ⟨b10, j, none⟩ = false := by intro j; rw [← hW]; simp [go_sem, ft]
    replace fu : ∀ j, W7.frozen? ⟨b11, j, none⟩ = false := by intro j; rw [← hW]; simp [go_sem, fu]
    replace bW : Below w.heap.size w W7 := by rw [← hW]; (repeat (first | with_reducible exact bW | with_reducible refine rr_dr ?_ | with_reducible refine rr_st ?_ (by omega) _))
    have zs_W7 : W7.heap.size = v4.heap.size := by rw [← hW]; simp
    rw [hW]
    clear hW
    go_wp2_with fail
    go_meet
    exact ⟨_, rfl, rfl, rfl, r0, r1, r2, s0, s1, s2, t0, t1, t2, u0, u1, u2, fr, fs, by omega, bW⟩
   case rest =>
    try clear he hl hh
    clear a0 a1 a2 b0 b1 b2 r0 r1 r2 s0 s1 s2 t0 t1 t2 u0 u1 u2 fr fs ft fu bW z4 z5
    obtain ⟨X, rfl, rfl, rfl, r0, r1, r2, s0, s1, s2, t0, t1, t2, u0, u1, u2, fr, fs, zX, bW⟩ := hcut
    cases pe
    · cases qe
      · go_upto_region 24 with fail
        go_region
        all_goals go_wp2_with fail
        all_goals exact bodyPost_ret (v := .tuple #[.agg #[.bool false, .int .u64 pl, .int .u64 ph], .agg #[.bool false, .int .u64 ql, .int .u64 qh]]) (by simp [results, Tryz.results39, go_sem, r0, r1, r2, s0, s1, s2]) rfl ⟨by simp, by (repeat (first | with_reducible exact bW | with_reducible refine rr_dr ?_ | with_reducible refine rr_st ?_ (by omega) _))⟩
      · go_wp2_with (first
          | (go_at_call 80; refine (hn _).mono ?_; rintro e vn ⟨rfl, g⟩; replace r0 := sO g r0; replace r1 := sO g r1; replace r2 := sO g r2; replace s0 := sO g s0; replace s1 := sO g s1; replace s2 := sO g s2; replace bW := sp_call bW g; have z_vn := g.size; replace fr : ∀ j, vn.frozen? ⟨w.heap.size + 1 + 1, j, none⟩ = false := fun j => (g.frozen (p := ⟨w.heap.size + 1 + 1, j, none⟩) (by simp; omega)).trans (fr j); replace fs : ∀ j, vn.frozen? ⟨w.heap.size + 1 + 1 + 1, j, none⟩ = false := fun j => (g.frozen (p := ⟨w.heap.size + 1 + 1 + 1, j, none⟩) (by simp; omega)).trans (fs j); clear g; clear hn)
          | (go_at_call 80; refine (hn2 _).mono ?_; rintro e vn2 ⟨rfl, g⟩; replace r0 := sO g r0; replace r1 := sO g r1; replace r2 := sO g r2; replace s0 := sO g s0; replace s1 := sO g s1; replace s2 := sO g s2; replace bW := sp_call bW g; have z_vn2 := g.size; replace fr : ∀ j, vn2.frozen? ⟨w.heap.size + 1 + 1, j, none⟩ = false := fun j => (g.frozen (p := ⟨w.heap.size + 1 + 1, j, none⟩) (by simp; omega)).trans (fr j); replace fs : ∀ j, vn2.frozen? ⟨w.heap.size + 1 + 1 + 1, j, none⟩ = false := fun j => (g.frozen (p := ⟨w.heap.size + 1 + 1 + 1, j, none⟩) (by simp; omega)).trans (fs j); clear g; clear hn2)
          | fail)
        exact bodyPost_ret (v := .tuple #[.agg #[.bool true, .int .u64 0, .int .u64 0], .agg #[.bool true, .int .u64 0, .int .u64 0]]) (by simp [results, Tryz.results39, go_sem, r0, r1, r2, s0, s1, s2]) rfl ⟨by simp, by (repeat (first | with_reducible exact bW | with_reducible refine rr_dr ?_ | with_reducible refine rr_st ?_ (by omega) _))⟩
    · go_wp2_with (first
        | (go_at_call 80; refine (hn _).mono ?_; rintro e vn ⟨rfl, g⟩; replace r0 := sO g r0; replace r1 := sO g r1; replace r2 := sO g r2; replace s0 := sO g s0; replace s1 := sO g s1; replace s2 := sO g s2; replace bW := sp_call bW g; have z_vn := g.size; replace fr : ∀ j, vn.frozen? ⟨w.heap.size + 1 + 1, j, none⟩ = false := fun j => (g.frozen (p := ⟨w.heap.size + 1 + 1, j, none⟩) (by simp; omega)).trans (fr j); replace fs : ∀ j, vn.frozen? ⟨w.heap.size + 1 + 1 + 1, j, none⟩ = false := fun j => (g.frozen (p := ⟨w.heap.size + 1 + 1 + 1, j, none⟩) (by simp; omega)).trans (fs j); clear g; clear hn)
        | (go_at_call 80; refine (hn2 _).mono ?_; rintro e vn2 ⟨rfl, g⟩; replace r0 := sO g r0; replace r1 := sO g r1; replace r2 := sO g r2; replace s0 := sO g s0; replace s1 := sO g s1; replace s2 := sO g s2; replace bW := sp_call bW g; have z_vn2 := g.size; replace fr : ∀ j, vn2.frozen? ⟨w.heap.size + 1 + 1, j, none⟩ = false := fun j => (g.frozen (p := ⟨w.heap.size + 1 + 1, j, none⟩) (by simp; omega)).trans (fr j); replace fs : ∀ j, vn2.frozen? ⟨w.heap.size + 1 + 1 + 1, j, none⟩ = false := fun j => (g.frozen (p := ⟨w.heap.size + 1 + 1 + 1, j, none⟩) (by simp; omega)).trans (fs j); clear g; clear hn2)
        | fail)
      exact bodyPost_ret (v := .tuple #[.agg #[.bool true, .int .u64 0, .int .u64 0], .agg #[.bool true, .int .u64 0, .int .u64 0]]) (by simp [results, Tryz.results39, go_sem, r0, r1, r2, s0, s1, s2]) rfl ⟨by simp, by (repeat (first | with_reducible exact bW | with_reducible refine rr_dr ?_ | with_reducible refine rr_st ?_ (by omega) _))⟩
set_option maxRecDepth 100000 in
set_option maxHeartbeats 6400000 in
theorem rr_le (f : Int) (a b c d : Int) (pe qe : Bool) (pl ph ql qh : Int) (xe ye : Bool) (xl xh yl yh : Int) (k1 : ∀ V, Calls Tryz.prog 99 #[.int .i64 f, .int .u64 d, .bool false] V fun e w' => e = .returned (.agg #[.bool xe, .int .u64 xl, .int .u64 xh]) ∧ Below V.heap.size V w') (k2 : ∀ V, Calls Tryz.prog 27 #[.int .i64 f, .agg #[.bool false, .int .u64 a, .int .u64 b], .agg #[.bool xe, .int .u64 xl, .int .u64 xh]] V fun e w' => e = .returned (.agg #[.bool pe, .int .u64 pl, .int .u64 ph]) ∧ Below V.heap.size V w') (k3 : ∀ V, Calls Tryz.prog 100 #[.int .i64 f, .int .u64 a, .bool false] V fun e w' => e = .returned (.agg #[.bool ye, .int .u64 yl, .int .u64 yh]) ∧ Below V.heap.size V w') (k4 : ∀ V, Calls Tryz.prog 27 #[.int .i64 f, .agg #[.bool false, .int .u64 c, .int .u64 d], .agg #[.bool ye, .int .u64 yl, .int .u64 yh]] V fun e w' => e = .returned (.agg #[.bool qe, .int .u64 ql, .int .u64 qh]) ∧ Below V.heap.size V w') (w : World) :
    Calls Tryz.prog 39 #[.int .i64 f, .int .i64 13, .agg #[.bool false, .int .u64 a, .int .u64 b], .agg #[.bool false, .int .u64 c, .int .u64 d]] w fun e w' => e = .returned (.tuple #[.agg #[.bool (bothP (pe, pl, ph) (qe, ql, qh)).1.1, .int .u64 (bothP (pe, pl, ph) (qe, ql, qh)).1.2.1, .int .u64 (bothP (pe, pl, ph) (qe, ql, qh)).1.2.2], .agg #[.bool (bothP (pe, pl, ph) (qe, ql, qh)).2.1, .int .u64 (bothP (pe, pl, ph) (qe, ql, qh)).2.2.1, .int .u64 (bothP (pe, pl, ph) (qe, ql, qh)).2.2.2]]) ∧ Below w.heap.size w w' := by
  have hn : ∀ V, Calls Tryz.prog 80 #[] V fun e w' => e = .returned (.agg #[.bool true, .int .u64 0, .int .u64 0]) ∧ Below V.heap.size V w' := fun V => (rnoneF V).mono fun e w' h => ⟨h.1, by rw [h.2]; exact sp_new (Below.refl _ _) _⟩
  have hn2 := hn
  unfold bothP
  dsimp only
  go_enter Tryz.func39, Tryz.ntmps39
  go_upto_region 5 with fail
  go_cut [10, 11] from 28 to 29 (fun s u X => ∃ (W : World) (b10 b11 : Nat), W = X ∧ s = .pointer (some ⟨b10, 0, none⟩) ∧ u = .pointer (some ⟨b11, 0, none⟩) ∧ w.heap.size + 4 ≤ b10 ∧ w.heap.size + 4 ≤ b11 ∧ b10 ≠ b11 ∧ b10 < X.heap.size ∧ b11 < X.heap.size ∧ X.cell? ⟨w.heap.size, 0, none⟩ = some (.bool false) ∧ X.cell? ⟨w.heap.size, 1, none⟩ = some (.int .u64 a) ∧ X.cell? ⟨w.heap.size, 2, none⟩ = some (.int .u64 b) ∧ X.cell? ⟨w.heap.size + 1, 0, none⟩ = some (.bool false) ∧ X.cell? ⟨w.heap.size + 1, 1, none⟩ = some (.int .u64 c) ∧ X.cell? ⟨w.heap.size + 1, 2, none⟩ = some (.int .u64 d) ∧ X.cell? ⟨w.heap.size + 1 + 1, 0, none⟩ = some (.bool false) ∧ X.cell? ⟨w.heap.size + 1 + 1, 1, none⟩ = some (.int .u64 0) ∧ X.cell? ⟨w.heap.size + 1 + 1, 2, none⟩ = some (.int .u64 0) ∧ X.cell? ⟨w.heap.size + 1 + 1 + 1, 0, none⟩ = some (.bool false) ∧ X.cell? ⟨w.heap.size + 1 + 1 + 1, 1, none⟩ = some (.int .u64 0) ∧ X.cell? ⟨w.heap.size + 1 + 1 + 1, 2, none⟩ = some (.int .u64 0) ∧ X.cell? ⟨b10, 0, none⟩ = some (.bool false) ∧ X.cell? ⟨b10, 1, none⟩ = some (.int .u64 a) ∧ X.cell? ⟨b10, 2, none⟩ = some (.int .u64 b) ∧ X.cell? ⟨b11, 0, none⟩ = some (.bool false) ∧ X.cell? ⟨b11, 1, none⟩ = some (.int .u64 c) ∧ X.cell? ⟨b11, 2, none⟩ = some (.int .u64 d) ∧ (∀ j, X.frozen? ⟨w.heap.size + 1 + 1, j, none⟩ = false) ∧ (∀ j, X.frozen? ⟨w.heap.size + 1 + 1 + 1, j, none⟩ = false) ∧ (∀ j, X.frozen? ⟨b10, j, none⟩ = false) ∧ (∀ j, X.frozen? ⟨b11, j, none⟩ = false) ∧ Below w.heap.size w X)
  case first =>
   go_region
   all_goals go_wp2_with fail
   all_goals go_meet
   all_goals exact ⟨_, _, _, rfl, rfl, rfl, by simp, by simp, by simp, by simp, by simp, by simp [go_sem], by simp [go_sem], by simp [go_sem], by simp [go_sem], by simp [go_sem], by simp [go_sem], by simp [go_sem], by simp [go_sem], by simp [go_sem], by simp [go_sem], by simp [go_sem], by simp [go_sem], by simp [go_sem], by simp [go_sem], by simp [go_sem], by simp [go_sem], by simp [go_sem], by simp [go_sem], by intro j; simp [go_sem], by intro j; simp [go_sem], by intro j; simp [go_sem], by intro j; simp [go_sem], by (repeat (first | exact Below.refl _ _ | with_reducible refine sp_new ?_ _ | with_reducible refine rr_dr ?_ | with_reducible refine rr_st ?_ (by simp; try omega) _))⟩
  case rest =>
   obtain ⟨W, b10, b11, rfl, rfl, rfl, z1, z2, z3, z4, z5, a0, a1, a2, b0, b1, b2, r0, r1, r2, s0, s1, s2, t0, t1, t2, u0, u1, u2, fr, fs, ft, fu, bW⟩ := hcut
   rename_i K1 hK1
   refine hK1 _ _ ?_
   clear hK1
   go_step
   go_cut [10, 11] from 30 to 99 (fun s u X => ∃ W2 : World, W2 = X ∧ s = .pointer (some ⟨b10, 0, none⟩) ∧ u = .pointer (some ⟨b11, 0, none⟩) ∧ X.cell? ⟨w.heap.size + 1 + 1, 0, none⟩ = some (.bool false) ∧ X.cell? ⟨w.heap.size + 1 + 1, 1, none⟩ = some (.int .u64 0) ∧ X.cell? ⟨w.heap.size + 1 + 1, 2, none⟩ = some (.int .u64 0) ∧ X.cell? ⟨w.heap.size + 1 + 1 + 1, 0, none⟩ = some (.bool false) ∧ X.cell? ⟨w.heap.size + 1 + 1 + 1, 1, none⟩ = some (.int .u64 0) ∧ X.cell? ⟨w.heap.size + 1 + 1 + 1, 2, none⟩ = some (.int .u64 0) ∧ X.cell? ⟨b10, 0, none⟩ = some (.bool pe) ∧ X.cell? ⟨b10, 1, none⟩ = some (.int .u64 pl) ∧ X.cell? ⟨b10, 2, none⟩ = some (.int .u64 ph) ∧ X.cell? ⟨b11, 0, none⟩ = some (.bool qe) ∧ X.cell? ⟨b11, 1, none⟩ = some (.int .u64 ql) ∧ X.cell? ⟨b11, 2, none⟩ = some (.int .u64 qh) ∧ (∀ j, X.frozen? ⟨w.heap.size + 1 + 1, j, none⟩ = false) ∧ (∀ j, X.frozen? ⟨w.heap.size + 1 + 1 + 1, j, none⟩ = false) ∧ w.heap.size + 4 ≤ X.heap.size ∧ Below w.heap.size w X)
   case first =>
    go_upto_region 13 with fail
    rename_i KK hKK
    replace hKK : Hid _ := hKK
    refine wp_region_held_drew (S := (fun w' => w'.cell? ⟨w.heap.size, 0, none⟩ = some (.bool false) ∧ w'.cell? ⟨w.heap.size, 1, none⟩ = some (.int .u64 a) ∧ w'.cell? ⟨w.heap.size, 2, none⟩ = some (.int .u64 b) ∧ w'.cell? ⟨w.heap.size + 1, 0, none⟩ = some (.bool false) ∧ w'.cell? ⟨w.heap.size + 1, 1, none⟩ = some (.int .u64 c) ∧ w'.cell? ⟨w.heap.size + 1, 2, none⟩ = some (.int .u64 d))) (by kernel_rfl) ⟨a0, a1, a2, b0, b1, b2⟩ (fun hH => ?_)
    refine wpAnyH_take (i := 0) (oi := _) (v := .int .i64 f) rfl (by kernel_rfl) (by kernel_rfl) (by kernel_rfl) (fun _ _ _ h => h) (Or.inl ⟨by rfl, fun w' hSw => by obtain ⟨za0, za1, za2, zb0, zb1, zb2⟩ := hSw; go_simp⟩) hH ?_
    simp only [Act.put, gA, gB, gC, gD, gE, gG]
    refine wpAnyH_take (i := 1) (oi := _) (v := .agg #[.bool false, .int .u64 a, .int .u64 b]) rfl (by kernel_rfl) (by kernel_rfl) (by kernel_rfl) (fun _ _ _ h => h) (Or.inl ⟨by rfl, fun w' hSw => by obtain ⟨za0, za1, za2, zb0, zb1, zb2⟩ := hSw; go_simp⟩) hH ?_
    simp only [Act.put, gA, gB, gC, gD, gE, gG]
    refine wpAnyH_take (i := 2) (oi := _) (v := .int .i64 f) rfl (by kernel_rfl) (by kernel_rfl) (by kernel_rfl) (fun _ _ _ h => h) (Or.inl ⟨by rfl, fun w' hSw => by obtain ⟨za0, za1, za2, zb0, zb1, zb2⟩ := hSw; go_simp⟩) hH ?_
    simp only [Act.put, gA, gB, gC, gD, gE, gG]
    refine wpAnyH_take (i := 3) (oi := _) (v := .pointer (some ⟨w.heap.size + 1, 2, none⟩)) rfl (by kernel_rfl) (by kernel_rfl) (by kernel_rfl) (fun _ _ _ h => h) (Or.inl ⟨by rfl, fun w' hSw => by obtain ⟨za0, za1, za2, zb0, zb1, zb2⟩ := hSw; go_simp⟩) hH ?_
    simp only [Act.put, gA, gB, gC, gD, gE, gG]
    refine wpAnyH_take (i := 4) (oi := _) (v := .int .u64 d) rfl (by kernel_rfl) (by kernel_rfl) (by kernel_rfl) (fun _ _ _ h => h) (Or.inl ⟨by rfl, fun w' hSw => by obtain ⟨za0, za1, za2, zb0, zb1, zb2⟩ := hSw; go_simp⟩) hH ?_
    simp only [Act.put, gA, gB, gC, gD, gE, gG]
    refine wpAnyH_take (i := 5) (oi := _) (v := .int .i64 13) rfl (by kernel_rfl) (by kernel_rfl) (by kernel_rfl) (fun _ _ _ h => h) (Or.inl ⟨by rfl, fun w' hSw => by obtain ⟨za0, za1, za2, zb0, zb1, zb2⟩ := hSw; go_simp⟩) hH ?_
    simp only [Act.put, gA, gB, gC, gD, gE, gG]
    refine wpAnyH_take (i := 6) (oi := _) (v := .bool false) rfl (by kernel_rfl) (by kernel_rfl) (by kernel_rfl) (fun _ _ _ h => h) (Or.inl ⟨by rfl, fun w' hSw => by obtain ⟨za0, za1, za2, zb0, zb1, zb2⟩ := hSw; go_simp⟩) hH ?_
    simp only [Act.put, gA, gB, gC, gD, gE, gG]
    refine wpAnyH_ready (rs := [7]) (by kernel_rfl) (by simp) (AllReadyH.cons (o := _) rfl (fun K hK => ?_) AllReadyH.nil)
    go_simp
    refine (k1 _).mono ?_
    rintro e v1 ⟨rfl, g⟩
    replace g : Below W.heap.size W v1 := ⟨g.os, g.tape, g.output, g.size, g.block⟩; replace a0 := sO g a0; replace a1 := sO g a1; replace a2 := sO g a2; replace b0 := sO g b0; replace b1 := sO g b1; replace b2 := sO g b2; replace r0 := sO g r0; replace r1 := sO g r1; replace r2 := sO g r2; replace s0 := sO g s0; replace s1 := sO g s1; replace s2 := sO g s2; replace t0 := sO g t0; replace t1 := sO g t1; replace t2 := sO g t2; replace u0 := sO g u0; replace u1 := sO g u1; replace u2 := sO g u2; replace bW := sp_call bW g; have z_v1 := g.size; replace fr : ∀ j, v1.frozen? ⟨w.heap.size + 1 + 1, j, none⟩ = false := fun j => (g.frozen (p := ⟨w.heap.size + 1 + 1, j, none⟩) (by simp; omega)).trans (fr j); replace fs : ∀ j, v1.frozen? ⟨w.heap.size + 1 + 1 + 1, j, none⟩ = false := fun j => (g.frozen (p := ⟨w.heap.size + 1 + 1 + 1, j, none⟩) (by simp; omega)).trans (fs j); replace ft : ∀ j, v1.frozen? ⟨b10, j, none⟩ = false := fun j => (g.frozen (p := ⟨b10, j, none⟩) (by simp; omega)).trans (ft j); replace fu : ∀ j, v1.frozen? ⟨b11, j, none⟩ = false := fun j => (g.frozen (p := ⟨b11, j, none⟩) (by simp; omega)).trans (fu j); clear g
    go_wp2_with fail
    refine hK.out _ _ ⟨a0, a1, a2, b0, b1, b2⟩ (fun hH => ?_)
    clear hK K k1
    try simp only [Act.put, gA, gB, gC, gD, gE, gG]
    refine wpAnyH_ready (rs := [8]) (by kernel_rfl) (by simp) (AllReadyH.cons (o := _) rfl (fun K hK => ?_) AllReadyH.nil)
    go_simp
    refine (k2 _).mono ?_
    rintro e v2 ⟨rfl, g⟩
    replace g : Below v1.heap.size v1 v2 := ⟨g.os, g.tape, g.output, g.size, g.block⟩; replace a0 := sO g a0; replace a1 := sO g a1; replace a2 := sO g a2; replace b0 := sO g b0; replace b1 := sO g b1; replace b2 := sO g b2; replace r0 := sO g r0; replace r1 := sO g r1; replace r2 := sO g r2; replace s0 := sO g s0; replace s1 := sO g s1; replace s2 := sO g s2; replace t0 := sO g t0; replace t1 := sO g t1; replace t2 := sO g t2; replace u0 := sO g u0; replace u1 := sO g u1; replace u2 := sO g u2; replace bW := sp_call bW g; have z_v2 := g.size; replace fr : ∀ j, v2.frozen? ⟨w.heap.size + 1 + 1, j, none⟩ = false := fun j => (g.frozen (p := ⟨w.heap.size + 1 + 1, j, none⟩) (by simp; omega)).trans (fr j); replace fs : ∀ j, v2.frozen? ⟨w.heap.size + 1 + 1 + 1, j, none⟩ = false := fun j => (g.frozen (p := ⟨w.heap.size + 1 + 1 + 1, j, none⟩) (by simp; omega)).trans (fs j); replace ft : ∀ j, v2.frozen? ⟨b10, j, none⟩ = false := fun j => (g.frozen (p := ⟨b10, j, none⟩) (by simp; omega)).trans (ft j); replace fu : ∀ j, v2.frozen? ⟨b11, j, none⟩ = false := fun j => (g.frozen (p := ⟨b11, j, none⟩) (by simp; omega)).trans (fu j); clear g
    go_wp2_with fail
    refine hK.out _ _ ⟨a0, a1, a2, b0, b1, b2⟩ (fun hH => ?_)
    clear hK K k2
    try simp only [Act.put, gA, gB, gC, gD, gE, gG]
    refine wpAnyH_ready (rs := [9]) (by kernel_rfl) (by simp) (AllReadyH.cons (o := _) rfl (fun K hK => ?_) AllReadyH.nil)
    go_simp
    refine hK.out _ _ ⟨sp_keep3 a0 (by omega) _ _ _, sp_keep3 a1 (by omega) _ _ _, sp_keep3 a2 (by omega) _ _ _, sp_keep3 b0 (by omega) _ _ _, sp_keep3 b1 (by omega) _ _ _, sp_keep3 b2 (by omega) _ _ _⟩ (fun hH => ?_)
    clear hK K
    try simp only [Act.put, gA, gB, gC, gD, gE, gG]
    refine wpAnyH_done (by kernel_rfl) ?_ _
    obtain ⟨W6, hW⟩ : ∃ W6, (((v2.setCell ⟨b10, 0, none⟩ (.bool pe)).setCell ⟨b10, 1, none⟩ (.int .u64 pl)).setCell ⟨b10, 2, none⟩ (.int .u64 ph)) = W6 := ⟨_, rfl⟩
    replace t0 : W6.cell? ⟨b10, 0, none⟩ = some (.bool pe) := by rw [← hW]; simp [go_sem, t0, t1, t2]
    replace t1 : W6.cell? ⟨b10, 1, none⟩ = some (.int .u64 pl) := by rw [← hW]; simp [go_sem, t1, t2]
    replace t2 : W6.cell? ⟨b10, 2, none⟩ = some (.int .u64 ph) := by rw [← hW]; simp [go_sem, t2]
    replace a0 := hW ▸ sp_keep3 (b := b10) a0 (by omega) (.bool pe) (.int .u64 pl) (.int .u64 ph)
    replace a1 := hW ▸ sp_keep3 (b := b10) a1 (by omega) (.bool pe) (.int .u64 pl) (.int .u64 ph)
    replace a2 := hW ▸ sp_keep3 (b := b10) a2 (by omega) (.bool pe) (.int .u64 pl) (.int .u64 ph)
    replace b0 := hW ▸ sp_keep3 (b := b10) b0 (by omega) (.bool pe) (.int .u64 pl) (.int .u64 ph)
    replace b1 := hW ▸ sp_keep3 (b := b10) b1 (by omega) (.bool pe) (.int .u64 pl) (.int .u64 ph)
    replace b2 := hW ▸ sp_keep3 (b := b10) b2 (by omega) (.bool pe) (.int .u64 pl) (.int .u64 ph)
    replace r0 := hW ▸ sp_keep3 (b := b10) r0 (by omega) (.bool pe) (.int .u64 pl) (.int .u64 ph)
    replace r1 := hW ▸ sp_keep3 (b := b10) r1 (by omega) (.bool pe) (.int .u64 pl) (.int .u64 ph)
    replace r2 := hW ▸ sp_keep3 (b := b10) r2 (by omega) (.bool pe) (.int .u64 pl) (.int .u64 ph)
    replace s0 := hW ▸ sp_keep3 (b := b10) s0 (by omega) (.bool pe) (.int .u64 pl) (.int .u64 ph)
    replace s1 := hW ▸ sp_keep3 (b := b10) s1 (by omega) (.bool pe) (.int .u64 pl) (.int .u64 ph)
    replace s2 := hW ▸ sp_keep3 (b := b10) s2 (by omega) (.bool pe) (.int .u64 pl) (.int .u64 ph)
    replace u0 := hW ▸ sp_keep3 (b := b10) u0 (by omega) (.bool pe) (.int .u64 pl) (.int .u64 ph)
    replace u1 := hW ▸ sp_keep3 (b := b10) u1 (by omega) (.bool pe) (.int .u64 pl) (.int .u64 ph)
    replace u2 := hW ▸ sp_keep3 (b := b10) u2 (by omega) (.bool pe) (.int .u64 pl) (.int .u64 ph)
    replace fr : ∀ j, W6.frozen? ⟨w.heap.size + 1 + 1, j, none⟩ = false := by intro j; rw [← hW]; simp [go_sem, fr]
    replace fs : ∀ j, W6.frozen? ⟨w.heap.size + 1 + 1 + 1, j, none⟩ = false := by intro j; rw [← hW]; simp [go_sem, fs]
    replace ft : ∀ j, W6.frozen? ⟨b10, j, none⟩ = false := by intro j; rw [← hW]; simp [go_sem, ft]
    replace fu : ∀ j, W6.frozen? ⟨b11, j, none⟩ = false := by intro j; rw [← hW]; simp [go_sem, fu]
    replace bW : Below w.heap.size w W6 := by rw [← hW]; (repeat (first | with_reducible exact bW | with_reducible refine rr_dr ?_ | with_reducible refine rr_st ?_ (by omega) _))
    have zs_W6 : W6.heap.size = v2.heap.size := by rw [← hW]; simp
    rw [hW]
    clear hW
    refine hKK.out _ _ ?_
    clear hKK
    go_upto_region 14 with fail
    refine wp_region_held_drew (S := (fun w' => w'.cell? ⟨w.heap.size, 0, none⟩ = some (.bool false) ∧ w'.cell? ⟨w.heap.size, 1, none⟩ = some (.int .u64 a) ∧ w'.cell? ⟨w.heap.size, 2, none⟩ = some (.int .u64 b) ∧ w'.cell? ⟨w.heap.size + 1, 0, none⟩ = some (.bool false) ∧ w'.cell? ⟨w.heap.size + 1, 1, none⟩ = some (.int .u64 c) ∧ w'.cell? ⟨w.heap.size + 1, 2, none⟩ = some (.int .u64 d))) (by kernel_rfl) ⟨a0, a1, a2, b0, b1, b2⟩ (fun hH => ?_)
    refine wpAnyH_take (i := 0) (oi := _) (v := .int .i64 f) rfl (by kernel_rfl) (by kernel_rfl) (by kernel_rfl) (fun _ _ _ h => h) (Or.inl ⟨by rfl, fun w' hSw => by obtain ⟨za0, za1, za2, zb0, zb1, zb2⟩ := hSw; go_simp⟩) hH ?_
    simp only [Act.put, gA, gB, gC, gD, gE, gG]
    refine wpAnyH_take (i := 1) (oi := _) (v := .agg #[.bool false, .int .u64 c, .int .u64 d]) rfl (by kernel_rfl) (by kernel_rfl) (by kernel_rfl) (fun _ _ _ h => h) (Or.inl ⟨by rfl, fun w' hSw => by obtain ⟨za0, za1, za2, zb0, zb1, zb2⟩ := hSw; go_simp⟩) hH ?_
    simp only [Act.put, gA, gB, gC, gD, gE, gG]
    refine wpAnyH_take (i := 2) (oi := _) (v := .int .i64 f) rfl (by kernel_rfl) (by kernel_rfl) (by kernel_rfl) (fun _ _ _ h => h) (Or.inl ⟨by rfl, fun w' hSw => by obtain ⟨za0, za1, za2, zb0, zb1, zb2⟩ := hSw; go_simp⟩) hH ?_
    simp only [Act.put, gA, gB, gC, gD, gE, gG]
    refine wpAnyH_take (i := 3) (oi := _) (v := .pointer (some ⟨w.heap.size, 1, none⟩)) rfl (by kernel_rfl) (by kernel_rfl) (by kernel_rfl) (fun _ _ _ h => h) (Or.inl ⟨by rfl, fun w' hSw => by obtain ⟨za0, za1, za2, zb0, zb1, zb2⟩ := hSw; go_simp⟩) hH ?_
    simp only [Act.put, gA, gB, gC, gD, gE, gG]
    refine wpAnyH_take (i := 4) (oi := _) (v := .int .u64 a) rfl (by kernel_rfl) (by kernel_rfl) (by kernel_rfl) (fun _ _ _ h => h) (Or.inl ⟨by rfl, fun w' hSw => by obtain ⟨za0, za1, za2, zb0, zb1, zb2⟩ := hSw; go_simp⟩) hH ?_
    simp only [Act.put, gA, gB, gC, gD, gE, gG]
    refine wpAnyH_take (i := 5) (oi := _) (v := .int .i64 13) rfl (by kernel_rfl) (by kernel_rfl) (by kernel_rfl) (fun _ _ _ h => h) (Or.inl ⟨by rfl, fun w' hSw => by obtain ⟨za0, za1, za2, zb0, zb1, zb2⟩ := hSw; go_simp⟩) hH ?_
    simp only [Act.put, gA, gB, gC, gD, gE, gG]
    refine wpAnyH_take (i := 6) (oi := _) (v := .bool false) rfl (by kernel_rfl) (by kernel_rfl) (by kernel_rfl) (fun _ _ _ h => h) (Or.inl ⟨by rfl, fun w' hSw => by obtain ⟨za0, za1, za2, zb0, zb1, zb2⟩ := hSw; go_simp⟩) hH ?_
    simp only [Act.put, gA, gB, gC, gD, gE, gG]
    refine wpAnyH_ready (rs := [7]) (by kernel_rfl) (by simp) (AllReadyH.cons (o := _) rfl (fun K hK => ?_) AllReadyH.nil)
    go_simp
    refine (k3 _).mono ?_
    rintro e v3 ⟨rfl, g⟩
    replace g : Below W6.heap.size W6 v3 := ⟨g.os, g.tape, g.output, g.size, g.block⟩; replace a0 := sO g a0; replace a1 := sO g a1; replace a2 := sO g a2; replace b0 := sO g b0; replace b1 := sO g b1; replace b2 := sO g b2; replace r0 := sO g r0; replace r1 := sO g r1; replace r2 := sO g r2; replace s0 := sO g s0; replace s1 := sO g s1; replace s2 := sO g s2; replace t0 := sO g t0; replace t1 := sO g t1; replace t2 := sO g t2; replace u0 := sO g u0; replace u1 := sO g u1; replace u2 := sO g u2; replace bW := sp_call bW g; have z_v3 := g.size; replace fr : ∀ j, v3.frozen? ⟨w.heap.size + 1 + 1, j, none⟩ = false := fun j => (g.frozen (p := ⟨w.heap.size + 1 + 1, j, none⟩) (by simp; omega)).trans (fr j); replace fs : ∀ j, v3.frozen? ⟨w.heap.size + 1 + 1 + 1, j, none⟩ = false := fun j => (g.frozen (p := ⟨w.heap.size + 1 + 1 + 1, j, none⟩) (by simp; omega)).trans (fs j); replace ft : ∀ j, v3.frozen? ⟨b10, j, none⟩ = false := fun j => (g.frozen (p := ⟨b10, j, none⟩) (by simp; omega)).trans (ft j); replace fu : ∀ j, v3.frozen? ⟨b11, j, none⟩ = false := fun j => (g.frozen (p := ⟨b11, j, none⟩) (by simp; omega)).trans (fu j); clear g
    go_wp2_with fail
    refine hK.out _ _ ⟨a0, a1, a2, b0, b1, b2⟩ (fun hH => ?_)
    clear hK K k3
    try simp only [Act.put, gA, gB, gC, gD, gE, gG]
    refine wpAnyH_ready (rs := [8]) (by kernel_rfl) (by simp) (AllReadyH.cons (o := _) rfl (fun K hK => ?_) AllReadyH.nil)
    go_simp
    refine (k4 _).mono ?_
    rintro e v4 ⟨rfl, g⟩
    replace g : Below v3.heap.size v3 v4 := ⟨g.os, g.tape, g.output, g.size, g.block⟩; replace a0 := sO g a0; replace a1 := sO g a1; replace a2 := sO g a2; replace b0 := sO g b0; replace b1 := sO g b1; replace b2 := sO g b2; replace r0 := sO g r0; replace r1 := sO g r1; replace r2 := sO g r2; replace s0 := sO g s0; replace s1 := sO g s1; replace s2 := sO g s2; replace t0 := sO g t0; replace t1 := sO g t1; replace t2 := sO g t2; replace u0 := sO g u0; replace u1 := sO g u1; replace u2 := sO g u2; replace bW := sp_call bW g; have z_v4 := g.size; replace fr : ∀ j, v4.frozen? ⟨w.heap.size + 1 + 1, j, none⟩ = false := fun j => (g.frozen (p := ⟨w.heap.size + 1 + 1, j, none⟩) (by simp; omega)).trans (fr j); replace fs : ∀ j, v4.frozen? ⟨w.heap.size + 1 + 1 + 1, j, none⟩ = false := fun j => (g.frozen (p := ⟨w.heap.size + 1 + 1 + 1, j, none⟩) (by simp; omega)).trans (fs j); replace ft : ∀ j, v4.frozen? ⟨b10, j, none⟩ = false := fun j => (g.frozen (p := ⟨b10, j, none⟩) (by simp; omega)).trans (ft j); replace fu : ∀ j, v4.frozen? ⟨b11, j, none⟩ = false := fun j => (g.frozen (p := ⟨b11, j, none⟩) (by simp; omega)).trans (fu j); clear g
    go_wp2_with fail
    refine hK.out _ _ ⟨a0, a1, a2, b0, b1, b2⟩ (fun hH => ?_)
    clear hK K k4
    try simp only [Act.put, gA, gB, gC, gD, gE, gG]
    refine wpAnyH_ready (rs := [9]) (by kernel_rfl) (by simp) (AllReadyH.cons (o := _) rfl (fun K hK => ?_) AllReadyH.nil)
    go_simp
    refine hK.out _ _ ⟨sp_keep3 a0 (by omega) _ _ _, sp_keep3 a1 (by omega) _ _ _, sp_keep3 a2 (by omega) _ _ _, sp_keep3 b0 (by omega) _ _ _, sp_keep3 b1 (by omega) _ _ _, sp_keep3 b2 (by omega) _ _ _⟩ (fun hH => ?_)
    clear hK K
    try simp only [Act.put, gA, gB, gC, gD, gE, gG]
    refine wpAnyH_done (by kernel_rfl) ?_ _
    obtain ⟨W7, hW⟩ : ∃ W7, (((v4.setCell ⟨b11, 0, none⟩ (.bool qe)).setCell ⟨b11, 1, none⟩ (.int .u64 ql)).setCell ⟨b11, 2, none⟩ (.int .u64 qh)) = W7 := ⟨_, rfl⟩
    replace u0 : W7.cell? ⟨b11, 0, none⟩ = some (.bool qe) := by rw [← hW]; simp [go_sem, u0, u1, u2]
    replace u1 : W7.cell? ⟨b11, 1, none⟩ = some (.int .u64 ql) := by rw [← hW]; simp [go_sem, u1, u2]
    replace u2 : W7.cell? ⟨b11, 2, none⟩ = some (.int .u64 qh) := by rw [← hW]; simp [go_sem, u2]
    replace a0 := hW ▸ sp_keep3 (b := b11) a0 (by omega) (.bool qe) (.int .u64 ql) (.int .u64 qh)
    replace a1 := hW ▸ sp_keep3 (b := b11) a1 (by omega) (.bool qe) (.int .u64 ql) (.int .u64 qh)
    replace a2 := hW ▸ sp_keep3 (b := b11) a2 (by omega) (.bool qe) (.int .u64 ql) (.int .u64 qh)
    replace b0 := hW ▸ sp_keep3 (b := b11) b0 (by omega) (.bool qe) (.int .u64 ql) (.int .u64 qh)
    replace b1 := hW ▸ sp_keep3 (b := b11) b1 (by omega) (.bool qe) (.int .u64 ql) (.int .u64 qh)
    replace b2 := hW ▸ sp_keep3 (b := b11) b2 (by omega) (.bool qe) (.int .u64 ql) (.int .u64 qh)
    replace r0 := hW ▸ sp_keep3 (b := b11) r0 (by omega) (.bool qe) (.int .u64 ql) (.int .u64 qh)
    replace r1 := hW ▸ sp_keep3 (b := b11) r1 (by omega) (.bool qe) (.int .u64 ql) (.int .u64 qh)
    replace r2 := hW ▸ sp_keep3 (b := b11) r2 (by omega) (.bool qe) (.int .u64 ql) (.int .u64 qh)
    replace s0 := hW ▸ sp_keep3 (b := b11) s0 (by omega) (.bool qe) (.int .u64 ql) (.int .u64 qh)
    replace s1 := hW ▸ sp_keep3 (b := b11) s1 (by omega) (.bool qe) (.int .u64 ql) (.int .u64 qh)
    replace s2 := hW ▸ sp_keep3 (b := b11) s2 (by omega) (.bool qe) (.int .u64 ql) (.int .u64 qh)
    replace t0 := hW ▸ sp_keep3 (b := b11) t0 (by omega) (.bool qe) (.int .u64 ql) (.int .u64 qh)
    replace t1 := hW ▸ sp_keep3 (b := b11) t1 (by omega) (.bool qe) (.int .u64 ql) (.int .u64 qh)
    replace t2 := hW ▸ sp_keep3 (b := b11) t2 (by omega) (.bool qe) (.int .u64 ql) (.int .u64 qh)
    replace fr : ∀ j, W7.frozen? ⟨w.heap.size + 1 + 1, j, none⟩ = false := by intro j; rw [← hW]; simp [go_sem, fr]
    replace fs : ∀ j, W7.frozen? ⟨w.heap.size + 1 + 1 + 1, j, none⟩ = false := by intro j; rw [← hW]; simp [go_sem, fs]
    replace ft : ∀ j, W7.frozen? ⟨b10, j, none⟩ = false := by intro j; rw [← hW]; simp [go_sem, ft]
    replace fu : ∀ j, W7.frozen? ⟨b11, j, none⟩ = false := by intro j; rw [← hW]; simp [go_sem, fu]
    replace bW : Below w.heap.size w W7 := by rw [← hW]; (repeat (first | with_reducible exact bW | with_reducible refine rr_dr ?_ | with_reducible refine rr_st ?_ (by omega) _))
    have zs_W7 : W7.heap.size = v4.heap.size := by rw [← hW]; simp
    rw [hW]
    clear hW
    go_wp2_with fail
    go_meet
    exact ⟨_, rfl, rfl, rfl, r0, r1, r2, s0, s1, s2, t0, t1, t2, u0, u1, u2, fr, fs, by omega, bW⟩
   case rest =>
    try clear he hl hh
    clear a0 a1 a2 b0 b1 b2 r0 r1 r2 s0 s1 s2 t0 t1 t2 u0 u1 u2 fr fs ft fu bW z4 z5
    obtain ⟨X, rfl, rfl, rfl, r0, r1, r2, s0, s1, s2, t0, t1, t2, u0, u1, u2, fr, fs, zX, bW⟩ := hcut
    cases pe
    · cases qe
      · go_upto_region 24 with fail
        go_region
        all_goals go_wp2_with fail
        all_goals exact bodyPost_ret (v := .tuple #[.agg #[.bool false, .int .u64 pl, .int .u64 ph], .agg #[.bool false, .int .u64 ql, .int .u64 qh]]) (by simp [results, Tryz.results39, go_sem, r0, r1, r2, s0, s1, s2]) rfl ⟨by simp, by (repeat (first | with_reducible exact bW | with_reducible refine rr_dr ?_ | with_reducible refine rr_st ?_ (by omega) _))⟩
      · go_wp2_with (first
          | (go_at_call 80; refine (hn _).mono ?_; rintro e vn ⟨rfl, g⟩; replace r0 := sO g r0; replace r1 := sO g r1; replace r2 := sO g r2; replace s0 := sO g s0; replace s1 := sO g s1; replace s2 := sO g s2; replace bW := sp_call bW g; have z_vn := g.size; replace fr : ∀ j, vn.frozen? ⟨w.heap.size + 1 + 1, j, none⟩ = false := fun j => (g.frozen (p := ⟨w.heap.size + 1 + 1, j, none⟩) (by simp; omega)).trans (fr j); replace fs : ∀ j, vn.frozen? ⟨w.heap.size + 1 + 1 + 1, j, none⟩ = false := fun j => (g.frozen (p := ⟨w.heap.size + 1 + 1 + 1, j, none⟩) (by simp; omega)).trans (fs j); clear g; clear hn)
          | (go_at_call 80; refine (hn2 _).mono ?_; rintro e vn2 ⟨rfl, g⟩; replace r0 := sO g r0; replace r1 := sO g r1; replace r2 := sO g r2; replace s0 := sO g s0; replace s1 := sO g s1; replace s2 := sO g s2; replace bW := sp_call bW g; have z_vn2 := g.size; replace fr : ∀ j, vn2.frozen? ⟨w.heap.size + 1 + 1, j, none⟩ = false := fun j => (g.frozen (p := ⟨w.heap.size + 1 + 1, j, none⟩) (by simp; omega)).trans (fr j); replace fs : ∀ j, vn2.frozen? ⟨w.heap.size + 1 + 1 + 1, j, none⟩ = false := fun j => (g.frozen (p := ⟨w.heap.size + 1 + 1 + 1, j, none⟩) (by simp; omega)).trans (fs j); clear g; clear hn2)
          | fail)
        exact bodyPost_ret (v := .tuple #[.agg #[.bool true, .int .u64 0, .int .u64 0], .agg #[.bool true, .int .u64 0, .int .u64 0]]) (by simp [results, Tryz.results39, go_sem, r0, r1, r2, s0, s1, s2]) rfl ⟨by simp, by (repeat (first | with_reducible exact bW | with_reducible refine rr_dr ?_ | with_reducible refine rr_st ?_ (by omega) _))⟩
    · go_wp2_with (first
        | (go_at_call 80; refine (hn _).mono ?_; rintro e vn ⟨rfl, g⟩; replace r0 := sO g r0; replace r1 := sO g r1; replace r2 := sO g r2; replace s0 := sO g s0; replace s1 := sO g s1; replace s2 := sO g s2; replace bW := sp_call bW g; have z_vn := g.size; replace fr : ∀ j, vn.frozen? ⟨w.heap.size + 1 + 1, j, none⟩ = false := fun j => (g.frozen (p := ⟨w.heap.size + 1 + 1, j, none⟩) (by simp; omega)).trans (fr j); replace fs : ∀ j, vn.frozen? ⟨w.heap.size + 1 + 1 + 1, j, none⟩ = false := fun j => (g.frozen (p := ⟨w.heap.size + 1 + 1 + 1, j, none⟩) (by simp; omega)).trans (fs j); clear g; clear hn)
        | (go_at_call 80; refine (hn2 _).mono ?_; rintro e vn2 ⟨rfl, g⟩; replace r0 := sO g r0; replace r1 := sO g r1; replace r2 := sO g r2; replace s0 := sO g s0; replace s1 := sO g s1; replace s2 := sO g s2; replace bW := sp_call bW g; have z_vn2 := g.size; replace fr : ∀ j, vn2.frozen? ⟨w.heap.size + 1 + 1, j, none⟩ = false := fun j => (g.frozen (p := ⟨w.heap.size + 1 + 1, j, none⟩) (by simp; omega)).trans (fr j); replace fs : ∀ j, vn2.frozen? ⟨w.heap.size + 1 + 1 + 1, j, none⟩ = false := fun j => (g.frozen (p := ⟨w.heap.size + 1 + 1 + 1, j, none⟩) (by simp; omega)).trans (fs j); clear g; clear hn2)
        | fail)
      exact bodyPost_ret (v := .tuple #[.agg #[.bool true, .int .u64 0, .int .u64 0], .agg #[.bool true, .int .u64 0, .int .u64 0]]) (by simp [results, Tryz.results39, go_sem, r0, r1, r2, s0, s1, s2]) rfl ⟨by simp, by (repeat (first | with_reducible exact bW | with_reducible refine rr_dr ?_ | with_reducible refine rr_st ?_ (by omega) _))⟩
set_option maxRecDepth 100000 in
set_option maxHeartbeats 6400000 in
theorem rr_gt (f : Int) (a b c d : Int) (pe qe : Bool) (pl ph ql qh : Int) (xe ye : Bool) (xl xh yl yh : Int) (k1 : ∀ V, Calls Tryz.prog 100 #[.int .i64 f, .int .u64 c, .bool true] V fun e w' => e = .returned (.agg #[.bool xe, .int .u64 xl, .int .u64 xh]) ∧ Below V.heap.size V w') (k2 : ∀ V, Calls Tryz.prog 27 #[.int .i64 f, .agg #[.bool false, .int .u64 a, .int .u64 b], .agg #[.bool xe, .int .u64 xl, .int .u64 xh]] V fun e w' => e = .returned (.agg #[.bool pe, .int .u64 pl, .int .u64 ph]) ∧ Below V.heap.size V w') (k3 : ∀ V, Calls Tryz.prog 99 #[.int .i64 f, .int .u64 b, .bool true] V fun e w' => e = .returned (.agg #[.bool ye, .int .u64 yl, .int .u64 yh]) ∧ Below V.heap.size V w') (k4 : ∀ V, Calls Tryz.prog 27 #[.int .i64 f, .agg #[.bool false, .int .u64 c, .int .u64 d], .agg #[.bool ye, .int .u64 yl, .int .u64 yh]] V fun e w' => e = .returned (.agg #[.bool qe, .int .u64 ql, .int .u64 qh]) ∧ Below V.heap.size V w') (w : World) :
    Calls Tryz.prog 39 #[.int .i64 f, .int .i64 14, .agg #[.bool false, .int .u64 a, .int .u64 b], .agg #[.bool false, .int .u64 c, .int .u64 d]] w fun e w' => e = .returned (.tuple #[.agg #[.bool (bothP (pe, pl, ph) (qe, ql, qh)).1.1, .int .u64 (bothP (pe, pl, ph) (qe, ql, qh)).1.2.1, .int .u64 (bothP (pe, pl, ph) (qe, ql, qh)).1.2.2], .agg #[.bool (bothP (pe, pl, ph) (qe, ql, qh)).2.1, .int .u64 (bothP (pe, pl, ph) (qe, ql, qh)).2.2.1, .int .u64 (bothP (pe, pl, ph) (qe, ql, qh)).2.2.2]]) ∧ Below w.heap.size w w' := by
  have hn : ∀ V, Calls Tryz.prog 80 #[] V fun e w' => e = .returned (.agg #[.bool true, .int .u64 0, .int .u64 0]) ∧ Below V.heap.size V w' := fun V => (rnoneF V).mono fun e w' h => ⟨h.1, by rw [h.2]; exact sp_new (Below.refl _ _) _⟩
  have hn2 := hn
  unfold bothP
  dsimp only
  go_enter Tryz.func39, Tryz.ntmps39
  go_upto_region 5 with fail
  go_cut [10, 11] from 28 to 29 (fun s u X => ∃ (W : World) (b10 b11 : Nat), W = X ∧ s = .pointer (some ⟨b10, 0, none⟩) ∧ u = .pointer (some ⟨b11, 0, none⟩) ∧ w.heap.size + 4 ≤ b10 ∧ w.heap.size + 4 ≤ b11 ∧ b10 ≠ b11 ∧ b10 < X.heap.size ∧ b11 < X.heap.size ∧ X.cell? ⟨w.heap.size, 0, none⟩ = some (.bool false) ∧ X.cell? ⟨w.heap.size, 1, none⟩ = some (.int .u64 a) ∧ X.cell? ⟨w.heap.size, 2, none⟩ = some (.int .u64 b) ∧ X.cell? ⟨w.heap.size + 1, 0, none⟩ = some (.bool false) ∧ X.cell? ⟨w.heap.size + 1, 1, none⟩ = some (.int .u64 c) ∧ X.cell? ⟨w.heap.size + 1, 2, none⟩ = some (.int .u64 d) ∧ X.cell? ⟨w.heap.size + 1 + 1, 0, none⟩ = some (.bool false) ∧ X.cell? ⟨w.heap.size + 1 + 1, 1, none⟩ = some (.int .u64 0) ∧ X.cell? ⟨w.heap.size + 1 + 1, 2, none⟩ = some (.int .u64 0) ∧ X.cell? ⟨w.heap.size + 1 + 1 + 1, 0, none⟩ = some (.bool false) ∧ X.cell? ⟨w.heap.size + 1 + 1 + 1, 1, none⟩ = some (.int .u64 0) ∧ X.cell? ⟨w.heap.size + 1 + 1 + 1, 2, none⟩ = some (.int .u64 0) ∧ X.cell? ⟨b10, 0, none⟩ = some (.bool false) ∧ X.cell? ⟨b10, 1, none⟩ = some (.int .u64 a) ∧ X.cell? ⟨b10, 2, none⟩ = some (.int .u64 b) ∧ X.cell? ⟨b11, 0, none⟩ = some (.bool false) ∧ X.cell? ⟨b11, 1, none⟩ = some (.int .u64 c) ∧ X.cell? ⟨b11, 2, none⟩ = some (.int .u64 d) ∧ (∀ j, X.frozen? ⟨w.heap.size + 1 + 1, j, none⟩ = false) ∧ (∀ j, X.frozen? ⟨w.heap.size + 1 + 1 + 1, j, none⟩ = false) ∧ (∀ j, X.frozen? ⟨b10, j, none⟩ = false) ∧ (∀ j, X.frozen? ⟨b11, j, none⟩ = false) ∧ Below w.heap.size w X)
  case first =>
   go_region
   all_goals go_wp2_with fail
   all_goals go_meet
   all_goals exact ⟨_, _, _, rfl, rfl, rfl, by simp, by simp, by simp, by simp, by simp, by simp [go_sem], by simp [go_sem], by simp [go_sem], by simp [go_sem], by simp [go_sem], by simp [go_sem], by simp [go_sem], by simp [go_sem], by simp [go_sem], by simp [go_sem], by simp [go_sem], by simp [go_sem], by simp [go_sem], by simp [go_sem], by simp [go_sem], by simp [go_sem], by simp [go_sem], by simp [go_sem], by intro j; simp [go_sem], by intro j; simp [go_sem], by intro j; simp [go_sem], by intro j; simp [go_sem], by (repeat (first | exact Below.refl _ _ | with_reducible refine sp_new ?_ _ | with_reducible refine rr_dr ?_ | with_reducible refine rr_st ?_ (by simp; try omega) _))⟩
  case rest =>
   obtain ⟨W, b10, b11, rfl, rfl, rfl, z1, z2, z3, z4, z5, a0, a1, a2, b0, b1, b2, r0, r1, r2, s0, s1, s2, t0, t1, t2, u0, u1, u2, fr, fs, ft, fu, bW⟩ := hcut
   rename_i K1 hK1
   refine hK1 _ _ ?_
   clear hK1
   go_step
   go_cut [10, 11] from 30 to 99 (fun s u X => ∃ W2 : World, W2 = X ∧ s = .pointer (some ⟨b10, 0, none⟩) ∧ u = .pointer (some ⟨b11, 0, none⟩) ∧ X.cell? ⟨w.heap.size + 1 + 1, 0, none⟩ = some (.bool false) ∧ X.cell? ⟨w.heap.size + 1 + 1, 1, none⟩ = some (.int .u64 0) ∧ X.cell? ⟨w.heap.size + 1 + 1, 2, none⟩ = some (.int .u64 0) ∧ X.cell? ⟨w.heap.size + 1 + 1 + 1, 0, none⟩ = some (.bool false) ∧ X.cell? ⟨w.heap.size + 1 + 1 + 1, 1, none⟩ = some (.int .u64 0) ∧ X.cell? ⟨w.heap.size + 1 + 1 + 1, 2, none⟩ = some (.int .u64 0) ∧ X.cell? ⟨b10, 0, none⟩ = some (.bool pe) ∧ X.cell? ⟨b10, 1, none⟩ = some (.int .u64 pl) ∧ X.cell? ⟨b10, 2, none⟩ = some (.int .u64 ph) ∧ X.cell? ⟨b11, 0, none⟩ = some (.bool qe) ∧ X.cell? ⟨b11, 1, none⟩ = some (.int .u64 ql) ∧ X.cell? ⟨b11, 2, none⟩ = some (.int .u64 qh) ∧ (∀ j, X.frozen? ⟨w.heap.size + 1 + 1, j, none⟩ = false) ∧ (∀ j, X.frozen? ⟨w.heap.size + 1 + 1 + 1, j, none⟩ = false) ∧ w.heap.size + 4 ≤ X.heap.size ∧ Below w.heap.size w X)
   case first =>
    go_upto_region 17 with fail
    rename_i KK hKK
    replace hKK : Hid _ := hKK
    refine wp_region_held_drew (S := (fun w' => w'.cell? ⟨w.heap.size, 0, none⟩ = some (.bool false) ∧ w'.cell? ⟨w.heap.size, 1, none⟩ = some (.int .u64 a) ∧ w'.cell? ⟨w.heap.size, 2, none⟩ = some (.int .u64 b) ∧ w'.cell? ⟨w.heap.size + 1, 0, none⟩ = some (.bool false) ∧ w'.cell? ⟨w.heap.size + 1, 1, none⟩ = some (.int .u64 c) ∧ w'.cell? ⟨w.heap.size + 1, 2, none⟩ = some (.int .u64 d))) (by kernel_rfl) ⟨a0, a1, a2, b0, b1, b2⟩ (fun hH => ?_)
    refine wpAnyH_take (i := 0) (oi := _) (v := .int .i64 f) rfl (by kernel_rfl) (by kernel_rfl) (by kernel_rfl) (fun _ _ _ h => h) (Or.inl ⟨by rfl, fun w' hSw => by obtain ⟨za0, za1, za2, zb0, zb1, zb2⟩ := hSw; go_simp⟩) hH ?_
    simp only [Act.put, gA, gB, gC, gD, gE, gG]
    refine wpAnyH_take (i := 1) (oi := _) (v := .agg #[.bool false, .int .u64 a, .int .u64 b]) rfl (by kernel_rfl) (by kernel_rfl) (by kernel_rfl) (fun _ _ _ h => h) (Or.inl ⟨by rfl, fun w' hSw => by obtain ⟨za0, za1, za2, zb0, zb1, zb2⟩ := hSw; go_simp⟩) hH ?_
    simp only [Act.put, gA, gB, gC, gD, gE, gG]
    refine wpAnyH_take (i := 2) (oi := _) (v := .int .i64 f) rfl (by kernel_rfl) (by kernel_rfl) (by kernel_rfl) (fun _ _ _ h => h) (Or.inl ⟨by rfl, fun w' hSw => by obtain ⟨za0, za1, za2, zb0, zb1, zb2⟩ := hSw; go_simp⟩) hH ?_
    simp only [Act.put, gA, gB, gC, gD, gE, gG]
    refine wpAnyH_take (i := 3) (oi := _) (v := .pointer (some ⟨w.heap.size + 1, 1, none⟩)) rfl (by kernel_rfl) (by kernel_rfl) (by kernel_rfl) (fun _ _ _ h => h) (Or.inl ⟨by rfl, fun w' hSw => by obtain ⟨za0, za1, za2, zb0, zb1, zb2⟩ := hSw; go_simp⟩) hH ?_
    simp only [Act.put, gA, gB, gC, gD, gE, gG]
    refine wpAnyH_take (i := 4) (oi := _) (v := .int .u64 c) rfl (by kernel_rfl) (by kernel_rfl) (by kernel_rfl) (fun _ _ _ h => h) (Or.inl ⟨by rfl, fun w' hSw => by obtain ⟨za0, za1, za2, zb0, zb1, zb2⟩ := hSw; go_simp⟩) hH ?_
    simp only [Act.put, gA, gB, gC, gD, gE, gG]
    refine wpAnyH_take (i := 5) (oi := _) (v := .int .i64 14) rfl (by kernel_rfl) (by kernel_rfl) (by kernel_rfl) (fun _ _ _ h => h) (Or.inl ⟨by rfl, fun w' hSw => by obtain ⟨za0, za1, za2, zb0, zb1, zb2⟩ := hSw; go_simp⟩) hH ?_
    simp only [Act.put, gA, gB, gC, gD, gE, gG]
    refine wpAnyH_take (i := 6) (oi := _) (v := .bool true) rfl (by kernel_rfl) (by kernel_rfl) (by kernel_rfl) (fun _ _ _ h => h) (Or.inl ⟨by rfl, fun w' hSw => by obtain ⟨za0, za1, za2, zb0, zb1, zb2⟩ := hSw; go_simp⟩) hH ?_
    simp only [Act.put, gA, gB, gC, gD, gE, gG]
    refine wpAnyH_ready (rs := [7]) (by kernel_rfl) (by simp) (AllReadyH.cons (o := _) rfl (fun K hK => ?_) AllReadyH.nil)
    go_simp
    refine (k1 _).mono ?_
    rintro e v1 ⟨rfl, g⟩
    replace g : Below W.heap.size W v1 := ⟨g.os, g.tape, g.output, g.size, g.block⟩; replace a0 := sO g a0; replace a1 := sO g a1; replace a2 := sO g a2; replace b0 := sO g b0; replace b1 := sO g b1; replace b2 := sO g b2; replace r0 := sO g r0; replace r1 := sO g r1; replace r2 := sO g r2; replace s0 := sO g s0; replace s1 := sO g s1; replace s2 := sO g s2; replace t0 := sO g t0; replace t1 := sO g t1; replace t2 := sO g t2; replace u0 := sO g u0; replace u1 := sO g u1; replace u2 := sO g u2; replace bW := sp_call bW g; have z_v1 := g.size; replace fr : ∀ j, v1.frozen? ⟨w.heap.size + 1 + 1, j, none⟩ = false := fun j => (g.frozen (p := ⟨w.heap.size + 1 + 1, j, none⟩) (by simp; omega)).trans (fr j); replace fs : ∀ j, v1.frozen? ⟨w.heap.size + 1 + 1 + 1, j, none⟩ = false := fun j => (g.frozen (p := ⟨w.heap.size + 1 + 1 + 1, j, none⟩) (by simp; omega)).trans (fs j); replace ft : ∀ j, v1.frozen? ⟨b10, j, none⟩ = false := fun j => (g.frozen (p := ⟨b10, j, none⟩) (by simp; omega)).trans (ft j); replace fu : ∀ j, v1.frozen? ⟨b11, j, none⟩ = false := fun j => (g.frozen (p := ⟨b11, j, none⟩) (by simp; omega)).trans (fu j); clear g
    go_wp2_with fail
    refine hK.out _ _ ⟨a0, a1, a2, b0, b1, b2⟩ (fun hH => ?_)
    clear hK K k1
    try simp only [Act.put, gA, gB, gC, gD, gE, gG]
    refine wpAnyH_ready (rs := [8]) (by kernel_rfl) (by simp) (AllReadyH.cons (o := _) rfl (fun K hK => ?_) AllReadyH.nil)
    go_simp
    refine (k2 _).mono ?_
    rintro e v2 ⟨rfl, g⟩
    replace g : Below v1.heap.size v1 v2 := ⟨g.os, g.tape, g.output, g.size, g.block⟩; replace a0 := sO g a0; replace a1 := sO g a1; replace a2 := sO g a2; replace b0 := sO g b0; replace b1 := sO g b1; replace b2 := sO g b2; replace r0 := sO g r0; replace r1 := sO g r1; replace r2 := sO g r2; replace s0 := sO g s0; replace s1 := sO g s1; replace s2 := sO g s2; replace t0 := sO g t0; replace t1 := sO g t1; replace t2 := sO g t2; replace u0 := sO g u0; replace u1 := sO g u1; replace u2 := sO g u2; replace bW := sp_call bW g; have z_v2 := g.size; replace fr : ∀ j, v2.frozen? ⟨w.heap.size + 1 + 1, j, none⟩ = false := fun j => (g.frozen (p := ⟨w.heap.size + 1 + 1, j, none⟩) (by simp; omega)).trans (fr j); replace fs : ∀ j, v2.frozen? ⟨w.heap.size + 1 + 1 + 1, j, none⟩ = false := fun j => (g.frozen (p := ⟨w.heap.size + 1 + 1 + 1, j, none⟩) (by simp; omega)).trans (fs j); replace ft : ∀ j, v2.frozen? ⟨b10, j, none⟩ = false := fun j => (g.frozen (p := ⟨b10, j, none⟩) (by simp; omega)).trans (ft j); replace fu : ∀ j, v2.frozen? ⟨b11, j, none⟩ = false := fun j => (g.frozen (p := ⟨b11, j, none⟩) (by simp; omega)).trans (fu j); clear g
    go_wp2_with fail
    refine hK.out _ _ ⟨a0, a1, a2, b0, b1, b2⟩ (fun hH => ?_)
    clear hK K k2
    try simp only [Act.put, gA, gB, gC, gD, gE, gG]
    refine wpAnyH_ready (rs := [9]) (by kernel_rfl) (by simp) (AllReadyH.cons (o := _) rfl (fun K hK => ?_) AllReadyH.nil)
    go_simp
    refine hK.out _ _ ⟨sp_keep3 a0 (by omega) _ _ _, sp_keep3 a1 (by omega) _ _ _, sp_keep3 a2 (by omega) _ _ _, sp_keep3 b0 (by omega) _ _ _, sp_keep3 b1 (by omega) _ _ _, sp_keep3 b2 (by omega) _ _ _⟩ (fun hH => ?_)
    clear hK K
    try simp only [Act.put, gA, gB, gC, gD, gE, gG]
    refine wpAnyH_done (by kernel_rfl) ?_ _
    obtain ⟨W6, hW⟩ : ∃ W6, (((v2.setCell ⟨b10, 0, none⟩ (.bool pe)).setCell ⟨b10, 1, none⟩ (.int .u64 pl)).setCell ⟨b10, 2, none⟩ (.int .u64 ph)) = W6 := ⟨_, rfl⟩
    replace t0 : W6.cell? ⟨b10, 0, none⟩ = some (.bool pe) := by rw [← hW]; simp [go_sem, t0, t1, t2]
    replace t1 : W6.cell? ⟨b10, 1, none⟩ = some (.int .u64 pl) := by rw [← hW]; simp [go_sem, t1, t2]
    replace t2 : W6.cell? ⟨b10, 2, none⟩ = some (.int .u64 ph) := by rw [← hW]; simp [go_sem, t2]
    replace a0 := hW ▸ sp_keep3 (b := b10) a0 (by omega) (.bool pe) (.int .u64 pl) (.int .u64 ph)
    replace a1 := hW ▸ sp_keep3 (b := b10) a1 (by omega) (.bool pe) (.int .u64 pl) (.int .u64 ph)
    replace a2 := hW ▸ sp_keep3 (b := b10) a2 (by omega) (.bool pe) (.int .u64 pl) (.int .u64 ph)
    replace b0 := hW ▸ sp_keep3 (b := b10) b0 (by omega) (.bool pe) (.int .u64 pl) (.int .u64 ph)
    replace b1 := hW ▸ sp_keep3 (b := b10) b1 (by omega) (.bool pe) (.int .u64 pl) (.int .u64 ph)
    replace b2 := hW ▸ sp_keep3 (b := b10) b2 (by omega) (.bool pe) (.int .u64 pl) (.int .u64 ph)
    replace r0 := hW ▸ sp_keep3 (b := b10) r0 (by omega) (.bool pe) (.int .u64 pl) (.int .u64 ph)
    replace r1 := hW ▸ sp_keep3 (b := b10) r1 (by omega) (.bool pe) (.int .u64 pl) (.int .u64 ph)
    replace r2 := hW ▸ sp_keep3 (b := b10) r2 (by omega) (.bool pe) (.int .u64 pl) (.int .u64 ph)
    replace s0 := hW ▸ sp_keep3 (b := b10) s0 (by omega) (.bool pe) (.int .u64 pl) (.int .u64 ph)
    replace s1 := hW ▸ sp_keep3 (b := b10) s1 (by omega) (.bool pe) (.int .u64 pl) (.int .u64 ph)
    replace s2 := hW ▸ sp_keep3 (b := b10) s2 (by omega) (.bool pe) (.int .u64 pl) (.int .u64 ph)
    replace u0 := hW ▸ sp_keep3 (b := b10) u0 (by omega) (.bool pe) (.int .u64 pl) (.int .u64 ph)
    replace u1 := hW ▸ sp_keep3 (b := b10) u1 (by omega) (.bool pe) (.int .u64 pl) (.int .u64 ph)
    replace u2 := hW ▸ sp_keep3 (b := b10) u2 (by omega) (.bool pe) (.int .u64 pl) (.int .u64 ph)
    replace fr : ∀ j, W6.frozen? ⟨w.heap.size + 1 + 1, j, none⟩ = false := by intro j; rw [← hW]; simp [go_sem, fr]
    replace fs : ∀ j, W6.frozen? ⟨w.heap.size + 1 + 1 + 1, j, none⟩ = false := by intro j; rw [← hW]; simp [go_sem, fs]
    replace ft : ∀ j, W6.frozen? ⟨b10, j, none⟩ = false := by intro j; rw [← hW]; simp [go_sem, ft]
    replace fu : ∀ j, W6.frozen? ⟨b11, j, none⟩ = false := by intro j; rw [← hW]; simp [go_sem, fu]
    replace bW : Below w.heap.size w W6 := by rw [← hW]; (repeat (first | with_reducible exact bW | with_reducible refine rr_dr ?_ | with_reducible refine rr_st ?_ (by omega) _))
    have zs_W6 : W6.heap.size = v2.heap.size := by rw [← hW]; simp
    rw [hW]
    clear hW
    refine hKK.out _ _ ?_
    clear hKK
    go_upto_region 18 with fail
    refine wp_region_held_drew (S := (fun w' => w'.cell? ⟨w.heap.size, 0, none⟩ = some (.bool false) ∧ w'.cell? ⟨w.heap.size, 1, none⟩ = some (.int .u64 a) ∧ w'.cell? ⟨w.heap.size, 2, none⟩ = some (.int .u64 b) ∧ w'.cell? ⟨w.heap.size + 1, 0, none⟩ = some (.bool false) ∧ w'.cell? ⟨w.heap.size + 1, 1, none⟩ = some (.int .u64 c) ∧ w'.cell? ⟨w.heap.size + 1, 2, none⟩ = some (.int .u64 d))) (by kernel_rfl) ⟨a0, a1, a2, b0, b1, b2⟩ (fun hH => ?_)
    refine wpAnyH_take (i := 0) (oi := _) (v := .int .i64 f) rfl (by kernel_rfl) (by kernel_rfl) (by kernel_rfl) (fun _ _ _ h => h) (Or.inl ⟨by rfl, fun w' hSw => by obtain ⟨za0, za1, za2, zb0, zb1, zb2⟩ := hSw; go_simp⟩) hH ?_
    simp only [Act.put, gA, gB, gC, gD, gE, gG]
    refine wpAnyH_take (i := 1) (oi := _) (v := .agg #[.bool false, .int .u64 c, .int .u64 d]) rfl (by kernel_rfl) (by kernel_rfl) (by kernel_rfl) (fun _ _ _ h => h) (Or.inl ⟨by rfl, fun w' hSw => by obtain ⟨za0, za1, za2, zb0, zb1, zb2⟩ := hSw; go_simp⟩) hH ?_
    simp only [Act.put, gA, gB, gC, gD, gE, gG]
    refine wpAnyH_take (i := 2) (oi := _) (v := .int .i64 f) rfl (by kernel_rfl) (by kernel_rfl) (by kernel_rfl) (fun _ _ _ h => h) (Or.inl ⟨by rfl, fun w' hSw => by obtain ⟨za0, za1, za2, zb0, zb1, zb2⟩ := hSw; go_simp⟩) hH ?_
    simp only [Act.put, gA, gB, gC, gD, gE, gG]
    refine wpAnyH_take (i := 3) (oi := _) (v := .pointer (some ⟨w.heap.size, 2, none⟩)) rfl (by kernel_rfl) (by kernel_rfl) (by kernel_rfl) (fun _ _ _ h => h) (Or.inl ⟨by rfl, fun w' hSw => by obtain ⟨za0, za1, za2, zb0, zb1, zb2⟩ := hSw; go_simp⟩) hH ?_
    simp only [Act.put, gA, gB, gC, gD, gE, gG]
    refine wpAnyH_take (i := 4) (oi := _) (v := .int .u64 b) rfl (by kernel_rfl) (by kernel_rfl) (by kernel_rfl) (fun _ _ _ h => h) (Or.inl ⟨by rfl, fun w' hSw => by obtain ⟨za0, za1, za2, zb0, zb1, zb2⟩ := hSw; go_simp⟩) hH ?_
    simp only [Act.put, gA, gB, gC, gD, gE, gG]
    refine wpAnyH_take (i := 5) (oi := _) (v := .int .i64 14) rfl (by kernel_rfl) (by kernel_rfl) (by kernel_rfl) (fun _ _ _ h => h) (Or.inl ⟨by rfl, fun w' hSw => by obtain ⟨za0, za1, za2, zb0, zb1, zb2⟩ := hSw; go_simp⟩) hH ?_
    simp only [Act.put, gA, gB, gC, gD, gE, gG]
    refine wpAnyH_take (i := 6) (oi := _) (v := .bool true) rfl (by kernel_rfl) (by kernel_rfl) (by kernel_rfl) (fun _ _ _ h => h) (Or.inl ⟨by rfl, fun w' hSw => by obtain ⟨za0, za1, za2, zb0, zb1, zb2⟩ := hSw; go_simp⟩) hH ?_
    simp only [Act.put, gA, gB, gC, gD, gE, gG]
    refine wpAnyH_ready (rs := [7]) (by kernel_rfl) (by simp) (AllReadyH.cons (o := _) rfl (fun K hK => ?_) AllReadyH.nil)
    go_simp
    refine (k3 _).mono ?_
    rintro e v3 ⟨rfl, g⟩
    replace g : Below W6.heap.size W6 v3 := ⟨g.os, g.tape, g.output, g.size, g.block⟩; replace a0 := sO g a0; replace a1 := sO g a1; replace a2 := sO g a2; replace b0 := sO g b0; replace b1 := sO g b1; replace b2 := sO g b2; replace r0 := sO g r0; replace r1 := sO g r1; replace r2 := sO g r2; replace s0 := sO g s0; replace s1 := sO g s1; replace s2 := sO g s2; replace t0 := sO g t0; replace t1 := sO g t1; replace t2 := sO g t2; replace u0 := sO g u0; replace u1 := sO g u1; replace u2 := sO g u2; replace bW := sp_call bW g; have z_v3 := g.size; replace fr : ∀ j, v3.frozen? ⟨w.heap.size + 1 + 1, j, none⟩ = false := fun j => (g.frozen (p := ⟨w.heap.size + 1 + 1, j, none⟩) (by simp; omega)).trans (fr j); replace fs : ∀ j, v3.frozen? ⟨w.heap.size + 1 + 1 + 1, j, none⟩ = false := fun j => (g.frozen (p := ⟨w.heap.size + 1 + 1 + 1, j, none⟩) (by simp; omega)).trans (fs j); replace ft : ∀ j, v3.frozen? ⟨b10, j, none⟩ = false := fun j => (g.frozen (p := ⟨b10, j, none⟩) (by simp; omega)).trans (ft j); replace fu : ∀ j, v3.frozen? ⟨b11, j, none⟩ = false := fun j => (g.frozen (p := ⟨b11, j, none⟩) (by simp; omega)).trans (fu j); clear g
    go_wp2_with fail
    refine hK.out _ _ ⟨a0, a1, a2, b0, b1, b2⟩ (fun hH => ?_)
    clear hK K k3
    try simp only [Act.put, gA, gB, gC, gD, gE, gG]
    refine wpAnyH_ready (rs := [8]) (by kernel_rfl) (by simp) (AllReadyH.cons (o := _) rfl (fun K hK => ?_) AllReadyH.nil)
    go_simp
    refine (k4 _).mono ?_
    rintro e v4 ⟨rfl, g⟩
    replace g : Below v3.heap.size v3 v4 := ⟨g.os, g.tape, g.output, g.size, g.block⟩; replace a0 := sO g a0; replace a1 := sO g a1; replace a2 := sO g a2; replace b0 := sO g b0; replace b1 := sO g b1; replace b2 := sO g b2; replace r0 := sO g r0; replace r1 := sO g r1; replace r2 := sO g r2; replace s0 := sO g s0; replace s1 := sO g s1; replace s2 := sO g s2; replace t0 := sO g t0; replace t1 := sO g t1; replace t2 := sO g t2; replace u0 := sO g u0; replace u1 := sO g u1; replace u2 := sO g u2; replace bW := sp_call bW g; have z_v4 := g.size; replace fr : ∀ j, v4.frozen? ⟨w.heap.size + 1 + 1, j, none⟩ = false := fun j => (g.frozen (p := ⟨w.heap.size + 1 + 1, j, none⟩) (by simp; omega)).trans (fr j); replace fs : ∀ j, v4.frozen? ⟨w.heap.size + 1 + 1 + 1, j, none⟩ = false := fun j => (g.frozen (p := ⟨w.heap.size + 1 + 1 + 1, j, none⟩) (by simp; omega)).trans (fs j); replace ft : ∀ j, v4.frozen? ⟨b10, j, none⟩ = false := fun j => (g.frozen (p := ⟨b10, j, none⟩) (by simp; omega)).trans (ft j); replace fu : ∀ j, v4.frozen? ⟨b11, j, none⟩ = false := fun j => (g.frozen (p := ⟨b11, j, none⟩) (by simp; omega)).trans (fu j); clear g
    go_wp2_with fail
    refine hK.out _ _ ⟨a0, a1, a2, b0, b1, b2⟩ (fun hH => ?_)
    clear hK K k4
    try simp only [Act.put, gA, gB, gC, gD, gE, gG]
    refine wpAnyH_ready (rs := [9]) (by kernel_rfl) (by simp) (AllReadyH.cons (o := _) rfl (fun K hK => ?_) AllReadyH.nil)
    go_simp
    refine hK.out _ _ ⟨sp_keep3 a0 (by omega) _ _ _, sp_keep3 a1 (by omega) _ _ _, sp_keep3 a2 (by omega) _ _ _, sp_keep3 b0 (by omega) _ _ _, sp_keep3 b1 (by omega) _ _ _, sp_keep3 b2 (by omega) _ _ _⟩ (fun hH => ?_)
    clear hK K
    try simp only [Act.put, gA, gB, gC, gD, gE, gG]
    refine wpAnyH_done (by kernel_rfl) ?_ _
    obtain ⟨W7, hW⟩ : ∃ W7, (((v4.setCell ⟨b11, 0, none⟩ (.bool qe)).setCell ⟨b11, 1, none⟩ (.int .u64 ql)).setCell ⟨b11, 2, none⟩ (.int .u64 qh)) = W7 := ⟨_, rfl⟩
    replace u0 : W7.cell? ⟨b11, 0, none⟩ = some (.bool qe) := by rw [← hW]; simp [go_sem, u0, u1, u2]
    replace u1 : W7.cell? ⟨b11, 1, none⟩ = some (.int .u64 ql) := by rw [← hW]; simp [go_sem, u1, u2]
    replace u2 : W7.cell? ⟨b11, 2, none⟩ = some (.int .u64 qh) := by rw [← hW]; simp [go_sem, u2]
    replace a0 := hW ▸ sp_keep3 (b := b11) a0 (by omega) (.bool qe) (.int .u64 ql) (.int .u64 qh)
    replace a1 := hW ▸ sp_keep3 (b := b11) a1 (by omega) (.bool qe) (.int .u64 ql) (.int .u64 qh)
    replace a2 := hW ▸ sp_keep3 (b := b11) a2 (by omega) (.bool qe) (.int .u64 ql) (.int .u64 qh)
    replace b0 := hW ▸ sp_keep3 (b := b11) b0 (by omega) (.bool qe) (.int .u64 ql) (.int .u64 qh)
    replace b1 := hW ▸ sp_keep3 (b := b11) b1 (by omega) (.bool qe) (.int .u64 ql) (.int .u64 qh)
    replace b2 := hW ▸ sp_keep3 (b := b11) b2 (by omega) (.bool qe) (.int .u64 ql) (.int .u64 qh)
    replace r0 := hW ▸ sp_keep3 (b := b11) r0 (by omega) (.bool qe) (.int .u64 ql) (.int .u64 qh)
    replace r1 := hW ▸ sp_keep3 (b := b11) r1 (by omega) (.bool qe) (.int .u64 ql) (.int .u64 qh)
    replace r2 := hW ▸ sp_keep3 (b := b11) r2 (by omega) (.bool qe) (.int .u64 ql) (.int .u64 qh)
    replace s0 := hW ▸ sp_keep3 (b := b11) s0 (by omega) (.bool qe) (.int .u64 ql) (.int .u64 qh)
    replace s1 := hW ▸ sp_keep3 (b := b11) s1 (by omega) (.bool qe) (.int .u64 ql) (.int .u64 qh)
    replace s2 := hW ▸ sp_keep3 (b := b11) s2 (by omega) (.bool qe) (.int .u64 ql) (.int .u64 qh)
    replace t0 := hW ▸ sp_keep3 (b := b11) t0 (by omega) (.bool qe) (.int .u64 ql) (.int .u64 qh)
    replace t1 := hW ▸ sp_keep3 (b := b11) t1 (by omega) (.bool qe) (.int .u64 ql) (.int .u64 qh)
    replace t2 := hW ▸ sp_keep3 (b := b11) t2 (by omega) (.bool qe) (.int .u64 ql) (.int .u64 qh)
    replace fr : ∀ j, W7.frozen? ⟨w.heap.size + 1 + 1, j, none⟩ = false := by intro j; rw [← hW]; simp [go_sem, fr]
    replace fs : ∀ j, W7.frozen? ⟨w.heap.size + 1 + 1 + 1, j, none⟩ = false := by intro j; rw [← hW]; simp [go_sem, fs]
    replace ft : ∀ j, W7.frozen? ⟨b10, j, none⟩ = false := by intro j; rw [← hW]; simp [go_sem, ft]
    replace fu : ∀ j, W7.frozen? ⟨b11, j, none⟩ = false := by intro j; rw [← hW]; simp [go_sem, fu]
    replace bW : Below w.heap.size w W7 := by rw [← hW]; (repeat (first | with_reducible exact bW | with_reducible refine rr_dr ?_ | with_reducible refine rr_st ?_ (by omega) _))
    have zs_W7 : W7.heap.size = v4.heap.size := by rw [← hW]; simp
    rw [hW]
    clear hW
    go_wp2_with fail
    go_meet
    exact ⟨_, rfl, rfl, rfl, r0, r1, r2, s0, s1, s2, t0, t1, t2, u0, u1, u2, fr, fs, by omega, bW⟩
   case rest =>
    try clear he hl hh
    clear a0 a1 a2 b0 b1 b2 r0 r1 r2 s0 s1 s2 t0 t1 t2 u0 u1 u2 fr fs ft fu bW z4 z5
    obtain ⟨X, rfl, rfl, rfl, r0, r1, r2, s0, s1, s2, t0, t1, t2, u0, u1, u2, fr, fs, zX, bW⟩ := hcut
    cases pe
    · cases qe
      · go_upto_region 24 with fail
        go_region
        all_goals go_wp2_with fail
        all_goals exact bodyPost_ret (v := .tuple #[.agg #[.bool false, .int .u64 pl, .int .u64 ph], .agg #[.bool false, .int .u64 ql, .int .u64 qh]]) (by simp [results, Tryz.results39, go_sem, r0, r1, r2, s0, s1, s2]) rfl ⟨by simp, by (repeat (first | with_reducible exact bW | with_reducible refine rr_dr ?_ | with_reducible refine rr_st ?_ (by omega) _))⟩
      · go_wp2_with (first
          | (go_at_call 80; refine (hn _).mono ?_; rintro e vn ⟨rfl, g⟩; replace r0 := sO g r0; replace r1 := sO g r1; replace r2 := sO g r2; replace s0 := sO g s0; replace s1 := sO g s1; replace s2 := sO g s2; replace bW := sp_call bW g; have z_vn := g.size; replace fr : ∀ j, vn.frozen? ⟨w.heap.size + 1 + 1, j, none⟩ = false := fun j => (g.frozen (p := ⟨w.heap.size + 1 + 1, j, none⟩) (by simp; omega)).trans (fr j); replace fs : ∀ j, vn.frozen? ⟨w.heap.size + 1 + 1 + 1, j, none⟩ = false := fun j => (g.frozen (p := ⟨w.heap.size + 1 + 1 + 1, j, none⟩) (by simp; omega)).trans (fs j); clear g; clear hn)
          | (go_at_call 80; refine (hn2 _).mono ?_; rintro e vn2 ⟨rfl, g⟩; replace r0 := sO g r0; replace r1 := sO g r1; replace r2 := sO g r2; replace s0 := sO g s0; replace s1 := sO g s1; replace s2 := sO g s2; replace bW := sp_call bW g; have z_vn2 := g.size; replace fr : ∀ j, vn2.frozen? ⟨w.heap.size + 1 + 1, j, none⟩ = false := fun j => (g.frozen (p := ⟨w.heap.size + 1 + 1, j, none⟩) (by simp; omega)).trans (fr j); replace fs : ∀ j, vn2.frozen? ⟨w.heap.size + 1 + 1 + 1, j, none⟩ = false := fun j => (g.frozen (p := ⟨w.heap.size + 1 + 1 + 1, j, none⟩) (by simp; omega)).trans (fs j); clear g; clear hn2)
          | fail)
        exact bodyPost_ret (v := .tuple #[.agg #[.bool true, .int .u64 0, .int .u64 0], .agg #[.bool true, .int .u64 0, .int .u64 0]]) (by simp [results, Tryz.results39, go_sem, r0, r1, r2, s0, s1, s2]) rfl ⟨by simp, by (repeat (first | with_reducible exact bW | with_reducible refine rr_dr ?_ | with_reducible refine rr_st ?_ (by omega) _))⟩
    · go_wp2_with (first
        | (go_at_call 80; refine (hn _).mono ?_; rintro e vn ⟨rfl, g⟩; replace r0 := sO g r0; replace r1 := sO g r1; replace r2 := sO g r2; replace s0 := sO g s0; replace s1 := sO g s1; replace s2 := sO g s2; replace bW := sp_call bW g; have z_vn := g.size; replace fr : ∀ j, vn.frozen? ⟨w.heap.size + 1 + 1, j, none⟩ = false := fun j => (g.frozen (p := ⟨w.heap.size + 1 + 1, j, none⟩) (by simp; omega)).trans (fr j); replace fs : ∀ j, vn.frozen? ⟨w.heap.size + 1 + 1 + 1, j, none⟩ = false := fun j => (g.frozen (p := ⟨w.heap.size + 1 + 1 + 1, j, none⟩) (by simp; omega)).trans (fs j); clear g; clear hn)
        | (go_at_call 80; refine (hn2 _).mono ?_; rintro e vn2 ⟨rfl, g⟩; replace r0 := sO g r0; replace r1 := sO g r1; replace r2 := sO g r2; replace s0 := sO g s0; replace s1 := sO g s1; replace s2 := sO g s2; replace bW := sp_call bW g; have z_vn2 := g.size; replace fr : ∀ j, vn2.frozen? ⟨w.heap.size + 1 + 1, j, none⟩ = false := fun j => (g.frozen (p := ⟨w.heap.size + 1 + 1, j, none⟩) (by simp; omega)).trans (fr j); replace fs : ∀ j, vn2.frozen? ⟨w.heap.size + 1 + 1 + 1, j, none⟩ = false := fun j => (g.frozen (p := ⟨w.heap.size + 1 + 1 + 1, j, none⟩) (by simp; omega)).trans (fs j); clear g; clear hn2)
        | fail)
      exact bodyPost_ret (v := .tuple #[.agg #[.bool true, .int .u64 0, .int .u64 0], .agg #[.bool true, .int .u64 0, .int .u64 0]]) (by simp [results, Tryz.results39, go_sem, r0, r1, r2, s0, s1, s2]) rfl ⟨by simp, by (repeat (first | with_reducible exact bW | with_reducible refine rr_dr ?_ | with_reducible refine rr_st ?_ (by omega) _))⟩
set_option maxRecDepth 100000 in
set_option maxHeartbeats 6400000 in
theorem rr_ge (f : Int) (a b c d : Int) (pe qe : Bool) (pl ph ql qh : Int) (xe ye : Bool) (xl xh yl yh : Int) (k1 : ∀ V, Calls Tryz.prog 100 #[.int .i64 f, .int .u64 c, .bool false] V fun e w' => e = .returned (.agg #[.bool xe, .int .u64 xl, .int .u64 xh]) ∧ Below V.heap.size V w') (k2 : ∀ V, Calls Tryz.prog 27 #[.int .i64 f, .agg #[.bool false, .int .u64 a, .int .u64 b], .agg #[.bool xe, .int .u64 xl, .int .u64 xh]] V fun e w' => e = .returned (.agg #[.bool pe, .int .u64 pl, .int .u64 ph]) ∧ Below V.heap.size V w') (k3 : ∀ V, Calls Tryz.prog 99 #[.int .i64 f, .int .u64 b, .bool false] V fun e w' => e = .returned (.agg #[.bool ye, .int .u64 yl, .int .u64 yh]) ∧ Below V.heap.size V w') (k4 : ∀ V, Calls Tryz.prog 27 #[.int .i64 f, .agg #[.bool false, .int .u64 c, .int .u64 d], .agg #[.bool ye, .int .u64 yl, .int .u64 yh]] V fun e w' => e = .returned (.agg #[.bool qe, .int .u64 ql, .int .u64 qh]) ∧ Below V.heap.size V w') (w : World) :
    Calls Tryz.prog 39 #[.int .i64 f, .int .i64 15, .agg #[.bool false, .int .u64 a, .int .u64 b], .agg #[.bool false, .int .u64 c, .int .u64 d]] w fun e w' => e = .returned (.tuple #[.agg #[.bool (bothP (pe, pl, ph) (qe, ql, qh)).1.1, .int .u64 (bothP (pe, pl, ph) (qe, ql, qh)).1.2.1, .int .u64 (bothP (pe, pl, ph) (qe, ql, qh)).1.2.2], .agg #[.bool (bothP (pe, pl, ph) (qe, ql, qh)).2.1, .int .u64 (bothP (pe, pl, ph) (qe, ql, qh)).2.2.1, .int .u64 (bothP (pe, pl, ph) (qe, ql, qh)).2.2.2]]) ∧ Below w.heap.size w w' := by
  have hn : ∀ V, Calls Tryz.prog 80 #[] V fun e w' => e = .returned (.agg #[.bool true, .int .u64 0, .int .u64 0]) ∧ Below V.heap.size V w' := fun V => (rnoneF V).mono fun e w' h => ⟨h.1, by rw [h.2]; exact sp_new (Below.refl _ _) _⟩
  have hn2 := hn
  unfold bothP
  dsimp only
  go_enter Tryz.func39, Tryz.ntmps39
  go_upto_region 5 with fail
  go_cut [10, 11] from 28 to 29 (fun s u X => ∃ (W : World) (b10 b11 : Nat), W = X ∧ s = .pointer (some ⟨b10, 0, none⟩) ∧ u = .pointer (some ⟨b11, 0, none⟩) ∧ w.heap.size + 4 ≤ b10 ∧ w.heap.size + 4 ≤ b11 ∧ b10 ≠ b11 ∧ b10 < X.heap.size ∧ b11 < X.heap.size ∧ X.cell? ⟨w.heap.size, 0, none⟩ = some (.bool false) ∧ X.cell? ⟨w.heap.size, 1, none⟩ = some (.int .u64 a) ∧ X.cell? ⟨w.heap.size, 2, none⟩ = some (.int .u64 b) ∧ X.cell? ⟨w.heap.size + 1, 0, none⟩ = some (.bool false) ∧ X.cell? ⟨w.heap.size + 1, 1, none⟩ = some (.int .u64 c) ∧ X.cell? ⟨w.heap.size + 1, 2, none⟩ = some (.int .u64 d) ∧ X.cell? ⟨w.heap.size + 1 + 1, 0, none⟩ = some (.bool false) ∧ X.cell? ⟨w.heap.size + 1 + 1, 1, none⟩ = some (.int .u64 0) ∧ X.cell? ⟨w.heap.size + 1 + 1, 2, none⟩ = some (.int .u64 0) ∧ X.cell? ⟨w.heap.size + 1 + 1 + 1, 0, none⟩ = some (.bool false) ∧ X.cell? ⟨w.heap.size + 1 + 1 + 1, 1, none⟩ = some (.int .u64 0) ∧ X.cell? ⟨w.heap.size + 1 + 1 + 1, 2, none⟩ = some (.int .u64 0) ∧ X.cell? ⟨b10, 0, none⟩ = some (.bool false) ∧ X.cell? ⟨b10, 1, none⟩ = some (.int .u64 a) ∧ X.cell? ⟨b10, 2, none⟩ = some (.int .u64 b) ∧ X.cell? ⟨b11, 0, none⟩ = some (.bool false) ∧ X.cell? ⟨b11, 1, none⟩ = some (.int .u64 c) ∧ X.cell? ⟨b11, 2, none⟩ = some (.int .u64 d) ∧ (∀ j, X.frozen? ⟨w.heap.size + 1 + 1, j, none⟩ = false) ∧ (∀ j, X.frozen? ⟨w.heap.size + 1 + 1 + 1, j, none⟩ = false) ∧ (∀ j, X.frozen? ⟨b10, j, none⟩ = false) ∧ (∀ j, X.frozen? ⟨b11, j, none⟩ = false) ∧ Below w.heap.size w X)
  case first =>
   go_region
   all_goals go_wp2_with fail
   all_goals go_meet
   all_goals exact ⟨_, _, _, rfl, rfl, rfl, by simp, by simp, by simp, by simp, by simp, by simp [go_sem], by simp [go_sem], by simp [go_sem], by simp [go_sem], by simp [go_sem], by simp [go_sem], by simp [go_sem], by simp [go_sem], by simp [go_sem], by simp [go_sem], by simp [go_sem], by simp [go_sem], by simp [go_sem], by simp [go_sem], by simp [go_sem], by simp [go_sem], by simp [go_sem], by simp [go_sem], by intro j; simp [go_sem], by intro j; simp [go_sem], by intro j; simp [go_sem], by intro j; simp [go_sem], by (repeat (first | exact Below.refl _ _ | with_reducible refine sp_new ?_ _ | with_reducible refine rr_dr ?_ | with_reducible refine rr_st ?_ (by simp; try omega) _))⟩
  case rest =>
   obtain ⟨W, b10, b11, rfl, rfl, rfl, z1, z2, z3, z4, z5, a0, a1, a2, b0, b1, b2, r0, r1, r2, s0, s1, s2, t0, t1, t2, u0, u1, u2, fr, fs, ft, fu, bW⟩ := hcut
   rename_i K1 hK1
   refine hK1 _ _ ?_
   clear hK1
   go_step
   go_cut [10, 11] from 30 to 99 (fun s u X => ∃ W2 : World, W2 = X ∧ s = .pointer (some ⟨b10, 0, none⟩) ∧ u = .pointer (some ⟨b11, 0, none⟩) ∧ X.cell? ⟨w.heap.size + 1 + 1, 0, none⟩ = some (.bool false) ∧ X.cell? ⟨w.heap.size + 1 + 1, 1, none⟩ = some (.int .u64 0) ∧ X.cell? ⟨w.heap.size + 1 + 1, 2, none⟩ = some (.int .u64 0) ∧ X.cell? ⟨w.heap.size + 1 + 1 + 1, 0, none⟩ = some (.bool false) ∧ X.cell? ⟨w.heap.size + 1 + 1 + 1, 1, none⟩ = some (.int .u64 0) ∧ X.cell? ⟨w.heap.size + 1 + 1 + 1, 2, none⟩ = some (.int .u64 0) ∧ X.cell? ⟨b10, 0, none⟩ = some (.bool pe) ∧ X.cell? ⟨b10, 1, none⟩ = some (.int .u64 pl) ∧ X.cell? ⟨b10, 2, none⟩ = some (.int .u64 ph) ∧ X.cell? ⟨b11, 0, none⟩ = some (.bool qe) ∧ X.cell? ⟨b11, 1, none⟩ = some (.int .u64 ql) ∧ X.cell? ⟨b11, 2, none⟩ = some (.int .u64 qh) ∧ (∀ j, X.frozen? ⟨w.heap.size + 1 + 1, j, none⟩ = false) ∧ (∀ j, X.frozen? ⟨w.heap.size + 1 + 1 + 1, j, none⟩ = false) ∧ w.heap.size + 4 ≤ X.heap.size ∧ Below w.heap.size w X)
   case first =>
    go_upto_region 17 with fail
    rename_i KK hKK
    replace hKK : Hid _ := hKK
    refine wp_region_held_drew (S := (fun w' => w'.cell? ⟨w.heap.size, 0, none⟩ = some (.bool false) ∧ w'.cell? ⟨w.heap.size, 1, none⟩ = some (.int .u64 a) ∧ w'.cell? ⟨w.heap.size, 2, none⟩ = some (.int .u64 b) ∧ w'.cell? ⟨w.heap.size + 1, 0, none⟩ = some (.bool false) ∧ w'.cell? ⟨w.heap.size + 1, 1, none⟩ = some (.int .u64 c) ∧ w'.cell? ⟨w.heap.size + 1, 2, none⟩ = some (.int .u64 d))) (by kernel_rfl) ⟨a0, a1, a2, b0, b1, b2⟩ (fun hH => ?_)
    refine wpAnyH_take (i := 0) (oi := _) (v := .int .i64 f) rfl (by kernel_rfl) (by kernel_rfl) (by kernel_rfl) (fun _ _ _ h => h) (Or.inl ⟨by rfl, fun w' hSw => by obtain ⟨za0, za1, za2, zb0, zb1, zb2⟩ := hSw; go_simp⟩) hH ?_
    simp only [Act.put, gA, gB, gC, gD, gE, gG]
    refine wpAnyH_take (i := 1) (oi := _) (v := .agg #[.bool false, .int .u64 a, .int .u64 b]) rfl (by kernel_rfl) (by kernel_rfl) (by kernel_rfl) (fun _ _ _ h => h) (Or.inl ⟨by rfl, fun w' hSw => by obtain ⟨za0, za1, za2, zb0, zb1, zb2⟩ := hSw; go_simp⟩) hH ?_
    simp only [Act.put, gA, gB, gC, gD, gE, gG]
    refine wpAnyH_take (i := 2) (oi := _) (v := .int .i64 f) rfl (by kernel_rfl) (by kernel_rfl) (by kernel_rfl) (fun _ _ _ h => h) (Or.inl ⟨by rfl, fun w' hSw => by obtain ⟨za0, za1, za2, zb0, zb1, zb2⟩ := hSw; go_simp⟩) hH ?_
    simp only [Act.put, gA, gB, gC, gD, gE, gG]
    refine wpAnyH_take (i := 3) (oi := _) (v := .pointer (some ⟨w.heap.size + 1, 1, none⟩)) rfl (by kernel_rfl) (by kernel_rfl) (by kernel_rfl) (fun _ _ _ h => h) (Or.inl ⟨by rfl, fun w' hSw => by obtain ⟨za0, za1, za2, zb0, zb1, zb2⟩ := hSw; go_simp⟩) hH ?_
    simp only [Act.put, gA, gB, gC, gD, gE, gG]
    refine wpAnyH_take (i := 4) (oi := _) (v := .int .u64 c) rfl (by kernel_rfl) (by kernel_rfl) (by kernel_rfl) (fun _ _ _ h => h) (Or.inl ⟨by rfl, fun w' hSw => by obtain ⟨za0, za1, za2, zb0, zb1, zb2⟩ := hSw; go_simp⟩) hH ?_
    simp only [Act.put, gA, gB, gC, gD, gE, gG]
    refine wpAnyH_take (i := 5) (oi := _) (v := .int .i64 15) rfl (by kernel_rfl) (by kernel_rfl) (by kernel_rfl) (fun _ _ _ h => h) (Or.inl ⟨by rfl, fun w' hSw => by obtain ⟨za0, za1, za2, zb0, zb1, zb2⟩ := hSw; go_simp⟩) hH ?_
    simp only [Act.put, gA, gB, gC, gD, gE, gG]
    refine wpAnyH_take (i := 6) (oi := _) (v := .bool false) rfl (by kernel_rfl) (by kernel_rfl) (by kernel_rfl) (fun _ _ _ h => h) (Or.inl ⟨by rfl, fun w' hSw => by obtain ⟨za0, za1, za2, zb0, zb1, zb2⟩ := hSw; go_simp⟩) hH ?_
    simp only [Act.put, gA, gB, gC, gD, gE, gG]
    refine wpAnyH_ready (rs := [7]) (by kernel_rfl) (by simp) (AllReadyH.cons (o := _) rfl (fun K hK => ?_) AllReadyH.nil)
    go_simp
    refine (k1 _).mono ?_
    rintro e v1 ⟨rfl, g⟩
    replace g : Below W.heap.size W v1 := ⟨g.os, g.tape, g.output, g.size, g.block⟩; replace a0 := sO g a0; replace a1 := sO g a1; replace a2 := sO g a2; replace b0 := sO g b0; replace b1 := sO g b1; replace b2 := sO g b2; replace r0 := sO g r0; replace r1 := sO g r1; replace r2 := sO g r2; replace s0 := sO g s0; replace s1 := sO g s1; replace s2 := sO g s2; replace t0 := sO g t0; replace t1 := sO g t1; replace t2 := sO g t2; replace u0 := sO g u0; replace u1 := sO g u1; replace u2 := sO g u2; replace bW := sp_call bW g; have z_v1 := g.size; replace fr : ∀ j, v1.frozen? ⟨w.heap.size + 1 + 1, j, none⟩ = false := fun j => (g.frozen (p := ⟨w.heap.size + 1 + 1, j, none⟩) (by simp; omega)).trans (fr j); replace fs : ∀ j, v1.frozen? ⟨w.heap.size + 1 + 1 + 1, j, none⟩ = false := fun j => (g.frozen (p := ⟨w.heap.size + 1 + 1 + 1, j, none⟩) (by simp; omega)).trans (fs j); replace ft : ∀ j, v1.frozen? ⟨b10, j, none⟩ = false := fun j => (g.frozen (p := ⟨b10, j, none⟩) (by simp; omega)).trans (ft j); replace fu : ∀ j, v1.frozen? ⟨b11, j, none⟩ = false := fun j => (g.frozen (p := ⟨b11, j, none⟩) (by simp; omega)).trans (fu j); clear g
    go_wp2_with fail
    refine hK.out _ _ ⟨a0, a1, a2, b0, b1, b2⟩ (fun hH => ?_)
    clear hK K k1
    try simp only [Act.put, gA, gB, gC, gD, gE, gG]
    refine wpAnyH_ready (rs := [8]) (by kernel_rfl) (by simp) (AllReadyH.cons (o := _) rfl (fun K hK => ?_) AllReadyH.nil)
    go_simp
    refine (k2 _).mono ?_
    rintro e v2 ⟨rfl, g⟩
    replace g : Below v1.heap.size v1 v2 := ⟨g.os, g.tape, g.output, g.size, g.block⟩; replace a0 := sO g a0; replace a1 := sO g a1; replace a2 := sO g a2; replace b0 := sO g b0; replace b1 := sO g b1; replace b2 := sO g b2; replace r0 := sO g r0; replace r1 := sO g r1; replace r2 := sO g r2; replace s0 := sO g s0; replace s1 := sO g s1; replace s2 := sO g s2; replace t0 := sO g t0; replace t1 := sO g t1; replace t2 := sO g t2; replace u0 := sO g u0; replace u1 := sO g u1; replace u2 := sO g u2; replace bW := sp_call bW g; have z_v2 := g.size; replace fr : ∀ j, v2.frozen? ⟨w.heap.size + 1 + 1, j, none⟩ = false := fun j => (g.frozen (p := ⟨w.heap.size + 1 + 1, j, none⟩) (by simp; omega)).trans (fr j); replace fs : ∀ j, v2.frozen? ⟨w.heap.size + 1 + 1 + 1, j, none⟩ = false := fun j => (g.frozen (p := ⟨w.heap.size + 1 + 1 + 1, j, none⟩) (by simp; omega)).trans (fs j); replace ft : ∀ j, v2.frozen? ⟨b10, j, none⟩ = false := fun j => (g.frozen (p := ⟨b10, j, none⟩) (by simp; omega)).trans (ft j); replace fu : ∀ j, v2.frozen? ⟨b11, j, none⟩ = false := fun j => (g.frozen (p := ⟨b11, j, none⟩) (by simp; omega)).trans (fu j); clear g
    go_wp2_with fail
    refine hK.out _ _ ⟨a0, a1, a2, b0, b1, b2⟩ (fun hH => ?_)
    clear hK K k2
    try simp only [Act.put, gA, gB, gC, gD, gE, gG]
    refine wpAnyH_ready (rs := [9]) (by kernel_rfl) (by simp) (AllReadyH.cons (o := _) rfl (fun K hK => ?_) AllReadyH.nil)
    go_simp
    refine hK.out _ _ ⟨sp_keep3 a0 (by omega) _ _ _, sp_keep3 a1 (by omega) _ _ _, sp_keep3 a2 (by omega) _ _ _, sp_keep3 b0 (by omega) _ _ _, sp_keep3 b1 (by omega) _ _ _, sp_keep3 b2 (by omega) _ _ _⟩ (fun hH => ?_)
    clear hK K
    try simp only [Act.put, gA, gB, gC, gD, gE, gG]
    refine wpAnyH_done (by kernel_rfl) ?_ _
    obtain ⟨W6, hW⟩ : ∃ W6, (((v2.setCell ⟨b10, 0, none⟩ (.bool pe)).setCell ⟨b10, 1, none⟩ (.int .u64 pl)).setCell ⟨b10, 2, none⟩ (.int .u64 ph)) = W6 := ⟨_, rfl⟩
    replace t0 : W6.cell? ⟨b10, 0, none⟩ = some (.bool pe) := by rw [← hW]; simp [go_sem, t0, t1, t2]
    replace t1 : W6.cell? ⟨b10, 1, none⟩ = some (.int .u64 pl) := by rw [← hW]; simp [go_sem, t1, t2]
    replace t2 : W6.cell? ⟨b10, 2, none⟩ = some (.int .u64 ph) := by rw [← hW]; simp [go_sem, t2]
    replace a0 := hW ▸ sp_keep3 (b := b10) a0 (by omega) (.bool pe) (.int .u64 pl) (.int .u64 ph)
    replace a1 := hW ▸ sp_keep3 (b := b10) a1 (by omega) (.bool pe) (.int .u64 pl) (.int .u64 ph)
    replace a2 := hW ▸ sp_keep3 (b := b10) a2 (by omega) (.bool pe) (.int .u64 pl) (.int .u64 ph)
    replace b0 := hW ▸ sp_keep3 (b := b10) b0 (by omega) (.bool pe) (.int .u64 pl) (.int .u64 ph)
    replace b1 := hW ▸ sp_keep3 (b := b10) b1 (by omega) (.bool pe) (.int .u64 pl) (.int .u64 ph)
    replace b2 := hW ▸ sp_keep3 (b := b10) b2 (by omega) (.bool pe) (.int .u64 pl) (.int .u64 ph)
    replace r0 := hW ▸ sp_keep3 (b := b10) r0 (by omega) (.bool pe) (.int .u64 pl) (.int .u64 ph)
    replace r1 := hW ▸ sp_keep3 (b := b10) r1 (by omega) (.bool pe) (.int .u64 pl) (.int .u64 ph)
    replace r2 := hW ▸ sp_keep3 (b := b10) r2 (by omega) (.bool pe) (.int .u64 pl) (.int .u64 ph)
    replace s0 := hW ▸ sp_keep3 (b := b10) s0 (by omega) (.bool pe) (.int .u64 pl) (.int .u64 ph)
    replace s1 := hW ▸ sp_keep3 (b := b10) s1 (by omega) (.bool pe) (.int .u64 pl) (.int .u64 ph)
    replace s2 := hW ▸ sp_keep3 (b := b10) s2 (by omega) (.bool pe) (.int .u64 pl) (.int .u64 ph)
    replace u0 := hW ▸ sp_keep3 (b := b10) u0 (by omega) (.bool pe) (.int .u64 pl) (.int .u64 ph)
    replace u1 := hW ▸ sp_keep3 (b := b10) u1 (by omega) (.bool pe) (.int .u64 pl) (.int .u64 ph)
    replace u2 := hW ▸ sp_keep3 (b := b10) u2 (by omega) (.bool pe) (.int .u64 pl) (.int .u64 ph)
    replace fr : ∀ j, W6.frozen? ⟨w.heap.size + 1 + 1, j, none⟩ = false := by intro j; rw [← hW]; simp [go_sem, fr]
    replace fs : ∀ j, W6.frozen? ⟨w.heap.size + 1 + 1 + 1, j, none⟩ = false := by intro j; rw [← hW]; simp [go_sem, fs]
    replace ft : ∀ j, W6.frozen? ⟨b10, j, none⟩ = false := by intro j; rw [← hW]; simp [go_sem, ft]
    replace fu : ∀ j, W6.frozen? ⟨b11, j, none⟩ = false := by intro j; rw [← hW]; simp [go_sem, fu]
    replace bW : Below w.heap.size w W6 := by rw [← hW]; (repeat (first | with_reducible exact bW | with_reducible refine rr_dr ?_ | with_reducible refine rr_st ?_ (by omega) _))
    have zs_W6 : W6.heap.size = v2.heap.size := by rw [← hW]; simp
    rw [hW]
    clear hW
    refine hKK.out _ _ ?_
    clear hKK
    go_upto_region 18 with fail
    refine wp_region_held_drew (S := (fun w' => w'.cell? ⟨w.heap.size, 0, none⟩ = some (.bool false) ∧ w'.cell? ⟨w.heap.size, 1, none⟩ = some (.int .u64 a) ∧ w'.cell? ⟨w.heap.size, 2, none⟩ = some (.int .u64 b) ∧ w'.cell? ⟨w.heap.size + 1, 0, none⟩ = some (.bool false) ∧ w'.cell? ⟨w.heap.size + 1, 1, none⟩ = some (.int .u64 c) ∧ w'.cell? ⟨w.heap.size + 1, 2, none⟩ = some (.int .u64 d))) (by kernel_rfl) ⟨a0, a1, a2, b0, b1, b2⟩ (fun hH => ?_)
    refine wpAnyH_take (i := 0) (oi := _) (v := .int .i64 f) rfl (by kernel_rfl) (by kernel_rfl) (by kernel_rfl) (fun _ _ _ h => h) (Or.inl ⟨by rfl, fun w' hSw => by obtain ⟨za0, za1, za2, zb0, zb1, zb2⟩ := hSw; go_simp⟩) hH ?_
    simp only [Act.put, gA, gB, gC, gD, gE, gG]
    refine wpAnyH_take (i := 1) (oi := _) (v := .agg #[.bool false, .int .u64 c, .int .u64 d]) rfl (by kernel_rfl) (by kernel_rfl) (by kernel_rfl) (fun _ _ _ h => h) (Or.inl ⟨by rfl, fun w' hSw => by obtain ⟨za0, za1, za2, zb0, zb1, zb2⟩ := hSw; go_simp⟩) hH ?_
    simp only [Act.put, gA, gB, gC, gD, gE, gG]
    refine wpAnyH_take (i := 2) (oi := _) (v := .int .i64 f) rfl (by kernel_rfl) (by kernel_rfl) (by kernel_rfl) (fun _ _ _ h => h) (Or.inl ⟨by rfl, fun w' hSw => by obtain ⟨za0, za1, za2, zb0, zb1, zb2⟩ := hSw; go_simp⟩) hH ?_
    simp only [Act.put, gA, gB, gC, gD, gE, gG]
    refine wpAnyH_take (i := 3) (oi := _) (v := .pointer (some ⟨w.heap.size, 2, none⟩)) rfl (by kernel_rfl) (by kernel_rfl) (by kernel_rfl) (fun _ _ _ h => h) (Or.inl ⟨by rfl, fun w' hSw => by obtain ⟨za0, za1, za2, zb0, zb1, zb2⟩ := hSw; go_simp⟩) hH ?_
    simp only [Act.put, gA, gB, gC, gD, gE, gG]
    refine wpAnyH_take (i := 4) (oi := _) (v := .int .u64 b) rfl (by kernel_rfl) (by kernel_rfl) (by kernel_rfl) (fun _ _ _ h => h) (Or.inl ⟨by rfl, fun w' hSw => by obtain ⟨za0, za1, za2, zb0, zb1, zb2⟩ := hSw; go_simp⟩) hH ?_
    simp only [Act.put, gA, gB, gC, gD, gE, gG]
    refine wpAnyH_take (i := 5) (oi := _) (v := .int .i64 15) rfl (by kernel_rfl) (by kernel_rfl) (by kernel_rfl) (fun _ _ _ h => h) (Or.inl ⟨by rfl, fun w' hSw => by obtain ⟨za0, za1, za2, zb0, zb1, zb2⟩ := hSw; go_simp⟩) hH ?_
    simp only [Act.put, gA, gB, gC, gD, gE, gG]
    refine wpAnyH_take (i := 6) (oi := _) (v := .bool false) rfl (by kernel_rfl) (by kernel_rfl) (by kernel_rfl) (fun _ _ _ h => h) (Or.inl ⟨by rfl, fun w' hSw => by obtain ⟨za0, za1, za2, zb0, zb1, zb2⟩ := hSw; go_simp⟩) hH ?_
    simp only [Act.put, gA, gB, gC, gD, gE, gG]
    refine wpAnyH_ready (rs := [7]) (by kernel_rfl) (by simp) (AllReadyH.cons (o := _) rfl (fun K hK => ?_) AllReadyH.nil)
    go_simp
    refine (k3 _).mono ?_
    rintro e v3 ⟨rfl, g⟩
    replace g : Below W6.heap.size W6 v3 := ⟨g.os, g.tape, g.output, g.size, g.block⟩; replace a0 := sO g a0; replace a1 := sO g a1; replace a2 := sO g a2; replace b0 := sO g b0; replace b1 := sO g b1; replace b2 := sO g b2; replace r0 := sO g r0; replace r1 := sO g r1; replace r2 := sO g r2; replace s0 := sO g s0; replace s1 := sO g s1; replace s2 := sO g s2; replace t0 := sO g t0; replace t1 := sO g t1; replace t2 := sO g t2; replace u0 := sO g u0; replace u1 := sO g u1; replace u2 := sO g u2; replace bW := sp_call bW g; have z_v3 := g.size; replace fr : ∀ j, v3.frozen? ⟨w.heap.size + 1 + 1, j, none⟩ = false := fun j => (g.frozen (p := ⟨w.heap.size + 1 + 1, j, none⟩) (by simp; omega)).trans (fr j); replace fs : ∀ j, v3.frozen? ⟨w.heap.size + 1 + 1 + 1, j, none⟩ = false := fun j => (g.frozen (p := ⟨w.heap.size + 1 + 1 + 1, j, none⟩) (by simp; omega)).trans (fs j); replace ft : ∀ j, v3.frozen? ⟨b10, j, none⟩ = false := fun j => (g.frozen (p := ⟨b10, j, none⟩) (by simp; omega)).trans (ft j); replace fu : ∀ j, v3.frozen? ⟨b11, j, none⟩ = false := fun j => (g.frozen (p := ⟨b11, j, none⟩) (by simp; omega)).trans (fu j); clear g
    go_wp2_with fail
    refine hK.out _ _ ⟨a0, a1, a2, b0, b1, b2⟩ (fun hH => ?_)
    clear hK K k3
    try simp only [Act.put, gA, gB, gC, gD, gE, gG]
    refine wpAnyH_ready (rs := [8]) (by kernel_rfl) (by simp) (AllReadyH.cons (o := _) rfl (fun K hK => ?_) AllReadyH.nil)
    go_simp
    refine (k4 _).mono ?_
    rintro e v4 ⟨rfl, g⟩
    replace g : Below v3.heap.size v3 v4 := ⟨g.os, g.tape, g.output, g.size, g.block⟩; replace a0 := sO g a0; replace a1 := sO g a1; replace a2 := sO g a2; replace b0 := sO g b0; replace b1 := sO g b1; replace b2 := sO g b2; replace r0 := sO g r0; replace r1 := sO g r1; replace r2 := sO g r2; replace s0 := sO g s0; replace s1 := sO g s1; replace s2 := sO g s2; replace t0 := sO g t0; replace t1 := sO g t1; replace t2 := sO g t2; replace u0 := sO g u0; replace u1 := sO g u1; replace u2 := sO g u2; replace bW := sp_call bW g; have z_v4 := g.size; replace fr : ∀ j, v4.frozen? ⟨w.heap.size + 1 + 1, j, none⟩ = false := fun j => (g.frozen (p := ⟨w.heap.size + 1 + 1, j, none⟩) (by simp; omega)).trans (fr j); replace fs : ∀ j, v4.frozen? ⟨w.heap.size + 1 + 1 + 1, j, none⟩ = false := fun j => (g.frozen (p := ⟨w.heap.size + 1 + 1 + 1, j, none⟩) (by simp; omega)).trans (fs j); replace ft : ∀ j, v4.frozen? ⟨b10, j, none⟩ = false := fun j => (g.frozen (p := ⟨b10, j, none⟩) (by simp; omega)).trans (ft j); replace fu : ∀ j, v4.frozen? ⟨b11, j, none⟩ = false := fun j => (g.frozen (p := ⟨b11, j, none⟩) (by simp; omega)).trans (fu j); clear g
    go_wp2_with fail
    refine hK.out _ _ ⟨a0, a1, a2, b0, b1, b2⟩ (fun hH => ?_)
    clear hK K k4
    try simp only [Act.put, gA, gB, gC, gD, gE, gG]
    refine wpAnyH_ready (rs := [9]) (by kernel_rfl) (by simp) (AllReadyH.cons (o := _) rfl (fun K hK => ?_) AllReadyH.nil)
    go_simp
    refine hK.out _ _ ⟨sp_keep3 a0 (by omega) _ _ _, sp_keep3 a1 (by omega) _ _ _, sp_keep3 a2 (by omega) _ _ _, sp_keep3 b0 (by omega) _ _ _, sp_keep3 b1 (by omega) _ _ _, sp_keep3 b2 (by omega) _ _ _⟩ (fun hH => ?_)
    clear hK K
    try simp only [Act.put, gA, gB, gC, gD, gE, gG]
    refine wpAnyH_done (by kernel_rfl) ?_ _
    obtain ⟨W7, hW⟩ : ∃ W7, (((v4.setCell ⟨b11, 0, none⟩ (.bool qe)).setCell ⟨b11, 1, none⟩ (.int .u64 ql)).setCell ⟨b11, 2, none⟩ (.int .u64 qh)) = W7 := ⟨_, rfl⟩
    replace u0 : W7.cell? ⟨b11, 0, none⟩ = some (.bool qe) := by rw [← hW]; simp [go_sem, u0, u1, u2]
    replace u1 : W7.cell? ⟨b11, 1, none⟩ = some (.int .u64 ql) := by rw [← hW]; simp [go_sem, u1, u2]
    replace u2 : W7.cell? ⟨b11, 2, none⟩ = some (.int .u64 qh) := by rw [← hW]; simp [go_sem, u2]
    replace a0 := hW ▸ sp_keep3 (b := b11) a0 (by omega) (.bool qe) (.int .u64 ql) (.int .u64 qh)
    replace a1 := hW ▸ sp_keep3 (b := b11) a1 (by omega) (.bool qe) (.int .u64 ql) (.int .u64 qh)
    replace a2 := hW ▸ sp_keep3 (b := b11) a2 (by omega) (.bool qe) (.int .u64 ql) (.int .u64 qh)
    replace b0 := hW ▸ sp_keep3 (b := b11) b0 (by omega) (.bool qe) (.int .u64 ql) (.int .u64 qh)
    replace b1 := hW ▸ sp_keep3 (b := b11) b1 (by omega) (.bool qe) (.int .u64 ql) (.int .u64 qh)
    replace b2 := hW ▸ sp_keep3 (b := b11) b2 (by omega) (.bool qe) (.int .u64 ql) (.int .u64 qh)
    replace r0 := hW ▸ sp_keep3 (b := b11) r0 (by omega) (.bool qe) (.int .u64 ql) (.int .u64 qh)
    replace r1 := hW ▸ sp_keep3 (b := b11) r1 (by omega) (.bool qe) (.int .u64 ql) (.int .u64 qh)
    replace r2 := hW ▸ sp_keep3 (b := b11) r2 (by omega) (.bool qe) (.int .u64 ql) (.int .u64 qh)
    replace s0 := hW ▸ sp_keep3 (b := b11) s0 (by omega) (.bool qe) (.int .u64 ql) (.int .u64 qh)
    replace s1 := hW ▸ sp_keep3 (b := b11) s1 (by omega) (.bool qe) (.int .u64 ql) (.int .u64 qh)
    replace s2 := hW ▸ sp_keep3 (b := b11) s2 (by omega) (.bool qe) (.int .u64 ql) (.int .u64 qh)
    replace t0 := hW ▸ sp_keep3 (b := b11) t0 (by omega) (.bool qe) (.int .u64 ql) (.int .u64 qh)
    replace t1 := hW ▸ sp_keep3 (b := b11) t1 (by omega) (.bool qe) (.int .u64 ql) (.int .u64 qh)
    replace t2 := hW ▸ sp_keep3 (b := b11) t2 (by omega) (.bool qe) (.int .u64 ql) (.int .u64 qh)
    replace fr : ∀ j, W7.frozen? ⟨w.heap.size + 1 + 1, j, none⟩ = false := by intro j; rw [← hW]; simp [go_sem, fr]
    replace fs : ∀ j, W7.frozen? ⟨w.heap.size + 1 + 1 + 1, j, none⟩ = false := by intro j; rw [← hW]; simp [go_sem, fs]
    replace ft : ∀ j, W7.frozen? ⟨b10, j, none⟩ = false := by intro j; rw [← hW]; simp [go_sem, ft]
    replace fu : ∀ j, W7.frozen? ⟨b11, j, none⟩ = false := by intro j; rw [← hW]; simp [go_sem, fu]
    replace bW : Below w.heap.size w W7 := by rw [← hW]; (repeat (first | with_reducible exact bW | with_reducible refine rr_dr ?_ | with_reducible refine rr_st ?_ (by omega) _))
    have zs_W7 : W7.heap.size = v4.heap.size := by rw [← hW]; simp
    rw [hW]
    clear hW
    go_wp2_with fail
    go_meet
    exact ⟨_, rfl, rfl, rfl, r0, r1, r2, s0, s1, s2, t0, t1, t2, u0, u1, u2, fr, fs, by omega, bW⟩
   case rest =>
    try clear he hl hh
    clear a0 a1 a2 b0 b1 b2 r0 r1 r2 s0 s1 s2 t0 t1 t2 u0 u1 u2 fr fs ft fu bW z4 z5
    obtain ⟨X, rfl, rfl, rfl, r0, r1, r2, s0, s1, s2, t0, t1, t2, u0, u1, u2, fr, fs, zX, bW⟩ := hcut
    cases pe
    · cases qe
      · go_upto_region 24 with fail
        go_region
        all_goals go_wp2_with fail
        all_goals exact bodyPost_ret (v := .tuple #[.agg #[.bool false, .int .u64 pl, .int .u64 ph], .agg #[.bool false, .int .u64 ql, .int .u64 qh]]) (by simp [results, Tryz.results39, go_sem, r0, r1, r2, s0, s1, s2]) rfl ⟨by simp, by (repeat (first | with_reducible exact bW | with_reducible refine rr_dr ?_ | with_reducible refine rr_st ?_ (by omega) _))⟩
      · go_wp2_with (first
          | (go_at_call 80; refine (hn _).mono ?_; rintro e vn ⟨rfl, g⟩; replace r0 := sO g r0; replace r1 := sO g r1; replace r2 := sO g r2; replace s0 := sO g s0; replace s1 := sO g s1; replace s2 := sO g s2; replace bW := sp_call bW g; have z_vn := g.size; replace fr : ∀ j, vn.frozen? ⟨w.heap.size + 1 + 1, j, none⟩ = false := fun j => (g.frozen (p := ⟨w.heap.size + 1 + 1, j, none⟩) (by simp; omega)).trans (fr j); replace fs : ∀ j, vn.frozen? ⟨w.heap.size + 1 + 1 + 1, j, none⟩ = false := fun j => (g.frozen (p := ⟨w.heap.size + 1 + 1 + 1, j, none⟩) (by simp; omega)).trans (fs j); clear g; clear hn)
          | (go_at_call 80; refine (hn2 _).mono ?_; rintro e vn2 ⟨rfl, g⟩; replace r0 := sO g r0; replace r1 := sO g r1; replace r2 := sO g r2; replace s0 := sO g s0; replace s1 := sO g s1; replace s2 := sO g s2; replace bW := sp_call bW g; have z_vn2 := g.size; replace fr : ∀ j, vn2.frozen? ⟨w.heap.size + 1 + 1, j, none⟩ = false := fun j => (g.frozen (p := ⟨w.heap.size + 1 + 1, j, none⟩) (by simp; omega)).trans (fr j); replace fs : ∀ j, vn2.frozen? ⟨w.heap.size + 1 + 1 + 1, j, none⟩ = false := fun j => (g.frozen (p := ⟨w.heap.size + 1 + 1 + 1, j, none⟩) (by simp; omega)).trans (fs j); clear g; clear hn2)
          | fail)
        exact bodyPost_ret (v := .tuple #[.agg #[.bool true, .int .u64 0, .int .u64 0], .agg #[.bool true, .int .u64 0, .int .u64 0]]) (by simp [results, Tryz.results39, go_sem, r0, r1, r2, s0, s1, s2]) rfl ⟨by simp, by (repeat (first | with_reducible exact bW | with_reducible refine rr_dr ?_ | with_reducible refine rr_st ?_ (by omega) _))⟩
    · go_wp2_with (first
        | (go_at_call 80; refine (hn _).mono ?_; rintro e vn ⟨rfl, g⟩; replace r0 := sO g r0; replace r1 := sO g r1; replace r2 := sO g r2; replace s0 := sO g s0; replace s1 := sO g s1; replace s2 := sO g s2; replace bW := sp_call bW g; have z_vn := g.size; replace fr : ∀ j, vn.frozen? ⟨w.heap.size + 1 + 1, j, none⟩ = false := fun j => (g.frozen (p := ⟨w.heap.size + 1 + 1, j, none⟩) (by simp; omega)).trans (fr j); replace fs : ∀ j, vn.frozen? ⟨w.heap.size + 1 + 1 + 1, j, none⟩ = false := fun j => (g.frozen (p := ⟨w.heap.size + 1 + 1 + 1, j, none⟩) (by simp; omega)).trans (fs j); clear g; clear hn)
        | (go_at_call 80; refine (hn2 _).mono ?_; rintro e vn2 ⟨rfl, g⟩; replace r0 := sO g r0; replace r1 := sO g r1; replace r2 := sO g r2; replace s0 := sO g s0; replace s1 := sO g s1; replace s2 := sO g s2; replace bW := sp_call bW g; have z_vn2 := g.size; replace fr : ∀ j, vn2.frozen? ⟨w.heap.size + 1 + 1, j, none⟩ = false := fun j => (g.frozen (p := ⟨w.heap.size + 1 + 1, j, none⟩) (by simp; omega)).trans (fr j); replace fs : ∀ j, vn2.frozen? ⟨w.heap.size + 1 + 1 + 1, j, none⟩ = false := fun j => (g.frozen (p := ⟨w.heap.size + 1 + 1 + 1, j, none⟩) (by simp; omega)).trans (fs j); clear g; clear hn2)
        | fail)
      exact bodyPost_ret (v := .tuple #[.agg #[.bool true, .int .u64 0, .int .u64 0], .agg #[.bool true, .int .u64 0, .int .u64 0]]) (by simp [results, Tryz.results39, go_sem, r0, r1, r2, s0, s1, s2]) rfl ⟨by simp, by (repeat (first | with_reducible exact bW | with_reducible refine rr_dr ?_ | with_reducible refine rr_st ?_ (by omega) _))⟩
set_option maxRecDepth 100000 in
set_option maxHeartbeats 6400000 in
theorem rr_eq (f : Int) (a b c d : Int) (pe qe : Bool) (pl ph ql qh : Int) (k1 : ∀ V, Calls Tryz.prog 27 #[.int .i64 f, .agg #[.bool false, .int .u64 a, .int .u64 b], .agg #[.bool false, .int .u64 c, .int .u64 d]] V fun e w' => e = .returned (.agg #[.bool pe, .int .u64 pl, .int .u64 ph]) ∧ Below V.heap.size V w') (he : qe = pe) (hl : ql = pl) (hh : qh = ph) (w : World) :
    Calls Tryz.prog 39 #[.int .i64 f, .int .i64 16, .agg #[.bool false, .int .u64 a, .int .u64 b], .agg #[.bool false, .int .u64 c, .int .u64 d]] w fun e w' => e = .returned (.tuple #[.agg #[.bool (bothP (pe, pl, ph) (qe, ql, qh)).1.1, .int .u64 (bothP (pe, pl, ph) (qe, ql, qh)).1.2.1, .int .u64 (bothP (pe, pl, ph) (qe, ql, qh)).1.2.2], .agg #[.bool (bothP (pe, pl, ph) (qe, ql, qh)).2.1, .int .u64 (bothP (pe, pl, ph) (qe, ql, qh)).2.2.1, .int .u64 (bothP (pe, pl, ph) (qe, ql, qh)).2.2.2]]) ∧ Below w.heap.size w w' := by
  have hn : ∀ V, Calls Tryz.prog 80 #[] V fun e w' => e = .returned (.agg #[.bool true, .int .u64 0, .int .u64 0]) ∧ Below V.heap.size V w' := fun V => (rnoneF V).mono fun e w' h => ⟨h.1, by rw [h.2]; exact sp_new (Below.refl _ _) _⟩
  have hn2 := hn
  unfold bothP
  dsimp only
  replace he : Hid _ := he
  replace hl : Hid _ := hl
  replace hh : Hid _ := hh
  go_enter Tryz.func39, Tryz.ntmps39
  go_upto_region 5 with fail
  go_cut [10, 11] from 28 to 29 (fun s u X => ∃ (W : World) (b10 b11 : Nat), W = X ∧ s = .pointer (some ⟨b10, 0, none⟩) ∧ u = .pointer (some ⟨b11, 0, none⟩) ∧ w.heap.size + 4 ≤ b10 ∧ w.heap.size + 4 ≤ b11 ∧ b10 ≠ b11 ∧ b10 < X.heap.size ∧ b11 < X.heap.size ∧ X.cell? ⟨w.heap.size, 0, none⟩ = some (.bool false) ∧ X.cell? ⟨w.heap.size, 1, none⟩ = some (.int .u64 a) ∧ X.cell? ⟨w.heap.size, 2, none⟩ = some (.int .u64 b) ∧ X.cell? ⟨w.heap.size + 1, 0, none⟩ = some (.bool false) ∧ X.cell? ⟨w.heap.size + 1, 1, none⟩ = some (.int .u64 c) ∧ X.cell? ⟨w.heap.size + 1, 2, none⟩ = some (.int .u64 d) ∧ X.cell? ⟨w.heap.size + 1 + 1, 0, none⟩ = some (.bool false) ∧ X.cell? ⟨w.heap.size + 1 + 1, 1, none⟩ = some (.int .u64 0) ∧ X.cell? ⟨w.heap.size + 1 + 1, 2, none⟩ = some (.int .u64 0) ∧ X.cell? ⟨w.heap.size + 1 + 1 + 1, 0, none⟩ = some (.bool false) ∧ X.cell? ⟨w.heap.size + 1 + 1 + 1, 1, none⟩ = some (.int .u64 0) ∧ X.cell? ⟨w.heap.size + 1 + 1 + 1, 2, none⟩ = some (.int .u64 0) ∧ X.cell? ⟨b10, 0, none⟩ = some (.bool false) ∧ X.cell? ⟨b10, 1, none⟩ = some (.int .u64 a) ∧ X.cell? ⟨b10, 2, none⟩ = some (.int .u64 b) ∧ X.cell? ⟨b11, 0, none⟩ = some (.bool false) ∧ X.cell? ⟨b11, 1, none⟩ = some (.int .u64 c) ∧ X.cell? ⟨b11, 2, none⟩ = some (.int .u64 d) ∧ (∀ j, X.frozen? ⟨w.heap.size + 1 + 1, j, none⟩ = false) ∧ (∀ j, X.frozen? ⟨w.heap.size + 1 + 1 + 1, j, none⟩ = false) ∧ (∀ j, X.frozen? ⟨b10, j, none⟩ = false) ∧ (∀ j, X.frozen? ⟨b11, j, none⟩ = false) ∧ Below w.heap.size w X)
  case first =>
   go_region
   all_goals go_wp2_with fail
   all_goals go_meet
   all_goals exact ⟨_, _, _, rfl, rfl, rfl, by simp, by simp, by simp, by simp, by simp, by simp [go_sem], by simp [go_sem], by simp [go_sem], by simp [go_sem], by simp [go_sem], by simp [go_sem], by simp [go_sem], by simp [go_sem], by simp [go_sem], by simp [go_sem], by simp [go_sem], by simp [go_sem], by simp [go_sem], by simp [go_sem], by simp [go_sem], by simp [go_sem], by simp [go_sem], by simp [go_sem], by intro j; simp [go_sem], by intro j; simp [go_sem], by intro j; simp [go_sem], by intro j; simp [go_sem], by (repeat (first | exact Below.refl _ _ | with_reducible refine sp_new ?_ _ | with_reducible refine rr_dr ?_ | with_reducible refine rr_st ?_ (by simp; try omega) _))⟩
  case rest =>
   obtain ⟨W, b10, b11, rfl, rfl, rfl, z1, z2, z3, z4, z5, a0, a1, a2, b0, b1, b2, r0, r1, r2, s0, s1, s2, t0, t1, t2, u0, u1, u2, fr, fs, ft, fu, bW⟩ := hcut
   rename_i K1 hK1
   refine hK1 _ _ ?_
   clear hK1
   go_step
   go_cut [10, 11] from 30 to 99 (fun s u X => ∃ W2 : World, W2 = X ∧ s = .pointer (some ⟨b10, 0, none⟩) ∧ u = .pointer (some ⟨b11, 0, none⟩) ∧ X.cell? ⟨w.heap.size + 1 + 1, 0, none⟩ = some (.bool false) ∧ X.cell? ⟨w.heap.size + 1 + 1, 1, none⟩ = some (.int .u64 0) ∧ X.cell? ⟨w.heap.size + 1 + 1, 2, none⟩ = some (.int .u64 0) ∧ X.cell? ⟨w.heap.size + 1 + 1 + 1, 0, none⟩ = some (.bool false) ∧ X.cell? ⟨w.heap.size + 1 + 1 + 1, 1, none⟩ = some (.int .u64 0) ∧ X.cell? ⟨w.heap.size + 1 + 1 + 1, 2, none⟩ = some (.int .u64 0) ∧ X.cell? ⟨b10, 0, none⟩ = some (.bool pe) ∧ X.cell? ⟨b10, 1, none⟩ = some (.int .u64 pl) ∧ X.cell? ⟨b10, 2, none⟩ = some (.int .u64 ph) ∧ X.cell? ⟨b11, 0, none⟩ = some (.bool qe) ∧ X.cell? ⟨b11, 1, none⟩ = some (.int .u64 ql) ∧ X.cell? ⟨b11, 2, none⟩ = some (.int .u64 qh) ∧ (∀ j, X.frozen? ⟨w.heap.size + 1 + 1, j, none⟩ = false) ∧ (∀ j, X.frozen? ⟨w.heap.size + 1 + 1 + 1, j, none⟩ = false) ∧ w.heap.size + 4 ≤ X.heap.size ∧ Below w.heap.size w X)
   case first =>
    go_wp2_with (first
      | (go_at_call 27; refine (k1 _).mono ?_; rintro e v1 ⟨rfl, g⟩; replace a0 := sO g a0; replace a1 := sO g a1; replace a2 := sO g a2; replace b0 := sO g b0; replace b1 := sO g b1; replace b2 := sO g b2; replace r0 := sO g r0; replace r1 := sO g r1; replace r2 := sO g r2; replace s0 := sO g s0; replace s1 := sO g s1; replace s2 := sO g s2; replace t0 := sO g t0; replace t1 := sO g t1; replace t2 := sO g t2; replace u0 := sO g u0; replace u1 := sO g u1; replace u2 := sO g u2; replace bW := sp_call bW g; have z_v1 := g.size; replace fr : ∀ j, v1.frozen? ⟨w.heap.size + 1 + 1, j, none⟩ = false := fun j => (g.frozen (p := ⟨w.heap.size + 1 + 1, j, none⟩) (by simp; omega)).trans (fr j); replace fs : ∀ j, v1.frozen? ⟨w.heap.size + 1 + 1 + 1, j, none⟩ = false := fun j => (g.frozen (p := ⟨w.heap.size + 1 + 1 + 1, j, none⟩) (by simp; omega)).trans (fs j); replace ft : ∀ j, v1.frozen? ⟨b10, j, none⟩ = false := fun j => (g.frozen (p := ⟨b10, j, none⟩) (by simp; omega)).trans (ft j); replace fu : ∀ j, v1.frozen? ⟨b11, j, none⟩ = false := fun j => (g.frozen (p := ⟨b11, j, none⟩) (by simp; omega)).trans (fu j); clear g)
      | fail)
    go_meet
    exact ⟨_, rfl, rfl, rfl, sp_keep3 (sp_keep3 r0 (by omega) _ _ _) (by omega) _ _ _, sp_keep3 (sp_keep3 r1 (by omega) _ _ _) (by omega) _ _ _, sp_keep3 (sp_keep3 r2 (by omega) _ _ _) (by omega) _ _ _, sp_keep3 (sp_keep3 s0 (by omega) _ _ _) (by omega) _ _ _, sp_keep3 (sp_keep3 s1 (by omega) _ _ _) (by omega) _ _ _, sp_keep3 (sp_keep3 s2 (by omega) _ _ _) (by omega) _ _ _, by simp [go_sem, t0, t1, t2, u0, u1, u2, z3, Ne.symm z3], by simp [go_sem, t0, t1, t2, u0, u1, u2, z3, Ne.symm z3], by simp [go_sem, t0, t1, t2, u0, u1, u2, z3, Ne.symm z3], by rw [he.out]; simp [go_sem, t0, t1, t2, u0, u1, u2, z3, Ne.symm z3], by rw [hl.out]; simp [go_sem, t0, t1, t2, u0, u1, u2, z3, Ne.symm z3], by rw [hh.out]; simp [go_sem, t0, t1, t2, u0, u1, u2, z3, Ne.symm z3], by intro j; simp [go_sem, fr], by intro j; simp [go_sem, fs], by simp; omega, by (repeat (first | with_reducible exact bW | with_reducible refine rr_dr ?_ | with_reducible refine rr_st ?_ (by omega) _))⟩
   case rest =>
    try clear he hl hh
    clear a0 a1 a2 b0 b1 b2 r0 r1 r2 s0 s1 s2 t0 t1 t2 u0 u1 u2 fr fs ft fu bW z4 z5
    obtain ⟨X, rfl, rfl, rfl, r0, r1, r2, s0, s1, s2, t0, t1, t2, u0, u1, u2, fr, fs, zX, bW⟩ := hcut
    cases pe
    · cases qe
      · go_upto_region 24 with fail
        go_region
        all_goals go_wp2_with fail
        all_goals exact bodyPost_ret (v := .tuple #[.agg #[.bool false, .int .u64 pl, .int .u64 ph], .agg #[.bool false, .int .u64 ql, .int .u64 qh]]) (by simp [results, Tryz.results39, go_sem, r0, r1, r2, s0, s1, s2]) rfl ⟨by simp, by (repeat (first | with_reducible exact bW | with_reducible refine rr_dr ?_ | with_reducible refine rr_st ?_ (by omega) _))⟩
      · go_wp2_with (first
          | (go_at_call 80; refine (hn _).mono ?_; rintro e vn ⟨rfl, g⟩; replace r0 := sO g r0; replace r1 := sO g r1; replace r2 := sO g r2; replace s0 := sO g s0; replace s1 := sO g s1; replace s2 := sO g s2; replace bW := sp_call bW g; have z_vn := g.size; replace fr : ∀ j, vn.frozen? ⟨w.heap.size + 1 + 1, j, none⟩ = false := fun j => (g.frozen (p := ⟨w.heap.size + 1 + 1, j, none⟩) (by simp; omega)).trans (fr j); replace fs : ∀ j, vn.frozen? ⟨w.heap.size + 1 + 1 + 1, j, none⟩ = false := fun j => (g.frozen (p := ⟨w.heap.size + 1 + 1 + 1, j, none⟩) (by simp; omega)).trans (fs j); clear g; clear hn)
          | (go_at_call 80; refine (hn2 _).mono ?_; rintro e vn2 ⟨rfl, g⟩; replace r0 := sO g r0; replace r1 := sO g r1; replace r2 := sO g r2; replace s0 := sO g s0; replace s1 := sO g s1; replace s2 := sO g s2; replace bW := sp_call bW g; have z_vn2 := g.size; replace fr : ∀ j, vn2.frozen? ⟨w.heap.size + 1 + 1, j, none⟩ = false := fun j => (g.frozen (p := ⟨w.heap.size + 1 + 1, j, none⟩) (by simp; omega)).trans (fr j); replace fs : ∀ j, vn2.frozen? ⟨w.heap.size + 1 + 1 + 1, j, none⟩ = false := fun j => (g.frozen (p := ⟨w.heap.size + 1 + 1 + 1, j, none⟩) (by simp; omega)).trans (fs j); clear g; clear hn2)
          | fail)
        exact bodyPost_ret (v := .tuple #[.agg #[.bool true, .int .u64 0, .int .u64 0], .agg #[.bool true, .int .u64 0, .int .u64 0]]) (by simp [results, Tryz.results39, go_sem, r0, r1, r2, s0, s1, s2]) rfl ⟨by simp, by (repeat (first | with_reducible exact bW | with_reducible refine rr_dr ?_ | with_reducible refine rr_st ?_ (by omega) _))⟩
    · go_wp2_with (first
        | (go_at_call 80; refine (hn _).mono ?_; rintro e vn ⟨rfl, g⟩; replace r0 := sO g r0; replace r1 := sO g r1; replace r2 := sO g r2; replace s0 := sO g s0; replace s1 := sO g s1; replace s2 := sO g s2; replace bW := sp_call bW g; have z_vn := g.size; replace fr : ∀ j, vn.frozen? ⟨w.heap.size + 1 + 1, j, none⟩ = false := fun j => (g.frozen (p := ⟨w.heap.size + 1 + 1, j, none⟩) (by simp; omega)).trans (fr j); replace fs : ∀ j, vn.frozen? ⟨w.heap.size + 1 + 1 + 1, j, none⟩ = false := fun j => (g.frozen (p := ⟨w.heap.size + 1 + 1 + 1, j, none⟩) (by simp; omega)).trans (fs j); clear g; clear hn)
        | (go_at_call 80; refine (hn2 _).mono ?_; rintro e vn2 ⟨rfl, g⟩; replace r0 := sO g r0; replace r1 := sO g r1; replace r2 := sO g r2; replace s0 := sO g s0; replace s1 := sO g s1; replace s2 := sO g s2; replace bW := sp_call bW g; have z_vn2 := g.size; replace fr : ∀ j, vn2.frozen? ⟨w.heap.size + 1 + 1, j, none⟩ = false := fun j => (g.frozen (p := ⟨w.heap.size + 1 + 1, j, none⟩) (by simp; omega)).trans (fr j); replace fs : ∀ j, vn2.frozen? ⟨w.heap.size + 1 + 1 + 1, j, none⟩ = false := fun j => (g.frozen (p := ⟨w.heap.size + 1 + 1 + 1, j, none⟩) (by simp; omega)).trans (fs j); clear g; clear hn2)
        | fail)
      exact bodyPost_ret (v := .tuple #[.agg #[.bool true, .int .u64 0, .int .u64 0], .agg #[.bool true, .int .u64 0, .int .u64 0]]) (by simp [results, Tryz.results39, go_sem, r0, r1, r2, s0, s1, s2]) rfl ⟨by simp, by (repeat (first | with_reducible exact bW | with_reducible refine rr_dr ?_ | with_reducible refine rr_st ?_ (by omega) _))⟩
set_option maxRecDepth 100000 in
set_option maxHeartbeats 6400000 in
theorem rr_ne (f : Int) (a b c d : Int) (pe qe : Bool) (pl ph ql qh : Int) (hp : (c = d ∧ ∀ V, Calls Tryz.prog 101 #[.int .i64 f, .agg #[.bool false, .int .u64 a, .int .u64 b], .int .u64 c] V fun e w' => e = .returned (.agg #[.bool pe, .int .u64 pl, .int .u64 ph]) ∧ Below V.heap.size V w') ∨ (¬ c = d ∧ pe = false ∧ pl = a ∧ ph = b)) (hq : (a = b ∧ ∀ V, Calls Tryz.prog 101 #[.int .i64 f, .agg #[.bool false, .int .u64 c, .int .u64 d], .int .u64 a] V fun e w' => e = .returned (.agg #[.bool qe, .int .u64 ql, .int .u64 qh]) ∧ Below V.heap.size V w') ∨ (¬ a = b ∧ qe = false ∧ ql = c ∧ qh = d)) (w : World) :
    Calls Tryz.prog 39 #[.int .i64 f, .int .i64 17, .agg #[.bool false, .int .u64 a, .int .u64 b], .agg #[.bool false, .int .u64 c, .int .u64 d]] w fun e w' => e = .returned (.tuple #[.agg #[.bool (bothP (pe, pl, ph) (qe, ql, qh)).1.1, .int .u64 (bothP (pe, pl, ph) (qe, ql, qh)).1.2.1, .int .u64 (bothP (pe, pl, ph) (qe, ql, qh)).1.2.2], .agg #[.bool (bothP (pe, pl, ph) (qe, ql, qh)).2.1, .int .u64 (bothP (pe, pl, ph) (qe, ql, qh)).2.2.1, .int .u64 (bothP (pe, pl, ph) (qe, ql, qh)).2.2.2]]) ∧ Below w.heap.size w w' := by
  have hn : ∀ V, Calls Tryz.prog 80 #[] V fun e w' => e = .returned (.agg #[.bool true, .int .u64 0, .int .u64 0]) ∧ Below V.heap.size V w' := fun V => (rnoneF V).mono fun e w' h => ⟨h.1, by rw [h.2]; exact sp_new (Below.refl _ _) _⟩
  have hn2 := hn
  unfold bothP
  dsimp only
  go_enter Tryz.func39, Tryz.ntmps39
  go_upto_region 5 with fail
  go_cut [10, 11] from 28 to 29 (fun s u X => ∃ (W : World) (b10 b11 : Nat), W = X ∧ s = .pointer (some ⟨b10, 0, none⟩) ∧ u = .pointer (some ⟨b11, 0, none⟩) ∧ w.heap.size + 4 ≤ b10 ∧ w.heap.size + 4 ≤ b11 ∧ b10 ≠ b11 ∧ b10 < X.heap.size ∧ b11 < X.heap.size ∧ X.cell? ⟨w.heap.size, 0, none⟩ = some (.bool false) ∧ X.cell? ⟨w.heap.size, 1, none⟩ = some (.int .u64 a) ∧ X.cell? ⟨w.heap.size, 2, none⟩ = some (.int .u64 b) ∧ X.cell? ⟨w.heap.size + 1, 0, none⟩ = some (.bool false) ∧ X.cell? ⟨w.heap.size + 1, 1, none⟩ = some (.int .u64 c) ∧ X.cell? ⟨w.heap.size + 1, 2, none⟩ = some (.int .u64 d) ∧ X.cell? ⟨w.heap.size + 1 + 1, 0, none⟩ = some (.bool false) ∧ X.cell? ⟨w.heap.size + 1 + 1, 1, none⟩ = some (.int .u64 0) ∧ X.cell? ⟨w.heap.size + 1 + 1, 2, none⟩ = some (.int .u64 0) ∧ X.cell? ⟨w.heap.size + 1 + 1 + 1, 0, none⟩ = some (.bool false) ∧ X.cell? ⟨w.heap.size + 1 + 1 + 1, 1, none⟩ = some (.int .u64 0) ∧ X.cell? ⟨w.heap.size + 1 + 1 + 1, 2, none⟩ = some (.int .u64 0) ∧ X.cell? ⟨b10, 0, none⟩ = some (.bool false) ∧ X.cell? ⟨b10, 1, none⟩ = some (.int .u64 a) ∧ X.cell? ⟨b10, 2, none⟩ = some (.int .u64 b) ∧ X.cell? ⟨b11, 0, none⟩ = some (.bool false) ∧ X.cell? ⟨b11, 1, none⟩ = some (.int .u64 c) ∧ X.cell? ⟨b11, 2, none⟩ = some (.int .u64 d) ∧ (∀ j, X.frozen? ⟨w.heap.size + 1 + 1, j, none⟩ = false) ∧ (∀ j, X.frozen? ⟨w.heap.size + 1 + 1 + 1, j, none⟩ = false) ∧ (∀ j, X.frozen? ⟨b10, j, none⟩ = false) ∧ (∀ j, X.frozen? ⟨b11, j, none⟩ = false) ∧ Below w.heap.size w X)
  case first =>
   go_region
   all_goals go_wp2_with fail
   all_goals go_meet
   all_goals exact ⟨_, _, _, rfl, rfl, rfl, by simp, by simp, by simp, by simp, by simp, by simp [go_sem], by simp [go_sem], by simp [go_sem], by simp [go_sem], by simp [go_sem], by simp [go_sem], by simp [go_sem], by simp [go_sem], by simp [go_sem], by simp [go_sem], by simp [go_sem], by simp [go_sem], by simp [go_sem], by simp [go_sem], by simp [go_sem], by simp [go_sem], by simp [go_sem], by simp [go_sem], by intro j; simp [go_sem], by intro j; simp [go_sem], by intro j; simp [go_sem], by intro j; simp [go_sem], by (repeat (first | exact Below.refl _ _ | with_reducible refine sp_new ?_ _ | with_reducible refine rr_dr ?_ | with_reducible refine rr_st ?_ (by simp; try omega) _))⟩
  case rest =>
   obtain ⟨W, b10, b11, rfl, rfl, rfl, z1, z2, z3, z4, z5, a0, a1, a2, b0, b1, b2, r0, r1, r2, s0, s1, s2, t0, t1, t2, u0, u1, u2, fr, fs, ft, fu, bW⟩ := hcut
   rename_i K1 hK1
   refine hK1 _ _ ?_
   clear hK1
   go_step
   go_cut [10, 11] from 30 to 99 (fun s u X => ∃ W2 : World, W2 = X ∧ s = .pointer (some ⟨b10, 0, none⟩) ∧ u = .pointer (some ⟨b11, 0, none⟩) ∧ X.cell? ⟨w.heap.size + 1 + 1, 0, none⟩ = some (.bool false) ∧ X.cell? ⟨w.heap.size + 1 + 1, 1, none⟩ = some (.int .u64 0) ∧ X.cell? ⟨w.heap.size + 1 + 1, 2, none⟩ = some (.int .u64 0) ∧ X.cell? ⟨w.heap.size + 1 + 1 + 1, 0, none⟩ = some (.bool false) ∧ X.cell? ⟨w.heap.size + 1 + 1 + 1, 1, none⟩ = some (.int .u64 0) ∧ X.cell? ⟨w.heap.size + 1 + 1 + 1, 2, none⟩ = some (.int .u64 0) ∧ X.cell? ⟨b10, 0, none⟩ = some (.bool pe) ∧ X.cell? ⟨b10, 1, none⟩ = some (.int .u64 pl) ∧ X.cell? ⟨b10, 2, none⟩ = some (.int .u64 ph) ∧ X.cell? ⟨b11, 0, none⟩ = some (.bool qe) ∧ X.cell? ⟨b11, 1, none⟩ = some (.int .u64 ql) ∧ X.cell? ⟨b11, 2, none⟩ = some (.int .u64 qh) ∧ (∀ j, X.frozen? ⟨w.heap.size + 1 + 1, j, none⟩ = false) ∧ (∀ j, X.frozen? ⟨w.heap.size + 1 + 1 + 1, j, none⟩ = false) ∧ w.heap.size + 4 ≤ X.heap.size ∧ Below w.heap.size w X)
   case first =>
    rcases hp with ⟨h1, k1⟩ | ⟨h1, rfl, rfl, rfl⟩
    · subst h1
      rcases hq with ⟨h2, k2⟩ | ⟨h2, rfl, rfl, rfl⟩
      · subst h2
        go_upto_region 9 with (first
          | (go_at_call 101; refine (k1 _).mono ?_; rintro e v1 ⟨rfl, g⟩; replace a0 := sO g a0; replace a1 := sO g a1; replace a2 := sO g a2; replace b0 := sO g b0; replace b1 := sO g b1; replace b2 := sO g b2; replace r0 := sO g r0; replace r1 := sO g r1; replace r2 := sO g r2; replace s0 := sO g s0; replace s1 := sO g s1; replace s2 := sO g s2; replace t0 := sO g t0; replace t1 := sO g t1; replace t2 := sO g t2; replace u0 := sO g u0; replace u1 := sO g u1; replace u2 := sO g u2; replace bW := sp_call bW g; have z_v1 := g.size; replace fr : ∀ j, v1.frozen? ⟨w.heap.size + 1 + 1, j, none⟩ = false := fun j => (g.frozen (p := ⟨w.heap.size + 1 + 1, j, none⟩) (by simp; omega)).trans (fr j); replace fs : ∀ j, v1.frozen? ⟨w.heap.size + 1 + 1 + 1, j, none⟩ = false := fun j => (g.frozen (p := ⟨w.heap.size + 1 + 1 + 1, j, none⟩) (by simp; omega)).trans (fs j); replace ft : ∀ j, v1.frozen? ⟨b10, j, none⟩ = false := fun j => (g.frozen (p := ⟨b10, j, none⟩) (by simp; omega)).trans (ft j); replace fu : ∀ j, v1.frozen? ⟨b11, j, none⟩ = false := fun j => (g.frozen (p := ⟨b11, j, none⟩) (by simp; omega)).trans (fu j); clear g; clear k1)
          | fail)
        obtain ⟨W6, hW⟩ : ∃ W6, (((v1.setCell ⟨b10, 0, none⟩ (.bool pe)).setCell ⟨b10, 1, none⟩ (.int .u64 pl)).setCell ⟨b10, 2, none⟩ (.int .u64 ph)) = W6 := ⟨_, rfl⟩
        replace t0 : W6.cell? ⟨b10, 0, none⟩ = some (.bool pe) := by rw [← hW]; simp [go_sem, t0, t1, t2]
        replace t1 : W6.cell? ⟨b10, 1, none⟩ = some (.int .u64 pl) := by rw [← hW]; simp [go_sem, t1, t2]
        replace t2 : W6.cell? ⟨b10, 2, none⟩ = some (.int .u64 ph) := by rw [← hW]; simp [go_sem, t2]
        replace a0 := hW ▸ sp_keep3 (b := b10) a0 (by omega) (.bool pe) (.int .u64 pl) (.int .u64 ph)
        replace a1 := hW ▸ sp_keep3 (b := b10) a1 (by omega) (.bool pe) (.int .u64 pl) (.int .u64 ph)
        replace a2 := hW ▸ sp_keep3 (b := b10) a2 (by omega) (.bool pe) (.int .u64 pl) (.int .u64 ph)
        replace b0 := hW ▸ sp_keep3 (b := b10) b0 (by omega) (.bool pe) (.int .u64 pl) (.int .u64 ph)
        replace b1 := hW ▸ sp_keep3 (b := b10) b1 (by omega) (.bool pe) (.int .u64 pl) (.int .u64 ph)
        replace b2 := hW ▸ sp_keep3 (b := b10) b2 (by omega) (.bool pe) (.int .u64 pl) (.int .u64 ph)
        replace r0 := hW ▸ sp_keep3 (b := b10) r0 (by omega) (.bool pe) (.int .u64 pl) (.int .u64 ph)
        replace r1 := hW ▸ sp_keep3 (b := b10) r1 (by omega) (.bool pe) (.int .u64 pl) (.int .u64 ph)
        replace r2 := hW ▸ sp_keep3 (b := b10) r2 (by omega) (.bool pe) (.int .u64 pl) (.int .u64 ph)
        replace s0 := hW ▸ sp_keep3 (b := b10) s0 (by omega) (.bool pe) (.int .u64 pl) (.int .u64 ph)
        replace s1 := hW ▸ sp_keep3 (b := b10) s1 (by omega) (.bool pe) (.int .u64 pl) (.int .u64 ph)
        replace s2 := hW ▸ sp_keep3 (b := b10) s2 (by omega) (.bool pe) (.int .u64 pl) (.int .u64 ph)
        replace u0 := hW ▸ sp_keep3 (b := b10) u0 (by omega) (.bool pe) (.int .u64 pl) (.int .u64 ph)
        replace u1 := hW ▸ sp_keep3 (b := b10) u1 (by omega) (.bool pe) (.int .u64 pl) (.int .u64 ph)
        replace u2 := hW ▸ sp_keep3 (b := b10) u2 (by omega) (.bool pe) (.int .u64 pl) (.int .u64 ph)
        replace fr : ∀ j, W6.frozen? ⟨w.heap.size + 1 + 1, j, none⟩ = false := by intro j; rw [← hW]; simp [go_sem, fr]
        replace fs : ∀ j, W6.frozen? ⟨w.heap.size + 1 + 1 + 1, j, none⟩ = false := by intro j; rw [← hW]; simp [go_sem, fs]
        replace ft : ∀ j, W6.frozen? ⟨b10, j, none⟩ = false := by intro j; rw [← hW]; simp [go_sem, ft]
        replace fu : ∀ j, W6.frozen? ⟨b11, j, none⟩ = false := by intro j; rw [← hW]; simp [go_sem, fu]
        replace bW : Below w.heap.size w W6 := by rw [← hW]; (repeat (first | with_reducible exact bW | with_reducible refine rr_dr ?_ | with_reducible refine rr_st ?_ (by omega) _))
        have zs_W6 : W6.heap.size = v1.heap.size := by rw [← hW]; simp
        rw [hW]
        clear hW
        go_wp2_with (first
          | (go_at_call 101; refine (k2 _).mono ?_; rintro e v2 ⟨rfl, g⟩; replace a0 := sO g a0; replace a1 := sO g a1; replace a2 := sO g a2; replace b0 := sO g b0; replace b1 := sO g b1; replace b2 := sO g b2; replace r0 := sO g r0; replace r1 := sO g r1; replace r2 := sO g r2; replace s0 := sO g s0; replace s1 := sO g s1; replace s2 := sO g s2; replace t0 := sO g t0; replace t1 := sO g t1; replace t2 := sO g t2; replace u0 := sO g u0; replace u1 := sO g u1; replace u2 := sO g u2; replace bW := sp_call bW g; have z_v2 := g.size; replace fr : ∀ j, v2.frozen? ⟨w.heap.size + 1 + 1, j, none⟩ = false := fun j => (g.frozen (p := ⟨w.heap.size + 1 + 1, j, none⟩) (by simp; omega)).trans (fr j); replace fs : ∀ j, v2.frozen? ⟨w.heap.size + 1 + 1 + 1, j, none⟩ = false := fun j => (g.frozen (p := ⟨w.heap.size + 1 + 1 + 1, j, none⟩) (by simp; omega)).trans (fs j); replace ft : ∀ j, v2.frozen? ⟨b10, j, none⟩ = false := fun j => (g.frozen (p := ⟨b10, j, none⟩) (by simp; omega)).trans (ft j); replace fu : ∀ j, v2.frozen? ⟨b11, j, none⟩ = false := fun j => (g.frozen (p := ⟨b11, j, none⟩) (by simp; omega)).trans (fu j); clear g)
          | fail)
        go_meet
        exact ⟨_, rfl, rfl, rfl, sp_keep3 r0 (by omega) _ _ _, sp_keep3 r1 (by omega) _ _ _, sp_keep3 r2 (by omega) _ _ _, sp_keep3 s0 (by omega) _ _ _, sp_keep3 s1 (by omega) _ _ _, sp_keep3 s2 (by omega) _ _ _, by simp [go_sem, t0, t1, t2, u0, u1, u2, z3, Ne.symm z3], by simp [go_sem, t0, t1, t2, u0, u1, u2, z3, Ne.symm z3], by simp [go_sem, t0, t1, t2, u0, u1, u2, z3, Ne.symm z3], by simp [go_sem, t0, t1, t2, u0, u1, u2, z3, Ne.symm z3], by simp [go_sem, t0, t1, t2, u0, u1, u2, z3, Ne.symm z3], by simp [go_sem, t0, t1, t2, u0, u1, u2, z3, Ne.symm z3], by intro j; simp [go_sem, fr], by intro j; simp [go_sem, fs], by simp; omega, by (repeat (first | with_reducible exact bW | with_reducible refine rr_dr ?_ | with_reducible refine rr_st ?_ (by omega) _))⟩
      · skip
        go_wp2_with (first
          | (go_at_call 101; refine (k1 _).mono ?_; rintro e v1 ⟨rfl, g⟩; replace a0 := sO g a0; replace a1 := sO g a1; replace a2 := sO g a2; replace b0 := sO g b0; replace b1 := sO g b1; replace b2 := sO g b2; replace r0 := sO g r0; replace r1 := sO g r1; replace r2 := sO g r2; replace s0 := sO g s0; replace s1 := sO g s1; replace s2 := sO g s2; replace t0 := sO g t0; replace t1 := sO g t1; replace t2 := sO g t2; replace u0 := sO g u0; replace u1 := sO g u1; replace u2 := sO g u2; replace bW := sp_call bW g; have z_v1 := g.size; replace fr : ∀ j, v1.frozen? ⟨w.heap.size + 1 + 1, j, none⟩ = false := fun j => (g.frozen (p := ⟨w.heap.size + 1 + 1, j, none⟩) (by simp; omega)).trans (fr j); replace fs : ∀ j, v1.frozen? ⟨w.heap.size + 1 + 1 + 1, j, none⟩ = false := fun j => (g.frozen (p := ⟨w.heap.size + 1 + 1 + 1, j, none⟩) (by simp; omega)).trans (fs j); replace ft : ∀ j, v1.frozen? ⟨b10, j, none⟩ = false := fun j => (g.frozen (p := ⟨b10, j, none⟩) (by simp; omega)).trans (ft j); replace fu : ∀ j, v1.frozen? ⟨b11, j, none⟩ = false := fun j => (g.frozen (p := ⟨b11, j, none⟩) (by simp; omega)).trans (fu j); clear g; clear k1)
          | fail)
        go_meet
        exact ⟨_, rfl, rfl, rfl, sp_keep3 r0 (by omega) _ _ _, sp_keep3 r1 (by omega) _ _ _, sp_keep3 r2 (by omega) _ _ _, sp_keep3 s0 (by omega) _ _ _, sp_keep3 s1 (by omega) _ _ _, sp_keep3 s2 (by omega) _ _ _, by simp [go_sem, t0, t1, t2, u0, u1, u2, z3, Ne.symm z3], by simp [go_sem, t0, t1, t2, u0, u1, u2, z3, Ne.symm z3], by simp [go_sem, t0, t1, t2, u0, u1, u2, z3, Ne.symm z3], by simp [go_sem, t0, t1, t2, u0, u1, u2, z3, Ne.symm z3], by simp [go_sem, t0, t1, t2, u0, u1, u2, z3, Ne.symm z3], by simp [go_sem, t0, t1, t2, u0, u1, u2, z3, Ne.symm z3], by intro j; simp [go_sem, fr], by intro j; simp [go_sem, fs], by simp; omega, by (repeat (first | with_reducible exact bW | with_reducible refine rr_dr ?_ | with_reducible refine rr_st ?_ (by omega) _))⟩
    · rcases hq with ⟨h2, k2⟩ | ⟨h2, rfl, rfl, rfl⟩
      · subst h2
        go_wp2_with (first
          | (go_at_call 101; refine (k2 _).mono ?_; rintro e v2 ⟨rfl, g⟩; replace a0 := sO g a0; replace a1 := sO g a1; replace a2 := sO g a2; replace b0 := sO g b0; replace b1 := sO g b1; replace b2 := sO g b2; replace r0 := sO g r0; replace r1 := sO g r1; replace r2 := sO g r2; replace s0 := sO g s0; replace s1 := sO g s1; replace s2 := sO g s2; replace t0 := sO g t0; replace t1 := sO g t1; replace t2 := sO g t2; replace u0 := sO g u0; replace u1 := sO g u1; replace u2 := sO g u2; replace bW := sp_call bW g; have z_v2 := g.size; replace fr : ∀ j, v2.frozen? ⟨w.heap.size + 1 + 1, j, none⟩ = false := fun j => (g.frozen (p := ⟨w.heap.size + 1 + 1, j, none⟩) (by simp; omega)).trans (fr j); replace fs : ∀ j, v2.frozen? ⟨w.heap.size + 1 + 1 + 1, j, none⟩ = false := fun j => (g.frozen (p := ⟨w.heap.size + 1 + 1 + 1, j, none⟩) (by simp; omega)).trans (fs j); replace ft : ∀ j, v2.frozen? ⟨b10, j, none⟩ = false := fun j => (g.frozen (p := ⟨b10, j, none⟩) (by simp; omega)).trans (ft j); replace fu : ∀ j, v2.frozen? ⟨b11, j, none⟩ = false := fun j => (g.frozen (p := ⟨b11, j, none⟩) (by simp; omega)).trans (fu j); clear g)
          | fail)
        go_meet
        exact ⟨_, rfl, rfl, rfl, sp_keep3 r0 (by omega) _ _ _, sp_keep3 r1 (by omega) _ _ _, sp_keep3 r2 (by omega) _ _ _, sp_keep3 s0 (by omega) _ _ _, sp_keep3 s1 (by omega) _ _ _, sp_keep3 s2 (by omega) _ _ _, by simp [go_sem, t0, t1, t2, u0, u1, u2, z3, Ne.symm z3], by simp [go_sem, t0, t1, t2, u0, u1, u2, z3, Ne.symm z3], by simp [go_sem, t0, t1, t2, u0, u1, u2, z3, Ne.symm z3], by simp [go_sem, t0, t1, t2, u0, u1, u2, z3, Ne.symm z3], by simp [go_sem, t0, t1, t2, u0, u1, u2, z3, Ne.symm z3], by simp [go_sem, t0, t1, t2, u0, u1, u2, z3, Ne.symm z3], by intro j; simp [go_sem, fr], by intro j; simp [go_sem, fs], by simp; omega, by (repeat (first | with_reducible exact bW | with_reducible refine rr_dr ?_ | with_reducible refine rr_st ?_ (by omega) _))⟩
      · go_wp2_with fail
        go_meet
        exact ⟨_, rfl, rfl, rfl, r0, r1, r2, s0, s1, s2, t0, t1, t2, u0, u1, u2, fr, fs, by omega, by (repeat (first | with_reducible exact bW | with_reducible refine rr_dr ?_ | with_reducible refine rr_st ?_ (by omega) _))⟩
   case rest =>
    try clear he hl hh
    clear a0 a1 a2 b0 b1 b2 r0 r1 r2 s0 s1 s2 t0 t1 t2 u0 u1 u2 fr fs ft fu bW z4 z5
    obtain ⟨X, rfl, rfl, rfl, r0, r1, r2, s0, s1, s2, t0, t1, t2, u0, u1, u2, fr, fs, zX, bW⟩ := hcut
    cases pe
    · cases qe
      · go_upto_region 24 with fail
        go_region
        all_goals go_wp2_with fail
        all_goals exact bodyPost_ret (v := .tuple #[.agg #[.bool false, .int .u64 pl, .int .u64 ph], .agg #[.bool false, .int .u64 ql, .int .u64 qh]]) (by simp [results, Tryz.results39, go_sem, r0, r1, r2, s0, s1, s2]) rfl ⟨by simp, by (repeat (first | with_reducible exact bW | with_reducible refine rr_dr ?_ | with_reducible refine rr_st ?_ (by omega) _))⟩
      · go_wp2_with (first
          | (go_at_call 80; refine (hn _).mono ?_; rintro e vn ⟨rfl, g⟩; replace r0 := sO g r0; replace r1 := sO g r1; replace r2 := sO g r2; replace s0 := sO g s0; replace s1 := sO g s1; replace s2 := sO g s2; replace bW := sp_call bW g; have z_vn := g.size; replace fr : ∀ j, vn.frozen? ⟨w.heap.size + 1 + 1, j, none⟩ = false := fun j => (g.frozen (p := ⟨w.heap.size + 1 + 1, j, none⟩) (by simp; omega)).trans (fr j); replace fs : ∀ j, vn.frozen? ⟨w.heap.size + 1 + 1 + 1, j, none⟩ = false := fun j => (g.frozen (p := ⟨w.heap.size + 1 + 1 + 1, j, none⟩) (by simp; omega)).trans (fs j); clear g; clear hn)
          | (go_at_call 80; refine (hn2 _).mono ?_; rintro e vn2 ⟨rfl, g⟩; replace r0 := sO g r0; replace r1 := sO g r1; replace r2 := sO g r2; replace s0 := sO g s0; replace s1 := sO g s1; replace s2 := sO g s2; replace bW := sp_call bW g; have z_vn2 := g.size; replace fr : ∀ j, vn2.frozen? ⟨w.heap.size + 1 + 1, j, none⟩ = false := fun j => (g.frozen (p := ⟨w.heap.size + 1 + 1, j, none⟩) (by simp; omega)).trans (fr j); replace fs : ∀ j, vn2.frozen? ⟨w.heap.size + 1 + 1 + 1, j, none⟩ = false := fun j => (g.frozen (p := ⟨w.heap.size + 1 + 1 + 1, j, none⟩) (by simp; omega)).trans (fs j); clear g; clear hn2)
          | fail)
        exact bodyPost_ret (v := .tuple #[.agg #[.bool true, .int .u64 0, .int .u64 0], .agg #[.bool true, .int .u64 0, .int .u64 0]]) (by simp [results, Tryz.results39, go_sem, r0, r1, r2, s0, s1, s2]) rfl ⟨by simp, by (repeat (first | with_reducible exact bW | with_reducible refine rr_dr ?_ | with_reducible refine rr_st ?_ (by omega) _))⟩
    · go_wp2_with (first
        | (go_at_call 80; refine (hn _).mono ?_; rintro e vn ⟨rfl, g⟩; replace r0 := sO g r0; replace r1 := sO g r1; replace r2 := sO g r2; replace s0 := sO g s0; replace s1 := sO g s1; replace s2 := sO g s2; replace bW := sp_call bW g; have z_vn := g.size; replace fr : ∀ j, vn.frozen? ⟨w.heap.size + 1 + 1, j, none⟩ = false := fun j => (g.frozen (p := ⟨w.heap.size + 1 + 1, j, none⟩) (by simp; omega)).trans (fr j); replace fs : ∀ j, vn.frozen? ⟨w.heap.size + 1 + 1 + 1, j, none⟩ = false := fun j => (g.frozen (p := ⟨w.heap.size + 1 + 1 + 1, j, none⟩) (by simp; omega)).trans (fs j); clear g; clear hn)
        | (go_at_call 80; refine (hn2 _).mono ?_; rintro e vn2 ⟨rfl, g⟩; replace r0 := sO g r0; replace r1 := sO g r1; replace r2 := sO g r2; replace s0 := sO g s0; replace s1 := sO g s1; replace s2 := sO g s2; replace bW := sp_call bW g; have z_vn2 := g.size; replace fr : ∀ j, vn2.frozen? ⟨w.heap.size + 1 + 1, j, none⟩ = false := fun j => (g.frozen (p := ⟨w.heap.size + 1 + 1, j, none⟩) (by simp; omega)).trans (fr j); replace fs : ∀ j, vn2.frozen? ⟨w.heap.size + 1 + 1 + 1, j, none⟩ = false := fun j => (g.frozen (p := ⟨w.heap.size + 1 + 1 + 1, j, none⟩) (by simp; omega)).trans (fs j); clear g; clear hn2)
        | fail)
      exact bodyPost_ret (v := .tuple #[.agg #[.bool true, .int .u64 0, .int .u64 0], .agg #[.bool true, .int .u64 0, .int .u64 0]]) (by simp [results, Tryz.results39, go_sem, r0, r1, r2, s0, s1, s2]) rfl ⟨by simp, by (repeat (first | with_reducible exact bW | with_reducible refine rr_dr ?_ | with_reducible refine rr_st ?_ (by omega) _))⟩
set_option maxRecDepth 100000 in
set_option maxHeartbeats 6400000 in
theorem rr_none (f op : Int) (h12 : 12 ≤ op) (h17 : op ≤ 17) (e1 : Bool) (a b : Int) (e2 : Bool) (c d : Int) (he : (e1 || e2) = true) (w : World) :
    Calls Tryz.prog 39 #[.int .i64 f, .int .i64 op, .agg #[.bool e1, .int .u64 a, .int .u64 b], .agg #[.bool e2, .int .u64 c, .int .u64 d]] w fun e w' => e = .returned (.tuple #[.agg #[.bool true, .int .u64 0, .int .u64 0], .agg #[.bool true, .int .u64 0, .int .u64 0]]) ∧ Below w.heap.size w w' := by
  have hn : ∀ V, Calls Tryz.prog 80 #[] V fun e w' => e = .returned (.agg #[.bool true, .int .u64 0, .int .u64 0]) ∧ w' = V.alloc (.cells #[.bool true, .int .u64 0, .int .u64 0] 25) := fun V => rnoneF V
  have g1 : ¬ op < 12 := by omega
  have g2 : ¬ 17 < op := by omega
  clear h12 h17
  cases e1
  · cases e2
    · simp at he
    · clear he
      go_enter Tryz.func39, Tryz.ntmps39
      go_wp2_with (go_at_call 80; refine (hn _).mono ?_; rintro e v1 ⟨rfl, rfl⟩)
      exact bodyPost_ret (v := .tuple #[.agg #[.bool true, .int .u64 0, .int .u64 0], .agg #[.bool true, .int .u64 0, .int .u64 0]]) (by simp [results, Tryz.results39, go_sem]) rfl ⟨by simp, by (repeat (first | exact Below.refl _ _ | with_reducible refine sp_new ?_ _ | with_reducible refine rr_st ?_ (by simp; try omega) _))⟩
  · clear he
    go_enter Tryz.func39, Tryz.ntmps39
    go_wp2_with (go_at_call 80; refine (hn _).mono ?_; rintro e v1 ⟨rfl, rfl⟩)
    exact bodyPost_ret (v := .tuple #[.agg #[.bool true, .int .u64 0, .int .u64 0], .agg #[.bool true, .int .u64 0, .int .u64 0]]) (by simp [results, Tryz.results39, go_sem]) rfl ⟨by simp, by (repeat (first | exact Below.refl _ _ | with_reducible refine sp_new ?_ _ | with_reducible refine rr_st ?_ (by simp; try omega) _))⟩
set_option maxRecDepth 100000 in
set_option maxHeartbeats 6400000 in
theorem rr_out (f op : Int) (ho : op < 12 ∨ 17 < op) (e1 : Bool) (a b : Int) (e2 : Bool) (c d : Int) (w : World) :
    Calls Tryz.prog 39 #[.int .i64 f, .int .i64 op, .agg #[.bool e1, .int .u64 a, .int .u64 b], .agg #[.bool e2, .int .u64 c, .int .u64 d]] w fun e w' => e = .returned (.tuple #[.agg #[.bool e1, .int .u64 a, .int .u64 b], .agg #[.bool e2, .int .u64 c, .int .u64 d]]) ∧ Below w.heap.size w w' := by
  rcases ho with g1 | g2
  · go_enter Tryz.func39, Tryz.ntmps39
    go_upto_region 2 with fail
    go_region
    all_goals go_wp2_with fail
    all_goals exact bodyPost_ret (v := .tuple #[.agg #[.bool e1, .int .u64 a, .int .u64 b], .agg #[.bool e2, .int .u64 c, .int .u64 d]]) (by simp [results, Tryz.results39, go_sem]) rfl ⟨by simp, by (repeat (first | exact Below.refl _ _ | with_reducible refine sp_new ?_ _ | with_reducible refine rr_dr ?_ | with_reducible refine rr_st ?_ (by simp; try omega) _))⟩
  · have g1 : ¬ op < 12 := by omega
    go_enter Tryz.func39, Tryz.ntmps39
    go_upto_region 2 with fail
    go_region
    all_goals go_wp2_with fail
    all_goals exact bodyPost_ret (v := .tuple #[.agg #[.bool e1, .int .u64 a, .int .u64 b], .agg #[.bool e2, .int .u64 c, .int .u64 d]]) (by simp [results, Tryz.results39, go_sem]) rfl ⟨by simp, by (repeat (first | exact Below.refl _ _ | with_reducible refine sp_new ?_ _ | with_reducible refine rr_dr ?_ | with_reducible refine rr_st ?_ (by simp; try omega) _))⟩
end Go.Proofs.YthjoigkckgdcaaaGreat


