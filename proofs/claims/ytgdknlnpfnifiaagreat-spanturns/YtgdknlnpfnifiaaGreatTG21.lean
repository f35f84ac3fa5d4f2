/- Texts of the proof, put together. -/
import Derived.Test.YtgdknlnpfnifiaaGreatTSpFl
import Derived.Deep.DeepCutAuto
import Derived.Test.YtgdknlnpfnifiaaGreatTG9
import Derived.Test.YtgdknlnpfnifiaaGreatTG2
import Derived.Test.YtgdknlnpfnifiaaGreatTG7
import Derived.Test.YtgdknlnpfnifiaaGreatTG19
import Derived.Test.YtgdknlnpfnifiaaGreatTG20
import Derived.Test.YtgdknlnpfnifiaaGreatTG16
namespace Go.Proofs.YtgdknlnpfnifiaaGreat
open Go.RowKit
set_option linter.unusedVariables false
set_option linter.unusedSimpArgs false
end Go.Proofs.YtgdknlnpfnifiaaGreat


namespace Go.Proofs.YtgdknlnpfnifiaaGreat
open Go.RowKit
set_option linter.unusedVariables false
set_option linter.unusedSimpArgs false
end Go.Proofs.YtgdknlnpfnifiaaGreat


namespace Go.Proofs.YtgdknlnpfnifiaaGreat
open Go.RowKit
set_option linter.unusedVariables false
set_option linter.unusedSimpArgs false
theorem of_num (x y : Int) (p : Bool × Int × Int) (hp : ofP WyI x y = p) (hx : -9223372036854775808 ≤ x ∧ x ≤ 9223372036854775807) (hy : -9223372036854775808 ≤ y ∧ y ≤ 9223372036854775807) (w : World) :
    Calls Tryz.prog 20 #[.int .i64 x, .int .i64 y] w fun e w' => e = .returned (.agg #[.bool p.1, .int .i64 p.2.1, .int .i64 p.2.2]) ∧ Below w.heap.size w w' := by
  subst hp
  exact intOf_any x y hx hy w
theorem topw : Word (negF false (fI false - 1)) ∧ Word (fI false - 1) ∧ rightP (WyF false) (false, negF false (fI false - 1), fI false - 1) = true := by
  refine ⟨⟨by decide +kernel, by decide +kernel⟩, ⟨by decide, by decide⟩, by decide +kernel⟩
set_option maxRecDepth 100000 in
set_option maxHeartbeats 6400000 in
theorem live_any (w : World) : Calls Tryz.prog 7 #[] w fun e w' => e = .returned (.bool true) ∧ Below w.heap.size w w' := by
  have o1 := of_num 1 3 (false, 1, 3) (by decide) (by decide) (by decide)
  have o2 := of_num (-2) 2 (false, -2, 2) (by decide) (by decide) (by decide)
  have o3 := of_num 1 1 (false, 1, 1) (by decide) (by decide) (by decide)
  have o4 := of_num (-1) 1 (false, -1, 1) (by decide) (by decide) (by decide)
  have o5 := of_num (-6) 6 (false, -6, 6) (by decide) (by decide) (by decide)
  have m1 := live_mul
  have m2 := live_div
  have rb : ∀ V, Calls Tryz.prog 21 #[.int .i64 5] V fun e w' => e = .returned (.int .i64 16) ∧ Below V.heap.size V w' := fun V => (rbit_5 V).mono fun e w' h => ⟨h.1, by rw [h.2]; exact Below.refl _ _⟩
  obtain ⟨w1, w2, w3⟩ := topw
  have t1 : ∀ V, Calls Tryz.prog 23 #[.int .i64 0] V fun e w' => e = .returned (.agg #[.bool false, .int .u64 (negF false (fI false - 1)), .int .u64 (fI false - 1)]) ∧ Below V.heap.size V w' := fun V => top_any 0 V
  have t2 : ∀ V, Calls Tryz.prog 22 #[.int .i64 0, .agg #[.bool false, .int .u64 (negF false (fI false - 1)), .int .u64 (fI false - 1)]] V fun e w' => e = .returned (.bool true) ∧ Below V.heap.size V w' := fun V => by
    rw [← w3]
    exact right_any 0 false _ _ w1 w2 V
  clear w1 w2 w3
  generalize negF false (fI false - 1) = lo at *
  generalize fI false - 1 = hi at *
  dsimp only at o1 o2 o3 o4 o5
  go_enter Tryz.func7, Tryz.ntmps7
  go_upto_region 1 with fail
  go_cut [1, 2] from 5 to 10 (fun s u X => ∃ (W1 : World) (b1 : Nat), W1 = X ∧ s = .pointer (some ⟨b1, 0, none⟩) ∧ u = .int .i64 0 ∧ X.cell? ⟨b1, 0, none⟩ = some (.bool false) ∧ X.cell? ⟨b1, 1, none⟩ = some (.int .i64 (-6)) ∧ X.cell? ⟨b1, 2, none⟩ = some (.int .i64 6) ∧ Below w.heap.size w X)
  case first =>
   go_wp2_with (first
     | (go_at_call 20; refine (o1 _).mono ?_; rintro e v1 ⟨rfl, g1⟩)
     | (go_at_call 20; refine (o2 _).mono ?_; rintro e v2 ⟨rfl, g2⟩)
     | (go_at_call 19; refine (m1 _).mono ?_; rintro e v3 ⟨rfl, g3⟩)
     | fail)
   go_meet
   have g := sp_call (sp_call g1 g2) g3
   have zg := g.size
   exact ⟨_, _, rfl, rfl, rfl, by simp [go_sem], by simp [go_sem], by simp [go_sem], by (repeat (first | exact Below.refl _ _ | assumption | with_reducible refine sp_new ?_ _ | with_reducible refine sp_set1f ?_ (by omega) _))⟩
  case rest =>
   obtain ⟨W1, b1, rfl, rfl, rfl, a0, a1, a2, cX⟩ := hcut
   have bX := cX
   clear cX
   go_upto_region 2 with fail
   go_cut [3, 4] from 11 to 16 (fun s u X => ∃ (W2 : World) (b3 : Nat), W2 = X ∧ s = .pointer (some ⟨b3, 0, none⟩) ∧ u = .int .i64 16 ∧ X.cell? ⟨b3, 0, none⟩ = some (.bool false) ∧ X.cell? ⟨b3, 1, none⟩ = some (.int .i64 (-1)) ∧ X.cell? ⟨b3, 2, none⟩ = some (.int .i64 1) ∧ Below W1.heap.size W1 X)
   case first =>
    go_wp2_with (first
      | (go_at_call 20; refine (o3 _).mono ?_; rintro e v1 ⟨rfl, g1⟩)
      | (go_at_call 20; refine (o4 _).mono ?_; rintro e v2 ⟨rfl, g2⟩)
      | (go_at_call 19; refine (m2 _).mono ?_; rintro e v3 ⟨rfl, g3⟩)
      | fail)
    go_meet
    have g := sp_call (sp_call g1 g2) g3
    have zg := g.size
    exact ⟨_, _, rfl, rfl, rfl, by simp [go_sem], by simp [go_sem], by simp [go_sem], by (repeat (first | exact Below.refl _ _ | assumption | with_reducible refine sp_new ?_ _ | with_reducible refine sp_set1f ?_ (by omega) _))⟩
   case rest =>
    obtain ⟨W2, b3, rfl, rfl, rfl, c0, c1, c2, cX⟩ := hcut
    replace a0 := sO cX a0
    replace a1 := sO cX a1
    replace a2 := sO cX a2
    replace bX := sp_call bX cX
    clear cX
    go_upto_region 3 with fail
    go_region_held3 (fun w' => w'.cell? ⟨b1, 0, none⟩ = some (.bool false) ∧ w'.cell? ⟨b1, 1, none⟩ = some (.int .i64 (-6)) ∧ w'.cell? ⟨b1, 2, none⟩ = some (.int .i64 6) ∧ w'.cell? ⟨b3, 0, none⟩ = some (.bool false) ∧ w'.cell? ⟨b3, 1, none⟩ = some (.int .i64 (-1)) ∧ w'.cell? ⟨b3, 2, none⟩ = some (.int .i64 1)) (exact ⟨a0, a1, a2, c0, c1, c2⟩)
      (first
        | (go_at_call 20; refine (o5 _).mono ?_; rintro e u1 ⟨rfl, g⟩; replace g : Below W2.heap.size W2 u1 := ⟨g.os, g.tape, g.output, g.size, g.block⟩; replace bX := sp_call bX g; replace a0 := sO g a0; replace a1 := sO g a1; replace a2 := sO g a2; replace c0 := sO g c0; replace c1 := sO g c1; replace c2 := sO g c2; clear g)
        | (go_at_call 20; refine (o4 _).mono ?_; rintro e u2 ⟨rfl, g⟩; replace g : Below u1.heap.size u1 u2 := ⟨g.os, g.tape, g.output, g.size, g.block⟩; replace bX := sp_call bX g; replace a0 := sO g a0; replace a1 := sO g a1; replace a2 := sO g a2; replace c0 := sO g c0; replace c1 := sO g c1; replace c2 := sO g c2; clear g)
        | (go_at_call 21; refine (rb _).mono ?_; rintro e u3 ⟨rfl, g⟩; replace g : Below u2.heap.size u2 u3 := ⟨g.os, g.tape, g.output, g.size, g.block⟩; replace bX := sp_call bX g; replace a0 := sO g a0; replace a1 := sO g a1; replace a2 := sO g a2; replace c0 := sO g c0; replace c1 := sO g c1; replace c2 := sO g c2; clear g)
        | (go_at_call 23; refine (t1 _).mono ?_; rintro e u4 ⟨rfl, g⟩; replace g : Below u3.heap.size u3 u4 := ⟨g.os, g.tape, g.output, g.size, g.block⟩; replace bX := sp_call bX g; replace a0 := sO g a0; replace a1 := sO g a1; replace a2 := sO g a2; replace c0 := sO g c0; replace c1 := sO g c1; replace c2 := sO g c2; clear g)
        | (go_at_call 22; refine (t2 _).mono ?_; rintro e u5 ⟨rfl, g⟩; replace g : Below u4.heap.size u4 u5 := ⟨g.os, g.tape, g.output, g.size, g.block⟩; replace bX := sp_call bX g; replace a0 := sO g a0; replace a1 := sO g a1; replace a2 := sO g a2; replace c0 := sO g c0; replace c1 := sO g c1; replace c2 := sO g c2; clear g)
        | fail)
    all_goals go_wp2
    all_goals go_ret
    all_goals exact ⟨rfl, bX⟩
end Go.Proofs.YtgdknlnpfnifiaaGreat


namespace Go.Proofs.YtgdknlnpfnifiaaGreat
open Go.RowKit
set_option linter.unusedVariables false
set_option linter.unusedSimpArgs false
theorem fb_eq (s : Bool) : (fb s == 1) = s := by cases s <;> rfl
theorem b_eq {e r : Ending} {V w' : World} (h : e = r ∧ w' = V) : e = r ∧ Below V.heap.size V w' := ⟨h.1, by rw [h.2]; exact Below.refl _ _⟩
set_option maxRecDepth 100000 in
theorem format8 (p : Int) (w : World) : Calls Tryz.prog 5 #[.int .i64 p] w fun e w' => e = .returned (.int .i64 (fb (p == 1))) ∧ w' = w := by
  by_cases c : p = 1
  · subst c
    go_enter Tryz.func5, Tryz.ntmps5
    go_wp2_with fail
    go_ret
    exact ⟨rfl, rfl⟩
  · have c1 : (p == 1) = false := by simp [c]
    rw [c1]
    clear c
    go_enter Tryz.func5, Tryz.ntmps5
    go_wp2_with fail
    go_ret
    exact ⟨rfl, rfl⟩
end Go.Proofs.YtgdknlnpfnifiaaGreat


