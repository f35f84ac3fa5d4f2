/- plumblineref08 of floats: None, least, Of, Top, Meet, Join, Within, Widen. -/
import Derived.Test.YteafnkimcidkhaaGreatSpRf
namespace Go.Proofs.YteafnkimcidkhaaGreat
open Go.RowKit
set_option linter.unusedVariables false
set_option linter.unusedSimpArgs false
theorem sp_set1r {w W : World} (h : Below w.heap.size w W) {b j : Nat} (hb : w.heap.size ≤ b) (x : Value) : Below w.heap.size w (W.setCell ⟨b, j, none⟩ x) := h.setCell (p := ⟨b, j, none⟩) hb x
set_option maxRecDepth 100000 in
set_option maxHeartbeats 6400000 in
theorem rnoneF (w : World) : Calls Tryz.prog 55 #[] w fun e w' => e = .returned (.agg #[.bool true, .int .u64 0, .int .u64 0]) ∧ w' = w.alloc (.cells #[.bool true, .int .u64 0, .int .u64 0] 24) := by
  go_enter Tryz.func55, Tryz.ntmps55
  go_wp2_with fail
  exact bodyPost_ret (v := .agg #[.bool true, .int .u64 0, .int .u64 0]) (by simp [results, Tryz.results55, go_sem]) rfl ⟨rfl, rfl⟩
/-- What two ranges have in common, and from the lesser end to the greater one, as the reference says. -/
def rMeetF (s : Bool) (p q : Bool × Int × Int) : Bool × Int × Int := if p.1 || q.1 then (true, 0, 0) else if lessF s (if lessF s q.2.2 p.2.2 then q.2.2 else p.2.2) (if lessF s p.2.1 q.2.1 then q.2.1 else p.2.1) then (true, 0, 0) else (false, if lessF s p.2.1 q.2.1 then q.2.1 else p.2.1, if lessF s q.2.2 p.2.2 then q.2.2 else p.2.2)
def rJoinF (s : Bool) (p q : Bool × Int × Int) : Bool × Int × Int := if p.1 then q else if q.1 then p else (false, if lessF s q.2.1 p.2.1 then q.2.1 else p.2.1, if lessF s p.2.2 q.2.2 then q.2.2 else p.2.2)
def rWithinF (s : Bool) (p q : Bool × Int × Int) : Bool := p.1 || (!q.1 && (!lessF s p.2.1 q.2.1 && !lessF s q.2.2 p.2.2))
set_option maxRecDepth 100000 in
set_option maxHeartbeats 6400000 in
theorem rjoinF_any (s : Bool) (e1 : Bool) (a b : Int) (e2 : Bool) (c d : Int) (h1 : Word a) (h2 : Word b) (h3 : Word c) (h4 : Word d) (w : World) : Calls Tryz.prog 48 #[.int .i64 (fb s), .agg #[.bool e1, .int .u64 a, .int .u64 b], .agg #[.bool e2, .int .u64 c, .int .u64 d]] w fun r w' => r = .returned (.agg #[.bool (rJoinF s (e1, a, b) (e2, c, d)).1, .int .u64 (rJoinF s (e1, a, b) (e2, c, d)).2.1, .int .u64 (rJoinF s (e1, a, b) (e2, c, d)).2.2]) ∧ Below w.heap.size w w' := by
  have hda : ∀ (w : World) (n : Nat) (o : Obj), (w.drewN n).alloc o = (w.alloc o).drewN n := fun _ _ _ => rfl
  have hds : ∀ (w : World) (n : Nat) (p : Addr) (v : Value), (w.drewN n).setCell p v = (w.setCell p v).drewN n := fun _ _ _ _ => rfl
  unfold rJoinF
  dsimp only
  cases e1
  · cases e2
    · simp only [Bool.false_eq_true, if_false]
      have l1 := rless_any s c a h3 h1
      have l2 := rless_any s b d h2 h4
      rcases q1 : lessF s c a with _ | _
      · rw [q1] at l1
        rcases q2 : lessF s b d with _ | _
        · rw [q2] at l2
          clear q1 q2
          generalize fb s = f at *
          simp only [Bool.false_eq_true, if_false, if_true]
          go_enter Tryz.func48, Tryz.ntmps48
          go_wp2_with (first
            | (go_at_call 82; refine (l1 _).mono ?_; rintro e w_l1 ⟨rfl, n_l1, rfl⟩; clear l1)
            | (go_at_call 82; refine (l2 _).mono ?_; rintro e w_l2 ⟨rfl, n_l2, rfl⟩; clear l2)
            | fail)
          exact bodyPost_ret (v := .agg #[.bool false, .int .u64 a, .int .u64 b]) (by simp [results, Tryz.results48, go_sem]) rfl ⟨by simp [*], by (repeat (first | with_reducible exact Below.refl _ _ | with_reducible assumption | with_reducible refine sp_dNr ?_ _ | with_reducible refine sp_new ?_ _ | with_reducible refine sp_drewr ?_ | with_reducible refine sp_set1r ?_ (by omega) _))⟩
        · rw [q2] at l2
          clear q1 q2
          generalize fb s = f at *
          simp only [Bool.false_eq_true, if_false, if_true]
          go_enter Tryz.func48, Tryz.ntmps48
          go_wp2_with (first
            | (go_at_call 82; refine (l1 _).mono ?_; rintro e w_l1 ⟨rfl, n_l1, rfl⟩; clear l1)
            | (go_at_call 82; refine (l2 _).mono ?_; rintro e w_l2 ⟨rfl, n_l2, rfl⟩; clear l2)
            | fail)
          exact bodyPost_ret (v := .agg #[.bool false, .int .u64 a, .int .u64 d]) (by simp [results, Tryz.results48, go_sem]) rfl ⟨by simp [*], by (repeat (first | with_reducible exact Below.refl _ _ | with_reducible assumption | with_reducible refine sp_dNr ?_ _ | with_reducible refine sp_new ?_ _ | with_reducible refine sp_drewr ?_ | with_reducible refine sp_set1r ?_ (by omega) _))⟩
      · rw [q1] at l1
        rcases q2 : lessF s b d with _ | _
        · rw [q2] at l2
          clear q1 q2
          generalize fb s = f at *
          simp only [Bool.false_eq_true, if_false, if_true]
          go_enter Tryz.func48, Tryz.ntmps48
          go_wp2_with (first
            | (go_at_call 82; refine (l1 _).mono ?_; rintro e w_l1 ⟨rfl, n_l1, rfl⟩; clear l1)
            | (go_at_call 82; refine (l2 _).mono ?_; rintro e w_l2 ⟨rfl, n_l2, rfl⟩; clear l2)
            | fail)
          exact bodyPost_ret (v := .agg #[.bool false, .int .u64 c, .int .u64 b]) (by simp [results, Tryz.results48, go_sem]) rfl ⟨by simp [*], by (repeat (first | with_reducible exact Below.refl _ _ | with_reducible assumption | with_reducible refine sp_dNr ?_ _ | with_reducible refine sp_new ?_ _ | with_reducible refine sp_drewr ?_ | with_reducible refine sp_set1r ?_ (by omega) _))⟩
        · rw [q2] at l2
          clear q1 q2
          generalize fb s = f at *
          simp only [Bool.false_eq_true, if_false, if_true]
          go_enter Tryz.func48, Tryz.ntmps48
          go_wp2_with (first
            | (go_at_call 82; refine (l1 _).mono ?_; rintro e w_l1 ⟨rfl, n_l1, rfl⟩; clear l1)
            | (go_at_call 82; refine (l2 _).mono ?_; rintro e w_l2 ⟨rfl, n_l2, rfl⟩; clear l2)
            | fail)
          exact bodyPost_ret (v := .agg #[.bool false, .int .u64 c, .int .u64 d]) (by simp [results, Tryz.results48, go_sem]) rfl ⟨by simp [*], by (repeat (first | with_reducible exact Below.refl _ _ | with_reducible assumption | with_reducible refine sp_dNr ?_ _ | with_reducible refine sp_new ?_ _ | with_reducible refine sp_drewr ?_ | with_reducible refine sp_set1r ?_ (by omega) _))⟩
    · simp only [if_true, Bool.false_eq_true, if_false]
      generalize fb s = f at *
      go_enter Tryz.func48, Tryz.ntmps48
      go_wp2_with (first
        | fail)
      exact bodyPost_ret (v := .agg #[.bool false, .int .u64 a, .int .u64 b]) (by simp [results, Tryz.results48, go_sem]) rfl ⟨by simp [*], by (repeat (first | with_reducible exact Below.refl _ _ | with_reducible assumption | with_reducible refine sp_dNr ?_ _ | with_reducible refine sp_new ?_ _ | with_reducible refine sp_drewr ?_ | with_reducible refine sp_set1r ?_ (by omega) _))⟩
  · simp only [if_true]
    generalize fb s = f at *
    go_enter Tryz.func48, Tryz.ntmps48
    go_wp2_with (first
      | fail)
    exact bodyPost_ret (v := .agg #[.bool e2, .int .u64 c, .int .u64 d]) (by simp [results, Tryz.results48, go_sem]) rfl ⟨by simp [*], by (repeat (first | with_reducible exact Below.refl _ _ | with_reducible assumption | with_reducible refine sp_dNr ?_ _ | with_reducible refine sp_new ?_ _ | with_reducible refine sp_drewr ?_ | with_reducible refine sp_set1r ?_ (by omega) _))⟩
set_option maxRecDepth 100000 in
set_option maxHeartbeats 6400000 in
theorem rwithinF_any (s : Bool) (e1 : Bool) (a b : Int) (e2 : Bool) (c d : Int) (h1 : Word a) (h2 : Word b) (h3 : Word c) (h4 : Word d) (w : World) : Calls Tryz.prog 49 #[.int .i64 (fb s), .agg #[.bool e1, .int .u64 a, .int .u64 b], .agg #[.bool e2, .int .u64 c, .int .u64 d]] w fun r w' => r = .returned (.bool (rWithinF s (e1, a, b) (e2, c, d))) ∧ Below w.heap.size w w' := by
  unfold rWithinF
  dsimp only
  have l1 := rless_any s a c h1 h3
  have l2 := rless_any s d b h4 h2
  generalize lessF s a c = L1 at *
  generalize lessF s d b = L2 at *
  generalize fb s = f at *
  cases e1
  · cases e2
    · cases L1
      · cases L2
        all_goals
          go_enter Tryz.func49, Tryz.ntmps49
          go_wp2_with (first
            | (go_at_call 82; refine (l1 _).mono ?_; rintro e w_l1 ⟨rfl, n_l1, rfl⟩; clear l1)
            | (go_at_call 82; refine (l2 _).mono ?_; rintro e w_l2 ⟨rfl, n_l2, rfl⟩; clear l2)
            | fail)
          go_ret
          exact ⟨by simp [*], by (repeat (first | with_reducible exact Below.refl _ _ | with_reducible assumption | with_reducible refine sp_dNr ?_ _ | with_reducible refine sp_new ?_ _ | with_reducible refine sp_drewr ?_ | with_reducible refine sp_set1r ?_ (by omega) _))⟩
      · skip
        go_enter Tryz.func49, Tryz.ntmps49
        go_wp2_with (first
          | (go_at_call 82; refine (l1 _).mono ?_; rintro e w_l1 ⟨rfl, n_l1, rfl⟩; clear l1)
          | (go_at_call 82; refine (l2 _).mono ?_; rintro e w_l2 ⟨rfl, n_l2, rfl⟩; clear l2)
          | fail)
        go_ret
        exact ⟨by simp [*], by (repeat (first | with_reducible exact Below.refl _ _ | with_reducible assumption | with_reducible refine sp_dNr ?_ _ | with_reducible refine sp_new ?_ _ | with_reducible refine sp_drewr ?_ | with_reducible refine sp_set1r ?_ (by omega) _))⟩
    · skip
      go_enter Tryz.func49, Tryz.ntmps49
      go_wp2_with (first
        | fail)
      go_ret
      exact ⟨by simp [*], by (repeat (first | with_reducible exact Below.refl _ _ | with_reducible assumption | with_reducible refine sp_dNr ?_ _ | with_reducible refine sp_new ?_ _ | with_reducible refine sp_drewr ?_ | with_reducible refine sp_set1r ?_ (by omega) _))⟩
  · skip
    go_enter Tryz.func49, Tryz.ntmps49
    go_wp2_with (first
      | fail)
    go_ret
    exact ⟨by simp [*], by (repeat (first | with_reducible exact Below.refl _ _ | with_reducible assumption | with_reducible refine sp_dNr ?_ _ | with_reducible refine sp_new ?_ _ | with_reducible refine sp_drewr ?_ | with_reducible refine sp_set1r ?_ (by omega) _))⟩
end Go.Proofs.YteafnkimcidkhaaGreat

