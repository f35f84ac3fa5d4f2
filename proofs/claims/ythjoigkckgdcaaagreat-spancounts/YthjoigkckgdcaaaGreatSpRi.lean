/- plumblineref08 of ints: IntNone, IntMeet, IntJoin, IntWithin. -/
import Derived.Test.YthjoigkckgdcaaaGreatSpR
namespace Go.Proofs.YthjoigkckgdcaaaGreat
open Go.RowKit
set_option linter.unusedVariables false
set_option linter.unusedSimpArgs false
theorem sp_set1i {w W : World} (h : Below w.heap.size w W) {b j : Nat} (hb : w.heap.size ≤ b) (x : Value) : Below w.heap.size w (W.setCell ⟨b, j, none⟩ x) := h.setCell (p := ⟨b, j, none⟩) hb x
/-- What two ranges of ints have in common, and from the lesser end to the greater one, as the reference says. -/
def rMeetI (p q : Bool × Int × Int) : Bool × Int × Int := if p.1 || q.1 then (true, 0, 0) else if min p.2.2 q.2.2 < max p.2.1 q.2.1 then (true, 0, 0) else (false, max p.2.1 q.2.1, min p.2.2 q.2.2)
def rJoinI (p q : Bool × Int × Int) : Bool × Int × Int := if p.1 then q else if q.1 then p else (false, min p.2.1 q.2.1, max p.2.2 q.2.2)
def rWithinI (p q : Bool × Int × Int) : Bool := p.1 || (!q.1 && (decide (q.2.1 ≤ p.2.1) && decide (p.2.2 ≤ q.2.2)))
set_option maxRecDepth 100000 in
set_option maxHeartbeats 6400000 in
theorem rnoneI (w : World) : Calls Tryz.prog 113 #[] w fun e w' => e = .returned (.agg #[.bool true, .int .i64 0, .int .i64 0]) ∧ w' = w.alloc (.cells #[.bool true, .int .i64 0, .int .i64 0] 47) := by
  go_enter Tryz.func113, Tryz.ntmps113
  go_wp2_with fail
  exact bodyPost_ret (v := .agg #[.bool true, .int .i64 0, .int .i64 0]) (by simp [results, Tryz.results113, go_sem]) rfl ⟨rfl, rfl⟩
set_option maxRecDepth 100000 in
set_option maxHeartbeats 6400000 in
theorem rmeetI_any (e1 : Bool) (a b : Int) (e2 : Bool) (c d : Int) (w : World) : Calls Tryz.prog 55 #[.agg #[.bool e1, .int .i64 a, .int .i64 b], .agg #[.bool e2, .int .i64 c, .int .i64 d]] w fun r w' => r = .returned (.agg #[.bool (rMeetI (e1, a, b) (e2, c, d)).1, .int .i64 (rMeetI (e1, a, b) (e2, c, d)).2.1, .int .i64 (rMeetI (e1, a, b) (e2, c, d)).2.2]) ∧ Below w.heap.size w w' := by
  obtain ⟨R, HR⟩ : ∃ R, rMeetI (e1, a, b) (e2, c, d) = R := ⟨_, rfl⟩
  rw [HR]
  unfold rMeetI at HR
  dsimp only at HR
  cases e1
  · cases e2
    · simp only [Bool.or_self, Bool.false_eq_true, if_false] at HR
      by_cases q1 : a < c
      · skip
        by_cases q2 : d < b
        · rw [show max a c = c by omega, show min b d = d by omega] at HR
          by_cases q3 : d < c
          · rw [if_pos q3] at HR
            subst HR
            go_enter Tryz.func55, Tryz.ntmps55
            go_wp2_with (first
              | (go_at_call 113; refine (rnoneI _).mono ?_; rintro e w9 ⟨rfl, rfl⟩)
              | fail)
            exact bodyPost_ret (v := .agg #[.bool true, .int .i64 0, .int .i64 0]) (by simp [results, Tryz.results55, go_sem]) rfl ⟨rfl, by (repeat (first | with_reducible exact Below.refl _ _ | with_reducible assumption | with_reducible refine sp_new ?_ _ | with_reducible refine sp_set1i ?_ (by omega) _))⟩
          · rw [if_neg q3] at HR
            subst HR
            go_enter Tryz.func55, Tryz.ntmps55
            go_wp2_with (first
              | (go_at_call 113; refine (rnoneI _).mono ?_; rintro e w9 ⟨rfl, rfl⟩)
              | fail)
            exact bodyPost_ret (v := .agg #[.bool false, .int .i64 c, .int .i64 d]) (by simp [results, Tryz.results55, go_sem]) rfl ⟨rfl, by (repeat (first | with_reducible exact Below.refl _ _ | with_reducible assumption | with_reducible refine sp_new ?_ _ | with_reducible refine sp_set1i ?_ (by omega) _))⟩
        · rw [show max a c = c by omega, show min b d = b by omega] at HR
          by_cases q3 : b < c
          · rw [if_pos q3] at HR
            subst HR
            go_enter Tryz.func55, Tryz.ntmps55
            go_wp2_with (first
              | (go_at_call 113; refine (rnoneI _).mono ?_; rintro e w9 ⟨rfl, rfl⟩)
              | fail)
            exact bodyPost_ret (v := .agg #[.bool true, .int .i64 0, .int .i64 0]) (by simp [results, Tryz.results55, go_sem]) rfl ⟨rfl, by (repeat (first | with_reducible exact Below.refl _ _ | with_reducible assumption | with_reducible refine sp_new ?_ _ | with_reducible refine sp_set1i ?_ (by omega) _))⟩
          · rw [if_neg q3] at HR
            subst HR
            go_enter Tryz.func55, Tryz.ntmps55
            go_wp2_with (first
              | (go_at_call 113; refine (rnoneI _).mono ?_; rintro e w9 ⟨rfl, rfl⟩)
              | fail)
            exact bodyPost_ret (v := .agg #[.bool false, .int .i64 c, .int .i64 b]) (by simp [results, Tryz.results55, go_sem]) rfl ⟨rfl, by (repeat (first | with_reducible exact Below.refl _ _ | with_reducible assumption | with_reducible refine sp_new ?_ _ | with_reducible refine sp_set1i ?_ (by omega) _))⟩
      · skip
        by_cases q2 : d < b
        · rw [show max a c = a by omega, show min b d = d by omega] at HR
          by_cases q3 : d < a
          · rw [if_pos q3] at HR
            subst HR
            go_enter Tryz.func55, Tryz.ntmps55
            go_wp2_with (first
              | (go_at_call 113; refine (rnoneI _).mono ?_; rintro e w9 ⟨rfl, rfl⟩)
              | fail)
            exact bodyPost_ret (v := .agg #[.bool true, .int .i64 0, .int .i64 0]) (by simp [results, Tryz.results55, go_sem]) rfl ⟨rfl, by (repeat (first | with_reducible exact Below.refl _ _ | with_reducible assumption | with_reducible refine sp_new ?_ _ | with_reducible refine sp_set1i ?_ (by omega) _))⟩
          · rw [if_neg q3] at HR
            subst HR
            go_enter Tryz.func55, Tryz.ntmps55
            go_wp2_with (first
              | (go_at_call 113; refine (rnoneI _).mono ?_; rintro e w9 ⟨rfl, rfl⟩)
              | fail)
            exact bodyPost_ret (v := .agg #[.bool false, .int .i64 a, .int .i64 d]) (by simp [results, Tryz.results55, go_sem]) rfl ⟨rfl, by (repeat (first | with_reducible exact Below.refl _ _ | with_reducible assumption | with_reducible refine sp_new ?_ _ | with_reducible refine sp_set1i ?_ (by omega) _))⟩
        · rw [show max a c = a by omega, show min b d = b by omega] at HR
          by_cases q3 : b < a
          · rw [if_pos q3] at HR
            subst HR
            go_enter Tryz.func55, Tryz.ntmps55
            go_wp2_with (first
              | (go_at_call 113; refine (rnoneI _).mono ?_; rintro e w9 ⟨rfl, rfl⟩)
              | fail)
            exact bodyPost_ret (v := .agg #[.bool true, .int .i64 0, .int .i64 0]) (by simp [results, Tryz.results55, go_sem]) rfl ⟨rfl, by (repeat (first | with_reducible exact Below.refl _ _ | with_reducible assumption | with_reducible refine sp_new ?_ _ | with_reducible refine sp_set1i ?_ (by omega) _))⟩
          · rw [if_neg q3] at HR
            subst HR
            go_enter Tryz.func55, Tryz.ntmps55
            go_wp2_with (first
              | (go_at_call 113; refine (rnoneI _).mono ?_; rintro e w9 ⟨rfl, rfl⟩)
              | fail)
            exact bodyPost_ret (v := .agg #[.bool false, .int .i64 a, .int .i64 b]) (by simp [results, Tryz.results55, go_sem]) rfl ⟨rfl, by (repeat (first | with_reducible exact Below.refl _ _ | with_reducible assumption | with_reducible refine sp_new ?_ _ | with_reducible refine sp_set1i ?_ (by omega) _))⟩
    · simp only [Bool.or_true, if_true] at HR
      subst HR
      go_enter Tryz.func55, Tryz.ntmps55
      go_wp2_with (first
        | (go_at_call 113; refine (rnoneI _).mono ?_; rintro e w9 ⟨rfl, rfl⟩)
        | fail)
      exact bodyPost_ret (v := .agg #[.bool true, .int .i64 0, .int .i64 0]) (by simp [results, Tryz.results55, go_sem]) rfl ⟨rfl, by (repeat (first | with_reducible exact Below.refl _ _ | with_reducible assumption | with_reducible refine sp_new ?_ _ | with_reducible refine sp_set1i ?_ (by omega) _))⟩
  · simp only [Bool.true_or, if_true] at HR
    subst HR
    go_enter Tryz.func55, Tryz.ntmps55
    go_wp2_with (first
      | (go_at_call 113; refine (rnoneI _).mono ?_; rintro e w9 ⟨rfl, rfl⟩)
      | fail)
    exact bodyPost_ret (v := .agg #[.bool true, .int .i64 0, .int .i64 0]) (by simp [results, Tryz.results55, go_sem]) rfl ⟨rfl, by (repeat (first | with_reducible exact Below.refl _ _ | with_reducible assumption | with_reducible refine sp_new ?_ _ | with_reducible refine sp_set1i ?_ (by omega) _))⟩
set_option maxRecDepth 100000 in
set_option maxHeartbeats 6400000 in
theorem rjoinI_any (e1 : Bool) (a b : Int) (e2 : Bool) (c d : Int) (w : World) : Calls Tryz.prog 57 #[.agg #[.bool e1, .int .i64 a, .int .i64 b], .agg #[.bool e2, .int .i64 c, .int .i64 d]] w fun r w' => r = .returned (.agg #[.bool (rJoinI (e1, a, b) (e2, c, d)).1, .int .i64 (rJoinI (e1, a, b) (e2, c, d)).2.1, .int .i64 (rJoinI (e1, a, b) (e2, c, d)).2.2]) ∧ Below w.heap.size w w' := by
  obtain ⟨R, HR⟩ : ∃ R, rJoinI (e1, a, b) (e2, c, d) = R := ⟨_, rfl⟩
  rw [HR]
  unfold rJoinI at HR
  dsimp only at HR
  cases e1
  · cases e2
    · simp only [Bool.false_eq_true, if_false] at HR
      by_cases q1 : c < a
      · skip
        by_cases q2 : b < d
        · rw [show min a c = c by omega, show max b d = d by omega] at HR
          subst HR
          go_enter Tryz.func57, Tryz.ntmps57
          go_wp2_with (first
            | fail)
          exact bodyPost_ret (v := .agg #[.bool false, .int .i64 c, .int .i64 d]) (by simp [results, Tryz.results57, go_sem]) rfl ⟨rfl, by (repeat (first | with_reducible exact Below.refl _ _ | with_reducible assumption | with_reducible refine sp_new ?_ _ | with_reducible refine sp_set1i ?_ (by omega) _))⟩
        · rw [show min a c = c by omega, show max b d = b by omega] at HR
          subst HR
          go_enter Tryz.func57, Tryz.ntmps57
          go_wp2_with (first
            | fail)
          exact bodyPost_ret (v := .agg #[.bool false, .int .i64 c, .int .i64 b]) (by simp [results, Tryz.results57, go_sem]) rfl ⟨rfl, by (repeat (first | with_reducible exact Below.refl _ _ | with_reducible assumption | with_reducible refine sp_new ?_ _ | with_reducible refine sp_set1i ?_ (by omega) _))⟩
      · skip
        by_cases q2 : b < d
        · rw [show min a c = a by omega, show max b d = d by omega] at HR
          subst HR
          go_enter Tryz.func57, Tryz.ntmps57
          go_wp2_with (first
            | fail)
          exact bodyPost_ret (v := .agg #[.bool false, .int .i64 a, .int .i64 d]) (by simp [results, Tryz.results57, go_sem]) rfl ⟨rfl, by (repeat (first | with_reducible exact Below.refl _ _ | with_reducible assumption | with_reducible refine sp_new ?_ _ | with_reducible refine sp_set1i ?_ (by omega) _))⟩
        · rw [show min a c = a by omega, show max b d = b by omega] at HR
          subst HR
          go_enter Tryz.func57, Tryz.ntmps57
          go_wp2_with (first
            | fail)
          exact bodyPost_ret (v := .agg #[.bool false, .int .i64 a, .int .i64 b]) (by simp [results, Tryz.results57, go_sem]) rfl ⟨rfl, by (repeat (first | with_reducible exact Below.refl _ _ | with_reducible assumption | with_reducible refine sp_new ?_ _ | with_reducible refine sp_set1i ?_ (by omega) _))⟩
    · simp only [if_true, Bool.false_eq_true, if_false] at HR
      subst HR
      go_enter Tryz.func57, Tryz.ntmps57
      go_wp2_with (first
        | fail)
      exact bodyPost_ret (v := .agg #[.bool false, .int .i64 a, .int .i64 b]) (by simp [results, Tryz.results57, go_sem]) rfl ⟨rfl, by (repeat (first | with_reducible exact Below.refl _ _ | with_reducible assumption | with_reducible refine sp_new ?_ _ | with_reducible refine sp_set1i ?_ (by omega) _))⟩
  · simp only [if_true] at HR
    subst HR
    go_enter Tryz.func57, Tryz.ntmps57
    go_wp2_with (first
      | fail)
    exact bodyPost_ret (v := .agg #[.bool e2, .int .i64 c, .int .i64 d]) (by simp [results, Tryz.results57, go_sem]) rfl ⟨rfl, by (repeat (first | with_reducible exact Below.refl _ _ | with_reducible assumption | with_reducible refine sp_new ?_ _ | with_reducible refine sp_set1i ?_ (by omega) _))⟩
set_option maxRecDepth 100000 in
set_option maxHeartbeats 6400000 in
theorem rwithinI_any (e1 : Bool) (a b : Int) (e2 : Bool) (c d : Int) (w : World) : Calls Tryz.prog 59 #[.agg #[.bool e1, .int .i64 a, .int .i64 b], .agg #[.bool e2, .int .i64 c, .int .i64 d]] w fun r w' => r = .returned (.bool (rWithinI (e1, a, b) (e2, c, d))) ∧ Below w.heap.size w w' := by
  unfold rWithinI
  dsimp only
  cases e1
  · cases e2
    · rcases q1 : decide (c ≤ a) with _ | _
      · skip
        go_enter Tryz.func59, Tryz.ntmps59
        go_wp2_with (first
          | fail)
        go_ret
        exact ⟨by simp, by (repeat (first | with_reducible exact Below.refl _ _ | with_reducible assumption | with_reducible refine sp_new ?_ _ | with_reducible refine sp_set1i ?_ (by omega) _))⟩
      · rcases q2 : decide (b ≤ d) with _ | _
        all_goals
          go_enter Tryz.func59, Tryz.ntmps59
          go_wp2_with (first
            | fail)
          go_ret
          exact ⟨by simp, by (repeat (first | with_reducible exact Below.refl _ _ | with_reducible assumption | with_reducible refine sp_new ?_ _ | with_reducible refine sp_set1i ?_ (by omega) _))⟩
    · skip
      go_enter Tryz.func59, Tryz.ntmps59
      go_wp2_with (first
        | fail)
      go_ret
      exact ⟨by simp, by (repeat (first | with_reducible exact Below.refl _ _ | with_reducible assumption | with_reducible refine sp_new ?_ _ | with_reducible refine sp_set1i ?_ (by omega) _))⟩
  · skip
    go_enter Tryz.func59, Tryz.ntmps59
    go_wp2_with (first
      | fail)
    go_ret
    exact ⟨by simp, by (repeat (first | with_reducible exact Below.refl _ _ | with_reducible assumption | with_reducible refine sp_new ?_ _ | with_reducible refine sp_set1i ?_ (by omega) _))⟩
end Go.Proofs.YthjoigkckgdcaaaGreat
