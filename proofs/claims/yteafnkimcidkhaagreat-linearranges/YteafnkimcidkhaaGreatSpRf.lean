/- plumblineref08 of floats: less, Right, Has, None. -/
import Derived.Test.YteafnkimcidkhaaGreatMB5
import Derived.Test.YteafnkimcidkhaaGreatMB3
import Derived.Test.YteafnkimcidkhaaGreatSpL
import Derived.Deep.QuietTactic
import Derived.BigQuiet
namespace Go.Proofs.YteafnkimcidkhaaGreat
open Go.RowKit
set_option linter.unusedVariables false
set_option linter.unusedSimpArgs false
theorem sp_dNr {w W : World} (h : Below w.heap.size w W) (n : Nat) : Below w.heap.size w (W.drewN n) := ⟨h.os, h.tape, h.output, h.size, h.block⟩
theorem sp_drewr {w W : World} (h : Below w.heap.size w W) : Below w.heap.size w W.drew := ⟨h.os, h.tape, h.output, h.size, h.block⟩
/-- Is one below the other? Both are numbers then. -/
def lessF (s : Bool) (a b : Int) : Bool := (cmpF s a b).2 && decide ((cmpF s a b).1 < 0)
set_option maxRecDepth 100000 in
set_option maxHeartbeats 3200000 in
theorem rless_any (s : Bool) (a b : Int) (h1 : Word a) (h2 : Word b) (w : World) : Calls Tryz.prog 82 #[.int .i64 (fb s), .int .u64 a, .int .u64 b] w fun e w' => e = .returned (.bool (lessF s a b)) ∧ ∃ n, w' = w.drewN n := by
  have hc := rcompare_any s a b h1 h2
  unfold lessF
  generalize cmpF s a b = c at *
  generalize fb s = f at *
  obtain ⟨c1, c2⟩ := c
  dsimp only at *
  cases c2
  · go_enter Tryz.func82, Tryz.ntmps82
    go_wp2_with (go_at_call 119; refine (hc _).mono ?_; rintro e w1 ⟨rfl, n, rfl⟩)
    go_ret
    exact ⟨rfl, n, rfl⟩
  · by_cases q : c1 < 0
    · rw [decide_eq_true q]
      go_enter Tryz.func82, Tryz.ntmps82
      go_wp2_with (go_at_call 119; refine (hc _).mono ?_; rintro e w1 ⟨rfl, n, rfl⟩)
      go_ret
      exact ⟨rfl, n, rfl⟩
    · rw [decide_eq_false q]
      have q' : decide (c1 < 0) = false := decide_eq_false q
      clear q
      go_enter Tryz.func82, Tryz.ntmps82
      go_wp2_with (go_at_call 119; refine (hc _).mono ?_; rintro e w1 ⟨rfl, n, rfl⟩)
      go_ret
      exact ⟨rfl, n, rfl⟩
def rRF (s : Bool) (e : Bool) (a b : Int) : Bool := if e then (a == 0 && b == 0) else finF s a && (finF s b && ((plainF s a == a) && ((plainF s b == b) && !lessF s b a)))
set_option maxRecDepth 100000 in
set_option maxHeartbeats 3200000 in
theorem rrightF_any (s : Bool) (e : Bool) (a b : Int) (h1 : Word a) (h2 : Word b) (w : World) : Calls Tryz.prog 47 #[.int .i64 (fb s), .agg #[.bool e, .int .u64 a, .int .u64 b]] w fun r w' => r = .returned (.bool (rRF s e a b)) ∧ Below w.heap.size w w' := by
  have f1 := rfinite_any s a h1
  have f2 := rfinite_any s b h2
  have p1 := rplain3_any s a h1
  have p2 := rplain3_any s b h2
  have l1 := rless_any s b a h2 h1
  unfold rRF
  generalize finF s a = F1 at *
  generalize finF s b = F2 at *
  generalize plainF s a = P1 at *
  generalize plainF s b = P2 at *
  generalize lessF s b a = L1 at *
  generalize fb s = f at *
  cases e
  · simp only [Bool.false_eq_true, if_false]
    cases F1
    · skip
      go_enter Tryz.func47, Tryz.ntmps47
      go_upto_region 3 with fail
      go_quiet ((first
        | (go_at_call_of 44 a; exact Calls.quiet_of (f1 _))
        | (go_at_call_of 44 b; exact Calls.quiet_of (f2 _))
        | (go_at_call 82; exact Calls.quiet_of (l1 _))
        | (go_at_call_of 83 a; exact Calls.quiet_of (p1 _))
        | (go_at_call_of 83 b; exact Calls.quiet_of (p2 _))
        | fail))
      go_wp2
      go_ret
      exact ⟨by simp [*], by (repeat (first | with_reducible exact Below.refl _ _ | with_reducible refine sp_dNr ?_ _ | with_reducible refine sp_new ?_ _ | with_reducible refine sp_drewr ?_))⟩
    · skip
      cases F2
      · skip
        go_enter Tryz.func47, Tryz.ntmps47
        go_upto_region 3 with fail
        go_quiet ((first
          | (go_at_call_of 44 a; exact Calls.quiet_of (f1 _))
          | (go_at_call_of 44 b; exact Calls.quiet_of (f2 _))
          | (go_at_call 82; exact Calls.quiet_of (l1 _))
          | (go_at_call_of 83 a; exact Calls.quiet_of (p1 _))
          | (go_at_call_of 83 b; exact Calls.quiet_of (p2 _))
          | fail))
        go_wp2
        go_ret
        exact ⟨by simp [*], by (repeat (first | with_reducible exact Below.refl _ _ | with_reducible refine sp_dNr ?_ _ | with_reducible refine sp_new ?_ _ | with_reducible refine sp_drewr ?_))⟩
      · skip
        rcases hq1 : (P1 == a) with _ | _
        · skip
          go_enter Tryz.func47, Tryz.ntmps47
          go_upto_region 3 with fail
          go_quiet ((first
            | (go_at_call_of 44 a; exact Calls.quiet_of (f1 _))
            | (go_at_call_of 44 b; exact Calls.quiet_of (f2 _))
            | (go_at_call 82; exact Calls.quiet_of (l1 _))
            | (go_at_call_of 83 a; exact Calls.quiet_of (p1 _))
            | (go_at_call_of 83 b; exact Calls.quiet_of (p2 _))
            | fail))
          go_wp2
          go_ret
          exact ⟨by simp [*], by (repeat (first | with_reducible exact Below.refl _ _ | with_reducible refine sp_dNr ?_ _ | with_reducible refine sp_new ?_ _ | with_reducible refine sp_drewr ?_))⟩
        · skip
          rcases hq2 : (P2 == b) with _ | _
          · skip
            go_enter Tryz.func47, Tryz.ntmps47
            go_upto_region 3 with fail
            go_quiet ((first
              | (go_at_call_of 44 a; exact Calls.quiet_of (f1 _))
              | (go_at_call_of 44 b; exact Calls.quiet_of (f2 _))
              | (go_at_call 82; exact Calls.quiet_of (l1 _))
              | (go_at_call_of 83 a; exact Calls.quiet_of (p1 _))
              | (go_at_call_of 83 b; exact Calls.quiet_of (p2 _))
              | fail))
            go_wp2
            go_ret
            exact ⟨by simp [*], by (repeat (first | with_reducible exact Below.refl _ _ | with_reducible refine sp_dNr ?_ _ | with_reducible refine sp_new ?_ _ | with_reducible refine sp_drewr ?_))⟩
          · skip
            cases L1
            · skip
              go_enter Tryz.func47, Tryz.ntmps47
              go_upto_region 3 with fail
              go_quiet ((first
                | (go_at_call_of 44 a; exact Calls.quiet_of (f1 _))
                | (go_at_call_of 44 b; exact Calls.quiet_of (f2 _))
                | (go_at_call 82; exact Calls.quiet_of (l1 _))
                | (go_at_call_of 83 a; exact Calls.quiet_of (p1 _))
                | (go_at_call_of 83 b; exact Calls.quiet_of (p2 _))
                | fail))
              go_wp2
              go_ret
              exact ⟨by simp [*], by (repeat (first | with_reducible exact Below.refl _ _ | with_reducible refine sp_dNr ?_ _ | with_reducible refine sp_new ?_ _ | with_reducible refine sp_drewr ?_))⟩
            · skip
              go_enter Tryz.func47, Tryz.ntmps47
              go_upto_region 3 with fail
              go_quiet ((first
                | (go_at_call_of 44 a; exact Calls.quiet_of (f1 _))
                | (go_at_call_of 44 b; exact Calls.quiet_of (f2 _))
                | (go_at_call 82; exact Calls.quiet_of (l1 _))
                | (go_at_call_of 83 a; exact Calls.quiet_of (p1 _))
                | (go_at_call_of 83 b; exact Calls.quiet_of (p2 _))
                | fail))
              go_wp2
              go_ret
              exact ⟨by simp [*], by (repeat (first | with_reducible exact Below.refl _ _ | with_reducible refine sp_dNr ?_ _ | with_reducible refine sp_new ?_ _ | with_reducible refine sp_drewr ?_))⟩
  · simp only [if_true]
    rcases hq1 : (a == 0) with _ | _
    · go_enter Tryz.func47, Tryz.ntmps47
      go_wp2_with fail
      go_ret
      exact ⟨by simp [*], sp_new (Below.refl _ _) _⟩
    · rcases hq2 : (b == 0) with _ | _
      all_goals
        go_enter Tryz.func47, Tryz.ntmps47
        go_wp2_with fail
        go_ret
        exact ⟨by simp [*], sp_new (Below.refl _ _) _⟩
/-- Does a float lie in a range? -/
def hRF (s : Bool) (e : Bool) (a b x : Int) : Bool := !e && (finF s x && (!lessF s x a && !lessF s b x))
set_option maxRecDepth 100000 in
set_option maxHeartbeats 3200000 in
theorem rhasF_any (s : Bool) (e : Bool) (a b x : Int) (h1 : Word a) (h2 : Word b) (h3 : Word x) (w : World) : Calls Tryz.prog 41 #[.int .i64 (fb s), .agg #[.bool e, .int .u64 a, .int .u64 b], .int .u64 x] w fun r w' => r = .returned (.bool (hRF s e a b x)) ∧ Below w.heap.size w w' := by
  have f1 := rfinite_any s x h3
  have l1 := rless_any s x a h3 h1
  have l2 := rless_any s b x h2 h3
  unfold hRF
  generalize finF s x = F1 at *
  generalize lessF s x a = L1 at *
  generalize lessF s b x = L2 at *
  generalize fb s = f at *
  cases e
  · cases F1
    · go_enter Tryz.func41, Tryz.ntmps41
      go_wp2_with (first
        | (go_at_call 44; refine (f1 _).mono ?_; rintro e w1 ⟨rfl, n1, rfl⟩)
        | (go_at_call_of 82 a; refine (l1 _).mono ?_; rintro e w2 ⟨rfl, n2, rfl⟩)
        | (go_at_call_of 82 b; refine (l2 _).mono ?_; rintro e w3 ⟨rfl, n3, rfl⟩)
        | fail)
      go_ret
      exact ⟨by simp, by (repeat (first | with_reducible exact Below.refl _ _ | with_reducible refine sp_dNr ?_ _ | with_reducible refine sp_new ?_ _ | with_reducible refine sp_drewr ?_))⟩
    · cases L1
      · cases L2
        · go_enter Tryz.func41, Tryz.ntmps41
          go_wp2_with (first
            | (go_at_call 44; refine (f1 _).mono ?_; rintro e w1 ⟨rfl, n1, rfl⟩)
            | (go_at_call_of 82 a; refine (l1 _).mono ?_; rintro e w2 ⟨rfl, n2, rfl⟩)
            | (go_at_call_of 82 b; refine (l2 _).mono ?_; rintro e w3 ⟨rfl, n3, rfl⟩)
            | fail)
          go_ret
          exact ⟨by simp, by (repeat (first | with_reducible exact Below.refl _ _ | with_reducible refine sp_dNr ?_ _ | with_reducible refine sp_new ?_ _ | with_reducible refine sp_drewr ?_))⟩
        · go_enter Tryz.func41, Tryz.ntmps41
          go_wp2_with (first
            | (go_at_call 44; refine (f1 _).mono ?_; rintro e w1 ⟨rfl, n1, rfl⟩)
            | (go_at_call_of 82 a; refine (l1 _).mono ?_; rintro e w2 ⟨rfl, n2, rfl⟩)
            | (go_at_call_of 82 b; refine (l2 _).mono ?_; rintro e w3 ⟨rfl, n3, rfl⟩)
            | fail)
          go_ret
          exact ⟨by simp, by (repeat (first | with_reducible exact Below.refl _ _ | with_reducible refine sp_dNr ?_ _ | with_reducible refine sp_new ?_ _ | with_reducible refine sp_drewr ?_))⟩
      · go_enter Tryz.func41, Tryz.ntmps41
        go_wp2_with (first
          | (go_at_call 44; refine (f1 _).mono ?_; rintro e w1 ⟨rfl, n1, rfl⟩)
          | (go_at_call_of 82 a; refine (l1 _).mono ?_; rintro e w2 ⟨rfl, n2, rfl⟩)
          | (go_at_call_of 82 b; refine (l2 _).mono ?_; rintro e w3 ⟨rfl, n3, rfl⟩)
          | fail)
        go_ret
        exact ⟨by simp, by (repeat (first | with_reducible exact Below.refl _ _ | with_reducible refine sp_dNr ?_ _ | with_reducible refine sp_new ?_ _ | with_reducible refine sp_drewr ?_))⟩
  · go_enter Tryz.func41, Tryz.ntmps41
    go_wp2_with (first
      | (go_at_call 44; refine (f1 _).mono ?_; rintro e w1 ⟨rfl, n1, rfl⟩)
      | (go_at_call_of 82 a; refine (l1 _).mono ?_; rintro e w2 ⟨rfl, n2, rfl⟩)
      | (go_at_call_of 82 b; refine (l2 _).mono ?_; rintro e w3 ⟨rfl, n3, rfl⟩)
      | fail)
    go_ret
    exact ⟨by simp, by (repeat (first | with_reducible exact Below.refl _ _ | with_reducible refine sp_dNr ?_ _ | with_reducible refine sp_new ?_ _ | with_reducible refine sp_drewr ?_))⟩
end Go.Proofs.YteafnkimcidkhaaGreat

