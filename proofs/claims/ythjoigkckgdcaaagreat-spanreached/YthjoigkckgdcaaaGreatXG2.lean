/- Texts of the proof, put together. -/
import Derived.Test.YthjoigkckgdcaaaGreatXG1
import Derived.Test.YthjoigkckgdcaaaGreatXMB3
import Derived.Test.YthjoigkckgdcaaaGreatXSpL
import Derived.Deep.QuietTactic
import Derived.BigQuiet
import Derived.Deep.RegionHeld3
namespace Go.Proofs.YthjoigkckgdcaaaGreat
open Go.RowKit
set_option linter.unusedVariables false
set_option linter.unusedSimpArgs false
theorem sp_dNr {w W : World} (h : Below w.heap.size w W) (n : Nat) : Below w.heap.size w (W.drewN n) := ⟨h.os, h.tape, h.output, h.size, h.block⟩
theorem sp_drewr {w W : World} (h : Below w.heap.size w W) : Below w.heap.size w W.drew := ⟨h.os, h.tape, h.output, h.size, h.block⟩
def lessF (s : Bool) (a b : Int) : Bool := (cmpF s a b).2 && decide ((cmpF s a b).1 < 0)
set_option maxRecDepth 100000 in
set_option maxHeartbeats 3200000 in
theorem rless_any (s : Bool) (a b : Int) (h1 : Word a) (h2 : Word b) (w : World) : Calls Tryz.prog 77 #[.int .i64 (fb s), .int .u64 a, .int .u64 b] w fun e w' => e = .returned (.bool (lessF s a b)) ∧ ∃ n, w' = w.drewN n := by
  have hc := rcompare_any s a b h1 h2
  unfold lessF
  generalize cmpF s a b = c at *
  generalize fb s = f at *
  obtain ⟨c1, c2⟩ := c
  dsimp only at *
  cases c2
  · go_enter Tryz.func77, Tryz.ntmps77
    go_wp2_with (go_at_call 143; refine (hc _).mono ?_; rintro e w1 ⟨rfl, n, rfl⟩)
    go_ret
    exact ⟨rfl, n, rfl⟩
  · by_cases q : c1 < 0
    · rw [decide_eq_true q]
      go_enter Tryz.func77, Tryz.ntmps77
      go_wp2_with (go_at_call 143; refine (hc _).mono ?_; rintro e w1 ⟨rfl, n, rfl⟩)
      go_ret
      exact ⟨rfl, n, rfl⟩
    · rw [decide_eq_false q]
      have q' : decide (c1 < 0) = false := decide_eq_false q
      clear q
      go_enter Tryz.func77, Tryz.ntmps77
      go_wp2_with (go_at_call 143; refine (hc _).mono ?_; rintro e w1 ⟨rfl, n, rfl⟩)
      go_ret
      exact ⟨rfl, n, rfl⟩
def rRF (s : Bool) (e : Bool) (a b : Int) : Bool := if e then (a == 0 && b == 0) else finF s a && (finF s b && ((plainF s a == a) && ((plainF s b == b) && !lessF s b a)))
set_option maxRecDepth 100000 in
set_option maxHeartbeats 3200000 in
theorem rrightF_any (s : Bool) (e : Bool) (a b : Int) (h1 : Word a) (h2 : Word b) (w : World) : Calls Tryz.prog 17 #[.int .i64 (fb s), .agg #[.bool e, .int .u64 a, .int .u64 b]] w fun r w' => r = .returned (.bool (rRF s e a b)) ∧ Below w.heap.size w w' := by
  have f1 := rfinite_any s a h1
  have f2 := rfinite_any s b h2
  have p1 := rplain3_any s a h1
  have p2 := rplain3_any s b h2
  have l1 := rless_any s b a h2 h1
  unfold rRF
  generalize finF s a = F1 at *
  generalize finF s b = F2 at *
  generalize plainF s a = P1 at *
  generalize plainF s b = P2 at *
  generalize lessF s b a = L1 at *
  generalize fb s = f at *
  cases e
  · simp only [Bool.false_eq_true, if_false]
    cases F1
    · skip
      go_enter Tryz.func17, Tryz.ntmps17
      go_upto_region 3 with fail
      go_quiet ((first
        | (go_at_call_of 73 a; exact Calls.quiet_of (f1 _))
        | (go_at_call_of 73 b; exact Calls.quiet_of (f2 _))
        | (go_at_call 77; exact Calls.quiet_of (l1 _))
        | (go_at_call_of 68 a; exact Calls.quiet_of (p1 _))
        | (go_at_call_of 68 b; exact Calls.quiet_of (p2 _))
        | fail))
      go_wp2
      go_ret
      exact ⟨by simp [*], by (repeat (first | with_reducible exact Below.refl _ _ | with_reducible refine sp_dNr ?_ _ | with_reducible refine sp_new ?_ _ | with_reducible refine sp_drewr ?_))⟩
    · skip
      cases F2
      · skip
        go_enter Tryz.func17, Tryz.ntmps17
        go_upto_region 3 with fail
        go_quiet ((first
          | (go_at_call_of 73 a; exact Calls.quiet_of (f1 _))
          | (go_at_call_of 73 b; exact Calls.quiet_of (f2 _))
          | (go_at_call 77; exact Calls.quiet_of (l1 _))
          | (go_at_call_of 68 a; exact Calls.quiet_of (p1 _))
          | (go_at_call_of 68 b; exact Calls.quiet_of (p2 _))
          | fail))
        go_wp2
        go_ret
        exact ⟨by simp [*], by (repeat (first | with_reducible exact Below.refl _ _ | with_reducible refine sp_dNr ?_ _ | with_reducible refine sp_new ?_ _ | with_reducible refine sp_drewr ?_))⟩
      · skip
        rcases hq1 : (P1 == a) with _ | _
        · skip
          go_enter Tryz.func17, Tryz.ntmps17
          go_upto_region 3 with fail
          go_quiet ((first
            | (go_at_call_of 73 a; exact Calls.quiet_of (f1 _))
            | (go_at_call_of 73 b; exact Calls.quiet_of (f2 _))
            | (go_at_call 77; exact Calls.quiet_of (l1 _))
            | (go_at_call_of 68 a; exact Calls.quiet_of (p1 _))
            | (go_at_call_of 68 b; exact Calls.quiet_of (p2 _))
            | fail))
          go_wp2
          go_ret
          exact ⟨by simp [*], by (repeat (first | with_reducible exact Below.refl _ _ | with_reducible refine sp_dNr ?_ _ | with_reducible refine sp_new ?_ _ | with_reducible refine sp_drewr ?_))⟩
        · skip
          rcases hq2 : (P2 == b) with _ | _
          · skip
            go_enter Tryz.func17, Tryz.ntmps17
            go_upto_region 3 with fail
            go_quiet ((first
              | (go_at_call_of 73 a; exact Calls.quiet_of (f1 _))
              | (go_at_call_of 73 b; exact Calls.quiet_of (f2 _))
              | (go_at_call 77; exact Calls.quiet_of (l1 _))
              | (go_at_call_of 68 a; exact Calls.quiet_of (p1 _))
              | (go_at_call_of 68 b; exact Calls.quiet_of (p2 _))
              | fail))
            go_wp2
            go_ret
            exact ⟨by simp [*], by (repeat (first | with_reducible exact Below.refl _ _ | with_reducible refine sp_dNr ?_ _ | with_reducible refine sp_new ?_ _ | with_reducible refine sp_drewr ?_))⟩
          · skip
            cases L1
            · skip
              go_enter Tryz.func17, Tryz.ntmps17
              go_upto_region 3 with fail
              go_quiet ((first
                | (go_at_call_of 73 a; exact Calls.quiet_of (f1 _))
                | (go_at_call_of 73 b; exact Calls.quiet_of (f2 _))
                | (go_at_call 77; exact Calls.quiet_of (l1 _))
                | (go_at_call_of 68 a; exact Calls.quiet_of (p1 _))
                | (go_at_call_of 68 b; exact Calls.quiet_of (p2 _))
                | fail))
              go_wp2
              go_ret
              exact ⟨by simp [*], by (repeat (first | with_reducible exact Below.refl _ _ | with_reducible refine sp_dNr ?_ _ | with_reducible refine sp_new ?_ _ | with_reducible refine sp_drewr ?_))⟩
            · skip
              go_enter Tryz.func17, Tryz.ntmps17
              go_upto_region 3 with fail
              go_quiet ((first
                | (go_at_call_of 73 a; exact Calls.quiet_of (f1 _))
                | (go_at_call_of 73 b; exact Calls.quiet_of (f2 _))
                | (go_at_call 77; exact Calls.quiet_of (l1 _))
                | (go_at_call_of 68 a; exact Calls.quiet_of (p1 _))
                | (go_at_call_of 68 b; exact Calls.quiet_of (p2 _))
                | fail))
              go_wp2
              go_ret
              exact ⟨by simp [*], by (repeat (first | with_reducible exact Below.refl _ _ | with_reducible refine sp_dNr ?_ _ | with_reducible refine sp_new ?_ _ | with_reducible refine sp_drewr ?_))⟩
  · simp only [if_true]
    rcases hq1 : (a == 0) with _ | _
    · go_enter Tryz.func17, Tryz.ntmps17
      go_wp2_with fail
      go_ret
      exact ⟨by simp [*], sp_new (Below.refl _ _) _⟩
    · rcases hq2 : (b == 0) with _ | _
      all_goals
        go_enter Tryz.func17, Tryz.ntmps17
        go_wp2_with fail
        go_ret
        exact ⟨by simp [*], sp_new (Below.refl _ _) _⟩
end Go.Proofs.YthjoigkckgdcaaaGreat


namespace Go.Proofs.YthjoigkckgdcaaaGreat
open Go.RowKit
set_option linter.unusedVariables false
set_option linter.unusedSimpArgs false
end Go.Proofs.YthjoigkckgdcaaaGreat


namespace Go.Proofs.YthjoigkckgdcaaaGreat
open Go.RowKit
set_option linter.unusedVariables false
set_option linter.unusedSimpArgs false
end Go.Proofs.YthjoigkckgdcaaaGreat


