/- The reference's signs, and what is no number. -/
import Derived.Test.YtfdinlomlcnjnaaDoorSRefA
namespace Go.Proofs.YtfdinlomlcnjnaaDoor
open Go.RowKit
set_option linter.unusedVariables false
set_option linter.unusedSimpArgs false
theorem rsign_d (w : World) : Calls Tryd.prog 80 #[.int .i64 0, .bool true] w fun e w' => e = .returned (.int .u64 9223372036854775808) ∧ w' = w := by
  have hs := rsize_d
  go_enter Tryd.func80, Tryd.ntmps80
  go_wp2_with (go_at_call 67; refine (hs _).mono ?_; rintro e w1 ⟨rfl, rfl⟩)
  go_ret
  exact ⟨rfl, rfl⟩
theorem rsign0_d (w : World) : Calls Tryd.prog 80 #[.int .i64 0, .bool false] w fun e w' => e = .returned (.int .u64 0) ∧ w' = w := by
  have hs := rsize_d
  go_enter Tryd.func80, Tryd.ntmps80
  go_wp2_with (go_at_call 67; refine (hs _).mono ?_; rintro e w1 ⟨rfl, rfl⟩)
  go_ret
  exact ⟨rfl, rfl⟩
theorem rsign_s (w : World) : Calls Tryd.prog 80 #[.int .i64 1, .bool true] w fun e w' => e = .returned (.int .u64 2147483648) ∧ w' = w := by
  have hs := rsize_s
  go_enter Tryd.func80, Tryd.ntmps80
  go_wp2_with (go_at_call 67; refine (hs _).mono ?_; rintro e w1 ⟨rfl, rfl⟩)
  go_ret
  exact ⟨rfl, rfl⟩
theorem rsign0_s (w : World) : Calls Tryd.prog 80 #[.int .i64 1, .bool false] w fun e w' => e = .returned (.int .u64 0) ∧ w' = w := by
  have hs := rsize_s
  go_enter Tryd.func80, Tryd.ntmps80
  go_wp2_with (go_at_call 67; refine (hs _).mono ?_; rintro e w1 ⟨rfl, rfl⟩)
  go_ret
  exact ⟨rfl, rfl⟩
theorem rsign_any (s b : Bool) (w : World) : Calls Tryd.prog 80 #[.int .i64 (fb s), .bool b] w fun e w' => e = .returned (.int .u64 (if b then fS s else 0)) ∧ w' = w := by
  cases s <;> cases b
  · exact rsign0_d w
  · exact rsign_d w
  · exact rsign0_s w
  · exact rsign_s w
theorem rbelow_any (s : Bool) (a : Int) (w : World) : Calls Tryd.prog 48 #[.int .i64 (fb s), .int .u64 a] w fun e w' => e = .returned (.bool (sgn s a)) ∧ w' = w := by
  have hs := rsign_any s true
  unfold sgn
  rw [if_pos rfl] at hs
  generalize fb s = f at *
  generalize fS s = S at *
  go_enter Tryd.func48, Tryd.ntmps48
  go_wp2_with (go_at_call 80; refine (hs _).mono ?_; rintro e w1 ⟨rfl, rfl⟩)
  go_ret
  exact ⟨rfl, rfl⟩
theorem risNan_any (s : Bool) (a : Int) (h : Word a) (w : World) : Calls Tryd.prog 87 #[.int .i64 (fb s), .int .u64 a] w fun e w' => e = .returned (.bool (cls s a == 0 || cls s a == 5)) ∧ ∃ n, w' = w.drewN n := by
  have hc := rclass_any s a h
  rw [Bool.or_comm]
  generalize cls s a = k at *
  generalize fb s = f at *
  by_cases c1 : k = 5
  · subst c1
    go_enter Tryd.func87, Tryd.ntmps87
    go_wp2_with (go_at_call 34; refine (hc _).mono ?_; rintro e w1 ⟨rfl, n, rfl⟩)
    go_ret
    exact ⟨rfl, n, rfl⟩
  · have d1 : (k == 5) = false := by simp [c1]
    rw [d1, Bool.false_or]
    go_enter Tryd.func87, Tryd.ntmps87
    go_wp2_with (go_at_call 34; refine (hc _).mono ?_; rintro e w1 ⟨rfl, n, rfl⟩)
    all_goals go_ret
    all_goals exact ⟨rfl, n, rfl⟩
theorem rnan_d (w : World) : Calls Tryd.prog 60 #[.int .i64 0] w fun e w' => e = .returned (.int .u64 9221120237041090560) ∧ w' = w.drew := by
  have hs := rsize_d
  have o : bits BinOp.or IntKind.u64 2251799813685248 9218868437227405312 = 9221120237041090560 := by rfl
  go_enter Tryd.func60, Tryd.ntmps60
  go_wp2_with (go_at_call 67; refine (hs _).mono ?_; rintro e w1 ⟨rfl, rfl⟩)
  go_region
  go_wp2_with fail
  go_ret
  exact ⟨rfl, rfl⟩
theorem rnan_s (w : World) : Calls Tryd.prog 60 #[.int .i64 1] w fun e w' => e = .returned (.int .u64 2143289344) ∧ w' = w.drew := by
  have hs := rsize_s
  have o : bits BinOp.or IntKind.u64 4194304 2139095040 = 2143289344 := by rfl
  go_enter Tryd.func60, Tryd.ntmps60
  go_wp2_with (go_at_call 67; refine (hs _).mono ?_; rintro e w1 ⟨rfl, rfl⟩)
  go_region
  go_wp2_with fail
  go_ret
  exact ⟨rfl, rfl⟩
theorem rnan_any (s : Bool) (w : World) : Calls Tryd.prog 60 #[.int .i64 (fb s)] w fun e w' => e = .returned (.int .u64 (fNan s)) ∧ w' = w.drew := by
  cases s
  · exact rnan_d w
  · exact rnan_s w
theorem rneg_any (s : Bool) (a : Int) (h : Word a) (w : World) : Calls Tryd.prog 63 #[.int .i64 (fb s), .int .u64 a] w fun e w' => e = .returned (.int .u64 (negF s a)) ∧ ∃ n, w' = w.drewN n := by
  have hc := risNan_any s a h
  have hn := rnan_any s
  have hs := rsign_any s true
  rw [if_pos rfl] at hs
  unfold negF
  generalize (cls s a == 0 || cls s a == 5) = N at *
  generalize fb s = f at *
  skip
  generalize fS s = S at *
  generalize fNan s = Q at *
  cases N
  · go_enter Tryd.func63, Tryd.ntmps63
    go_wp2_with (first
      | (go_at_call 87; refine (hc _).mono ?_; rintro e w1 ⟨rfl, n, rfl⟩)
      | (go_at_call 80; refine (hs _).mono ?_; rintro e w1 ⟨rfl, rfl⟩))
    go_ret
    exact ⟨rfl, n, rfl⟩
  · go_enter Tryd.func63, Tryd.ntmps63
    go_wp2_with (first
      | (go_at_call 87; refine (hc _).mono ?_; rintro e w1 ⟨rfl, n, rfl⟩)
      | (go_at_call 60; refine (hn _).mono ?_; rintro e w1 ⟨rfl, rfl⟩))
    go_ret
    exact ⟨rfl, _, rfl⟩
end Go.Proofs.YtfdinlomlcnjnaaDoor

