/- The statements' format; the reference's Finite. -/
import Derived.Test.YtfdinlomlcnjnaaDoorSRefA
import Derived.Test.YtfdinlomlcnjnaaDoorSoftO
namespace Go.Proofs.YtfdinlomlcnjnaaDoor
open Go.RowKit
set_option linter.unusedVariables false
set_option linter.unusedSimpArgs false
theorem fb_back (s : Bool) : (fb s == 1) = s := by cases s <;> rfl
/-- Finite, as the reference says it. -/
theorem rfinite_any (s : Bool) (a : Int) (h : Word a) (w : World) : Calls Tryd.prog 46 #[.int .i64 (fb s), .int .u64 a] w fun e w' => e = .returned (.bool (finF s a)) ∧ ∃ n, w' = w.drewN n := by
  have hc := rclass_any s a h
  unfold finF
  generalize cls s a = k at *
  generalize fb s = f at *
  by_cases c1 : k = 1
  · subst c1
    go_enter Tryd.func46, Tryd.ntmps46
    go_wp2_with (go_at_call 34; refine (hc _).mono ?_; rintro e w1 ⟨rfl, n, rfl⟩)
    go_ret
    exact ⟨rfl, n, rfl⟩
  · have d1 : (k == 1) = false := by simp [c1]
    rw [d1, Bool.false_or]
    by_cases c2 : k = 2
    · subst c2
      go_enter Tryd.func46, Tryd.ntmps46
      go_wp2_with (go_at_call 34; refine (hc _).mono ?_; rintro e w1 ⟨rfl, n, rfl⟩)
      go_ret
      exact ⟨rfl, n, rfl⟩
    · have d2 : (k == 2) = false := by simp [c2]
      rw [d2, Bool.false_or]
      go_enter Tryd.func46, Tryd.ntmps46
      go_wp2_with (go_at_call 34; refine (hc _).mono ?_; rintro e w1 ⟨rfl, n, rfl⟩)
      all_goals go_ret
      all_goals exact ⟨rfl, n, rfl⟩
end Go.Proofs.YtfdinlomlcnjnaaDoor

