/- Texts of the proof, put together. -/
import Derived.Test.YtdehcmajhdhcaaaGreatYG6
import Derived.Test.YtdehcmajhdhcaaaGreatYG1
import Derived.Test.YtdehcmajhdhcaaaGreatYSpFl
import Derived.Deep.DeepCutAuto
import Derived.Test.YtdehcmajhdhcaaaGreatYG3
import Derived.Test.YtdehcmajhdhcaaaGreatYSpLv
namespace Go.Proofs.YtdehcmajhdhcaaaGreat
open Go.RowKit
set_option linter.unusedVariables false
set_option linter.unusedSimpArgs false
def tOf (s : Bool) : Int := if s then 2 else 3
set_option maxRecDepth 100000 in
set_option maxHeartbeats 6400000 in
theorem rfmt (s : Bool) (w : World) : Calls Tryz.prog 136 #[.int .i64 (tOf s)] w fun e w' => e = .returned (.int .i64 (fb s)) ∧ w' = w := by
  cases s
  · show Calls Tryz.prog 136 #[.int .i64 3] w _
    go_enter Tryz.func136, Tryz.ntmps136
    go_wp2_with fail
    go_ret
    exact ⟨rfl, rfl⟩
  · show Calls Tryz.prog 136 #[.int .i64 2] w _
    go_enter Tryz.func136, Tryz.ntmps136
    go_wp2_with fail
    go_ret
    exact ⟨rfl, rfl⟩
theorem sp_dNk {w W : World} (h : Below w.heap.size w W) (n : Nat) : Below w.heap.size w (W.drewN n) := ⟨h.os, h.tape, h.output, h.size, h.block⟩
end Go.Proofs.YtdehcmajhdhcaaaGreat


namespace Go.Proofs.YtdehcmajhdhcaaaGreat
open Go.RowKit
set_option linter.unusedVariables false
set_option linter.unusedSimpArgs false
end Go.Proofs.YtdehcmajhdhcaaaGreat


namespace Go.Proofs.YtdehcmajhdhcaaaGreat
open Go.RowKit
set_option linter.unusedVariables false
set_option linter.unusedSimpArgs false
theorem fb_eq (s : Bool) : (fb s == 1) = s := by cases s <;> rfl
theorem b_dN {e r : Ending} {V w' : World} (h : e = r ∧ ∃ n, w' = V.drewN n) : e = r ∧ Below V.heap.size V w' := by
  obtain ⟨h1, n, rfl⟩ := h
  exact ⟨h1, sp_dNk (Below.refl _ _) n⟩
theorem b_eq {e r : Ending} {V w' : World} (h : e = r ∧ w' = V) : e = r ∧ Below V.heap.size V w' := ⟨h.1, by rw [h.2]; exact Below.refl _ _⟩
set_option maxRecDepth 100000 in
theorem format8 (p : Int) (w : World) : Calls Tryz.prog 15 #[.int .i64 p] w fun e w' => e = .returned (.int .i64 (fb (p == 1))) ∧ w' = w := by
  by_cases c : p = 1
  · subst c
    go_enter Tryz.func15, Tryz.ntmps15
    go_wp2_with fail
    go_ret
    exact ⟨rfl, rfl⟩
  · have c1 : (p == 1) = false := by simp [c]
    rw [c1]
    clear c
    go_enter Tryz.func15, Tryz.ntmps15
    go_wp2_with fail
    go_ret
    exact ⟨rfl, rfl⟩
set_option maxRecDepth 100000 in
theorem typeOf8 (s : Bool) (w : World) : Calls Tryz.prog 70 #[.int .i64 (fb s)] w fun e w' => e = .returned (.int .i64 (tOf s)) ∧ w' = w := by
  cases s
  · show Calls Tryz.prog 70 #[.int .i64 0] w _
    go_enter Tryz.func70, Tryz.ntmps70
    go_wp2_with fail
    go_ret
    exact ⟨rfl, rfl⟩
  · show Calls Tryz.prog 70 #[.int .i64 1] w _
    go_enter Tryz.func70, Tryz.ntmps70
    go_wp2_with fail
    go_ret
    exact ⟨rfl, rfl⟩
end Go.Proofs.YtdehcmajhdhcaaaGreat


