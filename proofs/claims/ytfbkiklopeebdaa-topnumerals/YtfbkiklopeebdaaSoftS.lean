/- What soft's split answers, and the memory it makes. -/
import Derived.Test.YtfbkiklopeebdaaSoftI
import Derived.Deep.Draws
namespace Go.Proofs.Ytfbkiklopeebdaa
open Go.RowKit
set_option linter.unusedVariables false
set_option linter.unusedSimpArgs false
theorem below_dN {B : Nat} {a w : World} (h : Below B a w) (n : Nat) : Below B a (w.drewN n) := h.trans ⟨rfl, rfl, rfl, Nat.le_refl _, fun _ _ => rfl⟩
theorem below_four (w : World) (a b c d : Obj) (n : Nat) : Below w.heap.size w (((((w.alloc a).alloc b).alloc c).alloc d).drewN n) :=
  below_dN ((below_three w a b c).alloc (by simp; omega) d) n
theorem formatOf_ex (f : Int) (w : World) :
    Calls Try.prog 25 #[.int .i64 f] w fun e w' => e = .returned (fmtV (f == 1)) ∧ ∃ o1 o2, w' = ((w.alloc o1).alloc o2).drew := by
  by_cases c : f = 1
  · subst c
    go_enter Try.func25, Try.ntmps25
    go_wp2_with fail
    go_region
    go_wp2_with fail
    exact bodyPost_ret (v := fmtV true) (by simp [results, Try.results25, go_sem, fmtV]) rfl ⟨rfl, _, _, rfl⟩
  · have c' : (f == 1) = false := by simp [c]
    rw [c']
    go_enter Try.func25, Try.ntmps25
    go_wp2_with fail
    go_region
    go_wp2_with fail
    exact bodyPost_ret (v := fmtV false) (by simp [results, Try.results25, go_sem, fmtV]) rfl ⟨rfl, _, _, rfl⟩
end Go.Proofs.Ytfbkiklopeebdaa

