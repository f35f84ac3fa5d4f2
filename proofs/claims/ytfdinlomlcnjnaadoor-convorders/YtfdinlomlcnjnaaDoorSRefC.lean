/- The reference's ranks and sizes; soft's Abs, Most and Nan. -/
import Derived.Test.YtfdinlomlcnjnaaDoorSRefB
import Derived.Test.YtfdinlomlcnjnaaDoorSRefF
import Derived.Test.YtfdinlomlcnjnaaDoorSoftO
namespace Go.Proofs.YtfdinlomlcnjnaaDoor
open Go.RowKit
set_option linter.unusedVariables false
set_option linter.unusedSimpArgs false
/-- A float without its sign. -/
def absF (s : Bool) (a : Int) : Int := if cls s a == 0 || cls s a == 5 then fNan s else zOf s a
theorem rmost_d (w : World) : Calls Tryd.prog 61 #[.int .i64 0] w fun e w' => e = .returned (.int .u64 9218868437227405311) ∧ w' = w := by
  have hs := rsize_d
  go_enter Tryd.func61, Tryd.ntmps61
  go_wp2_with (go_at_call 67; refine (hs _).mono ?_; rintro e w1 ⟨rfl, rfl⟩)
  go_ret
  exact ⟨rfl, rfl⟩
theorem rmost_s (w : World) : Calls Tryd.prog 61 #[.int .i64 1] w fun e w' => e = .returned (.int .u64 2139095039) ∧ w' = w := by
  have hs := rsize_s
  go_enter Tryd.func61, Tryd.ntmps61
  go_wp2_with (go_at_call 67; refine (hs _).mono ?_; rintro e w1 ⟨rfl, rfl⟩)
  go_ret
  exact ⟨rfl, rfl⟩
theorem rmost_any (s : Bool) (w : World) : Calls Tryd.prog 61 #[.int .i64 (fb s)] w fun e w' => e = .returned (.int .u64 (fI s - 1)) ∧ w' = w := by
  cases s
  · exact rmost_d w
  · exact rmost_s w
theorem most_fl (f : Int) (w : World) : Calls Tryd.prog 37 #[.int .i64 f] w fun r w' => r = .returned (.int .u64 (fI (f == 1) - 1)) ∧ Below w.heap.size w w' := by
  have hfo := formatOf_ex f
  generalize (f == 1) = s at *
  have hm := most_any s
  rw [fmtV_eq] at hfo hm
  go_enter Tryd.func37, Tryd.ntmps37
  go_wp2_with (first
    | (go_at_call 69; refine (hfo _).mono ?_; rintro r w1 ⟨rfl, o1, o2, rfl⟩)
    | (go_at_call 71; refine (hm _).mono ?_; rintro r w2 ⟨rfl, rfl⟩))
  go_ret
  exact ⟨rfl, (by repeat (first | with_reducible exact Below.refl _ _ | with_reducible refine below_new ?_ _ | with_reducible refine Below.drew ?_ | with_reducible refine below_dN ?_ _))⟩
theorem nan_fl (f : Int) (w : World) : Calls Tryd.prog 35 #[.int .i64 f] w fun r w' => r = .returned (.int .u64 (fNan (f == 1))) ∧ Below w.heap.size w w' := by
  have hfo := formatOf_ex f
  generalize (f == 1) = s at *
  have hm := nan_ex s
  rw [fmtV_eq] at hfo hm
  go_enter Tryd.func35, Tryd.ntmps35
  go_wp2_with (first
    | (go_at_call 69; refine (hfo _).mono ?_; rintro r w1 ⟨rfl, o1, o2, rfl⟩)
    | (go_at_call 70; refine (hm _).mono ?_; rintro r w2 ⟨rfl, rfl⟩))
  go_ret
  exact ⟨rfl, (by repeat (first | with_reducible exact Below.refl _ _ | with_reducible refine below_new ?_ _ | with_reducible refine Below.drew ?_ | with_reducible refine below_dN ?_ _))⟩
end Go.Proofs.YtfdinlomlcnjnaaDoor

