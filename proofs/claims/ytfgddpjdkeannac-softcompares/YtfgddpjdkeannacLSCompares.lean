/- The statement SoftCompares, walked: which one of two is less. -/
import Derived.Test.YtfgddpjdkeannacSRefC
import Derived.Test.YtfgddpjdkeannacSoftLive
namespace Go.Proofs.Ytfgddpjdkeannac
open Go.RowKit
set_option linter.unusedVariables false
set_option maxRecDepth 8000 in
set_option maxHeartbeats 1600000 in
theorem law_softcompares (f a b : Int) (hf1 : -9223372036854775808 ≤ f) (hf2 : f ≤ 9223372036854775807) (h1 : Word a) (h2 : Word b) (w : World) :
    Calls Try.prog 5 #[.int .i64 f, .int .u64 a, .int .u64 b] w fun e w' => e = .returned (.bool true) ∧ Below w.heap.size w w' := by
  have hfm := format_any f
  have c1 := compare_fl f a b h1 h2
  have c2 := rcompare_any (f == 1) a b h1 h2
  generalize (f == 1) = s at *
  generalize fb s = g at *
  generalize (cmpF s a b).1 = k at *
  generalize (cmpF s a b).2 = o at *
  have L := Below.refl w.heap.size w
  go_enter Try.func5, Try.ntmps5
  go_wp2_with (first
    | (go_at_call 12; refine (hfm _).mono ?_; rintro e w1 ⟨rfl, rfl⟩)
    | (go_at_call 9; refine (slive_any _).mono ?_; rintro e w1 ⟨rfl, hb⟩; replace L := below_call L hb)
    | (go_at_call 25; refine (c1 _).mono ?_; rintro e w1 ⟨rfl, hb⟩; replace L := below_call L hb)
    | (go_at_call 26; refine (c2 _).mono ?_; rintro e w1 ⟨rfl, n, rfl⟩; replace L := below_dN L n))
  all_goals go_ret
  all_goals exact ⟨rfl, L⟩
end Go.Proofs.Ytfgddpjdkeannac
