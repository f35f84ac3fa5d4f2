/- The statement WideProducts, walked: products are the reference's, and do not hang on the order. -/
import Derived.Test.YtfgddpjdkeannaaRefG
import Derived.Test.YtfgddpjdkeannaaAids
namespace Go.Proofs.Ytfgddpjdkeannaa
open Go.RowKit
set_option linter.unusedVariables false
set_option maxHeartbeats 1600000 in
theorem law_products (a b : Int) (h1 : Word a) (h2 : Word b) (w : World) :
    Calls Try.prog 4 #[.int .u64 a, .int .u64 b] w fun e w' => e = .returned (.bool true) ∧ Below w.heap.size w w' := by
  have hq := eql_u128
  go_enter Try.func4, Try.ntmps4
  go_wp2_with fail
  refine (live_any _).mono ?_
  rintro e w1 ⟨rfl, B1⟩
  go_wp2_with fail
  refine (mul_any a b h1 h2 _).mono ?_
  rintro e w2 ⟨xh, xl, rfl, wxh, wxl, X, B2⟩
  go_wp2_with fail
  refine (rmul_any a b h1 h2 _).mono ?_
  rintro e w3 ⟨yh, yl, rfl, wyh, wyl, Y, B3⟩
  obtain ⟨rfl, rfl⟩ := num_inj wyh wyl wxh wxl (Y.out.trans X.out.symm)
  have q1 : eq2 yh yl yh yl = true := eq2_true rfl rfl
  go_wp2_with fail
  refine (mul_any a b h1 h2 _).mono ?_
  rintro e w4 ⟨zh, zl, rfl, wzh, wzl, Z, B4⟩
  go_wp2_with fail
  refine (mul_any b a h2 h1 _).mono ?_
  rintro e w5 ⟨vh, vl, rfl, wvh, wvl, V, B5⟩
  obtain ⟨rfl, rfl⟩ := num_inj wvh wvl wzh wzl (V.out.trans ((Int.mul_comm b a).trans Z.out.symm))
  have q2 : eq2 vh vl vh vl = true := eq2_true rfl rfl
  go_wp2_with fail
  go_ret
  exact ⟨rfl, below_call (below_call (below_call (below_call B1 B2) B3) B4) B5⟩
end Go.Proofs.Ytfgddpjdkeannaa
