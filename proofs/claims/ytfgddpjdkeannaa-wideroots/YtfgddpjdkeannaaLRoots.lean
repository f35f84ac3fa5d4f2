/- The statement WideRoots, walked: roots and what is left are the reference's. -/
import Derived.Test.YtfgddpjdkeannaaRefH
import Derived.Test.YtfgddpjdkeannaaAids
namespace Go.Proofs.Ytfgddpjdkeannaa
open Go.RowKit
set_option linter.unusedVariables false
set_option maxHeartbeats 1600000 in
theorem law_roots (ah al : Int) (h1 : Word ah) (h2 : Word al) (w : World) :
    Calls Try.prog 8 #[.agg #[.int .u64 ah, .int .u64 al]] w fun e w' => e = .returned (.bool true) ∧ Below w.heap.size w w' := by
  have hq := eql_u128
  have L := (Below.refl w.heap.size w).alloc (Nat.le_refl _) (.cells #[.int .u64 ah, .int .u64 al] 24)
  have c0 := cell_new0 w (.int .u64 ah) (.int .u64 al) 24
  have c1 := cell_new1 w (.int .u64 ah) (.int .u64 al) 24
  go_enter Try.func8, Try.ntmps8
  go_wp2_with fail
  refine (sqrt_any ah al h1 h2 _).mono ?_
  rintro e w1 ⟨r, xh, xl, rfl, wr, wxh, wxl, X1, X2, hb1⟩
  replace c0 := cell_on hb1 c0; replace c1 := cell_on hb1 c1
  replace L := below_call L hb1
  have z0 := lt_new c0
  go_wp2_with fail
  refine (rsqrt_any ah al h1 h2 _).mono ?_
  rintro e w2 ⟨s, yh, yl, rfl, ws, wyh, wyl, Y1, Y2, hb2⟩
  obtain ⟨rfl, en⟩ := root_uniq ws.1 wr.1 (num_lo wyh wyl) (num_lo wxh wxl) Y1.out X1.out Y2.out X2.out
  obtain ⟨rfl, rfl⟩ := num_inj wyh wyl wxh wxl en
  clear en
  have e0 := cell_on hb2 (cell_new0 w1 _ _ _); have e1 := cell_on hb2 (cell_new1 w1 _ _ _)
  replace L := below_call (below_new L _) hb2
  clear X1 X2 Y1 Y2 z0
  have z1 := lt_new e0
  go_wp2_with fail
  refine (live_any _).mono ?_
  rintro e w3 ⟨rfl, hb3⟩
  replace e0 := cell_on hb3 (cell_past e0 _); replace e1 := cell_on hb3 (cell_past e1 _)
  have k0 := cell_on hb3 (cell_new0 w2 _ _ _); have k1 := cell_on hb3 (cell_new1 w2 _ _ _)
  replace L := below_call (below_new L _) hb3
  have q1 : eq2 yh yl yh yl = true := eq2_true rfl rfl
  go_wp2_with fail
  go_ret
  exact ⟨rfl, L⟩
end Go.Proofs.Ytfgddpjdkeannaa
