/- The statement WideSums, walked: sums and differences are the reference's. -/
import Derived.Test.YtfgddpjdkeannaaRefD
import Derived.Test.YtfgddpjdkeannaaAids
namespace Go.Proofs.Ytfgddpjdkeannaa
open Go.RowKit
set_option linter.unusedVariables false

set_option maxHeartbeats 1600000 in
theorem law_sums (ah al bh bl : Int) (h1 : Word ah) (h2 : Word al) (h3 : Word bh) (h4 : Word bl) (w : World) :
    Calls Try.prog 3 #[.agg #[.int .u64 ah, .int .u64 al], .agg #[.int .u64 bh, .int .u64 bl]] w fun e w' => e = .returned (.bool true) ∧ Below w.heap.size w w' := by
  have hq := eql_u128
  have L := below_two w (.cells #[.int .u64 ah, .int .u64 al] 24) (.cells #[.int .u64 bh, .int .u64 bl] 24)
  have c0 := cell_past (cell_new0 w (.int .u64 ah) (.int .u64 al) 24) (.cells #[.int .u64 bh, .int .u64 bl] 24)
  have c1 := cell_past (cell_new1 w (.int .u64 ah) (.int .u64 al) 24) (.cells #[.int .u64 bh, .int .u64 bl] 24)
  have d0 := cell_new0 (w.alloc (.cells #[.int .u64 ah, .int .u64 al] 24)) (.int .u64 bh) (.int .u64 bl) 24
  have d1 := cell_new1 (w.alloc (.cells #[.int .u64 ah, .int .u64 al] 24)) (.int .u64 bh) (.int .u64 bl) 24
  rw [World.size_alloc] at d0 d1
  go_enter Try.func3, Try.ntmps3
  go_wp2_with fail
  refine (add_any ah al bh bl h1 h2 h3 h4 _).mono ?_
  rintro e w1 ⟨xh, xl, xc, rfl, wxh, wxl, X1, X2, hb1⟩
  replace c0 := cell_on hb1 c0; replace c1 := cell_on hb1 c1; replace d0 := cell_on hb1 d0; replace d1 := cell_on hb1 d1
  replace L := below_call L hb1
  have z0 := lt_new c0; have z1 := lt_new d0
  go_wp2_with fail
  refine (radd_any ah al bh bl h1 h2 h3 h4 _).mono ?_
  rintro e w2 ⟨yh, yl, yc, rfl, wyh, wyl, Y1, Y2, hb2⟩
  obtain ⟨rfl, rfl⟩ := num_inj wyh wyl wxh wxl (Y1.out.trans X1.out.symm)
  obtain rfl : yc = xc := Y2.out.trans X2.out.symm
  replace c0 := cell_on hb2 (cell_past c0 _); replace c1 := cell_on hb2 (cell_past c1 _); replace d0 := cell_on hb2 (cell_past d0 _); replace d1 := cell_on hb2 (cell_past d1 _)
  have e0 := cell_on hb2 (cell_new0 w1 _ _ _); have e1 := cell_on hb2 (cell_new1 w1 _ _ _)
  replace L := below_call (below_new L _) hb2
  clear X1 X2 Y1 Y2 z0 z1
  have z0 := lt_new c0; have z1 := lt_new d0; have z2 := lt_new e0
  go_wp2_with fail
  refine (sub_any ah al bh bl h1 h2 h3 h4 _).mono ?_
  rintro e w3 ⟨zh, zl, zc, rfl, wzh, wzl, Z1, Z2, hb3⟩
  replace c0 := cell_on hb3 (cell_past c0 _); replace c1 := cell_on hb3 (cell_past c1 _); replace d0 := cell_on hb3 (cell_past d0 _); replace d1 := cell_on hb3 (cell_past d1 _)
  replace e0 := cell_on hb3 (cell_past e0 _); replace e1 := cell_on hb3 (cell_past e1 _)
  have f0 := cell_on hb3 (cell_new0 w2 _ _ _); have f1 := cell_on hb3 (cell_new1 w2 _ _ _)
  replace L := below_call (below_new L _) hb3
  clear z0 z1 z2
  have z0 := lt_new c0; have z1 := lt_new d0; have z2 := lt_new e0; have z3 := lt_new f0
  go_wp2_with fail
  refine (rsub_any ah al bh bl h1 h2 h3 h4 _).mono ?_
  rintro e w4 ⟨vh, vl, vc, rfl, wvh, wvl, V1, V2, hb4⟩
  obtain ⟨rfl, rfl⟩ := num_inj wvh wvl wzh wzl (V1.out.trans Z1.out.symm)
  obtain rfl : vc = zc := V2.out.trans Z2.out.symm
  replace c0 := cell_on hb4 (cell_past c0 _); replace c1 := cell_on hb4 (cell_past c1 _); replace d0 := cell_on hb4 (cell_past d0 _); replace d1 := cell_on hb4 (cell_past d1 _)
  replace e0 := cell_on hb4 (cell_past e0 _); replace e1 := cell_on hb4 (cell_past e1 _)
  replace f0 := cell_on hb4 (cell_past f0 _); replace f1 := cell_on hb4 (cell_past f1 _)
  have g0 := cell_on hb4 (cell_new0 w3 _ _ _); have g1 := cell_on hb4 (cell_new1 w3 _ _ _)
  replace L := below_call (below_new L _) hb4
  clear Z1 Z2 V1 V2 z0 z1 z2 z3
  have z0 := lt_new c0; have z1 := lt_new d0; have z2 := lt_new e0; have z3 := lt_new f0; have z4 := lt_new g0
  go_wp2_with fail
  refine (live_any _).mono ?_
  rintro e w5 ⟨rfl, hb5⟩
  replace e0 := cell_on hb5 (cell_past e0 _); replace e1 := cell_on hb5 (cell_past e1 _)
  replace f0 := cell_on hb5 (cell_past f0 _); replace f1 := cell_on hb5 (cell_past f1 _)
  replace g0 := cell_on hb5 (cell_past g0 _); replace g1 := cell_on hb5 (cell_past g1 _)
  have k0 := cell_on hb5 (cell_new0 w4 _ _ _); have k1 := cell_on hb5 (cell_new1 w4 _ _ _)
  replace L := below_call (below_new L _) hb5
  have q1 : eq2 yh yl yh yl = true := eq2_true rfl rfl
  have q2 : eq2 vh vl vh vl = true := eq2_true rfl rfl
  go_wp2_with fail
  go_ret
  exact ⟨rfl, L⟩
end Go.Proofs.Ytfgddpjdkeannaa
