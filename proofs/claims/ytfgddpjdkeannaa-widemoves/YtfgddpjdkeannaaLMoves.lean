/- The statement WideMoves, walked: moves by bits are the reference's. -/
import Derived.Test.YtfgddpjdkeannaaRefE
import Derived.Test.YtfgddpjdkeannaaAids
namespace Go.Proofs.Ytfgddpjdkeannaa
open Go.RowKit
set_option linter.unusedVariables false

set_option maxHeartbeats 1600000 in
theorem law_moves (ah al n : Int) (h1 : Word ah) (h2 : Word al) (hn : -9223372036854775808 ≤ n) (hn' : n ≤ 9223372036854775807) (w : World) :
    Calls Try.prog 5 #[.agg #[.int .u64 ah, .int .u64 al], .int .i64 n] w fun e w' => e = .returned (.bool true) ∧ Below w.heap.size w w' := by
  have hq := eql_u128
  have L := (Below.refl w.heap.size w).alloc (Nat.le_refl _) (.cells #[.int .u64 ah, .int .u64 al] 24)
  have c0 := cell_new0 w (.int .u64 ah) (.int .u64 al) 24
  have c1 := cell_new1 w (.int .u64 ah) (.int .u64 al) 24
  go_enter Try.func5, Try.ntmps5
  go_wp2_with fail
  refine (shr_any ah al n h1 h2 hn hn' _).mono ?_
  rintro e w1 ⟨xh, xl, xc, rfl, wxh, wxl, X1, X2, hb1⟩
  replace c0 := cell_on hb1 c0; replace c1 := cell_on hb1 c1
  replace L := below_call L hb1
  have z0 := lt_new c0
  go_wp2_with fail
  refine (rshr_any ah al n h1 h2 hn hn' _).mono ?_
  rintro e w2 ⟨yh, yl, yc, rfl, wyh, wyl, Y1, Y2, hb2⟩
  obtain ⟨rfl, rfl⟩ := num_inj wyh wyl wxh wxl (Y1.out.trans X1.out.symm)
  obtain rfl : yc = xc := Y2.out.trans X2.out.symm
  replace c0 := cell_on hb2 (cell_past c0 _); replace c1 := cell_on hb2 (cell_past c1 _)
  have e0 := cell_on hb2 (cell_new0 w1 _ _ _); have e1 := cell_on hb2 (cell_new1 w1 _ _ _)
  replace L := below_call (below_new L _) hb2
  clear X1 X2 Y1 Y2 z0
  have z0 := lt_new c0; have z1 := lt_new e0
  have f0 := cell_new0 w2 (.int .u64 yh) (.int .u64 yl) 24; have f1 := cell_new1 w2 (.int .u64 yh) (.int .u64 yl) 24
  replace c0 := cell_past c0 (.cells #[.int .u64 yh, .int .u64 yl] 24); replace c1 := cell_past c1 (.cells #[.int .u64 yh, .int .u64 yl] 24)
  replace e0 := cell_past e0 (.cells #[.int .u64 yh, .int .u64 yl] 24); replace e1 := cell_past e1 (.cells #[.int .u64 yh, .int .u64 yl] 24)
  replace L := below_new L (.cells #[.int .u64 yh, .int .u64 yl] 24)
  have q1 : eq2 yh yl yh yl = true := eq2_true rfl rfl
  go_wp2_with fail
  go_region_held3 (fun w' => w'.cell? ⟨w.heap.size, 0, none⟩ = some (.int .u64 ah) ∧ w'.cell? ⟨w.heap.size, 1, none⟩ = some (.int .u64 al) ∧ w'.cell? ⟨w1.heap.size, 0, none⟩ = some (.int .u64 yh) ∧ w'.cell? ⟨w1.heap.size, 1, none⟩ = some (.int .u64 yl) ∧ w'.cell? ⟨w2.heap.size, 0, none⟩ = some (.int .u64 yh) ∧ w'.cell? ⟨w2.heap.size, 1, none⟩ = some (.int .u64 yl))
    (first | exact ⟨c0, c1, e0, e1, f0, f1⟩ | (simp [go_sem, *]; done))
    (first
      | (go_at_call 13; refine (live_any _).mono ?_; rintro e w3 ⟨rfl, hb3⟩; replace c0 := cell_on hb3 c0; replace c1 := cell_on hb3 c1; replace e0 := cell_on hb3 e0; replace e1 := cell_on hb3 e1; replace f0 := cell_on hb3 f0; replace f1 := cell_on hb3 f1; replace L := below_call L.drew hb3)
      | (go_at_call 18; refine (shl_any ah al n h1 h2 hn hn' _).mono ?_; rintro e w4 ⟨vh, vl, rfl, wvh, wvl, V1, hb4⟩; replace c0 := cell_on hb4 c0; replace c1 := cell_on hb4 c1; replace e0 := cell_on hb4 e0; replace e1 := cell_on hb4 e1; replace f0 := cell_on hb4 f0; replace f1 := cell_on hb4 f1; replace L := below_call L hb4)
      | (go_at_call 19; refine (rshl_any ah al n h1 h2 hn hn' _).mono ?_; rintro e w5 ⟨uh, ul, rfl, wuh, wul, U1, hb5⟩; have q2 : eq2 vh vl uh ul = true := (eq2_true (num_inj wvh wvl wuh wul (V1.out.trans U1.out.symm)).1 (num_inj wvh wvl wuh wul (V1.out.trans U1.out.symm)).2); replace c0 := cell_on hb5 c0; replace c1 := cell_on hb5 c1; replace e0 := cell_on hb5 e0; replace e1 := cell_on hb5 e1; replace f0 := cell_on hb5 f0; replace f1 := cell_on hb5 f1; replace L := below_call L hb5))
  go_wp2_with fail
  go_ret
  exact ⟨rfl, L⟩
end Go.Proofs.Ytfgddpjdkeannaa
