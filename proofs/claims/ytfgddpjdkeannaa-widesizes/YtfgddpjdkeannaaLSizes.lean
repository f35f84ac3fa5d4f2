/- The statement WideSizes, walked: the number of bits and which one is greater are the reference's. -/
import Derived.Test.YtfgddpjdkeannaaRefF
import Derived.Test.YtfgddpjdkeannaaAids
namespace Go.Proofs.Ytfgddpjdkeannaa
open Go.RowKit
set_option linter.unusedVariables false
set_option maxHeartbeats 1600000 in
theorem law_sizes (ah al bh bl : Int) (h1 : Word ah) (h2 : Word al) (h3 : Word bh) (h4 : Word bl) (w : World) :
    Calls Try.prog 6 #[.agg #[.int .u64 ah, .int .u64 al], .agg #[.int .u64 bh, .int .u64 bl]] w fun e w' => e = .returned (.bool true) ∧ Below w.heap.size w w' := by
  have L := below_two w (.cells #[.int .u64 ah, .int .u64 al] 24) (.cells #[.int .u64 bh, .int .u64 bl] 24)
  have c0 := cell_past (cell_new0 w (.int .u64 ah) (.int .u64 al) 24) (.cells #[.int .u64 bh, .int .u64 bl] 24)
  have c1 := cell_past (cell_new1 w (.int .u64 ah) (.int .u64 al) 24) (.cells #[.int .u64 bh, .int .u64 bl] 24)
  have d0 := cell_new0 (w.alloc (.cells #[.int .u64 ah, .int .u64 al] 24)) (.int .u64 bh) (.int .u64 bl) 24
  have d1 := cell_new1 (w.alloc (.cells #[.int .u64 ah, .int .u64 al] 24)) (.int .u64 bh) (.int .u64 bl) 24
  rw [World.size_alloc] at d0 d1
  go_enter Try.func6, Try.ntmps6
  go_wp2_with fail
  refine (cmp_any ah al bh bl h1 h2 h3 h4 _).mono ?_
  rintro e w1 ⟨n, rfl, E1, hb1⟩
  replace c0 := cell_on hb1 c0; replace c1 := cell_on hb1 c1; replace d0 := cell_on hb1 d0; replace d1 := cell_on hb1 d1
  replace L := below_call L hb1
  go_wp2_with fail
  refine (rcmp_any ah al bh bl h1 h2 h3 h4 _).mono ?_
  rintro e w2 ⟨m, rfl, E2, hb2⟩
  obtain rfl : m = n := E2.out.trans E1.out.symm
  replace c0 := cell_on hb2 c0; replace c1 := cell_on hb2 c1; replace d0 := cell_on hb2 d0; replace d1 := cell_on hb2 d1
  replace L := below_call L hb2
  clear E1 E2
  go_wp2_with fail
  go_region_held3 (fun w' => w'.cell? ⟨w.heap.size, 0, none⟩ = some (.int .u64 ah) ∧ w'.cell? ⟨w.heap.size, 1, none⟩ = some (.int .u64 al))
    (first | exact ⟨c0, c1⟩ | (simp [go_sem, *]; done))
    (first
      | (go_at_call 13; refine (live_any _).mono ?_; rintro e w3 ⟨rfl, hb3⟩; replace c0 := cell_on hb3 c0; replace c1 := cell_on hb3 c1; replace L := below_call L.drew hb3)
      | (go_at_call 22; refine (len_any ah al h1 h2 _).mono ?_; rintro e w4 ⟨x, rfl, x0, x1, I1, hb4⟩; replace c0 := cell_on hb4 c0; replace c1 := cell_on hb4 c1; replace L := below_call L hb4)
      | (go_at_call 23; refine (rlen_any ah al h1 h2 _).mono ?_; rintro e w5 ⟨y, rfl, I2, hb5⟩; obtain rfl : y = x := isLen_uniq I2 I1; replace c0 := cell_on hb5 c0; replace c1 := cell_on hb5 c1; replace L := below_call L hb5))
  go_wp2_with fail
  go_ret
  exact ⟨rfl, L⟩
end Go.Proofs.Ytfgddpjdkeannaa
