/- The statement SoftRoots, walked: roots are the true ones, rounded. -/
import Derived.Test.YtmfmjinplieehaaSRefQ
import Derived.Test.YtmfmjinplieehaaSRefF
import Derived.Test.YtmfmjinplieehaaSoftLive
namespace Go.Proofs.Ytmfmjinplieehaa
open Go.RowKit
set_option linter.unusedVariables false
set_option maxRecDepth 8000 in
set_option maxHeartbeats 1600000 in
theorem law_softroots (f m a : Int) (hf1 : -9223372036854775808 ≤ f) (hf2 : f ≤ 9223372036854775807) (hm1 : -9223372036854775808 ≤ m) (hm2 : m ≤ 9223372036854775807) (h1 : Word a) (w : World) :
    Calls Try.prog 7 #[.agg #[.int .i64 f, .int .i64 m], .int .u64 a] w fun e w' => e = .returned (.bool true) ∧ Below w.heap.size w w' := by
  have hm := sqrt_fl f m a h1
  have hr := rsqrtF_any (f == 1) m a h1
  have hf := format_any f
  generalize fb (f == 1) = g at *
  generalize sqrtF (f == 1) m a = V at *
  have c0 := cell_new0 w (.int .i64 f) (.int .i64 m) 25
  have c1 := cell_new1 w (.int .i64 f) (.int .i64 m) 25
  have L := (Below.refl w.heap.size w).alloc (Nat.le_refl _) (.cells #[.int .i64 f, .int .i64 m] 25)
  go_enter Try.func7, Try.ntmps7
  go_wp2_with fail
  go_region_held3 (fun w' => w'.cell? ⟨w.heap.size, 0, none⟩ = some (.int .i64 f) ∧ w'.cell? ⟨w.heap.size, 1, none⟩ = some (.int .i64 m))
    (first | exact ⟨c0, c1⟩ | (simp [go_sem, *]; done))
    (first
      | (go_at_call 10; refine (slive_any _).mono ?_; rintro e w1 ⟨rfl, hb1⟩; replace c0 := cell_on hb1 c0; replace c1 := cell_on hb1 c1; replace L := below_call L.drew hb1)
      | (go_at_call 13; refine (hf _).mono ?_; rintro e w2 ⟨rfl, rfl⟩)
      | (go_at_call 22; refine (hm _).mono ?_; rintro e w2 ⟨rfl, hb2⟩; replace c0 := cell_on hb2 c0; replace c1 := cell_on hb2 c1; replace L := below_call L hb2)
      | (go_at_call 23; refine (hr _).mono ?_; rintro e w2 ⟨rfl, hb2⟩; replace c0 := cell_on hb2 c0; replace c1 := cell_on hb2 c1; replace L := below_call L hb2))
  go_wp2_with fail
  go_ret
  exact ⟨rfl, L⟩
end Go.Proofs.Ytmfmjinplieehaa

