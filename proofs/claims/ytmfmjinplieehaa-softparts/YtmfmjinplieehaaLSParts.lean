/- The statement SoftParts, walked: quotients are the true ones, rounded. -/
import Derived.Test.YtmfmjinplieehaaSRefX
import Derived.Test.YtmfmjinplieehaaSRefF
import Derived.Test.YtmfmjinplieehaaSoftLive
namespace Go.Proofs.Ytmfmjinplieehaa
open Go.RowKit
set_option linter.unusedVariables false
set_option maxRecDepth 8000 in
set_option maxHeartbeats 1600000 in
theorem law_softparts (f m a b : Int) (hf1 : -9223372036854775808 ≤ f) (hf2 : f ≤ 9223372036854775807) (hm1 : -9223372036854775808 ≤ m) (hm2 : m ≤ 9223372036854775807) (h1 : Word a) (h2 : Word b) (w : World) :
    Calls Try.prog 5 #[.agg #[.int .i64 f, .int .i64 m], .int .u64 a, .int .u64 b] w fun e w' => e = .returned (.bool true) ∧ Below w.heap.size w w' := by
  have hm := div_fl f m a b h1 h2
  have hr := rdivF_any (f == 1) m a b h1 h2
  have hf := format_any f
  generalize fb (f == 1) = g at *
  generalize divF (f == 1) m a b = V at *
  have c0 := cell_new0 w (.int .i64 f) (.int .i64 m) 25
  have c1 := cell_new1 w (.int .i64 f) (.int .i64 m) 25
  have L := (Below.refl w.heap.size w).alloc (Nat.le_refl _) (.cells #[.int .i64 f, .int .i64 m] 25)
  go_enter Try.func5, Try.ntmps5
  go_wp2_with fail
  go_region_held3 (fun w' => w'.cell? ⟨w.heap.size, 0, none⟩ = some (.int .i64 f) ∧ w'.cell? ⟨w.heap.size, 1, none⟩ = some (.int .i64 m))
    (first | exact ⟨c0, c1⟩ | (simp [go_sem, *]; done))
    (first
      | (go_at_call 10; refine (slive_any _).mono ?_; rintro e w1 ⟨rfl, hb1⟩; replace c0 := cell_on hb1 c0; replace c1 := cell_on hb1 c1; replace L := below_call L.drew hb1)
      | (go_at_call 13; refine (hf _).mono ?_; rintro e w2 ⟨rfl, rfl⟩)
      | (go_at_call 16; refine (hm _).mono ?_; rintro e w2 ⟨rfl, hb2⟩; replace c0 := cell_on hb2 c0; replace c1 := cell_on hb2 c1; replace L := below_call L hb2)
      | (go_at_call 17; refine (hr _).mono ?_; rintro e w2 ⟨rfl, hb2⟩; replace c0 := cell_on hb2 c0; replace c1 := cell_on hb2 c1; replace L := below_call L hb2))
  go_wp2_with fail
  go_ret
  exact ⟨rfl, L⟩
end Go.Proofs.Ytmfmjinplieehaa

