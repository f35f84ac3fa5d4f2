/- The statement SoftRounds, walked: a whole number times a power of 2, perhaps a quarter more, is rounded as the document says. -/
import Derived.Test.YtmfmjinplieehaaSRefU
import Derived.Test.YtmfmjinplieehaaSRefF
import Derived.Test.YtmfmjinplieehaaSoftLive
namespace Go.Proofs.Ytmfmjinplieehaa
open Go.RowKit
set_option linter.unusedVariables false
set_option maxRecDepth 8000 in
set_option maxHeartbeats 1600000 in
theorem law_softrounds (f m : Int) (b1 b2 : Bool) (x l e : Int) (hf1 : -9223372036854775808 ≤ f) (hf2 : f ≤ 9223372036854775807) (hm1 : -9223372036854775808 ≤ m) (hm2 : m ≤ 9223372036854775807) (h1 : Word x) (h2 : Word l) (e1 : -9223372036854775808 ≤ e) (e2 : e ≤ 9223372036854775807) (w : World) :
    Calls Try.prog 3 #[.agg #[.int .i64 f, .int .i64 m], .agg #[.bool b1, .bool b2, .int .u64 x, .int .u64 l, .int .i64 e]] w fun e w' => e = .returned (.bool true) ∧ Below w.heap.size w w' := by
  have hm := round_any f m b1 x l e b2 h1 h2 e1 e2
  have hr := rround_any (f == 1) m b1 x l e b2 h1 h2 e1 e2
  have hf := format_any f
  generalize fb (f == 1) = g at *
  generalize rndQ (f == 1) m b1 (nn x l) (clamp e) b2 = V at *
  have c0 : ((w.alloc (.cells #[.int .i64 f, .int .i64 m] 25)).alloc (.cells #[.bool b1, .bool b2, .int .u64 x, .int .u64 l, .int .i64 e] 30)).cell? ⟨w.heap.size, 0, none⟩ = some (.int .i64 f) := by simp [go_sem]
  have c1 : ((w.alloc (.cells #[.int .i64 f, .int .i64 m] 25)).alloc (.cells #[.bool b1, .bool b2, .int .u64 x, .int .u64 l, .int .i64 e] 30)).cell? ⟨w.heap.size, 1, none⟩ = some (.int .i64 m) := by simp [go_sem]
  have d0 : ((w.alloc (.cells #[.int .i64 f, .int .i64 m] 25)).alloc (.cells #[.bool b1, .bool b2, .int .u64 x, .int .u64 l, .int .i64 e] 30)).cell? ⟨w.heap.size + 1, 0, none⟩ = some (.bool b1) := by simp [go_sem]
  have d1 : ((w.alloc (.cells #[.int .i64 f, .int .i64 m] 25)).alloc (.cells #[.bool b1, .bool b2, .int .u64 x, .int .u64 l, .int .i64 e] 30)).cell? ⟨w.heap.size + 1, 1, none⟩ = some (.bool b2) := by simp [go_sem]
  have d2 : ((w.alloc (.cells #[.int .i64 f, .int .i64 m] 25)).alloc (.cells #[.bool b1, .bool b2, .int .u64 x, .int .u64 l, .int .i64 e] 30)).cell? ⟨w.heap.size + 1, 2, none⟩ = some (.int .u64 x) := by simp [go_sem]
  have d3 : ((w.alloc (.cells #[.int .i64 f, .int .i64 m] 25)).alloc (.cells #[.bool b1, .bool b2, .int .u64 x, .int .u64 l, .int .i64 e] 30)).cell? ⟨w.heap.size + 1, 3, none⟩ = some (.int .u64 l) := by simp [go_sem]
  have d4 : ((w.alloc (.cells #[.int .i64 f, .int .i64 m] 25)).alloc (.cells #[.bool b1, .bool b2, .int .u64 x, .int .u64 l, .int .i64 e] 30)).cell? ⟨w.heap.size + 1, 4, none⟩ = some (.int .i64 e) := by simp [go_sem]
  have L := below_new ((Below.refl w.heap.size w).alloc (Nat.le_refl _) (.cells #[.int .i64 f, .int .i64 m] 25)) (.cells #[.bool b1, .bool b2, .int .u64 x, .int .u64 l, .int .i64 e] 30)
  go_enter Try.func3, Try.ntmps3
  go_wp2_with fail
  go_region_held3 (fun w' => w'.cell? ⟨w.heap.size, 0, none⟩ = some (.int .i64 f) ∧ w'.cell? ⟨w.heap.size, 1, none⟩ = some (.int .i64 m) ∧ w'.cell? ⟨w.heap.size + 1, 0, none⟩ = some (.bool b1) ∧ w'.cell? ⟨w.heap.size + 1, 1, none⟩ = some (.bool b2) ∧ w'.cell? ⟨w.heap.size + 1, 2, none⟩ = some (.int .u64 x) ∧ w'.cell? ⟨w.heap.size + 1, 3, none⟩ = some (.int .u64 l) ∧ w'.cell? ⟨w.heap.size + 1, 4, none⟩ = some (.int .i64 e))
    (first | exact ⟨c0, c1, d0, d1, d2, d3, d4⟩ | (simp [go_sem, *]; done))
    (first
      | (go_at_call 10; refine (slive_any _).mono ?_; rintro e w1 ⟨rfl, hb1⟩; replace c0 := cell_on hb1 c0; replace c1 := cell_on hb1 c1; replace d0 := cell_on hb1 d0; replace d1 := cell_on hb1 d1; replace d2 := cell_on hb1 d2; replace d3 := cell_on hb1 d3; replace d4 := cell_on hb1 d4; replace L := below_call L.drew hb1)
      | (go_at_call 13; refine (hf _).mono ?_; rintro e w2 ⟨rfl, rfl⟩)
      | (go_at_call 11; refine (hm _).mono ?_; rintro e w2 ⟨rfl, hb2⟩; replace c0 := cell_on hb2 c0; replace c1 := cell_on hb2 c1; replace d0 := cell_on hb2 d0; replace d1 := cell_on hb2 d1; replace d2 := cell_on hb2 d2; replace d3 := cell_on hb2 d3; replace d4 := cell_on hb2 d4; replace L := below_call L hb2)
      | (go_at_call 12; refine (hr _).mono ?_; rintro e w2 ⟨rfl, hb2⟩; replace c0 := cell_on hb2 c0; replace c1 := cell_on hb2 c1; replace d0 := cell_on hb2 d0; replace d1 := cell_on hb2 d1; replace d2 := cell_on hb2 d2; replace d3 := cell_on hb2 d3; replace d4 := cell_on hb2 d4; replace L := below_call L hb2))
  go_wp2_with fail
  go_ret
  exact ⟨rfl, L⟩
end Go.Proofs.Ytmfmjinplieehaa

