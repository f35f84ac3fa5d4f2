/- Names and words of every text: the walk of FlexNames. -/
import Derived.Test.YtldolcfgfmfiiaaFxS
import Derived.Test.YtldolcfgfmfiiaaFxO
namespace Go.Proofs.Ytldolcfgfmfiiaa
open Go.RowKit
set_option linter.unusedVariables false
set_option linter.unusedSimpArgs false
set_option maxRecDepth 1000000 in
set_option maxHeartbeats 3200000 in
theorem law_names (s : ByteArray) (hz : s.size ≤ 9223372036854775807) (w : World) : Calls Try.prog 4 #[.string s] w fun e w' => e = .returned (.bool true) ∧ Below w.heap.size w w' := by
  have hv := live_any
  have hn := isName_any s hz
  have hw := isWord_any s
  have gn := rIsName_any s
  have gw := rWord_any s
  rw [isW_among] at gw
  have no : isN s.toList = true → isW s.toList = true → False := fun a b => by have := (isN_cases a).2.2.2; rw [b] at this; cases this
  generalize isN s.toList = bn at *
  generalize isW s.toList = bw at *
  cases bn <;> cases bw
  all_goals first
    | (exfalso; exact no rfl rfl)
    | (clear no
       go_enter Try.func4, Try.ntmps4
       go_wp2_with (first
         | (go_at_call 12; refine (hv _).mono ?_; rintro e w1 ⟨rfl, b1⟩; have L : Below w.heap.size w w1 := b1)
         | (go_at_call 14; refine (hn _).mono ?_; rintro e w2 ⟨rfl, b2⟩; replace L := below_call L b2)
         | (go_at_call 15; refine (gn _).mono ?_; rintro e w3 ⟨rfl, b3⟩; replace L := below_call L b3)
         | (go_at_call 16; refine (hw _).mono ?_; rintro e w4 ⟨rfl, rfl⟩)
         | (go_at_call 17; refine (gw _).mono ?_; rintro e w5 ⟨rfl, b5⟩; replace L := below_call L b5)
         | fail)
       go_ret
       exact ⟨rfl, L⟩)
end Go.Proofs.Ytldolcfgfmfiiaa
