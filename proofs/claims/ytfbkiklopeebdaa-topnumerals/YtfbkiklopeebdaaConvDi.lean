/- A number's digits, as plumblinelaw03 writes them; conv.Int of digits. -/
import Derived.Test.YtfbkiklopeebdaaConvLt
import Derived.Deep.RegionHeld3
namespace Go.Proofs.Ytfbkiklopeebdaa
open Go.RowKit
set_option linter.unusedVariables false
set_option linter.unusedSimpArgs false
theorem digS_snoc (F : Nat → Nat) (k d : Nat) (hF : ∀ j, F j ≤ 9) (hd : d ≤ 9) : digS F k ++ ⟨#[UInt8.ofNat (48 + d)]⟩ = digS (fun j => if j < k then F j else d) (k + 1) := by
  unfold digS digL
  apply ByteArray.ext
  simp only [ByteArray.data_append]
  apply Array.ext'
  simp only [Array.toList_append, List.range_succ, List.map_append, List.map_cons, List.map_nil]
  congr 1
  · apply List.map_congr_left
    intro j hj
    rw [if_pos (List.mem_range.1 hj)]
  · simp
end Go.Proofs.Ytfbkiklopeebdaa

