/- The reference's Sum of two right ranges. -/
import Derived.Test.YteafnkimcidkhaaGreatYRG2
import Derived.Test.YteafnkimcidkhaaGreatYRSpFl
namespace Go.Proofs.YteafnkimcidkhaaGreat
open Go.RowKit
set_option linter.unusedVariables false
set_option linter.unusedSimpArgs false
theorem lj_cells3 {v : World} {b : Nat} {t : TypeId} {x0 x1 x2 : Value} (q : v.heap[b]? = some (.cells #[x0, x1, x2] t (0, 0))) : v.cell? ⟨b, 0, none⟩ = some x0 ∧ v.cell? ⟨b, 1, none⟩ = some x1 ∧ v.cell? ⟨b, 2, none⟩ = some x2 ∧ ∀ j, v.frozen? ⟨b, j, none⟩ = false :=
 ⟨by simp [World.cell?, q], by simp [World.cell?, q], by simp [World.cell?, q], fun j => by simp [World.frozen?, q]⟩
end Go.Proofs.YteafnkimcidkhaaGreat




