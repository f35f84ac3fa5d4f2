/- Texts of the proof, put together. -/
import Derived.Test.YteafnkimcidkhaaGreatYRG4
import Derived.Test.YteafnkimcidkhaaGreatRows
import Derived.ProofKit
import Derived.OpenShut
import Derived.ChangeOld
import Derived.Lib.SmallJoins
import Derived.Deep.Strs
import Derived.Test.YteafnkimcidkhaaGreatYRG3
import Derived.Test.YteafnkimcidkhaaGreatYRMB1
import Derived.Deep.Slices
import Derived.Carry
import Derived.Test.YteafnkimcidkhaaGreatYRG6
import Derived.Test.YteafnkimcidkhaaGreatYRLiO
namespace Go.Proofs.YteafnkimcidkhaaGreat
open Go.RowKit
set_option linter.unusedVariables false
set_option linter.unusedSimpArgs false
end Go.Proofs.YteafnkimcidkhaaGreat


namespace Go.Proofs.YteafnkimcidkhaaGreat
open Go.ChangeShapes Go.WideShapes Go.ChangeAt Go.RowKit Go.Joins Go.Deep
set_option linter.unusedVariables false
set_option linter.unusedSimpArgs false
section
variable {H : Type} {enc : TypeId × Value → H} {w : World} {base : Nat} {spare : Nat → Bool} {held : Bool}
end
end Go.Proofs.YteafnkimcidkhaaGreat



namespace Go.Proofs.YteafnkimcidkhaaGreat
open Go.ChangeShapes Go.WideShapes Go.ChangeAt Go.RowKit Go.Joins Go.Deep
set_option linter.unusedVariables false
set_option linter.unusedSimpArgs false
def RAt (W : World) (v : Value) (rs : List (Bool × Int × Int)) : Prop := (v = .slice none 0 0 ∧ rs = []) ∨ ∃ (b o cap : Nat), v = .slice (some ⟨b, o, none⟩) rs.length cap ∧ rs.length ≤ cap ∧ ∀ (j : Nat) r, rs[j]? = some r → W.cell? ⟨b, o + j * 3, none⟩ = some (.bool r.1) ∧ W.cell? ⟨b, o + j * 3 + 1, none⟩ = some (.int .u64 r.2.1) ∧ W.cell? ⟨b, o + j * 3 + 2, none⟩ = some (.int .u64 r.2.2)
theorem RAt.on {W V : World} {v : Value} {rs : List (Bool × Int × Int)} (h : RAt W v rs) (g : Below W.heap.size W V) : RAt V v rs := by
 rcases h with h | ⟨b, o, cap, rfl, hc, h⟩
 ·exact Or.inl h
 ·exact Or.inr ⟨b, o, cap, rfl, hc, fun j t hj => by
  obtain ⟨h0, h1, h2⟩ := h j t hj
  exact ⟨sO g h0, sO g h1, sO g h2⟩⟩
theorem RAt.len {W : World} {v : Value} {rs : List (Bool × Int × Int)} (h : RAt W v rs) : ∃ (p : Option Addr) (cap : Nat), v = .slice p rs.length cap := by
 rcases h with ⟨rfl, rfl⟩ | ⟨b, o, cap, rfl, hc, h⟩
 ·exact ⟨none, 0, rfl⟩
 ·exact ⟨_, cap, rfl⟩
section
variable {H : Type} {enc : TypeId × Value → H} {W : World}
end
end Go.Proofs.YteafnkimcidkhaaGreat



namespace Go.Proofs.YteafnkimcidkhaaGreat
open Go.RowKit Go.Shelf
set_option linter.unusedVariables false
set_option linter.unusedSimpArgs false
end Go.Proofs.YteafnkimcidkhaaGreat



namespace Go.Proofs.YteafnkimcidkhaaGreat
open Go.RowKit
set_option linter.unusedVariables false
set_option linter.unusedSimpArgs false
end Go.Proofs.YteafnkimcidkhaaGreat



