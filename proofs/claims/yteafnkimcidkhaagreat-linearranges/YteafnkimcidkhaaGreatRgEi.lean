/- span.ends and its closure: the ends of all stretches that have some, in order. -/
import Derived.Test.YteafnkimcidkhaaGreatRows
import Derived.Test.YteafnkimcidkhaaGreatRgL
import Derived.RangeFuncBound
import Derived.RangeFuncLeaves
import Derived.Shelf.Abstract
import Derived.Shelf.RegionOpen
import Derived.WalkKit
import Derived.OwnWalkIn
import Derived.TacticsInMore
import Derived.LoopNIn
import Derived.LoopIn
namespace Go.Proofs.YteafnkimcidkhaaGreat
open Go.RowKit Go.Shelf
set_option linter.unusedVariables false
set_option linter.unusedSimpArgs false
attribute [local go_sem] Oper.semAt_some
/-- A stretch, as a value; the ends of stretches. -/
def sVi (s : Bool × Int × Int) : Value := .agg #[.bool s.1, .int .i64 s.2.1, .int .i64 s.2.2]
/-- A slice of stretches lies in block b. -/
def SRowi (W : World) (b : Nat) (ls : List (Bool × Int × Int)) : Prop := ∀ j s, ls[j]? = some s → W.cell? ⟨b, j * 3, none⟩ = some (.bool s.1) ∧ W.cell? ⟨b, j * 3 + 1, none⟩ = some (.int .i64 s.2.1) ∧ W.cell? ⟨b, j * 3 + 2, none⟩ = some (.int .i64 s.2.2)
theorem SRowi.but {S : Nat → Prop} {A B : World} {b : Nat} {ls : List (Bool × Int × Int)} (h : SRowi A b ls) (hb : But S A B) (hs : ¬ S b) : SRowi B b ls := fun j s hj => by
  obtain ⟨h1, h2, h3⟩ := h j s hj
  exact ⟨hb.cell hs h1, hb.cell hs h2, hb.cell hs h3⟩
end Go.Proofs.YteafnkimcidkhaaGreat

