/- span.bothEnds and its closure: both ends of one stretch with both ends of each of others, in order. -/
import Derived.Test.YteafnkimcidkhaaGreatRgEi
namespace Go.Proofs.YteafnkimcidkhaaGreat
open Go.RowKit Go.Shelf
set_option linter.unusedVariables false
set_option linter.unusedSimpArgs false
attribute [local go_sem] Oper.semAt_some
/-- A stretch in a block of its own. -/
def Box3i (W : World) (b : Nat) (s : Bool × Int × Int) : Prop := W.cell? ⟨b, 0, none⟩ = some (.bool s.1) ∧ W.cell? ⟨b, 1, none⟩ = some (.int .i64 s.2.1) ∧ W.cell? ⟨b, 2, none⟩ = some (.int .i64 s.2.2)
theorem Box3i.but {S : Nat → Prop} {A B : World} {b : Nat} {s : Bool × Int × Int} (h : Box3i A b s) (hb : But S A B) (hs : ¬ S b) : Box3i B b s := ⟨hb.cell hs h.1, hb.cell hs h.2.1, hb.cell hs h.2.2⟩
end Go.Proofs.YteafnkimcidkhaaGreat

