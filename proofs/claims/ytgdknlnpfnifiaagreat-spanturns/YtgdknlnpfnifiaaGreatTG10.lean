/- Texts of the proof, put together. -/
import Derived.Test.YtgdknlnpfnifiaaGreatTSpRa
import Derived.Test.YtgdknlnpfnifiaaGreatTG9
import Derived.Test.YtgdknlnpfnifiaaGreatTG2
import Derived.Laws.Append
import Derived.Deep.Upon
namespace Go.Proofs.YtgdknlnpfnifiaaGreat
open Go.RowKit
set_option linter.unusedVariables false
set_option linter.unusedSimpArgs false
def RowFl (w : World) (v : Value) (xs : List Int) : Prop := (v = .slice none 0 0 ∧ xs = []) ∨ ∃ b : Nat, v = .slice (some ⟨b, 0, none⟩) xs.length xs.length ∧ 0 < xs.length ∧ ∀ j x, xs[j]? = some x → w.cell? ⟨b, j, none⟩ = some (.int .u64 x)
theorem RowFl.on {w V : World} {v : Value} {xs : List Int} (h : RowFl w v xs) (g : Below w.heap.size w V) : RowFl V v xs := by
  rcases h with h | ⟨b, h1, h2, h3⟩
  · exact Or.inl h
  · exact Or.inr ⟨b, h1, h2, fun j x hx => sO g (h3 j x hx)⟩
def RowGl (w : World) (v : Value) (xs : List Int) : Prop := (v = .slice none 0 0 ∧ xs = []) ∨ ∃ b cap : Nat, v = .slice (some ⟨b, 0, none⟩) xs.length cap ∧ 0 < xs.length ∧ ∀ j x, xs[j]? = some x → w.cell? ⟨b, j, none⟩ = some (.int .u64 x)
theorem RowFl.r {w : World} {v : Value} {xs : List Int} (h : RowFl w v xs) : RowGl w v xs := by
  rcases h with h | ⟨b, h1, h2, h3⟩
  · exact Or.inl h
  · exact Or.inr ⟨b, _, h1, h2, h3⟩
end Go.Proofs.YtgdknlnpfnifiaaGreat


namespace Go.Proofs.YtgdknlnpfnifiaaGreat
open Go.RowKit
set_option linter.unusedVariables false
set_option linter.unusedSimpArgs false
def toldF (s : Bool) (xs : List Int) : (Bool × Int × Int) × Int := match xs with | [] => ((true, 0, 0), 0) | x :: _ => (clipF s x xs, ctF s xs)
end Go.Proofs.YtgdknlnpfnifiaaGreat


namespace Go.Proofs.YtgdknlnpfnifiaaGreat
open Go.RowKit
set_option linter.unusedVariables false
set_option linter.unusedSimpArgs false
end Go.Proofs.YtgdknlnpfnifiaaGreat


