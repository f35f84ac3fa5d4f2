/- Two floats reckoned by an op. -/
import Derived.Test.YtmfmjinplieehaaSoftMir
import Derived.Test.YtmfmjinplieehaaSoftLive
namespace Go.Proofs.Ytmfmjinplieehaa
open Go.RowKit
set_option linter.unusedVariables false
theorem nan_word (s : Bool) : Word (fNan s) := by cases s <;> exact ⟨by decide, by decide⟩
theorem sgnd_word (s b : Bool) (z : Int) (h0 : 0 ≤ z) (h : z ≤ fI s) : Word (sgnd s b z) := (made s b z h0 (by have := fI_lt s; omega)).1
theorem rnd_word (s : Bool) (m : Int) (b : Bool) (n : Nat) (e : Int) : Word (rnd s m b n e) := by
  obtain ⟨z, e1, z0, z1⟩ := rnd_made s m b n e
  rw [e1]; exact sgnd_word s b z z0 z1
theorem sumT_word (s : Bool) (m : Int) (xb : Bool) (xw : Nat) (xe : Int) (yb : Bool) (yw : Nat) (ye : Int) : Word (sumT s m xb xw xe yb yw ye) := by
  unfold sumT
  split
  · exact rnd_word _ _ _ _ _
  · split
    · exact sgnd_word s _ 0 (Int.le_refl _) (fI_pos s)
    · split <;> exact rnd_word _ _ _ _ _
theorem addF_word (s : Bool) (m a b : Int) (h1 : Word a) (h2 : Word b) : Word (addF s m a b) := by
  unfold addF
  split
  · exact nan_word s
  · split
    · exact nan_word s
    · split
      · exact h1
      · split
        · exact h2
        · exact sumT_word _ _ _ _ _ _ _ _
theorem mulF_word (s : Bool) (m a b : Int) : Word (mulF s m a b) := by
  unfold mulF
  split
  · exact nan_word s
  · split
    · exact nan_word s
    · split
      · exact sgnd_word s _ _ (fI_pos s) (Int.le_refl _)
      · exact rnd_word _ _ _ _ _
theorem divF_word (s : Bool) (m a b : Int) : Word (divF s m a b) := by
  unfold divF
  split
  · exact nan_word s
  · split
    · exact nan_word s
    · split
      · exact sgnd_word s _ _ (fI_pos s) (Int.le_refl _)
      · split
        · exact sgnd_word s _ _ (Int.le_refl _) (fI_pos s)
        · exact rnd_word _ _ _ _ _
def byF (op : Int) (s : Bool) (m a b : Int) : Int := if op = 8 then addF s m a b else if op = 9 then subF s m a b else if op = 10 then mulF s m a b else divF s m a b
theorem byF_word (op : Int) (s : Bool) (m a b : Int) (h1 : Word a) (h2 : Word b) : Word (byF op s m a b) := by
  unfold byF
  split
  · exact addF_word s m a b h1 h2
  · split
    · exact addF_word s m a _ h1 (negF_word s b h2)
    · split
      · exact mulF_word s m a b
      · exact divF_word s m a b
end Go.Proofs.Ytmfmjinplieehaa

