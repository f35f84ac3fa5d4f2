/- What wide.Add, Sub, Mul, Shl and Shr answer, as numbers of two words. -/
import Derived.Test.YtfbkiklopeebdaaRows
import Derived.Test.YtfbkiklopeebdaaWords
import Derived.Test.YtfbkiklopeebdaaShelf
import Derived.WalkKit
import Derived.WalkSpells
import Derived.StillTactics
import Derived.Laws.Pointers
import Derived.Laws.Externs
import Derived.Deep.RegionHeld3
import Derived.Below
import Derived.Shelf.Spec.BitsCarry
namespace Go.Proofs.Ytfbkiklopeebdaa
open Go.RowKit
set_option linter.unusedVariables false

/-- Two or three new blocks turn nothing that was there. -/
theorem below_two (w : World) (a b : Obj) : Below w.heap.size w ((w.alloc a).alloc b) :=
  ((Below.refl _ _).alloc (Nat.le_refl _) _).alloc (by simp) _
theorem below_three (w : World) (a b c : Obj) : Below w.heap.size w (((w.alloc a).alloc b).alloc c) :=
  (below_two w a b).alloc (by simp; omega) _

theorem mul_num (a b : Int) (ha : Word a) (hb : Word b) : Word (a * b / 18446744073709551616) ∧ Word (a * b % 18446744073709551616) ∧ num (a * b / 18446744073709551616) (a * b % 18446744073709551616) = a * b := by
  refine ⟨?_, word_mod _, num_of _⟩
  unfold Word at *
  have h0 : 0 ≤ a * b := Int.mul_nonneg ha.1 hb.1
  have h1 : a * b ≤ 18446744073709551615 * 18446744073709551615 := Int.mul_le_mul (by omega) (by omega) hb.1 (by decide)
  omega

end Go.Proofs.Ytfbkiklopeebdaa

