/- A line of numbers, as the program has it, and what its functions do. -/
import Derived.Test.YteafnkimcidkhaaGreatRows
import Derived.Test.YteafnkimcidkhaaGreatRgL
import Derived.WalkKit
import Derived.WalkSpells
import Derived.StillTactics
import Derived.Laws.Pointers
import Derived.Laws.Externs
import Derived.Deep.RegionHeld3
import Derived.Below
import Derived.RowKit
import Derived.Laws.EntriesVeiled
import Derived.Shelf.Abstract
namespace Go.Proofs.YteafnkimcidkhaaGreat
open Go.RowKit
set_option linter.unusedVariables false
set_option linter.unusedSimpArgs false
theorem sp_cell_on {W w1 : World} (hb : Below W.heap.size W w1) {a : Addr} {v : Value} (h : W.cell? a = some v) : w1.cell? a = some v := by
  rw [hb.cell (World.block_lt_of_cell? W a h)]; exact h
theorem sp_new {w W : World} (h : Below w.heap.size w W) (o : Obj) : Below w.heap.size w (W.alloc o) := h.alloc h.size o
theorem sp_call {w W w1 : World} (h : Below w.heap.size w W) (hb : Below W.heap.size W w1) : Below w.heap.size w w1 := h.trans (hb.mono h.size)
/-- The line's own numbers, its functions and what these have caught. -/
structure Ln where
  least : Int
  most : Int
  past : Int
  ko : Nat
  kp : Nat
  k1 : Nat
  kv : Nat
  kn : Nat
  ku : Nat
  kt : Nat
  kz : Nat
  co : Array Value
  cp : Array Value
  c1 : Array Value
  cv : Array Value
  cn : Array Value
  cu : Array Value
  ct : Array Value
  cz : Array Value
/-- What the line's functions answer: the order, a number without the sign of 0, whether it is one of the line's, the one ahead and the one behind. -/
structure Ways where
  dom : Int → Prop
  ord : Int → Int → Int
  pl : Int → Int
  one : Int → Bool
  prv : Int → Int
  nxt : Int → Int
/-- A number that grew since w0 below B alone. -/
theorem ok_call {B : Nat} {w0 V V' : World} (hB : B ≤ w0.heap.size) (h : Below B w0 V) (h' : Below V.heap.size V V') : Below B w0 V' := h.trans (h'.mono (Nat.le_trans hB h.size))
theorem ok_new {B : Nat} {w0 V : World} (hB : B ≤ w0.heap.size) (h : Below B w0 V) (o : Obj) : Below B w0 (V.alloc o) := h.alloc (Nat.le_trans hB h.size) o
theorem sp_set3 {w W : World} (h : Below w.heap.size w W) {b : Nat} (hb : w.heap.size ≤ b) (x y z : Value) : Below w.heap.size w (((W.setCell ⟨b, 0, none⟩ x).setCell ⟨b, 1, none⟩ y).setCell ⟨b, 2, none⟩ z) :=
  ((h.setCell (p := ⟨b, 0, none⟩) hb x).setCell (p := ⟨b, 1, none⟩) hb y).setCell (p := ⟨b, 2, none⟩) hb z
/-- What two stretches have in common. -/
def grt (A : Ways) (x y : Int) : Int := if 0 < A.ord y x then y else x
def sml (A : Ways) (x y : Int) : Int := if A.ord y x < 0 then y else x
def meetP (A : Ways) (p q : Bool × Int × Int) : Bool × Int × Int := if p.1 || q.1 || decide (0 < A.ord (grt A p.2.1 q.2.1) (sml A p.2.2 q.2.2)) then (true, 0, 0) else (false, grt A p.2.1 q.2.1, sml A p.2.2 q.2.2)
theorem grt_dom {A : Ways} {x y : Int} (hx : A.dom x) (hy : A.dom y) : A.dom (grt A x y) := by unfold grt; split <;> assumption
theorem sml_dom {A : Ways} {x y : Int} (hx : A.dom x) (hy : A.dom y) : A.dom (sml A x y) := by unfold sml; split <;> assumption
theorem sp_keep1 {W : World} {b b' j k : Nat} {v : Value} (h : W.cell? ⟨b', j, none⟩ = some v) (hne : b' ≠ b) (x : Value) : (W.setCell ⟨b, k, none⟩ x).cell? ⟨b', j, none⟩ = some v :=
  (World.cell?_setCell_far W ⟨b, k, none⟩ ⟨b', j, none⟩ x (Ne.symm hne)).trans h
theorem sp_keep3 {W : World} {b b' j : Nat} {v : Value} (h : W.cell? ⟨b', j, none⟩ = some v) (hne : b' ≠ b) (x y z : Value) : (((W.setCell ⟨b, 0, none⟩ x).setCell ⟨b, 1, none⟩ y).setCell ⟨b, 2, none⟩ z).cell? ⟨b', j, none⟩ = some v :=
  sp_keep1 (sp_keep1 (sp_keep1 h hne x) hne y) hne z
/-- From the lesser end to the greater one. -/
def joinP (A : Ways) (p q : Bool × Int × Int) : Bool × Int × Int := if p.1 then q else if q.1 then p else (false, sml A p.2.1 q.2.1, grt A p.2.2 q.2.2)
end Go.Proofs.YteafnkimcidkhaaGreat
