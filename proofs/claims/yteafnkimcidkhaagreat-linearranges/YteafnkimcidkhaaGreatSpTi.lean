/- span.two on a line. -/
import Derived.Test.YteafnkimcidkhaaGreatRgTi
import Derived.Test.YteafnkimcidkhaaGreatRgOi
import Derived.Test.YteafnkimcidkhaaGreatSpQ
namespace Go.Proofs.YteafnkimcidkhaaGreat
open Go.RowKit
set_option linter.unusedVariables false
set_option linter.unusedSimpArgs false
theorem below_overi {W w2 : World} {o : Obj} (g : Below (W.alloc o).drew.heap.size (W.alloc o).drew w2) : Below W.heap.size W w2 :=
  ⟨g.os, g.tape, g.output, Nat.le_trans (Nat.le_trans (Nat.le_succ _) (by simp)) g.size, fun k hk => (g.block k (by show k < (W.alloc o).heap.size; simp; omega)).trans (Below.heap_alloc W o k hk)⟩
theorem lt_overi {W w2 : World} {o : Obj} (g : Below (W.alloc o).drew.heap.size (W.alloc o).drew w2) : W.heap.size < w2.heap.size := Nat.lt_of_lt_of_le (show W.heap.size < (W.alloc o).heap.size by simp) g.size
theorem srow_oni {W w2 : World} {e : Bool} {a b : Int} {t : TypeId} (g : Below (W.alloc (.cells #[.bool e, .int .i64 a, .int .i64 b] t)).drew.heap.size (W.alloc (.cells #[.bool e, .int .i64 a, .int .i64 b] t)).drew w2) : SRowi w2 W.heap.size [(e, a, b)] := fun j s hj => by
  cases j with
  | zero =>
    simp at hj; subst hj
    exact ⟨sp_cell_on g (show (W.alloc _).cell? _ = some _ by simp [go_sem]), sp_cell_on g (show (W.alloc _).cell? _ = some _ by simp [go_sem]), sp_cell_on g (show (W.alloc _).cell? _ = some _ by simp [go_sem])⟩
  | succ n => simp at hj
/-- How two are reckoned with: the function value that byTwo hands back, and what it does. -/
def By2i (L : Ln) (A : Ways) (B : Nat) (w0 : World) (op : Int) (ok : Int → Int → Prop) (g : Int → Int → Int) : Prop :=
  ∀ V, Below B w0 V → Calls Tryz.prog L.kt (#[.int .i64 op] ++ L.ct) V fun e V' => Below V.heap.size V V' ∧ ∃ kb caps, e = .returned (.func (.func kb) #[] caps) ∧ (∀ args w, (callFunc kb args).run Tryz.prog w = .ok (.enter kb args) w)
    ∧ ∀ x y X, ok x y → Below V'.heap.size V' X → Calls Tryz.prog kb (#[.int .i64 x, .int .i64 y] ++ caps) X fun e X' => e = .returned (.int .i64 (g x y)) ∧ Below X.heap.size X X'
end Go.Proofs.YteafnkimcidkhaaGreat

