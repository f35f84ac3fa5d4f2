/- Small aids on worlds: what was there stays there behind a call that makes memory alone. -/
import Derived.Test.YtfbkiklopeebdaaWideF
namespace Go.Proofs.Ytfbkiklopeebdaa
open Go.RowKit
set_option linter.unusedVariables false

theorem cell_on {W w1 : World} (hb : Below W.heap.size W w1) {a : Addr} {v : Value} (h : W.cell? a = some v) : w1.cell? a = some v := by
  rw [hb.cell (World.block_lt_of_cell? W a h)]; exact h
theorem cell_new0 (w : World) (x y : Value) (t : TypeId) : (w.alloc (.cells #[x, y] t)).cell? ⟨w.heap.size, 0, none⟩ = some x := by simp [go_sem]
theorem cell_new1 (w : World) (x y : Value) (t : TypeId) : (w.alloc (.cells #[x, y] t)).cell? ⟨w.heap.size, 1, none⟩ = some y := by simp [go_sem]
theorem below_on {n : Nat} {w W w1 : World} (h : Below n w W) (hn : n ≤ W.heap.size) (hb : Below W.heap.size W w1) : Below n w w1 := h.trans (hb.mono hn)
theorem below_new {w W : World} (h : Below w.heap.size w W) (o : Obj) : Below w.heap.size w (W.alloc o) := h.alloc h.size o
theorem below_call {w W w1 : World} (h : Below w.heap.size w W) (hb : Below W.heap.size W w1) : Below w.heap.size w w1 := h.trans (hb.mono h.size)
theorem lt_new {w1 : World} {b o : Nat} {v : Value} (h : w1.cell? ⟨b, o, none⟩ = some v) : b < w1.heap.size := World.block_lt_of_cell? w1 ⟨b, o, none⟩ h

end Go.Proofs.Ytfbkiklopeebdaa

