/- The reference's octagon in memory. -/
import Derived.Test.YtpcbammncaeimaaOdH
import Derived.Test.YtpcbammncaeimaaOdP
namespace Go.Proofs.Ytpcbammncaeimaa
open Go.RowKit
set_option linter.unusedVariables false
set_option linter.unusedSimpArgs false
/-- Where one lies: its own block, that of its rows' headers, the rows; all from lo to hi. -/
structure Rf where
  b : Nat
  pb : Nat
  pc : Nat
  rb : Nat → Nat
  rc : Nat → Nat
  lo : Nat
  hi : Nat
structure RefAt (W : World) (R : Rf) (n : Nat) (e : Bool) (M : Mx) : Prop where
  hn : W.cell? ⟨R.b, 0, none⟩ = some (.int .i64 n)
  hs : W.cell? ⟨R.b, 1, none⟩ = some (.slice (some ⟨R.pb, 0, none⟩) (2 * n) R.pc)
  he : W.cell? ⟨R.b, 2, none⟩ = some (.bool e)
  hr : ∀ a, a < 2 * n → W.cell? ⟨R.pb, a, none⟩ = some (.slice (some ⟨R.rb a, 0, none⟩) (2 * n) (R.rc a))
  hm : ∀ a c, a < 2 * n → c < 2 * n → W.cell? ⟨R.rb a, c, none⟩ = some (.int .i64 (M a c))
  fe : ∀ k, W.frozen? ⟨R.b, k, none⟩ = false
  fm : ∀ a k, a < 2 * n → W.frozen? ⟨R.rb a, k, none⟩ = false
  ib : R.lo ≤ R.b ∧ R.b < R.hi
  ip : R.lo ≤ R.pb ∧ R.pb < R.hi
  ir : ∀ a, a < 2 * n → R.lo ≤ R.rb a ∧ R.rb a < R.hi
  d1 : R.b ≠ R.pb
  d2 : ∀ a, a < 2 * n → R.rb a ≠ R.b
  d3 : ∀ a, a < 2 * n → R.rb a ≠ R.pb
  d4 : ∀ a c, a < 2 * n → c < 2 * n → R.rb a = R.rb c → a = c
/-- All blocks that lay, but those from lo to hi, lie as they lay. -/
structure Rgn (lo hi : Nat) (w w' : World) : Prop where
  os : w'.os = w.os
  tape : w'.tape = w.tape
  output : w'.output = w.output
  size : w.heap.size ≤ w'.heap.size
  block : ∀ k, k < w.heap.size → k < lo ∨ hi ≤ k → w'.heap[k]? = w.heap[k]?
theorem Rgn.refl (lo hi : Nat) (w : World) : Rgn lo hi w w := ⟨rfl, rfl, rfl, Nat.le_refl _, fun _ _ _ => rfl⟩
theorem Rgn.trans {lo hi : Nat} {x y z : World} (h : Rgn lo hi x y) (k : Rgn lo hi y z) : Rgn lo hi x z :=
  ⟨k.os.trans h.os, k.tape.trans h.tape, k.output.trans h.output, Nat.le_trans h.size k.size, fun i hi hb => (k.block i (Nat.lt_of_lt_of_le hi h.size) hb).trans (h.block i hi hb)⟩
theorem Rgn.drewN {lo hi : Nat} {x y : World} (h : Rgn lo hi x y) (n : Nat) : Rgn lo hi x (y.drewN n) := ⟨h.os, h.tape, h.output, h.size, h.block⟩
theorem Rgn.drew {lo hi : Nat} {x y : World} (h : Rgn lo hi x y) : Rgn lo hi x y.drew := ⟨h.os, h.tape, h.output, h.size, h.block⟩
theorem Rgn.set {lo hi : Nat} {x y : World} (h : Rgn lo hi x y) {b j : Nat} (h1 : lo ≤ b) (h2 : b < hi) (v : Value) : Rgn lo hi x (y.setCell ⟨b, j, none⟩ v) :=
  ⟨h.os, h.tape, h.output, by simpa [World.setCell] using h.size, fun k hk hb => (Below.heap_setCell y _ v k (by show k ≠ b; omega)).trans (h.block k hk hb)⟩
theorem Rgn.of {lo hi : Nat} {w w' : World} (g : Below w.heap.size w w') : Rgn lo hi w w' := ⟨g.os, g.tape, g.output, g.size, fun k hk _ => g.block k hk⟩
theorem RefAt.drewN {W : World} {R : Rf} {n : Nat} {e : Bool} {M : Mx} (h : RefAt W R n e M) (k : Nat) : RefAt (W.drewN k) R n e M := ⟨h.hn, h.hs, h.he, h.hr, h.hm, h.fe, h.fm, h.ib, h.ip, h.ir, h.d1, h.d2, h.d3, h.d4⟩
theorem RefAt.drew {W : World} {R : Rf} {n : Nat} {e : Bool} {M : Mx} (h : RefAt W R n e M) : RefAt W.drew R n e M := ⟨h.hn, h.hs, h.he, h.hr, h.hm, h.fe, h.fm, h.ib, h.ip, h.ir, h.d1, h.d2, h.d3, h.d4⟩
theorem RefAt.congr {W : World} {R : Rf} {n : Nat} {e : Bool} {M M' : Mx} (h : RefAt W R n e M) (q : ∀ a c, a < 2 * n → c < 2 * n → M a c = M' a c) : RefAt W R n e M' := ⟨h.hn, h.hs, h.he, h.hr, fun a c ha hc => by rw [← q a c ha hc]; exact h.hm a c ha hc, h.fe, h.fm, h.ib, h.ip, h.ir, h.d1, h.d2, h.d3, h.d4⟩
theorem RefAt.set {W : World} {R : Rf} {n : Nat} {e : Bool} {M : Mx} (h : RefAt W R n e M) {x y : Nat} (hx : x < 2 * n) (hy : y < 2 * n) (v : Int) : RefAt (W.setCell ⟨R.rb x, y, none⟩ (.int .i64 v)) R n e (ux M x y v) := by
  have n1 := h.d2 x hx
  have n2 := h.d3 x hx
  refine ⟨?_, ?_, ?_, fun a ha => ?_, fun a c ha hc => ?_, fun k => by rw [World.frozen?_setCell]; exact h.fe k, fun a k ha => by rw [World.frozen?_setCell]; exact h.fm a k ha, h.ib, h.ip, h.ir, h.d1, h.d2, h.d3, h.d4⟩
  · rw [World.cell?_setCell_other _ _ _ _ (by first | (simp; done) | (simp; omega))]; exact h.hn
  · rw [World.cell?_setCell_other _ _ _ _ (by first | (simp; done) | (simp; omega))]; exact h.hs
  · rw [World.cell?_setCell_other _ _ _ _ (by first | (simp; done) | (simp; omega))]; exact h.he
  · rw [World.cell?_setCell_other _ _ _ _ (by first | (simp; done) | (simp; omega))]; exact h.hr a ha
  · unfold ux
    by_cases q : a = x ∧ c = y
    · rw [if_pos q, q.1, q.2]
      exact World.cell?_setCell_same _ _ _ (h.hm x y hx hy)
    · rw [if_neg q, World.cell?_setCell_other _ _ _ _ (by simp; intro r; have := h.d4 x a hx ha r; omega)]
      exact h.hm a c ha hc
theorem RefAt.setE {W : World} {R : Rf} {n : Nat} {e : Bool} {M : Mx} (h : RefAt W R n e M) (v : Bool) : RefAt (W.setCell ⟨R.b, 2, none⟩ (.bool v)) R n v M := by
  refine ⟨?_, ?_, World.cell?_setCell_same _ _ _ h.he, fun a ha => ?_, fun a c ha hc => ?_, fun k => by rw [World.frozen?_setCell]; exact h.fe k, fun a k ha => by rw [World.frozen?_setCell]; exact h.fm a k ha, h.ib, h.ip, h.ir, h.d1, h.d2, h.d3, h.d4⟩
  · rw [World.cell?_setCell_other _ _ _ _ (by simp)]; exact h.hn
  · rw [World.cell?_setCell_other _ _ _ _ (by simp)]; exact h.hs
  · rw [World.cell?_setCell_other _ _ _ _ (by have := h.d1; first | (simp; done) | (simp; omega) | (simp [this]))]; exact h.hr a ha
  · rw [World.cell?_setCell_other _ _ _ _ (by have := h.d2 a ha; first | (simp; done) | (simp; omega) | (simp [Ne.symm this]))]; exact h.hm a c ha hc
theorem RefAt.blocks {W W' : World} {R : Rf} {n : Nat} {e : Bool} {M : Mx} (h : RefAt W R n e M) (g : ∀ k, k < W.heap.size → R.lo ≤ k → k < R.hi → W'.heap[k]? = W.heap[k]?) : RefAt W' R n e M := by
  have key : ∀ b j v, R.lo ≤ b → b < R.hi → W.cell? ⟨b, j, none⟩ = some v → W'.cell? ⟨b, j, none⟩ = some v := fun b j v h1 h2 q => (World.cell?_of_block (g b (World.block_lt_of_cell? W _ q) h1 h2)).trans q
  have hb : R.b < W.heap.size := World.block_lt_of_cell? W _ h.hn
  refine ⟨key _ _ _ h.ib.1 h.ib.2 h.hn, key _ _ _ h.ib.1 h.ib.2 h.hs, key _ _ _ h.ib.1 h.ib.2 h.he, fun a ha => key _ _ _ h.ip.1 h.ip.2 (h.hr a ha), fun a c ha hc => key _ _ _ (h.ir a ha).1 (h.ir a ha).2 (h.hm a c ha hc), fun k => (World.frozen?_of_block (g R.b hb h.ib.1 h.ib.2)).trans (h.fe k), fun a k ha => ?_, h.ib, h.ip, h.ir, h.d1, h.d2, h.d3, h.d4⟩
  have hr : R.rb a < W.heap.size := World.block_lt_of_cell? W _ (h.hm a a ha ha)
  exact (World.frozen?_of_block (g (R.rb a) hr (h.ir a ha).1 (h.ir a ha).2)).trans (h.fm a k ha)
theorem RefAt.on {W W' : World} {R : Rf} {n : Nat} {e : Bool} {M : Mx} (h : RefAt W R n e M) (g : Below W.heap.size W W') : RefAt W' R n e M := h.blocks fun k hk _ _ => g.block k hk
theorem RefAt.onl {W W' : World} {R : Rf} {n : Nat} {e : Bool} {M : Mx} (h : RefAt W R n e M) {b : Nat} (g : Onl b W W') (hb : b < R.lo ∨ R.hi ≤ b) : RefAt W' R n e M := h.blocks fun k hk h1 h2 => g.block k hk (by omega)
theorem RefAt.rgn {W W' : World} {R : Rf} {n : Nat} {e : Bool} {M : Mx} (h : RefAt W R n e M) {lo hi : Nat} (g : Rgn lo hi W W') (hb : hi ≤ R.lo ∨ R.hi ≤ lo) : RefAt W' R n e M := h.blocks fun k hk h1 h2 => g.block k hk (by omega)
theorem OctAt.rgn {W W' : World} {b n : Nat} {e : Bool} {M : Mx} (h : OctAt W b n e M) {lo hi : Nat} (g : Rgn lo hi W W') (hb : b < lo ∨ hi ≤ b) : OctAt W' b n e M := by
  have hk : b < W.heap.size := World.block_lt_of_cell? W _ h.hv
  have key : ∀ j v, W.cell? ⟨b, j, none⟩ = Option.some v → W'.cell? ⟨b, j, none⟩ = Option.some v := fun j v q => (World.cell?_of_block (g.block b hk hb)).trans q
  exact ⟨key _ _ h.hv, key _ _ h.he, fun i j hi hj => key _ _ (h.hm i j hi hj), fun k => (World.frozen?_of_block (g.block b hk hb)).trans (h.hf k)⟩
/-- The bounds that lie there. -/
def rdR (W : World) (R : Rf) : Mx := fun i j => match W.cell? ⟨R.rb i, j, none⟩ with | some (.int _ v) => v | _ => 0
theorem RefAt.rd {W : World} {R : Rf} {n : Nat} {e : Bool} {M : Mx} (h : RefAt W R n e M) : Agr n (rdR W R) M := fun i j hi hj => by
  unfold rdR
  rw [h.hm i j hi hj]
set_option maxRecDepth 100000 in
theorem rix2 (b m c j : Nat) (hj : j < m) (w : World) : (Instr.indexAt 73 (.slice (some ⟨b, 0, none⟩) m c) (.int .i64 j)).run Try.prog w = .ok (.pointer (some ⟨b, j, none⟩)) w := by
  have e2 : ∀ w, (sizeOf (Try.prog.elem 73)).run Try.prog w = .ok 1 w := fun w => by kernel_rfl
  rw [run_indexAt_slice (h := by first | exact Try.underlying73 | rfl), if_pos ⟨by omega, by omega⟩, e2]
  show Result.ok (Value.pointer (some (Addr.add ⟨b, 0, none⟩ ((j : Int).toNat * 1)))) w = _
  rw [Go.WideShapes.add_plain, Int.toNat_natCast, Nat.mul_one, Nat.zero_add]
set_option maxRecDepth 100000 in
theorem rix (b m c j : Nat) (hj : j < m) (w : World) : (Instr.indexAt 31 (.slice (some ⟨b, 0, none⟩) m c) (.int .i64 j)).run Try.prog w = .ok (.pointer (some ⟨b, j, none⟩)) w := by
  have := oiz b 0 m c j hj w
  rw [Nat.zero_add] at this
  exact this
set_option maxRecDepth 100000 in
theorem rhalf (x : Int) (h1 : -9223372036854775807 ≤ x) (h2 : x ≤ 9223372036854775807) (w : World) : Calls Try.prog 76 #[.int .i64 x] w fun r w' => r = .returned (.int .i64 (fh x)) ∧ w' = w := by
  by_cases h : x % 2 = 0
  · have t1 : (x.tmod 2 == 0) = true := by rw [beq_iff_eq, Int.tmod_eq_emod]; split <;> omega
    have w2 : wrap64 (x.tdiv 2) = x.tdiv 2 := by unfold wrap64; rw [td2]; split <;> omega
    have w1 : x.tdiv 2 = fh x := by unfold fh; rw [td2]; split <;> omega
    obtain ⟨w3, _⟩ : Hid (x.tdiv 2 = fh x) ∧ True := ⟨w1, trivial⟩
    clear w1
    generalize fh x = z at *
    go_enter Try.func76, Try.ntmps76
    go_wp2_with fail
    go_ret
    exact ⟨by first | rfl | (rw [← w3.out]; rfl), rfl⟩
  · have t1 : (x.tmod 2 == 0) = false := by rw [beq_eq_false_iff_ne, Int.tmod_eq_emod]; split <;> omega
    have w0 : IntKind.i64.wrap (x - 1) = x - 1 := by rw [IntKind.wrap_i64]; omega
    have w2 : wrap64 ((x - 1).tdiv 2) = (x - 1).tdiv 2 := by unfold wrap64; rw [td2]; split <;> omega
    have w1 : (x - 1).tdiv 2 = fh x := by unfold fh; rw [td2]; split <;> omega
    obtain ⟨w3, _⟩ : Hid ((x - 1).tdiv 2 = fh x) ∧ True := ⟨w1, trivial⟩
    clear w1
    generalize fh x = z at *
    go_enter Try.func76, Try.ntmps76
    go_wp2_with fail
    go_ret
    exact ⟨by first | rfl | (rw [← w3.out]; rfl), rfl⟩
end Go.Proofs.Ytpcbammncaeimaa

