/- octagon: one in memory; its small calls. -/
import Derived.Test.YtpcbammncaeimaaRows
import Derived.Test.YtpcbammncaeimaaOcM
import Derived.WalkKit
import Derived.WalkSpells
import Derived.StillTactics
import Derived.Laws.Pointers
import Derived.Laws.Externs
import Derived.Laws.EntriesVeiled
import Derived.Laws.BitsAllLaws
import Derived.Deep.RegionHeld3
import Derived.Deep.QuietTactic
import Derived.Deep.DeepCutAuto
import Derived.Deep.DeepMust
import Derived.ScopeJumps
import Derived.Shelf.Abstract
import Derived.BigQuiet
import Derived.LoopN
import Derived.Handy
import Derived.WideShapes
import Derived.Laws.Slices
import Derived.Below
namespace Go.Proofs.Ytpcbammncaeimaa
open Go.RowKit
set_option linter.unusedVariables false
set_option linter.unusedSimpArgs false
/-- An octagon lies in a block: how many variables, whether it is empty, the bounds. -/
structure OctAt (W : World) (b : Nat) (n : Nat) (e : Bool) (M : Mx) : Prop where
  hv : W.cell? ⟨b, 0, none⟩ = some (.int .i64 n)
  he : W.cell? ⟨b, 1, none⟩ = some (.bool e)
  hm : ∀ i j, i < 16 → j < 16 → W.cell? ⟨b, 2 + i * 16 + j, none⟩ = some (.int .i64 (M i j))
  hf : ∀ k, W.frozen? ⟨b, k, none⟩ = false
/-- All blocks that lay, but one, lie as they lay. -/
structure Onl (b : Nat) (w w' : World) : Prop where
  os : w'.os = w.os
  tape : w'.tape = w.tape
  output : w'.output = w.output
  size : w.heap.size ≤ w'.heap.size
  block : ∀ k, k < w.heap.size → k ≠ b → w'.heap[k]? = w.heap[k]?
theorem Onl.refl (b : Nat) (w : World) : Onl b w w := ⟨rfl, rfl, rfl, Nat.le_refl _, fun _ _ _ => rfl⟩
theorem Onl.trans {b : Nat} {x y z : World} (h : Onl b x y) (k : Onl b y z) : Onl b x z :=
  ⟨k.os.trans h.os, k.tape.trans h.tape, k.output.trans h.output, Nat.le_trans h.size k.size, fun i hi hb => (k.block i (Nat.lt_of_lt_of_le hi h.size) hb).trans (h.block i hi hb)⟩
theorem Onl.drewN {b : Nat} {x y : World} (h : Onl b x y) (n : Nat) : Onl b x (y.drewN n) := ⟨h.os, h.tape, h.output, h.size, h.block⟩
theorem Onl.drew {b : Nat} {x y : World} (h : Onl b x y) : Onl b x y.drew := ⟨h.os, h.tape, h.output, h.size, h.block⟩
theorem Onl.set {b j : Nat} {x y : World} (h : Onl b x y) (v : Value) : Onl b x (y.setCell ⟨b, j, none⟩ v) :=
  ⟨h.os, h.tape, h.output, by simpa [World.setCell] using h.size, fun k hk hb => (Below.heap_setCell y _ v k hb).trans (h.block k hk hb)⟩
theorem OctAt.drewN {W : World} {b n : Nat} {e : Bool} {M : Mx} (h : OctAt W b n e M) (k : Nat) : OctAt (W.drewN k) b n e M := ⟨h.hv, h.he, h.hm, h.hf⟩
theorem OctAt.drew {W : World} {b n : Nat} {e : Bool} {M : Mx} (h : OctAt W b n e M) : OctAt W.drew b n e M := ⟨h.hv, h.he, h.hm, h.hf⟩
set_option maxRecDepth 100000 in
theorem osides (b n m : Nat) (e : Bool) (M : Mx) (hm : 2 * n = m) (h16 : m ≤ 16) (w : World) (h : OctAt w b n e M) : Calls Try.prog 41 #[.pointer (some ⟨b, 0, none⟩)] w fun r w' => r = .returned (.int .i64 m) ∧ w' = w := by
  have h0 := h.hv
  have hw : IntKind.i64.wrap (2 * (n : Int)) = (m : Int) := by rw [IntKind.wrap_i64]; omega
  clear hm
  go_enter Try.func41, Try.ntmps41
  go_wp2_with fail
  go_ret
  exact ⟨rfl, rfl⟩
set_option maxRecDepth 100000 in
theorem oxor : ∀ a : Nat, a < 16 → bits .xor .i64 (a : Int) 1 = (ot a : Int) := by decide
set_option maxRecDepth 100000 in
theorem oother (a : Nat) (ha : a < 16) (w : World) : Calls Try.prog 80 #[.int .i64 a] w fun r w' => r = .returned (.int .i64 (ot a)) ∧ w' = w := by
  go_enter Try.func80, Try.ntmps80
  go_wp2_with fail
  rw [oxor a ha]
  go_ret
  exact ⟨rfl, rfl⟩
set_option maxRecDepth 100000 in
theorem ohalf (x : Int) (h1 : -9223372036854775808 ≤ x) (h2 : x ≤ 9223372036854775807) (w : World) : Calls Try.prog 112 #[.int .i64 x] w fun r w' => r = .returned (.int .i64 (fh x)) ∧ w' = w := by
  go_enter Try.func112, Try.ntmps112
  go_wp2_with fail
  go_ret
  exact ⟨rfl, rfl⟩
set_option maxRecDepth 100000 in
theorem oside (i : Nat) (hi : i < 8) (g : Bool) (w : World) : Calls Try.prog 53 #[.int .i64 i, .bool g] w fun r w' => r = .returned (.int .i64 ((2 * i + g.toNat : Nat) : Int)) ∧ w' = w := by
  have hw : IntKind.i64.wrap (2 * (i : Int)) = ((2 * i : Nat) : Int) := by rw [IntKind.wrap_i64]; omega
  have hx : IntKind.i64.wrap (((2 * i : Nat) : Int) + 1) = ((2 * i + 1 : Nat) : Int) := by rw [IntKind.wrap_i64]; omega
  cases g
  · go_enter Try.func53, Try.ntmps53
    go_wp2_with fail
    go_ret
    exact ⟨rfl, rfl⟩
  · go_enter Try.func53, Try.ntmps53
    go_wp2_with fail
    go_ret
    exact ⟨rfl, rfl⟩
set_option maxRecDepth 100000 in
theorem oix (b i : Nat) (hi : i < 16) (w : World) : (Instr.indexAt 68 (.pointer (some ⟨b, 2, none⟩)) (.int .i64 i)).run Try.prog w = .ok (.pointer (some ⟨b, 2 + i * 16, none⟩)) w := by
  have e1 : Try.prog.arrayLen 68 = 16 := by kernel_rfl
  have e2 : ∀ w, (sizeOf (Try.prog.elem 68)).run Try.prog w = .ok 16 w := fun w => by kernel_rfl
  rw [run_indexAt_array (h := by first | exact Try.underlying68 | rfl), e1, if_pos ⟨by omega, by omega⟩, e2]
  show Result.ok (Value.pointer (some (Addr.add ⟨b, 2, none⟩ ((i : Int).toNat * 16)))) w = _
  rw [Go.WideShapes.add_plain, Int.toNat_natCast]
set_option maxRecDepth 100000 in
theorem oiy (b o j : Nat) (hj : j < 16) (w : World) : (Instr.indexAt 67 (.pointer (some ⟨b, o, none⟩)) (.int .i64 j)).run Try.prog w = .ok (.pointer (some ⟨b, o + j, none⟩)) w := by
  have e1 : Try.prog.arrayLen 67 = 16 := by kernel_rfl
  have e2 : ∀ w, (sizeOf (Try.prog.elem 67)).run Try.prog w = .ok 1 w := fun w => by kernel_rfl
  rw [run_indexAt_array (h := by first | exact Try.underlying67 | rfl), e1, if_pos ⟨by omega, by omega⟩, e2]
  show Result.ok (Value.pointer (some (Addr.add ⟨b, o, none⟩ ((j : Int).toNat * 1)))) w = _
  rw [Go.WideShapes.add_plain, Int.toNat_natCast, Nat.mul_one]
set_option maxRecDepth 100000 in
theorem oiz (b o m c j : Nat) (hj : j < m) (w : World) : (Instr.indexAt 31 (.slice (some ⟨b, o, none⟩) m c) (.int .i64 j)).run Try.prog w = .ok (.pointer (some ⟨b, o + j, none⟩)) w := by
  have e2 : ∀ w, (sizeOf (Try.prog.elem 31)).run Try.prog w = .ok 1 w := fun w => by kernel_rfl
  rw [run_indexAt_slice (h := by first | exact Try.underlying31 | rfl), if_pos ⟨by omega, by omega⟩, e2]
  show Result.ok (Value.pointer (some (Addr.add ⟨b, o, none⟩ ((j : Int).toNat * 1)))) w = _
  rw [Go.WideShapes.add_plain, Int.toNat_natCast, Nat.mul_one]
set_option maxRecDepth 100000 in
theorem osl (b o m : Nat) (hm : m ≤ 16) (w : World) : (Instr.sliceAt 67 (.pointer (some ⟨b, o, none⟩)) none (some (.int .i64 m)) (some (.int .i64 m))).run Try.prog w = .ok (.slice (some ⟨b, o, none⟩) m m) w := by
  have e1 : Try.prog.arrayLen 67 = 16 := by kernel_rfl
  have e2 : ∀ w, (sizeOf (Try.prog.elem 67)).run Try.prog w = .ok 1 w := fun w => by kernel_rfl
  have hm' : (m : Int) ≤ 16 := by omega
  simp [Instr.sliceAt, Instr.sureAddr, run_underlying (show Try.prog.underlying 67 = some (.array 16 (Try.prog.elem 67)) from Try.underlying67), Instr.sliceBounds, run_sliceBound, e2, hm', Go.WideShapes.add_plain]
set_option maxRecDepth 100000 in
theorem orow (b n m : Nat) (e : Bool) (M : Mx) (hm : 2 * n = m) (h16 : m ≤ 16) (a : Nat) (ha : a < m) (w : World) (h : OctAt w b n e M) : Calls Try.prog 42 #[.pointer (some ⟨b, 0, none⟩), .int .i64 a] w fun r w' => r = .returned (.slice (some ⟨b, 2 + a * 16, none⟩) m m) ∧ ∃ k, w' = w.drewN k := by
  have k1 := fun V hV => osides b n m e M hm h16 V hV
  have x1 := oix b a (by omega)
  have x2 := osl b (2 + a * 16) m h16
  clear hm h16 ha
  go_enter Try.func42, Try.ntmps42
  go_upto_region 1 with fail
  go_quiet (first
    | (go_at_call 41; exact Calls.quiet_of ((k1 _ (by first | exact h | exact h.drewN _)).mono fun r w' q => ⟨q.1, 0, q.2⟩))
    | fail)
  go_wp2_with fail
  go_ret
  exact ⟨rfl, _, rfl⟩
end Go.Proofs.Ytpcbammncaeimaa
