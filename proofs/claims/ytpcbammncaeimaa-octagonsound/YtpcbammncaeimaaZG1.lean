/- Texts of the proof, put together. -/
import Derived.Below
import Derived.Test.YtpcbammncaeimaaRows
import Derived.WalkKit
import Derived.WalkSpells
import Derived.StillTactics
import Derived.Laws.Pointers
import Derived.Laws.Externs
import Derived.Laws.EntriesVeiled
import Derived.Laws.BitsAllLaws
import Derived.Deep.RegionHeld3
import Derived.Deep.QuietTactic
import Derived.Deep.DeepCutAuto
import Derived.Deep.DeepMust
import Derived.ScopeJumps
import Derived.Shelf.Abstract
import Derived.BigQuiet
import Derived.LoopN
import Derived.Handy
import Derived.WideShapes
import Derived.Laws.Slices
namespace Go.Proofs.Ytpcbammncaeimaa
set_option linter.unusedVariables false
def ot (a : Nat) : Nat := if a % 2 = 0 then a + 1 else a - 1
theorem ot_ot (a : Nat) : ot (ot a) = a := by unfold ot; split <;> split <;> omega
theorem ot_lt {a n : Nat} (h : a < 2 * n) : ot a < 2 * n := by unfold ot; split <;> omega
abbrev Mx := Nat → Nat → Int
def fh (x : Int) : Int := x / 2
def Fit (n : Nat) (M : Mx) (u : Nat → Int) : Prop := (∀ a, u (ot a) = - u a) ∧ ∀ a b, a < 2 * n → b < 2 * n → u a + u b ≤ M a b
def Via (n : Nat) (M : Mx) (k : Nat) : Prop := ∀ a b, a < 2 * n → b < 2 * n → M a b ≤ M a k + M (ot k) b
def Clo (n : Nat) (M : Mx) : Prop := ∀ k, k < 2 * n → Via n M k
def Hal (n : Nat) (M : Mx) : Prop := ∀ a b, a < 2 * n → b < 2 * n → M a b ≤ fh (M a a) + fh (M b b)
def gov (M : Mx) (k : Nat) : Mx := fun a b => min (M a b) (M a k + M (ot k) b)
def hlv (M : Mx) : Mx := fun a b => min (M a b) (fh (M a a) + fh (M b b))
theorem Fit.opp {n : Nat} {M : Mx} {u : Nat → Int} (h : Fit n M u) {a : Nat} (ha : a < 2 * n) : 0 ≤ M a (ot a) := by
  have := h.2 a (ot a) ha (ot_lt ha)
  rw [h.1 a] at this
  omega
theorem gov_fit {n : Nat} {M : Mx} {u : Nat → Int} {k : Nat} (hk : k < 2 * n) (h : Fit n M u) : Fit n (gov M k) u := by
  refine ⟨h.1, fun a b ha hb => ?_⟩
  have h1 := h.2 a b ha hb
  have h2 := h.2 a k ha hk
  have h3 := h.2 (ot k) b (ot_lt hk) hb
  rw [h.1 k] at h3
  unfold gov
  omega
theorem gov_le (M : Mx) (k a b : Nat) : gov M k a b ≤ M a b := by unfold gov; omega
theorem gov_row {M : Mx} {k : Nat} (h : 0 ≤ M (ot k) k) (b : Nat) : gov M k (ot k) b = M (ot k) b := by unfold gov; omega
theorem gov_col {M : Mx} {k : Nat} (h : 0 ≤ M (ot k) k) (a : Nat) : gov M k a k = M a k := by unfold gov; omega
theorem gov_via {n : Nat} {M : Mx} {k : Nat} (h : 0 ≤ M (ot k) k) : Via n (gov M k) k := fun a b ha hb => by
  rw [gov_col h, gov_row h]
  unfold gov
  omega
theorem gov_keep {n : Nat} {M : Mx} {k c : Nat} (hk : k < 2 * n) (hc : c < 2 * n) (h : 0 ≤ M (ot k) k) (v : Via n M c) : Via n (gov M k) c := fun a b ha hb => by
  have h1 := v a b ha hb
  have h2 := v a k ha hk
  have h3 := v (ot k) b (ot_lt hk) hb
  have h4 := v (ot k) k (ot_lt hk) hk
  unfold gov
  omega
theorem fh_le {x y : Int} (h : 2 * y ≤ x) : y ≤ fh x := by unfold fh; omega
theorem hlv_fit {n : Nat} {M : Mx} {u : Nat → Int} (h : Fit n M u) : Fit n (hlv M) u := by
  refine ⟨h.1, fun a b ha hb => ?_⟩
  have h1 := h.2 a b ha hb
  have h2 := fh_le (show 2 * u a ≤ M a a by have := h.2 a a ha ha; omega)
  have h3 := fh_le (show 2 * u b ≤ M b b by have := h.2 b b hb hb; omega)
  unfold hlv
  omega
theorem hlv_le (M : Mx) (a b : Nat) : hlv M a b ≤ M a b := by unfold hlv; omega
theorem hlv_fh (M : Mx) (a : Nat) : fh (hlv M a a) = fh (M a a) := by unfold hlv fh; omega
def govs (M : Mx) : Nat → Mx
  | 0 => M
  | k + 1 => gov (govs M k) k
theorem govs_fit {n : Nat} {M : Mx} {u : Nat → Int} (h : Fit n M u) : ∀ k, k ≤ 2 * n → Fit n (govs M k) u
  | 0, _ => h
  | k + 1, hk => gov_fit (by omega) (govs_fit h k (by omega))
theorem govs_le (M : Mx) (a b : Nat) : ∀ k, govs M k a b ≤ M a b
  | 0 => Int.le_refl _
  | k + 1 => Int.le_trans (gov_le _ _ _ _) (govs_le M a b k)
theorem govs_clo {n : Nat} {M : Mx} {u : Nat → Int} (h : Fit n M u) : ∀ k, k ≤ 2 * n → ∀ c, c < k → Via n (govs M k) c
  | 0, _, c, hc => by omega
  | k + 1, hk, c, hc => by
    have f := govs_fit h k (by omega)
    have o := f.opp (show ot k < 2 * n from ot_lt (by omega))
    rw [ot_ot] at o
    by_cases e : c = k
    · subst e
      exact gov_via o
    · exact gov_keep (by omega) (by omega) o (govs_clo h k (by omega) c (by omega))
theorem govs_same {n : Nat} {M : Mx} (h : Clo n M) {a b : Nat} (ha : a < 2 * n) (hb : b < 2 * n) : ∀ k, k ≤ 2 * n → govs M k a b = M a b
  | 0, _ => rfl
  | k + 1, hk => by
    have v := h k (by omega) a b ha hb
    show min (govs M k a b) (govs M k a k + govs M k (ot k) b) = M a b
    rw [govs_same h ha hb k (by omega), govs_same h ha (show k < 2 * n by omega) k (by omega), govs_same h (ot_lt (show k < 2 * n by omega)) hb k (by omega)]
    omega
structure Tgt (n : Nat) (M M' : Mx) : Prop where
  le : ∀ a b, a < 2 * n → b < 2 * n → M' a b ≤ M a b
  fit : ∀ u, Fit n M u → Fit n M' u
  clo : Clo n M'
  hal : Hal n M'
  same : Clo n M → Hal n M → ∀ a b, a < 2 * n → b < 2 * n → M' a b = M a b
theorem tgt_last {n : Nat} {M : Mx} {u : Nat → Int} (h : Fit n M u) (hh : ∀ a b, a < 2 * n → b < 2 * n → hlv (govs M (2 * n)) a b = govs M (2 * n) a b) : Tgt n M (govs M (2 * n)) where
  le := fun a b _ _ => govs_le M a b _
  fit := fun u hu => govs_fit hu _ (Nat.le_refl _)
  clo := fun k hk => govs_clo h _ (Nat.le_refl _) k hk
  hal := fun a b ha hb => by have := hh a b ha hb; unfold hlv at this; omega
  same := fun c _ a b ha hb => govs_same c ha hb _ (Nat.le_refl _)
theorem tgt_step {n : Nat} {M M' : Mx} {u : Nat → Int} (h : Fit n M u) {x y : Nat} (hx : x < 2 * n) (hy : y < 2 * n) (hl : hlv (govs M (2 * n)) x y < govs M (2 * n) x y) (t : Tgt n (hlv (govs M (2 * n))) M') : Tgt n M M' where
  le := fun a b ha hb => Int.le_trans (t.le a b ha hb) (Int.le_trans (hlv_le _ _ _) (govs_le M a b _))
  fit := fun u hu => t.fit u (hlv_fit (govs_fit hu _ (Nat.le_refl _)))
  clo := t.clo
  hal := t.hal
  same := fun c hm => by
    exfalso
    have e : ∀ a b, a < 2 * n → b < 2 * n → govs M (2 * n) a b = M a b := fun a b ha hb => govs_same c ha hb _ (Nat.le_refl _)
    have := hm x y hx hy
    unfold hlv at hl
    rw [e x y hx hy, e x x hx hx, e y y hy hy] at hl
    omega
def gap (n : Nat) (M : Mx) (u : Nat → Int) : Nat := ((List.range (2 * n)).map fun a => ((List.range (2 * n)).map fun b => (M a b - (u a + u b)).toNat).sum).sum
theorem sum_le {l : List Nat} {f g : Nat → Nat} (h : ∀ x ∈ l, f x ≤ g x) : (l.map f).sum ≤ (l.map g).sum := by
  induction l with
  | nil => simp
  | cons x l ih =>
    simp only [List.map_cons, List.sum_cons]
    have := h x (by simp)
    have := ih fun y hy => h y (by simp [hy])
    omega
theorem sum_lt {l : List Nat} {f g : Nat → Nat} (h : ∀ x ∈ l, f x ≤ g x) {y : Nat} (hy : y ∈ l) (hl : f y < g y) : (l.map f).sum < (l.map g).sum := by
  induction l with
  | nil => simp at hy
  | cons x l ih =>
    simp only [List.map_cons, List.sum_cons]
    have h1 := h x (by simp)
    have h2 := sum_le fun y hy => h y (List.mem_cons_of_mem x hy)
    rcases List.mem_cons.1 hy with rfl | hy
    · omega
    · have := ih (fun y hy => h y (by simp [hy])) hy
      omega
theorem gap_lt {n : Nat} {M M' : Mx} {u : Nat → Int} (le : ∀ a b, M' a b ≤ M a b) (h' : Fit n M' u) {x y : Nat} (hx : x < 2 * n) (hy : y < 2 * n) (hl : M' x y < M x y) : gap n M' u < gap n M u := by
  unfold gap
  refine sum_lt (y := x) (fun a _ => sum_le fun b _ => ?_) (by simpa using hx) (sum_lt (y := y) (fun b _ => ?_) (by simpa using hy) ?_)
  · have := le a b; omega
  · have := le x b; omega
  · have := h'.2 x y hx hy; omega
end Go.Proofs.Ytpcbammncaeimaa

namespace Go.Proofs.Ytpcbammncaeimaa
open Go.RowKit
set_option linter.unusedVariables false
set_option linter.unusedSimpArgs false
structure OctAt (W : World) (b : Nat) (n : Nat) (e : Bool) (M : Mx) : Prop where
  hv : W.cell? ⟨b, 0, none⟩ = some (.int .i64 n)
  he : W.cell? ⟨b, 1, none⟩ = some (.bool e)
  hm : ∀ i j, i < 16 → j < 16 → W.cell? ⟨b, 2 + i * 16 + j, none⟩ = some (.int .i64 (M i j))
  hf : ∀ k, W.frozen? ⟨b, k, none⟩ = false
structure Onl (b : Nat) (w w' : World) : Prop where
  os : w'.os = w.os
  tape : w'.tape = w.tape
  output : w'.output = w.output
  size : w.heap.size ≤ w'.heap.size
  block : ∀ k, k < w.heap.size → k ≠ b → w'.heap[k]? = w.heap[k]?
theorem Onl.refl (b : Nat) (w : World) : Onl b w w := ⟨rfl, rfl, rfl, Nat.le_refl _, fun _ _ _ => rfl⟩
theorem Onl.trans {b : Nat} {x y z : World} (h : Onl b x y) (k : Onl b y z) : Onl b x z :=
  ⟨k.os.trans h.os, k.tape.trans h.tape, k.output.trans h.output, Nat.le_trans h.size k.size, fun i hi hb => (k.block i (Nat.lt_of_lt_of_le hi h.size) hb).trans (h.block i hi hb)⟩
theorem Onl.drewN {b : Nat} {x y : World} (h : Onl b x y) (n : Nat) : Onl b x (y.drewN n) := ⟨h.os, h.tape, h.output, h.size, h.block⟩
theorem Onl.drew {b : Nat} {x y : World} (h : Onl b x y) : Onl b x y.drew := ⟨h.os, h.tape, h.output, h.size, h.block⟩
theorem Onl.set {b j : Nat} {x y : World} (h : Onl b x y) (v : Value) : Onl b x (y.setCell ⟨b, j, none⟩ v) :=
  ⟨h.os, h.tape, h.output, by simpa [World.setCell] using h.size, fun k hk hb => (Below.heap_setCell y _ v k hb).trans (h.block k hk hb)⟩
theorem OctAt.drewN {W : World} {b n : Nat} {e : Bool} {M : Mx} (h : OctAt W b n e M) (k : Nat) : OctAt (W.drewN k) b n e M := ⟨h.hv, h.he, h.hm, h.hf⟩
theorem OctAt.drew {W : World} {b n : Nat} {e : Bool} {M : Mx} (h : OctAt W b n e M) : OctAt W.drew b n e M := ⟨h.hv, h.he, h.hm, h.hf⟩
set_option maxRecDepth 100000 in
theorem osides (b n m : Nat) (e : Bool) (M : Mx) (hm : 2 * n = m) (h16 : m ≤ 16) (w : World) (h : OctAt w b n e M) : Calls Try.prog 41 #[.pointer (some ⟨b, 0, none⟩)] w fun r w' => r = .returned (.int .i64 m) ∧ w' = w := by
  have h0 := h.hv
  have hw : IntKind.i64.wrap (2 * (n : Int)) = (m : Int) := by rw [IntKind.wrap_i64]; omega
  clear hm
  go_enter Try.func41, Try.ntmps41
  go_wp2_with fail
  go_ret
  exact ⟨rfl, rfl⟩
set_option maxRecDepth 100000 in
theorem oxor : ∀ a : Nat, a < 16 → bits .xor .i64 (a : Int) 1 = (ot a : Int) := by decide
set_option maxRecDepth 100000 in
theorem oother (a : Nat) (ha : a < 16) (w : World) : Calls Try.prog 80 #[.int .i64 a] w fun r w' => r = .returned (.int .i64 (ot a)) ∧ w' = w := by
  go_enter Try.func80, Try.ntmps80
  go_wp2_with fail
  rw [oxor a ha]
  go_ret
  exact ⟨rfl, rfl⟩
set_option maxRecDepth 100000 in
theorem ohalf (x : Int) (h1 : -9223372036854775808 ≤ x) (h2 : x ≤ 9223372036854775807) (w : World) : Calls Try.prog 112 #[.int .i64 x] w fun r w' => r = .returned (.int .i64 (fh x)) ∧ w' = w := by
  go_enter Try.func112, Try.ntmps112
  go_wp2_with fail
  go_ret
  exact ⟨rfl, rfl⟩
set_option maxRecDepth 100000 in
theorem oside (i : Nat) (hi : i < 8) (g : Bool) (w : World) : Calls Try.prog 53 #[.int .i64 i, .bool g] w fun r w' => r = .returned (.int .i64 ((2 * i + g.toNat : Nat) : Int)) ∧ w' = w := by
  have hw : IntKind.i64.wrap (2 * (i : Int)) = ((2 * i : Nat) : Int) := by rw [IntKind.wrap_i64]; omega
  have hx : IntKind.i64.wrap (((2 * i : Nat) : Int) + 1) = ((2 * i + 1 : Nat) : Int) := by rw [IntKind.wrap_i64]; omega
  cases g
  · go_enter Try.func53, Try.ntmps53
    go_wp2_with fail
    go_ret
    exact ⟨rfl, rfl⟩
  · go_enter Try.func53, Try.ntmps53
    go_wp2_with fail
    go_ret
    exact ⟨rfl, rfl⟩
set_option maxRecDepth 100000 in
theorem oix (b i : Nat) (hi : i < 16) (w : World) : (Instr.indexAt 68 (.pointer (some ⟨b, 2, none⟩)) (.int .i64 i)).run Try.prog w = .ok (.pointer (some ⟨b, 2 + i * 16, none⟩)) w := by
  have e1 : Try.prog.arrayLen 68 = 16 := by kernel_rfl
  have e2 : ∀ w, (sizeOf (Try.prog.elem 68)).run Try.prog w = .ok 16 w := fun w => by kernel_rfl
  rw [run_indexAt_array (h := by first | exact Try.underlying68 | rfl), e1, if_pos ⟨by omega, by omega⟩, e2]
  show Result.ok (Value.pointer (some (Addr.add ⟨b, 2, none⟩ ((i : Int).toNat * 16)))) w = _
  rw [Go.WideShapes.add_plain, Int.toNat_natCast]
set_option maxRecDepth 100000 in
theorem oiy (b o j : Nat) (hj : j < 16) (w : World) : (Instr.indexAt 67 (.pointer (some ⟨b, o, none⟩)) (.int .i64 j)).run Try.prog w = .ok (.pointer (some ⟨b, o + j, none⟩)) w := by
  have e1 : Try.prog.arrayLen 67 = 16 := by kernel_rfl
  have e2 : ∀ w, (sizeOf (Try.prog.elem 67)).run Try.prog w = .ok 1 w := fun w => by kernel_rfl
  rw [run_indexAt_array (h := by first | exact Try.underlying67 | rfl), e1, if_pos ⟨by omega, by omega⟩, e2]
  show Result.ok (Value.pointer (some (Addr.add ⟨b, o, none⟩ ((j : Int).toNat * 1)))) w = _
  rw [Go.WideShapes.add_plain, Int.toNat_natCast, Nat.mul_one]
set_option maxRecDepth 100000 in
theorem oiz (b o m c j : Nat) (hj : j < m) (w : World) : (Instr.indexAt 31 (.slice (some ⟨b, o, none⟩) m c) (.int .i64 j)).run Try.prog w = .ok (.pointer (some ⟨b, o + j, none⟩)) w := by
  have e2 : ∀ w, (sizeOf (Try.prog.elem 31)).run Try.prog w = .ok 1 w := fun w => by kernel_rfl
  rw [run_indexAt_slice (h := by first | exact Try.underlying31 | rfl), if_pos ⟨by omega, by omega⟩, e2]
  show Result.ok (Value.pointer (some (Addr.add ⟨b, o, none⟩ ((j : Int).toNat * 1)))) w = _
  rw [Go.WideShapes.add_plain, Int.toNat_natCast, Nat.mul_one]
set_option maxRecDepth 100000 in
theorem osl (b o m : Nat) (hm : m ≤ 16) (w : World) : (Instr.sliceAt 67 (.pointer (some ⟨b, o, none⟩)) none (some (.int .i64 m)) (some (.int .i64 m))).run Try.prog w = .ok (.slice (some ⟨b, o, none⟩) m m) w := by
  have e1 : Try.prog.arrayLen 67 = 16 := by kernel_rfl
  have e2 : ∀ w, (sizeOf (Try.prog.elem 67)).run Try.prog w = .ok 1 w := fun w => by kernel_rfl
  have hm' : (m : Int) ≤ 16 := by omega
  simp [Instr.sliceAt, Instr.sureAddr, run_underlying (show Try.prog.underlying 67 = some (.array 16 (Try.prog.elem 67)) from Try.underlying67), Instr.sliceBounds, run_sliceBound, e2, hm', Go.WideShapes.add_plain]
set_option maxRecDepth 100000 in
theorem orow (b n m : Nat) (e : Bool) (M : Mx) (hm : 2 * n = m) (h16 : m ≤ 16) (a : Nat) (ha : a < m) (w : World) (h : OctAt w b n e M) : Calls Try.prog 42 #[.pointer (some ⟨b, 0, none⟩), .int .i64 a] w fun r w' => r = .returned (.slice (some ⟨b, 2 + a * 16, none⟩) m m) ∧ ∃ k, w' = w.drewN k := by
  have k1 := fun V hV => osides b n m e M hm h16 V hV
  have x1 := oix b a (by omega)
  have x2 := osl b (2 + a * 16) m h16
  clear hm h16 ha
  go_enter Try.func42, Try.ntmps42
  go_upto_region 1 with fail
  go_quiet (first
    | (go_at_call 41; exact Calls.quiet_of ((k1 _ (by first | exact h | exact h.drewN _)).mono fun r w' q => ⟨q.1, 0, q.2⟩))
    | fail)
  go_wp2_with fail
  go_ret
  exact ⟨rfl, _, rfl⟩
end Go.Proofs.Ytpcbammncaeimaa

namespace Go.Proofs.Ytpcbammncaeimaa
open Go.RowKit
set_option linter.unusedVariables false
set_option linter.unusedSimpArgs false
theorem OctAt.congr {W : World} {b n : Nat} {e : Bool} {M M' : Mx} (h : OctAt W b n e M) (q : ∀ i j, i < 16 → j < 16 → M i j = M' i j) : OctAt W b n e M' := ⟨h.hv, h.he, fun i j hi hj => by rw [← q i j hi hj]; exact h.hm i j hi hj, h.hf⟩
def up1 (M : Mx) (x y : Nat) (v : Int) : Mx := fun i j => if i = x ∧ j = y then v else M i j
theorem OctAt.set {W : World} {b n : Nat} {e : Bool} {M : Mx} (h : OctAt W b n e M) {x y : Nat} (hx : x < 16) (hy : y < 16) (v : Int) : OctAt (W.setCell ⟨b, 2 + x * 16 + y, none⟩ (.int .i64 v)) b n e (up1 M x y v) := by
  refine ⟨?_, ?_, fun i j hi hj => ?_, fun k => by rw [World.frozen?_setCell]; exact h.hf k⟩
  · rw [World.cell?_setCell_other _ _ _ _ (by simp <;> omega)]; exact h.hv
  · rw [World.cell?_setCell_other _ _ _ _ (by simp <;> omega)]; exact h.he
  · unfold up1
    by_cases q : i = x ∧ j = y
    · rw [if_pos q, q.1, q.2]
      exact World.cell?_setCell_same _ _ _ (h.hm x y hx hy)
    · rw [if_neg q, World.cell?_setCell_other _ _ _ _ (by simp <;> omega)]
      exact h.hm i j hi hj
def pm (m a c : Nat) (G M : Mx) : Mx := fun i j => if (i < a ∧ j < m) ∨ (i = a ∧ j < c) then G i j else M i j
theorem pm_step {m a c : Nat} (G M : Mx) (hc : c < m) : ∀ i j, i < 16 → j < 16 → up1 (pm m a c G M) a c (G a c) i j = pm m a (c + 1) G M i j := by
  intro i j _ _
  unfold up1 pm
  by_cases q : i = a ∧ j = c
  · rw [if_pos q, if_pos (by omega), q.1, q.2]
  · rw [if_neg q]
    by_cases r : (i < a ∧ j < m) ∨ (i = a ∧ j < c)
    · rw [if_pos r, if_pos (by omega)]
    · rw [if_neg r, if_neg (by omega)]
theorem pm_row {m a : Nat} (G M : Mx) : ∀ i j, i < 16 → j < 16 → pm m a m G M i j = pm m (a + 1) 0 G M i j := by
  intro i j _ _
  unfold pm
  by_cases r : (i < a ∧ j < m) ∨ (i = a ∧ j < m)
  · rw [if_pos r, if_pos (by omega)]
  · rw [if_neg r, if_neg (by omega)]
theorem pm_0 (m : Nat) (G M : Mx) : pm m 0 0 G M = M := by
  funext i j
  unfold pm
  rw [if_neg (by omega)]
theorem pm_all {m : Nat} (G M : Mx) {i j : Nat} (hi : i < m) (hj : j < m) : pm m m 0 G M i j = G i j := by
  unfold pm
  rw [if_pos (by omega)]
set_option maxRecDepth 100000 in
set_option maxHeartbeats 3200000 in
theorem ofill (b n m : Nat) (e : Bool) (M : Mx) (hm : 2 * n = m) (h16 : m ≤ 16) (kf : Nat) (caps : Array Value) (eby : ∀ args w, (callFunc kf args).run Try.prog w = .ok (.enter kf args) w) (G : Mx) (I : World → Prop) (hI : ∀ V V', I V → Onl b V V' → I V')
    (hby : ∀ (a c : Nat) V, a < m → c < m → I V → Calls Try.prog kf (#[.int .i64 a, .int .i64 c] ++ caps) V fun r V' => r = .returned (.int .i64 (G a c)) ∧ ∃ k, V' = V.drewN k)
    (w : World) (h : OctAt w b n e M) (h0 : I w) :
    Calls Try.prog 64 #[.pointer (some ⟨b, 0, none⟩), .func (.func kf) #[] caps] w fun r w' => r = .returned (.tuple #[]) ∧ OctAt w' b n e (pm m m 0 G M) ∧ Onl b w w' := by
  have k1 := fun V M hV => osides b n m e M hm h16 V hV
  have k2 := fun V M a ha hV => orow b n m e M hm h16 a ha V hV
  clear hm
  go_enter Try.func64, Try.ntmps64
  go_wp2_with (first
    | (go_at_call 41; refine (k1 _ _ h).mono ?_; rintro r w1 ⟨rfl, hw⟩; subst w1)
    | fail)
  clear k1
  go_loopw [9] (fun i wr => ∃ (WR : World) (a : Nat), WR = wr ∧ a ≤ m ∧ i = .int .i64 a ∧ OctAt wr b n e (pm m a 0 G M) ∧ Onl b w wr) (fun i _ => m - (intOf i).toNat)
  case atStart => exact ⟨_, 0, rfl, by omega, rfl, by rw [pm_0]; exact h, Onl.refl _ _⟩
  case round =>
    obtain ⟨WR, a, rfl, ha, rfl, hO, cc⟩ := hrel
    by_cases ca : a < m
    · have ca' : (a : Int) < (m : Int) := by omega
      go_wp2_with (first
        | (go_at_call 42; refine (k2 _ _ a ca hO).mono ?_; rintro r w1 ⟨rfl, k, rfl⟩)
        | fail)
      replace hO := hO.drewN k
      replace cc := cc.drewN k
      obtain ⟨W0, hW0⟩ : ∃ W0, WR.drewN k = W0 := ⟨_, rfl⟩
      rw [hW0] at hO cc ⊢
      clear hW0
      go_loopw [17] (fun i wr => ∃ (WS : World) (c : Nat), WS = wr ∧ c ≤ m ∧ i = .int .i64 c ∧ OctAt wr b n e (pm m a c G M) ∧ Onl b w wr) (fun i _ => m - (intOf i).toNat)
      case atStart => exact ⟨_, 0, rfl, by omega, rfl, hO, cc⟩
      case round =>
        clear hO cc
        obtain ⟨WS, c, rfl, hc, rfl, hO, cc⟩ := hrel
        by_cases cx : c < m
        · have cx' : (c : Int) < (m : Int) := by omega
          have hz := oiz b (2 + a * 16) m m c cx
          have hfz := hO.hf (2 + a * 16 + c)
          have hcl := hO.hm a c (by omega) (by omega)
          have wc : IntKind.i64.wrap ((c : Int) + 1) = ((c + 1 : Nat) : Int) := by rw [IntKind.wrap_i64]; omega
          go_wp2_with (first
            | (go_at_fn kf; refine (hby a c _ ca cx (hI _ _ h0 cc)).mono ?_; rintro r w1 ⟨rfl, k, rfl⟩)
            | fail)
          exact ⟨⟨_, c + 1, rfl, by omega, by simp, ((hO.drewN k).set (by omega) (by omega) _).congr (pm_step G M cx), (cc.drewN k).set _⟩, by simp [intOf]; omega⟩
        · have ec : c = m := by omega
          subst ec
          clear cx hc
          have wa : IntKind.i64.wrap ((a : Int) + 1) = ((a + 1 : Nat) : Int) := by rw [IntKind.wrap_i64]; omega
          go_wp2_with fail
          go_roundw
          case rel => exact ⟨_, a + 1, rfl, by omega, by first | rfl | go_num, hO.congr (pm_row G M), cc⟩
          case measure => simp [intOf]; omega
    · have ea : a = m := by omega
      subst ea
      clear ca ha
      go_wp2_with fail
      exact bodyPost_end (results_none rfl _ _ _) rfl ⟨rfl, hO, cc⟩
def bx : Mx := fun a b => if a = ot b then 0 else 17179869184
set_option maxRecDepth 100000 in
theorem obox (a c : Nat) (ha : a < 16) (hc : c < 16) (w : World) : Calls Try.prog 65 #[.int .i64 a, .int .i64 c] w fun r w' => r = .returned (.int .i64 (bx a c)) ∧ w' = w := by
  have k := oother c hc
  unfold bx
  by_cases h : a = ot c
  · rw [if_pos h]
    rw [← h] at k
    go_enter Try.func65, Try.ntmps65
    go_wp2_with (first
      | (go_at_call 80; refine (k _).mono ?_; rintro r w1 ⟨rfl, hw⟩; subst w1)
      | fail)
    go_ret
    exact ⟨rfl, rfl⟩
  · rw [if_neg h]
    have h' : ¬ (a : Int) = (ot c : Int) := by omega
    generalize ot c = d at *
    go_enter Try.func65, Try.ntmps65
    go_wp2_with (first
      | (go_at_call 80; refine (k _).mono ?_; rintro r w1 ⟨rfl, hw⟩; subst w1)
      | fail)
    go_ret
    exact ⟨rfl, rfl⟩
end Go.Proofs.Ytpcbammncaeimaa

namespace Go.Proofs.Ytpcbammncaeimaa
open Go.RowKit
set_option linter.unusedVariables false
set_option linter.unusedSimpArgs false
theorem pm_at {m a c : Nat} (G M : Mx) {i j : Nat} (h : ¬ ((i < a ∧ j < m) ∨ (i = a ∧ j < c))) : pm m a c G M i j = M i j := by unfold pm; rw [if_neg h]
theorem pm_is {m a c : Nat} {G M : Mx} {i j : Nat} (h : G i j = M i j) : pm m a c G M i j = M i j := by unfold pm; split <;> simp [h]
set_option maxRecDepth 100000 in
set_option maxHeartbeats 1600000 in
theorem ogo (b n m : Nat) (e : Bool) (M : Mx) (hm : 2 * n = m) (h16 : m ≤ 16) (k : Nat) (hk : k < m) (hd : 0 ≤ M (ot k) k) (hs : ∀ a c, a < m → c < m → -4611686018427387904 ≤ M a c ∧ M a c ≤ 4611686018427387903) (w : World) (h : OctAt w b n e M) :
    Calls Try.prog 87 #[.pointer (some ⟨b, 0, none⟩), .int .i64 k] w fun r w' => r = .returned (.tuple #[]) ∧ OctAt w' b n e (pm m m 0 (gov M k) M) ∧ Onl b w w' := by
  have k1 := fun V M hV => osides b n m e M hm h16 V hV
  have k2 := fun V M a ha hV => orow b n m e M hm h16 a ha V hV
  have k3 := oother k (by omega)
  have hok : ot k < m := by have := ot_lt (n := n) (a := k) (by omega); omega
  clear hm
  obtain ⟨q, hq⟩ : ∃ q, ot k = q := ⟨_, rfl⟩
  have gr : ∀ c, gov M k q c = M q c := fun c => by rw [← hq]; exact gov_row hd c
  have gd : ∀ a c, gov M k a c = min (M a c) (M a k + M q c) := fun a c => by rw [← hq]; rfl
  rw [hq] at k3 hok
  clear hq hd
  generalize gov M k = G at *
  go_enter Try.func87, Try.ntmps87
  go_wp2_with (first
    | (go_at_call 80; refine (k3 _).mono ?_; rintro r w1 ⟨rfl, hw⟩; subst w1)
    | (go_at_call 42; refine (k2 _ _ q hok h).mono ?_; rintro r w1 ⟨rfl, k0, rfl⟩; replace h := h.drewN k0)
    | (go_at_call 41; refine (k1 _ _ h).mono ?_; rintro r w2 ⟨rfl, hw2⟩; subst w2)
    | fail)
  have c0 : Onl b w (w.drewN k0) := (Onl.refl _ _).drewN _
  clear k1 k3
  go_loopw [15] (fun i wr => ∃ (WR : World) (a : Nat), WR = wr ∧ a ≤ m ∧ i = .int .i64 a ∧ OctAt wr b n e (pm m a 0 G M) ∧ Onl b w wr) (fun i _ => m - (intOf i).toNat)
  case atStart => exact ⟨_, 0, rfl, by omega, rfl, by rw [pm_0]; exact h, c0⟩
  case round =>
    obtain ⟨WR, a, rfl, ha, rfl, hO, cc⟩ := hrel
    clear h c0
    by_cases ca : a < m
    · have ca' : (a : Int) < (m : Int) := by omega
      have hz1 := oiz b (2 + a * 16) m m k hk
      have y0 := hO.hm a k (by omega) (by omega)
      rw [pm_at G M (by omega)] at y0
      go_wp2_with (first
        | (go_at_call 42; refine (k2 _ _ a ca hO).mono ?_; rintro r w2 ⟨rfl, k9, rfl⟩; replace hO := hO.drewN k9; replace cc := cc.drewN k9; replace y0 : (WR.drewN k9).cell? ⟨b, 2 + a * 16 + k, none⟩ = some (.int .i64 (M a k)) := y0)
        | fail)
      go_loopw [27] (fun i wr => ∃ (WS : World) (c : Nat), WS = wr ∧ c ≤ m ∧ i = .int .i64 c ∧ OctAt wr b n e (pm m a c G M) ∧ Onl b w wr) (fun i _ => m - (intOf i).toNat)
      case atStart => exact ⟨_, 0, rfl, by omega, rfl, hO, cc⟩
      case round =>
        clear hO cc y0
        obtain ⟨WS, c, rfl, hc, rfl, hO, cc⟩ := hrel
        by_cases cx : c < m
        · have cx' : (c : Int) < (m : Int) := by omega
          have hz := oiz b (2 + a * 16) m m c cx
          have hzq := oiz b (2 + q * 16) m m c cx
          have hfz := hO.hf (2 + a * 16 + c)
          have x0 := hO.hm a c (by omega) (by omega)
          have z0 := hO.hm q c (by omega) (by omega)
          rw [pm_at G M (by omega)] at x0
          rw [pm_is (gr c)] at z0
          have wc : IntKind.i64.wrap ((c : Int) + 1) = ((c + 1 : Nat) : Int) := by rw [IntKind.wrap_i64]; omega
          have b1 := hs a k ca hk
          have b2 := hs q c hok cx
          have ws : IntKind.i64.wrap (M a k + M q c) = M a k + M q c := by rw [IntKind.wrap_i64]; omega
          have eg := gd a c
          have hset := (hO.set (x := a) (y := c) (by omega) (by omega) (G a c)).congr (pm_step G M cx)
          have hon := cc.set (j := 2 + a * 16 + c) (.int .i64 (G a c))
          generalize M a c = x at *
          generalize M a k = y at *
          generalize M q c = z at *
          generalize G a c = g at *
          clear b1 b2 hs gr gd k2 hz1
          go_wp2_with fail
          go_region
          go_wp2_with fail
          rw [show (if y + z < x then y + z else x) = g by rw [eg]; split <;> omega]
          exact ⟨⟨_, c + 1, rfl, by omega, by simp, hset.drew, hon.drew⟩, by simp [intOf]; omega⟩
        · have ec : c = m := by omega
          subst ec
          clear cx hc
          have wa : IntKind.i64.wrap ((a : Int) + 1) = ((a + 1 : Nat) : Int) := by rw [IntKind.wrap_i64]; omega
          go_wp2_with fail
          go_roundw
          case rel => exact ⟨_, a + 1, rfl, by omega, by first | rfl | go_num, hO.congr (pm_row G M), cc⟩
          case measure => simp [intOf]; omega
    · have ea : a = m := by omega
      subst ea
      clear ca ha
      go_wp2_with fail
      exact bodyPost_end (results_none rfl _ _ _) rfl ⟨rfl, hO, cc⟩
end Go.Proofs.Ytpcbammncaeimaa

namespace Go.Proofs.Ytpcbammncaeimaa
open Go.RowKit
set_option linter.unusedVariables false
set_option linter.unusedSimpArgs false
set_option maxRecDepth 100000 in
set_option maxHeartbeats 1600000 in
theorem ocon (b n m : Nat) (e : Bool) (M : Mx) (hm : 2 * n = m) (h16 : m ≤ 16) (hd : ∀ a, a < m → 0 ≤ M a (ot a)) (w : World) (h : OctAt w b n e M) :
    Calls Try.prog 88 #[.pointer (some ⟨b, 0, none⟩)] w fun r w' => r = .returned (.bool false) ∧ ∃ k, w' = w.drewN k := by
  have k1 := fun V hV => osides b n m e M hm h16 V hV
  have k3 := fun a (ha : a < m) => oother a (by omega)
  have hlt : ∀ a, a < m → ot a < 16 := fun a ha => by have := ot_lt (n := n) (a := a) (by omega); omega
  clear hm
  go_enter Try.func88, Try.ntmps88
  go_wp2_with (first
    | (go_at_call 41; refine (k1 _ h).mono ?_; rintro r w2 ⟨rfl, hw2⟩; subst w2)
    | fail)
  clear k1
  go_loopw [6] (fun i wr => ∃ (WR : World) (a : Nat), WR = wr ∧ a ≤ m ∧ i = .int .i64 a ∧ OctAt wr b n e M ∧ Hid (∃ k, wr = w.drewN k)) (fun i _ => m - (intOf i).toNat)
  case atStart => exact ⟨_, 0, rfl, by omega, rfl, h, ⟨0, rfl⟩⟩
  case round =>
    obtain ⟨WR, a, rfl, ha, rfl, hO, hk⟩ := hrel
    clear h
    by_cases ca : a < m
    · have ca' : (a : Int) < (m : Int) := by omega
      have k3a := k3 a ca
      have x1 := oix b a (by omega)
      have x2 := oiy b (2 + a * 16) (ot a) (hlt a ca)
      have y0 := hO.hm a (ot a) (by omega) (hlt a ca)
      have y1 : ¬ M a (ot a) < 0 := by have := hd a ca; omega
      have wc : IntKind.i64.wrap ((a : Int) + 1) = ((a + 1 : Nat) : Int) := by rw [IntKind.wrap_i64]; omega
      generalize M a (ot a) = y at *
      generalize ot a = q at *
      clear hd hlt k3
      go_upto_region 4 with fail
      go_quiet (first
        | (go_at_call 80; exact Calls.quiet_of ((k3a _).mono fun r w' q => ⟨q.1, 0, q.2⟩))
        | fail)
      go_wp2_with fail
      obtain ⟨k, hk⟩ := hk.out
      exact ⟨⟨_, a + 1, rfl, by omega, by simp, hO.drewN _, ⟨_, by rw [hk, World.drewN_drewN]⟩⟩, by simp [intOf]; omega⟩
    · have ea : a = m := by omega
      subst ea
      clear ca ha
      go_wp2_with fail
      go_ret
      exact ⟨rfl, hk.out⟩
theorem hlv_now {m a c : Nat} (M : Mx) (i : Nat) : fh (pm m a c (hlv M) M i i) = fh (M i i) := by
  unfold pm
  split
  · exact hlv_fh M i
  · rfl
set_option maxRecDepth 100000 in
set_option maxHeartbeats 1600000 in
theorem ohal (b n m : Nat) (e : Bool) (M : Mx) (hm : 2 * n = m) (h16 : m ≤ 16) (hs : ∀ a c, a < m → c < m → -4611686018427387904 ≤ M a c ∧ M a c ≤ 4611686018427387903) (w : World) (h : OctAt w b n e M) :
    Calls Try.prog 89 #[.pointer (some ⟨b, 0, none⟩)] w fun r w' => (∃ l, r = .returned (.bool l) ∧ (l = false → ∀ a c, a < m → c < m → hlv M a c = M a c) ∧ (l = true → ∃ a c, a < m ∧ c < m ∧ hlv M a c < M a c)) ∧ OctAt w' b n e (pm m m 0 (hlv M) M) ∧ Onl b w w' := by
  have k1 := fun V M hV => osides b n m e M hm h16 V hV
  have k2 := fun V M a ha hV => orow b n m e M hm h16 a ha V hV
  clear hm
  obtain ⟨G, hG⟩ : ∃ G, hlv M = G := ⟨_, rfl⟩
  have gd : ∀ a c, G a c = min (M a c) (fh (M a a) + fh (M c c)) := fun a c => by rw [← hG]; rfl
  have hf : ∀ a c i, fh (pm m a c G M i i) = fh (M i i) := fun a c i => by rw [← hG]; exact hlv_now M i
  rw [hG]
  clear hG
  go_enter Try.func89, Try.ntmps89
  go_wp2_with (first
    | (go_at_call 41; refine (k1 _ _ h).mono ?_; rintro r w2 ⟨rfl, hw2⟩; subst w2)
    | fail)
  clear k1
  go_loopw [3, 10] (fun l i wr => ∃ (WR : World) (a : Nat) (lw : Bool), WR = wr ∧ a ≤ m ∧ l = .bool lw ∧ i = .int .i64 a ∧ Hid (lw = false → ∀ x y, x < m → y < m → pm m a 0 G M x y = M x y) ∧ Hid (lw = true → ∃ x y, x < m ∧ y < m ∧ G x y < M x y) ∧ OctAt wr b n e (pm m a 0 G M) ∧ Onl b w wr) (fun _ i _ => m - (intOf i).toNat)
  case atStart => exact ⟨_, 0, false, rfl, by omega, rfl, rfl, (fun _ x y _ _ => by rw [pm_0]), (fun q => by cases q), by rw [pm_0]; exact h, Onl.refl _ _⟩
  case round =>
    obtain ⟨WR, a, lw, rfl, ha, rfl, rfl, hl0, hl1, hO, cc⟩ := hrel
    clear h
    by_cases ca : a < m
    · have ca' : (a : Int) < (m : Int) := by omega
      go_wp2_with (first
        | (go_at_call 42; refine (k2 _ _ a ca hO).mono ?_; rintro r w2 ⟨rfl, k9, rfl⟩; replace hO := hO.drewN k9; replace cc := cc.drewN k9)
        | fail)
      go_loopw [3, 18] (fun l i wr => ∃ (WS : World) (c : Nat) (lw : Bool), WS = wr ∧ c ≤ m ∧ l = .bool lw ∧ i = .int .i64 c ∧ Hid (lw = false → ∀ x y, x < m → y < m → pm m a c G M x y = M x y) ∧ Hid (lw = true → ∃ x y, x < m ∧ y < m ∧ G x y < M x y) ∧ OctAt wr b n e (pm m a c G M) ∧ Onl b w wr) (fun _ i _ => m - (intOf i).toNat)
      case atStart => exact ⟨_, 0, lw, rfl, by omega, rfl, rfl, hl0, hl1, hO, cc⟩
      case round =>
        clear hO cc hl0 hl1
        obtain ⟨WS, c, lv, rfl, hc, rfl, rfl, hl0, hl1, hO, cc⟩ := hrel
        by_cases cx : c < m
        · have cx' : (c : Int) < (m : Int) := by omega
          have hz := oiz b (2 + a * 16) m m c cx
          have x1 := oix b a (by omega)
          have x2 := oiy b (2 + a * 16) a (by omega)
          have x3 := oix b c (by omega)
          have x4 := oiy b (2 + c * 16) c (by omega)
          have hfz := hO.hf (2 + a * 16 + c)
          have y1 := hO.hm a a (by omega) (by omega)
          have y2 := hO.hm c c (by omega) (by omega)
          have y3 := hO.hm a c (by omega) (by omega)
          rw [pm_at G M (show ¬ ((a < a ∧ c < m) ∨ (a = a ∧ c < c)) by omega)] at y3
          have f1 := hf a c a
          have f2 := hf a c c
          have wc : IntKind.i64.wrap ((c : Int) + 1) = ((c + 1 : Nat) : Int) := by rw [IntKind.wrap_i64]; omega
          have eg := gd a c
          have hset := fun k0 => ((hO.drewN k0).set (x := a) (y := c) (by omega) (by omega) (G a c)).congr (pm_step G M cx)
          have hon := fun k0 => (cc.drewN k0).set (j := 2 + a * 16 + c) (.int .i64 (G a c))
          have hskip : G a c = M a c → ∀ x y, pm m a c G M x y = pm m a (c + 1) G M x y := fun q x y => by
            unfold pm
            by_cases r : x = a ∧ y = c
            · rw [r.1, r.2, if_neg (by omega), if_pos (by omega), q]
            · by_cases r2 : (x < a ∧ y < m) ∨ (x = a ∧ y < c)
              · rw [if_pos r2, if_pos (by omega)]
              · rw [if_neg r2, if_neg (by omega)]
          have b1 := hs a a ca ca
          have b2 := hs c c cx cx
          have ws : IntKind.i64.wrap (fh (M a a) + fh (M c c)) = fh (M a a) + fh (M c c) := by rw [IntKind.wrap_i64]; unfold fh; omega
          have r1 : -9223372036854775808 ≤ pm m a c G M a a ∧ pm m a c G M a a ≤ 9223372036854775807 := by unfold fh at f1; omega
          have r2 : -9223372036854775808 ≤ pm m a c G M c c ∧ pm m a c G M c c ≤ 9223372036854775807 := by unfold fh at f2; omega
          have h1 := ohalf _ r1.1 r1.2
          have h2 := ohalf _ r2.1 r2.2
          rw [f1] at h1
          rw [f2] at h2
          clear hf gd hs b1 b2 r1 r2 f1 f2 k2
          by_cases hlt : fh (M a a) + fh (M c c) < M a c
          · have n1 : ∃ x y, x < m ∧ y < m ∧ G x y < M x y := ⟨a, c, ca, cx, by rw [eg]; omega⟩
            have eg2 : G a c = fh (M a a) + fh (M c c) := by rw [eg]; omega
            clear eg hskip
            generalize pm m a c G M a a = X at *
            generalize pm m a c G M c c = Y at *
            generalize fh (M a a) = F1 at *
            generalize fh (M c c) = F2 at *
            generalize M a c = z at *
            rw [eg2] at hset hon
            clear eg2
            go_upto_region 9 with fail
            go_quiet (first
              | (go_at_call_of 112 X; exact Calls.quiet_of ((h1 _).mono fun r w' q => ⟨q.1, 0, q.2⟩))
              | (go_at_call_of 112 Y; exact Calls.quiet_of ((h2 _).mono fun r w' q => ⟨q.1, 0, q.2⟩))
              | fail)
            go_wp2_with fail
            exact ⟨⟨_, c + 1, true, rfl, by omega, rfl, by simp, (fun q => by cases q), (fun _ => n1), hset _, hon _⟩, by simp [intOf]; omega⟩
          · have eg2 : G a c = M a c := by rw [eg]; omega
            replace hskip := hskip eg2
            clear eg eg2 hset hon
            generalize pm m a c G M a a = X at *
            generalize pm m a c G M c c = Y at *
            generalize fh (M a a) = F1 at *
            generalize fh (M c c) = F2 at *
            generalize M a c = z at *
            go_upto_region 9 with fail
            go_quiet (first
              | (go_at_call_of 112 X; exact Calls.quiet_of ((h1 _).mono fun r w' q => ⟨q.1, 0, q.2⟩))
              | (go_at_call_of 112 Y; exact Calls.quiet_of ((h2 _).mono fun r w' q => ⟨q.1, 0, q.2⟩))
              | fail)
            go_wp2_with fail
            exact ⟨⟨_, c + 1, lv, rfl, by omega, rfl, by simp, (fun q x y hx hy => (hskip x y).symm.trans (hl0.out q x y hx hy)), hl1, (hO.drewN _).congr fun i j _ _ => hskip i j, cc.drewN _⟩, by simp [intOf]; omega⟩
        · have ec : c = m := by omega
          subst ec
          clear cx hc
          have wa : IntKind.i64.wrap ((a : Int) + 1) = ((a + 1 : Nat) : Int) := by rw [IntKind.wrap_i64]; omega
          go_wp2_with fail
          go_roundw
          case rel => exact ⟨_, a + 1, lv, rfl, by omega, rfl, by first | rfl | go_num, (fun q x y hx hy => (pm_row G M x y (by omega) (by omega)).symm.trans (hl0.out q x y hx hy)), hl1, hO.congr (pm_row G M), cc⟩
          case measure => simp [intOf]; omega
    · have ea : a = m := by omega
      subst ea
      clear ca ha
      go_wp2_with fail
      go_ret
      exact ⟨⟨lw, rfl, (fun q x y hx hy => (pm_all G M hx hy).symm.trans (hl0.out q x y hx hy)), hl1.out⟩, hO, cc⟩
end Go.Proofs.Ytpcbammncaeimaa

