/- Texts of the proof, put together. -/
import Derived.RangeFuncNested
import Derived.RangeFuncCalls
import Derived.Below
import Derived.Test.YteafnkimcidkhaaGreatRows
import Derived.WalkKit
import Derived.WalkSpells
import Derived.StillTactics
import Derived.Laws.Pointers
import Derived.Laws.Externs
import Derived.Deep.RegionHeld3
import Derived.RowKit
import Derived.Laws.EntriesVeiled
import Derived.Shelf.Abstract
import Derived.Deep.DeepCutAuto
import Derived.BigQuiet
import Derived.LoopN
import Derived.Handy
namespace Go.Proofs.YteafnkimcidkhaaGreat
open Go.RowKit
set_option linter.unusedVariables false
structure But (S : Nat → Prop) (W W' : World) : Prop where
 os : W'.os = W.os
 tape : W'.tape = W.tape
 output : W'.output = W.output
 size : W.heap.size ≤ W'.heap.size
 block : ∀ k, k < W.heap.size → ¬ S k → W'.heap[k]? = W.heap[k]?
theorem But.refl (S : Nat → Prop) (W : World) : But S W W := ⟨rfl, rfl, rfl, Nat.le_refl _, fun _ _ _ => rfl⟩
theorem But.trans {S : Nat → Prop} {A B C : World} (h : But S A B) (k : But S B C) : But S A C :=
 ⟨k.os.trans h.os, k.tape.trans h.tape, k.output.trans h.output, Nat.le_trans h.size k.size, fun i hi hs => (k.block i (Nat.lt_of_lt_of_le hi h.size) hs).trans (h.block i hi hs)⟩
theorem But.of {S : Nat → Prop} {A B : World} (h : Below A.heap.size A B) : But S A B := ⟨h.os, h.tape, h.output, h.size, fun k hk _ => h.block k hk⟩
theorem But.below {S : Nat → Prop} {A B : World} {n : Nat} (h : But S A B) (hn : n ≤ A.heap.size) (hS : ∀ k, S k → n ≤ k) : Below n A B :=
 ⟨h.os, h.tape, h.output, h.size, fun k hk => h.block k (Nat.lt_of_lt_of_le hk hn) (fun hs => absurd (hS k hs) (by omega))⟩
theorem But.cell {S : Nat → Prop} {A B : World} (h : But S A B) {a : Addr} {v : Value} (hs : ¬ S a.block) (hv : A.cell? a = some v) : B.cell? a = some v :=
 (World.cell?_of_block (h.block a.block (World.block_lt_of_cell? A a hv) hs)).trans hv
theorem But.frozen {S : Nat → Prop} {A B : World} (h : But S A B) {a : Addr} (hs : ¬ S a.block) (hl : a.block < A.heap.size) : B.frozen? a = A.frozen? a :=
 World.frozen?_of_block (h.block a.block hl hs)
theorem But.call {S : Nat → Prop} {A B C : World} (h : But S A B) (k : Below B.heap.size B C) : But S A C := h.trans (But.of k)
theorem But.alloc {S : Nat → Prop} {A B : World} (h : But S A B) (o : Obj) : But S A (B.alloc o) := h.call ((Below.refl _ _).alloc (Nat.le_refl _) o)
theorem But.drew {S : Nat → Prop} {A B : World} (h : But S A B) : But S A B.drew := ⟨h.os, h.tape, h.output, h.size, h.block⟩
theorem But.set {S : Nat → Prop} {A B : World} (h : But S A B) {a : Addr} (hs : S a.block) (v : Value) : But S A (B.setCell a v) :=
 h.trans ⟨rfl, rfl, rfl, ((Below.refl 0 B).setCell (Nat.zero_le _) v).size, fun k _ hk => Below.heap_setCell B a v k (fun e => hk (by rw [e]; exact hs))⟩
def Stable {β : Type} (B : Nat) (J : β → World → Prop) : Prop := ∀ s W W', J s W → Below B W W' → J s W'
theorem Stable.and {β : Type} {B : Nat} {I J : β → World → Prop} (h : Stable B I) (k : Stable B J) : Stable B (fun s W => I s W ∧ J s W) := fun s W W' hs hb => ⟨h s W W' hs.1 hb, k s W W' hs.2 hb⟩
theorem Stable.mono {β : Type} {B B' : Nat} {J : β → World → Prop} (h : Stable B J) (hB : B ≤ B') : Stable B' J := fun s W W' hs hb => h s W W' hs (hb.mono hB)
structure OnlyAt (l : Nat) (W W' : World) : Prop where
 os : W'.os = W.os
 tape : W'.tape = W.tape
 output : W'.output = W.output
 size : W'.heap.size = W.heap.size
 block : ∀ k, k ≠ l → W'.heap[k]? = W.heap[k]?
theorem OnlyAt.put (W : World) (l : Nat) (o : Obj) : OnlyAt l W (W.putObj l o) := ⟨rfl, rfl, rfl, by simp, fun k hk => World.putObj_heap_other (fun e => hk e)⟩
theorem OnlyAt.below {l B : Nat} {W W' : World} (h : OnlyAt l W W') (hB : B ≤ l) : Below B W W' := ⟨h.os, h.tape, h.output, Nat.le_of_eq h.size.symm, fun k hk => h.block k (by omega)⟩
end Go.Proofs.YteafnkimcidkhaaGreat


namespace Go.Proofs.YteafnkimcidkhaaGreat
open Go.RowKit
set_option linter.unusedVariables false
def Grows {β : Type} (J : β → World → Prop) : Prop := ∀ s W W', J s W → Below W.heap.size W W' → J s W'
def FeedsS (P : Program) (g : Nat) (lb : Array Value) {α : Type} (encs : α → Array Value) (n0 : Nat) (xs : List α) (w : World) : Prop :=
 ∀ (l : Nat) (J : List α → World → Prop) (K : World → Prop) (W : World), Below w.heap.size w W → Grows J → Grows (fun (_ : Unit) W => K W) →
  (∀ pre x W1, pre ++ [x] <+: xs → J pre W1 → ∀ m, YieldAt Fence.wide m P l (encs x) W1 fun e W' => (e = .returned (.bool true) ∧ J (pre ++ [x]) W' ∧ Below n0 W1 W') ∨ (e = .returned (.bool false) ∧ K W')) →
  J [] W → Calls P g (#[.func (.yield l) #[] #[]] ++ lb) W fun e W' => (∃ v, e = .returned v) ∧ (J xs W' ∨ K W')
theorem one_roundS {P : Program} {m l : Nat} {r : Loop} {S : Nat → Prop} {fn : FuncId} {tmps : Array Value} {assign body : Code} {W : World} {I0 I1 I2 : World → Prop} (Ax : Act → World → Prop)
  (hr1 : r.state = .ready) (hr2 : r.pending = none) (hl : W.heap[l]? = some (.loop r)) (hSl : ¬ S l) (st0 : ∀ W W', I0 W → OnlyAt l W W' → I0 W') (st1 : ∀ W W', I1 W → OnlyAt l W W' → I1 W') (st2 : ∀ W W', I2 W → OnlyAt l W W' → I2 W')
  (hAx : ∀ a' W W', Ax a' W → OnlyAt l W W' → Ax a' W')
  (ha : ∀ K : Act → World → Prop, (∀ a' W', But S W W' → I0 W' → Ax a' W' → K a' W') → assign.wpIn (Fence.wide.inRound l) m P (Exit.then K (fun _ _ _ => False)) { tmps := tmps, defers := [] } W)
  (hb : ∀ a' W, (∃ r, W.heap[l]? = some (.loop r)) → I0 W → Ax a' W → body.wpIn (Fence.wide.inRound l) m P (fun e _ W3 => (e = .normal ∧ But S W W3 ∧ I1 W3) ∨ (e = .ret ∧ But S W W3 ∧ I2 W3)) a' W) :
  RoundIn Fence.wide m P l fn tmps assign body W (fun e W' => (e = .returned (.bool true) ∧ I1 W' ∧ W'.heap[l]? = some (.loop r) ∧ But S W W') ∨ (e = .returned (.bool false) ∧ I2 W' ∧ W'.heap[l]? = some (.loop { r with state := .done, pending := some .ret }) ∧ ∀ k, k < W.heap.size → ¬ S k → k ≠ l → W'.heap[k]? = W.heap[k]?)) := by
 have ll : l < W.heap.size := (Array.getElem?_eq_some_iff.1 hl).1
 refine roundIn_of_wpIn trivial (ha _ fun a' Wa hba hia hax => ?_)
 have hla : Wa.heap[l]? = some (.loop r) := (hba.block l ll hSl).trans hl
 have lla : l < Wa.heap.size := (Array.getElem?_eq_some_iff.1 hla).1
 refine ⟨_, run_beginRound hla hr1, ?_⟩
 have hlb : (Wa.putObj l (.loop { r with state := .busy })).heap[l]? = some (.loop { r with state := .busy }) := World.putObj_heap_same lla
 refine wpIn_mono (hb a' _ ⟨_, hlb⟩ (st0 _ _ hia (OnlyAt.put _ _ _)) (hAx _ _ _ hax (OnlyAt.put _ _ _))) ?_
 rintro e a3 W3 (⟨rfl, hb3, hi3⟩ | ⟨rfl, hb3, hi3⟩)
 ·have hl3 : W3.heap[l]? = some (.loop { r with state := .busy }) := (hb3.block l (by simpa using lla) hSl).trans hlb
  have ll3 : l < W3.heap.size := (Array.getElem?_eq_some_iff.1 hl3).1
  have he : (Instr.endRound l none).run P W3 = .ok (.bool true) (W3.putObj l (.loop r)) := by
   have := run_endRound (P := P) none hl3
   cases r
   simp only at hr1 hr2
   subst hr1 hr2
   exact this
  have h4 : (W3.putObj l (.loop r)).heap[l]? = some (.loop r) := World.putObj_heap_same ll3
  refine ⟨_, _, he, Or.inl ⟨rfl, ?_, h4, ?_⟩⟩
  ·exact st1 _ _ hi3 (OnlyAt.put _ _ _)
  ·refine ⟨?_, ?_, ?_, ?_, fun k hk hs => ?_⟩
   ·exact hb3.os.trans hba.os
   ·exact hb3.tape.trans hba.tape
   ·exact hb3.output.trans hba.output
   ·have := hb3.size
    have := hba.size
    simp at *
    omega
   ·by_cases e : k = l
    ·subst e
     exact h4.trans hl.symm
    ·exact (World.putObj_heap_other e).trans ((hb3.block k (by have := hba.size; simp; omega) hs).trans ((World.putObj_heap_other e).trans (hba.block k hk hs)))
 ·have hl3 : W3.heap[l]? = some (.loop { r with state := .busy }) := (hb3.block l (by simpa using lla) hSl).trans hlb
  have ll3 : l < W3.heap.size := (Array.getElem?_eq_some_iff.1 hl3).1
  have he : (Instr.endRound l (some .ret)).run P W3 = .ok (.bool false) (W3.putObj l (.loop { r with state := .done, pending := some .ret })) := by
   have := run_endRound (P := P) (some .ret) hl3
   exact this
  have h4 : (W3.putObj l (.loop { r with state := .done, pending := some .ret })).heap[l]? = some (.loop { r with state := .done, pending := some .ret }) := World.putObj_heap_same ll3
  refine ⟨_, _, he, Or.inr ⟨rfl, ?_, h4, fun k hk hs e => ?_⟩⟩
  ·exact st2 _ _ hi3 (OnlyAt.put _ _ _)
  ·exact (World.putObj_heap_other e).trans ((hb3.block k (by have := hba.size; simp; omega) hs).trans ((World.putObj_heap_other e).trans (hba.block k hk hs)))
theorem feed_outS {α : Type} {P : Program} {n : Nat} {g : Operand} {ps : Array Tmp} {assign body : Code} {Q : Exit → Act → World → Prop} {a : Act} {w : World} {gf : Nat} {lb : Array Value}
  (hg : a.eval g = .func (.func gf) #[] lb) (eg : ∀ args w, (callFunc gf args).run P w = .ok (.enter gf args) w) {encs : α → Array Value} {n0 : Nat} {xs : List α}
  (hseq : FeedsS P gf lb encs n0 xs w) (hps : ∀ x, (encs x).size = ps.size) (S : Nat → Prop) (hn0 : n0 ≤ w.heap.size) (hS0 : ∀ k, S k → n0 ≤ k) (hS1 : ¬ S w.heap.size) (hS2 : ¬ S (w.heap.size + 1))
  (I : List α → World → Prop) (hI : Grows I) (hIl : ∀ s W W', I s W → OnlyAt (w.heap.size + 1) W W' → I s W') (I2 : World → Prop) (hI2 : Grows (fun (_ : Unit) W => I2 W)) (hI2l : ∀ W W', I2 W → OnlyAt (w.heap.size + 1) W W' → I2 W') (h0 : I [] w)
  (Ax : Nat → α → Act → World → Prop) (hAx : ∀ l x a' W W', Ax l x a' W → OnlyAt l W W' → Ax l x a' W')
  (hassign : ∀ m l pre x W (K : Act → World → Prop), l = w.heap.size + 1 → l < W.heap.size → pre ++ [x] <+: xs → I pre W → (∀ a' W', But S W W' → I pre W' → Ax l x a' W' → K a' W') →
   assign.wpIn (Fence.wide.inRound l) m P (Exit.then K (fun _ _ _ => False)) { tmps := (ps.zip (encs x)).foldl (fun t (p, v) => t.setIfInBounds p v) a.tmps, defers := [] } W)
  (hbody : ∀ m l pre x a' W, l = w.heap.size + 1 → (∃ r, W.heap[l]? = some (.loop r)) → pre ++ [x] <+: xs → I pre W → Ax l x a' W → body.wpIn (Fence.wide.inRound l) m P (fun e _ W3 => (e = .normal ∧ But S W W3 ∧ I (pre ++ [x]) W3) ∨ (e = .ret ∧ But S W W3 ∧ I2 W3)) a' W)
  (hdone : ∀ D W, w.heap.size ≤ D → I xs W → W.heap[D]? = some (.deferred (some [])) → Q .normal { a with defers := { target := .collected D, args := #[] } :: a.defers } W)
  (hstop : ∀ D W, w.heap.size ≤ D → I2 W → W.heap[D]? = some (.deferred (some [])) → Code.ret.wpIn Fence.wide n P Q { a with defers := { target := .collected D, args := #[] } :: a.defers } W) :
  (Code.rangeFunc g ps assign body).wpIn Fence.wide n P Q a w := by
 refine wpIn_rangeFunc fun fn hfn => ?_
 obtain ⟨r, hr⟩ : ∃ r : Loop, r = { state := .ready, pending := none, fn, tmps := a.tmps, params := ps, assign, body, defers := w.heap.size } := ⟨_, rfl⟩
 obtain ⟨W1, hW1⟩ : ∃ W1, (w.alloc (.deferred (some []))).alloc (.loop r) = W1 := ⟨_, rfl⟩
 have z1 : W1.heap.size = w.heap.size + 1 + 1 := by rw [← hW1]; simp
 have hb1 : Below w.heap.size w W1 := by rw [← hW1]; exact ((Below.refl _ w).alloc (Nat.le_refl _) _).alloc (by simp) _
 have hl1 : W1.heap[w.heap.size + 1]? = some (.loop r) := by
  have := World.alloc_heap_new (w.alloc (.deferred (some []))) (.loop r)
  rw [World.size_alloc, hW1] at this
  exact this
 have hd1 : W1.heap[w.heap.size]? = some (.deferred (some [])) := by
  rw [← hW1]; exact (Below.heap_alloc _ _ _ (by simp)).trans (World.alloc_heap_new w _)
 refine ⟨w.heap.size + 1, [{ target := .collected w.heap.size, args := #[] }], W1, { target := .fn (.func gf) lb, args := #[.func (.yield (w.heap.size + 1)) #[] #[]] }, W1, gf,
  #[.func (.yield (w.heap.size + 1)) #[] #[]] ++ lb, W1, ?_, ?_, fun _ _ => trivial, ?_, (fun h => by cases h), ?_⟩
 ·rw [← hW1, hr]; exact run_enterLoop_outer _ _ _ _ _
 ·simp only [resolve, hg]
  simp [go_sem]
 ·simp [invoke, go_sem, eg]
 ·refine callsIn_wide.2 ((hseq (w.heap.size + 1) (fun pre W => I pre W ∧ W.heap[w.heap.size + 1]? = some (.loop r) ∧ W.heap[w.heap.size]? = some (.deferred (some []))) (fun W => I2 W ∧ W.heap[w.heap.size + 1]? = some (.loop { r with state := .done, pending := some .ret }) ∧ W.heap[w.heap.size]? = some (.deferred (some []))) W1 hb1 ?_ ?_ ?_ ⟨hI _ _ _ h0 hb1, hl1, hd1⟩).mono ?_)
  ·rintro s W W' ⟨h1, h2, h3⟩ hb
   exact ⟨hI _ _ _ h1 hb, (hb.block _ (Array.getElem?_eq_some_iff.1 h2).1).trans h2, (hb.block _ (Array.getElem?_eq_some_iff.1 h3).1).trans h3⟩
  ·rintro s W W' ⟨h1, h2, h3⟩ hb
   exact ⟨hI2 () _ _ h1 hb, (hb.block _ (Array.getElem?_eq_some_iff.1 h2).1).trans h2, (hb.block _ (Array.getElem?_eq_some_iff.1 h3).1).trans h3⟩
  ·rintro pre x W hp ⟨h1, h2, h3⟩ m
   have hy := run_yield (P := P) (args := encs x) h2 (by rw [hr]; exact hps x)
   have lW : w.heap.size + 1 < W.heap.size := (Array.getElem?_eq_some_iff.1 h2).1
   have hround := one_roundS (P := P) (m := m) (fn := fn) (r := r) (l := w.heap.size + 1) (S := S) (W := W) (assign := assign) (body := body) (tmps := (ps.zip (encs x)).foldl (fun t (p, v) => t.setIfInBounds p v) a.tmps) (I0 := I pre) (I1 := I (pre ++ [x])) (I2 := I2) (Ax (w.heap.size + 1) x)
    (by rw [hr]) (by rw [hr]) h2 hS2 (fun W W' h ho => hIl _ _ _ h ho) (fun W W' h ho => hIl _ _ _ h ho) (fun W W' h ho => hI2l _ _ h ho) (fun a' W W' h ho => hAx _ _ _ _ _ h ho)
    (fun K hK => hassign m _ pre x W K rfl lW hp h1 hK) (fun a' W hr' h hx => hbody m _ pre x a' W rfl hr' hp h hx)
   refine ⟨fn, _, assign, body, by rw [hy, hr], hround.mono ?_⟩
   rintro e W' (⟨rfl, i1, l1, b1⟩ | ⟨rfl, i1, l1, b1⟩)
   ·exact Or.inl ⟨rfl, ⟨i1, l1, (b1.block _ (by omega) hS1).trans h3⟩, b1.below (by omega) hS0⟩
   ·exact Or.inr ⟨rfl, i1, l1, (b1 _ (by omega) hS1 (by omega)).trans h3⟩
  ·rintro e W2 ⟨⟨v, rfl⟩, (⟨h1, h2, h3⟩ | ⟨h1, h2, h3⟩)⟩
   ·exact ⟨none, _, by have := run_endLoop (P := P) h2 (by rw [hr]; simp); rw [hr] at this; exact this, hdone _ _ (Nat.le_refl _) (hIl _ _ _ h1 (OnlyAt.put _ _ _)) ((World.putObj_heap_other (by omega)).trans h3)⟩
   ·exact ⟨some .ret, _, by have := run_endLoop (P := P) h2 (by rw [hr]; simp); rw [hr] at this; exact this, hstop _ _ (Nat.le_refl _) (hI2l _ _ h1 (OnlyAt.put _ _ _)) ((World.putObj_heap_other (by omega)).trans h3)⟩
end Go.Proofs.YteafnkimcidkhaaGreat


namespace Go.Proofs.YteafnkimcidkhaaGreat
end Go.Proofs.YteafnkimcidkhaaGreat


namespace Go.Proofs.YteafnkimcidkhaaGreat
open Go.RowKit
set_option linter.unusedVariables false
set_option linter.unusedSimpArgs false
theorem gA {α : Type _} {xs : List α} {i : Nat} (h : i < xs.toArray.size) : xs.toArray[i] = xs[i]'(by simpa using h) := List.getElem_toArray h
theorem gB {α : Type _} {a : α} {ys : List α} (h : 0 < (a :: ys).length) : (a :: ys)[0] = a := rfl
theorem gC {α : Type _} {a : α} {ys : List α} {i : Nat} (h : i + 1 < (a :: ys).length) : (a :: ys)[i + 1] = ys[i]'(Nat.lt_of_succ_lt_succ h) := rfl
theorem gD {α : Type _} {xs : List α} {i : Nat} {a : α} : xs.toArray.setIfInBounds i a = (xs.set i a).toArray := List.setIfInBounds_toArray ..
theorem gE {α : Type _} {x a : α} {ys : List α} : (x :: ys).set 0 a = a :: ys := rfl
theorem gG {α : Type _} {x a : α} {ys : List α} {n : Nat} : (x :: ys).set (n + 1) a = x :: ys.set n a := rfl
theorem sO {W w1 : World} (hb : Below W.heap.size W w1) {a : Addr} {v : Value} (h : W.cell? a = some v) : w1.cell? a = some v := by
 rw [hb.cell (World.block_lt_of_cell? W a h)]; exact h
theorem sp_new {w W : World} (h : Below w.heap.size w W) (o : Obj) : Below w.heap.size w (W.alloc o) := h.alloc h.size o
theorem sp_call {w W w1 : World} (h : Below w.heap.size w W) (hb : Below W.heap.size W w1) : Below w.heap.size w w1 := h.trans (hb.mono h.size)
structure Ln where
 least : Int
 most : Int
 past : Int
 ko : Nat
 kp : Nat
 k1 : Nat
 kv : Nat
 kn : Nat
 ku : Nat
 kt : Nat
 kz : Nat
 co : Array Value
 cp : Array Value
 c1 : Array Value
 cv : Array Value
 cn : Array Value
 cu : Array Value
 ct : Array Value
 cz : Array Value
structure Ways where
 dom : Int → Prop
 ord : Int → Int → Int
 pl : Int → Int
 one : Int → Bool
 prv : Int → Int
 nxt : Int → Int
theorem ok_call {B : Nat} {w0 V V' : World} (hB : B ≤ w0.heap.size) (h : Below B w0 V) (h' : Below V.heap.size V V') : Below B w0 V' := h.trans (h'.mono (Nat.le_trans hB h.size))
theorem ok_new {B : Nat} {w0 V : World} (hB : B ≤ w0.heap.size) (h : Below B w0 V) (o : Obj) : Below B w0 (V.alloc o) := h.alloc (Nat.le_trans hB h.size) o
theorem sp_set3 {w W : World} (h : Below w.heap.size w W) {b : Nat} (hb : w.heap.size ≤ b) (x y z : Value) : Below w.heap.size w (((W.setCell ⟨b, 0, none⟩ x).setCell ⟨b, 1, none⟩ y).setCell ⟨b, 2, none⟩ z) :=
 ((h.setCell (p := ⟨b, 0, none⟩) hb x).setCell (p := ⟨b, 1, none⟩) hb y).setCell (p := ⟨b, 2, none⟩) hb z
def grt (A : Ways) (x y : Int) : Int := if 0 < A.ord y x then y else x
def sml (A : Ways) (x y : Int) : Int := if A.ord y x < 0 then y else x
theorem sp_keep1 {W : World} {b b' j k : Nat} {v : Value} (h : W.cell? ⟨b', j, none⟩ = some v) (hne : b' ≠ b) (x : Value) : (W.setCell ⟨b, k, none⟩ x).cell? ⟨b', j, none⟩ = some v :=
 (World.cell?_setCell_far W ⟨b, k, none⟩ ⟨b', j, none⟩ x (Ne.symm hne)).trans h
theorem sp_keep3 {W : World} {b b' j : Nat} {v : Value} (h : W.cell? ⟨b', j, none⟩ = some v) (hne : b' ≠ b) (x y z : Value) : (((W.setCell ⟨b, 0, none⟩ x).setCell ⟨b, 1, none⟩ y).setCell ⟨b, 2, none⟩ z).cell? ⟨b', j, none⟩ = some v :=
 sp_keep1 (sp_keep1 (sp_keep1 h hne x) hne y) hne z
def joinP (A : Ways) (p q : Bool × Int × Int) : Bool × Int × Int := if p.1 then q else if q.1 then p else (false, sml A p.2.1 q.2.1, grt A p.2.2 q.2.2)
end Go.Proofs.YteafnkimcidkhaaGreat


namespace Go.Proofs.YteafnkimcidkhaaGreat
open Go.RowKit
set_option linter.unusedVariables false
set_option linter.unusedSimpArgs false
set_option maxRecDepth 100000 in
set_option maxHeartbeats 6400000 in
theorem lirange (e1 : Bool) (a b : Int) (r : Bool) (k1 : ∀ V, Calls Tryz.prog 123 #[.int .i64 (0), .agg #[.bool e1, .int .u64 a, .int .u64 b]] V fun e w' => e = .returned (.bool r) ∧ Below V.heap.size V w') (w : World) :
  Calls Tryz.prog 77 #[.agg #[.bool e1, .int .u64 a, .int .u64 b]] w fun e w' => e = .returned (.bool r) ∧ Below w.heap.size w w' := by
 go_enter Tryz.func77, Tryz.ntmps77
 go_upto_region 1 with fail
 obtain ⟨W, hW⟩ : ∃ W, (w.alloc (.cells #[.bool e1, .int .u64 a, .int .u64 b] 24)) = W := ⟨_, rfl⟩
 have a0 : W.cell? ⟨w.heap.size, 0, none⟩ = some (.bool e1) := by rw [← hW]; simp [go_sem]
 have a1 : W.cell? ⟨w.heap.size, 1, none⟩ = some (.int .u64 a) := by rw [← hW]; simp [go_sem]
 have a2 : W.cell? ⟨w.heap.size, 2, none⟩ = some (.int .u64 b) := by rw [← hW]; simp [go_sem]
 have bW : Below w.heap.size w W := by rw [← hW]; exact (sp_new (Below.refl _ _) _)
 have zW : W.heap.size = w.heap.size + 1 := by rw [← hW]; simp
 rw [hW]
 clear hW
 replace zW := Nat.le_of_eq zW.symm
 go_wp2_with (first
  | (go_at_call 123; (with_reducible refine (k1 _).mono ?_); rintro e v1 ⟨rfl, g⟩; replace bW := sp_call bW g; replace zW := Nat.le_trans zW g.size; replace a0 := sO g a0; replace a1 := sO g a1; replace a2 := sO g a2; clear g)
  | fail)
 go_ret
 exact ⟨rfl, bW⟩
set_option maxRecDepth 100000 in
set_option maxHeartbeats 6400000 in
theorem lihas (e1 : Bool) (a b : Int) (r : Bool) (k1 : ∀ V, Calls Tryz.prog 77 #[.agg #[.bool e1, .int .u64 a, .int .u64 b]] V fun e w' => e = .returned (.bool r) ∧ Below V.heap.size V w') (w : World) :
  Calls Tryz.prog 60 #[.agg #[.bool e1, .int .u64 a, .int .u64 b]] w fun e w' => e = .returned (.bool (r && !e1)) ∧ Below w.heap.size w w' := by
 cases r
 ·skip
  go_enter Tryz.func60, Tryz.ntmps60
  go_upto_region 1 with fail
  obtain ⟨W, hW⟩ : ∃ W, (w.alloc (.cells #[.bool e1, .int .u64 a, .int .u64 b] 24)) = W := ⟨_, rfl⟩
  have a0 : W.cell? ⟨w.heap.size, 0, none⟩ = some (.bool e1) := by rw [← hW]; simp [go_sem]
  have a1 : W.cell? ⟨w.heap.size, 1, none⟩ = some (.int .u64 a) := by rw [← hW]; simp [go_sem]
  have a2 : W.cell? ⟨w.heap.size, 2, none⟩ = some (.int .u64 b) := by rw [← hW]; simp [go_sem]
  have bW : Below w.heap.size w W := by rw [← hW]; exact (sp_new (Below.refl _ _) _)
  have zW : W.heap.size = w.heap.size + 1 := by rw [← hW]; simp
  rw [hW]
  clear hW
  replace zW := Nat.le_of_eq zW.symm
  go_wp2_with (first
   | (go_at_call 77; (with_reducible refine (k1 _).mono ?_); rintro e v1 ⟨rfl, g⟩; replace bW := sp_call bW g; replace zW := Nat.le_trans zW g.size; replace a0 := sO g a0; replace a1 := sO g a1; replace a2 := sO g a2; clear g)
   | fail)
  go_ret
  exact ⟨rfl, bW⟩
 ·skip
  go_enter Tryz.func60, Tryz.ntmps60
  go_upto_region 1 with fail
  obtain ⟨W, hW⟩ : ∃ W, (w.alloc (.cells #[.bool e1, .int .u64 a, .int .u64 b] 24)) = W := ⟨_, rfl⟩
  have a0 : W.cell? ⟨w.heap.size, 0, none⟩ = some (.bool e1) := by rw [← hW]; simp [go_sem]
  have a1 : W.cell? ⟨w.heap.size, 1, none⟩ = some (.int .u64 a) := by rw [← hW]; simp [go_sem]
  have a2 : W.cell? ⟨w.heap.size, 2, none⟩ = some (.int .u64 b) := by rw [← hW]; simp [go_sem]
  have bW : Below w.heap.size w W := by rw [← hW]; exact (sp_new (Below.refl _ _) _)
  have zW : W.heap.size = w.heap.size + 1 := by rw [← hW]; simp
  rw [hW]
  clear hW
  replace zW := Nat.le_of_eq zW.symm
  go_wp2_with (first
   | (go_at_call 77; (with_reducible refine (k1 _).mono ?_); rintro e v1 ⟨rfl, g⟩; replace bW := sp_call bW g; replace zW := Nat.le_trans zW g.size; replace a0 := sO g a0; replace a1 := sO g a1; replace a2 := sO g a2; clear g)
   | fail)
  go_ret
  exact ⟨by simp, bW⟩
set_option maxRecDepth 100000 in
set_option maxHeartbeats 6400000 in
theorem lizero (e1 : Bool) (a b : Int) (w : World) :
  Calls Tryz.prog 120 #[.agg #[.bool e1, .int .u64 a, .int .u64 b]] w fun e w' => e = .returned (.bool (decide (e1 = false ∧ a = 0 ∧ b = 0))) ∧ Below w.heap.size w w' := by
 by_cases h : e1 = false ∧ a = 0 ∧ b = 0
 ·rw [decide_eq_true h]
  obtain ⟨rfl, rfl, rfl⟩ := h
  go_enter Tryz.func120, Tryz.ntmps120
  go_wp2_with fail
  go_ret
  exact ⟨by first | rfl | simp, sp_new (Below.refl _ _) _⟩
 ·rw [decide_eq_false h]
  go_enter Tryz.func120, Tryz.ntmps120
  go_wp2_with fail
  all_goals first | (go_ret; exact ⟨rfl, sp_new (Below.refl _ _) _⟩) | (exfalso; simp_all; done)
set_option maxRecDepth 100000 in
set_option maxHeartbeats 6400000 in
theorem lilesser (x y c : Int) (cb : Bool) (k1 : ∀ V, Calls Tryz.prog 145 #[.int .i64 (0), .int .u64 (x), .int .u64 (y)] V fun e w' => e = .returned (.tuple #[.int .i64 c, .bool cb]) ∧ Below V.heap.size V w') (w : World) :
  Calls Tryz.prog 105 #[.int .u64 x, .int .u64 y] w fun e w' => e = .returned (.int .u64 (if 0 < c then y else x)) ∧ Below w.heap.size w w' := by
 by_cases h : 0 < c
 ·rw [if_pos h]
  go_enter Tryz.func105, Tryz.ntmps105
  go_wp2_with (first
   | (go_at_call 145; refine (k1 _).mono ?_; rintro e v1 ⟨rfl, g⟩)
   | fail)
  go_ret
  exact ⟨rfl, g⟩
 ·rw [if_neg h]
  go_enter Tryz.func105, Tryz.ntmps105
  go_wp2_with (first
   | (go_at_call 145; refine (k1 _).mono ?_; rintro e v1 ⟨rfl, g⟩)
   | fail)
  go_ret
  exact ⟨rfl, g⟩
set_option maxRecDepth 100000 in
set_option maxHeartbeats 6400000 in
theorem ligreater (x y c : Int) (cb : Bool) (k1 : ∀ V, Calls Tryz.prog 145 #[.int .i64 (0), .int .u64 (x), .int .u64 (y)] V fun e w' => e = .returned (.tuple #[.int .i64 c, .bool cb]) ∧ Below V.heap.size V w') (w : World) :
  Calls Tryz.prog 106 #[.int .u64 x, .int .u64 y] w fun e w' => e = .returned (.int .u64 (if c < 0 then y else x)) ∧ Below w.heap.size w w' := by
 by_cases h : c < 0
 ·rw [if_pos h]
  go_enter Tryz.func106, Tryz.ntmps106
  go_wp2_with (first
   | (go_at_call 145; refine (k1 _).mono ?_; rintro e v1 ⟨rfl, g⟩)
   | fail)
  go_ret
  exact ⟨rfl, g⟩
 ·rw [if_neg h]
  go_enter Tryz.func106, Tryz.ntmps106
  go_wp2_with (first
   | (go_at_call 145; refine (k1 _).mono ?_; rintro e v1 ⟨rfl, g⟩)
   | fail)
  go_ret
  exact ⟨rfl, g⟩
end Go.Proofs.YteafnkimcidkhaaGreat


namespace Go.Proofs.YteafnkimcidkhaaGreat
open Go.RowKit
set_option linter.unusedVariables false
set_option linter.unusedSimpArgs false
end Go.Proofs.YteafnkimcidkhaaGreat



