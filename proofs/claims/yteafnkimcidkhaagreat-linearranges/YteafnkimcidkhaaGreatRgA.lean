/- A range over a function whose rounds always go on: laws of our own for an iterator that itself ranges over iterators and calls the outer loop's yield from within its rounds. -/
import Derived.RangeFuncNested
import Derived.RangeFuncCalls
import Derived.Below
namespace Go.Proofs.YteafnkimcidkhaaGreat
open Go.RowKit
set_option linter.unusedVariables false
/-- All blocks that lay, but those of S, lie as they lay. -/
structure But (S : Nat → Prop) (W W' : World) : Prop where
  os : W'.os = W.os
  tape : W'.tape = W.tape
  output : W'.output = W.output
  size : W.heap.size ≤ W'.heap.size
  block : ∀ k, k < W.heap.size → ¬ S k → W'.heap[k]? = W.heap[k]?
theorem But.refl (S : Nat → Prop) (W : World) : But S W W := ⟨rfl, rfl, rfl, Nat.le_refl _, fun _ _ _ => rfl⟩
theorem But.trans {S : Nat → Prop} {A B C : World} (h : But S A B) (k : But S B C) : But S A C :=
  ⟨k.os.trans h.os, k.tape.trans h.tape, k.output.trans h.output, Nat.le_trans h.size k.size, fun i hi hs => (k.block i (Nat.lt_of_lt_of_le hi h.size) hs).trans (h.block i hi hs)⟩
theorem But.of {S : Nat → Prop} {A B : World} (h : Below A.heap.size A B) : But S A B := ⟨h.os, h.tape, h.output, h.size, fun k hk _ => h.block k hk⟩
theorem But.below {S : Nat → Prop} {A B : World} {n : Nat} (h : But S A B) (hn : n ≤ A.heap.size) (hS : ∀ k, S k → n ≤ k) : Below n A B :=
  ⟨h.os, h.tape, h.output, h.size, fun k hk => h.block k (Nat.lt_of_lt_of_le hk hn) (fun hs => absurd (hS k hs) (by omega))⟩
theorem But.cell {S : Nat → Prop} {A B : World} (h : But S A B) {a : Addr} {v : Value} (hs : ¬ S a.block) (hv : A.cell? a = some v) : B.cell? a = some v :=
  (World.cell?_of_block (h.block a.block (World.block_lt_of_cell? A a hv) hs)).trans hv
theorem But.frozen {S : Nat → Prop} {A B : World} (h : But S A B) {a : Addr} (hs : ¬ S a.block) (hl : a.block < A.heap.size) : B.frozen? a = A.frozen? a :=
  World.frozen?_of_block (h.block a.block hl hs)
theorem But.call {S : Nat → Prop} {A B C : World} (h : But S A B) (k : Below B.heap.size B C) : But S A C := h.trans (But.of k)
theorem But.alloc {S : Nat → Prop} {A B : World} (h : But S A B) (o : Obj) : But S A (B.alloc o) := h.call ((Below.refl _ _).alloc (Nat.le_refl _) o)
theorem But.drew {S : Nat → Prop} {A B : World} (h : But S A B) : But S A B.drew := ⟨h.os, h.tape, h.output, h.size, h.block⟩
theorem But.set {S : Nat → Prop} {A B : World} (h : But S A B) {a : Addr} (hs : S a.block) (v : Value) : But S A (B.setCell a v) :=
  h.trans ⟨rfl, rfl, rfl, ((Below.refl 0 B).setCell (Nat.zero_le _) v).size, fun k _ hk => Below.heap_setCell B a v k (fun e => hk (by rw [e]; exact hs))⟩
/-- What is said hangs on the first B blocks alone. -/
def Stable {β : Type} (B : Nat) (J : β → World → Prop) : Prop := ∀ s W W', J s W → Below B W W' → J s W'
theorem Stable.and {β : Type} {B : Nat} {I J : β → World → Prop} (h : Stable B I) (k : Stable B J) : Stable B (fun s W => I s W ∧ J s W) := fun s W W' hs hb => ⟨h s W W' hs.1 hb, k s W W' hs.2 hb⟩
theorem Stable.mono {β : Type} {B B' : Nat} {J : β → World → Prop} (h : Stable B J) (hB : B ≤ B') : Stable B' J := fun s W W' hs hb => h s W W' hs (hb.mono hB)
theorem stable_but {β : Type} {S : Nat → Prop} {A : World} {B : Nat} (hB : A.heap.size ≤ B) : Stable B (fun (_ : β) W => But S A W) :=
  fun s W W' hs hb => ⟨hb.os.trans hs.os, hb.tape.trans hs.tape, hb.output.trans hs.output, Nat.le_trans hs.size hb.size, fun k hk h' => (hb.block k (Nat.lt_of_lt_of_le hk hB)).trans (hs.block k hk h')⟩
/-- The iterator g, with what it has caught, hands the rounds all of xs, in order, whatever the rounds do that go on and turn no block but those of S. -/
def Feeds (P : Program) (g : Nat) (lb : Array Value) {α : Type} (encs : α → Array Value) (S : Nat → Prop) (xs : List α) (w : World) : Prop :=
  ∀ (l : Nat) (J : List α → World → Prop) (W : World), Below w.heap.size w W → Stable W.heap.size J →
    (∀ pre x W1, pre ++ [x] <+: xs → J pre W1 → ∀ m, YieldAt Fence.wide m P l (encs x) W1 fun e W' => e = .returned (.bool true) ∧ J (pre ++ [x]) W' ∧ But S W1 W') →
    J [] W → Calls P g (#[.func (.yield l) #[] #[]] ++ lb) W fun e W' => (∃ v, e = .returned v) ∧ J xs W'
/-- One block has turned. -/
structure OnlyAt (l : Nat) (W W' : World) : Prop where
  os : W'.os = W.os
  tape : W'.tape = W.tape
  output : W'.output = W.output
  size : W'.heap.size = W.heap.size
  block : ∀ k, k ≠ l → W'.heap[k]? = W.heap[k]?
theorem OnlyAt.put (W : World) (l : Nat) (o : Obj) : OnlyAt l W (W.putObj l o) := ⟨rfl, rfl, rfl, by simp, fun k hk => World.putObj_heap_other (fun e => hk e)⟩
theorem OnlyAt.below {l B : Nat} {W W' : World} (h : OnlyAt l W W') (hB : B ≤ l) : Below B W W' := ⟨h.os, h.tape, h.output, Nat.le_of_eq h.size.symm, fun k hk => h.block k (by omega)⟩
/-- One round, out of its walks. -/
theorem one_round {P : Program} {m l : Nat} {r : Loop} {S : Nat → Prop} {fn : FuncId} {tmps : Array Value} {assign body : Code} {W : World} {I0 I1 : World → Prop} (Ax : Act → World → Prop)
    (hr1 : r.state = .ready) (hr2 : r.pending = none) (hl : W.heap[l]? = some (.loop r)) (hSl : ¬ S l) (st0 : ∀ W W', I0 W → OnlyAt l W W' → I0 W') (st1 : ∀ W W', I1 W → OnlyAt l W W' → I1 W')
    (hAx : ∀ a' W W', Ax a' W → OnlyAt l W W' → Ax a' W')
    (ha : ∀ K : Act → World → Prop, (∀ a' W', But S W W' → I0 W' → Ax a' W' → K a' W') → assign.wpIn (Fence.wide.inRound l) m P (Exit.then K (fun _ _ _ => False)) { tmps := tmps, defers := [] } W)
    (hb : ∀ a' W, (∃ r, W.heap[l]? = some (.loop r)) → I0 W → Ax a' W → body.wpIn (Fence.wide.inRound l) m P (fun e _ W3 => e = .normal ∧ But S W W3 ∧ I1 W3) a' W) :
    RoundIn Fence.wide m P l fn tmps assign body W (fun e W' => e = .returned (.bool true) ∧ I1 W' ∧ W'.heap[l]? = some (.loop r) ∧ But S W W') := by
  have ll : l < W.heap.size := (Array.getElem?_eq_some_iff.1 hl).1
  refine roundIn_of_wpIn trivial (ha _ fun a' Wa hba hia hax => ?_)
  have hla : Wa.heap[l]? = some (.loop r) := (hba.block l ll hSl).trans hl
  have lla : l < Wa.heap.size := (Array.getElem?_eq_some_iff.1 hla).1
  refine ⟨_, run_beginRound hla hr1, ?_⟩
  have hlb : (Wa.putObj l (.loop { r with state := .busy })).heap[l]? = some (.loop { r with state := .busy }) := World.putObj_heap_same lla
  refine wpIn_mono (hb a' _ ⟨_, hlb⟩ (st0 _ _ hia (OnlyAt.put _ _ _)) (hAx _ _ _ hax (OnlyAt.put _ _ _))) ?_
  rintro e a3 W3 ⟨rfl, hb3, hi3⟩
  have hl3 : W3.heap[l]? = some (.loop { r with state := .busy }) := (hb3.block l (by simpa using lla) hSl).trans hlb
  have ll3 : l < W3.heap.size := (Array.getElem?_eq_some_iff.1 hl3).1
  have he : (Instr.endRound l none).run P W3 = .ok (.bool true) (W3.putObj l (.loop r)) := by
    have := run_endRound (P := P) none hl3
    cases r
    simp only at hr1 hr2
    subst hr1 hr2
    exact this
  have h4 : (W3.putObj l (.loop r)).heap[l]? = some (.loop r) := World.putObj_heap_same ll3
  refine ⟨_, _, he, rfl, ?_, h4, ?_⟩
  · exact st1 _ _ hi3 (OnlyAt.put _ _ _)
  · refine ⟨?_, ?_, ?_, ?_, fun k hk hs => ?_⟩
    · exact hb3.os.trans hba.os
    · exact hb3.tape.trans hba.tape
    · exact hb3.output.trans hba.output
    · have := hb3.size
      have := hba.size
      simp at *
      omega
    · by_cases e : k = l
      · subst e
        exact h4.trans hl.symm
      · exact (World.putObj_heap_other e).trans ((hb3.block k (by have := hba.size; simp; omega) hs).trans ((World.putObj_heap_other e).trans (hba.block k hk hs)))
/-- A loop in a function's own activation. -/
theorem feed_out {α : Type} {P : Program} {n : Nat} {g : Operand} {ps : Array Tmp} {assign body : Code} {Q : Exit → Act → World → Prop} {a : Act} {w : World} {gf : Nat} {lb : Array Value}
    (hg : a.eval g = .func (.func gf) #[] lb) (eg : ∀ args w, (callFunc gf args).run P w = .ok (.enter gf args) w) {encs : α → Array Value} {S : Nat → Prop} {xs : List α}
    (hseq : Feeds P gf lb encs S xs w) (hps : ∀ x, (encs x).size = ps.size) (hS : ∀ k, S k → k < w.heap.size)
    (I : List α → World → Prop) (hI : Stable w.heap.size I) (h0 : I [] w)
    (Ax : Nat → α → Act → World → Prop) (hAx : ∀ l x a' W W', Ax l x a' W → OnlyAt l W W' → Ax l x a' W')
    (hassign : ∀ m l pre x W (K : Act → World → Prop), w.heap.size ≤ l → l < W.heap.size → pre ++ [x] <+: xs → I pre W → (∀ a' W', But S W W' → I pre W' → Ax l x a' W' → K a' W') →
      assign.wpIn (Fence.wide.inRound l) m P (Exit.then K (fun _ _ _ => False)) { tmps := (ps.zip (encs x)).foldl (fun t (p, v) => t.setIfInBounds p v) a.tmps, defers := [] } W)
    (hbody : ∀ m l pre x a' W, w.heap.size ≤ l → (∃ r, W.heap[l]? = some (.loop r)) → pre ++ [x] <+: xs → I pre W → Ax l x a' W → body.wpIn (Fence.wide.inRound l) m P (fun e _ W3 => e = .normal ∧ But S W W3 ∧ I (pre ++ [x]) W3) a' W)
    (hdone : ∀ D W, w.heap.size ≤ D → I xs W → W.heap[D]? = some (.deferred (some [])) → Q .normal { a with defers := { target := .collected D, args := #[] } :: a.defers } W) :
    (Code.rangeFunc g ps assign body).wpIn Fence.wide n P Q a w := by
  refine wpIn_rangeFunc fun fn hfn => ?_
  obtain ⟨r, hr⟩ : ∃ r : Loop, r = { state := .ready, pending := none, fn, tmps := a.tmps, params := ps, assign, body, defers := w.heap.size } := ⟨_, rfl⟩
  obtain ⟨W1, hW1⟩ : ∃ W1, (w.alloc (.deferred (some []))).alloc (.loop r) = W1 := ⟨_, rfl⟩
  have z1 : W1.heap.size = w.heap.size + 1 + 1 := by rw [← hW1]; simp
  have hb1 : Below w.heap.size w W1 := by rw [← hW1]; exact ((Below.refl _ w).alloc (Nat.le_refl _) _).alloc (by simp) _
  have hl1 : W1.heap[w.heap.size + 1]? = some (.loop r) := by
    have := World.alloc_heap_new (w.alloc (.deferred (some []))) (.loop r)
    rw [World.size_alloc, hW1] at this
    exact this
  have hd1 : W1.heap[w.heap.size]? = some (.deferred (some [])) := by
    rw [← hW1]; exact (Below.heap_alloc _ _ _ (by simp)).trans (World.alloc_heap_new w _)
  refine ⟨w.heap.size + 1, [{ target := .collected w.heap.size, args := #[] }], W1, { target := .fn (.func gf) lb, args := #[.func (.yield (w.heap.size + 1)) #[] #[]] }, W1, gf,
    #[.func (.yield (w.heap.size + 1)) #[] #[]] ++ lb, W1, ?_, ?_, fun _ _ => trivial, ?_, (fun h => by cases h), ?_⟩
  · rw [← hW1, hr]; exact run_enterLoop_outer _ _ _ _ _
  · simp only [resolve, hg]
    simp [go_sem]
  · simp [invoke, go_sem, eg]
  · refine callsIn_wide.2 ((hseq (w.heap.size + 1) (fun pre W => I pre W ∧ W.heap[w.heap.size + 1]? = some (.loop r) ∧ W.heap[w.heap.size]? = some (.deferred (some []))) W1 hb1 ?_ ?_ ⟨hI _ _ _ h0 hb1, hl1, hd1⟩).mono ?_)
    · rintro s W W' ⟨h1, h2, h3⟩ hb
      exact ⟨hI _ _ _ h1 (hb.mono (by omega)), (hb.block _ (by omega)).trans h2, (hb.block _ (by omega)).trans h3⟩
    · rintro pre x W hp ⟨h1, h2, h3⟩ m
      have hns : ∀ k, w.heap.size ≤ k → ¬ S k := fun k hk hs => absurd (hS k hs) (by omega)
      have hy := run_yield (P := P) (args := encs x) h2 (by rw [hr]; exact hps x)
      have lW : w.heap.size + 1 < W.heap.size := (Array.getElem?_eq_some_iff.1 h2).1
      have hround := one_round (P := P) (m := m) (fn := fn) (r := r) (l := w.heap.size + 1) (S := S) (W := W) (assign := assign) (body := body) (tmps := (ps.zip (encs x)).foldl (fun t (p, v) => t.setIfInBounds p v) a.tmps) (I0 := I pre) (I1 := I (pre ++ [x])) (Ax (w.heap.size + 1) x)
        (by rw [hr]) (by rw [hr]) h2 (hns _ (by omega)) (fun W W' h ho => hI _ _ _ h (ho.below (by omega))) (fun W W' h ho => hI _ _ _ h (ho.below (by omega))) (fun a' W W' h ho => hAx _ _ _ _ _ h ho)
        (fun K hK => hassign m _ pre x W K (by omega) lW hp h1 hK) (fun a' W hr' h hx => hbody m _ pre x a' W (by omega) hr' hp h hx)
      refine ⟨fn, _, assign, body, by rw [hy, hr], hround.mono ?_⟩
      rintro e W' ⟨rfl, i1, l1, b1⟩
      exact ⟨rfl, ⟨i1, l1, (b1.block _ (by omega) (hns _ (by omega))).trans h3⟩, b1⟩
    · rintro e W2 ⟨⟨v, rfl⟩, h1, h2, h3⟩
      exact ⟨none, _, by have := run_endLoop (P := P) h2 (by rw [hr]; simp); rw [hr] at this; exact this, hdone _ _ (Nat.le_refl _) (hI _ _ _ h1 ((OnlyAt.put _ _ _).below (by omega))) ((World.putObj_heap_other (by omega)).trans h3)⟩
/-- A loop in a round of another one. -/
theorem feed_in {α : Type} {P : Program} {n : Nat} {g : Operand} {ps : Array Tmp} {assign body : Code} {Q : Exit → Act → World → Prop} {a : Act} {w : World} {l₀ : Nat} (hl₀ : ∃ r, w.heap[l₀]? = some (.loop r)) {gf : Nat} {lb : Array Value}
    (hg : a.eval g = .func (.func gf) #[] lb) (eg : ∀ args w, (callFunc gf args).run P w = .ok (.enter gf args) w) {encs : α → Array Value} {S : Nat → Prop} {xs : List α}
    (hseq : Feeds P gf lb encs S xs w) (hps : ∀ x, (encs x).size = ps.size) (hS : ∀ k, S k → k < w.heap.size)
    (I : List α → World → Prop) (hI : Stable w.heap.size I) (h0 : I [] w)
    (Ax : Nat → α → Act → World → Prop) (hAx : ∀ l x a' W W', Ax l x a' W → OnlyAt l W W' → Ax l x a' W')
    (hassign : ∀ m l pre x W (K : Act → World → Prop), w.heap.size ≤ l → l < W.heap.size → pre ++ [x] <+: xs → I pre W → (∀ a' W', But S W W' → I pre W' → Ax l x a' W' → K a' W') →
      assign.wpIn (Fence.wide.inRound l) m P (Exit.then K (fun _ _ _ => False)) { tmps := (ps.zip (encs x)).foldl (fun t (p, v) => t.setIfInBounds p v) a.tmps, defers := [] } W)
    (hbody : ∀ m l pre x a' W, w.heap.size ≤ l → (∃ r, W.heap[l]? = some (.loop r)) → pre ++ [x] <+: xs → I pre W → Ax l x a' W → body.wpIn (Fence.wide.inRound l) m P (fun e _ W3 => e = .normal ∧ But S W W3 ∧ I (pre ++ [x]) W3) a' W)
    (hdone : ∀ W, I xs W → Q .normal a W) :
    (Code.rangeFunc g ps assign body).wpIn (Fence.wide.inRound l₀) n P Q a w := by
  obtain ⟨r₀, hr₀⟩ := hl₀
  refine wpIn_rangeFunc fun fn hfn => ?_
  obtain ⟨r, hr⟩ : ∃ r : Loop, r = { state := .ready, pending := none, fn, tmps := a.tmps, params := ps, assign, body, defers := r₀.defers } := ⟨_, rfl⟩
  obtain ⟨W1, hW1⟩ : ∃ W1, w.alloc (.loop r) = W1 := ⟨_, rfl⟩
  have z1 : W1.heap.size = w.heap.size + 1 := by rw [← hW1]; simp
  have hb1 : Below w.heap.size w W1 := by rw [← hW1]; exact (Below.refl _ w).alloc (Nat.le_refl _) _
  have hl1 : W1.heap[w.heap.size]? = some (.loop r) := by rw [← hW1]; exact World.alloc_heap_new w _
  refine ⟨w.heap.size, [], W1, { target := .fn (.func gf) lb, args := #[.func (.yield w.heap.size) #[] #[]] }, W1, gf,
    #[.func (.yield w.heap.size) #[] #[]] ++ lb, W1, ?_, ?_, fun _ _ => trivial, ?_, (fun h => by cases h), ?_⟩
  · rw [← hW1, hr]; exact run_enterLoop_inner hr₀ _ _ _ _ _
  · simp only [resolve, hg]
    simp [go_sem]
  · simp [invoke, go_sem, eg]
  · refine CallsIn.inRound l₀ (callsIn_wide.2 ((hseq w.heap.size (fun pre W => I pre W ∧ W.heap[w.heap.size]? = some (.loop r)) W1 hb1 ?_ ?_ ⟨hI _ _ _ h0 hb1, hl1⟩).mono ?_))
    · rintro s W W' ⟨h1, h2⟩ hb
      exact ⟨hI _ _ _ h1 (hb.mono (by omega)), (hb.block _ (by omega)).trans h2⟩
    · rintro pre x W hp ⟨h1, h2⟩ m
      have hns : ∀ k, w.heap.size ≤ k → ¬ S k := fun k hk hs => absurd (hS k hs) (by omega)
      have hy := run_yield (P := P) (args := encs x) h2 (by rw [hr]; exact hps x)
      have lW : w.heap.size < W.heap.size := (Array.getElem?_eq_some_iff.1 h2).1
      have hround := one_round (P := P) (m := m) (fn := fn) (r := r) (l := w.heap.size) (S := S) (W := W) (assign := assign) (body := body) (tmps := (ps.zip (encs x)).foldl (fun t (p, v) => t.setIfInBounds p v) a.tmps) (I0 := I pre) (I1 := I (pre ++ [x])) (Ax w.heap.size x)
        (by rw [hr]) (by rw [hr]) h2 (hns _ (by omega)) (fun W W' h ho => hI _ _ _ h (ho.below (by omega))) (fun W W' h ho => hI _ _ _ h (ho.below (by omega))) (fun a' W W' h ho => hAx _ _ _ _ _ h ho)
        (fun K hK => hassign m _ pre x W K (by omega) lW hp h1 hK) (fun a' W hr' h hx => hbody m _ pre x a' W (by omega) hr' hp h hx)
      refine ⟨fn, _, assign, body, by rw [hy, hr], hround.mono ?_⟩
      rintro e W' ⟨rfl, i1, l1, b1⟩
      exact ⟨rfl, ⟨i1, l1⟩, b1⟩
    · rintro e W2 ⟨⟨v, rfl⟩, h1, h2⟩
      exact ⟨none, _, by have := run_endLoop (P := P) h2 (by rw [hr]; simp); rw [hr] at this; exact this, hdone _ (hI _ _ _ h1 ((OnlyAt.put _ _ _).below (by omega)))⟩
end Go.Proofs.YteafnkimcidkhaaGreat
