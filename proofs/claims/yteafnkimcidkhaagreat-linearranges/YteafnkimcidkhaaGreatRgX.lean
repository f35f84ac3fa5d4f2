/- A range over a function whose rounds go on, or leave the function by 'return': laws of our own. -/
import Derived.Test.YteafnkimcidkhaaGreatRgA
namespace Go.Proofs.YteafnkimcidkhaaGreat
open Go.RowKit
set_option linter.unusedVariables false
/-- What is said stays so where memory only grows. -/
def Grows {β : Type} (J : β → World → Prop) : Prop := ∀ s W W', J s W → Below W.heap.size W W' → J s W'
/-- The iterator g hands the rounds all of xs, in order, till a round leaves. -/
def FeedsS (P : Program) (g : Nat) (lb : Array Value) {α : Type} (encs : α → Array Value) (n0 : Nat) (xs : List α) (w : World) : Prop :=
  ∀ (l : Nat) (J : List α → World → Prop) (K : World → Prop) (W : World), Below w.heap.size w W → Grows J → Grows (fun (_ : Unit) W => K W) →
    (∀ pre x W1, pre ++ [x] <+: xs → J pre W1 → ∀ m, YieldAt Fence.wide m P l (encs x) W1 fun e W' => (e = .returned (.bool true) ∧ J (pre ++ [x]) W' ∧ Below n0 W1 W') ∨ (e = .returned (.bool false) ∧ K W')) →
    J [] W → Calls P g (#[.func (.yield l) #[] #[]] ++ lb) W fun e W' => (∃ v, e = .returned v) ∧ (J xs W' ∨ K W')
/-- One round, out of its walks. -/
theorem one_roundS {P : Program} {m l : Nat} {r : Loop} {S : Nat → Prop} {fn : FuncId} {tmps : Array Value} {assign body : Code} {W : World} {I0 I1 I2 : World → Prop} (Ax : Act → World → Prop)
    (hr1 : r.state = .ready) (hr2 : r.pending = none) (hl : W.heap[l]? = some (.loop r)) (hSl : ¬ S l) (st0 : ∀ W W', I0 W → OnlyAt l W W' → I0 W') (st1 : ∀ W W', I1 W → OnlyAt l W W' → I1 W') (st2 : ∀ W W', I2 W → OnlyAt l W W' → I2 W')
    (hAx : ∀ a' W W', Ax a' W → OnlyAt l W W' → Ax a' W')
    (ha : ∀ K : Act → World → Prop, (∀ a' W', But S W W' → I0 W' → Ax a' W' → K a' W') → assign.wpIn (Fence.wide.inRound l) m P (Exit.then K (fun _ _ _ => False)) { tmps := tmps, defers := [] } W)
    (hb : ∀ a' W, (∃ r, W.heap[l]? = some (.loop r)) → I0 W → Ax a' W → body.wpIn (Fence.wide.inRound l) m P (fun e _ W3 => (e = .normal ∧ But S W W3 ∧ I1 W3) ∨ (e = .ret ∧ But S W W3 ∧ I2 W3)) a' W) :
    RoundIn Fence.wide m P l fn tmps assign body W (fun e W' => (e = .returned (.bool true) ∧ I1 W' ∧ W'.heap[l]? = some (.loop r) ∧ But S W W') ∨ (e = .returned (.bool false) ∧ I2 W' ∧ W'.heap[l]? = some (.loop { r with state := .done, pending := some .ret }) ∧ ∀ k, k < W.heap.size → ¬ S k → k ≠ l → W'.heap[k]? = W.heap[k]?)) := by
  have ll : l < W.heap.size := (Array.getElem?_eq_some_iff.1 hl).1
  refine roundIn_of_wpIn trivial (ha _ fun a' Wa hba hia hax => ?_)
  have hla : Wa.heap[l]? = some (.loop r) := (hba.block l ll hSl).trans hl
  have lla : l < Wa.heap.size := (Array.getElem?_eq_some_iff.1 hla).1
  refine ⟨_, run_beginRound hla hr1, ?_⟩
  have hlb : (Wa.putObj l (.loop { r with state := .busy })).heap[l]? = some (.loop { r with state := .busy }) := World.putObj_heap_same lla
  refine wpIn_mono (hb a' _ ⟨_, hlb⟩ (st0 _ _ hia (OnlyAt.put _ _ _)) (hAx _ _ _ hax (OnlyAt.put _ _ _))) ?_
  rintro e a3 W3 (⟨rfl, hb3, hi3⟩ | ⟨rfl, hb3, hi3⟩)
  · have hl3 : W3.heap[l]? = some (.loop { r with state := .busy }) := (hb3.block l (by simpa using lla) hSl).trans hlb
    have ll3 : l < W3.heap.size := (Array.getElem?_eq_some_iff.1 hl3).1
    have he : (Instr.endRound l none).run P W3 = .ok (.bool true) (W3.putObj l (.loop r)) := by
      have := run_endRound (P := P) none hl3
      cases r
      simp only at hr1 hr2
      subst hr1 hr2
      exact this
    have h4 : (W3.putObj l (.loop r)).heap[l]? = some (.loop r) := World.putObj_heap_same ll3
    refine ⟨_, _, he, Or.inl ⟨rfl, ?_, h4, ?_⟩⟩
    · exact st1 _ _ hi3 (OnlyAt.put _ _ _)
    · refine ⟨?_, ?_, ?_, ?_, fun k hk hs => ?_⟩
      · exact hb3.os.trans hba.os
      · exact hb3.tape.trans hba.tape
      · exact hb3.output.trans hba.output
      · have := hb3.size
        have := hba.size
        simp at *
        omega
      · by_cases e : k = l
        · subst e
          exact h4.trans hl.symm
        · exact (World.putObj_heap_other e).trans ((hb3.block k (by have := hba.size; simp; omega) hs).trans ((World.putObj_heap_other e).trans (hba.block k hk hs)))
  · have hl3 : W3.heap[l]? = some (.loop { r with state := .busy }) := (hb3.block l (by simpa using lla) hSl).trans hlb
    have ll3 : l < W3.heap.size := (Array.getElem?_eq_some_iff.1 hl3).1
    have he : (Instr.endRound l (some .ret)).run P W3 = .ok (.bool false) (W3.putObj l (.loop { r with state := .done, pending := some .ret })) := by
      have := run_endRound (P := P) (some .ret) hl3
      exact this
    have h4 : (W3.putObj l (.loop { r with state := .done, pending := some .ret })).heap[l]? = some (.loop { r with state := .done, pending := some .ret }) := World.putObj_heap_same ll3
    refine ⟨_, _, he, Or.inr ⟨rfl, ?_, h4, fun k hk hs e => ?_⟩⟩
    · exact st2 _ _ hi3 (OnlyAt.put _ _ _)
    · exact (World.putObj_heap_other e).trans ((hb3.block k (by have := hba.size; simp; omega) hs).trans ((World.putObj_heap_other e).trans (hba.block k hk hs)))
/-- A loop in a function's own activation. -/
theorem feed_outS {α : Type} {P : Program} {n : Nat} {g : Operand} {ps : Array Tmp} {assign body : Code} {Q : Exit → Act → World → Prop} {a : Act} {w : World} {gf : Nat} {lb : Array Value}
    (hg : a.eval g = .func (.func gf) #[] lb) (eg : ∀ args w, (callFunc gf args).run P w = .ok (.enter gf args) w) {encs : α → Array Value} {n0 : Nat} {xs : List α}
    (hseq : FeedsS P gf lb encs n0 xs w) (hps : ∀ x, (encs x).size = ps.size) (S : Nat → Prop) (hn0 : n0 ≤ w.heap.size) (hS0 : ∀ k, S k → n0 ≤ k) (hS1 : ¬ S w.heap.size) (hS2 : ¬ S (w.heap.size + 1))
    (I : List α → World → Prop) (hI : Grows I) (hIl : ∀ s W W', I s W → OnlyAt (w.heap.size + 1) W W' → I s W') (I2 : World → Prop) (hI2 : Grows (fun (_ : Unit) W => I2 W)) (hI2l : ∀ W W', I2 W → OnlyAt (w.heap.size + 1) W W' → I2 W') (h0 : I [] w)
    (Ax : Nat → α → Act → World → Prop) (hAx : ∀ l x a' W W', Ax l x a' W → OnlyAt l W W' → Ax l x a' W')
    (hassign : ∀ m l pre x W (K : Act → World → Prop), l = w.heap.size + 1 → l < W.heap.size → pre ++ [x] <+: xs → I pre W → (∀ a' W', But S W W' → I pre W' → Ax l x a' W' → K a' W') →
      assign.wpIn (Fence.wide.inRound l) m P (Exit.then K (fun _ _ _ => False)) { tmps := (ps.zip (encs x)).foldl (fun t (p, v) => t.setIfInBounds p v) a.tmps, defers := [] } W)
    (hbody : ∀ m l pre x a' W, l = w.heap.size + 1 → (∃ r, W.heap[l]? = some (.loop r)) → pre ++ [x] <+: xs → I pre W → Ax l x a' W → body.wpIn (Fence.wide.inRound l) m P (fun e _ W3 => (e = .normal ∧ But S W W3 ∧ I (pre ++ [x]) W3) ∨ (e = .ret ∧ But S W W3 ∧ I2 W3)) a' W)
    (hdone : ∀ D W, w.heap.size ≤ D → I xs W → W.heap[D]? = some (.deferred (some [])) → Q .normal { a with defers := { target := .collected D, args := #[] } :: a.defers } W)
    (hstop : ∀ D W, w.heap.size ≤ D → I2 W → W.heap[D]? = some (.deferred (some [])) → Code.ret.wpIn Fence.wide n P Q { a with defers := { target := .collected D, args := #[] } :: a.defers } W) :
    (Code.rangeFunc g ps assign body).wpIn Fence.wide n P Q a w := by
  refine wpIn_rangeFunc fun fn hfn => ?_
  obtain ⟨r, hr⟩ : ∃ r : Loop, r = { state := .ready, pending := none, fn, tmps := a.tmps, params := ps, assign, body, defers := w.heap.size } := ⟨_, rfl⟩
  obtain ⟨W1, hW1⟩ : ∃ W1, (w.alloc (.deferred (some []))).alloc (.loop r) = W1 := ⟨_, rfl⟩
  have z1 : W1.heap.size = w.heap.size + 1 + 1 := by rw [← hW1]; simp
  have hb1 : Below w.heap.size w W1 := by rw [← hW1]; exact ((Below.refl _ w).alloc (Nat.le_refl _) _).alloc (by simp) _
  have hl1 : W1.heap[w.heap.size + 1]? = some (.loop r) := by
    have := World.alloc_heap_new (w.alloc (.deferred (some []))) (.loop r)
    rw [World.size_alloc, hW1] at this
    exact this
  have hd1 : W1.heap[w.heap.size]? = some (.deferred (some [])) := by
    rw [← hW1]; exact (Below.heap_alloc _ _ _ (by simp)).trans (World.alloc_heap_new w _)
  refine ⟨w.heap.size + 1, [{ target := .collected w.heap.size, args := #[] }], W1, { target := .fn (.func gf) lb, args := #[.func (.yield (w.heap.size + 1)) #[] #[]] }, W1, gf,
    #[.func (.yield (w.heap.size + 1)) #[] #[]] ++ lb, W1, ?_, ?_, fun _ _ => trivial, ?_, (fun h => by cases h), ?_⟩
  · rw [← hW1, hr]; exact run_enterLoop_outer _ _ _ _ _
  · simp only [resolve, hg]
    simp [go_sem]
  · simp [invoke, go_sem, eg]
  · refine callsIn_wide.2 ((hseq (w.heap.size + 1) (fun pre W => I pre W ∧ W.heap[w.heap.size + 1]? = some (.loop r) ∧ W.heap[w.heap.size]? = some (.deferred (some []))) (fun W => I2 W ∧ W.heap[w.heap.size + 1]? = some (.loop { r with state := .done, pending := some .ret }) ∧ W.heap[w.heap.size]? = some (.deferred (some []))) W1 hb1 ?_ ?_ ?_ ⟨hI _ _ _ h0 hb1, hl1, hd1⟩).mono ?_)
    · rintro s W W' ⟨h1, h2, h3⟩ hb
      exact ⟨hI _ _ _ h1 hb, (hb.block _ (Array.getElem?_eq_some_iff.1 h2).1).trans h2, (hb.block _ (Array.getElem?_eq_some_iff.1 h3).1).trans h3⟩
    · rintro s W W' ⟨h1, h2, h3⟩ hb
      exact ⟨hI2 () _ _ h1 hb, (hb.block _ (Array.getElem?_eq_some_iff.1 h2).1).trans h2, (hb.block _ (Array.getElem?_eq_some_iff.1 h3).1).trans h3⟩
    · rintro pre x W hp ⟨h1, h2, h3⟩ m
      have hy := run_yield (P := P) (args := encs x) h2 (by rw [hr]; exact hps x)
      have lW : w.heap.size + 1 < W.heap.size := (Array.getElem?_eq_some_iff.1 h2).1
      have hround := one_roundS (P := P) (m := m) (fn := fn) (r := r) (l := w.heap.size + 1) (S := S) (W := W) (assign := assign) (body := body) (tmps := (ps.zip (encs x)).foldl (fun t (p, v) => t.setIfInBounds p v) a.tmps) (I0 := I pre) (I1 := I (pre ++ [x])) (I2 := I2) (Ax (w.heap.size + 1) x)
        (by rw [hr]) (by rw [hr]) h2 hS2 (fun W W' h ho => hIl _ _ _ h ho) (fun W W' h ho => hIl _ _ _ h ho) (fun W W' h ho => hI2l _ _ h ho) (fun a' W W' h ho => hAx _ _ _ _ _ h ho)
        (fun K hK => hassign m _ pre x W K rfl lW hp h1 hK) (fun a' W hr' h hx => hbody m _ pre x a' W rfl hr' hp h hx)
      refine ⟨fn, _, assign, body, by rw [hy, hr], hround.mono ?_⟩
      rintro e W' (⟨rfl, i1, l1, b1⟩ | ⟨rfl, i1, l1, b1⟩)
      · exact Or.inl ⟨rfl, ⟨i1, l1, (b1.block _ (by omega) hS1).trans h3⟩, b1.below (by omega) hS0⟩
      · exact Or.inr ⟨rfl, i1, l1, (b1 _ (by omega) hS1 (by omega)).trans h3⟩
    · rintro e W2 ⟨⟨v, rfl⟩, (⟨h1, h2, h3⟩ | ⟨h1, h2, h3⟩)⟩
      · exact ⟨none, _, by have := run_endLoop (P := P) h2 (by rw [hr]; simp); rw [hr] at this; exact this, hdone _ _ (Nat.le_refl _) (hIl _ _ _ h1 (OnlyAt.put _ _ _)) ((World.putObj_heap_other (by omega)).trans h3)⟩
      · exact ⟨some .ret, _, by have := run_endLoop (P := P) h2 (by rw [hr]; simp); rw [hr] at this; exact this, hstop _ _ (Nat.le_refl _) (hI2l _ _ h1 (OnlyAt.put _ _ _)) ((World.putObj_heap_other (by omega)).trans h3)⟩
end Go.Proofs.YteafnkimcidkhaaGreat
