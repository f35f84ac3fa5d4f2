/- Texts of the proof, put together. -/
import Derived.Test.YteafnkimcidkhaaGreatYRG1
import Derived.Test.YteafnkimcidkhaaGreatYRG2
import Derived.Test.YteafnkimcidkhaaGreatYRSpWf
import Derived.Test.YteafnkimcidkhaaGreatShelf
import Derived.Test.YteafnkimcidkhaaGreatYRMB1
import Derived.Test.YteafnkimcidkhaaGreatYRMB2
import Derived.Test.YteafnkimcidkhaaGreatYRMB3
import Derived.Test.YteafnkimcidkhaaGreatYRSpF
import Derived.Test.YteafnkimcidkhaaGreatYRSpFl
import Derived.Test.YteafnkimcidkhaaGreatYRLjF
import Derived.Test.YteafnkimcidkhaaGreatYRLjH
import Derived.Test.YteafnkimcidkhaaGreatYRG3
import Derived.Test.YteafnkimcidkhaaGreatYRLiF
import Derived.Test.YteafnkimcidkhaaGreatYRLiG
import Derived.Test.YteafnkimcidkhaaGreatYRLiH
import Derived.Test.YteafnkimcidkhaaGreatYRLiI
import Derived.Test.YteafnkimcidkhaaGreatYRLiJ
import Derived.Test.YteafnkimcidkhaaGreatYRLiK
import Derived.Test.YteafnkimcidkhaaGreatYRLiL
import Derived.Test.YteafnkimcidkhaaGreatYRLiB
import Derived.Test.YteafnkimcidkhaaGreatYRMB4
import Derived.Test.YteafnkimcidkhaaGreatYRMB5
import Derived.Test.YteafnkimcidkhaaGreatYRLiO
import Derived.Test.YteafnkimcidkhaaGreatYRG5
import Derived.Test.YteafnkimcidkhaaGreatYRG4
import Derived.Test.YteafnkimcidkhaaGreatYRG6
import Derived.Test.YteafnkimcidkhaaGreatYRG7
import Derived.Test.YteafnkimcidkhaaGreatYRG8
import Derived.Test.YteafnkimcidkhaaGreatYRG9
import Derived.RangeFuncNested
import Derived.RangeFuncCalls
import Derived.Below
import Derived.WalkKit
import Derived.WalkSpells
import Derived.StillTactics
import Derived.Laws.Pointers
import Derived.Laws.Externs
import Derived.Deep.RegionHeld3
import Derived.RowKit
import Derived.Laws.EntriesVeiled
import Derived.Shelf.Abstract
import Derived.RangeFuncBound
import Derived.RangeFuncLeaves
import Derived.Shelf.RegionOpen
import Derived.OwnWalkIn
import Derived.TacticsInMore
import Derived.LoopNIn
import Derived.LoopIn
import Derived.Laws.Bits64
import Derived.Laws.Bits64b
import Derived.Lib.Mul64
import Derived.Lib.BitFns
import Derived.Shelf.Spec.BitsCarry
import Derived.BigQuiet
import Derived.Deep.QuietTactic
import Derived.Deep.DeepCutAuto
import Derived.ScopeJumps
import Derived.Deep.CutBlock
import Derived.Laws.BitsAllLaws
import Derived.Deep.Draws
import Derived.Deep.DrawnRows
import Derived.Laws.Append
import Derived.Deep.Upon
import Derived.ProofKit
import Derived.OpenShut
import Derived.ChangeOld
import Derived.Lib.SmallJoins
import Derived.Deep.Strs
import Derived.Maps.AppendAt
import Derived.OwnWalk
import Derived.Laws.AppendOwn
import Derived.Deep.RegionWith
namespace Go.Proofs.YteafnkimcidkhaaGreat
open Go.RowKit
set_option linter.unusedVariables false
theorem stable_but {β : Type} {S : Nat → Prop} {A : World} {B : Nat} (hB : A.heap.size ≤ B) : Stable B (fun (_ : β) W => But S A W) :=
  fun s W W' hs hb => ⟨hb.os.trans hs.os, hb.tape.trans hs.tape, hb.output.trans hs.output, Nat.le_trans hs.size hb.size, fun k hk h' => (hb.block k (Nat.lt_of_lt_of_le hk hB)).trans (hs.block k hk h')⟩
def Feeds (P : Program) (g : Nat) (lb : Array Value) {α : Type} (encs : α → Array Value) (S : Nat → Prop) (xs : List α) (w : World) : Prop :=
  ∀ (l : Nat) (J : List α → World → Prop) (W : World), Below w.heap.size w W → Stable W.heap.size J →
    (∀ pre x W1, pre ++ [x] <+: xs → J pre W1 → ∀ m, YieldAt Fence.wide m P l (encs x) W1 fun e W' => e = .returned (.bool true) ∧ J (pre ++ [x]) W' ∧ But S W1 W') →
    J [] W → Calls P g (#[.func (.yield l) #[] #[]] ++ lb) W fun e W' => (∃ v, e = .returned v) ∧ J xs W'
theorem one_round {P : Program} {m l : Nat} {r : Loop} {S : Nat → Prop} {fn : FuncId} {tmps : Array Value} {assign body : Code} {W : World} {I0 I1 : World → Prop} (Ax : Act → World → Prop)
    (hr1 : r.state = .ready) (hr2 : r.pending = none) (hl : W.heap[l]? = some (.loop r)) (hSl : ¬ S l) (st0 : ∀ W W', I0 W → OnlyAt l W W' → I0 W') (st1 : ∀ W W', I1 W → OnlyAt l W W' → I1 W')
    (hAx : ∀ a' W W', Ax a' W → OnlyAt l W W' → Ax a' W')
    (ha : ∀ K : Act → World → Prop, (∀ a' W', But S W W' → I0 W' → Ax a' W' → K a' W') → assign.wpIn (Fence.wide.inRound l) m P (Exit.then K (fun _ _ _ => False)) { tmps := tmps, defers := [] } W)
    (hb : ∀ a' W, (∃ r, W.heap[l]? = some (.loop r)) → I0 W → Ax a' W → body.wpIn (Fence.wide.inRound l) m P (fun e _ W3 => e = .normal ∧ But S W W3 ∧ I1 W3) a' W) :
    RoundIn Fence.wide m P l fn tmps assign body W (fun e W' => e = .returned (.bool true) ∧ I1 W' ∧ W'.heap[l]? = some (.loop r) ∧ But S W W') := by
  have ll : l < W.heap.size := (Array.getElem?_eq_some_iff.1 hl).1
  refine roundIn_of_wpIn trivial (ha _ fun a' Wa hba hia hax => ?_)
  have hla : Wa.heap[l]? = some (.loop r) := (hba.block l ll hSl).trans hl
  have lla : l < Wa.heap.size := (Array.getElem?_eq_some_iff.1 hla).1
  refine ⟨_, run_beginRound hla hr1, ?_⟩
  have hlb : (Wa.putObj l (.loop { r with state := .busy })).heap[l]? = some (.loop { r with state := .busy }) := World.putObj_heap_same lla
  refine wpIn_mono (hb a' _ ⟨_, hlb⟩ (st0 _ _ hia (OnlyAt.put _ _ _)) (hAx _ _ _ hax (OnlyAt.put _ _ _))) ?_
  rintro e a3 W3 ⟨rfl, hb3, hi3⟩
  have hl3 : W3.heap[l]? = some (.loop { r with state := .busy }) := (hb3.block l (by simpa using lla) hSl).trans hlb
  have ll3 : l < W3.heap.size := (Array.getElem?_eq_some_iff.1 hl3).1
  have he : (Instr.endRound l none).run P W3 = .ok (.bool true) (W3.putObj l (.loop r)) := by
    have := run_endRound (P := P) none hl3
    cases r
    simp only at hr1 hr2
    subst hr1 hr2
    exact this
  have h4 : (W3.putObj l (.loop r)).heap[l]? = some (.loop r) := World.putObj_heap_same ll3
  refine ⟨_, _, he, rfl, ?_, h4, ?_⟩
  · exact st1 _ _ hi3 (OnlyAt.put _ _ _)
  · refine ⟨?_, ?_, ?_, ?_, fun k hk hs => ?_⟩
    · exact hb3.os.trans hba.os
    · exact hb3.tape.trans hba.tape
    · exact hb3.output.trans hba.output
    · have := hb3.size
      have := hba.size
      simp at *
      omega
    · by_cases e : k = l
      · subst e
        exact h4.trans hl.symm
      · exact (World.putObj_heap_other e).trans ((hb3.block k (by have := hba.size; simp; omega) hs).trans ((World.putObj_heap_other e).trans (hba.block k hk hs)))
theorem feed_out {α : Type} {P : Program} {n : Nat} {g : Operand} {ps : Array Tmp} {assign body : Code} {Q : Exit → Act → World → Prop} {a : Act} {w : World} {gf : Nat} {lb : Array Value}
    (hg : a.eval g = .func (.func gf) #[] lb) (eg : ∀ args w, (callFunc gf args).run P w = .ok (.enter gf args) w) {encs : α → Array Value} {S : Nat → Prop} {xs : List α}
    (hseq : Feeds P gf lb encs S xs w) (hps : ∀ x, (encs x).size = ps.size) (hS : ∀ k, S k → k < w.heap.size)
    (I : List α → World → Prop) (hI : Stable w.heap.size I) (h0 : I [] w)
    (Ax : Nat → α → Act → World → Prop) (hAx : ∀ l x a' W W', Ax l x a' W → OnlyAt l W W' → Ax l x a' W')
    (hassign : ∀ m l pre x W (K : Act → World → Prop), w.heap.size ≤ l → l < W.heap.size → pre ++ [x] <+: xs → I pre W → (∀ a' W', But S W W' → I pre W' → Ax l x a' W' → K a' W') →
      assign.wpIn (Fence.wide.inRound l) m P (Exit.then K (fun _ _ _ => False)) { tmps := (ps.zip (encs x)).foldl (fun t (p, v) => t.setIfInBounds p v) a.tmps, defers := [] } W)
    (hbody : ∀ m l pre x a' W, w.heap.size ≤ l → (∃ r, W.heap[l]? = some (.loop r)) → pre ++ [x] <+: xs → I pre W → Ax l x a' W → body.wpIn (Fence.wide.inRound l) m P (fun e _ W3 => e = .normal ∧ But S W W3 ∧ I (pre ++ [x]) W3) a' W)
    (hdone : ∀ D W, w.heap.size ≤ D → I xs W → W.heap[D]? = some (.deferred (some [])) → Q .normal { a with defers := { target := .collected D, args := #[] } :: a.defers } W) :
    (Code.rangeFunc g ps assign body).wpIn Fence.wide n P Q a w := by
  refine wpIn_rangeFunc fun fn hfn => ?_
  obtain ⟨r, hr⟩ : ∃ r : Loop, r = { state := .ready, pending := none, fn, tmps := a.tmps, params := ps, assign, body, defers := w.heap.size } := ⟨_, rfl⟩
  obtain ⟨W1, hW1⟩ : ∃ W1, (w.alloc (.deferred (some []))).alloc (.loop r) = W1 := ⟨_, rfl⟩
  have z1 : W1.heap.size = w.heap.size + 1 + 1 := by rw [← hW1]; simp
  have hb1 : Below w.heap.size w W1 := by rw [← hW1]; exact ((Below.refl _ w).alloc (Nat.le_refl _) _).alloc (by simp) _
  have hl1 : W1.heap[w.heap.size + 1]? = some (.loop r) := by
    have := World.alloc_heap_new (w.alloc (.deferred (some []))) (.loop r)
    rw [World.size_alloc, hW1] at this
    exact this
  have hd1 : W1.heap[w.heap.size]? = some (.deferred (some [])) := by
    rw [← hW1]; exact (Below.heap_alloc _ _ _ (by simp)).trans (World.alloc_heap_new w _)
  refine ⟨w.heap.size + 1, [{ target := .collected w.heap.size, args := #[] }], W1, { target := .fn (.func gf) lb, args := #[.func (.yield (w.heap.size + 1)) #[] #[]] }, W1, gf,
    #[.func (.yield (w.heap.size + 1)) #[] #[]] ++ lb, W1, ?_, ?_, fun _ _ => trivial, ?_, (fun h => by cases h), ?_⟩
  · rw [← hW1, hr]; exact run_enterLoop_outer _ _ _ _ _
  · simp only [resolve, hg]
    simp [go_sem]
  · simp [invoke, go_sem, eg]
  · refine callsIn_wide.2 ((hseq (w.heap.size + 1) (fun pre W => I pre W ∧ W.heap[w.heap.size + 1]? = some (.loop r) ∧ W.heap[w.heap.size]? = some (.deferred (some []))) W1 hb1 ?_ ?_ ⟨hI _ _ _ h0 hb1, hl1, hd1⟩).mono ?_)
    · rintro s W W' ⟨h1, h2, h3⟩ hb
      exact ⟨hI _ _ _ h1 (hb.mono (by omega)), (hb.block _ (by omega)).trans h2, (hb.block _ (by omega)).trans h3⟩
    · rintro pre x W hp ⟨h1, h2, h3⟩ m
      have hns : ∀ k, w.heap.size ≤ k → ¬ S k := fun k hk hs => absurd (hS k hs) (by omega)
      have hy := run_yield (P := P) (args := encs x) h2 (by rw [hr]; exact hps x)
      have lW : w.heap.size + 1 < W.heap.size := (Array.getElem?_eq_some_iff.1 h2).1
      have hround := one_round (P := P) (m := m) (fn := fn) (r := r) (l := w.heap.size + 1) (S := S) (W := W) (assign := assign) (body := body) (tmps := (ps.zip (encs x)).foldl (fun t (p, v) => t.setIfInBounds p v) a.tmps) (I0 := I pre) (I1 := I (pre ++ [x])) (Ax (w.heap.size + 1) x)
        (by rw [hr]) (by rw [hr]) h2 (hns _ (by omega)) (fun W W' h ho => hI _ _ _ h (ho.below (by omega))) (fun W W' h ho => hI _ _ _ h (ho.below (by omega))) (fun a' W W' h ho => hAx _ _ _ _ _ h ho)
        (fun K hK => hassign m _ pre x W K (by omega) lW hp h1 hK) (fun a' W hr' h hx => hbody m _ pre x a' W (by omega) hr' hp h hx)
      refine ⟨fn, _, assign, body, by rw [hy, hr], hround.mono ?_⟩
      rintro e W' ⟨rfl, i1, l1, b1⟩
      exact ⟨rfl, ⟨i1, l1, (b1.block _ (by omega) (hns _ (by omega))).trans h3⟩, b1⟩
    · rintro e W2 ⟨⟨v, rfl⟩, h1, h2, h3⟩
      exact ⟨none, _, by have := run_endLoop (P := P) h2 (by rw [hr]; simp); rw [hr] at this; exact this, hdone _ _ (Nat.le_refl _) (hI _ _ _ h1 ((OnlyAt.put _ _ _).below (by omega))) ((World.putObj_heap_other (by omega)).trans h3)⟩
theorem feed_in {α : Type} {P : Program} {n : Nat} {g : Operand} {ps : Array Tmp} {assign body : Code} {Q : Exit → Act → World → Prop} {a : Act} {w : World} {l₀ : Nat} (hl₀ : ∃ r, w.heap[l₀]? = some (.loop r)) {gf : Nat} {lb : Array Value}
    (hg : a.eval g = .func (.func gf) #[] lb) (eg : ∀ args w, (callFunc gf args).run P w = .ok (.enter gf args) w) {encs : α → Array Value} {S : Nat → Prop} {xs : List α}
    (hseq : Feeds P gf lb encs S xs w) (hps : ∀ x, (encs x).size = ps.size) (hS : ∀ k, S k → k < w.heap.size)
    (I : List α → World → Prop) (hI : Stable w.heap.size I) (h0 : I [] w)
    (Ax : Nat → α → Act → World → Prop) (hAx : ∀ l x a' W W', Ax l x a' W → OnlyAt l W W' → Ax l x a' W')
    (hassign : ∀ m l pre x W (K : Act → World → Prop), w.heap.size ≤ l → l < W.heap.size → pre ++ [x] <+: xs → I pre W → (∀ a' W', But S W W' → I pre W' → Ax l x a' W' → K a' W') →
      assign.wpIn (Fence.wide.inRound l) m P (Exit.then K (fun _ _ _ => False)) { tmps := (ps.zip (encs x)).foldl (fun t (p, v) => t.setIfInBounds p v) a.tmps, defers := [] } W)
    (hbody : ∀ m l pre x a' W, w.heap.size ≤ l → (∃ r, W.heap[l]? = some (.loop r)) → pre ++ [x] <+: xs → I pre W → Ax l x a' W → body.wpIn (Fence.wide.inRound l) m P (fun e _ W3 => e = .normal ∧ But S W W3 ∧ I (pre ++ [x]) W3) a' W)
    (hdone : ∀ W, I xs W → Q .normal a W) :
    (Code.rangeFunc g ps assign body).wpIn (Fence.wide.inRound l₀) n P Q a w := by
  obtain ⟨r₀, hr₀⟩ := hl₀
  refine wpIn_rangeFunc fun fn hfn => ?_
  obtain ⟨r, hr⟩ : ∃ r : Loop, r = { state := .ready, pending := none, fn, tmps := a.tmps, params := ps, assign, body, defers := r₀.defers } := ⟨_, rfl⟩
  obtain ⟨W1, hW1⟩ : ∃ W1, w.alloc (.loop r) = W1 := ⟨_, rfl⟩
  have z1 : W1.heap.size = w.heap.size + 1 := by rw [← hW1]; simp
  have hb1 : Below w.heap.size w W1 := by rw [← hW1]; exact (Below.refl _ w).alloc (Nat.le_refl _) _
  have hl1 : W1.heap[w.heap.size]? = some (.loop r) := by rw [← hW1]; exact World.alloc_heap_new w _
  refine ⟨w.heap.size, [], W1, { target := .fn (.func gf) lb, args := #[.func (.yield w.heap.size) #[] #[]] }, W1, gf,
    #[.func (.yield w.heap.size) #[] #[]] ++ lb, W1, ?_, ?_, fun _ _ => trivial, ?_, (fun h => by cases h), ?_⟩
  · rw [← hW1, hr]; exact run_enterLoop_inner hr₀ _ _ _ _ _
  · simp only [resolve, hg]
    simp [go_sem]
  · simp [invoke, go_sem, eg]
  · refine CallsIn.inRound l₀ (callsIn_wide.2 ((hseq w.heap.size (fun pre W => I pre W ∧ W.heap[w.heap.size]? = some (.loop r)) W1 hb1 ?_ ?_ ⟨hI _ _ _ h0 hb1, hl1⟩).mono ?_))
    · rintro s W W' ⟨h1, h2⟩ hb
      exact ⟨hI _ _ _ h1 (hb.mono (by omega)), (hb.block _ (by omega)).trans h2⟩
    · rintro pre x W hp ⟨h1, h2⟩ m
      have hns : ∀ k, w.heap.size ≤ k → ¬ S k := fun k hk hs => absurd (hS k hs) (by omega)
      have hy := run_yield (P := P) (args := encs x) h2 (by rw [hr]; exact hps x)
      have lW : w.heap.size < W.heap.size := (Array.getElem?_eq_some_iff.1 h2).1
      have hround := one_round (P := P) (m := m) (fn := fn) (r := r) (l := w.heap.size) (S := S) (W := W) (assign := assign) (body := body) (tmps := (ps.zip (encs x)).foldl (fun t (p, v) => t.setIfInBounds p v) a.tmps) (I0 := I pre) (I1 := I (pre ++ [x])) (Ax w.heap.size x)
        (by rw [hr]) (by rw [hr]) h2 (hns _ (by omega)) (fun W W' h ho => hI _ _ _ h (ho.below (by omega))) (fun W W' h ho => hI _ _ _ h (ho.below (by omega))) (fun a' W W' h ho => hAx _ _ _ _ _ h ho)
        (fun K hK => hassign m _ pre x W K (by omega) lW hp h1 hK) (fun a' W hr' h hx => hbody m _ pre x a' W (by omega) hr' hp h hx)
      refine ⟨fn, _, assign, body, by rw [hy, hr], hround.mono ?_⟩
      rintro e W' ⟨rfl, i1, l1, b1⟩
      exact ⟨rfl, ⟨i1, l1⟩, b1⟩
    · rintro e W2 ⟨⟨v, rfl⟩, h1, h2⟩
      exact ⟨none, _, by have := run_endLoop (P := P) h2 (by rw [hr]; simp); rw [hr] at this; exact this, hdone _ (hI _ _ _ h1 ((OnlyAt.put _ _ _).below (by omega)))⟩
end Go.Proofs.YteafnkimcidkhaaGreat

namespace Go.Proofs.YteafnkimcidkhaaGreat
def endsL (l : List (Bool × Int × Int)) : List Int := l.flatMap fun s => if s.1 then [] else [s.2.1, s.2.2]
theorem endsL_snoc (l : List (Bool × Int × Int)) (j : Nat) (s : Bool × Int × Int) (h : l[j]? = some s) : endsL (l.take (j + 1)) = endsL (l.take j) ++ if s.1 then [] else [s.2.1, s.2.2] := by
  have hj := (List.getElem?_eq_some_iff.1 h)
  obtain ⟨h1, h2⟩ := hj
  rw [List.take_succ_eq_append_getElem h1, h2]
  unfold endsL
  rw [List.flatMap_append]
  simp
theorem endsL_take (l : List (Bool × Int × Int)) (j : Nat) : endsL (l.take j) <+: endsL l := by
  unfold endsL
  exact ⟨(l.drop j).flatMap _, by rw [← List.flatMap_append, List.take_append_drop]⟩
def withL (ls : List (Bool × Int × Int)) (xs : List Int) : List (Int × Int) := xs.flatMap fun x => (endsL ls).map fun y => (x, y)
def pairsL (a : Bool × Int × Int) (ls : List (Bool × Int × Int)) : List (Int × Int) := withL ls (endsL [a])
theorem withL_snoc (ls : List (Bool × Int × Int)) (pre : List Int) (x : Int) : withL ls (pre ++ [x]) = withL ls pre ++ (endsL ls).map fun y => (x, y) := by
  unfold withL; rw [List.flatMap_append]; simp
theorem withL_pre (ls : List (Bool × Int × Int)) {pre xs : List Int} (h : pre <+: xs) : withL ls pre <+: withL ls xs := by
  obtain ⟨t, rfl⟩ := h
  unfold withL; rw [List.flatMap_append]; exact ⟨_, rfl⟩
theorem withL_mid (ls : List (Bool × Int × Int)) {pre xs : List Int} {x : Int} (h : pre ++ [x] <+: xs) {pre' : List Int} {y : Int} (h' : pre' ++ [y] <+: endsL ls) : (withL ls pre ++ pre'.map fun y => (x, y)) ++ [(x, y)] <+: withL ls xs := by
  refine List.IsPrefix.trans ?_ (withL_pre ls h)
  rw [withL_snoc]
  obtain ⟨t, ht⟩ := h'
  exact ⟨t.map fun y => (x, y), by rw [← ht]; simp⟩
end Go.Proofs.YteafnkimcidkhaaGreat

namespace Go.Proofs.YteafnkimcidkhaaGreat
open Go.RowKit
set_option linter.unusedVariables false
set_option linter.unusedSimpArgs false
def meetP (A : Ways) (p q : Bool × Int × Int) : Bool × Int × Int := if p.1 || q.1 || decide (0 < A.ord (grt A p.2.1 q.2.1) (sml A p.2.2 q.2.2)) then (true, 0, 0) else (false, grt A p.2.1 q.2.1, sml A p.2.2 q.2.2)
theorem grt_dom {A : Ways} {x y : Int} (hx : A.dom x) (hy : A.dom y) : A.dom (grt A x y) := by unfold grt; split <;> assumption
theorem sml_dom {A : Ways} {x y : Int} (hx : A.dom x) (hy : A.dom y) : A.dom (sml A x y) := by unfold sml; split <;> assumption
end Go.Proofs.YteafnkimcidkhaaGreat

namespace Go.Proofs.YteafnkimcidkhaaGreat
open Go.RowKit
set_option linter.unusedVariables false
set_option linter.unusedSimpArgs false
theorem lw_at {W : World} {b : Nat} {t : TypeId} {z : Nat × Nat} {c : Array Value} (q : W.heap[b]? = some (.cells c t z)) (j : Nat) (v : Value) : (W.setCell ⟨b, j, none⟩ v).heap[b]? = some (.cells (c.setIfInBounds j v) t z) := by
  simp [World.setCell, Array.getElem?_modify, q]
def set5 (W : World) (b : Nat) (x0 x1 x2 x3 x4 : Value) : World := ((((W.setCell ⟨b, 0, none⟩ x0).setCell ⟨b, 1, none⟩ x1).setCell ⟨b, 2, none⟩ x2).setCell ⟨b, 3, none⟩ x3).setCell ⟨b, 4, none⟩ x4
theorem lw_set5 {W : World} {b : Nat} {t : TypeId} {z : Nat × Nat} {y0 y1 y2 y3 y4 : Value} (q : W.heap[b]? = some (.cells #[y0, y1, y2, y3, y4] t z)) (x0 x1 x2 x3 x4 : Value) : (set5 W b x0 x1 x2 x3 x4).heap[b]? = some (.cells #[x0, x1, x2, x3, x4] t z) := by
  have h := (lw_at (lw_at (lw_at (lw_at (lw_at q 0 x0) 1 x1) 2 x2) 3 x3) 4 x4)
  simpa [set5] using h
theorem lw_on {X v : World} {b : Nat} {o : Obj} (g : Below X.heap.size X v) (q : X.heap[b]? = some o) : v.heap[b]? = some o := (g.block b (Array.getElem?_eq_some_iff.1 q).1).trans q
theorem lw_cells5 {v : World} {b : Nat} {t : TypeId} {x0 x1 x2 x3 x4 : Value} (q : v.heap[b]? = some (.cells #[x0, x1, x2, x3, x4] t (0, 0))) : v.cell? ⟨b, 0, none⟩ = some x0 ∧ v.cell? ⟨b, 1, none⟩ = some x1 ∧ v.cell? ⟨b, 2, none⟩ = some x2 ∧ v.cell? ⟨b, 3, none⟩ = some x3 ∧ v.cell? ⟨b, 4, none⟩ = some x4 ∧ ∀ j, v.frozen? ⟨b, j, none⟩ = false :=
  ⟨by simp [World.cell?, q], by simp [World.cell?, q], by simp [World.cell?, q], by simp [World.cell?, q], by simp [World.cell?, q], fun j => by simp [World.frozen?, q]⟩
theorem lw_sp5 {w W : World} (h : Below w.heap.size w W) {b : Nat} (hb : w.heap.size ≤ b) (x0 x1 x2 x3 x4 : Value) : Below w.heap.size w (set5 W b x0 x1 x2 x3 x4) :=
  ((((h.setCell (p := ⟨b, 0, none⟩) hb x0).setCell (p := ⟨b, 1, none⟩) hb x1).setCell (p := ⟨b, 2, none⟩) hb x2).setCell (p := ⟨b, 3, none⟩) hb x3).setCell (p := ⟨b, 4, none⟩) hb x4
end Go.Proofs.YteafnkimcidkhaaGreat

namespace Go.Proofs.YteafnkimcidkhaaGreat
open Go.RowKit Go.Shelf
set_option linter.unusedVariables false
set_option linter.unusedSimpArgs false
attribute [local go_sem] Oper.semAt_some
set_option maxRecDepth 100000 in
set_option maxHeartbeats 2000000 in
theorem ends1_f (l Bl b cap : Nat) (ls : List (Bool × Int × Int)) (hlen : ls.length ≤ 1000) (S : Nat → Prop) (W : World) (hBl : ¬ S Bl) (hb : ¬ S b) (hS : ∀ k, S k → k < W.heap.size) (J : List Int → World → Prop)
    (hY : ∀ pre x W1, pre ++ [x] <+: endsL ls → J pre W1 → ∀ m, YieldAt Fence.wide m Tryz.prog l #[.int .u64 x] W1 fun e W' => e = .returned (.bool true) ∧ J (pre ++ [x]) W' ∧ But S W1 W')
    (st : Stable W.heap.size J) (hc : W.cell? ⟨Bl, 0, none⟩ = some (.slice (some ⟨b, 0, none⟩) ls.length cap)) (hr : SRowf W b ls) (h0 : J [] W) :
    Calls Tryz.prog 211 #[.func (.yield l) #[] #[], .pointer (some ⟨Bl, 0, none⟩)] W fun e W' => (∃ v, e = .returned v) ∧ J (endsL ls) W' := by
  refine (callsIn_wide (n := 3)).1 ?_
  refine callsIn_of_wp Tryz.func211 rfl trivial ?_ rfl
  simp only [Tryz.ntmps211, List.size_toArray, List.length_cons, List.length_nil, Nat.reduceAdd, Nat.reduceSub, Array.replicate_succ, Array.replicate_zero, List.push_toArray, List.append_toArray, List.nil_append, List.cons_append]
  gi_wp2
  gi_loopw [7] (fun i wr => ∃ j : Nat, i = .int .i64 j ∧ j ≤ ls.length ∧ J (endsL (ls.take j)) wr ∧ But S W wr) (fun i _ => ls.length - (intOf i).toNat)
  case atStart => exact ⟨0, rfl, Nat.zero_le _, by simpa [endsL] using h0, But.refl _ _⟩
  case round =>
    obtain ⟨j, rfl, hj, hJ, hB⟩ := hrel
    by_cases c : j < ls.length
    · obtain ⟨⟨e, lo, hi⟩, he⟩ : ∃ s, ls[j]? = some s := ⟨_, List.getElem?_eq_getElem c⟩
      obtain ⟨y1, y2, y3⟩ := (hr.but hB hb) j _ he
      have ci : (j : Int) < (ls.length : Int) := by omega
      have hsn := endsL_snoc ls j (e, lo, hi) he
      have hpr := endsL_take ls (j + 1)
      clear hr hc
      cases e
      · simp only [Bool.false_eq_true, if_false] at hsn
        have p1 : endsL (ls.take j) ++ [lo] <+: endsL ls := by obtain ⟨tl, htl⟩ := hpr; rw [hsn] at htl; exact ⟨[hi] ++ tl, by simpa using htl⟩
        have p2 : endsL (ls.take j) ++ [lo] ++ [hi] <+: endsL ls := by obtain ⟨tl, htl⟩ := hpr; rw [hsn] at htl; exact ⟨tl, by simpa using htl⟩
        have HS : Hid _ := hsn
        clear hsn
        have lW := hB.size
        have hJ1 := st _ _ (wr.alloc (.cells #[.bool false, .int .u64 lo, .int .u64 hi] 126)) hJ ((Below.refl _ _).alloc lW _)
        obtain ⟨fn1, t1, as1, bo1, hy1, hR1⟩ := hY _ lo _ p1 hJ1 2
        gi_wp2
        refine hR1.mono ?_
        rintro e W3 ⟨rfl, hJ3, hB3⟩
        have nS : ¬ S wr.heap.size := fun h => absurd (hS _ h) (by omega)
        have y6 : W3.cell? ⟨wr.heap.size, 2, none⟩ = some (.int .u64 hi) := hB3.cell nS (by simp [go_sem])
        obtain ⟨fn2, t2, as2, bo2, hy2, hR2⟩ := hY _ hi W3 p2 hJ3 2
        clear hy1 hR1 y1 y2 y3
        gi_wp2
        refine hR2.mono ?_
        rintro e W4 ⟨rfl, hJ4, hB4⟩
        gi_wp2
        go_roundw
        case rel => exact ⟨j + 1, by simp, by omega, by rw [HS.out]; simpa using hJ4, ((hB.alloc _).trans hB3).trans hB4⟩
        case measure => simp [intOf]; omega
      · simp only [if_true, List.append_nil] at hsn
        have lW := hB.size
        gi_wp2
        go_roundw
        case rel => exact ⟨j + 1, by simp, by omega, by rw [hsn]; exact st _ _ _ hJ ((Below.refl _ _).alloc lW _), hB.alloc _⟩
        case measure => simp [intOf]; omega
    · have ci : ¬ (j : Int) < (ls.length : Int) := by omega
      obtain rfl : j = ls.length := by omega
      gi_wp2
      go_end0
      rw [List.take_of_length_le (Nat.le_refl _)] at hJ
      exact ⟨⟨_, rfl⟩, hJ⟩
set_option maxHeartbeats 1000000 in
theorem ends_f (v : Value) (hv : ∃ b n cap, v = .slice (some ⟨b, 0, none⟩) n cap) (w : World) : Calls Tryz.prog 208 #[v] w fun e w' => e = .returned (.func (.func 211) #[] #[.pointer (some ⟨w.heap.size, 0, none⟩)]) ∧ w' = w.alloc (.cells #[v] 211) := by
  obtain ⟨b, n, cap, rfl⟩ := hv
  go_enter Tryz.func208, Tryz.ntmps208
  go_wp2_with fail
  go_ret
  exact ⟨rfl, rfl⟩
theorem ends_feeds_f (Bl b cap : Nat) (ls : List (Bool × Int × Int)) (hlen : ls.length ≤ 1000) (S : Nat → Prop) (w : World) (hBl : ¬ S Bl) (hb : ¬ S b) (hS : ∀ k, S k → k < w.heap.size)
    (hc : w.cell? ⟨Bl, 0, none⟩ = some (.slice (some ⟨b, 0, none⟩) ls.length cap)) (hr : SRowf w b ls) :
    Feeds Tryz.prog 211 #[.pointer (some ⟨Bl, 0, none⟩)] (fun x : Int => #[Value.int .u64 x]) S (endsL ls) w := fun l J W hW st hY h0 =>
  ends1_f l Bl b cap ls hlen S W hBl hb (fun k hk => Nat.lt_of_lt_of_le (hS k hk) hW.size) J hY st ((But.of (S := S) hW).cell hBl hc) (hr.but (But.of (S := S) hW) hb) h0
end Go.Proofs.YteafnkimcidkhaaGreat

namespace Go.Proofs.YteafnkimcidkhaaGreat
open Go.RowKit
set_option linter.unusedVariables false
set_option linter.unusedSimpArgs false
set_option maxRecDepth 100000 in
set_option maxHeartbeats 1600000 in
theorem greater_f {L : Ln} {A : Ways} {B : Nat} {w0 : World} (H : Actsf L A B w0) (x y : Int) (dx : A.dom x) (dy : A.dom y) (w : World) (ok : Below B w0 w) :
    Calls Tryz.prog 205 #[.agg (lvf L), .int .u64 x, .int .u64 y] w fun e w' => e = .returned (.int .u64 (if 0 < A.ord y x then y else x)) ∧ Below w.heap.size w w' := by
  have ho := H.ord y x (w.alloc (.cells (lvf L) 134)) dy dx (ok_new H.hB ok _)
  have eo := H.eo
  unfold lvf at *
  by_cases c : 0 < A.ord y x
  all_goals
    generalize A.ord y x = c0 at *
    simp only [c, if_true, if_false]
    go_enter Tryz.func205, Tryz.ntmps205
    go_wp2_with (go_at_fn L.ko; refine ho.mono ?_; rintro e w1 ⟨rfl, b1⟩)
    go_ret
    exact ⟨rfl, sp_call (sp_new (Below.refl _ _) _) b1⟩
set_option maxRecDepth 100000 in
set_option maxHeartbeats 1600000 in
theorem smaller_f {L : Ln} {A : Ways} {B : Nat} {w0 : World} (H : Actsf L A B w0) (x y : Int) (dx : A.dom x) (dy : A.dom y) (w : World) (ok : Below B w0 w) :
    Calls Tryz.prog 206 #[.agg (lvf L), .int .u64 x, .int .u64 y] w fun e w' => e = .returned (.int .u64 (if A.ord y x < 0 then y else x)) ∧ Below w.heap.size w w' := by
  have ho := H.ord y x (w.alloc (.cells (lvf L) 134)) dy dx (ok_new H.hB ok _)
  have eo := H.eo
  unfold lvf at *
  by_cases c : A.ord y x < 0
  all_goals
    generalize A.ord y x = c0 at *
    simp only [c, if_true, if_false]
    go_enter Tryz.func206, Tryz.ntmps206
    go_wp2_with (go_at_fn L.ko; refine ho.mono ?_; rintro e w1 ⟨rfl, b1⟩)
    go_ret
    exact ⟨rfl, sp_call (sp_new (Below.refl _ _) _) b1⟩
end Go.Proofs.YteafnkimcidkhaaGreat

namespace Go.Proofs.YteafnkimcidkhaaGreat
open Go.RowKit
set_option linter.unusedVariables false
set_option linter.unusedSimpArgs false
set_option maxRecDepth 100000 in
set_option maxHeartbeats 1600000 in
theorem all_f (L : Ln) (w : World) : Calls Tryz.prog 193 #[.agg (lvf L)] w fun e w' => e = .returned (.agg #[.bool false, .int .u64 L.least, .int .u64 L.most]) ∧ Below w.heap.size w w' := by
  unfold lvf
  go_enter Tryz.func193, Tryz.ntmps193
  go_wp2_with fail
  refine bodyPost_ret (v := .agg #[.bool false, .int .u64 L.least, .int .u64 L.most]) (by simp [results, Tryz.results193, go_sem]) rfl ?_
  exact ⟨rfl, sp_new (sp_new (Below.refl _ _) _) _⟩
def mVf (A : Ways) (p q : Bool × Int × Int) : Array Value := #[.bool (meetP A p q).1, .int .u64 (meetP A p q).2.1, .int .u64 (meetP A p q).2.2]
set_option maxRecDepth 100000 in
set_option maxHeartbeats 3200000 in
theorem meet_f {L : Ln} {A : Ways} {B : Nat} {w0 : World} (H : Actsf L A B w0) (e1 e2 : Bool) (a b c d : Int) (da : A.dom a) (db : A.dom b) (dc : A.dom c) (dd : A.dom d) (w : World) (ok : Below B w0 w) :
    Calls Tryz.prog 189 #[.agg (lvf L), .agg #[.bool e1, .int .u64 a, .int .u64 b], .agg #[.bool e2, .int .u64 c, .int .u64 d]] w fun e w' => e = .returned (.agg (mVf A (e1, a, b) (e2, c, d))) ∧ Below w.heap.size w w' := by
  have h1 := greater_f H a c da dc
  have h2 := smaller_f H b d db dd
  have h3 := none_f
  have hB := H.hB
  have eo := H.eo
  have ho := fun V => H.ord (grt A a c) (sml A b d) V (grt_dom da dc) (sml_dom db dd)
  obtain ⟨R, HR⟩ : ∃ R, Hid (R = mVf A (e1, a, b) (e2, c, d)) := ⟨_, rfl⟩
  rw [← HR.out]
  replace HR := HR.out
  unfold mVf meetP at HR
  have e1' : (if 0 < A.ord c a then c else a) = grt A a c := rfl
  have e2' : (if A.ord d b < 0 then d else b) = sml A b d := rfl
  rw [e1'] at h1
  rw [e2'] at h2
  clear e1' e2' H
  simp only at HR
  generalize grt A a c = lo at *
  generalize sml A b d = hi at *
  generalize A.ord lo hi = o at *
  replace HR : Hid _ := HR
  unfold lvf at *
  go_enter Tryz.func189, Tryz.ntmps189
  go_wp2_with fail
  obtain ⟨W, hW⟩ : ∃ W, (((w.alloc (.cells #[.int .u64 L.least, .int .u64 L.most, .int .i64 L.past, .func (.func L.ko) #[] L.co, .func (.func L.kp) #[] L.cp, .func (.func L.k1) #[] L.c1, .func (.func L.kv) #[] L.cv, .func (.func L.kn) #[] L.cn, .func (.func L.ku) #[] L.cu, .func (.func L.kt) #[] L.ct, .func (.func L.kz) #[] L.cz] 134)).alloc (.cells #[.bool e1, .int .u64 a, .int .u64 b] 126)).alloc (.cells #[.bool e2, .int .u64 c, .int .u64 d] 126)).alloc (.cells #[.bool false, .int .u64 0, .int .u64 0] 126) = W := ⟨_, rfl⟩
  have l0 : W.cell? ⟨w.heap.size, 0, none⟩ = some (.int .u64 L.least) := by rw [← hW]; simp [go_sem]
  have l1 : W.cell? ⟨w.heap.size, 1, none⟩ = some (.int .u64 L.most) := by rw [← hW]; simp [go_sem]
  have l2 : W.cell? ⟨w.heap.size, 2, none⟩ = some (.int .i64 L.past) := by rw [← hW]; simp [go_sem]
  have l3 : W.cell? ⟨w.heap.size, 3, none⟩ = some (.func (.func L.ko) #[] L.co) := by rw [← hW]; simp [go_sem]
  have l4 : W.cell? ⟨w.heap.size, 4, none⟩ = some (.func (.func L.kp) #[] L.cp) := by rw [← hW]; simp [go_sem]
  have l5 : W.cell? ⟨w.heap.size, 5, none⟩ = some (.func (.func L.k1) #[] L.c1) := by rw [← hW]; simp [go_sem]
  have l6 : W.cell? ⟨w.heap.size, 6, none⟩ = some (.func (.func L.kv) #[] L.cv) := by rw [← hW]; simp [go_sem]
  have l7 : W.cell? ⟨w.heap.size, 7, none⟩ = some (.func (.func L.kn) #[] L.cn) := by rw [← hW]; simp [go_sem]
  have l8 : W.cell? ⟨w.heap.size, 8, none⟩ = some (.func (.func L.ku) #[] L.cu) := by rw [← hW]; simp [go_sem]
  have l9 : W.cell? ⟨w.heap.size, 9, none⟩ = some (.func (.func L.kt) #[] L.ct) := by rw [← hW]; simp [go_sem]
  have l10 : W.cell? ⟨w.heap.size, 10, none⟩ = some (.func (.func L.kz) #[] L.cz) := by rw [← hW]; simp [go_sem]
  have a0 : W.cell? ⟨w.heap.size + 1, 0, none⟩ = some (.bool e1) := by rw [← hW]; simp [go_sem]
  have a1 : W.cell? ⟨w.heap.size + 1, 1, none⟩ = some (.int .u64 a) := by rw [← hW]; simp [go_sem]
  have a2 : W.cell? ⟨w.heap.size + 1, 2, none⟩ = some (.int .u64 b) := by rw [← hW]; simp [go_sem]
  have b0 : W.cell? ⟨w.heap.size + 1 + 1, 0, none⟩ = some (.bool e2) := by rw [← hW]; simp [go_sem]
  have b1 : W.cell? ⟨w.heap.size + 1 + 1, 1, none⟩ = some (.int .u64 c) := by rw [← hW]; simp [go_sem]
  have b2 : W.cell? ⟨w.heap.size + 1 + 1, 2, none⟩ = some (.int .u64 d) := by rw [← hW]; simp [go_sem]
  have okW : Below B w0 W := by rw [← hW]; exact ok_new hB (ok_new hB (ok_new hB (ok_new hB ok _) _) _) _
  have bW : Below w.heap.size w W := by rw [← hW]; exact sp_new (sp_new (sp_new (sp_new (Below.refl _ _) _) _) _) _
  have zW : W.heap.size = w.heap.size + 4 := by rw [← hW]; simp
  have r0 : W.cell? ⟨w.heap.size + 1 + 1 + 1, 0, none⟩ = some (.bool false) := by rw [← hW]; simp [go_sem]
  have r1 : W.cell? ⟨w.heap.size + 1 + 1 + 1, 1, none⟩ = some (.int .u64 0) := by rw [← hW]; simp [go_sem]
  have r2 : W.cell? ⟨w.heap.size + 1 + 1 + 1, 2, none⟩ = some (.int .u64 0) := by rw [← hW]; simp [go_sem]
  have fz : ∀ j, W.frozen? ⟨w.heap.size + 1 + 1 + 1, j, none⟩ = false := by intro j; rw [← hW]; simp [go_sem]
  rw [hW]
  clear hW
  go_region_held3 (fun w' => w'.cell? ⟨w.heap.size, 0, none⟩ = some (.int .u64 L.least) ∧ w'.cell? ⟨w.heap.size, 1, none⟩ = some (.int .u64 L.most) ∧ w'.cell? ⟨w.heap.size, 2, none⟩ = some (.int .i64 L.past) ∧ w'.cell? ⟨w.heap.size, 3, none⟩ = some (.func (.func L.ko) #[] L.co) ∧ w'.cell? ⟨w.heap.size, 4, none⟩ = some (.func (.func L.kp) #[] L.cp) ∧ w'.cell? ⟨w.heap.size, 5, none⟩ = some (.func (.func L.k1) #[] L.c1) ∧ w'.cell? ⟨w.heap.size, 6, none⟩ = some (.func (.func L.kv) #[] L.cv) ∧ w'.cell? ⟨w.heap.size, 7, none⟩ = some (.func (.func L.kn) #[] L.cn) ∧ w'.cell? ⟨w.heap.size, 8, none⟩ = some (.func (.func L.ku) #[] L.cu) ∧ w'.cell? ⟨w.heap.size, 9, none⟩ = some (.func (.func L.kt) #[] L.ct) ∧ w'.cell? ⟨w.heap.size, 10, none⟩ = some (.func (.func L.kz) #[] L.cz) ∧ w'.cell? ⟨w.heap.size + 1, 0, none⟩ = some (.bool e1) ∧ w'.cell? ⟨w.heap.size + 1, 1, none⟩ = some (.int .u64 a) ∧ w'.cell? ⟨w.heap.size + 1, 2, none⟩ = some (.int .u64 b) ∧ w'.cell? ⟨w.heap.size + 1 + 1, 0, none⟩ = some (.bool e2) ∧ w'.cell? ⟨w.heap.size + 1 + 1, 1, none⟩ = some (.int .u64 c) ∧ w'.cell? ⟨w.heap.size + 1 + 1, 2, none⟩ = some (.int .u64 d)) (exact ⟨l0, l1, l2, l3, l4, l5, l6, l7, l8, l9, l10, a0, a1, a2, b0, b1, b2⟩)
    (first
      | (go_at_call 205; refine (h1 _ (by first | exact okW | exact okW.drew)).mono ?_; rintro e w1 ⟨rfl, g1⟩; replace g1 : Below W.heap.size W w1 := ⟨g1.os, g1.tape, g1.output, g1.size, g1.block⟩; replace l0 := sO g1 l0; replace l1 := sO g1 l1; replace l2 := sO g1 l2; replace l3 := sO g1 l3; replace l4 := sO g1 l4; replace l5 := sO g1 l5; replace l6 := sO g1 l6; replace l7 := sO g1 l7; replace l8 := sO g1 l8; replace l9 := sO g1 l9; replace l10 := sO g1 l10; replace a0 := sO g1 a0; replace a1 := sO g1 a1; replace a2 := sO g1 a2; replace b0 := sO g1 b0; replace b1 := sO g1 b1; replace b2 := sO g1 b2; replace okW := ok_call hB okW g1)
      | (go_at_call 206; refine (h2 _ (by first | exact okW | exact okW.drew)).mono ?_; rintro e w2 ⟨rfl, g2⟩; replace g2 : Below w1.heap.size w1 w2 := ⟨g2.os, g2.tape, g2.output, g2.size, g2.block⟩; replace l0 := sO g2 l0; replace l1 := sO g2 l1; replace l2 := sO g2 l2; replace l3 := sO g2 l3; replace l4 := sO g2 l4; replace l5 := sO g2 l5; replace l6 := sO g2 l6; replace l7 := sO g2 l7; replace l8 := sO g2 l8; replace l9 := sO g2 l9; replace l10 := sO g2 l10; replace a0 := sO g2 a0; replace a1 := sO g2 a1; replace a2 := sO g2 a2; replace b0 := sO g2 b0; replace b1 := sO g2 b1; replace b2 := sO g2 b2; replace okW := ok_call hB okW g2)
      | fail)
  have g : Below W.heap.size W w2 := sp_call g1 g2
  replace bW := sp_call bW g
  replace r0 := sO g r0; replace r1 := sO g r1; replace r2 := sO g r2
  replace fz : ∀ j, w2.frozen? ⟨w.heap.size + 1 + 1 + 1, j, none⟩ = false := fun j => (g.frozen (p := ⟨w.heap.size + 1 + 1 + 1, j, none⟩) (by simp; omega)).trans (fz j)
  have z2 := g.size
  clear g g1 g2 h1 h2
  cases e1
  · cases e2
    · by_cases c0 : 0 < o
      · go_wp2_with (first
      | (go_at_fn L.ko; refine (ho _ okW).mono ?_; rintro e w3 ⟨rfl, g3⟩; replace l0 := sO g3 l0; replace l3 := sO g3 l3; replace a0 := sO g3 a0; replace a1 := sO g3 a1; replace a2 := sO g3 a2; replace b0 := sO g3 b0; replace b1 := sO g3 b1; replace b2 := sO g3 b2; replace r0 := sO g3 r0; replace r1 := sO g3 r1; replace r2 := sO g3 r2; replace bW := sp_call bW g3; replace fz : ∀ j, w3.frozen? ⟨w.heap.size + 1 + 1 + 1, j, none⟩ = false := fun j => (g3.frozen (p := ⟨w.heap.size + 1 + 1 + 1, j, none⟩) (by simp; omega)).trans (fz j); have z3 := g3.size; clear g3)
      | (go_at_call 150; refine (h3 _).mono ?_; rintro e w4 ⟨rfl, g4⟩; replace r0 := sO g4 r0; replace r1 := sO g4 r1; replace r2 := sO g4 r2; replace bW := sp_call bW g4; replace fz : ∀ j, w4.frozen? ⟨w.heap.size + 1 + 1 + 1, j, none⟩ = false := fun j => (g4.frozen (p := ⟨w.heap.size + 1 + 1 + 1, j, none⟩) (by simp; omega)).trans (fz j))
      | fail)
        exact bodyPost_ret (v := .agg #[.bool true, .int .u64 0, .int .u64 0]) (by simp [results, Tryz.results189, go_sem, r0, r1, r2]) rfl ⟨by rw [HR.out]; simp [*], sp_set3 bW (by omega) _ _ _⟩
      · go_wp2_with (first
      | (go_at_fn L.ko; refine (ho _ okW).mono ?_; rintro e w3 ⟨rfl, g3⟩; replace l0 := sO g3 l0; replace l3 := sO g3 l3; replace a0 := sO g3 a0; replace a1 := sO g3 a1; replace a2 := sO g3 a2; replace b0 := sO g3 b0; replace b1 := sO g3 b1; replace b2 := sO g3 b2; replace r0 := sO g3 r0; replace r1 := sO g3 r1; replace r2 := sO g3 r2; replace bW := sp_call bW g3; replace fz : ∀ j, w3.frozen? ⟨w.heap.size + 1 + 1 + 1, j, none⟩ = false := fun j => (g3.frozen (p := ⟨w.heap.size + 1 + 1 + 1, j, none⟩) (by simp; omega)).trans (fz j); have z3 := g3.size; clear g3)
      | (go_at_call 150; refine (h3 _).mono ?_; rintro e w4 ⟨rfl, g4⟩; replace r0 := sO g4 r0; replace r1 := sO g4 r1; replace r2 := sO g4 r2; replace bW := sp_call bW g4; replace fz : ∀ j, w4.frozen? ⟨w.heap.size + 1 + 1 + 1, j, none⟩ = false := fun j => (g4.frozen (p := ⟨w.heap.size + 1 + 1 + 1, j, none⟩) (by simp; omega)).trans (fz j))
      | fail)
        exact bodyPost_ret (v := .agg #[.bool false, .int .u64 lo, .int .u64 hi]) (by simp [results, Tryz.results189, go_sem, r0, r1, r2]) rfl ⟨by rw [HR.out]; simp [show ¬ 0 < o by omega], sp_set3 bW (by omega) _ _ _⟩
    · go_wp2_with (first
      | (go_at_fn L.ko; refine (ho _ okW).mono ?_; rintro e w3 ⟨rfl, g3⟩; replace l0 := sO g3 l0; replace l3 := sO g3 l3; replace a0 := sO g3 a0; replace a1 := sO g3 a1; replace a2 := sO g3 a2; replace b0 := sO g3 b0; replace b1 := sO g3 b1; replace b2 := sO g3 b2; replace r0 := sO g3 r0; replace r1 := sO g3 r1; replace r2 := sO g3 r2; replace bW := sp_call bW g3; replace fz : ∀ j, w3.frozen? ⟨w.heap.size + 1 + 1 + 1, j, none⟩ = false := fun j => (g3.frozen (p := ⟨w.heap.size + 1 + 1 + 1, j, none⟩) (by simp; omega)).trans (fz j); have z3 := g3.size; clear g3)
      | (go_at_call 150; refine (h3 _).mono ?_; rintro e w4 ⟨rfl, g4⟩; replace r0 := sO g4 r0; replace r1 := sO g4 r1; replace r2 := sO g4 r2; replace bW := sp_call bW g4; replace fz : ∀ j, w4.frozen? ⟨w.heap.size + 1 + 1 + 1, j, none⟩ = false := fun j => (g4.frozen (p := ⟨w.heap.size + 1 + 1 + 1, j, none⟩) (by simp; omega)).trans (fz j))
      | fail)
      exact bodyPost_ret (v := .agg #[.bool true, .int .u64 0, .int .u64 0]) (by simp [results, Tryz.results189, go_sem, r0, r1, r2]) rfl ⟨by rw [HR.out]; simp [*], sp_set3 bW (by omega) _ _ _⟩
  · go_wp2_with (first
      | (go_at_fn L.ko; refine (ho _ okW).mono ?_; rintro e w3 ⟨rfl, g3⟩; replace l0 := sO g3 l0; replace l3 := sO g3 l3; replace a0 := sO g3 a0; replace a1 := sO g3 a1; replace a2 := sO g3 a2; replace b0 := sO g3 b0; replace b1 := sO g3 b1; replace b2 := sO g3 b2; replace r0 := sO g3 r0; replace r1 := sO g3 r1; replace r2 := sO g3 r2; replace bW := sp_call bW g3; replace fz : ∀ j, w3.frozen? ⟨w.heap.size + 1 + 1 + 1, j, none⟩ = false := fun j => (g3.frozen (p := ⟨w.heap.size + 1 + 1 + 1, j, none⟩) (by simp; omega)).trans (fz j); have z3 := g3.size; clear g3)
      | (go_at_call 150; refine (h3 _).mono ?_; rintro e w4 ⟨rfl, g4⟩; replace r0 := sO g4 r0; replace r1 := sO g4 r1; replace r2 := sO g4 r2; replace bW := sp_call bW g4; replace fz : ∀ j, w4.frozen? ⟨w.heap.size + 1 + 1 + 1, j, none⟩ = false := fun j => (g4.frozen (p := ⟨w.heap.size + 1 + 1 + 1, j, none⟩) (by simp; omega)).trans (fz j))
      | fail)
    exact bodyPost_ret (v := .agg #[.bool true, .int .u64 0, .int .u64 0]) (by simp [results, Tryz.results189, go_sem, r0, r1, r2]) rfl ⟨by rw [HR.out]; simp [*], sp_set3 bW (by omega) _ _ _⟩
end Go.Proofs.YteafnkimcidkhaaGreat

namespace Go.Proofs.YteafnkimcidkhaaGreat
theorem hullP_snoc (A : Ways) (pre : List Int) (x : Int) : hullP A (pre ++ [x]) = joinP A (hullP A pre) (false, A.pl x, A.pl x) := by simp [hullP]
theorem trapP_snoc (A : Ways) (L : Ln) (t : Int) (pre : List Int) (x : Int) : trapP A L t (pre ++ [x]) = if pastP A L x then t else trapP A L t pre := by simp [trapP]
theorem joinP_dom {A : Ways} {p q : Bool × Int × Int} (h1 : A.dom p.2.1) (h2 : A.dom p.2.2) (h3 : A.dom q.2.1) (h4 : A.dom q.2.2) : A.dom (joinP A p q).2.1 ∧ A.dom (joinP A p q).2.2 := by
  unfold joinP
  split
  · exact ⟨h3, h4⟩
  · split
    · exact ⟨h1, h2⟩
    · exact ⟨sml_dom h1 h3, grt_dom h2 h4⟩
theorem hullP_domG {A : Ways} : ∀ (xs : List Int) (p : Bool × Int × Int), A.dom p.2.1 → A.dom p.2.2 → (∀ x ∈ xs, A.dom (A.pl x)) → A.dom (xs.foldl (fun acc x => joinP A acc (false, A.pl x, A.pl x)) p).2.1 ∧ A.dom (xs.foldl (fun acc x => joinP A acc (false, A.pl x, A.pl x)) p).2.2
  | [], p, h1, h2, _ => ⟨h1, h2⟩
  | x :: xs, p, h1, h2, hx => by
    have hj := joinP_dom (q := (false, A.pl x, A.pl x)) h1 h2 (hx x (by simp)) (hx x (by simp))
    exact hullP_domG xs _ hj.1 hj.2 (fun y hy => hx y (by simp [hy]))
theorem hullP_dom {A : Ways} (d0 : A.dom 0) (xs : List Int) (hx : ∀ x ∈ xs, A.dom (A.pl x)) : A.dom (hullP A xs).2.1 ∧ A.dom (hullP A xs).2.2 := hullP_domG xs (true, 0, 0) d0 d0 hx
end Go.Proofs.YteafnkimcidkhaaGreat

namespace Go.Proofs.YteafnkimcidkhaaGreat
def hasP (A : Ways) (p : Bool × Int × Int) (x : Int) : Bool := !p.1 && (A.one (A.pl x) && (decide (A.ord p.2.1 x ≤ 0) && decide (A.ord x p.2.2 ≤ 0)))
def belowP (A : Ways) (L : Ln) (x : Int) : Bool × Int × Int := if A.ord x L.least ≤ 0 then (true, 0, 0) else (false, L.least, A.prv x)
def aboveP (A : Ways) (L : Ln) (x : Int) : Bool × Int × Int := if 0 ≤ A.ord x L.most then (true, 0, 0) else (false, A.nxt x, L.most)
end Go.Proofs.YteafnkimcidkhaaGreat

namespace Go.Proofs.YteafnkimcidkhaaGreat
open Go.RowKit
set_option linter.unusedVariables false
set_option linter.unusedSimpArgs false
set_option maxRecDepth 100000 in
set_option maxHeartbeats 3200000 in
theorem below_f {L : Ln} {A : Ways} {B : Nat} {w0 : World} (H : Actsf L A B w0) (x : Int) (dx : A.dom x) (ox : A.one x = true) (de : A.dom L.least) (w : World) (ok : Below B w0 w) :
    Calls Tryz.prog 190 #[.agg (lvf L), .int .u64 x] w fun e w' => e = .returned (sVf (belowP A L x)) ∧ Below w.heap.size w w' := by
  have h1 := fun V ok => H.ord x L.least V dx de ok
  have h2 := fun V ok => H.prv x V dx ox ok
  have h4 := none_f
  have hB := H.hB
  have eo := H.eo
  have ek := H.ev
  unfold lvf belowP sVf
  clear H
  generalize A.prv x = v at *
  by_cases q : A.ord x L.least ≤ 0
  · rw [if_pos q]
    generalize A.ord x L.least = o at *
    dsimp only
    go_enter Tryz.func190, Tryz.ntmps190
    go_wp2_with fail
    obtain ⟨W, hW⟩ : ∃ W, ((w.alloc (.cells #[.int .u64 L.least, .int .u64 L.most, .int .i64 L.past, .func (.func L.ko) #[] L.co, .func (.func L.kp) #[] L.cp, .func (.func L.k1) #[] L.c1, .func (.func L.kv) #[] L.cv, .func (.func L.kn) #[] L.cn, .func (.func L.ku) #[] L.cu, .func (.func L.kt) #[] L.ct, .func (.func L.kz) #[] L.cz] 134)).alloc (.cells #[.bool false, .int .u64 0, .int .u64 0] 126)) = W := ⟨_, rfl⟩
    have l0 : W.cell? ⟨w.heap.size, 0, none⟩ = some (.int .u64 L.least) := by rw [← hW]; simp [go_sem]
    have l1 : W.cell? ⟨w.heap.size, 1, none⟩ = some (.int .u64 L.most) := by rw [← hW]; simp [go_sem]
    have l2 : W.cell? ⟨w.heap.size, 2, none⟩ = some (.int .i64 L.past) := by rw [← hW]; simp [go_sem]
    have l3 : W.cell? ⟨w.heap.size, 3, none⟩ = some (.func (.func L.ko) #[] L.co) := by rw [← hW]; simp [go_sem]
    have l4 : W.cell? ⟨w.heap.size, 4, none⟩ = some (.func (.func L.kp) #[] L.cp) := by rw [← hW]; simp [go_sem]
    have l5 : W.cell? ⟨w.heap.size, 5, none⟩ = some (.func (.func L.k1) #[] L.c1) := by rw [← hW]; simp [go_sem]
    have l6 : W.cell? ⟨w.heap.size, 6, none⟩ = some (.func (.func L.kv) #[] L.cv) := by rw [← hW]; simp [go_sem]
    have l7 : W.cell? ⟨w.heap.size, 7, none⟩ = some (.func (.func L.kn) #[] L.cn) := by rw [← hW]; simp [go_sem]
    have l8 : W.cell? ⟨w.heap.size, 8, none⟩ = some (.func (.func L.ku) #[] L.cu) := by rw [← hW]; simp [go_sem]
    have l9 : W.cell? ⟨w.heap.size, 9, none⟩ = some (.func (.func L.kt) #[] L.ct) := by rw [← hW]; simp [go_sem]
    have l10 : W.cell? ⟨w.heap.size, 10, none⟩ = some (.func (.func L.kz) #[] L.cz) := by rw [← hW]; simp [go_sem]
    have r0 : W.cell? ⟨w.heap.size + 1, 0, none⟩ = some (.bool false) := by rw [← hW]; simp [go_sem]
    have r1 : W.cell? ⟨w.heap.size + 1, 1, none⟩ = some (.int .u64 0) := by rw [← hW]; simp [go_sem]
    have r2 : W.cell? ⟨w.heap.size + 1, 2, none⟩ = some (.int .u64 0) := by rw [← hW]; simp [go_sem]
    have okW : Below B w0 W := by rw [← hW]; exact (ok_new hB (ok_new hB ok _) _)
    have bW : Below w.heap.size w W := by rw [← hW]; exact (sp_new (sp_new (Below.refl _ _) _) _)
    have zW : W.heap.size = w.heap.size + 2 := by rw [← hW]; simp
    have fz : ∀ j, W.frozen? ⟨w.heap.size + 1, j, none⟩ = false := by intro j; rw [← hW]; simp [go_sem]
    rw [hW]
    clear hW
    with_reducible refine (h1 _ okW).mono ?_
    rintro e w1 ⟨rfl, g1⟩
    replace fz := fun j => (g1.frozen (p := ⟨w.heap.size + 1, j, none⟩) (by simp; omega)).trans (fz j)
    have z1 := g1.size
    replace bW := sp_call bW g1
    replace l0 := sO g1 l0; replace l1 := sO g1 l1; replace l2 := sO g1 l2; replace l3 := sO g1 l3; replace l4 := sO g1 l4; replace l5 := sO g1 l5; replace l6 := sO g1 l6; replace l7 := sO g1 l7; replace l8 := sO g1 l8; replace l9 := sO g1 l9; replace l10 := sO g1 l10; replace r0 := sO g1 r0; replace r1 := sO g1 r1; replace r2 := sO g1 r2
    go_wp2_with (go_at_call 150; refine (h4 _).mono ?_; rintro e w2 ⟨rfl, g2⟩; replace fz := fun j => (g2.frozen (p := ⟨w.heap.size + 1, j, none⟩) (by simp; omega)).trans (fz j); replace bW := sp_call bW g2; replace r0 := sO g2 r0; replace r1 := sO g2 r1; replace r2 := sO g2 r2)
    exact bodyPost_ret (v := .agg #[.bool true, .int .u64 0, .int .u64 0]) (by simp [results, Tryz.results190, go_sem, r0, r1, r2]) rfl ⟨rfl, sp_set3 bW (by omega) _ _ _⟩
  · rw [if_neg q]
    generalize A.ord x L.least = o at *
    dsimp only
    go_enter Tryz.func190, Tryz.ntmps190
    go_wp2_with fail
    obtain ⟨W, hW⟩ : ∃ W, ((w.alloc (.cells #[.int .u64 L.least, .int .u64 L.most, .int .i64 L.past, .func (.func L.ko) #[] L.co, .func (.func L.kp) #[] L.cp, .func (.func L.k1) #[] L.c1, .func (.func L.kv) #[] L.cv, .func (.func L.kn) #[] L.cn, .func (.func L.ku) #[] L.cu, .func (.func L.kt) #[] L.ct, .func (.func L.kz) #[] L.cz] 134)).alloc (.cells #[.bool false, .int .u64 0, .int .u64 0] 126)) = W := ⟨_, rfl⟩
    have l0 : W.cell? ⟨w.heap.size, 0, none⟩ = some (.int .u64 L.least) := by rw [← hW]; simp [go_sem]
    have l1 : W.cell? ⟨w.heap.size, 1, none⟩ = some (.int .u64 L.most) := by rw [← hW]; simp [go_sem]
    have l2 : W.cell? ⟨w.heap.size, 2, none⟩ = some (.int .i64 L.past) := by rw [← hW]; simp [go_sem]
    have l3 : W.cell? ⟨w.heap.size, 3, none⟩ = some (.func (.func L.ko) #[] L.co) := by rw [← hW]; simp [go_sem]
    have l4 : W.cell? ⟨w.heap.size, 4, none⟩ = some (.func (.func L.kp) #[] L.cp) := by rw [← hW]; simp [go_sem]
    have l5 : W.cell? ⟨w.heap.size, 5, none⟩ = some (.func (.func L.k1) #[] L.c1) := by rw [← hW]; simp [go_sem]
    have l6 : W.cell? ⟨w.heap.size, 6, none⟩ = some (.func (.func L.kv) #[] L.cv) := by rw [← hW]; simp [go_sem]
    have l7 : W.cell? ⟨w.heap.size, 7, none⟩ = some (.func (.func L.kn) #[] L.cn) := by rw [← hW]; simp [go_sem]
    have l8 : W.cell? ⟨w.heap.size, 8, none⟩ = some (.func (.func L.ku) #[] L.cu) := by rw [← hW]; simp [go_sem]
    have l9 : W.cell? ⟨w.heap.size, 9, none⟩ = some (.func (.func L.kt) #[] L.ct) := by rw [← hW]; simp [go_sem]
    have l10 : W.cell? ⟨w.heap.size, 10, none⟩ = some (.func (.func L.kz) #[] L.cz) := by rw [← hW]; simp [go_sem]
    have r0 : W.cell? ⟨w.heap.size + 1, 0, none⟩ = some (.bool false) := by rw [← hW]; simp [go_sem]
    have r1 : W.cell? ⟨w.heap.size + 1, 1, none⟩ = some (.int .u64 0) := by rw [← hW]; simp [go_sem]
    have r2 : W.cell? ⟨w.heap.size + 1, 2, none⟩ = some (.int .u64 0) := by rw [← hW]; simp [go_sem]
    have okW : Below B w0 W := by rw [← hW]; exact (ok_new hB (ok_new hB ok _) _)
    have bW : Below w.heap.size w W := by rw [← hW]; exact (sp_new (sp_new (Below.refl _ _) _) _)
    have zW : W.heap.size = w.heap.size + 2 := by rw [← hW]; simp
    have fz : ∀ j, W.frozen? ⟨w.heap.size + 1, j, none⟩ = false := by intro j; rw [← hW]; simp [go_sem]
    rw [hW]
    clear hW
    with_reducible refine (h1 _ okW).mono ?_
    rintro e w1 ⟨rfl, g1⟩
    replace fz := fun j => (g1.frozen (p := ⟨w.heap.size + 1, j, none⟩) (by simp; omega)).trans (fz j)
    have z1 := g1.size
    replace bW := sp_call bW g1
    replace okW := ok_call hB okW g1
    replace l0 := sO g1 l0; replace l1 := sO g1 l1; replace l2 := sO g1 l2; replace l3 := sO g1 l3; replace l4 := sO g1 l4; replace l5 := sO g1 l5; replace l6 := sO g1 l6; replace l7 := sO g1 l7; replace l8 := sO g1 l8; replace l9 := sO g1 l9; replace l10 := sO g1 l10; replace r0 := sO g1 r0; replace r1 := sO g1 r1; replace r2 := sO g1 r2
    go_wp2_with fail
    go_region_held3 (fun w' => w'.cell? ⟨w.heap.size, 0, none⟩ = some (.int .u64 L.least) ∧ w'.cell? ⟨w.heap.size, 1, none⟩ = some (.int .u64 L.most) ∧ w'.cell? ⟨w.heap.size, 2, none⟩ = some (.int .i64 L.past) ∧ w'.cell? ⟨w.heap.size, 3, none⟩ = some (.func (.func L.ko) #[] L.co) ∧ w'.cell? ⟨w.heap.size, 4, none⟩ = some (.func (.func L.kp) #[] L.cp) ∧ w'.cell? ⟨w.heap.size, 5, none⟩ = some (.func (.func L.k1) #[] L.c1) ∧ w'.cell? ⟨w.heap.size, 6, none⟩ = some (.func (.func L.kv) #[] L.cv) ∧ w'.cell? ⟨w.heap.size, 7, none⟩ = some (.func (.func L.kn) #[] L.cn) ∧ w'.cell? ⟨w.heap.size, 8, none⟩ = some (.func (.func L.ku) #[] L.cu) ∧ w'.cell? ⟨w.heap.size, 9, none⟩ = some (.func (.func L.kt) #[] L.ct) ∧ w'.cell? ⟨w.heap.size, 10, none⟩ = some (.func (.func L.kz) #[] L.cz)) (first | exact ⟨l0, l1, l2, l3, l4, l5, l6, l7, l8, l9, l10⟩ | exact ⟨sp_keep3 l0 (by omega) _ _ _, sp_keep3 l1 (by omega) _ _ _, sp_keep3 l2 (by omega) _ _ _, sp_keep3 l3 (by omega) _ _ _, sp_keep3 l4 (by omega) _ _ _, sp_keep3 l5 (by omega) _ _ _, sp_keep3 l6 (by omega) _ _ _, sp_keep3 l7 (by omega) _ _ _, sp_keep3 l8 (by omega) _ _ _, sp_keep3 l9 (by omega) _ _ _, sp_keep3 l10 (by omega) _ _ _⟩)
      (first
        | (go_at_fn L.kv; refine (h2 _ (by first | exact okW | exact okW.drew)).mono ?_; rintro e w2 ⟨rfl, g2⟩; replace g2 : Below w1.heap.size w1 w2 := ⟨g2.os, g2.tape, g2.output, g2.size, g2.block⟩; replace fz := fun j => (g2.frozen (p := ⟨w.heap.size + 1, j, none⟩) (by simp; omega)).trans (fz j); replace l0 := sO g2 l0; replace l1 := sO g2 l1; replace l2 := sO g2 l2; replace l3 := sO g2 l3; replace l4 := sO g2 l4; replace l5 := sO g2 l5; replace l6 := sO g2 l6; replace l7 := sO g2 l7; replace l8 := sO g2 l8; replace l9 := sO g2 l9; replace l10 := sO g2 l10; replace r0 := sO g2 r0; replace r1 := sO g2 r1; replace r2 := sO g2 r2; replace bW := sp_call bW g2)
        | fail)
    all_goals go_wp2
    all_goals exact bodyPost_ret (v := .agg #[.bool false, .int .u64 L.least, .int .u64 v]) (by simp [results, Tryz.results190, go_sem, r0, r1, r2]) rfl ⟨rfl, sp_set3 bW (by omega) _ _ _⟩
set_option maxRecDepth 100000 in
set_option maxHeartbeats 3200000 in
theorem above_f {L : Ln} {A : Ways} {B : Nat} {w0 : World} (H : Actsf L A B w0) (x : Int) (dx : A.dom x) (ox : A.one x = true) (de : A.dom L.most) (w : World) (ok : Below B w0 w) :
    Calls Tryz.prog 191 #[.agg (lvf L), .int .u64 x] w fun e w' => e = .returned (sVf (aboveP A L x)) ∧ Below w.heap.size w w' := by
  have h1 := fun V ok => H.ord x L.most V dx de ok
  have h2 := fun V ok => H.nxt x V dx ox ok
  have h4 := none_f
  have hB := H.hB
  have eo := H.eo
  have ek := H.en
  unfold lvf aboveP sVf
  clear H
  generalize A.nxt x = v at *
  by_cases q : 0 ≤ A.ord x L.most
  · rw [if_pos q]
    generalize A.ord x L.most = o at *
    dsimp only
    go_enter Tryz.func191, Tryz.ntmps191
    go_wp2_with fail
    obtain ⟨W, hW⟩ : ∃ W, ((w.alloc (.cells #[.int .u64 L.least, .int .u64 L.most, .int .i64 L.past, .func (.func L.ko) #[] L.co, .func (.func L.kp) #[] L.cp, .func (.func L.k1) #[] L.c1, .func (.func L.kv) #[] L.cv, .func (.func L.kn) #[] L.cn, .func (.func L.ku) #[] L.cu, .func (.func L.kt) #[] L.ct, .func (.func L.kz) #[] L.cz] 134)).alloc (.cells #[.bool false, .int .u64 0, .int .u64 0] 126)) = W := ⟨_, rfl⟩
    have l0 : W.cell? ⟨w.heap.size, 0, none⟩ = some (.int .u64 L.least) := by rw [← hW]; simp [go_sem]
    have l1 : W.cell? ⟨w.heap.size, 1, none⟩ = some (.int .u64 L.most) := by rw [← hW]; simp [go_sem]
    have l2 : W.cell? ⟨w.heap.size, 2, none⟩ = some (.int .i64 L.past) := by rw [← hW]; simp [go_sem]
    have l3 : W.cell? ⟨w.heap.size, 3, none⟩ = some (.func (.func L.ko) #[] L.co) := by rw [← hW]; simp [go_sem]
    have l4 : W.cell? ⟨w.heap.size, 4, none⟩ = some (.func (.func L.kp) #[] L.cp) := by rw [← hW]; simp [go_sem]
    have l5 : W.cell? ⟨w.heap.size, 5, none⟩ = some (.func (.func L.k1) #[] L.c1) := by rw [← hW]; simp [go_sem]
    have l6 : W.cell? ⟨w.heap.size, 6, none⟩ = some (.func (.func L.kv) #[] L.cv) := by rw [← hW]; simp [go_sem]
    have l7 : W.cell? ⟨w.heap.size, 7, none⟩ = some (.func (.func L.kn) #[] L.cn) := by rw [← hW]; simp [go_sem]
    have l8 : W.cell? ⟨w.heap.size, 8, none⟩ = some (.func (.func L.ku) #[] L.cu) := by rw [← hW]; simp [go_sem]
    have l9 : W.cell? ⟨w.heap.size, 9, none⟩ = some (.func (.func L.kt) #[] L.ct) := by rw [← hW]; simp [go_sem]
    have l10 : W.cell? ⟨w.heap.size, 10, none⟩ = some (.func (.func L.kz) #[] L.cz) := by rw [← hW]; simp [go_sem]
    have r0 : W.cell? ⟨w.heap.size + 1, 0, none⟩ = some (.bool false) := by rw [← hW]; simp [go_sem]
    have r1 : W.cell? ⟨w.heap.size + 1, 1, none⟩ = some (.int .u64 0) := by rw [← hW]; simp [go_sem]
    have r2 : W.cell? ⟨w.heap.size + 1, 2, none⟩ = some (.int .u64 0) := by rw [← hW]; simp [go_sem]
    have okW : Below B w0 W := by rw [← hW]; exact (ok_new hB (ok_new hB ok _) _)
    have bW : Below w.heap.size w W := by rw [← hW]; exact (sp_new (sp_new (Below.refl _ _) _) _)
    have zW : W.heap.size = w.heap.size + 2 := by rw [← hW]; simp
    have fz : ∀ j, W.frozen? ⟨w.heap.size + 1, j, none⟩ = false := by intro j; rw [← hW]; simp [go_sem]
    rw [hW]
    clear hW
    with_reducible refine (h1 _ okW).mono ?_
    rintro e w1 ⟨rfl, g1⟩
    replace fz := fun j => (g1.frozen (p := ⟨w.heap.size + 1, j, none⟩) (by simp; omega)).trans (fz j)
    have z1 := g1.size
    replace bW := sp_call bW g1
    replace l0 := sO g1 l0; replace l1 := sO g1 l1; replace l2 := sO g1 l2; replace l3 := sO g1 l3; replace l4 := sO g1 l4; replace l5 := sO g1 l5; replace l6 := sO g1 l6; replace l7 := sO g1 l7; replace l8 := sO g1 l8; replace l9 := sO g1 l9; replace l10 := sO g1 l10; replace r0 := sO g1 r0; replace r1 := sO g1 r1; replace r2 := sO g1 r2
    go_wp2_with (go_at_call 150; refine (h4 _).mono ?_; rintro e w2 ⟨rfl, g2⟩; replace fz := fun j => (g2.frozen (p := ⟨w.heap.size + 1, j, none⟩) (by simp; omega)).trans (fz j); replace bW := sp_call bW g2; replace r0 := sO g2 r0; replace r1 := sO g2 r1; replace r2 := sO g2 r2)
    exact bodyPost_ret (v := .agg #[.bool true, .int .u64 0, .int .u64 0]) (by simp [results, Tryz.results191, go_sem, r0, r1, r2]) rfl ⟨rfl, sp_set3 bW (by omega) _ _ _⟩
  · rw [if_neg q]
    generalize A.ord x L.most = o at *
    dsimp only
    go_enter Tryz.func191, Tryz.ntmps191
    go_wp2_with fail
    obtain ⟨W, hW⟩ : ∃ W, ((w.alloc (.cells #[.int .u64 L.least, .int .u64 L.most, .int .i64 L.past, .func (.func L.ko) #[] L.co, .func (.func L.kp) #[] L.cp, .func (.func L.k1) #[] L.c1, .func (.func L.kv) #[] L.cv, .func (.func L.kn) #[] L.cn, .func (.func L.ku) #[] L.cu, .func (.func L.kt) #[] L.ct, .func (.func L.kz) #[] L.cz] 134)).alloc (.cells #[.bool false, .int .u64 0, .int .u64 0] 126)) = W := ⟨_, rfl⟩
    have l0 : W.cell? ⟨w.heap.size, 0, none⟩ = some (.int .u64 L.least) := by rw [← hW]; simp [go_sem]
    have l1 : W.cell? ⟨w.heap.size, 1, none⟩ = some (.int .u64 L.most) := by rw [← hW]; simp [go_sem]
    have l2 : W.cell? ⟨w.heap.size, 2, none⟩ = some (.int .i64 L.past) := by rw [← hW]; simp [go_sem]
    have l3 : W.cell? ⟨w.heap.size, 3, none⟩ = some (.func (.func L.ko) #[] L.co) := by rw [← hW]; simp [go_sem]
    have l4 : W.cell? ⟨w.heap.size, 4, none⟩ = some (.func (.func L.kp) #[] L.cp) := by rw [← hW]; simp [go_sem]
    have l5 : W.cell? ⟨w.heap.size, 5, none⟩ = some (.func (.func L.k1) #[] L.c1) := by rw [← hW]; simp [go_sem]
    have l6 : W.cell? ⟨w.heap.size, 6, none⟩ = some (.func (.func L.kv) #[] L.cv) := by rw [← hW]; simp [go_sem]
    have l7 : W.cell? ⟨w.heap.size, 7, none⟩ = some (.func (.func L.kn) #[] L.cn) := by rw [← hW]; simp [go_sem]
    have l8 : W.cell? ⟨w.heap.size, 8, none⟩ = some (.func (.func L.ku) #[] L.cu) := by rw [← hW]; simp [go_sem]
    have l9 : W.cell? ⟨w.heap.size, 9, none⟩ = some (.func (.func L.kt) #[] L.ct) := by rw [← hW]; simp [go_sem]
    have l10 : W.cell? ⟨w.heap.size, 10, none⟩ = some (.func (.func L.kz) #[] L.cz) := by rw [← hW]; simp [go_sem]
    have r0 : W.cell? ⟨w.heap.size + 1, 0, none⟩ = some (.bool false) := by rw [← hW]; simp [go_sem]
    have r1 : W.cell? ⟨w.heap.size + 1, 1, none⟩ = some (.int .u64 0) := by rw [← hW]; simp [go_sem]
    have r2 : W.cell? ⟨w.heap.size + 1, 2, none⟩ = some (.int .u64 0) := by rw [← hW]; simp [go_sem]
    have okW : Below B w0 W := by rw [← hW]; exact (ok_new hB (ok_new hB ok _) _)
    have bW : Below w.heap.size w W := by rw [← hW]; exact (sp_new (sp_new (Below.refl _ _) _) _)
    have zW : W.heap.size = w.heap.size + 2 := by rw [← hW]; simp
    have fz : ∀ j, W.frozen? ⟨w.heap.size + 1, j, none⟩ = false := by intro j; rw [← hW]; simp [go_sem]
    rw [hW]
    clear hW
    with_reducible refine (h1 _ okW).mono ?_
    rintro e w1 ⟨rfl, g1⟩
    replace fz := fun j => (g1.frozen (p := ⟨w.heap.size + 1, j, none⟩) (by simp; omega)).trans (fz j)
    have z1 := g1.size
    replace bW := sp_call bW g1
    replace okW := ok_call hB okW g1
    replace l0 := sO g1 l0; replace l1 := sO g1 l1; replace l2 := sO g1 l2; replace l3 := sO g1 l3; replace l4 := sO g1 l4; replace l5 := sO g1 l5; replace l6 := sO g1 l6; replace l7 := sO g1 l7; replace l8 := sO g1 l8; replace l9 := sO g1 l9; replace l10 := sO g1 l10; replace r0 := sO g1 r0; replace r1 := sO g1 r1; replace r2 := sO g1 r2
    go_wp2_with fail
    go_region_held3 (fun w' => w'.cell? ⟨w.heap.size, 0, none⟩ = some (.int .u64 L.least) ∧ w'.cell? ⟨w.heap.size, 1, none⟩ = some (.int .u64 L.most) ∧ w'.cell? ⟨w.heap.size, 2, none⟩ = some (.int .i64 L.past) ∧ w'.cell? ⟨w.heap.size, 3, none⟩ = some (.func (.func L.ko) #[] L.co) ∧ w'.cell? ⟨w.heap.size, 4, none⟩ = some (.func (.func L.kp) #[] L.cp) ∧ w'.cell? ⟨w.heap.size, 5, none⟩ = some (.func (.func L.k1) #[] L.c1) ∧ w'.cell? ⟨w.heap.size, 6, none⟩ = some (.func (.func L.kv) #[] L.cv) ∧ w'.cell? ⟨w.heap.size, 7, none⟩ = some (.func (.func L.kn) #[] L.cn) ∧ w'.cell? ⟨w.heap.size, 8, none⟩ = some (.func (.func L.ku) #[] L.cu) ∧ w'.cell? ⟨w.heap.size, 9, none⟩ = some (.func (.func L.kt) #[] L.ct) ∧ w'.cell? ⟨w.heap.size, 10, none⟩ = some (.func (.func L.kz) #[] L.cz)) (first | exact ⟨l0, l1, l2, l3, l4, l5, l6, l7, l8, l9, l10⟩ | exact ⟨sp_keep3 l0 (by omega) _ _ _, sp_keep3 l1 (by omega) _ _ _, sp_keep3 l2 (by omega) _ _ _, sp_keep3 l3 (by omega) _ _ _, sp_keep3 l4 (by omega) _ _ _, sp_keep3 l5 (by omega) _ _ _, sp_keep3 l6 (by omega) _ _ _, sp_keep3 l7 (by omega) _ _ _, sp_keep3 l8 (by omega) _ _ _, sp_keep3 l9 (by omega) _ _ _, sp_keep3 l10 (by omega) _ _ _⟩)
      (first
        | (go_at_fn L.kn; refine (h2 _ (by first | exact okW | exact okW.drew)).mono ?_; rintro e w2 ⟨rfl, g2⟩; replace g2 : Below w1.heap.size w1 w2 := ⟨g2.os, g2.tape, g2.output, g2.size, g2.block⟩; replace fz := fun j => (g2.frozen (p := ⟨w.heap.size + 1, j, none⟩) (by simp; omega)).trans (fz j); replace l0 := sO g2 l0; replace l1 := sO g2 l1; replace l2 := sO g2 l2; replace l3 := sO g2 l3; replace l4 := sO g2 l4; replace l5 := sO g2 l5; replace l6 := sO g2 l6; replace l7 := sO g2 l7; replace l8 := sO g2 l8; replace l9 := sO g2 l9; replace l10 := sO g2 l10; replace r0 := sO g2 r0; replace r1 := sO g2 r1; replace r2 := sO g2 r2; replace bW := sp_call bW g2)
        | fail)
    all_goals go_wp2
    all_goals exact bodyPost_ret (v := .agg #[.bool false, .int .u64 v, .int .u64 L.most]) (by simp [results, Tryz.results191, go_sem, r0, r1, r2]) rfl ⟨rfl, sp_set3 bW (by omega) _ _ _⟩
end Go.Proofs.YteafnkimcidkhaaGreat


namespace Go.Proofs.YteafnkimcidkhaaGreat
set_option linter.unusedVariables false

/-! ### Sums and differences -/
/-! ### Moves -/
end Go.Proofs.YteafnkimcidkhaaGreat
namespace Go.Proofs.YteafnkimcidkhaaGreat
open Go.RowKit
set_option linter.unusedVariables false

end Go.Proofs.YteafnkimcidkhaaGreat
namespace Go.Proofs.YteafnkimcidkhaaGreat
open Go.RowKit
set_option linter.unusedVariables false

end Go.Proofs.YteafnkimcidkhaaGreat
namespace Go.Proofs.YteafnkimcidkhaaGreat
open Go.RowKit
set_option linter.unusedVariables false

end Go.Proofs.YteafnkimcidkhaaGreat
namespace Go.Proofs.YteafnkimcidkhaaGreat
open Go.RowKit
set_option linter.unusedVariables false

/-! ### The arithmetic of one round -/
end Go.Proofs.YteafnkimcidkhaaGreat
namespace Go.Proofs.YteafnkimcidkhaaGreat
open Go.RowKit
set_option linter.unusedVariables false

end Go.Proofs.YteafnkimcidkhaaGreat
namespace Go.Proofs.YteafnkimcidkhaaGreat
open Go.RowKit
set_option linter.unusedVariables false

/-! ### The number of bits -/
end Go.Proofs.YteafnkimcidkhaaGreat
namespace Go.Proofs.YteafnkimcidkhaaGreat
open Go.RowKit
set_option linter.unusedVariables false

end Go.Proofs.YteafnkimcidkhaaGreat
namespace Go.Proofs.YteafnkimcidkhaaGreat
open Go.RowKit
set_option linter.unusedVariables false

/-! ### One half of the quotient: a digit of 32 bits -/
end Go.Proofs.YteafnkimcidkhaaGreat
namespace Go.Proofs.YteafnkimcidkhaaGreat
set_option linter.unusedSimpArgs false
set_option linter.unusedVariables false
theorem rndQ_more (s : Bool) (m : Int) (b : Bool) (q j t : Nat) (e : Int) (h : fP s + 2 ≤ blen q) (ht : t < 2 ^ j) (more : Bool) (hm : more = decide (t ≠ 0)) :
    rndQ s m b q e more = rnd s m b (q * 2 ^ j + t) (e - j) := by
  have q0 : q ≠ 0 := by intro c; subst c; rw [blen_zero] at h; omega
  by_cases c : t = 0
  · have : more = false := by rw [hm]; simp [c]
    subst this c
    rw [rndQ_false, Nat.add_zero, rnd_scale]
  · have : more = true := by rw [hm]; simp [c]
    subst this
    have k := rnd_sticky s m b q0 2 1 j t (by decide) (by decide) ht c e (last_ge s e h)
    unfold rndQ
    rw [← k]
    congr 1
    simp; omega
def divT (s : Bool) (m : Int) (b : Bool) (xw : Nat) (xe : Int) (yw : Nat) (ye : Int) : Int :=
  rnd s m b (2 * (xw * 2 ^ 130 / yw) + (decide (xw * 2 ^ 130 % yw ≠ 0)).toNat) (xe - ye - 131)
theorem div_fits (s : Bool) (m : Int) (b : Bool) (xw yw up : Nat) (xe ye : Int) (more : Bool) (y0 : yw ≠ 0) (hy : yw < 2 ^ 53) (hu : up ≤ 128) (hx : 2 ^ 127 ≤ xw * 2 ^ up)
    (hm : more = decide (xw * 2 ^ up % yw ≠ 0)) : rndQ s m b (xw * 2 ^ up / yw) (xe - up - ye) more = divT s m b xw xe yw ye := by
  have y1 : 0 < yw := by omega
  have big : 2 ^ 74 ≤ xw * 2 ^ up / yw := by
    rw [Nat.le_div_iff_mul_le y1]
    have : 2 ^ 74 * yw ≤ 2 ^ 74 * 2 ^ 53 := Nat.mul_le_mul_left _ (by omega)
    omega
  have hl : fP s + 2 ≤ blen (xw * 2 ^ up / yw) := by have := le_blen big; have := fP_le s; omega
  have hd : xw * 2 ^ 130 = xw * 2 ^ up * 2 ^ (130 - up) := by rw [Nat.mul_assoc, ← Nat.pow_add]; congr 2; omega
  have h2 := Nat.two_pow_pos (130 - up)
  unfold divT
  rw [hd]
  generalize xw * 2 ^ up = A at *
  have dm := Nat.div_add_mod A yw
  have lt := Nat.mod_lt A y1
  generalize A / yw = Q at *
  generalize A % yw = R at *
  generalize hP : 2 ^ (130 - up) = P at *
  have e1 : A * P = yw * (Q * P) + R * P := by rw [← dm, Nat.add_mul, Nat.mul_assoc]
  have e2 : A * P / yw = Q * P + R * P / yw := by rw [e1, Nat.mul_add_div y1]
  have e3 : A * P % yw = R * P % yw := by rw [e1, Nat.mul_add_mod]
  have lt2 : R * P / yw < P := by
    rw [Nat.div_lt_iff_lt_mul y1, Nat.mul_comm P]
    exact Nat.mul_lt_mul_of_pos_right lt h2
  rw [e2, e3]
  have ht : 2 * (R * P / yw) + (decide (R * P % yw ≠ 0)).toNat < 2 ^ (131 - up) := by
    rw [show 131 - up = (130 - up) + 1 by omega, Nat.pow_succ, hP]
    have : (decide (R * P % yw ≠ 0)).toNat ≤ 1 := Bool.toNat_le _
    omega
  have hm2 : more = decide (2 * (R * P / yw) + (decide (R * P % yw ≠ 0)).toNat ≠ 0) := by
    rw [hm, decide_eq_decide]
    have k := Nat.div_add_mod (R * P) yw
    constructor
    · intro r0 z
      have z1 : R * P / yw = 0 := by omega
      have z2 : R * P % yw = 0 := by
        by_cases c : R * P % yw = 0
        · exact c
        · rw [decide_eq_true c] at z; simp at z
      rw [z1, z2] at k
      have : R * P = 0 := by omega
      rcases Nat.mul_eq_zero.1 this with h | h <;> omega
    · intro z r0
      subst r0
      simp at z
  rw [rndQ_more s m b Q (131 - up) _ _ hl ht more hm2]
  congr 1
  · rw [show 131 - up = (130 - up) + 1 by omega, Nat.pow_succ, hP, Nat.mul_add, ← Nat.add_assoc]
    congr 2
    rw [Nat.mul_comm 2, Nat.mul_assoc]
  · omega
end Go.Proofs.YteafnkimcidkhaaGreat
namespace Go.Proofs.YteafnkimcidkhaaGreat
open Go.RowKit
set_option linter.unusedVariables false
set_option linter.unusedSimpArgs false
end Go.Proofs.YteafnkimcidkhaaGreat
namespace Go.Proofs.YteafnkimcidkhaaGreat
set_option linter.unusedVariables false
set_option linter.unusedSimpArgs false
theorem away_none (m : Int) (b o : Bool) : away m b o false false = false := by unfold away; split <;> (try split) <;> (try split) <;> rfl
theorem mag_exact (s : Bool) (m : Int) (b : Bool) (x q : Nat) (q0 : q ≠ 0) (h : q < 2 ^ (fP s + 1)) (h0 : x = 0 ∨ 2 ^ fP s ≤ q) (hi : ((x * 2 ^ fP s + q : Nat) : Int) < fI s) :
    mag s m b q (fL s + x) = ((x * 2 ^ fP s + q : Nat) : Int) := by
  have hl : lastOf s q (fL s + x) = fL s + x := by
    unfold lastOf
    have c1 := blen_le_of h
    rcases h0 with g | g
    · omega
    · have := le_blen g; omega
  unfold mag fin
  rw [hl]
  have k : fL s + (x : Int) - (fL s + x) = 0 := by omega
  rw [k]
  have a1 : quo q 0 = q := by unfold quo; rw [if_pos (by decide)]; simp
  have a2 : half q 0 = false := rfl
  have a3 : low q 0 = false := rfl
  rw [a1, a2, a3, away_none]
  have cast : (fL s + (x : Int) - fL s) * 2 ^ fP s + ((q + if false = true then 1 else 0 : Nat) : Int) = ((x * 2 ^ fP s + q : Nat) : Int) := by
    have : fL s + (x : Int) - fL s = x := by omega
    rw [this]; simp
  rw [cast, if_neg (by omega)]
end Go.Proofs.YteafnkimcidkhaaGreat
namespace Go.Proofs.YteafnkimcidkhaaGreat
open Go.RowKit
set_option linter.unusedVariables false
set_option linter.unusedSimpArgs false
end Go.Proofs.YteafnkimcidkhaaGreat
namespace Go.Proofs.YteafnkimcidkhaaGreat
open Go.RowKit
set_option linter.unusedVariables false
set_option linter.unusedSimpArgs false
end Go.Proofs.YteafnkimcidkhaaGreat
namespace Go.Proofs.YteafnkimcidkhaaGreat
open Go.RowKit
set_option linter.unusedVariables false
set_option linter.unusedSimpArgs false
end Go.Proofs.YteafnkimcidkhaaGreat
namespace Go.Proofs.YteafnkimcidkhaaGreat
open Go.RowKit
set_option linter.unusedVariables false
set_option linter.unusedSimpArgs false
end Go.Proofs.YteafnkimcidkhaaGreat

namespace Go.Proofs.YteafnkimcidkhaaGreat
open Go.RowKit
set_option linter.unusedVariables false
set_option linter.unusedSimpArgs false
end Go.Proofs.YteafnkimcidkhaaGreat
namespace Go.Proofs.YteafnkimcidkhaaGreat
open Go.RowKit
set_option linter.unusedVariables false
set_option linter.unusedSimpArgs false
end Go.Proofs.YteafnkimcidkhaaGreat
namespace Go.Proofs.YteafnkimcidkhaaGreat
open Go.RowKit
set_option linter.unusedVariables false
set_option linter.unusedSimpArgs false
end Go.Proofs.YteafnkimcidkhaaGreat
namespace Go.Proofs.YteafnkimcidkhaaGreat
open Go.RowKit
set_option linter.unusedVariables false
set_option linter.unusedSimpArgs false
theorem blen_word {u : Int} (h : Word u) (u0 : u ≠ 0) (u1 : u < 9007199254740992) : 1 ≤ blen (nn 0 u) ∧ blen (nn 0 u) ≤ 53 ∧ 2 ^ 127 ≤ u.toNat * 2 ^ (128 - blen (nn 0 u)) ∧ u.toNat * 2 ^ (128 - blen (nn 0 u)) < 2 ^ 128 := by
  rw [nn_low u h]
  have n0 : u.toNat ≠ 0 := by have := h.1; omega
  obtain ⟨a, b⟩ := blen_le n0
  have c := lt_blen u.toNat
  have d : blen u.toNat ≤ 53 := blen_le_of (by have := h.1; omega)
  refine ⟨b, d, ?_, ?_⟩
  · have : 2 ^ (blen u.toNat - 1) * 2 ^ (128 - blen u.toNat) ≤ u.toNat * 2 ^ (128 - blen u.toNat) := Nat.mul_le_mul_right _ a
    rw [← Nat.pow_add, show blen u.toNat - 1 + (128 - blen u.toNat) = 127 by omega] at this
    exact this
  · have : u.toNat * 2 ^ (128 - blen u.toNat) < 2 ^ blen u.toNat * 2 ^ (128 - blen u.toNat) := Nat.mul_lt_mul_of_pos_right c (Nat.two_pow_pos _)
    rw [← Nat.pow_add, show blen u.toNat + (128 - blen u.toNat) = 128 by omega] at this
    exact this
theorem blen_word2 {u : Int} (h : Word u) (u1 : u < 9007199254740992) : blen (nn 0 u) ≤ 53 ∧ (u ≠ 0 → 2 ^ 127 ≤ u.toNat * 2 ^ (128 - blen (nn 0 u))) ∧ u.toNat * 2 ^ (128 - blen (nn 0 u)) < 2 ^ 128 := by
  by_cases c : u = 0
  · subst c
    exact ⟨by decide, fun h => absurd rfl h, by decide⟩
  · obtain ⟨_, b, c, d⟩ := blen_word h c u1
    exact ⟨b, fun _ => c, d⟩
theorem quo_nat {u v sh sl qh ql r : Int} {up : Nat} (hu : Word u) (hv : Word v) (w1 : Word sh) (w2 : Word sl) (w3 : Word qh) (w4 : Word ql)
    (E : num sh sl = num 0 u * 2 ^ (up : Int).toNat % 340282366920938463463374607431768211456) (lt : u.toNat * 2 ^ up < 2 ^ 128)
    (E2 : num qh ql = num sh sl / v) (E3 : r = num sh sl % v) : nn qh ql = u.toNat * 2 ^ up / v.toNat ∧ (r != 0) = decide (u.toNat * 2 ^ up % v.toNat ≠ 0) := by
  have e1 := nn_num w1 w2
  have e2 := nn_num w3 w4
  obtain ⟨n, rfl⟩ := Int.eq_ofNat_of_zero_le hu.1
  obtain ⟨k, rfl⟩ := Int.eq_ofNat_of_zero_le hv.1
  have z : num 0 (n : Int) = (n : Int) := by unfold num; omega
  rw [z, pow_cast, Int.toNat_natCast, ← Int.natCast_mul] at E
  rw [Int.toNat_natCast, Int.toNat_natCast] at *
  generalize n * 2 ^ up = A at *
  have hA : num sh sl = (A : Int) := by omega
  rw [hA, ← Int.natCast_ediv, ← e2] at E2
  rw [hA, ← Int.natCast_emod] at E3
  refine ⟨by omega, ?_⟩
  rw [E3, Bool.eq_iff_iff, bne_iff_ne, decide_eq_true_iff]
  omega
theorem frozen_on {W w1 : World} (hb : Below W.heap.size W w1) {b o : Nat} {v : Value} (h : W.cell? ⟨b, o, none⟩ = some v) (f : W.frozen? ⟨b, o, none⟩ = false) : w1.frozen? ⟨b, o, none⟩ = false :=
  ((bcell hb).2 _ _ (lt_new h)).trans f
set_option maxRecDepth 8000 in
set_option maxHeartbeats 1600000 in
theorem quotient_any (k1 : Int) (g1 : Bool) (u1 p1 k2 : Int) (g2 : Bool) (u2 p2 : Int) (a1 : Word u1) (b1 : Word u2) (b0 : u2 ≠ 0) (a2 : u1 < 9007199254740992) (b2 : u2 < 9007199254740992)
    (a3 : -1100 ≤ p1) (a4 : p1 ≤ 2000) (b3 : -1100 ≤ p2) (b4 : p2 ≤ 2000) (w : World) :
    Calls Tryz.prog 202 #[prt k1 g1 u1 p1, prt k2 g2 u2 p2] w fun r w' => ∃ h l x more, r = .returned (.tuple #[.agg #[.int .u64 h, .int .u64 l], .int .i64 x, .bool more]) ∧ Word h ∧ Word l ∧ -4000 ≤ x ∧ x ≤ 4000 ∧
      Hid (∀ s m b, rndQ s m b (nn h l) x more = divT s m b u1.toNat p1 u2.toNat p2) ∧ Below w.heap.size w w' := by
  have hlen := len_ex 0 u1 word_zero a1
  obtain ⟨c2, c3, c4⟩ := blen_word2 a1 a2
  have hup : ∃ up : Nat, (128 : Int) - (blen (nn 0 u1) : Int) = up ∧ up = 128 - blen (nn 0 u1) := ⟨_, by omega, rfl⟩
  obtain ⟨up, hu, hu2⟩ := hup
  have u75 : 75 ≤ up := by omega
  have u127 : up ≤ 128 := by omega
  rw [← hu2] at c3 c4
  have D1 : Hid (∀ s m b more, more = decide (u1.toNat * 2 ^ up % u2.toNat ≠ 0) → rndQ s m b (u1.toNat * 2 ^ up / u2.toNat) (p1 - up - p2) more = divT s m b u1.toNat p1 u2.toNat p2) :=
    fun s m b more hm => by
      by_cases a0 : u1 = 0
      · subst a0
        have hm' : more = false := by rw [hm]; simp
        subst hm'
        rw [rndQ_false]
        unfold divT
        simp [rnd_zero]
      · exact div_fits s m b u1.toNat u2.toNat up p1 p2 more (by have := b1.1; omega) (by have := b1.1; omega) (by omega) (c3 a0) hm
  have D2 : Hid (∀ sh sl qh ql r, Word sh → Word sl → Word qh → Word ql → num sh sl = num 0 u1 * 2 ^ (up : Int).toNat % 340282366920938463463374607431768211456 → num qh ql = num sh sl / u2 → r = num sh sl % u2 → nn qh ql = u1.toNat * 2 ^ up / u2.toNat ∧ (r != 0) = decide (u1.toNat * 2 ^ up % u2.toNat ≠ 0)) :=
    fun sh sl qh ql r w1 w2 w3 w4 E E2 E3 => quo_nat a1 b1 w1 w2 w3 w4 E c4 E2 E3
  have hsh := shl_any 0 u1 (up : Int) word_zero a1 (by omega) (by omega)
  have hdv := fun sh sl ws wt => div_pos sh sl u2 ws wt b1 (by have := b1.1; omega)
  have hu3 : (blen (nn 0 u1) : Int) = 128 - up := by omega
  rw [hu3] at hlen
  clear c2 c3 c4 hu2 hu hu3
  have q0 : (0 : Int) ≤ (up : Int) := by omega
  have q1 : (75 : Int) ≤ (up : Int) := by omega
  have q2 : (up : Int) ≤ 128 := by omega
  generalize (up : Int) = U at *
  unfold prt
  have L := ((below_three w (.cells #[.int .i64 k1, .bool g1, .int .u64 u1, .int .i64 p1] 151) (.cells #[.int .i64 k2, .bool g2, .int .u64 u2, .int .i64 p2] 151) (.cells #[.int .u64 0, .int .u64 0] 139)).alloc (by simp; omega) (.cells #[.int .u64 0, .int .u64 u1] 139)).drew
  have hUU : (128 : Int) - (128 - U) = U := by omega
  have X2 : ((((w.alloc (.cells #[.int .i64 k1, .bool g1, .int .u64 u1, .int .i64 p1] 151)).alloc (.cells #[.int .i64 k2, .bool g2, .int .u64 u2, .int .i64 p2] 151)).alloc (.cells #[.int .u64 0, .int .u64 0] 139)).alloc (.cells #[.int .u64 0, .int .u64 u1] 139)).cell? ⟨w.heap.size, 2, none⟩ = some (.int .u64 u1) := by simp [go_sem, World.cell?_alloc_past]
  have X3 : ((((w.alloc (.cells #[.int .i64 k1, .bool g1, .int .u64 u1, .int .i64 p1] 151)).alloc (.cells #[.int .i64 k2, .bool g2, .int .u64 u2, .int .i64 p2] 151)).alloc (.cells #[.int .u64 0, .int .u64 0] 139)).alloc (.cells #[.int .u64 0, .int .u64 u1] 139)).cell? ⟨w.heap.size, 3, none⟩ = some (.int .i64 p1) := by simp [go_sem, World.cell?_alloc_past]
  have Y2 : ((((w.alloc (.cells #[.int .i64 k1, .bool g1, .int .u64 u1, .int .i64 p1] 151)).alloc (.cells #[.int .i64 k2, .bool g2, .int .u64 u2, .int .i64 p2] 151)).alloc (.cells #[.int .u64 0, .int .u64 0] 139)).alloc (.cells #[.int .u64 0, .int .u64 u1] 139)).cell? ⟨w.heap.size + 1, 2, none⟩ = some (.int .u64 u2) := by simp [go_sem, World.cell?_alloc_past]
  have Y3 : ((((w.alloc (.cells #[.int .i64 k1, .bool g1, .int .u64 u1, .int .i64 p1] 151)).alloc (.cells #[.int .i64 k2, .bool g2, .int .u64 u2, .int .i64 p2] 151)).alloc (.cells #[.int .u64 0, .int .u64 0] 139)).alloc (.cells #[.int .u64 0, .int .u64 u1] 139)).cell? ⟨w.heap.size + 1, 3, none⟩ = some (.int .i64 p2) := by simp [go_sem, World.cell?_alloc_past]
  have R0 : ((((w.alloc (.cells #[.int .i64 k1, .bool g1, .int .u64 u1, .int .i64 p1] 151)).alloc (.cells #[.int .i64 k2, .bool g2, .int .u64 u2, .int .i64 p2] 151)).alloc (.cells #[.int .u64 0, .int .u64 0] 139)).alloc (.cells #[.int .u64 0, .int .u64 u1] 139)).cell? ⟨w.heap.size + 1 + 1, 0, none⟩ = some (.int .u64 0) := by simp [go_sem, World.cell?_alloc_past]
  have R1 : ((((w.alloc (.cells #[.int .i64 k1, .bool g1, .int .u64 u1, .int .i64 p1] 151)).alloc (.cells #[.int .i64 k2, .bool g2, .int .u64 u2, .int .i64 p2] 151)).alloc (.cells #[.int .u64 0, .int .u64 0] 139)).alloc (.cells #[.int .u64 0, .int .u64 u1] 139)).cell? ⟨w.heap.size + 1 + 1, 1, none⟩ = some (.int .u64 0) := by simp [go_sem, World.cell?_alloc_past]
  have G0 : ((((w.alloc (.cells #[.int .i64 k1, .bool g1, .int .u64 u1, .int .i64 p1] 151)).alloc (.cells #[.int .i64 k2, .bool g2, .int .u64 u2, .int .i64 p2] 151)).alloc (.cells #[.int .u64 0, .int .u64 0] 139)).alloc (.cells #[.int .u64 0, .int .u64 u1] 139)).frozen? ⟨w.heap.size + 1 + 1, 0, none⟩ = false := by simp [go_sem]
  have G1 : ((((w.alloc (.cells #[.int .i64 k1, .bool g1, .int .u64 u1, .int .i64 p1] 151)).alloc (.cells #[.int .i64 k2, .bool g2, .int .u64 u2, .int .i64 p2] 151)).alloc (.cells #[.int .u64 0, .int .u64 0] 139)).alloc (.cells #[.int .u64 0, .int .u64 u1] 139)).frozen? ⟨w.heap.size + 1 + 1, 1, none⟩ = false := by simp [go_sem]
  go_enter Tryz.func202, Tryz.ntmps202
  go_wp2_with (go_at_call 182; refine (hlen _).mono ?_; rintro r w1 ⟨rfl, rfl⟩)
  go_region_held3 (fun w' => w'.cell? ⟨w.heap.size, 2, none⟩ = some (.int .u64 u1) ∧ w'.cell? ⟨w.heap.size + 1, 2, none⟩ = some (.int .u64 u2))
    (first | exact ⟨X2, Y2⟩ | (simp [go_sem, *]; done))
    (first
      | (go_at_call 158; refine (hsh _).mono ?_; rintro r w1 ⟨sh, sl, rfl, ws, wt, E, hb1⟩; have J1 := frozen_on hb1 R0 G0; have J2 := frozen_on hb1 R1 G1; replace X2 := cell_on hb1 X2; replace X3 := cell_on hb1 X3; replace Y2 := cell_on hb1 Y2; replace Y3 := cell_on hb1 Y3; replace R0 := cell_on hb1 R0; replace R1 := cell_on hb1 R1; clear G0 G1; have G0 := J1; have G1 := J2; clear J1 J2; replace L := below_call L hb1)
      | (go_at_call 210; refine (hdv sh sl ws wt _).mono ?_; rintro r w2 ⟨qh, ql, rr, rfl, wq1, wq2, wr, E2, E3, hb2⟩; have J1 := frozen_on hb2 R0 G0; have J2 := frozen_on hb2 R1 G1; replace X2 := cell_on hb2 X2; replace X3 := cell_on hb2 X3; replace Y2 := cell_on hb2 Y2; replace Y3 := cell_on hb2 Y3; replace R0 := cell_on hb2 R0; replace R1 := cell_on hb2 R1; clear G0 G1; have G0 := J1; have G1 := J2; clear J1 J2; replace L := below_call L hb2))
  obtain ⟨n1, n2⟩ := D2.out sh sl qh ql rr ws wt wq1 wq2 E.out E2.out E3.out
  have HN : Hid (∀ s m b, rndQ s m b (nn qh ql) (p1 - U - p2) (rr != 0) = divT s m b u1.toNat p1 u2.toNat p2) := fun s m b => by rw [n1]; exact D1.out s m b _ n2
  clear n1 n2 D1 D2 E E2 E3 hsh hdv hlen
  obtain ⟨q3, q4⟩ := set2_in (w := w2) (b := w.heap.size + 1 + 1) (.int .u64 qh) (.int .u64 ql) R0 R1
  have q5 := set2_cell (w := w2) (b := w.heap.size + 1 + 1) (.int .u64 qh) (.int .u64 ql) (by omega) X3
  have q6 := set2_cell (w := w2) (b := w.heap.size + 1 + 1) (.int .u64 qh) (.int .u64 ql) (by omega) Y3
  have q7 : ((w2.setCell ⟨w.heap.size + 1 + 1, 0, none⟩ (.int .u64 qh)).setCell ⟨w.heap.size + 1 + 1, 1, none⟩ (.int .u64 ql)).frozen? ⟨w.heap.size + 1 + 1, 0, none⟩ = false := by simp [*]
  have q8 : ((w2.setCell ⟨w.heap.size + 1 + 1, 0, none⟩ (.int .u64 qh)).setCell ⟨w.heap.size + 1 + 1, 1, none⟩ (.int .u64 ql)).frozen? ⟨w.heap.size + 1 + 1, 1, none⟩ = false := by simp [*]
  have q9 : Below w.heap.size w ((w2.setCell ⟨w.heap.size + 1 + 1, 0, none⟩ (.int .u64 qh)).setCell ⟨w.heap.size + 1 + 1, 1, none⟩ (.int .u64 ql)) := (L.setCell (by show _ ≤ w.heap.size + 1 + 1; omega) _).setCell (by show _ ≤ w.heap.size + 1 + 1; omega) _
  generalize (w2.setCell ⟨w.heap.size + 1 + 1, 0, none⟩ (.int .u64 qh)).setCell ⟨w.heap.size + 1 + 1, 1, none⟩ (.int .u64 ql) = W at *
  clear X2 X3 Y2 Y3 R0 R1 G0 G1 L hb1 hb2
  go_wp2_with fail
  go_region
  go_wp2_with fail
  refine bodyPost_ret (v := .tuple #[.agg #[.int .u64 qh, .int .u64 ql], .int .i64 (p1 - U - p2), .bool (rr != 0)]) (by simp [results, Tryz.results202, go_sem, *]) rfl ?_
  exact ⟨_, _, _, _, rfl, wq1, wq2, by omega, by omega, HN, ((q9.setCell (by show _ ≤ w.heap.size + 1 + 1; omega) _).setCell (by show _ ≤ w.heap.size + 1 + 1; omega) _).drew⟩
end Go.Proofs.YteafnkimcidkhaaGreat
namespace Go.Proofs.YteafnkimcidkhaaGreat
open Go.RowKit
set_option linter.unusedVariables false
set_option linter.unusedSimpArgs false
end Go.Proofs.YteafnkimcidkhaaGreat
namespace Go.Proofs.YteafnkimcidkhaaGreat
open Go.RowKit
set_option linter.unusedVariables false
set_option linter.unusedSimpArgs false
def divF (s : Bool) (m a b : Int) : Int :=
  if (cls s a == 0 || cls s a == 5) || (cls s b == 0 || cls s b == 5) then fNan s
  else if (cls s a == 4 && cls s b == 4) || (cls s a == 1 && cls s b == 1) then fNan s
  else if cls s a == 4 || cls s b == 1 then sgnd s (sgn s a != sgn s b) (fI s)
  else if cls s b == 4 then sgnd s (sgn s a != sgn s b) 0
  else divT s m (sgn s a != sgn s b) (whl s a).toNat (pwr s a) (whl s b).toNat (pwr s b)
end Go.Proofs.YteafnkimcidkhaaGreat
namespace Go.Proofs.YteafnkimcidkhaaGreat
open Go.RowKit
set_option linter.unusedVariables false
set_option linter.unusedSimpArgs false
end Go.Proofs.YteafnkimcidkhaaGreat
namespace Go.Proofs.YteafnkimcidkhaaGreat
open Go.RowKit
set_option linter.unusedVariables false
set_option linter.unusedSimpArgs false
set_option maxRecDepth 8000 in
set_option maxHeartbeats 8000000 in
theorem div_fl (f m a b : Int) (h1 : Word a) (h2 : Word b) (w : World) :
    Calls Tryz.prog 179 #[.int .i64 f, .int .i64 m, .int .u64 a, .int .u64 b] w fun r w' => r = .returned (.int .u64 (divF (f == 1) m a b)) ∧ Below w.heap.size w w' := by
  have hda : ∀ (w : World) (n : Nat) (o : Obj), (w.drewN n).alloc o = (w.alloc o).drewN n := fun _ _ _ => rfl
  have hfo := formatOf_ex f
  have hrd := fun b h l e more wh wl e1 e2 => round_any f m b h l e more wh wl e1 e2
  generalize (f == 1) = s at *
  have F1 := fin_of s a h1
  have F2 := fin_of s b h2
  have hV : ∃ V, divF s m a b = V := ⟨_, rfl⟩
  obtain ⟨V, hV⟩ := hV
  rw [hV]
  unfold divF at hV
  have hn1 := noNumber_any (cls s a) (sgn s a) (whl s a) (pwr s a)
  have hn2 := noNumber_any (cls s b) (sgn s b) (whl s b) (pwr s b)
  have hi1 := isInfinite_any (cls s a) (sgn s a) (whl s a) (pwr s a)
  have hi2 := isInfinite_any (cls s b) (sgn s b) (whl s b) (pwr s b)
  have hz1 := isZero_any (cls s a) (sgn s a) (whl s a) (pwr s a)
  have hz2 := isZero_any (cls s b) (sgn s b) (whl s b) (pwr s b)
  have hsg := signed_two s
  simp only [fmtV_eq, fmtO_eq] at hsg
  have hnan := nan_ex s
  unfold prt prtO at hn1 hn2 hi1 hi2 hz1 hz2
  rw [fmtV_eq, fmtO_eq] at hnan
  generalize (cls s a == 0 || cls s a == 5) = N1 at *
  generalize (cls s b == 0 || cls s b == 5) = N2 at *
  generalize (cls s a == 4) = I1 at *
  generalize (cls s b == 4) = I2 at *
  generalize (cls s a == 1) = Z1 at *
  generalize (cls s b == 1) = Z2 at *
  have hsa := split_ex s a h1
  have hsb := split_ex s b h2
  rw [fmtV_eq] at hfo hsa hsb
  unfold prtV at hsa hsb
  generalize cls s a = k1 at *
  generalize cls s b = k2 at *
  generalize sgn s a = g1 at *
  generalize sgn s b = g2 at *
  generalize whl s a = u1 at *
  generalize whl s b = u2 at *
  generalize pwr s a = p1 at *
  generalize pwr s b = p2 at *
  have hG : ∃ G, (!(g1 == g2)) = G := ⟨_, rfl⟩
  obtain ⟨G, hG⟩ := hG
  rw [show (g1 != g2) = G from hG] at hV
  have HV : Hid _ := hV
  clear hV
  go_enter Tryz.func179, Tryz.ntmps179
  go_wp2_with (go_at_call 107; refine (hfo _).mono ?_; rintro r w1 ⟨rfl, o1, o2, rfl⟩)
  go_cut [9, 10, 11] from 18 to 23 (fun o p q wx => ∃ bf bx bz : Nat, o = .pointer (some ⟨bf, 0, none⟩) ∧ p = .pointer (some ⟨bx, 0, none⟩) ∧ q = .pointer (some ⟨bz, 0, none⟩) ∧ PrtAt wx bx k1 g1 u1 p1 ∧ PrtAt wx bz k2 g2 u2 p2 ∧ FmtAt wx bf s ∧ Below w.heap.size w wx)
  case first =>
    clear hn1 hn2 hi1 hi2 hnan HV F1 F2 hz1 hz2 hsg hrd hfo
    go_region_held3 (fun w' => w'.cell? ⟨w.heap.size + 1 + 1, 0, none⟩ = some (.int .i64 (fW s)) ∧ w'.cell? ⟨w.heap.size + 1 + 1, 1, none⟩ = some (.int .i64 (fQ s)) ∧ w'.cell? ⟨w.heap.size + 1 + 1, 2, none⟩ = some (.int .i64 (fL s)) ∧ w'.cell? ⟨w.heap.size + 1 + 1, 3, none⟩ = some (.int .u64 (fS s)) ∧ w'.cell? ⟨w.heap.size + 1 + 1, 4, none⟩ = some (.int .u64 (fI s)))
      (simp [go_sem, World.cell?_alloc_past])
      (first
        | (go_at_call_of 108 a; refine (hsa _).mono ?_; rintro r w2 ⟨rfl, o3, o4, o5, o6, n1, rfl⟩)
        | (go_at_call_of 108 b; refine (hsb _).mono ?_; rintro r w3 ⟨rfl, o7, o8, o9, oa, n2, rfl⟩))
    all_goals (go_wp2_with fail; go_meet)
    all_goals exact ⟨_, _, _, rfl, rfl, rfl, by unfold PrtAt; simp [go_sem, World.cell?_alloc_past], by unfold PrtAt; simp [go_sem, World.cell?_alloc_past], by unfold FmtAt; simp [go_sem, World.cell?_alloc_past], by repeat (first | with_reducible exact Below.refl _ _ | with_reducible refine below_new ?_ _ | with_reducible refine Below.drew ?_ | with_reducible refine below_dN ?_ _ | with_reducible refine Below.setCell ?_ (by simp; omega) _)⟩
  case rest =>
    obtain ⟨bf, bx, bz, rfl, rfl, rfl, ⟨x0, x1, x2, x3⟩, ⟨z0, z1, z2, z3⟩, ⟨y0, y1, y2, y3, y4⟩, L⟩ := hcut
    have lx := lt_new x0
    have lz := lt_new z0
    have ly := lt_new y0
    clear hfo hsa hsb
    have lx1 : bx < wc.heap.size + 1 := by omega
    have lx2 : bx < wc.heap.size + 1 + 1 := by omega
    have lx3 : bx < wc.heap.size + 1 + 1 + 1 := by omega
    have lx4 : bx < wc.heap.size + 1 + 1 + 1 + 1 := by omega
    have lx5 : bx < wc.heap.size + 1 + 1 + 1 + 1 + 1 := by omega
    have lx6 : bx < wc.heap.size + 1 + 1 + 1 + 1 + 1 + 1 := by omega
    have lx7 : bx < wc.heap.size + 1 + 1 + 1 + 1 + 1 + 1 + 1 := by omega
    have lx8 : bx < wc.heap.size + 1 + 1 + 1 + 1 + 1 + 1 + 1 + 1 := by omega
    have lz1 : bz < wc.heap.size + 1 := by omega
    have lz2 : bz < wc.heap.size + 1 + 1 := by omega
    have lz3 : bz < wc.heap.size + 1 + 1 + 1 := by omega
    have lz4 : bz < wc.heap.size + 1 + 1 + 1 + 1 := by omega
    have lz5 : bz < wc.heap.size + 1 + 1 + 1 + 1 + 1 := by omega
    have lz6 : bz < wc.heap.size + 1 + 1 + 1 + 1 + 1 + 1 := by omega
    have lz7 : bz < wc.heap.size + 1 + 1 + 1 + 1 + 1 + 1 + 1 := by omega
    have lz8 : bz < wc.heap.size + 1 + 1 + 1 + 1 + 1 + 1 + 1 + 1 := by omega
    have ly1 : bf < wc.heap.size + 1 := by omega
    have ly2 : bf < wc.heap.size + 1 + 1 := by omega
    have ly3 : bf < wc.heap.size + 1 + 1 + 1 := by omega
    have ly4 : bf < wc.heap.size + 1 + 1 + 1 + 1 := by omega
    have ly5 : bf < wc.heap.size + 1 + 1 + 1 + 1 + 1 := by omega
    have ly6 : bf < wc.heap.size + 1 + 1 + 1 + 1 + 1 + 1 := by omega
    have ly7 : bf < wc.heap.size + 1 + 1 + 1 + 1 + 1 + 1 + 1 := by omega
    have ly8 : bf < wc.heap.size + 1 + 1 + 1 + 1 + 1 + 1 + 1 + 1 := by omega
    cases N1
    · cases N2
      · cases I1
        · cases Z1
          · cases Z2
            · cases I2
              · have v := HV.out
                simp only [Bool.or_true, Bool.or_false, Bool.and_true, Bool.and_false, Bool.true_or, Bool.false_or, Bool.true_and, Bool.false_and, if_true, if_false, Bool.false_eq_true] at v
                have HW : Hid _ := v
                clear v HV
                obtain ⟨f1, _⟩ := F1 rfl rfl
                obtain ⟨f2, f3⟩ := F2 rfl rfl
                have c1 := f1.word; have c2 := f2.word
                have c3 := f1.low; have c4 := f2.low
                have c5 := f1.2.2.2.1; have c6 := f2.2.2.2.1
                have hqu := quotient_any k1 g1 u1 p1 k2 g2 u2 p2 c1 c2 (f3 rfl) f1.lt53 f2.lt53 (by omega) c5 (by omega) c6
                unfold prt at hqu
                go_wp2_with (first
                  | (go_at_call_of 109 k1; refine (hn1 _).mono ?_; rintro r w2 ⟨rfl, rfl⟩)
                  | (go_at_call_of 109 k2; refine (hn2 _).mono ?_; rintro r w2 ⟨rfl, rfl⟩)
                  | (go_at_call_of 111 k1; refine (hi1 _).mono ?_; rintro r w2 ⟨rfl, rfl⟩)
                  | (go_at_call_of 111 k2; refine (hi2 _).mono ?_; rintro r w2 ⟨rfl, rfl⟩)
                  | (go_at_call_of 113 k1; refine (hz1 _).mono ?_; rintro r w2 ⟨rfl, rfl⟩)
                  | (go_at_call_of 113 k2; refine (hz2 _).mono ?_; rintro r w2 ⟨rfl, rfl⟩)
                  | (go_at_call 110; refine (hnan _).mono ?_; rintro r w2 ⟨rfl, rfl⟩)
                  | (go_at_call 114; refine (hsg _ _ (by first | exact Or.inl rfl | exact Or.inr rfl) _).mono ?_; rintro r w2 ⟨rfl, rfl⟩))
                refine (hqu _).mono ?_
                rintro r w5 ⟨ah, al, x, more, rfl, wa, wb, x8, x9, E, hb5⟩
                replace L : Below w.heap.size w w5 := below_call (by repeat (first | with_reducible exact L | with_reducible refine below_new ?_ _ | with_reducible refine Below.drew ?_ | with_reducible refine below_dN ?_ _)) hb5
                have xa : -9223372036854775808 ≤ x := by omega
                have xb : x ≤ 9223372036854775807 := by omega
                have hcl : Hid _ := clamp_id x8 x9
                clear hb5 hqu
                go_wp2_with fail
                refine (hrd G ah al x more wa wb xa xb _).mono ?_
                rintro r w6 ⟨rfl, hb6⟩
                replace L := below_call (below_new L _) hb6
                go_wp2_with fail
                go_ret
                exact ⟨ru_eq (by rw [hcl.out, E.out]; exact HW.out), L⟩
              · have v := HV.out
                simp only [Bool.or_true, Bool.or_false, Bool.and_true, Bool.and_false, Bool.true_or, Bool.false_or, Bool.true_and, Bool.false_and, if_true, if_false, Bool.false_eq_true] at v
                subst v
                go_wp2_with (first
                  | (go_at_call_of 109 k1; refine (hn1 _).mono ?_; rintro r w2 ⟨rfl, rfl⟩)
                  | (go_at_call_of 109 k2; refine (hn2 _).mono ?_; rintro r w2 ⟨rfl, rfl⟩)
                  | (go_at_call_of 111 k1; refine (hi1 _).mono ?_; rintro r w2 ⟨rfl, rfl⟩)
                  | (go_at_call_of 111 k2; refine (hi2 _).mono ?_; rintro r w2 ⟨rfl, rfl⟩)
                  | (go_at_call_of 113 k1; refine (hz1 _).mono ?_; rintro r w2 ⟨rfl, rfl⟩)
                  | (go_at_call_of 113 k2; refine (hz2 _).mono ?_; rintro r w2 ⟨rfl, rfl⟩)
                  | (go_at_call 110; refine (hnan _).mono ?_; rintro r w2 ⟨rfl, rfl⟩)
                  | (go_at_call 114; refine (hsg _ _ (by first | exact Or.inl rfl | exact Or.inr rfl) _).mono ?_; rintro r w2 ⟨rfl, rfl⟩))
                go_ret
                exact ⟨rfl, (by repeat (first | with_reducible exact L | with_reducible refine below_new ?_ _ | with_reducible refine Below.drew ?_ | with_reducible refine below_dN ?_ _))⟩
            · have v := HV.out
              simp only [Bool.or_true, Bool.or_false, Bool.and_true, Bool.and_false, Bool.true_or, Bool.false_or, Bool.true_and, Bool.false_and, if_true, if_false, Bool.false_eq_true] at v
              subst v
              go_wp2_with (first
                | (go_at_call_of 109 k1; refine (hn1 _).mono ?_; rintro r w2 ⟨rfl, rfl⟩)
                | (go_at_call_of 109 k2; refine (hn2 _).mono ?_; rintro r w2 ⟨rfl, rfl⟩)
                | (go_at_call_of 111 k1; refine (hi1 _).mono ?_; rintro r w2 ⟨rfl, rfl⟩)
                | (go_at_call_of 111 k2; refine (hi2 _).mono ?_; rintro r w2 ⟨rfl, rfl⟩)
                | (go_at_call_of 113 k1; refine (hz1 _).mono ?_; rintro r w2 ⟨rfl, rfl⟩)
                | (go_at_call_of 113 k2; refine (hz2 _).mono ?_; rintro r w2 ⟨rfl, rfl⟩)
                | (go_at_call 110; refine (hnan _).mono ?_; rintro r w2 ⟨rfl, rfl⟩)
                | (go_at_call 114; refine (hsg _ _ (by first | exact Or.inl rfl | exact Or.inr rfl) _).mono ?_; rintro r w2 ⟨rfl, rfl⟩))
              go_ret
              exact ⟨rfl, (by repeat (first | with_reducible exact L | with_reducible refine below_new ?_ _ | with_reducible refine Below.drew ?_ | with_reducible refine below_dN ?_ _))⟩
          · cases Z2
            · cases I2
              · have v := HV.out
                simp only [Bool.or_true, Bool.or_false, Bool.and_true, Bool.and_false, Bool.true_or, Bool.false_or, Bool.true_and, Bool.false_and, if_true, if_false, Bool.false_eq_true] at v
                have HW : Hid _ := v
                clear v HV
                obtain ⟨f1, _⟩ := F1 rfl rfl
                obtain ⟨f2, f3⟩ := F2 rfl rfl
                have c1 := f1.word; have c2 := f2.word
                have c3 := f1.low; have c4 := f2.low
                have c5 := f1.2.2.2.1; have c6 := f2.2.2.2.1
                have hqu := quotient_any k1 g1 u1 p1 k2 g2 u2 p2 c1 c2 (f3 rfl) f1.lt53 f2.lt53 (by omega) c5 (by omega) c6
                unfold prt at hqu
                go_wp2_with (first
                  | (go_at_call_of 109 k1; refine (hn1 _).mono ?_; rintro r w2 ⟨rfl, rfl⟩)
                  | (go_at_call_of 109 k2; refine (hn2 _).mono ?_; rintro r w2 ⟨rfl, rfl⟩)
                  | (go_at_call_of 111 k1; refine (hi1 _).mono ?_; rintro r w2 ⟨rfl, rfl⟩)
                  | (go_at_call_of 111 k2; refine (hi2 _).mono ?_; rintro r w2 ⟨rfl, rfl⟩)
                  | (go_at_call_of 113 k1; refine (hz1 _).mono ?_; rintro r w2 ⟨rfl, rfl⟩)
                  | (go_at_call_of 113 k2; refine (hz2 _).mono ?_; rintro r w2 ⟨rfl, rfl⟩)
                  | (go_at_call 110; refine (hnan _).mono ?_; rintro r w2 ⟨rfl, rfl⟩)
                  | (go_at_call 114; refine (hsg _ _ (by first | exact Or.inl rfl | exact Or.inr rfl) _).mono ?_; rintro r w2 ⟨rfl, rfl⟩))
                refine (hqu _).mono ?_
                rintro r w5 ⟨ah, al, x, more, rfl, wa, wb, x8, x9, E, hb5⟩
                replace L : Below w.heap.size w w5 := below_call (by repeat (first | with_reducible exact L | with_reducible refine below_new ?_ _ | with_reducible refine Below.drew ?_ | with_reducible refine below_dN ?_ _)) hb5
                have xa : -9223372036854775808 ≤ x := by omega
                have xb : x ≤ 9223372036854775807 := by omega
                have hcl : Hid _ := clamp_id x8 x9
                clear hb5 hqu
                go_wp2_with fail
                refine (hrd G ah al x more wa wb xa xb _).mono ?_
                rintro r w6 ⟨rfl, hb6⟩
                replace L := below_call (below_new L _) hb6
                go_wp2_with fail
                go_ret
                exact ⟨ru_eq (by rw [hcl.out, E.out]; exact HW.out), L⟩
              · have v := HV.out
                simp only [Bool.or_true, Bool.or_false, Bool.and_true, Bool.and_false, Bool.true_or, Bool.false_or, Bool.true_and, Bool.false_and, if_true, if_false, Bool.false_eq_true] at v
                subst v
                go_wp2_with (first
                  | (go_at_call_of 109 k1; refine (hn1 _).mono ?_; rintro r w2 ⟨rfl, rfl⟩)
                  | (go_at_call_of 109 k2; refine (hn2 _).mono ?_; rintro r w2 ⟨rfl, rfl⟩)
                  | (go_at_call_of 111 k1; refine (hi1 _).mono ?_; rintro r w2 ⟨rfl, rfl⟩)
                  | (go_at_call_of 111 k2; refine (hi2 _).mono ?_; rintro r w2 ⟨rfl, rfl⟩)
                  | (go_at_call_of 113 k1; refine (hz1 _).mono ?_; rintro r w2 ⟨rfl, rfl⟩)
                  | (go_at_call_of 113 k2; refine (hz2 _).mono ?_; rintro r w2 ⟨rfl, rfl⟩)
                  | (go_at_call 110; refine (hnan _).mono ?_; rintro r w2 ⟨rfl, rfl⟩)
                  | (go_at_call 114; refine (hsg _ _ (by first | exact Or.inl rfl | exact Or.inr rfl) _).mono ?_; rintro r w2 ⟨rfl, rfl⟩))
                go_ret
                exact ⟨rfl, (by repeat (first | with_reducible exact L | with_reducible refine below_new ?_ _ | with_reducible refine Below.drew ?_ | with_reducible refine below_dN ?_ _))⟩
            · have v := HV.out
              simp only [Bool.or_true, Bool.or_false, Bool.and_true, Bool.and_false, Bool.true_or, Bool.false_or, Bool.true_and, Bool.false_and, if_true, if_false, Bool.false_eq_true] at v
              subst v
              go_wp2_with (first
                | (go_at_call_of 109 k1; refine (hn1 _).mono ?_; rintro r w2 ⟨rfl, rfl⟩)
                | (go_at_call_of 109 k2; refine (hn2 _).mono ?_; rintro r w2 ⟨rfl, rfl⟩)
                | (go_at_call_of 111 k1; refine (hi1 _).mono ?_; rintro r w2 ⟨rfl, rfl⟩)
                | (go_at_call_of 111 k2; refine (hi2 _).mono ?_; rintro r w2 ⟨rfl, rfl⟩)
                | (go_at_call_of 113 k1; refine (hz1 _).mono ?_; rintro r w2 ⟨rfl, rfl⟩)
                | (go_at_call_of 113 k2; refine (hz2 _).mono ?_; rintro r w2 ⟨rfl, rfl⟩)
                | (go_at_call 110; refine (hnan _).mono ?_; rintro r w2 ⟨rfl, rfl⟩)
                | (go_at_call 114; refine (hsg _ _ (by first | exact Or.inl rfl | exact Or.inr rfl) _).mono ?_; rintro r w2 ⟨rfl, rfl⟩))
              go_ret
              exact ⟨rfl, (by repeat (first | with_reducible exact L | with_reducible refine below_new ?_ _ | with_reducible refine Below.drew ?_ | with_reducible refine below_dN ?_ _))⟩
        · cases I2
          · cases Z1
            · have v := HV.out
              simp only [Bool.or_true, Bool.or_false, Bool.and_true, Bool.and_false, Bool.true_or, Bool.false_or, Bool.true_and, Bool.false_and, if_true, if_false, Bool.false_eq_true] at v
              subst v
              go_wp2_with (first
                | (go_at_call_of 109 k1; refine (hn1 _).mono ?_; rintro r w2 ⟨rfl, rfl⟩)
                | (go_at_call_of 109 k2; refine (hn2 _).mono ?_; rintro r w2 ⟨rfl, rfl⟩)
                | (go_at_call_of 111 k1; refine (hi1 _).mono ?_; rintro r w2 ⟨rfl, rfl⟩)
                | (go_at_call_of 111 k2; refine (hi2 _).mono ?_; rintro r w2 ⟨rfl, rfl⟩)
                | (go_at_call_of 113 k1; refine (hz1 _).mono ?_; rintro r w2 ⟨rfl, rfl⟩)
                | (go_at_call_of 113 k2; refine (hz2 _).mono ?_; rintro r w2 ⟨rfl, rfl⟩)
                | (go_at_call 110; refine (hnan _).mono ?_; rintro r w2 ⟨rfl, rfl⟩)
                | (go_at_call 114; refine (hsg _ _ (by first | exact Or.inl rfl | exact Or.inr rfl) _).mono ?_; rintro r w2 ⟨rfl, rfl⟩))
              go_ret
              exact ⟨rfl, (by repeat (first | with_reducible exact L | with_reducible refine below_new ?_ _ | with_reducible refine Below.drew ?_ | with_reducible refine below_dN ?_ _))⟩
            · cases Z2
              · have v := HV.out
                simp only [Bool.or_true, Bool.or_false, Bool.and_true, Bool.and_false, Bool.true_or, Bool.false_or, Bool.true_and, Bool.false_and, if_true, if_false, Bool.false_eq_true] at v
                subst v
                go_wp2_with (first
                  | (go_at_call_of 109 k1; refine (hn1 _).mono ?_; rintro r w2 ⟨rfl, rfl⟩)
                  | (go_at_call_of 109 k2; refine (hn2 _).mono ?_; rintro r w2 ⟨rfl, rfl⟩)
                  | (go_at_call_of 111 k1; refine (hi1 _).mono ?_; rintro r w2 ⟨rfl, rfl⟩)
                  | (go_at_call_of 111 k2; refine (hi2 _).mono ?_; rintro r w2 ⟨rfl, rfl⟩)
                  | (go_at_call_of 113 k1; refine (hz1 _).mono ?_; rintro r w2 ⟨rfl, rfl⟩)
                  | (go_at_call_of 113 k2; refine (hz2 _).mono ?_; rintro r w2 ⟨rfl, rfl⟩)
                  | (go_at_call 110; refine (hnan _).mono ?_; rintro r w2 ⟨rfl, rfl⟩)
                  | (go_at_call 114; refine (hsg _ _ (by first | exact Or.inl rfl | exact Or.inr rfl) _).mono ?_; rintro r w2 ⟨rfl, rfl⟩))
                go_ret
                exact ⟨rfl, (by repeat (first | with_reducible exact L | with_reducible refine below_new ?_ _ | with_reducible refine Below.drew ?_ | with_reducible refine below_dN ?_ _))⟩
              · have v := HV.out
                simp only [Bool.or_true, Bool.or_false, Bool.and_true, Bool.and_false, Bool.true_or, Bool.false_or, Bool.true_and, Bool.false_and, if_true, if_false, Bool.false_eq_true] at v
                subst v
                go_wp2_with (first
                  | (go_at_call_of 109 k1; refine (hn1 _).mono ?_; rintro r w2 ⟨rfl, rfl⟩)
                  | (go_at_call_of 109 k2; refine (hn2 _).mono ?_; rintro r w2 ⟨rfl, rfl⟩)
                  | (go_at_call_of 111 k1; refine (hi1 _).mono ?_; rintro r w2 ⟨rfl, rfl⟩)
                  | (go_at_call_of 111 k2; refine (hi2 _).mono ?_; rintro r w2 ⟨rfl, rfl⟩)
                  | (go_at_call_of 113 k1; refine (hz1 _).mono ?_; rintro r w2 ⟨rfl, rfl⟩)
                  | (go_at_call_of 113 k2; refine (hz2 _).mono ?_; rintro r w2 ⟨rfl, rfl⟩)
                  | (go_at_call 110; refine (hnan _).mono ?_; rintro r w2 ⟨rfl, rfl⟩)
                  | (go_at_call 114; refine (hsg _ _ (by first | exact Or.inl rfl | exact Or.inr rfl) _).mono ?_; rintro r w2 ⟨rfl, rfl⟩))
                go_ret
                exact ⟨rfl, (by repeat (first | with_reducible exact L | with_reducible refine below_new ?_ _ | with_reducible refine Below.drew ?_ | with_reducible refine below_dN ?_ _))⟩
          · have v := HV.out
            simp only [Bool.or_true, Bool.or_false, Bool.and_true, Bool.and_false, Bool.true_or, Bool.false_or, Bool.true_and, Bool.false_and, if_true, if_false, Bool.false_eq_true] at v
            subst v
            go_wp2_with (first
              | (go_at_call_of 109 k1; refine (hn1 _).mono ?_; rintro r w2 ⟨rfl, rfl⟩)
              | (go_at_call_of 109 k2; refine (hn2 _).mono ?_; rintro r w2 ⟨rfl, rfl⟩)
              | (go_at_call_of 111 k1; refine (hi1 _).mono ?_; rintro r w2 ⟨rfl, rfl⟩)
              | (go_at_call_of 111 k2; refine (hi2 _).mono ?_; rintro r w2 ⟨rfl, rfl⟩)
              | (go_at_call_of 113 k1; refine (hz1 _).mono ?_; rintro r w2 ⟨rfl, rfl⟩)
              | (go_at_call_of 113 k2; refine (hz2 _).mono ?_; rintro r w2 ⟨rfl, rfl⟩)
              | (go_at_call 110; refine (hnan _).mono ?_; rintro r w2 ⟨rfl, rfl⟩)
              | (go_at_call 114; refine (hsg _ _ (by first | exact Or.inl rfl | exact Or.inr rfl) _).mono ?_; rintro r w2 ⟨rfl, rfl⟩))
            go_ret
            exact ⟨rfl, (by repeat (first | with_reducible exact L | with_reducible refine below_new ?_ _ | with_reducible refine Below.drew ?_ | with_reducible refine below_dN ?_ _))⟩
      · have v := HV.out
        simp only [Bool.or_true, Bool.or_false, Bool.and_true, Bool.and_false, Bool.true_or, Bool.false_or, Bool.true_and, Bool.false_and, if_true, if_false, Bool.false_eq_true] at v
        subst v
        go_wp2_with (first
          | (go_at_call_of 109 k1; refine (hn1 _).mono ?_; rintro r w2 ⟨rfl, rfl⟩)
          | (go_at_call_of 109 k2; refine (hn2 _).mono ?_; rintro r w2 ⟨rfl, rfl⟩)
          | (go_at_call_of 111 k1; refine (hi1 _).mono ?_; rintro r w2 ⟨rfl, rfl⟩)
          | (go_at_call_of 111 k2; refine (hi2 _).mono ?_; rintro r w2 ⟨rfl, rfl⟩)
          | (go_at_call_of 113 k1; refine (hz1 _).mono ?_; rintro r w2 ⟨rfl, rfl⟩)
          | (go_at_call_of 113 k2; refine (hz2 _).mono ?_; rintro r w2 ⟨rfl, rfl⟩)
          | (go_at_call 110; refine (hnan _).mono ?_; rintro r w2 ⟨rfl, rfl⟩)
          | (go_at_call 114; refine (hsg _ _ (by first | exact Or.inl rfl | exact Or.inr rfl) _).mono ?_; rintro r w2 ⟨rfl, rfl⟩))
        go_ret
        exact ⟨rfl, (by repeat (first | with_reducible exact L | with_reducible refine below_new ?_ _ | with_reducible refine Below.drew ?_ | with_reducible refine below_dN ?_ _))⟩
    · have v := HV.out
      simp only [Bool.or_true, Bool.or_false, Bool.and_true, Bool.and_false, Bool.true_or, Bool.false_or, Bool.true_and, Bool.false_and, if_true, if_false, Bool.false_eq_true] at v
      subst v
      go_wp2_with (first
        | (go_at_call_of 109 k1; refine (hn1 _).mono ?_; rintro r w2 ⟨rfl, rfl⟩)
        | (go_at_call_of 109 k2; refine (hn2 _).mono ?_; rintro r w2 ⟨rfl, rfl⟩)
        | (go_at_call_of 111 k1; refine (hi1 _).mono ?_; rintro r w2 ⟨rfl, rfl⟩)
        | (go_at_call_of 111 k2; refine (hi2 _).mono ?_; rintro r w2 ⟨rfl, rfl⟩)
        | (go_at_call_of 113 k1; refine (hz1 _).mono ?_; rintro r w2 ⟨rfl, rfl⟩)
        | (go_at_call_of 113 k2; refine (hz2 _).mono ?_; rintro r w2 ⟨rfl, rfl⟩)
        | (go_at_call 110; refine (hnan _).mono ?_; rintro r w2 ⟨rfl, rfl⟩)
        | (go_at_call 114; refine (hsg _ _ (by first | exact Or.inl rfl | exact Or.inr rfl) _).mono ?_; rintro r w2 ⟨rfl, rfl⟩))
      go_ret
      exact ⟨rfl, (by repeat (first | with_reducible exact L | with_reducible refine below_new ?_ _ | with_reducible refine Below.drew ?_ | with_reducible refine below_dN ?_ _))⟩
end Go.Proofs.YteafnkimcidkhaaGreat
namespace Go.Proofs.YteafnkimcidkhaaGreat
open Go.RowKit
set_option linter.unusedVariables false
set_option linter.unusedSimpArgs false
end Go.Proofs.YteafnkimcidkhaaGreat
namespace Go.Proofs.YteafnkimcidkhaaGreat
open Go.RowKit
set_option linter.unusedVariables false
set_option linter.unusedSimpArgs false
def subF (s : Bool) (m a b : Int) : Int := addF s m a (negF s b)
theorem sub_fl (f m a b : Int) (h1 : Word a) (h2 : Word b) (w : World) :
    Calls Tryz.prog 178 #[.int .i64 f, .int .i64 m, .int .u64 a, .int .u64 b] w fun r w' => r = .returned (.int .u64 (subF (f == 1) m a b)) ∧ Below w.heap.size w w' := by
  have hn := neg_fl f b h2
  have ha := add_fl f m a (negF (f == 1) b) h1 (negF_word _ b h2)
  unfold subF
  go_enter Tryz.func178, Tryz.ntmps178
  go_wp2_with fail
  refine (hn _).mono ?_
  rintro r w1 ⟨rfl, hb1⟩
  go_wp2_with fail
  refine (ha _).mono ?_
  rintro r w2 ⟨rfl, hb2⟩
  go_wp2_with fail
  go_ret
  exact ⟨rfl, below_call hb1 hb2⟩
end Go.Proofs.YteafnkimcidkhaaGreat
namespace Go.Proofs.YteafnkimcidkhaaGreat
open Go.RowKit
set_option linter.unusedVariables false
set_option linter.unusedSimpArgs false
end Go.Proofs.YteafnkimcidkhaaGreat
namespace Go.Proofs.YteafnkimcidkhaaGreat
open Go.RowKit
set_option linter.unusedVariables false
set_option linter.unusedSimpArgs false
end Go.Proofs.YteafnkimcidkhaaGreat


namespace Go.Proofs.YteafnkimcidkhaaGreat
open Go.RowKit
set_option linter.unusedVariables false
set_option linter.unusedSimpArgs false
end Go.Proofs.YteafnkimcidkhaaGreat
namespace Go.Proofs.YteafnkimcidkhaaGreat
open Go.RowKit
set_option linter.unusedVariables false
set_option linter.unusedSimpArgs false
theorem xor_lo (x i : Nat) (h : x < 2 ^ i) : x ^^^ 2 ^ i = x + 2 ^ i := by
  have k := Nat.two_pow_add_eq_or_of_lt h 1
  rw [Nat.mul_one] at k
  rw [Nat.add_comm, k]
  apply Nat.eq_of_testBit_eq
  intro j
  rw [Nat.testBit_xor, Nat.testBit_or, Nat.testBit_two_pow]
  by_cases c : i = j
  · subst c
    rw [Nat.testBit_lt_two_pow h]
    simp
  · simp [c]
theorem xor_hi (x i : Nat) (h : x < 2 ^ i) : (x + 2 ^ i) ^^^ 2 ^ i = x := by
  rw [← xor_lo x i h, Nat.xor_assoc, Nat.xor_self, Nat.xor_zero]
theorem xor_sgnd (s b : Bool) (z : Int) (h0 : 0 ≤ z) (h : z < fS s) : bits BinOp.xor IntKind.u64 (sgnd s b z) (fS s) = sgnd s (!b) z := by
  obtain ⟨x, rfl⟩ := Int.eq_ofNat_of_zero_le h0
  unfold sgnd
  cases s
  · have q : fS false = ((9223372036854775808 : Nat) : Int) := rfl
    rw [q] at h ⊢
    cases b
    · have t := u64_xor_nat x 9223372036854775808 (by omega) (by decide)
      have k := xor_lo x 63 (by omega)
      rw [show (2 : Nat) ^ 63 = 9223372036854775808 by decide] at k
      rw [k] at t
      simpa using t
    · have t := u64_xor_nat (x + 9223372036854775808) 9223372036854775808 (by omega) (by decide)
      have k := xor_hi x 63 (by omega)
      rw [show (2 : Nat) ^ 63 = 9223372036854775808 by decide] at k
      rw [k] at t
      simpa using t
  · have q : fS true = ((2147483648 : Nat) : Int) := rfl
    rw [q] at h ⊢
    cases b
    · have t := u64_xor_nat x 2147483648 (by omega) (by decide)
      have k := xor_lo x 31 (by omega)
      rw [show (2 : Nat) ^ 31 = 2147483648 by decide] at k
      rw [k] at t
      simpa using t
    · have t := u64_xor_nat (x + 2147483648) 2147483648 (by omega) (by decide)
      have k := xor_hi x 31 (by omega)
      rw [show (2 : Nat) ^ 31 = 2147483648 by decide] at k
      rw [k] at t
      simpa using t
theorem neg_made (s b : Bool) (z : Int) (h0 : 0 ≤ z) (h : z ≤ fI s) : negF s (sgnd s b z) = sgnd s (!b) z := by
  unfold negF
  rw [num_made s b z h0 h, if_neg (by decide), xor_sgnd s b z h0 (by have := fI_lt s; omega)]
end Go.Proofs.YteafnkimcidkhaaGreat
namespace Go.Proofs.YteafnkimcidkhaaGreat
open Go.RowKit
set_option linter.unusedVariables false
set_option linter.unusedSimpArgs false
end Go.Proofs.YteafnkimcidkhaaGreat
namespace Go.Proofs.YteafnkimcidkhaaGreat
open Go.RowKit
set_option linter.unusedVariables false
set_option linter.unusedSimpArgs false
end Go.Proofs.YteafnkimcidkhaaGreat
namespace Go.Proofs.YteafnkimcidkhaaGreat
open Go.RowKit
set_option linter.unusedVariables false
set_option linter.unusedSimpArgs false
end Go.Proofs.YteafnkimcidkhaaGreat
namespace Go.Proofs.YteafnkimcidkhaaGreat
open Go.RowKit
set_option linter.unusedVariables false
set_option linter.unusedSimpArgs false
end Go.Proofs.YteafnkimcidkhaaGreat
namespace Go.Proofs.YteafnkimcidkhaaGreat
open Go.RowKit
set_option linter.unusedVariables false
set_option linter.unusedSimpArgs false
theorem fromInt_any (f m n : Int) (h1 : -9223372036854775808 ≤ n) (h2 : n ≤ 9223372036854775807) (w : World) :
    Calls Tryz.prog 51 #[.int .i64 f, .int .i64 m, .int .i64 n] w fun e w' => e = .returned (.int .u64 (rnd (f == 1) m (decide (n < 0)) n.natAbs 0)) ∧ Below w.heap.size w w' := by
  have hz : ∀ u : Int, 0 ≤ u → nn 0 u = u.toNat := fun u hu => by unfold nn num; congr 1; omega
  have hc0 : clamp 0 = 0 := rfl
  by_cases c : n < 0
  · have wn : Word (-n) := ⟨by omega, by omega⟩
    have hr := round_any f m true 0 (-n) 0 false word_zero wn (by decide) (by decide)
    rw [hc0, hz (-n) (by omega), rndQ_false, show (-n).toNat = n.natAbs by omega] at hr
    rw [decide_eq_true c]
    generalize rnd (f == 1) m true n.natAbs 0 = V at *
    have e1 : IntKind.u64.wrap n = n + 18446744073709551616 := by rw [IntKind.wrap_u64]; omega
    have e2 : IntKind.u64.wrap (-(n + 18446744073709551616)) = -n := by rw [IntKind.wrap_u64]; omega
    go_enter Tryz.func51, Tryz.ntmps51
    go_wp2_with (go_at_call 102; refine (hr _).mono ?_; rintro e wd ⟨rfl, hd⟩)
    go_ret
    exact ⟨rfl, hd⟩
  · have wn : Word n := ⟨by omega, by omega⟩
    have hr := round_any f m false 0 n 0 false word_zero wn (by decide) (by decide)
    rw [hc0, hz n (by omega), rndQ_false, show n.toNat = n.natAbs by omega] at hr
    rw [decide_eq_false c]
    generalize rnd (f == 1) m false n.natAbs 0 = V at *
    have c' : 0 ≤ n := by omega
    have e1 : IntKind.u64.wrap n = n := by rw [IntKind.wrap_u64]; omega
    go_enter Tryz.func51, Tryz.ntmps51
    go_wp2_with (go_at_call 102; refine (hr _).mono ?_; rintro e wd ⟨rfl, hd⟩)
    go_ret
    exact ⟨rfl, hd⟩
end Go.Proofs.YteafnkimcidkhaaGreat
namespace Go.Proofs.YteafnkimcidkhaaGreat
open Go.RowKit
set_option linter.unusedVariables false
set_option linter.unusedSimpArgs false
theorem n_word (s b : Bool) (z : Nat) (h : (z : Int) < fI s) : Word (sgnd s b z) := (made s b z (by omega) (by have := fI_lt s; omega)).1
theorem n_pos (s : Bool) (z : Nat) (h : (z : Int) < fI s) : nextF s (z : Int) = if (z : Int) = fI s - 1 then (z : Int) else (z : Int) + 1 := by
  have l := fI_lt s
  have e : sgnd s false (z : Int) = z := rfl
  obtain ⟨_, _, m3, m4⟩ := made s false z (by omega) (by omega)
  have f := n_fin s false z h
  rw [e] at m3 m4 f
  unfold nextF
  rw [f, m3, m4]
  simp only [if_true, Bool.false_eq_true, if_false]
  by_cases c : (z : Int) = fI s - 1
  · rw [if_pos c, if_pos c]
  · rw [if_neg c, if_neg c]
    by_cases c0 : (z : Int) = 0
    · rw [if_pos c0, c0]; rfl
    · rw [if_neg c0]
theorem n_neg0 (s : Bool) : nextF s (sgnd s true 0) = 1 := by cases s <;> decide +kernel
theorem n_neg (s : Bool) (z : Nat) (h0 : z ≠ 0) (h : (z : Int) < fI s) : nextF s (sgnd s true z) = if z = 1 then 0 else sgnd s true ((z - 1 : Nat) : Int) := by
  have l := fI_lt s
  obtain ⟨_, _, m3, m4⟩ := made s true z (by omega) (by omega)
  have f := n_fin s true z h
  unfold nextF
  rw [f, m3, m4]
  simp only [if_true]
  have ne : ¬ sgnd s true (z : Int) = fI s - 1 := by unfold sgnd; simp only [if_true]; omega
  rw [if_neg ne, if_neg (show ¬ (z : Int) = 0 by omega)]
  have e : sgnd s true (z : Int) - 1 = sgnd s true ((z - 1 : Nat) : Int) := by unfold sgnd; simp only [if_true]; omega
  rw [e, n_plain s true (z - 1) (by omega)]
  by_cases c : z = 1
  · rw [if_pos c, if_pos (by omega)]
  · rw [if_neg c, if_neg (by omega)]
theorem n_rnk (s b : Bool) (z : Nat) (h : (z : Int) < fI s) : rnk s (sgnd s b z) = if b then -(z : Int) else z := by
  have l := fI_lt s
  obtain ⟨_, _, m3, m4⟩ := made s b z (by omega) (by omega)
  unfold rnk
  rw [m3, m4]
structure NextIs (s : Bool) (a n : Int) : Prop where
  wa : Word a
  wn : Word n
  fa : finF s a = true
  fn : finF s n = true
  back : prevF s n = a
  one : rnk s n = rnk s a + 1
theorem n_step (s : Bool) (a : Int) (h : Word a) (f : finF s a = true) (ne : plainF s a ≠ fI s - 1) : NextIs s (plainF s a) (nextF s (plainF s a)) := by
  obtain ⟨b, z, rfl, hz⟩ := n_made s a h f
  have l := fI_lt s
  have lp : 1 < fI s := by cases s <;> decide
  rw [n_plain s b z hz] at ne ⊢
  by_cases c : b = true ∧ z ≠ 0
  · obtain ⟨rfl, z0⟩ := c
    rw [if_neg z0] at ne ⊢
    have e1 := n_neg s z z0 hz
    by_cases z1 : z = 1
    · subst z1
      rw [if_pos rfl] at e1
      rw [e1]
      have w0 : Word 0 := ⟨by decide, by decide⟩
      have ez : sgnd s false ((0 : Nat) : Int) = 0 := rfl
      refine ⟨n_word s true 1 hz, w0, f, n_fin s false 0 (by omega), ?_, ?_⟩
      · unfold prevF
        have g0 : negF s 0 = sgnd s true 0 := neg_made s false 0 (by omega) (by omega)
        have g1 : negF s 1 = sgnd s true ((1 : Nat) : Int) := neg_made s false 1 (by omega) (by omega)
        rw [g0, n_neg0, g1, n_plain s true 1 hz, if_neg (by decide)]
      · rw [n_rnk s true 1 hz, show (0 : Int) = sgnd s false ((0 : Nat) : Int) from rfl, n_rnk s false 0 (by omega)]
        rfl
    · rw [if_neg z1] at e1
      rw [e1]
      have hz' : ((z - 1 : Nat) : Int) < fI s := by omega
      refine ⟨n_word s true z hz, n_word s true _ hz', f, n_fin s true _ hz', ?_, ?_⟩
      · unfold prevF
        rw [neg_made s true ((z - 1 : Nat) : Int) (by omega) (by omega)]
        have e2 : nextF s (sgnd s (!true) ((z - 1 : Nat) : Int)) = (z : Int) := by
          have t := n_pos s (z - 1) hz'
          rw [if_neg (by omega)] at t
          refine t.trans ?_
          omega
        rw [e2]
        have g1 : negF s (z : Int) = sgnd s true (z : Int) := neg_made s false z (by omega) (by omega)
        rw [g1, n_plain s true z hz, if_neg z0]
      · rw [n_rnk s true z hz, n_rnk s true (z - 1) hz']
        simp only [if_true]
        omega
  · have ea : (if z = 0 then 0 else sgnd s b (z : Int)) = (z : Int) := by
      by_cases z0 : z = 0
      · rw [if_pos z0, z0]; rfl
      · rw [if_neg z0]
        cases b
        · rfl
        · exact absurd ⟨rfl, z0⟩ c
    rw [ea] at ne ⊢
    have e1 := n_pos s z hz
    rw [if_neg ne] at e1
    have hz' : ((z + 1 : Nat) : Int) < fI s := by omega
    have e1' : nextF s (z : Int) = ((z + 1 : Nat) : Int) := by rw [e1]; omega
    rw [e1']
    refine ⟨n_word s false z hz, n_word s false (z + 1) hz', n_fin s false z hz, n_fin s false (z + 1) hz', ?_, ?_⟩
    · unfold prevF
      have g1 : negF s ((z + 1 : Nat) : Int) = sgnd s true ((z + 1 : Nat) : Int) := neg_made s false ((z + 1 : Nat) : Int) (by omega) (by omega)
      rw [g1, n_neg s (z + 1) (by omega) hz']
      by_cases z0 : z = 0
      · subst z0
        rw [if_pos rfl]
        have g0 : negF s 0 = sgnd s true ((0 : Nat) : Int) := neg_made s false 0 (by omega) (by omega)
        rw [g0, n_plain s true 0 hz, if_pos rfl]
        rfl
      · rw [if_neg (by omega), Nat.add_sub_cancel, neg_made s true (z : Int) (by omega) (by omega)]
        have t := n_plain s false z hz
        rw [if_neg z0] at t
        exact t
    · have r1 := n_rnk s false z hz
      have r2 := n_rnk s false (z + 1) hz'
      have r1' : rnk s (z : Int) = z := r1
      have r2' : rnk s ((z + 1 : Nat) : Int) = ((z + 1 : Nat) : Int) := r2
      rw [r1', r2']
      omega
end Go.Proofs.YteafnkimcidkhaaGreat
namespace Go.Proofs.YteafnkimcidkhaaGreat
open Go.RowKit
set_option linter.unusedVariables false
set_option linter.unusedSimpArgs false
theorem self_cls (s b : Bool) (z : Nat) (z0 : z ≠ 0) (h : (z : Int) < fI s) : (cls s (sgnd s b z) == 0 || cls s (sgnd s b z) == 5) = false ∧ (cls s (sgnd s b z) == 4) = false ∧ (cls s (sgnd s b z) == 1) = false := by
  have l := fI_lt s
  have e := cls_made s b z (by omega) (by omega)
  rw [if_neg (by omega), if_neg (by omega), if_neg (by omega)] at e
  rw [e]
  split <;> exact ⟨rfl, rfl, rfl⟩
end Go.Proofs.YteafnkimcidkhaaGreat
namespace Go.Proofs.YteafnkimcidkhaaGreat
open Go.RowKit
set_option linter.unusedVariables false
end Go.Proofs.YteafnkimcidkhaaGreat
namespace Go.Proofs.YteafnkimcidkhaaGreat
open Go.RowKit
set_option linter.unusedVariables false
theorem divF_word (s : Bool) (m a b : Int) : Word (divF s m a b) := by
  unfold divF
  split
  · exact nan_word s
  · split
    · exact nan_word s
    · split
      · exact sgnd_word s _ _ (fI_pos s) (Int.le_refl _)
      · split
        · exact sgnd_word s _ _ (Int.le_refl _) (fI_pos s)
        · exact rnd_word _ _ _ _ _
def byF (op : Int) (s : Bool) (m a b : Int) : Int := if op = 8 then addF s m a b else if op = 9 then subF s m a b else if op = 10 then mulF s m a b else divF s m a b
theorem byF_word (op : Int) (s : Bool) (m a b : Int) (h1 : Word a) (h2 : Word b) : Word (byF op s m a b) := by
  unfold byF
  split
  · exact addF_word s m a b h1 h2
  · split
    · exact addF_word s m a _ h1 (negF_word s b h2)
    · split
      · exact mulF_word s m a b
      · exact divF_word s m a b
end Go.Proofs.YteafnkimcidkhaaGreat
namespace Go.Proofs.YteafnkimcidkhaaGreat
open Go.RowKit
set_option linter.unusedVariables false
set_option linter.unusedSimpArgs false
end Go.Proofs.YteafnkimcidkhaaGreat


namespace Go.Proofs.YteafnkimcidkhaaGreat
open Go.RowKit Go.Shelf
set_option linter.unusedVariables false
set_option linter.unusedSimpArgs false
attribute [local go_sem] Oper.semAt_some
theorem TIi.stable {A : Ways} {L : Ln} {T : Int} {p : Nat} {W0 : World} {n : Nat} (hp : p + 1 < n) (hn : W0.heap.size ≤ n) : Stable n (TIi A L T p W0) := fun pre V V' h hb =>
  ⟨(hb.cell (p := ⟨p, 0, none⟩) (by simp; omega)).trans h.c0, (hb.cell (p := ⟨p, 1, none⟩) (by simp; omega)).trans h.c1, (hb.cell (p := ⟨p, 2, none⟩) (by simp; omega)).trans h.c2, (hb.cell (p := ⟨p + 1, 0, none⟩) (by simp; omega)).trans h.ct,
    fun j => (hb.frozen (p := ⟨p, j, none⟩) (by simp; omega)).trans (h.fp j), (hb.frozen (p := ⟨p + 1, 0, none⟩) (by simp; omega)).trans h.ft, stable_but (β := Unit) hn () V V' h.but hb⟩
end Go.Proofs.YteafnkimcidkhaaGreat


namespace Go.Proofs.YteafnkimcidkhaaGreat
theorem ordI_pos (x y : Int) : 0 < WyI.ord x y ↔ y < x := by unfold WyI cmpI; simp only; split <;> (try split) <;> omega
theorem ordI_neg (x y : Int) : WyI.ord x y < 0 ↔ x < y := by unfold WyI cmpI; simp only; split <;> (try split) <;> omega
theorem ordI_le (x y : Int) : WyI.ord x y ≤ 0 ↔ x ≤ y := by unfold WyI cmpI; simp only; split <;> (try split) <;> omega
end Go.Proofs.YteafnkimcidkhaaGreat


namespace Go.Proofs.YteafnkimcidkhaaGreat
set_option linter.unusedVariables false
set_option linter.unusedSimpArgs false
theorem mk_word {s : Bool} {r : Int} (h1 : -fI s ≤ r) (h2 : r ≤ fI s) : Word (mk s r) := by
  obtain ⟨b, e, _⟩ := mk_made s r
  rw [e]
  exact sgnd_word s b _ (by split <;> omega) (by split <;> omega)
theorem least_mk (s : Bool) : negF s (fI s - 1) = mk s (-(fI s - 1)) := by cases s <;> decide +kernel
theorem most_mk (s : Bool) : fI s - 1 = mk s (fI s - 1) := by cases s <;> decide +kernel
theorem next_mk {s : Bool} {r : Int} (h1 : -fI s < r) (h2 : r < fI s - 1) : nextF s (mk s r) = mk s (r + 1) := by
  have p := plain_mk (s := s) (r := r) (by omega) (by omega)
  have ne : plainF s (mk s r) ≠ fI s - 1 := by
    rw [p]
    intro e
    rw [most_mk] at e
    have := mk_inj (by omega) (by omega) (by omega) (by omega) e
    omega
  have f : finF s (mk s r) = true := by rw [fin_mk (by omega) (by omega)]; exact decide_eq_true ⟨h1, by omega⟩
  have st := n_step s (mk s r) (mk_word (by omega) (by omega)) f ne
  rw [p] at st
  have one := st.one
  rw [mk_rnk (by omega) (by omega)] at one
  obtain ⟨b, z, e, hz⟩ := n_made s _ st.wn st.fn
  rw [e] at one ⊢
  rw [n_rnk s b z hz] at one
  unfold mk
  cases b
  · have one' : (z : Int) = r + 1 := by simpa using one
    rw [if_neg (by omega)]
    show (z : Int) = r + 1
    omega
  · have one' : -(z : Int) = r + 1 := by simpa using one
    by_cases z0 : z = 0
    · -- -0 is not what is next
      subst z0
      exfalso
      have r1 : r = -1 := by omega
      subst r1
      have e1 := n_neg s 1 (by decide) (by have := fI_two s; omega)
      have m1 : mk s (-1) = sgnd s true ((1 : Nat) : Int) := by unfold mk; simp
      rw [m1, e1] at e
      revert e
      cases s <;> decide
    · rw [if_pos (by omega)]
      congr 1
      omega
theorem prev_mk {s : Bool} {r : Int} (h1 : -(fI s - 1) < r) (h2 : r < fI s) : prevF s (mk s r) = mk s (r - 1) := by
  have st := next_mk (s := s) (r := r - 1) (by omega) (by omega)
  have p := plain_mk (s := s) (r := r - 1) (by omega) (by omega)
  have ne : plainF s (mk s (r - 1)) ≠ fI s - 1 := by
    rw [p]
    intro e
    rw [most_mk] at e
    have := mk_inj (by omega) (by omega) (by omega) (by omega) e
    omega
  have f : finF s (mk s (r - 1)) = true := by rw [fin_mk (by omega) (by omega)]; exact decide_eq_true ⟨by omega, by omega⟩
  have k := n_step s (mk s (r - 1)) (mk_word (by omega) (by omega)) f ne
  rw [p, st, show r - 1 + 1 = r by omega] at k
  exact k.back
end Go.Proofs.YteafnkimcidkhaaGreat


namespace Go.Proofs.YteafnkimcidkhaaGreat
open Go.RowKit
set_option linter.unusedVariables false
set_option linter.unusedSimpArgs false
theorem fl_least {f : Int} {L : Ln} {B : Nat} {w0 : World} (h : FlAt f L B w0) : L.least = negF (f == 1) (fI (f == 1) - 1) ∧ L.most = fI (f == 1) - 1 ∧ L.past = 2 := by
  obtain ⟨p, q, rfl, _⟩ := h
  exact ⟨rfl, rfl, rfl⟩
end Go.Proofs.YteafnkimcidkhaaGreat


namespace Go.Proofs.YteafnkimcidkhaaGreat
open Go.RowKit
set_option linter.unusedVariables false
set_option linter.unusedSimpArgs false
set_option maxRecDepth 100000 in
set_option maxHeartbeats 3200000 in
theorem join_f {L : Ln} {A : Ways} {B : Nat} {w0 : World} (H : Actsf L A B w0) (e1 e2 : Bool) (a b c d : Int) (da : A.dom a) (db : A.dom b) (dc : A.dom c) (dd : A.dom d) (w : World) (ok : Below B w0 w) :
    Calls Tryz.prog 192 #[.agg (lvf L), .agg #[.bool e1, .int .u64 a, .int .u64 b], .agg #[.bool e2, .int .u64 c, .int .u64 d]] w fun e w' => e = .returned (sVf (joinP A (e1, a, b) (e2, c, d))) ∧ Below w.heap.size w w' := by
  have h1 : ∀ V, Below B w0 V → Calls Tryz.prog 206 #[.agg (lvf L), .int .u64 a, .int .u64 c] V fun e w' => e = .returned (.int .u64 (sml A a c)) ∧ Below V.heap.size V w' := smaller_f H a c da dc
  have h2 : ∀ V, Below B w0 V → Calls Tryz.prog 205 #[.agg (lvf L), .int .u64 b, .int .u64 d] V fun e w' => e = .returned (.int .u64 (grt A b d)) ∧ Below V.heap.size V w' := greater_f H b d db dd
  have hB := H.hB
  obtain ⟨R, HR⟩ : ∃ R, Hid (R = sVf (joinP A (e1, a, b) (e2, c, d))) := ⟨_, rfl⟩
  rw [← HR.out]
  replace HR := HR.out
  unfold sVf joinP at HR
  simp only at HR
  clear H
  generalize sml A a c = lo at *
  generalize grt A b d = hi at *
  replace HR : Hid _ := HR
  unfold lvf at *
  cases e1
  · cases e2
    · go_enter Tryz.func192, Tryz.ntmps192
      go_wp2_with fail
      obtain ⟨W, hW⟩ : ∃ W, ((((w.alloc (.cells #[.int .u64 L.least, .int .u64 L.most, .int .i64 L.past, .func (.func L.ko) #[] L.co, .func (.func L.kp) #[] L.cp, .func (.func L.k1) #[] L.c1, .func (.func L.kv) #[] L.cv, .func (.func L.kn) #[] L.cn, .func (.func L.ku) #[] L.cu, .func (.func L.kt) #[] L.ct, .func (.func L.kz) #[] L.cz] 134)).alloc (.cells #[.bool false, .int .u64 a, .int .u64 b] 126)).alloc (.cells #[.bool false, .int .u64 c, .int .u64 d] 126)).alloc (.cells #[.bool false, .int .u64 0, .int .u64 0] 126)) = W := ⟨_, rfl⟩
      have l0 : W.cell? ⟨w.heap.size, 0, none⟩ = some (.int .u64 L.least) := by rw [← hW]; simp [go_sem]
      have l1 : W.cell? ⟨w.heap.size, 1, none⟩ = some (.int .u64 L.most) := by rw [← hW]; simp [go_sem]
      have l2 : W.cell? ⟨w.heap.size, 2, none⟩ = some (.int .i64 L.past) := by rw [← hW]; simp [go_sem]
      have l3 : W.cell? ⟨w.heap.size, 3, none⟩ = some (.func (.func L.ko) #[] L.co) := by rw [← hW]; simp [go_sem]
      have l4 : W.cell? ⟨w.heap.size, 4, none⟩ = some (.func (.func L.kp) #[] L.cp) := by rw [← hW]; simp [go_sem]
      have l5 : W.cell? ⟨w.heap.size, 5, none⟩ = some (.func (.func L.k1) #[] L.c1) := by rw [← hW]; simp [go_sem]
      have l6 : W.cell? ⟨w.heap.size, 6, none⟩ = some (.func (.func L.kv) #[] L.cv) := by rw [← hW]; simp [go_sem]
      have l7 : W.cell? ⟨w.heap.size, 7, none⟩ = some (.func (.func L.kn) #[] L.cn) := by rw [← hW]; simp [go_sem]
      have l8 : W.cell? ⟨w.heap.size, 8, none⟩ = some (.func (.func L.ku) #[] L.cu) := by rw [← hW]; simp [go_sem]
      have l9 : W.cell? ⟨w.heap.size, 9, none⟩ = some (.func (.func L.kt) #[] L.ct) := by rw [← hW]; simp [go_sem]
      have l10 : W.cell? ⟨w.heap.size, 10, none⟩ = some (.func (.func L.kz) #[] L.cz) := by rw [← hW]; simp [go_sem]
      have a0 : W.cell? ⟨w.heap.size + 1, 0, none⟩ = some (.bool false) := by rw [← hW]; simp [go_sem]
      have a1 : W.cell? ⟨w.heap.size + 1, 1, none⟩ = some (.int .u64 a) := by rw [← hW]; simp [go_sem]
      have a2 : W.cell? ⟨w.heap.size + 1, 2, none⟩ = some (.int .u64 b) := by rw [← hW]; simp [go_sem]
      have b0 : W.cell? ⟨w.heap.size + 1 + 1, 0, none⟩ = some (.bool false) := by rw [← hW]; simp [go_sem]
      have b1 : W.cell? ⟨w.heap.size + 1 + 1, 1, none⟩ = some (.int .u64 c) := by rw [← hW]; simp [go_sem]
      have b2 : W.cell? ⟨w.heap.size + 1 + 1, 2, none⟩ = some (.int .u64 d) := by rw [← hW]; simp [go_sem]
      have r0 : W.cell? ⟨w.heap.size + 1 + 1 + 1, 0, none⟩ = some (.bool false) := by rw [← hW]; simp [go_sem]
      have r1 : W.cell? ⟨w.heap.size + 1 + 1 + 1, 1, none⟩ = some (.int .u64 0) := by rw [← hW]; simp [go_sem]
      have r2 : W.cell? ⟨w.heap.size + 1 + 1 + 1, 2, none⟩ = some (.int .u64 0) := by rw [← hW]; simp [go_sem]
      have okW : Below B w0 W := by rw [← hW]; exact (ok_new hB (ok_new hB (ok_new hB (ok_new hB ok _) _) _) _)
      have bW : Below w.heap.size w W := by rw [← hW]; exact (sp_new (sp_new (sp_new (sp_new (Below.refl _ _) _) _) _) _)
      have zW : W.heap.size = w.heap.size + 4 := by rw [← hW]; simp
      have fz : ∀ j, W.frozen? ⟨w.heap.size + 1 + 1 + 1, j, none⟩ = false := by intro j; rw [← hW]; simp [go_sem]
      rw [hW]
      clear hW
      go_region_held3 (fun w' => w'.cell? ⟨w.heap.size, 0, none⟩ = some (.int .u64 L.least) ∧ w'.cell? ⟨w.heap.size, 1, none⟩ = some (.int .u64 L.most) ∧ w'.cell? ⟨w.heap.size, 2, none⟩ = some (.int .i64 L.past) ∧ w'.cell? ⟨w.heap.size, 3, none⟩ = some (.func (.func L.ko) #[] L.co) ∧ w'.cell? ⟨w.heap.size, 4, none⟩ = some (.func (.func L.kp) #[] L.cp) ∧ w'.cell? ⟨w.heap.size, 5, none⟩ = some (.func (.func L.k1) #[] L.c1) ∧ w'.cell? ⟨w.heap.size, 6, none⟩ = some (.func (.func L.kv) #[] L.cv) ∧ w'.cell? ⟨w.heap.size, 7, none⟩ = some (.func (.func L.kn) #[] L.cn) ∧ w'.cell? ⟨w.heap.size, 8, none⟩ = some (.func (.func L.ku) #[] L.cu) ∧ w'.cell? ⟨w.heap.size, 9, none⟩ = some (.func (.func L.kt) #[] L.ct) ∧ w'.cell? ⟨w.heap.size, 10, none⟩ = some (.func (.func L.kz) #[] L.cz) ∧ w'.cell? ⟨w.heap.size + 1, 0, none⟩ = some (.bool false) ∧ w'.cell? ⟨w.heap.size + 1, 1, none⟩ = some (.int .u64 a) ∧ w'.cell? ⟨w.heap.size + 1, 2, none⟩ = some (.int .u64 b) ∧ w'.cell? ⟨w.heap.size + 1 + 1, 0, none⟩ = some (.bool false) ∧ w'.cell? ⟨w.heap.size + 1 + 1, 1, none⟩ = some (.int .u64 c) ∧ w'.cell? ⟨w.heap.size + 1 + 1, 2, none⟩ = some (.int .u64 d)) (first | exact ⟨l0, l1, l2, l3, l4, l5, l6, l7, l8, l9, l10, a0, a1, a2, b0, b1, b2⟩ | exact ⟨sp_keep3 l0 (by omega) _ _ _, sp_keep3 l1 (by omega) _ _ _, sp_keep3 l2 (by omega) _ _ _, sp_keep3 l3 (by omega) _ _ _, sp_keep3 l4 (by omega) _ _ _, sp_keep3 l5 (by omega) _ _ _, sp_keep3 l6 (by omega) _ _ _, sp_keep3 l7 (by omega) _ _ _, sp_keep3 l8 (by omega) _ _ _, sp_keep3 l9 (by omega) _ _ _, sp_keep3 l10 (by omega) _ _ _, sp_keep3 a0 (by omega) _ _ _, sp_keep3 a1 (by omega) _ _ _, sp_keep3 a2 (by omega) _ _ _, sp_keep3 b0 (by omega) _ _ _, sp_keep3 b1 (by omega) _ _ _, sp_keep3 b2 (by omega) _ _ _⟩)
        (first
          | (go_at_call 206; refine (h1 _ (by first | exact okW | exact okW.drew)).mono ?_; rintro e w1 ⟨rfl, g1⟩; replace g1 : Below W.heap.size W w1 := ⟨g1.os, g1.tape, g1.output, g1.size, g1.block⟩; replace l0 := sO g1 l0; replace l1 := sO g1 l1; replace l2 := sO g1 l2; replace l3 := sO g1 l3; replace l4 := sO g1 l4; replace l5 := sO g1 l5; replace l6 := sO g1 l6; replace l7 := sO g1 l7; replace l8 := sO g1 l8; replace l9 := sO g1 l9; replace l10 := sO g1 l10; replace a0 := sO g1 a0; replace a1 := sO g1 a1; replace a2 := sO g1 a2; replace b0 := sO g1 b0; replace b1 := sO g1 b1; replace b2 := sO g1 b2; replace r0 := sO g1 r0; replace r1 := sO g1 r1; replace r2 := sO g1 r2; replace okW := ok_call hB okW g1; replace bW := sp_call bW g1; replace fz : ∀ j, w1.frozen? ⟨w.heap.size + 1 + 1 + 1, j, none⟩ = false := fun j => (g1.frozen (p := ⟨w.heap.size + 1 + 1 + 1, j, none⟩) (by simp; omega)).trans (fz j); have z1 := g1.size)
          | (go_at_call 205; refine (h2 _ (by first | exact okW | exact okW.drew)).mono ?_; rintro e w2 ⟨rfl, g2⟩; replace g2 : Below w1.heap.size w1 w2 := ⟨g2.os, g2.tape, g2.output, g2.size, g2.block⟩; replace l0 := sO g2 l0; replace l1 := sO g2 l1; replace l2 := sO g2 l2; replace l3 := sO g2 l3; replace l4 := sO g2 l4; replace l5 := sO g2 l5; replace l6 := sO g2 l6; replace l7 := sO g2 l7; replace l8 := sO g2 l8; replace l9 := sO g2 l9; replace l10 := sO g2 l10; replace a0 := sO g2 a0; replace a1 := sO g2 a1; replace a2 := sO g2 a2; replace b0 := sO g2 b0; replace b1 := sO g2 b1; replace b2 := sO g2 b2; replace r0 := sO g2 r0; replace r1 := sO g2 r1; replace r2 := sO g2 r2; replace okW := ok_call hB okW g2; replace bW := sp_call bW g2; replace fz : ∀ j, w2.frozen? ⟨w.heap.size + 1 + 1 + 1, j, none⟩ = false := fun j => (g2.frozen (p := ⟨w.heap.size + 1 + 1 + 1, j, none⟩) (by simp; omega)).trans (fz j); have z2 := g2.size)
          | fail)
      go_wp2
      exact bodyPost_ret (v := .agg #[.bool false, .int .u64 lo, .int .u64 hi]) (by simp [results, Tryz.results192, go_sem, r0, r1, r2]) rfl ⟨by rw [HR.out]; simp, sp_set3 bW (by omega) _ _ _⟩
    · go_enter Tryz.func192, Tryz.ntmps192
      go_wp2_with fail
      exact bodyPost_ret (v := .agg #[.bool false, .int .u64 a, .int .u64 b]) (by simp [results, Tryz.results192, go_sem]) rfl ⟨by rw [HR.out]; simp, (sp_new (sp_new (sp_new (sp_new (Below.refl _ _) _) _) _) _)⟩
  · go_enter Tryz.func192, Tryz.ntmps192
    go_wp2_with fail
    exact bodyPost_ret (v := .agg #[.bool e2, .int .u64 c, .int .u64 d]) (by simp [results, Tryz.results192, go_sem]) rfl ⟨by rw [HR.out]; simp, (sp_new (sp_new (sp_new (sp_new (Below.refl _ _) _) _) _) _)⟩
end Go.Proofs.YteafnkimcidkhaaGreat

namespace Go.Proofs.YteafnkimcidkhaaGreat
open Go.RowKit Go.Shelf
set_option linter.unusedVariables false
set_option linter.unusedSimpArgs false
attribute [local go_sem] Oper.semAt_some
theorem TIf.stable {A : Ways} {L : Ln} {T : Int} {p : Nat} {W0 : World} {n : Nat} (hp : p + 1 < n) (hn : W0.heap.size ≤ n) : Stable n (TIf A L T p W0) := fun pre V V' h hb =>
  ⟨(hb.cell (p := ⟨p, 0, none⟩) (by simp; omega)).trans h.c0, (hb.cell (p := ⟨p, 1, none⟩) (by simp; omega)).trans h.c1, (hb.cell (p := ⟨p, 2, none⟩) (by simp; omega)).trans h.c2, (hb.cell (p := ⟨p + 1, 0, none⟩) (by simp; omega)).trans h.ct,
    fun j => (hb.frozen (p := ⟨p, j, none⟩) (by simp; omega)).trans (h.fp j), (hb.frozen (p := ⟨p + 1, 0, none⟩) (by simp; omega)).trans h.ft, stable_but (β := Unit) hn () V V' h.but hb⟩
set_option maxRecDepth 100000 in
set_option maxHeartbeats 4000000 in
theorem told_f {L : Ln} {A : Ways} {B : Nat} {w0 : World} (H : Actsf L A B w0) (T : Int) (hT : ∀ w, Calls Tryz.prog 148 #[.int .i64 L.past] w fun e w' => e = .returned (.int .i64 T) ∧ w' = w) (gf : Nat) (lb : Array Value) (xs : List Int) (d0 : A.dom 0) (dl : A.dom L.least) (dm : A.dom L.most) (hx : ∀ x ∈ xs, A.dom x ∧ A.dom (A.pl x)) (w : World) (ok : Below B w0 w)
    (eg : ∀ args w, (callFunc gf args).run Tryz.prog w = .ok (.enter gf args) w)
    (hseq : ∀ S W0, Below w.heap.size w W0 → (∀ k, S k → w.heap.size ≤ k ∧ k < W0.heap.size) → Feeds Tryz.prog gf lb (fun x : Int => #[Value.int .u64 x]) S xs W0) :
    Calls Tryz.prog 155 #[.agg (lvf L), .func (.func gf) #[] lb] w fun e w' => e = .returned (.tuple #[sVf (meetP A (hullP A xs) (false, L.least, L.most)), .int .i64 (trapP A L T xs)]) ∧ Below w.heap.size w w' := by
  have hB := H.hB
  have hnone := none_f
  obtain ⟨R, HR⟩ : ∃ R, Hid (R = sVf (meetP A (hullP A xs) (false, L.least, L.most))) := ⟨_, rfl⟩
  obtain ⟨TR, HTR⟩ : ∃ t, Hid (t = trapP A L T xs) := ⟨_, rfl⟩
  rw [← HR.out, ← HTR.out]
  refine (callsIn_wide (n := 3)).1 ?_
  refine callsIn_of_wp_marks Tryz.func155 rfl trivial ?_ rfl
  unfold lvf
  simp only [Tryz.ntmps155, List.size_toArray, List.length_cons, List.length_nil, Nat.reduceAdd, Nat.reduceSub, Array.replicate_succ, Array.replicate_zero, List.push_toArray, List.append_toArray, List.nil_append, List.cons_append]
  gi_wp2_with (refine ⟨trivial, ?_⟩; gi_at_call 150; refine (callsIn_wide.2 (hnone _)).mono ?_; rintro e w1 ⟨rfl, g1⟩)
  obtain ⟨W0, hW0⟩ : ∃ W0, (w1.alloc (.cells #[.bool true, .int .u64 0, .int .u64 0] 126)).alloc (.cells #[.int .i64 0] 84) = W0 := ⟨_, rfl⟩
  have z1 := g1.size
  simp only [World.size_alloc] at z1
  have gW : Below w1.heap.size w1 W0 := by rw [← hW0]; exact sp_new (sp_new (Below.refl _ _) _) _
  have z0 : W0.heap.size = w1.heap.size + 2 := by rw [← hW0]; simp
  have l0 := sO gW (sO g1 (show World.cell? _ ⟨w.heap.size, 0, none⟩ = some (.int .u64 L.least) by simp [go_sem]))
  have l1 := sO gW (sO g1 (show World.cell? _ ⟨w.heap.size, 1, none⟩ = some (.int .u64 L.most) by simp [go_sem]))
  have l2 := sO gW (sO g1 (show World.cell? _ ⟨w.heap.size, 2, none⟩ = some (.int .i64 L.past) by simp [go_sem]))
  have l3 := sO gW (sO g1 (show World.cell? _ ⟨w.heap.size, 3, none⟩ = some (.func (.func L.ko) #[] L.co) by simp [go_sem]))
  have l4 := sO gW (sO g1 (show World.cell? _ ⟨w.heap.size, 4, none⟩ = some (.func (.func L.kp) #[] L.cp) by simp [go_sem]))
  have l5 := sO gW (sO g1 (show World.cell? _ ⟨w.heap.size, 5, none⟩ = some (.func (.func L.k1) #[] L.c1) by simp [go_sem]))
  have l6 := sO gW (sO g1 (show World.cell? _ ⟨w.heap.size, 6, none⟩ = some (.func (.func L.kv) #[] L.cv) by simp [go_sem]))
  have l7 := sO gW (sO g1 (show World.cell? _ ⟨w.heap.size, 7, none⟩ = some (.func (.func L.kn) #[] L.cn) by simp [go_sem]))
  have l8 := sO gW (sO g1 (show World.cell? _ ⟨w.heap.size, 8, none⟩ = some (.func (.func L.ku) #[] L.cu) by simp [go_sem]))
  have l9 := sO gW (sO g1 (show World.cell? _ ⟨w.heap.size, 9, none⟩ = some (.func (.func L.kt) #[] L.ct) by simp [go_sem]))
  have l10 := sO gW (sO g1 (show World.cell? _ ⟨w.heap.size, 10, none⟩ = some (.func (.func L.kz) #[] L.cz) by simp [go_sem]))
  have r0 := sO gW (sO g1 (show World.cell? _ ⟨w.heap.size + 1, 0, none⟩ = some (.bool false) by simp [go_sem]))
  have r1 := sO gW (sO g1 (show World.cell? _ ⟨w.heap.size + 1, 1, none⟩ = some (.int .u64 0) by simp [go_sem]))
  have r2 := sO gW (sO g1 (show World.cell? _ ⟨w.heap.size + 1, 2, none⟩ = some (.int .u64 0) by simp [go_sem]))
  have rz : ∀ j, W0.frozen? ⟨w.heap.size + 1, j, none⟩ = false := fun j => (gW.frozen (p := ⟨w.heap.size + 1, j, none⟩) (by simp; omega)).trans ((g1.frozen (p := ⟨w.heap.size + 1, j, none⟩) (by simp)).trans (by simp [go_sem]))
  have hI0 : TIf A L T w1.heap.size W0 [] W0 := by
    refine ⟨?_, ?_, ?_, ?_, ?_, ?_, But.refl _ _⟩
    · rw [← hW0]; simp [go_sem, hullP]
    · rw [← hW0]; simp [go_sem, hullP]
    · rw [← hW0]; simp [go_sem, hullP]
    · rw [← hW0]; simp [go_sem, trapP]
    · intro j; rw [← hW0]; simp [go_sem]
    · rw [← hW0]; simp [go_sem]
  have bW : Below w.heap.size w W0 := sp_call (sp_call (sp_new (sp_new (Below.refl _ _) _) _) g1) gW
  have okW : Below B w0 W0 := ok_call hB (ok_call hB (ok_new hB (ok_new hB ok _) _) g1) gW
  rw [hW0]
  clear hW0 g1 gW
  have pz : w.heap.size + 1 < w1.heap.size := by omega
  generalize w1.heap.size = p at *
  have hS : ∀ k, (k = p ∨ k = p + 1) → w.heap.size ≤ k ∧ k < W0.heap.size := fun k hk => by omega
  refine feed_out (n := 3) rfl eg (hseq (fun k => k = p ∨ k = p + 1) W0 bW hS) (fun _ => rfl) (fun k hk => (hS k hk).2) (TIf A L T p W0) (TIf.stable (by omega) (Nat.le_refl _)) hI0
    (fun l0 x a' V => a' = { tmps := #[.agg #[.int .u64 L.least, .int .u64 L.most, .int .i64 L.past, .func (.func L.ko) #[] L.co, .func (.func L.kp) #[] L.cp, .func (.func L.k1) #[] L.c1, .func (.func L.kv) #[] L.cv, .func (.func L.kn) #[] L.cn, .func (.func L.ku) #[] L.cu, .func (.func L.kt) #[] L.ct, .func (.func L.kz) #[] L.cz], .func (.func gf) #[] lb, .pointer (some ⟨w.heap.size, 0, none⟩), undef, .pointer (some ⟨w.heap.size + 1, 0, none⟩), .int .i64 0, .pointer (some ⟨p, 0, none⟩), .pointer (some ⟨p + 1, 0, none⟩), .int .u64 x, .agg #[.bool true, .int .u64 0, .int .u64 0], .func (.func gf) #[] lb, .int .u64 x, undef, undef, undef, undef, undef, undef, undef, undef, undef, undef, undef, undef, undef, undef, undef, undef, undef, undef, undef, undef, undef, undef, undef, undef, undef, undef, undef, undef, undef, undef, undef, undef, undef, undef, undef], defers := [] })
    (fun l0 x a' X Y h ho => h) ?assign ?body ?done
  case assign =>
    rintro m li pre x V K hl0 ll0 hpre hI hK
    gi_wp2
    exact hK _ _ (But.refl _ _) hI rfl
  case body =>
    rintro m li pre x a' V hl0 hrec hpre hI rfl
    obtain ⟨c0, c1, c2, ct, fp, ft, hb⟩ := hI
    have mem : x ∈ xs := List.IsPrefix.subset hpre (by simp)
    obtain ⟨dx, dpx⟩ := hx x mem
    have hd := hullP_dom d0 pre (fun y hy => (hx y (List.IsPrefix.subset hpre (by simp [hy]))).2)
    have hj := fun V ok => join_f H (hullP A pre).1 false (hullP A pre).2.1 (hullP A pre).2.2 (A.pl x) (A.pl x) hd.1 hd.2 dpx dpx V ok
    have hpl := fun V ok => H.pl x V dx ok
    have ho1 := fun V ok => H.ord (A.pl x) L.least V dpx dl ok
    have ho2 := fun V ok => H.ord (A.pl x) L.most V dpx dm ok
    have eo := H.eo
    have ep := H.ep
    have okV : Below B w0 V := okW.trans (hb.below (Nat.le_trans hB okW.size) (fun k hk => Nat.le_trans (Nat.le_trans hB ok.size) (hS k hk).1))
    have nSl : ∀ k, k < p → ¬ (k = p ∨ k = p + 1) := fun k hk => by omega
    replace l0 := hb.cell (nSl _ (by simp; omega)) l0
    replace l1 := hb.cell (nSl _ (by simp; omega)) l1
    replace l2 := hb.cell (nSl _ (by simp; omega)) l2
    replace l3 := hb.cell (nSl _ (by simp; omega)) l3
    replace l4 := hb.cell (nSl _ (by simp; omega)) l4
    replace l5 := hb.cell (nSl _ (by simp; omega)) l5
    replace l6 := hb.cell (nSl _ (by simp; omega)) l6
    replace l7 := hb.cell (nSl _ (by simp; omega)) l7
    replace l8 := hb.cell (nSl _ (by simp; omega)) l8
    replace l9 := hb.cell (nSl _ (by simp; omega)) l9
    replace l10 := hb.cell (nSl _ (by simp; omega)) l10
    have bs : But (fun k => k = p ∨ k = p + 1) V V := But.refl _ _
    have E1 := hullP_snoc A pre x
    have E2 := trapP_snoc A L T pre x
    clear hd hpre mem hI0 hseq hrec
    generalize hullP A pre = hh at *
    obtain ⟨he, hlo, hhi⟩ := hh
    generalize trapP A L T pre = tr at *
    generalize joinP A (he, hlo, hhi) (false, A.pl x, A.pl x) = jr at *
    obtain ⟨je, jlo, jhi⟩ := jr
    unfold pastP at E2
    generalize A.pl x = px at *
    generalize A.ord px L.least = o1 at *
    generalize A.ord px L.most = o2 at *
    unfold sVf lvf at hj
    dsimp only at hj c0 c1 c2
    replace E1 : Hid _ := E1
    replace E2 : Hid _ := E2
    have Bp : B ≤ p := Nat.le_trans (Nat.le_trans hB ok.size) (by omega)
    by_cases q1 : o1 < 0
    · gi_wp2_with (first
      | (refine ⟨trivial, (fun h => by cases h), ?_⟩; with_reducible refine (CallsIn.inRound li (callsIn_wide.2 (hpl _ okV))).mono ?_; rintro e V1 ⟨rfl, g⟩; replace fp := fun j => (g.frozen (p := ⟨p, j, none⟩) (World.block_lt_of_cell? _ ⟨p, 0, none⟩ c0)).trans (fp j); replace ft := (g.frozen (p := ⟨p + 1, 0, none⟩) (World.block_lt_of_cell? _ ⟨p + 1, 0, none⟩ ct)).trans ft; replace l0 := sO g l0; replace l1 := sO g l1; replace l2 := sO g l2; replace l3 := sO g l3; replace l4 := sO g l4; replace l5 := sO g l5; replace l6 := sO g l6; replace l7 := sO g l7; replace l8 := sO g l8; replace l9 := sO g l9; replace l10 := sO g l10; replace c0 := sO g c0; replace c1 := sO g c1; replace c2 := sO g c2; replace ct := sO g ct; replace hb := hb.call g; replace bs := bs.call g; replace okV := ok_call hB okV g; clear g; clear hpl)
      | (refine ⟨trivial, (fun h => by cases h), ?_⟩; with_reducible refine (CallsIn.inRound li (callsIn_wide.2 (ho1 _ okV))).mono ?_; rintro e V2 ⟨rfl, g⟩; replace fp := fun j => (g.frozen (p := ⟨p, j, none⟩) (World.block_lt_of_cell? _ ⟨p, 0, none⟩ c0)).trans (fp j); replace ft := (g.frozen (p := ⟨p + 1, 0, none⟩) (World.block_lt_of_cell? _ ⟨p + 1, 0, none⟩ ct)).trans ft; replace l0 := sO g l0; replace l1 := sO g l1; replace l2 := sO g l2; replace l3 := sO g l3; replace l4 := sO g l4; replace l5 := sO g l5; replace l6 := sO g l6; replace l7 := sO g l7; replace l8 := sO g l8; replace l9 := sO g l9; replace l10 := sO g l10; replace c0 := sO g c0; replace c1 := sO g c1; replace c2 := sO g c2; replace ct := sO g ct; replace hb := hb.call g; replace bs := bs.call g; replace okV := ok_call hB okV g; clear g; clear ho1)
      | (refine ⟨trivial, (fun h => by cases h), ?_⟩; with_reducible refine (CallsIn.inRound li (callsIn_wide.2 (ho2 _ okV))).mono ?_; rintro e V3 ⟨rfl, g⟩; replace fp := fun j => (g.frozen (p := ⟨p, j, none⟩) (World.block_lt_of_cell? _ ⟨p, 0, none⟩ c0)).trans (fp j); replace ft := (g.frozen (p := ⟨p + 1, 0, none⟩) (World.block_lt_of_cell? _ ⟨p + 1, 0, none⟩ ct)).trans ft; replace l0 := sO g l0; replace l1 := sO g l1; replace l2 := sO g l2; replace l3 := sO g l3; replace l4 := sO g l4; replace l5 := sO g l5; replace l6 := sO g l6; replace l7 := sO g l7; replace l8 := sO g l8; replace l9 := sO g l9; replace l10 := sO g l10; replace c0 := sO g c0; replace c1 := sO g c1; replace c2 := sO g c2; replace ct := sO g ct; replace hb := hb.call g; replace bs := bs.call g; replace okV := ok_call hB okV g; clear g; clear ho2)
      | (refine ⟨trivial, (fun h => by cases h), ?_⟩; gi_at_call 148; refine (CallsIn.inRound li (callsIn_wide.2 (hT _))).mono ?_; rintro e V4 ⟨rfl, hv⟩; rw [hv]; clear hv V4)
      | (refine ⟨trivial, (fun h => by cases h), ?_⟩; gi_at_call 192; refine (CallsIn.inRound li (callsIn_wide.2 (hj _ (okV.setCell (p := ⟨p + 1, 0, none⟩) (show B ≤ p + 1 by omega) _)))).mono ?_; rintro e V5 ⟨rfl, g⟩; have k0 := sp_keep1 (k := 0) c0 (show p ≠ p + 1 by omega) (.int .i64 T); have k1 := sp_keep1 (k := 0) c1 (show p ≠ p + 1 by omega) (.int .i64 T); have k2 := sp_keep1 (k := 0) c2 (show p ≠ p + 1 by omega) (.int .i64 T); have kt := World.cell?_setCell_same _ _ (.int .i64 T) ct; have kp := fun j => (World.frozen?_setCell _ ⟨p + 1, 0, none⟩ ⟨p, j, none⟩ (.int .i64 T)).trans (fp j); have kq := (World.frozen?_setCell _ ⟨p + 1, 0, none⟩ ⟨p + 1, 0, none⟩ (.int .i64 T)).trans ft; replace fp := fun j => (g.frozen (p := ⟨p, j, none⟩) (World.block_lt_of_cell? _ ⟨p, 0, none⟩ k0)).trans (kp j); replace ft := (g.frozen (p := ⟨p + 1, 0, none⟩) (World.block_lt_of_cell? _ ⟨p + 1, 0, none⟩ kt)).trans kq; clear kp kq; replace k0 := sO g k0; replace k1 := sO g k1; replace k2 := sO g k2; replace kt := sO g kt; replace hb := (hb.set (a := ⟨p + 1, 0, none⟩) (.inr rfl) (.int .i64 T)).call g; replace bs := (bs.set (a := ⟨p + 1, 0, none⟩) (.inr rfl) (.int .i64 T)).call g; clear g)
      | fail)
      refine ⟨fun _ h => (by cases h), ?_⟩
      gi_wp2_with (first
      | (refine ⟨trivial, (fun h => by cases h), ?_⟩; with_reducible refine (CallsIn.inRound li (callsIn_wide.2 (hpl _ okV))).mono ?_; rintro e V1 ⟨rfl, g⟩; replace fp := fun j => (g.frozen (p := ⟨p, j, none⟩) (World.block_lt_of_cell? _ ⟨p, 0, none⟩ c0)).trans (fp j); replace ft := (g.frozen (p := ⟨p + 1, 0, none⟩) (World.block_lt_of_cell? _ ⟨p + 1, 0, none⟩ ct)).trans ft; replace l0 := sO g l0; replace l1 := sO g l1; replace l2 := sO g l2; replace l3 := sO g l3; replace l4 := sO g l4; replace l5 := sO g l5; replace l6 := sO g l6; replace l7 := sO g l7; replace l8 := sO g l8; replace l9 := sO g l9; replace l10 := sO g l10; replace c0 := sO g c0; replace c1 := sO g c1; replace c2 := sO g c2; replace ct := sO g ct; replace hb := hb.call g; replace bs := bs.call g; replace okV := ok_call hB okV g; clear g; clear hpl)
      | (refine ⟨trivial, (fun h => by cases h), ?_⟩; with_reducible refine (CallsIn.inRound li (callsIn_wide.2 (ho1 _ okV))).mono ?_; rintro e V2 ⟨rfl, g⟩; replace fp := fun j => (g.frozen (p := ⟨p, j, none⟩) (World.block_lt_of_cell? _ ⟨p, 0, none⟩ c0)).trans (fp j); replace ft := (g.frozen (p := ⟨p + 1, 0, none⟩) (World.block_lt_of_cell? _ ⟨p + 1, 0, none⟩ ct)).trans ft; replace l0 := sO g l0; replace l1 := sO g l1; replace l2 := sO g l2; replace l3 := sO g l3; replace l4 := sO g l4; replace l5 := sO g l5; replace l6 := sO g l6; replace l7 := sO g l7; replace l8 := sO g l8; replace l9 := sO g l9; replace l10 := sO g l10; replace c0 := sO g c0; replace c1 := sO g c1; replace c2 := sO g c2; replace ct := sO g ct; replace hb := hb.call g; replace bs := bs.call g; replace okV := ok_call hB okV g; clear g; clear ho1)
      | (refine ⟨trivial, (fun h => by cases h), ?_⟩; with_reducible refine (CallsIn.inRound li (callsIn_wide.2 (ho2 _ okV))).mono ?_; rintro e V3 ⟨rfl, g⟩; replace fp := fun j => (g.frozen (p := ⟨p, j, none⟩) (World.block_lt_of_cell? _ ⟨p, 0, none⟩ c0)).trans (fp j); replace ft := (g.frozen (p := ⟨p + 1, 0, none⟩) (World.block_lt_of_cell? _ ⟨p + 1, 0, none⟩ ct)).trans ft; replace l0 := sO g l0; replace l1 := sO g l1; replace l2 := sO g l2; replace l3 := sO g l3; replace l4 := sO g l4; replace l5 := sO g l5; replace l6 := sO g l6; replace l7 := sO g l7; replace l8 := sO g l8; replace l9 := sO g l9; replace l10 := sO g l10; replace c0 := sO g c0; replace c1 := sO g c1; replace c2 := sO g c2; replace ct := sO g ct; replace hb := hb.call g; replace bs := bs.call g; replace okV := ok_call hB okV g; clear g; clear ho2)
      | (refine ⟨trivial, (fun h => by cases h), ?_⟩; gi_at_call 148; refine (CallsIn.inRound li (callsIn_wide.2 (hT _))).mono ?_; rintro e V4 ⟨rfl, hv⟩; rw [hv]; clear hv V4)
      | (refine ⟨trivial, (fun h => by cases h), ?_⟩; gi_at_call 192; refine (CallsIn.inRound li (callsIn_wide.2 (hj _ (okV.setCell (p := ⟨p + 1, 0, none⟩) (show B ≤ p + 1 by omega) _)))).mono ?_; rintro e V5 ⟨rfl, g⟩; have k0 := sp_keep1 (k := 0) c0 (show p ≠ p + 1 by omega) (.int .i64 T); have k1 := sp_keep1 (k := 0) c1 (show p ≠ p + 1 by omega) (.int .i64 T); have k2 := sp_keep1 (k := 0) c2 (show p ≠ p + 1 by omega) (.int .i64 T); have kt := World.cell?_setCell_same _ _ (.int .i64 T) ct; have kp := fun j => (World.frozen?_setCell _ ⟨p + 1, 0, none⟩ ⟨p, j, none⟩ (.int .i64 T)).trans (fp j); have kq := (World.frozen?_setCell _ ⟨p + 1, 0, none⟩ ⟨p + 1, 0, none⟩ (.int .i64 T)).trans ft; replace fp := fun j => (g.frozen (p := ⟨p, j, none⟩) (World.block_lt_of_cell? _ ⟨p, 0, none⟩ k0)).trans (kp j); replace ft := (g.frozen (p := ⟨p + 1, 0, none⟩) (World.block_lt_of_cell? _ ⟨p + 1, 0, none⟩ kt)).trans kq; clear kp kq; replace k0 := sO g k0; replace k1 := sO g k1; replace k2 := sO g k2; replace kt := sO g kt; replace hb := (hb.set (a := ⟨p + 1, 0, none⟩) (.inr rfl) (.int .i64 T)).call g; replace bs := (bs.set (a := ⟨p + 1, 0, none⟩) (.inr rfl) (.int .i64 T)).call g; clear g)
      | fail)
      exact ⟨((bs.set (a := ⟨p, 0, none⟩) (.inl rfl) _).set (a := ⟨p, 1, none⟩) (.inl rfl) _).set (a := ⟨p, 2, none⟩) (.inl rfl) _, TIf.next k0 k1 k2 kt fp ft hb E1.out (by rw [E2.out]; simp [q1])⟩
    · by_cases q2 : 0 < o2
      · gi_wp2_with (first
      | (refine ⟨trivial, (fun h => by cases h), ?_⟩; with_reducible refine (CallsIn.inRound li (callsIn_wide.2 (hpl _ okV))).mono ?_; rintro e V1 ⟨rfl, g⟩; replace fp := fun j => (g.frozen (p := ⟨p, j, none⟩) (World.block_lt_of_cell? _ ⟨p, 0, none⟩ c0)).trans (fp j); replace ft := (g.frozen (p := ⟨p + 1, 0, none⟩) (World.block_lt_of_cell? _ ⟨p + 1, 0, none⟩ ct)).trans ft; replace l0 := sO g l0; replace l1 := sO g l1; replace l2 := sO g l2; replace l3 := sO g l3; replace l4 := sO g l4; replace l5 := sO g l5; replace l6 := sO g l6; replace l7 := sO g l7; replace l8 := sO g l8; replace l9 := sO g l9; replace l10 := sO g l10; replace c0 := sO g c0; replace c1 := sO g c1; replace c2 := sO g c2; replace ct := sO g ct; replace hb := hb.call g; replace bs := bs.call g; replace okV := ok_call hB okV g; clear g; clear hpl)
      | (refine ⟨trivial, (fun h => by cases h), ?_⟩; with_reducible refine (CallsIn.inRound li (callsIn_wide.2 (ho1 _ okV))).mono ?_; rintro e V2 ⟨rfl, g⟩; replace fp := fun j => (g.frozen (p := ⟨p, j, none⟩) (World.block_lt_of_cell? _ ⟨p, 0, none⟩ c0)).trans (fp j); replace ft := (g.frozen (p := ⟨p + 1, 0, none⟩) (World.block_lt_of_cell? _ ⟨p + 1, 0, none⟩ ct)).trans ft; replace l0 := sO g l0; replace l1 := sO g l1; replace l2 := sO g l2; replace l3 := sO g l3; replace l4 := sO g l4; replace l5 := sO g l5; replace l6 := sO g l6; replace l7 := sO g l7; replace l8 := sO g l8; replace l9 := sO g l9; replace l10 := sO g l10; replace c0 := sO g c0; replace c1 := sO g c1; replace c2 := sO g c2; replace ct := sO g ct; replace hb := hb.call g; replace bs := bs.call g; replace okV := ok_call hB okV g; clear g; clear ho1)
      | (refine ⟨trivial, (fun h => by cases h), ?_⟩; with_reducible refine (CallsIn.inRound li (callsIn_wide.2 (ho2 _ okV))).mono ?_; rintro e V3 ⟨rfl, g⟩; replace fp := fun j => (g.frozen (p := ⟨p, j, none⟩) (World.block_lt_of_cell? _ ⟨p, 0, none⟩ c0)).trans (fp j); replace ft := (g.frozen (p := ⟨p + 1, 0, none⟩) (World.block_lt_of_cell? _ ⟨p + 1, 0, none⟩ ct)).trans ft; replace l0 := sO g l0; replace l1 := sO g l1; replace l2 := sO g l2; replace l3 := sO g l3; replace l4 := sO g l4; replace l5 := sO g l5; replace l6 := sO g l6; replace l7 := sO g l7; replace l8 := sO g l8; replace l9 := sO g l9; replace l10 := sO g l10; replace c0 := sO g c0; replace c1 := sO g c1; replace c2 := sO g c2; replace ct := sO g ct; replace hb := hb.call g; replace bs := bs.call g; replace okV := ok_call hB okV g; clear g; clear ho2)
      | (refine ⟨trivial, (fun h => by cases h), ?_⟩; gi_at_call 148; refine (CallsIn.inRound li (callsIn_wide.2 (hT _))).mono ?_; rintro e V4 ⟨rfl, hv⟩; rw [hv]; clear hv V4)
      | (refine ⟨trivial, (fun h => by cases h), ?_⟩; gi_at_call 192; refine (CallsIn.inRound li (callsIn_wide.2 (hj _ (okV.setCell (p := ⟨p + 1, 0, none⟩) (show B ≤ p + 1 by omega) _)))).mono ?_; rintro e V5 ⟨rfl, g⟩; have k0 := sp_keep1 (k := 0) c0 (show p ≠ p + 1 by omega) (.int .i64 T); have k1 := sp_keep1 (k := 0) c1 (show p ≠ p + 1 by omega) (.int .i64 T); have k2 := sp_keep1 (k := 0) c2 (show p ≠ p + 1 by omega) (.int .i64 T); have kt := World.cell?_setCell_same _ _ (.int .i64 T) ct; have kp := fun j => (World.frozen?_setCell _ ⟨p + 1, 0, none⟩ ⟨p, j, none⟩ (.int .i64 T)).trans (fp j); have kq := (World.frozen?_setCell _ ⟨p + 1, 0, none⟩ ⟨p + 1, 0, none⟩ (.int .i64 T)).trans ft; replace fp := fun j => (g.frozen (p := ⟨p, j, none⟩) (World.block_lt_of_cell? _ ⟨p, 0, none⟩ k0)).trans (kp j); replace ft := (g.frozen (p := ⟨p + 1, 0, none⟩) (World.block_lt_of_cell? _ ⟨p + 1, 0, none⟩ kt)).trans kq; clear kp kq; replace k0 := sO g k0; replace k1 := sO g k1; replace k2 := sO g k2; replace kt := sO g kt; replace hb := (hb.set (a := ⟨p + 1, 0, none⟩) (.inr rfl) (.int .i64 T)).call g; replace bs := (bs.set (a := ⟨p + 1, 0, none⟩) (.inr rfl) (.int .i64 T)).call g; clear g)
      | fail)
        exact ⟨((bs.set (a := ⟨p, 0, none⟩) (.inl rfl) _).set (a := ⟨p, 1, none⟩) (.inl rfl) _).set (a := ⟨p, 2, none⟩) (.inl rfl) _, TIf.next k0 k1 k2 kt fp ft hb E1.out (by rw [E2.out]; simp [q2])⟩
      · gi_wp2_with (first
      | (refine ⟨trivial, (fun h => by cases h), ?_⟩; with_reducible refine (CallsIn.inRound li (callsIn_wide.2 (hpl _ okV))).mono ?_; rintro e V1 ⟨rfl, g⟩; replace fp := fun j => (g.frozen (p := ⟨p, j, none⟩) (World.block_lt_of_cell? _ ⟨p, 0, none⟩ c0)).trans (fp j); replace ft := (g.frozen (p := ⟨p + 1, 0, none⟩) (World.block_lt_of_cell? _ ⟨p + 1, 0, none⟩ ct)).trans ft; replace l0 := sO g l0; replace l1 := sO g l1; replace l2 := sO g l2; replace l3 := sO g l3; replace l4 := sO g l4; replace l5 := sO g l5; replace l6 := sO g l6; replace l7 := sO g l7; replace l8 := sO g l8; replace l9 := sO g l9; replace l10 := sO g l10; replace c0 := sO g c0; replace c1 := sO g c1; replace c2 := sO g c2; replace ct := sO g ct; replace hb := hb.call g; replace bs := bs.call g; replace okV := ok_call hB okV g; clear g; clear hpl)
      | (refine ⟨trivial, (fun h => by cases h), ?_⟩; with_reducible refine (CallsIn.inRound li (callsIn_wide.2 (ho1 _ okV))).mono ?_; rintro e V2 ⟨rfl, g⟩; replace fp := fun j => (g.frozen (p := ⟨p, j, none⟩) (World.block_lt_of_cell? _ ⟨p, 0, none⟩ c0)).trans (fp j); replace ft := (g.frozen (p := ⟨p + 1, 0, none⟩) (World.block_lt_of_cell? _ ⟨p + 1, 0, none⟩ ct)).trans ft; replace l0 := sO g l0; replace l1 := sO g l1; replace l2 := sO g l2; replace l3 := sO g l3; replace l4 := sO g l4; replace l5 := sO g l5; replace l6 := sO g l6; replace l7 := sO g l7; replace l8 := sO g l8; replace l9 := sO g l9; replace l10 := sO g l10; replace c0 := sO g c0; replace c1 := sO g c1; replace c2 := sO g c2; replace ct := sO g ct; replace hb := hb.call g; replace bs := bs.call g; replace okV := ok_call hB okV g; clear g; clear ho1)
      | (refine ⟨trivial, (fun h => by cases h), ?_⟩; with_reducible refine (CallsIn.inRound li (callsIn_wide.2 (ho2 _ okV))).mono ?_; rintro e V3 ⟨rfl, g⟩; replace fp := fun j => (g.frozen (p := ⟨p, j, none⟩) (World.block_lt_of_cell? _ ⟨p, 0, none⟩ c0)).trans (fp j); replace ft := (g.frozen (p := ⟨p + 1, 0, none⟩) (World.block_lt_of_cell? _ ⟨p + 1, 0, none⟩ ct)).trans ft; replace l0 := sO g l0; replace l1 := sO g l1; replace l2 := sO g l2; replace l3 := sO g l3; replace l4 := sO g l4; replace l5 := sO g l5; replace l6 := sO g l6; replace l7 := sO g l7; replace l8 := sO g l8; replace l9 := sO g l9; replace l10 := sO g l10; replace c0 := sO g c0; replace c1 := sO g c1; replace c2 := sO g c2; replace ct := sO g ct; replace hb := hb.call g; replace bs := bs.call g; replace okV := ok_call hB okV g; clear g; clear ho2)
      | (refine ⟨trivial, (fun h => by cases h), ?_⟩; gi_at_call 148; refine (CallsIn.inRound li (callsIn_wide.2 (hT _))).mono ?_; rintro e V4 ⟨rfl, hv⟩; rw [hv]; clear hv V4)
      | (refine ⟨trivial, (fun h => by cases h), ?_⟩; gi_at_call 192; refine (CallsIn.inRound li (callsIn_wide.2 (hj _ okV))).mono ?_; rintro e V5 ⟨rfl, g⟩; replace fp := fun j => (g.frozen (p := ⟨p, j, none⟩) (World.block_lt_of_cell? _ ⟨p, 0, none⟩ c0)).trans (fp j); replace ft := (g.frozen (p := ⟨p + 1, 0, none⟩) (World.block_lt_of_cell? _ ⟨p + 1, 0, none⟩ ct)).trans ft; replace c0 := sO g c0; replace c1 := sO g c1; replace c2 := sO g c2; replace ct := sO g ct; replace hb := hb.call g; replace bs := bs.call g; clear g)
      | fail)
        exact ⟨((bs.set (a := ⟨p, 0, none⟩) (.inl rfl) _).set (a := ⟨p, 1, none⟩) (.inl rfl) _).set (a := ⟨p, 2, none⟩) (.inl rfl) _, TIf.next c0 c1 c2 ct fp ft hb E1.out (by rw [E2.out]; simp [show ¬ o1 < 0 by omega, show ¬ 0 < o2 by omega])⟩
  case done =>
    rintro D V hD hI hK
    obtain ⟨c0, c1, c2, ct, fp, ft, hb⟩ := hI
    have hd := hullP_dom d0 xs (fun y hy => (hx y hy).2)
    have hm := fun V ok => meet_f H (hullP A xs).1 false (hullP A xs).2.1 (hullP A xs).2.2 L.least L.most hd.1 hd.2 dl dm V ok
    have ha := all_f L
    have okV : Below B w0 V := okW.trans (hb.below (Nat.le_trans hB okW.size) (fun k hk => Nat.le_trans (Nat.le_trans hB ok.size) (hS k hk).1))
    have nSl : ∀ k, k < p → ¬ (k = p ∨ k = p + 1) := fun k hk => by omega
    replace l0 := hb.cell (nSl _ (by simp; omega)) l0
    replace l1 := hb.cell (nSl _ (by simp; omega)) l1
    replace l2 := hb.cell (nSl _ (by simp; omega)) l2
    replace l3 := hb.cell (nSl _ (by simp; omega)) l3
    replace l4 := hb.cell (nSl _ (by simp; omega)) l4
    replace l5 := hb.cell (nSl _ (by simp; omega)) l5
    replace l6 := hb.cell (nSl _ (by simp; omega)) l6
    replace l7 := hb.cell (nSl _ (by simp; omega)) l7
    replace l8 := hb.cell (nSl _ (by simp; omega)) l8
    replace l9 := hb.cell (nSl _ (by simp; omega)) l9
    replace l10 := hb.cell (nSl _ (by simp; omega)) l10
    replace r0 := hb.cell (nSl _ (by simp; omega)) r0
    replace r1 := hb.cell (nSl _ (by simp; omega)) r1
    replace r2 := hb.cell (nSl _ (by simp; omega)) r2
    replace rz := fun j => (hb.frozen (a := ⟨w.heap.size + 1, j, none⟩) (nSl _ (by simp; omega)) (by simp; omega)).trans (rz j)
    have bV : Below w.heap.size w V := bW.trans (hb.below (by omega) (fun k hk => (hS k hk).1))
    have zV := hb.size
    unfold mVf lvf at hm
    unfold lvf at ha
    rw [← HTR.out] at ct
    clear HTR
    replace HR := HR.out
    unfold sVf at HR
    clear hI0 hseq hd hx
    generalize hullP A xs = hh at *
    obtain ⟨he, hlo, hhi⟩ := hh
    dsimp only at hm c0 c1 c2
    generalize meetP A (he, hlo, hhi) (false, L.least, L.most) = mr at *
    obtain ⟨me, mlo, mhi⟩ := mr
    dsimp only at hm HR
    subst HR
    gi_wp2
    refine wpIn_wide.2 ?_
    go_region_held3 (fun w' => w'.cell? ⟨w.heap.size, 0, none⟩ = some (.int .u64 L.least) ∧ w'.cell? ⟨w.heap.size, 1, none⟩ = some (.int .u64 L.most) ∧ w'.cell? ⟨w.heap.size, 2, none⟩ = some (.int .i64 L.past) ∧ w'.cell? ⟨w.heap.size, 3, none⟩ = some (.func (.func L.ko) #[] L.co) ∧ w'.cell? ⟨w.heap.size, 4, none⟩ = some (.func (.func L.kp) #[] L.cp) ∧ w'.cell? ⟨w.heap.size, 5, none⟩ = some (.func (.func L.k1) #[] L.c1) ∧ w'.cell? ⟨w.heap.size, 6, none⟩ = some (.func (.func L.kv) #[] L.cv) ∧ w'.cell? ⟨w.heap.size, 7, none⟩ = some (.func (.func L.kn) #[] L.cn) ∧ w'.cell? ⟨w.heap.size, 8, none⟩ = some (.func (.func L.ku) #[] L.cu) ∧ w'.cell? ⟨w.heap.size, 9, none⟩ = some (.func (.func L.kt) #[] L.ct) ∧ w'.cell? ⟨w.heap.size, 10, none⟩ = some (.func (.func L.kz) #[] L.cz) ∧ w'.cell? ⟨p, 0, none⟩ = some (.bool he) ∧ w'.cell? ⟨p, 1, none⟩ = some (.int .u64 hlo) ∧ w'.cell? ⟨p, 2, none⟩ = some (.int .u64 hhi) ∧ w'.cell? ⟨p + 1, 0, none⟩ = some (.int .i64 TR)) (first | exact ⟨l0, l1, l2, l3, l4, l5, l6, l7, l8, l9, l10, c0, c1, c2, ct⟩ | exact ⟨sp_keep3 l0 (by omega) _ _ _, sp_keep3 l1 (by omega) _ _ _, sp_keep3 l2 (by omega) _ _ _, sp_keep3 l3 (by omega) _ _ _, sp_keep3 l4 (by omega) _ _ _, sp_keep3 l5 (by omega) _ _ _, sp_keep3 l6 (by omega) _ _ _, sp_keep3 l7 (by omega) _ _ _, sp_keep3 l8 (by omega) _ _ _, sp_keep3 l9 (by omega) _ _ _, sp_keep3 l10 (by omega) _ _ _, sp_keep3 c0 (by omega) _ _ _, sp_keep3 c1 (by omega) _ _ _, sp_keep3 c2 (by omega) _ _ _, sp_keep3 ct (by omega) _ _ _⟩)
      (first
        | (go_at_call 193; refine (ha _).mono ?_; rintro e V1 ⟨rfl, g1⟩; replace g1 : Below V.heap.size V V1 := ⟨g1.os, g1.tape, g1.output, g1.size, g1.block⟩; replace l0 := sO g1 l0; replace l1 := sO g1 l1; replace l2 := sO g1 l2; replace l3 := sO g1 l3; replace l4 := sO g1 l4; replace l5 := sO g1 l5; replace l6 := sO g1 l6; replace l7 := sO g1 l7; replace l8 := sO g1 l8; replace l9 := sO g1 l9; replace l10 := sO g1 l10; replace c0 := sO g1 c0; replace c1 := sO g1 c1; replace c2 := sO g1 c2; replace ct := sO g1 ct; replace r0 := sO g1 r0; replace r1 := sO g1 r1; replace r2 := sO g1 r2; replace okV := ok_call hB okV g1; replace bV := sp_call bV g1; replace rz := fun j => (g1.frozen (p := ⟨w.heap.size + 1, j, none⟩) (by simp; omega)).trans (rz j); have z1 := g1.size)
        | (go_at_call 189; refine (hm _ (by first | exact okV | exact okV.drew)).mono ?_; rintro e V2 ⟨rfl, g2⟩; replace g2 : Below V1.heap.size V1 V2 := ⟨g2.os, g2.tape, g2.output, g2.size, g2.block⟩; replace l0 := sO g2 l0; replace l1 := sO g2 l1; replace l2 := sO g2 l2; replace l3 := sO g2 l3; replace l4 := sO g2 l4; replace l5 := sO g2 l5; replace l6 := sO g2 l6; replace l7 := sO g2 l7; replace l8 := sO g2 l8; replace l9 := sO g2 l9; replace l10 := sO g2 l10; replace c0 := sO g2 c0; replace c1 := sO g2 c1; replace c2 := sO g2 c2; replace ct := sO g2 ct; replace r0 := sO g2 r0; replace r1 := sO g2 r1; replace r2 := sO g2 r2; replace bV := sp_call bV g2; replace rz := fun j => (g2.frozen (p := ⟨w.heap.size + 1, j, none⟩) (by simp; omega)).trans (rz j); have z2 := g2.size)
        | fail)
    all_goals gi_wp2
    have hDV : D < V.heap.size := (Array.getElem?_eq_some_iff.1 hK).1
    have hK2 : V2.heap[D]? = some (.deferred (some [])) := (g2.block D (by omega)).trans ((g1.block D hDV).trans hK)
    obtain ⟨X, hX⟩ : ∃ X, ((V2.setCell ⟨w.heap.size + 1, 0, none⟩ (.bool me)).setCell ⟨w.heap.size + 1, 1, none⟩ (.int .u64 mlo)).setCell ⟨w.heap.size + 1, 2, none⟩ (.int .u64 mhi) = X := ⟨_, rfl⟩
    have x0 : X.cell? ⟨w.heap.size + 1, 0, none⟩ = some (.bool me) := by rw [← hX]; simp [go_sem, r0, r1, r2]
    have x1 : X.cell? ⟨w.heap.size + 1, 1, none⟩ = some (.int .u64 mlo) := by rw [← hX]; simp [go_sem, r0, r1, r2]
    have x2 : X.cell? ⟨w.heap.size + 1, 2, none⟩ = some (.int .u64 mhi) := by rw [← hX]; simp [go_sem, r0, r1, r2]
    have hKX : X.heap[D]? = some (.deferred (some [])) := by
      rw [← hX]
      exact (Below.heap_setCell _ _ _ D (by simp; omega)).trans ((Below.heap_setCell _ _ _ D (by simp; omega)).trans ((Below.heap_setCell _ _ _ D (by simp; omega)).trans hK2))
    have bX : Below w.heap.size w X := by rw [← hX]; exact sp_set3 bV (by omega) _ _ _
    rw [hX]
    clear hX
    refine ⟨by simp, .inl ⟨_, _, rfl, run_takeDeferred hKX, ?_⟩⟩
    have y : ∀ j, (X.putObj D (.deferred none)).cell? ⟨w.heap.size + 1, j, none⟩ = X.cell? ⟨w.heap.size + 1, j, none⟩ := fun j => World.cell?_of_block (World.putObj_heap_other (by simp; omega))
    refine ⟨.tuple #[.agg #[.bool me, .int .u64 mlo, .int .u64 mhi], .int .i64 TR], by simp [results, Tryz.results155, go_sem, y, x0, x1, x2], rfl, bX.trans ((OnlyAt.put _ _ _).below (by omega))⟩
end Go.Proofs.YteafnkimcidkhaaGreat

namespace Go.Proofs.YteafnkimcidkhaaGreat
open Go.RowKit Go.Shelf
set_option linter.unusedVariables false
set_option linter.unusedSimpArgs false
attribute [local go_sem] Oper.semAt_some
set_option maxRecDepth 100000 in
set_option maxHeartbeats 4000000 in
theorem both1_f (l Ba Bb b cap : Nat) (em : Bool) (lo hi : Int) (ls : List (Bool × Int × Int)) (hlen : ls.length ≤ 1000) (S : Nat → Prop) (W : World) (hBa : ¬ S Ba) (hBb : ¬ S Bb) (hb : ¬ S b) (hS : ∀ k, S k → k < W.heap.size) (J : List (Int × Int) → World → Prop)
    (hY : ∀ pre (x : Int × Int) W1, pre ++ [x] <+: pairsL (em, lo, hi) ls → J pre W1 → ∀ m, YieldAt Fence.wide m Tryz.prog l #[.int .u64 x.1, .int .u64 x.2] W1 fun e W' => e = .returned (.bool true) ∧ J (pre ++ [x]) W' ∧ But S W1 W')
    (st : Stable W.heap.size J) (ha : Box3f W Ba (em, lo, hi)) (hc : W.cell? ⟨Bb, 0, none⟩ = some (.slice (some ⟨b, 0, none⟩) ls.length cap)) (hr : SRowf W b ls) (h0 : J [] W) :
    Calls Tryz.prog 207 #[.func (.yield l) #[] #[], .pointer (some ⟨Ba, 0, none⟩), .pointer (some ⟨Bb, 0, none⟩)] W fun e W' => (∃ v, e = .returned v) ∧ J (pairsL (em, lo, hi) ls) W' := by
  obtain ⟨a1, a2, a3⟩ := ha
  have lBa : Ba < W.heap.size := World.block_lt_of_cell? W _ a1
  have lBb : Bb < W.heap.size := World.block_lt_of_cell? W _ hc
  have hends := ends_f
  refine (callsIn_wide (n := 3)).1 ?_
  refine callsIn_of_wp_marks Tryz.func207 rfl trivial ?_ rfl
  simp only [Tryz.ntmps207, List.size_toArray, List.length_cons, List.length_nil, Nat.reduceAdd, Nat.reduceSub, Array.replicate_succ, Array.replicate_zero, List.push_toArray, List.append_toArray, List.nil_append, List.cons_append]
  gi_wp2_with (refine ⟨trivial, ?_⟩; gi_at_call 208; refine (callsIn_wide.2 (hends _ ⟨_, _, _, rfl⟩ _)).mono ?_; rintro e w' ⟨rfl, rfl⟩)
  obtain ⟨W0, hW0⟩ : ∃ W0, ((W.alloc (.cells #[.func (.yield l) #[] #[]] 93)).alloc (.cells #[.bool em, .int .u64 lo, .int .u64 hi] 126)).alloc (.cells #[.slice (some ⟨W.heap.size + 1, 0, none⟩) 1 1] 211) = W0 := ⟨_, rfl⟩
  have z0 : W0.heap.size = W.heap.size + 3 := by rw [← hW0]; simp
  have q0 : W0.cell? ⟨W.heap.size, 0, none⟩ = some (.func (.yield l) #[] #[]) := by rw [← hW0]; simp [go_sem]
  have q1 : SRowf W0 (W.heap.size + 1) [(em, lo, hi)] := fun j s hj => by
    cases j with
    | zero => simp at hj; subst hj; rw [← hW0]; simp [go_sem]
    | succ n => simp at hj
  have q2 : W0.cell? ⟨W.heap.size + 1 + 1, 0, none⟩ = some (.slice (some ⟨W.heap.size + 1, 0, none⟩) [(em, lo, hi)].length 1) := by rw [← hW0]; simp [go_sem]
  have Bw : Below W.heap.size W W0 := by rw [← hW0]; exact (((Below.refl _ W).alloc (Nat.le_refl _) _).alloc (by simp) _).alloc (by simp; omega) _
  have B0 : But S W W0 := But.of Bw
  have qc := B0.cell hBb hc
  have qr := hr.but B0 hb
  have nS : ∀ k, W.heap.size ≤ k → ¬ S k := fun k hk h => absurd (hS k h) (by omega)
  rw [hW0]
  clear hW0 a1 a2 a3 hc hr
  refine feed_out (n := 3) rfl (enters_of Tryz.func211 (by kernel_rfl) rfl) (ends_feeds_f (W.heap.size + 1 + 1) (W.heap.size + 1) 1 [(em, lo, hi)] (by simp) S W0 (nS _ (by omega)) (nS _ (by omega)) (fun k hk => by have := hS k hk; omega) q2 q1) (fun _ => rfl) (fun k hk => by have := hS k hk; omega)
    (fun pre W' => J (withL ls pre) W' ∧ But S W0 W') (Stable.and (fun s A B h hb => st _ _ _ h (hb.mono (by omega))) (stable_but (Nat.le_refl _))) ⟨st _ _ _ h0 Bw, But.refl _ _⟩
    (fun l0 x a' W' => ∃ Bx, l0 < Bx ∧ W.heap.size ≤ Bx ∧ W'.cell? ⟨Bx, 0, none⟩ = some (.int .u64 x) ∧ a' = { tmps := #[.func (.yield l) #[] #[], .pointer (some ⟨Ba, 0, none⟩), .pointer (some ⟨Bb, 0, none⟩), .pointer (some ⟨W.heap.size, 0, none⟩), .pointer (some ⟨Bx, 0, none⟩), undef, .agg #[.bool em, .int .u64 lo, .int .u64 hi], .slice (some ⟨W.heap.size + 1, 0, none⟩) 1 1, .func (.func 211) #[] #[.pointer (some ⟨W.heap.size + 1 + 1, 0, none⟩)], .int .u64 x, undef, undef, undef, undef, undef, undef, undef, undef], defers := [] })
    (fun l0 x a' A B h ho => by obtain ⟨Bx, h1, h2, h3, h4⟩ := h; exact ⟨Bx, h1, h2, (World.cell?_of_block (ho.block Bx (by omega))).trans h3, h4⟩) ?assign ?body ?done
  case assign =>
    rintro m l0 pre x W' K hl0 ll0 hp ⟨hJ, hB⟩ hK
    have z := hB.size
    gi_wp2
    exact hK _ _ ((But.refl _ _).alloc _) ⟨st _ _ _ hJ ((Below.refl _ _).alloc (by omega) _), hB.alloc _⟩ ⟨W'.heap.size, by omega, by omega, by simp [go_sem], rfl⟩
  case body =>
    rintro m l0 pre x a' W' hl0 hrec hp ⟨hJ, hB⟩ ⟨Bx, hBx, hBx2, cx, rfl⟩
    have z := hB.size
    have c0 := hB.cell (nS _ (Nat.le_refl _)) q0
    have c1 := hB.cell hBb qc
    have c2 := qr.but hB hb
    gi_wp2_with (refine ⟨trivial, (fun h => by cases h), ?_⟩; gi_at_call 208; refine (CallsIn.inRound l0 (callsIn_wide.2 (hends _ ⟨_, _, _, rfl⟩ _))).mono ?_; rintro e w' ⟨rfl, rfl⟩)
    obtain ⟨W2, hW2⟩ : ∃ W2, W'.alloc (.cells #[.slice (some ⟨b, 0, none⟩) ls.length cap] 211) = W2 := ⟨_, rfl⟩
    have z2 : W2.heap.size = W'.heap.size + 1 := by rw [← hW2]; simp
    have Bw2 : Below W'.heap.size W' W2 := by rw [← hW2]; exact (Below.refl _ _).alloc (Nat.le_refl _) _
    have B2 : But S W' W2 := But.of Bw2
    have d0 := B2.cell (nS _ (Nat.le_refl _)) c0
    have d1 : W2.cell? ⟨W'.heap.size, 0, none⟩ = some (.slice (some ⟨b, 0, none⟩) ls.length cap) := by rw [← hW2]; simp [go_sem]
    have d2 := c2.but B2 hb
    have dx := B2.cell (nS _ hBx2) cx
    have hrec2 : ∃ r, W2.heap[l0]? = some (.loop r) := by
      obtain ⟨r, hr⟩ := hrec
      exact ⟨r, (Bw2.block l0 (Array.getElem?_eq_some_iff.1 hr).1).trans hr⟩
    rw [hW2]
    clear hW2 c0 c1 c2 cx
    refine feed_in hrec2 rfl (enters_of Tryz.func211 (by kernel_rfl) rfl) (ends_feeds_f W'.heap.size b cap ls hlen S W2 (nS _ (by omega)) hb (fun k hk => by have := hS k hk; omega) d1 d2) (fun _ => rfl) (fun k hk => by have := hS k hk; omega)
      (fun pre' V => J (withL ls pre ++ pre'.map fun y => (x, y)) V ∧ But S W2 V) (Stable.and (fun s A B h hb => st _ _ _ h (hb.mono (by omega))) (stable_but (Nat.le_refl _))) ⟨by simpa using st _ _ _ hJ (Bw2.mono (by omega)), But.refl _ _⟩
      (fun l2 y a'' V => a'' = { tmps := #[.func (.yield l) #[] #[], .pointer (some ⟨Ba, 0, none⟩), .pointer (some ⟨Bb, 0, none⟩), .pointer (some ⟨W.heap.size, 0, none⟩), .pointer (some ⟨Bx, 0, none⟩), .int .u64 y, .agg #[.bool em, .int .u64 lo, .int .u64 hi], .slice (some ⟨W.heap.size + 1, 0, none⟩) 1 1, .func (.func 211) #[] #[.pointer (some ⟨W.heap.size + 1 + 1, 0, none⟩)], .int .u64 x, .slice (some ⟨b, 0, none⟩) ls.length cap, .func (.func 211) #[] #[.pointer (some ⟨W'.heap.size, 0, none⟩)], .int .u64 y, undef, undef, undef, undef, undef], defers := [] })
      (fun l2 y a'' A B h ho => h) ?assign2 ?body2 ?done2
    case assign2 =>
      rintro m2 l2 pre' y V K hl2 ll2 hp' hI hK
      gi_wp2
      exact hK _ _ (But.refl _ _) hI rfl
    case body2 =>
      rintro m2 l2 pre' y a'' V hl2 hrec3 hp' ⟨hJ2, hB2⟩ rfl
      have f0 := hB2.cell (nS _ (Nat.le_refl _)) d0
      have fx := hB2.cell (nS _ hBx2) dx
      obtain ⟨fn1, t1, as1, bo1, hy1, hR1⟩ := hY _ (x, y) V (withL_mid ls hp hp') hJ2 (m2 - 1)
      dsimp only at hy1
      gi_wp2
      refine ⟨(fun h => by cases h), ?_⟩
      have hR2 : RoundIn (Fence.wide.inRound l2) (m2 - 1) Tryz.prog l fn1 t1 as1 bo1 V _ := hR1
      refine hR2.mono ?_
      rintro e V2 ⟨rfl, hJ3, hB3⟩
      gi_wp2
      exact ⟨by simpa using hJ3, hB2.trans hB3⟩
    case done2 =>
      rintro V ⟨hJ2, hB2⟩
      gi_wp2
      exact ⟨B2.trans hB2, by rw [withL_snoc]; exact hJ2, (hB.trans B2).trans hB2⟩
  case done =>
    rintro D W' hD ⟨hJ, hB⟩ hK
    gi_wp2
    refine ⟨by simp, .inl ⟨_, _, rfl, run_takeDeferred hK, ?_⟩⟩
    exact ⟨_, results_none rfl _ _ _, ⟨_, rfl⟩, st _ _ _ hJ ((OnlyAt.put _ _ _).below (by omega))⟩
set_option maxHeartbeats 1000000 in
theorem both_f (e : Bool) (lo hi : Int) (v : Value) (hv : ∃ b n cap, v = .slice (some ⟨b, 0, none⟩) n cap) (w : World) : Calls Tryz.prog 195 #[.agg #[.bool e, .int .u64 lo, .int .u64 hi], v] w fun r w' => r = .returned (.func (.func 207) #[] #[.pointer (some ⟨w.heap.size, 0, none⟩), .pointer (some ⟨w.heap.size + 1, 0, none⟩)]) ∧ w' = (w.alloc (.cells #[.bool e, .int .u64 lo, .int .u64 hi] 126)).alloc (.cells #[v] 211) := by
  obtain ⟨b, n, cap, rfl⟩ := hv
  go_enter Tryz.func195, Tryz.ntmps195
  go_wp2_with fail
  go_ret
  exact ⟨rfl, rfl⟩
theorem both_feeds_f (Ba Bb b cap : Nat) (em : Bool) (lo hi : Int) (ls : List (Bool × Int × Int)) (hlen : ls.length ≤ 1000) (S : Nat → Prop) (w : World) (hBa : ¬ S Ba) (hBb : ¬ S Bb) (hb : ¬ S b) (hS : ∀ k, S k → k < w.heap.size)
    (ha : Box3f w Ba (em, lo, hi)) (hc : w.cell? ⟨Bb, 0, none⟩ = some (.slice (some ⟨b, 0, none⟩) ls.length cap)) (hr : SRowf w b ls) :
    Feeds Tryz.prog 207 #[.pointer (some ⟨Ba, 0, none⟩), .pointer (some ⟨Bb, 0, none⟩)] (fun x : Int × Int => #[Value.int .u64 x.1, Value.int .u64 x.2]) S (pairsL (em, lo, hi) ls) w := fun l J W hW st hY h0 =>
  both1_f l Ba Bb b cap em lo hi ls hlen S W hBa hBb hb (fun k hk => Nat.lt_of_lt_of_le (hS k hk) hW.size) J hY st (ha.but (But.of (S := S) hW) hBa) ((But.of (S := S) hW).cell hBb hc) (hr.but (But.of (S := S) hW) hb) h0
end Go.Proofs.YteafnkimcidkhaaGreat


