/- Texts of the proof, put together. -/
import Derived.Test.YtknoibocpbfmmaaGreatDoorZG4
import Derived.Test.YtknoibocpbfmmaaGreatDoorZG6
import Derived.Test.YtknoibocpbfmmaaGreatDoorZG1
import Derived.Below
import Derived.RowKit
import Derived.WalkKit
import Derived.WalkSpells
import Derived.StillTactics
import Derived.Laws.Pointers
import Derived.Deep.QuietTactic
import Derived.Deep.RegionHeld3
namespace Go.Proofs.YtknoibocpbfmmaaGreatDoor
open Go.RowKit
set_option linter.unusedVariables false
set_option linter.unusedSimpArgs false
theorem cnt_app {m : Nat} (hm : 1 &&& m = 0) {r : List UInt8} (hr : blankR r) : ∀ l, cnt m (l ++ r) = cnt m l
  | [] => cnt_blankR hm hr
  | b :: t => by
    rw [List.cons_append]
    simp only [cnt]
    rw [cnt_app hm hr t]
/-- What a token is does not hang on what stands behind the text, if that is a blank. -/
theorem tok_app {l : List UInt8} (hk : (tok l).1 ≠ 0) {r : List UInt8} (hr : blankR r) : tok (l ++ r) = tok l := by
  have hw : wonL (l ++ r) = wonL l := by
    unfold wonL
    rw [cnt_app (by decide) hr, List.take_append_of_le_length (cnt_le 14 l)]
  have hi : iorL (l ++ r) = iorL l := by
    unfold iorL
    rw [cnt_app (by decide) hr]
    have dl := cnt_le 4 l
    by_cases c : cnt 4 l < l.length
    · rw [List.getElem?_append_left c, List.drop_append_of_le_length (by omega), cnt_app (by decide) hr]
    · have e : cnt 4 l = l.length := by omega
      rw [if_neg, if_neg]
      · rw [e, List.getElem?_eq_none (Nat.le_refl _)]; simp
      · rintro ⟨q, -⟩
        rw [e, List.getElem?_append_right (Nat.le_refl _), Nat.sub_self] at q
        have := hr 46 (by rw [List.head?_eq_getElem?]; exact q)
        revert this
        decide +kernel
  have h0 : l ≠ [] := by
    rintro rfl
    exact hk (by decide +kernel)
  have hs : sgnN (l ++ r) = sgnN l := by
    unfold sgnN
    match l, h0 with
    | [c], _ =>
      rw [show ([c] ++ r).headD 0 = ([c] : List UInt8).headD 0 from rfl]
      rw [if_neg, if_neg (show ¬ (2 ≤ [c].length ∧ isS2 ([c].take 2) = true) from fun h => by simp at h)]
      · simp only [List.length_append, List.length_cons, List.length_nil]
        by_cases q : isS1 (UInt8.toNat (([c] : List UInt8).headD 0)) = true
        · rw [if_pos ⟨by omega, q⟩, if_pos ⟨by omega, q⟩]
        · rw [if_neg (fun h => q h.2), if_neg (fun h => q h.2)]
      · rintro ⟨a1, a2⟩
        cases r with
        | nil => simp at a1
        | cons x y =>
          have := hr x rfl
          simp at a2
          exact s2_second a2 this
    | c :: c2 :: t, _ =>
      have : (c :: c2 :: t ++ r).take 2 = (c :: c2 :: t).take 2 := by simp
      rw [this]
      simp
  unfold tok
  rw [cnt_app (by decide) hr, cnt_app (by decide) hr, hw, hi, hs]
theorem cnt1_app {l : List UInt8} (r : List UInt8) (h : cnt 1 l < l.length) : cnt 1 (l ++ r) = cnt 1 l := by
  induction l with
  | nil => simp at h
  | cons b t ih =>
    rw [List.cons_append]
    simp only [cnt] at h ⊢
    split
    · rfl
    · rename_i c
      rw [if_neg c] at h
      rw [ih (by simp at h; omega)]
theorem cnt1_full {l : List UInt8} (r : List UInt8) (h : cnt 1 l = l.length) : cnt 1 (l ++ r) = l.length + cnt 1 r := by
  induction l with
  | nil => simp
  | cons b t ih =>
    rw [List.cons_append]
    simp only [cnt] at h ⊢
    split at h
    · simp at h
    · rename_i c
      rw [if_neg c, ih (by simp at h; omega)]
      simp
      omega
theorem blank32 (m : List UInt8) : blankR (32 :: m) := fun b hb => by simp at hb; subst hb; decide +kernel
theorem cnt1_32 (m : List UInt8) : cnt 1 (32 :: m) = cnt 1 m + 1 := by
  simp only [cnt]
  rw [if_neg (by decide +kernel)]
theorem andThen_cons (x : Nat × Nat × Nat) (t : List (Nat × Nat × Nat)) (y : Except (Nat × Nat) (List (Nat × Nat × Nat))) : andThen (x :: t) y = (match andThen t y with | .ok r => .ok (x :: r) | .error e => .error e) := by
  cases y <;> rfl
/-- A text's tokens, and then those of what stands behind a blank. -/
theorem scan_app (m : List UInt8) : ∀ (t : List (Nat × Nat × Nat)) (l : List UInt8) (a n : Nat), scanAt (l.drop (cnt 1 l)) (a + cnt 1 l) n = .ok t →
    scanAt ((l ++ 32 :: m).drop (cnt 1 (l ++ 32 :: m))) (a + cnt 1 (l ++ 32 :: m)) n = andThen t (scanAt (m.drop (cnt 1 m)) (a + l.length + 1 + cnt 1 m) (n + t.length))
  | t, l, a, n, h => by
    by_cases h0 : (l.drop (cnt 1 l)).length = 0
    · rw [scanAt_end _ _ _ h0] at h
      have := Except.ok.inj h
      subst this
      have hc : cnt 1 l = l.length := by
        have := cnt_le 1 l
        rw [List.length_drop] at h0
        omega
      rw [cnt1_full _ hc, cnt1_32, List.drop_append, List.drop_of_length_le (by omega), List.nil_append, show l.length + (cnt 1 m + 1) - l.length = cnt 1 m + 1 by omega, List.drop_succ_cons, show a + (l.length + (cnt 1 m + 1)) = a + l.length + 1 + cnt 1 m by omega]
      simp only [List.length_nil, Nat.add_zero]
      cases scanAt (m.drop (cnt 1 m)) (a + l.length + 1 + cnt 1 m) n <;> rfl
    have hc : cnt 1 l < l.length := by
      rw [List.length_drop] at h0
      omega
    have e0 : (l ++ 32 :: m).drop (cnt 1 l) = l.drop (cnt 1 l) ++ 32 :: m := List.drop_append_of_le_length (by omega)
    rw [cnt1_app _ hc, e0]
    have eL : a + l.length = a + cnt 1 l + (l.drop (cnt 1 l)).length := by rw [List.length_drop]; omega
    rw [eL]
    generalize l.drop (cnt 1 l) = L at *
    generalize a + cnt 1 l = A at *
    by_cases hk : (tok L).1 = 0
    · rw [scanAt_bad L A n h0 hk] at h; cases h
    by_cases hn : n = 2048
    · subst hn; rw [scanAt_full L A h0 hk] at h; cases h
    have ht := tok_app hk (blank32 m)
    have hl := tok_le L
    rw [scanAt, if_neg h0, dif_neg hk, if_neg hn] at h
    rw [scanAt, if_neg (by rw [List.length_append]; omega), dif_neg (by rw [ht]; exact hk), if_neg hn, ht, List.drop_append_of_le_length hl]
    have eL2 : A + L.length = A + (tok L).2 + (L.drop (tok L).2).length := by rw [List.length_drop]; omega
    have hp := tok_pos hk
    have hlt : (L.drop (tok L).2).length < L.length := by rw [List.length_drop]; omega
    cases hr : scanAt ((L.drop (tok L).2).drop (cnt 1 (L.drop (tok L).2))) (A + (tok L).2 + cnt 1 (L.drop (tok L).2)) (n + 1) with
    | error e => rw [hr] at h; cases h
    | ok r =>
      rw [hr] at h
      have h2 := Except.ok.inj h
      subst h2
      have ih := scan_app m r (L.drop (tok L).2) (A + (tok L).2) (n + 1) hr
      rw [ih, ← eL2, andThen_cons]
      simp only [List.length_cons]
      rw [show n + 1 + r.length = n + (r.length + 1) by omega]
      cases andThen r (scanAt (m.drop (cnt 1 m)) (A + L.length + 1 + cnt 1 m) (n + (r.length + 1))) <;> rfl
/-- From another place on, and behind some others, tokens are the same, or too many. -/
theorem scan_from (K N : Nat) : ∀ (t : List (Nat × Nat × Nat)) (l : List UInt8) (a n : Nat), scanAt l a n = .ok t →
    scanAt l (a + K) (n + N) = .ok (t.map fun x => (x.1, x.2.1 + K, x.2.2)) ∨ ∃ p, scanAt l (a + K) (n + N) = .error (5, p)
  | t, l, a, n, h => by
    by_cases h0 : l.length = 0
    · rw [scanAt_end l a n h0] at h
      have := Except.ok.inj h
      subst this
      exact Or.inl (scanAt_end l _ _ h0)
    by_cases hk : (tok l).1 = 0
    · rw [scanAt_bad l a n h0 hk] at h; cases h
    by_cases hn : n = 2048
    · subst hn; rw [scanAt_full l a h0 hk] at h; cases h
    by_cases hn2 : n + N = 2048
    · right
      rw [hn2]
      exact ⟨_, scanAt_full l (a + K) h0 hk⟩
    rw [scanAt, if_neg h0, dif_neg hk, if_neg hn] at h
    rw [scanAt, if_neg h0, dif_neg hk, if_neg hn2]
    have hp := tok_pos hk
    have hlt : ((l.drop (tok l).2).drop (cnt 1 (l.drop (tok l).2))).length < l.length := by rw [List.length_drop, List.length_drop]; omega
    cases hr : scanAt ((l.drop (tok l).2).drop (cnt 1 (l.drop (tok l).2))) (a + (tok l).2 + cnt 1 (l.drop (tok l).2)) (n + 1) with
    | error e => rw [hr] at h; cases h
    | ok r =>
      rw [hr] at h
      have h2 := Except.ok.inj h
      subst h2
      have ih := scan_from K N r _ _ (n + 1) hr
      rw [show a + K + (tok l).2 + cnt 1 (l.drop (tok l).2) = a + (tok l).2 + cnt 1 (l.drop (tok l).2) + K by omega, show n + N + 1 = n + 1 + N by omega]
      rcases ih with ih | ⟨p, ih⟩
      · left; rw [ih]; rfl
      · right; exact ⟨p, by rw [ih]⟩
  termination_by t l => l.length
theorem scanL_app {l m : List UInt8} {t u : List (Nat × Nat × Nat)} (h : scanL l = .ok t) (k : scanL m = .ok u) :
    scanL (l ++ 32 :: m) = .ok (t ++ u.map fun x => (x.1, x.2.1 + (l.length + 1), x.2.2)) ∨ ∃ p, scanL (l ++ 32 :: m) = .error (5, p) := by
  unfold scanL at *
  split at h
  · cases h
  split at k
  · cases k
  split
  · exact Or.inr ⟨0, rfl⟩
  have h1 := scan_app m t l 0 0 (by rw [Nat.zero_add]; exact h)
  rw [Nat.zero_add, Nat.zero_add, Nat.zero_add] at h1
  rw [h1]
  rcases scan_from (l.length + 1) t.length u _ _ 0 k with e | ⟨p, e⟩
  · rw [Nat.zero_add] at e
    rw [show l.length + 1 + cnt 1 m = cnt 1 m + (l.length + 1) by omega, e]
    exact Or.inl rfl
  · rw [Nat.zero_add] at e
    rw [show l.length + 1 + cnt 1 m = cnt 1 m + (l.length + 1) by omega, e]
    exact Or.inr ⟨p, rfl⟩
/-- A token that is a name is no word. -/
theorem scanAt_names : ∀ (t : List (Nat × Nat × Nat)) (l : List UInt8) (a n : Nat), scanAt l a n = .ok t → ∀ x ∈ t, x.1 = 1 → isN ((l.drop (x.2.1 - a)).take x.2.2) = true
  | t, l, a, n, h => by
    by_cases h0 : l.length = 0
    · rw [scanAt_end l a n h0] at h
      have := Except.ok.inj h
      subst this
      intro x hx; cases hx
    by_cases hk : (tok l).1 = 0
    · rw [scanAt_bad l a n h0 hk] at h; cases h
    by_cases hn : n = 2048
    · subst hn; rw [scanAt_full l a h0 hk] at h; cases h
    rw [scanAt, if_neg h0, dif_neg hk, if_neg hn] at h
    have hp := tok_pos hk
    have hlt : ((l.drop (tok l).2).drop (cnt 1 (l.drop (tok l).2))).length < l.length := by rw [List.length_drop, List.length_drop]; omega
    cases hr : scanAt ((l.drop (tok l).2).drop (cnt 1 (l.drop (tok l).2))) (a + (tok l).2 + cnt 1 (l.drop (tok l).2)) (n + 1) with
    | error e => rw [hr] at h; cases h
    | ok r =>
      rw [hr] at h
      have h2 := Except.ok.inj h
      subst h2
      intro x hx x1
      rcases List.mem_cons.1 hx with rfl | hx
      · simp only at x1
        simp only [Nat.sub_self, List.drop_zero]
        unfold tok at x1 ⊢
        split at x1
        · rename_i c2
          rw [if_pos c2]
          unfold wonL at x1 ⊢
          split at x1
          · cases x1
          · rename_i c3
            rw [if_neg c3]
            split at x1
            · rename_i c4; rw [if_pos c4]; exact c4
            · cases x1
        · split at x1
          · unfold iorL at x1
            split at x1 <;> cases x1
          · split at x1 <;> cases x1
      · have := scanAt_names r _ _ _ hr x hx x1
        have j2 := (scanAt_kinds r _ _ _ hr x hx).2.1
        rw [List.drop_drop, List.drop_drop] at this
        rw [show x.2.1 - a = (tok l).2 + (cnt 1 (l.drop (tok l).2) + (x.2.1 - (a + (tok l).2 + cnt 1 (l.drop (tok l).2)))) by omega]
        exact this
  termination_by t l => l.length
theorem scanL_names {l : List UInt8} {t : List (Nat × Nat × Nat)} (h : scanL l = .ok t) : ∀ x ∈ t, x.1 = 1 → isN ((l.drop x.2.1).take x.2.2) = true := by
  unfold scanL at h
  split at h
  · cases h
  · intro x hx x1
    have j2 := (scanAt_kinds t _ _ _ h x hx).2.1
    have := scanAt_names t _ _ _ h x hx x1
    rw [List.drop_drop, show cnt 1 l + (x.2.1 - cnt 1 l) = x.2.1 by omega] at this
    exact this
theorem scanAt_len : ∀ (t : List (Nat × Nat × Nat)) (l : List UInt8) (a n : Nat), n ≤ 2048 → scanAt l a n = .ok t → n + t.length ≤ 2048
  | t, l, a, n, hn0, h => by
    by_cases h0 : l.length = 0
    · rw [scanAt_end l a n h0] at h
      have := Except.ok.inj h
      subst this
      exact hn0
    by_cases hk : (tok l).1 = 0
    · rw [scanAt_bad l a n h0 hk] at h; cases h
    by_cases hn : n = 2048
    · subst hn; rw [scanAt_full l a h0 hk] at h; cases h
    rw [scanAt, if_neg h0, dif_neg hk, if_neg hn] at h
    have hp := tok_pos hk
    have hlt : ((l.drop (tok l).2).drop (cnt 1 (l.drop (tok l).2))).length < l.length := by rw [List.length_drop, List.length_drop]; omega
    cases hr : scanAt ((l.drop (tok l).2).drop (cnt 1 (l.drop (tok l).2))) (a + (tok l).2 + cnt 1 (l.drop (tok l).2)) (n + 1) with
    | error e => rw [hr] at h; cases h
    | ok r =>
      rw [hr] at h
      have h2 := Except.ok.inj h
      subst h2
      have := scanAt_len r _ _ (n + 1) (by omega) hr
      simp
      omega
  termination_by t l => l.length
theorem scanL_len {l : List UInt8} {t : List (Nat × Nat × Nat)} (h : scanL l = .ok t) : t.length ≤ 2048 := by
  unfold scanL at h
  split at h
  · cases h
  · have := scanAt_len t _ _ 0 (by omega) h
    omega
end Go.Proofs.YtknoibocpbfmmaaGreatDoor


namespace Go.Proofs.YtknoibocpbfmmaaGreatDoor
open Go.RowKit
set_option linter.unusedVariables false
set_option linter.unusedSimpArgs false
/-- All blocks that lay, but one, lie as they lay. -/
structure Onl (b : Nat) (w w' : World) : Prop where
  os : w'.os = w.os
  tape : w'.tape = w.tape
  output : w'.output = w.output
  size : w.heap.size ≤ w'.heap.size
  block : ∀ k, k < w.heap.size → k ≠ b → w'.heap[k]? = w.heap[k]?
theorem Onl.refl (b : Nat) (w : World) : Onl b w w := ⟨rfl, rfl, rfl, Nat.le_refl _, fun _ _ _ => rfl⟩
theorem Onl.trans {b : Nat} {x y z : World} (h : Onl b x y) (k : Onl b y z) : Onl b x z :=
  ⟨k.os.trans h.os, k.tape.trans h.tape, k.output.trans h.output, Nat.le_trans h.size k.size, fun i hi hb => (k.block i (Nat.lt_of_lt_of_le hi h.size) hb).trans (h.block i hi hb)⟩
theorem Onl.drewN {b : Nat} {x y : World} (h : Onl b x y) (n : Nat) : Onl b x (y.drewN n) := ⟨h.os, h.tape, h.output, h.size, h.block⟩
theorem Onl.drew {b : Nat} {x y : World} (h : Onl b x y) : Onl b x y.drew := ⟨h.os, h.tape, h.output, h.size, h.block⟩
theorem Onl.set {b j : Nat} {x y : World} (h : Onl b x y) (v : Value) : Onl b x (y.setCell ⟨b, j, none⟩ v) :=
  ⟨h.os, h.tape, h.output, by simpa [World.setCell] using h.size, fun k hk hb => (Below.heap_setCell y _ v k hb).trans (h.block k hk hb)⟩
theorem Onl.below {b : Nat} {x y z : World} (h : Onl b x y) (k : Below y.heap.size y z) : Onl b x z :=
  ⟨k.os.trans h.os, k.tape.trans h.tape, k.output.trans h.output, Nat.le_trans h.size k.size, fun i hi hb => (k.block i (Nat.lt_of_lt_of_le hi h.size)).trans (h.block i hi hb)⟩
theorem Onl.toBelow {b n : Nat} {x y : World} (h : Onl b x y) (hb : n ≤ b) (hn : n ≤ x.heap.size) : Below n x y :=
  ⟨h.os, h.tape, h.output, h.size, fun k hk => h.block k (Nat.lt_of_lt_of_le hk hn) (by omega)⟩
theorem cell_of_heap {W V : World} {c o : Nat} (h : V.heap[c]? = W.heap[c]?) : V.cell? ⟨c, o, none⟩ = W.cell? ⟨c, o, none⟩ := by
  unfold World.cell?; rw [h]
theorem frozen_of_heap {W V : World} {c o : Nat} (h : V.heap[c]? = W.heap[c]?) : V.frozen? ⟨c, o, none⟩ = W.frozen? ⟨c, o, none⟩ := by
  unfold World.frozen?; rw [h]
theorem Onl.cell {b : Nat} {w w' : World} (h : Onl b w w') {c o : Nat} {v : Value} (hc : c ≠ b) (q : w.cell? ⟨c, o, none⟩ = some v) : w'.cell? ⟨c, o, none⟩ = some v :=
  (cell_of_heap (h.block c (World.block_lt_of_cell? w _ q) hc)).trans q
/-- All blocks of a set lie as they lay. -/
def Kp (lo : Nat → Prop) (W V : World) : Prop := ∀ k, lo k → k < W.heap.size → V.heap[k]? = W.heap[k]?
theorem Kp.cell {lo : Nat → Prop} {W V : World} (h : Kp lo W V) {c o : Nat} {v : Value} (hc : lo c) (q : W.cell? ⟨c, o, none⟩ = some v) : V.cell? ⟨c, o, none⟩ = some v :=
  (cell_of_heap (h c hc (World.block_lt_of_cell? W _ q))).trans q
theorem Onl.kp {b : Nat} {lo : Nat → Prop} {W V : World} (h : Onl b W V) (hb : ¬ lo b) : Kp lo W V := fun k h1 h2 => h.block k h2 (fun e => hb (e ▸ h1))
theorem Kp.trans {lo : Nat → Prop} {x y z : World} (h : Kp lo x y) (hs : x.heap.size ≤ y.heap.size) (k : Kp lo y z) : Kp lo x z := fun i h1 h2 => (k i h1 (Nat.lt_of_lt_of_le h2 hs)).trans (h i h1 h2)
theorem Kp.set {lo : Nat → Prop} {W : World} {c j : Nat} {v : Value} (hc : ¬ lo c) : Kp lo W (W.setCell ⟨c, j, none⟩ v) := fun k h1 _ => Below.heap_setCell W _ v k (fun e => hc (by have e' : k = c := e; rw [← e']; exact h1))
theorem Below.kp {W V : World} (h : Below W.heap.size W V) (lo : Nat → Prop) : Kp lo W V := fun k _ h2 => h.block k h2
/-- Expressions in a row lie in a block, from a place on; all blocks that they reach lie from lo on. -/
def FoAt (W : World) (lo : Nat → Prop) : Fo → Nat → Nat → Prop
  | .nil, _, _ => True
  | .cons op tx ty ks r, c, o => lo c ∧ W.cell? ⟨c, o, none⟩ = some (.int .i64 op) ∧ W.cell? ⟨c, o + 1, none⟩ = some (.string tx) ∧ W.cell? ⟨c, o + 2, none⟩ = some (.int .i64 ty) ∧
      (∃ p q, W.cell? ⟨c, o + 3, none⟩ = some (.slice p ks.len q) ∧ (ks = .nil ∨ ∃ d u, p = some ⟨d, u, none⟩ ∧ FoAt W lo ks d u)) ∧ FoAt W lo r c (o + 4)
/-- A slice of expressions. -/
def SlF (W : World) (lo : Nat → Prop) (v : Value) (f : Fo) : Prop := ∃ p q, v = .slice p f.len q ∧ (f = .nil ∨ ∃ d u, p = some ⟨d, u, none⟩ ∧ FoAt W lo f d u)
theorem FoAt.kp {lo : Nat → Prop} {W V : World} (h : Kp lo W V) : ∀ {f : Fo} {c o : Nat}, FoAt W lo f c o → FoAt V lo f c o
  | .nil, _, _, _ => trivial
  | .cons op tx ty ks r, c, o, k => by
    obtain ⟨k0, k1, k2, k3, ⟨p, q, k4, k5⟩, k6⟩ := k
    refine ⟨k0, h.cell k0 k1, h.cell k0 k2, h.cell k0 k3, ⟨p, q, h.cell k0 k4, ?_⟩, FoAt.kp h k6⟩
    rcases k5 with k5 | ⟨d, u, e, k5⟩
    · exact Or.inl k5
    · exact Or.inr ⟨d, u, e, FoAt.kp h k5⟩
theorem FoAt.lo {lo lo' : Nat → Prop} (h : ∀ k, lo k → lo' k) {W : World} : ∀ {f : Fo} {c o : Nat}, FoAt W lo f c o → FoAt W lo' f c o
  | .nil, _, _, _ => trivial
  | .cons op tx ty ks r, c, o, k => by
    obtain ⟨k0, k1, k2, k3, ⟨p, q, k4, k5⟩, k6⟩ := k
    refine ⟨h _ k0, k1, k2, k3, ⟨p, q, k4, ?_⟩, FoAt.lo h k6⟩
    rcases k5 with k5 | ⟨d, u, e, k5⟩
    · exact Or.inl k5
    · exact Or.inr ⟨d, u, e, FoAt.lo h k5⟩
theorem SlF.kp {lo : Nat → Prop} {W V : World} {v : Value} {f : Fo} (h : Kp lo W V) (k : SlF W lo v f) : SlF V lo v f := by
  obtain ⟨p, q, e, k⟩ := k
  refine ⟨p, q, e, ?_⟩
  rcases k with k | ⟨d, u, e', k⟩
  · exact Or.inl k
  · exact Or.inr ⟨d, u, e', k.kp h⟩
theorem SlF.lo {lo lo' : Nat → Prop} (h : ∀ k, lo k → lo' k) {W : World} {v : Value} {f : Fo} (k : SlF W lo v f) : SlF W lo' v f := by
  obtain ⟨p, q, e, k⟩ := k
  refine ⟨p, q, e, ?_⟩
  rcases k with k | ⟨d, u, e', k⟩
  · exact Or.inl k
  · exact Or.inr ⟨d, u, e', k.lo h⟩
theorem SlF.nil (W : World) (lo : Nat → Prop) : SlF W lo (.slice none 0 0) .nil := ⟨none, 0, rfl, Or.inl rfl⟩
/-- An expression as a value. -/
def ExAt (W : World) (lo : Nat → Prop) (v : Value) (e : Ex) : Prop := ∃ s, v = .agg #[.int .i64 e.op, .string e.tx, .int .i64 e.ty, s] ∧ SlF W lo s e.ks
theorem ExAt.kp {lo : Nat → Prop} {W V : World} {v : Value} {e : Ex} (h : Kp lo W V) (k : ExAt W lo v e) : ExAt V lo v e := by
  obtain ⟨s, e, k⟩ := k; exact ⟨s, e, k.kp h⟩
theorem ExAt.lo {lo lo' : Nat → Prop} (h : ∀ k, lo k → lo' k) {W : World} {v : Value} {e : Ex} (k : ExAt W lo v e) : ExAt W lo' v e := by
  obtain ⟨s, e, k⟩ := k; exact ⟨s, e, k.lo h⟩
/-- An expression in four cells. -/
def ExC (W : World) (lo : Nat → Prop) (c o : Nat) (e : Ex) : Prop := W.cell? ⟨c, o, none⟩ = some (.int .i64 e.op) ∧ W.cell? ⟨c, o + 1, none⟩ = some (.string e.tx) ∧ W.cell? ⟨c, o + 2, none⟩ = some (.int .i64 e.ty) ∧ ∃ s, W.cell? ⟨c, o + 3, none⟩ = some s ∧ SlF W lo s e.ks
theorem ExC.kp {lo : Nat → Prop} {c o : Nat} {W V : World} {e : Ex} (h : Kp lo W V) (hc : lo c) (k : ExC W lo c o e) : ExC V lo c o e := by
  obtain ⟨k1, k2, k3, s, k4, k5⟩ := k
  exact ⟨h.cell hc k1, h.cell hc k2, h.cell hc k3, s, h.cell hc k4, k5.kp h⟩
theorem ExC.lo {lo lo' : Nat → Prop} {c o : Nat} (h : ∀ k, lo k → lo' k) {W : World} {e : Ex} (k : ExC W lo c o e) : ExC W lo' c o e := by
  obtain ⟨k1, k2, k3, s, k4, k5⟩ := k
  exact ⟨k1, k2, k3, s, k4, k5.lo h⟩
/-- One row of expressions, an expression ahead. -/
theorem FoAt.row {W : World} {lo : Nat → Prop} {c o : Nat} {e : Ex} {f : Fo} (hc : lo c) (h : ExC W lo c o e) (k : FoAt W lo f c (o + 4)) : FoAt W lo (e.row f) c o := by
  obtain ⟨k1, k2, k3, s, k4, p, q, rfl, k5⟩ := h
  exact ⟨hc, k1, k2, k3, ⟨p, q, k4, k5⟩, k⟩
theorem FoAt.head {W : World} {lo : Nat → Prop} {c o : Nat} {op ty : Int} {tx : ByteArray} {ks r : Fo} (h : FoAt W lo (.cons op tx ty ks r) c o) : ExC W lo c o ⟨op, tx, ty, ks⟩ ∧ FoAt W lo r c (o + 4) ∧ lo c := by
  obtain ⟨k0, k1, k2, k3, ⟨p, q, k4, k5⟩, k6⟩ := h
  exact ⟨⟨k1, k2, k3, _, k4, p, q, rfl, k5⟩, k6, k0⟩
/-- Statements in a row lie in a block, from a place on. -/
def SoAt (W : World) (lo : Nat → Prop) : So → Nat → Nat → Prop
  | .nil, _, _ => True
  | .cons d nm ix v l h t e r, c, o => lo c ∧ W.cell? ⟨c, o, none⟩ = some (.int .i64 d) ∧ W.cell? ⟨c, o + 1, none⟩ = some (.string nm) ∧ (∃ s, W.cell? ⟨c, o + 2, none⟩ = some s ∧ SlF W lo s ix) ∧
      ExC W lo c (o + 3) v ∧ ExC W lo c (o + 7) l ∧ ExC W lo c (o + 11) h ∧
      (∃ p q, W.cell? ⟨c, o + 15, none⟩ = some (.slice p t.len q) ∧ (t = .nil ∨ ∃ d u, p = some ⟨d, u, none⟩ ∧ SoAt W lo t d u)) ∧
      (∃ p q, W.cell? ⟨c, o + 16, none⟩ = some (.slice p e.len q) ∧ (e = .nil ∨ ∃ d u, p = some ⟨d, u, none⟩ ∧ SoAt W lo e d u)) ∧ SoAt W lo r c (o + 17)
/-- A slice of statements. -/
def SlS (W : World) (lo : Nat → Prop) (v : Value) (f : So) : Prop := ∃ p q, v = .slice p f.len q ∧ (f = .nil ∨ ∃ d u, p = some ⟨d, u, none⟩ ∧ SoAt W lo f d u)
theorem SoAt.kp {lo : Nat → Prop} {W V : World} (h : Kp lo W V) : ∀ {f : So} {c o : Nat}, SoAt W lo f c o → SoAt V lo f c o
  | .nil, _, _, _ => trivial
  | .cons d nm ix v l hh t e r, c, o, k => by
    obtain ⟨k0, k1, k2, ⟨s, k3, k3'⟩, k4, k5, k6, ⟨p, q, k7, k8⟩, ⟨p', q', k9, k10⟩, k11⟩ := k
    refine ⟨k0, h.cell k0 k1, h.cell k0 k2, ⟨s, h.cell k0 k3, k3'.kp h⟩, k4.kp h k0, k5.kp h k0, k6.kp h k0, ⟨p, q, h.cell k0 k7, ?_⟩, ⟨p', q', h.cell k0 k9, ?_⟩, SoAt.kp h k11⟩
    · rcases k8 with k8 | ⟨d, u, e, k8⟩
      · exact Or.inl k8
      · exact Or.inr ⟨d, u, e, SoAt.kp h k8⟩
    · rcases k10 with k10 | ⟨d, u, e, k10⟩
      · exact Or.inl k10
      · exact Or.inr ⟨d, u, e, SoAt.kp h k10⟩
theorem SoAt.lo {lo lo' : Nat → Prop} (h : ∀ k, lo k → lo' k) {W : World} : ∀ {f : So} {c o : Nat}, SoAt W lo f c o → SoAt W lo' f c o
  | .nil, _, _, _ => trivial
  | .cons d nm ix v l hh t e r, c, o, k => by
    obtain ⟨k0, k1, k2, ⟨s, k3, k3'⟩, k4, k5, k6, ⟨p, q, k7, k8⟩, ⟨p', q', k9, k10⟩, k11⟩ := k
    refine ⟨h _ k0, k1, k2, ⟨s, k3, k3'.lo h⟩, k4.lo h, k5.lo h, k6.lo h, ⟨p, q, k7, ?_⟩, ⟨p', q', k9, ?_⟩, SoAt.lo h k11⟩
    · rcases k8 with k8 | ⟨d, u, e, k8⟩
      · exact Or.inl k8
      · exact Or.inr ⟨d, u, e, SoAt.lo h k8⟩
    · rcases k10 with k10 | ⟨d, u, e, k10⟩
      · exact Or.inl k10
      · exact Or.inr ⟨d, u, e, SoAt.lo h k10⟩
theorem SlS.kp {lo : Nat → Prop} {W V : World} {v : Value} {f : So} (h : Kp lo W V) (k : SlS W lo v f) : SlS V lo v f := by
  obtain ⟨p, q, e, k⟩ := k
  refine ⟨p, q, e, ?_⟩
  rcases k with k | ⟨d, u, e', k⟩
  · exact Or.inl k
  · exact Or.inr ⟨d, u, e', k.kp h⟩
theorem SlS.lo {lo lo' : Nat → Prop} (h : ∀ k, lo k → lo' k) {W : World} {v : Value} {f : So} (k : SlS W lo v f) : SlS W lo' v f := by
  obtain ⟨p, q, e, k⟩ := k
  refine ⟨p, q, e, ?_⟩
  rcases k with k | ⟨d, u, e', k⟩
  · exact Or.inl k
  · exact Or.inr ⟨d, u, e', k.lo h⟩
theorem SlS.nil (W : World) (lo : Nat → Prop) : SlS W lo (.slice none 0 0) .nil := ⟨none, 0, rfl, Or.inl rfl⟩
/-- A statement as a value. -/
def StAt (W : World) (lo : Nat → Prop) (v : Value) (s : St) : Prop := ∃ ix vs ls hs t e, v = .agg #[.int .i64 s.dO, .string s.name, ix, .int .i64 s.value.op, .string s.value.tx, .int .i64 s.value.ty, vs, .int .i64 s.low.op, .string s.low.tx, .int .i64 s.low.ty, ls, .int .i64 s.high.op, .string s.high.tx, .int .i64 s.high.ty, hs, t, e] ∧
  SlF W lo ix s.index ∧ SlF W lo vs s.value.ks ∧ SlF W lo ls s.low.ks ∧ SlF W lo hs s.high.ks ∧ SlS W lo t s.thn ∧ SlS W lo e s.els
theorem StAt.kp {lo : Nat → Prop} {W V : World} {v : Value} {s : St} (h : Kp lo W V) (k : StAt W lo v s) : StAt V lo v s := by
  obtain ⟨ix, vs, ls, hs, t, e, rfl, k1, k2, k3, k4, k5, k6⟩ := k
  exact ⟨ix, vs, ls, hs, t, e, rfl, k1.kp h, k2.kp h, k3.kp h, k4.kp h, k5.kp h, k6.kp h⟩
/-- Tokens lie in a block, from a place on. -/
def TkAt (W : World) (c : Nat) : List Tk → Nat → Prop
  | [], _ => True
  | t :: ts, o => W.cell? ⟨c, o, none⟩ = some (.int .i64 t.1) ∧ W.cell? ⟨c, o + 1, none⟩ = some (.string t.2.1) ∧ W.cell? ⟨c, o + 2, none⟩ = some (.int .i64 t.2.2) ∧ TkAt W c ts (o + 3)
theorem TkAt.on {W V : World} {c : Nat} (h : ∀ o v, W.cell? ⟨c, o, none⟩ = some v → V.cell? ⟨c, o, none⟩ = some v) : ∀ {ts : List Tk} {o : Nat}, TkAt W c ts o → TkAt V c ts o
  | [], _, _ => trivial
  | t :: ts, o, ⟨k1, k2, k3, k4⟩ => ⟨h _ _ k1, h _ _ k2, h _ _ k3, TkAt.on h k4⟩
/-- A parser in its block: its tokens (in another block), how deep ( ) are, and were. -/
structure PAt (W : World) (b B : Nat) (ts : List Tk) (o d : Int) : Prop where
  ne : B ≠ b
  tk : ∃ f q, W.cell? ⟨b, 0, none⟩ = some (.slice (some ⟨B, f, none⟩) ts.length q) ∧ ts.length ≤ q ∧ TkAt W B ts f
  op : W.cell? ⟨b, 1, none⟩ = some (.int .i64 o)
  dp : W.cell? ⟨b, 2, none⟩ = some (.int .i64 d)
  fz : ∀ k, W.frozen? ⟨b, k, none⟩ = false
theorem PAt.on {W V : World} {b B : Nat} {ts : List Tk} {o d : Int} (h : PAt W b B ts o d) (hb : V.heap[b]? = W.heap[b]?) (hB : V.heap[B]? = W.heap[B]?) : PAt V b B ts o d := by
  obtain ⟨ne, ⟨f, q, h1, h2, h3⟩, h4, h5, h6⟩ := h
  exact ⟨ne, ⟨f, q, (cell_of_heap hb).trans h1, h2, h3.on (fun o v k => (cell_of_heap hB).trans k)⟩, (cell_of_heap hb).trans h4, (cell_of_heap hb).trans h5, fun k => (frozen_of_heap hb).trans (h6 k)⟩
theorem PAt.lt {W : World} {b B : Nat} {ts : List Tk} {o d : Int} (h : PAt W b B ts o d) : b < W.heap.size := World.block_lt_of_cell? W _ h.op
theorem PAt.ltB {W : World} {b B : Nat} {ts : List Tk} {o d : Int} (h : PAt W b B ts o d) (hts : ts ≠ []) : B < W.heap.size := by
  obtain ⟨f, q, h1, h2, h3⟩ := h.tk
  cases ts with
  | nil => exact absurd rfl hts
  | cons t ts => exact World.block_lt_of_cell? W _ h3.1
end Go.Proofs.YtknoibocpbfmmaaGreatDoor

