/- Two texts with a blank between them: their tokens. -/
import Derived.Test.YtknoibocpbfmmaaGreatDoorPcG
import Derived.Test.YtknoibocpbfmmaaGreatDoorPcC
import Derived.Test.YtknoibocpbfmmaaGreatDoorFxJ
namespace Go.Proofs.YtknoibocpbfmmaaGreatDoor
open Go.RowKit
set_option linter.unusedVariables false
set_option linter.unusedSimpArgs false
theorem cnt_app {m : Nat} (hm : 1 &&& m = 0) {r : List UInt8} (hr : blankR r) : ∀ l, cnt m (l ++ r) = cnt m l
  | [] => cnt_blankR hm hr
  | b :: t => by
    rw [List.cons_append]
    simp only [cnt]
    rw [cnt_app hm hr t]
/-- What a token is does not hang on what stands behind the text, if that is a blank. -/
theorem tok_app {l : List UInt8} (hk : (tok l).1 ≠ 0) {r : List UInt8} (hr : blankR r) : tok (l ++ r) = tok l := by
  have hw : wonL (l ++ r) = wonL l := by
    unfold wonL
    rw [cnt_app (by decide) hr, List.take_append_of_le_length (cnt_le 14 l)]
  have hi : iorL (l ++ r) = iorL l := by
    unfold iorL
    rw [cnt_app (by decide) hr]
    have dl := cnt_le 4 l
    by_cases c : cnt 4 l < l.length
    · rw [List.getElem?_append_left c, List.drop_append_of_le_length (by omega), cnt_app (by decide) hr]
    · have e : cnt 4 l = l.length := by omega
      rw [if_neg, if_neg]
      · rw [e, List.getElem?_eq_none (Nat.le_refl _)]; simp
      · rintro ⟨q, -⟩
        rw [e, List.getElem?_append_right (Nat.le_refl _), Nat.sub_self] at q
        have := hr 46 (by rw [List.head?_eq_getElem?]; exact q)
        revert this
        decide +kernel
  have h0 : l ≠ [] := by
    rintro rfl
    exact hk (by decide +kernel)
  have hs : sgnN (l ++ r) = sgnN l := by
    unfold sgnN
    match l, h0 with
    | [c], _ =>
      rw [show ([c] ++ r).headD 0 = ([c] : List UInt8).headD 0 from rfl]
      rw [if_neg, if_neg (show ¬ (2 ≤ [c].length ∧ isS2 ([c].take 2) = true) from fun h => by simp at h)]
      · simp only [List.length_append, List.length_cons, List.length_nil]
        by_cases q : isS1 (UInt8.toNat (([c] : List UInt8).headD 0)) = true
        · rw [if_pos ⟨by omega, q⟩, if_pos ⟨by omega, q⟩]
        · rw [if_neg (fun h => q h.2), if_neg (fun h => q h.2)]
      · rintro ⟨a1, a2⟩
        cases r with
        | nil => simp at a1
        | cons x y =>
          have := hr x rfl
          simp at a2
          exact s2_second a2 this
    | c :: c2 :: t, _ =>
      have : (c :: c2 :: t ++ r).take 2 = (c :: c2 :: t).take 2 := by simp
      rw [this]
      simp
  unfold tok
  rw [cnt_app (by decide) hr, cnt_app (by decide) hr, hw, hi, hs]
theorem cnt1_app {l : List UInt8} (r : List UInt8) (h : cnt 1 l < l.length) : cnt 1 (l ++ r) = cnt 1 l := by
  induction l with
  | nil => simp at h
  | cons b t ih =>
    rw [List.cons_append]
    simp only [cnt] at h ⊢
    split
    · rfl
    · rename_i c
      rw [if_neg c] at h
      rw [ih (by simp at h; omega)]
theorem cnt1_full {l : List UInt8} (r : List UInt8) (h : cnt 1 l = l.length) : cnt 1 (l ++ r) = l.length + cnt 1 r := by
  induction l with
  | nil => simp
  | cons b t ih =>
    rw [List.cons_append]
    simp only [cnt] at h ⊢
    split at h
    · simp at h
    · rename_i c
      rw [if_neg c, ih (by simp at h; omega)]
      simp
      omega
theorem blank32 (m : List UInt8) : blankR (32 :: m) := fun b hb => by simp at hb; subst hb; decide +kernel
theorem cnt1_32 (m : List UInt8) : cnt 1 (32 :: m) = cnt 1 m + 1 := by
  simp only [cnt]
  rw [if_neg (by decide +kernel)]
theorem andThen_cons (x : Nat × Nat × Nat) (t : List (Nat × Nat × Nat)) (y : Except (Nat × Nat) (List (Nat × Nat × Nat))) : andThen (x :: t) y = (match andThen t y with | .ok r => .ok (x :: r) | .error e => .error e) := by
  cases y <;> rfl
/-- A text's tokens, and then those of what stands behind a blank. -/
theorem scan_app (m : List UInt8) : ∀ (t : List (Nat × Nat × Nat)) (l : List UInt8) (a n : Nat), scanAt (l.drop (cnt 1 l)) (a + cnt 1 l) n = .ok t →
    scanAt ((l ++ 32 :: m).drop (cnt 1 (l ++ 32 :: m))) (a + cnt 1 (l ++ 32 :: m)) n = andThen t (scanAt (m.drop (cnt 1 m)) (a + l.length + 1 + cnt 1 m) (n + t.length))
  | t, l, a, n, h => by
    by_cases h0 : (l.drop (cnt 1 l)).length = 0
    · rw [scanAt_end _ _ _ h0] at h
      have := Except.ok.inj h
      subst this
      have hc : cnt 1 l = l.length := by
        have := cnt_le 1 l
        rw [List.length_drop] at h0
        omega
      rw [cnt1_full _ hc, cnt1_32, List.drop_append, List.drop_of_length_le (by omega), List.nil_append, show l.length + (cnt 1 m + 1) - l.length = cnt 1 m + 1 by omega, List.drop_succ_cons, show a + (l.length + (cnt 1 m + 1)) = a + l.length + 1 + cnt 1 m by omega]
      simp only [List.length_nil, Nat.add_zero]
      cases scanAt (m.drop (cnt 1 m)) (a + l.length + 1 + cnt 1 m) n <;> rfl
    have hc : cnt 1 l < l.length := by
      rw [List.length_drop] at h0
      omega
    have e0 : (l ++ 32 :: m).drop (cnt 1 l) = l.drop (cnt 1 l) ++ 32 :: m := List.drop_append_of_le_length (by omega)
    rw [cnt1_app _ hc, e0]
    have eL : a + l.length = a + cnt 1 l + (l.drop (cnt 1 l)).length := by rw [List.length_drop]; omega
    rw [eL]
    generalize l.drop (cnt 1 l) = L at *
    generalize a + cnt 1 l = A at *
    by_cases hk : (tok L).1 = 0
    · rw [scanAt_bad L A n h0 hk] at h; cases h
    by_cases hn : n = 2048
    · subst hn; rw [scanAt_full L A h0 hk] at h; cases h
    have ht := tok_app hk (blank32 m)
    have hl := tok_le L
    rw [scanAt, if_neg h0, dif_neg hk, if_neg hn] at h
    rw [scanAt, if_neg (by rw [List.length_append]; omega), dif_neg (by rw [ht]; exact hk), if_neg hn, ht, List.drop_append_of_le_length hl]
    have eL2 : A + L.length = A + (tok L).2 + (L.drop (tok L).2).length := by rw [List.length_drop]; omega
    have hp := tok_pos hk
    have hlt : (L.drop (tok L).2).length < L.length := by rw [List.length_drop]; omega
    cases hr : scanAt ((L.drop (tok L).2).drop (cnt 1 (L.drop (tok L).2))) (A + (tok L).2 + cnt 1 (L.drop (tok L).2)) (n + 1) with
    | error e => rw [hr] at h; cases h
    | ok r =>
      rw [hr] at h
      have h2 := Except.ok.inj h
      subst h2
      have ih := scan_app m r (L.drop (tok L).2) (A + (tok L).2) (n + 1) hr
      rw [ih, ← eL2, andThen_cons]
      simp only [List.length_cons]
      rw [show n + 1 + r.length = n + (r.length + 1) by omega]
      cases andThen r (scanAt (m.drop (cnt 1 m)) (A + L.length + 1 + cnt 1 m) (n + (r.length + 1))) <;> rfl
/-- From another place on, and behind some others, tokens are the same, or too many. -/
theorem scan_from (K N : Nat) : ∀ (t : List (Nat × Nat × Nat)) (l : List UInt8) (a n : Nat), scanAt l a n = .ok t →
    scanAt l (a + K) (n + N) = .ok (t.map fun x => (x.1, x.2.1 + K, x.2.2)) ∨ ∃ p, scanAt l (a + K) (n + N) = .error (5, p)
  | t, l, a, n, h => by
    by_cases h0 : l.length = 0
    · rw [scanAt_end l a n h0] at h
      have := Except.ok.inj h
      subst this
      exact Or.inl (scanAt_end l _ _ h0)
    by_cases hk : (tok l).1 = 0
    · rw [scanAt_bad l a n h0 hk] at h; cases h
    by_cases hn : n = 2048
    · subst hn; rw [scanAt_full l a h0 hk] at h; cases h
    by_cases hn2 : n + N = 2048
    · right
      rw [hn2]
      exact ⟨_, scanAt_full l (a + K) h0 hk⟩
    rw [scanAt, if_neg h0, dif_neg hk, if_neg hn] at h
    rw [scanAt, if_neg h0, dif_neg hk, if_neg hn2]
    have hp := tok_pos hk
    have hlt : ((l.drop (tok l).2).drop (cnt 1 (l.drop (tok l).2))).length < l.length := by rw [List.length_drop, List.length_drop]; omega
    cases hr : scanAt ((l.drop (tok l).2).drop (cnt 1 (l.drop (tok l).2))) (a + (tok l).2 + cnt 1 (l.drop (tok l).2)) (n + 1) with
    | error e => rw [hr] at h; cases h
    | ok r =>
      rw [hr] at h
      have h2 := Except.ok.inj h
      subst h2
      have ih := scan_from K N r _ _ (n + 1) hr
      rw [show a + K + (tok l).2 + cnt 1 (l.drop (tok l).2) = a + (tok l).2 + cnt 1 (l.drop (tok l).2) + K by omega, show n + N + 1 = n + 1 + N by omega]
      rcases ih with ih | ⟨p, ih⟩
      · left; rw [ih]; rfl
      · right; exact ⟨p, by rw [ih]⟩
  termination_by t l => l.length
theorem scanL_app {l m : List UInt8} {t u : List (Nat × Nat × Nat)} (h : scanL l = .ok t) (k : scanL m = .ok u) :
    scanL (l ++ 32 :: m) = .ok (t ++ u.map fun x => (x.1, x.2.1 + (l.length + 1), x.2.2)) ∨ ∃ p, scanL (l ++ 32 :: m) = .error (5, p) := by
  unfold scanL at *
  split at h
  · cases h
  split at k
  · cases k
  split
  · exact Or.inr ⟨0, rfl⟩
  have h1 := scan_app m t l 0 0 (by rw [Nat.zero_add]; exact h)
  rw [Nat.zero_add, Nat.zero_add, Nat.zero_add] at h1
  rw [h1]
  rcases scan_from (l.length + 1) t.length u _ _ 0 k with e | ⟨p, e⟩
  · rw [Nat.zero_add] at e
    rw [show l.length + 1 + cnt 1 m = cnt 1 m + (l.length + 1) by omega, e]
    exact Or.inl rfl
  · rw [Nat.zero_add] at e
    rw [show l.length + 1 + cnt 1 m = cnt 1 m + (l.length + 1) by omega, e]
    exact Or.inr ⟨p, rfl⟩
/-- A token that is a name is no word. -/
theorem scanAt_names : ∀ (t : List (Nat × Nat × Nat)) (l : List UInt8) (a n : Nat), scanAt l a n = .ok t → ∀ x ∈ t, x.1 = 1 → isN ((l.drop (x.2.1 - a)).take x.2.2) = true
  | t, l, a, n, h => by
    by_cases h0 : l.length = 0
    · rw [scanAt_end l a n h0] at h
      have := Except.ok.inj h
      subst this
      intro x hx; cases hx
    by_cases hk : (tok l).1 = 0
    · rw [scanAt_bad l a n h0 hk] at h; cases h
    by_cases hn : n = 2048
    · subst hn; rw [scanAt_full l a h0 hk] at h; cases h
    rw [scanAt, if_neg h0, dif_neg hk, if_neg hn] at h
    have hp := tok_pos hk
    have hlt : ((l.drop (tok l).2).drop (cnt 1 (l.drop (tok l).2))).length < l.length := by rw [List.length_drop, List.length_drop]; omega
    cases hr : scanAt ((l.drop (tok l).2).drop (cnt 1 (l.drop (tok l).2))) (a + (tok l).2 + cnt 1 (l.drop (tok l).2)) (n + 1) with
    | error e => rw [hr] at h; cases h
    | ok r =>
      rw [hr] at h
      have h2 := Except.ok.inj h
      subst h2
      intro x hx x1
      rcases List.mem_cons.1 hx with rfl | hx
      · simp only at x1
        simp only [Nat.sub_self, List.drop_zero]
        unfold tok at x1 ⊢
        split at x1
        · rename_i c2
          rw [if_pos c2]
          unfold wonL at x1 ⊢
          split at x1
          · cases x1
          · rename_i c3
            rw [if_neg c3]
            split at x1
            · rename_i c4; rw [if_pos c4]; exact c4
            · cases x1
        · split at x1
          · unfold iorL at x1
            split at x1 <;> cases x1
          · split at x1 <;> cases x1
      · have := scanAt_names r _ _ _ hr x hx x1
        have j2 := (scanAt_kinds r _ _ _ hr x hx).2.1
        rw [List.drop_drop, List.drop_drop] at this
        rw [show x.2.1 - a = (tok l).2 + (cnt 1 (l.drop (tok l).2) + (x.2.1 - (a + (tok l).2 + cnt 1 (l.drop (tok l).2)))) by omega]
        exact this
  termination_by t l => l.length
theorem scanL_names {l : List UInt8} {t : List (Nat × Nat × Nat)} (h : scanL l = .ok t) : ∀ x ∈ t, x.1 = 1 → isN ((l.drop x.2.1).take x.2.2) = true := by
  unfold scanL at h
  split at h
  · cases h
  · intro x hx x1
    have j2 := (scanAt_kinds t _ _ _ h x hx).2.1
    have := scanAt_names t _ _ _ h x hx x1
    rw [List.drop_drop, show cnt 1 l + (x.2.1 - cnt 1 l) = x.2.1 by omega] at this
    exact this
theorem scanAt_len : ∀ (t : List (Nat × Nat × Nat)) (l : List UInt8) (a n : Nat), n ≤ 2048 → scanAt l a n = .ok t → n + t.length ≤ 2048
  | t, l, a, n, hn0, h => by
    by_cases h0 : l.length = 0
    · rw [scanAt_end l a n h0] at h
      have := Except.ok.inj h
      subst this
      exact hn0
    by_cases hk : (tok l).1 = 0
    · rw [scanAt_bad l a n h0 hk] at h; cases h
    by_cases hn : n = 2048
    · subst hn; rw [scanAt_full l a h0 hk] at h; cases h
    rw [scanAt, if_neg h0, dif_neg hk, if_neg hn] at h
    have hp := tok_pos hk
    have hlt : ((l.drop (tok l).2).drop (cnt 1 (l.drop (tok l).2))).length < l.length := by rw [List.length_drop, List.length_drop]; omega
    cases hr : scanAt ((l.drop (tok l).2).drop (cnt 1 (l.drop (tok l).2))) (a + (tok l).2 + cnt 1 (l.drop (tok l).2)) (n + 1) with
    | error e => rw [hr] at h; cases h
    | ok r =>
      rw [hr] at h
      have h2 := Except.ok.inj h
      subst h2
      have := scanAt_len r _ _ (n + 1) (by omega) hr
      simp
      omega
  termination_by t l => l.length
theorem scanL_len {l : List UInt8} {t : List (Nat × Nat × Nat)} (h : scanL l = .ok t) : t.length ≤ 2048 := by
  unfold scanL at h
  split at h
  · cases h
  · have := scanAt_len t _ _ 0 (by omega) h
    omega
end Go.Proofs.YtknoibocpbfmmaaGreatDoor

