/- The tokens of a text that is cut where its last token stands. -/
import Derived.Test.YtknoibocpbfmmaaGreatDoorFxJ
import Derived.Test.YtknoibocpbfmmaaGreatDoorPbA
import Derived.Test.YtknoibocpbfmmaaGreatDoorPcB
namespace Go.Proofs.YtknoibocpbfmmaaGreatDoor
set_option linter.unusedVariables false
theorem cnt_takeM (m : Nat) : ∀ (l : List UInt8) (M : Nat), cnt m (l.take M) = min (cnt m l) M
  | [], M => by simp [cnt]
  | b :: t, 0 => by simp [cnt]
  | b :: t, M + 1 => by
    rw [List.take_succ_cons]
    simp only [cnt]
    split
    · simp
    · rw [cnt_takeM m t M]; omega
theorem tok_take {l : List UInt8} {M : Nat} (hk : (tok l).1 ≠ 0) (hM : (tok l).2 ≤ M) : tok (l.take M) = tok l := by
  have h1 := tok_pos hk
  have c2 := cnt_takeM 2 l M
  have c4 := cnt_takeM 4 l M
  have c14 := cnt_takeM 14 l M
  unfold tok at hk hM h1 ⊢
  by_cases a : 0 < cnt 2 l
  · rw [if_pos a] at hk hM h1 ⊢
    have l14 := cnt_2_14 l
    rw [if_pos (by rw [c2]; omega)]
    unfold wonL at hk hM h1 ⊢
    have hc : cnt 14 l ≤ M := by
      revert hk hM
      split
      · intro _ h; exact h
      · split
        · intro _ h; exact h
        · intro h; exact absurd rfl h
    rw [c14, Nat.min_eq_left hc, List.take_take, Nat.min_eq_left hc]
  · rw [if_neg a] at hk hM h1 ⊢
    rw [if_neg (show ¬ 0 < cnt 2 (l.take M) by rw [c2]; omega)]
    by_cases b : 0 < cnt 4 l
    · rw [if_pos b] at hk hM h1 ⊢
      rw [if_pos (by rw [c4]; omega)]
      unfold iorL at hk hM h1 ⊢
      have hc : cnt 4 l ≤ M := by
        revert hM
        split
        · intro h; simp only at h; omega
        · intro h; exact h
      rw [c4, Nat.min_eq_left hc, List.drop_take, cnt_takeM, List.getElem?_take]
      by_cases g : l[cnt 4 l]? = some 46 ∧ 0 < cnt 4 (l.drop (cnt 4 l + 1))
      · rw [if_pos g] at hM ⊢
        simp only at hM
        rw [if_pos (show cnt 4 l < M by omega), if_pos ⟨g.1, by omega⟩, Nat.min_eq_left (by omega)]
      · rw [if_neg g]
        rw [if_neg]
        rintro ⟨g1, g2⟩
        split at g1
        · exact g ⟨g1, by omega⟩
        · cases g1
    · rw [if_neg b] at hk hM h1 ⊢
      rw [if_neg (show ¬ 0 < cnt 4 (l.take M) by rw [c4]; omega)]
      have hs : 0 < sgnN l := by
        by_cases c : 0 < sgnN l
        · exact c
        · rw [if_neg c] at hk; exact absurd rfl hk
      rw [if_pos hs] at hM ⊢
      simp only at hM
      have e : sgnN (l.take M) = sgnN l := by
        unfold sgnN at hs hM ⊢
        by_cases g : 2 ≤ l.length ∧ isS2 (l.take 2) = true
        · rw [if_pos g] at hM ⊢
          rw [if_pos ⟨by rw [List.length_take]; omega, by rw [List.take_take, Nat.min_eq_left hM]; exact g.2⟩]
        · rw [if_neg g] at hs hM ⊢
          have g' : ¬ (2 ≤ (l.take M).length ∧ isS2 ((l.take M).take 2) = true) := by
            rintro ⟨q1, q2⟩
            rw [List.length_take] at q1
            rw [List.take_take, Nat.min_eq_left (by omega)] at q2
            exact g ⟨by omega, q2⟩
          rw [if_neg g']
          by_cases k : 1 ≤ l.length ∧ isS1 (l.headD 0).toNat = true
          · rw [if_pos k] at hM ⊢
            rw [if_pos]
            refine ⟨by rw [List.length_take]; omega, ?_⟩
            cases l with
            | nil => simp at k
            | cons x xs =>
              cases M with
              | zero => omega
              | succ M => exact k.2
          · rw [if_neg k] at hs; exact absurd hs (by omega)
      rw [if_pos (by rw [e]; exact hs), e]
theorem scanAt_cut : ∀ (t : List (Nat × Nat × Nat)) (l : List UInt8) (a n k A m : Nat), scanAt l a n = .ok (t ++ [(k, A, m)]) → a ≤ A ∧ scanAt (l.take (A - a)) a n = .ok t
  | t, l, a, n, k, A, m, h => by
    by_cases h0 : l.length = 0
    · rw [scanAt_end l a n h0] at h
      have := Except.ok.inj h
      simp at this
    by_cases hk : (tok l).1 = 0
    · rw [scanAt_bad l a n h0 hk] at h; cases h
    by_cases hn : n = 2048
    · subst hn; rw [scanAt_full l a h0 hk] at h; cases h
    rw [scanAt, if_neg h0, dif_neg hk, if_neg hn] at h
    obtain ⟨c, hc⟩ : ∃ c, cnt 1 (l.drop (tok l).2) = c := ⟨_, rfl⟩
    rw [hc] at h
    cases hr : scanAt ((l.drop (tok l).2).drop c) (a + (tok l).2 + c) (n + 1) with
    | error e => rw [hr] at h; cases h
    | ok r =>
      rw [hr] at h
      have h2 := Except.ok.inj h
      cases t with
      | nil =>
        rw [List.nil_append] at h2
        have h3 := (List.cons.inj h2).1
        have : a = A := congrArg (fun x => x.2.1) h3
        subst this
        refine ⟨Nat.le_refl _, ?_⟩
        rw [Nat.sub_self, List.take_zero]
        exact scanAt_end [] a n rfl
      | cons x t =>
        rw [List.cons_append] at h2
        obtain ⟨h3, h4⟩ := List.cons.inj h2
        rw [h4] at hr
        obtain ⟨i1, i2⟩ := scanAt_cut t _ _ _ k A m hr
        have hp := tok_pos hk
        have tt : tok (l.take (A - a)) = tok l := tok_take hk (by omega)
        refine ⟨by omega, ?_⟩
        have hl : (tok l).2 ≤ l.length := tok_le l
        rw [scanAt, if_neg (by rw [List.length_take]; omega), dif_neg (by rw [tt]; exact hk), if_neg hn, tt, List.drop_take, cnt_takeM, hc, Nat.min_eq_left (by omega), List.drop_take,
          show A - a - (tok l).2 - c = A - (a + (tok l).2 + c) by omega, i2]
        simp only
        rw [h3]
theorem scanL_cut {l : List UInt8} {t : List (Nat × Nat × Nat)} {k A m : Nat} (h : scanL l = .ok (t ++ [(k, A, m)])) : scanL (l.take A) = .ok t := by
  unfold scanL at h ⊢
  by_cases h0 : 8192 < l.length
  · rw [if_pos h0] at h; cases h
  · rw [if_neg h0] at h
    obtain ⟨i1, i2⟩ := scanAt_cut t _ _ _ k A m h
    rw [if_neg (by rw [List.length_take]; omega), cnt_takeM, Nat.min_eq_left i1, List.drop_take]
    exact i2
/-- Tokens are of some kind, and rise. -/
theorem scanAt_kinds : ∀ (t : List (Nat × Nat × Nat)) (l : List UInt8) (a n : Nat), scanAt l a n = .ok t → ∀ x ∈ t, x.1 ≠ 0 ∧ a ≤ x.2.1 ∧ x.2.1 + x.2.2 ≤ a + l.length
  | t, l, a, n, h => by
    by_cases h0 : l.length = 0
    · rw [scanAt_end l a n h0] at h
      have := Except.ok.inj h
      subst this
      intro x hx; cases hx
    by_cases hk : (tok l).1 = 0
    · rw [scanAt_bad l a n h0 hk] at h; cases h
    by_cases hn : n = 2048
    · subst hn; rw [scanAt_full l a h0 hk] at h; cases h
    rw [scanAt, if_neg h0, dif_neg hk, if_neg hn] at h
    obtain ⟨c, hc⟩ : ∃ c, cnt 1 (l.drop (tok l).2) = c := ⟨_, rfl⟩
    rw [hc] at h
    cases hr : scanAt ((l.drop (tok l).2).drop c) (a + (tok l).2 + c) (n + 1) with
    | error e => rw [hr] at h; cases h
    | ok r =>
      rw [hr] at h
      have h2 := Except.ok.inj h
      subst h2
      have hl := tok_le l
      have hcl := cnt_le 1 (l.drop (tok l).2)
      rw [hc, List.length_drop] at hcl
      intro x hx
      rcases List.mem_cons.1 hx with rfl | hx
      · exact ⟨hk, Nat.le_refl _, by simp only; omega⟩
      · obtain ⟨j1, j2, j3⟩ := scanAt_kinds r _ _ _ hr x hx
        simp only [List.length_drop] at j3
        exact ⟨j1, by omega, by omega⟩
theorem scanL_kinds {l : List UInt8} {t : List (Nat × Nat × Nat)} (h : scanL l = .ok t) : ∀ x ∈ t, x.1 ≠ 0 ∧ x.2.1 + x.2.2 ≤ l.length := by
  unfold scanL at h
  split at h
  · cases h
  · intro x hx
    obtain ⟨j1, j2, j3⟩ := scanAt_kinds t _ _ _ h x hx
    have := cnt_le 1 l
    rw [List.length_drop] at j3
    exact ⟨j1, by omega⟩
end Go.Proofs.YtknoibocpbfmmaaGreatDoor

