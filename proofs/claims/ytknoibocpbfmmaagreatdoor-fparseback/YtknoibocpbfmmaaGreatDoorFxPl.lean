/- Places rise, and each token stands at its own: the walk of FlexPlaces. -/
import Derived.Test.YtknoibocpbfmmaaGreatDoorFxL
import Derived.Deep.QuietTactic
import Derived.BigQuiet
namespace Go.Proofs.YtknoibocpbfmmaaGreatDoor
open Go.RowKit
set_option linter.unusedVariables false
set_option linter.unusedSimpArgs false
/-- Tokens from a place on, one behind the other, none empty, none past N. -/
def rise (N : Nat) : Nat → List (Nat × Nat × Nat) → Prop
  | _, [] => True
  | a, (_, p, n) :: t => a ≤ p ∧ 1 ≤ n ∧ p + n ≤ N ∧ rise N (p + n) t
theorem rise_le {N : Nat} : ∀ {t : List (Nat × Nat × Nat)} {a b : Nat}, rise N a t → b ≤ a → rise N b t
  | [], _, _, h, _ => trivial
  | (_, p, n) :: t, a, b, h, hb => ⟨Nat.le_trans hb h.1, h.2⟩
theorem scanAt_rise (m : Nat) : ∀ l a n t, l.length ≤ m → scanAt l a n = .ok t → rise (a + l.length) a t := by
  induction m with
  | zero =>
    intro l a n t hl h
    rw [scanAt_end l a n (by omega)] at h
    cases h
    trivial
  | succ m ih =>
    intro l a n t hl h
    by_cases h0 : l.length = 0
    · rw [scanAt_end l a n h0] at h
      cases h
      trivial
    · by_cases hk : (tok l).1 = 0
      · rw [scanAt_bad l a n h0 hk] at h; cases h
      · by_cases hn : n = 2048
        · subst hn; rw [scanAt_full l a h0 hk] at h; cases h
        · rw [scanAt, if_neg h0, dif_neg hk, if_neg hn] at h
          have tp := tok_pos hk
          have tl := tok_le l
          have cl := cnt_le 1 (l.drop (tok l).2)
          rw [List.length_drop] at cl
          split at h
          · rename_i r hr
            have := ih _ _ _ _ (by simp only [List.length_drop]; omega) hr
            cases h
            simp only [List.length_drop] at this
            refine ⟨Nat.le_refl _, tp, by omega, rise_le (a := a + (tok l).2 + cnt 1 (List.drop (tok l).2 l)) ?_ (b := a + (tok l).2) (by omega)⟩
            rw [show a + l.length = a + (tok l).2 + cnt 1 (List.drop (tok l).2 l) + (l.length - (tok l).2 - cnt 1 (List.drop (tok l).2 l)) by omega]
            exact this
          · cases h
theorem fxp_scanAt_err (m : Nat) : ∀ l a n E A, l.length ≤ m → scanAt l a n = .error (E, A) → E = 3 ∨ E = 5 := by
  induction m with
  | zero =>
    intro l a n E A hl h
    rw [scanAt_end l a n (by omega)] at h
    cases h
  | succ m ih =>
    intro l a n E A hl h
    by_cases h0 : l.length = 0
    · rw [scanAt_end l a n h0] at h
      cases h
    · by_cases hk : (tok l).1 = 0
      · rw [scanAt_bad l a n h0 hk] at h; cases h; exact Or.inl rfl
      · by_cases hn : n = 2048
        · subst hn; rw [scanAt_full l a h0 hk] at h; cases h; exact Or.inr rfl
        · rw [scanAt, if_neg h0, dif_neg hk, if_neg hn] at h
          have tp := tok_pos hk
          split at h
          · cases h
          · rename_i e hr
            cases h
            exact ih _ _ _ _ _ (by simp only [List.length_drop]; omega) hr
theorem fxp_scanL_err {l : List UInt8} {E A : Nat} (h : scanL l = .error (E, A)) : E = 3 ∨ E = 5 := by
  unfold scanL at h
  split at h
  · cases h; exact Or.inr rfl
  · exact fxp_scanAt_err _ _ _ _ _ _ (Nat.le_refl _) h
theorem scanL_rise {l : List UInt8} {t : List (Nat × Nat × Nat)} (h : scanL l = .ok t) : rise l.length 0 t := by
  unfold scanL at h
  split at h
  · cases h
  · have c := cnt_le 1 l
    have := scanAt_rise _ _ _ _ _ (Nat.le_refl _) h
    rw [List.length_drop] at this
    rw [show l.length = cnt 1 l + (l.length - cnt 1 l) by omega]
    exact rise_le this (Nat.zero_le _)
theorem rise_at {N : Nat} : ∀ {t : List (Nat × Nat × Nat)} {a i k p n : Nat}, rise N a t → t[i]? = some (k, p, n) → a ≤ p ∧ 1 ≤ n ∧ p + n ≤ N
  | (_, _, _) :: t, a, 0, k, p, n, h, e => by simp at e; obtain ⟨rfl, rfl, rfl⟩ := e; exact ⟨h.1, h.2.1, h.2.2.1⟩
  | (_, p0, n0) :: t, a, i + 1, k, p, n, h, e => by
    have := rise_at (i := i) h.2.2.2 (by simpa using e)
    have := h.1
    omega
theorem rise_len {N : Nat} : ∀ {t : List (Nat × Nat × Nat)} {a : Nat}, rise N a t → t.length ≤ N
  | [], _, _ => Nat.zero_le _
  | [(_, p, n)], a, h => by have := h.2.1; have := h.2.2.1; simp; omega
  | (_, p, n) :: (k, p2, n2) :: t, a, h => by
    have ih := rise_from h.2.2.2
    have := h.2.1
    simp only [List.length_cons] at *
    omega
  where
    rise_from {N : Nat} : ∀ {t : List (Nat × Nat × Nat)} {k p n a : Nat}, rise N a ((k, p, n) :: t) → a + ((k, p, n) :: t).length ≤ N
      | [], k, p, n, a, h => by have := h.1; have := h.2.1; have := h.2.2.1; simp; omega
      | (k2, p2, n2) :: t, k, p, n, a, h => by
        have ih := rise_from h.2.2.2
        have := h.1
        have := h.2.1
        simp only [List.length_cons] at *
        omega
theorem fx_wrap_id (x : Int) (h1 : -9223372036854775808 ≤ x) (h2 : x < 9223372036854775808) : IntKind.i64.wrap x = x := by rw [IntKind.wrap_i64]; omega
theorem rise_two {N : Nat} : ∀ {t : List (Nat × Nat × Nat)} {a i k p n k' p' n' : Nat}, rise N a t → t[i]? = some (k, p, n) → t[i + 1]? = some (k', p', n') → p + n ≤ p'
  | (_, _, _) :: t, a, 0, k, p, n, k', p', n', h, e, e' => by
    simp at e; obtain ⟨rfl, rfl, rfl⟩ := e
    exact (rise_at (i := 0) h.2.2.2 (by simpa using e')).1
  | (_, p0, n0) :: t, a, i + 1, k, p, n, k', p', n', h, e, e' => rise_two (i := i) h.2.2.2 (by simpa using e) (by simpa using e')
theorem tcells_at (s : ByteArray) : ∀ {t : List (Nat × Nat × Nat)} {i k p n : Nat}, t[i]? = some (k, p, n) →
    (tcells s t)[i * 3]? = some (.int .i64 (k : Nat)) ∧ (tcells s t)[i * 3 + 1]? = some (.string (s.extract p (p + n))) ∧ (tcells s t)[i * 3 + 2]? = some (.int .i64 (p : Nat))
  | (k0, p0, n0) :: t, 0, k, p, n, e => by simp at e; obtain ⟨rfl, rfl, rfl⟩ := e; exact ⟨rfl, rfl, rfl⟩
  | (k0, p0, n0) :: t, i + 1, k, p, n, e => by
    have := tcells_at s (t := t) (i := i) (by simpa using e)
    simp only [tcells, show (i + 1) * 3 = i * 3 + 1 + 1 + 1 by omega, List.getElem?_cons_succ]
    exact this
theorem cut_size (s : ByteArray) (p n : Nat) (h : p + n ≤ s.size) : (s.extract p (p + n)).size = n := by
  rw [← toL_len, toL_cut, List.length_drop, List.length_take, toL_len]; omega
theorem cut_ne (s : ByteArray) (p n : Nat) (h : p + n ≤ s.size) (hn : 1 ≤ n) : (s.extract p (p + n)).toList.isEmpty = false := by
  have := cut_size s p n h
  rw [← toL_len] at this
  cases q : (s.extract p (p + n)).toList with
  | nil => rw [q] at this; simp at this; omega
  | cons x l => rfl
theorem fx_below_dN {B : Nat} {a w : World} (h : Below B a w) (n : Nat) : Below B a (w.drewN n) := h.trans ⟨rfl, rfl, rfl, Nat.le_refl _, fun _ _ => rfl⟩
end Go.Proofs.YtknoibocpbfmmaaGreatDoor

