/- A text that is a name, or a word, is one token: the walk of FlexOne. -/
import Derived.Test.YtknoibocpbfmmaaGreatDoorFxPl
namespace Go.Proofs.YtknoibocpbfmmaaGreatDoor
open Go.RowKit
set_option linter.unusedVariables false
set_option linter.unusedSimpArgs false
theorem cnt_full {m : Nat} {l : List UInt8} (h : cnt m l = l.length) (j : Nat) (hj : j < l.length) : ¬ (kb (l[j]'hj).toNat &&& m = 0) := cnt_in m l j hj (by omega)
theorem cnt1_letter {l : List UInt8} (h : 0 < cnt 2 l) : cnt 1 l = 0 := by
  cases l with
  | nil => rfl
  | cons b t =>
    simp only [cnt] at h ⊢
    rcases kb_five b.toNat with k | k | k | k | k <;> rw [k] at h ⊢ <;> simp at h ⊢
theorem isW_cases {l : List UInt8} (h : isW l = true) : 0 < cnt 2 l ∧ cnt 14 l = l.length ∧ l.length ≤ 6 := by
  unfold isW at h
  simp only [Bool.or_eq_true, beq_iff_eq] at h
  rcases h with rfl | rfl | rfl | rfl | rfl | rfl | rfl | rfl | rfl | rfl <;> decide +kernel
theorem isN_cases {l : List UInt8} (h : isN l = true) : 0 < cnt 2 l ∧ cnt 14 l = l.length ∧ l.length ≤ 16 ∧ isW l = false := by
  unfold isN at h
  simp only [Bool.and_eq_true, decide_eq_true_eq, Bool.not_eq_true'] at h
  exact ⟨h.1, h.2.1, h.2.2.1, h.2.2.2⟩
theorem scan_one {l : List UInt8} {k : Nat} (hk : k ≠ 0) (h2 : 0 < cnt 2 l) (hl : l.length ≤ 8192) (ht : tok l = (k, l.length)) : scanL l = .ok [(k, 0, l.length)] := by
  have l0 : l.length ≠ 0 := by have := cnt_le 2 l; omega
  unfold scanL
  rw [if_neg (by omega), cnt1_letter h2, List.drop_zero]
  rw [scanAt, if_neg l0, ht, dif_neg hk, if_neg (by omega)]
  rw [scanAt_end _ _ _ (by simp)]
theorem tok_word {l : List UInt8} (h : isW l = true) : tok l = (2, l.length) := by
  obtain ⟨h1, h2, _⟩ := isW_cases h
  unfold tok wonL
  rw [if_pos h1, h2, List.take_length, h, if_pos rfl]
theorem tok_name {l : List UInt8} (h : isN l = true) : tok l = (1, l.length) := by
  obtain ⟨h1, h2, _, h4⟩ := isN_cases h
  unfold tok wonL
  rw [if_pos h1, h2, List.take_length, h4, if_neg (by decide), h, if_pos rfl]
theorem scanAt_single {l : List UInt8} {a n k p m : Nat} (h : scanAt l a n = .ok [(k, p, m)]) : p = a ∧ tok l = (k, m) := by
  by_cases h0 : l.length = 0
  · rw [scanAt_end l a n h0] at h; cases h
  · by_cases hk : (tok l).1 = 0
    · rw [scanAt_bad l a n h0 hk] at h; cases h
    · by_cases hn : n = 2048
      · subst hn; rw [scanAt_full l a h0 hk] at h; cases h
      · rw [scanAt, if_neg h0, dif_neg hk, if_neg hn] at h
        split at h
        · cases h
          exact ⟨rfl, rfl⟩
        · cases h
theorem tok_12 {l : List UInt8} {k : Nat} (hk : k = 1 ∨ k = 2) (h : tok l = (k, l.length)) (h0 : l.length ≠ 0) : isN l = true ∨ isW l = true := by
  unfold tok at h
  split at h
  · unfold wonL at h
    split at h
    · rename_i c d
      obtain ⟨-, e⟩ := Prod.mk.inj h
      rw [e, List.take_length] at d
      exact Or.inr d
    · split at h
      · rename_i c d e
        obtain ⟨-, f⟩ := Prod.mk.inj h
        rw [f, List.take_length] at e
        exact Or.inl e
      · obtain ⟨f, -⟩ := Prod.mk.inj h; omega
  · split at h
    · unfold iorL at h
      split at h <;> (obtain ⟨f, -⟩ := Prod.mk.inj h; omega)
    · split at h <;> (obtain ⟨f, -⟩ := Prod.mk.inj h; omega)
/-- A text that is neither: it is no one token that is a name or a word. -/
theorem not_one {s : ByteArray} {k p n : Nat} (hN : isN s.toList = false) (hW : isW s.toList = false) (h : scanL s.toList = .ok [(k, p, n)]) (he : ((s.extract p (p + n)).toList == s.toList) = true) :
    ((k : Int) == 1) = false ∧ ((k : Int) == 2) = false := by
  have hr := scanL_rise h
  rw [toL_len] at hr
  obtain ⟨_, r2, r3, _⟩ := hr
  have e1 := congrArg List.length (eq_of_beq he)
  rw [toL_len, toL_len, cut_size s p n r3] at e1
  obtain rfl : p = 0 := by omega
  unfold scanL at h
  split at h
  · cases h
  · obtain ⟨a1, a2⟩ := scanAt_single h
    rw [← a1, List.drop_zero] at a2
    have key := fun hk => tok_12 (l := s.toList) (k := k) hk (by rw [a2, toL_len, e1]) (by rw [toL_len]; omega)
    rw [hN, hW] at key
    constructor
    · rw [beq_eq_false_iff_ne]; intro e; have := key (Or.inl (by omega)); simp at this
    · rw [beq_eq_false_iff_ne]; intro e; have := key (Or.inr (by omega)); simp at this
end Go.Proofs.YtknoibocpbfmmaaGreatDoor

