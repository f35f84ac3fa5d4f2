/- The texts of tokens, by their kinds: digits; digits, a point and digits; others. -/
import Derived.Test.YtknoibocpbfmmaaGreatDoorFxJ
namespace Go.Proofs.YtknoibocpbfmmaaGreatDoor
open Go.RowKit
set_option linter.unusedVariables false
set_option linter.unusedSimpArgs false
/-- Digits alone, at least one. -/
def Dg (l : List UInt8) : Prop := l ≠ [] ∧ ∀ b ∈ l, 48 ≤ b.toNat ∧ b.toNat ≤ 57
theorem kb4 {n : Nat} (h : kb n = 4) : 48 ≤ n ∧ n ≤ 57 := by
  revert h; unfold kb; (repeat' split) <;> omega
theorem kb4' {n : Nat} (h : 48 ≤ n ∧ n ≤ 57) : kb n = 4 := by
  unfold kb; (repeat' split) <;> omega
theorem kbn4 {n : Nat} (h : ¬ (kb n &&& 4 = 0)) : kb n = 4 := by
  rcases kb_five n with k | k | k | k | k <;> rw [k] at h ⊢ <;> simp at h
theorem all_of_cnt {l : List UInt8} (h : cnt 4 l = l.length) : ∀ b ∈ l, 48 ≤ b.toNat ∧ b.toNat ≤ 57 := by
  intro b hb
  obtain ⟨j, hj, rfl⟩ := List.mem_iff_getElem.mp hb
  exact kb4 (kbn4 (cnt_in 4 l j hj (by omega)))
theorem shape {T : List UInt8} {k : Nat} (h : tok T = (k, T.length)) (hk : k ≠ 0) :
    (k = 3 ∧ Dg T) ∨ (k = 4 ∧ ∃ D E, T = D ++ 46 :: E ∧ Dg D ∧ Dg E) ∨ (k ≠ 3 ∧ k ≠ 4 ∧ ∃ b t, T = b :: t ∧ ¬ (48 ≤ b.toNat ∧ b.toNat ≤ 57) ∧ b.toNat < 128) := by
  have hp : 1 ≤ T.length := by have := tok_pos (l := T) (by rw [h]; exact hk); rw [h] at this; exact this
  cases T with
  | nil => simp at hp
  | cons b t =>
    unfold tok at h
    split at h
    · rename_i c2
      refine Or.inr (Or.inr ?_)
      have kb2 : kb b.toNat = 2 := by
        simp only [cnt] at c2
        rcases kb_five b.toNat with q | q | q | q | q <;> rw [q] at c2 ⊢ <;> simp at c2
      have hb : b.toNat < 128 := by
        by_cases z : b.toNat < 128
        · exact z
        · rw [kb_high (by omega)] at kb2; omega
      have kk : k ≠ 3 ∧ k ≠ 4 := by
        unfold wonL at h
        split at h
        · have := (Prod.mk.inj h).1; omega
        · split at h
          · have := (Prod.mk.inj h).1; omega
          · have := (Prod.mk.inj h).1; omega
      exact ⟨kk.1, kk.2, b, t, rfl, fun q => by have := kb4' q; omega, hb⟩
    · rename_i c2
      split at h
      · rename_i c4
        unfold iorL at h
        split at h
        · rename_i q
          obtain ⟨rfl, e⟩ := Prod.mk.inj h
          refine Or.inr (Or.inl ⟨rfl, (b :: t).take (cnt 4 (b :: t)), (b :: t).drop (cnt 4 (b :: t) + 1), ?_, ⟨?_, ?_⟩, ⟨?_, ?_⟩⟩)
          · have l1 : cnt 4 (b :: t) < (b :: t).length := by
              by_cases z : cnt 4 (b :: t) < (b :: t).length
              · exact z
              · rw [List.getElem?_eq_none (by omega)] at q; simp at q
            have e1 : (b :: t)[cnt 4 (b :: t)]'l1 = 46 := by
              have := q.1
              rw [List.getElem?_eq_getElem l1] at this
              exact Option.some.inj this
            conv => lhs; rw [← List.take_append_drop (cnt 4 (b :: t)) (b :: t), List.drop_eq_getElem_cons l1, e1]
          · intro z
            have := congrArg List.length z
            rw [List.length_take] at this
            have l := cnt_le 4 (b :: t)
            simp only [List.length_nil] at this
            omega
          · intro x hx
            obtain ⟨j, hj, rfl⟩ := List.mem_iff_getElem.mp hx
            rw [List.length_take] at hj
            rw [List.getElem_take]
            exact kb4 (kbn4 (cnt_in 4 (b :: t) j (by omega) (by omega)))
          · intro z
            rw [z] at q
            simp [cnt] at q
          · apply all_of_cnt
            rw [List.length_drop]; omega
        · obtain ⟨rfl, e⟩ := Prod.mk.inj h
          exact Or.inl ⟨rfl, by simp, all_of_cnt e⟩
      · rename_i c4
        split at h
        · rename_i q
          obtain ⟨rfl, e⟩ := Prod.mk.inj h
          refine Or.inr (Or.inr ⟨by decide, by decide, b, t, rfl, fun z => c4 (by have := kb4' z; simp only [cnt, this]; simp), ?_⟩)
          unfold sgnN at q
          split at q
          · rename_i s
            have s2 := s.2
            cases t with
            | nil => simp at s
            | cons y u =>
              rw [show (b :: y :: u).take 2 = [b, y] from rfl] at s2
              unfold isS2 at s2
              simp only [Bool.or_eq_true, beq_iff_eq, List.cons.injEq, and_true] at s2
              rcases s2 with ⟨rfl, _⟩ | ⟨rfl, _⟩ | ⟨rfl, _⟩ | ⟨rfl, _⟩ | ⟨rfl, _⟩ | ⟨rfl, _⟩ <;> decide
          · split at q
            · rename_i s
              have s1 := s.2
              simp only [List.headD_cons] at s1
              unfold isS1 at s1
              simp only [Bool.or_eq_true, beq_iff_eq] at s1
              omega
            · omega
        · exact absurd (Prod.mk.inj h).1.symm hk
/-- The same of a token that Scan tells. -/
theorem tok_of_isT {k : Nat} {T : List UInt8} (h : isT (k, T)) : tok T = (k, T.length) ∧ k ≠ 0 := by
  have := h.2.2.2 [] (by intro b hb; simp at hb)
  rw [List.append_nil] at this
  exact ⟨this, h.1⟩
end Go.Proofs.YtknoibocpbfmmaaGreatDoor

