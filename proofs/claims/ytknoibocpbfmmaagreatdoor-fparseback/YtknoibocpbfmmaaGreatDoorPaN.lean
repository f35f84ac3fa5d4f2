/- Expressions: every text's. -/
import Derived.Test.YtknoibocpbfmmaaGreatDoorPaM
namespace Go.Proofs.YtknoibocpbfmmaaGreatDoor
open Go.RowKit
set_option linter.unusedVariables false
theorem ex_upto : ∀ n : Nat, ∀ k, k ≤ n → SpE k ∧ SpS k ∧ SpG k ∧ SpV k ∧ SpI k ∧ SpC k
  | 0, k, hk => by
    obtain rfl : k = 0 := by omega
    refine ⟨?_, ?_, ?_, ?_, ?_, ?_⟩
    · intro lv o ts d z a b c e nm; exact absurd (by rw [eP]) nm
    · intro o ts d z a b nm; exact absurd (by rw [sP]) nm
    · intro o ts d z a b nm; exact absurd (by rw [gP]) nm
    · intro o ts d z a b nm; exact absurd (by rw [vP]) nm
    · intro o ts d z a b nm; exact absurd (by rw [iP]) nm
    · intro o ts d z a b nm; exact absurd (by rw [cP]) nm
  | n + 1, k, hk => by
    by_cases h : k ≤ n
    · exact ex_upto n k h
    · obtain rfl : k = n + 1 := by omega
      have ih := ex_upto n n (Nat.le_refl _)
      exact ⟨step_E n ih.2.1 (fun k hk => (ex_upto n k hk).1), step_S n ih.2.1 ih.2.2.1, step_G n ih.2.2.2.2.1 ih.2.2.2.1, step_V n ih.1, step_I n ih.2.2.2.2.2, step_C n ih.1⟩
theorem pexpr (n : Nat) : SpE n := (ex_upto n n (Nat.le_refl _)).1
theorem pencl (n : Nat) : SpC n := (ex_upto n n (Nat.le_refl _)).2.2.2.2.2
end Go.Proofs.YtknoibocpbfmmaaGreatDoor
