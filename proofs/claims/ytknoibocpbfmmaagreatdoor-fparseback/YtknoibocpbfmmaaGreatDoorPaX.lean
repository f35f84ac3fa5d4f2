/- Statements and blocks of every depth. -/
import Derived.Test.YtknoibocpbfmmaaGreatDoorPaW
namespace Go.Proofs.YtknoibocpbfmmaaGreatDoor
open Go.RowKit
set_option linter.unusedVariables false
theorem st_upto : ∀ n : Nat, (∀ k, k ≤ n → SpSt k) ∧ SpBl n
  | 0 => ⟨fun k hk => by
      obtain rfl : k = 0 := by omega
      intro ts d z m nm
      rw [stP] at nm
      exact absurd rfl nm, by
      intro ts d z m nm
      rw [blP] at nm
      exact absurd rfl nm⟩
  | n + 1 => by
    obtain ⟨h1, h2⟩ := st_upto n
    have h3 := step_stmt n h2
    refine ⟨fun k hk => ?_, step_B n h1⟩
    rcases (show k ≤ n ∨ k = n + 1 by omega) with h | h
    · exact h1 k h
    · subst h; exact h3
theorem st_all (n : Nat) : SpSt n := (st_upto n).1 n (Nat.le_refl _)
theorem bl_all (n : Nat) : SpBl n := (st_upto n).2
end Go.Proofs.YtknoibocpbfmmaaGreatDoor
