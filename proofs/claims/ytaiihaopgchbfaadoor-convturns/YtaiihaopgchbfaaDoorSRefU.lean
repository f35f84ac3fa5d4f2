/- The reference's value, Round and Mul. -/
import Derived.Test.YtaiihaopgchbfaaDoorSRefT
import Derived.Test.YtaiihaopgchbfaaDoorRefG
namespace Go.Proofs.YtaiihaopgchbfaaDoor
open Go.RowKit
set_option linter.unusedVariables false
set_option linter.unusedSimpArgs false
/-- The reference's Round. -/
theorem clamp_bd (e : Int) : -4000 ≤ clamp e ∧ clamp e ≤ 4000 := by unfold clamp; omega
theorem bits_app {n A : Nat} {b : Bool} : [Value.bool b, Value.bool false] ++ Bl n A = Bl (2 + n) (4 * A + b.toNat) := by
  have e1 := Bl_cons n A false
  have e2 := Bl_cons (n + 1) (2 * A + false.toNat) b
  rw [← e1] at e2
  rw [show [Value.bool b, Value.bool false] ++ Bl n A = Value.bool b :: Value.bool false :: Bl n A from rfl, e2, show 2 + n = n + 1 + 1 by omega]
  congr 1
  simp only [Bool.toNat_false]
  omega
theorem row_bl {w : World} {b n A : Nat} (row : RowB w b n (fun i => A.testBit i)) : ∀ j u, (Bl n A)[j]? = some u → w.cell? (Addr.add ⟨b, 0, none⟩ j) = some u := by
  intro j u hj
  have hl : j < n := by
    by_cases c : j < n
    · exact c
    · rw [List.getElem?_eq_none (by rw [Bl_len]; omega)] at hj; cases hj
  rw [Bl_get _ _ _ hl] at hj
  have := row j hl
  have e : Addr.add ⟨b, 0, none⟩ j = ⟨b, j, none⟩ := by simp [Addr.add]; intro h; exact h.symm
  rw [e, this, hj]
theorem own_below {W w1 : World} {base n size : Nat} {e : TypeId} {v : Value} {xs : List Value} (h : W.ownsRow base e size v n xs) (hb : Below W.heap.size W w1) : w1.ownsRow base e size v n xs := by
  refine ⟨h.1, ?_⟩
  rcases h.2 with hn | ⟨g, cap, cur, rfl, h1, h2, h3⟩
  · exact Or.inl hn
  · exact Or.inr ⟨g, cap, cur, rfl, h1, by rw [hb.block g (lt_of_block h2)]; exact h2, h3⟩
theorem below_drewN {B : Nat} {a w : World} (h : Below B a w) (n : Nat) : Below B a (w.drewN n) := ⟨h.os, h.tape, h.output, h.size, h.block⟩
end Go.Proofs.YtaiihaopgchbfaaDoor

