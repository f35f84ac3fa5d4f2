/- The reference's last step of rounding, in plain numbers. -/
import Derived.Test.YtfdinlomlcnjnaaDoorSRefA
namespace Go.Proofs.YtfdinlomlcnjnaaDoor
open Go.RowKit
set_option linter.unusedVariables false
set_option linter.unusedSimpArgs false
/-- What is kept, one step further if more, as the reference makes a float of it. -/
def refSize (s : Bool) (m : Int) (below : Bool) (last : Int) (q1 : Nat) : Int :=
  if (if (if q1 = 2 ^ (fP s + 1) then q1 / 2 else q1) < 2 ^ fP s then 0 else (if q1 = 2 ^ (fP s + 1) then last + 1 else last) - fL s + 1) ≥ 2 ^ (fE s).toNat - 1 then
    (if m = 3 ∨ m = 1 ∧ below = true ∨ m = 2 ∧ below = false then fI s - 1 else fI s)
  else (if (if q1 = 2 ^ (fP s + 1) then q1 / 2 else q1) < 2 ^ fP s then 0 else (if q1 = 2 ^ (fP s + 1) then last + 1 else last) - fL s + 1) * 2 ^ fP s + (((if q1 = 2 ^ (fP s + 1) then q1 / 2 else q1) % 2 ^ fP s : Nat) : Int)
theorem great_ref (s : Bool) (m : Int) (b : Bool) : great s m b = if m = 3 ∨ m = 1 ∧ b = true ∨ m = 2 ∧ b = false then fI s - 1 else fI s := by
  unfold great away
  by_cases c1 : m = 1
  · subst c1; cases b <;> rfl
  · by_cases c2 : m = 2
    · subst c2; cases b <;> rfl
    · by_cases c3 : m = 3
      · subst c3; cases b <;> rfl
      · simp [c1, c2, c3]
theorem fI_eq (s : Bool) : fI s = (2 ^ (fE s).toNat - 1) * 2 ^ fP s := by cases s <;> rfl
theorem fE_ge (s : Bool) : (2 : Int) ≤ 2 ^ (fE s).toNat - 1 := by cases s <;> decide
theorem ref_fin (s : Bool) (m : Int) (below : Bool) (last : Int) (q : Nat) (h l : Bool) (h1 : q < 2 ^ (fP s + 1)) (h2 : last = fL s ∨ 2 ^ fP s ≤ q) (h3 : fL s ≤ last) :
    refSize s m below last (q + if away m below (q % 2 == 1) h l then 1 else 0) = fin s m below last q h l := by
  unfold refSize fin
  rw [← great_ref, fI_eq]
  have e2 := fE_ge s
  have g1 : q ≤ (q + if away m below (q % 2 == 1) h l then 1 else 0) := Nat.le_add_right _ _
  have g2 : (q + if away m below (q % 2 == 1) h l then 1 else 0) ≤ q + 1 := by split <;> omega
  generalize (q + if away m below (q % 2 == 1) h l then 1 else 0) = Y at *
  generalize (2 : Int) ^ (fE s).toNat - 1 = X at *
  have pp := Nat.two_pow_pos (fP s)
  rw [Nat.pow_succ] at *
  rw [pow_cast]
  generalize 2 ^ fP s = P at *
  obtain ⟨d, hd⟩ : ∃ d : Nat, last - fL s = d := ⟨(last - fL s).toNat, by omega⟩
  obtain ⟨x, hx⟩ : ∃ x : Nat, X = x := ⟨X.toNat, by omega⟩
  rw [hd, hx]
  by_cases c : Y = P * 2
  · have y2 : Y / 2 = P := by omega
    have np : ¬ P < P := by omega
    rw [if_pos c, if_pos c, y2]
    simp only [if_neg np]
    rw [Nat.mod_self, show last + 1 - fL s + 1 = ((d + 2 : Nat) : Int) by omega]
    have t : ((d + 2 : Nat) : Int) * (P : Int) = (d : Int) * P + (Y : Int) := by
      have k : (d + 2) * P = d * P + P * 2 := by rw [Nat.add_mul, Nat.mul_comm 2]
      rw [c, ← Int.natCast_mul, ← Int.natCast_mul, k, Int.natCast_add]
    by_cases g : ((x : Int)) ≤ ((d + 2 : Nat) : Int)
    · rw [if_pos g, if_pos (by rw [← t]; exact Int.mul_le_mul_of_nonneg_right g (by omega))]
    · rw [if_neg g, if_neg (by rw [← t]; intro k; exact g (Int.le_of_mul_le_mul_right k (by omega)))]
      rw [← t]; simp
  · rw [if_neg c, if_neg c]
    by_cases z : Y < P
    · have dz : d = 0 := by
        rcases h2 with k | k
        · omega
        · omega
      rw [if_pos z, if_neg (by omega), Nat.mod_eq_of_lt z, dz]
      have : ¬ ((x : Int) * (P : Int) ≤ ((0 : Nat) : Int) * (P : Int) + (Y : Int)) := by
        have k : (2 : Int) * P ≤ (x : Int) * P := Int.mul_le_mul_of_nonneg_right (by omega) (by omega)
        simp
        omega
      rw [if_neg this]
      simp
    · have m1 : Y % P = Y - P := by
        rw [Nat.mod_eq_sub_mod (by omega), Nat.mod_eq_of_lt (by omega)]
      rw [if_neg z, m1, show last - fL s + 1 = ((d + 1 : Nat) : Int) by omega]
      have t : ((d + 1 : Nat) : Int) * (P : Int) + ((Y - P : Nat) : Int) = (d : Int) * P + (Y : Int) := by
        rw [← Int.natCast_mul, ← Int.natCast_mul]
        have : (d + 1) * P = d * P + P := by rw [Nat.add_mul, Nat.one_mul]
        omega
      by_cases g : ((x : Int)) ≤ ((d + 1 : Nat) : Int)
      · have k : (x : Int) * P ≤ ((d + 1 : Nat) : Int) * P := Int.mul_le_mul_of_nonneg_right g (by omega)
        rw [if_pos g, if_pos (by omega)]
      · have k : ((d + 1 : Nat) : Int) * P + P ≤ (x : Int) * P := by
          have k' : (((d + 1 : Nat) : Int) + 1) * P ≤ (x : Int) * P := Int.mul_le_mul_of_nonneg_right (by omega) (by omega)
          rw [Int.add_mul, Int.one_mul] at k'
          exact k'
        rw [if_neg g, if_neg (by omega)]
        exact t
/-! ### What is kept, bit by bit from the top -/
/-- What is kept of the bits from j on. -/
def qTo (A : Nat) (k : Int) (j : Nat) : Nat := if (j : Int) ≤ k then A / 2 ^ k.toNat else A / 2 ^ j * 2 ^ ((j : Int) - k).toNat
theorem qTo_top {A n : Nat} (k : Int) (h : A < 2 ^ n) : qTo A k n = 0 := by
  unfold qTo
  split
  · exact Nat.div_eq_of_lt (Nat.lt_of_lt_of_le h (Nat.pow_le_pow_right (by decide) (by omega)))
  · rw [Nat.div_eq_of_lt h, Nat.zero_mul]
theorem qTo_end (A : Nat) (k : Int) : qTo A k 0 = quo A k := by
  unfold qTo quo
  by_cases c : 0 < k
  · rw [if_pos (by omega), if_neg (by omega)]
  · by_cases d : k = 0
    · subst d
      rw [if_pos (by decide), if_pos (by decide)]
      simp
    · rw [if_neg (by omega), if_pos (by omega), Nat.pow_zero, Nat.div_one]
      congr 2
      omega
theorem qTo_no (A : Nat) (k : Int) (i : Nat) (h : (i : Int) < k) : qTo A k i = qTo A k (i + 1) := by
  unfold qTo
  rw [if_pos (by omega), if_pos (by omega)]
theorem qTo_yes (A : Nat) (k : Int) (i : Nat) (h : k ≤ (i : Int)) : qTo A k i = qTo A k (i + 1) + (A.testBit i).toNat * 2 ^ ((i : Int) - k).toNat ∧ qTo A k (i + 1) % 2 ^ (((i : Int) - k).toNat + 1) = 0 := by
  have e : qTo A k i = A / 2 ^ i * 2 ^ ((i : Int) - k).toNat := by
    unfold qTo
    by_cases c : (i : Int) ≤ k
    · have : k.toNat = i := by omega
      rw [if_pos c, this, show ((i : Int) - k).toNat = 0 by omega, Nat.pow_zero, Nat.mul_one]
    · rw [if_neg c]
  have e' : qTo A k (i + 1) = A / 2 ^ (i + 1) * 2 ^ (((i : Int) - k).toNat + 1) := by
    unfold qTo
    rw [if_neg (by omega)]
    congr 2
    omega
  refine ⟨?_, by rw [e', Nat.mul_mod_left]⟩
  rw [e, e', Nat.pow_succ, Nat.pow_succ, ← Nat.div_div_eq_div_mul, Nat.testBit_eq_decide_div_mod_eq]
  generalize A / 2 ^ i = B
  generalize 2 ^ ((i : Int) - k).toNat = T
  have m : B = 2 * (B / 2) + B % 2 := by omega
  have t : (decide (B % 2 = 1)).toNat = B % 2 := by
    have : B % 2 = 0 ∨ B % 2 = 1 := by omega
    rcases this with c | c <;> rw [c] <;> rfl
  rw [t]
  conv => lhs; rw [m, Nat.add_mul]
  congr 1
  rw [Nat.mul_comm 2, Nat.mul_assoc, Nat.mul_comm 2]
theorem qTo_le (A : Nat) (k : Int) (i : Nat) : qTo A k (i + 1) ≤ qTo A k i := by
  by_cases c : k ≤ (i : Int)
  · rw [(qTo_yes A k i c).1]; exact Nat.le_add_right _ _
  · rw [qTo_no A k i (by omega)]; exact Nat.le_refl _
theorem qTo_quo (A : Nat) (k : Int) (i : Nat) : qTo A k i ≤ quo A k := by
  induction i with
  | zero => rw [qTo_end]; exact Nat.le_refl _
  | succ i ih => exact Nat.le_trans (qTo_le A k i) ih
theorem or_pow (q t : Nat) (h : q % 2 ^ (t + 1) = 0) : q ||| 2 ^ t = q + 2 ^ t := by
  obtain ⟨b, rfl⟩ : ∃ b, q = 2 ^ (t + 1) * b := ⟨q / 2 ^ (t + 1), by have := Nat.div_add_mod q (2 ^ (t + 1)); omega⟩
  exact (Nat.two_pow_add_eq_or_of_lt (i := t + 1) (b := 2 ^ t) (Nat.pow_lt_pow_right (by decide) (by omega)) b).symm
end Go.Proofs.YtfdinlomlcnjnaaDoor

