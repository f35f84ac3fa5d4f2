/- Rounding to the nearest keeps the order. -/
import Derived.Test.YteafnkimcidkhaaGreatMB1
namespace Go.Proofs.YteafnkimcidkhaaGreat
set_option linter.unusedVariables false
set_option linter.unusedSimpArgs false
/-- Does what is kept go one step up, by Near? -/
def nearUp (n : Nat) (k : Int) : Bool := half n k && (low n k || quo n k % 2 == 1)
theorem nearUp_mono {n n' : Nat} {k : Int} (h : n ≤ n') (hq : quo n k = quo n' k) (hu : nearUp n k = true) : nearUp n' k = true := by
  unfold nearUp at *
  rw [Bool.and_eq_true] at hu ⊢
  obtain ⟨h1, h2⟩ := hu
  unfold half at h1
  rw [Bool.and_eq_true, decide_eq_true_iff, beq_iff_eq] at h1
  obtain ⟨k1, h1⟩ := h1
  obtain ⟨j, hj⟩ : ∃ j, k.toNat = j + 1 := ⟨k.toNat - 1, by omega⟩
  have ej : k.toNat - 1 = j := by omega
  unfold quo at hq
  rw [if_neg (by omega), if_neg (by omega), hj] at hq
  rw [ej] at h1
  have p : 0 < 2 ^ j := Nat.two_pow_pos j
  have d1 : n / 2 ^ (j + 1) = n / 2 ^ j / 2 := by rw [Nat.pow_succ, Nat.div_div_eq_div_mul]
  have d2 : n' / 2 ^ (j + 1) = n' / 2 ^ j / 2 := by rw [Nat.pow_succ, Nat.div_div_eq_div_mul]
  rw [d1, d2] at hq
  have le : n / 2 ^ j ≤ n' / 2 ^ j := Nat.div_le_div_right h
  have he : n' / 2 ^ j = n / 2 ^ j := by omega
  have m1 := Nat.div_add_mod n (2 ^ j)
  have m2 := Nat.div_add_mod n' (2 ^ j)
  rw [he] at m2
  have hr : n % 2 ^ j ≤ n' % 2 ^ j := by
    generalize 2 ^ j * (n / 2 ^ j) = A at *
    omega
  refine ⟨?_, ?_⟩
  · unfold half
    rw [Bool.and_eq_true, decide_eq_true_iff, beq_iff_eq, ej, he]
    exact ⟨k1, h1⟩
  · rw [Bool.or_eq_true] at h2 ⊢
    rcases h2 with h2 | h2
    · left
      unfold low at *
      rw [ej] at *
      rw [Bool.and_eq_true] at h2 ⊢
      refine ⟨h2.1, ?_⟩
      have q := h2.2
      simp at q ⊢
      omega
    · right
      have : quo n' k = quo n k := by
        unfold quo
        rw [if_neg (by omega), if_neg (by omega), hj, d1, d2, hq]
      rw [this]
      exact h2
theorem near_size (s : Bool) {n : Nat} (h : n ≠ 0) (e E : Int) (h1 : E ≤ e) (h2 : E ≤ fL s) :
    ∃ x q : Nat, lastOf s n e - fL s = x ∧ quo n (lastOf s n e - e) = q ∧ q < 2 ^ (fP s + 1) ∧ (x = 0 ∨ 2 ^ fP s ≤ q) ∧ val s (x * 2 ^ fP s + q) * 2 ^ (fL s - E).toNat ≤ n * 2 ^ (e - E).toNat ∧ n * 2 ^ (e - E).toNat < val s (x * 2 ^ fP s + q + 1) * 2 ^ (fL s - E).toNat ∧
      mag s 0 false n e = (if fI s ≤ ((x * 2 ^ fP s + q + (nearUp n (lastOf s n e - e)).toNat : Nat) : Int) then fI s else ((x * 2 ^ fP s + q + (nearUp n (lastOf s n e - e)).toNat : Nat) : Int)) := by
  obtain ⟨x, ex, q1, q2, q3, q4, q5⟩ := kept s h e E h1 h2
  refine ⟨x, _, ex, rfl, q1, q2, ?_, ?_, ?_⟩
  · rw [val_at s x _ (by omega) q2, Nat.mul_assoc, ← Nat.pow_add]; exact q3
  · rw [Nat.add_assoc, val_at s x _ (by omega) (by omega), Nat.mul_assoc, ← Nat.pow_add]; exact q4
  · unfold mag fin great nearUp
    rw [ex]
    have an : ∀ o h l, away 0 false o h l = (h && (l || o)) := fun o h l => rfl
    simp only [an]
    generalize quo n (lastOf s n e - e) = q
    generalize half n (lastOf s n e - e) = g
    generalize low n (lastOf s n e - e) = l
    have e0 : (if (true && (true || true)) = true then fI s else fI s - 1) = fI s := rfl
    rw [e0]
    have e1 : (x : Int) * 2 ^ fP s + ((q + if (g && (l || q % 2 == 1)) = true then 1 else 0 : Nat) : Int) = ((x * 2 ^ fP s + q + (g && (l || q % 2 == 1)).toNat : Nat) : Int) := by
      generalize (g && (l || q % 2 == 1)) = b
      cases b <;> simp <;> omega
    rw [e1]
/-- Near keeps the order. -/
theorem mag_mono (s : Bool) {n n' : Nat} (h : n ≠ 0) (le : n ≤ n') (e : Int) : mag s 0 false n e ≤ mag s 0 false n' e := by
  have h' : n' ≠ 0 := by omega
  obtain ⟨x, q, ex, eq, q1, q2, q3, q4, M⟩ := near_size s h e (min e (fL s)) (by omega) (by omega)
  obtain ⟨x', q', ex', eq', q1', q2', q3', q4', M'⟩ := near_size s h' e (min e (fL s)) (by omega) (by omega)
  rw [M, M']
  have p : 0 < 2 ^ (fL s - min e (fL s)).toNat := Nat.two_pow_pos _
  have zz : x * 2 ^ fP s + q < x' * 2 ^ fP s + q' + 1 := by
    apply lt_of_val s
    have t : val s (x * 2 ^ fP s + q) * 2 ^ (fL s - min e (fL s)).toNat < val s (x' * 2 ^ fP s + q' + 1) * 2 ^ (fL s - min e (fL s)).toNat :=
      Nat.lt_of_le_of_lt q3 (Nat.lt_of_le_of_lt (Nat.mul_le_mul_right _ le) q4')
    exact Nat.lt_of_mul_lt_mul_right t
  have key : x * 2 ^ fP s + q + (nearUp n (lastOf s n e - e)).toNat ≤ x' * 2 ^ fP s + q' + (nearUp n' (lastOf s n' e - e)).toNat := by
    by_cases c : x * 2 ^ fP s + q = x' * 2 ^ fP s + q'
    · have pw : 2 ^ (fP s + 1) = 2 ^ fP s * 2 := Nat.pow_succ _ _
      have uq : x = x' ∧ q = q' := by
        have p2 : 0 < 2 ^ fP s := Nat.two_pow_pos _
        rw [pw] at q1 q1'
        generalize 2 ^ fP s = B at *
        have : x = x' := by
          rcases Nat.lt_trichotomy x x' with l | l | l
          · exfalso
            obtain ⟨t, rfl⟩ : ∃ t, x' = x + 1 + t := ⟨x' - x - 1, by omega⟩
            rw [Nat.add_mul, Nat.add_mul] at c
            have : B ≤ q' := by rcases q2' with z | z <;> omega
            have t0 : 0 ≤ t * B := Nat.zero_le _
            omega
          · exact l
          · exfalso
            obtain ⟨t, rfl⟩ : ∃ t, x = x' + 1 + t := ⟨x - x' - 1, by omega⟩
            rw [Nat.add_mul, Nat.add_mul] at c
            have : B ≤ q := by rcases q2 with z | z <;> omega
            have t0 : 0 ≤ t * B := Nat.zero_le _
            omega
        subst this
        exact ⟨rfl, by omega⟩
      have el : lastOf s n' e = lastOf s n e := by omega
      rw [el] at eq' ⊢
      have qe : quo n (lastOf s n e - e) = quo n' (lastOf s n e - e) := by rw [eq, eq', uq.2]
      rw [c]
      cases b : nearUp n (lastOf s n e - e)
      · simp
      · rw [nearUp_mono le qe b]
        exact Nat.le_refl _
    · have := Bool.toNat_le (nearUp n (lastOf s n e - e))
      omega
  generalize x * 2 ^ fP s + q + (nearUp n (lastOf s n e - e)).toNat = A at *
  generalize x' * 2 ^ fP s + q' + (nearUp n' (lastOf s n' e - e)).toNat = B at *
  split <;> split <;> omega
end Go.Proofs.YteafnkimcidkhaaGreat
