/- Rounding by each mode keeps the order. -/
import Derived.Test.YteafnkimcidkhaaGreatLiY
namespace Go.Proofs.YteafnkimcidkhaaGreat
set_option linter.unusedVariables false
set_option linter.unusedSimpArgs false
/-- Does what is kept go one step up, by a mode? -/
def bump (m : Int) (b : Bool) (n : Nat) (k : Int) : Bool := away m b (quo n k % 2 == 1) (half n k) (low n k)
theorem mag_size (s : Bool) (m : Int) (b : Bool) {n : Nat} (h : n ≠ 0) (e E : Int) (h1 : E ≤ e) (h2 : E ≤ fL s) :
    ∃ x q : Nat, lastOf s n e - fL s = x ∧ quo n (lastOf s n e - e) = q ∧ q < 2 ^ (fP s + 1) ∧ (x = 0 ∨ 2 ^ fP s ≤ q) ∧ val s (x * 2 ^ fP s + q) * 2 ^ (fL s - E).toNat ≤ n * 2 ^ (e - E).toNat ∧ n * 2 ^ (e - E).toNat < val s (x * 2 ^ fP s + q + 1) * 2 ^ (fL s - E).toNat ∧
      ((half n (lastOf s n e - e) || low n (lastOf s n e - e)) = false → n * 2 ^ (e - E).toNat = val s (x * 2 ^ fP s + q) * 2 ^ (fL s - E).toNat) ∧
      mag s m b n e = (if fI s ≤ ((x * 2 ^ fP s + q + (bump m b n (lastOf s n e - e)).toNat : Nat) : Int) then great s m b else ((x * 2 ^ fP s + q + (bump m b n (lastOf s n e - e)).toNat : Nat) : Int)) := by
  obtain ⟨x, ex, q1, q2, q3, q4, q5⟩ := kept s h e E h1 h2
  refine ⟨x, _, ex, rfl, q1, q2, ?_, ?_, ?_, ?_⟩
  · rw [val_at s x _ (by omega) q2, Nat.mul_assoc, ← Nat.pow_add]; exact q3
  · rw [Nat.add_assoc, val_at s x _ (by omega) (by omega), Nat.mul_assoc, ← Nat.pow_add]; exact q4
  · intro hh
    rw [val_at s x _ (by omega) q2, Nat.mul_assoc, ← Nat.pow_add]
    exact q5 hh
  · unfold mag fin bump
    rw [ex]
    generalize quo n (lastOf s n e - e) = q
    generalize half n (lastOf s n e - e) = g
    generalize low n (lastOf s n e - e) = l
    have e1 : (x : Int) * 2 ^ fP s + ((q + if away m b (q % 2 == 1) g l then 1 else 0 : Nat) : Int) = ((x * 2 ^ fP s + q + (away m b (q % 2 == 1) g l).toNat : Nat) : Int) := by
      generalize away m b (q % 2 == 1) g l = r
      cases r <;> simp <;> omega
    rw [e1]
theorem great_ge (s : Bool) (m : Int) (b : Bool) : fI s - 1 ≤ great s m b := by
  unfold great
  split <;> omega
/-- Each mode keeps the order. -/
theorem mag_monoM (s : Bool) (m : Int) (b : Bool) {n n' : Nat} (h : n ≠ 0) (le : n ≤ n') (e : Int) : mag s m b n e ≤ mag s m b n' e := by
  have h' : n' ≠ 0 := by omega
  obtain ⟨x, q, ex, eq, q1, q2, q3, q4, qx, M⟩ := mag_size s m b h e (min e (fL s)) (by omega) (by omega)
  obtain ⟨x', q', ex', eq', q1', q2', q3', q4', qx', M'⟩ := mag_size s m b h' e (min e (fL s)) (by omega) (by omega)
  rw [M, M']
  have p : 0 < 2 ^ (fL s - min e (fL s)).toNat := Nat.two_pow_pos _
  have pe : 0 < 2 ^ (e - min e (fL s)).toNat := Nat.two_pow_pos _
  have zz : x * 2 ^ fP s + q < x' * 2 ^ fP s + q' + 1 := by
    apply lt_of_val s
    have t : val s (x * 2 ^ fP s + q) * 2 ^ (fL s - min e (fL s)).toNat < val s (x' * 2 ^ fP s + q' + 1) * 2 ^ (fL s - min e (fL s)).toNat :=
      Nat.lt_of_le_of_lt q3 (Nat.lt_of_le_of_lt (Nat.mul_le_mul_right _ le) q4')
    exact Nat.lt_of_mul_lt_mul_right t
  have key : x * 2 ^ fP s + q + (bump m b n (lastOf s n e - e)).toNat ≤ x' * 2 ^ fP s + q' + (bump m b n' (lastOf s n' e - e)).toNat := by
    by_cases c : x * 2 ^ fP s + q = x' * 2 ^ fP s + q'
    · have pw : 2 ^ (fP s + 1) = 2 ^ fP s * 2 := Nat.pow_succ _ _
      have uq : x = x' ∧ q = q' := by
        have p2 : 0 < 2 ^ fP s := Nat.two_pow_pos _
        rw [pw] at q1 q1'
        generalize 2 ^ fP s = B at *
        have : x = x' := by
          rcases Nat.lt_trichotomy x x' with l | l | l
          · exfalso
            obtain ⟨t, rfl⟩ : ∃ t, x' = x + 1 + t := ⟨x' - x - 1, by omega⟩
            rw [Nat.add_mul, Nat.add_mul] at c
            have : B ≤ q' := by rcases q2' with z | z <;> omega
            have t0 : 0 ≤ t * B := Nat.zero_le _
            omega
          · exact l
          · exfalso
            obtain ⟨t, rfl⟩ : ∃ t, x = x' + 1 + t := ⟨x - x' - 1, by omega⟩
            rw [Nat.add_mul, Nat.add_mul] at c
            have : B ≤ q := by rcases q2 with z | z <;> omega
            have t0 : 0 ≤ t * B := Nat.zero_le _
            omega
        subst this
        exact ⟨rfl, by omega⟩
      have el : lastOf s n' e = lastOf s n e := by omega
      rw [el] at eq' qx' ⊢
      have qe : quo n (lastOf s n e - e) = quo n' (lastOf s n e - e) := by rw [eq, eq', uq.2]
      rw [c] at q3 ⊢
      have bm : bump m b n (lastOf s n e - e) = true → bump m b n' (lastOf s n e - e) = true := by
        intro hb
        have lost : (half n (lastOf s n e - e) || low n (lastOf s n e - e)) = true → (half n' (lastOf s n e - e) || low n' (lastOf s n e - e)) = true := by
          intro hl
          cases hn : (half n' (lastOf s n e - e) || low n' (lastOf s n e - e))
          · exfalso
            have r := qx' hn
            have hnn : n' ≤ n := Nat.le_of_mul_le_mul_right (show n' * 2 ^ (e - min e (fL s)).toNat ≤ n * 2 ^ (e - min e (fL s)).toNat by rw [r]; exact q3) pe
            have en : n = n' := by omega
            subst en
            rw [hn] at hl
            cases hl
          · rfl
        unfold bump away at hb ⊢
        by_cases m1 : m = 1
        · rw [if_pos m1] at hb ⊢
          rw [Bool.and_eq_true] at hb ⊢
          exact ⟨lost hb.1, hb.2⟩
        · rw [if_neg m1] at hb ⊢
          by_cases m2 : m = 2
          · rw [if_pos m2] at hb ⊢
            rw [Bool.and_eq_true] at hb ⊢
            exact ⟨lost hb.1, hb.2⟩
          · rw [if_neg m2] at hb ⊢
            by_cases m3 : m = 3
            · rw [if_pos m3] at hb
              cases hb
            · rw [if_neg m3] at hb ⊢
              exact nearUp_mono le qe hb
      cases b0 : bump m b n (lastOf s n e - e)
      · simp
      · rw [bm b0]
        exact Nat.le_refl _
    · have := Bool.toNat_le (bump m b n (lastOf s n e - e))
      omega
  have gg := great_ge s m b
  generalize x * 2 ^ fP s + q + (bump m b n (lastOf s n e - e)).toNat = A at *
  generalize x' * 2 ^ fP s + q' + (bump m b n' (lastOf s n' e - e)).toNat = B at *
  split <;> split <;> omega
/-- The rank of a number of either sign, rounded by a mode. -/
def mgM (s : Bool) (m : Int) (b : Bool) (n : Nat) (e : Int) : Int := if n = 0 then 0 else mag s m b n e
theorem mgM_bd (s : Bool) (m : Int) (b : Bool) (n : Nat) (e : Int) : 0 ≤ mgM s m b n e ∧ mgM s m b n e ≤ fI s := by
  unfold mgM
  split
  · exact ⟨Int.le_refl _, fI_pos s⟩
  · rename_i h
    obtain ⟨z, e1, e2⟩ := mag_any s m b h e
    rw [e1]
    exact ⟨by omega, e2⟩
theorem mgM_mono (s : Bool) (m : Int) (b : Bool) {n n' : Nat} (h : n ≤ n') (e : Int) : mgM s m b n e ≤ mgM s m b n' e := by
  by_cases c : n = 0
  · have := mgM_bd s m b n' e
    unfold mgM at this ⊢
    rw [if_pos c]
    exact this.1
  · unfold mgM
    rw [if_neg c, if_neg (by omega)]
    exact mag_monoM s m b c h e
theorem mgM_scale (s : Bool) (m : Int) (b : Bool) (n j : Nat) (e : Int) : mgM s m b (n * 2 ^ j) (e - j) = mgM s m b n e := by
  have p := Nat.two_pow_pos j
  unfold mgM
  by_cases c : n = 0
  · rw [if_pos c, if_pos (by rw [c, Nat.zero_mul])]
  · rw [if_neg c, if_neg (by intro h; rcases Nat.mul_eq_zero.1 h with h | h <;> omega)]
    exact mag_scale s m b c j e
def rkM (s : Bool) (m : Int) (n : Int) (e : Int) : Int := if n < 0 then -(mgM s m true n.natAbs e) else mgM s m false n.natAbs e
theorem rkM_mono (s : Bool) (m : Int) {n n' : Int} (h : n ≤ n') (e : Int) : rkM s m n e ≤ rkM s m n' e := by
  have b1 := mgM_bd s m true n.natAbs e
  have b2 := mgM_bd s m false n'.natAbs e
  unfold rkM
  split
  · split
    · have := mgM_mono s m true (show n'.natAbs ≤ n.natAbs by omega) e
      omega
    · omega
  · split
    · omega
    · exact mgM_mono s m false (by omega) e
theorem rkM_scale (s : Bool) (m : Int) (n : Int) (j : Nat) (e : Int) : rkM s m (n * 2 ^ j) (e - j) = rkM s m n e := by
  have p := Nat.two_pow_pos j
  have q : (0 : Int) < 2 ^ j := by exact_mod_cast p
  have a : (n * 2 ^ j).natAbs = n.natAbs * 2 ^ j := by
    rw [Int.natAbs_mul, Int.natAbs_pow]; rfl
  unfold rkM
  rw [a, mgM_scale, mgM_scale]
  by_cases c : n < 0
  · rw [if_pos c, if_pos (Int.mul_neg_of_neg_of_pos c q)]
  · rw [if_neg c, if_neg (by have := Int.mul_nonneg (show 0 ≤ n by omega) (Int.le_of_lt q); omega)]
theorem rnd_rkM (s : Bool) (m : Int) (b : Bool) (n : Nat) (e : Int) : Res s (rnd s m b n e) (rkM s m (if b then -(n : Int) else n) e) := by
  have bd := mgM_bd s m b n e
  have r := made_res s b (mgM s m b n e) bd.1 bd.2
  have e1 : rnd s m b n e = sgnd s b (mgM s m b n e) := rfl
  have e2 : rkM s m (if b then -(n : Int) else n) e = if b then -(mgM s m b n e) else mgM s m b n e := by
    unfold rkM
    cases b
    · simp only [Bool.false_eq_true, if_false, Int.natAbs_natCast]
      rw [if_neg (by omega)]
    · simp only [if_true, Int.natAbs_neg, Int.natAbs_natCast]
      by_cases c : n = 0
      · subst c; simp [mgM]
      · rw [if_pos (by omega)]
  rw [e1, e2]
  exact r
end Go.Proofs.YteafnkimcidkhaaGreat

