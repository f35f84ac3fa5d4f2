/- A float less itself, by itself, times 1 and with 0, in plain numbers. -/
import Derived.Test.YtfdinlomlcnjnaaSoftMir
namespace Go.Proofs.Ytfdinlomlcnjnaa
open Go.RowKit
set_option linter.unusedVariables false
set_option linter.unusedSimpArgs false
/-- The parts of a size: what it is worth is kept. -/
theorem size_parts (s b : Bool) (z : Nat) (h : (z : Int) < fI s) : ∃ x q : Nat, z = x * 2 ^ fP s + q ∧ q < 2 ^ (fP s + 1) ∧ (x = 0 ∨ 2 ^ fP s ≤ q) ∧ (whl s (sgnd s b z)).toNat = q ∧ pwr s (sgnd s b z) = fL s + x := by
  obtain ⟨e1, e2⟩ := whl_made s b z (by omega) (by have := fI_lt s; omega)
  have hp := Nat.two_pow_pos (fP s)
  have dm := Nat.div_add_mod z (2 ^ fP s)
  have lt := Nat.mod_lt z hp
  rw [e1, e2, pow_cast, ← Int.natCast_ediv, ← Int.natCast_emod]
  rw [Nat.pow_succ]
  generalize 2 ^ fP s = Q at *
  by_cases c : z < Q
  · have d : z / Q = 0 := Nat.div_eq_of_lt c
    have m : z % Q = z := Nat.mod_eq_of_lt c
    rw [d, m]
    refine ⟨0, z, by omega, by omega, Or.inl rfl, ?_, ?_⟩
    · rw [if_neg (by decide)]; omega
    · rw [if_neg (by decide)]; omega
  · have d : 0 < z / Q := Nat.div_pos (by omega) hp
    rw [if_pos (by omega), if_pos (by omega)]
    refine ⟨z / Q - 1, z % Q + Q, ?_, by omega, Or.inr (by omega), by omega, by omega⟩
    have : z / Q * Q = (z / Q - 1) * Q + Q := by rw [← Nat.succ_mul]; congr 1; omega
    rw [Nat.mul_comm] at dm
    omega
/-- Rounded, a float stays itself. -/
theorem rnd_self (s : Bool) (m : Int) (b : Bool) (z : Nat) (z0 : z ≠ 0) (h : (z : Int) < fI s) (k : Nat) :
    rnd s m b ((whl s (sgnd s b z)).toNat * 2 ^ k) (pwr s (sgnd s b z) - k) = sgnd s b z := by
  rw [rnd_scale]
  obtain ⟨x, q, e, h1, h2, w, p⟩ := size_parts s b z h
  rw [w, p]
  have q0 : q ≠ 0 := by
    intro c
    subst c
    rcases h2 with c | c
    · subst c; simp at e; exact z0 e
    · have := Nat.two_pow_pos (fP s); omega
  unfold rnd
  rw [if_neg q0, mag_exact s m b x q q0 h1 h2 (by rw [← e]; exact h), ← e]
/-- A finite float that is not 0. -/
theorem fin_size (s : Bool) (a : Int) (h : Word a) (c0 : (cls s a == 0 || cls s a == 5) = false) (c4 : (cls s a == 4) = false) (c1 : (cls s a == 1) = false) : ∃ (b : Bool) (z : Nat), a = sgnd s b z ∧ z ≠ 0 ∧ (z : Int) < fI s := by
  rcases num_or s a h with c | ⟨b, z, rfl, z0, z1⟩
  · rw [c] at c0; exact absurd c0 (by decide)
  · have l := fI_lt s
    have e := cls_made s b z z0 (by omega)
    obtain ⟨n, rfl⟩ := Int.eq_ofNat_of_zero_le z0
    refine ⟨b, n, rfl, ?_, ?_⟩
    · intro t
      subst t
      have i : ¬ ((0 : Nat) : Int) = fI s := by cases s <;> decide
      rw [if_neg (by omega), if_neg i, if_pos (show ((0 : Nat) : Int) = 0 from rfl)] at e
      rw [e] at c1; exact absurd c1 (by decide)
    · have : ¬ (n : Int) = fI s := by
        intro t
        rw [if_neg (by omega), if_pos t] at e
        rw [e] at c4; exact absurd c4 (by decide)
      omega
/-- The float 1. -/
def unit (s : Bool) : Int := if s then 1065353216 else 4607182418800017408
theorem unit_parts (s : Bool) : cls s (unit s) = 3 ∧ sgn s (unit s) = false ∧ whl s (unit s) = 2 ^ fP s ∧ pwr s (unit s) = -(fP s : Int) := by
  cases s
  · exact ⟨by decide +kernel, by decide +kernel, by decide +kernel, by decide +kernel⟩
  · exact ⟨by decide +kernel, by decide +kernel, by decide +kernel, by decide +kernel⟩
theorem zero_parts (s : Bool) : cls s 0 = 1 ∧ sgn s 0 = false ∧ whl s 0 = 0 ∧ pwr s 0 = fL s := by
  cases s
  · exact ⟨by decide +kernel, by decide +kernel, by decide +kernel, by decide +kernel⟩
  · exact ⟨by decide +kernel, by decide +kernel, by decide +kernel, by decide +kernel⟩
theorem neg_zero (s : Bool) : negF s 0 = sgnd s true 0 := by
  have := neg_made s false 0 (Int.le_refl _) (fI_pos s)
  simpa [sgnd] using this
theorem unit_rnd (s : Bool) (m : Int) : rnd s m false 1 0 = unit s := by
  have h : unit s = ((((fP s + (-(fL s)).toNat - fP s - fP s : Nat) * 2 ^ fP s + 2 ^ fP s : Nat)) : Int) := by cases s <;> decide +kernel
  have e := rnd_scale s m false 1 (fP s) 0
  rw [← e, Nat.one_mul]
  unfold rnd
  have p := Nat.two_pow_pos (fP s)
  rw [if_neg (by omega)]
  have t := mag_exact s m false (fP s + (-(fL s)).toNat - fP s - fP s) (2 ^ fP s) (by omega) (by rw [Nat.pow_succ]; omega) (Or.inr (Nat.le_refl _)) (by cases s <;> decide +kernel)
  have k : (0 : Int) - (fP s : Int) = fL s + ((fP s + (-(fL s)).toNat - fP s - fP s : Nat) : Int) := by cases s <;> decide
  rw [k, t, h]
  rfl
theorem self_sgn (s b : Bool) (z : Nat) (h : (z : Int) < fI s) : sgn s (sgnd s b z) = b := (made s b z (by omega) (by have := fI_lt s; omega)).2.2.2
theorem self_cls (s b : Bool) (z : Nat) (z0 : z ≠ 0) (h : (z : Int) < fI s) : (cls s (sgnd s b z) == 0 || cls s (sgnd s b z) == 5) = false ∧ (cls s (sgnd s b z) == 4) = false ∧ (cls s (sgnd s b z) == 1) = false := by
  have l := fI_lt s
  have e := cls_made s b z (by omega) (by omega)
  rw [if_neg (by omega), if_neg (by omega), if_neg (by omega)] at e
  rw [e]
  split <;> exact ⟨rfl, rfl, rfl⟩
theorem self_mul (s : Bool) (m : Int) (b : Bool) (z : Nat) (z0 : z ≠ 0) (h : (z : Int) < fI s) : mulF s m (sgnd s b z) (unit s) = sgnd s b z := by
  obtain ⟨u1, u2, u3, u4⟩ := unit_parts s
  obtain ⟨c1, c2, c3⟩ := self_cls s b z z0 h
  unfold mulF
  rw [c1, c2, c3, u1, u2, u3, u4, self_sgn s b z h]
  have t := rnd_self s m b z z0 h (fP s)
  have q : ((2 : Int) ^ fP s).toNat = 2 ^ fP s := by rw [pow_cast]; rfl
  rw [q, show pwr s (sgnd s b z) + -(fP s : Int) = pwr s (sgnd s b z) - (fP s : Int) by omega]
  have e : (b != false) = b := by cases b <;> rfl
  rw [e]
  simpa using t
theorem self_add (s : Bool) (m : Int) (b : Bool) (z : Nat) (z0 : z ≠ 0) (h : (z : Int) < fI s) : addF s m (sgnd s b z) 0 = sgnd s b z := by
  obtain ⟨u1, u2, u3, u4⟩ := zero_parts s
  obtain ⟨c1, c2, c3⟩ := self_cls s b z z0 h
  obtain ⟨x, q, e, h1, h2, w, p⟩ := size_parts s b z h
  have t := rnd_self s m b z z0 h x
  unfold addF
  rw [c1, c2, u1, u2, u3, u4, self_sgn s b z h]
  have r1 : ((1 : Int) == 0 || (1 : Int) == 5) = false := rfl
  have r2 : ((1 : Int) == 4) = false := rfl
  rw [r1, r2]
  simp only [Bool.or_false, Bool.false_eq_true, if_false, Bool.false_and]
  rw [w, p] at t ⊢
  unfold sumT
  have q0 : q ≠ 0 := by
    intro c
    subst c
    rcases h2 with c | c
    · subst c; simp at e; exact z0 e
    · have := Nat.two_pow_pos (fP s); omega
  have xp := Nat.two_pow_pos x
  have qx : q * 2 ^ x ≠ 0 := Nat.mul_ne_zero q0 (by omega)
  rw [show min (fL s + (x : Int)) (fL s) = fL s by omega, show (fL s + (x : Int) - fL s).toNat = x by omega, show (0 : Int).toNat = 0 by rfl, Nat.zero_mul, Nat.add_zero, Nat.sub_zero]
  rw [show fL s + (x : Int) - x = fL s by omega] at t
  by_cases c : b = false
  · rw [if_pos c]; exact t
  · rw [if_neg c, if_neg qx, if_pos (by omega)]; exact t
theorem self_sub (s : Bool) (m : Int) (b : Bool) (z : Nat) (z0 : z ≠ 0) (h : (z : Int) < fI s) : subF s m (sgnd s b z) (sgnd s b z) = sgnd s (m == 2) 0 := by
  obtain ⟨c1, c2, c3⟩ := self_cls s b z z0 h
  obtain ⟨p1, p2, p3, p4⟩ := neg_parts s b z (by omega) (by omega)
  unfold subF addF
  rw [p1, p2, p3, p4, c1, c2]
  simp only [Bool.or_false, Bool.false_eq_true, if_false, Bool.false_and]
  unfold sumT
  rw [if_neg (by cases sgn s (sgnd s b z) <;> simp), if_pos rfl]
theorem self_div (s : Bool) (m : Int) (b : Bool) (z : Nat) (z0 : z ≠ 0) (h : (z : Int) < fI s) : divF s m (sgnd s b z) (sgnd s b z) = unit s := by
  obtain ⟨c1, c2, c3⟩ := self_cls s b z z0 h
  unfold divF
  rw [c1, c2, c3]
  simp only [Bool.or_false, Bool.false_eq_true, if_false, Bool.false_and]
  have e : (sgn s (sgnd s b z) != sgn s (sgnd s b z)) = false := by simp
  rw [e]
  obtain ⟨x, q, e', h1, h2, w, p⟩ := size_parts s b z h
  have q0 : q ≠ 0 := by
    intro c
    subst c
    rcases h2 with c | c
    · subst c; simp at e'; exact z0 e'
    · have := Nat.two_pow_pos (fP s); omega
  unfold divT
  rw [w, Nat.mul_div_cancel_left _ (by omega), Nat.mul_mod_right]
  have t := rnd_scale s m false 1 131 0
  rw [unit_rnd] at t
  rw [← t]
  congr 1
  omega
end Go.Proofs.Ytfdinlomlcnjnaa

