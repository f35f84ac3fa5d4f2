/- The other sign, in plain numbers: Up is the other sign of Down. -/
import Derived.Test.YtfbkiklopeebdaaSoftFacts
namespace Go.Proofs.Ytfbkiklopeebdaa
open Go.RowKit
set_option linter.unusedVariables false
set_option linter.unusedSimpArgs false
theorem xor_lo (x i : Nat) (h : x < 2 ^ i) : x ^^^ 2 ^ i = x + 2 ^ i := by
  have k := Nat.two_pow_add_eq_or_of_lt h 1
  rw [Nat.mul_one] at k
  rw [Nat.add_comm, k]
  apply Nat.eq_of_testBit_eq
  intro j
  rw [Nat.testBit_xor, Nat.testBit_or, Nat.testBit_two_pow]
  by_cases c : i = j
  · subst c
    rw [Nat.testBit_lt_two_pow h]
    simp
  · simp [c]
theorem xor_hi (x i : Nat) (h : x < 2 ^ i) : (x + 2 ^ i) ^^^ 2 ^ i = x := by
  rw [← xor_lo x i h, Nat.xor_assoc, Nat.xor_self, Nat.xor_zero]
theorem fI_lt (s : Bool) : fI s < fS s := by cases s <;> decide
/-- A size with a sign: what it is made of. -/
theorem made (s b : Bool) (z : Int) (h0 : 0 ≤ z) (h : z < fS s) : Word (sgnd s b z) ∧ wideB s (sgnd s b z) = false ∧ zOf s (sgnd s b z) = z ∧ sgn s (sgnd s b z) = b := by
  unfold sgnd
  cases s
  · have q : fS false = 9223372036854775808 := rfl
    rw [q] at h ⊢
    have w : Word (if b = true then z + 9223372036854775808 else z) := by cases b <;> exact ⟨by simp; omega, by simp; omega⟩
    refine ⟨w, rfl, ?_, ?_⟩
    · rw [zOf_double _ w]
      cases b <;> simp <;> omega
    · rw [sgn_double _ w]
      cases b <;> simp <;> omega
  · have q : fS true = 2147483648 := rfl
    rw [q] at h ⊢
    have w : Word (if b = true then z + 2147483648 else z) := by cases b <;> exact ⟨by simp; omega, by simp; omega⟩
    have w2 : (if b = true then z + 2147483648 else z) < 4294967296 := by cases b <;> simp <;> omega
    refine ⟨w, ?_, ?_, ?_⟩
    · unfold wideB; simp; cases b <;> simp <;> omega
    · rw [zOf_single _ w.1 w2]
      cases b <;> simp <;> omega
    · rw [sgn_single _ w.1 w2]
      cases b <;> simp <;> omega
theorem xor_sgnd (s b : Bool) (z : Int) (h0 : 0 ≤ z) (h : z < fS s) : bits BinOp.xor IntKind.u64 (sgnd s b z) (fS s) = sgnd s (!b) z := by
  obtain ⟨x, rfl⟩ := Int.eq_ofNat_of_zero_le h0
  unfold sgnd
  cases s
  · have q : fS false = ((9223372036854775808 : Nat) : Int) := rfl
    rw [q] at h ⊢
    cases b
    · have t := u64_xor_nat x 9223372036854775808 (by omega) (by decide)
      have k := xor_lo x 63 (by omega)
      rw [show (2 : Nat) ^ 63 = 9223372036854775808 by decide] at k
      rw [k] at t
      simpa using t
    · have t := u64_xor_nat (x + 9223372036854775808) 9223372036854775808 (by omega) (by decide)
      have k := xor_hi x 63 (by omega)
      rw [show (2 : Nat) ^ 63 = 9223372036854775808 by decide] at k
      rw [k] at t
      simpa using t
  · have q : fS true = ((2147483648 : Nat) : Int) := rfl
    rw [q] at h ⊢
    cases b
    · have t := u64_xor_nat x 2147483648 (by omega) (by decide)
      have k := xor_lo x 31 (by omega)
      rw [show (2 : Nat) ^ 31 = 2147483648 by decide] at k
      rw [k] at t
      simpa using t
    · have t := u64_xor_nat (x + 2147483648) 2147483648 (by omega) (by decide)
      have k := xor_hi x 31 (by omega)
      rw [show (2 : Nat) ^ 31 = 2147483648 by decide] at k
      rw [k] at t
      simpa using t
/-- The class hangs on the size alone. -/
theorem cls_made (s b : Bool) (z : Int) (h0 : 0 ≤ z) (h : z < fS s) : cls s (sgnd s b z) = if fI s < z then 5 else if z = fI s then 4 else if z = 0 then 1 else if z / 2 ^ fP s = 0 then 2 else 3 := by
  obtain ⟨_, w, e, _⟩ := made s b z h0 h
  unfold cls
  rw [w, e, if_neg (by decide)]
theorem num_made (s b : Bool) (z : Int) (h0 : 0 ≤ z) (h : z ≤ fI s) : (cls s (sgnd s b z) == 0 || cls s (sgnd s b z) == 5) = false := by
  have := fI_lt s
  rw [cls_made s b z h0 (by omega), if_neg (by omega)]
  by_cases c : z = fI s
  · rw [if_pos c]; rfl
  · rw [if_neg c]
    by_cases d : z = 0
    · rw [if_pos d]; rfl
    · rw [if_neg d]
      by_cases e : z / 2 ^ fP s = 0
      · rw [if_pos e]; rfl
      · rw [if_neg e]; rfl
theorem neg_made (s b : Bool) (z : Int) (h0 : 0 ≤ z) (h : z ≤ fI s) : negF s (sgnd s b z) = sgnd s (!b) z := by
  unfold negF
  rw [num_made s b z h0 h, if_neg (by decide), xor_sgnd s b z h0 (by have := fI_lt s; omega)]
theorem cls_nan (s : Bool) : cls s (fNan s) = 5 := by cases s <;> decide +kernel
theorem neg_nan (s : Bool) : negF s (fNan s) = fNan s := by unfold negF; rw [cls_nan]; rfl
theorem mod_fS (s b : Bool) (z : Int) : sgnd s b z % 2 ^ fP s = z % 2 ^ fP s := by
  unfold sgnd
  cases b
  · rfl
  · rw [if_pos rfl]
    cases s
    · show (z + 9223372036854775808) % 4503599627370496 = z % 4503599627370496; omega
    · show (z + 2147483648) % 8388608 = z % 8388608; omega
theorem whl_made (s b : Bool) (z : Int) (h0 : 0 ≤ z) (h : z < fS s) : whl s (sgnd s b z) = (if 0 < z / 2 ^ fP s then z % 2 ^ fP s + 2 ^ fP s else z % 2 ^ fP s) ∧ pwr s (sgnd s b z) = (if 0 < z / 2 ^ fP s then fL s + (z / 2 ^ fP s - 1) else fL s) := by
  obtain ⟨_, _, e, _⟩ := made s b z h0 h
  unfold whl pwr
  rw [e, mod_fS]
  exact ⟨rfl, rfl⟩
/-- A number is a size with a sign, or it is no number. -/
theorem num_or (s : Bool) (a : Int) (h : Word a) : (cls s a == 0 || cls s a == 5) = true ∨ ∃ (b : Bool) (z : Int), a = sgnd s b z ∧ 0 ≤ z ∧ z ≤ fI s := by
  by_cases c : (cls s a == 0 || cls s a == 5) = true
  · exact Or.inl c
  · right
    have c' : (cls s a == 0 || cls s a == 5) = false := by simpa using c
    have k0 : ¬ cls s a = 0 := by simp only [Bool.or_eq_false_iff, beq_eq_false_iff_ne, ne_eq] at c'; exact c'.1
    have k5 : ¬ cls s a = 5 := by simp only [Bool.or_eq_false_iff, beq_eq_false_iff_ne, ne_eq] at c'; exact c'.2
    have w : wideB s a = false := by
      cases t : wideB s a
      · rfl
      · unfold cls at k0; rw [t] at k0; simp at k0
    obtain ⟨e, z0, z1⟩ := put s a h w
    refine ⟨sgn s a, zOf s a, e, z0, ?_⟩
    by_cases t : fI s < zOf s a
    · unfold cls at k5; rw [w, if_neg (by decide), if_pos t] at k5; exact absurd rfl k5
    · omega
theorem rnd_made (s : Bool) (m : Int) (b : Bool) (n : Nat) (e : Int) : ∃ z : Int, rnd s m b n e = sgnd s b z ∧ 0 ≤ z ∧ z ≤ fI s := by
  unfold rnd
  by_cases c : n = 0
  · rw [if_pos c]; exact ⟨0, rfl, by omega, fI_pos s⟩
  · rw [if_neg c]
    obtain ⟨z, e1, e2⟩ := mag_any s m b c e
    exact ⟨z, by rw [e1], by omega, e2⟩
theorem rnd_neg (s b : Bool) (n : Nat) (e : Int) : negF s (rnd s 1 b n e) = rnd s 2 (!b) n e := by
  unfold rnd
  by_cases c : n = 0
  · rw [if_pos c, if_pos c, neg_made s b 0 (by omega) (fI_pos s)]
  · rw [if_neg c, if_neg c]
    obtain ⟨z, e1, e2⟩ := mag_any s 1 b c e
    rw [← mag_mirror, e1, neg_made s b z (by omega) e2]
theorem sum_neg (s : Bool) (xb : Bool) (xw : Nat) (xe : Int) (yb : Bool) (yw : Nat) (ye : Int) : negF s (sumT s 1 xb xw xe yb yw ye) = sumT s 2 (!xb) xw xe (!yb) yw ye := by
  unfold sumT
  generalize xw * 2 ^ (xe - min xe ye).toNat = X
  generalize yw * 2 ^ (ye - min xe ye).toNat = Y
  have d : (((!xb) : Bool) = !yb) ↔ (xb = yb) := by cases xb <;> cases yb <;> simp
  by_cases c : xb = yb
  · rw [if_pos c, if_pos (d.2 c), rnd_neg]
  · rw [if_neg c, if_neg (fun h => c (d.1 h))]
    by_cases e : X = Y
    · rw [if_pos e, if_pos e, neg_made s _ 0 (by omega) (fI_pos s)]; rfl
    · rw [if_neg e, if_neg e]
      by_cases g : Y < X
      · rw [if_pos g, if_pos g, rnd_neg]
      · rw [if_neg g, if_neg g, rnd_neg]
/-- What a float with the other sign is made of. -/
theorem neg_parts (s b : Bool) (z : Int) (h0 : 0 ≤ z) (h : z ≤ fI s) :
    cls s (negF s (sgnd s b z)) = cls s (sgnd s b z) ∧ sgn s (negF s (sgnd s b z)) = !(sgn s (sgnd s b z)) ∧ whl s (negF s (sgnd s b z)) = whl s (sgnd s b z) ∧ pwr s (negF s (sgnd s b z)) = pwr s (sgnd s b z) := by
  have l : z < fS s := by have := fI_lt s; omega
  rw [neg_made s b z h0 h]
  obtain ⟨_, _, _, g1⟩ := made s b z h0 l
  obtain ⟨_, _, _, g2⟩ := made s (!b) z h0 l
  obtain ⟨a1, a2⟩ := whl_made s b z h0 l
  obtain ⟨b1, b2⟩ := whl_made s (!b) z h0 l
  rw [g1, g2, a1, a2, b1, b2, cls_made s b z h0 l, cls_made s (!b) z h0 l]
  exact ⟨rfl, rfl, rfl, rfl⟩
theorem nan_no {s : Bool} {a : Int} (c : (cls s a == 0 || cls s a == 5) = true) : negF s a = fNan s := by unfold negF; rw [c, if_pos rfl]
theorem nan_is (s : Bool) : (cls s (fNan s) == 0 || cls s (fNan s) == 5) = true := by rw [cls_nan]; rfl
theorem bne_not (a b : Bool) : ((!a) != b) = !(a != b) := by cases a <;> cases b <;> rfl
theorem not_bne (a b : Bool) : ((!a) != (!b)) = (a != b) := by cases a <;> cases b <;> rfl
theorem mul_mirror (s : Bool) (a b : Int) (h1 : Word a) (h2 : Word b) : negF s (mulF s 1 a b) = mulF s 2 (negF s a) b := by
  rcases num_or s a h1 with c | ⟨b1, z1, rfl, q0, q1⟩
  · have e := nan_no c
    have i := nan_is s
    unfold mulF
    rw [e, c, i, Bool.true_or, if_pos rfl, if_pos rfl, neg_nan]
  · obtain ⟨p1, p2, p3, p4⟩ := neg_parts s b1 z1 q0 q1
    unfold mulF
    rw [p1, p2, p3, p4, bne_not]
    have n1 := num_made s b1 z1 q0 q1
    rw [n1]
    generalize (cls s b == 0 || cls s b == 5) = N2
    cases N2
    · simp only [Bool.or_false, Bool.false_eq_true, if_false]
      split
      · exact neg_nan s
      · split
        · rw [neg_made s _ _ (fI_pos s) (Int.le_refl _)]
        · rw [rnd_neg]
    · simp only [Bool.or_true, if_true]
      exact neg_nan s
theorem div_mirror (s : Bool) (a b : Int) (h1 : Word a) (h2 : Word b) : negF s (divF s 1 a b) = divF s 2 (negF s a) b := by
  rcases num_or s a h1 with c | ⟨b1, z1, rfl, q0, q1⟩
  · have e := nan_no c
    have i := nan_is s
    unfold divF
    rw [e, c, i, Bool.true_or, if_pos rfl, if_pos rfl, neg_nan]
  · obtain ⟨p1, p2, p3, p4⟩ := neg_parts s b1 z1 q0 q1
    unfold divF
    rw [p1, p2, p3, p4, bne_not]
    have n1 := num_made s b1 z1 q0 q1
    rw [n1]
    generalize (cls s b == 0 || cls s b == 5) = N2
    cases N2
    · simp only [Bool.or_false, Bool.false_eq_true, if_false]
      split
      · exact neg_nan s
      · split
        · rw [neg_made s _ _ (fI_pos s) (Int.le_refl _)]
        · split
          · rw [neg_made s _ _ (Int.le_refl _) (fI_pos s)]
          · unfold divT; rw [rnd_neg]
    · simp only [Bool.or_true, if_true]
      exact neg_nan s
theorem add_mirror (s : Bool) (a b : Int) (h1 : Word a) (h2 : Word b) : negF s (addF s 1 a b) = addF s 2 (negF s a) (negF s b) := by
  rcases num_or s a h1 with c | ⟨b1, z1, rfl, q0, q1⟩
  · have e := nan_no c
    have i := nan_is s
    unfold addF
    rw [e, c, i, Bool.true_or, Bool.true_or, if_pos rfl, if_pos rfl, neg_nan]
  · rcases num_or s b h2 with c | ⟨b2, z2, rfl, r0, r1⟩
    · have e := nan_no c
      have i := nan_is s
      unfold addF
      rw [e, c, i, Bool.or_true, Bool.or_true, if_pos rfl, if_pos rfl, neg_nan]
    · obtain ⟨p1, p2, p3, p4⟩ := neg_parts s b1 z1 q0 q1
      obtain ⟨k1, k2, k3, k4⟩ := neg_parts s b2 z2 r0 r1
      unfold addF
      rw [p1, p2, p3, p4, k1, k2, k3, k4, not_bne]
      rw [num_made s b1 z1 q0 q1, num_made s b2 z2 r0 r1]
      simp only [Bool.or_false, Bool.false_eq_true, if_false]
      split
      · exact neg_nan s
      · split
        · rfl
        · split
          · rfl
          · exact sum_neg s _ _ _ _ _ _
end Go.Proofs.Ytfbkiklopeebdaa

