/- Texts of the proof, put together. -/
import Derived.Test.YteafnkimcidkhaaGreatMB2
namespace Go.Proofs.YteafnkimcidkhaaGreat
open Go.RowKit
set_option linter.unusedVariables false
set_option linter.unusedSimpArgs false
theorem and_bit (x i : Nat) (hx : x < 2 ^ (i + 1)) : (x &&& 2 ^ i != 0) = decide (2 ^ i ≤ x) := by
  have p := Nat.two_pow_pos i
  have e : x &&& 2 ^ i = if x.testBit i then 2 ^ i else 0 := by
    apply Nat.eq_of_testBit_eq
    intro j
    rw [Nat.testBit_and, Nat.testBit_two_pow]
    by_cases c : i = j
    · subst c
      cases t : x.testBit i <;> simp
    · cases t : x.testBit i <;> simp [c, Nat.testBit_two_pow]
  rw [e, Nat.testBit_eq_decide_div_mod_eq]
  rw [Nat.pow_succ] at hx
  by_cases c : 2 ^ i ≤ x
  · have d : x / 2 ^ i = 1 := Nat.div_eq_of_lt_le (by omega) (by omega)
    rw [d, decide_eq_true c]
    simp
  · have d : x / 2 ^ i = 0 := Nat.div_eq_of_lt (by omega)
    rw [d, decide_eq_false c]
    simp
theorem sgn_double (a : Int) (h : Word a) : sgn false a = decide (9223372036854775808 ≤ a) := by
  obtain ⟨x, rfl⟩ := Int.eq_ofNat_of_zero_le h.1
  have hx := h.2
  have t := u64_and_nat x 9223372036854775808 (by omega) (by decide)
  have e := and_bit x 63 (by omega)
  show (bits BinOp.and IntKind.u64 (x : Int) ((9223372036854775808 : Nat) : Int) != 0) = _
  rw [t, Bool.eq_iff_iff, bne_iff_ne, decide_eq_true_iff]
  rw [Bool.eq_iff_iff, bne_iff_ne, decide_eq_true_iff] at e
  have q : (2 : Nat) ^ 63 = 9223372036854775808 := by decide
  rw [q] at e
  omega
theorem sgn_single (a : Int) (h : 0 ≤ a) (h' : a < 4294967296) : sgn true a = decide (2147483648 ≤ a) := by
  obtain ⟨x, rfl⟩ := Int.eq_ofNat_of_zero_le h
  have t := u64_and_nat x 2147483648 (by omega) (by decide)
  have e := and_bit x 31 (by omega)
  show (bits BinOp.and IntKind.u64 (x : Int) ((2147483648 : Nat) : Int) != 0) = _
  rw [t, Bool.eq_iff_iff, bne_iff_ne, decide_eq_true_iff]
  rw [Bool.eq_iff_iff, bne_iff_ne, decide_eq_true_iff] at e
  have q : (2 : Nat) ^ 31 = 2147483648 := by decide
  rw [q] at e
  omega
/-- A float is its size and its sign. -/
theorem put (s : Bool) (a : Int) (h : Word a) (w : wideB s a = false) : a = sgnd s (sgn s a) (zOf s a) ∧ 0 ≤ zOf s a ∧ zOf s a < fS s := by
  unfold sgnd
  cases s
  · rw [sgn_double a h, zOf_double a h]
    have q : fS false = 9223372036854775808 := rfl
    rw [q]
    obtain ⟨h0, h1⟩ := h
    by_cases c : 9223372036854775808 ≤ a
    · rw [if_pos (decide_eq_true c)]; omega
    · rw [if_neg (by simp; omega)]; omega
  · have w' : a < 4294967296 := by unfold wideB at w; simp at w; exact w
    rw [sgn_single a h.1 w', zOf_single a h.1 w']
    have q : fS true = 2147483648 := rfl
    rw [q]
    obtain ⟨h0, h1⟩ := h
    by_cases c : 2147483648 ≤ a
    · rw [if_pos (decide_eq_true c)]; omega
    · rw [if_neg (by simp; omega)]; omega
theorem cls_inf {s : Bool} {a : Int} (c : (cls s a == 4) = true) : wideB s a = false ∧ zOf s a = fI s := by
  have k := beq_iff_eq.1 c
  unfold cls at k
  cases t : wideB s a
  · rw [t, if_neg (by decide)] at k
    refine ⟨rfl, ?_⟩
    by_cases d : fI s < zOf s a
    · rw [if_pos d] at k; exact absurd k (by decide)
    · rw [if_neg d] at k
      by_cases e : zOf s a = fI s
      · exact e
      · rw [if_neg e] at k
        by_cases g : zOf s a = 0
        · rw [if_pos g] at k; exact absurd k (by decide)
        · rw [if_neg g] at k
          by_cases i : zOf s a / 2 ^ fP s = 0
          · rw [if_pos i] at k; exact absurd k (by decide)
          · rw [if_neg i] at k; exact absurd k (by decide)
  · rw [t, if_pos rfl] at k; exact absurd k (by decide)
theorem addF_comm (s : Bool) (m a b : Int) (h1 : Word a) (h2 : Word b) : addF s m a b = addF s m b a := by
  unfold addF
  rw [sumT_swap s m (sgn s a)]
  have i1 := @cls_inf s a
  have i2 := @cls_inf s b
  have p1 := put s a h1
  have p2 := put s b h2
  generalize (cls s a == 0 || cls s a == 5) = N1 at *
  generalize (cls s b == 0 || cls s b == 5) = N2 at *
  generalize (cls s a == 4) = I1 at *
  generalize (cls s b == 4) = I2 at *
  cases N1 <;> cases N2 <;> try rfl
  cases I1 <;> cases I2 <;> try rfl
  obtain ⟨w1, z1⟩ := i1 rfl
  obtain ⟨w2, z2⟩ := i2 rfl
  obtain ⟨e1, _⟩ := p1 w1
  obtain ⟨e2, _⟩ := p2 w2
  rw [z1] at e1
  rw [z2] at e2
  cases g1 : sgn s a <;> cases g2 : sgn s b
  · rw [g1] at e1; rw [g2] at e2; simp; rw [e1, e2]
  · simp
  · simp
  · rw [g1] at e1; rw [g2] at e2; simp; rw [e1, e2]
theorem mulF_comm (s : Bool) (m a b : Int) : mulF s m a b = mulF s m b a := by
  unfold mulF
  rw [show (sgn s a != sgn s b) = (sgn s b != sgn s a) by cases sgn s a <;> cases sgn s b <;> rfl, Nat.mul_comm (whl s a).toNat, Int.add_comm (pwr s a)]
  generalize (cls s a == 0 || cls s a == 5) = N1 at *
  generalize (cls s b == 0 || cls s b == 5) = N2 at *
  generalize (cls s a == 4) = I1 at *
  generalize (cls s b == 4) = I2 at *
  generalize (cls s a == 1) = Z1 at *
  generalize (cls s b == 1) = Z2 at *
  cases N1 <;> cases N2 <;> cases I1 <;> cases I2 <;> cases Z1 <;> cases Z2 <;> rfl
end Go.Proofs.YteafnkimcidkhaaGreat
namespace Go.Proofs.YteafnkimcidkhaaGreat
open Go.RowKit
set_option linter.unusedVariables false
set_option linter.unusedSimpArgs false
theorem xor_lo (x i : Nat) (h : x < 2 ^ i) : x ^^^ 2 ^ i = x + 2 ^ i := by
  have k := Nat.two_pow_add_eq_or_of_lt h 1
  rw [Nat.mul_one] at k
  rw [Nat.add_comm, k]
  apply Nat.eq_of_testBit_eq
  intro j
  rw [Nat.testBit_xor, Nat.testBit_or, Nat.testBit_two_pow]
  by_cases c : i = j
  · subst c
    rw [Nat.testBit_lt_two_pow h]
    simp
  · simp [c]
theorem xor_hi (x i : Nat) (h : x < 2 ^ i) : (x + 2 ^ i) ^^^ 2 ^ i = x := by
  rw [← xor_lo x i h, Nat.xor_assoc, Nat.xor_self, Nat.xor_zero]
theorem fI_lt (s : Bool) : fI s < fS s := by cases s <;> decide
/-- A size with a sign: what it is made of. -/
theorem made (s b : Bool) (z : Int) (h0 : 0 ≤ z) (h : z < fS s) : Word (sgnd s b z) ∧ wideB s (sgnd s b z) = false ∧ zOf s (sgnd s b z) = z ∧ sgn s (sgnd s b z) = b := by
  unfold sgnd
  cases s
  · have q : fS false = 9223372036854775808 := rfl
    rw [q] at h ⊢
    have w : Word (if b = true then z + 9223372036854775808 else z) := by cases b <;> exact ⟨by simp; omega, by simp; omega⟩
    refine ⟨w, rfl, ?_, ?_⟩
    · rw [zOf_double _ w]
      cases b <;> simp <;> omega
    · rw [sgn_double _ w]
      cases b <;> simp <;> omega
  · have q : fS true = 2147483648 := rfl
    rw [q] at h ⊢
    have w : Word (if b = true then z + 2147483648 else z) := by cases b <;> exact ⟨by simp; omega, by simp; omega⟩
    have w2 : (if b = true then z + 2147483648 else z) < 4294967296 := by cases b <;> simp <;> omega
    refine ⟨w, ?_, ?_, ?_⟩
    · unfold wideB; simp; cases b <;> simp <;> omega
    · rw [zOf_single _ w.1 w2]
      cases b <;> simp <;> omega
    · rw [sgn_single _ w.1 w2]
      cases b <;> simp <;> omega
theorem xor_sgnd (s b : Bool) (z : Int) (h0 : 0 ≤ z) (h : z < fS s) : bits BinOp.xor IntKind.u64 (sgnd s b z) (fS s) = sgnd s (!b) z := by
  obtain ⟨x, rfl⟩ := Int.eq_ofNat_of_zero_le h0
  unfold sgnd
  cases s
  · have q : fS false = ((9223372036854775808 : Nat) : Int) := rfl
    rw [q] at h ⊢
    cases b
    · have t := u64_xor_nat x 9223372036854775808 (by omega) (by decide)
      have k := xor_lo x 63 (by omega)
      rw [show (2 : Nat) ^ 63 = 9223372036854775808 by decide] at k
      rw [k] at t
      simpa using t
    · have t := u64_xor_nat (x + 9223372036854775808) 9223372036854775808 (by omega) (by decide)
      have k := xor_hi x 63 (by omega)
      rw [show (2 : Nat) ^ 63 = 9223372036854775808 by decide] at k
      rw [k] at t
      simpa using t
  · have q : fS true = ((2147483648 : Nat) : Int) := rfl
    rw [q] at h ⊢
    cases b
    · have t := u64_xor_nat x 2147483648 (by omega) (by decide)
      have k := xor_lo x 31 (by omega)
      rw [show (2 : Nat) ^ 31 = 2147483648 by decide] at k
      rw [k] at t
      simpa using t
    · have t := u64_xor_nat (x + 2147483648) 2147483648 (by omega) (by decide)
      have k := xor_hi x 31 (by omega)
      rw [show (2 : Nat) ^ 31 = 2147483648 by decide] at k
      rw [k] at t
      simpa using t
/-- The class hangs on the size alone. -/
theorem cls_made (s b : Bool) (z : Int) (h0 : 0 ≤ z) (h : z < fS s) : cls s (sgnd s b z) = if fI s < z then 5 else if z = fI s then 4 else if z = 0 then 1 else if z / 2 ^ fP s = 0 then 2 else 3 := by
  obtain ⟨_, w, e, _⟩ := made s b z h0 h
  unfold cls
  rw [w, e, if_neg (by decide)]
theorem num_made (s b : Bool) (z : Int) (h0 : 0 ≤ z) (h : z ≤ fI s) : (cls s (sgnd s b z) == 0 || cls s (sgnd s b z) == 5) = false := by
  have := fI_lt s
  rw [cls_made s b z h0 (by omega), if_neg (by omega)]
  by_cases c : z = fI s
  · rw [if_pos c]; rfl
  · rw [if_neg c]
    by_cases d : z = 0
    · rw [if_pos d]; rfl
    · rw [if_neg d]
      by_cases e : z / 2 ^ fP s = 0
      · rw [if_pos e]; rfl
      · rw [if_neg e]; rfl
theorem neg_made (s b : Bool) (z : Int) (h0 : 0 ≤ z) (h : z ≤ fI s) : negF s (sgnd s b z) = sgnd s (!b) z := by
  unfold negF
  rw [num_made s b z h0 h, if_neg (by decide), xor_sgnd s b z h0 (by have := fI_lt s; omega)]
theorem cls_nan (s : Bool) : cls s (fNan s) = 5 := by cases s <;> decide +kernel
theorem neg_nan (s : Bool) : negF s (fNan s) = fNan s := by unfold negF; rw [cls_nan]; rfl
theorem mod_fS (s b : Bool) (z : Int) : sgnd s b z % 2 ^ fP s = z % 2 ^ fP s := by
  unfold sgnd
  cases b
  · rfl
  · rw [if_pos rfl]
    cases s
    · show (z + 9223372036854775808) % 4503599627370496 = z % 4503599627370496; omega
    · show (z + 2147483648) % 8388608 = z % 8388608; omega
theorem whl_made (s b : Bool) (z : Int) (h0 : 0 ≤ z) (h : z < fS s) : whl s (sgnd s b z) = (if 0 < z / 2 ^ fP s then z % 2 ^ fP s + 2 ^ fP s else z % 2 ^ fP s) ∧ pwr s (sgnd s b z) = (if 0 < z / 2 ^ fP s then fL s + (z / 2 ^ fP s - 1) else fL s) := by
  obtain ⟨_, _, e, _⟩ := made s b z h0 h
  unfold whl pwr
  rw [e, mod_fS]
  exact ⟨rfl, rfl⟩
/-- A number is a size with a sign, or it is no number. -/
theorem num_or (s : Bool) (a : Int) (h : Word a) : (cls s a == 0 || cls s a == 5) = true ∨ ∃ (b : Bool) (z : Int), a = sgnd s b z ∧ 0 ≤ z ∧ z ≤ fI s := by
  by_cases c : (cls s a == 0 || cls s a == 5) = true
  · exact Or.inl c
  · right
    have c' : (cls s a == 0 || cls s a == 5) = false := by simpa using c
    have k0 : ¬ cls s a = 0 := by simp only [Bool.or_eq_false_iff, beq_eq_false_iff_ne, ne_eq] at c'; exact c'.1
    have k5 : ¬ cls s a = 5 := by simp only [Bool.or_eq_false_iff, beq_eq_false_iff_ne, ne_eq] at c'; exact c'.2
    have w : wideB s a = false := by
      cases t : wideB s a
      · rfl
      · unfold cls at k0; rw [t] at k0; simp at k0
    obtain ⟨e, z0, z1⟩ := put s a h w
    refine ⟨sgn s a, zOf s a, e, z0, ?_⟩
    by_cases t : fI s < zOf s a
    · unfold cls at k5; rw [w, if_neg (by decide), if_pos t] at k5; exact absurd rfl k5
    · omega
theorem rnd_made (s : Bool) (m : Int) (b : Bool) (n : Nat) (e : Int) : ∃ z : Int, rnd s m b n e = sgnd s b z ∧ 0 ≤ z ∧ z ≤ fI s := by
  unfold rnd
  by_cases c : n = 0
  · rw [if_pos c]; exact ⟨0, rfl, by omega, fI_pos s⟩
  · rw [if_neg c]
    obtain ⟨z, e1, e2⟩ := mag_any s m b c e
    exact ⟨z, by rw [e1], by omega, e2⟩
theorem rnd_neg (s b : Bool) (n : Nat) (e : Int) : negF s (rnd s 1 b n e) = rnd s 2 (!b) n e := by
  unfold rnd
  by_cases c : n = 0
  · rw [if_pos c, if_pos c, neg_made s b 0 (by omega) (fI_pos s)]
  · rw [if_neg c, if_neg c]
    obtain ⟨z, e1, e2⟩ := mag_any s 1 b c e
    rw [← mag_mirror, e1, neg_made s b z (by omega) e2]
theorem sum_neg (s : Bool) (xb : Bool) (xw : Nat) (xe : Int) (yb : Bool) (yw : Nat) (ye : Int) : negF s (sumT s 1 xb xw xe yb yw ye) = sumT s 2 (!xb) xw xe (!yb) yw ye := by
  unfold sumT
  generalize xw * 2 ^ (xe - min xe ye).toNat = X
  generalize yw * 2 ^ (ye - min xe ye).toNat = Y
  have d : (((!xb) : Bool) = !yb) ↔ (xb = yb) := by cases xb <;> cases yb <;> simp
  by_cases c : xb = yb
  · rw [if_pos c, if_pos (d.2 c), rnd_neg]
  · rw [if_neg c, if_neg (fun h => c (d.1 h))]
    by_cases e : X = Y
    · rw [if_pos e, if_pos e, neg_made s _ 0 (by omega) (fI_pos s)]; rfl
    · rw [if_neg e, if_neg e]
      by_cases g : Y < X
      · rw [if_pos g, if_pos g, rnd_neg]
      · rw [if_neg g, if_neg g, rnd_neg]
/-- What a float with the other sign is made of. -/
theorem neg_parts (s b : Bool) (z : Int) (h0 : 0 ≤ z) (h : z ≤ fI s) :
    cls s (negF s (sgnd s b z)) = cls s (sgnd s b z) ∧ sgn s (negF s (sgnd s b z)) = !(sgn s (sgnd s b z)) ∧ whl s (negF s (sgnd s b z)) = whl s (sgnd s b z) ∧ pwr s (negF s (sgnd s b z)) = pwr s (sgnd s b z) := by
  have l : z < fS s := by have := fI_lt s; omega
  rw [neg_made s b z h0 h]
  obtain ⟨_, _, _, g1⟩ := made s b z h0 l
  obtain ⟨_, _, _, g2⟩ := made s (!b) z h0 l
  obtain ⟨a1, a2⟩ := whl_made s b z h0 l
  obtain ⟨b1, b2⟩ := whl_made s (!b) z h0 l
  rw [g1, g2, a1, a2, b1, b2, cls_made s b z h0 l, cls_made s (!b) z h0 l]
  exact ⟨rfl, rfl, rfl, rfl⟩
theorem nan_no {s : Bool} {a : Int} (c : (cls s a == 0 || cls s a == 5) = true) : negF s a = fNan s := by unfold negF; rw [c, if_pos rfl]
theorem nan_is (s : Bool) : (cls s (fNan s) == 0 || cls s (fNan s) == 5) = true := by rw [cls_nan]; rfl
theorem bne_not (a b : Bool) : ((!a) != b) = !(a != b) := by cases a <;> cases b <;> rfl
theorem not_bne (a b : Bool) : ((!a) != (!b)) = (a != b) := by cases a <;> cases b <;> rfl
theorem mul_mirror (s : Bool) (a b : Int) (h1 : Word a) (h2 : Word b) : negF s (mulF s 1 a b) = mulF s 2 (negF s a) b := by
  rcases num_or s a h1 with c | ⟨b1, z1, rfl, q0, q1⟩
  · have e := nan_no c
    have i := nan_is s
    unfold mulF
    rw [e, c, i, Bool.true_or, if_pos rfl, if_pos rfl, neg_nan]
  · obtain ⟨p1, p2, p3, p4⟩ := neg_parts s b1 z1 q0 q1
    unfold mulF
    rw [p1, p2, p3, p4, bne_not]
    have n1 := num_made s b1 z1 q0 q1
    rw [n1]
    generalize (cls s b == 0 || cls s b == 5) = N2
    cases N2
    · simp only [Bool.or_false, Bool.false_eq_true, if_false]
      split
      · exact neg_nan s
      · split
        · rw [neg_made s _ _ (fI_pos s) (Int.le_refl _)]
        · rw [rnd_neg]
    · simp only [Bool.or_true, if_true]
      exact neg_nan s
theorem div_mirror (s : Bool) (a b : Int) (h1 : Word a) (h2 : Word b) : negF s (divF s 1 a b) = divF s 2 (negF s a) b := by
  rcases num_or s a h1 with c | ⟨b1, z1, rfl, q0, q1⟩
  · have e := nan_no c
    have i := nan_is s
    unfold divF
    rw [e, c, i, Bool.true_or, if_pos rfl, if_pos rfl, neg_nan]
  · obtain ⟨p1, p2, p3, p4⟩ := neg_parts s b1 z1 q0 q1
    unfold divF
    rw [p1, p2, p3, p4, bne_not]
    have n1 := num_made s b1 z1 q0 q1
    rw [n1]
    generalize (cls s b == 0 || cls s b == 5) = N2
    cases N2
    · simp only [Bool.or_false, Bool.false_eq_true, if_false]
      split
      · exact neg_nan s
      · split
        · rw [neg_made s _ _ (fI_pos s) (Int.le_refl _)]
        · split
          · rw [neg_made s _ _ (Int.le_refl _) (fI_pos s)]
          · unfold divT; rw [rnd_neg]
    · simp only [Bool.or_true, if_true]
      exact neg_nan s
theorem add_mirror (s : Bool) (a b : Int) (h1 : Word a) (h2 : Word b) : negF s (addF s 1 a b) = addF s 2 (negF s a) (negF s b) := by
  rcases num_or s a h1 with c | ⟨b1, z1, rfl, q0, q1⟩
  · have e := nan_no c
    have i := nan_is s
    unfold addF
    rw [e, c, i, Bool.true_or, Bool.true_or, if_pos rfl, if_pos rfl, neg_nan]
  · rcases num_or s b h2 with c | ⟨b2, z2, rfl, r0, r1⟩
    · have e := nan_no c
      have i := nan_is s
      unfold addF
      rw [e, c, i, Bool.or_true, Bool.or_true, if_pos rfl, if_pos rfl, neg_nan]
    · obtain ⟨p1, p2, p3, p4⟩ := neg_parts s b1 z1 q0 q1
      obtain ⟨k1, k2, k3, k4⟩ := neg_parts s b2 z2 r0 r1
      unfold addF
      rw [p1, p2, p3, p4, k1, k2, k3, k4, not_bne]
      rw [num_made s b1 z1 q0 q1, num_made s b2 z2 r0 r1]
      simp only [Bool.or_false, Bool.false_eq_true, if_false]
      split
      · exact neg_nan s
      · split
        · rfl
        · split
          · rfl
          · exact sum_neg s _ _ _ _ _ _
end Go.Proofs.YteafnkimcidkhaaGreat
namespace Go.Proofs.YteafnkimcidkhaaGreat
open Go.RowKit
set_option linter.unusedVariables false
set_option linter.unusedSimpArgs false
/-- A format's number. -/
def fb (s : Bool) : Int := if s then 1 else 0
def fE (s : Bool) : Int := if s then 8 else 11
theorem rsize_d (w : World) : Calls Tryz.prog 126 #[.int .i64 0] w fun e w' => e = .returned (.tuple #[.int .i64 52, .int .i64 11, .int .i64 (-1074)]) ∧ w' = w := by
  go_enter Tryz.func126, Tryz.ntmps126
  go_wp2_with fail
  exact bodyPost_ret (v := .tuple #[.int .i64 52, .int .i64 11, .int .i64 (-1074)]) (by simp [results, Tryz.results126, go_sem]) rfl ⟨rfl, rfl⟩
theorem rsize_s (w : World) : Calls Tryz.prog 126 #[.int .i64 1] w fun e w' => e = .returned (.tuple #[.int .i64 23, .int .i64 8, .int .i64 (-149)]) ∧ w' = w := by
  go_enter Tryz.func126, Tryz.ntmps126
  go_wp2_with fail
  exact bodyPost_ret (v := .tuple #[.int .i64 23, .int .i64 8, .int .i64 (-149)]) (by simp [results, Tryz.results126, go_sem]) rfl ⟨rfl, rfl⟩
/-- A float's exponent. -/
def xpo (s : Bool) (a : Int) : Int := a / 2 ^ fP s % 2 ^ (fE s).toNat
theorem and_bits (x i : Nat) (m : Int) (hm : m = ((2 ^ i - 1 : Nat) : Int)) (hi : 2 ^ i ≤ 18446744073709551616) (a : Int) (ha : a = (x : Int)) (h : x < 18446744073709551616) : bits BinOp.and IntKind.u64 a m = a % 2 ^ i := by
  subst hm ha
  have p := Nat.two_pow_pos i
  have t := u64_and_nat x (2 ^ i - 1) h (by omega)
  rw [Nat.and_two_pow_sub_one_eq_mod] at t
  rw [t, pow_cast, Int.natCast_emod]
theorem rparts_any (s : Bool) (a : Int) (h : Word a) (w : World) : Calls Tryz.prog 127 #[.int .i64 (fb s), .int .u64 a] w fun e w' => e = .returned (.tuple #[.int .u64 (xpo s a), .int .u64 (a % 2 ^ fP s)]) ∧ w' = w.drew := by
  have h1 := h.1
  have h2 := h.2
  cases s
  · have hs := rsize_d
    have n1 : bits BinOp.and IntKind.u64 (a / 4503599627370496) 2047 = xpo false a := and_bits (a / 4503599627370496).toNat 11 2047 rfl (by decide) _ (by omega) (by omega)
    have n2 : bits BinOp.and IntKind.u64 a 4503599627370495 = a % 2 ^ fP false := and_bits a.toNat 52 4503599627370495 rfl (by decide) _ (by omega) (by omega)
    generalize xpo false a = X at *
    generalize a % 2 ^ fP false = M at *
    show Calls Tryz.prog 127 #[.int .i64 0, .int .u64 a] w _
    go_enter Tryz.func127, Tryz.ntmps127
    go_wp2_with (go_at_call 126; refine (hs _).mono ?_; rintro e w1 ⟨rfl, rfl⟩)
    go_region
    go_wp2_with fail
    exact bodyPost_ret (v := .tuple #[.int .u64 X, .int .u64 M]) (by simp [results, Tryz.results127, go_sem]) rfl ⟨rfl, rfl⟩
  · have hs := rsize_s
    have n1 : bits BinOp.and IntKind.u64 (a / 8388608) 255 = xpo true a := and_bits (a / 8388608).toNat 8 255 rfl (by decide) _ (by omega) (by omega)
    have n2 : bits BinOp.and IntKind.u64 a 8388607 = a % 2 ^ fP true := and_bits a.toNat 23 8388607 rfl (by decide) _ (by omega) (by omega)
    generalize xpo true a = X at *
    generalize a % 2 ^ fP true = M at *
    show Calls Tryz.prog 127 #[.int .i64 1, .int .u64 a] w _
    go_enter Tryz.func127, Tryz.ntmps127
    go_wp2_with (go_at_call 126; refine (hs _).mono ?_; rintro e w1 ⟨rfl, rfl⟩)
    go_region
    go_wp2_with fail
    exact bodyPost_ret (v := .tuple #[.int .u64 X, .int .u64 M]) (by simp [results, Tryz.results127, go_sem]) rfl ⟨rfl, rfl⟩
theorem cls_ref_d (a : Int) (h : Word a) (w : wideB false a = false) : cls false a = (if xpo false a = 2047 ∧ a % 4503599627370496 ≠ 0 then 5 else if xpo false a = 2047 then 4 else if xpo false a = 0 ∧ a % 4503599627370496 = 0 then 1 else if xpo false a = 0 then 2 else 3) := by
  have h1 := h.1
  have h2 := h.2
  have e := zOf_double a h
  have x : xpo false a = a / 4503599627370496 % 2048 := rfl
  have i : fI false = 9218868437227405312 := rfl
  have p : (2 : Int) ^ fP false = 4503599627370496 := rfl
  unfold cls
  rw [w, if_neg (by decide), e, x, i, p]
  by_cases c1 : 9218868437227405312 < a % 9223372036854775808
  · rw [if_pos c1, if_pos (by omega)]
  · rw [if_neg c1]
    by_cases c2 : a % 9223372036854775808 = 9218868437227405312
    · rw [if_pos c2, if_neg (by omega), if_pos (by omega)]
    · rw [if_neg c2]
      by_cases c3 : a % 9223372036854775808 = 0
      · rw [if_pos c3, if_neg (by omega), if_neg (by omega), if_pos (by omega)]
      · rw [if_neg c3]
        by_cases c4 : a % 9223372036854775808 / 4503599627370496 = 0
        · rw [if_pos c4, if_neg (by omega), if_neg (by omega), if_neg (by omega), if_pos (by omega)]
        · rw [if_neg c4, if_neg (by omega), if_neg (by omega), if_neg (by omega), if_neg (by omega)]
theorem cls_ref_s (a : Int) (h : Word a) (w : wideB true a = false) : cls true a = (if xpo true a = 255 ∧ a % 8388608 ≠ 0 then 5 else if xpo true a = 255 then 4 else if xpo true a = 0 ∧ a % 8388608 = 0 then 1 else if xpo true a = 0 then 2 else 3) := by
  have h1 := h.1
  have h2 := h.2
  have a3 : a < 4294967296 := by unfold wideB at w; simp at w; exact w
  have e := zOf_single a h1 a3
  have x : xpo true a = a / 8388608 % 256 := rfl
  have i : fI true = 2139095040 := rfl
  have p : (2 : Int) ^ fP true = 8388608 := rfl
  unfold cls
  rw [w, if_neg (by decide), e, x, i, p]
  by_cases c1 : 2139095040 < a % 2147483648
  · rw [if_pos c1, if_pos (by omega)]
  · rw [if_neg c1]
    by_cases c2 : a % 2147483648 = 2139095040
    · rw [if_pos c2, if_neg (by omega), if_pos (by omega)]
    · rw [if_neg c2]
      by_cases c3 : a % 2147483648 = 0
      · rw [if_pos c3, if_neg (by omega), if_neg (by omega), if_pos (by omega)]
      · rw [if_neg c3]
        by_cases c4 : a % 2147483648 / 8388608 = 0
        · rw [if_pos c4, if_neg (by omega), if_neg (by omega), if_neg (by omega), if_pos (by omega)]
        · rw [if_neg c4, if_neg (by omega), if_neg (by omega), if_neg (by omega), if_neg (by omega)]
set_option maxHeartbeats 1600000 in
theorem rclass_d (a : Int) (h : Word a) (w : World) : Calls Tryz.prog 85 #[.int .i64 0, .int .u64 a] w fun e w' => e = .returned (.int .i64 (cls false a)) ∧ ∃ n, w' = w.drewN n := by
  have hs := rsize_d
  have hp : ∀ w, Calls Tryz.prog 127 #[.int .i64 0, .int .u64 a] w fun e w' => e = .returned (.tuple #[.int .u64 (xpo false a), .int .u64 (a % 4503599627370496)]) ∧ w' = w.drew := rparts_any false a h
  have h1 := h.1
  have h2 := h.2
  have hv := cls_ref_d a h rfl
  refine Calls.mono (R := fun e w' => e = .returned (.int .i64 (cls false a)) ∧ w' = w.drew) ?_ (fun e w' ⟨a, b⟩ => ⟨a, 1, b⟩)
  generalize cls false a = k at *
  generalize xpo false a = X at *
  generalize a % 4503599627370496 = M at *
  by_cases c1 : X = 2047
  · subst c1
    by_cases c2 : M = 0
    · subst c2
      have V : Hid (4 = k) := by rw [hv]; rfl
      clear hv
      go_enter Tryz.func85, Tryz.ntmps85
      go_wp2_with (first
        | (go_at_call 126; refine (hs _).mono ?_; rintro e w1 ⟨rfl, rfl⟩)
        | (go_at_call 127; refine (hp _).mono ?_; rintro e w1 ⟨rfl, rfl⟩))
      go_ret
      exact ⟨i64_eq V.out, rfl⟩
    · have V : Hid (5 = k) := by rw [hv, if_pos ⟨rfl, c2⟩]; rfl
      clear hv
      go_enter Tryz.func85, Tryz.ntmps85
      go_wp2_with (first
        | (go_at_call 126; refine (hs _).mono ?_; rintro e w1 ⟨rfl, rfl⟩)
        | (go_at_call 127; refine (hp _).mono ?_; rintro e w1 ⟨rfl, rfl⟩))
      go_ret
      exact ⟨i64_eq V.out, rfl⟩
  · by_cases c3 : X = 0
    · subst c3
      by_cases c2 : M = 0
      · subst c2
        have V : Hid (1 = k) := by rw [hv]; rfl
        clear hv
        go_enter Tryz.func85, Tryz.ntmps85
        go_wp2_with (first
          | (go_at_call 126; refine (hs _).mono ?_; rintro e w1 ⟨rfl, rfl⟩)
          | (go_at_call 127; refine (hp _).mono ?_; rintro e w1 ⟨rfl, rfl⟩))
        go_ret
        exact ⟨i64_eq V.out, rfl⟩
      · have V : Hid (2 = k) := by rw [hv, if_neg (by simp), if_neg (by decide), if_neg (fun h => c2 h.2), if_pos rfl]; rfl
        clear hv
        go_enter Tryz.func85, Tryz.ntmps85
        go_wp2_with (first
          | (go_at_call 126; refine (hs _).mono ?_; rintro e w1 ⟨rfl, rfl⟩)
          | (go_at_call 127; refine (hp _).mono ?_; rintro e w1 ⟨rfl, rfl⟩))
        go_ret
        exact ⟨i64_eq V.out, rfl⟩
    · have V : Hid (3 = k) := by rw [hv, if_neg (fun h => c1 h.1), if_neg c1, if_neg (fun h => c3 h.1), if_neg c3]; rfl
      clear hv
      go_enter Tryz.func85, Tryz.ntmps85
      go_wp2_with (first
        | (go_at_call 126; refine (hs _).mono ?_; rintro e w1 ⟨rfl, rfl⟩)
        | (go_at_call 127; refine (hp _).mono ?_; rintro e w1 ⟨rfl, rfl⟩))
      go_ret
      exact ⟨i64_eq V.out, rfl⟩
set_option maxHeartbeats 1600000 in
theorem rclass_s (a : Int) (h : Word a) (w : World) : Calls Tryz.prog 85 #[.int .i64 1, .int .u64 a] w fun e w' => e = .returned (.int .i64 (cls true a)) ∧ ∃ n, w' = w.drewN n := by
  have hs := rsize_s
  have hp : ∀ w, Calls Tryz.prog 127 #[.int .i64 1, .int .u64 a] w fun e w' => e = .returned (.tuple #[.int .u64 (xpo true a), .int .u64 (a % 8388608)]) ∧ w' = w.drew := rparts_any true a h
  have h1 := h.1
  have h2 := h.2
  by_cases hw : 4294967296 ≤ a
  · have v : cls true a = 0 := by unfold cls; rw [show wideB true a = true by unfold wideB; simp; exact hw]; rfl
    rw [v]
    have hw' : (a / 4294967296 != 0) = true := by simp; omega
    refine Calls.mono (R := fun e w' => e = .returned (.int .i64 0) ∧ w' = w) ?_ (fun e w' ⟨a, b⟩ => ⟨a, 0, b⟩)
    go_enter Tryz.func85, Tryz.ntmps85
    go_wp2_with (go_at_call 126; refine (hs _).mono ?_; rintro e w1 ⟨rfl, rfl⟩)
    go_ret
    exact ⟨rfl, rfl⟩
  have hw' : (a / 4294967296 != 0) = false := by simp; omega
  have hv := cls_ref_s a h (by unfold wideB; simp; omega)
  refine Calls.mono (R := fun e w' => e = .returned (.int .i64 (cls true a)) ∧ w' = w.drew) ?_ (fun e w' ⟨a, b⟩ => ⟨a, 1, b⟩)
  generalize cls true a = k at *
  generalize xpo true a = X at *
  generalize a % 8388608 = M at *
  by_cases c1 : X = 255
  · subst c1
    by_cases c2 : M = 0
    · subst c2
      have V : Hid (4 = k) := by rw [hv]; rfl
      clear hv
      go_enter Tryz.func85, Tryz.ntmps85
      go_wp2_with (first
        | (go_at_call 126; refine (hs _).mono ?_; rintro e w1 ⟨rfl, rfl⟩)
        | (go_at_call 127; refine (hp _).mono ?_; rintro e w1 ⟨rfl, rfl⟩))
      go_ret
      exact ⟨i64_eq V.out, rfl⟩
    · have V : Hid (5 = k) := by rw [hv, if_pos ⟨rfl, c2⟩]; rfl
      clear hv
      go_enter Tryz.func85, Tryz.ntmps85
      go_wp2_with (first
        | (go_at_call 126; refine (hs _).mono ?_; rintro e w1 ⟨rfl, rfl⟩)
        | (go_at_call 127; refine (hp _).mono ?_; rintro e w1 ⟨rfl, rfl⟩))
      go_ret
      exact ⟨i64_eq V.out, rfl⟩
  · by_cases c3 : X = 0
    · subst c3
      by_cases c2 : M = 0
      · subst c2
        have V : Hid (1 = k) := by rw [hv]; rfl
        clear hv
        go_enter Tryz.func85, Tryz.ntmps85
        go_wp2_with (first
          | (go_at_call 126; refine (hs _).mono ?_; rintro e w1 ⟨rfl, rfl⟩)
          | (go_at_call 127; refine (hp _).mono ?_; rintro e w1 ⟨rfl, rfl⟩))
        go_ret
        exact ⟨i64_eq V.out, rfl⟩
      · have V : Hid (2 = k) := by rw [hv, if_neg (by simp), if_neg (by decide), if_neg (fun h => c2 h.2), if_pos rfl]; rfl
        clear hv
        go_enter Tryz.func85, Tryz.ntmps85
        go_wp2_with (first
          | (go_at_call 126; refine (hs _).mono ?_; rintro e w1 ⟨rfl, rfl⟩)
          | (go_at_call 127; refine (hp _).mono ?_; rintro e w1 ⟨rfl, rfl⟩))
        go_ret
        exact ⟨i64_eq V.out, rfl⟩
    · have V : Hid (3 = k) := by rw [hv, if_neg (fun h => c1 h.1), if_neg c1, if_neg (fun h => c3 h.1), if_neg c3]; rfl
      clear hv
      go_enter Tryz.func85, Tryz.ntmps85
      go_wp2_with (first
        | (go_at_call 126; refine (hs _).mono ?_; rintro e w1 ⟨rfl, rfl⟩)
        | (go_at_call 127; refine (hp _).mono ?_; rintro e w1 ⟨rfl, rfl⟩))
      go_ret
      exact ⟨i64_eq V.out, rfl⟩
theorem rclass_any (s : Bool) (a : Int) (h : Word a) (w : World) : Calls Tryz.prog 85 #[.int .i64 (fb s), .int .u64 a] w fun e w' => e = .returned (.int .i64 (cls s a)) ∧ ∃ n, w' = w.drewN n := by
  cases s
  · exact rclass_d a h w
  · exact rclass_s a h w
end Go.Proofs.YteafnkimcidkhaaGreat
namespace Go.Proofs.YteafnkimcidkhaaGreat
open Go.RowKit
set_option linter.unusedVariables false
set_option linter.unusedSimpArgs false
theorem rsign_d (w : World) : Calls Tryz.prog 96 #[.int .i64 0, .bool true] w fun e w' => e = .returned (.int .u64 9223372036854775808) ∧ w' = w := by
  have hs := rsize_d
  go_enter Tryz.func96, Tryz.ntmps96
  go_wp2_with (go_at_call 126; refine (hs _).mono ?_; rintro e w1 ⟨rfl, rfl⟩)
  go_ret
  exact ⟨rfl, rfl⟩
theorem rsign0_d (w : World) : Calls Tryz.prog 96 #[.int .i64 0, .bool false] w fun e w' => e = .returned (.int .u64 0) ∧ w' = w := by
  have hs := rsize_d
  go_enter Tryz.func96, Tryz.ntmps96
  go_wp2_with (go_at_call 126; refine (hs _).mono ?_; rintro e w1 ⟨rfl, rfl⟩)
  go_ret
  exact ⟨rfl, rfl⟩
theorem rsign_s (w : World) : Calls Tryz.prog 96 #[.int .i64 1, .bool true] w fun e w' => e = .returned (.int .u64 2147483648) ∧ w' = w := by
  have hs := rsize_s
  go_enter Tryz.func96, Tryz.ntmps96
  go_wp2_with (go_at_call 126; refine (hs _).mono ?_; rintro e w1 ⟨rfl, rfl⟩)
  go_ret
  exact ⟨rfl, rfl⟩
theorem rsign0_s (w : World) : Calls Tryz.prog 96 #[.int .i64 1, .bool false] w fun e w' => e = .returned (.int .u64 0) ∧ w' = w := by
  have hs := rsize_s
  go_enter Tryz.func96, Tryz.ntmps96
  go_wp2_with (go_at_call 126; refine (hs _).mono ?_; rintro e w1 ⟨rfl, rfl⟩)
  go_ret
  exact ⟨rfl, rfl⟩
theorem rsign_any (s b : Bool) (w : World) : Calls Tryz.prog 96 #[.int .i64 (fb s), .bool b] w fun e w' => e = .returned (.int .u64 (if b then fS s else 0)) ∧ w' = w := by
  cases s <;> cases b
  · exact rsign0_d w
  · exact rsign_d w
  · exact rsign0_s w
  · exact rsign_s w
theorem rbelow_any (s : Bool) (a : Int) (w : World) : Calls Tryz.prog 86 #[.int .i64 (fb s), .int .u64 a] w fun e w' => e = .returned (.bool (sgn s a)) ∧ w' = w := by
  have hs := rsign_any s true
  unfold sgn
  rw [if_pos rfl] at hs
  generalize fb s = f at *
  generalize fS s = S at *
  go_enter Tryz.func86, Tryz.ntmps86
  go_wp2_with (go_at_call 96; refine (hs _).mono ?_; rintro e w1 ⟨rfl, rfl⟩)
  go_ret
  exact ⟨rfl, rfl⟩
theorem risNan_any (s : Bool) (a : Int) (h : Word a) (w : World) : Calls Tryz.prog 87 #[.int .i64 (fb s), .int .u64 a] w fun e w' => e = .returned (.bool (cls s a == 0 || cls s a == 5)) ∧ ∃ n, w' = w.drewN n := by
  have hc := rclass_any s a h
  rw [Bool.or_comm]
  generalize cls s a = k at *
  generalize fb s = f at *
  by_cases c1 : k = 5
  · subst c1
    go_enter Tryz.func87, Tryz.ntmps87
    go_wp2_with (go_at_call 85; refine (hc _).mono ?_; rintro e w1 ⟨rfl, n, rfl⟩)
    go_ret
    exact ⟨rfl, n, rfl⟩
  · have d1 : (k == 5) = false := by simp [c1]
    rw [d1, Bool.false_or]
    go_enter Tryz.func87, Tryz.ntmps87
    go_wp2_with (go_at_call 85; refine (hc _).mono ?_; rintro e w1 ⟨rfl, n, rfl⟩)
    all_goals go_ret
    all_goals exact ⟨rfl, n, rfl⟩
theorem rnan_d (w : World) : Calls Tryz.prog 89 #[.int .i64 0] w fun e w' => e = .returned (.int .u64 9221120237041090560) ∧ w' = w.drew := by
  have hs := rsize_d
  have o : bits BinOp.or IntKind.u64 2251799813685248 9218868437227405312 = 9221120237041090560 := by rfl
  go_enter Tryz.func89, Tryz.ntmps89
  go_wp2_with (go_at_call 126; refine (hs _).mono ?_; rintro e w1 ⟨rfl, rfl⟩)
  go_region
  go_wp2_with fail
  go_ret
  exact ⟨rfl, rfl⟩
theorem rnan_s (w : World) : Calls Tryz.prog 89 #[.int .i64 1] w fun e w' => e = .returned (.int .u64 2143289344) ∧ w' = w.drew := by
  have hs := rsize_s
  have o : bits BinOp.or IntKind.u64 4194304 2139095040 = 2143289344 := by rfl
  go_enter Tryz.func89, Tryz.ntmps89
  go_wp2_with (go_at_call 126; refine (hs _).mono ?_; rintro e w1 ⟨rfl, rfl⟩)
  go_region
  go_wp2_with fail
  go_ret
  exact ⟨rfl, rfl⟩
theorem rnan_any (s : Bool) (w : World) : Calls Tryz.prog 89 #[.int .i64 (fb s)] w fun e w' => e = .returned (.int .u64 (fNan s)) ∧ w' = w.drew := by
  cases s
  · exact rnan_d w
  · exact rnan_s w
theorem rneg_any (s : Bool) (a : Int) (h : Word a) (w : World) : Calls Tryz.prog 81 #[.int .i64 (fb s), .int .u64 a] w fun e w' => e = .returned (.int .u64 (negF s a)) ∧ ∃ n, w' = w.drewN n := by
  have hc := risNan_any s a h
  have hn := rnan_any s
  have hs := rsign_any s true
  rw [if_pos rfl] at hs
  unfold negF
  generalize (cls s a == 0 || cls s a == 5) = N at *
  generalize fb s = f at *
  skip
  generalize fS s = S at *
  generalize fNan s = Q at *
  cases N
  · go_enter Tryz.func81, Tryz.ntmps81
    go_wp2_with (first
      | (go_at_call 87; refine (hc _).mono ?_; rintro e w1 ⟨rfl, n, rfl⟩)
      | (go_at_call 96; refine (hs _).mono ?_; rintro e w1 ⟨rfl, rfl⟩))
    go_ret
    exact ⟨rfl, n, rfl⟩
  · go_enter Tryz.func81, Tryz.ntmps81
    go_wp2_with (first
      | (go_at_call 87; refine (hc _).mono ?_; rintro e w1 ⟨rfl, n, rfl⟩)
      | (go_at_call 89; refine (hn _).mono ?_; rintro e w1 ⟨rfl, rfl⟩))
    go_ret
    exact ⟨rfl, _, rfl⟩
end Go.Proofs.YteafnkimcidkhaaGreat
namespace Go.Proofs.YteafnkimcidkhaaGreat
open Go.RowKit
set_option linter.unusedVariables false
set_option linter.unusedSimpArgs false
theorem fb_back (s : Bool) : (fb s == 1) = s := by cases s <;> rfl
/-- Finite, as the reference says it. -/
theorem rfinite_any (s : Bool) (a : Int) (h : Word a) (w : World) : Calls Tryz.prog 44 #[.int .i64 (fb s), .int .u64 a] w fun e w' => e = .returned (.bool (finF s a)) ∧ ∃ n, w' = w.drewN n := by
  have hc := rclass_any s a h
  unfold finF
  generalize cls s a = k at *
  generalize fb s = f at *
  by_cases c1 : k = 1
  · subst c1
    go_enter Tryz.func44, Tryz.ntmps44
    go_wp2_with (go_at_call 85; refine (hc _).mono ?_; rintro e w1 ⟨rfl, n, rfl⟩)
    go_ret
    exact ⟨rfl, n, rfl⟩
  · have d1 : (k == 1) = false := by simp [c1]
    rw [d1, Bool.false_or]
    by_cases c2 : k = 2
    · subst c2
      go_enter Tryz.func44, Tryz.ntmps44
      go_wp2_with (go_at_call 85; refine (hc _).mono ?_; rintro e w1 ⟨rfl, n, rfl⟩)
      go_ret
      exact ⟨rfl, n, rfl⟩
    · have d2 : (k == 2) = false := by simp [c2]
      rw [d2, Bool.false_or]
      go_enter Tryz.func44, Tryz.ntmps44
      go_wp2_with (go_at_call 85; refine (hc _).mono ?_; rintro e w1 ⟨rfl, n, rfl⟩)
      all_goals go_ret
      all_goals exact ⟨rfl, n, rfl⟩
end Go.Proofs.YteafnkimcidkhaaGreat
namespace Go.Proofs.YteafnkimcidkhaaGreat
open Go.RowKit
set_option linter.unusedVariables false
set_option linter.unusedSimpArgs false
/-- A float without its sign. -/
def absF (s : Bool) (a : Int) : Int := if cls s a == 0 || cls s a == 5 then fNan s else zOf s a
theorem rabs_any (s : Bool) (a : Int) (h : Word a) (w : World) : Calls Tryz.prog 80 #[.int .i64 (fb s), .int .u64 a] w fun e w' => e = .returned (.int .u64 (absF s a)) ∧ ∃ n, w' = w.drewN n := by
  have hc := risNan_any s a h
  have hn := rnan_any s
  have hs := rsign_any s true
  rw [if_pos rfl] at hs
  unfold absF
  generalize (cls s a == 0 || cls s a == 5) = N at *
  generalize fb s = f at *
  unfold zOf
  generalize fS s = S at *
  generalize fNan s = Q at *
  cases N
  · go_enter Tryz.func80, Tryz.ntmps80
    go_wp2_with (first
      | (go_at_call 87; refine (hc _).mono ?_; rintro e w1 ⟨rfl, n, rfl⟩)
      | (go_at_call 96; refine (hs _).mono ?_; rintro e w1 ⟨rfl, rfl⟩))
    go_ret
    exact ⟨rfl, n, rfl⟩
  · go_enter Tryz.func80, Tryz.ntmps80
    go_wp2_with (first
      | (go_at_call 87; refine (hc _).mono ?_; rintro e w1 ⟨rfl, n, rfl⟩)
      | (go_at_call 89; refine (hn _).mono ?_; rintro e w1 ⟨rfl, rfl⟩))
    go_ret
    exact ⟨rfl, _, rfl⟩
theorem rmost_d (w : World) : Calls Tryz.prog 129 #[.int .i64 0] w fun e w' => e = .returned (.int .u64 9218868437227405311) ∧ w' = w := by
  have hs := rsize_d
  go_enter Tryz.func129, Tryz.ntmps129
  go_wp2_with (go_at_call 126; refine (hs _).mono ?_; rintro e w1 ⟨rfl, rfl⟩)
  go_ret
  exact ⟨rfl, rfl⟩
theorem rmost_s (w : World) : Calls Tryz.prog 129 #[.int .i64 1] w fun e w' => e = .returned (.int .u64 2139095039) ∧ w' = w := by
  have hs := rsize_s
  go_enter Tryz.func129, Tryz.ntmps129
  go_wp2_with (go_at_call 126; refine (hs _).mono ?_; rintro e w1 ⟨rfl, rfl⟩)
  go_ret
  exact ⟨rfl, rfl⟩
theorem rmost_any (s : Bool) (w : World) : Calls Tryz.prog 129 #[.int .i64 (fb s)] w fun e w' => e = .returned (.int .u64 (fI s - 1)) ∧ w' = w := by
  cases s
  · exact rmost_d w
  · exact rmost_s w
theorem rrank_any (s : Bool) (a : Int) (h : Word a) (hz : zOf s a ≤ 9223372036854775807) (w : World) : Calls Tryz.prog 165 #[.int .i64 (fb s), .int .u64 a] w fun e w' => e = .returned (.int .i64 (rnk s a)) ∧ w' = w := by
  obtain ⟨z0, z1⟩ := zOf_word s a h
  have hs := rsign_any s true
  rw [if_pos rfl] at hs
  have hb := rbelow_any s a
  unfold rnk
  have n1 : bits BinOp.andNot IntKind.u64 a (fS s) = zOf s a := rfl
  generalize zOf s a = z at *
  generalize sgn s a = g at *
  generalize fb s = f at *
  generalize fS s = S at *
  cases g
  · go_enter Tryz.func165, Tryz.ntmps165
    go_wp2_with (first
      | (go_at_call 96; refine (hs _).mono ?_; rintro e w1 ⟨rfl, rfl⟩)
      | (go_at_call 86; refine (hb _).mono ?_; rintro e w1 ⟨rfl, rfl⟩))
    go_ret
    exact ⟨rfl, rfl⟩
  · go_enter Tryz.func165, Tryz.ntmps165
    go_wp2_with (first
      | (go_at_call 96; refine (hs _).mono ?_; rintro e w1 ⟨rfl, rfl⟩)
      | (go_at_call 86; refine (hb _).mono ?_; rintro e w1 ⟨rfl, rfl⟩))
    go_ret
    exact ⟨rfl, rfl⟩
set_option maxHeartbeats 800000 in
theorem rcompare_any (s : Bool) (a b : Int) (h1 : Word a) (h2 : Word b) (w : World) : Calls Tryz.prog 119 #[.int .i64 (fb s), .int .u64 a, .int .u64 b] w fun e w' => e = .returned (.tuple #[.int .i64 (cmpF s a b).1, .bool (cmpF s a b).2]) ∧ ∃ n, w' = w.drewN n := by
  have hn1 := risNan_any s a h1
  have hn2 := risNan_any s b h2
  have ho1 : (cls s a == 0 || cls s a == 5) = false → ∀ w, _ := fun c => rrank_any s a h1 (Int.le_trans (zOf_small s a h1 c) (fI_i64 s))
  have ho2 : (cls s b == 0 || cls s b == 5) = false → ∀ w, _ := fun c => rrank_any s b h2 (Int.le_trans (zOf_small s b h2 c) (fI_i64 s))
  unfold cmpF
  generalize (cls s a == 0 || cls s a == 5) = N1 at *
  generalize (cls s b == 0 || cls s b == 5) = N2 at *
  generalize rnk s a = r1 at *
  generalize rnk s b = r2 at *
  generalize fb s = f at *
  cases N1
  · cases N2
    · have hp1 := ho1 rfl
      have hp2 := ho2 rfl
      clear ho1 ho2
      simp only [Bool.or_false, Bool.false_eq_true, if_false]
      have c : r1 < r2 ∨ (¬ r1 < r2 ∧ r2 < r1) ∨ (¬ r1 < r2 ∧ ¬ r2 < r1) := by omega
      rcases c with c1 | ⟨c1, c2⟩ | ⟨c1, c2⟩
      · go_enter Tryz.func119, Tryz.ntmps119
        go_wp2_with (first
          | (go_at_call_of 87 a; refine (hn1 _).mono ?_; rintro e w1 ⟨rfl, n, rfl⟩)
          | (go_at_call_of 87 b; refine (hn2 _).mono ?_; rintro e w1 ⟨rfl, k, rfl⟩)
          | (go_at_call_of 165 a; refine (hp1 _).mono ?_; rintro e w1 ⟨rfl, rfl⟩)
          | (go_at_call_of 165 b; refine (hp2 _).mono ?_; rintro e w1 ⟨rfl, rfl⟩))
        exact bodyPost_ret (v := .tuple #[.int .i64 (-1), .bool true]) (by simp [results, Tryz.results119, go_sem]) rfl ⟨by simp [c1], _, rfl⟩
      · go_enter Tryz.func119, Tryz.ntmps119
        go_wp2_with (first
          | (go_at_call_of 87 a; refine (hn1 _).mono ?_; rintro e w1 ⟨rfl, n, rfl⟩)
          | (go_at_call_of 87 b; refine (hn2 _).mono ?_; rintro e w1 ⟨rfl, k, rfl⟩)
          | (go_at_call_of 165 a; refine (hp1 _).mono ?_; rintro e w1 ⟨rfl, rfl⟩)
          | (go_at_call_of 165 b; refine (hp2 _).mono ?_; rintro e w1 ⟨rfl, rfl⟩))
        exact bodyPost_ret (v := .tuple #[.int .i64 (1), .bool true]) (by simp [results, Tryz.results119, go_sem]) rfl ⟨by simp [c1, c2], _, rfl⟩
      · go_enter Tryz.func119, Tryz.ntmps119
        go_wp2_with (first
          | (go_at_call_of 87 a; refine (hn1 _).mono ?_; rintro e w1 ⟨rfl, n, rfl⟩)
          | (go_at_call_of 87 b; refine (hn2 _).mono ?_; rintro e w1 ⟨rfl, k, rfl⟩)
          | (go_at_call_of 165 a; refine (hp1 _).mono ?_; rintro e w1 ⟨rfl, rfl⟩)
          | (go_at_call_of 165 b; refine (hp2 _).mono ?_; rintro e w1 ⟨rfl, rfl⟩))
        exact bodyPost_ret (v := .tuple #[.int .i64 (0), .bool true]) (by simp [results, Tryz.results119, go_sem]) rfl ⟨by simp [c1, c2], _, rfl⟩
    · simp only [Bool.or_true, if_true]
      go_enter Tryz.func119, Tryz.ntmps119
      go_wp2_with (first
        | (go_at_call_of 87 a; refine (hn1 _).mono ?_; rintro e w1 ⟨rfl, n, rfl⟩)
        | (go_at_call_of 87 b; refine (hn2 _).mono ?_; rintro e w1 ⟨rfl, k, rfl⟩))
      exact bodyPost_ret (v := .tuple #[.int .i64 0, .bool false]) (by simp [results, Tryz.results119, go_sem]) rfl ⟨rfl, _, rfl⟩
  · simp only [Bool.true_or, if_true]
    go_enter Tryz.func119, Tryz.ntmps119
    go_wp2_with (go_at_call_of 87 a; refine (hn1 _).mono ?_; rintro e w1 ⟨rfl, n, rfl⟩)
    exact bodyPost_ret (v := .tuple #[.int .i64 0, .bool false]) (by simp [results, Tryz.results119, go_sem]) rfl ⟨rfl, _, rfl⟩
theorem abs_fl (f a : Int) (h1 : Word a) (w : World) :
    Calls Tryz.prog 124 #[.int .i64 f, .int .u64 a] w fun r w' => r = .returned (.int .u64 (absF (f == 1) a)) ∧ Below w.heap.size w w' := by
  have hda : ∀ (w : World) (n : Nat) (o : Obj), (w.drewN n).alloc o = (w.alloc o).drewN n := fun _ _ _ => rfl
  have hfo := formatOf_ex f
  generalize (f == 1) = s at *
  have hV : ∃ V, absF s a = V := ⟨_, rfl⟩
  obtain ⟨V, hV⟩ := hV
  rw [hV]
  unfold absF zOf at hV
  have hn1 := noNumber_any (cls s a) (sgn s a) (whl s a) (pwr s a)
  have hnan := nan_ex s
  have hsa := split_ex s a h1
  unfold prt prtO at hn1
  rw [fmtV_eq, fmtO_eq] at hnan
  rw [fmtV_eq] at hfo hsa
  unfold prtV at hsa
  generalize (cls s a == 0 || cls s a == 5) = N1 at *
  generalize cls s a = k1 at *
  generalize sgn s a = g1 at *
  generalize whl s a = u1 at *
  generalize pwr s a = p1 at *
  cases N1
  · simp only [Bool.false_eq_true, if_false] at hV
    subst hV
    go_enter Tryz.func124, Tryz.ntmps124
    go_wp2_with (first
      | (go_at_call 107; refine (hfo _).mono ?_; rintro r w1 ⟨rfl, o1, o2, rfl⟩)
      | (go_at_call 108; refine (hsa _).mono ?_; rintro r w2 ⟨rfl, o3, o4, o5, o6, n1, rfl⟩)
      | (go_at_call 109; refine (hn1 _).mono ?_; rintro r w2 ⟨rfl, rfl⟩))
    go_ret
    exact ⟨rfl, (by repeat (first | with_reducible exact Below.refl _ _ | with_reducible refine below_new ?_ _ | with_reducible refine Below.drew ?_ | with_reducible refine below_dN ?_ _))⟩
  · simp only [if_true] at hV
    subst hV
    go_enter Tryz.func124, Tryz.ntmps124
    go_wp2_with (first
      | (go_at_call 107; refine (hfo _).mono ?_; rintro r w1 ⟨rfl, o1, o2, rfl⟩)
      | (go_at_call 108; refine (hsa _).mono ?_; rintro r w2 ⟨rfl, o3, o4, o5, o6, n1, rfl⟩)
      | (go_at_call 109; refine (hn1 _).mono ?_; rintro r w2 ⟨rfl, rfl⟩)
      | (go_at_call 110; refine (hnan _).mono ?_; rintro r w2 ⟨rfl, rfl⟩))
    go_ret
    exact ⟨rfl, (by repeat (first | with_reducible exact Below.refl _ _ | with_reducible refine below_new ?_ _ | with_reducible refine Below.drew ?_ | with_reducible refine below_dN ?_ _))⟩
theorem most_fl (f : Int) (w : World) : Calls Tryz.prog 131 #[.int .i64 f] w fun r w' => r = .returned (.int .u64 (fI (f == 1) - 1)) ∧ Below w.heap.size w w' := by
  have hfo := formatOf_ex f
  generalize (f == 1) = s at *
  have hm := most_any s
  rw [fmtV_eq] at hfo hm
  go_enter Tryz.func131, Tryz.ntmps131
  go_wp2_with (first
    | (go_at_call 107; refine (hfo _).mono ?_; rintro r w1 ⟨rfl, o1, o2, rfl⟩)
    | (go_at_call 169; refine (hm _).mono ?_; rintro r w2 ⟨rfl, rfl⟩))
  go_ret
  exact ⟨rfl, (by repeat (first | with_reducible exact Below.refl _ _ | with_reducible refine below_new ?_ _ | with_reducible refine Below.drew ?_ | with_reducible refine below_dN ?_ _))⟩
theorem nan_fl (f : Int) (w : World) : Calls Tryz.prog 171 #[.int .i64 f] w fun r w' => r = .returned (.int .u64 (fNan (f == 1))) ∧ Below w.heap.size w w' := by
  have hfo := formatOf_ex f
  generalize (f == 1) = s at *
  have hm := nan_ex s
  rw [fmtV_eq] at hfo hm
  go_enter Tryz.func171, Tryz.ntmps171
  go_wp2_with (first
    | (go_at_call 107; refine (hfo _).mono ?_; rintro r w1 ⟨rfl, o1, o2, rfl⟩)
    | (go_at_call 110; refine (hm _).mono ?_; rintro r w2 ⟨rfl, rfl⟩))
  go_ret
  exact ⟨rfl, (by repeat (first | with_reducible exact Below.refl _ _ | with_reducible refine below_new ?_ _ | with_reducible refine Below.drew ?_ | with_reducible refine below_dN ?_ _))⟩
end Go.Proofs.YteafnkimcidkhaaGreat
namespace Go.Proofs.YteafnkimcidkhaaGreat
open Go.RowKit
set_option linter.unusedVariables false
set_option linter.unusedSimpArgs false
theorem u64r_eq' {a b : Int} (h : a = b) : Ending.returned (Value.int IntKind.u64 a) = .returned (.int .u64 b) := by rw [h]
theorem neg_inf (s : Bool) : negF s (fI s) = sgnd s true (fI s) := by cases s <;> rfl
theorem word_inf (s : Bool) : Word (fI s) := by cases s <;> exact ⟨by decide, by decide⟩
/-- A float of one format as one of another, rounded. -/
def cvtF (s t : Bool) (m a : Int) : Int := if (cls s a == 0 || cls s a == 5) then fNan t else if cls s a == 4 then sgnd t (sgn s a) (fI t) else rnd t m (sgn s a) (whl s a).toNat (pwr s a)
theorem kinds3 (k : Int) : ((k == 0 || k == 5) = true ∧ (k == 4) = false ∧ k = 0) ∨ ((k == 0 || k == 5) = true ∧ (k == 4) = false ∧ k = 5) ∨ ((k == 0 || k == 5) = false ∧ (k == 4) = true ∧ k = 4) ∨ ((k == 0 || k == 5) = false ∧ (k == 4) = false ∧ (k == 0) = false ∧ (k == 5) = false ∧ ¬ k = 4) := by
  by_cases c1 : k = 0
  · subst c1; decide
  · by_cases c2 : k = 5
    · subst c2; decide
    · by_cases c3 : k = 4
      · subst c3; decide
      · simp [c1, c2, c3]
theorem fin_wordC {s : Bool} {u p : Int} (h : Fin s u p) : Word u ∧ u < 9007199254740992 ∧ -1074 ≤ p ∧ p ≤ 2000 := by
  obtain ⟨a, b, c, d, e⟩ := h
  cases s
  · have b' : u < 9007199254740992 := b
    have c' : -1074 ≤ p := c
    exact ⟨⟨a, by omega⟩, b', c', d⟩
  · have b' : u < 16777216 := b
    have c' : -149 ≤ p := c
    exact ⟨⟨a, by omega⟩, by omega, by omega, d⟩
theorem below_callC {w W w1 : World} (h : Below w.heap.size w W) (hb : Below W.heap.size W w1) : Below w.heap.size w w1 := h.trans (hb.mono h.size)
/-- Without the sign of 0. -/
def plainF (s : Bool) (a : Int) : Int := if (cls s a == 0 || cls s a == 5) then fNan s else if cls s a == 1 then 0 else a
theorem kindsP (k : Int) : ((k == 0 || k == 5) = true ∧ (k == 1) = false ∧ k = 0) ∨ ((k == 0 || k == 5) = true ∧ (k == 1) = false ∧ k = 5) ∨ ((k == 0 || k == 5) = false ∧ (k == 1) = true ∧ k = 1) ∨ ((k == 0 || k == 5) = false ∧ (k == 1) = false ∧ (k == 0) = false ∧ (k == 5) = false ∧ ¬ k = 1) := by
  by_cases c1 : k = 0
  · subst c1; decide
  · by_cases c2 : k = 5
    · subst c2; decide
    · by_cases c3 : k = 1
      · subst c3; decide
      · simp [c1, c2, c3]
theorem plain_any (f a : Int) (h : Word a) (w : World) : Calls Tryz.prog 133 #[.int .i64 f, .int .u64 a] w fun e w' => e = .returned (.int .u64 (plainF (f == 1) a)) ∧ Below w.heap.size w w' := by
  have hcl := class_fl f a h
  have hnan := nan_fl f
  have K := kindsP (cls (f == 1) a)
  unfold plainF
  generalize (cls (f == 1) a == 0 || cls (f == 1) a == 5) = N1 at *
  generalize (cls (f == 1) a == 1) = Z1 at *
  generalize cls (f == 1) a = k at *
  generalize fNan (f == 1) = Q at *
  rcases K with ⟨rfl, rfl, rfl⟩ | ⟨rfl, rfl, rfl⟩ | ⟨rfl, rfl, rfl⟩ | ⟨rfl, rfl, k0, k5, k1⟩
  case inr.inr.inr =>
    have k1' : (k == 1) = false := by simp [k1]
    go_enter Tryz.func133, Tryz.ntmps133
    go_wp2_with (go_at_call 170; refine (hcl _).mono ?_; rintro e wc ⟨rfl, hb⟩)
    go_ret
    exact ⟨rfl, hb⟩
  case inr.inr.inl =>
    go_enter Tryz.func133, Tryz.ntmps133
    go_wp2_with (go_at_call 170; refine (hcl _).mono ?_; rintro e wc ⟨rfl, hb⟩)
    go_ret
    exact ⟨rfl, hb⟩
  all_goals
    go_enter Tryz.func133, Tryz.ntmps133
    go_wp2_with (first
      | (go_at_call 170; refine (hcl _).mono ?_; rintro e wc ⟨rfl, hb⟩)
      | (go_at_call 171; refine (hnan _).mono ?_; rintro e wd ⟨rfl, hd⟩))
    go_ret
    exact ⟨rfl, below_callC hb hd⟩
/-- An int as a float. -/
theorem fromInt_any (f m n : Int) (h1 : -9223372036854775808 ≤ n) (h2 : n ≤ 9223372036854775807) (w : World) :
    Calls Tryz.prog 51 #[.int .i64 f, .int .i64 m, .int .i64 n] w fun e w' => e = .returned (.int .u64 (rnd (f == 1) m (decide (n < 0)) n.natAbs 0)) ∧ Below w.heap.size w w' := by
  have hz : ∀ u : Int, 0 ≤ u → nn 0 u = u.toNat := fun u hu => by unfold nn num; congr 1; omega
  have hc0 : clamp 0 = 0 := rfl
  by_cases c : n < 0
  · have wn : Word (-n) := ⟨by omega, by omega⟩
    have hr := round_any f m true 0 (-n) 0 false word_zero wn (by decide) (by decide)
    rw [hc0, hz (-n) (by omega), rndQ_false, show (-n).toNat = n.natAbs by omega] at hr
    rw [decide_eq_true c]
    generalize rnd (f == 1) m true n.natAbs 0 = V at *
    have e1 : IntKind.u64.wrap n = n + 18446744073709551616 := by rw [IntKind.wrap_u64]; omega
    have e2 : IntKind.u64.wrap (-(n + 18446744073709551616)) = -n := by rw [IntKind.wrap_u64]; omega
    go_enter Tryz.func51, Tryz.ntmps51
    go_wp2_with (go_at_call 102; refine (hr _).mono ?_; rintro e wd ⟨rfl, hd⟩)
    go_ret
    exact ⟨rfl, hd⟩
  · have wn : Word n := ⟨by omega, by omega⟩
    have hr := round_any f m false 0 n 0 false word_zero wn (by decide) (by decide)
    rw [hc0, hz n (by omega), rndQ_false, show n.toNat = n.natAbs by omega] at hr
    rw [decide_eq_false c]
    generalize rnd (f == 1) m false n.natAbs 0 = V at *
    have c' : 0 ≤ n := by omega
    have e1 : IntKind.u64.wrap n = n := by rw [IntKind.wrap_u64]; omega
    go_enter Tryz.func51, Tryz.ntmps51
    go_wp2_with (go_at_call 102; refine (hr _).mono ?_; rintro e wd ⟨rfl, hd⟩)
    go_ret
    exact ⟨rfl, hd⟩
end Go.Proofs.YteafnkimcidkhaaGreat
namespace Go.Proofs.YteafnkimcidkhaaGreat
open Go.RowKit
set_option linter.unusedVariables false
set_option linter.unusedSimpArgs false
/-- The next finite float above. -/
def nextF (s : Bool) (a : Int) : Int := if finF s a then (if a = fI s - 1 then a else if zOf s a = 0 then 1 else if sgn s a then plainF s (a - 1) else a + 1) else fNan s
/-- The next finite float below. -/
def prevF (s : Bool) (a : Int) : Int := plainF s (negF s (nextF s (negF s a)))
theorem n_num {s : Bool} {a : Int} (h : finF s a = true) : (cls s a == 0 || cls s a == 5) = false ∧ (cls s a == 4) = false := by
  unfold finF at h
  generalize cls s a = k at *
  simp at h
  rcases h with (rfl | rfl) | rfl <;> decide
theorem n_fin (s b : Bool) (z : Nat) (h : (z : Int) < fI s) : finF s (sgnd s b z) = true := by
  have l := fI_lt s
  unfold finF
  rw [cls_made s b z (by omega) (by omega)]
  have n1 : ¬ fI s < (z : Int) := by omega
  have n2 : ¬ (z : Int) = fI s := by omega
  rw [if_neg n1, if_neg n2]
  split
  · rfl
  · split <;> rfl
theorem n_made (s : Bool) (a : Int) (h : Word a) (f : finF s a = true) : ∃ (b : Bool) (z : Nat), a = sgnd s b z ∧ (z : Int) < fI s := by
  obtain ⟨f1, f2⟩ := n_num f
  rcases num_or s a h with c | ⟨b, z', rfl, z0, z1⟩
  · rw [f1] at c; exact absurd c (by decide)
  · obtain ⟨z, rfl⟩ := Int.eq_ofNat_of_zero_le z0
    refine ⟨b, z, rfl, ?_⟩
    by_cases c : (z : Int) = fI s
    · have l := fI_lt s
      rw [cls_made s b z (by omega) (by omega), if_neg (by omega), if_pos c] at f2
      exact absurd f2 (by decide)
    · omega
theorem n_plain (s b : Bool) (z : Nat) (h : (z : Int) < fI s) : plainF s (sgnd s b z) = if z = 0 then 0 else sgnd s b z := by
  have l := fI_lt s
  have f := (n_num (n_fin s b z h)).1
  unfold plainF
  rw [f, cls_made s b z (by omega) (by omega)]
  have n1 : ¬ fI s < (z : Int) := by omega
  have n2 : ¬ (z : Int) = fI s := by omega
  rw [if_neg n1, if_neg n2]
  simp only [Bool.false_eq_true, if_false]
  by_cases c : z = 0
  · subst c
    rfl
  · have zi : ¬ (z : Int) = 0 := by omega
    rw [if_neg zi, if_neg c]
    by_cases q : (z : Int) / 2 ^ fP s = 0
    · rw [if_pos q]; rfl
    · rw [if_neg q]; rfl
theorem n_word (s b : Bool) (z : Nat) (h : (z : Int) < fI s) : Word (sgnd s b z) := (made s b z (by omega) (by have := fI_lt s; omega)).1
theorem n_pos (s : Bool) (z : Nat) (h : (z : Int) < fI s) : nextF s (z : Int) = if (z : Int) = fI s - 1 then (z : Int) else (z : Int) + 1 := by
  have l := fI_lt s
  have e : sgnd s false (z : Int) = z := rfl
  obtain ⟨_, _, m3, m4⟩ := made s false z (by omega) (by omega)
  have f := n_fin s false z h
  rw [e] at m3 m4 f
  unfold nextF
  rw [f, m3, m4]
  simp only [if_true, Bool.false_eq_true, if_false]
  by_cases c : (z : Int) = fI s - 1
  · rw [if_pos c, if_pos c]
  · rw [if_neg c, if_neg c]
    by_cases c0 : (z : Int) = 0
    · rw [if_pos c0, c0]; rfl
    · rw [if_neg c0]
theorem n_neg0 (s : Bool) : nextF s (sgnd s true 0) = 1 := by cases s <;> decide +kernel
theorem n_neg (s : Bool) (z : Nat) (h0 : z ≠ 0) (h : (z : Int) < fI s) : nextF s (sgnd s true z) = if z = 1 then 0 else sgnd s true ((z - 1 : Nat) : Int) := by
  have l := fI_lt s
  obtain ⟨_, _, m3, m4⟩ := made s true z (by omega) (by omega)
  have f := n_fin s true z h
  unfold nextF
  rw [f, m3, m4]
  simp only [if_true]
  have ne : ¬ sgnd s true (z : Int) = fI s - 1 := by unfold sgnd; simp only [if_true]; omega
  rw [if_neg ne, if_neg (show ¬ (z : Int) = 0 by omega)]
  have e : sgnd s true (z : Int) - 1 = sgnd s true ((z - 1 : Nat) : Int) := by unfold sgnd; simp only [if_true]; omega
  rw [e, n_plain s true (z - 1) (by omega)]
  by_cases c : z = 1
  · rw [if_pos c, if_pos (by omega)]
  · rw [if_neg c, if_neg (by omega)]
theorem n_rnk (s b : Bool) (z : Nat) (h : (z : Int) < fI s) : rnk s (sgnd s b z) = if b then -(z : Int) else z := by
  have l := fI_lt s
  obtain ⟨_, _, m3, m4⟩ := made s b z (by omega) (by omega)
  unfold rnk
  rw [m3, m4]
/-- What is next: finite, one place above, and Prev leads back. -/
structure NextIs (s : Bool) (a n : Int) : Prop where
  wa : Word a
  wn : Word n
  fa : finF s a = true
  fn : finF s n = true
  back : prevF s n = a
  one : rnk s n = rnk s a + 1
theorem n_step (s : Bool) (a : Int) (h : Word a) (f : finF s a = true) (ne : plainF s a ≠ fI s - 1) : NextIs s (plainF s a) (nextF s (plainF s a)) := by
  obtain ⟨b, z, rfl, hz⟩ := n_made s a h f
  have l := fI_lt s
  have lp : 1 < fI s := by cases s <;> decide
  rw [n_plain s b z hz] at ne ⊢
  by_cases c : b = true ∧ z ≠ 0
  · obtain ⟨rfl, z0⟩ := c
    rw [if_neg z0] at ne ⊢
    have e1 := n_neg s z z0 hz
    by_cases z1 : z = 1
    · subst z1
      rw [if_pos rfl] at e1
      rw [e1]
      have w0 : Word 0 := ⟨by decide, by decide⟩
      have ez : sgnd s false ((0 : Nat) : Int) = 0 := rfl
      refine ⟨n_word s true 1 hz, w0, f, n_fin s false 0 (by omega), ?_, ?_⟩
      · unfold prevF
        have g0 : negF s 0 = sgnd s true 0 := neg_made s false 0 (by omega) (by omega)
        have g1 : negF s 1 = sgnd s true ((1 : Nat) : Int) := neg_made s false 1 (by omega) (by omega)
        rw [g0, n_neg0, g1, n_plain s true 1 hz, if_neg (by decide)]
      · rw [n_rnk s true 1 hz, show (0 : Int) = sgnd s false ((0 : Nat) : Int) from rfl, n_rnk s false 0 (by omega)]
        rfl
    · rw [if_neg z1] at e1
      rw [e1]
      have hz' : ((z - 1 : Nat) : Int) < fI s := by omega
      refine ⟨n_word s true z hz, n_word s true _ hz', f, n_fin s true _ hz', ?_, ?_⟩
      · unfold prevF
        rw [neg_made s true ((z - 1 : Nat) : Int) (by omega) (by omega)]
        have e2 : nextF s (sgnd s (!true) ((z - 1 : Nat) : Int)) = (z : Int) := by
          have t := n_pos s (z - 1) hz'
          rw [if_neg (by omega)] at t
          refine t.trans ?_
          omega
        rw [e2]
        have g1 : negF s (z : Int) = sgnd s true (z : Int) := neg_made s false z (by omega) (by omega)
        rw [g1, n_plain s true z hz, if_neg z0]
      · rw [n_rnk s true z hz, n_rnk s true (z - 1) hz']
        simp only [if_true]
        omega
  · have ea : (if z = 0 then 0 else sgnd s b (z : Int)) = (z : Int) := by
      by_cases z0 : z = 0
      · rw [if_pos z0, z0]; rfl
      · rw [if_neg z0]
        cases b
        · rfl
        · exact absurd ⟨rfl, z0⟩ c
    rw [ea] at ne ⊢
    have e1 := n_pos s z hz
    rw [if_neg ne] at e1
    have hz' : ((z + 1 : Nat) : Int) < fI s := by omega
    have e1' : nextF s (z : Int) = ((z + 1 : Nat) : Int) := by rw [e1]; omega
    rw [e1']
    refine ⟨n_word s false z hz, n_word s false (z + 1) hz', n_fin s false z hz, n_fin s false (z + 1) hz', ?_, ?_⟩
    · unfold prevF
      have g1 : negF s ((z + 1 : Nat) : Int) = sgnd s true ((z + 1 : Nat) : Int) := neg_made s false ((z + 1 : Nat) : Int) (by omega) (by omega)
      rw [g1, n_neg s (z + 1) (by omega) hz']
      by_cases z0 : z = 0
      · subst z0
        rw [if_pos rfl]
        have g0 : negF s 0 = sgnd s true ((0 : Nat) : Int) := neg_made s false 0 (by omega) (by omega)
        rw [g0, n_plain s true 0 hz, if_pos rfl]
        rfl
      · rw [if_neg (by omega), Nat.add_sub_cancel, neg_made s true (z : Int) (by omega) (by omega)]
        have t := n_plain s false z hz
        rw [if_neg z0] at t
        exact t
    · have r1 := n_rnk s false z hz
      have r2 := n_rnk s false (z + 1) hz'
      have r1' : rnk s (z : Int) = z := r1
      have r2' : rnk s ((z + 1 : Nat) : Int) = ((z + 1 : Nat) : Int) := r2
      rw [r1', r2']
      omega
theorem n_top (s : Bool) : nextF s (fI s - 1) = fI s - 1 := by cases s <;> decide +kernel
theorem n_plainw (s : Bool) (a : Int) (h : Word a) : Word (plainF s a) := by
  unfold plainF
  split
  · cases s <;> exact ⟨by decide, by decide⟩
  · split
    · exact ⟨by decide, by decide⟩
    · exact h
theorem n_nextw (s : Bool) (a : Int) (h : Word a) : Word (nextF s a) := by
  unfold nextF
  split
  · rename_i f
    obtain ⟨b, z, rfl, hz⟩ := n_made s a h f
    have l := fI_lt s
    have fs : fS s ≤ 9223372036854775808 := by cases s <;> decide
    split
    · exact h
    · split
      · exact ⟨by decide, by decide⟩
      · split
        · rename_i q
          refine n_plainw s _ ?_
          have sg := (made s b z (by omega) (by omega)).2.2.2
          rw [sg] at q
          subst q
          have h2 := h.2
          have h1 := h.1
          unfold sgnd at *
          simp only [if_true] at *
          have : 0 < fS s := by cases s <;> decide
          exact ⟨by omega, by omega⟩
        · rename_i q
          have sg := (made s b z (by omega) (by omega)).2.2.2
          rw [sg] at q
          have : b = false := by simpa using q
          subst this
          have e : sgnd s false (z : Int) = z := rfl
          rw [e] at *
          exact ⟨by omega, by omega⟩
  · cases s <;> exact ⟨by decide, by decide⟩
theorem n_nan (s : Bool) : finF s (fNan s) = false ∧ negF s (fNan s) = fNan s ∧ plainF s (fNan s) = fNan s := by cases s <;> decide +kernel
theorem n_off (s : Bool) (a : Int) (h : Word a) (f : finF s a = false) : nextF s a = fNan s ∧ prevF s a = fNan s := by
  have e : nextF s a = fNan s := by unfold nextF; rw [f]; rfl
  refine ⟨e, ?_⟩
  have g : nextF s (negF s a) = fNan s := by
    rcases num_or s a h with c | ⟨b, z, rfl, z0, z1⟩
    · have : negF s a = fNan s := by unfold negF; rw [c]; rfl
      rw [this]
      unfold nextF
      rw [(n_nan s).1]
      rfl
    · obtain ⟨y, rfl⟩ := Int.eq_ofNat_of_zero_le z0
      have c : (y : Int) = fI s := by
        by_cases c : (y : Int) < fI s
        · rw [n_fin s b y c] at f; exact absurd f (by decide)
        · omega
      rw [neg_made s b y z0 z1]
      have l := fI_lt s
      have k : cls s (sgnd s (!b) y) = 4 := by rw [cls_made s (!b) y z0 (by omega), if_neg (by omega), if_pos c]
      unfold nextF finF
      rw [k]
      rfl
  unfold prevF
  rw [g, (n_nan s).2.1, (n_nan s).2.2]
set_option maxHeartbeats 3200000 in
theorem next_any (f a : Int) (h : Word a) (w : World) :
    Calls Tryz.prog 139 #[.int .i64 f, .int .u64 a] w fun e w' => e = .returned (.int .u64 (nextF (f == 1) a)) ∧ Below w.heap.size w w' := by
  have hsh := shapeOf_ex f
  have hsg := csign_ex (f == 1)
  have hfi := finite_fl f a h
  have hmo := most_fl f
  have hna := nan_fl f
  have hpl := fun (h1 : 1 ≤ a) => plain_any f (a - 1) ⟨by omega, by have := h.2; omega⟩
  have hm := n_made (f == 1) a h
  have a0 := h.1
  have a1 := h.2
  generalize (f == 1) = s at *
  unfold nextF
  obtain ⟨Z, hZ⟩ : ∃ Z, zOf s a = Z := ⟨_, rfl⟩
  have hZ' : bits BinOp.andNot IntKind.u64 a (fS s) = Z := hZ
  obtain ⟨S2, hS2⟩ : ∃ S2, bits BinOp.and IntKind.u64 a (fS s) = S2 := ⟨_, rfl⟩
  have hS : sgn s a = (S2 != 0) := by unfold sgn; rw [hS2]
  have B : finF s a = true → ((S2 != 0) = true → 1 ≤ a) ∧ ((S2 != 0) = false → a + 1 < 18446744073709551616) := fun f => by
    obtain ⟨b, z, e, hz⟩ := hm f
    have l := fI_lt s
    have sg := (made s b z (by omega) (by omega)).2.2.2
    rw [← e, hS] at sg
    have fp : 0 < fS s := by cases s <;> decide
    have fq : fI s ≤ 9223372036854775808 := by cases s <;> decide
    refine ⟨fun q => ?_, fun q => ?_⟩
    · rw [q] at sg
      subst sg
      rw [e]
      unfold sgnd
      simp only [if_true]
      omega
    · rw [q] at sg
      subst sg
      have e' : a = z := e
      omega
  rw [hZ, hS]
  clear hm hS hZ
  generalize fS s = F at *
  generalize shpV s = V at *
  generalize shpO s = O at *
  generalize fNan s = Q at *
  cases c : finF s a
  · rw [c] at hfi
    simp only [Bool.false_eq_true, if_false]
    clear B hpl
    go_enter Tryz.func139, Tryz.ntmps139
    go_wp2_with (first
      | (go_at_call 172; refine (hsh _).mono ?_; rintro e w1 ⟨rfl, o1, rfl⟩)
      | (go_at_call 173; refine (hsg _).mono ?_; rintro e w1 ⟨rfl, rfl⟩)
      | (go_at_call 135; refine (hfi _).mono ?_; rintro e w2 ⟨rfl, b2⟩)
      | (go_at_call 171; refine (hna _).mono ?_; rintro e w3 ⟨rfl, b3⟩))
    go_ret
    exact ⟨rfl, below_callC (below_callC (below_two w _ _) b2) b3⟩
  · rw [c] at hfi
    obtain ⟨B1, B2⟩ := B c
    simp only [if_true]
    clear c
    by_cases c1 : a = fI s - 1
    · rw [if_pos c1]
      rw [← c1] at hmo
      clear B1 B2 hpl c1
      go_enter Tryz.func139, Tryz.ntmps139
      go_wp2_with (first
        | (go_at_call 172; refine (hsh _).mono ?_; rintro e w1 ⟨rfl, o1, rfl⟩)
        | (go_at_call 173; refine (hsg _).mono ?_; rintro e w1 ⟨rfl, rfl⟩)
        | (go_at_call 135; refine (hfi _).mono ?_; rintro e w2 ⟨rfl, b2⟩)
        | (go_at_call 131; refine (hmo _).mono ?_; rintro e w3 ⟨rfl, b3⟩))
      go_ret
      exact ⟨rfl, below_callC (below_callC (below_two w _ _) b2) b3⟩
    · rw [if_neg c1]
      generalize fI s - 1 = M at *
      have c1' : (a == M) = false := by simp [c1]
      by_cases c2 : Z = 0
      · rw [if_pos c2]
        subst c2
        clear B1 B2 hpl
        go_enter Tryz.func139, Tryz.ntmps139
        go_wp2_with (first
          | (go_at_call 172; refine (hsh _).mono ?_; rintro e w1 ⟨rfl, o1, rfl⟩)
          | (go_at_call 173; refine (hsg _).mono ?_; rintro e w1 ⟨rfl, rfl⟩)
          | (go_at_call 135; refine (hfi _).mono ?_; rintro e w2 ⟨rfl, b2⟩)
          | (go_at_call 131; refine (hmo _).mono ?_; rintro e w3 ⟨rfl, b3⟩))
        go_ret
        exact ⟨rfl, below_callC (below_callC (below_two w _ _) b2) b3⟩
      · rw [if_neg c2]
        have c2' : (Z == 0) = false := by simp [c2]
        by_cases c3 : S2 = 0
        · subst c3
          have a2 := B2 rfl
          have e1 : IntKind.u64.wrap (a + 1) = a + 1 := by rw [IntKind.wrap_u64]; omega
          rw [if_neg (by decide)]
          clear B1 B2 hpl
          go_enter Tryz.func139, Tryz.ntmps139
          go_wp2_with (first
            | (go_at_call 172; refine (hsh _).mono ?_; rintro e w1 ⟨rfl, o1, rfl⟩)
            | (go_at_call 173; refine (hsg _).mono ?_; rintro e w1 ⟨rfl, rfl⟩)
            | (go_at_call 135; refine (hfi _).mono ?_; rintro e w2 ⟨rfl, b2⟩)
            | (go_at_call 131; refine (hmo _).mono ?_; rintro e w3 ⟨rfl, b3⟩))
          go_ret
          exact ⟨rfl, below_callC (below_callC (below_two w _ _) b2) b3⟩
        · have c3' : (S2 == 0) = false := by simp [c3]
          have c3'' : (S2 != 0) = true := by simp [c3]
          have a2 := B1 c3''
          rw [if_pos c3'']
          have hp := hpl a2
          clear B1 B2 hpl
          go_enter Tryz.func139, Tryz.ntmps139
          go_wp2_with (first
            | (go_at_call 172; refine (hsh _).mono ?_; rintro e w1 ⟨rfl, o1, rfl⟩)
            | (go_at_call 173; refine (hsg _).mono ?_; rintro e w1 ⟨rfl, rfl⟩)
            | (go_at_call 135; refine (hfi _).mono ?_; rintro e w2 ⟨rfl, b2⟩)
            | (go_at_call 131; refine (hmo _).mono ?_; rintro e w3 ⟨rfl, b3⟩)
            | (go_at_call 133; refine (hp _).mono ?_; rintro e w4 ⟨rfl, b4⟩))
          go_ret
          exact ⟨rfl, below_callC (below_callC (below_callC (below_two w _ _) b2) b3) b4⟩
theorem prev_any (f a : Int) (h : Word a) (w : World) :
    Calls Tryz.prog 137 #[.int .i64 f, .int .u64 a] w fun e w' => e = .returned (.int .u64 (prevF (f == 1) a)) ∧ Below w.heap.size w w' := by
  have h1 := negF_word (f == 1) a h
  have h2 := n_nextw (f == 1) _ h1
  have h3 := negF_word (f == 1) _ h2
  have p1 := neg_fl f a h
  have p2 := next_any f _ h1
  have p3 := neg_fl f _ h2
  have p4 := plain_any f _ h3
  unfold prevF
  generalize plainF (f == 1) (negF (f == 1) (nextF (f == 1) (negF (f == 1) a))) = A4 at *
  generalize negF (f == 1) (nextF (f == 1) (negF (f == 1) a)) = A3 at *
  generalize nextF (f == 1) (negF (f == 1) a) = A2 at *
  generalize negF (f == 1) a = A1 at *
  go_enter Tryz.func137, Tryz.ntmps137
  go_wp2_with fail
  refine (p1 _).mono ?_
  rintro e w1 ⟨rfl, b1⟩
  go_wp2_with fail
  refine (p2 _).mono ?_
  rintro e w2 ⟨rfl, b2⟩
  go_wp2_with fail
  refine (p3 _).mono ?_
  rintro e w3 ⟨rfl, b3⟩
  go_wp2_with fail
  refine (p4 _).mono ?_
  rintro e w4 ⟨rfl, b4⟩
  go_wp2_with fail
  go_ret
  exact ⟨rfl, below_callC (below_callC (below_callC b1 b2) b3) b4⟩
end Go.Proofs.YteafnkimcidkhaaGreat
namespace Go.Proofs.YteafnkimcidkhaaGreat
open Go.RowKit
set_option linter.unusedVariables false
set_option linter.unusedSimpArgs false
/-- The parts of a size: what it is worth is kept. -/
theorem size_parts (s b : Bool) (z : Nat) (h : (z : Int) < fI s) : ∃ x q : Nat, z = x * 2 ^ fP s + q ∧ q < 2 ^ (fP s + 1) ∧ (x = 0 ∨ 2 ^ fP s ≤ q) ∧ (whl s (sgnd s b z)).toNat = q ∧ pwr s (sgnd s b z) = fL s + x := by
  obtain ⟨e1, e2⟩ := whl_made s b z (by omega) (by have := fI_lt s; omega)
  have hp := Nat.two_pow_pos (fP s)
  have dm := Nat.div_add_mod z (2 ^ fP s)
  have lt := Nat.mod_lt z hp
  rw [e1, e2, pow_cast, ← Int.natCast_ediv, ← Int.natCast_emod]
  rw [Nat.pow_succ]
  generalize 2 ^ fP s = Q at *
  by_cases c : z < Q
  · have d : z / Q = 0 := Nat.div_eq_of_lt c
    have m : z % Q = z := Nat.mod_eq_of_lt c
    rw [d, m]
    refine ⟨0, z, by omega, by omega, Or.inl rfl, ?_, ?_⟩
    · rw [if_neg (by decide)]; omega
    · rw [if_neg (by decide)]; omega
  · have d : 0 < z / Q := Nat.div_pos (by omega) hp
    rw [if_pos (by omega), if_pos (by omega)]
    refine ⟨z / Q - 1, z % Q + Q, ?_, by omega, Or.inr (by omega), by omega, by omega⟩
    have : z / Q * Q = (z / Q - 1) * Q + Q := by rw [← Nat.succ_mul]; congr 1; omega
    rw [Nat.mul_comm] at dm
    omega
/-- Rounded, a float stays itself. -/
theorem rnd_self (s : Bool) (m : Int) (b : Bool) (z : Nat) (z0 : z ≠ 0) (h : (z : Int) < fI s) (k : Nat) :
    rnd s m b ((whl s (sgnd s b z)).toNat * 2 ^ k) (pwr s (sgnd s b z) - k) = sgnd s b z := by
  rw [rnd_scale]
  obtain ⟨x, q, e, h1, h2, w, p⟩ := size_parts s b z h
  rw [w, p]
  have q0 : q ≠ 0 := by
    intro c
    subst c
    rcases h2 with c | c
    · subst c; simp at e; exact z0 e
    · have := Nat.two_pow_pos (fP s); omega
  unfold rnd
  rw [if_neg q0, mag_exact s m b x q q0 h1 h2 (by rw [← e]; exact h), ← e]
/-- A finite float that is not 0. -/
theorem fin_size (s : Bool) (a : Int) (h : Word a) (c0 : (cls s a == 0 || cls s a == 5) = false) (c4 : (cls s a == 4) = false) (c1 : (cls s a == 1) = false) : ∃ (b : Bool) (z : Nat), a = sgnd s b z ∧ z ≠ 0 ∧ (z : Int) < fI s := by
  rcases num_or s a h with c | ⟨b, z, rfl, z0, z1⟩
  · rw [c] at c0; exact absurd c0 (by decide)
  · have l := fI_lt s
    have e := cls_made s b z z0 (by omega)
    obtain ⟨n, rfl⟩ := Int.eq_ofNat_of_zero_le z0
    refine ⟨b, n, rfl, ?_, ?_⟩
    · intro t
      subst t
      have i : ¬ ((0 : Nat) : Int) = fI s := by cases s <;> decide
      rw [if_neg (by omega), if_neg i, if_pos (show ((0 : Nat) : Int) = 0 from rfl)] at e
      rw [e] at c1; exact absurd c1 (by decide)
    · have : ¬ (n : Int) = fI s := by
        intro t
        rw [if_neg (by omega), if_pos t] at e
        rw [e] at c4; exact absurd c4 (by decide)
      omega
/-- The float 1. -/
def unit (s : Bool) : Int := if s then 1065353216 else 4607182418800017408
theorem unit_parts (s : Bool) : cls s (unit s) = 3 ∧ sgn s (unit s) = false ∧ whl s (unit s) = 2 ^ fP s ∧ pwr s (unit s) = -(fP s : Int) := by
  cases s
  · exact ⟨by decide +kernel, by decide +kernel, by decide +kernel, by decide +kernel⟩
  · exact ⟨by decide +kernel, by decide +kernel, by decide +kernel, by decide +kernel⟩
theorem zero_parts (s : Bool) : cls s 0 = 1 ∧ sgn s 0 = false ∧ whl s 0 = 0 ∧ pwr s 0 = fL s := by
  cases s
  · exact ⟨by decide +kernel, by decide +kernel, by decide +kernel, by decide +kernel⟩
  · exact ⟨by decide +kernel, by decide +kernel, by decide +kernel, by decide +kernel⟩
theorem neg_zero (s : Bool) : negF s 0 = sgnd s true 0 := by
  have := neg_made s false 0 (Int.le_refl _) (fI_pos s)
  simpa [sgnd] using this
theorem unit_rnd (s : Bool) (m : Int) : rnd s m false 1 0 = unit s := by
  have h : unit s = ((((fP s + (-(fL s)).toNat - fP s - fP s : Nat) * 2 ^ fP s + 2 ^ fP s : Nat)) : Int) := by cases s <;> decide +kernel
  have e := rnd_scale s m false 1 (fP s) 0
  rw [← e, Nat.one_mul]
  unfold rnd
  have p := Nat.two_pow_pos (fP s)
  rw [if_neg (by omega)]
  have t := mag_exact s m false (fP s + (-(fL s)).toNat - fP s - fP s) (2 ^ fP s) (by omega) (by rw [Nat.pow_succ]; omega) (Or.inr (Nat.le_refl _)) (by cases s <;> decide +kernel)
  have k : (0 : Int) - (fP s : Int) = fL s + ((fP s + (-(fL s)).toNat - fP s - fP s : Nat) : Int) := by cases s <;> decide
  rw [k, t, h]
  rfl
theorem self_sgn (s b : Bool) (z : Nat) (h : (z : Int) < fI s) : sgn s (sgnd s b z) = b := (made s b z (by omega) (by have := fI_lt s; omega)).2.2.2
theorem self_cls (s b : Bool) (z : Nat) (z0 : z ≠ 0) (h : (z : Int) < fI s) : (cls s (sgnd s b z) == 0 || cls s (sgnd s b z) == 5) = false ∧ (cls s (sgnd s b z) == 4) = false ∧ (cls s (sgnd s b z) == 1) = false := by
  have l := fI_lt s
  have e := cls_made s b z (by omega) (by omega)
  rw [if_neg (by omega), if_neg (by omega), if_neg (by omega)] at e
  rw [e]
  split <;> exact ⟨rfl, rfl, rfl⟩
theorem self_mul (s : Bool) (m : Int) (b : Bool) (z : Nat) (z0 : z ≠ 0) (h : (z : Int) < fI s) : mulF s m (sgnd s b z) (unit s) = sgnd s b z := by
  obtain ⟨u1, u2, u3, u4⟩ := unit_parts s
  obtain ⟨c1, c2, c3⟩ := self_cls s b z z0 h
  unfold mulF
  rw [c1, c2, c3, u1, u2, u3, u4, self_sgn s b z h]
  have t := rnd_self s m b z z0 h (fP s)
  have q : ((2 : Int) ^ fP s).toNat = 2 ^ fP s := by rw [pow_cast]; rfl
  rw [q, show pwr s (sgnd s b z) + -(fP s : Int) = pwr s (sgnd s b z) - (fP s : Int) by omega]
  have e : (b != false) = b := by cases b <;> rfl
  rw [e]
  simpa using t
theorem self_add (s : Bool) (m : Int) (b : Bool) (z : Nat) (z0 : z ≠ 0) (h : (z : Int) < fI s) : addF s m (sgnd s b z) 0 = sgnd s b z := by
  obtain ⟨u1, u2, u3, u4⟩ := zero_parts s
  obtain ⟨c1, c2, c3⟩ := self_cls s b z z0 h
  obtain ⟨x, q, e, h1, h2, w, p⟩ := size_parts s b z h
  have t := rnd_self s m b z z0 h x
  unfold addF
  rw [c1, c2, u1, u2, u3, u4, self_sgn s b z h]
  have r1 : ((1 : Int) == 0 || (1 : Int) == 5) = false := rfl
  have r2 : ((1 : Int) == 4) = false := rfl
  rw [r1, r2]
  simp only [Bool.or_false, Bool.false_eq_true, if_false, Bool.false_and]
  rw [w, p] at t ⊢
  unfold sumT
  have q0 : q ≠ 0 := by
    intro c
    subst c
    rcases h2 with c | c
    · subst c; simp at e; exact z0 e
    · have := Nat.two_pow_pos (fP s); omega
  have xp := Nat.two_pow_pos x
  have qx : q * 2 ^ x ≠ 0 := Nat.mul_ne_zero q0 (by omega)
  rw [show min (fL s + (x : Int)) (fL s) = fL s by omega, show (fL s + (x : Int) - fL s).toNat = x by omega, show (0 : Int).toNat = 0 by rfl, Nat.zero_mul, Nat.add_zero, Nat.sub_zero]
  rw [show fL s + (x : Int) - x = fL s by omega] at t
  by_cases c : b = false
  · rw [if_pos c]; exact t
  · rw [if_neg c, if_neg qx, if_pos (by omega)]; exact t
theorem self_sub (s : Bool) (m : Int) (b : Bool) (z : Nat) (z0 : z ≠ 0) (h : (z : Int) < fI s) : subF s m (sgnd s b z) (sgnd s b z) = sgnd s (m == 2) 0 := by
  obtain ⟨c1, c2, c3⟩ := self_cls s b z z0 h
  obtain ⟨p1, p2, p3, p4⟩ := neg_parts s b z (by omega) (by omega)
  unfold subF addF
  rw [p1, p2, p3, p4, c1, c2]
  simp only [Bool.or_false, Bool.false_eq_true, if_false, Bool.false_and]
  unfold sumT
  rw [if_neg (by cases sgn s (sgnd s b z) <;> simp), if_pos rfl]
theorem self_div (s : Bool) (m : Int) (b : Bool) (z : Nat) (z0 : z ≠ 0) (h : (z : Int) < fI s) : divF s m (sgnd s b z) (sgnd s b z) = unit s := by
  obtain ⟨c1, c2, c3⟩ := self_cls s b z z0 h
  unfold divF
  rw [c1, c2, c3]
  simp only [Bool.or_false, Bool.false_eq_true, if_false, Bool.false_and]
  have e : (sgn s (sgnd s b z) != sgn s (sgnd s b z)) = false := by simp
  rw [e]
  obtain ⟨x, q, e', h1, h2, w, p⟩ := size_parts s b z h
  have q0 : q ≠ 0 := by
    intro c
    subst c
    rcases h2 with c | c
    · subst c; simp at e'; exact z0 e'
    · have := Nat.two_pow_pos (fP s); omega
  unfold divT
  rw [w, Nat.mul_div_cancel_left _ (by omega), Nat.mul_mod_right]
  have t := rnd_scale s m false 1 131 0
  rw [unit_rnd] at t
  rw [← t]
  congr 1
  omega
end Go.Proofs.YteafnkimcidkhaaGreat
namespace Go.Proofs.YteafnkimcidkhaaGreat
open Go.RowKit
set_option linter.unusedVariables false
theorem live_1 : divF false 0 4607182418800017408 4613937818241073152 = 4599676419421066581 := by decide +kernel
theorem live_2 : divF false 1 4607182418800017408 4613937818241073152 = 4599676419421066582 := by decide +kernel
theorem live_3 : addF false 0 4607182418800017408 4607182418800017408 = 4611686018427387904 := by decide +kernel
theorem word_one : Word 4607182418800017408 := ⟨by decide, by decide⟩
theorem word_three : Word 4613937818241073152 := ⟨by decide, by decide⟩
end Go.Proofs.YteafnkimcidkhaaGreat
namespace Go.Proofs.YteafnkimcidkhaaGreat
open Go.RowKit
set_option linter.unusedVariables false
theorem nan_word (s : Bool) : Word (fNan s) := by cases s <;> exact ⟨by decide, by decide⟩
theorem sgnd_word (s b : Bool) (z : Int) (h0 : 0 ≤ z) (h : z ≤ fI s) : Word (sgnd s b z) := (made s b z h0 (by have := fI_lt s; omega)).1
theorem rnd_word (s : Bool) (m : Int) (b : Bool) (n : Nat) (e : Int) : Word (rnd s m b n e) := by
  obtain ⟨z, e1, z0, z1⟩ := rnd_made s m b n e
  rw [e1]; exact sgnd_word s b z z0 z1
theorem sumT_word (s : Bool) (m : Int) (xb : Bool) (xw : Nat) (xe : Int) (yb : Bool) (yw : Nat) (ye : Int) : Word (sumT s m xb xw xe yb yw ye) := by
  unfold sumT
  split
  · exact rnd_word _ _ _ _ _
  · split
    · exact sgnd_word s _ 0 (Int.le_refl _) (fI_pos s)
    · split <;> exact rnd_word _ _ _ _ _
theorem addF_word (s : Bool) (m a b : Int) (h1 : Word a) (h2 : Word b) : Word (addF s m a b) := by
  unfold addF
  split
  · exact nan_word s
  · split
    · exact nan_word s
    · split
      · exact h1
      · split
        · exact h2
        · exact sumT_word _ _ _ _ _ _ _ _
theorem mulF_word (s : Bool) (m a b : Int) : Word (mulF s m a b) := by
  unfold mulF
  split
  · exact nan_word s
  · split
    · exact nan_word s
    · split
      · exact sgnd_word s _ _ (fI_pos s) (Int.le_refl _)
      · exact rnd_word _ _ _ _ _
theorem divF_word (s : Bool) (m a b : Int) : Word (divF s m a b) := by
  unfold divF
  split
  · exact nan_word s
  · split
    · exact nan_word s
    · split
      · exact sgnd_word s _ _ (fI_pos s) (Int.le_refl _)
      · split
        · exact sgnd_word s _ _ (Int.le_refl _) (fI_pos s)
        · exact rnd_word _ _ _ _ _
def byF (op : Int) (s : Bool) (m a b : Int) : Int := if op = 8 then addF s m a b else if op = 9 then subF s m a b else if op = 10 then mulF s m a b else divF s m a b
theorem byF_word (op : Int) (s : Bool) (m a b : Int) (h1 : Word a) (h2 : Word b) : Word (byF op s m a b) := by
  unfold byF
  split
  · exact addF_word s m a b h1 h2
  · split
    · exact addF_word s m a _ h1 (negF_word s b h2)
    · split
      · exact mulF_word s m a b
      · exact divF_word s m a b
end Go.Proofs.YteafnkimcidkhaaGreat
namespace Go.Proofs.YteafnkimcidkhaaGreat
open Go.RowKit
set_option linter.unusedVariables false
set_option linter.unusedSimpArgs false
/-- What four answers are: no number, one number, both zeros, or neighbours. -/
inductive Four (s : Bool) (u n d z : Int) : Prop
  | nan (h : (cls s n == 0 || cls s n == 5) = true) (e1 : u = n) (e2 : d = n) (e3 : z = n)
  | one (b : Bool) (k : Nat) (hk : (k : Int) ≤ fI s) (e0 : n = sgnd s b k) (e1 : u = n) (e2 : d = n) (e3 : z = n)
  | zero (e0 : n = sgnd s false 0) (e1 : u = n) (e2 : d = sgnd s true 0) (e3 : z = n)
  | above (k l : Nat) (h1 : k ≤ l) (h2 : l ≤ k + 1) (h3 : (l : Int) ≤ fI s) (h4 : (k : Int) < fI s) (e1 : u = sgnd s false l) (e2 : d = sgnd s false k) (e3 : z = sgnd s false k) (e0 : n = sgnd s false k ∨ n = sgnd s false l)
  | below (k l : Nat) (h1 : k ≤ l) (h2 : l ≤ k + 1) (h3 : (l : Int) ≤ fI s) (h4 : (k : Int) < fI s) (e1 : u = sgnd s true k) (e2 : d = sgnd s true l) (e3 : z = sgnd s true k) (e0 : n = sgnd s true k ∨ n = sgnd s true l)
theorem four_nan (s : Bool) : Four s (fNan s) (fNan s) (fNan s) (fNan s) := .nan (nan_is s) rfl rfl rfl
theorem four_one (s b : Bool) (z : Int) (h0 : 0 ≤ z) (h : z ≤ fI s) : Four s (sgnd s b z) (sgnd s b z) (sgnd s b z) (sgnd s b z) := by
  obtain ⟨k, rfl⟩ := Int.eq_ofNat_of_zero_le h0
  exact .one b k h rfl rfl rfl rfl
theorem four_rnd (s b : Bool) (n : Nat) (e : Int) : Four s (rnd s 1 b n e) (rnd s 0 b n e) (rnd s 2 b n e) (rnd s 3 b n e) := by
  unfold rnd
  by_cases c : n = 0
  · simp only [if_pos c]
    exact four_one s b 0 (Int.le_refl _) (fI_pos s)
  · simp only [if_neg c]
    obtain ⟨d, u, h1, h2, h3, h4, e3, ed, eu, en⟩ := mag_modes s b c e
    cases b
    · simp only [Bool.false_eq_true, if_false] at ed eu
      refine .above d u h1 h2 h3 h4 (by rw [eu]) (by rw [ed]) (by rw [e3]) ?_
      rcases en with t | t
      · left; rw [t]
      · right; rw [t]
    · simp only [if_true] at ed eu
      refine .below d u h1 h2 h3 h4 (by rw [ed]) (by rw [eu]) (by rw [e3]) ?_
      rcases en with t | t
      · left; rw [t]
      · right; rw [t]
theorem four_sum (s : Bool) (xb : Bool) (xw : Nat) (xe : Int) (yb : Bool) (yw : Nat) (ye : Int) : Four s (sumT s 1 xb xw xe yb yw ye) (sumT s 0 xb xw xe yb yw ye) (sumT s 2 xb xw xe yb yw ye) (sumT s 3 xb xw xe yb yw ye) := by
  unfold sumT
  generalize xw * 2 ^ (xe - min xe ye).toNat = X
  generalize yw * 2 ^ (ye - min xe ye).toNat = Y
  by_cases c : xb = yb
  · simp only [if_pos c]; exact four_rnd s _ _ _
  · simp only [if_neg c]
    by_cases d : X = Y
    · simp only [if_pos d]; exact .zero rfl rfl rfl rfl
    · simp only [if_neg d]
      by_cases e : Y < X
      · simp only [if_pos e]; exact four_rnd s _ _ _
      · simp only [if_neg e]; exact four_rnd s _ _ _
theorem four_num (s : Bool) (a : Int) (h : Word a) (c : (cls s a == 0 || cls s a == 5) = false) : Four s a a a a := by
  rcases num_or s a h with t | ⟨b, z, rfl, z0, z1⟩
  · rw [t] at c; exact absurd c (by decide)
  · exact four_one s b z z0 z1
theorem four_add (s : Bool) (a b : Int) (h1 : Word a) (h2 : Word b) : Four s (addF s 1 a b) (addF s 0 a b) (addF s 2 a b) (addF s 3 a b) := by
  unfold addF
  have k1 := four_num s a h1
  have k2 := four_num s b h2
  generalize (cls s a == 0 || cls s a == 5) = N1 at *
  generalize (cls s b == 0 || cls s b == 5) = N2 at *
  cases N1
  · cases N2
    · simp only [Bool.or_false, Bool.false_eq_true, if_false]
      split
      · exact four_nan s
      · split
        · exact k1 rfl
        · split
          · exact k2 rfl
          · exact four_sum s _ _ _ _ _ _
    · simp only [Bool.or_true, if_true]; exact four_nan s
  · simp only [Bool.true_or, if_true]; exact four_nan s
theorem four_by (op : Int) (s : Bool) (a b : Int) (h1 : Word a) (h2 : Word b) : Four s (byF op s 1 a b) (byF op s 0 a b) (byF op s 2 a b) (byF op s 3 a b) := by
  unfold byF
  split
  · exact four_add s a b h1 h2
  · split
    · exact four_add s a _ h1 (negF_word s b h2)
    · split
      · unfold mulF
        split
        · exact four_nan s
        · split
          · exact four_nan s
          · split
            · exact four_one s _ _ (fI_pos s) (Int.le_refl _)
            · exact four_rnd s _ _ _
      · unfold divF
        split
        · exact four_nan s
        · split
          · exact four_nan s
          · split
            · exact four_one s _ _ (fI_pos s) (Int.le_refl _)
            · split
              · exact four_one s _ _ (Int.le_refl _) (fI_pos s)
              · exact four_rnd s _ _ _
theorem rnk_made (s b : Bool) (z : Int) (h0 : 0 ≤ z) (h : z ≤ fI s) : rnk s (sgnd s b z) = if b then -z else z := by
  obtain ⟨_, _, e, g⟩ := made s b z h0 (by have := fI_lt s; omega)
  unfold rnk
  rw [e, g]
theorem cmp_made (s b c : Bool) (y z : Int) (h0 : 0 ≤ y) (h : y ≤ fI s) (k0 : 0 ≤ z) (k : z ≤ fI s) : cmpF s (sgnd s b y) (sgnd s c z) = (if (if b then -y else y) < (if c then -z else z) then -1 else if (if c then -z else z) < (if b then -y else y) then 1 else 0, true) := by
  unfold cmpF
  rw [num_made s b y h0 h, num_made s c z k0 k, rnk_made s b y h0 h, rnk_made s c z k0 k]
  rfl
/-- The least step up is not past the neighbour: above 0. -/
theorem step_above (s : Bool) (k : Nat) (h : (k : Int) < fI s) : ∃ z : Nat, addF s 1 (sgnd s false k) 1 = sgnd s false z ∧ (z : Int) ≤ fI s ∧ k + 1 ≤ z := by
  have i1 : ((1 : Nat) : Int) < fI s := by cases s <;> decide
  obtain ⟨x, q, e, q1, q2, w, p⟩ := size_parts s false k h
  obtain ⟨x', q', e', q1', q2', w', p'⟩ := size_parts s false 1 i1
  obtain ⟨c1, c2, c3⟩ := self_cls s false 1 (by decide) i1
  have n1 := num_made s false k (by omega) (by omega)
  have n2 : (cls s (sgnd s false k) == 4) = false := by
    have := cls_made s false k (by omega) (by have := fI_lt s; omega)
    rw [if_neg (by omega), if_neg (by omega)] at this
    rw [this]
    split
    · rfl
    · split <;> rfl
  have pp := Nat.two_pow_pos (fP s)
  have hx' : x' = 0 := by
    rcases Nat.eq_zero_or_pos x' with t | t
    · exact t
    · have : 2 ^ fP s ≤ x' * 2 ^ fP s := Nat.le_mul_of_pos_left _ t
      have : 2 ^ 1 ≤ 2 ^ fP s := Nat.pow_le_pow_right (by decide) (by have := fP_ge s; omega)
      omega
  subst hx'
  have hq' : q' = 1 := by omega
  subst hq'
  rw [show addF s 1 (sgnd s false k) 1 = addF s 1 (sgnd s false k) (sgnd s false ((1 : Nat) : Int)) from rfl]
  unfold addF
  rw [n1, n2, c1, c2, self_sgn s false k h, self_sgn s false 1 i1, w, p, w', p']
  simp only [Bool.or_false, Bool.false_eq_true, if_false, Bool.false_and]
  unfold sumT
  rw [if_pos rfl, show min (fL s + (x : Int)) (fL s + ((0 : Nat) : Int)) = fL s by omega, show (fL s + (x : Int) - fL s).toNat = x by omega, show (fL s + ((0 : Nat) : Int) - fL s).toNat = 0 by omega]
  have v := val_at s x q (by omega) q2
  rw [← e] at v
  rw [← v, Nat.pow_zero, Nat.mul_one]
  unfold rnd
  rw [if_neg (by omega)]
  obtain ⟨z, ez, z1, z2⟩ := mag_up s 1 false (fun o h l => by cases o <;> cases h <;> cases l <;> rfl) (n := val s k + 1) (by omega) (fL s) (fL s) (Int.le_refl _) (Int.le_refl _)
  refine ⟨z, by rw [ez], z1, ?_⟩
  rcases z2 with t | t
  · omega
  · have y : (fL s - fL s).toNat = 0 := by omega
    rw [y, Nat.pow_zero, Nat.mul_one, Nat.mul_one] at t
    exact lt_of_val s (by omega)
/-- Below 0. -/
theorem step_below (s : Bool) (k : Nat) (h : (k : Int) < fI s) (k0 : k ≠ 0) : ∃ (b : Bool) (z : Nat), addF s 1 (sgnd s true k) 1 = sgnd s b z ∧ (z : Int) ≤ fI s ∧ (b = true → z + 1 ≤ k) := by
  have i1 : ((1 : Nat) : Int) < fI s := by cases s <;> decide
  obtain ⟨x, q, e, q1, q2, w, p⟩ := size_parts s true k h
  obtain ⟨x', q', e', q1', q2', w', p'⟩ := size_parts s false 1 i1
  obtain ⟨c1, c2, c3⟩ := self_cls s false 1 (by decide) i1
  obtain ⟨n1, n2, n3⟩ := self_cls s true k k0 h
  have pp := Nat.two_pow_pos (fP s)
  have hx' : x' = 0 := by
    rcases Nat.eq_zero_or_pos x' with t | t
    · exact t
    · have : 2 ^ fP s ≤ x' * 2 ^ fP s := Nat.le_mul_of_pos_left _ t
      have : 2 ^ 1 ≤ 2 ^ fP s := Nat.pow_le_pow_right (by decide) (by have := fP_ge s; omega)
      omega
  subst hx'
  have hq' : q' = 1 := by omega
  subst hq'
  rw [show addF s 1 (sgnd s true k) 1 = addF s 1 (sgnd s true k) (sgnd s false ((1 : Nat) : Int)) from rfl]
  unfold addF
  rw [n1, n2, c1, c2, self_sgn s true k h, self_sgn s false 1 i1, w, p, w', p']
  simp only [Bool.or_false, Bool.false_eq_true, if_false, Bool.false_and]
  unfold sumT
  rw [if_neg (by decide), show min (fL s + (x : Int)) (fL s + ((0 : Nat) : Int)) = fL s by omega, show (fL s + (x : Int) - fL s).toNat = x by omega, show (fL s + ((0 : Nat) : Int) - fL s).toNat = 0 by omega]
  have v := val_at s x q (by omega) q2
  rw [← e] at v
  rw [← v, Nat.pow_zero, Nat.mul_one]
  have vk : 0 < val s k := by have := val_lt s (show 0 < k by omega); rw [val_zero] at this; exact this
  by_cases c : val s k = 1
  · rw [if_pos c]
    exact ⟨false, 0, rfl, by have := fI_pos s; omega, fun t => absurd t (by decide)⟩
  · rw [if_neg c, if_pos (by omega)]
    unfold rnd
    rw [if_neg (by omega)]
    obtain ⟨z, ez, z1, z2⟩ := mag_down s 1 true (fun o h l => by cases o <;> cases h <;> cases l <;> rfl) (n := val s k - 1) (by omega) (fL s) (fL s) (Int.le_refl _) (Int.le_refl _)
    refine ⟨true, z, by rw [ez], by omega, fun _ => ?_⟩
    have y : (fL s - fL s).toNat = 0 := by omega
    rw [y, Nat.pow_zero, Nat.mul_one, Nat.mul_one] at z2
    exact lt_of_val s (by omega)
/-- What the four answers say of each other. -/
theorem four_law {s : Bool} {u n d z : Int} (h : Four s u n d z) :
    ((cmpF s u n).2 = false ∧ u = n ∧ n = d ∧ d = z) ∨
    ((cmpF s u n).2 = true ∧ (cmpF s n d).2 = true ∧ 0 ≤ (cmpF s u n).1 ∧ 0 ≤ (cmpF s n d).1 ∧ (n = u ∨ n = d) ∧ (z = u ∨ z = d) ∧ ((cmpF s u d).1 = 0 ∨ 0 ≤ (cmpF s (addF s 1 d 1) u).1 ∨ finF s d = false)) := by
  have i0 := fI_pos s
  cases h with
  | nan h e1 e2 e3 =>
    left
    subst e1 e2 e3
    refine ⟨?_, rfl, rfl, rfl⟩
    unfold cmpF
    rw [h]; rfl
  | one b k hk e0 e1 e2 e3 =>
    right
    subst e1 e2 e3 e0
    have q := cmp_made s b b k k (by omega) hk (by omega) hk
    rw [if_neg (by omega), if_neg (by omega)] at q
    rw [q]
    exact ⟨rfl, rfl, Int.le_refl _, Int.le_refl _, Or.inl rfl, Or.inl rfl, Or.inl rfl⟩
  | zero e0 e1 e2 e3 =>
    right
    subst e1 e3 e0 e2
    have q1 := cmp_made s false false 0 0 (Int.le_refl _) i0 (Int.le_refl _) i0
    have q2 := cmp_made s false true 0 0 (Int.le_refl _) i0 (Int.le_refl _) i0
    simp at q1 q2
    rw [q1, q2]
    exact ⟨rfl, rfl, Int.le_refl _, Int.le_refl _, Or.inl rfl, Or.inl rfl, Or.inl rfl⟩
  | above k l h1 h2 h3 h4 e1 e2 e3 e0 =>
    right
    subst e1 e2 e3
    have q1 := cmp_made s false false l k (by omega) h3 (by omega) (by omega)
    have q2 := cmp_made s false false l l (by omega) h3 (by omega) h3
    have q3 := cmp_made s false false k k (by omega) (by omega) (by omega) (by omega)
    simp only [Bool.false_eq_true, if_false] at q1 q2 q3
    rw [if_neg (by omega), if_neg (by omega)] at q2 q3
    rw [if_neg (by omega)] at q1
    have last : (cmpF s (sgnd s false l) (sgnd s false k)).1 = 0 ∨ 0 ≤ (cmpF s (addF s 1 (sgnd s false k) 1) (sgnd s false l)).1 ∨ finF s (sgnd s false k) = false := by
      right; left
      obtain ⟨y, e, y1, y2⟩ := step_above s k h4
      rw [e]
      have q4 := cmp_made s false false y l (by omega) y1 (by omega) h3
      simp only [Bool.false_eq_true, if_false] at q4
      rw [if_neg (by omega)] at q4
      rw [q4]
      split <;> decide
    rcases e0 with t | t
    · subst t
      rw [q3]
      refine ⟨by rw [q1], rfl, ?_, Int.le_refl _, Or.inr rfl, Or.inr rfl, last⟩
      rw [q1]; split <;> decide
    · subst t
      rw [q2]
      refine ⟨rfl, by rw [q1], Int.le_refl _, ?_, Or.inl rfl, Or.inr rfl, last⟩
      rw [q1]; split <;> decide
  | below k l h1 h2 h3 h4 e1 e2 e3 e0 =>
    right
    subst e1 e2 e3
    have q1 := cmp_made s true true k l (by omega) (by omega) (by omega) h3
    have q2 := cmp_made s true true l l (by omega) h3 (by omega) h3
    have q3 := cmp_made s true true k k (by omega) (by omega) (by omega) (by omega)
    simp only [if_true] at q1 q2 q3
    rw [if_neg (by omega), if_neg (by omega)] at q2 q3
    rw [if_neg (by omega)] at q1
    have last : (cmpF s (sgnd s true k) (sgnd s true l)).1 = 0 ∨ 0 ≤ (cmpF s (addF s 1 (sgnd s true l) 1) (sgnd s true k)).1 ∨ finF s (sgnd s true l) = false := by
      by_cases c : k = l
      · left; rw [q1, if_neg (by omega)]
      · right
        by_cases f : (l : Int) = fI s
        · right
          unfold finF
          rw [cls_made s true l (by omega) (by have := fI_lt s; omega), if_neg (by omega), if_pos f]
          rfl
        · left
          obtain ⟨b, y, e, y1, y2⟩ := step_below s l (by omega) (by omega)
          rw [e]
          have q4 := cmp_made s b true y k (by omega) y1 (by omega) (by omega)
          cases b
          · simp only [if_true, Bool.false_eq_true, if_false] at q4
            rw [if_neg (by omega)] at q4
            rw [q4]
            split <;> decide
          · have := y2 rfl
            simp only [if_true] at q4
            rw [if_neg (by omega)] at q4
            rw [q4]
            split <;> decide
    rcases e0 with t | t
    · subst t
      rw [q3]
      refine ⟨rfl, by rw [q1], Int.le_refl _, ?_, Or.inl rfl, Or.inl rfl, last⟩
      rw [q1]; split <;> decide
    · subst t
      rw [q2]
      refine ⟨by rw [q1], rfl, ?_, Int.le_refl _, Or.inr rfl, Or.inl rfl, last⟩
      rw [q1]; split <;> decide
end Go.Proofs.YteafnkimcidkhaaGreat

