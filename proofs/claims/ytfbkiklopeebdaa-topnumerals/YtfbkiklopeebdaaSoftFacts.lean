/- What follows of sums, products and quotients, in plain numbers. -/
import Derived.Test.YtfbkiklopeebdaaSoftN
namespace Go.Proofs.Ytfbkiklopeebdaa
open Go.RowKit
set_option linter.unusedVariables false
set_option linter.unusedSimpArgs false
theorem and_bit (x i : Nat) (hx : x < 2 ^ (i + 1)) : (x &&& 2 ^ i != 0) = decide (2 ^ i ≤ x) := by
  have p := Nat.two_pow_pos i
  have e : x &&& 2 ^ i = if x.testBit i then 2 ^ i else 0 := by
    apply Nat.eq_of_testBit_eq
    intro j
    rw [Nat.testBit_and, Nat.testBit_two_pow]
    by_cases c : i = j
    · subst c
      cases t : x.testBit i <;> simp
    · cases t : x.testBit i <;> simp [c, Nat.testBit_two_pow]
  rw [e, Nat.testBit_eq_decide_div_mod_eq]
  rw [Nat.pow_succ] at hx
  by_cases c : 2 ^ i ≤ x
  · have d : x / 2 ^ i = 1 := Nat.div_eq_of_lt_le (by omega) (by omega)
    rw [d, decide_eq_true c]
    simp
  · have d : x / 2 ^ i = 0 := Nat.div_eq_of_lt (by omega)
    rw [d, decide_eq_false c]
    simp
theorem sgn_double (a : Int) (h : Word a) : sgn false a = decide (9223372036854775808 ≤ a) := by
  obtain ⟨x, rfl⟩ := Int.eq_ofNat_of_zero_le h.1
  have hx := h.2
  have t := u64_and_nat x 9223372036854775808 (by omega) (by decide)
  have e := and_bit x 63 (by omega)
  show (bits BinOp.and IntKind.u64 (x : Int) ((9223372036854775808 : Nat) : Int) != 0) = _
  rw [t, Bool.eq_iff_iff, bne_iff_ne, decide_eq_true_iff]
  rw [Bool.eq_iff_iff, bne_iff_ne, decide_eq_true_iff] at e
  have q : (2 : Nat) ^ 63 = 9223372036854775808 := by decide
  rw [q] at e
  omega
theorem sgn_single (a : Int) (h : 0 ≤ a) (h' : a < 4294967296) : sgn true a = decide (2147483648 ≤ a) := by
  obtain ⟨x, rfl⟩ := Int.eq_ofNat_of_zero_le h
  have t := u64_and_nat x 2147483648 (by omega) (by decide)
  have e := and_bit x 31 (by omega)
  show (bits BinOp.and IntKind.u64 (x : Int) ((2147483648 : Nat) : Int) != 0) = _
  rw [t, Bool.eq_iff_iff, bne_iff_ne, decide_eq_true_iff]
  rw [Bool.eq_iff_iff, bne_iff_ne, decide_eq_true_iff] at e
  have q : (2 : Nat) ^ 31 = 2147483648 := by decide
  rw [q] at e
  omega
/-- A float is its size and its sign. -/
theorem put (s : Bool) (a : Int) (h : Word a) (w : wideB s a = false) : a = sgnd s (sgn s a) (zOf s a) ∧ 0 ≤ zOf s a ∧ zOf s a < fS s := by
  unfold sgnd
  cases s
  · rw [sgn_double a h, zOf_double a h]
    have q : fS false = 9223372036854775808 := rfl
    rw [q]
    obtain ⟨h0, h1⟩ := h
    by_cases c : 9223372036854775808 ≤ a
    · rw [if_pos (decide_eq_true c)]; omega
    · rw [if_neg (by simp; omega)]; omega
  · have w' : a < 4294967296 := by unfold wideB at w; simp at w; exact w
    rw [sgn_single a h.1 w', zOf_single a h.1 w']
    have q : fS true = 2147483648 := rfl
    rw [q]
    obtain ⟨h0, h1⟩ := h
    by_cases c : 2147483648 ≤ a
    · rw [if_pos (decide_eq_true c)]; omega
    · rw [if_neg (by simp; omega)]; omega
theorem cls_inf {s : Bool} {a : Int} (c : (cls s a == 4) = true) : wideB s a = false ∧ zOf s a = fI s := by
  have k := beq_iff_eq.1 c
  unfold cls at k
  cases t : wideB s a
  · rw [t, if_neg (by decide)] at k
    refine ⟨rfl, ?_⟩
    by_cases d : fI s < zOf s a
    · rw [if_pos d] at k; exact absurd k (by decide)
    · rw [if_neg d] at k
      by_cases e : zOf s a = fI s
      · exact e
      · rw [if_neg e] at k
        by_cases g : zOf s a = 0
        · rw [if_pos g] at k; exact absurd k (by decide)
        · rw [if_neg g] at k
          by_cases i : zOf s a / 2 ^ fP s = 0
          · rw [if_pos i] at k; exact absurd k (by decide)
          · rw [if_neg i] at k; exact absurd k (by decide)
  · rw [t, if_pos rfl] at k; exact absurd k (by decide)
theorem addF_comm (s : Bool) (m a b : Int) (h1 : Word a) (h2 : Word b) : addF s m a b = addF s m b a := by
  unfold addF
  rw [sumT_swap s m (sgn s a)]
  have i1 := @cls_inf s a
  have i2 := @cls_inf s b
  have p1 := put s a h1
  have p2 := put s b h2
  generalize (cls s a == 0 || cls s a == 5) = N1 at *
  generalize (cls s b == 0 || cls s b == 5) = N2 at *
  generalize (cls s a == 4) = I1 at *
  generalize (cls s b == 4) = I2 at *
  cases N1 <;> cases N2 <;> try rfl
  cases I1 <;> cases I2 <;> try rfl
  obtain ⟨w1, z1⟩ := i1 rfl
  obtain ⟨w2, z2⟩ := i2 rfl
  obtain ⟨e1, _⟩ := p1 w1
  obtain ⟨e2, _⟩ := p2 w2
  rw [z1] at e1
  rw [z2] at e2
  cases g1 : sgn s a <;> cases g2 : sgn s b
  · rw [g1] at e1; rw [g2] at e2; simp; rw [e1, e2]
  · simp
  · simp
  · rw [g1] at e1; rw [g2] at e2; simp; rw [e1, e2]
theorem mulF_comm (s : Bool) (m a b : Int) : mulF s m a b = mulF s m b a := by
  unfold mulF
  rw [show (sgn s a != sgn s b) = (sgn s b != sgn s a) by cases sgn s a <;> cases sgn s b <;> rfl, Nat.mul_comm (whl s a).toNat, Int.add_comm (pwr s a)]
  generalize (cls s a == 0 || cls s a == 5) = N1 at *
  generalize (cls s b == 0 || cls s b == 5) = N2 at *
  generalize (cls s a == 4) = I1 at *
  generalize (cls s b == 4) = I2 at *
  generalize (cls s a == 1) = Z1 at *
  generalize (cls s b == 1) = Z2 at *
  cases N1 <;> cases N2 <;> cases I1 <;> cases I2 <;> cases Z1 <;> cases Z2 <;> rfl
end Go.Proofs.Ytfbkiklopeebdaa

