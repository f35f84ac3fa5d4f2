/- A Single as a Double and back again is itself; ints of 32 bits as Doubles and back. -/
import Derived.Test.YtfdinlomlcnjnaaDoorIntF
namespace Go.Proofs.YtfdinlomlcnjnaaDoor
open Go.RowKit
set_option linter.unusedVariables false
set_option linter.unusedSimpArgs false
theorem bk_fin (s b : Bool) (y : Nat) (h : (y : Int) < fI s) : (cls s (sgnd s b y) == 0 || cls s (sgnd s b y) == 5) = false ∧ (cls s (sgnd s b y) == 4) = false := by
  have l := fI_lt s
  refine ⟨num_made s b y (by omega) (by omega), ?_⟩
  rw [cls_made s b y (by omega) (by omega)]
  have n1 : ¬ fI s < (y : Int) := by omega
  have n2 : ¬ (y : Int) = fI s := by omega
  rw [if_neg n1, if_neg n2]
  split
  · rfl
  · split <;> rfl
theorem bk_inf (s b : Bool) : (cls s (sgnd s b (fI s)) == 0 || cls s (sgnd s b (fI s)) == 5) = false ∧ (cls s (sgnd s b (fI s)) == 4) = true ∧ sgn s (sgnd s b (fI s)) = b := by
  have l := fI_lt s
  have p : 0 ≤ fI s := by cases s <;> decide
  refine ⟨num_made s b _ p (by omega), ?_, (made s b _ p l).2.2.2⟩
  rw [cls_made s b _ p l, if_neg (by omega), if_pos rfl]
  rfl
theorem bk_cinf (s t b : Bool) (m : Int) : cvtF s t m (sgnd s b (fI s)) = sgnd t b (fI t) := by
  obtain ⟨a, c, d⟩ := bk_inf s b
  unfold cvtF
  rw [a, c, d]
  rfl
theorem bk_cfin (s t b : Bool) (m : Int) (y : Nat) (h : (y : Int) < fI s) : cvtF s t m (sgnd s b y) = rnd t m b (whl s (sgnd s b y)).toNat (pwr s (sgnd s b y)) := by
  obtain ⟨a, c⟩ := bk_fin s b y h
  have d := self_sgn s b y h
  unfold cvtF
  rw [a, c, d]
  rfl
/-- A finite Single as a Double, and that as a Single by any mode. -/
theorem bk_back (b : Bool) (m m' : Int) (y : Nat) (h : (y : Int) < fI true) : cvtF false true m' (cvtF true false m (sgnd true b y)) = sgnd true b y := by
  rw [bk_cfin true false b m y h]
  obtain ⟨x, q, hy, q1, q2, e1, e2⟩ := size_parts true b y h
  rw [e1, e2]
  have fi : fI true = 2139095040 := rfl
  have fi2 : fI false = 9218868437227405312 := rfl
  have fl : fL true = -149 := rfl
  have fl2 : fL false = -1074 := rfl
  have p1 : (2 : Nat) ^ fP true = 8388608 := rfl
  have p2 : (2 : Nat) ^ (fP true + 1) = 16777216 := rfl
  have p3 : (2 : Nat) ^ fP false = 4503599627370496 := rfl
  have p4 : (2 : Nat) ^ (fP false + 1) = 9007199254740992 := rfl
  by_cases q0 : q = 0
  · subst q0
    have x0 : x = 0 := by
      rcases q2 with c | c
      · exact c
      · rw [p1] at c; omega
    subst x0
    have y0 : y = 0 := by rw [hy, Nat.zero_mul]
    subst y0
    rw [rnd_zero]
    have t := bk_cfin false true b m' 0 (by rw [fi2]; decide)
    have wz : (whl false (sgnd false b 0)).toNat = 0 := by cases b <;> decide +kernel
    rw [Int.natCast_zero] at t
    rw [t, wz, rnd_zero]
    rfl
  · obtain ⟨l1, l2⟩ := blen_le q0
    have l3 := lt_blen q
    have l4 : blen q ≤ 24 := blen_le_of (by rw [p2] at q1; exact q1)
    obtain ⟨j, hj⟩ : ∃ j, j = 53 - blen q := ⟨_, rfl⟩
    have hx : x ≤ 255 := by
      have h' := h
      rw [hy, p1] at h'
      rw [fi] at h'
      omega
    obtain ⟨x', hx'⟩ : ∃ x', x' + j = 925 + x := ⟨925 + x - j, by omega⟩
    have b1 : 2 ^ 52 ≤ q * 2 ^ j := by
      have : 2 ^ (blen q - 1) * 2 ^ j ≤ q * 2 ^ j := Nat.mul_le_mul_right _ l1
      rw [← Nat.pow_add] at this
      exact Nat.le_trans (Nat.pow_le_pow_right (by decide) (by omega)) this
    have b2 : q * 2 ^ j < 2 ^ 53 := by
      have : q * 2 ^ j < 2 ^ blen q * 2 ^ j := Nat.mul_lt_mul_of_pos_right l3 (Nat.two_pow_pos _)
      rw [← Nat.pow_add] at this
      exact Nat.lt_of_lt_of_le this (Nat.pow_le_pow_right (by decide) (by omega))
    have b2' : q * 2 ^ j < 9007199254740992 := b2
    have b1' : 4503599627370496 ≤ q * 2 ^ j := b1
    have hk : ((x' * 2 ^ fP false + q * 2 ^ j : Nat) : Int) < fI false := by
      rw [p3, fi2]
      have : x' ≤ 1200 := by omega
      generalize q * 2 ^ j = Q at *
      omega
    have ex := mag_exact false m b x' (q * 2 ^ j) (by omega) (by rw [p4]; exact b2) (Or.inr (by rw [p3]; exact b1)) hk
    have sc := mag_scale false m b q0 j (-149 + (x : Int))
    rw [show -149 + (x : Int) - (j : Int) = fL false + (x' : Int) by rw [fl2]; omega, ex] at sc
    have e3 : rnd false m b q (fL true + (x : Int)) = sgnd false b ((x' * 2 ^ fP false + q * 2 ^ j : Nat) : Int) := by
      unfold rnd
      rw [if_neg q0, fl, ← sc]
    rw [e3, bk_cfin false true b m' _ hk]
    obtain ⟨x2, r, hz, r1, r2, f1, f2⟩ := size_parts false b _ hk
    rw [f1, f2]
    have uq : x2 = x' ∧ r = q * 2 ^ j := by
      rw [p3] at hz r2
      rw [p4] at r1
      generalize q * 2 ^ j = Q at *
      omega
    rw [uq.1, uq.2]
    have rs := rnd_scale true m' b q j (-149 + (x : Int))
    rw [show -149 + (x : Int) - (j : Int) = fL false + (x' : Int) by rw [fl2]; omega] at rs
    rw [rs]
    have ex2 := mag_exact true m' b x q q0 q1 q2 (by rw [← hy]; exact h)
    rw [fl] at ex2
    unfold rnd
    rw [if_neg q0, ex2, ← hy]
theorem bk_word (s t : Bool) (m a : Int) : Word (cvtF s t m a) := by
  unfold cvtF
  split
  · cases t <;> exact ⟨by decide, by decide⟩
  · split
    · have l := fI_lt t
      exact (made t _ (fI t) (by cases t <;> decide) l).1
    · obtain ⟨z, e, h0, h1⟩ := rnd_made t m (sgn s a) (whl s a).toNat (pwr s a)
      rw [e]
      have l := fI_lt t
      exact (made t _ z h0 (by omega)).1
/-- Narrow of Widen of a Single. -/
theorem bk_law (m a : Int) (h0 : 0 ≤ a) (h1 : a < 4294967296) : cvtF false true m (cvtF true false 0 a) = if cls true a = 5 then fNan true else a := by
  have hw : wideB true a = false := by unfold wideB; simp; omega
  have c0 : cls true a ≠ 0 := by
    unfold cls
    rw [hw, if_neg (by decide)]
    (repeat' split) <;> decide
  rcases num_or true a ⟨h0, by omega⟩ with c | ⟨b, z', rfl, z0, z1⟩
  · have c5 : cls true a = 5 := by
      rw [Bool.or_eq_true, beq_iff_eq, beq_iff_eq] at c
      rcases c with c | c
      · exact absurd c c0
      · exact c
    rw [if_pos c5]
    have e1 : cvtF true false 0 a = fNan false := by unfold cvtF; rw [c]; rfl
    rw [e1]
    have e2 : (cls false (fNan false) == 0 || cls false (fNan false) == 5) = true := by decide +kernel
    unfold cvtF
    rw [e2]
    rfl
  · have n := num_made true b z' z0 z1
    have c5 : cls true (sgnd true b z') ≠ 5 := by
      intro c
      rw [c] at n
      exact absurd n (by decide)
    rw [if_neg c5]
    obtain ⟨z, rfl⟩ := Int.eq_ofNat_of_zero_le z0
    by_cases c : (z : Int) = fI true
    · rw [c, bk_cinf, bk_cinf]
    · exact bk_back b 0 m z (by omega)
/-- An int of 32 bits as a Double by any mode, and back. -/
theorem bk_int (m n : Int) (h1 : -2147483648 ≤ n) (h2 : n ≤ 2147483647) : Word (rnd false m (decide (n < 0)) n.natAbs 0) ∧ inI false (rnd false m (decide (n < 0)) n.natAbs 0) = true ∧ toI false (rnd false m (decide (n < 0)) n.natAbs 0) = n := by
  have hn : n.natAbs < 2 ^ 53 := by omega
  rw [rnd_int m _ hn]
  have r := rep_int (decide (n < 0)) hn
  obtain ⟨f1, f2⟩ := fin_rep r
  have e : toI false (sgnd false (decide (n < 0)) (zI n.natAbs)) = n := by
    rw [f2]
    by_cases c : n < 0
    · simp [c]; omega
    · simp [c]; omega
  refine ⟨r.word, ?_, e⟩
  unfold inI
  rw [f1, e]
  simp; omega
end Go.Proofs.YtfdinlomlcnjnaaDoor

