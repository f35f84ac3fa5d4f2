/- Sums, products and quotients of two floats; the other sign. -/
import Derived.Test.YtfbkiklopeebdaaSoftS
namespace Go.Proofs.Ytfbkiklopeebdaa
open Go.RowKit
set_option linter.unusedVariables false
set_option linter.unusedSimpArgs false
/-- Cells of a block with parts. -/
def PrtAt (w : World) (k : Nat) (c : Int) (g : Bool) (u p : Int) : Prop := w.cell? ⟨k, 0, none⟩ = some (.int .i64 c) ∧ w.cell? ⟨k, 1, none⟩ = some (.bool g) ∧ w.cell? ⟨k, 2, none⟩ = some (.int .u64 u) ∧ w.cell? ⟨k, 3, none⟩ = some (.int .i64 p)
theorem cell_dr {W : World} {a : Addr} {v : Value} (h : W.cell? a = some v) : W.drew.cell? a = some v := h
theorem cell_dN {W : World} {a : Addr} {v : Value} (h : W.cell? a = some v) (n : Nat) : (W.drewN n).cell? a = some v := h
/-- The product of two floats. -/
def mulF (s : Bool) (m a b : Int) : Int :=
  if (cls s a == 0 || cls s a == 5) || (cls s b == 0 || cls s b == 5) then fNan s
  else if (cls s a == 4 && cls s b == 1) || (cls s a == 1 && cls s b == 4) then fNan s
  else if cls s a == 4 || cls s b == 4 then sgnd s (sgn s a != sgn s b) (fI s)
  else rnd s m (sgn s a != sgn s b) ((whl s a).toNat * (whl s b).toNat) (pwr s a + pwr s b)
theorem fin_d (a : Int) (h : Word a) (z : zOf false a < 9218868437227405312) : Fin false (whl false a) (pwr false a) := by
  have e := zOf_double a h
  have q : (2 : Int) ^ fP false = 4503599627370496 := rfl
  have q1 : (2 : Int) ^ (fP false + 1) = 9007199254740992 := rfl
  have l : fL false = -1074 := rfl
  unfold Fin whl pwr
  rw [q, q1, l]
  generalize zOf false a = Z at *
  obtain ⟨a0, a1⟩ := h
  split <;> refine ⟨?_, ?_, ?_, ?_, ?_⟩ <;> omega
theorem fin_s (a : Int) (h : Word a) (w : a < 4294967296) (z : zOf true a < 2139095040) : Fin true (whl true a) (pwr true a) := by
  have e := zOf_single a h.1 w
  have q : (2 : Int) ^ fP true = 8388608 := rfl
  have q1 : (2 : Int) ^ (fP true + 1) = 16777216 := rfl
  have l : fL true = -149 := rfl
  unfold Fin whl pwr
  rw [q, q1, l]
  generalize zOf true a = Z at *
  obtain ⟨a0, a1⟩ := h
  split <;> refine ⟨?_, ?_, ?_, ?_, ?_⟩ <;> omega
theorem fin_of (s : Bool) (a : Int) (h : Word a) : (cls s a == 0 || cls s a == 5) = false → (cls s a == 4) = false → Fin s (whl s a) (pwr s a) ∧ ((cls s a == 1) = false → whl s a ≠ 0) := by
  intro c1 c2
  have k : ¬ cls s a = 0 ∧ ¬ cls s a = 5 ∧ ¬ cls s a = 4 := by
    simp only [Bool.or_eq_false_iff, beq_eq_false_iff_ne, ne_eq] at c1 c2
    exact ⟨c1.1, c1.2, c2⟩
  obtain ⟨k0, k5, k4⟩ := k
  unfold cls at k0 k5 k4
  have w : wideB s a = false := by
    cases t : wideB s a
    · rfl
    · rw [t] at k0; simp at k0
  rw [w] at k0 k5 k4
  simp only [Bool.false_eq_true, if_false] at k0 k5 k4
  have z1 : zOf s a ≤ fI s := by
    by_cases t : fI s < zOf s a
    · rw [if_pos t] at k5; exact absurd rfl k5
    · omega
  rw [if_neg (by omega)] at k4
  have z2 : zOf s a ≠ fI s := by
    intro t
    rw [if_pos t] at k4; exact absurd rfl k4
  cases s
  · have z3 : zOf false a < 9218868437227405312 := by have i : fI false = 9218868437227405312 := rfl; omega
    refine ⟨fin_d a h z3, fun c3 => ?_⟩
    have e := zOf_double a h
    have c4 : ¬ zOf false a = 0 := by
      intro t
      have : cls false a = 1 := by unfold cls; rw [w, if_neg (by decide), if_neg (by omega), if_neg z2, if_pos t]
      rw [this] at c3; simp at c3
    unfold whl
    have q : (2 : Int) ^ fP false = 4503599627370496 := rfl
    rw [q]
    split <;> omega
  · have a3 : a < 4294967296 := by unfold wideB at w; simp at w; exact w
    have z3 : zOf true a < 2139095040 := by have i : fI true = 2139095040 := rfl; omega
    refine ⟨fin_s a h a3 z3, fun c3 => ?_⟩
    have e := zOf_single a h.1 a3
    have c4 : ¬ zOf true a = 0 := by
      intro t
      have : cls true a = 1 := by unfold cls; rw [w, if_neg (by decide), if_neg (by omega), if_neg z2, if_pos t]
      rw [this] at c3; simp at c3
    unfold whl
    have q : (2 : Int) ^ fP true = 8388608 := rfl
    rw [q]
    split <;> omega
theorem wrap_id (x : Int) (h : -9223372036854775808 ≤ x) (h' : x ≤ 9223372036854775807) : IntKind.i64.wrap x = x := by rw [IntKind.wrap_i64]; omega
theorem nn_mul {u v h l : Int} (a : Word u) (b : Word v) (c : Word h) (d : Word l) (E : num h l = u * v) : nn h l = u.toNat * v.toNat := by
  have e := nn_num c d
  obtain ⟨x, rfl⟩ := Int.eq_ofNat_of_zero_le a.1
  obtain ⟨y, rfl⟩ := Int.eq_ofNat_of_zero_le b.1
  rw [Int.toNat_natCast, Int.toNat_natCast]
  rw [E, ← Int.natCast_mul] at e
  omega
theorem signed_two (s b : Bool) (z : Int) (h : z = 0 ∨ z = fI s) (w : World) :
    Calls Try.prog 27 #[fmtV s, .bool b, .int .u64 z] w fun e w' => e = .returned (.int .u64 (sgnd s b z)) ∧ w' = w.alloc (fmtO s) := by
  have := fI_pos s
  exact signed_any s b z (by omega) (by omega) w
/-- The quotient of two floats. -/
def divF (s : Bool) (m a b : Int) : Int :=
  if (cls s a == 0 || cls s a == 5) || (cls s b == 0 || cls s b == 5) then fNan s
  else if (cls s a == 4 && cls s b == 4) || (cls s a == 1 && cls s b == 1) then fNan s
  else if cls s a == 4 || cls s b == 1 then sgnd s (sgn s a != sgn s b) (fI s)
  else if cls s b == 4 then sgnd s (sgn s a != sgn s b) 0
  else divT s m (sgn s a != sgn s b) (whl s a).toNat (pwr s a) (whl s b).toNat (pwr s b)
/-- The sum of two floats. -/
def addF (s : Bool) (m a b : Int) : Int :=
  if (cls s a == 0 || cls s a == 5) || (cls s b == 0 || cls s b == 5) then fNan s
  else if cls s a == 4 && cls s b == 4 && (sgn s a != sgn s b) then fNan s
  else if cls s a == 4 then a
  else if cls s b == 4 then b
  else sumT s m (sgn s a) (whl s a).toNat (pwr s a) (sgn s b) (whl s b).toNat (pwr s b)
end Go.Proofs.Ytfbkiklopeebdaa

