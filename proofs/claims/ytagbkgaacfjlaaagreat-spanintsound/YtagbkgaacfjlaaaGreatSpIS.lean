/- SpanIntSound: all ways. -/
import Derived.Test.YtagbkgaacfjlaaaGreatSpISb
import Derived.Test.YtagbkgaacfjlaaaGreatSpISc
import Derived.Test.YtagbkgaacfjlaaaGreatSpLv
import Derived.Test.YtagbkgaacfjlaaaGreatSpTI
import Derived.Test.YtagbkgaacfjlaaaGreatSpR2
namespace Go.Proofs.YtagbkgaacfjlaaaGreat
open Go.RowKit
set_option linter.unusedVariables false
set_option linter.unusedSimpArgs false
theorem below_same {e r : Ending} {V w' : World} (h : e = r ∧ w' = V) : e = r ∧ Below V.heap.size V w' := ⟨h.1, by rw [h.2]; exact Below.refl _ _⟩
theorem rtwo_any (op x y : Int) (hop : op = 8 ∨ op = 9 ∨ op = 10 ∨ op = 11) (h : okI op x y) (V : World) : Calls Tryz.prog 69 #[.int .i64 op, .agg #[.int .i64 1, .int .i64 x, .int .u64 0], .agg #[.int .i64 1, .int .i64 y, .int .u64 0]] V fun r w' => r = .returned (wholeV (gI op x y)) ∧ Below V.heap.size V w' := by
  rcases hop with rfl | rfl | rfl | rfl
  · exact rtwo_add x y h V
  · exact rtwo_sub x y h V
  · exact rtwo_mul x y h V
  · exact rtwo_div x y h V
theorem of_self (x : Int) (h1 : -2147483648 ≤ x) (h2 : x ≤ 2147483647) (V : World) : Calls Tryz.prog 48 #[.int .i64 x, .int .i64 x] V fun e w' => e = .returned (.agg #[.bool false, .int .i64 x, .int .i64 x]) ∧ Below V.heap.size V w' := by
  have e := of_one x
  rw [if_pos (show in32 x = true from decide_eq_true ⟨h1, h2⟩)] at e
  exact of_num x x _ e (by omega) (by omega) V
set_option maxRecDepth 100000 in
theorem law_intsound (op : Int) (e1 : Bool) (a b : Int) (e2 : Bool) (c d x y : Int) (ha : -9223372036854775808 ≤ a ∧ a ≤ 9223372036854775807) (hb : -9223372036854775808 ≤ b ∧ b ≤ 9223372036854775807) (hc : -9223372036854775808 ≤ c ∧ c ≤ 9223372036854775807) (hd : -9223372036854775808 ≤ d ∧ d ≤ 9223372036854775807) (w : World) :
    Calls Tryz.prog 12 #[.int .i64 op, .agg #[.bool e1, .int .i64 a, .int .i64 b, .bool e2, .int .i64 c, .int .i64 d], .agg #[.int .i64 x, .int .i64 y]] w fun e w' => e = .returned (.bool true) ∧ Below w.heap.size w w' := by
  by_cases h0 : op < 8
  · exact sis_lo op e1 e2 a b c d x y h0 live_any w
  by_cases h1 : 11 < op
  · exact sis_hi op e1 e2 a b c d x y h0 h1 live_any w
  have R1 := rright_i e1 a b
  have R2 := rright_i e2 c d
  have Q1 := rhas_i e1 a b x
  have Q2 := rhas_i e2 c d y
  cases r1 : rI e1 a b
  · rw [r1] at R1; exact sis_r1 op e1 e2 a b c d x y h0 h1 R1 live_any w
  rw [r1] at R1
  cases r2 : rI e2 c d
  · rw [r2] at R2; exact sis_r2 op e1 e2 a b c d x y h0 h1 R1 R2 live_any w
  rw [r2] at R2
  cases q1 : hI e1 a b x
  · rw [q1] at Q1; exact sis_h1 op e1 e2 a b c d x y h0 h1 R1 R2 Q1 live_any w
  rw [q1] at Q1
  cases q2 : hI e2 c d y
  · rw [q2] at Q2; exact sis_h2 op e1 e2 a b c d x y h0 h1 R1 R2 Q1 Q2 live_any w
  rw [q2] at Q2
  unfold hI at q1 q2
  simp only [Bool.and_eq_true, Bool.not_eq_true', decide_eq_true_eq] at q1 q2
  obtain ⟨rfl, ax, xb⟩ := q1
  obtain ⟨rfl, cy, yd⟩ := q2
  unfold rI at r1 r2
  simp only [Bool.false_eq_true, if_false, Bool.and_eq_true, decide_eq_true_eq] at r1 r2
  obtain ⟨ab, a1, b1⟩ := r1
  obtain ⟨cd, c1, d1⟩ := r2
  have hop : op = 8 ∨ op = 9 ∨ op = 10 ∨ op = 11 := by omega
  have K6 := intTwo_any op hop a b c d a1 ab b1 c1 cd d1
  have K7 := intTwo_any op hop x x y y (by omega) (by omega) (by omega) (by omega) (by omega) (by omega)
  have O1 := of_self x (by omega) (by omega)
  have O2 := of_self y (by omega) (by omega)
  by_cases z : op = 11 ∧ y = 0
  · obtain ⟨rfl, rfl⟩ := z
    rw [range_zero, traps_zero] at K7
    have T := told_zero (a := a) (b := b) cy yd
    refine sis_trap 11 0 0 5 _ _ _ 16 0 0 _ a b c d x 0 h0 h1 R1 R2 Q1 Q2 (fun V => rtwo_zero x V) K6 O1 O2 K7 live_any (by decide) (fun V => (rbit_5 V).mono fun e w' h => below_same h) ?_ ?_ w
    · rcases T with T | T <;> rw [T] <;> decide
    · rcases T with T | T <;> rw [T] <;> decide
  · have ok : okI op x y := ⟨by omega, by omega, by omega, by omega, fun e h => z ⟨e, h⟩⟩
    have K5 := rtwo_any op x y hop ok
    have g1 := range_one (op := op) (x := x) (y := y) hop (by omega) (by omega) z
    have g2 := traps_one (op := op) (x := x) (y := y) hop (by omega) (by omega) z
    unfold wholeV at K5
    cases hv : in32 (gI op x y)
    · rw [hv] at g1 g2 K5
      simp only [Bool.false_eq_true, if_false] at g1 g2 K5
      rw [g1, g2] at K7
      have T := told_over (a := a) (b := b) (c := c) (d := d) hop ax xb cy yd c1 d1 z hv
      refine sis_trap op 0 0 4 _ _ _ 8 0 0 _ a b c d x y h0 h1 R1 R2 Q1 Q2 K5 K6 O1 O2 K7 live_any (by decide) (fun V => (rbit_4 V).mono fun e w' h => below_same h) ?_ ?_ w
      · rcases T with T | T <;> rw [T] <;> decide
      · rcases T with T | T <;> rw [T] <;> decide
    · rw [hv] at g1 g2 K5
      simp only [if_true] at g1 g2 K5
      rw [g1, g2] at K7
      have iv := of_decide_eq_true hv
      have hr := in_range (a := a) (b := b) (c := c) (d := d) hop ax xb cy yd c1 d1 z hv
      refine sis_ok op 1 (gI op x y) _ _ _ _ a b c d x y h0 h1 R1 R2 Q1 Q2 K5 K6 O1 O2 K7 live_any (fun V => ?_) (of_self _ (by omega) (by omega)) w
      rw [← hr]
      have hd := rangeI_dom op a b c d
      exact intHas_of _ _ _ _ _ (fun V' => has_i (acts_i V') _ _ _ _ (domI_of (by omega) (by omega)) (domI_of (by omega) (by omega)) (domI_of (x := gI op x y) (by omega) (by omega)) (show WyI.dom (gI op x y) from domI_of (by omega) (by omega)) V' (Below.refl _ _)) V
end Go.Proofs.YtagbkgaacfjlaaaGreat

