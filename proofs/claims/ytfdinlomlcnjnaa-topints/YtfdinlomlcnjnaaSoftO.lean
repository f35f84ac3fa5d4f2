/- Roots; which one of two is less; what a float is. -/
import Derived.Test.YtfdinlomlcnjnaaSoftN
namespace Go.Proofs.Ytfdinlomlcnjnaa
open Go.RowKit
set_option linter.unusedVariables false
set_option linter.unusedSimpArgs false
/-- A number that grows as the floats do. -/
def rnk (s : Bool) (a : Int) : Int := if sgn s a then -(zOf s a) else zOf s a
theorem zOf_small (s : Bool) (a : Int) (h : Word a) (c : (cls s a == 0 || cls s a == 5) = false) : zOf s a ≤ fI s := by
  simp only [Bool.or_eq_false_iff, beq_eq_false_iff_ne, ne_eq] at c
  obtain ⟨k0, k5⟩ := c
  unfold cls at k0 k5
  have w : wideB s a = false := by
    cases t : wideB s a
    · rfl
    · rw [t] at k0; simp at k0
  rw [w] at k5
  simp only [Bool.false_eq_true, if_false] at k5
  by_cases t : fI s < zOf s a
  · rw [if_pos t] at k5; exact absurd rfl k5
  · omega
/-- Which one is less; is each a number? -/
def cmpF (s : Bool) (a b : Int) : Int × Bool :=
  if (cls s a == 0 || cls s a == 5) || (cls s b == 0 || cls s b == 5) then (0, false)
  else (if rnk s a < rnk s b then -1 else if rnk s b < rnk s a then 1 else 0, true)
theorem fI_i64 (s : Bool) : fI s ≤ 9223372036854775807 := by cases s <;> decide
theorem class_fl (f a : Int) (h1 : Word a) (w : World) :
    Calls Try.prog 44 #[.int .i64 f, .int .u64 a] w fun r w' => r = .returned (.int .i64 (cls (f == 1) a)) ∧ Below w.heap.size w w' := by
  have hda : ∀ (w : World) (n : Nat) (o : Obj), (w.drewN n).alloc o = (w.alloc o).drewN n := fun _ _ _ => rfl
  have hfo := formatOf_ex f
  generalize (f == 1) = s at *
  have hc := class_any s a h1
  rw [fmtV_eq] at hfo hc
  generalize cls s a = k at *
  go_enter Try.func44, Try.ntmps44
  go_wp2_with (first
    | (go_at_call 16; refine (hfo _).mono ?_; rintro r w1 ⟨rfl, o1, o2, rfl⟩)
    | (go_at_call 47; refine (hc _).mono ?_; rintro r w2 ⟨rfl, rfl⟩))
  go_ret
  exact ⟨rfl, (by repeat (first | with_reducible exact Below.refl _ _ | with_reducible refine below_new ?_ _ | with_reducible refine Below.drew ?_ | with_reducible refine below_dN ?_ _))⟩
/-- Is it a finite float? -/
def finF (s : Bool) (a : Int) : Bool := cls s a == 1 || cls s a == 2 || cls s a == 3
theorem finite_fl (f a : Int) (h1 : Word a) (w : World) :
    Calls Try.prog 41 #[.int .i64 f, .int .u64 a] w fun r w' => r = .returned (.bool (finF (f == 1) a)) ∧ Below w.heap.size w w' := by
  have hc := class_fl f a h1
  generalize (f == 1) = s at *
  unfold finF
  generalize cls s a = k at *
  by_cases c1 : k = 1
  · subst c1
    go_enter Try.func41, Try.ntmps41
    go_wp2_with fail
    refine (hc _).mono ?_
    rintro r w1 ⟨rfl, hb1⟩
    go_wp2_with fail
    go_ret
    exact ⟨rfl, hb1⟩
  · by_cases c2 : k = 2
    · subst c2
      go_enter Try.func41, Try.ntmps41
      go_wp2_with fail
      refine (hc _).mono ?_
      rintro r w1 ⟨rfl, hb1⟩
      go_wp2_with fail
      go_ret
      exact ⟨rfl, hb1⟩
    · by_cases c3 : k = 3
      · subst c3
        go_enter Try.func41, Try.ntmps41
        go_wp2_with fail
        refine (hc _).mono ?_
        rintro r w1 ⟨rfl, hb1⟩
        go_wp2_with fail
        go_ret
        exact ⟨rfl, hb1⟩
      · have d1 : (k == 1) = false := by simp [c1]
        have d2 : (k == 2) = false := by simp [c2]
        have d3 : (k == 3) = false := by simp [c3]
        rw [d1, d2, d3]
        go_enter Try.func41, Try.ntmps41
        go_wp2_with fail
        refine (hc _).mono ?_
        rintro r w1 ⟨rfl, hb1⟩
        go_wp2_with fail
        go_ret
        exact ⟨rfl, hb1⟩
end Go.Proofs.Ytfdinlomlcnjnaa

