/- What conv's infinite, convert, Widen, Narrow, Plain and FromInt answer. -/
import Derived.Test.YtfdinlomlcnjnaaConvA
import Derived.Test.YtfdinlomlcnjnaaSRefC
namespace Go.Proofs.Ytfdinlomlcnjnaa
open Go.RowKit
set_option linter.unusedVariables false
set_option linter.unusedSimpArgs false
theorem u64r_eq' {a b : Int} (h : a = b) : Ending.returned (Value.int IntKind.u64 a) = .returned (.int .u64 b) := by rw [h]
theorem neg_inf (s : Bool) : negF s (fI s) = sgnd s true (fI s) := by cases s <;> rfl
theorem word_inf (s : Bool) : Word (fI s) := by cases s <;> exact ⟨by decide, by decide⟩
/-- A float of one format as one of another, rounded. -/
def cvtF (s t : Bool) (m a : Int) : Int := if (cls s a == 0 || cls s a == 5) then fNan t else if cls s a == 4 then sgnd t (sgn s a) (fI t) else rnd t m (sgn s a) (whl s a).toNat (pwr s a)
theorem kinds3 (k : Int) : ((k == 0 || k == 5) = true ∧ (k == 4) = false ∧ k = 0) ∨ ((k == 0 || k == 5) = true ∧ (k == 4) = false ∧ k = 5) ∨ ((k == 0 || k == 5) = false ∧ (k == 4) = true ∧ k = 4) ∨ ((k == 0 || k == 5) = false ∧ (k == 4) = false ∧ (k == 0) = false ∧ (k == 5) = false ∧ ¬ k = 4) := by
  by_cases c1 : k = 0
  · subst c1; decide
  · by_cases c2 : k = 5
    · subst c2; decide
    · by_cases c3 : k = 4
      · subst c3; decide
      · simp [c1, c2, c3]
theorem fin_wordC {s : Bool} {u p : Int} (h : Fin s u p) : Word u ∧ u < 9007199254740992 ∧ -1074 ≤ p ∧ p ≤ 2000 := by
  obtain ⟨a, b, c, d, e⟩ := h
  cases s
  · have b' : u < 9007199254740992 := b
    have c' : -1074 ≤ p := c
    exact ⟨⟨a, by omega⟩, b', c', d⟩
  · have b' : u < 16777216 := b
    have c' : -149 ≤ p := c
    exact ⟨⟨a, by omega⟩, by omega, by omega, d⟩
theorem below_callC {w W w1 : World} (h : Below w.heap.size w W) (hb : Below W.heap.size W w1) : Below w.heap.size w w1 := h.trans (hb.mono h.size)
/-- Without the sign of 0. -/
def plainF (s : Bool) (a : Int) : Int := if (cls s a == 0 || cls s a == 5) then fNan s else if cls s a == 1 then 0 else a
theorem kindsP (k : Int) : ((k == 0 || k == 5) = true ∧ (k == 1) = false ∧ k = 0) ∨ ((k == 0 || k == 5) = true ∧ (k == 1) = false ∧ k = 5) ∨ ((k == 0 || k == 5) = false ∧ (k == 1) = true ∧ k = 1) ∨ ((k == 0 || k == 5) = false ∧ (k == 1) = false ∧ (k == 0) = false ∧ (k == 5) = false ∧ ¬ k = 1) := by
  by_cases c1 : k = 0
  · subst c1; decide
  · by_cases c2 : k = 5
    · subst c2; decide
    · by_cases c3 : k = 1
      · subst c3; decide
      · simp [c1, c2, c3]
theorem plain_any (f a : Int) (h : Word a) (w : World) : Calls Try.prog 14 #[.int .i64 f, .int .u64 a] w fun e w' => e = .returned (.int .u64 (plainF (f == 1) a)) ∧ Below w.heap.size w w' := by
  have hcl := class_fl f a h
  have hnan := nan_fl f
  have K := kindsP (cls (f == 1) a)
  unfold plainF
  generalize (cls (f == 1) a == 0 || cls (f == 1) a == 5) = N1 at *
  generalize (cls (f == 1) a == 1) = Z1 at *
  generalize cls (f == 1) a = k at *
  generalize fNan (f == 1) = Q at *
  rcases K with ⟨rfl, rfl, rfl⟩ | ⟨rfl, rfl, rfl⟩ | ⟨rfl, rfl, rfl⟩ | ⟨rfl, rfl, k0, k5, k1⟩
  case inr.inr.inr =>
    have k1' : (k == 1) = false := by simp [k1]
    go_enter Try.func14, Try.ntmps14
    go_wp2_with (go_at_call 44; refine (hcl _).mono ?_; rintro e wc ⟨rfl, hb⟩)
    go_ret
    exact ⟨rfl, hb⟩
  case inr.inr.inl =>
    go_enter Try.func14, Try.ntmps14
    go_wp2_with (go_at_call 44; refine (hcl _).mono ?_; rintro e wc ⟨rfl, hb⟩)
    go_ret
    exact ⟨rfl, hb⟩
  all_goals
    go_enter Try.func14, Try.ntmps14
    go_wp2_with (first
      | (go_at_call 44; refine (hcl _).mono ?_; rintro e wc ⟨rfl, hb⟩)
      | (go_at_call 45; refine (hnan _).mono ?_; rintro e wd ⟨rfl, hd⟩))
    go_ret
    exact ⟨rfl, below_callC hb hd⟩
/-- An int as a float. -/
theorem fromInt_any (f m n : Int) (h1 : -9223372036854775808 ≤ n) (h2 : n ≤ 9223372036854775807) (w : World) :
    Calls Try.prog 11 #[.int .i64 f, .int .i64 m, .int .i64 n] w fun e w' => e = .returned (.int .u64 (rnd (f == 1) m (decide (n < 0)) n.natAbs 0)) ∧ Below w.heap.size w w' := by
  have hz : ∀ u : Int, 0 ≤ u → nn 0 u = u.toNat := fun u hu => by unfold nn num; congr 1; omega
  have hc0 : clamp 0 = 0 := rfl
  by_cases c : n < 0
  · have wn : Word (-n) := ⟨by omega, by omega⟩
    have hr := round_any f m true 0 (-n) 0 false word_zero wn (by decide) (by decide)
    rw [hc0, hz (-n) (by omega), rndQ_false, show (-n).toNat = n.natAbs by omega] at hr
    rw [decide_eq_true c]
    generalize rnd (f == 1) m true n.natAbs 0 = V at *
    have e1 : IntKind.u64.wrap n = n + 18446744073709551616 := by rw [IntKind.wrap_u64]; omega
    have e2 : IntKind.u64.wrap (-(n + 18446744073709551616)) = -n := by rw [IntKind.wrap_u64]; omega
    go_enter Try.func11, Try.ntmps11
    go_wp2_with (go_at_call 36; refine (hr _).mono ?_; rintro e wd ⟨rfl, hd⟩)
    go_ret
    exact ⟨rfl, hd⟩
  · have wn : Word n := ⟨by omega, by omega⟩
    have hr := round_any f m false 0 n 0 false word_zero wn (by decide) (by decide)
    rw [hc0, hz n (by omega), rndQ_false, show n.toNat = n.natAbs by omega] at hr
    rw [decide_eq_false c]
    generalize rnd (f == 1) m false n.natAbs 0 = V at *
    have c' : 0 ≤ n := by omega
    have e1 : IntKind.u64.wrap n = n := by rw [IntKind.wrap_u64]; omega
    go_enter Try.func11, Try.ntmps11
    go_wp2_with (go_at_call 36; refine (hr _).mono ?_; rintro e wd ⟨rfl, hd⟩)
    go_ret
    exact ⟨rfl, hd⟩
end Go.Proofs.Ytfdinlomlcnjnaa

