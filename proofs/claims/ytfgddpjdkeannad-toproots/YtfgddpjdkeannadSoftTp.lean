/- The tests of plumblinetop: which one is not above; the sure test; the format. -/
import Derived.Test.YtfgddpjdkeannadSoftTo
import Derived.Test.YtfgddpjdkeannadSoftMo
import Derived.Test.YtfgddpjdkeannadSoftLive
import Derived.Test.YtfgddpjdkeannadSRefF
namespace Go.Proofs.Ytfgddpjdkeannad
open Go.RowKit
set_option linter.unusedVariables false
set_option linter.unusedSimpArgs false
theorem tformat_any (f : Int) (w : World) : Calls Try.prog 17 #[.int .i64 f] w fun e w' => e = .returned (.int .i64 (fb (f == 1))) ∧ w' = w := by
  by_cases c : f = 1
  · subst c
    go_enter Try.func17, Try.ntmps17
    go_wp2_with fail
    go_ret
    exact ⟨rfl, rfl⟩
  · have c' : (f == 1) = false := by simp [c]
    rw [c']
    go_enter Try.func17, Try.ntmps17
    go_wp2_with fail
    go_ret
    exact ⟨rfl, rfl⟩
/-- Is a float not above another one? -/
def notF (s : Bool) (a b : Int) : Bool := (cmpF s a b).2 && decide ((cmpF s a b).1 ≤ 0)
theorem not_any (s : Bool) (a b : Int) (h1 : Word a) (h2 : Word b) (w : World) : Calls Try.prog 19 #[.int .i64 (fb s), .int .u64 a, .int .u64 b] w fun e w' => e = .returned (.bool (notF s a b)) ∧ Below w.heap.size w w' := by
  have hc := compare_fl (fb s) a b h1 h2
  rw [fb_back] at hc
  unfold notF
  generalize (cmpF s a b).1 = k at *
  generalize (cmpF s a b).2 = o at *
  generalize fb s = f at *
  cases o
  · go_enter Try.func19, Try.ntmps19
    go_wp2_with fail
    refine (hc _).mono ?_
    rintro e w1 ⟨rfl, hb⟩
    go_wp2_with fail
    go_ret
    exact ⟨rfl, hb⟩
  · rw [Bool.true_and]
    go_enter Try.func19, Try.ntmps19
    go_wp2_with fail
    refine (hc _).mono ?_
    rintro e w1 ⟨rfl, hb⟩
    go_wp2_with fail
    all_goals go_ret
    all_goals exact ⟨rfl, hb⟩
theorem sound_any (w : World) : Calls Try.prog 20 #[] w fun e w' => e = .returned (.bool true) ∧ Below w.heap.size w w' := by
  have d3 := add_fl 0 0 4607182418800017408 4607182418800017408 word_one word_one
  have z : ((0 : Int) == 1) = false := rfl
  rw [z, live_3] at d3
  have hq := eql_u128
  have hm := mul_any 3 5 ⟨by decide, by decide⟩ ⟨by decide, by decide⟩
  go_enter Try.func20, Try.ntmps20
  go_wp2_with fail
  refine (d3 _).mono ?_
  rintro e w1 ⟨rfl, hb1⟩
  go_wp2_with fail
  refine (hm _).mono ?_
  rintro e w2 ⟨h, l, rfl, wh, wl, E, hb2⟩
  obtain ⟨rfl, rfl⟩ := num_inj wh wl word_zero ⟨by decide, by decide⟩ (E.out.trans (show (3 : Int) * 5 = num 0 15 by decide))
  have q : eq2 0 15 0 15 = true := rfl
  clear E
  go_wp2_with fail
  go_ret
  exact ⟨rfl, below_call hb1 hb2⟩
theorem cmp_num {s : Bool} {b c : Bool} {y z : Nat} (h : (y : Int) ≤ fI s) (k : (z : Int) ≤ fI s) (hb : b = false) (hc : c = false) (l : y ≤ z) : notF s (sgnd s b y) (sgnd s c z) = true := by
  subst hb hc
  have q := cmp_made s false false y z (by omega) h (by omega) k
  simp only [Bool.false_eq_true, if_false] at q
  unfold notF
  rw [q]
  simp
  split
  · decide
  · rw [if_neg (by omega)]; decide
theorem pos_of (s : Bool) (a : Int) (h : Word a) (f : finF s a = true) (n : notF s a 0 = false) : ∃ z : Nat, z ≠ 0 ∧ (z : Int) < fI s ∧ a = sgnd s false z := by
  have i0 := fI_pos s
  have l := fI_lt s
  rcases num_or s a h with c | ⟨b, z, rfl, z0, z1⟩
  · unfold finF at f
    rcases Bool.or_eq_true _ _ ▸ c with t | t
    · rw [beq_iff_eq.1 t] at f; exact absurd f (by decide)
    · rw [beq_iff_eq.1 t] at f; exact absurd f (by decide)
  · have q := cmp_made s b false z 0 z0 z1 (Int.le_refl _) i0
    have e0 : sgnd s false 0 = 0 := rfl
    rw [e0] at q
    obtain ⟨k, rfl⟩ := Int.eq_ofNat_of_zero_le z0
    have z2 : ¬ (k : Int) = fI s := by
      intro t
      unfold finF at f
      rw [cls_made s b k z0 (by omega), if_neg (by omega), if_pos t] at f
      exact absurd f (by decide)
    cases b
    · refine ⟨k, ?_, by omega, rfl⟩
      intro t
      subst t
      unfold notF at n
      rw [q] at n
      simp at n
    · unfold notF at n
      rw [q] at n
      simp only [if_true, Bool.false_eq_true, if_false, Bool.true_and, decide_eq_false_iff_not] at n
      exact absurd (show (if -(k : Int) < 0 then (-1 : Int) else if 0 < -(k : Int) then 1 else 0) ≤ 0 by split; decide; rw [if_neg (by omega)]; decide) n
end Go.Proofs.Ytfgddpjdkeannad
