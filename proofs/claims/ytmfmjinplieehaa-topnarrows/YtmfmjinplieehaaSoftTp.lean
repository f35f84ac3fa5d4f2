/- The tests of plumblinetop: which one is not above; the sure test; the format. -/
import Derived.Test.YtmfmjinplieehaaSoftTo
import Derived.Test.YtmfmjinplieehaaSoftMo
import Derived.Test.YtmfmjinplieehaaSoftLive
import Derived.Test.YtmfmjinplieehaaSRefF
namespace Go.Proofs.Ytmfmjinplieehaa
open Go.RowKit
set_option linter.unusedVariables false
set_option linter.unusedSimpArgs false
/-- Is a float not above another one? -/
def notF (s : Bool) (a b : Int) : Bool := (cmpF s a b).2 && decide ((cmpF s a b).1 ≤ 0)
theorem not_any (s : Bool) (a b : Int) (h1 : Word a) (h2 : Word b) (w : World) : Calls Try.prog 30 #[.int .i64 (fb s), .int .u64 a, .int .u64 b] w fun e w' => e = .returned (.bool (notF s a b)) ∧ Below w.heap.size w w' := by
  have hc := compare_fl (fb s) a b h1 h2
  rw [fb_back] at hc
  unfold notF
  generalize (cmpF s a b).1 = k at *
  generalize (cmpF s a b).2 = o at *
  generalize fb s = f at *
  cases o
  · go_enter Try.func30, Try.ntmps30
    go_wp2_with fail
    refine (hc _).mono ?_
    rintro e w1 ⟨rfl, hb⟩
    go_wp2_with fail
    go_ret
    exact ⟨rfl, hb⟩
  · rw [Bool.true_and]
    go_enter Try.func30, Try.ntmps30
    go_wp2_with fail
    refine (hc _).mono ?_
    rintro e w1 ⟨rfl, hb⟩
    go_wp2_with fail
    all_goals go_ret
    all_goals exact ⟨rfl, hb⟩
theorem cmp_num {s : Bool} {b c : Bool} {y z : Nat} (h : (y : Int) ≤ fI s) (k : (z : Int) ≤ fI s) (hb : b = false) (hc : c = false) (l : y ≤ z) : notF s (sgnd s b y) (sgnd s c z) = true := by
  subst hb hc
  have q := cmp_made s false false y z (by omega) h (by omega) k
  simp only [Bool.false_eq_true, if_false] at q
  unfold notF
  rw [q]
  simp
  split
  · decide
  · rw [if_neg (by omega)]; decide
theorem pos_of (s : Bool) (a : Int) (h : Word a) (f : finF s a = true) (n : notF s a 0 = false) : ∃ z : Nat, z ≠ 0 ∧ (z : Int) < fI s ∧ a = sgnd s false z := by
  have i0 := fI_pos s
  have l := fI_lt s
  rcases num_or s a h with c | ⟨b, z, rfl, z0, z1⟩
  · unfold finF at f
    rcases Bool.or_eq_true _ _ ▸ c with t | t
    · rw [beq_iff_eq.1 t] at f; exact absurd f (by decide)
    · rw [beq_iff_eq.1 t] at f; exact absurd f (by decide)
  · have q := cmp_made s b false z 0 z0 z1 (Int.le_refl _) i0
    have e0 : sgnd s false 0 = 0 := rfl
    rw [e0] at q
    obtain ⟨k, rfl⟩ := Int.eq_ofNat_of_zero_le z0
    have z2 : ¬ (k : Int) = fI s := by
      intro t
      unfold finF at f
      rw [cls_made s b k z0 (by omega), if_neg (by omega), if_pos t] at f
      exact absurd f (by decide)
    cases b
    · refine ⟨k, ?_, by omega, rfl⟩
      intro t
      subst t
      unfold notF at n
      rw [q] at n
      simp at n
    · unfold notF at n
      rw [q] at n
      simp only [if_true, Bool.false_eq_true, if_false, Bool.true_and, decide_eq_false_iff_not] at n
      exact absurd (show (if -(k : Int) < 0 then (-1 : Int) else if 0 < -(k : Int) then 1 else 0) ≤ 0 by split; decide; rw [if_neg (by omega)]; decide) n
end Go.Proofs.Ytmfmjinplieehaa

