/- Floats by their rank: the float of a rank, its order, its neighbours; plain functions alone. -/
import Derived.Test.YteafnkimcidkhaaGreatSpF
import Derived.Test.YteafnkimcidkhaaGreatMB3
import Derived.Test.YteafnkimcidkhaaGreatSpS
namespace Go.Proofs.YteafnkimcidkhaaGreat
set_option linter.unusedVariables false
set_option linter.unusedSimpArgs false
/-- The float, without -0, of a rank. -/
def mk (s : Bool) (r : Int) : Int := if r < 0 then sgnd s true (-r) else r
theorem fI_two (s : Bool) : 2 < fI s := by cases s <;> decide
theorem mk_zero (s : Bool) : mk s 0 = 0 := rfl
theorem mk_made (s : Bool) (r : Int) : ∃ b : Bool, mk s r = sgnd s b (if r < 0 then -r else r) ∧ (b = true ↔ r < 0) := by
  unfold mk
  by_cases h : r < 0
  · exact ⟨true, by simp [h], by simp [h]⟩
  · exact ⟨false, by simp [h, sgnd], by simp [h]⟩
theorem mk_word {s : Bool} {r : Int} (h1 : -fI s ≤ r) (h2 : r ≤ fI s) : Word (mk s r) := by
  obtain ⟨b, e, _⟩ := mk_made s r
  rw [e]
  exact sgnd_word s b _ (by split <;> omega) (by split <;> omega)
theorem mk_rnk {s : Bool} {r : Int} (h1 : -fI s ≤ r) (h2 : r ≤ fI s) : rnk s (mk s r) = r := by
  obtain ⟨b, e, hb⟩ := mk_made s r
  rw [e, rnk_made s b _ (by split <;> omega) (by split <;> omega)]
  cases b
  · have : ¬ r < 0 := fun h => by simpa using hb.2 h
    simp [this]
  · have := hb.1 rfl
    simp [this]
theorem mk_inj {s : Bool} {r q : Int} (h1 : -fI s ≤ r) (h2 : r ≤ fI s) (h3 : -fI s ≤ q) (h4 : q ≤ fI s) (e : mk s r = mk s q) : r = q := by
  rw [← mk_rnk h1 h2, ← mk_rnk h3 h4, e]
theorem cmp_mk {s : Bool} {r q : Int} (h1 : -fI s ≤ r) (h2 : r ≤ fI s) (h3 : -fI s ≤ q) (h4 : q ≤ fI s) : cmpF s (mk s r) (mk s q) = (cmpI r q, true) := by
  obtain ⟨b, e, hb⟩ := mk_made s r
  obtain ⟨c, k, hc⟩ := mk_made s q
  rw [e, k, cmp_made s b c _ _ (by split <;> omega) (by split <;> omega) (by split <;> omega) (by split <;> omega)]
  have f1 : (if b then -(if r < 0 then -r else r) else (if r < 0 then -r else r)) = r := by
    cases b
    · have : ¬ r < 0 := fun h => by simpa using hb.2 h
      simp [this]
    · have := hb.1 rfl
      simp [this]
  have f2 : (if c then -(if q < 0 then -q else q) else (if q < 0 then -q else q)) = q := by
    cases c
    · have : ¬ q < 0 := fun h => by simpa using hc.2 h
      simp [this]
    · have := hc.1 rfl
      simp [this]
  rw [f1, f2]
  rfl
theorem fin_mk {s : Bool} {r : Int} (h1 : -fI s ≤ r) (h2 : r ≤ fI s) : finF s (mk s r) = decide (-fI s < r ∧ r < fI s) := by
  obtain ⟨b, e, hb⟩ := mk_made s r
  rw [e]
  obtain ⟨z, hz⟩ := Int.eq_ofNat_of_zero_le (show 0 ≤ (if r < 0 then -r else r) by split <;> omega)
  by_cases c : -fI s < r ∧ r < fI s
  · rw [decide_eq_true c, hz, n_fin s b z (by rw [← hz]; split <;> omega)]
  · rw [decide_eq_false c]
    have k : cls s (sgnd s b (if r < 0 then -r else r)) = 4 := by
      have l := fI_lt s
      rw [cls_made s b _ (by split <;> omega) (by split <;> omega), if_neg (by split <;> omega), if_pos (by split <;> omega)]
    unfold finF
    rw [k]
    rfl
theorem plain_mk {s : Bool} {r : Int} (h1 : -fI s ≤ r) (h2 : r ≤ fI s) : plainF s (mk s r) = mk s r := by
  obtain ⟨b, e, hb⟩ := mk_made s r
  have l := fI_lt s
  have k := cls_made s b (if r < 0 then -r else r) (by split <;> omega) (by split <;> omega)
  rw [e]
  unfold plainF
  rw [k]
  by_cases z : r = 0
  · subst z
    have : b = false := by
      cases b
      · rfl
      · exact absurd (hb.1 rfl) (by decide)
    subst this
    simp [sgnd]
    have := fI_two s
    split <;> (try split) <;> (try split) <;> simp_all <;> omega
  · have n0 : ¬ (if r < 0 then -r else r) = 0 := by split <;> omega
    have n1 : ¬ fI s < (if r < 0 then -r else r) := by split <;> omega
    rw [if_neg n1, if_neg n0]
    by_cases c : (if r < 0 then -r else r) = fI s
    · rw [if_pos c]; rfl
    · rw [if_neg c]
      by_cases d : (if r < 0 then -r else r) / 2 ^ fP s = 0
      · rw [if_pos d]; rfl
      · rw [if_neg d]; rfl
/-- A number without -0 is one of a rank. -/
theorem num_mk (s : Bool) (a : Int) (h : Word a) (n : (cls s a == 0 || cls s a == 5) = false) : ∃ r, -fI s ≤ r ∧ r ≤ fI s ∧ plainF s a = mk s r := by
  rcases num_or s a h with c | ⟨b, z, rfl, z0, z1⟩
  · rw [n] at c; exact absurd c (by decide)
  · by_cases e : z = 0
    · subst e
      refine ⟨0, by have := fI_two s; omega, by have := fI_two s; omega, ?_⟩
      rw [show (0 : Int) = ((0 : Nat) : Int) from rfl, n_plain s b 0 (by have := fI_two s; omega)]
      rfl
    · refine ⟨if b then -z else z, by split <;> omega, by split <;> omega, ?_⟩
      have m : mk s (if b then -z else z) = sgnd s b z := by
        unfold mk
        cases b
        · have : ¬ z < 0 := by omega
          simp [this, sgnd]
        · have : -z < 0 := by omega
          rw [if_pos rfl, if_pos this, Int.neg_neg]
      rw [← m]
      exact plain_mk (by split <;> omega) (by split <;> omega)
theorem one_mk {s : Bool} {r : Int} (h1 : -fI s < r) (h2 : r < fI s) : (WyF s).one (mk s r) = true := by
  show (finF s (mk s r) && (plainF s (mk s r) == mk s r)) = true
  rw [fin_mk (by omega) (by omega), plain_mk (by omega) (by omega), decide_eq_true ⟨h1, h2⟩]
  simp
theorem one_is {s : Bool} {a : Int} (h : Word a) (o : (WyF s).one a = true) : ∃ r, -fI s < r ∧ r < fI s ∧ a = mk s r := by
  have o' : (finF s a && (plainF s a == a)) = true := o
  simp only [Bool.and_eq_true, beq_iff_eq] at o'
  obtain ⟨r, r1, r2, e⟩ := num_mk s a h (n_num o'.1).1
  rw [o'.2] at e
  subst e
  have f := o'.1
  rw [fin_mk r1 r2] at f
  have := of_decide_eq_true f
  exact ⟨r, this.1, this.2, rfl⟩
theorem ord_mk {s : Bool} {r q : Int} (h1 : -fI s ≤ r) (h2 : r ≤ fI s) (h3 : -fI s ≤ q) (h4 : q ≤ fI s) : (WyF s).ord (mk s r) (mk s q) = WyI.ord r q := by
  show (cmpF s (mk s r) (mk s q)).1 = cmpI r q
  rw [cmp_mk h1 h2 h3 h4]
theorem neg_mk {s : Bool} {r : Int} (h1 : -fI s ≤ r) (h2 : r ≤ fI s) : plainF s (negF s (mk s r)) = mk s (-r) := by
  obtain ⟨b, e, hb⟩ := mk_made s r
  by_cases z : r = 0
  · subst z
    cases s <;> decide +kernel
  · rw [e, neg_made s b _ (by split <;> omega) (by split <;> omega)]
    have m : sgnd s (!b) (if r < 0 then -r else r) = mk s (-r) := by
      unfold mk
      cases b
      · have : ¬ r < 0 := fun h => by simpa using hb.2 h
        have t : -r < 0 := by omega
        rw [if_pos t, if_neg this, Int.neg_neg]
        rfl
      · have := hb.1 rfl
        have t : ¬ -r < 0 := by omega
        rw [if_neg t, if_pos this]
        rfl
    rw [m]
    exact plain_mk (by omega) (by omega)
theorem least_mk (s : Bool) : negF s (fI s - 1) = mk s (-(fI s - 1)) := by cases s <;> decide +kernel
theorem most_mk (s : Bool) : fI s - 1 = mk s (fI s - 1) := by cases s <;> decide +kernel
theorem next_mk {s : Bool} {r : Int} (h1 : -fI s < r) (h2 : r < fI s - 1) : nextF s (mk s r) = mk s (r + 1) := by
  have p := plain_mk (s := s) (r := r) (by omega) (by omega)
  have ne : plainF s (mk s r) ≠ fI s - 1 := by
    rw [p]
    intro e
    rw [most_mk] at e
    have := mk_inj (by omega) (by omega) (by omega) (by omega) e
    omega
  have f : finF s (mk s r) = true := by rw [fin_mk (by omega) (by omega)]; exact decide_eq_true ⟨h1, by omega⟩
  have st := n_step s (mk s r) (mk_word (by omega) (by omega)) f ne
  rw [p] at st
  have one := st.one
  rw [mk_rnk (by omega) (by omega)] at one
  obtain ⟨b, z, e, hz⟩ := n_made s _ st.wn st.fn
  rw [e] at one ⊢
  rw [n_rnk s b z hz] at one
  unfold mk
  cases b
  · have one' : (z : Int) = r + 1 := by simpa using one
    rw [if_neg (by omega)]
    show (z : Int) = r + 1
    omega
  · have one' : -(z : Int) = r + 1 := by simpa using one
    by_cases z0 : z = 0
    · -- -0 is not what is next
      subst z0
      exfalso
      have r1 : r = -1 := by omega
      subst r1
      have e1 := n_neg s 1 (by decide) (by have := fI_two s; omega)
      have m1 : mk s (-1) = sgnd s true ((1 : Nat) : Int) := by unfold mk; simp
      rw [m1, e1] at e
      revert e
      cases s <;> decide
    · rw [if_pos (by omega)]
      congr 1
      omega
theorem prev_mk {s : Bool} {r : Int} (h1 : -(fI s - 1) < r) (h2 : r < fI s) : prevF s (mk s r) = mk s (r - 1) := by
  have st := next_mk (s := s) (r := r - 1) (by omega) (by omega)
  have p := plain_mk (s := s) (r := r - 1) (by omega) (by omega)
  have ne : plainF s (mk s (r - 1)) ≠ fI s - 1 := by
    rw [p]
    intro e
    rw [most_mk] at e
    have := mk_inj (by omega) (by omega) (by omega) (by omega) e
    omega
  have f : finF s (mk s (r - 1)) = true := by rw [fin_mk (by omega) (by omega)]; exact decide_eq_true ⟨by omega, by omega⟩
  have k := n_step s (mk s (r - 1)) (mk_word (by omega) (by omega)) f ne
  rw [p, st, show r - 1 + 1 = r by omega] at k
  exact k.back
end Go.Proofs.YteafnkimcidkhaaGreat

