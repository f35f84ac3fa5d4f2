/- Ranges of floats: what the program tells is what the reference tells; plain functions alone. -/
import Derived.Test.YteafnkimcidkhaaGreatFlO
import Derived.Test.YteafnkimcidkhaaGreatSpRh
import Derived.Test.YteafnkimcidkhaaGreatSpDp
namespace Go.Proofs.YteafnkimcidkhaaGreat
set_option linter.unusedVariables false
set_option linter.unusedSimpArgs false
/-- A number. -/
def Num (s : Bool) (a : Int) : Prop := (cls s a == 0 || cls s a == 5) = false
theorem ordN {s : Bool} {a b : Int} (h1 : Num s a) (h2 : Num s b) : (WyF s).ord a b = cmpI (rnk s a) (rnk s b) := by
  show (cmpF s a b).1 = _
  unfold cmpF
  rw [h1, h2]
  rfl
theorem lessN {s : Bool} {a b : Int} (h1 : Num s a) (h2 : Num s b) : lessF s a b = decide (rnk s a < rnk s b) := by
  unfold lessF cmpF
  rw [h1, h2]
  simp only [Bool.or_self, Bool.false_eq_true, if_false, Bool.true_and]
  rw [decide_eq_decide]
  split
  · simp [*]
  · split <;> omega
theorem num_0 (s : Bool) : Num s 0 := by unfold Num; cases s <;> decide +kernel
theorem num_fin {s : Bool} {a : Int} (h : finF s a = true) : Num s a := (n_num h).1
theorem one_iff (s : Bool) (a : Int) : (WyF s).one a = (finF s a && (plainF s a == a)) := rfl
theorem right_same (s : Bool) (e : Bool) (a b : Int) : rightP (WyF s) (e, a, b) = rRF s e a b := by
  unfold rightP rRF
  cases e
  · simp only [Bool.false_eq_true, if_false]
    rw [one_iff, one_iff]
    cases fa : finF s a
    · simp
    · cases fb : finF s b
      · simp
      · rw [ordN (num_fin fa) (num_fin fb), lessN (num_fin fb) (num_fin fa)]
        have k : decide (cmpI (rnk s a) (rnk s b) ≤ 0) = !decide (rnk s b < rnk s a) := by
          unfold cmpI
          rw [Bool.eq_iff_iff]
          simp
          split <;> (try split) <;> omega
        rw [k]
        cases (plainF s a == a) <;> cases (plainF s b == b) <;> simp
  · rfl
theorem of_same (s : Bool) (x y : Int) : ofP (WyF s) x y = rOfF s x y := by
  unfold ofP rOfF
  rw [right_same]
  rfl
theorem top_same (s : Bool) : rOfF s (negF s (fI s - 1)) (fI s - 1) = (false, negF s (fI s - 1), fI s - 1) := by cases s <;> decide +kernel
/-- The ends of a right range are numbers. -/
theorem right_num {s e : Bool} {a b : Int} (h : rRF s e a b = true) : Num s a ∧ Num s b ∧ (e = true → a = 0 ∧ b = 0) := by
  unfold rRF at h
  cases e
  · simp only [Bool.false_eq_true, if_false, Bool.and_eq_true] at h
    exact ⟨num_fin h.1, num_fin h.2.1, fun q => by cases q⟩
  · simp only [if_true, Bool.and_eq_true, beq_iff_eq] at h
    obtain ⟨rfl, rfl⟩ := h
    exact ⟨num_0 s, num_0 s, fun _ => ⟨rfl, rfl⟩⟩
theorem one_plain (s : Bool) (x : Int) (hx : Word x) : (WyF s).one (plainF s x) = finF s x := by
  rw [one_iff]
  cases f : finF s x
  · have : finF s (plainF s x) = false := by
      unfold plainF
      split
      · exact (n_nan s).1
      · split
        · rename_i c
          unfold finF at f
          simp at c
          rw [c] at f
          simp at f
        · exact f
    rw [this]; rfl
  · obtain ⟨b, z, rfl, hz⟩ := n_made s x hx f
    rw [n_plain s b z hz]
    split
    · have t := fI_two s
      rw [show (0 : Int) = sgnd s false ((0 : Nat) : Int) from rfl, n_fin s false 0 (by omega), n_plain s false 0 (by omega)]
      simp
      rfl
    · rename_i c
      rw [n_fin s b z hz, n_plain s b z hz, if_neg c]
      simp
theorem has_same {s e : Bool} {a b x : Int} (hx : Word x) (na : Num s a) (nb : Num s b) : hasP (WyF s) (e, a, b) x = hRF s e a b x := by
  unfold hasP hRF
  rw [show (WyF s).pl x = plainF s x from rfl, one_plain s x hx]
  cases f : finF s x
  · simp
  · have nx := num_fin f
    rw [ordN na nx, ordN nx nb, lessN nx na, lessN nb nx]
    have k : ∀ p q : Int, decide (cmpI p q ≤ 0) = !decide (q < p) := fun p q => by
      unfold cmpI
      rw [Bool.eq_iff_iff]
      simp
      split <;> (try split) <;> omega
    rw [k, k]
theorem pos_cmp (p q : Int) : (0 < cmpI p q) ↔ q < p := by unfold cmpI; split <;> (try split) <;> omega
theorem neg_cmp (p q : Int) : (cmpI p q < 0) ↔ p < q := by unfold cmpI; split <;> (try split) <;> omega
theorem le_cmp (p q : Int) : (cmpI p q ≤ 0) ↔ p ≤ q := by unfold cmpI; split <;> (try split) <;> omega
theorem ge_cmp (p q : Int) : (0 ≤ cmpI p q) ↔ q ≤ p := by unfold cmpI; split <;> (try split) <;> omega
theorem grt_less {s : Bool} {a c : Int} (na : Num s a) (nc : Num s c) : grt (WyF s) a c = if lessF s a c then c else a := by
  unfold grt
  rw [ordN nc na, lessN na nc]
  by_cases h : rnk s a < rnk s c
  · rw [if_pos ((pos_cmp _ _).2 h), if_pos (by simpa using h)]
  · rw [if_neg (mt (pos_cmp _ _).1 h), if_neg (by simpa using h)]
theorem sml_less {s : Bool} {a c : Int} (na : Num s a) (nc : Num s c) : sml (WyF s) a c = if lessF s c a then c else a := by
  unfold sml
  rw [ordN nc na, lessN nc na]
  by_cases h : rnk s c < rnk s a
  · rw [if_pos ((neg_cmp _ _).2 h), if_pos (by simpa using h)]
  · rw [if_neg (mt (neg_cmp _ _).1 h), if_neg (by simpa using h)]
theorem meet_same {s e1 e2 : Bool} {a b c d : Int} (na : Num s a) (nb : Num s b) (nc : Num s c) (nd : Num s d) : meetP (WyF s) (e1, a, b) (e2, c, d) = rMeetF s (e1, a, b) (e2, c, d) := by
  unfold meetP rMeetF
  dsimp only
  rw [grt_less na nc, sml_less nb nd]
  cases e1
  · cases e2
    · simp only [Bool.or_self, Bool.false_or, Bool.false_eq_true, if_false]
      have n1 : Num s (if lessF s a c then c else a) := by split <;> assumption
      have n2 : Num s (if lessF s d b then d else b) := by split <;> assumption
      generalize (if lessF s a c = true then c else a) = lo at *
      generalize (if lessF s d b = true then d else b) = hi at *
      rw [ordN n1 n2, lessN n2 n1]
      by_cases h : rnk s hi < rnk s lo
      · rw [if_pos (by simpa using (pos_cmp _ _).2 h), if_pos (by simpa using h)]
      · rw [if_neg (by simpa using mt (pos_cmp _ _).1 h), if_neg (by simpa using h)]
    · simp
  · simp
theorem join_same {s e1 e2 : Bool} {a b c d : Int} (na : Num s a) (nb : Num s b) (nc : Num s c) (nd : Num s d) : joinP (WyF s) (e1, a, b) (e2, c, d) = rJoinF s (e1, a, b) (e2, c, d) := by
  unfold joinP rJoinF
  dsimp only
  rw [sml_less na nc, grt_less nb nd]
theorem within_same {s e1 e2 : Bool} {a b c d : Int} (na : Num s a) (nb : Num s b) (nc : Num s c) (nd : Num s d) : withinP (WyF s) (e1, a, b) (e2, c, d) = rWithinF s (e1, a, b) (e2, c, d) := by
  unfold withinP rWithinF
  dsimp only
  rw [ordN nc na, ordN nb nd, lessN na nc, lessN nd nb]
  have k : ∀ p q : Int, decide (cmpI p q ≤ 0) = !decide (q < p) := fun p q => by
    rw [Bool.eq_iff_iff]
    simp [le_cmp]
  rw [k, k]
  cases e1 <;> cases e2 <;> simp
theorem widen_same {s e1 e2 : Bool} {a b c d : Int} (na : Num s a) (nb : Num s b) (nc : Num s c) (nd : Num s d) : widenP (WyF s) (LnF s 0 0) (e1, a, b) (e2, c, d) [0] = rWidenF s (e1, a, b) (e2, c, d) := by
  have t := fI_two s
  have nz := num_0 s
  have z1 : (WyF s).one 0 = true := one_mk (r := 0) (by omega) (by omega)
  have r0 : rnk s 0 = 0 := mk_rnk (r := 0) (by omega) (by omega)
  have nl : Num s (negF s (fI s - 1)) := by unfold Num; cases s <;> decide +kernel
  have nm : Num s (fI s - 1) := by unfold Num; cases s <;> decide +kernel
  have rl : rnk s (negF s (fI s - 1)) = -(fI s - 1) := by rw [least_mk]; exact mk_rnk (by omega) (by omega)
  have rm : rnk s (fI s - 1) = fI s - 1 := by
    have := mk_rnk (s := s) (r := fI s - 1) (by omega) (by omega)
    rwa [← most_mk] at this
  have lo : lowP (WyF s) (LnF s 0 0) c [0] = if lessF s c 0 then negF s (fI s - 1) else 0 := by
    unfold lowP
    simp only [List.foldl_cons, List.foldl_nil]
    rw [show (LnF s 0 0).least = negF s (fI s - 1) from rfl, z1, ordN nz nc, lessN nc nz, grt_less nl nz, lessN nl nz, rl, r0]
    rw [show (if decide (-(fI s - 1) < 0) = true then (0 : Int) else negF s (fI s - 1)) = 0 from if_pos (by simp; omega)]
    by_cases h : rnk s c < 0
    · rw [if_neg (by simp [le_cmp]; omega), if_pos (by simpa using h)]
    · rw [if_pos (by simp [le_cmp]; omega), if_neg (by simpa using h)]
  have hi : highP (WyF s) (LnF s 0 0) d [0] = if lessF s 0 d then fI s - 1 else 0 := by
    unfold highP
    simp only [List.foldl_cons, List.foldl_nil]
    rw [show (LnF s 0 0).most = fI s - 1 from rfl, z1, ordN nz nd, lessN nz nd, sml_less nm nz, lessN nz nm, rm, r0]
    rw [show (if decide (0 < fI s - 1) = true then (0 : Int) else fI s - 1) = 0 from if_pos (by simp; omega)]
    by_cases h : 0 < rnk s d
    · rw [if_neg (by simp [ge_cmp]; omega), if_pos (by simpa using h)]
    · rw [if_pos (by simp [ge_cmp]; omega), if_neg (by simpa using h)]
  unfold widenP rWidenF
  dsimp only
  rw [lo, hi]
  cases e1
  · cases e2
    · simp only [Bool.or_self, Bool.false_eq_true, if_false]
      rw [ordN nc na, ordN nd nb, lessN nc na, lessN nb nd]
      have x1 : ∀ (u v : Int), (if 0 ≤ cmpI (rnk s c) (rnk s a) then u else v) = if decide (rnk s c < rnk s a) = true then v else u := fun u v => by
        by_cases h : rnk s c < rnk s a
        · rw [if_neg (by rw [ge_cmp]; omega), if_pos (by simpa using h)]
        · rw [if_pos (by rw [ge_cmp]; omega), if_neg (by simpa using h)]
      have x2 : ∀ (u v : Int), (if cmpI (rnk s d) (rnk s b) ≤ 0 then u else v) = if decide (rnk s b < rnk s d) = true then v else u := fun u v => by
        by_cases h : rnk s b < rnk s d
        · rw [if_neg (by rw [le_cmp]; omega), if_pos (by simpa using h)]
        · rw [if_pos (by rw [le_cmp]; omega), if_neg (by simpa using h)]
      rw [x1, x2]
    · simp [joinP]
  · simp [joinP]
end Go.Proofs.YteafnkimcidkhaaGreat

