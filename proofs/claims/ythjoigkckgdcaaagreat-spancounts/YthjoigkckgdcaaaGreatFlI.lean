/- Ranges of ints: what the program tells is what the reference tells; plain functions alone. -/
import Derived.Test.YthjoigkckgdcaaaGreatSpS2
import Derived.Test.YthjoigkckgdcaaaGreatSpDp
import Derived.Test.YthjoigkckgdcaaaGreatSpRj
import Derived.Test.YthjoigkckgdcaaaGreatSpRk
namespace Go.Proofs.YthjoigkckgdcaaaGreat
set_option linter.unusedVariables false
set_option linter.unusedSimpArgs false
theorem iright_same (e : Bool) (a b : Int) : rightP WyI (e, a, b) = rI e a b := by
  unfold rightP rI
  cases e
  · simp only [Bool.false_eq_true, if_false]
    rw [show WyI.one = in32 from rfl]
    rw [Bool.eq_iff_iff]
    simp only [Bool.and_eq_true, decide_eq_true_eq, ordI_le, in32]
    omega
  · rfl
theorem iof_same (x y : Int) : ofP WyI x y = rOfI x y := by
  unfold ofP rOfI
  rw [iright_same]
  rfl
theorem ihas_same {e : Bool} {a b x : Int} (h : rI e a b = true) : hasP WyI (e, a, b) x = hI e a b x := by
  rw [hasI]
  unfold hI
  cases e
  · unfold rI at h
    simp only [Bool.false_eq_true, if_false, Bool.and_eq_true, decide_eq_true_eq] at h
    rw [Bool.eq_iff_iff]
    simp only [Bool.not_false, Bool.true_and, Bool.and_eq_true, decide_eq_true_eq, in32]
    omega
  · rfl
theorem imeet_same (e1 e2 : Bool) (a b c d : Int) : meetP WyI (e1, a, b) (e2, c, d) = rMeetI (e1, a, b) (e2, c, d) := by
  rw [meetI]
  unfold rMeetI
  cases e1 <;> cases e2 <;> simp
theorem ijoin_same (e1 e2 : Bool) (a b c d : Int) : joinP WyI (e1, a, b) (e2, c, d) = rJoinI (e1, a, b) (e2, c, d) := by
  unfold joinP rJoinI
  simp only [smlI, grtI]
theorem iwithin_same (e1 e2 : Bool) (a b c d : Int) : withinP WyI (e1, a, b) (e2, c, d) = rWithinI (e1, a, b) (e2, c, d) := by
  unfold withinP rWithinI
  cases e1
  · cases e2
    · simp only [Bool.or_self, Bool.false_eq_true, if_false, Bool.false_or, Bool.not_false, Bool.true_and, ordI_le]
    · simp
  · simp
theorem ilow_same (c : Int) (ts : List Int) : lowP WyI LnI c ts = rlowI c ts := by
  have g : ∀ (ts : List Int) (s : Int), ts.foldl (fun acc x => if WyI.one x && decide (WyI.ord x c ≤ 0) then grt WyI acc x else acc) s = ts.foldl (fun acc x => if in32 x && (decide (x ≤ c) && decide (acc < x)) then x else acc) s := by
    intro ts
    induction ts with
    | nil => intro s; rfl
    | cons x xs ih =>
      intro s
      simp only [List.foldl_cons]
      rw [ih]
      congr 1
      rw [show WyI.one x = in32 x from rfl, grtI]
      simp only [ordI_le]
      cases in32 x
      · simp
      · by_cases h1 : x ≤ c
        · by_cases h2 : s < x
          · simp [h1, h2]; omega
          · simp [h1, h2]; omega
        · simp [h1]
  exact g ts _
theorem ihigh_same (d : Int) (ts : List Int) : highP WyI LnI d ts = rhighI d ts := by
  have o : ∀ x y : Int, (0 ≤ WyI.ord x y) ↔ y ≤ x := fun x y => by unfold WyI cmpI; simp only; split <;> (try split) <;> omega
  have g : ∀ (ts : List Int) (s : Int), ts.foldl (fun acc x => if WyI.one x && decide (0 ≤ WyI.ord x d) then sml WyI acc x else acc) s = ts.foldl (fun acc x => if in32 x && (decide (d ≤ x) && decide (x < acc)) then x else acc) s := by
    intro ts
    induction ts with
    | nil => intro s; rfl
    | cons x xs ih =>
      intro s
      simp only [List.foldl_cons]
      rw [ih]
      congr 1
      rw [show WyI.one x = in32 x from rfl, smlI]
      simp only [o]
      cases in32 x
      · simp
      · by_cases h1 : d ≤ x
        · by_cases h2 : x < s
          · simp [h1, h2]; omega
          · simp [h1, h2]; omega
        · simp [h1]
  exact g ts _
theorem iwiden_same (e1 e2 : Bool) (a b c d : Int) (ts : List Int) : widenP WyI LnI (e1, a, b) (e2, c, d) ts = rWidenI (e1, a, b) (e2, c, d) ts := by
  have o : ∀ x y : Int, (0 ≤ WyI.ord x y) ↔ y ≤ x := fun x y => by unfold WyI cmpI; simp only; split <;> (try split) <;> omega
  unfold widenP rWidenI
  dsimp only
  rw [ilow_same, ihigh_same]
  cases e1
  · cases e2
    · simp only [Bool.or_self, Bool.false_eq_true, if_false, ordI_le, o]
      by_cases h1 : c < a
      · by_cases h2 : b < d
        · rw [if_neg (by omega), if_neg (by omega), if_pos h1, if_pos h2]
        · rw [if_neg (by omega), if_pos (by omega), if_pos h1, if_neg h2]
      · by_cases h2 : b < d
        · rw [if_pos (by omega), if_neg (by omega), if_neg h1, if_pos h2]
        · rw [if_pos (by omega), if_pos (by omega), if_neg h1, if_neg h2]
    · simp [joinP]
  · simp [joinP]
end Go.Proofs.YthjoigkckgdcaaaGreat
