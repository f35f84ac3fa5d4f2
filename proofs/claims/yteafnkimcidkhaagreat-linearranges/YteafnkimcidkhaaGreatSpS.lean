/- Ranges of ints, plainly: the least and the greatest of results. -/
import Derived.Test.YteafnkimcidkhaaGreatSpI
namespace Go.Proofs.YteafnkimcidkhaaGreat
theorem smlI (x y : Int) : sml WyI x y = min x y := by
  unfold sml WyI cmpI
  simp only
  by_cases h : y < x
  · rw [if_pos (by rw [if_pos h]; decide)]; omega
  · rw [if_neg (by rw [if_neg h]; split <;> omega)]; omega
theorem grtI (x y : Int) : grt WyI x y = max x y := by
  unfold grt WyI cmpI
  simp only
  by_cases h : y > x
  · rw [if_pos (by rw [if_neg (by omega), if_pos h]; decide)]; omega
  · rw [if_neg (by split <;> (try split) <;> omega)]; omega
theorem ordI_pos (x y : Int) : 0 < WyI.ord x y ↔ y < x := by unfold WyI cmpI; simp only; split <;> (try split) <;> omega
theorem ordI_neg (x y : Int) : WyI.ord x y < 0 ↔ x < y := by unfold WyI cmpI; simp only; split <;> (try split) <;> omega
theorem ordI_le (x y : Int) : WyI.ord x y ≤ 0 ↔ x ≤ y := by unfold WyI cmpI; simp only; split <;> (try split) <;> omega
theorem meetI (e1 e2 : Bool) (a b c d : Int) : meetP WyI (e1, a, b) (e2, c, d) = if e1 || e2 || decide (min b d < max a c) then (true, 0, 0) else (false, max a c, min b d) := by
  unfold meetP
  simp only [smlI, grtI]
  rw [show decide (0 < WyI.ord (max a c) (min b d)) = decide (min b d < max a c) by simp only [ordI_pos]]
/-- The hull of results, from one that has some. -/
theorem hullI_from : ∀ (xs : List Int) (lo hi : Int), ∃ l h, xs.foldl (fun acc x => joinP WyI acc (false, WyI.pl x, WyI.pl x)) (false, lo, hi) = (false, l, h) ∧ l ≤ lo ∧ hi ≤ h ∧ (∀ v ∈ xs, l ≤ v ∧ v ≤ h) ∧ (l = lo ∨ l ∈ xs) ∧ (h = hi ∨ h ∈ xs)
  | [], lo, hi => ⟨lo, hi, rfl, Int.le_refl _, Int.le_refl _, fun v hv => by simp at hv, .inl rfl, .inl rfl⟩
  | x :: xs, lo, hi => by
    have e : joinP WyI (false, lo, hi) (false, WyI.pl x, WyI.pl x) = (false, min lo x, max hi x) := by
      unfold joinP
      simp only [Bool.false_eq_true, if_false, smlI, grtI]
      rfl
    obtain ⟨l, h, e1, l1, h1, hv, m1, m2⟩ := hullI_from xs (min lo x) (max hi x)
    refine ⟨l, h, ?_, by omega, by omega, fun v hv' => ?_, ?_, ?_⟩
    · rw [List.foldl_cons, e]; exact e1
    · rcases List.mem_cons.1 hv' with rfl | h'
      · omega
      · exact hv v h'
    · rcases m1 with m | m
      · by_cases q : lo ≤ x
        · left; omega
        · right; rw [show l = x by omega]; simp
      · right; simp [m]
    · rcases m2 with m | m
      · by_cases q : x ≤ hi
        · left; omega
        · right; rw [show h = x by omega]; simp
      · right; simp [m]
theorem hullI (xs : List Int) (ne : xs ≠ []) : ∃ l h, hullP WyI xs = (false, l, h) ∧ (∀ v ∈ xs, l ≤ v ∧ v ≤ h) ∧ l ∈ xs ∧ h ∈ xs := by
  cases xs with
  | nil => exact absurd rfl ne
  | cons x xs =>
    obtain ⟨l, h, e1, l1, h1, hv, m1, m2⟩ := hullI_from xs x x
    refine ⟨l, h, ?_, fun v hv' => ?_, ?_, ?_⟩
    · unfold hullP
      rw [List.foldl_cons]
      exact e1
    · rcases List.mem_cons.1 hv' with rfl | h'
      · exact ⟨l1, h1⟩
      · exact hv v h'
    · rcases m1 with m | m <;> simp [m]
    · rcases m2 with m | m <;> simp [m]
theorem hullI_nil : hullP WyI [] = (true, 0, 0) := rfl
/-- A number times another lies between the ends' products. -/
theorem mul_between {a b x y : Int} (h1 : a ≤ x) (h2 : x ≤ b) : (a * y ≤ x * y ∨ b * y ≤ x * y) ∧ (x * y ≤ a * y ∨ x * y ≤ b * y) := by
  by_cases h : 0 ≤ y
  · exact ⟨.inl (Int.mul_le_mul_of_nonneg_right h1 h), .inr (Int.mul_le_mul_of_nonneg_right h2 h)⟩
  · exact ⟨.inr (Int.mul_le_mul_of_nonpos_right h2 (by omega)), .inl (Int.mul_le_mul_of_nonpos_right h1 (by omega))⟩
end Go.Proofs.YteafnkimcidkhaaGreat

