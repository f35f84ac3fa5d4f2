/- Texts of the proof, put together. -/
import Derived.Test.YthjoigkckgdcaaaGreatUSpI
import Derived.Test.YthjoigkckgdcaaaGreatUSpX
namespace Go.Proofs.YthjoigkckgdcaaaGreat
theorem smlI (x y : Int) : sml WyI x y = min x y := by
  unfold sml WyI cmpI
  simp only
  by_cases h : y < x
  · rw [if_pos (by rw [if_pos h]; decide)]; omega
  · rw [if_neg (by rw [if_neg h]; split <;> omega)]; omega
theorem grtI (x y : Int) : grt WyI x y = max x y := by
  unfold grt WyI cmpI
  simp only
  by_cases h : y > x
  · rw [if_pos (by rw [if_neg (by omega), if_pos h]; decide)]; omega
  · rw [if_neg (by split <;> (try split) <;> omega)]; omega
theorem ordI_pos (x y : Int) : 0 < WyI.ord x y ↔ y < x := by unfold WyI cmpI; simp only; split <;> (try split) <;> omega
theorem ordI_neg (x y : Int) : WyI.ord x y < 0 ↔ x < y := by unfold WyI cmpI; simp only; split <;> (try split) <;> omega
theorem ordI_le (x y : Int) : WyI.ord x y ≤ 0 ↔ x ≤ y := by unfold WyI cmpI; simp only; split <;> (try split) <;> omega
theorem meetI (e1 e2 : Bool) (a b c d : Int) : meetP WyI (e1, a, b) (e2, c, d) = if e1 || e2 || decide (min b d < max a c) then (true, 0, 0) else (false, max a c, min b d) := by
  unfold meetP
  simp only [smlI, grtI]
  rw [show decide (0 < WyI.ord (max a c) (min b d)) = decide (min b d < max a c) by simp only [ordI_pos]]
theorem hullI_from : ∀ (xs : List Int) (lo hi : Int), ∃ l h, xs.foldl (fun acc x => joinP WyI acc (false, WyI.pl x, WyI.pl x)) (false, lo, hi) = (false, l, h) ∧ l ≤ lo ∧ hi ≤ h ∧ (∀ v ∈ xs, l ≤ v ∧ v ≤ h) ∧ (l = lo ∨ l ∈ xs) ∧ (h = hi ∨ h ∈ xs)
  | [], lo, hi => ⟨lo, hi, rfl, Int.le_refl _, Int.le_refl _, fun v hv => by simp at hv, .inl rfl, .inl rfl⟩
  | x :: xs, lo, hi => by
    have e : joinP WyI (false, lo, hi) (false, WyI.pl x, WyI.pl x) = (false, min lo x, max hi x) := by
      unfold joinP
      simp only [Bool.false_eq_true, if_false, smlI, grtI]
      rfl
    obtain ⟨l, h, e1, l1, h1, hv, m1, m2⟩ := hullI_from xs (min lo x) (max hi x)
    refine ⟨l, h, ?_, by omega, by omega, fun v hv' => ?_, ?_, ?_⟩
    · rw [List.foldl_cons, e]; exact e1
    · rcases List.mem_cons.1 hv' with rfl | h'
      · omega
      · exact hv v h'
    · rcases m1 with m | m
      · by_cases q : lo ≤ x
        · left; omega
        · right; rw [show l = x by omega]; simp
      · right; simp [m]
    · rcases m2 with m | m
      · by_cases q : x ≤ hi
        · left; omega
        · right; rw [show h = x by omega]; simp
      · right; simp [m]
theorem hullI (xs : List Int) (ne : xs ≠ []) : ∃ l h, hullP WyI xs = (false, l, h) ∧ (∀ v ∈ xs, l ≤ v ∧ v ≤ h) ∧ l ∈ xs ∧ h ∈ xs := by
  cases xs with
  | nil => exact absurd rfl ne
  | cons x xs =>
    obtain ⟨l, h, e1, l1, h1, hv, m1, m2⟩ := hullI_from xs x x
    refine ⟨l, h, ?_, fun v hv' => ?_, ?_, ?_⟩
    · unfold hullP
      rw [List.foldl_cons]
      exact e1
    · rcases List.mem_cons.1 hv' with rfl | h'
      · exact ⟨l1, h1⟩
      · exact hv v h'
    · rcases m1 with m | m <;> simp [m]
    · rcases m2 with m | m <;> simp [m]
theorem trapI (T : Int) : ∀ (xs : List Int) (t : Int), xs.foldl (fun acc x => if pastP WyI LnI x then T else acc) t = if ∃ v ∈ xs, in32 v = false then T else t
  | [], t => by simp
  | x :: xs, t => by
    rw [List.foldl_cons, trapI T xs]
    have e : pastP WyI LnI x = !in32 x := by
      unfold pastP in32
      rw [show WyI.pl x = x from rfl]
      simp only [ordI_neg, ordI_pos]
      rw [show LnI.least = -2147483648 from rfl, show LnI.most = 2147483647 from rfl]
      rw [Bool.eq_iff_iff]
      simp only [Bool.or_eq_true, decide_eq_true_eq, Bool.not_eq_true', decide_eq_false_iff_not]
      omega
    rw [e]
    clear e
    by_cases h : ∃ v ∈ xs, in32 v = false
    · rw [if_pos h, if_pos (by obtain ⟨v, hv, e⟩ := h; exact ⟨v, by simp [hv], e⟩)]
    · rw [if_neg h]
      by_cases q : in32 x = false
      · rw [if_pos (by simp [q]), if_pos ⟨x, by simp, q⟩]
      · rw [if_neg (by simp [q]), if_neg]
        rintro ⟨v, hv, e⟩
        rcases List.mem_cons.1 hv with rfl | h'
        · exact q e
        · exact h ⟨v, h', e⟩
end Go.Proofs.YthjoigkckgdcaaaGreat

namespace Go.Proofs.YthjoigkckgdcaaaGreat
theorem pairs1 (a b c d : Int) : pairsL (false, a, b) [(false, c, d)] = [(a, c), (a, d), (b, c), (b, d)] := rfl
theorem hasI {e : Bool} {l h v : Int} : hasP WyI (e, l, h) v = (!e && (in32 v && (decide (l ≤ v) && decide (v ≤ h)))) := by
  unfold hasP
  simp only
  rw [show decide (WyI.ord l v ≤ 0) = decide (l ≤ v) by simp only [ordI_le], show decide (WyI.ord v h ≤ 0) = decide (v ≤ h) by simp only [ordI_le]]
  rfl
end Go.Proofs.YthjoigkckgdcaaaGreat

namespace Go.Proofs.YthjoigkckgdcaaaGreat
set_option linter.unusedVariables false
theorem below0 : belowP WyI LnI 0 = (false, -2147483648, -1) := by decide
theorem above0 : aboveP WyI LnI 0 = (false, 1, 2147483647) := by decide
theorem lowI {c d : Int} (h1 : -2147483648 ≤ c) (h2 : d ≤ 2147483647) (h3 : c ≤ d) : meetP WyI (false, c, d) (belowP WyI LnI 0) = if c ≤ -1 then (false, c, min d (-1)) else (true, 0, 0) := by
  rw [below0, meetI]
  by_cases h : c ≤ -1
  · rw [if_pos h, if_neg (by simp; omega)]
    simp; omega
  · rw [if_neg h, if_pos (by simp; omega)]
theorem highI {c d : Int} (h1 : -2147483648 ≤ c) (h2 : d ≤ 2147483647) (h3 : c ≤ d) : meetP WyI (false, c, d) (aboveP WyI LnI 0) = if 1 ≤ d then (false, max c 1, d) else (true, 0, 0) := by
  rw [above0, meetI]
  by_cases h : 1 ≤ d
  · rw [if_pos h, if_neg (by simp; omega)]
    simp; omega
  · rw [if_neg h, if_pos (by simp; omega)]
end Go.Proofs.YthjoigkckgdcaaaGreat

