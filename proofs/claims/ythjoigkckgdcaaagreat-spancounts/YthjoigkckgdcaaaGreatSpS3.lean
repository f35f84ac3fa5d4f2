/- Quotients of ints of ranges lie between the corners'. -/
import Derived.Test.YthjoigkckgdcaaaGreatSpS2
namespace Go.Proofs.YthjoigkckgdcaaaGreat
set_option linter.unusedVariables false
theorem tdiv_pos_y {e c y d : Int} (he : 0 ≤ e) (hc : 0 < c) (h1 : c ≤ y) (h2 : y ≤ d) : e.tdiv d ≤ e.tdiv y ∧ e.tdiv y ≤ e.tdiv c := by
  obtain ⟨n, rfl⟩ := Int.eq_ofNat_of_zero_le he
  obtain ⟨cn, rfl⟩ := Int.eq_ofNat_of_zero_le (show 0 ≤ c by omega)
  obtain ⟨yn, rfl⟩ := Int.eq_ofNat_of_zero_le (show 0 ≤ y by omega)
  obtain ⟨dn, rfl⟩ := Int.eq_ofNat_of_zero_le (show 0 ≤ d by omega)
  rw [← Int.ofNat_tdiv, ← Int.ofNat_tdiv, ← Int.ofNat_tdiv]
  have a1 : n / dn ≤ n / yn := Nat.div_le_div_left (by omega) (by omega)
  have a2 : n / yn ≤ n / cn := Nat.div_le_div_left (by omega) (by omega)
  omega
/-- With a divisor of one sign that grows, the quotient goes one way. -/
theorem tdiv_y {e c y d : Int} (hs : 0 < c ∨ d < 0) (h1 : c ≤ y) (h2 : y ≤ d) : (e.tdiv c ≤ e.tdiv y ∨ e.tdiv d ≤ e.tdiv y) ∧ (e.tdiv y ≤ e.tdiv c ∨ e.tdiv y ≤ e.tdiv d) := by
  rcases hs with hc | hd
  · by_cases he : 0 ≤ e
    · have := tdiv_pos_y he hc h1 h2
      exact ⟨.inr this.1, .inl this.2⟩
    · have t : ∀ z : Int, e.tdiv z = -((-e).tdiv z) := fun z => by rw [Int.neg_tdiv]; omega
      have := tdiv_pos_y (e := -e) (by omega) hc h1 h2
      rw [t c, t y, t d]
      exact ⟨.inl (by omega), .inr (by omega)⟩
  · by_cases he : 0 ≤ e
    · have t : ∀ z : Int, e.tdiv z = -(e.tdiv (-z)) := fun z => by rw [Int.tdiv_neg]; omega
      have := tdiv_pos_y (e := e) (c := -d) (y := -y) (d := -c) he (by omega) (by omega) (by omega)
      rw [t c, t y, t d]
      exact ⟨.inr (by omega), .inl (by omega)⟩
    · have t : ∀ z : Int, e.tdiv z = (-e).tdiv (-z) := fun z => by rw [Int.neg_tdiv, Int.tdiv_neg]; omega
      have := tdiv_pos_y (e := -e) (c := -d) (y := -y) (d := -c) (by omega) (by omega) (by omega) (by omega)
      rw [t c, t y, t d]
      exact ⟨.inl (by omega), .inr (by omega)⟩
theorem tdiv_x {a x b y : Int} (hy : y ≠ 0) (h1 : a ≤ x) (h2 : x ≤ b) : (a.tdiv y ≤ x.tdiv y ∨ b.tdiv y ≤ x.tdiv y) ∧ (x.tdiv y ≤ a.tdiv y ∨ x.tdiv y ≤ b.tdiv y) := by
  by_cases h : 0 < y
  · exact ⟨.inl (tdiv_le_of h1 h), .inr (tdiv_le_of h2 h)⟩
  · exact ⟨.inr (tdiv_ge_of h2 (by omega)), .inl (tdiv_ge_of h1 (by omega))⟩
/-- The corners of one part. -/
theorem btw_part {a b c d x y : Int} (hs : 0 < c ∨ d < 0) (h1 : a ≤ x) (h2 : x ≤ b) (h3 : c ≤ y) (h4 : y ≤ d) {xs : List Int} (m1 : a.tdiv c ∈ xs) (m2 : a.tdiv d ∈ xs) (m3 : b.tdiv c ∈ xs) (m4 : b.tdiv d ∈ xs) : Btw (x.tdiv y) xs := by
  have m := tdiv_x (show y ≠ 0 by omega) h1 h2
  have ma := tdiv_y (e := a) hs h3 h4
  have mb := tdiv_y (e := b) hs h3 h4
  constructor
  · rcases m.1 with k | k
    · rcases ma.1 with j | j
      · exact ⟨_, m1, by omega⟩
      · exact ⟨_, m2, by omega⟩
    · rcases mb.1 with j | j
      · exact ⟨_, m3, by omega⟩
      · exact ⟨_, m4, by omega⟩
  · rcases m.2 with k | k
    · rcases ma.2 with j | j
      · exact ⟨_, m1, by omega⟩
      · exact ⟨_, m2, by omega⟩
    · rcases mb.2 with j | j
      · exact ⟨_, m3, by omega⟩
      · exact ⟨_, m4, by omega⟩
theorem below0 : belowP WyI LnI 0 = (false, -2147483648, -1) := by decide
theorem above0 : aboveP WyI LnI 0 = (false, 1, 2147483647) := by decide
/-- What is below 0 of a range, and what is above. -/
theorem lowI {c d : Int} (h1 : -2147483648 ≤ c) (h2 : d ≤ 2147483647) (h3 : c ≤ d) : meetP WyI (false, c, d) (belowP WyI LnI 0) = if c ≤ -1 then (false, c, min d (-1)) else (true, 0, 0) := by
  rw [below0, meetI]
  by_cases h : c ≤ -1
  · rw [if_pos h, if_neg (by simp; omega)]
    simp; omega
  · rw [if_neg h, if_pos (by simp; omega)]
theorem highI {c d : Int} (h1 : -2147483648 ≤ c) (h2 : d ≤ 2147483647) (h3 : c ≤ d) : meetP WyI (false, c, d) (aboveP WyI LnI 0) = if 1 ≤ d then (false, max c 1, d) else (true, 0, 0) := by
  rw [above0, meetI]
  by_cases h : 1 ≤ d
  · rw [if_pos h, if_neg (by simp; omega)]
    simp; omega
  · rw [if_neg h, if_pos (by simp; omega)]
theorem btw_div {a b c d x y : Int} (h1 : a ≤ x) (h2 : x ≤ b) (h3 : c ≤ y) (h4 : y ≤ d) (hc : -2147483648 ≤ c) (hd : d ≤ 2147483647) (hy : y ≠ 0) :
    Btw (gI 11 x y) ((pairsL (false, a, b) [meetP WyI (false, c, d) (belowP WyI LnI 0), meetP WyI (false, c, d) (aboveP WyI LnI 0)]).map fun p => gI 11 p.1 p.2) := by
  rw [lowI hc hd (by omega), highI hc hd (by omega)]
  have g : ∀ u v : Int, gI 11 u v = u.tdiv v := fun u v => by simp [gI]
  simp only [g]
  by_cases hn : y < 0
  · rw [if_pos (show c ≤ -1 by omega)]
    refine btw_part (c := c) (d := min d (-1)) (.inr (by omega)) h1 h2 h3 (by omega) ?_ ?_ ?_ ?_ <;> simp [pairsL, withL, endsL]
  · rw [if_pos (show 1 ≤ d by omega)]
    refine btw_part (c := max c 1) (d := d) (.inl (by omega)) h1 h2 (by omega) h4 ?_ ?_ ?_ ?_ <;> (split <;> simp [pairsL, withL, endsL])
end Go.Proofs.YthjoigkckgdcaaaGreat
