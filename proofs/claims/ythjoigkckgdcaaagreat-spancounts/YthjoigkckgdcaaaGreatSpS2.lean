/- What two ints of ranges come to lies between the corners'. -/
import Derived.Test.YthjoigkckgdcaaaGreatSpS
import Derived.Test.YthjoigkckgdcaaaGreatSpX
namespace Go.Proofs.YthjoigkckgdcaaaGreat
theorem pairs1 (a b c d : Int) : pairsL (false, a, b) [(false, c, d)] = [(a, c), (a, d), (b, c), (b, d)] := rfl
/-- Between two results. -/
def Btw (v : Int) (xs : List Int) : Prop := (∃ l ∈ xs, l ≤ v) ∧ (∃ h ∈ xs, v ≤ h)
theorem btw_add {a b c d x y : Int} (h1 : a ≤ x) (h2 : x ≤ b) (h3 : c ≤ y) (h4 : y ≤ d) : Btw (gI 8 x y) ((pairsL (false, a, b) [(false, c, d)]).map fun p => gI 8 p.1 p.2) := by
  rw [pairs1]
  simp only [gI, List.map_cons, List.map_nil, if_true]
  exact ⟨⟨a + c, by simp, by omega⟩, ⟨b + d, by simp, by omega⟩⟩
theorem btw_sub {a b c d x y : Int} (h1 : a ≤ x) (h2 : x ≤ b) (h3 : c ≤ y) (h4 : y ≤ d) : Btw (gI 9 x y) ((pairsL (false, a, b) [(false, c, d)]).map fun p => gI 9 p.1 p.2) := by
  rw [pairs1]
  simp only [gI, List.map_cons, List.map_nil, if_true, show ¬ ((9 : Int) = 8) by decide, if_false]
  exact ⟨⟨a - d, by simp, by omega⟩, ⟨b - c, by simp, by omega⟩⟩
theorem btw_mul {a b c d x y : Int} (h1 : a ≤ x) (h2 : x ≤ b) (h3 : c ≤ y) (h4 : y ≤ d) : Btw (gI 10 x y) ((pairsL (false, a, b) [(false, c, d)]).map fun p => gI 10 p.1 p.2) := by
  rw [pairs1]
  simp only [gI, List.map_cons, List.map_nil, if_true, show ¬ ((10 : Int) = 8) by decide, show ¬ ((10 : Int) = 9) by decide, if_false]
  have m := mul_between (y := y) h1 h2
  have ma := mul_between (y := a) h3 h4
  have mb := mul_between (y := b) h3 h4
  rw [Int.mul_comm c a, Int.mul_comm d a, Int.mul_comm y a] at ma
  rw [Int.mul_comm c b, Int.mul_comm d b, Int.mul_comm y b] at mb
  constructor
  · rcases m.1 with k | k
    · rcases ma.1 with j | j
      · exact ⟨a * c, by simp, by omega⟩
      · exact ⟨a * d, by simp, by omega⟩
    · rcases mb.1 with j | j
      · exact ⟨b * c, by simp, by omega⟩
      · exact ⟨b * d, by simp, by omega⟩
  · rcases m.2 with k | k
    · rcases ma.2 with j | j
      · exact ⟨a * c, by simp, by omega⟩
      · exact ⟨a * d, by simp, by omega⟩
    · rcases mb.2 with j | j
      · exact ⟨b * c, by simp, by omega⟩
      · exact ⟨b * d, by simp, by omega⟩
/-- The quotient without its places, by the size of both. -/
theorem tdiv_le_of {x x' y : Int} (h : x ≤ x') (hy : 0 < y) : x.tdiv y ≤ x'.tdiv y := Int.tdiv_le_tdiv hy h
theorem tdiv_ge_of {x x' y : Int} (h : x ≤ x') (hy : y < 0) : x'.tdiv y ≤ x.tdiv y := by
  have e : ∀ z : Int, z.tdiv y = -(z.tdiv (-y)) := fun z => by rw [Int.tdiv_neg]; omega
  rw [e x, e x']
  have := tdiv_le_of (y := -y) h (by omega)
  omega
theorem hasI {e : Bool} {l h v : Int} : hasP WyI (e, l, h) v = (!e && (in32 v && (decide (l ≤ v) && decide (v ≤ h)))) := by
  unfold hasP
  simp only
  rw [show decide (WyI.ord l v ≤ 0) = decide (l ≤ v) by simp only [ordI_le], show decide (WyI.ord v h ≤ 0) = decide (v ≤ h) by simp only [ordI_le]]
  rfl
/-- What lies between results, and is an int of 32 bits, is in their range. -/
theorem sound_in {v : Int} {xs : List Int} (hb : Btw v xs) (hv : in32 v = true) : hasP WyI (meetP WyI (hullP WyI xs) (false, LnI.least, LnI.most)) v = true := by
  obtain ⟨⟨l, hl, l1⟩, ⟨h, hh, h1⟩⟩ := hb
  obtain ⟨L, H, e, hv', _, _⟩ := hullI xs (fun q => by rw [q] at hl; simp at hl)
  have a1 := (hv' l hl).1
  have a2 := (hv' h hh).2
  have b := of_decide_eq_true hv
  rw [e, meetI, show LnI.least = -2147483648 from rfl, show LnI.most = 2147483647 from rfl]
  rw [if_neg (by simp; omega), hasI, hv]
  simp
  omega
/-- What lies between results, and is none, has its trap. -/
theorem sound_out {v T : Int} {xs : List Int} (hb : Btw v xs) (hv : in32 v = false) : trapP WyI LnI T xs = T := by
  obtain ⟨⟨l, hl, l1⟩, ⟨h, hh, h1⟩⟩ := hb
  unfold trapP
  rw [trapI, if_pos]
  have b := of_decide_eq_false hv
  by_cases q : v < -2147483648
  · exact ⟨l, hl, by unfold in32; exact decide_eq_false (by omega)⟩
  · exact ⟨h, hh, by unfold in32; exact decide_eq_false (by omega)⟩
end Go.Proofs.YthjoigkckgdcaaaGreat
