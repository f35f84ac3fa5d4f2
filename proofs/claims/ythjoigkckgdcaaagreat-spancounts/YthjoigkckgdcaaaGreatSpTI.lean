/- span.IntTwo of right ranges of ints, and what follows of its answer. -/
import Derived.Test.YthjoigkckgdcaaaGreatSpZ
import Derived.Test.YthjoigkckgdcaaaGreatSpS3
namespace Go.Proofs.YthjoigkckgdcaaaGreat
open Go.RowKit
set_option linter.unusedVariables false
set_option linter.unusedSimpArgs false
/-- All results, the range of them, the traps. -/
def resI (op a b c d : Int) : List Int := if op = 11 then (pairsL (false, a, b) [meetP WyI (false, c, d) (belowP WyI LnI 0), meetP WyI (false, c, d) (aboveP WyI LnI 0)]).map fun p => gI 11 p.1 p.2 else (pairsL (false, a, b) [(false, c, d)]).map fun p => gI op p.1 p.2
def rangeI (op a b c d : Int) : Bool × Int × Int := meetP WyI (hullP WyI (resI op a b c d)) (false, LnI.least, LnI.most)
def trapsI (op a b c d : Int) : Int := if op = 11 ∧ hasP WyI (false, c, d) 0 = true then bits BinOp.or IntKind.i64 (trapP WyI LnI 8 (resI op a b c d)) 16 else trapP WyI LnI 8 (resI op a b c d)
theorem gI_dom {op x y : Int} (hop : op = 8 ∨ op = 9 ∨ op = 10 ∨ op = 11) (h : okI op x y) : WyI.dom (gI op x y) := by
  obtain ⟨h1, h2, h3, h4, h5⟩ := h
  unfold WyI
  dsimp only
  rcases hop with rfl | rfl | rfl | rfl
  · simp only [gI, if_true]; omega
  · simp only [gI, if_true, show ¬ ((9 : Int) = 8) by decide, if_false]; omega
  · simp only [gI, if_true, show ¬ ((10 : Int) = 8) by decide, show ¬ ((10 : Int) = 9) by decide, if_false]
    have := mulI_bound h1 h2 h3 h4
    omega
  · simp only [gI, show ¬ ((11 : Int) = 8) by decide, show ¬ ((11 : Int) = 9) by decide, show ¬ ((11 : Int) = 10) by decide, if_false]
    have a := Int.natAbs_tdiv_le_natAbs x y
    omega
theorem pairs_ok {op a b c d : Int} (ho : ¬ op = 11) (ha : -2147483648 ≤ a) (hab : a ≤ b) (hb : b ≤ 2147483647) (hc : -2147483648 ≤ c) (hcd : c ≤ d) (hd : d ≤ 2147483647) : ∀ p ∈ pairsL (false, a, b) [(false, c, d)], okI op p.1 p.2 := by
  intro p hp
  rw [pairs1] at hp
  simp only [List.mem_cons, List.not_mem_nil, or_false] at hp
  rcases hp with rfl | rfl | rfl | rfl <;> exact ⟨by dsimp only; omega, by dsimp only; omega, by dsimp only; omega, by dsimp only; omega, fun h => absurd h ho⟩
theorem pairs_in {a b : Int} {ls : List (Bool × Int × Int)} {p : Int × Int} (hp : p ∈ pairsL (false, a, b) ls) : (p.1 = a ∨ p.1 = b) ∧ ∃ s ∈ ls, s.1 = false ∧ (p.2 = s.2.1 ∨ p.2 = s.2.2) := by
  unfold pairsL withL endsL at hp
  simp only [List.flatMap_cons, List.flatMap_nil, List.append_nil, List.mem_append, List.mem_map, List.mem_flatMap, List.mem_cons, List.not_mem_nil, or_false, Bool.false_eq_true, if_false] at hp
  rcases hp with ⟨y, ⟨s, hs, hy⟩, rfl⟩ | ⟨y, ⟨s, hs, hy⟩, rfl⟩
  all_goals
    cases hs1 : s.1
    · rw [hs1] at hy
      simp only [Bool.false_eq_true, if_false, List.mem_cons, List.not_mem_nil, or_false] at hy
      exact ⟨by simp, s, hs, hs1, hy⟩
    · rw [hs1] at hy
      simp at hy
theorem dpairs_ok {a b c d : Int} (ha : -2147483648 ≤ a) (hab : a ≤ b) (hb : b ≤ 2147483647) (hc : -2147483648 ≤ c) (hcd : c ≤ d) (hd : d ≤ 2147483647) : ∀ p ∈ pairsL (false, a, b) [meetP WyI (false, c, d) (belowP WyI LnI 0), meetP WyI (false, c, d) (aboveP WyI LnI 0)], okI 11 p.1 p.2 := by
  intro p hp
  obtain ⟨h1, s, hs, hs1, h2⟩ := pairs_in hp
  rw [lowI hc hd hcd, highI hc hd hcd] at hs
  simp only [List.mem_cons, List.not_mem_nil, or_false] at hs
  unfold okI
  rcases hs with rfl | rfl
  · split at hs1
    · split at h2
      · dsimp only at h2; omega
      · omega
    · simp at hs1
  · split at hs1
    · split at h2
      · dsimp only at h2; omega
      · omega
    · simp at hs1
theorem intTwo_any (op : Int) (hop : op = 8 ∨ op = 9 ∨ op = 10 ∨ op = 11) (a b c d : Int) (ha : -2147483648 ≤ a) (hab : a ≤ b) (hb : b ≤ 2147483647) (hc : -2147483648 ≤ c) (hcd : c ≤ d) (hd : d ≤ 2147483647) (w : World) :
    Calls Tryz.prog 62 #[.int .i64 op, .agg #[.bool false, .int .i64 a, .int .i64 b], .agg #[.bool false, .int .i64 c, .int .i64 d]] w fun e w' =>
      e = .returned (.tuple #[.agg #[.bool (rangeI op a b c d).1, .int .i64 (rangeI op a b c d).2.1, .int .i64 (rangeI op a b c d).2.2], .int .i64 (trapsI op a b c d)]) ∧ Below w.heap.size w w' := by
  refine intTwo_of op false false a b c d _ _ _ _ (fun V => ?_) w
  by_cases h11 : op = 11
  · subst h11
    have h := twod_i (acts_i V) (enters_of Tryz.func199 (by kernel_rfl) rfl) (enters_of Tryz.func200 (by kernel_rfl) rfl) 8 trapsOf_4 (okI 11) (gI 11) (by2_i 11 (by decide) V) a b c d 16 domI_0 domI_0 (by decide) (domI_of (by decide) (by decide)) (domI_of (by decide) (by decide)) (domI_of (by decide) (by decide)) (domI_of (by decide) (by decide)) (domI_of (by omega) (by omega)) (domI_of (by omega) (by omega)) (fun p hp => by
      have o := dpairs_ok ha hab hb hc hcd hd p hp
      exact ⟨o, gI_dom (by decide) o, gI_dom (by decide) o⟩) V (Below.refl _ _) (fun V' _ => byZero_i false a b V')
    refine h.mono ?_
    rintro e w' ⟨rfl, g⟩
    refine ⟨?_, g⟩
    unfold trapsI rangeI resI sVi
    simp only [if_true, true_and]
  · have h := two_i (acts_i V) (enters_of Tryz.func199 (by kernel_rfl) rfl) 8 trapsOf_4 op (by simp [h11]) (okI op) (gI op) (by2_i op hop V) a b c d domI_0 (domI_of (by decide) (by decide)) (domI_of (by decide) (by decide)) (fun p hp => by
      have o := pairs_ok h11 ha hab hb hc hcd hd p hp
      exact ⟨o, gI_dom hop o, gI_dom hop o⟩) V (Below.refl _ _)
    refine h.mono ?_
    rintro e w' ⟨rfl, g⟩
    refine ⟨?_, g⟩
    unfold trapsI rangeI resI sVi
    simp only [h11, if_false, false_and]
/-- What two numbers come to lies between results. -/
theorem btw_any {op a b c d x y : Int} (hop : op = 8 ∨ op = 9 ∨ op = 10 ∨ op = 11) (h1 : a ≤ x) (h2 : x ≤ b) (h3 : c ≤ y) (h4 : y ≤ d) (hc : -2147483648 ≤ c) (hd : d ≤ 2147483647) (hy : ¬ (op = 11 ∧ y = 0)) : Btw (gI op x y) (resI op a b c d) := by
  unfold resI
  rcases hop with rfl | rfl | rfl | rfl
  · rw [if_neg (by decide)]; exact btw_add h1 h2 h3 h4
  · rw [if_neg (by decide)]; exact btw_sub h1 h2 h3 h4
  · rw [if_neg (by decide)]; exact btw_mul h1 h2 h3 h4
  · rw [if_pos rfl]; exact btw_div h1 h2 h3 h4 hc hd (fun e => hy ⟨rfl, e⟩)
theorem trapI_two (xs : List Int) : trapP WyI LnI 8 xs = 0 ∨ trapP WyI LnI 8 xs = 8 := by
  unfold trapP
  rw [trapI]
  split
  · right; rfl
  · left; rfl
/-- The trap of what is too great is told. -/
theorem told_over {op a b c d x y : Int} (hop : op = 8 ∨ op = 9 ∨ op = 10 ∨ op = 11) (h1 : a ≤ x) (h2 : x ≤ b) (h3 : c ≤ y) (h4 : y ≤ d) (hc : -2147483648 ≤ c) (hd : d ≤ 2147483647) (hy : ¬ (op = 11 ∧ y = 0)) (hv : in32 (gI op x y) = false) : (trapsI op a b c d = 8 ∨ trapsI op a b c d = 24) := by
  have e := sound_out (T := 8) (btw_any hop h1 h2 h3 h4 hc hd hy) hv
  unfold trapsI
  rw [e]
  split
  · right; rfl
  · left; rfl
/-- The trap of what is divided by 0 is told. -/
theorem told_zero {a b c d : Int} (h3 : c ≤ 0) (h4 : 0 ≤ d) : (trapsI 11 a b c d = 16 ∨ trapsI 11 a b c d = 24) := by
  unfold trapsI
  rw [if_pos ⟨rfl, by rw [hasI]; simp [in32]; omega⟩]
  rcases trapI_two (resI 11 a b c d) with e | e <;> rw [e]
  · left; rfl
  · right; rfl
theorem in_range {op a b c d x y : Int} (hop : op = 8 ∨ op = 9 ∨ op = 10 ∨ op = 11) (h1 : a ≤ x) (h2 : x ≤ b) (h3 : c ≤ y) (h4 : y ≤ d) (hc : -2147483648 ≤ c) (hd : d ≤ 2147483647) (hy : ¬ (op = 11 ∧ y = 0)) (hv : in32 (gI op x y) = true) : hasP WyI (rangeI op a b c d) (gI op x y) = true :=
  sound_in (btw_any hop h1 h2 h3 h4 hc hd hy) hv
/-- Of one number each there is one result. -/
theorem res_one {op x y : Int} (hop : op = 8 ∨ op = 9 ∨ op = 10 ∨ op = 11) (hc : -2147483648 ≤ y) (hd : y ≤ 2147483647) (hy : ¬ (op = 11 ∧ y = 0)) : resI op x x y y = [gI op x y, gI op x y, gI op x y, gI op x y] := by
  unfold resI
  by_cases h : op = 11
  · subst h
    rw [if_pos rfl, lowI hc hd (Int.le_refl _), highI hc hd (Int.le_refl _)]
    by_cases n : y ≤ -1
    · rw [if_pos n, if_neg (by omega), show min y (-1) = y by omega]; rfl
    · have : y ≠ 0 := fun e => hy ⟨rfl, e⟩
      rw [if_neg n, if_pos (by omega), show max y 1 = y by omega]; rfl
  · rw [if_neg h, pairs1]; rfl
theorem hull_one (v : Int) : hullP WyI [v, v, v, v] = (false, v, v) := by
  unfold hullP joinP
  simp only [List.foldl_cons, List.foldl_nil, if_true, Bool.false_eq_true, if_false, smlI, grtI]
  simp [WyI]
theorem range_one {op x y : Int} (hop : op = 8 ∨ op = 9 ∨ op = 10 ∨ op = 11) (hc : -2147483648 ≤ y) (hd : y ≤ 2147483647) (hy : ¬ (op = 11 ∧ y = 0)) : rangeI op x x y y = if in32 (gI op x y) then (false, gI op x y, gI op x y) else (true, 0, 0) := by
  unfold rangeI
  rw [res_one hop hc hd hy, hull_one, meetI, show LnI.least = -2147483648 from rfl, show LnI.most = 2147483647 from rfl]
  generalize gI op x y = v
  by_cases h : in32 v = true
  · have b := of_decide_eq_true h
    rw [if_pos h, if_neg (by simp; omega)]
    simp; omega
  · have h' : in32 v = false := by simpa using h
    have b := of_decide_eq_false h'
    rw [if_neg h, if_pos (by simp; omega)]
theorem traps_one {op x y : Int} (hop : op = 8 ∨ op = 9 ∨ op = 10 ∨ op = 11) (hc : -2147483648 ≤ y) (hd : y ≤ 2147483647) (hy : ¬ (op = 11 ∧ y = 0)) : trapsI op x x y y = if in32 (gI op x y) then 0 else 8 := by
  unfold trapsI trapP
  rw [if_neg (by
    rintro ⟨h, h'⟩
    rw [hasI] at h'
    simp at h'
    exact hy ⟨h, by omega⟩), trapI, res_one hop hc hd hy]
  by_cases h : in32 (gI op x y) = true <;> simp [h]
theorem range_zero (x : Int) : rangeI 11 x x 0 0 = (true, 0, 0) := by
  unfold rangeI resI
  rw [if_pos rfl, lowI (by decide) (by decide) (by decide), highI (by decide) (by decide) (by decide)]
  rfl
theorem traps_zero (x : Int) : trapsI 11 x x 0 0 = 16 := by
  unfold trapsI resI
  rw [if_pos ⟨rfl, by rw [hasI]; decide⟩, if_pos rfl, lowI (by decide) (by decide) (by decide), highI (by decide) (by decide) (by decide), if_neg (by decide), if_neg (by decide)]
  show bits BinOp.or IntKind.i64 0 16 = 16
  rfl
/-- The range's ends are ints of 32 bits. -/
theorem rangeI_dom (op a b c d : Int) : -2147483648 ≤ (rangeI op a b c d).2.1 ∧ (rangeI op a b c d).2.1 ≤ 2147483647 ∧ -2147483648 ≤ (rangeI op a b c d).2.2 ∧ (rangeI op a b c d).2.2 ≤ 2147483647 := by
  unfold rangeI
  generalize hullP WyI (resI op a b c d) = p
  obtain ⟨e, l, h⟩ := p
  rw [meetI, show LnI.least = -2147483648 from rfl, show LnI.most = 2147483647 from rfl]
  split
  · simp
  · rename_i q
    simp at q
    simp
    omega
/-- IntOf of one number. -/
theorem of_one (v : Int) : ofP WyI v v = if in32 v then (false, v, v) else (true, 0, 0) := by
  unfold ofP rightP
  simp only [Bool.false_eq_true, if_false]
  rw [show WyI.one = in32 from rfl, show WyI.pl v = v from rfl]
  have o : decide (WyI.ord v v ≤ 0) = true := decide_eq_true ((ordI_le v v).2 (Int.le_refl _))
  rw [o]
  cases in32 v <;> simp
end Go.Proofs.YthjoigkckgdcaaaGreat
