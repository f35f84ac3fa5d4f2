/- span.IntTwo of right ranges of ints, and what follows of its answer. -/
import Derived.Test.YthjoigkckgdcaaaGreatUSpZ
import Derived.Test.YthjoigkckgdcaaaGreatUG4
namespace Go.Proofs.YthjoigkckgdcaaaGreat
open Go.RowKit
set_option linter.unusedVariables false
set_option linter.unusedSimpArgs false
def resI (op a b c d : Int) : List Int := if op = 11 then (pairsL (false, a, b) [meetP WyI (false, c, d) (belowP WyI LnI 0), meetP WyI (false, c, d) (aboveP WyI LnI 0)]).map fun p => gI 11 p.1 p.2 else (pairsL (false, a, b) [(false, c, d)]).map fun p => gI op p.1 p.2
def rangeI (op a b c d : Int) : Bool × Int × Int := meetP WyI (hullP WyI (resI op a b c d)) (false, LnI.least, LnI.most)
def trapsI (op a b c d : Int) : Int := if op = 11 ∧ hasP WyI (false, c, d) 0 = true then bits BinOp.or IntKind.i64 (trapP WyI LnI 8 (resI op a b c d)) 16 else trapP WyI LnI 8 (resI op a b c d)
theorem gI_dom {op x y : Int} (hop : op = 8 ∨ op = 9 ∨ op = 10 ∨ op = 11) (h : okI op x y) : WyI.dom (gI op x y) := by
  obtain ⟨h1, h2, h3, h4, h5⟩ := h
  unfold WyI
  dsimp only
  rcases hop with rfl | rfl | rfl | rfl
  · simp only [gI, if_true]; omega
  · simp only [gI, if_true, show ¬ ((9 : Int) = 8) by decide, if_false]; omega
  · simp only [gI, if_true, show ¬ ((10 : Int) = 8) by decide, show ¬ ((10 : Int) = 9) by decide, if_false]
    have := mulI_bound h1 h2 h3 h4
    omega
  · simp only [gI, show ¬ ((11 : Int) = 8) by decide, show ¬ ((11 : Int) = 9) by decide, show ¬ ((11 : Int) = 10) by decide, if_false]
    have a := Int.natAbs_tdiv_le_natAbs x y
    omega
theorem pairs_ok {op a b c d : Int} (ho : ¬ op = 11) (ha : -2147483648 ≤ a) (hab : a ≤ b) (hb : b ≤ 2147483647) (hc : -2147483648 ≤ c) (hcd : c ≤ d) (hd : d ≤ 2147483647) : ∀ p ∈ pairsL (false, a, b) [(false, c, d)], okI op p.1 p.2 := by
  intro p hp
  rw [pairs1] at hp
  simp only [List.mem_cons, List.not_mem_nil, or_false] at hp
  rcases hp with rfl | rfl | rfl | rfl <;> exact ⟨by dsimp only; omega, by dsimp only; omega, by dsimp only; omega, by dsimp only; omega, fun h => absurd h ho⟩
theorem pairs_in {a b : Int} {ls : List (Bool × Int × Int)} {p : Int × Int} (hp : p ∈ pairsL (false, a, b) ls) : (p.1 = a ∨ p.1 = b) ∧ ∃ s ∈ ls, s.1 = false ∧ (p.2 = s.2.1 ∨ p.2 = s.2.2) := by
  unfold pairsL withL endsL at hp
  simp only [List.flatMap_cons, List.flatMap_nil, List.append_nil, List.mem_append, List.mem_map, List.mem_flatMap, List.mem_cons, List.not_mem_nil, or_false, Bool.false_eq_true, if_false] at hp
  rcases hp with ⟨y, ⟨s, hs, hy⟩, rfl⟩ | ⟨y, ⟨s, hs, hy⟩, rfl⟩
  all_goals
    cases hs1 : s.1
    · rw [hs1] at hy
      simp only [Bool.false_eq_true, if_false, List.mem_cons, List.not_mem_nil, or_false] at hy
      exact ⟨by simp, s, hs, hs1, hy⟩
    · rw [hs1] at hy
      simp at hy
theorem dpairs_ok {a b c d : Int} (ha : -2147483648 ≤ a) (hab : a ≤ b) (hb : b ≤ 2147483647) (hc : -2147483648 ≤ c) (hcd : c ≤ d) (hd : d ≤ 2147483647) : ∀ p ∈ pairsL (false, a, b) [meetP WyI (false, c, d) (belowP WyI LnI 0), meetP WyI (false, c, d) (aboveP WyI LnI 0)], okI 11 p.1 p.2 := by
  intro p hp
  obtain ⟨h1, s, hs, hs1, h2⟩ := pairs_in hp
  rw [lowI hc hd hcd, highI hc hd hcd] at hs
  simp only [List.mem_cons, List.not_mem_nil, or_false] at hs
  unfold okI
  rcases hs with rfl | rfl
  · split at hs1
    · split at h2
      · dsimp only at h2; omega
      · omega
    · simp at hs1
  · split at hs1
    · split at h2
      · dsimp only at h2; omega
      · omega
    · simp at hs1
theorem intTwo_any (op : Int) (hop : op = 8 ∨ op = 9 ∨ op = 10 ∨ op = 11) (a b c d : Int) (ha : -2147483648 ≤ a) (hab : a ≤ b) (hb : b ≤ 2147483647) (hc : -2147483648 ≤ c) (hcd : c ≤ d) (hd : d ≤ 2147483647) (w : World) :
    Calls Tryz.prog 62 #[.int .i64 op, .agg #[.bool false, .int .i64 a, .int .i64 b], .agg #[.bool false, .int .i64 c, .int .i64 d]] w fun e w' =>
      e = .returned (.tuple #[.agg #[.bool (rangeI op a b c d).1, .int .i64 (rangeI op a b c d).2.1, .int .i64 (rangeI op a b c d).2.2], .int .i64 (trapsI op a b c d)]) ∧ Below w.heap.size w w' := by
  refine intTwo_of op false false a b c d _ _ _ _ (fun V => ?_) w
  by_cases h11 : op = 11
  · subst h11
    have h := twod_i (acts_i V) (enters_of Tryz.func199 (by kernel_rfl) rfl) (enters_of Tryz.func200 (by kernel_rfl) rfl) 8 trapsOf_4 (okI 11) (gI 11) (by2_i 11 (by decide) V) a b c d 16 domI_0 domI_0 (by decide) (domI_of (by decide) (by decide)) (domI_of (by decide) (by decide)) (domI_of (by decide) (by decide)) (domI_of (by decide) (by decide)) (domI_of (by omega) (by omega)) (domI_of (by omega) (by omega)) (fun p hp => by
      have o := dpairs_ok ha hab hb hc hcd hd p hp
      exact ⟨o, gI_dom (by decide) o, gI_dom (by decide) o⟩) V (Below.refl _ _) (fun V' _ => byZero_i false a b V')
    refine h.mono ?_
    rintro e w' ⟨rfl, g⟩
    refine ⟨?_, g⟩
    unfold trapsI rangeI resI sVi
    simp only [if_true, true_and]
  · have h := two_i (acts_i V) (enters_of Tryz.func199 (by kernel_rfl) rfl) 8 trapsOf_4 op (by simp [h11]) (okI op) (gI op) (by2_i op hop V) a b c d domI_0 (domI_of (by decide) (by decide)) (domI_of (by decide) (by decide)) (fun p hp => by
      have o := pairs_ok h11 ha hab hb hc hcd hd p hp
      exact ⟨o, gI_dom hop o, gI_dom hop o⟩) V (Below.refl _ _)
    refine h.mono ?_
    rintro e w' ⟨rfl, g⟩
    refine ⟨?_, g⟩
    unfold trapsI rangeI resI sVi
    simp only [h11, if_false, false_and]
theorem trapI_two (xs : List Int) : trapP WyI LnI 8 xs = 0 ∨ trapP WyI LnI 8 xs = 8 := by
  unfold trapP
  rw [trapI]
  split
  · right; rfl
  · left; rfl
end Go.Proofs.YthjoigkckgdcaaaGreat

