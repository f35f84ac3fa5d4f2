/- SpanCounts: what both tell of results is the same. -/
import Derived.Test.YthjoigkckgdcaaaGreatUG5
import Derived.Test.YthjoigkckgdcaaaGreatUSpRt
import Derived.Test.YthjoigkckgdcaaaGreatUSpIw
import Derived.Test.YthjoigkckgdcaaaGreatUG7
import Derived.Test.YthjoigkckgdcaaaGreatUG8
namespace Go.Proofs.YthjoigkckgdcaaaGreat
open Go.RowKit
set_option linter.unusedVariables false
set_option linter.unusedSimpArgs false
theorem clo_is : ∀ (xs : List Int) (x0 : Int), (cloI x0 xs ≤ x0 ∧ ∀ v ∈ xs, cloI x0 xs ≤ v) ∧ (cloI x0 xs = x0 ∨ cloI x0 xs ∈ xs)
  | [], x0 => by simp [cloI]
  | x :: xs, x0 => by
    obtain ⟨m, em, m1, m2, m3⟩ : ∃ m, (if x < x0 then x else x0) = m ∧ m ≤ x0 ∧ m ≤ x ∧ (m = x ∨ m = x0) := by
      split
      · exact ⟨_, rfl, by omega, by omega, Or.inl rfl⟩
      · exact ⟨_, rfl, by omega, by omega, Or.inr rfl⟩
    have h : cloI x0 (x :: xs) = cloI (if x < x0 then x else x0) xs := rfl
    rw [em] at h
    obtain ⟨⟨h1, h2⟩, h3⟩ := clo_is xs m
    rw [h]
    refine ⟨⟨by omega, ?_⟩, ?_⟩
    · intro v hv
      rcases List.mem_cons.1 hv with rfl | hv
      · omega
      · exact h2 v hv
    · rcases h3 with h3 | h3
      · rw [h3]
        rcases m3 with rfl | rfl
        · exact Or.inr (by simp)
        · exact Or.inl rfl
      · exact Or.inr (List.mem_cons_of_mem _ h3)
theorem chi_is : ∀ (xs : List Int) (x0 : Int), (x0 ≤ chiI x0 xs ∧ ∀ v ∈ xs, v ≤ chiI x0 xs) ∧ (chiI x0 xs = x0 ∨ chiI x0 xs ∈ xs)
  | [], x0 => by simp [chiI]
  | x :: xs, x0 => by
    obtain ⟨m, em, m1, m2, m3⟩ : ∃ m, (if x0 < x then x else x0) = m ∧ x0 ≤ m ∧ x ≤ m ∧ (m = x ∨ m = x0) := by
      split
      · exact ⟨_, rfl, by omega, by omega, Or.inl rfl⟩
      · exact ⟨_, rfl, by omega, by omega, Or.inr rfl⟩
    have h : chiI x0 (x :: xs) = chiI (if x0 < x then x else x0) xs := rfl
    rw [em] at h
    obtain ⟨⟨h1, h2⟩, h3⟩ := chi_is xs m
    rw [h]
    refine ⟨⟨by omega, ?_⟩, ?_⟩
    · intro v hv
      rcases List.mem_cons.1 hv with rfl | hv
      · omega
      · exact h2 v hv
    · rcases h3 with h3 | h3
      · rw [h3]
        rcases m3 with rfl | rfl
        · exact Or.inr (by simp)
        · exact Or.inl rfl
      · exact Or.inr (List.mem_cons_of_mem _ h3)
theorem ct_is : ∀ (xs : List Int) (t : Int), xs.foldl (fun acc x => if in32 x then acc else 8) t = if ∃ v ∈ xs, in32 v = false then 8 else t
  | [], t => by simp
  | x :: xs, t => by
    rw [List.foldl_cons, ct_is xs]
    by_cases h : in32 x = true
    · rw [if_pos h]
      have e : (∃ v ∈ x :: xs, in32 v = false) ↔ ∃ v ∈ xs, in32 v = false := by
        constructor
        · rintro ⟨v, hv, h'⟩
          rcases List.mem_cons.1 hv with rfl | hv
          · rw [h] at h'; cases h'
          · exact ⟨v, hv, h'⟩
        · rintro ⟨v, hv, h'⟩
          exact ⟨v, List.mem_cons_of_mem _ hv, h'⟩
      by_cases q : ∃ v ∈ xs, in32 v = false
      · rw [if_pos q, if_pos (e.2 q)]
      · rw [if_neg q, if_neg (fun k => q (e.1 k))]
    · rw [if_neg h]
      have h' : in32 x = false := by simpa using h
      rw [if_pos (⟨x, by simp, h'⟩ : ∃ v ∈ x :: xs, in32 v = false)]
      split <;> rfl
theorem told_lh {xs ys : List Int} {l h : Int} (lx : l ∈ xs) (hx : h ∈ xs) (bx : ∀ v ∈ xs, l ≤ v ∧ v ≤ h) (ly : l ∈ ys) (hy : h ∈ ys) (byy : ∀ v ∈ ys, l ≤ v ∧ v ≤ h) :
    meetP WyI (hullP WyI xs) (false, LnI.least, LnI.most) = (toldI ys).1 ∧ trapP WyI LnI 8 xs = (toldI ys).2 := by
  have nx : xs ≠ [] := List.ne_nil_of_mem lx
  obtain ⟨l1, h1, e, b1, m1, m2⟩ := hullI xs nx
  have el : l1 = l := by have := (b1 l lx).1; have := (bx l1 m1).1; omega
  have eh : h1 = h := by have := (b1 h hx).2; have := (bx h1 m2).2; omega
  subst el
  subst eh
  cases ys with
  | nil => cases ly
  | cons y ys =>
    obtain ⟨⟨c1, c2⟩, c3⟩ := clo_is (y :: ys) y
    obtain ⟨⟨d1, d2⟩, d3⟩ := chi_is (y :: ys) y
    have c3' : cloI y (y :: ys) ∈ y :: ys := by rcases c3 with c3 | c3; rw [c3]; simp; exact c3
    have d3' : chiI y (y :: ys) ∈ y :: ys := by rcases d3 with d3 | d3; rw [d3]; simp; exact d3
    have ec : cloI y (y :: ys) = l1 := by have := c2 l1 ly; have := (byy _ c3').1; omega
    have ed : chiI y (y :: ys) = h1 := by have := d2 h1 hy; have := (byy _ d3').2; omega
    have lh : l1 ≤ h1 := (bx l1 lx).2
    constructor
    · show _ = clipI y (y :: ys)
      unfold clipI
      rw [ec, ed, e, meetI, show LnI.least = -2147483648 from rfl, show LnI.most = 2147483647 from rfl]
      by_cases q1 : 2147483647 < l1
      · rw [if_pos q1, if_pos (by simp; omega)]
      rw [if_neg q1]
      by_cases q2 : h1 < -2147483648
      · rw [if_pos q2, if_pos (by simp; omega)]
      rw [if_neg q2, if_neg (by simp; omega)]
      unfold rOfI rI
      rw [if_pos (by simp; constructor; (split <;> split <;> omega); constructor <;> split <;> omega)]
      refine Prod.ext rfl (Prod.ext ?_ ?_)
      · dsimp only; split <;> omega
      · dsimp only; split <;> omega
    · show _ = ctI (y :: ys)
      unfold trapP ctI
      rw [trapI, ct_is]
      have key : ∀ zs : List Int, l1 ∈ zs → h1 ∈ zs → (∀ v ∈ zs, l1 ≤ v ∧ v ≤ h1) → ((∃ v ∈ zs, in32 v = false) ↔ (in32 l1 = false ∨ in32 h1 = false)) := by
        intro zs m1 m2 b
        constructor
        · rintro ⟨v, hv, q⟩
          have := b v hv
          have q' := of_decide_eq_false q
          by_cases w1 : v < -2147483648
          · exact Or.inl (decide_eq_false (by omega))
          · exact Or.inr (decide_eq_false (by omega))
        · rintro (q | q)
          · exact ⟨_, m1, q⟩
          · exact ⟨_, m2, q⟩
      by_cases q : in32 l1 = false ∨ in32 h1 = false
      · rw [if_pos ((key _ lx hx bx).2 q), if_pos ((key _ ly hy byy).2 q)]
      · rw [if_neg (fun k => q ((key _ lx hx bx).1 k)), if_neg (fun k => q ((key _ ly hy byy).1 k))]
theorem told_set {xs ys : List Int} (h : ∀ v, v ∈ xs ↔ v ∈ ys) : meetP WyI (hullP WyI xs) (false, LnI.least, LnI.most) = (toldI ys).1 ∧ trapP WyI LnI 8 xs = (toldI ys).2 := by
  cases xs with
  | nil =>
    cases ys with
    | nil => exact ⟨rfl, rfl⟩
    | cons y ys => exact absurd ((h y).2 (by simp)) (by simp)
  | cons x xs =>
    obtain ⟨l1, h1, e, b1, m1, m2⟩ := hullI (x :: xs) (by simp)
    exact told_lh m1 m2 b1 ((h _).1 m1) ((h _).1 m2) (fun v hv => b1 v ((h v).2 hv))
theorem two_told {op a b c d : Int} (n : ¬ op = 11) : rangeI op a b c d = (toldI [gI op a c, gI op a d, gI op b c, gI op b d]).1 ∧ trapsI op a b c d = (toldI [gI op a c, gI op a d, gI op b c, gI op b d]).2 := by
  have e : resI op a b c d = [gI op a c, gI op a d, gI op b c, gI op b d] := by unfold resI; rw [if_neg n, pairs1]; rfl
  unfold rangeI trapsI
  rw [e, if_neg (fun k => n k.1)]
  exact told_set (fun v => Iff.rfl)
theorem low_meet {c d : Int} (h1 : -2147483648 ≤ c) (h2 : d ≤ 2147483647) (h3 : c ≤ d) : meetP WyI (false, c, d) (belowP WyI LnI 0) = rMeetI (false, c, d) (false, -2147483648, -1) := by rw [below0, imeet_same]
theorem high_meet {c d : Int} (h1 : -2147483648 ≤ c) (h2 : d ≤ 2147483647) (h3 : c ≤ d) : meetP WyI (false, c, d) (aboveP WyI LnI 0) = rMeetI (false, c, d) (false, 1, 2147483647) := by rw [above0, imeet_same]
theorem mem_corn (a b : Int) (p q : Bool × Int × Int) (v : Int) : v ∈ (pairsL (false, a, b) [p, q]).map (fun p => gI 11 p.1 p.2) ↔ v ∈ cornL 11 a b p ++ cornL 11 a b q := by
  obtain ⟨e1, l1, r1⟩ := p
  obtain ⟨e2, l2, r2⟩ := q
  unfold cornL pairsL withL endsL
  cases e1 <;> cases e2 <;> simp <;> grind
theorem div_told {a b c d : Int} (hc : -2147483648 ≤ c) (hd : d ≤ 2147483647) (hcd : c ≤ d) :
    rangeI 11 a b c d = (toldI (cornL 11 a b (rMeetI (false, c, d) (false, -2147483648, -1)) ++ cornL 11 a b (rMeetI (false, c, d) (false, 1, 2147483647)))).1
    ∧ trapsI 11 a b c d = if (cornL 11 a b (rMeetI (false, c, d) (false, -2147483648, -1)) ++ cornL 11 a b (rMeetI (false, c, d) (false, 1, 2147483647))) = [] then (if hI false c d 0 then 16 else 0) else bits BinOp.or IntKind.i64 (if hI false c d 0 then 16 else 0) (toldI (cornL 11 a b (rMeetI (false, c, d) (false, -2147483648, -1)) ++ cornL 11 a b (rMeetI (false, c, d) (false, 1, 2147483647)))).2 := by
  have t := told_set (mem_corn a b (rMeetI (false, c, d) (false, -2147483648, -1)) (rMeetI (false, c, d) (false, 1, 2147483647)))
  have e : resI 11 a b c d = (pairsL (false, a, b) [rMeetI (false, c, d) (false, -2147483648, -1), rMeetI (false, c, d) (false, 1, 2147483647)]).map (fun p => gI 11 p.1 p.2) := by
    unfold resI
    rw [if_pos rfl, low_meet hc hd hcd, high_meet hc hd hcd]
  have t2 := trapI_two (resI 11 a b c d)
  unfold rangeI trapsI
  rw [e] at t2 ⊢
  generalize hX : (pairsL (false, a, b) [rMeetI (false, c, d) (false, -2147483648, -1), rMeetI (false, c, d) (false, 1, 2147483647)]).map (fun p => gI 11 p.1 p.2) = X at *
  generalize hY : cornL 11 a b (rMeetI (false, c, d) (false, -2147483648, -1)) ++ cornL 11 a b (rMeetI (false, c, d) (false, 1, 2147483647)) = Y at *
  refine ⟨t.1, ?_⟩
  have hs : hasP WyI (false, c, d) 0 = hI false c d 0 := ihas_same (by unfold rI; simp; omega)
  rw [hs]
  have t3 := t.2
  by_cases n : Y = []
  · subst n
    rw [if_pos rfl]
    have : trapP WyI LnI 8 X = 0 := t3
    rw [this]
    cases hI false c d 0 <;> rfl
  · rw [if_neg n, ← t3]
    rcases t2 with q | q <;> rw [q] <;> cases hI false c d 0 <;> rfl
end Go.Proofs.YthjoigkckgdcaaaGreat

