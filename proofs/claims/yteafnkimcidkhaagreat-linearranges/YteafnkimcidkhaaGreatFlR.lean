/- What two floats come to, by rank; ranges of floats by rank. -/
import Derived.Test.YteafnkimcidkhaaGreatFlO
import Derived.Test.YteafnkimcidkhaaGreatSpFt
import Derived.Test.YteafnkimcidkhaaGreatSpS
namespace Go.Proofs.YteafnkimcidkhaaGreat
set_option linter.unusedVariables false
set_option linter.unusedSimpArgs false
theorem made_num (s b : Bool) (z : Int) (h0 : 0 ≤ z) (h : z ≤ fI s) : (cls s (sgnd s b z) == 0 || cls s (sgnd s b z) == 5) = false := by
  have l := fI_lt s
  rw [cls_made s b z h0 (by omega), if_neg (by omega)]
  split
  · rfl
  · split
    · rfl
    · split <;> rfl
/-- A number that reckoning gives: its rank, and whether it is infinite. -/
structure Res (s : Bool) (v r : Int) : Prop where
  lo : -fI s ≤ r
  hi : r ≤ fI s
  pl : plainF s v = mk s r
  num : (cls s v == 0 || cls s v == 5) = false
  inf : (cls s v == 4) = decide (r = fI s ∨ r = -fI s)
theorem made_res (s b : Bool) (z : Int) (h0 : 0 ≤ z) (h : z ≤ fI s) : Res s (sgnd s b z) (if b then -z else z) := by
  have l := fI_lt s
  have t := fI_two s
  have e : plainF s (sgnd s b z) = mk s (if b then -z else z) := by
    by_cases c : z = 0
    · subst c
      rw [show (0 : Int) = ((0 : Nat) : Int) from rfl, n_plain s b 0 (by omega)]
      cases b <;> rfl
    · have m : mk s (if b then -z else z) = sgnd s b z := by
        unfold mk
        cases b
        · have : ¬ z < 0 := by omega
          simp [this, sgnd]
        · have : -z < 0 := by omega
          rw [if_pos rfl, if_pos this, Int.neg_neg]
      rw [← m]
      exact plain_mk (by split <;> omega) (by split <;> omega)
  refine ⟨by split <;> omega, by split <;> omega, e, made_num s b z h0 h, ?_⟩
  rw [cls_made s b z h0 (by omega), if_neg (by omega)]
  by_cases c : z = fI s
  · rw [if_pos c, decide_eq_true (by cases b <;> simp <;> omega)]; rfl
  · rw [if_neg c, decide_eq_false (by cases b <;> simp <;> omega)]
    split
    · rfl
    · split <;> rfl
theorem rnd_res (s : Bool) (m : Int) (b : Bool) (n : Nat) (e : Int) : ∃ r, Res s (rnd s m b n e) r := by
  obtain ⟨z, e1, z0, z1⟩ := rnd_made s m b n e
  rw [e1]; exact ⟨_, made_res s b z z0 z1⟩
theorem sumT_res (s : Bool) (m : Int) (xb : Bool) (xw : Nat) (xe : Int) (yb : Bool) (yw : Nat) (ye : Int) : ∃ r, Res s (sumT s m xb xw xe yb yw ye) r := by
  unfold sumT
  split
  · exact rnd_res _ _ _ _ _
  · split
    · exact ⟨_, made_res s _ 0 (Int.le_refl _) (fI_pos s)⟩
    · split <;> exact rnd_res _ _ _ _ _
theorem add_res (s : Bool) (a b : Int) (fa : finF s a = true) (fb : finF s b = true) : ∃ r, Res s (addF s 0 a b) r := by
  obtain ⟨a1, a2⟩ := n_num fa
  obtain ⟨b1, b2⟩ := n_num fb
  unfold addF
  rw [a1, b1, a2, b2]
  simp only [Bool.or_self, Bool.false_eq_true, if_false, Bool.false_and]
  exact sumT_res _ _ _ _ _ _ _ _
theorem neg_fin (s : Bool) (b : Int) (h : Word b) (fb : finF s b = true) : finF s (negF s b) = true := by
  obtain ⟨c, z, rfl, hz⟩ := n_made s b h fb
  rw [neg_made s c z (by omega) (by omega)]
  exact n_fin s _ z hz
theorem mul_res (s : Bool) (a b : Int) (fa : finF s a = true) (fb : finF s b = true) : ∃ r, Res s (mulF s 0 a b) r := by
  obtain ⟨a1, a2⟩ := n_num fa
  obtain ⟨b1, b2⟩ := n_num fb
  unfold mulF
  rw [a1, b1, a2, b2]
  simp only [Bool.or_self, Bool.false_eq_true, if_false, Bool.false_and, Bool.and_false]
  exact rnd_res _ _ _ _ _
theorem div_res (s : Bool) (a b : Int) (fa : finF s a = true) (fb : finF s b = true) (nz : (cls s b == 1) = false) : ∃ r, Res s (divF s 0 a b) r := by
  obtain ⟨a1, a2⟩ := n_num fa
  obtain ⟨b1, b2⟩ := n_num fb
  unfold divF
  rw [a1, b1, a2, b2, nz]
  simp only [Bool.or_self, Bool.false_eq_true, if_false, Bool.false_and, Bool.and_false]
  exact rnd_res _ _ _ _ _
theorem zero_mk {s : Bool} {r : Int} (h1 : -fI s ≤ r) (h2 : r ≤ fI s) : (cls s (mk s r) == 1) = decide (r = 0) := by
  obtain ⟨b, e, hb⟩ := mk_made s r
  have l := fI_lt s
  have t := fI_two s
  rw [e, cls_made s b _ (by split <;> omega) (by split <;> omega), if_neg (by split <;> omega)]
  by_cases c : r = 0
  · subst c
    simp
    omega
  · rw [decide_eq_false c]
    obtain ⟨z, hz, z0⟩ : ∃ z, (if r < 0 then -r else r) = z ∧ z ≠ 0 := ⟨_, rfl, by split <;> omega⟩
    rw [hz, if_neg z0]
    by_cases q1 : z = fI s
    · rw [if_pos q1]; rfl
    · rw [if_neg q1]
      by_cases q2 : z / 2 ^ fP s = 0
      · rw [if_pos q2]; rfl
      · rw [if_neg q2]; rfl
theorem by_res {op : Int} (hop : op = 8 ∨ op = 9 ∨ op = 10 ∨ op = 11) {s : Bool} {x y : Int} (hx1 : -fI s < x) (hx2 : x < fI s) (hy1 : -fI s < y) (hy2 : y < fI s) (hz : ¬ (op = 11 ∧ y = 0)) : ∃ r, Res s (gF op s (mk s x) (mk s y)) r := by
  have fa : finF s (mk s x) = true := by rw [fin_mk (by omega) (by omega)]; exact decide_eq_true ⟨hx1, hx2⟩
  have fb : finF s (mk s y) = true := by rw [fin_mk (by omega) (by omega)]; exact decide_eq_true ⟨hy1, hy2⟩
  unfold gF
  rcases hop with rfl | rfl | rfl | rfl
  · rw [if_pos rfl]; exact add_res s _ _ fa fb
  · rw [if_neg (by decide), if_pos rfl]; exact add_res s _ _ fa (neg_fin s _ (mk_word (by omega) (by omega)) fb)
  · rw [if_neg (by decide), if_neg (by decide), if_pos rfl]; exact mul_res s _ _ fa fb
  · rw [if_neg (by decide), if_neg (by decide), if_neg (by decide)]
    refine div_res s _ _ fa fb ?_
    rw [zero_mk (by omega) (by omega)]
    exact decide_eq_false (fun e => hz ⟨rfl, e⟩)
theorem gF_word (op : Int) (s : Bool) (a b : Int) (h1 : Word a) (h2 : Word b) : Word (gF op s a b) := byF_word op s 0 a b h1 h2
/-- The line, as far as its ends go. -/
def LF (s : Bool) : Ln := LnF s 0 0
theorem LF_least (s : Bool) : (LF s).least = mk s (-(fI s - 1)) := least_mk s
theorem LF_most (s : Bool) : (LF s).most = mk s (fI s - 1) := most_mk s
theorem grtF {s : Bool} {a b : Int} (h1 : -fI s ≤ a) (h2 : a ≤ fI s) (h3 : -fI s ≤ b) (h4 : b ≤ fI s) : grt (WyF s) (mk s a) (mk s b) = mk s (max a b) := by
  unfold grt
  rw [ord_mk h3 h4 h1 h2]
  by_cases c : 0 < WyI.ord b a
  · rw [if_pos c]; have := (ordI_pos b a).1 c; rw [show max a b = b by omega]
  · rw [if_neg c]; have := mt (ordI_pos b a).2 c; rw [show max a b = a by omega]
theorem smlF {s : Bool} {a b : Int} (h1 : -fI s ≤ a) (h2 : a ≤ fI s) (h3 : -fI s ≤ b) (h4 : b ≤ fI s) : sml (WyF s) (mk s a) (mk s b) = mk s (min a b) := by
  unfold sml
  rw [ord_mk h3 h4 h1 h2]
  by_cases c : WyI.ord b a < 0
  · rw [if_pos c]; have := (ordI_neg b a).1 c; rw [show min a b = b by omega]
  · rw [if_neg c]; have := mt (ordI_neg b a).2 c; rw [show min a b = a by omega]
theorem meetF {s : Bool} {a b c d : Int} (a1 : -fI s ≤ a) (a2 : a ≤ fI s) (b1 : -fI s ≤ b) (b2 : b ≤ fI s) (c1 : -fI s ≤ c) (c2 : c ≤ fI s) (d1 : -fI s ≤ d) (d2 : d ≤ fI s) :
    meetP (WyF s) (false, mk s a, mk s b) (false, mk s c, mk s d) = if min b d < max a c then (true, 0, 0) else (false, mk s (max a c), mk s (min b d)) := by
  unfold meetP
  simp only [Bool.false_or]
  rw [grtF a1 a2 c1 c2, smlF b1 b2 d1 d2, ord_mk (by omega) (by omega) (by omega) (by omega)]
  by_cases h : min b d < max a c
  · rw [if_pos h, if_pos (by simpa using (ordI_pos _ _).2 h)]
  · rw [if_neg h, if_neg (by simpa using mt (ordI_pos _ _).1 h)]
theorem hasF {s : Bool} {a b x : Int} (a1 : -fI s ≤ a) (a2 : a ≤ fI s) (b1 : -fI s ≤ b) (b2 : b ≤ fI s) (x1 : -fI s < x) (x2 : x < fI s) : hasP (WyF s) (false, mk s a, mk s b) (mk s x) = decide (a ≤ x ∧ x ≤ b) := by
  unfold hasP
  have p : (WyF s).pl (mk s x) = mk s x := plain_mk (by omega) (by omega)
  simp only
  rw [p, one_mk x1 x2, ord_mk a1 a2 (by omega) (by omega), ord_mk (by omega) (by omega) b1 b2]
  rw [Bool.eq_iff_iff]
  simp [ordI_le]
theorem pastF {s : Bool} {v r : Int} (h : Res s v r) : pastP (WyF s) (LF s) v = decide (r = fI s ∨ r = -fI s) := by
  have t := fI_two s
  obtain ⟨h1, h2, p, _, _⟩ := h
  unfold pastP
  rw [show (WyF s).pl v = mk s r from p, LF_least, LF_most, ord_mk h1 h2 (by omega) (by omega), ord_mk h1 h2 (by omega) (by omega)]
  rw [Bool.eq_iff_iff]
  simp only [Bool.or_eq_true, decide_eq_true_eq, ordI_neg, ordI_pos]
  omega
theorem hull4 (A : Ways) (v : Int) : hullP A [v, v, v, v] = (false, A.pl v, A.pl v) := by
  have e1 : ∀ x, sml A x x = x := fun x => by unfold sml; split <;> rfl
  have e2 : ∀ x, grt A x x = x := fun x => by unfold grt; split <;> rfl
  unfold hullP joinP
  simp [e1, e2]
theorem trap4 (A : Ways) (L : Ln) (T v : Int) : trapP A L T [v, v, v, v] = if pastP A L v then T else 0 := by
  unfold trapP
  simp only [List.foldl_cons, List.foldl_nil]
  cases pastP A L v <;> rfl
/-- All results of two ranges of floats. -/
def resF (s : Bool) (op a b c d : Int) : List Int := if op = 11 then (pairsL (false, a, b) [meetP (WyF s) (false, c, d) (belowP (WyF s) (LF s) 0), meetP (WyF s) (false, c, d) (aboveP (WyF s) (LF s) 0)]).map fun p => gF 11 s p.1 p.2 else (pairsL (false, a, b) [(false, c, d)]).map fun p => gF op s p.1 p.2
def rangeF (s : Bool) (op a b c d : Int) : Bool × Int × Int := meetP (WyF s) (hullP (WyF s) (resF s op a b c d)) (false, (LF s).least, (LF s).most)
def trapsF (s : Bool) (op a b c d : Int) : Int := if op = 11 ∧ hasP (WyF s) (false, c, d) 0 = true then bits BinOp.or IntKind.i64 (trapP (WyF s) (LF s) 2 (resF s op a b c d)) (zF (hasP (WyF s) (false, a, b) 0) a b) else trapP (WyF s) (LF s) 2 (resF s op a b c d)
theorem belowF (s : Bool) : belowP (WyF s) (LF s) 0 = (false, mk s (-(fI s - 1)), mk s (-1)) := by
  have t := fI_two s
  have o : ¬ (WyF s).ord 0 (LF s).least ≤ 0 := by
    have e : (WyF s).ord 0 (LF s).least = WyI.ord 0 (-(fI s - 1)) := by
      rw [LF_least]
      exact ord_mk (r := 0) (by omega) (by omega) (by omega) (by omega)
    rw [e, ordI_le]
    omega
  unfold belowP
  rw [if_neg o, LF_least, show (WyF s).prv 0 = mk s (0 - 1) from prev_mk (r := 0) (by omega) (by omega)]
  rfl
theorem aboveF (s : Bool) : aboveP (WyF s) (LF s) 0 = (false, mk s 1, mk s (fI s - 1)) := by
  have t := fI_two s
  have o : ¬ 0 ≤ (WyF s).ord 0 (LF s).most := by
    have e : (WyF s).ord 0 (LF s).most = WyI.ord 0 (fI s - 1) := by
      rw [LF_most]
      exact ord_mk (r := 0) (by omega) (by omega) (by omega) (by omega)
    rw [e]
    have := (ordI_neg 0 (fI s - 1)).2 (by omega)
    omega
  unfold aboveP
  rw [if_neg o, LF_most, show (WyF s).nxt 0 = mk s (0 + 1) from next_mk (r := 0) (by omega) (by omega)]
  rfl
theorem lowF {s : Bool} {c d : Int} (h1 : -fI s < c) (h2 : d < fI s) (h3 : c ≤ d) : meetP (WyF s) (false, mk s c, mk s d) (belowP (WyF s) (LF s) 0) = if c ≤ -1 then (false, mk s c, mk s (min d (-1))) else (true, 0, 0) := by
  have t := fI_two s
  rw [belowF, meetF (by omega) (by omega) (by omega) (by omega) (by omega) (by omega) (by omega) (by omega)]
  by_cases h : c ≤ -1
  · rw [if_pos h, if_neg (by omega), show max c (-(fI s - 1)) = c by omega]
  · rw [if_neg h, if_pos (by omega)]
theorem highF {s : Bool} {c d : Int} (h1 : -fI s < c) (h2 : d < fI s) (h3 : c ≤ d) : meetP (WyF s) (false, mk s c, mk s d) (aboveP (WyF s) (LF s) 0) = if 1 ≤ d then (false, mk s (max c 1), mk s d) else (true, 0, 0) := by
  have t := fI_two s
  rw [aboveF, meetF (by omega) (by omega) (by omega) (by omega) (by omega) (by omega) (by omega) (by omega)]
  by_cases h : 1 ≤ d
  · rw [if_pos h, if_neg (by omega), show min d (fI s - 1) = d by omega]
  · rw [if_neg h, if_pos (by omega)]
/-- Of one number each there is one result. -/
theorem res_oneF {s : Bool} {op x y : Int} (hop : op = 8 ∨ op = 9 ∨ op = 10 ∨ op = 11) (hc : -fI s < y) (hd : y < fI s) (hy : ¬ (op = 11 ∧ y = 0)) :
    resF s op (mk s x) (mk s x) (mk s y) (mk s y) = [gF op s (mk s x) (mk s y), gF op s (mk s x) (mk s y), gF op s (mk s x) (mk s y), gF op s (mk s x) (mk s y)] := by
  unfold resF
  by_cases h : op = 11
  · subst h
    rw [if_pos rfl, lowF hc hd (Int.le_refl _), highF hc hd (Int.le_refl _)]
    by_cases n : y ≤ -1
    · rw [if_pos n, if_neg (by omega), show min y (-1) = y by omega]; rfl
    · have : y ≠ 0 := fun e => hy ⟨rfl, e⟩
      rw [if_neg n, if_pos (by omega), show max y 1 = y by omega]; rfl
  · rw [if_neg h]; rfl
theorem range_oneF {s : Bool} {op x y r : Int} (hop : op = 8 ∨ op = 9 ∨ op = 10 ∨ op = 11) (hc : -fI s < y) (hd : y < fI s) (hy : ¬ (op = 11 ∧ y = 0)) (hr : Res s (gF op s (mk s x) (mk s y)) r) :
    rangeF s op (mk s x) (mk s x) (mk s y) (mk s y) = if r = fI s ∨ r = -fI s then (true, 0, 0) else (false, mk s r, mk s r) := by
  have t := fI_two s
  obtain ⟨h1, h2, p, _, _⟩ := hr
  unfold rangeF
  rw [res_oneF hop hc hd hy, hull4, show (WyF s).pl (gF op s (mk s x) (mk s y)) = mk s r from p, LF_least, LF_most, meetF h1 h2 h1 h2 (by omega) (by omega) (by omega) (by omega)]
  by_cases c : r = fI s ∨ r = -fI s
  · rw [if_pos c, if_pos (by omega)]
  · rw [if_neg c, if_neg (by omega), show max r (-(fI s - 1)) = r by omega, show min r (fI s - 1) = r by omega]
theorem traps_oneF {s : Bool} {op x y r : Int} (hop : op = 8 ∨ op = 9 ∨ op = 10 ∨ op = 11) (hc : -fI s < y) (hd : y < fI s) (hy : ¬ (op = 11 ∧ y = 0)) (hr : Res s (gF op s (mk s x) (mk s y)) r) :
    trapsF s op (mk s x) (mk s x) (mk s y) (mk s y) = if r = fI s ∨ r = -fI s then 2 else 0 := by
  have t := fI_two s
  unfold trapsF
  rw [if_neg (by
    rintro ⟨h, h'⟩
    rw [show (0 : Int) = mk s 0 from rfl, hasF (by omega) (by omega) (by omega) (by omega) (by omega) (by omega)] at h'
    have := of_decide_eq_true h'
    exact hy ⟨h, by omega⟩), res_oneF hop hc hd hy, trap4, pastF hr]
  by_cases c : r = fI s ∨ r = -fI s
  · rw [if_pos c, if_pos (by simpa using c)]
  · rw [if_neg c, if_neg (by simpa using c)]
theorem range_zeroF (s : Bool) (a : Int) : rangeF s 11 a a (mk s 0) (mk s 0) = (true, 0, 0) := by
  have t := fI_two s
  unfold rangeF resF
  rw [if_pos rfl, lowF (by omega) (by omega) (by decide), highF (by omega) (by omega) (by decide), if_neg (by decide), if_neg (by decide)]
  rfl
theorem traps_zeroF {s : Bool} {x : Int} (h1 : -fI s < x) (h2 : x < fI s) : trapsF s 11 (mk s x) (mk s x) (mk s 0) (mk s 0) = if x = 0 then 1 else 2 := by
  have t := fI_two s
  unfold trapsF resF
  have hh : hasP (WyF s) (false, mk s 0, mk s 0) 0 = true := by
    have := hasF (s := s) (a := 0) (b := 0) (x := 0) (by omega) (by omega) (by omega) (by omega) (by omega) (by omega)
    rw [show mk s 0 = (0 : Int) from rfl] at this ⊢
    rw [this]; decide
  have hx : hasP (WyF s) (false, mk s x, mk s x) 0 = decide (x = 0) := by
    have := hasF (s := s) (a := x) (b := x) (x := 0) (by omega) (by omega) (by omega) (by omega) (by omega) (by omega)
    rw [show mk s 0 = (0 : Int) from rfl] at this
    rw [this, decide_eq_decide]; omega
  rw [if_pos ⟨rfl, hh⟩, if_pos rfl, lowF (by omega) (by omega) (by decide), highF (by omega) (by omega) (by decide), if_neg (by decide), if_neg (by decide), hx]
  show bits BinOp.or IntKind.i64 0 (zF (decide (x = 0)) (mk s x) (mk s x)) = _
  by_cases c : x = 0
  · subst c
    rw [if_pos rfl, show zF (decide ((0 : Int) = 0)) (mk s 0) (mk s 0) = 1 by rw [mk_zero]; decide]
    rfl
  · rw [if_neg c]
    have n0 : ¬ mk s x = 0 := fun e => c (mk_inj (by omega) (by omega) (by omega) (by omega) (e.trans (mk_zero s).symm))
    rw [show zF (decide (x = 0)) (mk s x) (mk s x) = 2 by simp [zF, c, n0]]
    rfl
end Go.Proofs.YteafnkimcidkhaaGreat
namespace Go.Proofs.YteafnkimcidkhaaGreat
open Go.RowKit
set_option linter.unusedVariables false
set_option linter.unusedSimpArgs false
theorem pairs_inF {a b : Int} {ls : List (Bool × Int × Int)} {p : Int × Int} (hp : p ∈ pairsL (false, a, b) ls) : (p.1 = a ∨ p.1 = b) ∧ ∃ s ∈ ls, s.1 = false ∧ (p.2 = s.2.1 ∨ p.2 = s.2.2) := by
  unfold pairsL withL endsL at hp
  simp only [List.flatMap_cons, List.flatMap_nil, List.append_nil, List.mem_append, List.mem_map, List.mem_flatMap, List.mem_cons, List.not_mem_nil, or_false, Bool.false_eq_true, if_false] at hp
  rcases hp with ⟨y, ⟨s, hs, hy⟩, rfl⟩ | ⟨y, ⟨s, hs, hy⟩, rfl⟩
  all_goals
    cases hs1 : s.1
    · rw [hs1] at hy
      simp only [Bool.false_eq_true, if_false, List.mem_cons, List.not_mem_nil, or_false] at hy
      exact ⟨by simp, s, hs, hs1, hy⟩
    · rw [hs1] at hy
      simp at hy
theorem word_0 : Word 0 := ⟨by decide, by decide⟩
theorem word_least (s : Bool) : Word (LF s).least := by rw [LF_least]; have := fI_two s; exact mk_word (by omega) (by omega)
theorem word_most (s : Bool) : Word (LF s).most := by rw [LF_most]; have := fI_two s; exact mk_word (by omega) (by omega)
theorem meet_word {s : Bool} {p q : Bool × Int × Int} (h1 : Word p.2.1) (h2 : Word p.2.2) (h3 : Word q.2.1) (h4 : Word q.2.2) : Word (meetP (WyF s) p q).2.1 ∧ Word (meetP (WyF s) p q).2.2 := by
  have g := grt_dom (A := WyF s) (x := p.2.1) (y := q.2.1) h1 h3
  have l := sml_dom (A := WyF s) (x := p.2.2) (y := q.2.2) h2 h4
  unfold meetP
  split
  · exact ⟨word_0, word_0⟩
  · exact ⟨g, l⟩
theorem below_word (s : Bool) : Word (belowP (WyF s) (LF s) 0).2.1 ∧ Word (belowP (WyF s) (LF s) 0).2.2 := by
  have := fI_two s
  rw [belowF]; exact ⟨mk_word (s := s) (r := -(fI s - 1)) (by omega) (by omega), mk_word (s := s) (r := -1) (by omega) (by omega)⟩
theorem above_word (s : Bool) : Word (aboveP (WyF s) (LF s) 0).2.1 ∧ Word (aboveP (WyF s) (LF s) 0).2.2 := by
  have := fI_two s
  rw [aboveF]; exact ⟨mk_word (s := s) (r := 1) (by omega) (by omega), mk_word (s := s) (r := fI s - 1) (by omega) (by omega)⟩
theorem twoF_any (f op : Int) (hop : op = 8 ∨ op = 9 ∨ op = 10 ∨ op = 11) (a b c d : Int) (ha : Word a) (hb : Word b) (hc : Word c) (hd : Word d) (w : World) :
    Calls Tryz.prog 52 #[.int .i64 f, .int .i64 op, .agg #[.bool false, .int .u64 a, .int .u64 b], .agg #[.bool false, .int .u64 c, .int .u64 d]] w fun e w' =>
      e = .returned (.tuple #[.agg #[.bool (rangeF (f == 1) op a b c d).1, .int .u64 (rangeF (f == 1) op a b c d).2.1, .int .u64 (rangeF (f == 1) op a b c d).2.2], .int .i64 (trapsF (f == 1) op a b c d)]) ∧ Below w.heap.size w w' := by
  refine ftwo_of f op false false a b c d _ _ _ _ (fun L B w0 hL V ok => ?_) w
  have H := fl_acts hL
  have hby := by2_f hL op hop
  have het := et_f hL
  have hez := ez_f hL
  have hz := fun V ok => byZero_f hL false a b ha hb V ok
  have hT : ∀ w, Calls Tryz.prog 148 #[.int .i64 L.past] w fun e w' => e = .returned (.int .i64 2) ∧ w' = w := by
    rw [(fl_least hL).2.2]; exact trapsOf_f2
  have gw : ∀ x y, Word x → Word y → (Word x ∧ Word y) ∧ (WyF (f == 1)).dom (gF op (f == 1) x y) ∧ (WyF (f == 1)).dom ((WyF (f == 1)).pl (gF op (f == 1) x y)) := fun x y hx hy =>
    ⟨⟨hx, hy⟩, gF_word op _ x y hx hy, n_plainw _ _ (gF_word op _ x y hx hy)⟩
  have dl : (WyF (f == 1)).dom L.least := by rw [(fl_least hL).1]; exact word_least (f == 1)
  have dm : (WyF (f == 1)).dom L.most := by rw [(fl_least hL).2.1]; exact word_most (f == 1)
  obtain ⟨p, q, rfl, _⟩ := hL
  generalize hs : (f == 1) = s at *
  by_cases h11 : op = 11
  · subst h11
    have h := twod_f H het hez 2 hT (fun x y => Word x ∧ Word y) (gF 11 s) hby a b c d (zF (hasP (WyF s) (false, a, b) 0) a b) word_0 (n_plainw s 0 word_0) (by
        have := fI_two s
        exact one_mk (r := 0) (by omega) (by omega)) dl dm (by
        have := fI_two s
        show Word (prevF s (mk s 0))
        rw [prev_mk (by omega) (by omega)]
        exact mk_word (by omega) (by omega)) (by
        have := fI_two s
        show Word (nextF s (mk s 0))
        rw [next_mk (by omega) (by omega)]
        exact mk_word (by omega) (by omega)) hc hd (fun t ht => by
      obtain ⟨t1, u, hu, _, t2⟩ := pairs_inF ht
      have hw1 : Word t.1 := by rcases t1 with e | e <;> rw [e] <;> assumption
      have hw2 : Word t.2 := by
        have m : Word u.2.1 ∧ Word u.2.2 := by
          simp only [List.mem_cons, List.not_mem_nil, or_false] at hu
          rcases hu with rfl | rfl
          · exact meet_word (p := (false, c, d)) hc hd (below_word s).1 (below_word s).2
          · exact meet_word (p := (false, c, d)) hc hd (above_word s).1 (above_word s).2
        rcases t2 with e | e
        · rw [e]; exact m.1
        · rw [e]; exact m.2
      exact gw t.1 t.2 hw1 hw2) V ok (fun V' ok' => hz V' ok')
    refine h.mono ?_
    rintro e w' ⟨rfl, g⟩
    refine ⟨?_, g⟩
    unfold trapsF rangeF resF sVf
    simp only [if_true, true_and]
    rfl
  · have h := two_f H het 2 hT op (by simp [h11]) (fun x y => Word x ∧ Word y) (gF op s) hby a b c d word_0 dl dm (fun t ht => by
      obtain ⟨t1, u, hu, _, t2⟩ := pairs_inF ht
      have hw1 : Word t.1 := by rcases t1 with e | e <;> rw [e] <;> assumption
      have hw2 : Word t.2 := by
        simp only [List.mem_cons, List.not_mem_nil, or_false] at hu
        subst hu
        rcases t2 with e | e <;> rw [e] <;> assumption
      exact gw t.1 t.2 hw1 hw2) V ok
    refine h.mono ?_
    rintro e w' ⟨rfl, g⟩
    refine ⟨?_, g⟩
    unfold trapsF rangeF resF sVf
    simp only [h11, if_false, false_and]
    rfl
theorem ofF_any (f x y : Int) (hx : Word x) (hy : Word y) (w : World) :
    Calls Tryz.prog 50 #[.int .i64 f, .int .u64 x, .int .u64 y] w fun e w' => e = .returned (.agg #[.bool (ofP (WyF (f == 1)) x y).1, .int .u64 (ofP (WyF (f == 1)) x y).2.1, .int .u64 (ofP (WyF (f == 1)) x y).2.2]) ∧ Below w.heap.size w w' :=
  fof_of f x y _ _ _ (fun L B w0 hL V ok => of_f (fl_acts hL) x y hx hy (n_plainw _ _ hx) (n_plainw _ _ hy) V ok) w
theorem of_oneF {s : Bool} {r : Int} (h1 : -fI s < r) (h2 : r < fI s) : ofP (WyF s) (mk s r) (mk s r) = (false, mk s r, mk s r) := by
  have p : (WyF s).pl (mk s r) = mk s r := plain_mk (by omega) (by omega)
  have o : decide (WyI.ord r r ≤ 0) = true := decide_eq_true ((ordI_le r r).2 (Int.le_refl _))
  unfold ofP rightP
  simp only [Bool.false_eq_true, if_false]
  rw [p, one_mk h1 h2, ord_mk (by omega) (by omega) (by omega) (by omega), o]
  rfl
end Go.Proofs.YteafnkimcidkhaaGreat

