/- Texts of the proof, put together. -/
import Derived.Test.YthjoigkckgdcaaaGreatXSpF
import Derived.Test.YthjoigkckgdcaaaGreatXMB3
import Derived.Test.YthjoigkckgdcaaaGreatXSpS
import Derived.Test.YthjoigkckgdcaaaGreatXSpFt
import Derived.Test.YthjoigkckgdcaaaGreatXMB1
import Derived.Test.YthjoigkckgdcaaaGreatXMB2
import Derived.Test.YthjoigkckgdcaaaGreatXG2
import Derived.Test.YthjoigkckgdcaaaGreatXSpDp
namespace Go.Proofs.YthjoigkckgdcaaaGreat
set_option linter.unusedVariables false
set_option linter.unusedSimpArgs false
def mk (s : Bool) (r : Int) : Int := if r < 0 then sgnd s true (-r) else r
theorem fI_two (s : Bool) : 2 < fI s := by cases s <;> decide
theorem mk_made (s : Bool) (r : Int) : ∃ b : Bool, mk s r = sgnd s b (if r < 0 then -r else r) ∧ (b = true ↔ r < 0) := by
  unfold mk
  by_cases h : r < 0
  · exact ⟨true, by simp [h], by simp [h]⟩
  · exact ⟨false, by simp [h, sgnd], by simp [h]⟩
theorem mk_word {s : Bool} {r : Int} (h1 : -fI s ≤ r) (h2 : r ≤ fI s) : Word (mk s r) := by
  obtain ⟨b, e, _⟩ := mk_made s r
  rw [e]
  exact sgnd_word s b _ (by split <;> omega) (by split <;> omega)
theorem mk_rnk {s : Bool} {r : Int} (h1 : -fI s ≤ r) (h2 : r ≤ fI s) : rnk s (mk s r) = r := by
  obtain ⟨b, e, hb⟩ := mk_made s r
  rw [e, rnk_made s b _ (by split <;> omega) (by split <;> omega)]
  cases b
  · have : ¬ r < 0 := fun h => by simpa using hb.2 h
    simp [this]
  · have := hb.1 rfl
    simp [this]
theorem mk_inj {s : Bool} {r q : Int} (h1 : -fI s ≤ r) (h2 : r ≤ fI s) (h3 : -fI s ≤ q) (h4 : q ≤ fI s) (e : mk s r = mk s q) : r = q := by
  rw [← mk_rnk h1 h2, ← mk_rnk h3 h4, e]
theorem cmp_mk {s : Bool} {r q : Int} (h1 : -fI s ≤ r) (h2 : r ≤ fI s) (h3 : -fI s ≤ q) (h4 : q ≤ fI s) : cmpF s (mk s r) (mk s q) = (cmpI r q, true) := by
  obtain ⟨b, e, hb⟩ := mk_made s r
  obtain ⟨c, k, hc⟩ := mk_made s q
  rw [e, k, cmp_made s b c _ _ (by split <;> omega) (by split <;> omega) (by split <;> omega) (by split <;> omega)]
  have f1 : (if b then -(if r < 0 then -r else r) else (if r < 0 then -r else r)) = r := by
    cases b
    · have : ¬ r < 0 := fun h => by simpa using hb.2 h
      simp [this]
    · have := hb.1 rfl
      simp [this]
  have f2 : (if c then -(if q < 0 then -q else q) else (if q < 0 then -q else q)) = q := by
    cases c
    · have : ¬ q < 0 := fun h => by simpa using hc.2 h
      simp [this]
    · have := hc.1 rfl
      simp [this]
  rw [f1, f2]
  rfl
theorem fin_mk {s : Bool} {r : Int} (h1 : -fI s ≤ r) (h2 : r ≤ fI s) : finF s (mk s r) = decide (-fI s < r ∧ r < fI s) := by
  obtain ⟨b, e, hb⟩ := mk_made s r
  rw [e]
  obtain ⟨z, hz⟩ := Int.eq_ofNat_of_zero_le (show 0 ≤ (if r < 0 then -r else r) by split <;> omega)
  by_cases c : -fI s < r ∧ r < fI s
  · rw [decide_eq_true c, hz, n_fin s b z (by rw [← hz]; split <;> omega)]
  · rw [decide_eq_false c]
    have k : cls s (sgnd s b (if r < 0 then -r else r)) = 4 := by
      have l := fI_lt s
      rw [cls_made s b _ (by split <;> omega) (by split <;> omega), if_neg (by split <;> omega), if_pos (by split <;> omega)]
    unfold finF
    rw [k]
    rfl
theorem plain_mk {s : Bool} {r : Int} (h1 : -fI s ≤ r) (h2 : r ≤ fI s) : plainF s (mk s r) = mk s r := by
  obtain ⟨b, e, hb⟩ := mk_made s r
  have l := fI_lt s
  have k := cls_made s b (if r < 0 then -r else r) (by split <;> omega) (by split <;> omega)
  rw [e]
  unfold plainF
  rw [k]
  by_cases z : r = 0
  · subst z
    have : b = false := by
      cases b
      · rfl
      · exact absurd (hb.1 rfl) (by decide)
    subst this
    simp [sgnd]
    have := fI_two s
    split <;> (try split) <;> (try split) <;> simp_all <;> omega
  · have n0 : ¬ (if r < 0 then -r else r) = 0 := by split <;> omega
    have n1 : ¬ fI s < (if r < 0 then -r else r) := by split <;> omega
    rw [if_neg n1, if_neg n0]
    by_cases c : (if r < 0 then -r else r) = fI s
    · rw [if_pos c]; rfl
    · rw [if_neg c]
      by_cases d : (if r < 0 then -r else r) / 2 ^ fP s = 0
      · rw [if_pos d]; rfl
      · rw [if_neg d]; rfl
theorem num_mk (s : Bool) (a : Int) (h : Word a) (n : (cls s a == 0 || cls s a == 5) = false) : ∃ r, -fI s ≤ r ∧ r ≤ fI s ∧ plainF s a = mk s r := by
  rcases num_or s a h with c | ⟨b, z, rfl, z0, z1⟩
  · rw [n] at c; exact absurd c (by decide)
  · by_cases e : z = 0
    · subst e
      refine ⟨0, by have := fI_two s; omega, by have := fI_two s; omega, ?_⟩
      rw [show (0 : Int) = ((0 : Nat) : Int) from rfl, n_plain s b 0 (by have := fI_two s; omega)]
      rfl
    · refine ⟨if b then -z else z, by split <;> omega, by split <;> omega, ?_⟩
      have m : mk s (if b then -z else z) = sgnd s b z := by
        unfold mk
        cases b
        · have : ¬ z < 0 := by omega
          simp [this, sgnd]
        · have : -z < 0 := by omega
          rw [if_pos rfl, if_pos this, Int.neg_neg]
      rw [← m]
      exact plain_mk (by split <;> omega) (by split <;> omega)
theorem one_mk {s : Bool} {r : Int} (h1 : -fI s < r) (h2 : r < fI s) : (WyF s).one (mk s r) = true := by
  show (finF s (mk s r) && (plainF s (mk s r) == mk s r)) = true
  rw [fin_mk (by omega) (by omega), plain_mk (by omega) (by omega), decide_eq_true ⟨h1, h2⟩]
  simp
theorem one_is {s : Bool} {a : Int} (h : Word a) (o : (WyF s).one a = true) : ∃ r, -fI s < r ∧ r < fI s ∧ a = mk s r := by
  have o' : (finF s a && (plainF s a == a)) = true := o
  simp only [Bool.and_eq_true, beq_iff_eq] at o'
  obtain ⟨r, r1, r2, e⟩ := num_mk s a h (n_num o'.1).1
  rw [o'.2] at e
  subst e
  have f := o'.1
  rw [fin_mk r1 r2] at f
  have := of_decide_eq_true f
  exact ⟨r, this.1, this.2, rfl⟩
theorem ord_mk {s : Bool} {r q : Int} (h1 : -fI s ≤ r) (h2 : r ≤ fI s) (h3 : -fI s ≤ q) (h4 : q ≤ fI s) : (WyF s).ord (mk s r) (mk s q) = WyI.ord r q := by
  show (cmpF s (mk s r) (mk s q)).1 = cmpI r q
  rw [cmp_mk h1 h2 h3 h4]
theorem least_mk (s : Bool) : negF s (fI s - 1) = mk s (-(fI s - 1)) := by cases s <;> decide +kernel
theorem most_mk (s : Bool) : fI s - 1 = mk s (fI s - 1) := by cases s <;> decide +kernel
theorem next_mk {s : Bool} {r : Int} (h1 : -fI s < r) (h2 : r < fI s - 1) : nextF s (mk s r) = mk s (r + 1) := by
  have p := plain_mk (s := s) (r := r) (by omega) (by omega)
  have ne : plainF s (mk s r) ≠ fI s - 1 := by
    rw [p]
    intro e
    rw [most_mk] at e
    have := mk_inj (by omega) (by omega) (by omega) (by omega) e
    omega
  have f : finF s (mk s r) = true := by rw [fin_mk (by omega) (by omega)]; exact decide_eq_true ⟨h1, by omega⟩
  have st := n_step s (mk s r) (mk_word (by omega) (by omega)) f ne
  rw [p] at st
  have one := st.one
  rw [mk_rnk (by omega) (by omega)] at one
  obtain ⟨b, z, e, hz⟩ := n_made s _ st.wn st.fn
  rw [e] at one ⊢
  rw [n_rnk s b z hz] at one
  unfold mk
  cases b
  · have one' : (z : Int) = r + 1 := by simpa using one
    rw [if_neg (by omega)]
    show (z : Int) = r + 1
    omega
  · have one' : -(z : Int) = r + 1 := by simpa using one
    by_cases z0 : z = 0
    · -- -0 is not what is next
      subst z0
      exfalso
      have r1 : r = -1 := by omega
      subst r1
      have e1 := n_neg s 1 (by decide) (by have := fI_two s; omega)
      have m1 : mk s (-1) = sgnd s true ((1 : Nat) : Int) := by unfold mk; simp
      rw [m1, e1] at e
      revert e
      cases s <;> decide
    · rw [if_pos (by omega)]
      congr 1
      omega
theorem prev_mk {s : Bool} {r : Int} (h1 : -(fI s - 1) < r) (h2 : r < fI s) : prevF s (mk s r) = mk s (r - 1) := by
  have st := next_mk (s := s) (r := r - 1) (by omega) (by omega)
  have p := plain_mk (s := s) (r := r - 1) (by omega) (by omega)
  have ne : plainF s (mk s (r - 1)) ≠ fI s - 1 := by
    rw [p]
    intro e
    rw [most_mk] at e
    have := mk_inj (by omega) (by omega) (by omega) (by omega) e
    omega
  have f : finF s (mk s (r - 1)) = true := by rw [fin_mk (by omega) (by omega)]; exact decide_eq_true ⟨by omega, by omega⟩
  have k := n_step s (mk s (r - 1)) (mk_word (by omega) (by omega)) f ne
  rw [p, st, show r - 1 + 1 = r by omega] at k
  exact k.back
end Go.Proofs.YthjoigkckgdcaaaGreat


namespace Go.Proofs.YthjoigkckgdcaaaGreat
set_option linter.unusedVariables false
set_option linter.unusedSimpArgs false
theorem made_num (s b : Bool) (z : Int) (h0 : 0 ≤ z) (h : z ≤ fI s) : (cls s (sgnd s b z) == 0 || cls s (sgnd s b z) == 5) = false := by
  have l := fI_lt s
  rw [cls_made s b z h0 (by omega), if_neg (by omega)]
  split
  · rfl
  · split
    · rfl
    · split <;> rfl
structure Res (s : Bool) (v r : Int) : Prop where
  lo : -fI s ≤ r
  hi : r ≤ fI s
  pl : plainF s v = mk s r
  num : (cls s v == 0 || cls s v == 5) = false
  inf : (cls s v == 4) = decide (r = fI s ∨ r = -fI s)
theorem made_res (s b : Bool) (z : Int) (h0 : 0 ≤ z) (h : z ≤ fI s) : Res s (sgnd s b z) (if b then -z else z) := by
  have l := fI_lt s
  have t := fI_two s
  have e : plainF s (sgnd s b z) = mk s (if b then -z else z) := by
    by_cases c : z = 0
    · subst c
      rw [show (0 : Int) = ((0 : Nat) : Int) from rfl, n_plain s b 0 (by omega)]
      cases b <;> rfl
    · have m : mk s (if b then -z else z) = sgnd s b z := by
        unfold mk
        cases b
        · have : ¬ z < 0 := by omega
          simp [this, sgnd]
        · have : -z < 0 := by omega
          rw [if_pos rfl, if_pos this, Int.neg_neg]
      rw [← m]
      exact plain_mk (by split <;> omega) (by split <;> omega)
  refine ⟨by split <;> omega, by split <;> omega, e, made_num s b z h0 h, ?_⟩
  rw [cls_made s b z h0 (by omega), if_neg (by omega)]
  by_cases c : z = fI s
  · rw [if_pos c, decide_eq_true (by cases b <;> simp <;> omega)]; rfl
  · rw [if_neg c, decide_eq_false (by cases b <;> simp <;> omega)]
    split
    · rfl
    · split <;> rfl
theorem gF_word (op : Int) (s : Bool) (a b : Int) (h1 : Word a) (h2 : Word b) : Word (gF op s a b) := byF_word op s 0 a b h1 h2
def LF (s : Bool) : Ln := LnF s 0 0
theorem LF_least (s : Bool) : (LF s).least = mk s (-(fI s - 1)) := least_mk s
theorem LF_most (s : Bool) : (LF s).most = mk s (fI s - 1) := most_mk s
theorem grtF {s : Bool} {a b : Int} (h1 : -fI s ≤ a) (h2 : a ≤ fI s) (h3 : -fI s ≤ b) (h4 : b ≤ fI s) : grt (WyF s) (mk s a) (mk s b) = mk s (max a b) := by
  unfold grt
  rw [ord_mk h3 h4 h1 h2]
  by_cases c : 0 < WyI.ord b a
  · rw [if_pos c]; have := (ordI_pos b a).1 c; rw [show max a b = b by omega]
  · rw [if_neg c]; have := mt (ordI_pos b a).2 c; rw [show max a b = a by omega]
theorem smlF {s : Bool} {a b : Int} (h1 : -fI s ≤ a) (h2 : a ≤ fI s) (h3 : -fI s ≤ b) (h4 : b ≤ fI s) : sml (WyF s) (mk s a) (mk s b) = mk s (min a b) := by
  unfold sml
  rw [ord_mk h3 h4 h1 h2]
  by_cases c : WyI.ord b a < 0
  · rw [if_pos c]; have := (ordI_neg b a).1 c; rw [show min a b = b by omega]
  · rw [if_neg c]; have := mt (ordI_neg b a).2 c; rw [show min a b = a by omega]
theorem meetF {s : Bool} {a b c d : Int} (a1 : -fI s ≤ a) (a2 : a ≤ fI s) (b1 : -fI s ≤ b) (b2 : b ≤ fI s) (c1 : -fI s ≤ c) (c2 : c ≤ fI s) (d1 : -fI s ≤ d) (d2 : d ≤ fI s) :
    meetP (WyF s) (false, mk s a, mk s b) (false, mk s c, mk s d) = if min b d < max a c then (true, 0, 0) else (false, mk s (max a c), mk s (min b d)) := by
  unfold meetP
  simp only [Bool.false_or]
  rw [grtF a1 a2 c1 c2, smlF b1 b2 d1 d2, ord_mk (by omega) (by omega) (by omega) (by omega)]
  by_cases h : min b d < max a c
  · rw [if_pos h, if_pos (by simpa using (ordI_pos _ _).2 h)]
  · rw [if_neg h, if_neg (by simpa using mt (ordI_pos _ _).1 h)]
theorem pastF {s : Bool} {v r : Int} (h : Res s v r) : pastP (WyF s) (LF s) v = decide (r = fI s ∨ r = -fI s) := by
  have t := fI_two s
  obtain ⟨h1, h2, p, _, _⟩ := h
  unfold pastP
  rw [show (WyF s).pl v = mk s r from p, LF_least, LF_most, ord_mk h1 h2 (by omega) (by omega), ord_mk h1 h2 (by omega) (by omega)]
  rw [Bool.eq_iff_iff]
  simp only [Bool.or_eq_true, decide_eq_true_eq, ordI_neg, ordI_pos]
  omega
def resF (s : Bool) (op a b c d : Int) : List Int := if op = 11 then (pairsL (false, a, b) [meetP (WyF s) (false, c, d) (belowP (WyF s) (LF s) 0), meetP (WyF s) (false, c, d) (aboveP (WyF s) (LF s) 0)]).map fun p => gF 11 s p.1 p.2 else (pairsL (false, a, b) [(false, c, d)]).map fun p => gF op s p.1 p.2
def rangeF (s : Bool) (op a b c d : Int) : Bool × Int × Int := meetP (WyF s) (hullP (WyF s) (resF s op a b c d)) (false, (LF s).least, (LF s).most)
def trapsF (s : Bool) (op a b c d : Int) : Int := if op = 11 ∧ hasP (WyF s) (false, c, d) 0 = true then bits BinOp.or IntKind.i64 (trapP (WyF s) (LF s) 2 (resF s op a b c d)) (zF (hasP (WyF s) (false, a, b) 0) a b) else trapP (WyF s) (LF s) 2 (resF s op a b c d)
theorem belowF (s : Bool) : belowP (WyF s) (LF s) 0 = (false, mk s (-(fI s - 1)), mk s (-1)) := by
  have t := fI_two s
  have o : ¬ (WyF s).ord 0 (LF s).least ≤ 0 := by
    have e : (WyF s).ord 0 (LF s).least = WyI.ord 0 (-(fI s - 1)) := by
      rw [LF_least]
      exact ord_mk (r := 0) (by omega) (by omega) (by omega) (by omega)
    rw [e, ordI_le]
    omega
  unfold belowP
  rw [if_neg o, LF_least, show (WyF s).prv 0 = mk s (0 - 1) from prev_mk (r := 0) (by omega) (by omega)]
  rfl
theorem aboveF (s : Bool) : aboveP (WyF s) (LF s) 0 = (false, mk s 1, mk s (fI s - 1)) := by
  have t := fI_two s
  have o : ¬ 0 ≤ (WyF s).ord 0 (LF s).most := by
    have e : (WyF s).ord 0 (LF s).most = WyI.ord 0 (fI s - 1) := by
      rw [LF_most]
      exact ord_mk (r := 0) (by omega) (by omega) (by omega) (by omega)
    rw [e]
    have := (ordI_neg 0 (fI s - 1)).2 (by omega)
    omega
  unfold aboveP
  rw [if_neg o, LF_most, show (WyF s).nxt 0 = mk s (0 + 1) from next_mk (r := 0) (by omega) (by omega)]
  rfl
theorem lowF {s : Bool} {c d : Int} (h1 : -fI s < c) (h2 : d < fI s) (h3 : c ≤ d) : meetP (WyF s) (false, mk s c, mk s d) (belowP (WyF s) (LF s) 0) = if c ≤ -1 then (false, mk s c, mk s (min d (-1))) else (true, 0, 0) := by
  have t := fI_two s
  rw [belowF, meetF (by omega) (by omega) (by omega) (by omega) (by omega) (by omega) (by omega) (by omega)]
  by_cases h : c ≤ -1
  · rw [if_pos h, if_neg (by omega), show max c (-(fI s - 1)) = c by omega]
  · rw [if_neg h, if_pos (by omega)]
theorem highF {s : Bool} {c d : Int} (h1 : -fI s < c) (h2 : d < fI s) (h3 : c ≤ d) : meetP (WyF s) (false, mk s c, mk s d) (aboveP (WyF s) (LF s) 0) = if 1 ≤ d then (false, mk s (max c 1), mk s d) else (true, 0, 0) := by
  have t := fI_two s
  rw [aboveF, meetF (by omega) (by omega) (by omega) (by omega) (by omega) (by omega) (by omega) (by omega)]
  by_cases h : 1 ≤ d
  · rw [if_pos h, if_neg (by omega), show min d (fI s - 1) = d by omega]
  · rw [if_neg h, if_pos (by omega)]
end Go.Proofs.YthjoigkckgdcaaaGreat
namespace Go.Proofs.YthjoigkckgdcaaaGreat
open Go.RowKit
set_option linter.unusedVariables false
set_option linter.unusedSimpArgs false
theorem pairs_inF {a b : Int} {ls : List (Bool × Int × Int)} {p : Int × Int} (hp : p ∈ pairsL (false, a, b) ls) : (p.1 = a ∨ p.1 = b) ∧ ∃ s ∈ ls, s.1 = false ∧ (p.2 = s.2.1 ∨ p.2 = s.2.2) := by
  unfold pairsL withL endsL at hp
  simp only [List.flatMap_cons, List.flatMap_nil, List.append_nil, List.mem_append, List.mem_map, List.mem_flatMap, List.mem_cons, List.not_mem_nil, or_false, Bool.false_eq_true, if_false] at hp
  rcases hp with ⟨y, ⟨s, hs, hy⟩, rfl⟩ | ⟨y, ⟨s, hs, hy⟩, rfl⟩
  all_goals
    cases hs1 : s.1
    · rw [hs1] at hy
      simp only [Bool.false_eq_true, if_false, List.mem_cons, List.not_mem_nil, or_false] at hy
      exact ⟨by simp, s, hs, hs1, hy⟩
    · rw [hs1] at hy
      simp at hy
theorem word_0 : Word 0 := ⟨by decide, by decide⟩
theorem word_least (s : Bool) : Word (LF s).least := by rw [LF_least]; have := fI_two s; exact mk_word (by omega) (by omega)
theorem word_most (s : Bool) : Word (LF s).most := by rw [LF_most]; have := fI_two s; exact mk_word (by omega) (by omega)
theorem meet_word {s : Bool} {p q : Bool × Int × Int} (h1 : Word p.2.1) (h2 : Word p.2.2) (h3 : Word q.2.1) (h4 : Word q.2.2) : Word (meetP (WyF s) p q).2.1 ∧ Word (meetP (WyF s) p q).2.2 := by
  have g := grt_dom (A := WyF s) (x := p.2.1) (y := q.2.1) h1 h3
  have l := sml_dom (A := WyF s) (x := p.2.2) (y := q.2.2) h2 h4
  unfold meetP
  split
  · exact ⟨word_0, word_0⟩
  · exact ⟨g, l⟩
theorem below_word (s : Bool) : Word (belowP (WyF s) (LF s) 0).2.1 ∧ Word (belowP (WyF s) (LF s) 0).2.2 := by
  have := fI_two s
  rw [belowF]; exact ⟨mk_word (s := s) (r := -(fI s - 1)) (by omega) (by omega), mk_word (s := s) (r := -1) (by omega) (by omega)⟩
theorem above_word (s : Bool) : Word (aboveP (WyF s) (LF s) 0).2.1 ∧ Word (aboveP (WyF s) (LF s) 0).2.2 := by
  have := fI_two s
  rw [aboveF]; exact ⟨mk_word (s := s) (r := 1) (by omega) (by omega), mk_word (s := s) (r := fI s - 1) (by omega) (by omega)⟩
theorem twoF_any (f op : Int) (hop : op = 8 ∨ op = 9 ∨ op = 10 ∨ op = 11) (a b c d : Int) (ha : Word a) (hb : Word b) (hc : Word c) (hd : Word d) (w : World) :
    Calls Tryz.prog 34 #[.int .i64 f, .int .i64 op, .agg #[.bool false, .int .u64 a, .int .u64 b], .agg #[.bool false, .int .u64 c, .int .u64 d]] w fun e w' =>
      e = .returned (.tuple #[.agg #[.bool (rangeF (f == 1) op a b c d).1, .int .u64 (rangeF (f == 1) op a b c d).2.1, .int .u64 (rangeF (f == 1) op a b c d).2.2], .int .i64 (trapsF (f == 1) op a b c d)]) ∧ Below w.heap.size w w' := by
  refine ftwo_of f op false false a b c d _ _ _ _ (fun L B w0 hL V ok => ?_) w
  have H := fl_acts hL
  have hby := by2_f hL op hop
  have het := et_f hL
  have hez := ez_f hL
  have hz := fun V ok => byZero_f hL false a b ha hb V ok
  have hT : ∀ w, Calls Tryz.prog 161 #[.int .i64 L.past] w fun e w' => e = .returned (.int .i64 2) ∧ w' = w := by
    rw [(fl_least hL).2.2]; exact trapsOf_f2
  have gw : ∀ x y, Word x → Word y → (Word x ∧ Word y) ∧ (WyF (f == 1)).dom (gF op (f == 1) x y) ∧ (WyF (f == 1)).dom ((WyF (f == 1)).pl (gF op (f == 1) x y)) := fun x y hx hy =>
    ⟨⟨hx, hy⟩, gF_word op _ x y hx hy, n_plainw _ _ (gF_word op _ x y hx hy)⟩
  have dl : (WyF (f == 1)).dom L.least := by rw [(fl_least hL).1]; exact word_least (f == 1)
  have dm : (WyF (f == 1)).dom L.most := by rw [(fl_least hL).2.1]; exact word_most (f == 1)
  obtain ⟨p, q, rfl, _⟩ := hL
  generalize hs : (f == 1) = s at *
  by_cases h11 : op = 11
  · subst h11
    have h := twod_f H het hez 2 hT (fun x y => Word x ∧ Word y) (gF 11 s) hby a b c d (zF (hasP (WyF s) (false, a, b) 0) a b) word_0 (n_plainw s 0 word_0) (by
        have := fI_two s
        exact one_mk (r := 0) (by omega) (by omega)) dl dm (by
        have := fI_two s
        show Word (prevF s (mk s 0))
        rw [prev_mk (by omega) (by omega)]
        exact mk_word (by omega) (by omega)) (by
        have := fI_two s
        show Word (nextF s (mk s 0))
        rw [next_mk (by omega) (by omega)]
        exact mk_word (by omega) (by omega)) hc hd (fun t ht => by
      obtain ⟨t1, u, hu, _, t2⟩ := pairs_inF ht
      have hw1 : Word t.1 := by rcases t1 with e | e <;> rw [e] <;> assumption
      have hw2 : Word t.2 := by
        have m : Word u.2.1 ∧ Word u.2.2 := by
          simp only [List.mem_cons, List.not_mem_nil, or_false] at hu
          rcases hu with rfl | rfl
          · exact meet_word (p := (false, c, d)) hc hd (below_word s).1 (below_word s).2
          · exact meet_word (p := (false, c, d)) hc hd (above_word s).1 (above_word s).2
        rcases t2 with e | e
        · rw [e]; exact m.1
        · rw [e]; exact m.2
      exact gw t.1 t.2 hw1 hw2) V ok (fun V' ok' => hz V' ok')
    refine h.mono ?_
    rintro e w' ⟨rfl, g⟩
    refine ⟨?_, g⟩
    unfold trapsF rangeF resF sVf
    simp only [if_true, true_and]
    rfl
  · have h := two_f H het 2 hT op (by simp [h11]) (fun x y => Word x ∧ Word y) (gF op s) hby a b c d word_0 dl dm (fun t ht => by
      obtain ⟨t1, u, hu, _, t2⟩ := pairs_inF ht
      have hw1 : Word t.1 := by rcases t1 with e | e <;> rw [e] <;> assumption
      have hw2 : Word t.2 := by
        simp only [List.mem_cons, List.not_mem_nil, or_false] at hu
        subst hu
        rcases t2 with e | e <;> rw [e] <;> assumption
      exact gw t.1 t.2 hw1 hw2) V ok
    refine h.mono ?_
    rintro e w' ⟨rfl, g⟩
    refine ⟨?_, g⟩
    unfold trapsF rangeF resF sVf
    simp only [h11, if_false, false_and]
    rfl
end Go.Proofs.YthjoigkckgdcaaaGreat


namespace Go.Proofs.YthjoigkckgdcaaaGreat
set_option linter.unusedVariables false
set_option linter.unusedSimpArgs false
end Go.Proofs.YthjoigkckgdcaaaGreat

namespace Go.Proofs.YthjoigkckgdcaaaGreat
open Go.RowKit
set_option linter.unusedVariables false
set_option linter.unusedSimpArgs false
def le2 (n : Nat) (e : Int) (m : Nat) (f : Int) : Prop := n * 2 ^ (e - min e f).toNat ≤ m * 2 ^ (f - min e f).toNat
theorem le2_at {n : Nat} {e : Int} {m : Nat} {f : Int} (E : Int) (h1 : E ≤ e) (h2 : E ≤ f) : le2 n e m f ↔ n * 2 ^ (e - E).toNat ≤ m * 2 ^ (f - E).toNat := by
  unfold le2
  have a : (e - E).toNat = (e - min e f).toNat + (min e f - E).toNat := by omega
  have b : (f - E).toNat = (f - min e f).toNat + (min e f - E).toNat := by omega
  rw [a, b, Nat.pow_add, Nat.pow_add, ← Nat.mul_assoc, ← Nat.mul_assoc]
  exact (Nat.mul_le_mul_right_iff (Nat.two_pow_pos _)).symm
theorem le2_up (n k : Nat) (e : Int) : le2 n e (n * 2 ^ k) (e - k) ∧ le2 (n * 2 ^ k) (e - k) n e := by
  constructor
  · refine (le2_at (e - k) (by omega) (by omega)).2 ?_
    rw [show (e - (e - (k : Int))).toNat = k by omega, show (e - (k : Int) - (e - k)).toNat = 0 by omega, Nat.pow_zero, Nat.mul_one]
    exact Nat.le_refl _
  · refine (le2_at (e - k) (by omega) (by omega)).2 ?_
    rw [show (e - (e - (k : Int))).toNat = k by omega, show (e - (k : Int) - (e - k)).toNat = 0 by omega, Nat.pow_zero, Nat.mul_one]
    exact Nat.le_refl _
theorem worth (s b : Bool) (z : Nat) (h : (z : Int) < fI s) : le2 (val s z) (fL s) (whl s (sgnd s b z)).toNat (pwr s (sgnd s b z)) ∧ le2 (whl s (sgnd s b z)).toNat (pwr s (sgnd s b z)) (val s z) (fL s) := by
  obtain ⟨x, q, e, q1, q2, w, p⟩ := size_parts s b z h
  rw [w, p]
  have v := val_at s x q (by omega) q2
  rw [← e] at v
  rw [v]
  obtain ⟨a, b⟩ := le2_up q x (fL s + x)
  rw [show fL s + (x : Int) - x = fL s by omega] at a b
  exact ⟨b, a⟩
theorem down2 (s : Bool) {n : Nat} (h : n ≠ 0) (e : Int) : ∃ z : Nat, mag s 2 false n e = z ∧ (z : Int) < fI s ∧ le2 (val s z) (fL s) n e := by
  obtain ⟨z, a, b, c⟩ := mag_down s 2 false (fun o h l => by cases o <;> cases h <;> cases l <;> rfl) h e (min e (fL s)) (by omega) (by omega)
  exact ⟨z, a, b, (le2_at _ (by omega) (by omega)).2 c⟩
theorem whl_pos (s b : Bool) (z : Nat) (z0 : z ≠ 0) (h : (z : Int) < fI s) : (whl s (sgnd s b z)).toNat ≠ 0 ∧ (whl s (sgnd s b z)).toNat < 2 ^ 53 := by
  obtain ⟨x, q, e, q1, q2, w, p⟩ := size_parts s b z h
  rw [w]
  constructor
  · intro c
    subst c
    rcases q2 with c | c
    · subst c; simp at e; exact z0 e
    · have := Nat.two_pow_pos (fP s); omega
  · exact Nat.lt_of_lt_of_le q1 (Nat.pow_le_pow_right (by decide) (by have := fP_le s; omega))
theorem quot_big (s : Bool) (wa wb : Nat) (a0 : wa ≠ 0) (b0 : wb ≠ 0) (hb : wb < 2 ^ 53) : fP s + 2 ≤ blen (wa * 2 ^ 130 / wb) := by
  have big : 2 ^ 77 ≤ wa * 2 ^ 130 / wb := by
    rw [Nat.le_div_iff_mul_le (by omega)]
    have h1 : 2 ^ 77 * wb ≤ 2 ^ 77 * 2 ^ 53 := Nat.mul_le_mul_left _ (Nat.le_of_lt hb)
    have e : 2 ^ 77 * 2 ^ 53 = 2 ^ 130 := by rw [← Nat.pow_add]
    have h2 : 2 ^ 130 ≤ wa * 2 ^ 130 := Nat.le_mul_of_pos_left _ (Nat.pos_of_ne_zero a0)
    rw [e] at h1
    exact Nat.le_trans h1 h2
  have := le_blen big
  have := fP_le s
  omega
end Go.Proofs.YthjoigkckgdcaaaGreat


namespace Go.Proofs.YthjoigkckgdcaaaGreat
set_option linter.unusedVariables false
set_option linter.unusedSimpArgs false
def mg (s : Bool) (n : Nat) (e : Int) : Int := if n = 0 then 0 else mag s 0 false n e
theorem mg_bd (s : Bool) (n : Nat) (e : Int) : 0 ≤ mg s n e ∧ mg s n e ≤ fI s := by
  unfold mg
  split
  · exact ⟨Int.le_refl _, fI_pos s⟩
  · rename_i h
    obtain ⟨z, e1, e2⟩ := mag_any s 0 false h e
    rw [e1]
    exact ⟨by omega, e2⟩
theorem mg_scale (s : Bool) (n j : Nat) (e : Int) : mg s (n * 2 ^ j) (e - j) = mg s n e := by
  have p := Nat.two_pow_pos j
  unfold mg
  by_cases c : n = 0
  · rw [if_pos c, if_pos (by rw [c, Nat.zero_mul])]
  · rw [if_neg c, if_neg (by intro h; rcases Nat.mul_eq_zero.1 h with h | h <;> omega)]
    exact mag_scale s 0 false c j e
theorem mag_near (s b : Bool) (n : Nat) (e : Int) : mag s 0 b n e = mag s 0 false n e := by
  unfold mag fin great
  have an : ∀ b o h l, away 0 b o h l = (h && (l || o)) := fun b o h l => rfl
  simp only [an]
def rk (s : Bool) (n : Int) (e : Int) : Int := if n < 0 then -(mg s n.natAbs e) else mg s n.natAbs e
theorem rk_scale (s : Bool) (n : Int) (j : Nat) (e : Int) : rk s (n * 2 ^ j) (e - j) = rk s n e := by
  have p := Nat.two_pow_pos j
  have q : (0 : Int) < 2 ^ j := by exact_mod_cast p
  have a : (n * 2 ^ j).natAbs = n.natAbs * 2 ^ j := by
    rw [Int.natAbs_mul, Int.natAbs_pow]; rfl
  unfold rk
  rw [a, mg_scale]
  by_cases c : n < 0
  · rw [if_pos c, if_pos (Int.mul_neg_of_neg_of_pos c q)]
  · rw [if_neg c, if_neg (by have := Int.mul_nonneg (show 0 ≤ n by omega) (Int.le_of_lt q); omega)]
theorem rnd_rk (s b : Bool) (n : Nat) (e : Int) : Res s (rnd s 0 b n e) (rk s (if b then -(n : Int) else n) e) := by
  have bd := mg_bd s n e
  have r := made_res s b (mg s n e) bd.1 bd.2
  have e1 : rnd s 0 b n e = sgnd s b (mg s n e) := by
    unfold rnd mg
    split
    · rfl
    · rw [mag_near]
  have e2 : rk s (if b then -(n : Int) else n) e = if b then -(mg s n e) else mg s n e := by
    unfold rk
    cases b
    · simp only [Bool.false_eq_true, if_false, Int.natAbs_natCast]
      rw [if_neg (by omega)]
    · simp only [if_true, Int.natAbs_neg, Int.natAbs_natCast]
      by_cases c : n = 0
      · subst c; simp [mg]
      · rw [if_pos (by omega)]
  rw [e1, e2]
  exact r
def sg (b : Bool) (n : Nat) : Int := if b then -(n : Int) else n
theorem sumT_rk (s : Bool) (xb : Bool) (xw x : Nat) (yb : Bool) (yw y : Nat) (L : Int) :
    Res s (sumT s 0 xb xw (L + x) yb yw (L + y)) (rk s (sg xb (xw * 2 ^ x) + sg yb (yw * 2 ^ y)) L) := by
  obtain ⟨k, i, j, hx, hy, hk⟩ : ∃ k i j : Nat, x = i + k ∧ y = j + k ∧ min (L + (x : Int)) (L + y) = L + k :=
    ⟨min x y, x - min x y, y - min x y, by omega, by omega, by omega⟩
  subst hx hy
  unfold sumT
  rw [hk, show (L + ((i + k : Nat) : Int) - (L + k)).toNat = i by omega, show (L + ((j + k : Nat) : Int) - (L + k)).toNat = j by omega]
  have t : rk s (sg xb (xw * 2 ^ (i + k)) + sg yb (yw * 2 ^ (j + k))) L = rk s (sg xb (xw * 2 ^ i) + sg yb (yw * 2 ^ j)) (L + k) := by
    have := rk_scale s (sg xb (xw * 2 ^ i) + sg yb (yw * 2 ^ j)) k (L + k)
    rw [show L + (k : Int) - k = L by omega] at this
    rw [← this]
    congr 1
    rw [Int.add_mul, Nat.pow_add, Nat.pow_add, ← Nat.mul_assoc, ← Nat.mul_assoc]
    unfold sg
    cases xb <;> cases yb <;> simp [Int.neg_mul]
  rw [t]
  generalize xw * 2 ^ i = X
  generalize yw * 2 ^ j = Y
  clear t
  by_cases c : xb = yb
  · subst c
    rw [if_pos rfl]
    have := rnd_rk s xb (X + Y) (L + k)
    rw [show sg xb X + sg xb Y = if xb then -((X + Y : Nat) : Int) else ((X + Y : Nat) : Int) by unfold sg; cases xb <;> simp <;> omega]
    exact this
  · rw [if_neg c]
    by_cases c1 : X = Y
    · rw [if_pos c1]
      have := made_res s false 0 (Int.le_refl _) (fI_pos s)
      rw [show sg xb X + sg yb Y = 0 by subst c1; unfold sg; cases xb <;> cases yb <;> simp at c ⊢ <;> omega]
      exact this
    · rw [if_neg c1]
      by_cases c2 : Y < X
      · rw [if_pos c2]
        have := rnd_rk s xb (X - Y) (L + k)
        rw [show sg xb X + sg yb Y = if xb then -((X - Y : Nat) : Int) else ((X - Y : Nat) : Int) by unfold sg; cases xb <;> cases yb <;> simp at c ⊢ <;> omega]
        exact this
      · rw [if_neg c2]
        have := rnd_rk s yb (Y - X) (L + k)
        rw [show sg xb X + sg yb Y = if yb then -((Y - X : Nat) : Int) else ((Y - X : Nat) : Int) by unfold sg; cases xb <;> cases yb <;> simp at c ⊢ <;> omega]
        exact this
theorem parts_val (s b : Bool) (z : Nat) (h : (z : Int) < fI s) : ∃ x : Nat, pwr s (sgnd s b z) = fL s + x ∧ val s z = (whl s (sgnd s b z)).toNat * 2 ^ x ∧ x ≤ z := by
  obtain ⟨x, q, e, q1, q2, w, p⟩ := size_parts s b z h
  refine ⟨x, p, ?_, ?_⟩
  · rw [w, e]; exact val_at s x q (by omega) q2
  · rw [e]
    have := Nat.le_mul_of_pos_right x (Nat.two_pow_pos (fP s))
    omega
theorem made_fin (s b : Bool) (z : Nat) (h : (z : Int) < fI s) : (cls s (sgnd s b z) == 0 || cls s (sgnd s b z) == 5) = false ∧ (cls s (sgnd s b z) == 4) = false := n_num (n_fin s b z h)
theorem add_rk (s b c : Bool) (y z : Nat) (hy : (y : Int) < fI s) (hz : (z : Int) < fI s) : Res s (addF s 0 (sgnd s b y) (sgnd s c z)) (rk s (sg b (val s y) + sg c (val s z)) (fL s)) := by
  obtain ⟨a1, a2⟩ := made_fin s b y hy
  obtain ⟨b1, b2⟩ := made_fin s c z hz
  obtain ⟨i, pi, vi, _⟩ := parts_val s b y hy
  obtain ⟨j, pj, vj, _⟩ := parts_val s c z hz
  unfold addF
  rw [a1, b1, a2, b2]
  simp only [Bool.or_self, Bool.false_eq_true, if_false, Bool.false_and]
  rw [self_sgn s b y hy, self_sgn s c z hz, pi, pj, vi, vj]
  exact sumT_rk s b _ i c _ j (fL s)
theorem mul_rk (s b c : Bool) (y z : Nat) (hy : (y : Int) < fI s) (hz : (z : Int) < fI s) : Res s (mulF s 0 (sgnd s b y) (sgnd s c z)) (rk s (sg b (val s y) * sg c (val s z)) (fL s + fL s)) := by
  obtain ⟨a1, a2⟩ := made_fin s b y hy
  obtain ⟨b1, b2⟩ := made_fin s c z hz
  obtain ⟨i, pi, vi, _⟩ := parts_val s b y hy
  obtain ⟨j, pj, vj, _⟩ := parts_val s c z hz
  unfold mulF
  rw [a1, b1, a2, b2]
  simp only [Bool.or_self, Bool.false_eq_true, if_false, Bool.false_and, Bool.and_false]
  rw [self_sgn s b y hy, self_sgn s c z hz, pi, pj, vi, vj]
  generalize (whl s (sgnd s b y)).toNat = A
  generalize (whl s (sgnd s c z)).toNat = B
  have r := rnd_rk s (b != c) (A * B) (fL s + i + (fL s + j))
  have t := rk_scale s (if (b != c) = true then -((A * B : Nat) : Int) else ((A * B : Nat) : Int)) (i + j) (fL s + i + (fL s + j))
  rw [show fL s + (i : Int) + (fL s + j) - ((i + j : Nat) : Int) = fL s + fL s by omega] at t
  rw [← t] at r
  rw [show sg b (A * 2 ^ i) * sg c (B * 2 ^ j) = (if (b != c) = true then -((A * B : Nat) : Int) else ((A * B : Nat) : Int)) * 2 ^ (i + j) by
    unfold sg
    rw [Int.pow_add]
    cases b <;> cases c <;> simp [Int.neg_mul, Int.mul_neg, Int.mul_assoc, Int.mul_left_comm, Int.mul_comm]]
  exact r
def stk (A D : Nat) : Nat := 2 * (A / D) + (decide (A % D ≠ 0)).toNat
theorem stk_scale (s : Bool) (A D c : Nat) (e : Int) (hD : 0 < D) (h : A = 0 ∨ fP s + 2 ≤ blen (A / D)) : mg s (stk (A * 2 ^ c) D) (e - c) = mg s (stk A D) e := by
  rcases h with h | h
  · subst h
    simp [stk, mg]
  have dm := Nat.div_add_mod A D
  have rl := Nat.mod_lt A hD
  have q0 : A / D ≠ 0 := by intro c; rw [c, blen_zero] at h; omega
  have p := Nat.two_pow_pos c
  by_cases r0 : A % D = 0
  · have e1 : A * 2 ^ c = D * (A / D * 2 ^ c) := by
      rw [r0, Nat.add_zero] at dm
      rw [← Nat.mul_assoc, dm]
    have e2 : stk (A * 2 ^ c) D = stk A D * 2 ^ c := by
      unfold stk
      rw [r0, e1, Nat.mul_div_cancel_left _ hD, Nat.mul_mod_right]
      simp [Nat.mul_assoc]
    rw [e2, mg_scale]
  · have e1 : A * 2 ^ c = D * (A / D * 2 ^ c) + A % D * 2 ^ c := by
      rw [← Nat.mul_assoc, ← Nat.add_mul, dm]
    have e2 : A * 2 ^ c / D = A / D * 2 ^ c + A % D * 2 ^ c / D := by
      conv => lhs; rw [e1]
      rw [Nat.mul_add_div hD]
    have e3 : A * 2 ^ c % D = A % D * 2 ^ c % D := by
      conv => lhs; rw [e1]
      rw [Nat.mul_add_mod]
    have ul : A % D * 2 ^ c / D < 2 ^ c := by
      rw [Nat.div_lt_iff_lt_mul hD, Nat.mul_comm]
      exact Nat.mul_lt_mul_of_pos_left rl p
    obtain ⟨T, hT, T0, TL⟩ : ∃ T, stk (A * 2 ^ c) D = A / D * 2 ^ (c + 1) + T ∧ T ≠ 0 ∧ T < 2 ^ (c + 1) := by
      refine ⟨2 * (A % D * 2 ^ c / D) + (decide (A % D * 2 ^ c % D ≠ 0)).toNat, ?_, ?_, ?_⟩
      · unfold stk
        rw [e2, e3, Nat.pow_succ, Nat.mul_add, Nat.mul_comm (2 ^ c) 2, Nat.mul_left_comm, Nat.add_assoc]
      · intro z
        have z1 : A % D * 2 ^ c / D = 0 := by omega
        have z2 : A % D * 2 ^ c % D = 0 := by
          rcases Nat.eq_zero_or_pos (A % D * 2 ^ c % D) with h | h
          · exact h
          · rw [show (decide (A % D * 2 ^ c % D ≠ 0)).toNat = 1 by rw [decide_eq_true (by omega)]; rfl] at z
            omega
        have := Nat.div_add_mod (A % D * 2 ^ c) D
        rw [z1, z2] at this
        rcases Nat.mul_eq_zero.1 (show A % D * 2 ^ c = 0 by omega) with h | h <;> omega
      · have : (decide (A % D * 2 ^ c % D ≠ 0)).toNat ≤ 1 := Bool.toNat_le _
        rw [Nat.pow_succ]
        omega
    have st := rnd_sticky s 0 false q0 (c + 1) T 1 1 TL T0 (by decide) (by decide) (e + 1) (last_ge s (e + 1) h)
    rw [show e + 1 - ((c + 1 : Nat) : Int) = e - c by omega, show e + 1 - ((1 : Nat) : Int) = e by omega] at st
    have o : stk A D = A / D * 2 ^ 1 + 1 := by
      unfold stk
      rw [decide_eq_true r0]
      show 2 * (A / D) + 1 = A / D * 2 ^ 1 + 1
      omega
    rw [hT, o]
    have rm : ∀ n e, rnd s 0 false n e = mg s n e := fun n e => rfl
    rw [rm, rm] at st
    exact st
def mq (s : Bool) (K A D : Nat) : Int := mg s (stk (A * 2 ^ K) D) (-(K : Int) - 1)
theorem mq_zero (s : Bool) (K D : Nat) : mq s K 0 D = 0 := by simp [mq, stk, mg]
def rq (s : Bool) (K : Nat) (n : Int) (D : Nat) : Int := if n < 0 then -(mq s K n.natAbs D) else mq s K n.natAbs D
theorem div_core (s x : Bool) (A D i j K m P : Nat) (hm : i + K = 130 + m + j) (hP : 2 ^ 130 = P) (hD : 0 < D) (hb : A = 0 ∨ fP s + 2 ≤ blen (A * P / D)) :
    rq s K (sg x (A * 2 ^ i)) (D * 2 ^ j) = rk s (if x = true then -((stk (A * P) D : Nat) : Int) else ((stk (A * P) D : Nat) : Int)) ((i : Int) - j - 131) := by
  have st := stk_scale s (A * P) D m ((i : Int) - j - 131) hD (by
    rcases hb with h | h
    · left; rw [h, Nat.zero_mul]
    · exact Or.inr h)
  have pj2 := Nat.two_pow_pos j
  have en : A * 2 ^ i * 2 ^ K = A * P * 2 ^ m * 2 ^ j := by
    rw [Nat.mul_assoc, ← Nat.pow_add, hm, Nat.pow_add, Nat.pow_add, hP, ← Nat.mul_assoc, ← Nat.mul_assoc]
  have ek : stk (A * 2 ^ i * 2 ^ K) (D * 2 ^ j) = stk (A * P * 2 ^ m) D := by
    unfold stk
    rw [en, Nat.mul_div_mul_right _ _ pj2, Nat.mul_mod_mul_right]
    have : (A * P * 2 ^ m % D * 2 ^ j ≠ 0) ↔ (A * P * 2 ^ m % D ≠ 0) := by
      rw [ne_eq, ne_eq, Nat.mul_eq_zero]
      constructor
      · intro h q; exact h (Or.inl q)
      · rintro h (q | q)
        · exact h q
        · omega
    simp only [this]
  have em : mq s K (A * 2 ^ i) (D * 2 ^ j) = mg s (stk (A * P) D) ((i : Int) - j - 131) := by
    unfold mq
    rw [ek, ← st]
    congr 1
    omega
  clear st ek en hP
  unfold rq rk sg
  have z1 : A * 2 ^ i = 0 → stk (A * P) D = 0 := by
    intro h
    rcases Nat.mul_eq_zero.1 h with h | h
    · subst h; simp [stk]
    · have := Nat.two_pow_pos i; omega
  generalize stk (A * P) D = S at *
  have z2 : S = 0 → mq s K (A * 2 ^ i) (D * 2 ^ j) = 0 := by
    intro h; rw [em, h]; rfl
  generalize A * 2 ^ i = N at *
  cases x
  · simp only [Bool.false_eq_true, if_false, Int.natAbs_natCast]
    rw [if_neg (by omega), if_neg (by omega), em]
  · simp only [if_true, Int.natAbs_neg, Int.natAbs_natCast]
    by_cases n0 : N = 0
    · rw [z1 n0, n0]
      simp [mq_zero, mg]
    · rw [if_pos (by omega)]
      by_cases s0 : S = 0
      · rw [z2 s0, s0]; simp [mg]
      · rw [if_pos (by omega), em]
theorem divT_stk (s x : Bool) (A D : Nat) (pe qe : Int) (P : Nat) (hP : 2 ^ 130 = P) : divT s 0 x A pe D qe = rnd s 0 x (stk (A * P) D) (pe - qe - 131) := by
  unfold divT stk
  rw [hP]
theorem div_rk (s b c : Bool) (y z K : Nat) (hy : (y : Int) < fI s) (hz : (z : Int) < fI s) (z0 : z ≠ 0) (hK : 130 + z ≤ K) : Res s (divF s 0 (sgnd s b y) (sgnd s c z)) (rq s K (sg (b != c) (val s y)) (val s z)) := by
  obtain ⟨a1, a2⟩ := made_fin s b y hy
  obtain ⟨b1, b2, b3⟩ := self_cls s c z z0 hz
  obtain ⟨i, pi, vi, _⟩ := parts_val s b y hy
  obtain ⟨j, pj, vj, jz⟩ := parts_val s c z hz
  have wz := whl_pos s c z z0 hz
  obtain ⟨P, hP⟩ : ∃ P : Nat, 2 ^ 130 = P := ⟨_, rfl⟩
  have hb : (whl s (sgnd s b y)).toNat = 0 ∨ fP s + 2 ≤ blen ((whl s (sgnd s b y)).toNat * P / (whl s (sgnd s c z)).toNat) := by
    by_cases h : (whl s (sgnd s b y)).toNat = 0
    · exact Or.inl h
    · have := quot_big s _ _ h wz.1 wz.2
      rw [hP] at this
      exact Or.inr this
  unfold divF
  rw [a1, b1, a2, b2, b3]
  simp only [Bool.or_self, Bool.false_eq_true, if_false, Bool.false_and, Bool.and_false]
  rw [self_sgn s b y hy, self_sgn s c z hz, pi, pj, divT_stk s _ _ _ _ _ P hP]
  rw [vi, vj]
  generalize (whl s (sgnd s b y)).toNat = A at *
  generalize (whl s (sgnd s c z)).toNat = D at *
  obtain ⟨m, hm⟩ : ∃ m : Nat, i + K = 130 + m + j := ⟨i + K - 130 - j, by omega⟩
  rw [div_core s (b != c) A D i j K m P hm hP (by omega) hb, show fL s + (i : Int) - (fL s + j) - 131 = (i : Int) - j - 131 by omega]
  exact rnd_rk s (b != c) (stk (A * P) D) ((i : Int) - j - 131)
end Go.Proofs.YthjoigkckgdcaaaGreat


namespace Go.Proofs.YthjoigkckgdcaaaGreat
set_option linter.unusedVariables false
set_option linter.unusedSimpArgs false
def vl (s : Bool) (r : Int) : Int := if r < 0 then -(val s r.natAbs : Int) else (val s r.natAbs : Int)
theorem mk_at (s : Bool) (r : Int) : ∃ b : Bool, mk s r = sgnd s b (r.natAbs : Nat) ∧ sg b (val s r.natAbs) = vl s r ∧ b = decide (r < 0) := by
  unfold mk vl sg
  by_cases h : r < 0
  · exact ⟨true, by rw [if_pos h]; congr 1; omega, by simp [h], by simp [h]⟩
  · refine ⟨false, ?_, by simp [h], by simp [h]⟩
    rw [if_neg h]
    show r = (r.natAbs : Int)
    omega
def kN (s : Bool) : Nat := 130 + (fI s).toNat
def R (s : Bool) (op x y : Int) : Int := if op = 8 then rk s (vl s x + vl s y) (fL s) else if op = 9 then rk s (vl s x - vl s y) (fL s) else if op = 10 then rk s (vl s x * vl s y) (fL s + fL s) else rq s (kN s) (if y < 0 then -(vl s x) else vl s x) (val s y.natAbs)
theorem sg_not (b : Bool) (n : Nat) : sg (!b) n = -(sg b n) := by cases b <;> simp [sg]
theorem R_res {s : Bool} {op x y : Int} (hop : op = 8 ∨ op = 9 ∨ op = 10 ∨ op = 11) (x1 : -fI s < x) (x2 : x < fI s) (y1 : -fI s < y) (y2 : y < fI s) (hz : ¬ (op = 11 ∧ y = 0)) : Res s (gF op s (mk s x) (mk s y)) (R s op x y) := by
  obtain ⟨b, eb, vb, db⟩ := mk_at s x
  obtain ⟨c, ec, vc, dc⟩ := mk_at s y
  have hx : ((x.natAbs : Nat) : Int) < fI s := by omega
  have hy : ((y.natAbs : Nat) : Int) < fI s := by omega
  unfold gF R
  rcases hop with rfl | rfl | rfl | rfl
  · rw [if_pos rfl, if_pos rfl, eb, ec, ← vb, ← vc]
    exact add_rk s b c _ _ hx hy
  · rw [if_neg (by decide), if_pos rfl, if_neg (by decide), if_pos rfl]
    show Res s (addF s 0 (mk s x) (negF s (mk s y))) _
    rw [eb, ec, neg_made s c _ (by omega) (by omega)]
    have := add_rk s b (!c) _ _ hx hy
    rw [sg_not, vb, vc] at this
    rw [Int.sub_eq_add_neg]
    exact this
  · rw [if_neg (by decide), if_neg (by decide), if_pos rfl, if_neg (by decide), if_neg (by decide), if_pos rfl, eb, ec, ← vb, ← vc]
    exact mul_rk s b c _ _ hx hy
  · rw [if_neg (by decide), if_neg (by decide), if_neg (by decide), if_neg (by decide), if_neg (by decide), if_neg (by decide), eb, ec]
    have y0 : y ≠ 0 := fun e => hz ⟨rfl, e⟩
    have := div_rk s b c x.natAbs y.natAbs (kN s) hx hy (by omega) (by unfold kN; omega)
    have e : sg (b != c) (val s x.natAbs) = if y < 0 then -(vl s x) else vl s x := by
      rw [dc, ← vb]
      by_cases h : y < 0
      · rw [if_pos h, decide_eq_true h, ← sg_not]; cases b <;> rfl
      · rw [if_neg h, decide_eq_false h]; cases b <;> rfl
    rw [e] at this
    exact this
def prs (op a b c d : Int) : List (Int × Int) := if op = 11 then pairsL (false, a, b) [if c ≤ -1 then (false, c, min d (-1)) else (true, 0, 0), if 1 ≤ d then (false, max c 1, d) else (true, 0, 0)] else pairsL (false, a, b) [(false, c, d)]
theorem prs_in {op a b c d : Int} (hcd : c ≤ d) {p : Int × Int} (hp : p ∈ prs op a b c d) : (p.1 = a ∨ p.1 = b) ∧ c ≤ p.2 ∧ p.2 ≤ d ∧ ¬ (op = 11 ∧ p.2 = 0) := by
  unfold prs at hp
  by_cases e : op = 11
  · rw [if_pos e] at hp
    obtain ⟨h, t, ht, t0, hv⟩ := pairs_inF hp
    refine ⟨h, ?_⟩
    simp only [List.mem_cons, List.not_mem_nil, or_false] at ht
    rcases ht with ht | ht
    · by_cases n : c ≤ -1
      · rw [if_pos n] at ht
        subst ht
        simp only at hv
        omega
      · rw [if_neg n] at ht
        subst ht
        simp at t0
    · by_cases n : 1 ≤ d
      · rw [if_pos n] at ht
        subst ht
        simp only at hv
        omega
      · rw [if_neg n] at ht
        subst ht
        simp at t0
  · rw [if_neg e] at hp
    obtain ⟨h, t, ht, t0, hv⟩ := pairs_inF hp
    simp only [List.mem_cons, List.not_mem_nil, or_false] at ht
    subst ht
    simp only at hv
    exact ⟨h, by omega, by omega, fun q => e q.1⟩
theorem pairs_map (s : Bool) (op a b : Int) (ls : List (Bool × Int × Int)) (ms : List (Bool × Int × Int)) (h : endsL ls = (endsL ms).map (mk s)) :
    (pairsL (false, mk s a, mk s b) ls).map (fun p => gF op s p.1 p.2) = (pairsL (false, a, b) ms).map fun p => gF op s (mk s p.1) (mk s p.2) := by
  unfold pairsL withL
  have e1 : endsL [(false, mk s a, mk s b)] = [mk s a, mk s b] := rfl
  have e2 : endsL [(false, a, b)] = [a, b] := rfl
  rw [e1, e2, h]
  simp only [List.flatMap_cons, List.flatMap_nil, List.append_nil, List.map_append, List.map_map]
  rfl
theorem resF_prs {s : Bool} {op a b c d : Int} (h1 : -fI s < c) (h2 : d < fI s) (h3 : c ≤ d) : resF s op (mk s a) (mk s b) (mk s c) (mk s d) = (prs op a b c d).map fun p => gF op s (mk s p.1) (mk s p.2) := by
  unfold resF prs
  by_cases e : op = 11
  · rw [if_pos e, if_pos e, lowF h1 h2 h3, highF h1 h2 h3, e]
    refine pairs_map s 11 a b _ _ ?_
    unfold endsL
    by_cases n : c ≤ -1
    · rw [if_pos n, if_pos n]
      by_cases m : 1 ≤ d
      · rw [if_pos m, if_pos m]; simp
      · rw [if_neg m, if_neg m]; simp
    · rw [if_neg n, if_neg n]
      by_cases m : 1 ≤ d
      · rw [if_pos m, if_pos m]; simp
      · rw [if_neg m, if_neg m]; simp
  · rw [if_neg e, if_neg e]
    exact pairs_map s op a b _ _ rfl
theorem hull_from (s : Bool) (f g : Int × Int → Int) : ∀ (ps : List (Int × Int)), (∀ p ∈ ps, Res s (f p) (g p)) → ∀ (lo hi : Int), -fI s ≤ lo → lo ≤ fI s → -fI s ≤ hi → hi ≤ fI s →
    ∃ l h, (ps.map f).foldl (fun acc x => joinP (WyF s) acc (false, (WyF s).pl x, (WyF s).pl x)) (false, mk s lo, mk s hi) = (false, mk s l, mk s h) ∧ (l = lo ∨ ∃ p ∈ ps, l = g p) ∧ (h = hi ∨ ∃ p ∈ ps, h = g p) ∧ l ≤ lo ∧ hi ≤ h ∧ (∀ p ∈ ps, l ≤ g p ∧ g p ≤ h) := by
  intro ps
  induction ps with
  | nil => intro _ lo hi _ _ _ _; exact ⟨lo, hi, rfl, Or.inl rfl, Or.inl rfl, Int.le_refl _, Int.le_refl _, by simp⟩
  | cons p ps ih =>
    intro hR lo hi a1 a2 b1 b2
    have r := hR p (by simp)
    have e : joinP (WyF s) (false, mk s lo, mk s hi) (false, (WyF s).pl (f p), (WyF s).pl (f p)) = (false, mk s (min lo (g p)), mk s (max hi (g p))) := by
      rw [show (WyF s).pl (f p) = mk s (g p) from r.pl]
      unfold joinP
      simp only [Bool.false_eq_true, if_false]
      rw [smlF a1 a2 r.lo r.hi, grtF b1 b2 r.lo r.hi]
    have rl := r.lo
    have rh := r.hi
    obtain ⟨l, h, e1, l1, l2, l3, l4, l5⟩ := ih (fun q hq => hR q (by simp [hq])) (min lo (g p)) (max hi (g p)) (by omega) (by omega) (by omega) (by omega)
    refine ⟨l, h, ?_, ?_, ?_, by omega, by omega, ?_⟩
    · rw [List.map_cons, List.foldl_cons, e, e1]
    · rcases l1 with l1 | ⟨q, hq, l1⟩
      · by_cases c : lo ≤ g p
        · left; omega
        · right; exact ⟨p, by simp, by omega⟩
      · right; exact ⟨q, by simp [hq], l1⟩
    · rcases l2 with l2 | ⟨q, hq, l2⟩
      · by_cases c : g p ≤ hi
        · left; omega
        · right; exact ⟨p, by simp, by omega⟩
      · right; exact ⟨q, by simp [hq], l2⟩
    · intro q hq
      rcases List.mem_cons.1 hq with rfl | hq
      · omega
      · exact l5 q hq
theorem hullR (s : Bool) (f g : Int × Int → Int) (ps : List (Int × Int)) (ne : ps ≠ []) (hR : ∀ p ∈ ps, Res s (f p) (g p)) :
    ∃ l h, hullP (WyF s) (ps.map f) = (false, mk s l, mk s h) ∧ (∃ p ∈ ps, l = g p) ∧ (∃ p ∈ ps, h = g p) ∧ (∀ p ∈ ps, l ≤ g p ∧ g p ≤ h) := by
  cases ps with
  | nil => exact absurd rfl ne
  | cons p ps =>
    have r := hR p (by simp)
    obtain ⟨l, h, e1, l1, l2, l3, l4, l5⟩ := hull_from s f g ps (fun q hq => hR q (by simp [hq])) (g p) (g p) r.lo r.hi r.lo r.hi
    refine ⟨l, h, ?_, ?_, ?_, ?_⟩
    · unfold hullP
      rw [List.map_cons, List.foldl_cons]
      rw [show joinP (WyF s) (true, 0, 0) (false, (WyF s).pl (f p), (WyF s).pl (f p)) = (false, mk s (g p), mk s (g p)) by rw [show (WyF s).pl (f p) = mk s (g p) from r.pl]; rfl]
      exact e1
    · rcases l1 with l1 | ⟨q, hq, l1⟩
      · exact ⟨p, by simp, l1⟩
      · exact ⟨q, by simp [hq], l1⟩
    · rcases l2 with l2 | ⟨q, hq, l2⟩
      · exact ⟨p, by simp, l2⟩
      · exact ⟨q, by simp [hq], l2⟩
    · intro q hq
      rcases List.mem_cons.1 hq with rfl | hq
      · exact ⟨l3, l4⟩
      · exact l5 q hq
theorem trap_from (s : Bool) (f g : Int × Int → Int) : ∀ (ps : List (Int × Int)), (∀ p ∈ ps, Res s (f p) (g p)) → ∀ (t : Int),
    ((ps.map f).foldl (fun acc x => if pastP (WyF s) (LF s) x then 2 else acc) t = 2 ∧ ∃ p ∈ ps, g p = fI s ∨ g p = -fI s) ∨ ((ps.map f).foldl (fun acc x => if pastP (WyF s) (LF s) x then 2 else acc) t = t ∧ ∀ p ∈ ps, -fI s < g p ∧ g p < fI s) := by
  intro ps
  induction ps with
  | nil => intro _ t; right; exact ⟨rfl, by simp⟩
  | cons p ps ih =>
    intro hR t
    have r := hR p (by simp)
    have rl := r.lo
    have rh := r.hi
    rw [List.map_cons, List.foldl_cons, pastF r]
    by_cases c : g p = fI s ∨ g p = -fI s
    · rw [if_pos (by simpa using c)]
      left
      rcases ih (fun q hq => hR q (by simp [hq])) 2 with ⟨e, _⟩ | ⟨e, _⟩
      · exact ⟨e, p, by simp, c⟩
      · exact ⟨e, p, by simp, c⟩
    · rw [if_neg (by simpa using c)]
      rcases ih (fun q hq => hR q (by simp [hq])) t with ⟨e, q, hq, h⟩ | ⟨e, h⟩
      · left; exact ⟨e, q, by simp [hq], h⟩
      · right
        refine ⟨e, fun q hq => ?_⟩
        rcases List.mem_cons.1 hq with rfl | hq
        · omega
        · exact h q hq
theorem range_is {s : Bool} {op a b c d : Int} (hop : op = 8 ∨ op = 9 ∨ op = 10 ∨ op = 11) (a1 : -fI s < a) (hab : a ≤ b) (b2 : b < fI s) (c1 : -fI s < c) (hcd : c ≤ d) (d2 : d < fI s) :
    (prs op a b c d = [] ∧ rangeF s op (mk s a) (mk s b) (mk s c) (mk s d) = (true, 0, 0) ∧ trapP (WyF s) (LF s) 2 (resF s op (mk s a) (mk s b) (mk s c) (mk s d)) = 0) ∨
    (∃ l h, (∃ p ∈ prs op a b c d, l = R s op p.1 p.2) ∧ (∃ p ∈ prs op a b c d, h = R s op p.1 p.2) ∧ (∀ p ∈ prs op a b c d, l ≤ R s op p.1 p.2 ∧ R s op p.1 p.2 ≤ h) ∧ -fI s ≤ l ∧ h ≤ fI s
      ∧ rangeF s op (mk s a) (mk s b) (mk s c) (mk s d) = (if min h (fI s - 1) < max l (-(fI s - 1)) then (true, 0, 0) else (false, mk s (max l (-(fI s - 1))), mk s (min h (fI s - 1))))
      ∧ ((trapP (WyF s) (LF s) 2 (resF s op (mk s a) (mk s b) (mk s c) (mk s d)) = 2 ∧ (l = -fI s ∨ h = fI s)) ∨ (trapP (WyF s) (LF s) 2 (resF s op (mk s a) (mk s b) (mk s c) (mk s d)) = 0 ∧ -fI s < l ∧ h < fI s))) := by
  have t := fI_two s
  have hR : ∀ p ∈ prs op a b c d, Res s (gF op s (mk s p.1) (mk s p.2)) (R s op p.1 p.2) := fun p hp => by
    obtain ⟨q1, q2, q3, q4⟩ := prs_in hcd hp
    exact R_res hop (by omega) (by omega) (by omega) (by omega) q4
  by_cases ne : prs op a b c d = []
  · left
    refine ⟨ne, ?_, ?_⟩
    · unfold rangeF
      rw [resF_prs c1 d2 hcd, ne]
      rfl
    · rw [resF_prs c1 d2 hcd, ne]
      rfl
  · right
    obtain ⟨l, h, e, ⟨p, hp, hl⟩, ⟨q, hq, hh⟩, all⟩ := hullR s (fun p => gF op s (mk s p.1) (mk s p.2)) (fun p => R s op p.1 p.2) _ ne hR
    have pl := (hR p hp).lo
    have ph := (hR p hp).hi
    have ql := (hR q hq).lo
    have qh := (hR q hq).hi
    have lh := all p hp
    refine ⟨l, h, ⟨p, hp, hl⟩, ⟨q, hq, hh⟩, all, by omega, by omega, ?_, ?_⟩
    · unfold rangeF
      rw [resF_prs c1 d2 hcd, e, LF_least, LF_most, meetF (by omega) (by omega) (by omega) (by omega) (by omega) (by omega) (by omega) (by omega)]
    · rw [resF_prs c1 d2 hcd]
      rcases trap_from s (fun p => gF op s (mk s p.1) (mk s p.2)) (fun p => R s op p.1 p.2) _ hR 0 with ⟨e1, r, hr, h1⟩ | ⟨e1, h1⟩
      · left
        have := all r hr
        refine ⟨e1, ?_⟩
        have rl := (hR r hr).lo
        have rh := (hR r hr).hi
        omega
      · right
        have := h1 p hp
        have := h1 q hq
        exact ⟨e1, by omega, by omega⟩
end Go.Proofs.YthjoigkckgdcaaaGreat


namespace Go.Proofs.YthjoigkckgdcaaaGreat
set_option linter.unusedVariables false
set_option linter.unusedSimpArgs false
def Num (s : Bool) (a : Int) : Prop := (cls s a == 0 || cls s a == 5) = false
theorem ordN {s : Bool} {a b : Int} (h1 : Num s a) (h2 : Num s b) : (WyF s).ord a b = cmpI (rnk s a) (rnk s b) := by
  show (cmpF s a b).1 = _
  unfold cmpF
  rw [h1, h2]
  rfl
theorem lessN {s : Bool} {a b : Int} (h1 : Num s a) (h2 : Num s b) : lessF s a b = decide (rnk s a < rnk s b) := by
  unfold lessF cmpF
  rw [h1, h2]
  simp only [Bool.or_self, Bool.false_eq_true, if_false, Bool.true_and]
  rw [decide_eq_decide]
  split
  · simp [*]
  · split <;> omega
theorem num_fin {s : Bool} {a : Int} (h : finF s a = true) : Num s a := (n_num h).1
theorem one_iff (s : Bool) (a : Int) : (WyF s).one a = (finF s a && (plainF s a == a)) := rfl
theorem right_same (s : Bool) (e : Bool) (a b : Int) : rightP (WyF s) (e, a, b) = rRF s e a b := by
  unfold rightP rRF
  cases e
  · simp only [Bool.false_eq_true, if_false]
    rw [one_iff, one_iff]
    cases fa : finF s a
    · simp
    · cases fb : finF s b
      · simp
      · rw [ordN (num_fin fa) (num_fin fb), lessN (num_fin fb) (num_fin fa)]
        have k : decide (cmpI (rnk s a) (rnk s b) ≤ 0) = !decide (rnk s b < rnk s a) := by
          unfold cmpI
          rw [Bool.eq_iff_iff]
          simp
          split <;> (try split) <;> omega
        rw [k]
        cases (plainF s a == a) <;> cases (plainF s b == b) <;> simp
  · rfl
end Go.Proofs.YthjoigkckgdcaaaGreat


namespace Go.Proofs.YthjoigkckgdcaaaGreat
set_option linter.unusedVariables false
set_option linter.unusedSimpArgs false
theorem right_mk {s : Bool} {a b : Int} (ha : Word a) (hb : Word b) (h : rRF s false a b = true) : ∃ r q, -fI s < r ∧ r ≤ q ∧ q < fI s ∧ a = mk s r ∧ b = mk s q := by
  rw [← right_same] at h
  unfold rightP at h
  simp only [Bool.false_eq_true, if_false, Bool.and_eq_true] at h
  obtain ⟨r, r1, r2, er⟩ := one_is ha h.1
  obtain ⟨q, q1, q2, eq⟩ := one_is hb h.2.1
  have := of_decide_eq_true h.2.2
  rw [er, eq, ord_mk (by omega) (by omega) (by omega) (by omega), ordI_le] at this
  exact ⟨r, q, r1, this, q2, er, eq⟩
end Go.Proofs.YthjoigkckgdcaaaGreat


