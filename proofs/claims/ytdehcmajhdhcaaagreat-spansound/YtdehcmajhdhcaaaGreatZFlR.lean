/- What two floats come to, by rank; ranges of floats by rank. -/
import Derived.Test.YtdehcmajhdhcaaaGreatZG4
import Derived.Test.YtdehcmajhdhcaaaGreatZSpFt
import Derived.Test.YtdehcmajhdhcaaaGreatZSpS
namespace Go.Proofs.YtdehcmajhdhcaaaGreat
set_option linter.unusedVariables false
set_option linter.unusedSimpArgs false
theorem made_num (s b : Bool) (z : Int) (h0 : 0 ≤ z) (h : z ≤ fI s) : (cls s (sgnd s b z) == 0 || cls s (sgnd s b z) == 5) = false := by
 have l := fI_lt s
 rw [cls_made s b z h0 (by omega), if_neg (by omega)]
 split
 ·rfl
 ·split
  ·rfl
  ·split <;> rfl
structure Res (s : Bool) (v r : Int) : Prop where
 lo : -fI s ≤ r
 hi : r ≤ fI s
 pl : plainF s v = mk s r
 num : (cls s v == 0 || cls s v == 5) = false
 inf : (cls s v == 4) = decide (r = fI s ∨ r = -fI s)
theorem made_res (s b : Bool) (z : Int) (h0 : 0 ≤ z) (h : z ≤ fI s) : Res s (sgnd s b z) (if b then -z else z) := by
 have l := fI_lt s
 have t := fI_two s
 have e : plainF s (sgnd s b z) = mk s (if b then -z else z) := by
  by_cases c : z = 0
  ·subst c
   rw [show (0 : Int) = ((0 : Nat) : Int) from rfl, n_plain s b 0 (by omega)]
   cases b <;> rfl
  ·have m : mk s (if b then -z else z) = sgnd s b z := by
    unfold mk
    cases b
    ·have : ¬ z < 0 := by omega
     simp [this, sgnd]
    ·have : -z < 0 := by omega
     rw [if_pos rfl, if_pos this, Int.neg_neg]
   rw [← m]
   exact plain_mk (by split <;> omega) (by split <;> omega)
 refine ⟨by split <;> omega, by split <;> omega, e, made_num s b z h0 h, ?_⟩
 rw [cls_made s b z h0 (by omega), if_neg (by omega)]
 by_cases c : z = fI s
 ·rw [if_pos c, decide_eq_true (by cases b <;> simp <;> omega)]; rfl
 ·rw [if_neg c, decide_eq_false (by cases b <;> simp <;> omega)]
  split
  ·rfl
  ·split <;> rfl
theorem zero_mk {s : Bool} {r : Int} (h1 : -fI s ≤ r) (h2 : r ≤ fI s) : (cls s (mk s r) == 1) = decide (r = 0) := by
 obtain ⟨b, e, hb⟩ := mk_made s r
 have l := fI_lt s
 have t := fI_two s
 rw [e, cls_made s b _ (by split <;> omega) (by split <;> omega), if_neg (by split <;> omega)]
 by_cases c : r = 0
 ·subst c
  simp
  omega
 ·rw [decide_eq_false c]
  obtain ⟨z, hz, z0⟩ : ∃ z, (if r < 0 then -r else r) = z ∧ z ≠ 0 := ⟨_, rfl, by split <;> omega⟩
  rw [hz, if_neg z0]
  by_cases q1 : z = fI s
  ·rw [if_pos q1]; rfl
  ·rw [if_neg q1]
   by_cases q2 : z / 2 ^ fP s = 0
   ·rw [if_pos q2]; rfl
   ·rw [if_neg q2]; rfl
theorem gF_word (op : Int) (s : Bool) (a b : Int) (h1 : Word a) (h2 : Word b) : Word (gF op s a b) := byF_word op s 0 a b h1 h2
def LF (s : Bool) : Ln := LnF s 0 0
theorem LF_least (s : Bool) : (LF s).least = mk s (-(fI s - 1)) := least_mk s
theorem LF_most (s : Bool) : (LF s).most = mk s (fI s - 1) := most_mk s
theorem grtF {s : Bool} {a b : Int} (h1 : -fI s ≤ a) (h2 : a ≤ fI s) (h3 : -fI s ≤ b) (h4 : b ≤ fI s) : grt (WyF s) (mk s a) (mk s b) = mk s (max a b) := by
 unfold grt
 rw [ord_mk h3 h4 h1 h2]
 by_cases c : 0 < WyI.ord b a
 ·rw [if_pos c]; have := (ordI_pos b a).1 c; rw [show max a b = b by omega]
 ·rw [if_neg c]; have := mt (ordI_pos b a).2 c; rw [show max a b = a by omega]
theorem smlF {s : Bool} {a b : Int} (h1 : -fI s ≤ a) (h2 : a ≤ fI s) (h3 : -fI s ≤ b) (h4 : b ≤ fI s) : sml (WyF s) (mk s a) (mk s b) = mk s (min a b) := by
 unfold sml
 rw [ord_mk h3 h4 h1 h2]
 by_cases c : WyI.ord b a < 0
 ·rw [if_pos c]; have := (ordI_neg b a).1 c; rw [show min a b = b by omega]
 ·rw [if_neg c]; have := mt (ordI_neg b a).2 c; rw [show min a b = a by omega]
theorem meetF {s : Bool} {a b c d : Int} (a1 : -fI s ≤ a) (a2 : a ≤ fI s) (b1 : -fI s ≤ b) (b2 : b ≤ fI s) (c1 : -fI s ≤ c) (c2 : c ≤ fI s) (d1 : -fI s ≤ d) (d2 : d ≤ fI s) :
  meetP (WyF s) (false, mk s a, mk s b) (false, mk s c, mk s d) = if min b d < max a c then (true, 0, 0) else (false, mk s (max a c), mk s (min b d)) := by
 unfold meetP
 simp only [Bool.false_or]
 rw [grtF a1 a2 c1 c2, smlF b1 b2 d1 d2, ord_mk (by omega) (by omega) (by omega) (by omega)]
 by_cases h : min b d < max a c
 ·rw [if_pos h, if_pos (by simpa using (ordI_pos _ _).2 h)]
 ·rw [if_neg h, if_neg (by simpa using mt (ordI_pos _ _).1 h)]
theorem hasF {s : Bool} {a b x : Int} (a1 : -fI s ≤ a) (a2 : a ≤ fI s) (b1 : -fI s ≤ b) (b2 : b ≤ fI s) (x1 : -fI s < x) (x2 : x < fI s) : hasP (WyF s) (false, mk s a, mk s b) (mk s x) = decide (a ≤ x ∧ x ≤ b) := by
 unfold hasP
 have p : (WyF s).pl (mk s x) = mk s x := plain_mk (by omega) (by omega)
 simp only
 rw [p, one_mk x1 x2, ord_mk a1 a2 (by omega) (by omega), ord_mk (by omega) (by omega) b1 b2]
 rw [Bool.eq_iff_iff]
 simp [ordI_le]
theorem pastF {s : Bool} {v r : Int} (h : Res s v r) : pastP (WyF s) (LF s) v = decide (r = fI s ∨ r = -fI s) := by
 have t := fI_two s
 obtain ⟨h1, h2, p, _, _⟩ := h
 unfold pastP
 rw [show (WyF s).pl v = mk s r from p, LF_least, LF_most, ord_mk h1 h2 (by omega) (by omega), ord_mk h1 h2 (by omega) (by omega)]
 rw [Bool.eq_iff_iff]
 simp only [Bool.or_eq_true, decide_eq_true_eq, ordI_neg, ordI_pos]
 omega
def resF (s : Bool) (op a b c d : Int) : List Int := if op = 11 then (pairsL (false, a, b) [meetP (WyF s) (false, c, d) (belowP (WyF s) (LF s) 0), meetP (WyF s) (false, c, d) (aboveP (WyF s) (LF s) 0)]).map fun p => gF 11 s p.1 p.2 else (pairsL (false, a, b) [(false, c, d)]).map fun p => gF op s p.1 p.2
def rangeF (s : Bool) (op a b c d : Int) : Bool × Int × Int := meetP (WyF s) (hullP (WyF s) (resF s op a b c d)) (false, (LF s).least, (LF s).most)
def trapsF (s : Bool) (op a b c d : Int) : Int := if op = 11 ∧ hasP (WyF s) (false, c, d) 0 = true then bits BinOp.or IntKind.i64 (trapP (WyF s) (LF s) 2 (resF s op a b c d)) (zF (hasP (WyF s) (false, a, b) 0) a b) else trapP (WyF s) (LF s) 2 (resF s op a b c d)
theorem belowF (s : Bool) : belowP (WyF s) (LF s) 0 = (false, mk s (-(fI s - 1)), mk s (-1)) := by
 have t := fI_two s
 have o : ¬ (WyF s).ord 0 (LF s).least ≤ 0 := by
  have e : (WyF s).ord 0 (LF s).least = WyI.ord 0 (-(fI s - 1)) := by
   rw [LF_least]
   exact ord_mk (r := 0) (by omega) (by omega) (by omega) (by omega)
  rw [e, ordI_le]
  omega
 unfold belowP
 rw [if_neg o, LF_least, show (WyF s).prv 0 = mk s (0 - 1) from prev_mk (r := 0) (by omega) (by omega)]
 rfl
theorem aboveF (s : Bool) : aboveP (WyF s) (LF s) 0 = (false, mk s 1, mk s (fI s - 1)) := by
 have t := fI_two s
 have o : ¬ 0 ≤ (WyF s).ord 0 (LF s).most := by
  have e : (WyF s).ord 0 (LF s).most = WyI.ord 0 (fI s - 1) := by
   rw [LF_most]
   exact ord_mk (r := 0) (by omega) (by omega) (by omega) (by omega)
  rw [e]
  have := (ordI_neg 0 (fI s - 1)).2 (by omega)
  omega
 unfold aboveP
 rw [if_neg o, LF_most, show (WyF s).nxt 0 = mk s (0 + 1) from next_mk (r := 0) (by omega) (by omega)]
 rfl
theorem lowF {s : Bool} {c d : Int} (h1 : -fI s < c) (h2 : d < fI s) (h3 : c ≤ d) : meetP (WyF s) (false, mk s c, mk s d) (belowP (WyF s) (LF s) 0) = if c ≤ -1 then (false, mk s c, mk s (min d (-1))) else (true, 0, 0) := by
 have t := fI_two s
 rw [belowF, meetF (by omega) (by omega) (by omega) (by omega) (by omega) (by omega) (by omega) (by omega)]
 by_cases h : c ≤ -1
 ·rw [if_pos h, if_neg (by omega), show max c (-(fI s - 1)) = c by omega]
 ·rw [if_neg h, if_pos (by omega)]
theorem highF {s : Bool} {c d : Int} (h1 : -fI s < c) (h2 : d < fI s) (h3 : c ≤ d) : meetP (WyF s) (false, mk s c, mk s d) (aboveP (WyF s) (LF s) 0) = if 1 ≤ d then (false, mk s (max c 1), mk s d) else (true, 0, 0) := by
 have t := fI_two s
 rw [aboveF, meetF (by omega) (by omega) (by omega) (by omega) (by omega) (by omega) (by omega) (by omega)]
 by_cases h : 1 ≤ d
 ·rw [if_pos h, if_neg (by omega), show min d (fI s - 1) = d by omega]
 ·rw [if_neg h, if_pos (by omega)]
end Go.Proofs.YtdehcmajhdhcaaaGreat
namespace Go.Proofs.YtdehcmajhdhcaaaGreat
open Go.RowKit
set_option linter.unusedVariables false
set_option linter.unusedSimpArgs false
theorem pairs_inF {a b : Int} {ls : List (Bool × Int × Int)} {p : Int × Int} (hp : p ∈ pairsL (false, a, b) ls) : (p.1 = a ∨ p.1 = b) ∧ ∃ s ∈ ls, s.1 = false ∧ (p.2 = s.2.1 ∨ p.2 = s.2.2) := by
 unfold pairsL withL endsL at hp
 simp only [List.flatMap_cons, List.flatMap_nil, List.append_nil, List.mem_append, List.mem_map, List.mem_flatMap, List.mem_cons, List.not_mem_nil, or_false, Bool.false_eq_true, if_false] at hp
 rcases hp with ⟨y, ⟨s, hs, hy⟩, rfl⟩ | ⟨y, ⟨s, hs, hy⟩, rfl⟩
 all_goals
  cases hs1 : s.1
  ·rw [hs1] at hy
   simp only [Bool.false_eq_true, if_false, List.mem_cons, List.not_mem_nil, or_false] at hy
   exact ⟨by simp, s, hs, hs1, hy⟩
  ·rw [hs1] at hy
   simp at hy
theorem word_0 : Word 0 := ⟨by decide, by decide⟩
theorem word_least (s : Bool) : Word (LF s).least := by rw [LF_least]; have := fI_two s; exact mk_word (by omega) (by omega)
theorem word_most (s : Bool) : Word (LF s).most := by rw [LF_most]; have := fI_two s; exact mk_word (by omega) (by omega)
theorem meet_word {s : Bool} {p q : Bool × Int × Int} (h1 : Word p.2.1) (h2 : Word p.2.2) (h3 : Word q.2.1) (h4 : Word q.2.2) : Word (meetP (WyF s) p q).2.1 ∧ Word (meetP (WyF s) p q).2.2 := by
 have g := grt_dom (A := WyF s) (x := p.2.1) (y := q.2.1) h1 h3
 have l := sml_dom (A := WyF s) (x := p.2.2) (y := q.2.2) h2 h4
 unfold meetP
 split
 ·exact ⟨word_0, word_0⟩
 ·exact ⟨g, l⟩
theorem below_word (s : Bool) : Word (belowP (WyF s) (LF s) 0).2.1 ∧ Word (belowP (WyF s) (LF s) 0).2.2 := by
 have := fI_two s
 rw [belowF]; exact ⟨mk_word (s := s) (r := -(fI s - 1)) (by omega) (by omega), mk_word (s := s) (r := -1) (by omega) (by omega)⟩
theorem above_word (s : Bool) : Word (aboveP (WyF s) (LF s) 0).2.1 ∧ Word (aboveP (WyF s) (LF s) 0).2.2 := by
 have := fI_two s
 rw [aboveF]; exact ⟨mk_word (s := s) (r := 1) (by omega) (by omega), mk_word (s := s) (r := fI s - 1) (by omega) (by omega)⟩
theorem twoF_any (f op : Int) (hop : op = 8 ∨ op = 9 ∨ op = 10 ∨ op = 11) (a b c d : Int) (ha : Word a) (hb : Word b) (hc : Word c) (hd : Word d) (w : World) :
  Calls Tryz.prog 34 #[.int .i64 f, .int .i64 op, .agg #[.bool false, .int .u64 a, .int .u64 b], .agg #[.bool false, .int .u64 c, .int .u64 d]] w fun e w' =>
   e = .returned (.tuple #[.agg #[.bool (rangeF (f == 1) op a b c d).1, .int .u64 (rangeF (f == 1) op a b c d).2.1, .int .u64 (rangeF (f == 1) op a b c d).2.2], .int .i64 (trapsF (f == 1) op a b c d)]) ∧ Below w.heap.size w w' := by
 refine ftwo_of f op false false a b c d _ _ _ _ (fun L B w0 hL V ok => ?_) w
 have H := fl_acts hL
 have hby := by2_f hL op hop
 have het := et_f hL
 have hez := ez_f hL
 have hz := fun V ok => byZero_f hL false a b ha hb V ok
 have hT : ∀ w, Calls Tryz.prog 161 #[.int .i64 L.past] w fun e w' => e = .returned (.int .i64 2) ∧ w' = w := by
  rw [(fl_least hL).2.2]; exact trapsOf_f2
 have gw : ∀ x y, Word x → Word y → (Word x ∧ Word y) ∧ (WyF (f == 1)).dom (gF op (f == 1) x y) ∧ (WyF (f == 1)).dom ((WyF (f == 1)).pl (gF op (f == 1) x y)) := fun x y hx hy =>
  ⟨⟨hx, hy⟩, gF_word op _ x y hx hy, n_plainw _ _ (gF_word op _ x y hx hy)⟩
 have dl : (WyF (f == 1)).dom L.least := by rw [(fl_least hL).1]; exact word_least (f == 1)
 have dm : (WyF (f == 1)).dom L.most := by rw [(fl_least hL).2.1]; exact word_most (f == 1)
 obtain ⟨p, q, rfl, _⟩ := hL
 generalize hs : (f == 1) = s at *
 by_cases h11 : op = 11
 ·subst h11
  have h := twod_f H het hez 2 hT (fun x y => Word x ∧ Word y) (gF 11 s) hby a b c d (zF (hasP (WyF s) (false, a, b) 0) a b) word_0 (n_plainw s 0 word_0) (by
    have := fI_two s
    exact one_mk (r := 0) (by omega) (by omega)) dl dm (by
    have := fI_two s
    show Word (prevF s (mk s 0))
    rw [prev_mk (by omega) (by omega)]
    exact mk_word (by omega) (by omega)) (by
    have := fI_two s
    show Word (nextF s (mk s 0))
    rw [next_mk (by omega) (by omega)]
    exact mk_word (by omega) (by omega)) hc hd (fun t ht => by
   obtain ⟨t1, u, hu, _, t2⟩ := pairs_inF ht
   have hw1 : Word t.1 := by rcases t1 with e | e <;> rw [e] <;> assumption
   have hw2 : Word t.2 := by
    have m : Word u.2.1 ∧ Word u.2.2 := by
     simp only [List.mem_cons, List.not_mem_nil, or_false] at hu
     rcases hu with rfl | rfl
     ·exact meet_word (p := (false, c, d)) hc hd (below_word s).1 (below_word s).2
     ·exact meet_word (p := (false, c, d)) hc hd (above_word s).1 (above_word s).2
    rcases t2 with e | e
    ·rw [e]; exact m.1
    ·rw [e]; exact m.2
   exact gw t.1 t.2 hw1 hw2) V ok (fun V' ok' => hz V' ok')
  refine h.mono ?_
  rintro e w' ⟨rfl, g⟩
  refine ⟨?_, g⟩
  unfold trapsF rangeF resF sVf
  simp only [if_true, true_and]
  rfl
 ·have h := two_f H het 2 hT op (by simp [h11]) (fun x y => Word x ∧ Word y) (gF op s) hby a b c d word_0 dl dm (fun t ht => by
   obtain ⟨t1, u, hu, _, t2⟩ := pairs_inF ht
   have hw1 : Word t.1 := by rcases t1 with e | e <;> rw [e] <;> assumption
   have hw2 : Word t.2 := by
    simp only [List.mem_cons, List.not_mem_nil, or_false] at hu
    subst hu
    rcases t2 with e | e <;> rw [e] <;> assumption
   exact gw t.1 t.2 hw1 hw2) V ok
  refine h.mono ?_
  rintro e w' ⟨rfl, g⟩
  refine ⟨?_, g⟩
  unfold trapsF rangeF resF sVf
  simp only [h11, if_false, false_and]
  rfl
end Go.Proofs.YtdehcmajhdhcaaaGreat
