/- SpanCounts: all ways. -/
import Derived.Test.YthjoigkckgdcaaaGreatUSpCm
import Derived.Test.YthjoigkckgdcaaaGreatUSpCw
import Derived.Test.YthjoigkckgdcaaaGreatUSpLv
namespace Go.Proofs.YthjoigkckgdcaaaGreat
open Go.RowKit
set_option linter.unusedVariables false
set_option linter.unusedSimpArgs false
def AGI (p : Bool × Int × Int) : Value := .agg #[.bool p.1, .int .i64 p.2.1, .int .i64 p.2.2]
theorem from0 {a b : Int} (hb : b ≤ 2147483647) (hab : a ≤ b) : meetP WyI (false, a, b) (false, 0, LnI.most) = if 0 ≤ b then (false, max a 0, b) else (true, 0, 0) := by
  rw [meetI, show LnI.most = 2147483647 from rfl]
  by_cases h : 0 ≤ b
  · rw [if_pos h, if_neg (by simp; omega), show min b 2147483647 = b by omega]
  · rw [if_neg h, if_pos (by simp; omega)]
theorem ends_one {a b : Int} (ha : -2147483648 ≤ a) (hab : a ≤ b) (hb : b ≤ 2147483647) : endsL [meetP WyI (false, a, b) (belowP WyI LnI 0), meetP WyI (false, a, b) (false, 0, LnI.most)] = if a ≤ -1 ∧ 0 ≤ b then [a, -1, 0, b] else [a, b] := by
  rw [lowI ha hb hab, from0 hb hab]
  by_cases h1 : a ≤ -1
  · by_cases h2 : 0 ≤ b
    · rw [if_pos h1, if_pos h2, if_pos ⟨h1, h2⟩, show min b (-1) = -1 by omega, show max a 0 = 0 by omega]; rfl
    · rw [if_pos h1, if_neg h2, if_neg (fun k => h2 k.2), show min b (-1) = b by omega]; rfl
  · rw [if_neg h1, if_pos (show 0 ≤ b by omega), if_neg (fun k => h1 k.1), show max a 0 = a by omega]; rfl
def one1 (op a b : Int) : List Int := (endsL [meetP WyI (false, a, b) (belowP WyI LnI 0), meetP WyI (false, a, b) (false, 0, LnI.most)]).map (g1I op)
theorem neg_told {a b : Int} (ha : -2147483648 ≤ a) (hab : a ≤ b) (hb : b ≤ 2147483647) : meetP WyI (hullP WyI (one1 4 a b)) (false, LnI.least, LnI.most) = (toldI [-b, -a]).1 ∧ trapP WyI LnI 8 (one1 4 a b) = (toldI [-b, -a]).2 := by
  have g : ∀ x, g1I 4 x = -x := fun x => by simp [g1I]
  unfold one1
  rw [ends_one ha hab hb]
  refine told_lh (l := -b) (h := -a) ?_ ?_ ?_ (by simp) (by simp) ?_
  · split <;> simp [g]
  · split <;> simp [g]
  · intro v hv
    split at hv
    · simp [g] at hv; omega
    · simp [g] at hv; omega
  · intro v hv
    simp at hv; omega
theorem abs_told {a b : Int} (ha : -2147483648 ≤ a) (hab : a ≤ b) (hb : b ≤ 2147483647) : meetP WyI (hullP WyI (one1 5 a b)) (false, LnI.least, LnI.most) = (toldI (absL a b (hI false a b 0))).1 ∧ trapP WyI LnI 8 (one1 5 a b) = (toldI (absL a b (hI false a b 0))).2 := by
  have g : ∀ x, g1I 5 x = max x (-x) := fun x => by simp [g1I]
  unfold one1 absL
  rw [ends_one ha hab hb]
  by_cases h1 : a ≤ -1
  · by_cases h2 : 0 ≤ b
    · have z : hI false a b 0 = true := by unfold hI; simp; omega
      rw [if_pos ⟨h1, h2⟩, z, if_pos (show a < 0 by omega), if_neg (show ¬ b < 0 by omega), if_pos rfl]
      refine told_lh (l := 0) (h := max (-a) b) ?_ ?_ ?_ ?_ ?_ ?_
      · simp [g]
      · simp [g]; omega
      · intro v hv; simp [g] at hv; omega
      · simp
      · simp; omega
      · intro v hv; simp at hv; omega
    · have z : hI false a b 0 = false := by unfold hI; simp; omega
      rw [if_neg (fun k => h2 k.2), z, if_pos (show a < 0 by omega), if_pos (show b < 0 by omega)]
      refine told_lh (l := -b) (h := -a) ?_ ?_ ?_ ?_ ?_ ?_
      · simp [g]; omega
      · simp [g]; omega
      · intro v hv; simp [g] at hv; omega
      · simp
      · simp
      · intro v hv; simp at hv; omega
  · rw [if_neg (fun k => h1 k.1), if_neg (show ¬ a < 0 by omega), if_neg (show ¬ b < 0 by omega)]
    by_cases h0 : a = 0
    · have z : hI false a b 0 = true := by unfold hI; simp; omega
      rw [z, if_pos rfl]
      refine told_lh (l := a) (h := b) ?_ ?_ ?_ ?_ ?_ ?_
      · simp [g]; omega
      · simp [g]; omega
      · intro v hv; simp [g] at hv; omega
      · simp
      · simp
      · intro v hv; simp at hv; omega
    · have z : hI false a b 0 = false := by unfold hI; simp; omega
      rw [z]
      refine told_lh (l := a) (h := b) ?_ ?_ ?_ ?_ ?_ ?_
      · simp [g]; omega
      · simp [g]; omega
      · intro v hv; simp [g] at hv; omega
      · simp
      · simp
      · intro v hv; simp at hv; omega
theorem intOne_any (op : Int) (hop : op = 4 ∨ op = 5) (a b : Int) (ha : -2147483648 ≤ a) (hab : a ≤ b) (hb : b ≤ 2147483647) (w : World) :
    Calls Tryz.prog 64 #[.int .i64 op, .agg #[.bool false, .int .i64 a, .int .i64 b]] w fun e w' => e = .returned (.tuple #[AGI (meetP WyI (hullP WyI (one1 op a b)) (false, LnI.least, LnI.most)), .int .i64 (trapP WyI LnI 8 (one1 op a b))]) ∧ Below w.heap.size w w' := by
  refine intOne_of op false a b _ _ _ _ (fun V => ?_) w
  refine (onetwo_i (acts_i V) (enters_of Tryz.func198 (by kernel_rfl) rfl) 8 trapsOf_4 op (by rcases hop with rfl | rfl <;> rfl) ok1I (g1I op) (by1_i op hop V) a b domI_0 (by decide) (domI_of (by decide) (by decide)) (domI_of (by decide) (by decide)) (domI_of (by decide) (by decide)) (domI_of (by omega) (by omega)) (domI_of (by omega) (by omega)) (fun x hx => ?_) V (Below.refl _ _)).mono fun e w' h => h
  rw [ends_one ha hab hb] at hx
  have bx : -2147483648 ≤ x ∧ x ≤ 2147483647 := by
    split at hx
    · simp at hx; omega
    · simp at hx; omega
  have d : WyI.dom (g1I op x) := by
    unfold g1I
    split
    · exact domI_of (by omega) (by omega)
    · exact domI_of (by omega) (by omega)
  exact ⟨bx, d, d⟩
theorem below_of {d : Int} (h1 : -2147483648 ≤ d) (h2 : d ≤ 2147483647) : belowP WyI LnI d = rOfI (-2147483648) (d - 1) := by
  unfold belowP rOfI rI
  rw [show LnI.least = -2147483648 from rfl]
  by_cases h : d = -2147483648
  · rw [if_pos ((ordI_le _ _).2 (by omega)), if_neg (by simp; omega)]
  · rw [if_neg (fun k => by have := (ordI_le _ _).1 k; omega), if_pos (by simp; omega)]; rfl
theorem above_of {a : Int} (h1 : -2147483648 ≤ a) (h2 : a ≤ 2147483647) : aboveP WyI LnI a = rOfI (a + 1) 2147483647 := by
  unfold aboveP rOfI rI
  rw [show LnI.most = 2147483647 from rfl]
  have o : (0 ≤ WyI.ord a 2147483647) ↔ 2147483647 ≤ a := by unfold WyI cmpI; simp only; split <;> (try split) <;> omega
  by_cases h : a = 2147483647
  · rw [if_pos (o.2 (by omega)), if_neg (by simp; omega)]
  · rw [if_neg (fun k => by have := o.1 k; omega), if_pos (by simp; omega)]; rfl
theorem upto_of {d : Int} (h1 : -2147483648 ≤ d) (h2 : d ≤ 2147483647) : rOfI (-2147483648) d = (false, LnI.least, d) := by
  unfold rOfI rI
  rw [if_pos (by simp; omega)]; rfl
theorem from_of {d : Int} (h1 : -2147483648 ≤ d) (h2 : d ≤ 2147483647) : rOfI d 2147483647 = (false, d, LnI.most) := by
  unfold rOfI rI
  rw [if_pos (by simp; omega)]; rfl
theorem both_turn (X Y : Bool × Int × Int) : bothP (bothP Y X).2 (bothP Y X).1 = bothP X Y := by
  obtain ⟨e1, a, b⟩ := X
  obtain ⟨e2, c, d⟩ := Y
  unfold bothP
  cases e1 <;> cases e2 <;> rfl
theorem meet_any (p q : Bool × Int × Int) : meetP WyI p q = rMeetI p q := by
  obtain ⟨e1, a, b⟩ := p
  obtain ⟨e2, c, d⟩ := q
  exact imeet_same e1 e2 a b c d
theorem meet_turn (p q : Bool × Int × Int) : rMeetI q p = rMeetI p q := by
  obtain ⟨e1, a, b⟩ := p
  obtain ⟨e2, c, d⟩ := q
  unfold rMeetI
  dsimp only
  rw [Bool.or_comm, Int.min_comm, Int.max_comm]
theorem ordI_zero (x y : Int) : WyI.ord x y = 0 ↔ x = y := by unfold WyI cmpI; simp only; split <;> (try split) <;> omega
theorem rmeet_ff (a b c d : Int) : rMeetI (false, a, b) (false, c, d) = if min b d < max a c then (true, 0, 0) else (false, max a c, min b d) := by unfold rMeetI; simp
theorem rmeet_ft (a b c d : Int) : rMeetI (false, a, b) (true, c, d) = (true, 0, 0) := by unfold rMeetI; simp
theorem of_yes {x y : Int} (h1 : -2147483648 ≤ x) (h2 : x ≤ y) (h3 : y ≤ 2147483647) : rOfI x y = (false, x, y) := by
  unfold rOfI rI
  rw [if_pos (by simp; omega)]
theorem of_no {x y : Int} (h : y < x) : rOfI x y = (true, 0, 0) := by
  unfold rOfI rI
  rw [if_neg (by simp; omega)]
theorem without_of {a b c d : Int} (ha : -2147483648 ≤ a) (hab : a ≤ b) (hb : b ≤ 2147483647) (hc : -2147483648 ≤ c) (hcd : c ≤ d) (hd : d ≤ 2147483647) : withoutP WyI LnI (false, a, b) (false, c, d) = if c = d then rWoI (false, a, b) c else (false, a, b) := by
  unfold withoutP
  dsimp only
  by_cases h : c = d
  · rw [if_neg (fun k => k ((ordI_zero _ _).2 h)), if_pos h]
    unfold rWoI
    dsimp only
    by_cases h1 : a = c
    · rw [if_pos ((ordI_zero _ _).2 h1.symm), above_of hc (by omega), meet_any]
      by_cases h2 : b = c
      · rw [if_pos ⟨h1, h2⟩]
        by_cases q : c = 2147483647
        · rw [of_no (by omega), rmeet_ft]
        · rw [of_yes (by omega) (by omega) (by omega), rmeet_ff, if_pos (by omega)]
      · rw [if_neg (fun k => h2 k.2), if_pos h1, of_yes (by omega) (by omega) (by omega), rmeet_ff, if_neg (by omega), show max a (c + 1) = a + 1 by omega, show min b 2147483647 = b by omega]
    · have n1 : ¬ WyI.ord c a = 0 := fun k => h1 ((ordI_zero _ _).1 k).symm
      rw [if_neg n1]
      by_cases h2 : b = c
      · rw [if_pos ((ordI_zero _ _).2 h2.symm), below_of hc (by omega), meet_any, if_neg (fun k => h1 k.1), if_neg h1, if_pos h2, of_yes (by omega) (by omega) (by omega), rmeet_ff, if_neg (by omega), show max a (-2147483648) = a by omega, show min b (c - 1) = b - 1 by omega]
      · have n2 : ¬ WyI.ord c b = 0 := fun k => h2 ((ordI_zero _ _).1 k).symm
        rw [if_neg n2, if_neg (fun k => h1 k.1), if_neg h1, if_neg h2]
  · rw [if_pos (fun k => h ((ordI_zero _ _).1 k)), if_neg h]
theorem irefine_none {op : Int} (h12 : 12 ≤ op) (h17 : op ≤ 17) (p q : Bool × Int × Int) (h : (p.1 || q.1) = true) : refineP WyI LnI op p q = ((true, 0, 0), (true, 0, 0)) := by
  have mp : ∀ (x y : Bool × Int × Int), (x.1 || y.1) = true → (meetP WyI x y).1 = true := fun x y h => by
    unfold meetP
    rw [if_pos (by rw [h]; rfl)]
  have bp : ∀ (x y : Bool × Int × Int), (x.1 || y.1) = true → bothP x y = ((true, 0, 0), (true, 0, 0)) := fun x y h => by
    unfold bothP
    rw [if_pos h]
  have wp : ∀ (x y : Bool × Int × Int), x.1 = true → (withoutP WyI LnI x y).1 = true := fun x y h => by
    unfold withoutP
    split
    · exact h
    · split
      · exact mp _ _ (by rw [h]; rfl)
      · split
        · exact mp _ _ (by rw [h]; rfl)
        · exact h
  have lp : ∀ (x y : Bool × Int × Int), (x.1 || y.1) = true → ltP WyI LnI x y = ((true, 0, 0), (true, 0, 0)) ∧ leP WyI LnI x y = ((true, 0, 0), (true, 0, 0)) := fun x y h => by
    unfold ltP leP
    rw [Bool.or_eq_true] at h
    constructor
    · refine bp _ _ ?_
      rcases h with h | h
      · rw [mp _ _ (by rw [h]; rfl)]; rfl
      · rw [mp y _ (by rw [h]; rfl), Bool.or_true]
    · refine bp _ _ ?_
      rcases h with h | h
      · rw [mp _ _ (by rw [h]; rfl)]; rfl
      · rw [mp y _ (by rw [h]; rfl), Bool.or_true]
  have h' : (q.1 || p.1) = true := by rw [Bool.or_comm]; exact h
  rcases (show op = 12 ∨ op = 13 ∨ op = 14 ∨ op = 15 ∨ op = 16 ∨ op = 17 by omega) with rfl | rfl | rfl | rfl | rfl | rfl
  · exact (lp p q h).1
  · exact (lp p q h).2
  · show bothP (ltP WyI LnI q p).2 (ltP WyI LnI q p).1 = _
    rw [(lp q p h').1]; rfl
  · show bothP (leP WyI LnI q p).2 (leP WyI LnI q p).1 = _
    rw [(lp q p h').2]; rfl
  · show bothP (meetP WyI p q) (meetP WyI q p) = _
    exact bp _ _ (by rw [mp p q h]; rfl)
  · show bothP (withoutP WyI LnI p q) (withoutP WyI LnI q p) = _
    rw [Bool.or_eq_true] at h
    refine bp _ _ ?_
    rcases h with h | h
    · rw [wp p q h]; rfl
    · rw [wp q p h, Bool.or_true]
theorem rrefI (op : Int) (h12 : 12 ≤ op) (h17 : op ≤ 17) (a b c d : Int) (ha : -2147483648 ≤ a) (hab : a ≤ b) (hb : b ≤ 2147483647) (hc : -2147483648 ≤ c) (hcd : c ≤ d) (hd : d ≤ 2147483647) (w : World) :
    Calls Tryz.prog 67 #[.int .i64 op, .agg #[.bool false, .int .i64 a, .int .i64 b], .agg #[.bool false, .int .i64 c, .int .i64 d]] w fun e w' => e = .returned (.tuple #[AGI (refineP WyI LnI op (false, a, b) (false, c, d)).1, AGI (refineP WyI LnI op (false, a, b) (false, c, d)).2]) ∧ Below w.heap.size w w' := by
  have M := fun (a b : Int) (p : Bool × Int × Int) => rmeetI_any false a b p.1 p.2.1 p.2.2
  rcases (show op = 12 ∨ op = 13 ∨ op = 14 ∨ op = 15 ∨ op = 16 ∨ op = 17 by omega) with rfl | rfl | rfl | rfl | rfl | rfl
  · have e : refineP WyI LnI 12 (false, a, b) (false, c, d) = bothP (rMeetI (false, a, b) (rOfI (-2147483648) (d - 1))) (rMeetI (false, c, d) (rOfI (a + 1) 2147483647)) := by
      show bothP (meetP WyI _ (belowP WyI LnI d)) (meetP WyI _ (aboveP WyI LnI a)) = _
      rw [below_of (by omega) hd, above_of ha (by omega), meet_any, meet_any]
    rw [e]
    exact rt_lt a b c d _ _ _ _ _ _ ha (by omega) (by omega) hb hc (by omega) (by omega) hd _ _ _ _ _ _ (rofI_any _ _) (M a b _) (rofI_any _ _) (M c d _) w
  · have e : refineP WyI LnI 13 (false, a, b) (false, c, d) = bothP (rMeetI (false, a, b) (rOfI (-2147483648) d)) (rMeetI (false, c, d) (rOfI a 2147483647)) := by
      show bothP (meetP WyI _ _) (meetP WyI _ _) = _
      rw [upto_of (by omega) hd, from_of ha (by omega), meet_any, meet_any]
    rw [e]
    exact rt_le a b c d _ _ _ _ _ _ ha (by omega) (by omega) hb hc (by omega) (by omega) hd _ _ _ _ _ _ (rofI_any _ _) (M a b _) (rofI_any _ _) (M c d _) w
  · have e : refineP WyI LnI 14 (false, a, b) (false, c, d) = bothP (rMeetI (false, a, b) (rOfI (c + 1) 2147483647)) (rMeetI (false, c, d) (rOfI (-2147483648) (b - 1))) := by
      show bothP (bothP (meetP WyI _ (belowP WyI LnI b)) (meetP WyI _ (aboveP WyI LnI c))).2 (bothP (meetP WyI _ (belowP WyI LnI b)) (meetP WyI _ (aboveP WyI LnI c))).1 = _
      rw [both_turn, below_of (by omega) hb, above_of hc (by omega), meet_any, meet_any]
    rw [e]
    exact rt_gt a b c d _ _ _ _ _ _ ha (by omega) (by omega) hb hc (by omega) (by omega) hd _ _ _ _ _ _ (rofI_any _ _) (M a b _) (rofI_any _ _) (M c d _) w
  · have e : refineP WyI LnI 15 (false, a, b) (false, c, d) = bothP (rMeetI (false, a, b) (rOfI c 2147483647)) (rMeetI (false, c, d) (rOfI (-2147483648) b)) := by
      show bothP (bothP (meetP WyI _ _) (meetP WyI _ _)).2 (bothP (meetP WyI _ _) (meetP WyI _ _)).1 = _
      rw [both_turn, upto_of (by omega) hb, from_of hc (by omega), meet_any, meet_any]
    rw [e]
    exact rt_ge a b c d _ _ _ _ _ _ ha (by omega) (by omega) hb hc (by omega) (by omega) hd _ _ _ _ _ _ (rofI_any _ _) (M a b _) (rofI_any _ _) (M c d _) w
  · have e : refineP WyI LnI 16 (false, a, b) (false, c, d) = bothP (rMeetI (false, a, b) (false, c, d)) (rMeetI (false, a, b) (false, c, d)) := by
      show bothP (meetP WyI _ _) (meetP WyI _ _) = _
      rw [meet_any, meet_any, meet_turn (false, a, b)]
    rw [e]
    exact rt_eq a b c d _ _ _ _ _ _ (rmeetI_any false a b false c d) rfl rfl rfl w
  · have e : refineP WyI LnI 17 (false, a, b) (false, c, d) = bothP (if c = d then rWoI (false, a, b) c else (false, a, b)) (if a = b then rWoI (false, c, d) a else (false, c, d)) := by
      show bothP (withoutP WyI LnI _ _) (withoutP WyI LnI _ _) = _
      rw [without_of ha hab hb hc hcd hd, without_of hc hcd hd ha hab hb]
    rw [e]
    refine rt_ne a b c d (if c = d then rWoI (false, a, b) c else (false, a, b)).1 (if a = b then rWoI (false, c, d) a else (false, c, d)).1 (if c = d then rWoI (false, a, b) c else (false, a, b)).2.1 (if c = d then rWoI (false, a, b) c else (false, a, b)).2.2 (if a = b then rWoI (false, c, d) a else (false, c, d)).2.1 (if a = b then rWoI (false, c, d) a else (false, c, d)).2.2 ?_ ?_ w
    · by_cases q : c = d
      · left; refine ⟨q, ?_⟩
        rw [if_pos q]
        exact rwoI false a b c ha (by omega) (by omega) hb
      · right; rw [if_neg q]; exact ⟨q, rfl, rfl, rfl⟩
    · by_cases q : a = b
      · left; refine ⟨q, ?_⟩
        rw [if_pos q]
        exact rwoI false c d a hc (by omega) (by omega) hd
      · right; rw [if_neg q]; exact ⟨q, rfl, rfl, rfl⟩
set_option maxRecDepth 100000 in
theorem law_counts (op : Int) (e1 : Bool) (a b : Int) (e2 : Bool) (c d : Int) (w : World) :
    Calls Tryz.prog 8 #[.int .i64 op, .agg #[.bool e1, .int .i64 a, .int .i64 b], .agg #[.bool e2, .int .i64 c, .int .i64 d]] w fun e w' => e = .returned (.bool true) ∧ Below w.heap.size w w' := by
  refine cw_all op e1 a b e2 c d _ _ (rright_i e1 a b) (rright_i e2 c d) live_any (fun r1 r2 => ?_) w
  have fact : ∀ (e : Bool) (a b : Int), rI e a b = true → (-2147483648 ≤ a ∧ a ≤ b ∧ b ≤ 2147483647) ∧ (e = true → a = 0 ∧ b = 0) := by
    intro e a b h
    unfold rI at h
    cases e
    · simp at h; exact ⟨⟨by omega, by omega, by omega⟩, fun k => by cases k⟩
    · simp at h; exact ⟨⟨by omega, by omega, by omega⟩, fun _ => ⟨h.1, h.2⟩⟩
  obtain ⟨⟨ha, hab, hb⟩, he1⟩ := fact e1 a b r1
  obtain ⟨⟨hc, hcd, hd⟩, he2⟩ := fact e2 c d r2
  have one : ∀ x : Int, -2147483648 ≤ x → x ≤ 2147483647 → WyI.one x = true := fun x h1 h2 => decide_eq_true ⟨h1, h2⟩
  have T : ∃ (p : Bool × Int × Int) (t : Int), KC9 62 #[.int .i64 op, .agg #[.bool e1, .int .i64 a, .int .i64 b], .agg #[.bool e2, .int .i64 c, .int .i64 d]] (.tuple #[AGI p, .int .i64 t]) ∧ KC9 63 #[.int .i64 op, .agg #[.bool e1, .int .i64 a, .int .i64 b], .agg #[.bool e2, .int .i64 c, .int .i64 d]] (.tuple #[AGI p, .int .i64 t]) := by
    by_cases hop : op = 8 ∨ op = 9 ∨ op = 10 ∨ op = 11
    · by_cases he : (e1 || e2) = true
      · refine ⟨(true, 0, 0), 0, fun V => intTwo_of op e1 e2 a b c d _ _ _ _ (fun V => twoN_i (acts_i V) (enters_of Tryz.func199 (by kernel_rfl) rfl) op (okI op) (gI op) (by2_i op hop V) e1 e2 he a b c d V (Below.refl _ _)) V, fun V => rtwoN op e1 a b e2 c d ?_ V⟩
        rw [Bool.or_eq_true] at he
        rcases he with h | h
        · exact Or.inl h
        · exact Or.inr (Or.inl h)
      · obtain ⟨rfl, rfl⟩ : e1 = false ∧ e2 = false := by cases e1 <;> cases e2 <;> simp at he ⊢
        have K := intTwo_any op hop a b c d ha hab hb hc hcd hd
        by_cases n : op = 11
        · subst n
          have dt := div_told (a := a) (b := b) hc hd hcd
          rw [dt.1, dt.2] at K
          refine ⟨_, _, K, fun V => rtwod a b c d _ _ _ ?_ ?_ (rmeetI_any false c d false _ _) (rmeetI_any false c d false _ _) (fun V => rcorn_any 11 (by decide) a b _ ?_ V) (fun V => rcorn_any 11 (by decide) a b _ ?_ V) (rhas_i false c d 0) V⟩
          · have := rofI_any (-2147483648) (-1)
            rw [show rOfI (-2147483648) (-1) = (false, -2147483648, -1) by decide] at this
            exact this
          · have := rofI_any 1 2147483647
            rw [show rOfI 1 2147483647 = (false, 1, 2147483647) by decide] at this
            exact this
          · intro hm x y hx hy
            unfold rMeetI at hm hy
            dsimp only at hm hy
            rw [if_neg (by simp)] at hm hy
            split at hm
            · cases hm
            · rw [if_neg (by assumption)] at hy
              dsimp only at hy
              refine ⟨?_, ?_, ?_, ?_, fun _ => ?_⟩ <;> omega
          · intro hm x y hx hy
            unfold rMeetI at hm hy
            dsimp only at hm hy
            rw [if_neg (by simp)] at hm hy
            split at hm
            · cases hm
            · rw [if_neg (by assumption)] at hy
              dsimp only at hy
              refine ⟨?_, ?_, ?_, ?_, fun _ => ?_⟩ <;> omega
        · have dt := two_told (a := a) (b := b) (c := c) (d := d) n
          rw [dt.1, dt.2] at K
          exact ⟨_, _, K, fun V => rtwo3 op (by omega) a b c d (fun x y hx hy => ⟨by omega, by omega, by omega, by omega, fun k => absurd k n⟩) V⟩
    · exact ⟨(true, 0, 0), 0, fun V => intTwo_of op e1 e2 a b c d _ _ _ _ (fun V => twoO_i (acts_i V) (enters_of Tryz.func199 (by kernel_rfl) rfl) op (fun V _ => by2_none op (by omega) (by omega) (by omega) (by omega) V) e1 e2 a b c d V (Below.refl _ _)) V, fun V => rtwoN op e1 a b e2 c d (by omega) V⟩
  have O : ∃ (p : Bool × Int × Int) (t : Int), KC9 64 #[.int .i64 op, .agg #[.bool e1, .int .i64 a, .int .i64 b]] (.tuple #[AGI p, .int .i64 t]) ∧ KC9 65 #[.int .i64 op, .agg #[.bool e1, .int .i64 a, .int .i64 b]] (.tuple #[AGI p, .int .i64 t]) := by
    by_cases hop : op = 4 ∨ op = 5
    · cases e1
      · have K := intOne_any op hop a b ha hab hb
        rcases hop with rfl | rfl
        · have t := neg_told ha hab hb
          rw [t.1, t.2] at K
          exact ⟨_, _, K, fun V => roneG a b ha (by omega) (by omega) hb V⟩
        · have t := abs_told ha hab hb
          rw [t.1, t.2] at K
          exact ⟨_, _, K, fun V => roneA a b ha (by omega) (by omega) hb _ (rhas_i false a b 0) V⟩
      · exact ⟨(true, 0, 0), 0, fun V => intOne_of op true a b _ _ _ _ (fun V => oneN_i (acts_i V) (enters_of Tryz.func198 (by kernel_rfl) rfl) op ok1I (g1I op) (by1_i op hop V) a b V (Below.refl _ _)) V, fun V => roneN op true a b (Or.inl rfl) V⟩
    · exact ⟨(true, 0, 0), 0, fun V => intOne_of op e1 a b _ _ _ _ (fun V => oneO_i (acts_i V) (enters_of Tryz.func198 (by kernel_rfl) rfl) op (fun V _ => by1_none op (by omega) (by omega) V) e1 a b V (Below.refl _ _)) V, fun V => roneN op e1 a b (Or.inr ⟨by omega, by omega⟩) V⟩
  have R : ∃ (p q : Bool × Int × Int), KC9 66 #[.int .i64 op, .agg #[.bool e1, .int .i64 a, .int .i64 b], .agg #[.bool e2, .int .i64 c, .int .i64 d]] (.tuple #[AGI p, AGI q]) ∧ KC9 67 #[.int .i64 op, .agg #[.bool e1, .int .i64 a, .int .i64 b], .agg #[.bool e2, .int .i64 c, .int .i64 d]] (.tuple #[AGI p, AGI q]) := by
    by_cases hop : 12 ≤ op ∧ op ≤ 17
    · have K : ∀ V, Calls Tryz.prog 66 #[.int .i64 op, .agg #[.bool e1, .int .i64 a, .int .i64 b], .agg #[.bool e2, .int .i64 c, .int .i64 d]] V fun e w' => e = .returned (.tuple #[AGI (refineP WyI LnI op (e1, a, b) (e2, c, d)).1, AGI (refineP WyI LnI op (e1, a, b) (e2, c, d)).2]) ∧ Below V.heap.size V w' := fun V =>
        irefine_of op e1 a b e2 c d _ _ _ _ _ _ (fun V => refineJ (acts_i V) op hop.1 hop.2 e1 e2 a b c d (domI_of (by omega) (by omega)) (domI_of (by omega) (by omega)) (domI_of (by omega) (by omega)) (domI_of (by omega) (by omega)) (one a (by omega) (by omega)) (one b (by omega) (by omega)) (one c (by omega) (by omega)) (one d (by omega) (by omega)) domI_0 (fun x hx => by have := of_decide_eq_true hx; exact domI_of (by show _ ≤ x + 1; omega) (by show x + 1 ≤ _; omega)) (fun x hx => by have := of_decide_eq_true hx; exact domI_of (by show _ ≤ x - 1; omega) (by show x - 1 ≤ _; omega)) (domI_of (by decide) (by decide)) (domI_of (by decide) (by decide)) V (Below.refl _ _)) V
      by_cases he : (e1 || e2) = true
      · rw [irefine_none hop.1 hop.2 _ _ he] at K
        exact ⟨(true, 0, 0), (true, 0, 0), K, fun V => rt_none op hop.1 hop.2 e1 a b e2 c d he V⟩
      · obtain ⟨rfl, rfl⟩ : e1 = false ∧ e2 = false := by cases e1 <;> cases e2 <;> simp at he ⊢
        exact ⟨_, _, K, fun V => rrefI op hop.1 hop.2 a b c d ha hab hb hc hcd hd V⟩
    · exact ⟨(e1, a, b), (e2, c, d), fun V => irefine_of op e1 a b e2 c d _ _ _ _ _ _ (fun V => rdef_i LnI op (by omega) e1 e2 a b c d V) V, fun V => rt_out op (by omega) e1 a b e2 c d V⟩
  obtain ⟨⟨pe, pl, ph⟩, tp, t1, t2⟩ := T
  obtain ⟨⟨qe, ql, qh⟩, tq, o1, o2⟩ := O
  obtain ⟨⟨me, ml, mh⟩, ⟨ne, nl, nh⟩, s1, s2⟩ := R
  exact ⟨pe, qe, me, ne, pl, ph, tp, ql, qh, tq, ml, mh, nl, nh, t1, t2, o1, o2, s1, s2⟩
end Go.Proofs.YthjoigkckgdcaaaGreat


