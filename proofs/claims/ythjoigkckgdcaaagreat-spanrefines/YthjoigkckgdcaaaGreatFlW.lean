/- What the program leaves of two ranges is what the reference leaves; plain functions alone. -/
import Derived.Test.YthjoigkckgdcaaaGreatFlV
import Derived.Test.YthjoigkckgdcaaaGreatSpRl
namespace Go.Proofs.YthjoigkckgdcaaaGreat
set_option linter.unusedVariables false
set_option linter.unusedSimpArgs false
theorem both_swap (X Y : Bool × Int × Int) : bothP (bothP Y X).2 (bothP Y X).1 = bothP X Y := by
  obtain ⟨xe, xl, xh⟩ := X
  obtain ⟨ye, yl, yh⟩ := Y
  cases xe <;> cases ye <;> rfl
theorem of_mk {s : Bool} {r q : Int} (r1 : -fI s < r) (rq : r ≤ q) (q2 : q < fI s) : rOfF s (mk s r) (mk s q) = (false, mk s r, mk s q) := by
  rw [← of_same]
  unfold ofP
  have p1 : (WyF s).pl (mk s r) = mk s r := plain_mk (by omega) (by omega)
  have p2 : (WyF s).pl (mk s q) = mk s q := plain_mk (by omega) (by omega)
  rw [p1, p2, if_pos]
  unfold rightP
  simp only [Bool.false_eq_true, if_false]
  rw [one_mk r1 (by omega), one_mk (by omega) q2, ord_mk (by omega) (by omega) (by omega) (by omega)]
  simp only [Bool.true_and]
  exact decide_eq_true ((ordI_le _ _).2 rq)
theorem upto_same {s : Bool} {d : Int} (h1 : -fI s < d) (h2 : d < fI s) (st : Bool) : rUpTo s (mk s d) st = if st then belowP (WyF s) (LF s) (mk s d) else (false, (LF s).least, mk s d) := by
  have t := fI_two s
  unfold rUpTo
  rw [least_mk, LF_least]
  cases st
  · simp only [Bool.false_eq_true, if_false]
    exact of_mk (by omega) (by omega) h2
  · simp only [if_true]
    by_cases c : d = -(fI s - 1)
    · rw [if_pos (by rw [c])]
      unfold belowP
      rw [LF_least, ord_mk (by omega) (by omega) (by omega) (by omega), if_pos (by rw [ordI_le]; omega)]
    · rw [if_neg (fun e => c (mk_inj (by omega) (by omega) (by omega) (by omega) e)), below_mk (by omega) h2, prev_mk (by omega) h2]
      exact of_mk (by omega) (by omega) (by omega)
theorem from_same {s : Bool} {d : Int} (h1 : -fI s < d) (h2 : d < fI s) (st : Bool) : rFrom s (mk s d) st = if st then aboveP (WyF s) (LF s) (mk s d) else (false, mk s d, (LF s).most) := by
  have t := fI_two s
  unfold rFrom
  rw [most_mk, LF_most]
  cases st
  · simp only [Bool.false_eq_true, if_false]
    exact of_mk h1 (by omega) (by omega)
  · simp only [if_true]
    by_cases c : d = fI s - 1
    · rw [if_pos (by rw [c])]
      unfold aboveP
      rw [LF_most, ord_mk (by omega) (by omega) (by omega) (by omega), if_pos (by unfold WyI; simp only; rw [ge_cmp]; omega)]
    · rw [if_neg (fun e => c (mk_inj (by omega) (by omega) (by omega) (by omega) e)), above_mk h1 (by omega), next_mk h1 (by omega)]
      exact of_mk (by omega) (by omega) (by omega)
theorem without_same {s : Bool} {a b c d : Int} (a1 : -fI s < a) (ab : a ≤ b) (b2 : b < fI s) (c1 : -fI s < c) (cd : c ≤ d) (d2 : d < fI s) : withoutP (WyF s) (LF s) (false, mk s a, mk s b) (false, mk s c, mk s d) = if mk s c = mk s d then rWithoutF s (false, mk s a, mk s b) (mk s c) else (false, mk s a, mk s b) := by
  have t := fI_two s
  have oz : ∀ x y : Int, -fI s < x → x < fI s → -fI s < y → y < fI s → ((WyF s).ord (mk s x) (mk s y) = 0 ↔ x = y) := fun x y x1 x2 y1 y2 => by
    rw [ord_mk (by omega) (by omega) (by omega) (by omega)]
    unfold WyI cmpI
    simp only
    split
    · constructor <;> intro <;> omega
    · split
      · constructor <;> intro <;> omega
      · constructor <;> intro <;> omega
  have mz : ∀ x y : Int, -fI s < x → x < fI s → -fI s < y → y < fI s → (mk s x = mk s y ↔ x = y) := fun x y x1 x2 y1 y2 =>
    ⟨fun e => mk_inj (by omega) (by omega) (by omega) (by omega) e, fun e => by rw [e]⟩
  unfold withoutP rWithoutF
  dsimp only
  by_cases q1 : c = d
  · rw [if_neg (by rw [oz c d c1 (by omega) (by omega) d2]; simpa using q1), if_pos (show mk s c = mk s d by rw [q1])]
    by_cases q2 : c = a
    · rw [if_pos ((oz c a c1 (by omega) a1 (by omega)).2 q2)]
      subst q2
      by_cases q3 : b = c
      · subst q3
        rw [if_pos ⟨rfl, rfl⟩]
        by_cases m : b = fI s - 1
        · unfold aboveP
          rw [LF_most, ord_mk (by omega) (by omega) (by omega) (by omega), if_pos (by unfold WyI; simp only; rw [ge_cmp]; omega)]
          rfl
        · rw [above_mk a1 (by omega), meetF (by omega) (by omega) (by omega) (by omega) (by omega) (by omega) (by omega) (by omega), if_pos (by omega)]
      · rw [if_neg (fun h => q3 ((mz b c (by omega) b2 c1 (by omega)).1 h.2)), if_pos rfl, above_mk a1 (by omega), meetF (by omega) (by omega) (by omega) (by omega) (by omega) (by omega) (by omega) (by omega), if_neg (by omega), next_mk a1 (by omega), show max c (c + 1) = c + 1 by omega, show min b (fI s - 1) = b by omega]
    · have na : ¬ mk s a = mk s c := fun h => q2 ((mz a c a1 (by omega) c1 (by omega)).1 h).symm
      have nab : ¬ (mk s a = mk s c ∧ mk s b = mk s c) := fun h => na h.1
      rw [if_neg (mt (oz c a c1 (by omega) a1 (by omega)).1 q2), if_neg nab, if_neg na]
      by_cases q3 : c = b
      · rw [if_pos ((oz c b c1 (by omega) (by omega) b2).2 q3), if_pos (show mk s b = mk s c by rw [q3]), below_mk (by omega) (by omega), meetF (by omega) (by omega) (by omega) (by omega) (by omega) (by omega) (by omega) (by omega), if_neg (by omega), prev_mk (by omega) (by omega), show max a (-(fI s - 1)) = a by omega, show min b (c - 1) = c - 1 by omega]
      · have nb : ¬ mk s b = mk s c := fun h => q3 ((mz b c (by omega) b2 c1 (by omega)).1 h).symm
        rw [if_neg (mt (oz c b c1 (by omega) (by omega) b2).1 q3), if_neg nb]
  · rw [if_pos (by rw [oz c d c1 (by omega) (by omega) d2]; exact q1), if_neg (fun e => q1 ((mz c d c1 (by omega) (by omega) d2).1 e))]
/-- What the reference leaves, by an op from 12 to 17, of ranges that are not Empty. -/
def rRefF (s : Bool) (op : Int) (p q : Bool × Int × Int) : (Bool × Int × Int) × (Bool × Int × Int) :=
  if op = 12 then bothP (rMeetF s p (rUpTo s q.2.2 true)) (rMeetF s q (rFrom s p.2.1 true)) else if op = 13 then bothP (rMeetF s p (rUpTo s q.2.2 false)) (rMeetF s q (rFrom s p.2.1 false))
  else if op = 14 then bothP (rMeetF s p (rFrom s q.2.1 true)) (rMeetF s q (rUpTo s p.2.2 true)) else if op = 15 then bothP (rMeetF s p (rFrom s q.2.1 false)) (rMeetF s q (rUpTo s p.2.2 false))
  else if op = 16 then bothP (rMeetF s p q) (rMeetF s p q) else bothP (if q.2.1 = q.2.2 then rWithoutF s p q.2.1 else p) (if p.2.1 = p.2.2 then rWithoutF s q p.2.1 else q)
theorem num_below {s : Bool} {d : Int} (h1 : -fI s < d) (h2 : d < fI s) : Num s (belowP (WyF s) (LF s) (mk s d)).2.1 ∧ Num s (belowP (WyF s) (LF s) (mk s d)).2.2 := by
  have t := fI_two s
  by_cases c : d = -(fI s - 1)
  · unfold belowP
    rw [LF_least, ord_mk (by omega) (by omega) (by omega) (by omega), if_pos (by rw [ordI_le]; omega)]
    exact ⟨num_0 s, num_0 s⟩
  · rw [below_mk (by omega) h2]
    exact ⟨num_mk' (by omega) (by omega), num_mk' (by omega) (by omega)⟩
theorem num_above {s : Bool} {d : Int} (h1 : -fI s < d) (h2 : d < fI s) : Num s (aboveP (WyF s) (LF s) (mk s d)).2.1 ∧ Num s (aboveP (WyF s) (LF s) (mk s d)).2.2 := by
  have t := fI_two s
  by_cases c : d = fI s - 1
  · unfold aboveP
    rw [LF_most, ord_mk (by omega) (by omega) (by omega) (by omega), if_pos (by unfold WyI; simp only; rw [ge_cmp]; omega)]
    exact ⟨num_0 s, num_0 s⟩
  · rw [above_mk h1 (by omega)]
    exact ⟨num_mk' (by omega) (by omega), num_mk' (by omega) (by omega)⟩
theorem refine_same {s : Bool} {op a b c d : Int} (h12 : 12 ≤ op) (h17 : op ≤ 17) (a1 : -fI s < a) (ab : a ≤ b) (b2 : b < fI s) (c1 : -fI s < c) (cd : c ≤ d) (d2 : d < fI s) :
    refineP (WyF s) (LF s) op (false, mk s a, mk s b) (false, mk s c, mk s d) = rRefF s op (false, mk s a, mk s b) (false, mk s c, mk s d) := by
  have t := fI_two s
  have na : Num s (mk s a) := num_mk' a1 (by omega)
  have nb : Num s (mk s b) := num_mk' (by omega) b2
  have nc : Num s (mk s c) := num_mk' c1 (by omega)
  have nd : Num s (mk s d) := num_mk' (by omega) d2
  have nl : Num s (LF s).least := by rw [LF_least]; exact num_mk' (by omega) (by omega)
  have nm : Num s (LF s).most := by rw [LF_most]; exact num_mk' (by omega) (by omega)
  have m1 : ∀ {x y : Int} {p : Bool × Int × Int}, Num s x → Num s y → Num s p.2.1 → Num s p.2.2 → meetP (WyF s) (false, x, y) p = rMeetF s (false, x, y) p := fun {x y p} hx hy h1 h2 => by
    obtain ⟨e, l, h⟩ := p
    exact meet_same hx hy h1 h2
  have L : ∀ {a b c d : Int}, -fI s < a → a ≤ b → b < fI s → -fI s < c → c ≤ d → d < fI s → Num s (mk s a) → Num s (mk s b) → Num s (mk s c) → Num s (mk s d) →
      ltP (WyF s) (LF s) (false, mk s a, mk s b) (false, mk s c, mk s d) = bothP (rMeetF s (false, mk s a, mk s b) (rUpTo s (mk s d) true)) (rMeetF s (false, mk s c, mk s d) (rFrom s (mk s a) true)) ∧
      leP (WyF s) (LF s) (false, mk s a, mk s b) (false, mk s c, mk s d) = bothP (rMeetF s (false, mk s a, mk s b) (rUpTo s (mk s d) false)) (rMeetF s (false, mk s c, mk s d) (rFrom s (mk s a) false)) := by
    intro a b c d a1 ab b2 c1 cd d2 na nb nc nd
    rw [upto_same (by omega) d2, upto_same (by omega) d2, from_same a1 (by omega), from_same a1 (by omega)]
    simp only [if_true, Bool.false_eq_true, if_false]
    unfold ltP leP
    dsimp only
    obtain ⟨k1, k2⟩ := num_below (s := s) (d := d) (by omega) d2
    obtain ⟨k3, k4⟩ := num_above (s := s) (d := a) a1 (by omega)
    rw [m1 na nb k1 k2, m1 nc nd k3 k4, m1 na nb nl nd, m1 nc nd na nm]
    exact ⟨rfl, rfl⟩
  rcases (show op = 12 ∨ op = 13 ∨ op = 14 ∨ op = 15 ∨ op = 16 ∨ op = 17 by omega) with rfl | rfl | rfl | rfl | rfl | rfl
  · exact (L a1 ab b2 c1 cd d2 na nb nc nd).1
  · exact (L a1 ab b2 c1 cd d2 na nb nc nd).2
  · have e : refineP (WyF s) (LF s) 14 (false, mk s a, mk s b) (false, mk s c, mk s d) = bothP (ltP (WyF s) (LF s) (false, mk s c, mk s d) (false, mk s a, mk s b)).2 (ltP (WyF s) (LF s) (false, mk s c, mk s d) (false, mk s a, mk s b)).1 := rfl
    rw [e, (L c1 cd d2 a1 ab b2 nc nd na nb).1, both_swap]
    rfl
  · have e : refineP (WyF s) (LF s) 15 (false, mk s a, mk s b) (false, mk s c, mk s d) = bothP (leP (WyF s) (LF s) (false, mk s c, mk s d) (false, mk s a, mk s b)).2 (leP (WyF s) (LF s) (false, mk s c, mk s d) (false, mk s a, mk s b)).1 := rfl
    rw [e, (L c1 cd d2 a1 ab b2 nc nd na nb).2, both_swap]
    rfl
  · have e : refineP (WyF s) (LF s) 16 (false, mk s a, mk s b) (false, mk s c, mk s d) = bothP (meetP (WyF s) (false, mk s a, mk s b) (false, mk s c, mk s d)) (meetP (WyF s) (false, mk s c, mk s d) (false, mk s a, mk s b)) := rfl
    have sw : meetP (WyF s) (false, mk s c, mk s d) (false, mk s a, mk s b) = meetP (WyF s) (false, mk s a, mk s b) (false, mk s c, mk s d) := by
      rw [meetF (by omega) (by omega) (by omega) (by omega) (by omega) (by omega) (by omega) (by omega), meetF (by omega) (by omega) (by omega) (by omega) (by omega) (by omega) (by omega) (by omega), show min d b = min b d by omega, show max c a = max a c by omega]
    rw [e, sw, m1 na nb nc nd]
    rfl
  · have e : refineP (WyF s) (LF s) 17 (false, mk s a, mk s b) (false, mk s c, mk s d) = bothP (withoutP (WyF s) (LF s) (false, mk s a, mk s b) (false, mk s c, mk s d)) (withoutP (WyF s) (LF s) (false, mk s c, mk s d) (false, mk s a, mk s b)) := rfl
    rw [e, without_same a1 ab b2 c1 cd d2, without_same c1 cd d2 a1 ab b2]
    rfl
theorem refine_none {s : Bool} {op : Int} (h12 : 12 ≤ op) (h17 : op ≤ 17) (p q : Bool × Int × Int) (h : (p.1 || q.1) = true) : refineP (WyF s) (LF s) op p q = ((true, 0, 0), (true, 0, 0)) := by
  have mp : ∀ (x y : Bool × Int × Int), (x.1 || y.1) = true → (meetP (WyF s) x y).1 = true := fun x y h => by
    unfold meetP
    rw [if_pos (by rw [h]; rfl)]
  have bp : ∀ (x y : Bool × Int × Int), (x.1 || y.1) = true → bothP x y = ((true, 0, 0), (true, 0, 0)) := fun x y h => by
    unfold bothP
    rw [if_pos h]
  have wp : ∀ (x y : Bool × Int × Int), x.1 = true → (withoutP (WyF s) (LF s) x y).1 = true := fun x y h => by
    unfold withoutP
    split
    · exact h
    · split
      · exact mp _ _ (by rw [h]; rfl)
      · split
        · exact mp _ _ (by rw [h]; rfl)
        · exact h
  have lp : ∀ (x y : Bool × Int × Int), (x.1 || y.1) = true → ltP (WyF s) (LF s) x y = ((true, 0, 0), (true, 0, 0)) ∧ leP (WyF s) (LF s) x y = ((true, 0, 0), (true, 0, 0)) := fun x y h => by
    unfold ltP leP
    rw [Bool.or_eq_true] at h
    constructor
    · refine bp _ _ ?_
      rcases h with h | h
      · rw [mp _ _ (by rw [h]; rfl)]; rfl
      · rw [mp y _ (by rw [h]; rfl), Bool.or_true]
    · refine bp _ _ ?_
      rcases h with h | h
      · rw [mp _ _ (by rw [h]; rfl)]; rfl
      · rw [mp y _ (by rw [h]; rfl), Bool.or_true]
  have h' : (q.1 || p.1) = true := by rw [Bool.or_comm]; exact h
  rcases (show op = 12 ∨ op = 13 ∨ op = 14 ∨ op = 15 ∨ op = 16 ∨ op = 17 by omega) with rfl | rfl | rfl | rfl | rfl | rfl
  · exact (lp p q h).1
  · exact (lp p q h).2
  · show bothP (ltP (WyF s) (LF s) q p).2 (ltP (WyF s) (LF s) q p).1 = _
    rw [(lp q p h').1]; rfl
  · show bothP (leP (WyF s) (LF s) q p).2 (leP (WyF s) (LF s) q p).1 = _
    rw [(lp q p h').2]; rfl
  · show bothP (meetP (WyF s) p q) (meetP (WyF s) q p) = _
    exact bp _ _ (by rw [mp p q h]; rfl)
  · show bothP (withoutP (WyF s) (LF s) p q) (withoutP (WyF s) (LF s) q p) = _
    rw [Bool.or_eq_true] at h
    refine bp _ _ ?_
    rcases h with h | h
    · rw [wp p q h]; rfl
    · rw [wp q p h, Bool.or_true]
end Go.Proofs.YthjoigkckgdcaaaGreat

