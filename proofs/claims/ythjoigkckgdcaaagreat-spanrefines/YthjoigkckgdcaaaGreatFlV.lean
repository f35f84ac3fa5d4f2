/- What stands so is in what refine leaves: ranges of floats, by rank; plain functions alone. -/
import Derived.Test.YthjoigkckgdcaaaGreatFlT
import Derived.Test.YthjoigkckgdcaaaGreatSpEp
namespace Go.Proofs.YthjoigkckgdcaaaGreat
set_option linter.unusedVariables false
set_option linter.unusedSimpArgs false
theorem below_mk {s : Bool} {d : Int} (h1 : -(fI s - 1) < d) (h2 : d < fI s) : belowP (WyF s) (LF s) (mk s d) = (false, mk s (-(fI s - 1)), mk s (d - 1)) := by
  have t := fI_two s
  unfold belowP
  rw [LF_least, ord_mk (by omega) (by omega) (by omega) (by omega), if_neg (by rw [ordI_le]; omega), show (WyF s).prv (mk s d) = prevF s (mk s d) from rfl, prev_mk h1 h2]
theorem above_mk {s : Bool} {d : Int} (h1 : -fI s < d) (h2 : d < fI s - 1) : aboveP (WyF s) (LF s) (mk s d) = (false, mk s (d + 1), mk s (fI s - 1)) := by
  have t := fI_two s
  unfold aboveP
  rw [LF_most, ord_mk (by omega) (by omega) (by omega) (by omega), if_neg (by unfold WyI; simp only; rw [ge_cmp]; omega), show (WyF s).nxt (mk s d) = nextF s (mk s d) from rfl, next_mk h1 h2]
/-- What is left has the number, and lies in what there was. -/
def Kept (s : Bool) (P : Bool × Int × Int) (a b n : Int) : Prop := ∃ l h, P = (false, mk s l, mk s h) ∧ a ≤ l ∧ l ≤ n ∧ n ≤ h ∧ h ≤ b
theorem both_ok {s : Bool} {P Q : Bool × Int × Int} {a b n c d m : Int} (h1 : Kept s P a b n) (h2 : Kept s Q c d m) : bothP P Q = (P, Q) := by
  obtain ⟨l, h, rfl, _⟩ := h1
  obtain ⟨l', h', rfl, _⟩ := h2
  rfl
theorem meet_kept {s : Bool} {a b n l h : Int} (a1 : -fI s < a) (b2 : b < fI s) (an : a ≤ n) (nb : n ≤ b) (l1 : -fI s < l) (h2 : h < fI s) (ln : l ≤ n) (nh : n ≤ h) : Kept s (meetP (WyF s) (false, mk s a, mk s b) (false, mk s l, mk s h)) a b n := by
  refine ⟨max a l, min b h, ?_, by omega, by omega, by omega, by omega⟩
  rw [meetF (by omega) (by omega) (by omega) (by omega) (by omega) (by omega) (by omega) (by omega), if_neg (by omega)]
theorem lt_kept {s : Bool} {a b c d n m : Int} (a1 : -fI s < a) (b2 : b < fI s) (an : a ≤ n) (nb : n ≤ b) (c1 : -fI s < c) (d2 : d < fI s) (cm : c ≤ m) (md : m ≤ d) (h : n < m) : Kept s (ltP (WyF s) (LF s) (false, mk s a, mk s b) (false, mk s c, mk s d)).1 a b n ∧ Kept s (ltP (WyF s) (LF s) (false, mk s a, mk s b) (false, mk s c, mk s d)).2 c d m := by
  have t := fI_two s
  have k1 : Kept s (meetP (WyF s) (false, mk s a, mk s b) (belowP (WyF s) (LF s) (mk s d))) a b n := by
    rw [below_mk (by omega) d2]
    exact meet_kept a1 b2 an nb (by omega) (by omega) (by omega) (by omega)
  have k2 : Kept s (meetP (WyF s) (false, mk s c, mk s d) (aboveP (WyF s) (LF s) (mk s a))) c d m := by
    rw [above_mk a1 (by omega)]
    exact meet_kept c1 d2 cm md (by omega) (by omega) (by omega) (by omega)
  unfold ltP
  dsimp only
  rw [both_ok k1 k2]
  exact ⟨k1, k2⟩
theorem le_kept {s : Bool} {a b c d n m : Int} (a1 : -fI s < a) (b2 : b < fI s) (an : a ≤ n) (nb : n ≤ b) (c1 : -fI s < c) (d2 : d < fI s) (cm : c ≤ m) (md : m ≤ d) (h : n ≤ m) : Kept s (leP (WyF s) (LF s) (false, mk s a, mk s b) (false, mk s c, mk s d)).1 a b n ∧ Kept s (leP (WyF s) (LF s) (false, mk s a, mk s b) (false, mk s c, mk s d)).2 c d m := by
  have t := fI_two s
  have k1 : Kept s (meetP (WyF s) (false, mk s a, mk s b) (false, (LF s).least, mk s d)) a b n := by
    rw [LF_least]
    exact meet_kept a1 b2 an nb (by omega) d2 (by omega) (by omega)
  have k2 : Kept s (meetP (WyF s) (false, mk s c, mk s d) (false, mk s a, (LF s).most)) c d m := by
    rw [LF_most]
    exact meet_kept c1 d2 cm md a1 (by omega) (by omega) (by omega)
  unfold leP
  dsimp only
  rw [both_ok k1 k2]
  exact ⟨k1, k2⟩
theorem without_kept {s : Bool} {a b c d n m : Int} (a1 : -fI s < a) (b2 : b < fI s) (an : a ≤ n) (nb : n ≤ b) (c1 : -fI s < c) (d2 : d < fI s) (cm : c ≤ m) (md : m ≤ d) (h : n ≠ m) : Kept s (withoutP (WyF s) (LF s) (false, mk s a, mk s b) (false, mk s c, mk s d)) a b n := by
  have t := fI_two s
  have self : Kept s (false, mk s a, mk s b) a b n := ⟨a, b, rfl, Int.le_refl _, an, nb, Int.le_refl _⟩
  have oz : ∀ x y : Int, -fI s < x → x < fI s → -fI s < y → y < fI s → ((WyF s).ord (mk s x) (mk s y) = 0 ↔ x = y) := fun x y x1 x2 y1 y2 => by
    rw [ord_mk (by omega) (by omega) (by omega) (by omega)]
    unfold WyI cmpI
    simp only
    split
    · constructor <;> intro <;> omega
    · split
      · constructor <;> intro <;> omega
      · constructor <;> intro <;> omega
  unfold withoutP
  dsimp only
  by_cases q1 : c = d
  · rw [if_neg (by rw [oz c d c1 (by omega) (by omega) d2]; simpa using q1)]
    by_cases q2 : c = a
    · rw [if_pos ((oz c a c1 (by omega) a1 (by omega)).2 q2), above_mk c1 (by omega)]
      exact meet_kept a1 b2 an nb (by omega) (by omega) (by omega) (by omega)
    · rw [if_neg (mt (oz c a c1 (by omega) a1 (by omega)).1 q2)]
      by_cases q3 : c = b
      · rw [if_pos ((oz c b c1 (by omega) (by omega) b2).2 q3), below_mk (by omega) (by omega)]
        exact meet_kept a1 b2 an nb (by omega) (by omega) (by omega) (by omega)
      · rw [if_neg (mt (oz c b c1 (by omega) (by omega) b2).1 q3)]
        exact self
  · rw [if_pos (by rw [oz c d c1 (by omega) (by omega) d2]; exact q1)]
    exact self
def holdI (op n m : Int) : Prop := (op = 12 → n < m) ∧ (op = 13 → n ≤ m) ∧ (op = 14 → m < n) ∧ (op = 15 → m ≤ n) ∧ (op = 16 → n = m) ∧ (op = 17 → n ≠ m)
theorem keeps {s : Bool} {op a b c d n m : Int} (h12 : 12 ≤ op) (h17 : op ≤ 17) (a1 : -fI s < a) (b2 : b < fI s) (an : a ≤ n) (nb : n ≤ b) (c1 : -fI s < c) (d2 : d < fI s) (cm : c ≤ m) (md : m ≤ d) (h : holdI op n m) :
    Kept s (refineP (WyF s) (LF s) op (false, mk s a, mk s b) (false, mk s c, mk s d)).1 a b n ∧ Kept s (refineP (WyF s) (LF s) op (false, mk s a, mk s b) (false, mk s c, mk s d)).2 c d m := by
  obtain ⟨g1, g2, g3, g4, g5, g6⟩ := h
  rcases (show op = 12 ∨ op = 13 ∨ op = 14 ∨ op = 15 ∨ op = 16 ∨ op = 17 by omega) with rfl | rfl | rfl | rfl | rfl | rfl
  · exact lt_kept a1 b2 an nb c1 d2 cm md (g1 rfl)
  · exact le_kept a1 b2 an nb c1 d2 cm md (g2 rfl)
  · obtain ⟨k1, k2⟩ := lt_kept c1 d2 cm md a1 b2 an nb (g3 rfl)
    have e : refineP (WyF s) (LF s) 14 (false, mk s a, mk s b) (false, mk s c, mk s d) = bothP (ltP (WyF s) (LF s) (false, mk s c, mk s d) (false, mk s a, mk s b)).2 (ltP (WyF s) (LF s) (false, mk s c, mk s d) (false, mk s a, mk s b)).1 := rfl
    rw [e, both_ok k2 k1]
    exact ⟨k2, k1⟩
  · obtain ⟨k1, k2⟩ := le_kept c1 d2 cm md a1 b2 an nb (g4 rfl)
    have e : refineP (WyF s) (LF s) 15 (false, mk s a, mk s b) (false, mk s c, mk s d) = bothP (leP (WyF s) (LF s) (false, mk s c, mk s d) (false, mk s a, mk s b)).2 (leP (WyF s) (LF s) (false, mk s c, mk s d) (false, mk s a, mk s b)).1 := rfl
    rw [e, both_ok k2 k1]
    exact ⟨k2, k1⟩
  · have q := g5 rfl
    have k1 : Kept s (meetP (WyF s) (false, mk s a, mk s b) (false, mk s c, mk s d)) a b n := meet_kept a1 b2 an nb c1 d2 (by omega) (by omega)
    have k2 : Kept s (meetP (WyF s) (false, mk s c, mk s d) (false, mk s a, mk s b)) c d m := meet_kept c1 d2 cm md a1 b2 (by omega) (by omega)
    have e : refineP (WyF s) (LF s) 16 (false, mk s a, mk s b) (false, mk s c, mk s d) = bothP (meetP (WyF s) (false, mk s a, mk s b) (false, mk s c, mk s d)) (meetP (WyF s) (false, mk s c, mk s d) (false, mk s a, mk s b)) := rfl
    rw [e, both_ok k1 k2]
    exact ⟨k1, k2⟩
  · have k1 := without_kept (s := s) a1 b2 an nb c1 d2 cm md (g6 rfl)
    have k2 := without_kept (s := s) c1 d2 cm md a1 b2 an nb (Ne.symm (g6 rfl))
    have e : refineP (WyF s) (LF s) 17 (false, mk s a, mk s b) (false, mk s c, mk s d) = bothP (withoutP (WyF s) (LF s) (false, mk s a, mk s b) (false, mk s c, mk s d)) (withoutP (WyF s) (LF s) (false, mk s c, mk s d) (false, mk s a, mk s b)) := rfl
    rw [e, both_ok k1 k2]
    exact ⟨k1, k2⟩
theorem within_kept {s : Bool} {P : Bool × Int × Int} {a b n : Int} (a1 : -fI s < a) (b2 : b < fI s) (k : Kept s P a b n) : withinP (WyF s) P (false, mk s a, mk s b) = true := by
  obtain ⟨l, h, rfl, l1, ln, nh, hb⟩ := k
  unfold withinP
  simp only [Bool.or_self, Bool.false_eq_true, if_false]
  rw [ord_mk (by omega) (by omega) (by omega) (by omega), ord_mk (by omega) (by omega) (by omega) (by omega), Bool.and_eq_true]
  exact ⟨decide_eq_true ((ordI_le _ _).2 l1), decide_eq_true ((ordI_le _ _).2 hb)⟩
theorem has_kept {s : Bool} {P : Bool × Int × Int} {a b n : Int} (a1 : -fI s < a) (b2 : b < fI s) (k : Kept s P a b n) : hasP (WyF s) P (mk s n) = true := by
  obtain ⟨l, h, rfl, l1, ln, nh, hb⟩ := k
  rw [hasF (by omega) (by omega) (by omega) (by omega) (by omega) (by omega)]
  exact decide_eq_true ⟨ln, nh⟩
theorem word_kept {s : Bool} {P : Bool × Int × Int} {a b n : Int} (a1 : -fI s < a) (b2 : b < fI s) (k : Kept s P a b n) : Word P.2.1 ∧ Word P.2.2 := by
  obtain ⟨l, h, rfl, l1, ln, nh, hb⟩ := k
  exact ⟨mk_word (by omega) (by omega), mk_word (by omega) (by omega)⟩
end Go.Proofs.YthjoigkckgdcaaaGreat

