/- conv.Literal and conv.Int of a token's text: which error they tell, by the token's kind. -/
import Derived.Test.YtfbkiklopeebdaaConvLf
import Derived.Test.YtfbkiklopeebdaaFxTs
namespace Go.Proofs.Ytfbkiklopeebdaa
open Go.RowKit
set_option linter.unusedVariables false
set_option linter.unusedSimpArgs false
theorem toL_gt (s : ByteArray) (j : Nat) (h : j < s.size) (h' : j < s.toList.length) : s.toList[j]'h' = s[j] := by
  have := toL_at s j h
  rw [List.getElem?_eq_getElem h'] at this
  exact Option.some.inj this
/-- A text of digits, as its digits say. -/
theorem dig_text {s : ByteArray} (h : Dg s.toList) : ∃ F : Nat → Nat, (∀ j, F j ≤ 9) ∧ digS F s.size = s ∧ 1 ≤ s.size := by
  refine ⟨fun j => if q : j < s.size then (s[j]'q).toNat - 48 else 0, fun j => ?_, ?_, ?_⟩
  · by_cases q : j < s.size
    · simp only [q, dite_true]
      have := h.2 (s[j]'q) (by rw [← toL_gt s j q (by rw [toL_len]; exact q)]; exact List.getElem_mem _)
      omega
    · simp only [q, dite_false]; omega
  · apply ByteArray.ext
    apply Array.ext
    · show (digL _ _).toArray.size = _
      simp [digL_len]
    · intro i h1 h2
      have hi : i < s.size := h2
      have b := h.2 (s[i]'hi) (by rw [← toL_gt s i hi (by rw [toL_len]; exact hi)]; exact List.getElem_mem _)
      show (digL _ _).toArray[i] = _
      have e : ((digL (fun j => if q : j < s.size then (s[j]'q).toNat - 48 else 0) s.size)[i]'(by rw [digL_len]; exact hi)) = s[i] := by
        unfold digL
        rw [List.getElem_map, List.getElem_range]
        simp only [hi, dite_true]
        rw [show 48 + ((s[i]'hi).toNat - 48) = (s[i]'hi).toNat by omega]
        simp
      rw [List.getElem_toArray]
      exact e
  · rw [← toL_len]
    have := h.1
    cases q : s.toList with
    | nil => exact absurd q this
    | cons a b => simp
theorem ne_of {s : ByteArray} (h : 1 ≤ s.size) : s.toList.isEmpty = false := by
  rw [← toL_len] at h
  cases q : s.toList with
  | nil => rw [q] at h; simp at h
  | cons x l => rfl
/-- How many digits a text begins with: all of it; those ahead of a point; none. -/
theorem dOf_all {s : ByteArray} (h : Dg s.toList) (hz : s.size ≤ 9223372036854775807) (w : World) : Calls Try.prog 9 #[.string s] w fun e w' => e = .returned (.int .i64 (s.size : Nat)) ∧ Below w.heap.size w w' :=
  digitsOf_any s s.size (Nat.le_refl _) hz (fun j hj _ => h.2 _ (by rw [← toL_gt s j hj (by rw [toL_len]; exact hj)]; exact List.getElem_mem _)) (fun h => by omega) w
theorem dOf_none {s : ByteArray} {b : UInt8} {t : List UInt8} (h : s.toList = b :: t) (hb : ¬ (48 ≤ b.toNat ∧ b.toNat ≤ 57)) (hl : b.toNat < 128) (hz : s.size ≤ 9223372036854775807) (w : World) : Calls Try.prog 9 #[.string s] w fun e w' => e = .returned (.int .i64 (0 : Nat)) ∧ Below w.heap.size w w' :=
  digitsOf_any s 0 (Nat.zero_le _) hz (fun j _ hj => by omega) (fun q => by
    have e := toL_gt s 0 q (by rw [toL_len]; exact q)
    simp only [h, List.getElem_cons_zero] at e
    rw [← e]
    exact ⟨hl, hb⟩) w
theorem point_facts {s : ByteArray} {D E : List UInt8} (h : s.toList = D ++ 46 :: E) (hD : Dg D) (hE : Dg E) :
    s.size = D.length + 1 + E.length ∧ 1 ≤ D.length ∧ 1 ≤ E.length ∧ (∀ j (q : j < s.size), j < D.length → 48 ≤ (s[j]'q).toNat ∧ (s[j]'q).toNat ≤ 57) ∧ (∀ q : D.length < s.size, s[D.length]'q = 46) ∧ (∀ j (q : D.length + 1 + j < s.size), 48 ≤ (s[D.length + 1 + j]'q).toNat ∧ (s[D.length + 1 + j]'q).toNat ≤ 57) := by
  have z : s.size = D.length + 1 + E.length := by rw [← toL_len, h]; simp; omega
  have l1 : 1 ≤ D.length := by cases q : D with | nil => exact absurd q hD.1 | cons a b => simp
  have l2 : 1 ≤ E.length := by cases q : E with | nil => exact absurd q hE.1 | cons a b => simp
  refine ⟨z, l1, l2, fun j q hj => ?_, fun q => ?_, fun j q => ?_⟩
  · have e := toL_gt s j q (by rw [toL_len]; exact q)
    simp only [h] at e
    rw [List.getElem_append_left hj] at e
    rw [← e]
    exact hD.2 _ (List.getElem_mem _)
  · have e := toL_gt s D.length q (by rw [toL_len]; exact q)
    simp only [h] at e
    rw [List.getElem_append_right (Nat.le_refl _)] at e
    rw [← e]; simp
  · have e := toL_gt s (D.length + 1 + j) q (by rw [toL_len]; exact q)
    simp only [h] at e
    rw [List.getElem_append_right (by omega)] at e
    rw [← e]
    simp only [show D.length + 1 + j - D.length = j + 1 by omega, List.getElem_cons_succ]
    exact hE.2 _ (List.getElem_mem _)
/-- What Int tells of a token's text. -/
theorem int_tok {s : ByteArray} {k : Nat} (hz : s.size ≤ 8192) (h : tok s.toList = (k, s.toList.length)) (hk : k ≠ 0) (w : World) :
    Calls Try.prog 6 #[.string s] w fun e w' => ∃ n E : Int, e = .returned (.tuple #[.int .i64 n, .int .i64 E]) ∧ (k = 3 → E = 0 ∨ E = 9 ∨ E = 2) ∧ (k ≠ 3 → E = 4) ∧ Below w.heap.size w w' := by
  rcases shape h hk with ⟨rfl, hd⟩ | ⟨rfl, D, E, e, hD, hE⟩ | ⟨k3, k4, b, t, e, hb, hl⟩
  · obtain ⟨F, hF, eF, s1⟩ := dig_text hd
    by_cases long : 18 < s.size
    · refine (int_long s (by omega) (ne_of s1) long (dOf_all hd (by omega)) w).mono ?_
      rintro e w' ⟨rfl, L⟩
      exact ⟨_, _, rfl, fun _ => Or.inr (Or.inl rfl), fun q => absurd rfl q, L⟩
    · by_cases big : dN F s.size ≤ 2147483647
      · have := intD_ok s.size F s1 (by omega) hF big w
        rw [eF] at this
        refine this.mono ?_
        rintro e w' ⟨rfl, L⟩
        exact ⟨_, _, rfl, fun _ => Or.inl rfl, fun q => absurd rfl q, L⟩
      · have := intD_big s.size F s1 (by omega) hF (by omega) w
        rw [eF] at this
        refine this.mono ?_
        rintro e w' ⟨rfl, L⟩
        exact ⟨_, _, rfl, fun _ => Or.inr (Or.inr rfl), fun q => absurd rfl q, L⟩
  · obtain ⟨z, l1, l2, f1, f2, f3⟩ := point_facts e hD hE
    have hd := digitsOf_any s D.length (by omega) (by omega) (fun j q hj => f1 j q hj) (fun q => by rw [f2 q]; unfold DigB; decide)
    refine (int_form s D.length (by omega) (ne_of (by omega)) (by omega) hd w).mono ?_
    rintro e w' ⟨rfl, L⟩
    exact ⟨_, _, rfl, fun q => by omega, fun _ => rfl, L⟩
  · have s1 : 1 ≤ s.size := by rw [← toL_len, e]; simp
    refine (int_form s 0 (by omega) (ne_of s1) (by omega) (dOf_none e hb hl (by omega)) w).mono ?_
    rintro e w' ⟨rfl, L⟩
    exact ⟨_, _, rfl, fun q => absurd q k3, fun _ => rfl, L⟩
/-- What Literal tells of a token's text. -/
theorem lit_tok {s : ByteArray} {k : Nat} (hz : s.size ≤ 8192) (h : tok s.toList = (k, s.toList.length)) (hk : k ≠ 0) (w : World) :
    Calls Try.prog 5 #[.int .i64 0, .string s] w fun e w' => ∃ n E : Int, e = .returned (.tuple #[.int .u64 n, .int .i64 E]) ∧ (k = 4 → E = 0 ∨ E = 9) ∧ (k ≠ 4 → E = 4) ∧ Below w.heap.size w w' := by
  rcases shape h hk with ⟨rfl, hd⟩ | ⟨rfl, D, E, e, hD, hE⟩ | ⟨k3, k4, b, t, e, hb, hl⟩
  · obtain ⟨F, hF, eF, s1⟩ := dig_text hd
    refine (lit_all 0 s (by omega) s1 (dOf_all hd (by omega)) w).mono ?_
    rintro e w' ⟨rfl, L⟩
    exact ⟨_, _, rfl, fun q => by omega, fun _ => rfl, L⟩
  · obtain ⟨z, l1, l2, f1, f2, f3⟩ := point_facts e hD hE
    by_cases long : 18 < D.length + E.length
    · have hd := digitsOf_any s D.length (by omega) (by omega) (fun j q hj => f1 j q hj) (fun q => by rw [f2 q]; unfold DigB; decide)
      have tE : (s.extract (D.length + 1) s.size).toList = E := by
        rw [toL_cut, List.take_of_length_le (by rw [toL_len]; exact Nat.le_refl _), e]
        simp [List.drop_append]
      have zE : (s.extract (D.length + 1) s.size).size = E.length := by rw [← toL_len, tE]
      have hd2 := dOf_all (s := s.extract (D.length + 1) s.size) (by rw [tE]; exact hE) (by omega)
      rw [zE] at hd2
      refine (lit_long 0 s D.length E.length (by omega) z l1 l2 long f2 hd hd2 w).mono ?_
      rintro e w' ⟨rfl, L⟩
      exact ⟨_, _, rfl, fun _ => Or.inr rfl, fun q => absurd rfl q, L⟩
    · refine (literal_any 0 s D.length E.length (fun i => if i < D.length then (if q : i < s.size then (s[i]'q).toNat - 48 else 0) else (if q : i + 1 < s.size then (s[i + 1]'q).toNat - 48 else 0)) (fun i => ?_) z l1 l2 (by omega) (fun j q hj => ?_) (fun q => by rw [f2 q]; rfl) (fun j q => ?_) w).mono ?_
      · by_cases a : i < D.length
        · have q : i < s.size := by omega
          simp only [a, q, if_true, dite_true]
          have := f1 i q a
          omega
        · simp only [a, if_false]
          by_cases q : i + 1 < s.size
          · simp only [q, dite_true]
            have := f3 (i - D.length) (by omega)
            simp only [show D.length + 1 + (i - D.length) = i + 1 by omega] at this
            omega
          · simp only [q, dite_false]; omega
      · simp only [hj, q, if_true, dite_true]
        have := f1 j q hj
        omega
      · have a : ¬ D.length + j < D.length := by omega
        have q2 : D.length + j + 1 < s.size := by omega
        simp only [a, q2, if_false, dite_true]
        have := f3 j q
        simp only [show D.length + j + 1 = D.length + 1 + j by omega]
        omega
      · rintro e w' ⟨rfl, L⟩
        exact ⟨_, _, rfl, fun _ => Or.inl rfl, fun q => absurd rfl q, L⟩
  · refine (lit_p0 0 s (by omega) (dOf_none e hb hl (by omega)) w).mono ?_
    rintro e w' ⟨rfl, L⟩
    exact ⟨_, _, rfl, fun q => absurd q k4, fun _ => rfl, L⟩
end Go.Proofs.Ytfbkiklopeebdaa

