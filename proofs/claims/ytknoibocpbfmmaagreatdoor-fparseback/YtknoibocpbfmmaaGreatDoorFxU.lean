/- The reference's ints, reals, kinds and ends of tokens. -/
import Derived.Test.YtknoibocpbfmmaaGreatDoorFxT
import Derived.Test.YtknoibocpbfmmaaGreatDoorFxS
namespace Go.Proofs.YtknoibocpbfmmaaGreatDoor
open Go.RowKit
set_option linter.unusedVariables false
set_option linter.unusedSimpArgs false
/-- Digits, at least one. -/
def isI (l : List UInt8) : Bool := decide (cnt 4 l = l.length) && !l.isEmpty
set_option maxRecDepth 100000 in
set_option maxHeartbeats 3200000 in
theorem rIsInt_any (s : ByteArray) (hz : s.size ≤ 9223372036854775807) (w : World) : Calls Tryz.prog 99 #[.string s] w fun e w' => e = .returned (.bool (isI s.toList)) ∧ Below w.heap.size w w' := by
  generalize hR : isI s.toList = R
  unfold isI at hR
  rw [toL_len] at hR
  have HR : Hid _ := hR
  clear hR
  go_enter Tryz.func99, Tryz.ntmps99
  go_wp2_with fail
  go_loopw [3] (fun i wr => ∃ j : Nat, i = .int .i64 j ∧ j ≤ s.size ∧ Hid (j ≤ cnt 4 s.toList) ∧ wr = w) (fun i _ => s.size - (intOf i).toNat)
  case atStart => exact ⟨0, rfl, by omega, Nat.zero_le _, rfl⟩
  case round =>
    obtain ⟨j, rfl, hj, HJ, rfl⟩ := hrel
    by_cases c : j < s.size
    · have ci : (j : Int) < (s.size : Int) := by omega
      have h2 := rDigit_k (s[j]'c).toNat
      have nx := cnt_next (m := 4) c HJ.out
      have st := cnt_stop (m := 4) c HJ.out
      by_cases k : kb (s[j]'c).toNat = 4
      · rw [k] at nx
        rw [decide_eq_true k] at h2
        have NH : Hid (j + 1 ≤ cnt 4 s.toList) := nx (by decide)
        clear nx st k
        go_wp2_with (first
          | (go_at_call 45; refine (h2 _).mono ?_; rintro e w4 ⟨rfl, rfl⟩)
          | fail)
        exact ⟨⟨j + 1, by go_num, by omega, NH, by first | trivial | rfl⟩, by simp [intOf]; omega⟩
      · rw [decide_eq_false k] at h2
        have k4 : kb (s[j]'c).toNat &&& 4 = 0 := by rcases kb_five (s[j]'c).toNat with q | q | q | q | q <;> rw [q] at k ⊢ <;> simp at k ⊢
        have RF : Hid (R = false) := by rw [← HR.out, st k4, decide_eq_false (by omega)]; rfl
        clear nx st k k4
        go_wp2_with (first
          | (go_at_call 45; refine (h2 _).mono ?_; rintro e w4 ⟨rfl, rfl⟩)
          | fail)
        go_ret
        exact ⟨by rw [RF.out]; rfl, Below.refl _ _⟩
    · have ci : ¬ (j : Int) < (s.size : Int) := by omega
      have RT : Hid (R = !s.toList.isEmpty) := by
        show R = _
        rw [← HR.out, decide_eq_true, Bool.true_and]
        have := cnt_size 4 s
        have := HJ.out
        omega
      cases em : s.toList.isEmpty
      · rw [em] at RT
        go_wp2_with fail
        go_ret
        exact ⟨by rw [RT.out]; rfl, Below.refl _ _⟩
      · rw [em] at RT
        go_wp2_with fail
        go_ret
        exact ⟨by rw [RT.out]; rfl, Below.refl _ _⟩
/-- Ahead of the first point. -/
def tilP : List UInt8 → Nat
  | [] => 0
  | b :: t => if b = 46 then 0 else tilP t + 1
theorem tilP_le : ∀ l, tilP l ≤ l.length
  | [] => Nat.le_refl _
  | b :: t => by have := tilP_le t; simp only [tilP]; split <;> simp <;> omega
theorem tilP_in : ∀ (l : List UInt8) j (h : j < l.length), j < tilP l → l[j]'h ≠ 46
  | [], j, h, _ => by simp at h
  | b :: t, j, h, hj => by
    simp only [tilP] at hj
    split at hj
    · omega
    · cases j with
      | zero => assumption
      | succ j => exact tilP_in t j (by simpa using h) (by omega)
theorem tilP_out : ∀ (l : List UInt8) (h : tilP l < l.length), l[tilP l]'h = 46
  | [], h => by simp at h
  | b :: t, h => by
    by_cases c : b = 46
    · have e : tilP (b :: t) = 0 := by simp only [tilP, if_pos c]
      simp only [e, List.getElem_cons_zero]; exact c
    · have e : tilP (b :: t) = tilP t + 1 := by simp only [tilP, if_neg c]
      simp only [e, List.getElem_cons_succ]
      exact tilP_out t (by rw [e] at h; simpa using h)
def isRl (l : List UInt8) : Bool := decide (tilP l < l.length) && (isI (l.take (tilP l)) && isI (l.drop (tilP l + 1)))
set_option maxRecDepth 100000 in
set_option maxHeartbeats 3200000 in
theorem rIsReal_any (s : ByteArray) (hz : s.size ≤ 9223372036854775807) (w : World) : Calls Tryz.prog 100 #[.string s] w fun e w' => e = .returned (.bool (isRl s.toList)) ∧ Below w.heap.size w w' := by
  generalize hR : isRl s.toList = R
  unfold isRl at hR
  rw [toL_len] at hR
  have HR : Hid _ := hR
  clear hR
  have tl := tilP_le s.toList
  rw [toL_len] at tl
  go_enter Tryz.func100, Tryz.ntmps100
  go_wp2_with fail
  go_loopw [3] (fun i wr => ∃ j : Nat, i = .int .i64 j ∧ j ≤ s.size ∧ Hid (j ≤ tilP s.toList) ∧ wr = w) (fun i _ => s.size - (intOf i).toNat)
  case atStart => exact ⟨0, rfl, by omega, Nat.zero_le _, rfl⟩
  case round =>
    obtain ⟨j, rfl, hj, HJ, rfl⟩ := hrel
    by_cases c : j < s.size
    · have ci : (j : Int) < (s.size : Int) := by omega
      have ji : (j : Int) + 1 ≤ (s.size : Int) := by omega
      have jm : (j : Int) + 1 < 9223372036854775808 := by omega
      by_cases k : s[j]'c = 46
      · have jt : tilP s.toList = j := by
          by_cases q : j < tilP s.toList
          · have := tilP_in s.toList j (by rw [toL_len]; exact c) q
            rw [toL_get s j c] at this
            exact absurd k this
          · have := HJ.out; omega
        have z1 : (s.extract 0 j).size ≤ 9223372036854775807 := by rw [← toL_len, toL_cut]; simp; rw [toL_len]; omega
        have z2 : (s.extract (j + 1) s.size).size ≤ 9223372036854775807 := by rw [← toL_len, toL_cut]; simp; rw [toL_len]; omega
        have g1 := rIsInt_any (s.extract 0 j) z1
        have g2 := rIsInt_any (s.extract (j + 1) s.size) z2
        rw [toL_cut, List.drop_zero] at g1
        rw [toL_cut, List.take_of_length_le (by rw [toL_len]; exact Nat.le_refl _)] at g2
        have HR2 : Hid ((isI (s.toList.take j) && isI (s.toList.drop (j + 1))) = R) := by
          have := HR.out
          rw [jt, decide_eq_true c, Bool.true_and] at this
          exact this
        have q2 : (((s[j]'c).toNat : Int) == 46) = true := by rw [k]; rfl
        clear HR HJ jt z1 z2 k tl
        generalize isI (s.toList.take j) = x at *
        generalize isI (s.toList.drop (j + 1)) = y at *
        cases x
        · go_wp2_with (first
            | (go_at_call 99; refine (g1 _).mono ?_; rintro e w1 ⟨rfl, b1⟩)
            | fail)
          go_ret
          exact ⟨by rw [← HR2.out]; rfl, b1⟩
        · go_wp2_with (first
            | (go_at_call_of 99 (ByteArray.extract s 0 j); refine (g1 _).mono ?_; rintro e w1 ⟨rfl, b1⟩)
            | (go_at_call 99; refine (g2 _).mono ?_; rintro e w2 ⟨rfl, b2⟩)
            | fail)
          go_ret
          exact ⟨by rw [← HR2.out]; rfl, fx_below_call b1 b2⟩
      · have q2 : (((s[j]'c).toNat : Int) == 46) = false := by
          rw [beq_eq_false_iff_ne]
          intro e
          exact k (UInt8.toNat_inj.mp (by simpa using (by exact_mod_cast e : (s[j]'c).toNat = 46)))
        have NH : Hid (j + 1 ≤ tilP s.toList) := by
          show j + 1 ≤ _
          by_cases q : j < tilP s.toList
          · omega
          · exfalso
            have hj2 := HJ.out
            obtain rfl : j = tilP s.toList := by omega
            have := tilP_out s.toList (by rw [toL_len]; exact c)
            rw [toL_get s _ c] at this
            exact k this
        clear k HJ tl
        go_wp2_with fail
        exact ⟨⟨j + 1, by go_num, by omega, NH, by first | trivial | rfl⟩, by simp [intOf]; omega⟩
    · have ci : ¬ (j : Int) < (s.size : Int) := by omega
      have RT : Hid (R = false) := by
        show R = _
        rw [← HR.out, decide_eq_false, Bool.false_and]
        have := HJ.out
        omega
      go_wp2_with fail
      go_ret
      exact ⟨by rw [RT.out]; rfl, Below.refl _ _⟩
end Go.Proofs.YtknoibocpbfmmaaGreatDoor

