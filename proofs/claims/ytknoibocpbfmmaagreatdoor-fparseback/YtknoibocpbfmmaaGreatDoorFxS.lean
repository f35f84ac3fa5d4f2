/- The reference's tests of bytes, its names and numbers. -/
import Derived.Test.YtknoibocpbfmmaaGreatDoorFxR
namespace Go.Proofs.YtknoibocpbfmmaaGreatDoor
open Go.RowKit
set_option linter.unusedVariables false
set_option linter.unusedSimpArgs false
set_option maxRecDepth 100000 in
set_option maxHeartbeats 1600000 in
theorem rDigit_any (n : Nat) (w : World) : Calls Tryz.prog 45 #[.int .u8 n] w fun e w' => e = .returned (.bool (decide (48 ≤ n ∧ n ≤ 57))) ∧ w' = w := by
  by_cases c1 : 48 ≤ n
  · by_cases c2 : n ≤ 57
    · rw [decide_eq_true ⟨c1, c2⟩]
      have t57 : decide ((n : Int) ≤ 57) = true := by rw [decide_eq_true_iff]; omega
      go_enter Tryz.func45, Tryz.ntmps45
      go_wp2_with fail
      go_ret
      exact ⟨rfl, rfl⟩
    · rw [decide_eq_false (fun h => c2 h.2)]
      have t57 : decide ((n : Int) ≤ 57) = false := by rw [decide_eq_false_iff_not]; omega
      clear c2
      go_enter Tryz.func45, Tryz.ntmps45
      go_wp2_with fail
      go_ret
      exact ⟨rfl, rfl⟩
  · rw [decide_eq_false (fun h => c1 h.1)]
    have c3 : n < 48 := by omega
    clear c1
    go_enter Tryz.func45, Tryz.ntmps45
    go_wp2_with fail
    go_ret
    exact ⟨rfl, rfl⟩
set_option maxRecDepth 100000 in
set_option maxHeartbeats 1600000 in
theorem rLetter_any (n : Nat) (w : World) : Calls Tryz.prog 43 #[.int .u8 n] w fun e w' => e = .returned (.bool (decide (97 ≤ n ∧ n ≤ 122 ∨ 65 ≤ n ∧ n ≤ 90))) ∧ w' = w := by
  rcases (show n < 65 ∨ (65 ≤ n ∧ n ≤ 90) ∨ (90 < n ∧ n < 97) ∨ (97 ≤ n ∧ n ≤ 122) ∨ 122 < n by omega) with c | ⟨c, d⟩ | ⟨c, d⟩ | ⟨c, d⟩ | c
  · rw [decide_eq_false (by omega)]
    go_enter Tryz.func43, Tryz.ntmps43
    go_wp2_with fail
    go_ret
    exact ⟨rfl, rfl⟩
  · rw [decide_eq_true (by omega)]
    have e : n < 97 := by omega
    have t90 : decide ((n : Int) ≤ 90) = true := by rw [decide_eq_true_iff]; omega
    go_enter Tryz.func43, Tryz.ntmps43
    go_wp2_with fail
    go_ret
    exact ⟨rfl, rfl⟩
  · rw [decide_eq_false (by omega)]
    have t90 : decide ((n : Int) ≤ 90) = false := by rw [decide_eq_false_iff_not]; omega
    go_enter Tryz.func43, Tryz.ntmps43
    go_wp2_with fail
    go_ret
    exact ⟨rfl, rfl⟩
  · rw [decide_eq_true (by omega)]
    go_enter Tryz.func43, Tryz.ntmps43
    go_wp2_with fail
    go_ret
    exact ⟨rfl, rfl⟩
  · rw [decide_eq_false (by omega)]
    have t90 : decide ((n : Int) ≤ 90) = false := by rw [decide_eq_false_iff_not]; omega
    have t122 : decide ((n : Int) ≤ 122) = false := by rw [decide_eq_false_iff_not]; omega
    go_enter Tryz.func43, Tryz.ntmps43
    go_wp2_with fail
    go_ret
    exact ⟨rfl, rfl⟩
/-- The reference's tests are the kinds. -/
theorem kb_letter (n : Nat) : decide (97 ≤ n ∧ n ≤ 122 ∨ 65 ≤ n ∧ n ≤ 90) = decide (kb n = 2) := by
  rw [decide_eq_decide]; unfold kb; (repeat' split) <;> omega
theorem kb_digit (n : Nat) : decide (48 ≤ n ∧ n ≤ 57) = decide (kb n = 4) := by
  rw [decide_eq_decide]; unfold kb; (repeat' split) <;> omega
theorem kb_blank (n : Nat) : decide (n = 9 ∨ n = 10 ∨ n = 13 ∨ n = 32) = decide (kb n = 1) := by
  rw [decide_eq_decide]; unfold kb; (repeat' split) <;> omega
theorem kb_under (n : Nat) : ((n : Int) == 95) = decide (kb n = 8) := by
  rw [show ((n : Int) == 95) = decide ((n : Int) = 95) from rfl, decide_eq_decide]; unfold kb; (repeat' split) <;> omega
theorem rDigit_k (n : Nat) (w : World) : Calls Tryz.prog 45 #[.int .u8 n] w fun e w' => e = .returned (.bool (decide (kb n = 4))) ∧ w' = w := by
  rw [← kb_digit]; exact rDigit_any n w
theorem rLetter_k (n : Nat) (w : World) : Calls Tryz.prog 43 #[.int .u8 n] w fun e w' => e = .returned (.bool (decide (kb n = 2))) ∧ w' = w := by
  rw [← kb_letter]; exact rLetter_any n w
theorem toL_get (s : ByteArray) (j : Nat) (h : j < s.size) : s.toList[j]'(by rw [toL_len]; exact h) = s[j] := by
  have := toL_at s j h
  rw [List.getElem?_eq_getElem (by rw [toL_len]; exact h)] at this
  exact Option.some.inj this
theorem cnt_next {m : Nat} {s : ByteArray} {j : Nat} (h : j < s.size) (hj : j ≤ cnt m s.toList) (hk : ¬ (kb (s[j]'h).toNat &&& m = 0)) : j + 1 ≤ cnt m s.toList := by
  by_cases c : j < cnt m s.toList
  · omega
  · exfalso
    obtain rfl : j = cnt m s.toList := by omega
    have := cnt_out m s.toList (by rw [toL_len]; exact h)
    rw [toL_get s _ h] at this
    exact hk this
theorem cnt_stop {m : Nat} {s : ByteArray} {j : Nat} (h : j < s.size) (hj : j ≤ cnt m s.toList) (hk : kb (s[j]'h).toNat &&& m = 0) : cnt m s.toList = j := by
  by_cases c : j < cnt m s.toList
  · exfalso
    have := cnt_in m s.toList j (by rw [toL_len]; exact h) c
    rw [toL_get s _ h] at this
    exact this hk
  · omega
theorem cnt2_head (s : ByteArray) (h : 0 < s.size) : (0 < cnt 2 s.toList) ↔ kb (s[0]'h).toNat = 2 := by
  constructor
  · intro c
    have := cnt_in 2 s.toList 0 (by rw [toL_len]; exact h) c
    rw [toL_get s 0 h] at this
    rcases kb_five (s[0]'h).toNat with k | k | k | k | k <;> rw [k] at this ⊢ <;> simp at this
  · intro k
    by_cases c : 0 < cnt 2 s.toList
    · exact c
    · have e : cnt 2 s.toList = 0 := by omega
      have := cnt_out 2 s.toList (by rw [toL_len, e]; exact h)
      simp only [e] at this
      rw [toL_get s 0 h, k] at this
      simp at this
theorem empty_of_size {s : ByteArray} (h : s.size = 0) : s.toList.isEmpty = true := by
  rw [← toL_len] at h; rw [List.isEmpty_iff]; exact List.length_eq_zero_iff.mp h
theorem full_of_size {s : ByteArray} (h : 0 < s.size) : s.toList.isEmpty = false := by
  rw [← toL_len] at h
  cases q : s.toList with
  | nil => rw [q] at h; simp at h
  | cons x l => rfl
set_option maxRecDepth 100000 in
set_option maxHeartbeats 3200000 in
theorem rIsName_any (s : ByteArray) (w : World) : Calls Tryz.prog 25 #[.string s] w fun e w' => e = .returned (.bool (isN s.toList)) ∧ Below w.heap.size w w' := by
  have hw := rWord_any s
  rw [isW_among] at hw
  generalize hR : isN s.toList = R
  unfold isN at hR
  rw [toL_len] at hR
  by_cases c0 : s.size = 0
  · have e0 := empty_of_size c0
    have z := cnt_size 2 s
    rw [decide_eq_false (by omega), Bool.false_and] at hR
    subst hR
    clear c0 z hw
    go_enter Tryz.func25, Tryz.ntmps25
    go_wp2_with fail
    go_ret
    exact ⟨rfl, Below.refl _ _⟩
  · have p0 : 0 < s.size := by omega
    have e0 := full_of_size p0
    by_cases c1 : 16 < s.size
    · rw [decide_eq_false (p := s.size ≤ 16) (by omega), Bool.false_and, Bool.and_false, Bool.and_false] at hR
      subst hR
      have i1 : (16 : Int) < (s.size : Int) := by omega
      clear hw c0 p0 c1
      go_enter Tryz.func25, Tryz.ntmps25
      go_wp2_with fail
      go_ret
      exact ⟨rfl, Below.refl _ _⟩
    · have i1 : (s.size : Int) ≤ 16 := by omega
      have hl := rLetter_k (s[0]'p0).toNat
      by_cases c2 : kb (s[0]'p0).toNat = 2
      · rw [decide_eq_true c2] at hl
        rw [decide_eq_true ((cnt2_head s p0).mpr c2), Bool.true_and, decide_eq_true (p := s.size ≤ 16) (by omega), Bool.true_and] at hR
        cases c3 : isW s.toList
        · rw [c3] at hw hR
          rw [Bool.not_false, Bool.and_true] at hR
          have HR : Hid _ := hR
          clear hR c0 c1 c2 c3
          go_enter Tryz.func25, Tryz.ntmps25
          go_wp2_with (first
            | (go_at_call 43; refine (hl _).mono ?_; rintro e w1 ⟨rfl, rfl⟩)
            | (go_at_call 44; refine (hw _).mono ?_; rintro e w2 ⟨rfl, b2⟩)
            | fail)
          go_loopw [3] (fun i wr => ∃ j : Nat, i = .int .i64 j ∧ j ≤ s.size ∧ Hid (j ≤ cnt 14 s.toList) ∧ wr = w2) (fun i _ => s.size - (intOf i).toNat)
          case atStart => exact ⟨0, rfl, by omega, Nat.zero_le _, rfl⟩
          case round =>
            obtain ⟨j, rfl, hj, HJ, rfl⟩ := hrel
            by_cases c : j < s.size
            · have ci : (j : Int) < (s.size : Int) := by omega
              have h1 := rLetter_k (s[j]'c).toNat
              have h2 := rDigit_k (s[j]'c).toNat
              have h3 := kb_under (s[j]'c).toNat
              have nx := cnt_next (m := 14) c HJ.out
              have st := cnt_stop (m := 14) c HJ.out
              rcases kb_five (s[j]'c).toNat with k | k | k | k | k
              all_goals (rw [k] at h1 h2 h3 nx st; simp only [Nat.reduceEqDiff, decide_false, decide_true] at h1 h2 h3; clear hl hw k)
              · have ST := st (by decide)
                have RF : Hid (R = false) := by rw [← HR.out, ST]; exact decide_eq_false (by omega)
                clear nx st ST
                go_wp2_with (first
                  | (go_at_call 43; refine (h1 _).mono ?_; rintro e w3 ⟨rfl, rfl⟩)
                  | (go_at_call 45; refine (h2 _).mono ?_; rintro e w4 ⟨rfl, rfl⟩)
                  | fail)
                go_ret
                exact ⟨by rw [RF.out]; rfl, b2⟩
              · have NX := nx (by decide)
                have NH : Hid (j + 1 ≤ cnt 14 s.toList) := NX
                clear nx st NX
                go_wp2_with (first
                  | (go_at_call 43; refine (h1 _).mono ?_; rintro e w3 ⟨rfl, rfl⟩)
                  | (go_at_call 45; refine (h2 _).mono ?_; rintro e w4 ⟨rfl, rfl⟩)
                  | fail)
                exact ⟨⟨j + 1, by go_num, by omega, NH, by first | trivial | rfl⟩, by simp [intOf]; omega⟩
              · have NX := nx (by decide)
                have NH : Hid (j + 1 ≤ cnt 14 s.toList) := NX
                clear nx st NX
                go_wp2_with (first
                  | (go_at_call 43; refine (h1 _).mono ?_; rintro e w3 ⟨rfl, rfl⟩)
                  | (go_at_call 45; refine (h2 _).mono ?_; rintro e w4 ⟨rfl, rfl⟩)
                  | fail)
                exact ⟨⟨j + 1, by go_num, by omega, NH, by first | trivial | rfl⟩, by simp [intOf]; omega⟩
              · have NX := nx (by decide)
                have NH : Hid (j + 1 ≤ cnt 14 s.toList) := NX
                clear nx st NX
                go_wp2_with (first
                  | (go_at_call 43; refine (h1 _).mono ?_; rintro e w3 ⟨rfl, rfl⟩)
                  | (go_at_call 45; refine (h2 _).mono ?_; rintro e w4 ⟨rfl, rfl⟩)
                  | fail)
                exact ⟨⟨j + 1, by go_num, by omega, NH, by first | trivial | rfl⟩, by simp [intOf]; omega⟩
              · have ST := st (by decide)
                have RF : Hid (R = false) := by rw [← HR.out, ST]; exact decide_eq_false (by omega)
                clear nx st ST
                go_wp2_with (first
                  | (go_at_call 43; refine (h1 _).mono ?_; rintro e w3 ⟨rfl, rfl⟩)
                  | (go_at_call 45; refine (h2 _).mono ?_; rintro e w4 ⟨rfl, rfl⟩)
                  | fail)
                go_ret
                exact ⟨by rw [RF.out]; rfl, b2⟩
            · have ci : ¬ (j : Int) < (s.size : Int) := by omega
              have RT : Hid (R = true) := by
                rw [← HR.out]; apply decide_eq_true
                have := cnt_size 14 s
                have := HJ.out
                omega
              clear hl hw
              go_wp2_with fail
              go_ret
              exact ⟨by rw [RT.out]; rfl, b2⟩
        · rw [c3] at hw hR
          rw [Bool.not_true, Bool.and_false] at hR
          subst hR
          clear c0 c1 c2 c3
          go_enter Tryz.func25, Tryz.ntmps25
          go_wp2_with (first
            | (go_at_call 43; refine (hl _).mono ?_; rintro e w1 ⟨rfl, rfl⟩)
            | (go_at_call 44; refine (hw _).mono ?_; rintro e w2 ⟨rfl, b2⟩)
            | fail)
          go_ret
          exact ⟨rfl, b2⟩
      · rw [decide_eq_false c2] at hl
        rw [decide_eq_false (fun h => c2 ((cnt2_head s p0).mp h)), Bool.false_and] at hR
        subst hR
        clear c0 c1 c2 hw
        go_enter Tryz.func25, Tryz.ntmps25
        go_wp2_with (first
          | (go_at_call 43; refine (hl _).mono ?_; rintro e w1 ⟨rfl, rfl⟩)
          | fail)
        go_ret
        exact ⟨rfl, Below.refl _ _⟩
end Go.Proofs.YtknoibocpbfmmaaGreatDoor

