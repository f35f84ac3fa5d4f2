/- The longest token that a text begins with. -/
import Derived.Test.YtknoibocpbfmmaaGreatDoorFxB
namespace Go.Proofs.YtknoibocpbfmmaaGreatDoor
open Go.RowKit
set_option linter.unusedVariables false
set_option linter.unusedSimpArgs false
theorem countOf_l (s : ByteArray) (m : Nat) (mi : Int) (hm : m = 1 ∧ mi = 1 ∨ m = 2 ∧ mi = 2 ∨ m = 4 ∧ mi = 4 ∨ m = 14 ∧ mi = 14) (hs : s.size ≤ 9223372036854775807) (w : World) :
    Calls Tryz.prog 30 #[.string s, .int .i64 mi] w fun e w' => e = .returned (.int .i64 (cnt m s.toList : Nat)) ∧ Below w.heap.size w w' := by
  rw [toL]
  exact countOf_any s m mi hm hs w
theorem cnt_size (m : Nat) (s : ByteArray) : cnt m s.toList ≤ s.size := by rw [← toL_len]; exact cnt_le m _
/-- Is a list of bytes a name? -/
def isN (l : List UInt8) : Bool := decide (0 < cnt 2 l) && (decide (cnt 14 l = l.length) && (decide (l.length ≤ 16) && !isW l))
set_option maxRecDepth 100000 in
set_option maxHeartbeats 1600000 in
theorem isName_any (s : ByteArray) (hs : s.size ≤ 9223372036854775807) (w : World) : Calls Tryz.prog 69 #[.string s] w fun e w' => e = .returned (.bool (isN s.toList)) ∧ Below w.heap.size w w' := by
  have h2 := countOf_l s 2 2 (by simp) hs
  have h14 := countOf_l s 14 14 (by simp) hs
  have hw := isWord_any s
  unfold isN
  rw [toL_len]
  have z2 := cnt_size 2 s
  have z14 := cnt_size 14 s
  generalize cnt 2 s.toList = n2 at *
  generalize cnt 14 s.toList = n14 at *
  generalize isW s.toList = b at *
  by_cases c1 : 0 < n2
  · have i1 : (0 : Int) < (n2 : Int) := by omega
    rw [decide_eq_true c1, Bool.true_and]
    by_cases c2 : n14 = s.size
    · have i2 : ((n14 : Int) == (s.size : Int)) = true := by rw [beq_iff_eq]; omega
      rw [decide_eq_true c2, Bool.true_and]
      by_cases c3 : s.size ≤ 16
      · have i3 : (s.size : Int) ≤ 16 := by omega
        rw [decide_eq_true c3, Bool.true_and]
        clear hs z2 z14 c1 c2 c3
        go_enter Tryz.func69, Tryz.ntmps69
        go_wp2_with (first
          | (go_at_call_of 30 (Value.int IntKind.i64 2); refine (h2 _).mono ?_; rintro e w1 ⟨rfl, b1⟩)
          | (go_at_call_of 30 (Value.int IntKind.i64 14); refine (h14 _).mono ?_; rintro e w2 ⟨rfl, b2⟩)
          | (go_at_call 71; refine (hw _).mono ?_; rintro e w3 ⟨rfl, rfl⟩)
          | fail)
        go_ret
        exact ⟨rfl, fx_below_call (fx_below_call (Below.refl _ _) b1) b2⟩
      · have i3 : ¬ (s.size : Int) ≤ 16 := by omega
        rw [decide_eq_false c3, Bool.false_and]
        clear hs z2 z14 c1 c2 c3
        go_enter Tryz.func69, Tryz.ntmps69
        go_wp2_with (first
          | (go_at_call_of 30 (Value.int IntKind.i64 2); refine (h2 _).mono ?_; rintro e w1 ⟨rfl, b1⟩)
          | (go_at_call_of 30 (Value.int IntKind.i64 14); refine (h14 _).mono ?_; rintro e w2 ⟨rfl, b2⟩)
          | fail)
        go_ret
        exact ⟨rfl, fx_below_call (fx_below_call (Below.refl _ _) b1) b2⟩
    · have i2 : ((n14 : Int) == (s.size : Int)) = false := by rw [beq_eq_false_iff_ne]; omega
      rw [decide_eq_false c2, Bool.false_and]
      clear hs z2 z14 c1 c2
      go_enter Tryz.func69, Tryz.ntmps69
      go_wp2_with (first
        | (go_at_call_of 30 (Value.int IntKind.i64 2); refine (h2 _).mono ?_; rintro e w1 ⟨rfl, b1⟩)
        | (go_at_call_of 30 (Value.int IntKind.i64 14); refine (h14 _).mono ?_; rintro e w2 ⟨rfl, b2⟩)
        | fail)
      go_ret
      exact ⟨rfl, fx_below_call (fx_below_call (Below.refl _ _) b1) b2⟩
  · obtain rfl : n2 = 0 := by omega
    rw [decide_eq_false c1, Bool.false_and]
    clear hs z2 z14 c1
    go_enter Tryz.func69, Tryz.ntmps69
    go_wp2_with (first
      | (go_at_call_of 30 (Value.int IntKind.i64 2); refine (h2 _).mono ?_; rintro e w1 ⟨rfl, b1⟩)
      | fail)
    go_ret
    exact ⟨rfl, fx_below_call (Below.refl _ _) b1⟩
/-- A word or a name: its kind and its length. -/
def wonL (l : List UInt8) : Nat × Nat := if isW (l.take (cnt 14 l)) then (2, cnt 14 l) else if isN (l.take (cnt 14 l)) then (1, cnt 14 l) else (0, 0)
set_option maxRecDepth 100000 in
set_option maxHeartbeats 1600000 in
theorem won_any (s : ByteArray) (hs : s.size ≤ 9223372036854775807) (w : World) : Calls Tryz.prog 53 #[.string s] w fun e w' => e = .returned (.tuple #[.int .i64 ((wonL s.toList).1 : Nat), .int .i64 ((wonL s.toList).2 : Nat)]) ∧ Below w.heap.size w w' := by
  have h14 := countOf_l s 14 14 (by simp) hs
  have z14 := cnt_size 14 s
  unfold wonL
  generalize cnt 14 s.toList = n at *
  have hz : (s.extract 0 n).size ≤ 9223372036854775807 := by rw [← toL_len, toL_cut]; simp; rw [toL_len]; omega
  have hw := isWord_any (s.extract 0 n)
  have hn := isName_any (s.extract 0 n) hz
  rw [toL_cut, List.drop_zero] at hw hn
  have i1 : (n : Int) ≤ (s.size : Int) := by omega
  clear hz z14
  cases c1 : isW (s.toList.take n)
  · rw [c1] at hw
    cases c2 : isN (s.toList.take n)
    · rw [c2] at hn
      clear c1 c2
      go_enter Tryz.func53, Tryz.ntmps53
      go_wp2_with (first
        | (go_at_call 30; refine (h14 _).mono ?_; rintro e w1 ⟨rfl, b1⟩)
        | (go_at_call 71; refine (hw _).mono ?_; rintro e w3 ⟨rfl, rfl⟩)
        | (go_at_call 69; refine (hn _).mono ?_; rintro e w4 ⟨rfl, b4⟩)
        | fail)
      refine bodyPost_ret (v := .tuple #[.int .i64 0, .int .i64 0]) (by simp [results, Tryz.results53, go_sem]; done) rfl ?_
      exact ⟨rfl, fx_below_call (fx_below_call (Below.refl _ _) b1) b4⟩
    · rw [c2] at hn
      clear c1 c2
      go_enter Tryz.func53, Tryz.ntmps53
      go_wp2_with (first
        | (go_at_call 30; refine (h14 _).mono ?_; rintro e w1 ⟨rfl, b1⟩)
        | (go_at_call 71; refine (hw _).mono ?_; rintro e w3 ⟨rfl, rfl⟩)
        | (go_at_call 69; refine (hn _).mono ?_; rintro e w4 ⟨rfl, b4⟩)
        | fail)
      refine bodyPost_ret (v := .tuple #[.int .i64 1, .int .i64 n]) (by simp [results, Tryz.results53, go_sem]; done) rfl ?_
      exact ⟨rfl, fx_below_call (fx_below_call (Below.refl _ _) b1) b4⟩
  · rw [c1] at hw
    clear c1 hn
    go_enter Tryz.func53, Tryz.ntmps53
    go_wp2_with (first
      | (go_at_call_of 30 (Value.int IntKind.i64 14); refine (h14 _).mono ?_; rintro e w1 ⟨rfl, b1⟩)
      | (go_at_call 71; refine (hw _).mono ?_; rintro e w3 ⟨rfl, rfl⟩)
      | fail)
    refine bodyPost_ret (v := .tuple #[.int .i64 2, .int .i64 n]) (by simp [results, Tryz.results53, go_sem]) rfl ?_
    exact ⟨rfl, fx_below_call (Below.refl _ _) b1⟩
/-- A number: its kind and its length. -/
def iorL (l : List UInt8) : Nat × Nat := if l[cnt 4 l]? = some 46 ∧ 0 < cnt 4 (l.drop (cnt 4 l + 1)) then (4, cnt 4 l + 1 + cnt 4 (l.drop (cnt 4 l + 1))) else (3, cnt 4 l)
theorem toL_at (s : ByteArray) (n : Nat) (h : n < s.size) : s.toList[n]? = some s[n] := by
  rw [toL]; exact List.getElem?_eq_getElem (l := s.data.toList) h
set_option maxRecDepth 100000 in
set_option maxHeartbeats 1600000 in
theorem ior_any (s : ByteArray) (hs : s.size ≤ 9223372036854775807) (w : World) : Calls Tryz.prog 54 #[.string s] w fun e w' => e = .returned (.tuple #[.int .i64 ((iorL s.toList).1 : Nat), .int .i64 ((iorL s.toList).2 : Nat)]) ∧ Below w.heap.size w w' := by
  have h4 := countOf_l s 4 4 (by simp) hs
  have z4 := cnt_size 4 s
  unfold iorL
  generalize cnt 4 s.toList = n at *
  have i1 : (n : Int) ≤ (s.size : Int) := by omega
  by_cases c1 : n < s.size
  · have j1 : (n : Int) < (s.size : Int) := by omega
    rw [toL_at s n c1]
    have hz : (s.extract (n + 1) s.size).size ≤ 9223372036854775807 := by rw [← toL_len, toL_cut]; simp; rw [toL_len]; omega
    have h5 := countOf_l (s.extract (n + 1) s.size) 4 4 (by simp) hz
    rw [toL_cut, List.take_of_length_le (by rw [toL_len]; exact Nat.le_refl _)] at h5
    have z5 : cnt 4 (s.toList.drop (n + 1)) ≤ s.size - (n + 1) := by
      have := cnt_le 4 (s.toList.drop (n + 1))
      rw [List.length_drop, toL_len] at this
      exact this
    generalize cnt 4 (s.toList.drop (n + 1)) = k at *
    obtain ⟨b, hb⟩ : ∃ b : UInt8, s[n]'c1 = b := ⟨_, rfl⟩
    rw [hb]
    by_cases c2 : b = 46
    · subst c2
      have q2 : (((s[n]'c1).toNat : Int) == 46) = true := by rw [hb]; rfl
      by_cases c3 : 0 < k
      · have i3 : (0 : Int) < (k : Int) := by omega
        have i4 : (n : Int) + 1 + (k : Int) < 9223372036854775808 := by omega
        have i5 : (n : Int) + 1 ≤ (s.size : Int) := by omega
        rw [if_pos ⟨rfl, c3⟩]
        clear hz z5 z4 hs
        go_enter Tryz.func54, Tryz.ntmps54
        go_wp2_with (first
          | (go_at_call_of 30 (Value.string s); refine (h4 _).mono ?_; rintro e w1 ⟨rfl, b1⟩)
          | (go_at_call 30; refine (h5 _).mono ?_; rintro e w2 ⟨rfl, b2⟩)
          | fail)
        refine bodyPost_ret (v := .tuple #[.int .i64 4, .int .i64 ((n : Int) + 1 + k)]) (by simp [results, Tryz.results54, go_sem]; done) rfl ?_
        exact ⟨rfl, fx_below_call (fx_below_call (Below.refl _ _) b1) b2⟩
      · obtain rfl : k = 0 := by omega
        have i4 : (n : Int) + 1 < 9223372036854775808 := by omega
        have i5 : (n : Int) + 1 ≤ (s.size : Int) := by omega
        rw [if_neg (fun t => c3 t.2)]
        clear hz z5 z4 hs c3
        go_enter Tryz.func54, Tryz.ntmps54
        go_wp2_with (first
          | (go_at_call_of 30 (Value.string s); refine (h4 _).mono ?_; rintro e w1 ⟨rfl, b1⟩)
          | (go_at_call 30; refine (h5 _).mono ?_; rintro e w2 ⟨rfl, b2⟩)
          | fail)
        refine bodyPost_ret (v := .tuple #[.int .i64 3, .int .i64 n]) (by simp [results, Tryz.results54, go_sem]; done) rfl ?_
        exact ⟨rfl, fx_below_call (fx_below_call (Below.refl _ _) b1) b2⟩
    · have q2 : (((s[n]'c1).toNat : Int) == 46) = false := by
        rw [hb, beq_eq_false_iff_ne]
        intro e
        exact c2 (UInt8.toNat_inj.mp (by simpa using (by exact_mod_cast e : b.toNat = 46)))
      rw [if_neg (fun t => c2 (Option.some.inj t.1))]
      clear hz z5 z4 hs h5 hb c2
      go_enter Tryz.func54, Tryz.ntmps54
      go_wp2_with (first
        | (go_at_call_of 30 (Value.string s); refine (h4 _).mono ?_; rintro e w1 ⟨rfl, b1⟩)
        | fail)
      refine bodyPost_ret (v := .tuple #[.int .i64 3, .int .i64 n]) (by simp [results, Tryz.results54, go_sem]; done) rfl ?_
      exact ⟨rfl, fx_below_call (Below.refl _ _) b1⟩
  · have j1 : ¬ (n : Int) < (s.size : Int) := by omega
    rw [if_neg (fun t => by rw [List.getElem?_eq_none (by rw [toL_len]; omega)] at t; simp at t)]
    clear z4 hs
    go_enter Tryz.func54, Tryz.ntmps54
    go_wp2_with (first
      | (go_at_call_of 30 (Value.string s); refine (h4 _).mono ?_; rintro e w1 ⟨rfl, b1⟩)
      | fail)
    refine bodyPost_ret (v := .tuple #[.int .i64 3, .int .i64 n]) (by simp [results, Tryz.results54, go_sem]; done) rfl ?_
    exact ⟨rfl, fx_below_call (Below.refl _ _) b1⟩
/-- The longest token that a list begins with: its kind (0: none) and its length. -/
def tok (l : List UInt8) : Nat × Nat := if 0 < cnt 2 l then wonL l else if 0 < cnt 4 l then iorL l else if 0 < sgnN l then (5, sgnN l) else (0, 0)
set_option maxRecDepth 100000 in
set_option maxHeartbeats 1600000 in
theorem longest_any (s : ByteArray) (hs : s.size ≤ 9223372036854775807) (w : World) : Calls Tryz.prog 31 #[.string s] w fun e w' => e = .returned (.tuple #[.int .i64 ((tok s.toList).1 : Nat), .int .i64 ((tok s.toList).2 : Nat)]) ∧ Below w.heap.size w w' := by
  have h2 := countOf_l s 2 2 (by simp) hs
  have h4 := countOf_l s 4 4 (by simp) hs
  have hw := won_any s hs
  have hi := ior_any s hs
  have hg := signOf_any s
  unfold tok
  generalize cnt 2 s.toList = n2 at *
  generalize cnt 4 s.toList = n4 at *
  generalize wonL s.toList = T2 at *
  generalize iorL s.toList = T4 at *
  generalize sgnN s.toList = g at *
  obtain ⟨k2, l2⟩ := T2
  obtain ⟨k4, l4⟩ := T4
  clear hs
  by_cases c1 : 0 < n2
  · have i1 : (0 : Int) < (n2 : Int) := by omega
    rw [if_pos c1]
    clear c1 h4 hi hg
    go_enter Tryz.func31, Tryz.ntmps31
    go_wp2_with (first
      | (go_at_call_of 30 (Value.int IntKind.i64 2); refine (h2 _).mono ?_; rintro e w1 ⟨rfl, b1⟩)
      | (go_at_call 53; refine (hw _).mono ?_; rintro e w2 ⟨rfl, b2⟩)
      | fail)
    refine bodyPost_ret (v := .tuple #[.int .i64 k2, .int .i64 l2]) (by simp [results, Tryz.results31, go_sem]; done) rfl ?_
    exact ⟨rfl, fx_below_call (fx_below_call (Below.refl _ _) b1) b2⟩
  · obtain rfl : n2 = 0 := by omega
    rw [if_neg c1]
    clear c1 hw
    by_cases c2 : 0 < n4
    · have i2 : (0 : Int) < (n4 : Int) := by omega
      rw [if_pos c2]
      clear c2 hg
      go_enter Tryz.func31, Tryz.ntmps31
      go_wp2_with (first
        | (go_at_call_of 30 (Value.int IntKind.i64 2); refine (h2 _).mono ?_; rintro e w1 ⟨rfl, b1⟩)
        | (go_at_call_of 30 (Value.int IntKind.i64 4); refine (h4 _).mono ?_; rintro e w2 ⟨rfl, b2⟩)
        | (go_at_call 54; refine (hi _).mono ?_; rintro e w3 ⟨rfl, b3⟩)
        | fail)
      refine bodyPost_ret (v := .tuple #[.int .i64 k4, .int .i64 l4]) (by simp [results, Tryz.results31, go_sem]; done) rfl ?_
      exact ⟨rfl, fx_below_call (fx_below_call (fx_below_call (Below.refl _ _) b1) b2) b3⟩
    · obtain rfl : n4 = 0 := by omega
      rw [if_neg c2]
      clear c2 hi
      by_cases c3 : 0 < g
      · have i3 : (0 : Int) < (g : Int) := by omega
        rw [if_pos c3]
        clear c3
        go_enter Tryz.func31, Tryz.ntmps31
        go_wp2_with (first
          | (go_at_call_of 30 (Value.int IntKind.i64 2); refine (h2 _).mono ?_; rintro e w1 ⟨rfl, b1⟩)
          | (go_at_call_of 30 (Value.int IntKind.i64 4); refine (h4 _).mono ?_; rintro e w2 ⟨rfl, b2⟩)
          | (go_at_call 55; refine (hg _).mono ?_; rintro e w3 ⟨rfl, rfl⟩)
          | fail)
        refine bodyPost_ret (v := .tuple #[.int .i64 5, .int .i64 g]) (by simp [results, Tryz.results31, go_sem]; done) rfl ?_
        exact ⟨rfl, fx_below_call (fx_below_call (Below.refl _ _) b1) b2⟩
      · obtain rfl : g = 0 := by omega
        rw [if_neg c3]
        clear c3
        go_enter Tryz.func31, Tryz.ntmps31
        go_wp2_with (first
          | (go_at_call_of 30 (Value.int IntKind.i64 2); refine (h2 _).mono ?_; rintro e w1 ⟨rfl, b1⟩)
          | (go_at_call_of 30 (Value.int IntKind.i64 4); refine (h4 _).mono ?_; rintro e w2 ⟨rfl, b2⟩)
          | (go_at_call 55; refine (hg _).mono ?_; rintro e w3 ⟨rfl, rfl⟩)
          | fail)
        refine bodyPost_ret (v := .tuple #[.int .i64 0, .int .i64 0]) (by simp [results, Tryz.results31, go_sem]; done) rfl ?_
        exact ⟨rfl, fx_below_call (fx_below_call (Below.refl _ _) b1) b2⟩
end Go.Proofs.YtknoibocpbfmmaaGreatDoor
