/- Texts of the proof, put together. -/
import Derived.Test.YtknoibocpbfmmaaGreatDoorWG3
import Derived.ScopeJumps
import Derived.OwnWalk
import Derived.Laws.AppendOwn
import Derived.Deep.QuietTactic
import Derived.BigQuiet
namespace Go.Proofs.YtknoibocpbfmmaaGreatDoor
open Go.RowKit
set_option linter.unusedVariables false
set_option linter.unusedSimpArgs false
theorem countOf_l (s : ByteArray) (m : Nat) (mi : Int) (hm : m = 1 ∧ mi = 1 ∨ m = 2 ∧ mi = 2 ∨ m = 4 ∧ mi = 4 ∨ m = 14 ∧ mi = 14) (hs : s.size ≤ 9223372036854775807) (w : World) :
  Calls Tryz.prog 30 #[.string s, .int .i64 mi] w fun e w' => e = .returned (.int .i64 (cnt m s.toList : Nat)) ∧ Below w.heap.size w w' := by
 rw [toL]
 exact countOf_any s m mi hm hs w
theorem cnt_size (m : Nat) (s : ByteArray) : cnt m s.toList ≤ s.size := by rw [← toL_len]; exact cnt_le m _
/-- Is a list of bytes a name? -/
def isN (l : List UInt8) : Bool := decide (0 < cnt 2 l) && (decide (cnt 14 l = l.length) && (decide (l.length ≤ 16) && !isW l))
set_option maxRecDepth 100000 in
set_option maxHeartbeats 1600000 in
theorem isName_any (s : ByteArray) (hs : s.size ≤ 9223372036854775807) (w : World) : Calls Tryz.prog 69 #[.string s] w fun e w' => e = .returned (.bool (isN s.toList)) ∧ Below w.heap.size w w' := by
 have h2 := countOf_l s 2 2 (by simp) hs
 have h14 := countOf_l s 14 14 (by simp) hs
 have hw := isWord_any s
 unfold isN
 rw [toL_len]
 have z2 := cnt_size 2 s
 have z14 := cnt_size 14 s
 generalize cnt 2 s.toList = n2 at *
 generalize cnt 14 s.toList = n14 at *
 generalize isW s.toList = b at *
 by_cases c1 : 0 < n2
 ·have i1 : (0 : Int) < (n2 : Int) := by omega
  rw [decide_eq_true c1, Bool.true_and]
  by_cases c2 : n14 = s.size
  ·have i2 : ((n14 : Int) == (s.size : Int)) = true := by rw [beq_iff_eq]; omega
   rw [decide_eq_true c2, Bool.true_and]
   by_cases c3 : s.size ≤ 16
   ·have i3 : (s.size : Int) ≤ 16 := by omega
    rw [decide_eq_true c3, Bool.true_and]
    clear hs z2 z14 c1 c2 c3
    go_enter Tryz.func69, Tryz.ntmps69
    go_wp2_with (first
     | (go_at_call_of 30 (Value.int IntKind.i64 2); refine (h2 _).mono ?_; rintro e w1 ⟨rfl, b1⟩)
     | (go_at_call_of 30 (Value.int IntKind.i64 14); refine (h14 _).mono ?_; rintro e w2 ⟨rfl, b2⟩)
     | (go_at_call 71; refine (hw _).mono ?_; rintro e w3 ⟨rfl, rfl⟩)
     | fail)
    go_ret
    exact ⟨rfl, fx_below_call (fx_below_call (Below.refl _ _) b1) b2⟩
   ·have i3 : ¬ (s.size : Int) ≤ 16 := by omega
    rw [decide_eq_false c3, Bool.false_and]
    clear hs z2 z14 c1 c2 c3
    go_enter Tryz.func69, Tryz.ntmps69
    go_wp2_with (first
     | (go_at_call_of 30 (Value.int IntKind.i64 2); refine (h2 _).mono ?_; rintro e w1 ⟨rfl, b1⟩)
     | (go_at_call_of 30 (Value.int IntKind.i64 14); refine (h14 _).mono ?_; rintro e w2 ⟨rfl, b2⟩)
     | fail)
    go_ret
    exact ⟨rfl, fx_below_call (fx_below_call (Below.refl _ _) b1) b2⟩
  ·have i2 : ((n14 : Int) == (s.size : Int)) = false := by rw [beq_eq_false_iff_ne]; omega
   rw [decide_eq_false c2, Bool.false_and]
   clear hs z2 z14 c1 c2
   go_enter Tryz.func69, Tryz.ntmps69
   go_wp2_with (first
    | (go_at_call_of 30 (Value.int IntKind.i64 2); refine (h2 _).mono ?_; rintro e w1 ⟨rfl, b1⟩)
    | (go_at_call_of 30 (Value.int IntKind.i64 14); refine (h14 _).mono ?_; rintro e w2 ⟨rfl, b2⟩)
    | fail)
   go_ret
   exact ⟨rfl, fx_below_call (fx_below_call (Below.refl _ _) b1) b2⟩
 ·obtain rfl : n2 = 0 := by omega
  rw [decide_eq_false c1, Bool.false_and]
  clear hs z2 z14 c1
  go_enter Tryz.func69, Tryz.ntmps69
  go_wp2_with (first
   | (go_at_call_of 30 (Value.int IntKind.i64 2); refine (h2 _).mono ?_; rintro e w1 ⟨rfl, b1⟩)
   | fail)
  go_ret
  exact ⟨rfl, fx_below_call (Below.refl _ _) b1⟩
/-- A word or a name: its kind and its length. -/
def wonL (l : List UInt8) : Nat × Nat := if isW (l.take (cnt 14 l)) then (2, cnt 14 l) else if isN (l.take (cnt 14 l)) then (1, cnt 14 l) else (0, 0)
set_option maxRecDepth 100000 in
set_option maxHeartbeats 1600000 in
theorem won_any (s : ByteArray) (hs : s.size ≤ 9223372036854775807) (w : World) : Calls Tryz.prog 53 #[.string s] w fun e w' => e = .returned (.tuple #[.int .i64 ((wonL s.toList).1 : Nat), .int .i64 ((wonL s.toList).2 : Nat)]) ∧ Below w.heap.size w w' := by
 have h14 := countOf_l s 14 14 (by simp) hs
 have z14 := cnt_size 14 s
 unfold wonL
 generalize cnt 14 s.toList = n at *
 have hz : (s.extract 0 n).size ≤ 9223372036854775807 := by rw [← toL_len, toL_cut]; simp; rw [toL_len]; omega
 have hw := isWord_any (s.extract 0 n)
 have hn := isName_any (s.extract 0 n) hz
 rw [toL_cut, List.drop_zero] at hw hn
 have i1 : (n : Int) ≤ (s.size : Int) := by omega
 clear hz z14
 cases c1 : isW (s.toList.take n)
 ·rw [c1] at hw
  cases c2 : isN (s.toList.take n)
  ·rw [c2] at hn
   clear c1 c2
   go_enter Tryz.func53, Tryz.ntmps53
   go_wp2_with (first
    | (go_at_call 30; refine (h14 _).mono ?_; rintro e w1 ⟨rfl, b1⟩)
    | (go_at_call 71; refine (hw _).mono ?_; rintro e w3 ⟨rfl, rfl⟩)
    | (go_at_call 69; refine (hn _).mono ?_; rintro e w4 ⟨rfl, b4⟩)
    | fail)
   refine bodyPost_ret (v := .tuple #[.int .i64 0, .int .i64 0]) (by simp [results, Tryz.results53, go_sem]; done) rfl ?_
   exact ⟨rfl, fx_below_call (fx_below_call (Below.refl _ _) b1) b4⟩
  ·rw [c2] at hn
   clear c1 c2
   go_enter Tryz.func53, Tryz.ntmps53
   go_wp2_with (first
    | (go_at_call 30; refine (h14 _).mono ?_; rintro e w1 ⟨rfl, b1⟩)
    | (go_at_call 71; refine (hw _).mono ?_; rintro e w3 ⟨rfl, rfl⟩)
    | (go_at_call 69; refine (hn _).mono ?_; rintro e w4 ⟨rfl, b4⟩)
    | fail)
   refine bodyPost_ret (v := .tuple #[.int .i64 1, .int .i64 n]) (by simp [results, Tryz.results53, go_sem]; done) rfl ?_
   exact ⟨rfl, fx_below_call (fx_below_call (Below.refl _ _) b1) b4⟩
 ·rw [c1] at hw
  clear c1 hn
  go_enter Tryz.func53, Tryz.ntmps53
  go_wp2_with (first
   | (go_at_call_of 30 (Value.int IntKind.i64 14); refine (h14 _).mono ?_; rintro e w1 ⟨rfl, b1⟩)
   | (go_at_call 71; refine (hw _).mono ?_; rintro e w3 ⟨rfl, rfl⟩)
   | fail)
  refine bodyPost_ret (v := .tuple #[.int .i64 2, .int .i64 n]) (by simp [results, Tryz.results53, go_sem]) rfl ?_
  exact ⟨rfl, fx_below_call (Below.refl _ _) b1⟩
/-- A number: its kind and its length. -/
def iorL (l : List UInt8) : Nat × Nat := if l[cnt 4 l]? = some 46 ∧ 0 < cnt 4 (l.drop (cnt 4 l + 1)) then (4, cnt 4 l + 1 + cnt 4 (l.drop (cnt 4 l + 1))) else (3, cnt 4 l)
theorem toL_at (s : ByteArray) (n : Nat) (h : n < s.size) : s.toList[n]? = some s[n] := by
 rw [toL]; exact List.getElem?_eq_getElem (l := s.data.toList) h
set_option maxRecDepth 100000 in
set_option maxHeartbeats 1600000 in
theorem ior_any (s : ByteArray) (hs : s.size ≤ 9223372036854775807) (w : World) : Calls Tryz.prog 54 #[.string s] w fun e w' => e = .returned (.tuple #[.int .i64 ((iorL s.toList).1 : Nat), .int .i64 ((iorL s.toList).2 : Nat)]) ∧ Below w.heap.size w w' := by
 have h4 := countOf_l s 4 4 (by simp) hs
 have z4 := cnt_size 4 s
 unfold iorL
 generalize cnt 4 s.toList = n at *
 have i1 : (n : Int) ≤ (s.size : Int) := by omega
 by_cases c1 : n < s.size
 ·have j1 : (n : Int) < (s.size : Int) := by omega
  rw [toL_at s n c1]
  have hz : (s.extract (n + 1) s.size).size ≤ 9223372036854775807 := by rw [← toL_len, toL_cut]; simp; rw [toL_len]; omega
  have h5 := countOf_l (s.extract (n + 1) s.size) 4 4 (by simp) hz
  rw [toL_cut, List.take_of_length_le (by rw [toL_len]; exact Nat.le_refl _)] at h5
  have z5 : cnt 4 (s.toList.drop (n + 1)) ≤ s.size - (n + 1) := by
   have := cnt_le 4 (s.toList.drop (n + 1))
   rw [List.length_drop, toL_len] at this
   exact this
  generalize cnt 4 (s.toList.drop (n + 1)) = k at *
  obtain ⟨b, hb⟩ : ∃ b : UInt8, s[n]'c1 = b := ⟨_, rfl⟩
  rw [hb]
  by_cases c2 : b = 46
  ·subst c2
   have q2 : (((s[n]'c1).toNat : Int) == 46) = true := by rw [hb]; rfl
   by_cases c3 : 0 < k
   ·have i3 : (0 : Int) < (k : Int) := by omega
    have i4 : (n : Int) + 1 + (k : Int) < 9223372036854775808 := by omega
    have i5 : (n : Int) + 1 ≤ (s.size : Int) := by omega
    rw [if_pos ⟨rfl, c3⟩]
    clear hz z5 z4 hs
    go_enter Tryz.func54, Tryz.ntmps54
    go_wp2_with (first
     | (go_at_call_of 30 (Value.string s); refine (h4 _).mono ?_; rintro e w1 ⟨rfl, b1⟩)
     | (go_at_call 30; refine (h5 _).mono ?_; rintro e w2 ⟨rfl, b2⟩)
     | fail)
    refine bodyPost_ret (v := .tuple #[.int .i64 4, .int .i64 ((n : Int) + 1 + k)]) (by simp [results, Tryz.results54, go_sem]; done) rfl ?_
    exact ⟨rfl, fx_below_call (fx_below_call (Below.refl _ _) b1) b2⟩
   ·obtain rfl : k = 0 := by omega
    have i4 : (n : Int) + 1 < 9223372036854775808 := by omega
    have i5 : (n : Int) + 1 ≤ (s.size : Int) := by omega
    rw [if_neg (fun t => c3 t.2)]
    clear hz z5 z4 hs c3
    go_enter Tryz.func54, Tryz.ntmps54
    go_wp2_with (first
     | (go_at_call_of 30 (Value.string s); refine (h4 _).mono ?_; rintro e w1 ⟨rfl, b1⟩)
     | (go_at_call 30; refine (h5 _).mono ?_; rintro e w2 ⟨rfl, b2⟩)
     | fail)
    refine bodyPost_ret (v := .tuple #[.int .i64 3, .int .i64 n]) (by simp [results, Tryz.results54, go_sem]; done) rfl ?_
    exact ⟨rfl, fx_below_call (fx_below_call (Below.refl _ _) b1) b2⟩
  ·have q2 : (((s[n]'c1).toNat : Int) == 46) = false := by
    rw [hb, beq_eq_false_iff_ne]
    intro e
    exact c2 (UInt8.toNat_inj.mp (by simpa using (by exact_mod_cast e : b.toNat = 46)))
   rw [if_neg (fun t => c2 (Option.some.inj t.1))]
   clear hz z5 z4 hs h5 hb c2
   go_enter Tryz.func54, Tryz.ntmps54
   go_wp2_with (first
    | (go_at_call_of 30 (Value.string s); refine (h4 _).mono ?_; rintro e w1 ⟨rfl, b1⟩)
    | fail)
   refine bodyPost_ret (v := .tuple #[.int .i64 3, .int .i64 n]) (by simp [results, Tryz.results54, go_sem]; done) rfl ?_
   exact ⟨rfl, fx_below_call (Below.refl _ _) b1⟩
 ·have j1 : ¬ (n : Int) < (s.size : Int) := by omega
  rw [if_neg (fun t => by rw [List.getElem?_eq_none (by rw [toL_len]; omega)] at t; simp at t)]
  clear z4 hs
  go_enter Tryz.func54, Tryz.ntmps54
  go_wp2_with (first
   | (go_at_call_of 30 (Value.string s); refine (h4 _).mono ?_; rintro e w1 ⟨rfl, b1⟩)
   | fail)
  refine bodyPost_ret (v := .tuple #[.int .i64 3, .int .i64 n]) (by simp [results, Tryz.results54, go_sem]; done) rfl ?_
  exact ⟨rfl, fx_below_call (Below.refl _ _) b1⟩
/-- The longest token that a list begins with: its kind (0: none) and its length. -/
def tok (l : List UInt8) : Nat × Nat := if 0 < cnt 2 l then wonL l else if 0 < cnt 4 l then iorL l else if 0 < sgnN l then (5, sgnN l) else (0, 0)
set_option maxRecDepth 100000 in
set_option maxHeartbeats 1600000 in
theorem longest_any (s : ByteArray) (hs : s.size ≤ 9223372036854775807) (w : World) : Calls Tryz.prog 31 #[.string s] w fun e w' => e = .returned (.tuple #[.int .i64 ((tok s.toList).1 : Nat), .int .i64 ((tok s.toList).2 : Nat)]) ∧ Below w.heap.size w w' := by
 have h2 := countOf_l s 2 2 (by simp) hs
 have h4 := countOf_l s 4 4 (by simp) hs
 have hw := won_any s hs
 have hi := ior_any s hs
 have hg := signOf_any s
 unfold tok
 generalize cnt 2 s.toList = n2 at *
 generalize cnt 4 s.toList = n4 at *
 generalize wonL s.toList = T2 at *
 generalize iorL s.toList = T4 at *
 generalize sgnN s.toList = g at *
 obtain ⟨k2, l2⟩ := T2
 obtain ⟨k4, l4⟩ := T4
 clear hs
 by_cases c1 : 0 < n2
 ·have i1 : (0 : Int) < (n2 : Int) := by omega
  rw [if_pos c1]
  clear c1 h4 hi hg
  go_enter Tryz.func31, Tryz.ntmps31
  go_wp2_with (first
   | (go_at_call_of 30 (Value.int IntKind.i64 2); refine (h2 _).mono ?_; rintro e w1 ⟨rfl, b1⟩)
   | (go_at_call 53; refine (hw _).mono ?_; rintro e w2 ⟨rfl, b2⟩)
   | fail)
  refine bodyPost_ret (v := .tuple #[.int .i64 k2, .int .i64 l2]) (by simp [results, Tryz.results31, go_sem]; done) rfl ?_
  exact ⟨rfl, fx_below_call (fx_below_call (Below.refl _ _) b1) b2⟩
 ·obtain rfl : n2 = 0 := by omega
  rw [if_neg c1]
  clear c1 hw
  by_cases c2 : 0 < n4
  ·have i2 : (0 : Int) < (n4 : Int) := by omega
   rw [if_pos c2]
   clear c2 hg
   go_enter Tryz.func31, Tryz.ntmps31
   go_wp2_with (first
    | (go_at_call_of 30 (Value.int IntKind.i64 2); refine (h2 _).mono ?_; rintro e w1 ⟨rfl, b1⟩)
    | (go_at_call_of 30 (Value.int IntKind.i64 4); refine (h4 _).mono ?_; rintro e w2 ⟨rfl, b2⟩)
    | (go_at_call 54; refine (hi _).mono ?_; rintro e w3 ⟨rfl, b3⟩)
    | fail)
   refine bodyPost_ret (v := .tuple #[.int .i64 k4, .int .i64 l4]) (by simp [results, Tryz.results31, go_sem]; done) rfl ?_
   exact ⟨rfl, fx_below_call (fx_below_call (fx_below_call (Below.refl _ _) b1) b2) b3⟩
  ·obtain rfl : n4 = 0 := by omega
   rw [if_neg c2]
   clear c2 hi
   by_cases c3 : 0 < g
   ·have i3 : (0 : Int) < (g : Int) := by omega
    rw [if_pos c3]
    clear c3
    go_enter Tryz.func31, Tryz.ntmps31
    go_wp2_with (first
     | (go_at_call_of 30 (Value.int IntKind.i64 2); refine (h2 _).mono ?_; rintro e w1 ⟨rfl, b1⟩)
     | (go_at_call_of 30 (Value.int IntKind.i64 4); refine (h4 _).mono ?_; rintro e w2 ⟨rfl, b2⟩)
     | (go_at_call 55; refine (hg _).mono ?_; rintro e w3 ⟨rfl, rfl⟩)
     | fail)
    refine bodyPost_ret (v := .tuple #[.int .i64 5, .int .i64 g]) (by simp [results, Tryz.results31, go_sem]; done) rfl ?_
    exact ⟨rfl, fx_below_call (fx_below_call (Below.refl _ _) b1) b2⟩
   ·obtain rfl : g = 0 := by omega
    rw [if_neg c3]
    clear c3
    go_enter Tryz.func31, Tryz.ntmps31
    go_wp2_with (first
     | (go_at_call_of 30 (Value.int IntKind.i64 2); refine (h2 _).mono ?_; rintro e w1 ⟨rfl, b1⟩)
     | (go_at_call_of 30 (Value.int IntKind.i64 4); refine (h4 _).mono ?_; rintro e w2 ⟨rfl, b2⟩)
     | (go_at_call 55; refine (hg _).mono ?_; rintro e w3 ⟨rfl, rfl⟩)
     | fail)
    refine bodyPost_ret (v := .tuple #[.int .i64 0, .int .i64 0]) (by simp [results, Tryz.results31, go_sem]; done) rfl ?_
    exact ⟨rfl, fx_below_call (fx_below_call (Below.refl _ _) b1) b2⟩
end Go.Proofs.YtknoibocpbfmmaaGreatDoor


namespace Go.Proofs.YtknoibocpbfmmaaGreatDoor
open Go.RowKit
set_option linter.unusedVariables false
set_option linter.unusedSimpArgs false
theorem cnt_2_14 : ∀ l, cnt 2 l ≤ cnt 14 l
 | [] => Nat.le_refl _
 | b :: t => by
  have ih := cnt_2_14 t
  simp only [cnt]
  rcases kb_five b.toNat with k | k | k | k | k <;> rw [k] <;> simp <;> omega
theorem sgnN_le (l : List UInt8) : sgnN l ≤ l.length := by
 unfold sgnN; (repeat' split) <;> omega
theorem tok_le (l : List UInt8) : (tok l).2 ≤ l.length := by
 have a := cnt_le 14 l
 have b := cnt_le 4 l
 have c := sgnN_le l
 unfold tok
 split
 ·unfold wonL; (repeat' split) <;> simp <;> omega
 ·split
  ·unfold iorL
   split
   ·rename_i h
    have d := cnt_le 4 (l.drop (cnt 4 l + 1))
    rw [List.length_drop] at d
    have e : cnt 4 l < l.length := by
     by_cases q : cnt 4 l < l.length
     ·exact q
     ·rw [List.getElem?_eq_none (by omega)] at h; simp at h
    simp; omega
   ·exact b
  ·split
   ·exact c
   ·simp
theorem tok_pos {l : List UInt8} (h : (tok l).1 ≠ 0) : 1 ≤ (tok l).2 := by
 have a := cnt_2_14 l
 revert h
 unfold tok
 split
 ·unfold wonL; (repeat' split) <;> simp <;> omega
 ·split
  ·unfold iorL
   split <;> simp <;> omega
  ·split <;> simp <;> omega
/-- The tokens from a place on (at which no blank stands), of which so many are told: kinds, places, lengths; or the error and its place. -/
def scanAt (l : List UInt8) (a n : Nat) : Except (Nat × Nat) (List (Nat × Nat × Nat)) :=
 if l.length = 0 then .ok []
 else if hk : (tok l).1 = 0 then .error (3, a)
 else if n = 2048 then .error (5, a)
 else
  match scanAt ((l.drop (tok l).2).drop (cnt 1 (l.drop (tok l).2))) (a + (tok l).2 + cnt 1 (l.drop (tok l).2)) (n + 1) with
  | .ok r => .ok (((tok l).1, a, (tok l).2) :: r)
  | .error e => .error e
 termination_by l.length
 decreasing_by
  have := tok_pos hk
  simp only [List.length_drop]
  omega
def scanL (l : List UInt8) : Except (Nat × Nat) (List (Nat × Nat × Nat)) :=
 if 8192 < l.length then .error (5, 0) else scanAt (l.drop (cnt 1 l)) (cnt 1 l) 0
/-- What is told, and then the rest. -/
def andThen (t : List (Nat × Nat × Nat)) : Except (Nat × Nat) (List (Nat × Nat × Nat)) → Except (Nat × Nat) (List (Nat × Nat × Nat))
 | .ok r => .ok (t ++ r)
 | .error e => .error e
theorem scanAt_step (l : List UInt8) (a n : Nat) (t : List (Nat × Nat × Nat)) (h0 : l.length ≠ 0) (hk : (tok l).1 ≠ 0) (hn : n ≠ 2048) :
  andThen t (scanAt l a n) = andThen (t ++ [((tok l).1, a, (tok l).2)]) (scanAt ((l.drop (tok l).2).drop (cnt 1 (l.drop (tok l).2))) (a + (tok l).2 + cnt 1 (l.drop (tok l).2)) (n + 1)) := by
 rw [scanAt, if_neg h0, dif_neg hk, if_neg hn]
 cases scanAt ((l.drop (tok l).2).drop (cnt 1 (l.drop (tok l).2))) (a + (tok l).2 + cnt 1 (l.drop (tok l).2)) (n + 1) <;> simp [andThen]
theorem scanAt_end (l : List UInt8) (a n : Nat) (h0 : l.length = 0) : scanAt l a n = .ok [] := by rw [scanAt, if_pos h0]
theorem scanAt_bad (l : List UInt8) (a n : Nat) (h0 : l.length ≠ 0) (hk : (tok l).1 = 0) : scanAt l a n = .error (3, a) := by rw [scanAt, if_neg h0, dif_pos hk]
theorem scanAt_full (l : List UInt8) (a : Nat) (h0 : l.length ≠ 0) (hk : (tok l).1 ≠ 0) : scanAt l a 2048 = .error (5, a) := by rw [scanAt, if_neg h0, dif_neg hk, if_pos rfl]
/-- The cells of tokens in a slice. -/
def tcells (s : ByteArray) : List (Nat × Nat × Nat) → List Value
 | [] => []
 | (k, a, n) :: t => Value.int .i64 (k : Nat) :: Value.string (s.extract a (a + n)) :: Value.int .i64 (a : Nat) :: tcells s t
theorem tcells_app (s : ByteArray) : ∀ t u, tcells s (t ++ u) = tcells s t ++ tcells s u
 | [], u => rfl
 | (k, a, n) :: t, u => by simp only [tcells, List.cons_append, tcells_app s t u]
end Go.Proofs.YtknoibocpbfmmaaGreatDoor


namespace Go.Proofs.YtknoibocpbfmmaaGreatDoor
open Go.RowKit
set_option linter.unusedVariables false
set_option linter.unusedSimpArgs false
theorem fx_own_block {w : World} {base n size : Nat} {e : TypeId} {v : Value} {xs : List Value} (h : w.ownsRow base e size v n xs) : ∀ k, v.ownBlock = some k → base ≤ k := by
 rintro k hk
 exact (h.lt k hk).1
theorem own_on {w w1 : World} {base n size : Nat} {e : TypeId} {v : Value} {xs : List Value} (hb : Below w.heap.size w w1) (h : w.ownsRow base e size v n xs) : w1.ownsRow base e size v n xs := by
 obtain ⟨h1, h2⟩ := h
 refine ⟨h1, h2.imp id ?_⟩
 rintro ⟨g, cap, cur, e1, e2, e3, e4⟩
 refine ⟨g, cap, cur, e1, e2, (hb.block g ?_).trans e3, e4⟩
 exact (Array.getElem?_eq_some_iff.mp e3).1
theorem own_shape {w : World} {base n size : Nat} {e : TypeId} {v : Value} {xs : List Value} (h : w.ownsRow base e size v n xs) : ∃ (o : Option Addr) (cap : Nat), v = .slice o n cap := by
 rcases h.2 with ⟨rfl, rfl⟩ | ⟨g, cap, cur, rfl, _⟩
 ·exact ⟨none, 0, rfl⟩
 ·exact ⟨_, _, rfl⟩
def fx_restOf (f : Func) : Code := match f.body with | some (.seq _ (.scope c)) => (findLabel c 0).getD .skip | some (.scope c) => (findLabel c 0).getD .skip | _ => .skip
def fx_bodyOf (f : Func) : Code := match fx_restOf f with | .seq _ c => c | c => c
theorem fx_jump_ret {l : Nat} {J : Act → World → Prop} {Q : Exit → Act → World → Prop} {a : Act} {w : World} (h : Q .ret a w) : Exit.jump l J Q .ret a w := h
theorem scRest_eq : fx_restOf Tryz.f16 = .seq .skip (fx_bodyOf Tryz.f16) := by kernel_rfl
def ScJ (w : World) (O : Except (Nat × Nat) (List (Nat × Nat × Nat))) (a' : Act) (w' : World) : Prop := ∃ (E A : Nat) (u0 u1 u2 u3 u4 u5 u8 u9 u10 u11 u12 u13 u14 u15 u16 u17 u18 u19 u20 u21 u22 u23 u24 u25 u26 u27 u28 u29 u30 u31 u32 u33 u34 u35 u36 u37 u38 u39 u40 u41 u42 u43 u44 u45 u46 u47 u48 u49 u50 u51 u52 u53 u54 : Value), a' = { tmps := #[u0, u1, u2, u3, u4, u5, .int .i64 A, .int .i64 E, u8, u9, u10, u11, u12, u13, u14, u15, u16, u17, u18, u19, u20, u21, u22, u23, u24, u25, u26, u27, u28, u29, u30, u31, u32, u33, u34, u35, u36, u37, u38, u39, u40, u41, u42, u43, u44, u45, u46, u47, u48, u49, u50, u51, u52, u53, u54], defers := [] } ∧ Below w.heap.size w w' ∧ O = .error (E, A)
set_option maxRecDepth 1000000 in
set_option maxHeartbeats 1600000 in
theorem sc_pass (w : World) (O : Except (Nat × Nat) (List (Nat × Nat × Nat))) (Q : Ending → World → Prop) (hQ : ∀ (E A : Nat) w', O = .error (E, A) → Below w.heap.size w w' → Q (.returned (.tuple #[.slice none 0 0, .int .i64 E, .int .i64 A])) w') (a : Act) (w' : World) (hJ : ScJ w O a w') :
  Code.wp Tryz.prog (fx_bodyOf Tryz.f16) (Exit.jump 0 (fun a' w'' => ScJ w O a' w'' ∧ (0 : Nat) < 0) (bodyPost Tryz.prog Tryz.f16 Q)) a w' := by
 conv => arg 2; whnf
 obtain ⟨E, A, u0, u1, u2, u3, u4, u5, u8, u9, u10, u11, u12, u13, u14, u15, u16, u17, u18, u19, u20, u21, u22, u23, u24, u25, u26, u27, u28, u29, u30, u31, u32, u33, u34, u35, u36, u37, u38, u39, u40, u41, u42, u43, u44, u45, u46, u47, u48, u49, u50, u51, u52, u53, u54, rfl, L, hO⟩ := hJ
 have HQ : Hid _ := hQ E A w' hO L
 clear hQ hO
 go_wp2_with fail
 refine fx_jump_ret (bodyPost_ret (v := .tuple #[.slice none 0 0, .int .i64 (E : Int), .int .i64 (A : Int)]) (by simp [results, Tryz.results16, go_sem]) rfl ?_)
 exact HQ.out
theorem info45 : (Tryz.prog.info? 45).map (fun i => (i.zero, i.size, i.bytes)) = some (some (.agg #[.int .i64 0, .string ⟨#[]⟩, .int .i64 0]), 3, 32) := by kernel_rfl
theorem lex_cell (w : World) (x y z : Value) (t : TypeId) : ∀ j u, [x, y, z][j]? = some u → (w.alloc (.cells #[x, y, z] t)).cell? (Addr.add ⟨w.heap.size, 0, none⟩ j) = some u := by
 intro j u h
 match j, h with
 | 0, h => simp at h; subst h; simp [go_sem, Addr.add]
 | 1, h => simp at h; subst h; simp [go_sem, Addr.add]
 | 2, h => simp at h; subst h; simp [go_sem, Addr.add]
 | j + 3, h => simp at h
theorem lex_one (k a : Int) (t : ByteArray) : ∀ u ∈ [Value.int .i64 k, .string t, .int .i64 a], u.oneCell' = true := by
 intro u hu; simp at hu; rcases hu with rfl | rfl | rfl <;> rfl
set_option maxRecDepth 1000000 in
set_option maxHeartbeats 3200000 in
theorem scan_Q (s : ByteArray) (w : World) (Q : Ending → World → Prop)
  (hok : ∀ (t : List (Nat × Nat × Nat)) (v : Value) w', scanL s.toList = .ok t → w'.ownsRow w.heap.size 45 3 v t.length (tcells s t) → Below w.heap.size w w' → Q (.returned (.tuple #[v, .int .i64 0, .int .i64 0])) w')
  (herr : ∀ (E A : Nat) w', scanL s.toList = .error (E, A) → Below w.heap.size w w' → Q (.returned (.tuple #[.slice none 0 0, .int .i64 E, .int .i64 A])) w') :
  Calls Tryz.prog 16 #[.string s] w Q := by
 generalize hO : scanL s.toList = O at *
 have HE : Hid _ := herr
 have HK : Hid _ := hok
 clear herr hok
 unfold scanL at hO
 rw [toL_len] at hO
 by_cases c0 : 8192 < s.size
 ·have i0 : (8192 : Int) < (s.size : Int) := by omega
  rw [if_pos c0] at hO
  clear c0
  have HO : Hid _ := hO
  clear hO
  go_enter Tryz.func16, Tryz.ntmps16
  go_wp2_with fail
  refine wp_scope_jumps (rest := fx_restOf Tryz.f16) 0 (ScJ w O) (fun _ _ => 0) (by kernel_rfl) ?_ (fun a w' hJ => by rw [scRest_eq]; exact wp_seq (wp_skip (sc_pass w O _ (fun E A w' h L => HE.out E A w' h L) a w' hJ)))
  go_wp2_with fail
  go_step3
  exact ⟨rfl, 5, 0, _, _, _, _, _, _, _, _, _, _, _, _, _, _, _, _, _, _, _, _, _, _, _, _, _, _, _, _, _, _, _, _, _, _, _, _, _, _, _, _, _, _, _, _, _, _, _, _, _, _, _, _, _, rfl, Below.refl _ _, HO.out.symm⟩
 ·rw [if_neg c0] at hO
  have i0 : ¬ (8192 : Int) < (s.size : Int) := by omega
  have h1 := countOf_l s 1 1 (by simp) (by omega)
  have z1 := cnt_size 1 s
  generalize cnt 1 s.toList = n1 at *
  have ln := toL_len s
  obtain ⟨i34, hi, hz0, hz1, hz2⟩ := info_parts info45
  go_enter Tryz.func16, Tryz.ntmps16
  go_wp2_with fail
  refine wp_scope_jumps (rest := fx_restOf Tryz.f16) 0 (ScJ w O) (fun _ _ => 0) (by kernel_rfl) ?_ (fun a w' hJ => by rw [scRest_eq]; exact wp_seq (wp_skip (sc_pass w O _ (fun E A w' h L => HE.out E A w' h L) a w' hJ)))
  go_wp2_with (go_at_call 30; refine (h1 _).mono ?_; rintro e w1 ⟨rfl, b1⟩)
  go_loopw [5, 6] (fun v p wr => ∃ (a : Nat) (t : List (Nat × Nat × Nat)), p = .int .i64 a ∧ a ≤ s.size ∧ t.length ≤ 2048 ∧ wr.ownsRow w.heap.size 45 3 v t.length (tcells s t) ∧ Below w.heap.size w wr ∧ Hid (andThen t (scanAt (s.toList.drop a) a t.length) = O)) (fun _ p _ => s.size - (intOf p).toNat)
  case atStart =>
   refine ⟨n1, [], rfl, z1, by simp, World.ownsRow_nil _ _ _ _, b1, ?_⟩
   rw [← hO]
   show andThen [] (scanAt _ _ 0) = _
   cases scanAt (s.toList.drop n1) n1 0 <;> simp [andThen]
  case round =>
   obtain ⟨a, t, rfl, ha, ht, hown, L, HO⟩ := hrel
   clear hO h1
   have la : (a : Int) ≤ (s.size : Int) := by omega
   by_cases c : a < s.size
   ·have ca : (a : Int) < (s.size : Int) := by omega
    have zx : (s.extract a s.size).size ≤ 9223372036854775807 := by rw [← toL_len, toL_cut]; simp; rw [toL_len]; omega
    have hl := longest_any (s.extract a s.size) zx
    rw [toL_cut, List.take_of_length_le (by omega)] at hl
    have tle := tok_le (s.toList.drop a)
    rw [List.length_drop, ln] at tle
    have nz : (s.toList.drop a).length ≠ 0 := by rw [List.length_drop]; omega
    by_cases k0 : (tok (s.toList.drop a)).1 = 0
    ·have eO := scanAt_bad (s.toList.drop a) a t.length nz k0
     have HO2 : Hid (O = .error (3, a)) := by rw [← HO.out, eO]; rfl
     rw [k0] at hl
     clear HO eO tle nz k0 zx c ht
     generalize (tok (s.toList.drop a)).2 = len at *
     go_wp2_with (go_at_call 31; refine (hl _).mono ?_; rintro e w2 ⟨rfl, b2⟩)
     go_step3
     exact ⟨rfl, 3, a, _, _, _, _, _, _, _, _, _, _, _, _, _, _, _, _, _, _, _, _, _, _, _, _, _, _, _, _, _, _, _, _, _, _, _, _, _, _, _, _, _, _, _, _, _, _, _, _, _, _, _, _, _, rfl, fx_below_call L b2, HO2.out⟩
    ·by_cases full : t.length = 2048
     ·have eO := scanAt_full (s.toList.drop a) a nz k0
      have HO2 : Hid (O = .error (5, a)) := by rw [← HO.out, full, eO]; rfl
      have K0 : (((tok (s.toList.drop a)).1 : Int) == 0) = false := by rw [beq_eq_false_iff_ne]; omega
      clear HO eO tle nz zx c ht
      generalize (tok (s.toList.drop a)).1 = k at *
      generalize (tok (s.toList.drop a)).2 = len at *
      rw [full] at hown
      obtain ⟨o, cap, rfl⟩ := own_shape hown
      clear k0 full hown
      go_wp2_with (go_at_call 31; refine (hl _).mono ?_; rintro e w2 ⟨rfl, b2⟩)
      go_step3
      exact ⟨rfl, 5, a, _, _, _, _, _, _, _, _, _, _, _, _, _, _, _, _, _, _, _, _, _, _, _, _, _, _, _, _, _, _, _, _, _, _, _, _, _, _, _, _, _, _, _, _, _, _, _, _, _, _, _, _, _, rfl, fx_below_call L b2, HO2.out⟩
     ·have K0 : (((tok (s.toList.drop a)).1 : Int) == 0) = false := by rw [beq_eq_false_iff_ne]; omega
      have F0 : ((t.length : Int) == 2048) = false := by rw [beq_eq_false_iff_ne]; omega
      have eO := scanAt_step (s.toList.drop a) a t.length t nz k0 full
      rw [HO.out] at eO
      simp only [List.drop_drop] at eO
      have tl : Hid (t.length < 2048) := by show t.length < 2048; omega
      have tp := tok_pos k0
      have zy : (s.extract (a + (tok (s.toList.drop a)).2) s.size).size ≤ 9223372036854775807 := by rw [← toL_len, toL_cut]; simp; rw [toL_len]; omega
      have h5 := countOf_l (s.extract (a + (tok (s.toList.drop a)).2) s.size) 1 1 (by simp) zy
      rw [toL_cut, List.take_of_length_le (by omega)] at h5
      have z5 := cnt_le 1 (s.toList.drop (a + (tok (s.toList.drop a)).2))
      rw [List.length_drop, ln] at z5
      have HO2 : Hid _ := eO
      clear HO eO nz zx zy full
      generalize (tok (s.toList.drop a)).1 = k at *
      generalize (tok (s.toList.drop a)).2 = len at *
      generalize cnt 1 (s.toList.drop (a + len)) = q at *
      have i1 : (a : Int) + (len : Int) ≤ (s.size : Int) := by omega
      have i2 : (a : Int) ≤ (a : Int) + (len : Int) := by omega
      have i3 : (a : Int) + (len : Int) + (q : Int) ≤ (s.size : Int) := by omega
      have i4 : (a : Int) + (len : Int) + (q : Int) < 9223372036854775808 := by omega
      have i5 : (a : Int) + (len : Int) < 9223372036854775808 := by omega
      have l1 : t.length + 1 ≤ maxLen := by unfold maxLen; omega
      have l2 : (t.length + 1) * 32 ≤ 140737488355328 := by omega
      obtain ⟨o, cap, rfl⟩ := own_shape hown
      clear k0
      go_wp2_with (first
       | (go_at_call 31; refine (hl _).mono ?_; rintro e w2 ⟨rfl, b2⟩; have hown2 := own_on b2 hown; have l3 : w.heap.size ≤ w2.heap.size + 1 := by (have := (fx_below_call L b2).size; omega))
       | (at_builtin; refine wpList_append_own _ rfl _ _ 40 rfl w.heap.size 45 i34 (.agg #[.int .i64 0, .string ⟨#[]⟩, .int .i64 0]) 3 32 Tryz.underlying40 hi hz0 hz1 hz2 rfl (by decide) _ _ _ rfl (hown2.alloc _) ⟨w2.heap.size, 0, none⟩ 1 1 [.int .i64 (k : Int), .string (s.extract a (a + len)), .int .i64 (a : Int)] rfl rfl (lex_cell _ _ _ _ _) (lex_one _ _ _) l1 l2 (by rw [World.size_alloc]; exact l3) ?_; intro v' w3 hown' hgrow hnil; clear hnil)
       | (go_at_call 30; refine (h5 _).mono ?_; rintro e w4 ⟨rfl, b4⟩)
       | go_in)
      go_roundw
      case rel =>
       have L3 : Below w.heap.size w w3 := (fx_below_new (fx_below_call L b2) _).grown hgrow (by rw [World.size_alloc]; exact l3) (fx_own_block hown2)
       refine ⟨a + len + q, t ++ [(k, a, len)], by go_num, by omega, by have := tl.out; simp; omega, ?_, fx_below_call L3 b4, ?_⟩
       ·rw [List.length_append, tcells_app]
        exact own_on b4 hown'
       ·rw [List.length_append]
        exact HO2.out.symm
      case measure => simp [intOf]; omega
   ·obtain rfl : a = s.size := by omega
    have eO := scanAt_end (s.toList.drop s.size) s.size t.length (by simp [ln])
    have HO2 : Hid (O = .ok t) := by rw [← HO.out, eO]; show Except.ok (t ++ []) = _; rw [List.append_nil]
    clear HO eO c
    go_wp2_with fail
    refine fx_jump_ret (bodyPost_ret (v := .tuple #[u5, .int .i64 0, .int .i64 0]) (by simp [results, Tryz.results16, go_sem]) rfl ?_)
    exact HK.out t u5 _ HO2.out hown L
end Go.Proofs.YtknoibocpbfmmaaGreatDoor


namespace Go.Proofs.YtknoibocpbfmmaaGreatDoor
open Go.RowKit
set_option linter.unusedVariables false
set_option linter.unusedSimpArgs false
theorem scan_ok (s : ByteArray) (t : List (Nat × Nat × Nat)) (h : scanL s.toList = .ok t) (w : World) :
  Calls Tryz.prog 16 #[.string s] w fun e w' => ∃ v, e = .returned (.tuple #[v, .int .i64 0, .int .i64 0]) ∧ w'.ownsRow w.heap.size 45 3 v t.length (tcells s t) ∧ Below w.heap.size w w' := by
 refine scan_Q s w _ (fun t' v w' h' o L => ?_) (fun E A w' h' L => ?_)
 ·obtain rfl : t = t' := by rw [h] at h'; exact Except.ok.inj h'
  exact ⟨v, rfl, o, L⟩
 ·rw [h] at h'; cases h'
theorem scan_err (s : ByteArray) (E A : Nat) (h : scanL s.toList = .error (E, A)) (w : World) :
  Calls Tryz.prog 16 #[.string s] w fun e w' => e = .returned (.tuple #[.slice none 0 0, .int .i64 E, .int .i64 A]) ∧ Below w.heap.size w w' := by
 refine scan_Q s w _ (fun t' v w' h' o L => ?_) (fun E' A' w' h' L => ?_)
 ·rw [h] at h'; cases h'
 ·rw [h] at h'
  obtain ⟨rfl, rfl⟩ := Prod.mk.inj (Except.error.inj h')
  exact ⟨rfl, L⟩
/-- The cells of what a slice owns. -/
theorem own_cells {w : World} {base n size : Nat} {e : TypeId} {v : Value} {xs : List Value} (h : w.ownsRow base e size v n xs) (hn : n ≠ 0) :
  ∃ g cap : Nat, v = .slice (some ⟨g, 0, none⟩) n cap ∧ g < w.heap.size ∧ n ≤ cap ∧ base ≤ g ∧ ∀ j x, xs[j]? = some x → w.cell? ⟨g, j, none⟩ = some x := by
 obtain ⟨h1, ⟨_, h2⟩ | ⟨g, cap, cur, rfl, h3, h4, h5, h6, h7, h8⟩⟩ := h
 ·exact absurd h2 hn
 ·refine ⟨g, cap, rfl, (Array.getElem?_eq_some_iff.mp h4).1, h5, h3, fun j x hx => ?_⟩
  rw [cell_of_row w g j cur e (0, 0) h4, ← Array.getElem?_toList]
  rw [← h8, List.getElem?_take] at hx
  split at hx
  ·exact hx
  ·cases hx
end Go.Proofs.YtknoibocpbfmmaaGreatDoor



namespace Go.Proofs.YtknoibocpbfmmaaGreatDoor
open Go.RowKit
set_option linter.unusedVariables false
set_option linter.unusedSimpArgs false
/-- Tokens from a place on, one behind the other, none empty, none past N. -/
def rise (N : Nat) : Nat → List (Nat × Nat × Nat) → Prop
 | _, [] => True
 | a, (_, p, n) :: t => a ≤ p ∧ 1 ≤ n ∧ p + n ≤ N ∧ rise N (p + n) t
theorem fxp_scanAt_err (m : Nat) : ∀ l a n E A, l.length ≤ m → scanAt l a n = .error (E, A) → E = 3 ∨ E = 5 := by
 induction m with
 | zero =>
  intro l a n E A hl h
  rw [scanAt_end l a n (by omega)] at h
  cases h
 | succ m ih =>
  intro l a n E A hl h
  by_cases h0 : l.length = 0
  ·rw [scanAt_end l a n h0] at h
   cases h
  ·by_cases hk : (tok l).1 = 0
   ·rw [scanAt_bad l a n h0 hk] at h; cases h; exact Or.inl rfl
   ·by_cases hn : n = 2048
    ·subst hn; rw [scanAt_full l a h0 hk] at h; cases h; exact Or.inr rfl
    ·rw [scanAt, if_neg h0, dif_neg hk, if_neg hn] at h
     have tp := tok_pos hk
     split at h
     ·cases h
     ·rename_i e hr
      cases h
      exact ih _ _ _ _ _ (by simp only [List.length_drop]; omega) hr
theorem fxp_scanL_err {l : List UInt8} {E A : Nat} (h : scanL l = .error (E, A)) : E = 3 ∨ E = 5 := by
 unfold scanL at h
 split at h
 ·cases h; exact Or.inr rfl
 ·exact fxp_scanAt_err _ _ _ _ _ _ (Nat.le_refl _) h
end Go.Proofs.YtknoibocpbfmmaaGreatDoor



namespace Go.Proofs.YtknoibocpbfmmaaGreatDoor
open Go.RowKit
set_option linter.unusedVariables false
set_option linter.unusedSimpArgs false
theorem cnt_head (m : Nat) (b : UInt8) (t u : List UInt8) : (0 < cnt m (b :: t)) ↔ (0 < cnt m (b :: u)) := by
 simp only [cnt]; split <;> simp
/-- The texts of tokens, in order: between each two bl, behind the last one tr. -/
def jt (bl tr : List UInt8) : List (Nat × List UInt8) → List UInt8
 | [] => []
 | (_, T) :: r => T ++ (if r.isEmpty then tr else bl ++ jt bl tr r)
/-- Where they stand. -/
def pl (b : Nat) : List (Nat × List UInt8) → Nat → List (Nat × Nat × Nat)
 | [], _ => []
 | (k, T) :: r, a => (k, a, T.length) :: pl b r (a + T.length + b)
end Go.Proofs.YtknoibocpbfmmaaGreatDoor



