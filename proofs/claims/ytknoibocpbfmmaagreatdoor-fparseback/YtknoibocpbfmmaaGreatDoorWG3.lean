/- Texts of the proof, put together. -/
import Derived.Test.YtknoibocpbfmmaaGreatDoorRows
import Derived.WalkKit
import Derived.WalkSpells
import Derived.StillTactics
import Derived.Laws.Pointers
import Derived.Laws.Externs
import Derived.Deep.RegionHeld3
import Derived.Below
import Derived.RowKit
import Derived.Laws.IdiomStrings
import Derived.Laws.RangeAny
import Derived.ArgAppend
namespace Go.Proofs.YtknoibocpbfmmaaGreatDoor
open Go.RowKit
set_option linter.unusedVariables false
set_option linter.unusedSimpArgs false
theorem fx_below_new {w W : World} (h : Below w.heap.size w W) (o : Obj) : Below w.heap.size w (W.alloc o) := h.alloc h.size o
theorem fx_below_call {w W w1 : World} (h : Below w.heap.size w W) (hb : Below W.heap.size W w1) : Below w.heap.size w w1 := h.trans (hb.mono h.size)
/-- A sign's kind: blank, letter, digit, under, another. -/
def kb (n : Nat) : Nat :=
 if n = 9 ∨ n = 10 ∨ n = 13 ∨ n = 32 then 1 else if (97 ≤ n ∧ n ≤ 122) ∨ (65 ≤ n ∧ n ≤ 90) then 2 else if 48 ≤ n ∧ n ≤ 57 then 4 else if n = 95 then 8 else 16
theorem kb_five (n : Nat) : kb n = 1 ∨ kb n = 2 ∨ kb n = 4 ∨ kb n = 8 ∨ kb n = 16 := by
 unfold kb; (repeat' split) <;> simp
theorem kb_high {n : Nat} (h : 128 ≤ n) : kb n = 16 := by
 unfold kb; (repeat' split) <;> omega
set_option maxRecDepth 100000 in
set_option maxHeartbeats 1600000 in
theorem kindOf_any (n : Nat) (h : n ≤ 2147483647) (w : World) : Calls Tryz.prog 52 #[.int .i32 n] w fun e w' => e = .returned (.int .i64 (kb n : Nat)) ∧ w' = w := by
 have cs : n = 9 ∨ n = 10 ∨ n = 13 ∨ n = 32 ∨ n = 95 ∨ (0 ≤ (n : Int) ∧ (n : Int) ≤ 8) ∨ (11 ≤ (n : Int) ∧ (n : Int) ≤ 12) ∨ (14 ≤ (n : Int) ∧ (n : Int) ≤ 31) ∨ (33 ≤ (n : Int) ∧ (n : Int) ≤ 47) ∨ (48 ≤ (n : Int) ∧ (n : Int) ≤ 57) ∨ (58 ≤ (n : Int) ∧ (n : Int) ≤ 64) ∨ (65 ≤ (n : Int) ∧ (n : Int) ≤ 90) ∨ (91 ≤ (n : Int) ∧ (n : Int) ≤ 94) ∨ (96 ≤ (n : Int) ∧ (n : Int) ≤ 96) ∨ (97 ≤ (n : Int) ∧ (n : Int) ≤ 122) ∨ (123 ≤ (n : Int) ∧ (n : Int) ≤ 2147483647) := by omega
 rcases cs with rfl | rfl | rfl | rfl | rfl | ⟨c1, c2⟩ | ⟨c1, c2⟩ | ⟨c1, c2⟩ | ⟨c1, c2⟩ | ⟨c1, c2⟩ | ⟨c1, c2⟩ | ⟨c1, c2⟩ | ⟨c1, c2⟩ | ⟨c1, c2⟩ | ⟨c1, c2⟩ | ⟨c1, c2⟩
 ·go_enter Tryz.func52, Tryz.ntmps52
  go_wp2_with fail
  go_ret
  exact ⟨rfl, rfl⟩
 ·go_enter Tryz.func52, Tryz.ntmps52
  go_wp2_with fail
  go_ret
  exact ⟨rfl, rfl⟩
 ·go_enter Tryz.func52, Tryz.ntmps52
  go_wp2_with fail
  go_ret
  exact ⟨rfl, rfl⟩
 ·go_enter Tryz.func52, Tryz.ntmps52
  go_wp2_with fail
  go_ret
  exact ⟨rfl, rfl⟩
 ·go_enter Tryz.func52, Tryz.ntmps52
  go_wp2_with fail
  go_ret
  exact ⟨rfl, rfl⟩
 ·rw [show kb n = 16 from (by unfold kb; (repeat' split) <;> omega)]
  have q9 : ((n : Int) == 9) = false := by rw [beq_eq_false_iff_ne]; omega
  have q10 : ((n : Int) == 10) = false := by rw [beq_eq_false_iff_ne]; omega
  have q13 : ((n : Int) == 13) = false := by rw [beq_eq_false_iff_ne]; omega
  have q32 : ((n : Int) == 32) = false := by rw [beq_eq_false_iff_ne]; omega
  have q95 : ((n : Int) == 95) = false := by rw [beq_eq_false_iff_ne]; omega
  clear h
  go_enter Tryz.func52, Tryz.ntmps52
  go_wp2_with fail
  go_ret
  exact ⟨rfl, rfl⟩
 ·rw [show kb n = 16 from (by unfold kb; (repeat' split) <;> omega)]
  have q9 : ((n : Int) == 9) = false := by rw [beq_eq_false_iff_ne]; omega
  have q10 : ((n : Int) == 10) = false := by rw [beq_eq_false_iff_ne]; omega
  have q13 : ((n : Int) == 13) = false := by rw [beq_eq_false_iff_ne]; omega
  have q32 : ((n : Int) == 32) = false := by rw [beq_eq_false_iff_ne]; omega
  have q95 : ((n : Int) == 95) = false := by rw [beq_eq_false_iff_ne]; omega
  clear h
  go_enter Tryz.func52, Tryz.ntmps52
  go_wp2_with fail
  go_ret
  exact ⟨rfl, rfl⟩
 ·rw [show kb n = 16 from (by unfold kb; (repeat' split) <;> omega)]
  have q9 : ((n : Int) == 9) = false := by rw [beq_eq_false_iff_ne]; omega
  have q10 : ((n : Int) == 10) = false := by rw [beq_eq_false_iff_ne]; omega
  have q13 : ((n : Int) == 13) = false := by rw [beq_eq_false_iff_ne]; omega
  have q32 : ((n : Int) == 32) = false := by rw [beq_eq_false_iff_ne]; omega
  have q95 : ((n : Int) == 95) = false := by rw [beq_eq_false_iff_ne]; omega
  clear h
  go_enter Tryz.func52, Tryz.ntmps52
  go_wp2_with fail
  go_ret
  exact ⟨rfl, rfl⟩
 ·rw [show kb n = 16 from (by unfold kb; (repeat' split) <;> omega)]
  have q9 : ((n : Int) == 9) = false := by rw [beq_eq_false_iff_ne]; omega
  have q10 : ((n : Int) == 10) = false := by rw [beq_eq_false_iff_ne]; omega
  have q13 : ((n : Int) == 13) = false := by rw [beq_eq_false_iff_ne]; omega
  have q32 : ((n : Int) == 32) = false := by rw [beq_eq_false_iff_ne]; omega
  have q95 : ((n : Int) == 95) = false := by rw [beq_eq_false_iff_ne]; omega
  clear h
  go_enter Tryz.func52, Tryz.ntmps52
  go_wp2_with fail
  go_ret
  exact ⟨rfl, rfl⟩
 ·rw [show kb n = 4 from (by unfold kb; (repeat' split) <;> omega)]
  have q9 : ((n : Int) == 9) = false := by rw [beq_eq_false_iff_ne]; omega
  have q10 : ((n : Int) == 10) = false := by rw [beq_eq_false_iff_ne]; omega
  have q13 : ((n : Int) == 13) = false := by rw [beq_eq_false_iff_ne]; omega
  have q32 : ((n : Int) == 32) = false := by rw [beq_eq_false_iff_ne]; omega
  have q95 : ((n : Int) == 95) = false := by rw [beq_eq_false_iff_ne]; omega
  clear h
  go_enter Tryz.func52, Tryz.ntmps52
  go_wp2_with fail
  go_ret
  exact ⟨rfl, rfl⟩
 ·rw [show kb n = 16 from (by unfold kb; (repeat' split) <;> omega)]
  have q9 : ((n : Int) == 9) = false := by rw [beq_eq_false_iff_ne]; omega
  have q10 : ((n : Int) == 10) = false := by rw [beq_eq_false_iff_ne]; omega
  have q13 : ((n : Int) == 13) = false := by rw [beq_eq_false_iff_ne]; omega
  have q32 : ((n : Int) == 32) = false := by rw [beq_eq_false_iff_ne]; omega
  have q95 : ((n : Int) == 95) = false := by rw [beq_eq_false_iff_ne]; omega
  clear h
  go_enter Tryz.func52, Tryz.ntmps52
  go_wp2_with fail
  go_ret
  exact ⟨rfl, rfl⟩
 ·rw [show kb n = 2 from (by unfold kb; (repeat' split) <;> omega)]
  have q9 : ((n : Int) == 9) = false := by rw [beq_eq_false_iff_ne]; omega
  have q10 : ((n : Int) == 10) = false := by rw [beq_eq_false_iff_ne]; omega
  have q13 : ((n : Int) == 13) = false := by rw [beq_eq_false_iff_ne]; omega
  have q32 : ((n : Int) == 32) = false := by rw [beq_eq_false_iff_ne]; omega
  have q95 : ((n : Int) == 95) = false := by rw [beq_eq_false_iff_ne]; omega
  clear h
  go_enter Tryz.func52, Tryz.ntmps52
  go_wp2_with fail
  go_ret
  exact ⟨rfl, rfl⟩
 ·rw [show kb n = 16 from (by unfold kb; (repeat' split) <;> omega)]
  have q9 : ((n : Int) == 9) = false := by rw [beq_eq_false_iff_ne]; omega
  have q10 : ((n : Int) == 10) = false := by rw [beq_eq_false_iff_ne]; omega
  have q13 : ((n : Int) == 13) = false := by rw [beq_eq_false_iff_ne]; omega
  have q32 : ((n : Int) == 32) = false := by rw [beq_eq_false_iff_ne]; omega
  have q95 : ((n : Int) == 95) = false := by rw [beq_eq_false_iff_ne]; omega
  clear h
  go_enter Tryz.func52, Tryz.ntmps52
  go_wp2_with fail
  go_ret
  exact ⟨rfl, rfl⟩
 ·rw [show kb n = 16 from (by unfold kb; (repeat' split) <;> omega)]
  have q9 : ((n : Int) == 9) = false := by rw [beq_eq_false_iff_ne]; omega
  have q10 : ((n : Int) == 10) = false := by rw [beq_eq_false_iff_ne]; omega
  have q13 : ((n : Int) == 13) = false := by rw [beq_eq_false_iff_ne]; omega
  have q32 : ((n : Int) == 32) = false := by rw [beq_eq_false_iff_ne]; omega
  have q95 : ((n : Int) == 95) = false := by rw [beq_eq_false_iff_ne]; omega
  clear h
  go_enter Tryz.func52, Tryz.ntmps52
  go_wp2_with fail
  go_ret
  exact ⟨rfl, rfl⟩
 ·rw [show kb n = 2 from (by unfold kb; (repeat' split) <;> omega)]
  have q9 : ((n : Int) == 9) = false := by rw [beq_eq_false_iff_ne]; omega
  have q10 : ((n : Int) == 10) = false := by rw [beq_eq_false_iff_ne]; omega
  have q13 : ((n : Int) == 13) = false := by rw [beq_eq_false_iff_ne]; omega
  have q32 : ((n : Int) == 32) = false := by rw [beq_eq_false_iff_ne]; omega
  have q95 : ((n : Int) == 95) = false := by rw [beq_eq_false_iff_ne]; omega
  clear h
  go_enter Tryz.func52, Tryz.ntmps52
  go_wp2_with fail
  go_ret
  exact ⟨rfl, rfl⟩
 ·rw [show kb n = 16 from (by unfold kb; (repeat' split) <;> omega)]
  have q9 : ((n : Int) == 9) = false := by rw [beq_eq_false_iff_ne]; omega
  have q10 : ((n : Int) == 10) = false := by rw [beq_eq_false_iff_ne]; omega
  have q13 : ((n : Int) == 13) = false := by rw [beq_eq_false_iff_ne]; omega
  have q32 : ((n : Int) == 32) = false := by rw [beq_eq_false_iff_ne]; omega
  have q95 : ((n : Int) == 95) = false := by rw [beq_eq_false_iff_ne]; omega
  clear h
  go_enter Tryz.func52, Tryz.ntmps52
  go_wp2_with fail
  go_ret
  exact ⟨rfl, rfl⟩
/-- How many signs of the kinds m a list begins with. -/
def cnt (m : Nat) : List UInt8 → Nat
 | [] => 0
 | b :: t => if kb b.toNat &&& m = 0 then 0 else cnt m t + 1
theorem cnt_le (m : Nat) : ∀ l, cnt m l ≤ l.length
 | [] => Nat.le_refl _
 | b :: t => by
  have := cnt_le m t
  simp only [cnt]
  split <;> simp <;> omega
theorem cnt_in (m : Nat) : ∀ l j (h : j < l.length), j < cnt m l → ¬ (kb (l[j]'h).toNat &&& m = 0)
 | [], j, h, _ => by simp at h
 | b :: t, j, h, hj => by
  simp only [cnt] at hj
  split at hj
  ·omega
  ·cases j with
   | zero => assumption
   | succ j => exact cnt_in m t j (by simpa using h) (by omega)
theorem cnt_out (m : Nat) : ∀ l (h : cnt m l < l.length), kb (l[cnt m l]'h).toNat &&& m = 0
 | [], h => by simp at h
 | b :: t, h => by
  by_cases c : kb b.toNat &&& m = 0
  ·have e : cnt m (b :: t) = 0 := by simp only [cnt, if_pos c]
   simp only [e, List.getElem_cons_zero]
   exact c
  ·have e : cnt m (b :: t) = cnt m t + 1 := by simp only [cnt, if_neg c]
   simp only [e, List.getElem_cons_succ]
   exact cnt_out m t (by rw [e] at h; simpa using h)
set_option maxRecDepth 100000 in
set_option maxHeartbeats 3200000 in
theorem countOf_p (s : ByteArray) (m p : Nat) (mi : Int) (hm : m = 1 ∧ mi = 1 ∨ m = 2 ∧ mi = 2 ∨ m = 4 ∧ mi = 4 ∨ m = 14 ∧ mi = 14) (hp : p ≤ s.size) (hs : s.size ≤ 9223372036854775807)
    (hd : ∀ j (h : j < s.size), j < p → ¬ (kb s[j].toNat &&& m = 0)) (he : ∀ h : p < s.size, kb s[p].toNat &&& m = 0) (w : World) :
    Calls Tryz.prog 30 #[.string s, .int .i64 mi] w fun e w' => e = .returned (.int .i64 p) ∧ Below w.heap.size w w' := by
  have hk := kindOf_any
  rcases hm with ⟨rfl, rfl⟩ | ⟨rfl, rfl⟩ | ⟨rfl, rfl⟩ | ⟨rfl, rfl⟩
  all_goals
    go_enter Tryz.func30, Tryz.ntmps30
    go_wp2_with fail
    go_loopw [4] (fun i wr => ∃ q, q ≤ p ∧ wr = w.iter s q) (fun _ wr => s.size + 1 - World.iterPos wr w.heap.size)
    case atStart => exact ⟨0, by omega, rfl⟩
    case round =>
      obtain ⟨q, hq, rfl⟩ := hrel
      have qs : q < 9223372036854775808 := by omega
      by_cases l : q < s.size
      · have li : (q : Int) < (s.size : Int) := by omega
        have hn := fun ty => run_next_any (P := Tryz.prog) w s q ty l
        have hr : ∃ b d : Nat, Utf8.decode s q = (b, d) ∧ b ≤ 2147483647 ∧ kb b = kb (s[q]'l).toNat ∧ (q < p → d = 1) := by
          by_cases c : (s[q]'l).toNat < 128
          · exact ⟨_, _, decode_ascii s q l c, by omega, rfl, fun _ => rfl⟩
          · have t := decode_high s q l (by omega)
            refine ⟨_, _, rfl, decode_le s q, (kb_high t.1).trans (kb_high (by omega)).symm, fun h => ?_⟩
            have := hd q l h
            rw [kb_high (by omega)] at this
            exact absurd (by decide) this
        obtain ⟨b, d, hbd, hb2, hbk, hd1⟩ := hr
        simp only [hbd] at hn
        have hkc := hk b hb2
        rw [hbk] at hkc
        by_cases c : q < p
        · have h5 := hd q l c
          obtain rfl := hd1 c
          clear hd he hbd hbk hb2 hk hd1
          rcases kb_five (s[q]'l).toNat with k | k | k | k | k
          all_goals (rw [k] at h5 hkc; clear k)
          all_goals first
            | (exfalso; exact h5 (by decide))
            | (clear h5
               go_wp2_with (go_at_call 52; refine (hkc _).mono ?_; rintro e w1 ⟨rfl, rfl⟩)
               go_roundw
               case rel => exact ⟨q + 1, by omega, rfl⟩
               case measure => simp only [World.iterPos_iter]; omega)
        · have qp : q = p := by omega
          subst qp
          have h5 := he l
          clear hd he hbd hbk hb2 hk hd1 c
          rcases kb_five (s[q]'l).toNat with k | k | k | k | k
          all_goals (rw [k] at h5 hkc; clear k)
          all_goals first
            | (exfalso; exact absurd h5 (by decide))
            | (clear h5
               go_wp2_with (go_at_call 52; refine (hkc _).mono ?_; rintro e w1 ⟨rfl, rfl⟩)
               go_ret
               exact ⟨rfl, (Below.refl _ _).alloc (Nat.le_refl _) _⟩)
      · have hn : ∀ ty, (Instr.next (.pointer (some ⟨w.heap.size, 0, none⟩)) true ty).run Tryz.prog (w.iter s q) = .ok (.tuple #[.bool false]) (w.iter s q) := fun ty => run_next_end w s q ty l
        have sq : s.size = p := by omega
        clear hd he hk
        go_wp2_with fail
        go_ret
        exact ⟨rfl, (Below.refl _ _).alloc (Nat.le_refl _) _⟩
theorem countOf_any (s : ByteArray) (m : Nat) (mi : Int) (hm : m = 1 ∧ mi = 1 ∨ m = 2 ∧ mi = 2 ∨ m = 4 ∧ mi = 4 ∨ m = 14 ∧ mi = 14) (hs : s.size ≤ 9223372036854775807) (w : World) :
  Calls Tryz.prog 30 #[.string s, .int .i64 mi] w fun e w' => e = .returned (.int .i64 (cnt m s.data.toList : Nat)) ∧ Below w.heap.size w w' :=
 countOf_p s m _ mi hm (cnt_le m _) hs (fun j h hj => cnt_in m s.data.toList j h hj) (fun h => cnt_out m s.data.toList h) w
end Go.Proofs.YtknoibocpbfmmaaGreatDoor


namespace Go.Proofs.YtknoibocpbfmmaaGreatDoor
open Go.RowKit
set_option linter.unusedVariables false
set_option linter.unusedSimpArgs false
theorem toL (s : ByteArray) : s.toList = s.data.toList := by
 obtain ⟨d⟩ := s
 conv => lhs; rw [show d = d.toList.toArray by simp]
 rw [ByteArray.toList_mk]
theorem toL_len (s : ByteArray) : s.toList.length = s.size := by rw [toL]; rfl
theorem toL_cut (s : ByteArray) (a b : Nat) : (s.extract a b).toList = (s.toList.take b).drop a := by
 rw [toL, toL, List.drop_take]; simp [ByteArray.extract, ByteArray.copySlice]
/-- Is a list of bytes a word of the language? -/
def isW (l : List UInt8) : Bool := l == [105, 110, 116] || (l == [102, 108, 111, 97, 116] || (l == [100, 111, 117, 98, 108, 101] || (l == [105, 102] || (l == [101, 108, 115, 101] || (l == [119, 104, 105, 108, 101] || (l == [114, 101, 97, 100] || (l == [105, 110] || (l == [115, 113, 114, 116] || (l == [97, 98, 115])))))))))
set_option maxRecDepth 100000 in
set_option maxHeartbeats 1600000 in
theorem isWord_any (s : ByteArray) (w : World) : Calls Tryz.prog 71 #[.string s] w fun e w' => e = .returned (.bool (isW s.toList)) ∧ w' = w := by
 unfold isW
 cases h0 : (s.toList == [105, 110, 116])
 rotate_left
 ·simp only [h0, Bool.or_true, Bool.false_or, Bool.true_or]
  go_enter Tryz.func71, Tryz.ntmps71
  go_wp2_with fail
  go_ret
  exact ⟨rfl, rfl⟩
 cases h1 : (s.toList == [102, 108, 111, 97, 116])
 rotate_left
 ·simp only [h0, h1, Bool.or_true, Bool.false_or, Bool.true_or]
  go_enter Tryz.func71, Tryz.ntmps71
  go_wp2_with fail
  go_ret
  exact ⟨rfl, rfl⟩
 cases h2 : (s.toList == [100, 111, 117, 98, 108, 101])
 rotate_left
 ·simp only [h0, h1, h2, Bool.or_true, Bool.false_or, Bool.true_or]
  go_enter Tryz.func71, Tryz.ntmps71
  go_wp2_with fail
  go_ret
  exact ⟨rfl, rfl⟩
 cases h3 : (s.toList == [105, 102])
 rotate_left
 ·simp only [h0, h1, h2, h3, Bool.or_true, Bool.false_or, Bool.true_or]
  go_enter Tryz.func71, Tryz.ntmps71
  go_wp2_with fail
  go_ret
  exact ⟨rfl, rfl⟩
 cases h4 : (s.toList == [101, 108, 115, 101])
 rotate_left
 ·simp only [h0, h1, h2, h3, h4, Bool.or_true, Bool.false_or, Bool.true_or]
  go_enter Tryz.func71, Tryz.ntmps71
  go_wp2_with fail
  go_ret
  exact ⟨rfl, rfl⟩
 cases h5 : (s.toList == [119, 104, 105, 108, 101])
 rotate_left
 ·simp only [h0, h1, h2, h3, h4, h5, Bool.or_true, Bool.false_or, Bool.true_or]
  go_enter Tryz.func71, Tryz.ntmps71
  go_wp2_with fail
  go_ret
  exact ⟨rfl, rfl⟩
 cases h6 : (s.toList == [114, 101, 97, 100])
 rotate_left
 ·simp only [h0, h1, h2, h3, h4, h5, h6, Bool.or_true, Bool.false_or, Bool.true_or]
  go_enter Tryz.func71, Tryz.ntmps71
  go_wp2_with fail
  go_ret
  exact ⟨rfl, rfl⟩
 cases h7 : (s.toList == [105, 110])
 rotate_left
 ·simp only [h0, h1, h2, h3, h4, h5, h6, h7, Bool.or_true, Bool.false_or, Bool.true_or]
  go_enter Tryz.func71, Tryz.ntmps71
  go_wp2_with fail
  go_ret
  exact ⟨rfl, rfl⟩
 cases h8 : (s.toList == [115, 113, 114, 116])
 rotate_left
 ·simp only [h0, h1, h2, h3, h4, h5, h6, h7, h8, Bool.or_true, Bool.false_or, Bool.true_or]
  go_enter Tryz.func71, Tryz.ntmps71
  go_wp2_with fail
  go_ret
  exact ⟨rfl, rfl⟩
 cases h9 : (s.toList == [97, 98, 115])
 rotate_left
 ·simp only [h0, h1, h2, h3, h4, h5, h6, h7, h8, h9, Bool.or_true, Bool.false_or, Bool.true_or]
  go_enter Tryz.func71, Tryz.ntmps71
  go_wp2_with fail
  go_ret
  exact ⟨rfl, rfl⟩
 go_enter Tryz.func71, Tryz.ntmps71
 go_wp2_with fail
 go_ret
 exact ⟨rfl, rfl⟩
/-- Signs of two bytes, and of one. -/
def isS2 (l : List UInt8) : Bool := l == [61, 61] || (l == [33, 61] || (l == [60, 61] || (l == [62, 61] || (l == [38, 38] || (l == [124, 124])))))
def isS1 (b : Int) : Bool := b == 43 || (b == 45 || (b == 42 || (b == 47 || (b == 40 || (b == 41 || (b == 91 || (b == 93 || (b == 123 || (b == 125 || (b == 59 || (b == 44 || (b == 61 || (b == 60 || (b == 62 || (b == 33)))))))))))))))
/-- How long the sign is that a list begins with. -/
def sgnN (l : List UInt8) : Nat := if 2 ≤ l.length ∧ isS2 (l.take 2) = true then 2 else if 1 ≤ l.length ∧ isS1 (l.headD 0).toNat = true then 1 else 0
theorem toL_head (s : ByteArray) (h : 0 < s.size) : s.toList.headD 0 = s[0] := by
 have h2 : 0 < s.data.toList.length := h
 rw [toL]
 show s.data.toList.headD 0 = s.data.toList[0]
 rw [List.headD_eq_head?_getD, List.head?_eq_getElem?, List.getElem?_eq_getElem h2]; rfl
set_option maxRecDepth 100000 in
set_option maxHeartbeats 3200000 in
theorem signOf_any (s : ByteArray) (w : World) : Calls Tryz.prog 55 #[.string s] w fun e w' => e = .returned (.int .i64 (sgnN s.toList : Nat)) ∧ w' = w := by
 unfold sgnN
 rw [toL_len]
 rcases (show s.size = 0 ∨ s.size = 1 ∨ 2 ≤ s.size by omega) with hs | hs | hs
 ·rw [if_neg (by omega), if_neg (by omega)]
  go_enter Tryz.func55, Tryz.ntmps55
  go_wp2_with fail
  go_ret
  exact ⟨rfl, rfl⟩
 ·have h0 : 0 < s.size := by omega
  have l1 : 1 ≤ s.size := by omega
  rw [if_neg (by omega), toL_head s h0]
  unfold isS1
  cases g0 : (((s[0]'h0).toNat : Int) == 43)
  rotate_left
  ·simp only [g0, Bool.or_true, Bool.false_or, Bool.true_or, if_true, and_true, if_pos l1]
   go_enter Tryz.func55, Tryz.ntmps55
   go_wp2_with fail
   go_ret
   exact ⟨rfl, rfl⟩
  cases g1 : (((s[0]'h0).toNat : Int) == 45)
  rotate_left
  ·simp only [g0, g1, Bool.or_true, Bool.false_or, Bool.true_or, if_true, and_true, if_pos l1]
   go_enter Tryz.func55, Tryz.ntmps55
   go_wp2_with fail
   go_ret
   exact ⟨rfl, rfl⟩
  cases g2 : (((s[0]'h0).toNat : Int) == 42)
  rotate_left
  ·simp only [g0, g1, g2, Bool.or_true, Bool.false_or, Bool.true_or, if_true, and_true, if_pos l1]
   go_enter Tryz.func55, Tryz.ntmps55
   go_wp2_with fail
   go_ret
   exact ⟨rfl, rfl⟩
  cases g3 : (((s[0]'h0).toNat : Int) == 47)
  rotate_left
  ·simp only [g0, g1, g2, g3, Bool.or_true, Bool.false_or, Bool.true_or, if_true, and_true, if_pos l1]
   go_enter Tryz.func55, Tryz.ntmps55
   go_wp2_with fail
   go_ret
   exact ⟨rfl, rfl⟩
  cases g4 : (((s[0]'h0).toNat : Int) == 40)
  rotate_left
  ·simp only [g0, g1, g2, g3, g4, Bool.or_true, Bool.false_or, Bool.true_or, if_true, and_true, if_pos l1]
   go_enter Tryz.func55, Tryz.ntmps55
   go_wp2_with fail
   go_ret
   exact ⟨rfl, rfl⟩
  cases g5 : (((s[0]'h0).toNat : Int) == 41)
  rotate_left
  ·simp only [g0, g1, g2, g3, g4, g5, Bool.or_true, Bool.false_or, Bool.true_or, if_true, and_true, if_pos l1]
   go_enter Tryz.func55, Tryz.ntmps55
   go_wp2_with fail
   go_ret
   exact ⟨rfl, rfl⟩
  cases g6 : (((s[0]'h0).toNat : Int) == 91)
  rotate_left
  ·simp only [g0, g1, g2, g3, g4, g5, g6, Bool.or_true, Bool.false_or, Bool.true_or, if_true, and_true, if_pos l1]
   go_enter Tryz.func55, Tryz.ntmps55
   go_wp2_with fail
   go_ret
   exact ⟨rfl, rfl⟩
  cases g7 : (((s[0]'h0).toNat : Int) == 93)
  rotate_left
  ·simp only [g0, g1, g2, g3, g4, g5, g6, g7, Bool.or_true, Bool.false_or, Bool.true_or, if_true, and_true, if_pos l1]
   go_enter Tryz.func55, Tryz.ntmps55
   go_wp2_with fail
   go_ret
   exact ⟨rfl, rfl⟩
  cases g8 : (((s[0]'h0).toNat : Int) == 123)
  rotate_left
  ·simp only [g0, g1, g2, g3, g4, g5, g6, g7, g8, Bool.or_true, Bool.false_or, Bool.true_or, if_true, and_true, if_pos l1]
   go_enter Tryz.func55, Tryz.ntmps55
   go_wp2_with fail
   go_ret
   exact ⟨rfl, rfl⟩
  cases g9 : (((s[0]'h0).toNat : Int) == 125)
  rotate_left
  ·simp only [g0, g1, g2, g3, g4, g5, g6, g7, g8, g9, Bool.or_true, Bool.false_or, Bool.true_or, if_true, and_true, if_pos l1]
   go_enter Tryz.func55, Tryz.ntmps55
   go_wp2_with fail
   go_ret
   exact ⟨rfl, rfl⟩
  cases g10 : (((s[0]'h0).toNat : Int) == 59)
  rotate_left
  ·simp only [g0, g1, g2, g3, g4, g5, g6, g7, g8, g9, g10, Bool.or_true, Bool.false_or, Bool.true_or, if_true, and_true, if_pos l1]
   go_enter Tryz.func55, Tryz.ntmps55
   go_wp2_with fail
   go_ret
   exact ⟨rfl, rfl⟩
  cases g11 : (((s[0]'h0).toNat : Int) == 44)
  rotate_left
  ·simp only [g0, g1, g2, g3, g4, g5, g6, g7, g8, g9, g10, g11, Bool.or_true, Bool.false_or, Bool.true_or, if_true, and_true, if_pos l1]
   go_enter Tryz.func55, Tryz.ntmps55
   go_wp2_with fail
   go_ret
   exact ⟨rfl, rfl⟩
  cases g12 : (((s[0]'h0).toNat : Int) == 61)
  rotate_left
  ·simp only [g0, g1, g2, g3, g4, g5, g6, g7, g8, g9, g10, g11, g12, Bool.or_true, Bool.false_or, Bool.true_or, if_true, and_true, if_pos l1]
   go_enter Tryz.func55, Tryz.ntmps55
   go_wp2_with fail
   go_ret
   exact ⟨rfl, rfl⟩
  cases g13 : (((s[0]'h0).toNat : Int) == 60)
  rotate_left
  ·simp only [g0, g1, g2, g3, g4, g5, g6, g7, g8, g9, g10, g11, g12, g13, Bool.or_true, Bool.false_or, Bool.true_or, if_true, and_true, if_pos l1]
   go_enter Tryz.func55, Tryz.ntmps55
   go_wp2_with fail
   go_ret
   exact ⟨rfl, rfl⟩
  cases g14 : (((s[0]'h0).toNat : Int) == 62)
  rotate_left
  ·simp only [g0, g1, g2, g3, g4, g5, g6, g7, g8, g9, g10, g11, g12, g13, g14, Bool.or_true, Bool.false_or, Bool.true_or, if_true, and_true, if_pos l1]
   go_enter Tryz.func55, Tryz.ntmps55
   go_wp2_with fail
   go_ret
   exact ⟨rfl, rfl⟩
  cases g15 : (((s[0]'h0).toNat : Int) == 33)
  rotate_left
  ·simp only [g0, g1, g2, g3, g4, g5, g6, g7, g8, g9, g10, g11, g12, g13, g14, g15, Bool.or_true, Bool.false_or, Bool.true_or, if_true, and_true, if_pos l1]
   go_enter Tryz.func55, Tryz.ntmps55
   go_wp2_with fail
   go_ret
   exact ⟨rfl, rfl⟩
  simp only [g0, g1, g2, g3, g4, g5, g6, g7, g8, g9, g10, g11, g12, g13, g14, g15, Bool.or_false, Bool.false_eq_true, and_false, if_false]
  go_enter Tryz.func55, Tryz.ntmps55
  go_wp2_with fail
  go_ret
  exact ⟨rfl, rfl⟩
 ·have h0 : 0 < s.size := by omega
  have l1 : 1 ≤ s.size := by omega
  have l2 : 2 ≤ (s.size : Int) := by omega
  rw [toL_head s h0, show s.toList.take 2 = (s.extract 0 2).toList by rw [toL_cut]; rfl]
  simp only [hs, true_and]
  unfold isS1 isS2
  cases k0 : ((s.extract 0 2).toList == [61, 61])
  rotate_left
  ·simp only [k0, Bool.or_true, Bool.false_or, Bool.true_or, if_true]
   clear hs
   go_enter Tryz.func55, Tryz.ntmps55
   go_wp2_with fail
   go_ret
   exact ⟨rfl, rfl⟩
  cases k1 : ((s.extract 0 2).toList == [33, 61])
  rotate_left
  ·simp only [k0, k1, Bool.or_true, Bool.false_or, Bool.true_or, if_true]
   clear hs
   go_enter Tryz.func55, Tryz.ntmps55
   go_wp2_with fail
   go_ret
   exact ⟨rfl, rfl⟩
  cases k2 : ((s.extract 0 2).toList == [60, 61])
  rotate_left
  ·simp only [k0, k1, k2, Bool.or_true, Bool.false_or, Bool.true_or, if_true]
   clear hs
   go_enter Tryz.func55, Tryz.ntmps55
   go_wp2_with fail
   go_ret
   exact ⟨rfl, rfl⟩
  cases k3 : ((s.extract 0 2).toList == [62, 61])
  rotate_left
  ·simp only [k0, k1, k2, k3, Bool.or_true, Bool.false_or, Bool.true_or, if_true]
   clear hs
   go_enter Tryz.func55, Tryz.ntmps55
   go_wp2_with fail
   go_ret
   exact ⟨rfl, rfl⟩
  cases k4 : ((s.extract 0 2).toList == [38, 38])
  rotate_left
  ·simp only [k0, k1, k2, k3, k4, Bool.or_true, Bool.false_or, Bool.true_or, if_true]
   clear hs
   go_enter Tryz.func55, Tryz.ntmps55
   go_wp2_with fail
   go_ret
   exact ⟨rfl, rfl⟩
  cases k5 : ((s.extract 0 2).toList == [124, 124])
  rotate_left
  ·simp only [k0, k1, k2, k3, k4, k5, Bool.or_true, Bool.false_or, Bool.true_or, if_true]
   clear hs
   go_enter Tryz.func55, Tryz.ntmps55
   go_wp2_with fail
   go_ret
   exact ⟨rfl, rfl⟩
  simp only [k0, k1, k2, k3, k4, k5, Bool.or_false, Bool.false_eq_true, if_false]
  clear hs
  cases g0 : (((s[0]'h0).toNat : Int) == 43)
  rotate_left
  ·simp only [g0, Bool.or_true, Bool.false_or, Bool.true_or, if_true, and_true, if_pos l1]
   go_enter Tryz.func55, Tryz.ntmps55
   go_wp2_with fail
   go_ret
   exact ⟨rfl, rfl⟩
  cases g1 : (((s[0]'h0).toNat : Int) == 45)
  rotate_left
  ·simp only [g0, g1, Bool.or_true, Bool.false_or, Bool.true_or, if_true, and_true, if_pos l1]
   go_enter Tryz.func55, Tryz.ntmps55
   go_wp2_with fail
   go_ret
   exact ⟨rfl, rfl⟩
  cases g2 : (((s[0]'h0).toNat : Int) == 42)
  rotate_left
  ·simp only [g0, g1, g2, Bool.or_true, Bool.false_or, Bool.true_or, if_true, and_true, if_pos l1]
   go_enter Tryz.func55, Tryz.ntmps55
   go_wp2_with fail
   go_ret
   exact ⟨rfl, rfl⟩
  cases g3 : (((s[0]'h0).toNat : Int) == 47)
  rotate_left
  ·simp only [g0, g1, g2, g3, Bool.or_true, Bool.false_or, Bool.true_or, if_true, and_true, if_pos l1]
   go_enter Tryz.func55, Tryz.ntmps55
   go_wp2_with fail
   go_ret
   exact ⟨rfl, rfl⟩
  cases g4 : (((s[0]'h0).toNat : Int) == 40)
  rotate_left
  ·simp only [g0, g1, g2, g3, g4, Bool.or_true, Bool.false_or, Bool.true_or, if_true, and_true, if_pos l1]
   go_enter Tryz.func55, Tryz.ntmps55
   go_wp2_with fail
   go_ret
   exact ⟨rfl, rfl⟩
  cases g5 : (((s[0]'h0).toNat : Int) == 41)
  rotate_left
  ·simp only [g0, g1, g2, g3, g4, g5, Bool.or_true, Bool.false_or, Bool.true_or, if_true, and_true, if_pos l1]
   go_enter Tryz.func55, Tryz.ntmps55
   go_wp2_with fail
   go_ret
   exact ⟨rfl, rfl⟩
  cases g6 : (((s[0]'h0).toNat : Int) == 91)
  rotate_left
  ·simp only [g0, g1, g2, g3, g4, g5, g6, Bool.or_true, Bool.false_or, Bool.true_or, if_true, and_true, if_pos l1]
   go_enter Tryz.func55, Tryz.ntmps55
   go_wp2_with fail
   go_ret
   exact ⟨rfl, rfl⟩
  cases g7 : (((s[0]'h0).toNat : Int) == 93)
  rotate_left
  ·simp only [g0, g1, g2, g3, g4, g5, g6, g7, Bool.or_true, Bool.false_or, Bool.true_or, if_true, and_true, if_pos l1]
   go_enter Tryz.func55, Tryz.ntmps55
   go_wp2_with fail
   go_ret
   exact ⟨rfl, rfl⟩
  cases g8 : (((s[0]'h0).toNat : Int) == 123)
  rotate_left
  ·simp only [g0, g1, g2, g3, g4, g5, g6, g7, g8, Bool.or_true, Bool.false_or, Bool.true_or, if_true, and_true, if_pos l1]
   go_enter Tryz.func55, Tryz.ntmps55
   go_wp2_with fail
   go_ret
   exact ⟨rfl, rfl⟩
  cases g9 : (((s[0]'h0).toNat : Int) == 125)
  rotate_left
  ·simp only [g0, g1, g2, g3, g4, g5, g6, g7, g8, g9, Bool.or_true, Bool.false_or, Bool.true_or, if_true, and_true, if_pos l1]
   go_enter Tryz.func55, Tryz.ntmps55
   go_wp2_with fail
   go_ret
   exact ⟨rfl, rfl⟩
  cases g10 : (((s[0]'h0).toNat : Int) == 59)
  rotate_left
  ·simp only [g0, g1, g2, g3, g4, g5, g6, g7, g8, g9, g10, Bool.or_true, Bool.false_or, Bool.true_or, if_true, and_true, if_pos l1]
   go_enter Tryz.func55, Tryz.ntmps55
   go_wp2_with fail
   go_ret
   exact ⟨rfl, rfl⟩
  cases g11 : (((s[0]'h0).toNat : Int) == 44)
  rotate_left
  ·simp only [g0, g1, g2, g3, g4, g5, g6, g7, g8, g9, g10, g11, Bool.or_true, Bool.false_or, Bool.true_or, if_true, and_true, if_pos l1]
   go_enter Tryz.func55, Tryz.ntmps55
   go_wp2_with fail
   go_ret
   exact ⟨rfl, rfl⟩
  cases g12 : (((s[0]'h0).toNat : Int) == 61)
  rotate_left
  ·simp only [g0, g1, g2, g3, g4, g5, g6, g7, g8, g9, g10, g11, g12, Bool.or_true, Bool.false_or, Bool.true_or, if_true, and_true, if_pos l1]
   go_enter Tryz.func55, Tryz.ntmps55
   go_wp2_with fail
   go_ret
   exact ⟨rfl, rfl⟩
  cases g13 : (((s[0]'h0).toNat : Int) == 60)
  rotate_left
  ·simp only [g0, g1, g2, g3, g4, g5, g6, g7, g8, g9, g10, g11, g12, g13, Bool.or_true, Bool.false_or, Bool.true_or, if_true, and_true, if_pos l1]
   go_enter Tryz.func55, Tryz.ntmps55
   go_wp2_with fail
   go_ret
   exact ⟨rfl, rfl⟩
  cases g14 : (((s[0]'h0).toNat : Int) == 62)
  rotate_left
  ·simp only [g0, g1, g2, g3, g4, g5, g6, g7, g8, g9, g10, g11, g12, g13, g14, Bool.or_true, Bool.false_or, Bool.true_or, if_true, and_true, if_pos l1]
   go_enter Tryz.func55, Tryz.ntmps55
   go_wp2_with fail
   go_ret
   exact ⟨rfl, rfl⟩
  cases g15 : (((s[0]'h0).toNat : Int) == 33)
  rotate_left
  ·simp only [g0, g1, g2, g3, g4, g5, g6, g7, g8, g9, g10, g11, g12, g13, g14, g15, Bool.or_true, Bool.false_or, Bool.true_or, if_true, and_true, if_pos l1]
   go_enter Tryz.func55, Tryz.ntmps55
   go_wp2_with fail
   go_ret
   exact ⟨rfl, rfl⟩
  simp only [g0, g1, g2, g3, g4, g5, g6, g7, g8, g9, g10, g11, g12, g13, g14, g15, Bool.or_false, Bool.false_eq_true, and_false, if_false]
  go_enter Tryz.func55, Tryz.ntmps55
  go_wp2_with fail
  go_ret
  exact ⟨rfl, rfl⟩
end Go.Proofs.YtknoibocpbfmmaaGreatDoor


