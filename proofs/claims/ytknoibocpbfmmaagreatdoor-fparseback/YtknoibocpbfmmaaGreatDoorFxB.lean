/- Words, names, numbers and signs at a text's beginning. -/
import Derived.Test.YtknoibocpbfmmaaGreatDoorFxA
namespace Go.Proofs.YtknoibocpbfmmaaGreatDoor
open Go.RowKit
set_option linter.unusedVariables false
set_option linter.unusedSimpArgs false
theorem toL (s : ByteArray) : s.toList = s.data.toList := by
  obtain ⟨d⟩ := s
  conv => lhs; rw [show d = d.toList.toArray by simp]
  rw [ByteArray.toList_mk]
theorem toL_len (s : ByteArray) : s.toList.length = s.size := by rw [toL]; rfl
theorem toL_cut (s : ByteArray) (a b : Nat) : (s.extract a b).toList = (s.toList.take b).drop a := by
  rw [toL, toL, List.drop_take]; simp [ByteArray.extract, ByteArray.copySlice]
/-- Is a list of bytes a word of the language? -/
def isW (l : List UInt8) : Bool := l == [105, 110, 116] || (l == [102, 108, 111, 97, 116] || (l == [100, 111, 117, 98, 108, 101] || (l == [105, 102] || (l == [101, 108, 115, 101] || (l == [119, 104, 105, 108, 101] || (l == [114, 101, 97, 100] || (l == [105, 110] || (l == [115, 113, 114, 116] || (l == [97, 98, 115])))))))))
set_option maxRecDepth 100000 in
set_option maxHeartbeats 1600000 in
theorem isWord_any (s : ByteArray) (w : World) : Calls Tryz.prog 71 #[.string s] w fun e w' => e = .returned (.bool (isW s.toList)) ∧ w' = w := by
  unfold isW
  cases h0 : (s.toList == [105, 110, 116])
  rotate_left
  · simp only [h0, Bool.or_true, Bool.false_or, Bool.true_or]
    go_enter Tryz.func71, Tryz.ntmps71
    go_wp2_with fail
    go_ret
    exact ⟨rfl, rfl⟩
  cases h1 : (s.toList == [102, 108, 111, 97, 116])
  rotate_left
  · simp only [h0, h1, Bool.or_true, Bool.false_or, Bool.true_or]
    go_enter Tryz.func71, Tryz.ntmps71
    go_wp2_with fail
    go_ret
    exact ⟨rfl, rfl⟩
  cases h2 : (s.toList == [100, 111, 117, 98, 108, 101])
  rotate_left
  · simp only [h0, h1, h2, Bool.or_true, Bool.false_or, Bool.true_or]
    go_enter Tryz.func71, Tryz.ntmps71
    go_wp2_with fail
    go_ret
    exact ⟨rfl, rfl⟩
  cases h3 : (s.toList == [105, 102])
  rotate_left
  · simp only [h0, h1, h2, h3, Bool.or_true, Bool.false_or, Bool.true_or]
    go_enter Tryz.func71, Tryz.ntmps71
    go_wp2_with fail
    go_ret
    exact ⟨rfl, rfl⟩
  cases h4 : (s.toList == [101, 108, 115, 101])
  rotate_left
  · simp only [h0, h1, h2, h3, h4, Bool.or_true, Bool.false_or, Bool.true_or]
    go_enter Tryz.func71, Tryz.ntmps71
    go_wp2_with fail
    go_ret
    exact ⟨rfl, rfl⟩
  cases h5 : (s.toList == [119, 104, 105, 108, 101])
  rotate_left
  · simp only [h0, h1, h2, h3, h4, h5, Bool.or_true, Bool.false_or, Bool.true_or]
    go_enter Tryz.func71, Tryz.ntmps71
    go_wp2_with fail
    go_ret
    exact ⟨rfl, rfl⟩
  cases h6 : (s.toList == [114, 101, 97, 100])
  rotate_left
  · simp only [h0, h1, h2, h3, h4, h5, h6, Bool.or_true, Bool.false_or, Bool.true_or]
    go_enter Tryz.func71, Tryz.ntmps71
    go_wp2_with fail
    go_ret
    exact ⟨rfl, rfl⟩
  cases h7 : (s.toList == [105, 110])
  rotate_left
  · simp only [h0, h1, h2, h3, h4, h5, h6, h7, Bool.or_true, Bool.false_or, Bool.true_or]
    go_enter Tryz.func71, Tryz.ntmps71
    go_wp2_with fail
    go_ret
    exact ⟨rfl, rfl⟩
  cases h8 : (s.toList == [115, 113, 114, 116])
  rotate_left
  · simp only [h0, h1, h2, h3, h4, h5, h6, h7, h8, Bool.or_true, Bool.false_or, Bool.true_or]
    go_enter Tryz.func71, Tryz.ntmps71
    go_wp2_with fail
    go_ret
    exact ⟨rfl, rfl⟩
  cases h9 : (s.toList == [97, 98, 115])
  rotate_left
  · simp only [h0, h1, h2, h3, h4, h5, h6, h7, h8, h9, Bool.or_true, Bool.false_or, Bool.true_or]
    go_enter Tryz.func71, Tryz.ntmps71
    go_wp2_with fail
    go_ret
    exact ⟨rfl, rfl⟩
  go_enter Tryz.func71, Tryz.ntmps71
  go_wp2_with fail
  go_ret
  exact ⟨rfl, rfl⟩
/-- Signs of two bytes, and of one. -/
def isS2 (l : List UInt8) : Bool := l == [61, 61] || (l == [33, 61] || (l == [60, 61] || (l == [62, 61] || (l == [38, 38] || (l == [124, 124])))))
def isS1 (b : Int) : Bool := b == 43 || (b == 45 || (b == 42 || (b == 47 || (b == 40 || (b == 41 || (b == 91 || (b == 93 || (b == 123 || (b == 125 || (b == 59 || (b == 44 || (b == 61 || (b == 60 || (b == 62 || (b == 33)))))))))))))))
/-- How long the sign is that a list begins with. -/
def sgnN (l : List UInt8) : Nat := if 2 ≤ l.length ∧ isS2 (l.take 2) = true then 2 else if 1 ≤ l.length ∧ isS1 (l.headD 0).toNat = true then 1 else 0
theorem toL_head (s : ByteArray) (h : 0 < s.size) : s.toList.headD 0 = s[0] := by
  have h2 : 0 < s.data.toList.length := h
  rw [toL]
  show s.data.toList.headD 0 = s.data.toList[0]
  rw [List.headD_eq_head?_getD, List.head?_eq_getElem?, List.getElem?_eq_getElem h2]; rfl
set_option maxRecDepth 100000 in
set_option maxHeartbeats 3200000 in
theorem signOf_any (s : ByteArray) (w : World) : Calls Tryz.prog 55 #[.string s] w fun e w' => e = .returned (.int .i64 (sgnN s.toList : Nat)) ∧ w' = w := by
  unfold sgnN
  rw [toL_len]
  rcases (show s.size = 0 ∨ s.size = 1 ∨ 2 ≤ s.size by omega) with hs | hs | hs
  · rw [if_neg (by omega), if_neg (by omega)]
    go_enter Tryz.func55, Tryz.ntmps55
    go_wp2_with fail
    go_ret
    exact ⟨rfl, rfl⟩
  · have h0 : 0 < s.size := by omega
    have l1 : 1 ≤ s.size := by omega
    rw [if_neg (by omega), toL_head s h0]
    unfold isS1
    cases g0 : (((s[0]'h0).toNat : Int) == 43)
    rotate_left
    · simp only [g0, Bool.or_true, Bool.false_or, Bool.true_or, if_true, and_true, if_pos l1]
      go_enter Tryz.func55, Tryz.ntmps55
      go_wp2_with fail
      go_ret
      exact ⟨rfl, rfl⟩
    cases g1 : (((s[0]'h0).toNat : Int) == 45)
    rotate_left
    · simp only [g0, g1, Bool.or_true, Bool.false_or, Bool.true_or, if_true, and_true, if_pos l1]
      go_enter Tryz.func55, Tryz.ntmps55
      go_wp2_with fail
      go_ret
      exact ⟨rfl, rfl⟩
    cases g2 : (((s[0]'h0).toNat : Int) == 42)
    rotate_left
    · simp only [g0, g1, g2, Bool.or_true, Bool.false_or, Bool.true_or, if_true, and_true, if_pos l1]
      go_enter Tryz.func55, Tryz.ntmps55
      go_wp2_with fail
      go_ret
      exact ⟨rfl, rfl⟩
    cases g3 : (((s[0]'h0).toNat : Int) == 47)
    rotate_left
    · simp only [g0, g1, g2, g3, Bool.or_true, Bool.false_or, Bool.true_or, if_true, and_true, if_pos l1]
      go_enter Tryz.func55, Tryz.ntmps55
      go_wp2_with fail
      go_ret
      exact ⟨rfl, rfl⟩
    cases g4 : (((s[0]'h0).toNat : Int) == 40)
    rotate_left
    · simp only [g0, g1, g2, g3, g4, Bool.or_true, Bool.false_or, Bool.true_or, if_true, and_true, if_pos l1]
      go_enter Tryz.func55, Tryz.ntmps55
      go_wp2_with fail
      go_ret
      exact ⟨rfl, rfl⟩
    cases g5 : (((s[0]'h0).toNat : Int) == 41)
    rotate_left
    · simp only [g0, g1, g2, g3, g4, g5, Bool.or_true, Bool.false_or, Bool.true_or, if_true, and_true, if_pos l1]
      go_enter Tryz.func55, Tryz.ntmps55
      go_wp2_with fail
      go_ret
      exact ⟨rfl, rfl⟩
    cases g6 : (((s[0]'h0).toNat : Int) == 91)
    rotate_left
    · simp only [g0, g1, g2, g3, g4, g5, g6, Bool.or_true, Bool.false_or, Bool.true_or, if_true, and_true, if_pos l1]
      go_enter Tryz.func55, Tryz.ntmps55
      go_wp2_with fail
      go_ret
      exact ⟨rfl, rfl⟩
    cases g7 : (((s[0]'h0).toNat : Int) == 93)
    rotate_left
    · simp only [g0, g1, g2, g3, g4, g5, g6, g7, Bool.or_true, Bool.false_or, Bool.true_or, if_true, and_true, if_pos l1]
      go_enter Tryz.func55, Tryz.ntmps55
      go_wp2_with fail
      go_ret
      exact ⟨rfl, rfl⟩
    cases g8 : (((s[0]'h0).toNat : Int) == 123)
    rotate_left
    · simp only [g0, g1, g2, g3, g4, g5, g6, g7, g8, Bool.or_true, Bool.false_or, Bool.true_or, if_true, and_true, if_pos l1]
      go_enter Tryz.func55, Tryz.ntmps55
      go_wp2_with fail
      go_ret
      exact ⟨rfl, rfl⟩
    cases g9 : (((s[0]'h0).toNat : Int) == 125)
    rotate_left
    · simp only [g0, g1, g2, g3, g4, g5, g6, g7, g8, g9, Bool.or_true, Bool.false_or, Bool.true_or, if_true, and_true, if_pos l1]
      go_enter Tryz.func55, Tryz.ntmps55
      go_wp2_with fail
      go_ret
      exact ⟨rfl, rfl⟩
    cases g10 : (((s[0]'h0).toNat : Int) == 59)
    rotate_left
    · simp only [g0, g1, g2, g3, g4, g5, g6, g7, g8, g9, g10, Bool.or_true, Bool.false_or, Bool.true_or, if_true, and_true, if_pos l1]
      go_enter Tryz.func55, Tryz.ntmps55
      go_wp2_with fail
      go_ret
      exact ⟨rfl, rfl⟩
    cases g11 : (((s[0]'h0).toNat : Int) == 44)
    rotate_left
    · simp only [g0, g1, g2, g3, g4, g5, g6, g7, g8, g9, g10, g11, Bool.or_true, Bool.false_or, Bool.true_or, if_true, and_true, if_pos l1]
      go_enter Tryz.func55, Tryz.ntmps55
      go_wp2_with fail
      go_ret
      exact ⟨rfl, rfl⟩
    cases g12 : (((s[0]'h0).toNat : Int) == 61)
    rotate_left
    · simp only [g0, g1, g2, g3, g4, g5, g6, g7, g8, g9, g10, g11, g12, Bool.or_true, Bool.false_or, Bool.true_or, if_true, and_true, if_pos l1]
      go_enter Tryz.func55, Tryz.ntmps55
      go_wp2_with fail
      go_ret
      exact ⟨rfl, rfl⟩
    cases g13 : (((s[0]'h0).toNat : Int) == 60)
    rotate_left
    · simp only [g0, g1, g2, g3, g4, g5, g6, g7, g8, g9, g10, g11, g12, g13, Bool.or_true, Bool.false_or, Bool.true_or, if_true, and_true, if_pos l1]
      go_enter Tryz.func55, Tryz.ntmps55
      go_wp2_with fail
      go_ret
      exact ⟨rfl, rfl⟩
    cases g14 : (((s[0]'h0).toNat : Int) == 62)
    rotate_left
    · simp only [g0, g1, g2, g3, g4, g5, g6, g7, g8, g9, g10, g11, g12, g13, g14, Bool.or_true, Bool.false_or, Bool.true_or, if_true, and_true, if_pos l1]
      go_enter Tryz.func55, Tryz.ntmps55
      go_wp2_with fail
      go_ret
      exact ⟨rfl, rfl⟩
    cases g15 : (((s[0]'h0).toNat : Int) == 33)
    rotate_left
    · simp only [g0, g1, g2, g3, g4, g5, g6, g7, g8, g9, g10, g11, g12, g13, g14, g15, Bool.or_true, Bool.false_or, Bool.true_or, if_true, and_true, if_pos l1]
      go_enter Tryz.func55, Tryz.ntmps55
      go_wp2_with fail
      go_ret
      exact ⟨rfl, rfl⟩
    simp only [g0, g1, g2, g3, g4, g5, g6, g7, g8, g9, g10, g11, g12, g13, g14, g15, Bool.or_false, Bool.false_eq_true, and_false, if_false]
    go_enter Tryz.func55, Tryz.ntmps55
    go_wp2_with fail
    go_ret
    exact ⟨rfl, rfl⟩
  · have h0 : 0 < s.size := by omega
    have l1 : 1 ≤ s.size := by omega
    have l2 : 2 ≤ (s.size : Int) := by omega
    rw [toL_head s h0, show s.toList.take 2 = (s.extract 0 2).toList by rw [toL_cut]; rfl]
    simp only [hs, true_and]
    unfold isS1 isS2
    cases k0 : ((s.extract 0 2).toList == [61, 61])
    rotate_left
    · simp only [k0, Bool.or_true, Bool.false_or, Bool.true_or, if_true]
      clear hs
      go_enter Tryz.func55, Tryz.ntmps55
      go_wp2_with fail
      go_ret
      exact ⟨rfl, rfl⟩
    cases k1 : ((s.extract 0 2).toList == [33, 61])
    rotate_left
    · simp only [k0, k1, Bool.or_true, Bool.false_or, Bool.true_or, if_true]
      clear hs
      go_enter Tryz.func55, Tryz.ntmps55
      go_wp2_with fail
      go_ret
      exact ⟨rfl, rfl⟩
    cases k2 : ((s.extract 0 2).toList == [60, 61])
    rotate_left
    · simp only [k0, k1, k2, Bool.or_true, Bool.false_or, Bool.true_or, if_true]
      clear hs
      go_enter Tryz.func55, Tryz.ntmps55
      go_wp2_with fail
      go_ret
      exact ⟨rfl, rfl⟩
    cases k3 : ((s.extract 0 2).toList == [62, 61])
    rotate_left
    · simp only [k0, k1, k2, k3, Bool.or_true, Bool.false_or, Bool.true_or, if_true]
      clear hs
      go_enter Tryz.func55, Tryz.ntmps55
      go_wp2_with fail
      go_ret
      exact ⟨rfl, rfl⟩
    cases k4 : ((s.extract 0 2).toList == [38, 38])
    rotate_left
    · simp only [k0, k1, k2, k3, k4, Bool.or_true, Bool.false_or, Bool.true_or, if_true]
      clear hs
      go_enter Tryz.func55, Tryz.ntmps55
      go_wp2_with fail
      go_ret
      exact ⟨rfl, rfl⟩
    cases k5 : ((s.extract 0 2).toList == [124, 124])
    rotate_left
    · simp only [k0, k1, k2, k3, k4, k5, Bool.or_true, Bool.false_or, Bool.true_or, if_true]
      clear hs
      go_enter Tryz.func55, Tryz.ntmps55
      go_wp2_with fail
      go_ret
      exact ⟨rfl, rfl⟩
    simp only [k0, k1, k2, k3, k4, k5, Bool.or_false, Bool.false_eq_true, if_false]
    clear hs
    cases g0 : (((s[0]'h0).toNat : Int) == 43)
    rotate_left
    · simp only [g0, Bool.or_true, Bool.false_or, Bool.true_or, if_true, and_true, if_pos l1]
      go_enter Tryz.func55, Tryz.ntmps55
      go_wp2_with fail
      go_ret
      exact ⟨rfl, rfl⟩
    cases g1 : (((s[0]'h0).toNat : Int) == 45)
    rotate_left
    · simp only [g0, g1, Bool.or_true, Bool.false_or, Bool.true_or, if_true, and_true, if_pos l1]
      go_enter Tryz.func55, Tryz.ntmps55
      go_wp2_with fail
      go_ret
      exact ⟨rfl, rfl⟩
    cases g2 : (((s[0]'h0).toNat : Int) == 42)
    rotate_left
    · simp only [g0, g1, g2, Bool.or_true, Bool.false_or, Bool.true_or, if_true, and_true, if_pos l1]
      go_enter Tryz.func55, Tryz.ntmps55
      go_wp2_with fail
      go_ret
      exact ⟨rfl, rfl⟩
    cases g3 : (((s[0]'h0).toNat : Int) == 47)
    rotate_left
    · simp only [g0, g1, g2, g3, Bool.or_true, Bool.false_or, Bool.true_or, if_true, and_true, if_pos l1]
      go_enter Tryz.func55, Tryz.ntmps55
      go_wp2_with fail
      go_ret
      exact ⟨rfl, rfl⟩
    cases g4 : (((s[0]'h0).toNat : Int) == 40)
    rotate_left
    · simp only [g0, g1, g2, g3, g4, Bool.or_true, Bool.false_or, Bool.true_or, if_true, and_true, if_pos l1]
      go_enter Tryz.func55, Tryz.ntmps55
      go_wp2_with fail
      go_ret
      exact ⟨rfl, rfl⟩
    cases g5 : (((s[0]'h0).toNat : Int) == 41)
    rotate_left
    · simp only [g0, g1, g2, g3, g4, g5, Bool.or_true, Bool.false_or, Bool.true_or, if_true, and_true, if_pos l1]
      go_enter Tryz.func55, Tryz.ntmps55
      go_wp2_with fail
      go_ret
      exact ⟨rfl, rfl⟩
    cases g6 : (((s[0]'h0).toNat : Int) == 91)
    rotate_left
    · simp only [g0, g1, g2, g3, g4, g5, g6, Bool.or_true, Bool.false_or, Bool.true_or, if_true, and_true, if_pos l1]
      go_enter Tryz.func55, Tryz.ntmps55
      go_wp2_with fail
      go_ret
      exact ⟨rfl, rfl⟩
    cases g7 : (((s[0]'h0).toNat : Int) == 93)
    rotate_left
    · simp only [g0, g1, g2, g3, g4, g5, g6, g7, Bool.or_true, Bool.false_or, Bool.true_or, if_true, and_true, if_pos l1]
      go_enter Tryz.func55, Tryz.ntmps55
      go_wp2_with fail
      go_ret
      exact ⟨rfl, rfl⟩
    cases g8 : (((s[0]'h0).toNat : Int) == 123)
    rotate_left
    · simp only [g0, g1, g2, g3, g4, g5, g6, g7, g8, Bool.or_true, Bool.false_or, Bool.true_or, if_true, and_true, if_pos l1]
      go_enter Tryz.func55, Tryz.ntmps55
      go_wp2_with fail
      go_ret
      exact ⟨rfl, rfl⟩
    cases g9 : (((s[0]'h0).toNat : Int) == 125)
    rotate_left
    · simp only [g0, g1, g2, g3, g4, g5, g6, g7, g8, g9, Bool.or_true, Bool.false_or, Bool.true_or, if_true, and_true, if_pos l1]
      go_enter Tryz.func55, Tryz.ntmps55
      go_wp2_with fail
      go_ret
      exact ⟨rfl, rfl⟩
    cases g10 : (((s[0]'h0).toNat : Int) == 59)
    rotate_left
    · simp only [g0, g1, g2, g3, g4, g5, g6, g7, g8, g9, g10, Bool.or_true, Bool.false_or, Bool.true_or, if_true, and_true, if_pos l1]
      go_enter Tryz.func55, Tryz.ntmps55
      go_wp2_with fail
      go_ret
      exact ⟨rfl, rfl⟩
    cases g11 : (((s[0]'h0).toNat : Int) == 44)
    rotate_left
    · simp only [g0, g1, g2, g3, g4, g5, g6, g7, g8, g9, g10, g11, Bool.or_true, Bool.false_or, Bool.true_or, if_true, and_true, if_pos l1]
      go_enter Tryz.func55, Tryz.ntmps55
      go_wp2_with fail
      go_ret
      exact ⟨rfl, rfl⟩
    cases g12 : (((s[0]'h0).toNat : Int) == 61)
    rotate_left
    · simp only [g0, g1, g2, g3, g4, g5, g6, g7, g8, g9, g10, g11, g12, Bool.or_true, Bool.false_or, Bool.true_or, if_true, and_true, if_pos l1]
      go_enter Tryz.func55, Tryz.ntmps55
      go_wp2_with fail
      go_ret
      exact ⟨rfl, rfl⟩
    cases g13 : (((s[0]'h0).toNat : Int) == 60)
    rotate_left
    · simp only [g0, g1, g2, g3, g4, g5, g6, g7, g8, g9, g10, g11, g12, g13, Bool.or_true, Bool.false_or, Bool.true_or, if_true, and_true, if_pos l1]
      go_enter Tryz.func55, Tryz.ntmps55
      go_wp2_with fail
      go_ret
      exact ⟨rfl, rfl⟩
    cases g14 : (((s[0]'h0).toNat : Int) == 62)
    rotate_left
    · simp only [g0, g1, g2, g3, g4, g5, g6, g7, g8, g9, g10, g11, g12, g13, g14, Bool.or_true, Bool.false_or, Bool.true_or, if_true, and_true, if_pos l1]
      go_enter Tryz.func55, Tryz.ntmps55
      go_wp2_with fail
      go_ret
      exact ⟨rfl, rfl⟩
    cases g15 : (((s[0]'h0).toNat : Int) == 33)
    rotate_left
    · simp only [g0, g1, g2, g3, g4, g5, g6, g7, g8, g9, g10, g11, g12, g13, g14, g15, Bool.or_true, Bool.false_or, Bool.true_or, if_true, and_true, if_pos l1]
      go_enter Tryz.func55, Tryz.ntmps55
      go_wp2_with fail
      go_ret
      exact ⟨rfl, rfl⟩
    simp only [g0, g1, g2, g3, g4, g5, g6, g7, g8, g9, g10, g11, g12, g13, g14, g15, Bool.or_false, Bool.false_eq_true, and_false, if_false]
    go_enter Tryz.func55, Tryz.ntmps55
    go_wp2_with fail
    go_ret
    exact ⟨rfl, rfl⟩
end Go.Proofs.YtknoibocpbfmmaaGreatDoor
