/- Texts of the proof, put together. -/
import Derived.Test.YtknoibocpbfmmaaGreatDoorYG3
namespace Go.Proofs.YtknoibocpbfmmaaGreatDoor
open Go.RowKit
set_option linter.unusedVariables false
set_option linter.unusedSimpArgs false
theorem toL (s : ByteArray) : s.toList = s.data.toList := by
  obtain ⟨d⟩ := s
  conv => lhs; rw [show d = d.toList.toArray by simp]
  rw [ByteArray.toList_mk]
theorem toL_len (s : ByteArray) : s.toList.length = s.size := by rw [toL]; rfl
theorem toL_cut (s : ByteArray) (a b : Nat) : (s.extract a b).toList = (s.toList.take b).drop a := by
  rw [toL, toL, List.drop_take]; simp [ByteArray.extract, ByteArray.copySlice]
/-- Is a list of bytes a word of the language? -/
def isW (l : List UInt8) : Bool := l == [105, 110, 116] || (l == [102, 108, 111, 97, 116] || (l == [100, 111, 117, 98, 108, 101] || (l == [105, 102] || (l == [101, 108, 115, 101] || (l == [119, 104, 105, 108, 101] || (l == [114, 101, 97, 100] || (l == [105, 110] || (l == [115, 113, 114, 116] || (l == [97, 98, 115])))))))))
set_option maxRecDepth 100000 in
set_option maxHeartbeats 1600000 in
theorem isWord_any (s : ByteArray) (w : World) : Calls Tryz.prog 71 #[.string s] w fun e w' => e = .returned (.bool (isW s.toList)) ∧ w' = w := by
  unfold isW
  cases h0 : (s.toList == [105, 110, 116])
  rotate_left
  · simp only [h0, Bool.or_true, Bool.false_or, Bool.true_or]
    go_enter Tryz.func71, Tryz.ntmps71
    go_wp2_with fail
    go_ret
    exact ⟨rfl, rfl⟩
  cases h1 : (s.toList == [102, 108, 111, 97, 116])
  rotate_left
  · simp only [h0, h1, Bool.or_true, Bool.false_or, Bool.true_or]
    go_enter Tryz.func71, Tryz.ntmps71
    go_wp2_with fail
    go_ret
    exact ⟨rfl, rfl⟩
  cases h2 : (s.toList == [100, 111, 117, 98, 108, 101])
  rotate_left
  · simp only [h0, h1, h2, Bool.or_true, Bool.false_or, Bool.true_or]
    go_enter Tryz.func71, Tryz.ntmps71
    go_wp2_with fail
    go_ret
    exact ⟨rfl, rfl⟩
  cases h3 : (s.toList == [105, 102])
  rotate_left
  · simp only [h0, h1, h2, h3, Bool.or_true, Bool.false_or, Bool.true_or]
    go_enter Tryz.func71, Tryz.ntmps71
    go_wp2_with fail
    go_ret
    exact ⟨rfl, rfl⟩
  cases h4 : (s.toList == [101, 108, 115, 101])
  rotate_left
  · simp only [h0, h1, h2, h3, h4, Bool.or_true, Bool.false_or, Bool.true_or]
    go_enter Tryz.func71, Tryz.ntmps71
    go_wp2_with fail
    go_ret
    exact ⟨rfl, rfl⟩
  cases h5 : (s.toList == [119, 104, 105, 108, 101])
  rotate_left
  · simp only [h0, h1, h2, h3, h4, h5, Bool.or_true, Bool.false_or, Bool.true_or]
    go_enter Tryz.func71, Tryz.ntmps71
    go_wp2_with fail
    go_ret
    exact ⟨rfl, rfl⟩
  cases h6 : (s.toList == [114, 101, 97, 100])
  rotate_left
  · simp only [h0, h1, h2, h3, h4, h5, h6, Bool.or_true, Bool.false_or, Bool.true_or]
    go_enter Tryz.func71, Tryz.ntmps71
    go_wp2_with fail
    go_ret
    exact ⟨rfl, rfl⟩
  cases h7 : (s.toList == [105, 110])
  rotate_left
  · simp only [h0, h1, h2, h3, h4, h5, h6, h7, Bool.or_true, Bool.false_or, Bool.true_or]
    go_enter Tryz.func71, Tryz.ntmps71
    go_wp2_with fail
    go_ret
    exact ⟨rfl, rfl⟩
  cases h8 : (s.toList == [115, 113, 114, 116])
  rotate_left
  · simp only [h0, h1, h2, h3, h4, h5, h6, h7, h8, Bool.or_true, Bool.false_or, Bool.true_or]
    go_enter Tryz.func71, Tryz.ntmps71
    go_wp2_with fail
    go_ret
    exact ⟨rfl, rfl⟩
  cases h9 : (s.toList == [97, 98, 115])
  rotate_left
  · simp only [h0, h1, h2, h3, h4, h5, h6, h7, h8, h9, Bool.or_true, Bool.false_or, Bool.true_or]
    go_enter Tryz.func71, Tryz.ntmps71
    go_wp2_with fail
    go_ret
    exact ⟨rfl, rfl⟩
  go_enter Tryz.func71, Tryz.ntmps71
  go_wp2_with fail
  go_ret
  exact ⟨rfl, rfl⟩
/-- Signs of two bytes, and of one. -/
def isS2 (l : List UInt8) : Bool := l == [61, 61] || (l == [33, 61] || (l == [60, 61] || (l == [62, 61] || (l == [38, 38] || (l == [124, 124])))))
def isS1 (b : Int) : Bool := b == 43 || (b == 45 || (b == 42 || (b == 47 || (b == 40 || (b == 41 || (b == 91 || (b == 93 || (b == 123 || (b == 125 || (b == 59 || (b == 44 || (b == 61 || (b == 60 || (b == 62 || (b == 33)))))))))))))))
/-- How long the sign is that a list begins with. -/
def sgnN (l : List UInt8) : Nat := if 2 ≤ l.length ∧ isS2 (l.take 2) = true then 2 else if 1 ≤ l.length ∧ isS1 (l.headD 0).toNat = true then 1 else 0
theorem toL_head (s : ByteArray) (h : 0 < s.size) : s.toList.headD 0 = s[0] := by
  have h2 : 0 < s.data.toList.length := h
  rw [toL]
  show s.data.toList.headD 0 = s.data.toList[0]
  rw [List.headD_eq_head?_getD, List.head?_eq_getElem?, List.getElem?_eq_getElem h2]; rfl
set_option maxRecDepth 100000 in
set_option maxHeartbeats 3200000 in
theorem signOf_any (s : ByteArray) (w : World) : Calls Tryz.prog 55 #[.string s] w fun e w' => e = .returned (.int .i64 (sgnN s.toList : Nat)) ∧ w' = w := by
  unfold sgnN
  rw [toL_len]
  rcases (show s.size = 0 ∨ s.size = 1 ∨ 2 ≤ s.size by omega) with hs | hs | hs
  · rw [if_neg (by omega), if_neg (by omega)]
    go_enter Tryz.func55, Tryz.ntmps55
    go_wp2_with fail
    go_ret
    exact ⟨rfl, rfl⟩
  · have h0 : 0 < s.size := by omega
    have l1 : 1 ≤ s.size := by omega
    rw [if_neg (by omega), toL_head s h0]
    unfold isS1
    cases g0 : (((s[0]'h0).toNat : Int) == 43)
    rotate_left
    · simp only [g0, Bool.or_true, Bool.false_or, Bool.true_or, if_true, and_true, if_pos l1]
      go_enter Tryz.func55, Tryz.ntmps55
      go_wp2_with fail
      go_ret
      exact ⟨rfl, rfl⟩
    cases g1 : (((s[0]'h0).toNat : Int) == 45)
    rotate_left
    · simp only [g0, g1, Bool.or_true, Bool.false_or, Bool.true_or, if_true, and_true, if_pos l1]
      go_enter Tryz.func55, Tryz.ntmps55
      go_wp2_with fail
      go_ret
      exact ⟨rfl, rfl⟩
    cases g2 : (((s[0]'h0).toNat : Int) == 42)
    rotate_left
    · simp only [g0, g1, g2, Bool.or_true, Bool.false_or, Bool.true_or, if_true, and_true, if_pos l1]
      go_enter Tryz.func55, Tryz.ntmps55
      go_wp2_with fail
      go_ret
      exact ⟨rfl, rfl⟩
    cases g3 : (((s[0]'h0).toNat : Int) == 47)
    rotate_left
    · simp only [g0, g1, g2, g3, Bool.or_true, Bool.false_or, Bool.true_or, if_true, and_true, if_pos l1]
      go_enter Tryz.func55, Tryz.ntmps55
      go_wp2_with fail
      go_ret
      exact ⟨rfl, rfl⟩
    cases g4 : (((s[0]'h0).toNat : Int) == 40)
    rotate_left
    · simp only [g0, g1, g2, g3, g4, Bool.or_true, Bool.false_or, Bool.true_or, if_true, and_true, if_pos l1]
      go_enter Tryz.func55, Tryz.ntmps55
      go_wp2_with fail
      go_ret
      exact ⟨rfl, rfl⟩
    cases g5 : (((s[0]'h0).toNat : Int) == 41)
    rotate_left
    · simp only [g0, g1, g2, g3, g4, g5, Bool.or_true, Bool.false_or, Bool.true_or, if_true, and_true, if_pos l1]
      go_enter Tryz.func55, Tryz.ntmps55
      go_wp2_with fail
      go_ret
      exact ⟨rfl, rfl⟩
    cases g6 : (((s[0]'h0).toNat : Int) == 91)
    rotate_left
    · simp only [g0, g1, g2, g3, g4, g5, g6, Bool.or_true, Bool.false_or, Bool.true_or, if_true, and_true, if_pos l1]
      go_enter Tryz.func55, Tryz.ntmps55
      go_wp2_with fail
      go_ret
      exact ⟨rfl, rfl⟩
    cases g7 : (((s[0]'h0).toNat : Int) == 93)
    rotate_left
    · simp only [g0, g1, g2, g3, g4, g5, g6, g7, Bool.or_true, Bool.false_or, Bool.true_or, if_true, and_true, if_pos l1]
      go_enter Tryz.func55, Tryz.ntmps55
      go_wp2_with fail
      go_ret
      exact ⟨rfl, rfl⟩
    cases g8 : (((s[0]'h0).toNat : Int) == 123)
    rotate_left
    · simp only [g0, g1, g2, g3, g4, g5, g6, g7, g8, Bool.or_true, Bool.false_or, Bool.true_or, if_true, and_true, if_pos l1]
      go_enter Tryz.func55, Tryz.ntmps55
      go_wp2_with fail
      go_ret
      exact ⟨rfl, rfl⟩
    cases g9 : (((s[0]'h0).toNat : Int) == 125)
    rotate_left
    · simp only [g0, g1, g2, g3, g4, g5, g6, g7, g8, g9, Bool.or_true, Bool.false_or, Bool.true_or, if_true, and_true, if_pos l1]
      go_enter Tryz.func55, Tryz.ntmps55
      go_wp2_with fail
      go_ret
      exact ⟨rfl, rfl⟩
    cases g10 : (((s[0]'h0).toNat : Int) == 59)
    rotate_left
    · simp only [g0, g1, g2, g3, g4, g5, g6, g7, g8, g9, g10, Bool.or_true, Bool.false_or, Bool.true_or, if_true, and_true, if_pos l1]
      go_enter Tryz.func55, Tryz.ntmps55
      go_wp2_with fail
      go_ret
      exact ⟨rfl, rfl⟩
    cases g11 : (((s[0]'h0).toNat : Int) == 44)
    rotate_left
    · simp only [g0, g1, g2, g3, g4, g5, g6, g7, g8, g9, g10, g11, Bool.or_true, Bool.false_or, Bool.true_or, if_true, and_true, if_pos l1]
      go_enter Tryz.func55, Tryz.ntmps55
      go_wp2_with fail
      go_ret
      exact ⟨rfl, rfl⟩
    cases g12 : (((s[0]'h0).toNat : Int) == 61)
    rotate_left
    · simp only [g0, g1, g2, g3, g4, g5, g6, g7, g8, g9, g10, g11, g12, Bool.or_true, Bool.false_or, Bool.true_or, if_true, and_true, if_pos l1]
      go_enter Tryz.func55, Tryz.ntmps55
      go_wp2_with fail
      go_ret
      exact ⟨rfl, rfl⟩
    cases g13 : (((s[0]'h0).toNat : Int) == 60)
    rotate_left
    · simp only [g0, g1, g2, g3, g4, g5, g6, g7, g8, g9, g10, g11, g12, g13, Bool.or_true, Bool.false_or, Bool.true_or, if_true, and_true, if_pos l1]
      go_enter Tryz.func55, Tryz.ntmps55
      go_wp2_with fail
      go_ret
      exact ⟨rfl, rfl⟩
    cases g14 : (((s[0]'h0).toNat : Int) == 62)
    rotate_left
    · simp only [g0, g1, g2, g3, g4, g5, g6, g7, g8, g9, g10, g11, g12, g13, g14, Bool.or_true, Bool.false_or, Bool.true_or, if_true, and_true, if_pos l1]
      go_enter Tryz.func55, Tryz.ntmps55
      go_wp2_with fail
      go_ret
      exact ⟨rfl, rfl⟩
    cases g15 : (((s[0]'h0).toNat : Int) == 33)
    rotate_left
    · simp only [g0, g1, g2, g3, g4, g5, g6, g7, g8, g9, g10, g11, g12, g13, g14, g15, Bool.or_true, Bool.false_or, Bool.true_or, if_true, and_true, if_pos l1]
      go_enter Tryz.func55, Tryz.ntmps55
      go_wp2_with fail
      go_ret
      exact ⟨rfl, rfl⟩
    simp only [g0, g1, g2, g3, g4, g5, g6, g7, g8, g9, g10, g11, g12, g13, g14, g15, Bool.or_false, Bool.false_eq_true, and_false, if_false]
    go_enter Tryz.func55, Tryz.ntmps55
    go_wp2_with fail
    go_ret
    exact ⟨rfl, rfl⟩
  · have h0 : 0 < s.size := by omega
    have l1 : 1 ≤ s.size := by omega
    have l2 : 2 ≤ (s.size : Int) := by omega
    rw [toL_head s h0, show s.toList.take 2 = (s.extract 0 2).toList by rw [toL_cut]; rfl]
    simp only [hs, true_and]
    unfold isS1 isS2
    cases k0 : ((s.extract 0 2).toList == [61, 61])
    rotate_left
    · simp only [k0, Bool.or_true, Bool.false_or, Bool.true_or, if_true]
      clear hs
      go_enter Tryz.func55, Tryz.ntmps55
      go_wp2_with fail
      go_ret
      exact ⟨rfl, rfl⟩
    cases k1 : ((s.extract 0 2).toList == [33, 61])
    rotate_left
    · simp only [k0, k1, Bool.or_true, Bool.false_or, Bool.true_or, if_true]
      clear hs
      go_enter Tryz.func55, Tryz.ntmps55
      go_wp2_with fail
      go_ret
      exact ⟨rfl, rfl⟩
    cases k2 : ((s.extract 0 2).toList == [60, 61])
    rotate_left
    · simp only [k0, k1, k2, Bool.or_true, Bool.false_or, Bool.true_or, if_true]
      clear hs
      go_enter Tryz.func55, Tryz.ntmps55
      go_wp2_with fail
      go_ret
      exact ⟨rfl, rfl⟩
    cases k3 : ((s.extract 0 2).toList == [62, 61])
    rotate_left
    · simp only [k0, k1, k2, k3, Bool.or_true, Bool.false_or, Bool.true_or, if_true]
      clear hs
      go_enter Tryz.func55, Tryz.ntmps55
      go_wp2_with fail
      go_ret
      exact ⟨rfl, rfl⟩
    cases k4 : ((s.extract 0 2).toList == [38, 38])
    rotate_left
    · simp only [k0, k1, k2, k3, k4, Bool.or_true, Bool.false_or, Bool.true_or, if_true]
      clear hs
      go_enter Tryz.func55, Tryz.ntmps55
      go_wp2_with fail
      go_ret
      exact ⟨rfl, rfl⟩
    cases k5 : ((s.extract 0 2).toList == [124, 124])
    rotate_left
    · simp only [k0, k1, k2, k3, k4, k5, Bool.or_true, Bool.false_or, Bool.true_or, if_true]
      clear hs
      go_enter Tryz.func55, Tryz.ntmps55
      go_wp2_with fail
      go_ret
      exact ⟨rfl, rfl⟩
    simp only [k0, k1, k2, k3, k4, k5, Bool.or_false, Bool.false_eq_true, if_false]
    clear hs
    cases g0 : (((s[0]'h0).toNat : Int) == 43)
    rotate_left
    · simp only [g0, Bool.or_true, Bool.false_or, Bool.true_or, if_true, and_true, if_pos l1]
      go_enter Tryz.func55, Tryz.ntmps55
      go_wp2_with fail
      go_ret
      exact ⟨rfl, rfl⟩
    cases g1 : (((s[0]'h0).toNat : Int) == 45)
    rotate_left
    · simp only [g0, g1, Bool.or_true, Bool.false_or, Bool.true_or, if_true, and_true, if_pos l1]
      go_enter Tryz.func55, Tryz.ntmps55
      go_wp2_with fail
      go_ret
      exact ⟨rfl, rfl⟩
    cases g2 : (((s[0]'h0).toNat : Int) == 42)
    rotate_left
    · simp only [g0, g1, g2, Bool.or_true, Bool.false_or, Bool.true_or, if_true, and_true, if_pos l1]
      go_enter Tryz.func55, Tryz.ntmps55
      go_wp2_with fail
      go_ret
      exact ⟨rfl, rfl⟩
    cases g3 : (((s[0]'h0).toNat : Int) == 47)
    rotate_left
    · simp only [g0, g1, g2, g3, Bool.or_true, Bool.false_or, Bool.true_or, if_true, and_true, if_pos l1]
      go_enter Tryz.func55, Tryz.ntmps55
      go_wp2_with fail
      go_ret
      exact ⟨rfl, rfl⟩
    cases g4 : (((s[0]'h0).toNat : Int) == 40)
    rotate_left
    · simp only [g0, g1, g2, g3, g4, Bool.or_true, Bool.false_or, Bool.true_or, if_true, and_true, if_pos l1]
      go_enter Tryz.func55, Tryz.ntmps55
      go_wp2_with fail
      go_ret
      exact ⟨rfl, rfl⟩
    cases g5 : (((s[0]'h0).toNat : Int) == 41)
    rotate_left
    · simp only [g0, g1, g2, g3, g4, g5, Bool.or_true, Bool.false_or, Bool.true_or, if_true, and_true, if_pos l1]
      go_enter Tryz.func55, Tryz.ntmps55
      go_wp2_with fail
      go_ret
      exact ⟨rfl, rfl⟩
    cases g6 : (((s[0]'h0).toNat : Int) == 91)
    rotate_left
    · simp only [g0, g1, g2, g3, g4, g5, g6, Bool.or_true, Bool.false_or, Bool.true_or, if_true, and_true, if_pos l1]
      go_enter Tryz.func55, Tryz.ntmps55
      go_wp2_with fail
      go_ret
      exact ⟨rfl, rfl⟩
    cases g7 : (((s[0]'h0).toNat : Int) == 93)
    rotate_left
    · simp only [g0, g1, g2, g3, g4, g5, g6, g7, Bool.or_true, Bool.false_or, Bool.true_or, if_true, and_true, if_pos l1]
      go_enter Tryz.func55, Tryz.ntmps55
      go_wp2_with fail
      go_ret
      exact ⟨rfl, rfl⟩
    cases g8 : (((s[0]'h0).toNat : Int) == 123)
    rotate_left
    · simp only [g0, g1, g2, g3, g4, g5, g6, g7, g8, Bool.or_true, Bool.false_or, Bool.true_or, if_true, and_true, if_pos l1]
      go_enter Tryz.func55, Tryz.ntmps55
      go_wp2_with fail
      go_ret
      exact ⟨rfl, rfl⟩
    cases g9 : (((s[0]'h0).toNat : Int) == 125)
    rotate_left
    · simp only [g0, g1, g2, g3, g4, g5, g6, g7, g8, g9, Bool.or_true, Bool.false_or, Bool.true_or, if_true, and_true, if_pos l1]
      go_enter Tryz.func55, Tryz.ntmps55
      go_wp2_with fail
      go_ret
      exact ⟨rfl, rfl⟩
    cases g10 : (((s[0]'h0).toNat : Int) == 59)
    rotate_left
    · simp only [g0, g1, g2, g3, g4, g5, g6, g7, g8, g9, g10, Bool.or_true, Bool.false_or, Bool.true_or, if_true, and_true, if_pos l1]
      go_enter Tryz.func55, Tryz.ntmps55
      go_wp2_with fail
      go_ret
      exact ⟨rfl, rfl⟩
    cases g11 : (((s[0]'h0).toNat : Int) == 44)
    rotate_left
    · simp only [g0, g1, g2, g3, g4, g5, g6, g7, g8, g9, g10, g11, Bool.or_true, Bool.false_or, Bool.true_or, if_true, and_true, if_pos l1]
      go_enter Tryz.func55, Tryz.ntmps55
      go_wp2_with fail
      go_ret
      exact ⟨rfl, rfl⟩
    cases g12 : (((s[0]'h0).toNat : Int) == 61)
    rotate_left
    · simp only [g0, g1, g2, g3, g4, g5, g6, g7, g8, g9, g10, g11, g12, Bool.or_true, Bool.false_or, Bool.true_or, if_true, and_true, if_pos l1]
      go_enter Tryz.func55, Tryz.ntmps55
      go_wp2_with fail
      go_ret
      exact ⟨rfl, rfl⟩
    cases g13 : (((s[0]'h0).toNat : Int) == 60)
    rotate_left
    · simp only [g0, g1, g2, g3, g4, g5, g6, g7, g8, g9, g10, g11, g12, g13, Bool.or_true, Bool.false_or, Bool.true_or, if_true, and_true, if_pos l1]
      go_enter Tryz.func55, Tryz.ntmps55
      go_wp2_with fail
      go_ret
      exact ⟨rfl, rfl⟩
    cases g14 : (((s[0]'h0).toNat : Int) == 62)
    rotate_left
    · simp only [g0, g1, g2, g3, g4, g5, g6, g7, g8, g9, g10, g11, g12, g13, g14, Bool.or_true, Bool.false_or, Bool.true_or, if_true, and_true, if_pos l1]
      go_enter Tryz.func55, Tryz.ntmps55
      go_wp2_with fail
      go_ret
      exact ⟨rfl, rfl⟩
    cases g15 : (((s[0]'h0).toNat : Int) == 33)
    rotate_left
    · simp only [g0, g1, g2, g3, g4, g5, g6, g7, g8, g9, g10, g11, g12, g13, g14, g15, Bool.or_true, Bool.false_or, Bool.true_or, if_true, and_true, if_pos l1]
      go_enter Tryz.func55, Tryz.ntmps55
      go_wp2_with fail
      go_ret
      exact ⟨rfl, rfl⟩
    simp only [g0, g1, g2, g3, g4, g5, g6, g7, g8, g9, g10, g11, g12, g13, g14, g15, Bool.or_false, Bool.false_eq_true, and_false, if_false]
    go_enter Tryz.func55, Tryz.ntmps55
    go_wp2_with fail
    go_ret
    exact ⟨rfl, rfl⟩
end Go.Proofs.YtknoibocpbfmmaaGreatDoor

namespace Go.Proofs.YtknoibocpbfmmaaGreatDoor
open Go.RowKit
set_option linter.unusedVariables false
set_option linter.unusedSimpArgs false
theorem countOf_l (s : ByteArray) (m : Nat) (mi : Int) (hm : m = 1 ∧ mi = 1 ∨ m = 2 ∧ mi = 2 ∨ m = 4 ∧ mi = 4 ∨ m = 14 ∧ mi = 14) (hs : s.size ≤ 9223372036854775807) (w : World) :
    Calls Tryz.prog 30 #[.string s, .int .i64 mi] w fun e w' => e = .returned (.int .i64 (cnt m s.toList : Nat)) ∧ Below w.heap.size w w' := by
  rw [toL]
  exact countOf_any s m mi hm hs w
theorem cnt_size (m : Nat) (s : ByteArray) : cnt m s.toList ≤ s.size := by rw [← toL_len]; exact cnt_le m _
/-- Is a list of bytes a name? -/
def isN (l : List UInt8) : Bool := decide (0 < cnt 2 l) && (decide (cnt 14 l = l.length) && (decide (l.length ≤ 16) && !isW l))
set_option maxRecDepth 100000 in
set_option maxHeartbeats 1600000 in
theorem isName_any (s : ByteArray) (hs : s.size ≤ 9223372036854775807) (w : World) : Calls Tryz.prog 69 #[.string s] w fun e w' => e = .returned (.bool (isN s.toList)) ∧ Below w.heap.size w w' := by
  have h2 := countOf_l s 2 2 (by simp) hs
  have h14 := countOf_l s 14 14 (by simp) hs
  have hw := isWord_any s
  unfold isN
  rw [toL_len]
  have z2 := cnt_size 2 s
  have z14 := cnt_size 14 s
  generalize cnt 2 s.toList = n2 at *
  generalize cnt 14 s.toList = n14 at *
  generalize isW s.toList = b at *
  by_cases c1 : 0 < n2
  · have i1 : (0 : Int) < (n2 : Int) := by omega
    rw [decide_eq_true c1, Bool.true_and]
    by_cases c2 : n14 = s.size
    · have i2 : ((n14 : Int) == (s.size : Int)) = true := by rw [beq_iff_eq]; omega
      rw [decide_eq_true c2, Bool.true_and]
      by_cases c3 : s.size ≤ 16
      · have i3 : (s.size : Int) ≤ 16 := by omega
        rw [decide_eq_true c3, Bool.true_and]
        clear hs z2 z14 c1 c2 c3
        go_enter Tryz.func69, Tryz.ntmps69
        go_wp2_with (first
          | (go_at_call_of 30 (Value.int IntKind.i64 2); refine (h2 _).mono ?_; rintro e w1 ⟨rfl, b1⟩)
          | (go_at_call_of 30 (Value.int IntKind.i64 14); refine (h14 _).mono ?_; rintro e w2 ⟨rfl, b2⟩)
          | (go_at_call 71; refine (hw _).mono ?_; rintro e w3 ⟨rfl, rfl⟩)
          | fail)
        go_ret
        exact ⟨rfl, fx_below_call (fx_below_call (Below.refl _ _) b1) b2⟩
      · have i3 : ¬ (s.size : Int) ≤ 16 := by omega
        rw [decide_eq_false c3, Bool.false_and]
        clear hs z2 z14 c1 c2 c3
        go_enter Tryz.func69, Tryz.ntmps69
        go_wp2_with (first
          | (go_at_call_of 30 (Value.int IntKind.i64 2); refine (h2 _).mono ?_; rintro e w1 ⟨rfl, b1⟩)
          | (go_at_call_of 30 (Value.int IntKind.i64 14); refine (h14 _).mono ?_; rintro e w2 ⟨rfl, b2⟩)
          | fail)
        go_ret
        exact ⟨rfl, fx_below_call (fx_below_call (Below.refl _ _) b1) b2⟩
    · have i2 : ((n14 : Int) == (s.size : Int)) = false := by rw [beq_eq_false_iff_ne]; omega
      rw [decide_eq_false c2, Bool.false_and]
      clear hs z2 z14 c1 c2
      go_enter Tryz.func69, Tryz.ntmps69
      go_wp2_with (first
        | (go_at_call_of 30 (Value.int IntKind.i64 2); refine (h2 _).mono ?_; rintro e w1 ⟨rfl, b1⟩)
        | (go_at_call_of 30 (Value.int IntKind.i64 14); refine (h14 _).mono ?_; rintro e w2 ⟨rfl, b2⟩)
        | fail)
      go_ret
      exact ⟨rfl, fx_below_call (fx_below_call (Below.refl _ _) b1) b2⟩
  · obtain rfl : n2 = 0 := by omega
    rw [decide_eq_false c1, Bool.false_and]
    clear hs z2 z14 c1
    go_enter Tryz.func69, Tryz.ntmps69
    go_wp2_with (first
      | (go_at_call_of 30 (Value.int IntKind.i64 2); refine (h2 _).mono ?_; rintro e w1 ⟨rfl, b1⟩)
      | fail)
    go_ret
    exact ⟨rfl, fx_below_call (Below.refl _ _) b1⟩
/-- A word or a name: its kind and its length. -/
def wonL (l : List UInt8) : Nat × Nat := if isW (l.take (cnt 14 l)) then (2, cnt 14 l) else if isN (l.take (cnt 14 l)) then (1, cnt 14 l) else (0, 0)
set_option maxRecDepth 100000 in
set_option maxHeartbeats 1600000 in
theorem won_any (s : ByteArray) (hs : s.size ≤ 9223372036854775807) (w : World) : Calls Tryz.prog 53 #[.string s] w fun e w' => e = .returned (.tuple #[.int .i64 ((wonL s.toList).1 : Nat), .int .i64 ((wonL s.toList).2 : Nat)]) ∧ Below w.heap.size w w' := by
  have h14 := countOf_l s 14 14 (by simp) hs
  have z14 := cnt_size 14 s
  unfold wonL
  generalize cnt 14 s.toList = n at *
  have hz : (s.extract 0 n).size ≤ 9223372036854775807 := by rw [← toL_len, toL_cut]; simp; rw [toL_len]; omega
  have hw := isWord_any (s.extract 0 n)
  have hn := isName_any (s.extract 0 n) hz
  rw [toL_cut, List.drop_zero] at hw hn
  have i1 : (n : Int) ≤ (s.size : Int) := by omega
  clear hz z14
  cases c1 : isW (s.toList.take n)
  · rw [c1] at hw
    cases c2 : isN (s.toList.take n)
    · rw [c2] at hn
      clear c1 c2
      go_enter Tryz.func53, Tryz.ntmps53
      go_wp2_with (first
        | (go_at_call 30; refine (h14 _).mono ?_; rintro e w1 ⟨rfl, b1⟩)
        | (go_at_call 71; refine (hw _).mono ?_; rintro e w3 ⟨rfl, rfl⟩)
        | (go_at_call 69; refine (hn _).mono ?_; rintro e w4 ⟨rfl, b4⟩)
        | fail)
      refine bodyPost_ret (v := .tuple #[.int .i64 0, .int .i64 0]) (by simp [results, Tryz.results53, go_sem]; done) rfl ?_
      exact ⟨rfl, fx_below_call (fx_below_call (Below.refl _ _) b1) b4⟩
    · rw [c2] at hn
      clear c1 c2
      go_enter Tryz.func53, Tryz.ntmps53
      go_wp2_with (first
        | (go_at_call 30; refine (h14 _).mono ?_; rintro e w1 ⟨rfl, b1⟩)
        | (go_at_call 71; refine (hw _).mono ?_; rintro e w3 ⟨rfl, rfl⟩)
        | (go_at_call 69; refine (hn _).mono ?_; rintro e w4 ⟨rfl, b4⟩)
        | fail)
      refine bodyPost_ret (v := .tuple #[.int .i64 1, .int .i64 n]) (by simp [results, Tryz.results53, go_sem]; done) rfl ?_
      exact ⟨rfl, fx_below_call (fx_below_call (Below.refl _ _) b1) b4⟩
  · rw [c1] at hw
    clear c1 hn
    go_enter Tryz.func53, Tryz.ntmps53
    go_wp2_with (first
      | (go_at_call_of 30 (Value.int IntKind.i64 14); refine (h14 _).mono ?_; rintro e w1 ⟨rfl, b1⟩)
      | (go_at_call 71; refine (hw _).mono ?_; rintro e w3 ⟨rfl, rfl⟩)
      | fail)
    refine bodyPost_ret (v := .tuple #[.int .i64 2, .int .i64 n]) (by simp [results, Tryz.results53, go_sem]) rfl ?_
    exact ⟨rfl, fx_below_call (Below.refl _ _) b1⟩
/-- A number: its kind and its length. -/
def iorL (l : List UInt8) : Nat × Nat := if l[cnt 4 l]? = some 46 ∧ 0 < cnt 4 (l.drop (cnt 4 l + 1)) then (4, cnt 4 l + 1 + cnt 4 (l.drop (cnt 4 l + 1))) else (3, cnt 4 l)
theorem toL_at (s : ByteArray) (n : Nat) (h : n < s.size) : s.toList[n]? = some s[n] := by
  rw [toL]; exact List.getElem?_eq_getElem (l := s.data.toList) h
set_option maxRecDepth 100000 in
set_option maxHeartbeats 1600000 in
theorem ior_any (s : ByteArray) (hs : s.size ≤ 9223372036854775807) (w : World) : Calls Tryz.prog 54 #[.string s] w fun e w' => e = .returned (.tuple #[.int .i64 ((iorL s.toList).1 : Nat), .int .i64 ((iorL s.toList).2 : Nat)]) ∧ Below w.heap.size w w' := by
  have h4 := countOf_l s 4 4 (by simp) hs
  have z4 := cnt_size 4 s
  unfold iorL
  generalize cnt 4 s.toList = n at *
  have i1 : (n : Int) ≤ (s.size : Int) := by omega
  by_cases c1 : n < s.size
  · have j1 : (n : Int) < (s.size : Int) := by omega
    rw [toL_at s n c1]
    have hz : (s.extract (n + 1) s.size).size ≤ 9223372036854775807 := by rw [← toL_len, toL_cut]; simp; rw [toL_len]; omega
    have h5 := countOf_l (s.extract (n + 1) s.size) 4 4 (by simp) hz
    rw [toL_cut, List.take_of_length_le (by rw [toL_len]; exact Nat.le_refl _)] at h5
    have z5 : cnt 4 (s.toList.drop (n + 1)) ≤ s.size - (n + 1) := by
      have := cnt_le 4 (s.toList.drop (n + 1))
      rw [List.length_drop, toL_len] at this
      exact this
    generalize cnt 4 (s.toList.drop (n + 1)) = k at *
    obtain ⟨b, hb⟩ : ∃ b : UInt8, s[n]'c1 = b := ⟨_, rfl⟩
    rw [hb]
    by_cases c2 : b = 46
    · subst c2
      have q2 : (((s[n]'c1).toNat : Int) == 46) = true := by rw [hb]; rfl
      by_cases c3 : 0 < k
      · have i3 : (0 : Int) < (k : Int) := by omega
        have i4 : (n : Int) + 1 + (k : Int) < 9223372036854775808 := by omega
        have i5 : (n : Int) + 1 ≤ (s.size : Int) := by omega
        rw [if_pos ⟨rfl, c3⟩]
        clear hz z5 z4 hs
        go_enter Tryz.func54, Tryz.ntmps54
        go_wp2_with (first
          | (go_at_call_of 30 (Value.string s); refine (h4 _).mono ?_; rintro e w1 ⟨rfl, b1⟩)
          | (go_at_call 30; refine (h5 _).mono ?_; rintro e w2 ⟨rfl, b2⟩)
          | fail)
        refine bodyPost_ret (v := .tuple #[.int .i64 4, .int .i64 ((n : Int) + 1 + k)]) (by simp [results, Tryz.results54, go_sem]; done) rfl ?_
        exact ⟨rfl, fx_below_call (fx_below_call (Below.refl _ _) b1) b2⟩
      · obtain rfl : k = 0 := by omega
        have i4 : (n : Int) + 1 < 9223372036854775808 := by omega
        have i5 : (n : Int) + 1 ≤ (s.size : Int) := by omega
        rw [if_neg (fun t => c3 t.2)]
        clear hz z5 z4 hs c3
        go_enter Tryz.func54, Tryz.ntmps54
        go_wp2_with (first
          | (go_at_call_of 30 (Value.string s); refine (h4 _).mono ?_; rintro e w1 ⟨rfl, b1⟩)
          | (go_at_call 30; refine (h5 _).mono ?_; rintro e w2 ⟨rfl, b2⟩)
          | fail)
        refine bodyPost_ret (v := .tuple #[.int .i64 3, .int .i64 n]) (by simp [results, Tryz.results54, go_sem]; done) rfl ?_
        exact ⟨rfl, fx_below_call (fx_below_call (Below.refl _ _) b1) b2⟩
    · have q2 : (((s[n]'c1).toNat : Int) == 46) = false := by
        rw [hb, beq_eq_false_iff_ne]
        intro e
        exact c2 (UInt8.toNat_inj.mp (by simpa using (by exact_mod_cast e : b.toNat = 46)))
      rw [if_neg (fun t => c2 (Option.some.inj t.1))]
      clear hz z5 z4 hs h5 hb c2
      go_enter Tryz.func54, Tryz.ntmps54
      go_wp2_with (first
        | (go_at_call_of 30 (Value.string s); refine (h4 _).mono ?_; rintro e w1 ⟨rfl, b1⟩)
        | fail)
      refine bodyPost_ret (v := .tuple #[.int .i64 3, .int .i64 n]) (by simp [results, Tryz.results54, go_sem]; done) rfl ?_
      exact ⟨rfl, fx_below_call (Below.refl _ _) b1⟩
  · have j1 : ¬ (n : Int) < (s.size : Int) := by omega
    rw [if_neg (fun t => by rw [List.getElem?_eq_none (by rw [toL_len]; omega)] at t; simp at t)]
    clear z4 hs
    go_enter Tryz.func54, Tryz.ntmps54
    go_wp2_with (first
      | (go_at_call_of 30 (Value.string s); refine (h4 _).mono ?_; rintro e w1 ⟨rfl, b1⟩)
      | fail)
    refine bodyPost_ret (v := .tuple #[.int .i64 3, .int .i64 n]) (by simp [results, Tryz.results54, go_sem]; done) rfl ?_
    exact ⟨rfl, fx_below_call (Below.refl _ _) b1⟩
/-- The longest token that a list begins with: its kind (0: none) and its length. -/
def tok (l : List UInt8) : Nat × Nat := if 0 < cnt 2 l then wonL l else if 0 < cnt 4 l then iorL l else if 0 < sgnN l then (5, sgnN l) else (0, 0)
set_option maxRecDepth 100000 in
set_option maxHeartbeats 1600000 in
theorem longest_any (s : ByteArray) (hs : s.size ≤ 9223372036854775807) (w : World) : Calls Tryz.prog 31 #[.string s] w fun e w' => e = .returned (.tuple #[.int .i64 ((tok s.toList).1 : Nat), .int .i64 ((tok s.toList).2 : Nat)]) ∧ Below w.heap.size w w' := by
  have h2 := countOf_l s 2 2 (by simp) hs
  have h4 := countOf_l s 4 4 (by simp) hs
  have hw := won_any s hs
  have hi := ior_any s hs
  have hg := signOf_any s
  unfold tok
  generalize cnt 2 s.toList = n2 at *
  generalize cnt 4 s.toList = n4 at *
  generalize wonL s.toList = T2 at *
  generalize iorL s.toList = T4 at *
  generalize sgnN s.toList = g at *
  obtain ⟨k2, l2⟩ := T2
  obtain ⟨k4, l4⟩ := T4
  clear hs
  by_cases c1 : 0 < n2
  · have i1 : (0 : Int) < (n2 : Int) := by omega
    rw [if_pos c1]
    clear c1 h4 hi hg
    go_enter Tryz.func31, Tryz.ntmps31
    go_wp2_with (first
      | (go_at_call_of 30 (Value.int IntKind.i64 2); refine (h2 _).mono ?_; rintro e w1 ⟨rfl, b1⟩)
      | (go_at_call 53; refine (hw _).mono ?_; rintro e w2 ⟨rfl, b2⟩)
      | fail)
    refine bodyPost_ret (v := .tuple #[.int .i64 k2, .int .i64 l2]) (by simp [results, Tryz.results31, go_sem]; done) rfl ?_
    exact ⟨rfl, fx_below_call (fx_below_call (Below.refl _ _) b1) b2⟩
  · obtain rfl : n2 = 0 := by omega
    rw [if_neg c1]
    clear c1 hw
    by_cases c2 : 0 < n4
    · have i2 : (0 : Int) < (n4 : Int) := by omega
      rw [if_pos c2]
      clear c2 hg
      go_enter Tryz.func31, Tryz.ntmps31
      go_wp2_with (first
        | (go_at_call_of 30 (Value.int IntKind.i64 2); refine (h2 _).mono ?_; rintro e w1 ⟨rfl, b1⟩)
        | (go_at_call_of 30 (Value.int IntKind.i64 4); refine (h4 _).mono ?_; rintro e w2 ⟨rfl, b2⟩)
        | (go_at_call 54; refine (hi _).mono ?_; rintro e w3 ⟨rfl, b3⟩)
        | fail)
      refine bodyPost_ret (v := .tuple #[.int .i64 k4, .int .i64 l4]) (by simp [results, Tryz.results31, go_sem]; done) rfl ?_
      exact ⟨rfl, fx_below_call (fx_below_call (fx_below_call (Below.refl _ _) b1) b2) b3⟩
    · obtain rfl : n4 = 0 := by omega
      rw [if_neg c2]
      clear c2 hi
      by_cases c3 : 0 < g
      · have i3 : (0 : Int) < (g : Int) := by omega
        rw [if_pos c3]
        clear c3
        go_enter Tryz.func31, Tryz.ntmps31
        go_wp2_with (first
          | (go_at_call_of 30 (Value.int IntKind.i64 2); refine (h2 _).mono ?_; rintro e w1 ⟨rfl, b1⟩)
          | (go_at_call_of 30 (Value.int IntKind.i64 4); refine (h4 _).mono ?_; rintro e w2 ⟨rfl, b2⟩)
          | (go_at_call 55; refine (hg _).mono ?_; rintro e w3 ⟨rfl, rfl⟩)
          | fail)
        refine bodyPost_ret (v := .tuple #[.int .i64 5, .int .i64 g]) (by simp [results, Tryz.results31, go_sem]; done) rfl ?_
        exact ⟨rfl, fx_below_call (fx_below_call (Below.refl _ _) b1) b2⟩
      · obtain rfl : g = 0 := by omega
        rw [if_neg c3]
        clear c3
        go_enter Tryz.func31, Tryz.ntmps31
        go_wp2_with (first
          | (go_at_call_of 30 (Value.int IntKind.i64 2); refine (h2 _).mono ?_; rintro e w1 ⟨rfl, b1⟩)
          | (go_at_call_of 30 (Value.int IntKind.i64 4); refine (h4 _).mono ?_; rintro e w2 ⟨rfl, b2⟩)
          | (go_at_call 55; refine (hg _).mono ?_; rintro e w3 ⟨rfl, rfl⟩)
          | fail)
        refine bodyPost_ret (v := .tuple #[.int .i64 0, .int .i64 0]) (by simp [results, Tryz.results31, go_sem]; done) rfl ?_
        exact ⟨rfl, fx_below_call (fx_below_call (Below.refl _ _) b1) b2⟩
end Go.Proofs.YtknoibocpbfmmaaGreatDoor

namespace Go.Proofs.YtknoibocpbfmmaaGreatDoor
open Go.RowKit
set_option linter.unusedVariables false
set_option linter.unusedSimpArgs false
theorem cnt_2_14 : ∀ l, cnt 2 l ≤ cnt 14 l
  | [] => Nat.le_refl _
  | b :: t => by
    have ih := cnt_2_14 t
    simp only [cnt]
    rcases kb_five b.toNat with k | k | k | k | k <;> rw [k] <;> simp <;> omega
theorem sgnN_le (l : List UInt8) : sgnN l ≤ l.length := by
  unfold sgnN; (repeat' split) <;> omega
theorem tok_le (l : List UInt8) : (tok l).2 ≤ l.length := by
  have a := cnt_le 14 l
  have b := cnt_le 4 l
  have c := sgnN_le l
  unfold tok
  split
  · unfold wonL; (repeat' split) <;> simp <;> omega
  · split
    · unfold iorL
      split
      · rename_i h
        have d := cnt_le 4 (l.drop (cnt 4 l + 1))
        rw [List.length_drop] at d
        have e : cnt 4 l < l.length := by
          by_cases q : cnt 4 l < l.length
          · exact q
          · rw [List.getElem?_eq_none (by omega)] at h; simp at h
        simp; omega
      · exact b
    · split
      · exact c
      · simp
theorem tok_pos {l : List UInt8} (h : (tok l).1 ≠ 0) : 1 ≤ (tok l).2 := by
  have a := cnt_2_14 l
  revert h
  unfold tok
  split
  · unfold wonL; (repeat' split) <;> simp <;> omega
  · split
    · unfold iorL
      split <;> simp <;> omega
    · split <;> simp <;> omega
/-- The tokens from a place on (at which no blank stands), of which so many are told: kinds, places, lengths; or the error and its place. -/
def scanAt (l : List UInt8) (a n : Nat) : Except (Nat × Nat) (List (Nat × Nat × Nat)) :=
  if l.length = 0 then .ok []
  else if hk : (tok l).1 = 0 then .error (3, a)
  else if n = 2048 then .error (5, a)
  else
    match scanAt ((l.drop (tok l).2).drop (cnt 1 (l.drop (tok l).2))) (a + (tok l).2 + cnt 1 (l.drop (tok l).2)) (n + 1) with
    | .ok r => .ok (((tok l).1, a, (tok l).2) :: r)
    | .error e => .error e
  termination_by l.length
  decreasing_by
    have := tok_pos hk
    simp only [List.length_drop]
    omega
def scanL (l : List UInt8) : Except (Nat × Nat) (List (Nat × Nat × Nat)) :=
  if 8192 < l.length then .error (5, 0) else scanAt (l.drop (cnt 1 l)) (cnt 1 l) 0
/-- What is told, and then the rest. -/
def andThen (t : List (Nat × Nat × Nat)) : Except (Nat × Nat) (List (Nat × Nat × Nat)) → Except (Nat × Nat) (List (Nat × Nat × Nat))
  | .ok r => .ok (t ++ r)
  | .error e => .error e
theorem scanAt_step (l : List UInt8) (a n : Nat) (t : List (Nat × Nat × Nat)) (h0 : l.length ≠ 0) (hk : (tok l).1 ≠ 0) (hn : n ≠ 2048) :
    andThen t (scanAt l a n) = andThen (t ++ [((tok l).1, a, (tok l).2)]) (scanAt ((l.drop (tok l).2).drop (cnt 1 (l.drop (tok l).2))) (a + (tok l).2 + cnt 1 (l.drop (tok l).2)) (n + 1)) := by
  rw [scanAt, if_neg h0, dif_neg hk, if_neg hn]
  cases scanAt ((l.drop (tok l).2).drop (cnt 1 (l.drop (tok l).2))) (a + (tok l).2 + cnt 1 (l.drop (tok l).2)) (n + 1) <;> simp [andThen]
theorem scanAt_end (l : List UInt8) (a n : Nat) (h0 : l.length = 0) : scanAt l a n = .ok [] := by rw [scanAt, if_pos h0]
theorem scanAt_bad (l : List UInt8) (a n : Nat) (h0 : l.length ≠ 0) (hk : (tok l).1 = 0) : scanAt l a n = .error (3, a) := by rw [scanAt, if_neg h0, dif_pos hk]
theorem scanAt_full (l : List UInt8) (a : Nat) (h0 : l.length ≠ 0) (hk : (tok l).1 ≠ 0) : scanAt l a 2048 = .error (5, a) := by rw [scanAt, if_neg h0, dif_neg hk, if_pos rfl]
/-- The cells of tokens in a slice. -/
def tcells (s : ByteArray) : List (Nat × Nat × Nat) → List Value
  | [] => []
  | (k, a, n) :: t => Value.int .i64 (k : Nat) :: Value.string (s.extract a (a + n)) :: Value.int .i64 (a : Nat) :: tcells s t
theorem tcells_app (s : ByteArray) : ∀ t u, tcells s (t ++ u) = tcells s t ++ tcells s u
  | [], u => rfl
  | (k, a, n) :: t, u => by simp only [tcells, List.cons_append, tcells_app s t u]
end Go.Proofs.YtknoibocpbfmmaaGreatDoor

