/- Digits are one int, with a point and digits one real: the walk of FlexNumbers. -/
import Derived.Test.YtldolcfgfmfiiaaFxDi
import Derived.Test.YtldolcfgfmfiiaaFxO
namespace Go.Proofs.Ytldolcfgfmfiiaa
open Go.RowKit
set_option linter.unusedVariables false
set_option linter.unusedSimpArgs false
theorem toL_app (a b : ByteArray) : (a ++ b).toList = a.toList ++ b.toList := by
  rw [toL, toL, toL, ByteArray.data_append, Array.toList_append]
/-- A list of digits alone. -/
def allD (l : List UInt8) : Prop := ∀ b ∈ l, kb b.toNat = 4
theorem cnt4_all : ∀ {l : List UInt8}, allD l → ∀ r, cnt 4 (l ++ r) = l.length + cnt 4 r
  | [], _, r => by simp
  | b :: t, h, r => by
    have h1 := h b (by simp)
    have h2 := cnt4_all (l := t) (fun x hx => h x (by simp [hx])) r
    simp only [List.cons_append, cnt, h1, h2, List.length_cons]
    simp; omega
theorem cnt_other {m : Nat} (hm : 4 &&& m = 0) {l : List UInt8} (h : allD l) (h0 : l.length ≠ 0) (r : List UInt8) : cnt m (l ++ r) = 0 := by
  cases l with
  | nil => simp at h0
  | cons b t =>
    have h1 := h b (by simp)
    simp only [List.cons_append, cnt, h1, if_pos hm]
theorem tok_int {l : List UInt8} (h : allD l) (h0 : l.length ≠ 0) : tok l = (3, l.length) := by
  have c4 := cnt4_all h []
  have c2 := cnt_other (m := 2) (by decide) h h0 []
  rw [List.append_nil] at c4 c2
  simp only [cnt, Nat.add_zero] at c4
  unfold tok iorL
  rw [c2, if_neg (by omega), c4, if_pos (by omega), List.getElem?_eq_none (Nat.le_refl _), if_neg (by simp)]
theorem tok_point {l : List UInt8} (h : allD l) (h0 : l.length ≠ 0) : tok (l ++ [46]) = (3, l.length) := by
  have c4 := cnt4_all h [46]
  have c2 := cnt_other (m := 2) (by decide) h h0 [46]
  rw [show cnt 4 [46] = 0 by decide +kernel, Nat.add_zero] at c4
  unfold tok iorL
  rw [c2, if_neg (by omega), c4, if_pos (by omega), List.drop_eq_nil_of_le (by simp), show cnt 4 [] = 0 from rfl, if_neg (by simp)]
theorem tok_real {l r : List UInt8} (h : allD l) (h0 : l.length ≠ 0) (hr : allD r) (r0 : r.length ≠ 0) : tok (l ++ [46] ++ r) = (4, (l ++ [46] ++ r).length) := by
  rw [List.append_assoc]
  have c4 := cnt4_all h ([46] ++ r)
  have c2 := cnt_other (m := 2) (by decide) h h0 ([46] ++ r)
  have cr := cnt4_all hr []
  rw [List.append_nil] at cr
  simp only [cnt, Nat.add_zero] at cr
  rw [show cnt 4 ([46] ++ r) = 0 from (by simp only [List.cons_append, List.nil_append, cnt]; rw [show kb (UInt8.toNat 46) = 16 by decide +kernel]; rfl), Nat.add_zero] at c4
  have dr : (l ++ ([46] ++ r)).drop (l.length + 1) = r := by
    rw [List.drop_append]; simp
  unfold tok iorL
  rw [c2, if_neg (by omega), c4, if_pos (by omega), dr, cr]
  rw [if_pos ⟨by rw [List.getElem?_append_right (Nat.le_refl _)]; simp, by omega⟩]
  simp; omega
theorem scan_single {l : List UInt8} {k : Nat} (hk : k ≠ 0) (h1 : cnt 1 l = 0) (h0 : l.length ≠ 0) (hl : l.length ≤ 8192) (ht : tok l = (k, l.length)) : scanL l = .ok [(k, 0, l.length)] := by
  unfold scanL
  rw [if_neg (by omega), h1, List.drop_zero]
  rw [scanAt, if_neg h0, ht, dif_neg hk, if_neg (by omega)]
  rw [scanAt_end _ _ _ (by simp)]
theorem scan_int {l : List UInt8} (h : allD l) (h0 : l.length ≠ 0) (hl : l.length ≤ 8192) : scanL l = .ok [(3, 0, l.length)] := by
  have c1 := cnt_other (m := 1) (by decide) h h0 []
  rw [List.append_nil] at c1
  exact scan_single (by decide) c1 h0 hl (tok_int h h0)
theorem scan_real {l r : List UInt8} (h : allD l) (h0 : l.length ≠ 0) (hr : allD r) (r0 : r.length ≠ 0) (hl : (l ++ [46] ++ r).length ≤ 8192) : scanL (l ++ [46] ++ r) = .ok [(4, 0, (l ++ [46] ++ r).length)] := by
  have c1 := cnt_other (m := 1) (by decide) h h0 ([46] ++ r)
  rw [← List.append_assoc] at c1
  exact scan_single (by decide) c1 (by simp) hl (tok_real h h0 hr r0)
theorem scan_point {l : List UInt8} (h : allD l) (h0 : l.length ≠ 0) (hl : l.length < 8192) : scanL (l ++ [46]) = .error (3, l.length) := by
  unfold scanL
  rw [if_neg (by simp; omega), cnt_other (m := 1) (by decide) h h0 [46], List.drop_zero]
  rw [scanAt, if_neg (by simp), tok_point h h0, dif_neg (by simp), if_neg (by omega)]
  simp only [List.drop_left, show cnt 1 [46] = 0 by decide +kernel, List.drop_zero, Nat.zero_add, Nat.add_zero]
  rw [scanAt_bad [46] l.length 1 (by simp) (by decide +kernel)]
theorem digL_all (F : Nat → Nat) (k : Nat) (hF : ∀ j, F j ≤ 9) : allD (digL F k) := by
  intro b hb
  unfold digL at hb
  obtain ⟨j, _, rfl⟩ := List.mem_map.mp hb
  have := hF j
  rw [show (UInt8.ofNat (48 + F j)).toNat = 48 + F j by simp [UInt8.toNat_ofNat']; omega]
  unfold kb; (repeat' split) <;> omega
/-- All that the walk asks of the texts. -/
theorem texts_of (F G : Nat → Nat) (k m : Nat) (k1 : 1 ≤ k) (m1 : 1 ≤ m) (k2 : k ≤ 10) (m2 : m ≤ 10) (hF : ∀ j, F j ≤ 9) (hG : ∀ j, G j ≤ 9) :
    ∃ X P Y Z : ByteArray, digS F k = X ∧ digS G m = Y ∧ X ++ ⟨#[46]⟩ = P ∧ P ++ Y = Z ∧ X.size = k ∧ P.size = k + 1 ∧ Y.size = m ∧ Z.size = k + 1 + m ∧
      scanL X.toList = .ok [(3, 0, k)] ∧ scanL Z.toList = .ok [(4, 0, k + 1 + m)] ∧ scanL P.toList = .error (3, k) := by
  have sX : (digS F k).toList = digL F k := ByteArray.toList_mk _
  have sY : (digS G m).toList = digL G m := ByteArray.toList_mk _
  have aX := digL_all F k hF
  have aY := digL_all G m hG
  have lX := digL_len F k
  have lY := digL_len G m
  have sP : (digS F k ++ ⟨#[46]⟩).toList = digL F k ++ [46] := by rw [toL_app, sX, toL ⟨#[46]⟩]
  have sZ : (digS F k ++ ⟨#[46]⟩ ++ digS G m).toList = digL F k ++ [46] ++ digL G m := by rw [toL_app, sP, sY]
  refine ⟨_, _, _, _, rfl, rfl, rfl, rfl, ?_, ?_, ?_, ?_, ?_, ?_, ?_⟩
  · rw [← toL_len, sX, lX]
  · rw [← toL_len, sP]; simp [lX]
  · rw [← toL_len, sY, lY]
  · rw [← toL_len, sZ]; simp [lX, lY]; omega
  · rw [sX, scan_int aX (by omega) (by omega), lX]
  · rw [sZ, scan_real aX (by omega) aY (by omega) (by simp [lX, lY]; omega)]
    simp [lX, lY]; omega
  · rw [sP, scan_point aX (by omega) (by omega), lX]
theorem whole_text (X : ByteArray) : ((X.extract 0 X.size).toList == X.toList) = true := by
  rw [toL_cut, List.drop_zero, List.take_of_length_le (by rw [toL_len]; exact Nat.le_refl _)]
  exact beq_self_eq_true _
set_option maxRecDepth 1000000 in
set_option maxHeartbeats 3200000 in
theorem law_numbers (a b : Int) (a0 : 0 ≤ a) (a1 : a ≤ 4294967295) (b0 : 0 ≤ b) (b1 : b ≤ 4294967295) (w : World) : Calls Try.prog 8 #[.int .u32 a, .int .u32 b] w fun e w' => e = .returned (.bool true) ∧ Below w.heap.size w w' := by
  obtain ⟨A, rfl⟩ := Int.eq_ofNat_of_zero_le a0
  obtain ⟨B, rfl⟩ := Int.eq_ofNat_of_zero_le b0
  have hv := live_any
  have hA := digits_any 9 A (by show A < 10000000000; omega) (by omega)
  have hB := digits_any 9 B (by show B < 10000000000; omega) (by omega)
  clear a0 b0
  go_enter Try.func8, Try.ntmps8
  go_wp2_with fail
  refine (hA _).mono ?_
  rintro e w1 ⟨k, F, k1, k2, hF, -, rfl, L1⟩
  go_wp2_with fail
  refine (hB _).mono ?_
  rintro e w2 ⟨m, G, m1, m2, hG, -, rfl, L2⟩
  obtain ⟨X, P, Y, Z, eX, eY, eP, eZ, zX, zP, zY, zZ, s1, s2, s3⟩ := texts_of F G k m k1 m1 (by omega) (by omega) hF hG
  rw [eX, eY]
  have L := below_call L1 L2
  have h1 := scan_ok X _ s1
  have h2 := scan_ok Z _ s2
  have h3 := scan_err P _ _ s3
  have t1 := whole_text X
  have t2 := whole_text Z
  rw [zX] at t1
  rw [zZ] at t2
  simp only [tcells, List.length_cons, List.length_nil, Nat.zero_add] at h1 h2
  generalize X.extract 0 k = T1 at *
  generalize Z.extract 0 (k + 1 + m) = T2 at *
  have lim1 : k + 1 ≤ 9223372036854775807 := by omega
  have lim2 : k + 1 + m ≤ 9223372036854775807 := by omega
  clear eX eY hF hG s1 s2 s3 L1 L2 hA hB k1 k2 m1 m2
  go_wp2_with (first
    | (go_at_call_of 10 (Value.string X); refine (h1 _).mono ?_; rintro e w3 ⟨v, rfl, own, b3⟩; obtain ⟨g1, cap1, rfl, -, -, -, cells⟩ := own_cells own (by simp); have c0 := cells 0 _ rfl; have c1 := cells 1 _ rfl; clear cells own; replace L := below_call L b3)
    | (go_at_call_of 10 (Value.string Z); refine (h2 _).mono ?_; rintro e w4 ⟨v, rfl, own, b4⟩; obtain ⟨g2, cap2, rfl, -, -, -, cells⟩ := own_cells own (by simp); have d0 := cells 0 _ rfl; have d1 := cells 1 _ rfl; clear cells own; replace L := below_call L b4; replace c0 := cell_on b4 c0; replace c1 := cell_on b4 c1)
    | (go_at_call_of 10 (Value.string P); refine (h3 _).mono ?_; rintro e w5 ⟨rfl, b5⟩; replace L := below_call L b5; replace c0 := cell_on b5 c0; replace c1 := cell_on b5 c1; replace d0 := cell_on b5 d0; replace d1 := cell_on b5 d1)
    | (go_at_call 12; refine (hv _).mono ?_; rintro e w6 ⟨rfl, b6⟩; replace L := below_call L b6; replace c0 := cell_on b6 c0; replace c1 := cell_on b6 c1; replace d0 := cell_on b6 d0; replace d1 := cell_on b6 d1)
    | fail)
  go_ret
  exact ⟨rfl, L⟩
end Go.Proofs.Ytldolcfgfmfiiaa
