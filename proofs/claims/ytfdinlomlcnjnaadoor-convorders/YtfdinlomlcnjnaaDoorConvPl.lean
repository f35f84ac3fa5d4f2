/- A number of millionths, as plumblinelaw03 writes it. -/
import Derived.Test.YtfdinlomlcnjnaaDoorConvWh
namespace Go.Proofs.YtfdinlomlcnjnaaDoor
open Go.RowKit
set_option linter.unusedVariables false
set_option linter.unusedSimpArgs false
theorem dN_cons0 (G : Nat → Nat) : ∀ k, dN (fun j => if j = 0 then 0 else G (j - 1)) (k + 1) = dN G k
  | 0 => rfl
  | k + 1 => by
    show 10 * dN (fun j => if j = 0 then 0 else G (j - 1)) (k + 1) + (if k + 1 = 0 then 0 else G (k + 1 - 1)) = 10 * dN G k + G k
    rw [dN_cons0 G k, if_neg (by omega), Nat.add_sub_cancel]
theorem digS_cons0 (G : Nat → Nat) (k : Nat) : (⟨#[48]⟩ : ByteArray) ++ digS G k = digS (fun j => if j = 0 then 0 else G (j - 1)) (k + 1) := by
  unfold digS digL
  apply ByteArray.ext
  simp only [ByteArray.data_append]
  apply Array.ext'
  simp only [Array.toList_append, List.range_succ_eq_map, List.map_cons, List.map_map]
  simp
def strN : Value → Nat
  | .string s => s.size
  | _ => 0
set_option maxRecDepth 100000 in
set_option maxHeartbeats 3200000 in
theorem places_any (n : Nat) (hn : n < 4294967296) (w : World) :
    Calls Tryd.prog 40 #[.int .u32 n] w fun e w' => ∃ (k : Nat) (H G : Nat → Nat), 1 ≤ k ∧ k ≤ 4 ∧ (∀ j, H j ≤ 9) ∧ (∀ j, G j ≤ 9) ∧ dN H k = n / 1000000 ∧ dN G 6 = n % 1000000 ∧ e = .returned (.string ((digS H k ++ ⟨#[46]⟩) ++ digS G 6)) ∧ Below w.heap.size w w' := by
  have d1 := digits_any 5 (n % 1000000) (by have : (10 : Nat) ^ (5 + 1) = 1000000 := rfl; omega) (by omega)
  have d2 := digits_any 3 (n / 1000000) (by have : (10 : Nat) ^ (3 + 1) = 10000 := rfl; omega) (by omega)
  have e1 : (n : Int) % 1000000 = ((n % 1000000 : Nat) : Int) := by omega
  have e2 : (n : Int) / 1000000 = ((n / 1000000 : Nat) : Int) := by omega
  have e1' : (n : Int).tmod 1000000 = ((n % 1000000 : Nat) : Int) := by rw [Int.tmod_eq_emod_of_nonneg (by omega), e1]
  have e2' : (n : Int).tdiv 1000000 = ((n / 1000000 : Nat) : Int) := by rw [Int.tdiv_eq_ediv_of_nonneg (by omega), e2]
  have lx : n % 1000000 < 1000000 := Nat.mod_lt _ (by decide)
  have ly : n / 1000000 < 5000 := by omega
  generalize n % 1000000 = X at *
  generalize n / 1000000 = Y at *
  have xi : (X : Int) < 1000000 := by omega
  have yi : (Y : Int) < 5000 := by omega
  clear hn lx ly
  go_enter Tryd.func40, Tryd.ntmps40
  go_wp2_with fail
  refine (d1 _).mono ?_
  rintro e w1 ⟨k, F, k1, k2, hF, hN, rfl, b1⟩
  go_wp2_with fail
  go_loopw [3] (fun sv wr => ∃ (k : Nat) (G : Nat → Nat), 1 ≤ k ∧ k ≤ 6 ∧ (∀ j, G j ≤ 9) ∧ dN G k = X ∧ sv = .string (digS G k) ∧ Below w.heap.size w wr) (fun sv _ => 6 - strN sv)
  case atStart => exact ⟨k, F, k1, k2, hF, hN, rfl, b1⟩
  case round =>
    clear hF hN k1 k2
    obtain ⟨k, G, g1, g2, hG, hV, rfl, L⟩ := hrel
    have z := digS_size G k
    by_cases c : k < 6
    · have ci : (k : Int) < 6 := by omega
      have J := digS_cons0 G k
      have V := (dN_cons0 G k).trans hV
      have z2 := digS_size (fun j => if j = 0 then 0 else G (j - 1)) (k + 1)
      have hG2 : ∀ j, (fun j => if j = 0 then 0 else G (j - 1)) j ≤ 9 := fun j => by
        dsimp only
        split
        · omega
        · exact hG _
      have lim : 1 + k ≤ 9223372036854775807 := by omega
      have HG2 : Hid _ := hG2
      have HV : Hid _ := V
      have Z : Hid (strN (.string (digS G k)) = k) := z
      have Z2 : Hid (strN (.string (digS (fun j => if j = 0 then 0 else G (j - 1)) (k + 1))) = k + 1) := z2
      obtain ⟨T, hT⟩ : ∃ T, digS (fun j => if j = 0 then 0 else G (j - 1)) (k + 1) = T := ⟨_, rfl⟩
      rw [hT] at J Z2
      have HT : Hid _ := hT
      clear hT z2 hG2 V hG hV d1 d2
      generalize digS G k = D at *
      go_wp2_with fail
      go_roundw
      case rel => exact ⟨k + 1, fun j => if j = 0 then 0 else G (j - 1), by omega, by omega, HG2.out, HV.out, by rw [HT.out], L⟩
      case measure => rw [Z2.out, Z.out]; omega
    · have k6 : k = 6 := by omega
      subst k6
      have HG : Hid _ := hG
      have HV : Hid _ := hV
      clear hG hV d1
      obtain ⟨D, hD⟩ : ∃ D, digS G 6 = D := ⟨_, rfl⟩
      rw [hD] at z ⊢
      have HD : Hid _ := hD
      clear hD
      go_wp2_with fail
      refine (d2 _).mono ?_
      rintro e w2 ⟨m, H, m1, m2, hH, hM, rfl, b2⟩
      have zH := digS_size H m
      obtain ⟨M, hM2⟩ : ∃ M, digS H m ++ (⟨#[46]⟩ : ByteArray) = M := ⟨_, rfl⟩
      have zM : M.size = m + 1 := by rw [← hM2, ByteArray.size_append, zH]; rfl
      have l1 : m + 1 ≤ 9223372036854775807 := by omega
      have l2 : m + 1 + 6 ≤ 9223372036854775807 := by omega
      obtain ⟨T, hT⟩ : ∃ T, M ++ D = T := ⟨_, rfl⟩
      have E : Hid (T = (digS H m ++ ⟨#[46]⟩) ++ digS G 6) := by
        show T = (digS H m ++ ⟨#[46]⟩) ++ digS G 6
        rw [← hT, ← hM2, HD.out]
      have HH : Hid _ := hH
      have HM : Hid _ := hM
      clear hH hM d2
      go_wp2_with fail
      go_ret
      exact ⟨m, H, G, m1, m2, HH.out, HG.out, HM.out, HV.out, congrArg (fun s => Ending.returned (Value.string s)) E.out, below_callC L b2⟩
end Go.Proofs.YtfdinlomlcnjnaaDoor

