/- An int's digits with noughts ahead and behind: what conv.Literal tells of them. -/
import Derived.Test.YtfdinlomlcnjnaaDoorConvIn
namespace Go.Proofs.YtfdinlomlcnjnaaDoor
open Go.RowKit
set_option linter.unusedVariables false
set_option linter.unusedSimpArgs false
theorem dec_whole (s : Bool) (n pl : Nat) (h : n * 10 ^ pl < 18446744073709551616) : decT s (n * 10 ^ pl) pl = rnd s 0 false n 0 := by
  obtain ⟨_, bl⟩ := dec_fit (n * 10 ^ pl) h
  unfold decT
  obtain ⟨U, hU⟩ : ∃ U : Nat, 128 - blen (n * 10 ^ pl) = U := ⟨_, rfl⟩
  have p0 : 0 < (10 : Nat) ^ pl := Nat.pow_pos (by decide)
  have e1 : n * 10 ^ pl * 2 ^ U = n * 2 ^ U * 10 ^ pl := by rw [Nat.mul_assoc, Nat.mul_comm (10 ^ pl), ← Nat.mul_assoc]
  have e2 : clamp (-(128 - (blen (n * 10 ^ pl) : Int))) = 0 - (U : Int) := by unfold clamp; omega
  rw [hU, e1, Nat.mul_div_cancel _ p0, Nat.mul_mod_left, e2]
  simp only [ne_eq, not_true_eq_false, decide_false]
  rw [rndQ_false, rnd_scale]
def txtS (L : List UInt8) : ByteArray := ⟨L.toArray⟩
theorem txtS_size (L : List UInt8) : (txtS L).size = L.length := by
  show L.toArray.size = L.length
  simp
theorem txtS_get (L : List UInt8) (j : Nat) (h : j < (txtS L).size) : (txtS L)[j]'h = L[j]'(by rw [txtS_size] at h; exact h) := rfl
/-- Digits with '.0' behind. -/
theorem lit_one (fm : Int) (k : Nat) (F : Nat → Nat) (k1 : 1 ≤ k) (k2 : k ≤ 10) (hF : ∀ j, F j ≤ 9) (w : World) :
    Calls Tryd.prog 22 #[.int .i64 fm, .string (txtS (digL F k ++ [46, 48]))] w fun e w' => e = .returned (.tuple #[.int .u64 (rnd (fm == 1) 0 false (dN F k) 0), .int .i64 0]) ∧ Below w.heap.size w w' := by
  have sz : (txtS (digL F k ++ [46, 48])).size = k + 1 + 1 := by rw [txtS_size, List.length_append, digL_len]; rfl
  have hg : ∀ j, (fun j => if j < k then F j else 0) j ≤ 9 := fun j => by
    by_cases q : j < k
    · simp only [q, if_true]; exact hF j
    · simp only [q, if_false]; omega
  have t := literal_any fm (txtS (digL F k ++ [46, 48])) k 1 (fun j => if j < k then F j else 0) hg sz k1 (by omega) (by omega)
    (fun j h hj => by
      rw [txtS_get, List.getElem_append_left (by rw [digL_len]; exact hj), digL_get F k j hF (by rw [digL_len]; exact hj), if_pos hj])
    (fun h => by
      rw [txtS_get, List.getElem_append_right (by rw [digL_len]; omega)]
      simp [digL_len])
    (fun j h => by
      have j0 : j = 0 := by rw [sz] at h; omega
      subst j0
      rw [txtS_get, List.getElem_append_right (by rw [digL_len]; omega)]
      simp [digL_len]) w
  have v : dN (fun j => if j < k then F j else 0) (k + 1) = dN F k * 10 ^ 1 := by
    show 10 * dN (fun j => if j < k then F j else 0) k + (if k < k then F k else 0) = dN F k * 10 ^ 1
    rw [dN_ext (g := F) k (fun j hj => by simp only [hj, if_true]), if_neg (by omega)]
    omega
  have bd : dN F k * 10 ^ 1 < 18446744073709551616 := by
    have a := dN_lt F hF k
    have b : (10 : Nat) ^ k ≤ 10 ^ 10 := Nat.pow_le_pow_right (by decide) k2
    have c : (10 : Nat) ^ 10 = 10000000000 := rfl
    omega
  rw [v, dec_whole _ _ _ bd] at t
  exact t
theorem lead0 (F : Nat → Nat) (k : Nat) : ∀ q, q ≤ k → dN (fun j => if j < 2 then 0 else if j < k + 2 then F (j - 2) else 0) (q + 2) = dN F q
  | 0, _ => rfl
  | q + 1, h => by
    show 10 * dN _ (q + 2) + (if q + 2 < 2 then 0 else if q + 2 < k + 2 then F (q + 2 - 2) else 0) = 10 * dN F q + F q
    rw [lead0 F k q (by omega), if_neg (by omega), if_pos (by omega), Nat.add_sub_cancel]
/-- Digits with '00' ahead and '.00' behind. -/
theorem lit_two (fm : Int) (k : Nat) (F : Nat → Nat) (k1 : 1 ≤ k) (k2 : k ≤ 10) (hF : ∀ j, F j ≤ 9) (w : World) :
    Calls Tryd.prog 22 #[.int .i64 fm, .string (txtS (([48, 48] ++ digL F k) ++ [46, 48, 48]))] w fun e w' => e = .returned (.tuple #[.int .u64 (rnd (fm == 1) 0 false (dN F k) 0), .int .i64 0]) ∧ Below w.heap.size w w' := by
  have ln : ([48, 48] ++ digL F k).length = k + 2 := by rw [List.length_append, digL_len]; simp; omega
  have sz : (txtS (([48, 48] ++ digL F k) ++ [46, 48, 48])).size = k + 2 + 1 + 2 := by rw [txtS_size, List.length_append, ln]; rfl
  have hg : ∀ j, (fun j => if j < 2 then 0 else if j < k + 2 then F (j - 2) else 0) j ≤ 9 := fun j => by
    dsimp only
    split
    · omega
    · split
      · exact hF _
      · omega
  have t := literal_any fm (txtS (([48, 48] ++ digL F k) ++ [46, 48, 48])) (k + 2) 2 (fun j => if j < 2 then 0 else if j < k + 2 then F (j - 2) else 0) hg sz (by omega) (by omega) (by omega)
    (fun j h hj => by
      rw [txtS_get, List.getElem_append_left (by rw [ln]; exact hj)]
      by_cases q : j < 2
      · rw [List.getElem_append_left (by simpa using q), if_pos q]
        have : j = 0 ∨ j = 1 := by omega
        rcases this with rfl | rfl <;> rfl
      · rw [List.getElem_append_right (by simpa using q), if_neg q, if_pos hj]
        exact digL_get F k (j - 2) hF (by rw [digL_len]; omega))
    (fun h => by
      rw [txtS_get, List.getElem_append_right (by rw [ln]; omega)]
      simp [ln, digL_len])
    (fun j h => by
      have j01 : j = 0 ∨ j = 1 := by rw [sz] at h; omega
      rw [txtS_get, List.getElem_append_right (by rw [ln]; omega)]
      rcases j01 with rfl | rfl
      · simp [digL_len]
      · simp [digL_len]) w
  have v : dN (fun j => if j < 2 then 0 else if j < k + 2 then F (j - 2) else 0) (k + 2 + 2) = dN F k * 10 ^ 2 := by
    show 10 * (10 * dN (fun j => if j < 2 then 0 else if j < k + 2 then F (j - 2) else 0) (k + 2) + (if k + 2 < 2 then 0 else if k + 2 < k + 2 then F (k + 2 - 2) else 0)) + (if k + 2 + 1 < 2 then 0 else if k + 2 + 1 < k + 2 then F (k + 2 + 1 - 2) else 0) = dN F k * 10 ^ 2
    rw [lead0 F k k (Nat.le_refl _)]
    rw [if_neg (show ¬ k + 2 < 2 by omega), if_neg (show ¬ k + 2 < k + 2 by omega), if_neg (show ¬ k + 2 + 1 < 2 by omega), if_neg (show ¬ k + 2 + 1 < k + 2 by omega)]
    omega
  have bd : dN F k * 10 ^ 2 < 18446744073709551616 := by
    have a := dN_lt F hF k
    have b : (10 : Nat) ^ k ≤ 10 ^ 10 := Nat.pow_le_pow_right (by decide) k2
    have c : (10 : Nat) ^ 10 = 10000000000 := rfl
    omega
  rw [v, dec_whole _ _ _ bd] at t
  exact t
theorem cat_one (F : Nat → Nat) (k : Nat) : digS F k ++ ⟨#[46, 48]⟩ = txtS (digL F k ++ [46, 48]) := by
  apply ByteArray.ext
  simp [digS, txtS]
theorem cat_two (F : Nat → Nat) (k : Nat) : (⟨#[48, 48]⟩ : ByteArray) ++ digS F k = txtS ([48, 48] ++ digL F k) := by
  apply ByteArray.ext
  simp [digS, txtS]
theorem cat_three (F : Nat → Nat) (k : Nat) : txtS ([48, 48] ++ digL F k) ++ ⟨#[46, 48, 48]⟩ = txtS (([48, 48] ++ digL F k) ++ [46, 48, 48]) := by
  apply ByteArray.ext
  simp [txtS]
end Go.Proofs.YtfdinlomlcnjnaaDoor

