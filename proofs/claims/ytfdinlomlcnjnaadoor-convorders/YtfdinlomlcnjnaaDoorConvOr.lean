/- Numbers of millionths as floats: as texts, and in their order. -/
import Derived.Test.YtfdinlomlcnjnaaDoorConvPl
import Derived.Test.YtfdinlomlcnjnaaDoorRndM
namespace Go.Proofs.YtfdinlomlcnjnaaDoor
open Go.RowKit
set_option linter.unusedVariables false
set_option linter.unusedSimpArgs false
theorem dec_fine (s : Bool) (n : Nat) (n0 : n ≠ 0) (hn : n < 18446744073709551616) : decT s n 6 = rnd s 0 false (n * 2 ^ 160 / 1000000) (-160) := by
  obtain ⟨fit, bl⟩ := dec_fit n hn
  obtain ⟨b1, b2⟩ := blen_le n0
  unfold decT
  obtain ⟨U, hU⟩ : ∃ U : Nat, 128 - blen n = U := ⟨_, rfl⟩
  obtain ⟨j, hj⟩ : ∃ j : Nat, U + j = 160 := ⟨160 - U, by omega⟩
  have big : 2 ^ 127 ≤ n * 2 ^ U := by
    have : 2 ^ (blen n - 1) * 2 ^ U ≤ n * 2 ^ U := Nat.mul_le_mul_right _ b1
    rw [← Nat.pow_add, show blen n - 1 + U = 127 by omega] at this
    exact this
  have e2 : clamp (-(128 - (blen n : Int))) = -(U : Int) := by unfold clamp; omega
  rw [hU, e2, show (10 : Nat) ^ 6 = 1000000 from rfl]
  have dm := Nat.div_add_mod (n * 2 ^ U) 1000000
  have rl := Nat.mod_lt (n * 2 ^ U) (show 0 < 1000000 by decide)
  have fine : n * 2 ^ 160 / 1000000 = n * 2 ^ U / 1000000 * 2 ^ j + n * 2 ^ U % 1000000 * 2 ^ j / 1000000 := by
    have e : n * 2 ^ 160 = n * 2 ^ U * 2 ^ j := by rw [Nat.mul_assoc, ← Nat.pow_add, hj]
    rw [e]
    generalize n * 2 ^ U / 1000000 = q at *
    generalize n * 2 ^ U % 1000000 = r at *
    rw [← dm, Nat.add_mul, Nat.mul_assoc, Nat.mul_add_div (by decide)]
  have qb : fP s + 2 ≤ blen (n * 2 ^ U / 1000000) := by
    have : 2 ^ 100 ≤ n * 2 ^ U / 1000000 := (Nat.le_div_iff_mul_le (by decide)).2 (Nat.le_trans (by decide) big)
    have := le_blen this
    have := fP_le s
    omega
  have j20 : 2 ^ 20 ≤ 2 ^ j := Nat.pow_le_pow_right (by decide) (by omega)
  have j20' : (1048576 : Nat) ≤ 2 ^ j := j20
  generalize n * 2 ^ U / 1000000 = q at *
  generalize n * 2 ^ U % 1000000 = r at *
  have tl : r * 2 ^ j / 1000000 < 2 ^ j := by
    apply Nat.div_lt_of_lt_mul
    exact Nat.mul_lt_mul_of_pos_right rl (by omega)
  have tz : decide (r ≠ 0) = decide (r * 2 ^ j / 1000000 ≠ 0) := by
    rw [decide_eq_decide]
    constructor
    · intro r0
      have : 1000000 ≤ r * 2 ^ j := Nat.le_trans (by omega) (Nat.mul_le_mul (show 1 ≤ r by omega) (Nat.le_refl (2 ^ j)))
      have := Nat.div_pos this (by decide)
      omega
    · intro t r0
      subst r0
      simp at t
  rw [rndQ_more s 0 false q j (r * 2 ^ j / 1000000) (-(U : Int)) qb tl (decide (r ≠ 0)) tz, fine]
  congr 1
  omega
theorem rnd_nat (s : Bool) (n : Nat) (e : Int) : ∃ z : Nat, rnd s 0 false n e = z ∧ (z : Int) ≤ fI s := by
  obtain ⟨z, h1, h2, h3⟩ := rnd_made s 0 false n e
  obtain ⟨y, rfl⟩ := Int.eq_ofNat_of_zero_le h2
  exact ⟨y, h1, h3⟩
/-- In their order. -/
theorem dec_order (s : Bool) (a b : Nat) (h : a ≤ b) (hb : b < 18446744073709551616) : Word (decT s a 6) ∧ Word (decT s b 6) ∧ (cmpF s (decT s a 6) (decT s b 6)).2 = true ∧ (cmpF s (decT s a 6) (decT s b 6)).1 ≤ 0 := by
  have key : ∃ y z : Nat, decT s a 6 = y ∧ decT s b 6 = z ∧ (y : Int) ≤ fI s ∧ (z : Int) ≤ fI s ∧ y ≤ z := by
    by_cases a0 : a = 0
    · subst a0
      have e : decT s 0 6 = rnd s 0 false 0 0 := by
        have t := dec_whole s 0 6 (by decide)
        rw [Nat.zero_mul] at t
        exact t
      have e2 : decT s 0 6 = ((0 : Nat) : Int) := by rw [e, rnd_zero]; rfl
      have ez : ∃ z : Nat, decT s b 6 = z ∧ (z : Int) ≤ fI s := by
        unfold decT rndQ
        exact rnd_nat s _ _
      obtain ⟨z, z1, z2⟩ := ez
      exact ⟨0, z, e2, z1, by have := fI_pos s; omega, z2, by omega⟩
    · rw [dec_fine s a a0 (by omega), dec_fine s b (by omega) hb]
      have na : a * 2 ^ 160 / 1000000 ≠ 0 := by
        have p20 : (1000000 : Nat) ≤ 2 ^ 160 := Nat.le_trans (show 1000000 ≤ 2 ^ 20 by decide) (Nat.pow_le_pow_right (by decide) (by decide))
        have p1 : 1 * 2 ^ 160 ≤ a * 2 ^ 160 := Nat.mul_le_mul_right _ (show 1 ≤ a by omega)
        rw [Nat.one_mul] at p1
        exact Nat.ne_of_gt (Nat.div_pos (Nat.le_trans p20 p1) (by decide))
      have nl : a * 2 ^ 160 / 1000000 ≤ b * 2 ^ 160 / 1000000 := Nat.div_le_div_right (Nat.mul_le_mul_right _ h)
      obtain ⟨A, hA⟩ : ∃ A : Nat, a * 2 ^ 160 / 1000000 = A := ⟨_, rfl⟩
      obtain ⟨B, hB⟩ : ∃ B : Nat, b * 2 ^ 160 / 1000000 = B := ⟨_, rfl⟩
      rw [hA] at na nl ⊢
      rw [hB] at nl ⊢
      clear hA hB
      have m := mag_mono s na nl (-160)
      have nb : B ≠ 0 := by omega
      obtain ⟨y, y1, y2⟩ := rnd_nat s A (-160)
      obtain ⟨z, z1, z2⟩ := rnd_nat s B (-160)
      refine ⟨y, z, y1, z1, y2, z2, ?_⟩
      unfold rnd at y1 z1
      rw [if_neg na] at y1
      rw [if_neg nb] at z1
      have y1' : mag s 0 false A (-160) = y := y1
      have z1' : mag s 0 false B (-160) = z := z1
      omega
  obtain ⟨y, z, e1, e2, y1, z1, yz⟩ := key
  have l := fI_lt s
  rw [e1, e2]
  have wy := (made s false y (by omega) (by omega)).1
  have wz := (made s false z (by omega) (by omega)).1
  have ny := num_made s false y (by omega) y1
  have nz := num_made s false z (by omega) z1
  have my := made s false y (by omega) (by omega)
  have mz := made s false z (by omega) (by omega)
  have ey : sgnd s false (y : Int) = y := rfl
  have ez : sgnd s false (z : Int) = z := rfl
  rw [ey] at wy ny my
  rw [ez] at wz nz mz
  have ry : rnk s (y : Int) = y := by unfold rnk; rw [my.2.2.1, my.2.2.2]; rfl
  have rz : rnk s (z : Int) = z := by unfold rnk; rw [mz.2.2.1, mz.2.2.2]; rfl
  refine ⟨wy, wz, ?_, ?_⟩
  · unfold cmpF
    rw [ny, nz]
    rfl
  · unfold cmpF
    rw [ny, nz, ry, rz]
    simp only [Bool.or_self, Bool.false_eq_true, if_false]
    split
    · decide
    · rw [if_neg (by omega)]; decide
theorem dN_split (H G : Nat → Nat) (k : Nat) : ∀ m, dN (fun j => if j < k then H j else G (j - k)) (k + m) = dN H k * 10 ^ m + dN G m
  | 0 => by
    show dN (fun j => if j < k then H j else G (j - k)) k = _
    rw [dN_ext (g := H) k (fun j hj => by simp only [hj, if_true])]
    simp [dN]
  | m + 1 => by
    show 10 * dN (fun j => if j < k then H j else G (j - k)) (k + m) + (if k + m < k then H (k + m) else G (k + m - k)) = dN H k * 10 ^ (m + 1) + (10 * dN G m + G m)
    rw [dN_split H G k m, if_neg (by omega), Nat.add_sub_cancel_left, Nat.pow_succ, ← Nat.mul_assoc]
    omega
theorem lit_places (fm : Int) (k n : Nat) (H G : Nat → Nat) (k1 : 1 ≤ k) (k2 : k ≤ 4) (hH : ∀ j, H j ≤ 9) (hG : ∀ j, G j ≤ 9) (e1 : dN H k = n / 1000000) (e2 : dN G 6 = n % 1000000) (w : World) :
    Calls Tryd.prog 22 #[.int .i64 fm, .string ((digS H k ++ ⟨#[46]⟩) ++ digS G 6)] w fun e w' => e = .returned (.tuple #[.int .u64 (decT (fm == 1) n 6), .int .i64 0]) ∧ Below w.heap.size w w' := by
  have cat : (digS H k ++ (⟨#[46]⟩ : ByteArray)) ++ digS G 6 = txtS ((digL H k ++ [46]) ++ digL G 6) := by
    apply ByteArray.ext
    simp [digS, txtS]
  rw [cat]
  have ln : (digL H k ++ [46]).length = k + 1 := by rw [List.length_append, digL_len]; rfl
  have sz : (txtS ((digL H k ++ [46]) ++ digL G 6)).size = k + 1 + 6 := by rw [txtS_size, List.length_append, ln, digL_len]
  have hg : ∀ j, (fun j => if j < k then H j else G (j - k)) j ≤ 9 := fun j => by
    dsimp only
    split
    · exact hH _
    · exact hG _
  have t := literal_any fm (txtS ((digL H k ++ [46]) ++ digL G 6)) k 6 (fun j => if j < k then H j else G (j - k)) hg sz k1 (by omega) (by omega)
    (fun j h hj => by
      rw [txtS_get, List.getElem_append_left (by rw [ln]; omega), List.getElem_append_left (by rw [digL_len]; exact hj), digL_get H k j hH (by rw [digL_len]; exact hj), if_pos hj])
    (fun h => by
      rw [txtS_get, List.getElem_append_left (by rw [ln]; omega), List.getElem_append_right (by rw [digL_len]; omega)]
      simp [digL_len])
    (fun j h => by
      rw [sz] at h
      rw [txtS_get, List.getElem_append_right (by rw [ln]; omega)]
      have q := digL_get G 6 j hG (by rw [digL_len]; omega)
      rw [if_neg (by omega), Nat.add_sub_cancel_left, ← q]
      congr 2
      rw [ln]
      omega) w
  have v : dN (fun j => if j < k then H j else G (j - k)) (k + 6) = n := by
    rw [dN_split, e1, e2, show (10 : Nat) ^ 6 = 1000000 from rfl]
    omega
  rw [v] at t
  exact t
end Go.Proofs.YtfdinlomlcnjnaaDoor

