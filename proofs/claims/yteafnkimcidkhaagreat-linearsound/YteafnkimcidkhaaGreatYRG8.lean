/- Texts of the proof, put together. -/
import Derived.Test.YteafnkimcidkhaaGreatYRG7
import Derived.Test.YteafnkimcidkhaaGreatYRLjH
import Derived.Test.YteafnkimcidkhaaGreatYRG6
namespace Go.Proofs.YteafnkimcidkhaaGreat
set_option linter.unusedVariables false
set_option linter.unusedSimpArgs false
theorem sumT_rkM (s : Bool) (m : Int) (xb : Bool) (xw x : Nat) (yb : Bool) (yw y : Nat) (L : Int) :
  Res s (sumT s m xb xw (L + x) yb yw (L + y)) (rkM s m (sg xb (xw * 2 ^ x) + sg yb (yw * 2 ^ y)) L) := by
 obtain ⟨k, i, j, hx, hy, hk⟩ : ∃ k i j : Nat, x = i + k ∧ y = j + k ∧ min (L + (x : Int)) (L + y) = L + k :=
  ⟨min x y, x - min x y, y - min x y, by omega, by omega, by omega⟩
 subst hx hy
 unfold sumT
 rw [hk, show (L + ((i + k : Nat) : Int) - (L + k)).toNat = i by omega, show (L + ((j + k : Nat) : Int) - (L + k)).toNat = j by omega]
 have t : rkM s m (sg xb (xw * 2 ^ (i + k)) + sg yb (yw * 2 ^ (j + k))) L = rkM s m (sg xb (xw * 2 ^ i) + sg yb (yw * 2 ^ j)) (L + k) := by
  have := rkM_scale s m (sg xb (xw * 2 ^ i) + sg yb (yw * 2 ^ j)) k (L + k)
  rw [show L + (k : Int) - k = L by omega] at this
  rw [← this]
  congr 1
  rw [Int.add_mul, Nat.pow_add, Nat.pow_add, ← Nat.mul_assoc, ← Nat.mul_assoc]
  unfold sg
  cases xb <;> cases yb <;> simp [Int.neg_mul]
 rw [t]
 generalize xw * 2 ^ i = X
 generalize yw * 2 ^ j = Y
 clear t
 by_cases c : xb = yb
 ·subst c
  rw [if_pos rfl]
  have := rnd_rkM s m xb (X + Y) (L + k)
  rw [show sg xb X + sg xb Y = if xb then -((X + Y : Nat) : Int) else ((X + Y : Nat) : Int) by unfold sg; cases xb <;> simp <;> omega]
  exact this
 ·rw [if_neg c]
  by_cases c1 : X = Y
  ·rw [if_pos c1]
   have := made_res s (m == 2) 0 (Int.le_refl _) (fI_pos s)
   rw [show (if (m == 2) = true then -(0 : Int) else 0) = 0 by split <;> rfl] at this
   rw [show sg xb X + sg yb Y = 0 by subst c1; unfold sg; cases xb <;> cases yb <;> simp at c ⊢ <;> omega]
   exact this
  ·rw [if_neg c1]
   by_cases c2 : Y < X
   ·rw [if_pos c2]
    have := rnd_rkM s m xb (X - Y) (L + k)
    rw [show sg xb X + sg yb Y = if xb then -((X - Y : Nat) : Int) else ((X - Y : Nat) : Int) by unfold sg; cases xb <;> cases yb <;> simp at c ⊢ <;> omega]
    exact this
   ·rw [if_neg c2]
    have := rnd_rkM s m yb (Y - X) (L + k)
    rw [show sg xb X + sg yb Y = if yb then -((Y - X : Nat) : Int) else ((Y - X : Nat) : Int) by unfold sg; cases xb <;> cases yb <;> simp at c ⊢ <;> omega]
    exact this
theorem add_rkM (s : Bool) (m : Int) (b c : Bool) (y z : Nat) (hy : (y : Int) < fI s) (hz : (z : Int) < fI s) : Res s (addF s m (sgnd s b y) (sgnd s c z)) (rkM s m (sg b (val s y) + sg c (val s z)) (fL s)) := by
 obtain ⟨a1, a2⟩ := made_fin s b y hy
 obtain ⟨b1, b2⟩ := made_fin s c z hz
 obtain ⟨i, pi, vi, _⟩ := parts_val s b y hy
 obtain ⟨j, pj, vj, _⟩ := parts_val s c z hz
 unfold addF
 rw [a1, b1, a2, b2]
 simp only [Bool.or_self, Bool.false_eq_true, if_false, Bool.false_and]
 rw [self_sgn s b y hy, self_sgn s c z hz, pi, pj, vi, vj]
 exact sumT_rkM s m b _ i c _ j (fL s)
theorem mul_rkM (s : Bool) (m : Int) (b c : Bool) (y z : Nat) (hy : (y : Int) < fI s) (hz : (z : Int) < fI s) : Res s (mulF s m (sgnd s b y) (sgnd s c z)) (rkM s m (sg b (val s y) * sg c (val s z)) (fL s + fL s)) := by
 obtain ⟨a1, a2⟩ := made_fin s b y hy
 obtain ⟨b1, b2⟩ := made_fin s c z hz
 obtain ⟨i, pi, vi, _⟩ := parts_val s b y hy
 obtain ⟨j, pj, vj, _⟩ := parts_val s c z hz
 unfold mulF
 rw [a1, b1, a2, b2]
 simp only [Bool.or_self, Bool.false_eq_true, if_false, Bool.false_and, Bool.and_false]
 rw [self_sgn s b y hy, self_sgn s c z hz, pi, pj, vi, vj]
 generalize (whl s (sgnd s b y)).toNat = A
 generalize (whl s (sgnd s c z)).toNat = B
 have r := rnd_rkM s m (b != c) (A * B) (fL s + i + (fL s + j))
 have t := rkM_scale s m (if (b != c) = true then -((A * B : Nat) : Int) else ((A * B : Nat) : Int)) (i + j) (fL s + i + (fL s + j))
 rw [show fL s + (i : Int) + (fL s + j) - ((i + j : Nat) : Int) = fL s + fL s by omega] at t
 rw [← t] at r
 rw [show sg b (A * 2 ^ i) * sg c (B * 2 ^ j) = (if (b != c) = true then -((A * B : Nat) : Int) else ((A * B : Nat) : Int)) * 2 ^ (i + j) by
  unfold sg
  rw [Int.pow_add]
  cases b <;> cases c <;> simp [Int.neg_mul, Int.mul_neg, Int.mul_assoc, Int.mul_left_comm, Int.mul_comm]]
 exact r
theorem aR_is {m x y : Int} (x1 : -fI false < x) (x2 : x < fI false) (y1 : -fI false < y) (y2 : y < fI false) : aR m x y = rkM false m (vl false x + vl false y) (fL false) := by
 obtain ⟨b, eb, vb, _⟩ := mk_at false x
 obtain ⟨c, ec, vc, _⟩ := mk_at false y
 have r := add_rkM false m b c x.natAbs y.natAbs (by omega) (by omega)
 rw [vb, vc, ← eb, ← ec] at r
 exact res_rnk r
theorem mR_is {m x y : Int} (x1 : -fI false < x) (x2 : x < fI false) (y1 : -fI false < y) (y2 : y < fI false) : mR m x y = rkM false m (vl false x * vl false y) (fL false + fL false) := by
 obtain ⟨b, eb, vb, _⟩ := mk_at false x
 obtain ⟨c, ec, vc, _⟩ := mk_at false y
 have r := mul_rkM false m b c x.natAbs y.natAbs (by omega) (by omega)
 rw [vb, vc, ← eb, ← ec] at r
 exact res_rnk r
theorem aR_mono {m x y x' y' : Int} (x1 : -fI false < x) (xx : x ≤ x') (x2 : x' < fI false) (y1 : -fI false < y) (yy : y ≤ y') (y2 : y' < fI false) : aR m x y ≤ aR m x' y' := by
 rw [aR_is x1 (by omega) y1 (by omega), aR_is (by omega) x2 (by omega) y2]
 exact rkM_mono false m (Int.add_le_add (vl_mono false xx) (vl_mono false yy)) _
theorem sum_lo {a b c d : Int} (a1 : -fI false < a) (ab : a ≤ b) (b1 : b < fI false) (c1 : -fI false < c) (cd : c ≤ d) (d1 : d < fI false) : loR aR a b c d = aR 2 a c := by
 have h1 := aR_mono (m := 2) a1 (Int.le_refl a) (by omega) c1 cd d1
 have h2 := aR_mono (m := 2) a1 ab b1 c1 (Int.le_refl c) (by omega)
 have h3 := aR_mono (m := 2) a1 ab b1 c1 cd d1
 unfold loR
 omega
theorem sum_hi {a b c d : Int} (a1 : -fI false < a) (ab : a ≤ b) (b1 : b < fI false) (c1 : -fI false < c) (cd : c ≤ d) (d1 : d < fI false) : hiR aR a b c d = aR 1 b d := by
 have h1 := aR_mono (m := 1) a1 ab b1 c1 cd d1
 have h2 := aR_mono (m := 1) a1 ab b1 (show -fI false < d by omega) (Int.le_refl d) d1
 have h3 := aR_mono (m := 1) (show -fI false < b by omega) (Int.le_refl b) b1 c1 cd d1
 unfold hiR
 omega
theorem sumP_ends {a b c d : Int} (a1 : -fI false < a) (ab : a ≤ b) (b1 : b < fI false) (c1 : -fI false < c) (cd : c ≤ d) (d1 : d < fI false) :
  sumP (false, mk false a, mk false b) (false, mk false c, mk false d) = if -fI false < aR 2 a c ∧ aR 2 a c ≤ aR 1 b d ∧ aR 1 b d < fI false then ((false, mk false (aR 2 a c), mk false (aR 1 b d)), true) else ((false, 0, 0), false) := by
 rw [sumP_mk a1 ab b1 c1 cd d1, sum_lo a1 ab b1 c1 cd d1, sum_hi a1 ab b1 c1 cd d1]
end Go.Proofs.YteafnkimcidkhaaGreat



namespace Go.Proofs.YteafnkimcidkhaaGreat
open Go.RowKit
set_option linter.unusedVariables false
set_option linter.unusedSimpArgs false
end Go.Proofs.YteafnkimcidkhaaGreat



namespace Go.Proofs.YteafnkimcidkhaaGreat
open Go.RowKit
set_option linter.unusedVariables false
set_option linter.unusedSimpArgs false
end Go.Proofs.YteafnkimcidkhaaGreat




