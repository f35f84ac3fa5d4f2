/- Texts of the proof, put together. -/
import Derived.Test.YtdehcmajhdhcaaaGreatMB1
import Derived.Test.YtdehcmajhdhcaaaGreatZMB3
import Derived.Test.YtdehcmajhdhcaaaGreatMB2
import Derived.Test.YtdehcmajhdhcaaaGreatZFlR
import Derived.Test.YtdehcmajhdhcaaaGreatZG4
namespace Go.Proofs.YtdehcmajhdhcaaaGreat
set_option linter.unusedVariables false
set_option linter.unusedSimpArgs false
def nearUp (n : Nat) (k : Int) : Bool := half n k && (low n k || quo n k % 2 == 1)
theorem nearUp_mono {n n' : Nat} {k : Int} (h : n ≤ n') (hq : quo n k = quo n' k) (hu : nearUp n k = true) : nearUp n' k = true := by
 unfold nearUp at *
 rw [Bool.and_eq_true] at hu ⊢
 obtain ⟨h1, h2⟩ := hu
 unfold half at h1
 rw [Bool.and_eq_true, decide_eq_true_iff, beq_iff_eq] at h1
 obtain ⟨k1, h1⟩ := h1
 obtain ⟨j, hj⟩ : ∃ j, k.toNat = j + 1 := ⟨k.toNat - 1, by omega⟩
 have ej : k.toNat - 1 = j := by omega
 unfold quo at hq
 rw [if_neg (by omega), if_neg (by omega), hj] at hq
 rw [ej] at h1
 have p : 0 < 2 ^ j := Nat.two_pow_pos j
 have d1 : n / 2 ^ (j + 1) = n / 2 ^ j / 2 := by rw [Nat.pow_succ, Nat.div_div_eq_div_mul]
 have d2 : n' / 2 ^ (j + 1) = n' / 2 ^ j / 2 := by rw [Nat.pow_succ, Nat.div_div_eq_div_mul]
 rw [d1, d2] at hq
 have le : n / 2 ^ j ≤ n' / 2 ^ j := Nat.div_le_div_right h
 have he : n' / 2 ^ j = n / 2 ^ j := by omega
 have m1 := Nat.div_add_mod n (2 ^ j)
 have m2 := Nat.div_add_mod n' (2 ^ j)
 rw [he] at m2
 have hr : n % 2 ^ j ≤ n' % 2 ^ j := by
  generalize 2 ^ j * (n / 2 ^ j) = A at *
  omega
 refine ⟨?_, ?_⟩
 ·unfold half
  rw [Bool.and_eq_true, decide_eq_true_iff, beq_iff_eq, ej, he]
  exact ⟨k1, h1⟩
 ·rw [Bool.or_eq_true] at h2 ⊢
  rcases h2 with h2 | h2
  ·left
   unfold low at *
   rw [ej] at *
   rw [Bool.and_eq_true] at h2 ⊢
   refine ⟨h2.1, ?_⟩
   have q := h2.2
   simp at q ⊢
   omega
  ·right
   have : quo n' k = quo n k := by
    unfold quo
    rw [if_neg (by omega), if_neg (by omega), hj, d1, d2, hq]
   rw [this]
   exact h2
theorem near_size (s : Bool) {n : Nat} (h : n ≠ 0) (e E : Int) (h1 : E ≤ e) (h2 : E ≤ fL s) :
  ∃ x q : Nat, lastOf s n e - fL s = x ∧ quo n (lastOf s n e - e) = q ∧ q < 2 ^ (fP s + 1) ∧ (x = 0 ∨ 2 ^ fP s ≤ q) ∧ val s (x * 2 ^ fP s + q) * 2 ^ (fL s - E).toNat ≤ n * 2 ^ (e - E).toNat ∧ n * 2 ^ (e - E).toNat < val s (x * 2 ^ fP s + q + 1) * 2 ^ (fL s - E).toNat ∧
   mag s 0 false n e = (if fI s ≤ ((x * 2 ^ fP s + q + (nearUp n (lastOf s n e - e)).toNat : Nat) : Int) then fI s else ((x * 2 ^ fP s + q + (nearUp n (lastOf s n e - e)).toNat : Nat) : Int)) := by
 obtain ⟨x, ex, q1, q2, q3, q4, q5⟩ := kept s h e E h1 h2
 refine ⟨x, _, ex, rfl, q1, q2, ?_, ?_, ?_⟩
 ·rw [val_at s x _ (by omega) q2, Nat.mul_assoc, ← Nat.pow_add]; exact q3
 ·rw [Nat.add_assoc, val_at s x _ (by omega) (by omega), Nat.mul_assoc, ← Nat.pow_add]; exact q4
 ·unfold mag fin great nearUp
  rw [ex]
  have an : ∀ o h l, away 0 false o h l = (h && (l || o)) := fun o h l => rfl
  simp only [an]
  generalize quo n (lastOf s n e - e) = q
  generalize half n (lastOf s n e - e) = g
  generalize low n (lastOf s n e - e) = l
  have e0 : (if (true && (true || true)) = true then fI s else fI s - 1) = fI s := rfl
  rw [e0]
  have e1 : (x : Int) * 2 ^ fP s + ((q + if (g && (l || q % 2 == 1)) = true then 1 else 0 : Nat) : Int) = ((x * 2 ^ fP s + q + (g && (l || q % 2 == 1)).toNat : Nat) : Int) := by
   generalize (g && (l || q % 2 == 1)) = b
   cases b <;> simp <;> omega
  rw [e1]
theorem mag_mono (s : Bool) {n n' : Nat} (h : n ≠ 0) (le : n ≤ n') (e : Int) : mag s 0 false n e ≤ mag s 0 false n' e := by
 have h' : n' ≠ 0 := by omega
 obtain ⟨x, q, ex, eq, q1, q2, q3, q4, M⟩ := near_size s h e (min e (fL s)) (by omega) (by omega)
 obtain ⟨x', q', ex', eq', q1', q2', q3', q4', M'⟩ := near_size s h' e (min e (fL s)) (by omega) (by omega)
 rw [M, M']
 have p : 0 < 2 ^ (fL s - min e (fL s)).toNat := Nat.two_pow_pos _
 have zz : x * 2 ^ fP s + q < x' * 2 ^ fP s + q' + 1 := by
  apply lt_of_val s
  have t : val s (x * 2 ^ fP s + q) * 2 ^ (fL s - min e (fL s)).toNat < val s (x' * 2 ^ fP s + q' + 1) * 2 ^ (fL s - min e (fL s)).toNat :=
   Nat.lt_of_le_of_lt q3 (Nat.lt_of_le_of_lt (Nat.mul_le_mul_right _ le) q4')
  exact Nat.lt_of_mul_lt_mul_right t
 have key : x * 2 ^ fP s + q + (nearUp n (lastOf s n e - e)).toNat ≤ x' * 2 ^ fP s + q' + (nearUp n' (lastOf s n' e - e)).toNat := by
  by_cases c : x * 2 ^ fP s + q = x' * 2 ^ fP s + q'
  ·have pw : 2 ^ (fP s + 1) = 2 ^ fP s * 2 := Nat.pow_succ _ _
   have uq : x = x' ∧ q = q' := by
    have p2 : 0 < 2 ^ fP s := Nat.two_pow_pos _
    rw [pw] at q1 q1'
    generalize 2 ^ fP s = B at *
    have : x = x' := by
     rcases Nat.lt_trichotomy x x' with l | l | l
     ·exfalso
      obtain ⟨t, rfl⟩ : ∃ t, x' = x + 1 + t := ⟨x' - x - 1, by omega⟩
      rw [Nat.add_mul, Nat.add_mul] at c
      have : B ≤ q' := by rcases q2' with z | z <;> omega
      have t0 : 0 ≤ t * B := Nat.zero_le _
      omega
     ·exact l
     ·exfalso
      obtain ⟨t, rfl⟩ : ∃ t, x = x' + 1 + t := ⟨x - x' - 1, by omega⟩
      rw [Nat.add_mul, Nat.add_mul] at c
      have : B ≤ q := by rcases q2 with z | z <;> omega
      have t0 : 0 ≤ t * B := Nat.zero_le _
      omega
    subst this
    exact ⟨rfl, by omega⟩
   have el : lastOf s n' e = lastOf s n e := by omega
   rw [el] at eq' ⊢
   have qe : quo n (lastOf s n e - e) = quo n' (lastOf s n e - e) := by rw [eq, eq', uq.2]
   rw [c]
   cases b : nearUp n (lastOf s n e - e)
   ·simp
   ·rw [nearUp_mono le qe b]
    exact Nat.le_refl _
  ·have := Bool.toNat_le (nearUp n (lastOf s n e - e))
   omega
 generalize x * 2 ^ fP s + q + (nearUp n (lastOf s n e - e)).toNat = A at *
 generalize x' * 2 ^ fP s + q' + (nearUp n' (lastOf s n' e - e)).toNat = B at *
 split <;> split <;> omega
end Go.Proofs.YtdehcmajhdhcaaaGreat
namespace Go.Proofs.YtdehcmajhdhcaaaGreat
open Go.RowKit
set_option linter.unusedVariables false
set_option linter.unusedSimpArgs false
def le2 (n : Nat) (e : Int) (m : Nat) (f : Int) : Prop := n * 2 ^ (e - min e f).toNat ≤ m * 2 ^ (f - min e f).toNat
theorem le2_at {n : Nat} {e : Int} {m : Nat} {f : Int} (E : Int) (h1 : E ≤ e) (h2 : E ≤ f) : le2 n e m f ↔ n * 2 ^ (e - E).toNat ≤ m * 2 ^ (f - E).toNat := by
 unfold le2
 have a : (e - E).toNat = (e - min e f).toNat + (min e f - E).toNat := by omega
 have b : (f - E).toNat = (f - min e f).toNat + (min e f - E).toNat := by omega
 rw [a, b, Nat.pow_add, Nat.pow_add, ← Nat.mul_assoc, ← Nat.mul_assoc]
 exact (Nat.mul_le_mul_right_iff (Nat.two_pow_pos _)).symm
theorem le2_up (n k : Nat) (e : Int) : le2 n e (n * 2 ^ k) (e - k) ∧ le2 (n * 2 ^ k) (e - k) n e := by
 constructor
 ·refine (le2_at (e - k) (by omega) (by omega)).2 ?_
  rw [show (e - (e - (k : Int))).toNat = k by omega, show (e - (k : Int) - (e - k)).toNat = 0 by omega, Nat.pow_zero, Nat.mul_one]
  exact Nat.le_refl _
 ·refine (le2_at (e - k) (by omega) (by omega)).2 ?_
  rw [show (e - (e - (k : Int))).toNat = k by omega, show (e - (k : Int) - (e - k)).toNat = 0 by omega, Nat.pow_zero, Nat.mul_one]
  exact Nat.le_refl _
theorem worth (s b : Bool) (z : Nat) (h : (z : Int) < fI s) : le2 (val s z) (fL s) (whl s (sgnd s b z)).toNat (pwr s (sgnd s b z)) ∧ le2 (whl s (sgnd s b z)).toNat (pwr s (sgnd s b z)) (val s z) (fL s) := by
 obtain ⟨x, q, e, q1, q2, w, p⟩ := size_parts s b z h
 rw [w, p]
 have v := val_at s x q (by omega) q2
 rw [← e] at v
 rw [v]
 obtain ⟨a, b⟩ := le2_up q x (fL s + x)
 rw [show fL s + (x : Int) - x = fL s by omega] at a b
 exact ⟨b, a⟩
theorem down2 (s : Bool) {n : Nat} (h : n ≠ 0) (e : Int) : ∃ z : Nat, mag s 2 false n e = z ∧ (z : Int) < fI s ∧ le2 (val s z) (fL s) n e := by
 obtain ⟨z, a, b, c⟩ := mag_down s 2 false (fun o h l => by cases o <;> cases h <;> cases l <;> rfl) h e (min e (fL s)) (by omega) (by omega)
 exact ⟨z, a, b, (le2_at _ (by omega) (by omega)).2 c⟩
theorem whl_pos (s b : Bool) (z : Nat) (z0 : z ≠ 0) (h : (z : Int) < fI s) : (whl s (sgnd s b z)).toNat ≠ 0 ∧ (whl s (sgnd s b z)).toNat < 2 ^ 53 := by
 obtain ⟨x, q, e, q1, q2, w, p⟩ := size_parts s b z h
 rw [w]
 constructor
 ·intro c
  subst c
  rcases q2 with c | c
  ·subst c; simp at e; exact z0 e
  ·have := Nat.two_pow_pos (fP s); omega
 ·exact Nat.lt_of_lt_of_le q1 (Nat.pow_le_pow_right (by decide) (by have := fP_le s; omega))
theorem quot_big (s : Bool) (wa wb : Nat) (a0 : wa ≠ 0) (b0 : wb ≠ 0) (hb : wb < 2 ^ 53) : fP s + 2 ≤ blen (wa * 2 ^ 130 / wb) := by
 have big : 2 ^ 77 ≤ wa * 2 ^ 130 / wb := by
  rw [Nat.le_div_iff_mul_le (by omega)]
  have h1 : 2 ^ 77 * wb ≤ 2 ^ 77 * 2 ^ 53 := Nat.mul_le_mul_left _ (Nat.le_of_lt hb)
  have e : 2 ^ 77 * 2 ^ 53 = 2 ^ 130 := by rw [← Nat.pow_add]
  have h2 : 2 ^ 130 ≤ wa * 2 ^ 130 := Nat.le_mul_of_pos_left _ (Nat.pos_of_ne_zero a0)
  rw [e] at h1
  exact Nat.le_trans h1 h2
 have := le_blen big
 have := fP_le s
 omega
end Go.Proofs.YtdehcmajhdhcaaaGreat
namespace Go.Proofs.YtdehcmajhdhcaaaGreat
set_option linter.unusedVariables false
set_option linter.unusedSimpArgs false
def mg (s : Bool) (n : Nat) (e : Int) : Int := if n = 0 then 0 else mag s 0 false n e
theorem mg_bd (s : Bool) (n : Nat) (e : Int) : 0 ≤ mg s n e ∧ mg s n e ≤ fI s := by
 unfold mg
 split
 ·exact ⟨Int.le_refl _, fI_pos s⟩
 ·rename_i h
  obtain ⟨z, e1, e2⟩ := mag_any s 0 false h e
  rw [e1]
  exact ⟨by omega, e2⟩
theorem mg_mono (s : Bool) {n m : Nat} (h : n ≤ m) (e : Int) : mg s n e ≤ mg s m e := by
 by_cases c : n = 0
 ·have := mg_bd s m e
  unfold mg at this ⊢
  rw [if_pos c]
  exact this.1
 ·unfold mg
  rw [if_neg c, if_neg (by omega)]
  exact mag_mono s c h e
theorem mg_scale (s : Bool) (n j : Nat) (e : Int) : mg s (n * 2 ^ j) (e - j) = mg s n e := by
 have p := Nat.two_pow_pos j
 unfold mg
 by_cases c : n = 0
 ·rw [if_pos c, if_pos (by rw [c, Nat.zero_mul])]
 ·rw [if_neg c, if_neg (by intro h; rcases Nat.mul_eq_zero.1 h with h | h <;> omega)]
  exact mag_scale s 0 false c j e
theorem mag_near (s b : Bool) (n : Nat) (e : Int) : mag s 0 b n e = mag s 0 false n e := by
 unfold mag fin great
 have an : ∀ b o h l, away 0 b o h l = (h && (l || o)) := fun b o h l => rfl
 simp only [an]
def rk (s : Bool) (n : Int) (e : Int) : Int := if n < 0 then -(mg s n.natAbs e) else mg s n.natAbs e
theorem rk_mono (s : Bool) {n m : Int} (h : n ≤ m) (e : Int) : rk s n e ≤ rk s m e := by
 have b1 := mg_bd s n.natAbs e
 have b2 := mg_bd s m.natAbs e
 unfold rk
 split
 ·split
  ·have := mg_mono s (show m.natAbs ≤ n.natAbs by omega) e
   omega
  ·omega
 ·split
  ·omega
  ·exact mg_mono s (by omega) e
theorem rk_scale (s : Bool) (n : Int) (j : Nat) (e : Int) : rk s (n * 2 ^ j) (e - j) = rk s n e := by
 have p := Nat.two_pow_pos j
 have q : (0 : Int) < 2 ^ j := by exact_mod_cast p
 have a : (n * 2 ^ j).natAbs = n.natAbs * 2 ^ j := by
  rw [Int.natAbs_mul, Int.natAbs_pow]; rfl
 unfold rk
 rw [a, mg_scale]
 by_cases c : n < 0
 ·rw [if_pos c, if_pos (Int.mul_neg_of_neg_of_pos c q)]
 ·rw [if_neg c, if_neg (by have := Int.mul_nonneg (show 0 ≤ n by omega) (Int.le_of_lt q); omega)]
theorem rnd_rk (s b : Bool) (n : Nat) (e : Int) : Res s (rnd s 0 b n e) (rk s (if b then -(n : Int) else n) e) := by
 have bd := mg_bd s n e
 have r := made_res s b (mg s n e) bd.1 bd.2
 have e1 : rnd s 0 b n e = sgnd s b (mg s n e) := by
  unfold rnd mg
  split
  ·rfl
  ·rw [mag_near]
 have e2 : rk s (if b then -(n : Int) else n) e = if b then -(mg s n e) else mg s n e := by
  unfold rk
  cases b
  ·simp only [Bool.false_eq_true, if_false, Int.natAbs_natCast]
   rw [if_neg (by omega)]
  ·simp only [if_true, Int.natAbs_neg, Int.natAbs_natCast]
   by_cases c : n = 0
   ·subst c; simp [mg]
   ·rw [if_pos (by omega)]
 rw [e1, e2]
 exact r
def sg (b : Bool) (n : Nat) : Int := if b then -(n : Int) else n
theorem sumT_rk (s : Bool) (xb : Bool) (xw x : Nat) (yb : Bool) (yw y : Nat) (L : Int) :
  Res s (sumT s 0 xb xw (L + x) yb yw (L + y)) (rk s (sg xb (xw * 2 ^ x) + sg yb (yw * 2 ^ y)) L) := by
 obtain ⟨k, i, j, hx, hy, hk⟩ : ∃ k i j : Nat, x = i + k ∧ y = j + k ∧ min (L + (x : Int)) (L + y) = L + k :=
  ⟨min x y, x - min x y, y - min x y, by omega, by omega, by omega⟩
 subst hx hy
 unfold sumT
 rw [hk, show (L + ((i + k : Nat) : Int) - (L + k)).toNat = i by omega, show (L + ((j + k : Nat) : Int) - (L + k)).toNat = j by omega]
 have t : rk s (sg xb (xw * 2 ^ (i + k)) + sg yb (yw * 2 ^ (j + k))) L = rk s (sg xb (xw * 2 ^ i) + sg yb (yw * 2 ^ j)) (L + k) := by
  have := rk_scale s (sg xb (xw * 2 ^ i) + sg yb (yw * 2 ^ j)) k (L + k)
  rw [show L + (k : Int) - k = L by omega] at this
  rw [← this]
  congr 1
  rw [Int.add_mul, Nat.pow_add, Nat.pow_add, ← Nat.mul_assoc, ← Nat.mul_assoc]
  unfold sg
  cases xb <;> cases yb <;> simp [Int.neg_mul]
 rw [t]
 generalize xw * 2 ^ i = X
 generalize yw * 2 ^ j = Y
 clear t
 by_cases c : xb = yb
 ·subst c
  rw [if_pos rfl]
  have := rnd_rk s xb (X + Y) (L + k)
  rw [show sg xb X + sg xb Y = if xb then -((X + Y : Nat) : Int) else ((X + Y : Nat) : Int) by unfold sg; cases xb <;> simp <;> omega]
  exact this
 ·rw [if_neg c]
  by_cases c1 : X = Y
  ·rw [if_pos c1]
   have := made_res s false 0 (Int.le_refl _) (fI_pos s)
   rw [show sg xb X + sg yb Y = 0 by subst c1; unfold sg; cases xb <;> cases yb <;> simp at c ⊢ <;> omega]
   exact this
  ·rw [if_neg c1]
   by_cases c2 : Y < X
   ·rw [if_pos c2]
    have := rnd_rk s xb (X - Y) (L + k)
    rw [show sg xb X + sg yb Y = if xb then -((X - Y : Nat) : Int) else ((X - Y : Nat) : Int) by unfold sg; cases xb <;> cases yb <;> simp at c ⊢ <;> omega]
    exact this
   ·rw [if_neg c2]
    have := rnd_rk s yb (Y - X) (L + k)
    rw [show sg xb X + sg yb Y = if yb then -((Y - X : Nat) : Int) else ((Y - X : Nat) : Int) by unfold sg; cases xb <;> cases yb <;> simp at c ⊢ <;> omega]
    exact this
theorem parts_val (s b : Bool) (z : Nat) (h : (z : Int) < fI s) : ∃ x : Nat, pwr s (sgnd s b z) = fL s + x ∧ val s z = (whl s (sgnd s b z)).toNat * 2 ^ x ∧ x ≤ z := by
 obtain ⟨x, q, e, q1, q2, w, p⟩ := size_parts s b z h
 refine ⟨x, p, ?_, ?_⟩
 ·rw [w, e]; exact val_at s x q (by omega) q2
 ·rw [e]
  have := Nat.le_mul_of_pos_right x (Nat.two_pow_pos (fP s))
  omega
theorem made_fin (s b : Bool) (z : Nat) (h : (z : Int) < fI s) : (cls s (sgnd s b z) == 0 || cls s (sgnd s b z) == 5) = false ∧ (cls s (sgnd s b z) == 4) = false := n_num (n_fin s b z h)
theorem add_rk (s b c : Bool) (y z : Nat) (hy : (y : Int) < fI s) (hz : (z : Int) < fI s) : Res s (addF s 0 (sgnd s b y) (sgnd s c z)) (rk s (sg b (val s y) + sg c (val s z)) (fL s)) := by
 obtain ⟨a1, a2⟩ := made_fin s b y hy
 obtain ⟨b1, b2⟩ := made_fin s c z hz
 obtain ⟨i, pi, vi, _⟩ := parts_val s b y hy
 obtain ⟨j, pj, vj, _⟩ := parts_val s c z hz
 unfold addF
 rw [a1, b1, a2, b2]
 simp only [Bool.or_self, Bool.false_eq_true, if_false, Bool.false_and]
 rw [self_sgn s b y hy, self_sgn s c z hz, pi, pj, vi, vj]
 exact sumT_rk s b _ i c _ j (fL s)
theorem mul_rk (s b c : Bool) (y z : Nat) (hy : (y : Int) < fI s) (hz : (z : Int) < fI s) : Res s (mulF s 0 (sgnd s b y) (sgnd s c z)) (rk s (sg b (val s y) * sg c (val s z)) (fL s + fL s)) := by
 obtain ⟨a1, a2⟩ := made_fin s b y hy
 obtain ⟨b1, b2⟩ := made_fin s c z hz
 obtain ⟨i, pi, vi, _⟩ := parts_val s b y hy
 obtain ⟨j, pj, vj, _⟩ := parts_val s c z hz
 unfold mulF
 rw [a1, b1, a2, b2]
 simp only [Bool.or_self, Bool.false_eq_true, if_false, Bool.false_and, Bool.and_false]
 rw [self_sgn s b y hy, self_sgn s c z hz, pi, pj, vi, vj]
 generalize (whl s (sgnd s b y)).toNat = A
 generalize (whl s (sgnd s c z)).toNat = B
 have r := rnd_rk s (b != c) (A * B) (fL s + i + (fL s + j))
 have t := rk_scale s (if (b != c) = true then -((A * B : Nat) : Int) else ((A * B : Nat) : Int)) (i + j) (fL s + i + (fL s + j))
 rw [show fL s + (i : Int) + (fL s + j) - ((i + j : Nat) : Int) = fL s + fL s by omega] at t
 rw [← t] at r
 rw [show sg b (A * 2 ^ i) * sg c (B * 2 ^ j) = (if (b != c) = true then -((A * B : Nat) : Int) else ((A * B : Nat) : Int)) * 2 ^ (i + j) by
  unfold sg
  rw [Int.pow_add]
  cases b <;> cases c <;> simp [Int.neg_mul, Int.mul_neg, Int.mul_assoc, Int.mul_left_comm, Int.mul_comm]]
 exact r
def stk (A D : Nat) : Nat := 2 * (A / D) + (decide (A % D ≠ 0)).toNat
theorem stk_scale (s : Bool) (A D c : Nat) (e : Int) (hD : 0 < D) (h : A = 0 ∨ fP s + 2 ≤ blen (A / D)) : mg s (stk (A * 2 ^ c) D) (e - c) = mg s (stk A D) e := by
 rcases h with h | h
 ·subst h
  simp [stk, mg]
 have dm := Nat.div_add_mod A D
 have rl := Nat.mod_lt A hD
 have q0 : A / D ≠ 0 := by intro c; rw [c, blen_zero] at h; omega
 have p := Nat.two_pow_pos c
 by_cases r0 : A % D = 0
 ·have e1 : A * 2 ^ c = D * (A / D * 2 ^ c) := by
   rw [r0, Nat.add_zero] at dm
   rw [← Nat.mul_assoc, dm]
  have e2 : stk (A * 2 ^ c) D = stk A D * 2 ^ c := by
   unfold stk
   rw [r0, e1, Nat.mul_div_cancel_left _ hD, Nat.mul_mod_right]
   simp [Nat.mul_assoc]
  rw [e2, mg_scale]
 ·have e1 : A * 2 ^ c = D * (A / D * 2 ^ c) + A % D * 2 ^ c := by
   rw [← Nat.mul_assoc, ← Nat.add_mul, dm]
  have e2 : A * 2 ^ c / D = A / D * 2 ^ c + A % D * 2 ^ c / D := by
   conv => lhs; rw [e1]
   rw [Nat.mul_add_div hD]
  have e3 : A * 2 ^ c % D = A % D * 2 ^ c % D := by
   conv => lhs; rw [e1]
   rw [Nat.mul_add_mod]
  have ul : A % D * 2 ^ c / D < 2 ^ c := by
   rw [Nat.div_lt_iff_lt_mul hD, Nat.mul_comm]
   exact Nat.mul_lt_mul_of_pos_left rl p
  obtain ⟨T, hT, T0, TL⟩ : ∃ T, stk (A * 2 ^ c) D = A / D * 2 ^ (c + 1) + T ∧ T ≠ 0 ∧ T < 2 ^ (c + 1) := by
   refine ⟨2 * (A % D * 2 ^ c / D) + (decide (A % D * 2 ^ c % D ≠ 0)).toNat, ?_, ?_, ?_⟩
   ·unfold stk
    rw [e2, e3, Nat.pow_succ, Nat.mul_add, Nat.mul_comm (2 ^ c) 2, Nat.mul_left_comm, Nat.add_assoc]
   ·intro z
    have z1 : A % D * 2 ^ c / D = 0 := by omega
    have z2 : A % D * 2 ^ c % D = 0 := by
     rcases Nat.eq_zero_or_pos (A % D * 2 ^ c % D) with h | h
     ·exact h
     ·rw [show (decide (A % D * 2 ^ c % D ≠ 0)).toNat = 1 by rw [decide_eq_true (by omega)]; rfl] at z
      omega
    have := Nat.div_add_mod (A % D * 2 ^ c) D
    rw [z1, z2] at this
    rcases Nat.mul_eq_zero.1 (show A % D * 2 ^ c = 0 by omega) with h | h <;> omega
   ·have : (decide (A % D * 2 ^ c % D ≠ 0)).toNat ≤ 1 := Bool.toNat_le _
    rw [Nat.pow_succ]
    omega
  have st := rnd_sticky s 0 false q0 (c + 1) T 1 1 TL T0 (by decide) (by decide) (e + 1) (last_ge s (e + 1) h)
  rw [show e + 1 - ((c + 1 : Nat) : Int) = e - c by omega, show e + 1 - ((1 : Nat) : Int) = e by omega] at st
  have o : stk A D = A / D * 2 ^ 1 + 1 := by
   unfold stk
   rw [decide_eq_true r0]
   show 2 * (A / D) + 1 = A / D * 2 ^ 1 + 1
   omega
  rw [hT, o]
  have rm : ∀ n e, rnd s 0 false n e = mg s n e := fun n e => rfl
  rw [rm, rm] at st
  exact st
theorem stk_mono {A D B E : Nat} (hD : 0 < D) (hE : 0 < E) (h : A * E ≤ B * D) : stk A D ≤ stk B E := by
 have d1 := Nat.div_add_mod A D
 have d2 := Nat.div_add_mod B E
 have l2 := Nat.mod_lt B hE
 have q : A / D ≤ B / E := by
  rw [Nat.le_div_iff_mul_le hE]
  have h1 : D * (A / D) * E ≤ A * E := Nat.mul_le_mul_right _ (by omega)
  have h2 : D * (A / D * E) ≤ D * B := by rw [← Nat.mul_assoc, Nat.mul_comm D B]; exact Nat.le_trans h1 h
  exact Nat.le_of_mul_le_mul_left h2 hD
 unfold stk
 have b1 := Bool.toNat_le (decide (A % D ≠ 0))
 by_cases c : A / D = B / E
 ·by_cases r : B % E = 0
  ·have a0 : A % D = 0 := by
    rcases Nat.eq_zero_or_pos (A % D) with z | z
    ·exact z
    ·exfalso
     rw [r, Nat.add_zero] at d2
     have : D * (A / D) * E < A * E := Nat.mul_lt_mul_of_pos_right (by omega) hE
     rw [c, Nat.mul_assoc, Nat.mul_comm (B / E) E, d2, Nat.mul_comm D B] at this
     omega
   rw [a0, r, c]
   simp
  ·rw [decide_eq_true (show B % E ≠ 0 from r), c]
   show _ ≤ 2 * (B / E) + 1
   omega
 ·omega
def mq (s : Bool) (K A D : Nat) : Int := mg s (stk (A * 2 ^ K) D) (-(K : Int) - 1)
theorem mq_mono (s : Bool) {K A D B E : Nat} (hD : 0 < D) (hE : 0 < E) (h : A * E ≤ B * D) : mq s K A D ≤ mq s K B E := by
 refine mg_mono s (stk_mono hD hE ?_) _
 rw [Nat.mul_right_comm, Nat.mul_right_comm B]
 exact Nat.mul_le_mul_right _ h
theorem mq_zero (s : Bool) (K D : Nat) : mq s K 0 D = 0 := by simp [mq, stk, mg]
def rq (s : Bool) (K : Nat) (n : Int) (D : Nat) : Int := if n < 0 then -(mq s K n.natAbs D) else mq s K n.natAbs D
theorem mq_bd (s : Bool) (K A D : Nat) : 0 ≤ mq s K A D ∧ mq s K A D ≤ fI s := mg_bd _ _ _
theorem rq_mono (s : Bool) {K D E : Nat} {n m : Int} (hD : 0 < D) (hE : 0 < E) (h : n * E ≤ m * D) : rq s K n D ≤ rq s K m E := by
 have b1 := mq_bd s K n.natAbs D
 have b2 := mq_bd s K m.natAbs E
 have pD : (0 : Int) < D := by omega
 have pE : (0 : Int) < E := by omega
 unfold rq
 by_cases c1 : n < 0
 ·rw [if_pos c1]
  by_cases c2 : m < 0
  ·rw [if_pos c2]
   obtain ⟨a, rfl⟩ : ∃ a : Nat, n = -a := ⟨n.natAbs, by omega⟩
   obtain ⟨b, rfl⟩ : ∃ b : Nat, m = -b := ⟨m.natAbs, by omega⟩
   have : mq s K b E ≤ mq s K a D := mq_mono s hE hD (by
    rw [Int.neg_mul, Int.neg_mul] at h
    have : (b : Int) * D ≤ a * E := by omega
    exact_mod_cast this)
   simp only [Int.natAbs_neg, Int.natAbs_natCast]
   omega
  ·rw [if_neg c2]; omega
 ·rw [if_neg c1]
  have c2 : ¬ m < 0 := by
   intro c2
   have h1 := Int.mul_nonneg (show 0 ≤ n by omega) (Int.le_of_lt pE)
   have h2 := Int.mul_neg_of_neg_of_pos c2 pD
   omega
  rw [if_neg c2]
  obtain ⟨a, rfl⟩ : ∃ a : Nat, n = a := ⟨n.natAbs, by omega⟩
  obtain ⟨b, rfl⟩ : ∃ b : Nat, m = b := ⟨m.natAbs, by omega⟩
  exact mq_mono s hD hE (by simpa using (by exact_mod_cast h : a * E ≤ b * D))
theorem div_core (s x : Bool) (A D i j K m P : Nat) (hm : i + K = 130 + m + j) (hP : 2 ^ 130 = P) (hD : 0 < D) (hb : A = 0 ∨ fP s + 2 ≤ blen (A * P / D)) :
  rq s K (sg x (A * 2 ^ i)) (D * 2 ^ j) = rk s (if x = true then -((stk (A * P) D : Nat) : Int) else ((stk (A * P) D : Nat) : Int)) ((i : Int) - j - 131) := by
 have st := stk_scale s (A * P) D m ((i : Int) - j - 131) hD (by
  rcases hb with h | h
  ·left; rw [h, Nat.zero_mul]
  ·exact Or.inr h)
 have pj2 := Nat.two_pow_pos j
 have en : A * 2 ^ i * 2 ^ K = A * P * 2 ^ m * 2 ^ j := by
  rw [Nat.mul_assoc, ← Nat.pow_add, hm, Nat.pow_add, Nat.pow_add, hP, ← Nat.mul_assoc, ← Nat.mul_assoc]
 have ek : stk (A * 2 ^ i * 2 ^ K) (D * 2 ^ j) = stk (A * P * 2 ^ m) D := by
  unfold stk
  rw [en, Nat.mul_div_mul_right _ _ pj2, Nat.mul_mod_mul_right]
  have : (A * P * 2 ^ m % D * 2 ^ j ≠ 0) ↔ (A * P * 2 ^ m % D ≠ 0) := by
   rw [ne_eq, ne_eq, Nat.mul_eq_zero]
   constructor
   ·intro h q; exact h (Or.inl q)
   ·rintro h (q | q)
    ·exact h q
    ·omega
  simp only [this]
 have em : mq s K (A * 2 ^ i) (D * 2 ^ j) = mg s (stk (A * P) D) ((i : Int) - j - 131) := by
  unfold mq
  rw [ek, ← st]
  congr 1
  omega
 clear st ek en hP
 unfold rq rk sg
 have z1 : A * 2 ^ i = 0 → stk (A * P) D = 0 := by
  intro h
  rcases Nat.mul_eq_zero.1 h with h | h
  ·subst h; simp [stk]
  ·have := Nat.two_pow_pos i; omega
 generalize stk (A * P) D = S at *
 have z2 : S = 0 → mq s K (A * 2 ^ i) (D * 2 ^ j) = 0 := by
  intro h; rw [em, h]; rfl
 generalize A * 2 ^ i = N at *
 cases x
 ·simp only [Bool.false_eq_true, if_false, Int.natAbs_natCast]
  rw [if_neg (by omega), if_neg (by omega), em]
 ·simp only [if_true, Int.natAbs_neg, Int.natAbs_natCast]
  by_cases n0 : N = 0
  ·rw [z1 n0, n0]
   simp [mq_zero, mg]
  ·rw [if_pos (by omega)]
   by_cases s0 : S = 0
   ·rw [z2 s0, s0]; simp [mg]
   ·rw [if_pos (by omega), em]
theorem divT_stk (s x : Bool) (A D : Nat) (pe qe : Int) (P : Nat) (hP : 2 ^ 130 = P) : divT s 0 x A pe D qe = rnd s 0 x (stk (A * P) D) (pe - qe - 131) := by
 unfold divT stk
 rw [hP]
theorem div_rk (s b c : Bool) (y z K : Nat) (hy : (y : Int) < fI s) (hz : (z : Int) < fI s) (z0 : z ≠ 0) (hK : 130 + z ≤ K) : Res s (divF s 0 (sgnd s b y) (sgnd s c z)) (rq s K (sg (b != c) (val s y)) (val s z)) := by
 obtain ⟨a1, a2⟩ := made_fin s b y hy
 obtain ⟨b1, b2, b3⟩ := self_cls s c z z0 hz
 obtain ⟨i, pi, vi, _⟩ := parts_val s b y hy
 obtain ⟨j, pj, vj, jz⟩ := parts_val s c z hz
 have wz := whl_pos s c z z0 hz
 obtain ⟨P, hP⟩ : ∃ P : Nat, 2 ^ 130 = P := ⟨_, rfl⟩
 have hb : (whl s (sgnd s b y)).toNat = 0 ∨ fP s + 2 ≤ blen ((whl s (sgnd s b y)).toNat * P / (whl s (sgnd s c z)).toNat) := by
  by_cases h : (whl s (sgnd s b y)).toNat = 0
  ·exact Or.inl h
  ·have := quot_big s _ _ h wz.1 wz.2
   rw [hP] at this
   exact Or.inr this
 unfold divF
 rw [a1, b1, a2, b2, b3]
 simp only [Bool.or_self, Bool.false_eq_true, if_false, Bool.false_and, Bool.and_false]
 rw [self_sgn s b y hy, self_sgn s c z hz, pi, pj, divT_stk s _ _ _ _ _ P hP]
 rw [vi, vj]
 generalize (whl s (sgnd s b y)).toNat = A at *
 generalize (whl s (sgnd s c z)).toNat = D at *
 obtain ⟨m, hm⟩ : ∃ m : Nat, i + K = 130 + m + j := ⟨i + K - 130 - j, by omega⟩
 rw [div_core s (b != c) A D i j K m P hm hP (by omega) hb, show fL s + (i : Int) - (fL s + j) - 131 = (i : Int) - j - 131 by omega]
 exact rnd_rk s (b != c) (stk (A * P) D) ((i : Int) - j - 131)
end Go.Proofs.YtdehcmajhdhcaaaGreat
namespace Go.Proofs.YtdehcmajhdhcaaaGreat
set_option linter.unusedVariables false
set_option linter.unusedSimpArgs false
def vl (s : Bool) (r : Int) : Int := if r < 0 then -(val s r.natAbs : Int) else (val s r.natAbs : Int)
theorem vl_mono (s : Bool) {r q : Int} (h : r ≤ q) : vl s r ≤ vl s q := by
 unfold vl
 split
 ·split
  ·have := val_le s (show q.natAbs ≤ r.natAbs by omega)
   omega
  ·omega
 ·rw [if_neg (by omega)]
  have := val_le s (show r.natAbs ≤ q.natAbs by omega)
  omega
theorem mk_at (s : Bool) (r : Int) : ∃ b : Bool, mk s r = sgnd s b (r.natAbs : Nat) ∧ sg b (val s r.natAbs) = vl s r ∧ b = decide (r < 0) := by
 unfold mk vl sg
 by_cases h : r < 0
 ·exact ⟨true, by rw [if_pos h]; congr 1; omega, by simp [h], by simp [h]⟩
 ·refine ⟨false, ?_, by simp [h], by simp [h]⟩
  rw [if_neg h]
  show r = (r.natAbs : Int)
  omega
def kN (s : Bool) : Nat := 130 + (fI s).toNat
def R (s : Bool) (op x y : Int) : Int := if op = 8 then rk s (vl s x + vl s y) (fL s) else if op = 9 then rk s (vl s x - vl s y) (fL s) else if op = 10 then rk s (vl s x * vl s y) (fL s + fL s) else rq s (kN s) (if y < 0 then -(vl s x) else vl s x) (val s y.natAbs)
theorem R_8 (s : Bool) (x y : Int) : R s 8 x y = rk s (vl s x + vl s y) (fL s) := by unfold R; rw [if_pos rfl]
theorem R_9 (s : Bool) (x y : Int) : R s 9 x y = rk s (vl s x - vl s y) (fL s) := by unfold R; rw [if_neg (by decide), if_pos rfl]
theorem R_10 (s : Bool) (x y : Int) : R s 10 x y = rk s (vl s x * vl s y) (fL s + fL s) := by unfold R; rw [if_neg (by decide), if_neg (by decide), if_pos rfl]
theorem R_11p (s : Bool) (x y : Int) (h : ¬ y < 0) : R s 11 x y = rq s (kN s) (vl s x) (val s y.natAbs) := by unfold R; rw [if_neg (by decide), if_neg (by decide), if_neg (by decide), if_neg h]
theorem R_11n (s : Bool) (x y : Int) (h : y < 0) : R s 11 x y = rq s (kN s) (-(vl s x)) (val s y.natAbs) := by unfold R; rw [if_neg (by decide), if_neg (by decide), if_neg (by decide), if_pos h]
theorem sg_not (b : Bool) (n : Nat) : sg (!b) n = -(sg b n) := by cases b <;> simp [sg]
theorem R_res {s : Bool} {op x y : Int} (hop : op = 8 ∨ op = 9 ∨ op = 10 ∨ op = 11) (x1 : -fI s < x) (x2 : x < fI s) (y1 : -fI s < y) (y2 : y < fI s) (hz : ¬ (op = 11 ∧ y = 0)) : Res s (gF op s (mk s x) (mk s y)) (R s op x y) := by
 obtain ⟨b, eb, vb, db⟩ := mk_at s x
 obtain ⟨c, ec, vc, dc⟩ := mk_at s y
 have hx : ((x.natAbs : Nat) : Int) < fI s := by omega
 have hy : ((y.natAbs : Nat) : Int) < fI s := by omega
 unfold gF R
 rcases hop with rfl | rfl | rfl | rfl
 ·rw [if_pos rfl, if_pos rfl, eb, ec, ← vb, ← vc]
  exact add_rk s b c _ _ hx hy
 ·rw [if_neg (by decide), if_pos rfl, if_neg (by decide), if_pos rfl]
  show Res s (addF s 0 (mk s x) (negF s (mk s y))) _
  rw [eb, ec, neg_made s c _ (by omega) (by omega)]
  have := add_rk s b (!c) _ _ hx hy
  rw [sg_not, vb, vc] at this
  rw [Int.sub_eq_add_neg]
  exact this
 ·rw [if_neg (by decide), if_neg (by decide), if_pos rfl, if_neg (by decide), if_neg (by decide), if_pos rfl, eb, ec, ← vb, ← vc]
  exact mul_rk s b c _ _ hx hy
 ·rw [if_neg (by decide), if_neg (by decide), if_neg (by decide), if_neg (by decide), if_neg (by decide), if_neg (by decide), eb, ec]
  have y0 : y ≠ 0 := fun e => hz ⟨rfl, e⟩
  have := div_rk s b c x.natAbs y.natAbs (kN s) hx hy (by omega) (by unfold kN; omega)
  have e : sg (b != c) (val s x.natAbs) = if y < 0 then -(vl s x) else vl s x := by
   rw [dc, ← vb]
   by_cases h : y < 0
   ·rw [if_pos h, decide_eq_true h, ← sg_not]; cases b <;> rfl
   ·rw [if_neg h, decide_eq_false h]; cases b <;> rfl
  rw [e] at this
  exact this
theorem val_pos (s : Bool) {z : Nat} (h : z ≠ 0) : 0 < val s z := by
 have := val_lt s (show 0 < z by omega)
 omega
theorem R_x (s : Bool) {op : Int} (hop : op = 8 ∨ op = 9 ∨ op = 10 ∨ op = 11) (y : Int) (hz : ¬ (op = 11 ∧ y = 0)) :
  (∀ x x', x ≤ x' → R s op x y ≤ R s op x' y) ∨ (∀ x x', x ≤ x' → R s op x' y ≤ R s op x y) := by
 rcases hop with rfl | rfl | rfl | rfl
 ·left; intro x x' h; have := vl_mono s h
  rw [R_8, R_8]; exact rk_mono s (by omega) _
 ·left; intro x x' h; have := vl_mono s h
  rw [R_9, R_9]; exact rk_mono s (by omega) _
 ·by_cases c : 0 ≤ vl s y
  ·left; intro x x' h; have := vl_mono s h
   rw [R_10, R_10]
   exact rk_mono s (Int.mul_le_mul_of_nonneg_right this c) _
  ·right; intro x x' h; have := vl_mono s h
   rw [R_10, R_10]
   exact rk_mono s (Int.mul_le_mul_of_nonpos_right this (by omega)) _
 ·have y0 : y ≠ 0 := fun e => hz ⟨rfl, e⟩
  have p := val_pos s (show y.natAbs ≠ 0 by omega)
  have p' : (0 : Int) ≤ (val s y.natAbs : Nat) := by omega
  by_cases c : y < 0
  ·right; intro x x' h; have := vl_mono s h
   rw [R_11n s _ _ c, R_11n s _ _ c]
   exact rq_mono s p p (Int.mul_le_mul_of_nonneg_right (by omega) p')
  ·left; intro x x' h; have := vl_mono s h
   rw [R_11p s _ _ c, R_11p s _ _ c]
   exact rq_mono s p p (Int.mul_le_mul_of_nonneg_right (by omega) p')
theorem R_y (s : Bool) {op : Int} (hop : op = 8 ∨ op = 9 ∨ op = 10 ∨ op = 11) (x c d : Int) (hz : op = 11 → 0 < c ∨ d < 0) :
  (∀ y y', c ≤ y → y ≤ y' → y' ≤ d → R s op x y ≤ R s op x y') ∨ (∀ y y', c ≤ y → y ≤ y' → y' ≤ d → R s op x y' ≤ R s op x y) := by
 rcases hop with rfl | rfl | rfl | rfl
 ·left; intro y y' _ h _; have := vl_mono s h
  rw [R_8, R_8]; exact rk_mono s (by omega) _
 ·right; intro y y' _ h _; have := vl_mono s h
  rw [R_9, R_9]; exact rk_mono s (by omega) _
 ·by_cases q : 0 ≤ vl s x
  ·left; intro y y' _ h _; have := vl_mono s h
   rw [R_10, R_10]
   exact rk_mono s (Int.mul_le_mul_of_nonneg_left this q) _
  ·right; intro y y' _ h _; have := vl_mono s h
   rw [R_10, R_10]
   exact rk_mono s (Int.mul_le_mul_of_nonpos_left (by omega) this) _
 ·rcases hz rfl with hc | hd
  ·by_cases q : 0 ≤ vl s x
   ·right; intro y y' h1 h h2
    rw [R_11p s x y (by omega), R_11p s x y' (by omega)]
    have v := val_le s (show y.natAbs ≤ y'.natAbs by omega)
    exact rq_mono s (val_pos s (by omega)) (val_pos s (by omega)) (Int.mul_le_mul_of_nonneg_left (by omega) q)
   ·left; intro y y' h1 h h2
    rw [R_11p s x y (by omega), R_11p s x y' (by omega)]
    have v := val_le s (show y.natAbs ≤ y'.natAbs by omega)
    exact rq_mono s (val_pos s (by omega)) (val_pos s (by omega)) (Int.mul_le_mul_of_nonpos_left (by omega) (by omega))
  ·by_cases q : 0 ≤ vl s x
   ·right; intro y y' h1 h h2
    rw [R_11n s x y (by omega), R_11n s x y' (by omega)]
    have v := val_le s (show y'.natAbs ≤ y.natAbs by omega)
    exact rq_mono s (val_pos s (by omega)) (val_pos s (by omega)) (Int.mul_le_mul_of_nonpos_left (by omega) (by omega))
   ·left; intro y y' h1 h h2
    rw [R_11n s x y (by omega), R_11n s x y' (by omega)]
    have v := val_le s (show y'.natAbs ≤ y.natAbs by omega)
    exact rq_mono s (val_pos s (by omega)) (val_pos s (by omega)) (Int.mul_le_mul_of_nonneg_left (by omega) (by omega))
theorem R_low (s : Bool) {op : Int} (hop : op = 8 ∨ op = 9 ∨ op = 10 ∨ op = 11) {a b c d x y : Int} (h1 : a ≤ x) (h2 : x ≤ b) (h3 : c ≤ y) (h4 : y ≤ d) (hz : op = 11 → 0 < c ∨ d < 0) :
  (∃ u v, (u = a ∨ u = b) ∧ (v = c ∨ v = d) ∧ R s op u v ≤ R s op x y) ∧ (∃ u v, (u = a ∨ u = b) ∧ (v = c ∨ v = d) ∧ R s op x y ≤ R s op u v) := by
 have hy : ¬ (op = 11 ∧ y = 0) := by rintro ⟨e, rfl⟩; have := hz e; omega
 obtain ⟨u, u', hu, hu', l1, l2⟩ : ∃ u u', (u = a ∨ u = b) ∧ (u' = a ∨ u' = b) ∧ R s op u y ≤ R s op x y ∧ R s op x y ≤ R s op u' y := by
  rcases R_x s hop y hy with m | m
  ·exact ⟨a, b, Or.inl rfl, Or.inr rfl, m _ _ h1, m _ _ h2⟩
  ·exact ⟨b, a, Or.inr rfl, Or.inl rfl, m _ _ h2, m _ _ h1⟩
 constructor
 ·rcases R_y s hop u c d hz with m | m
  ·exact ⟨u, c, hu, Or.inl rfl, Int.le_trans (m _ _ (Int.le_refl _) h3 h4) l1⟩
  ·exact ⟨u, d, hu, Or.inr rfl, Int.le_trans (m _ _ h3 h4 (Int.le_refl _)) l1⟩
 ·rcases R_y s hop u' c d hz with m | m
  ·exact ⟨u', d, hu', Or.inr rfl, Int.le_trans l2 (m _ _ h3 h4 (Int.le_refl _))⟩
  ·exact ⟨u', c, hu', Or.inl rfl, Int.le_trans l2 (m _ _ (Int.le_refl _) h3 h4)⟩
def prs (op a b c d : Int) : List (Int × Int) := if op = 11 then pairsL (false, a, b) [if c ≤ -1 then (false, c, min d (-1)) else (true, 0, 0), if 1 ≤ d then (false, max c 1, d) else (true, 0, 0)] else pairsL (false, a, b) [(false, c, d)]
theorem pairs_two (a b : Int) (ls : List (Bool × Int × Int)) {u v : Int} (hu : u = a ∨ u = b) {t : Bool × Int × Int} (ht : t ∈ ls) (t0 : t.1 = false) (hv : v = t.2.1 ∨ v = t.2.2) : (u, v) ∈ pairsL (false, a, b) ls := by
 unfold pairsL withL
 have e : endsL [(false, a, b)] = [a, b] := rfl
 rw [e, List.mem_flatMap]
 refine ⟨u, by simpa using hu, ?_⟩
 rw [List.mem_map]
 refine ⟨v, ?_, rfl⟩
 unfold endsL
 rw [List.mem_flatMap]
 refine ⟨t, ht, ?_⟩
 rw [t0]
 simpa using hv
theorem prs_btw (s : Bool) {op : Int} (hop : op = 8 ∨ op = 9 ∨ op = 10 ∨ op = 11) {a b c d x y : Int} (h1 : a ≤ x) (h2 : x ≤ b) (h3 : c ≤ y) (h4 : y ≤ d) (hz : ¬ (op = 11 ∧ y = 0)) :
  (∃ p ∈ prs op a b c d, R s op p.1 p.2 ≤ R s op x y) ∧ (∃ p ∈ prs op a b c d, R s op x y ≤ R s op p.1 p.2) := by
 unfold prs
 by_cases e : op = 11
 ·rw [if_pos e]
  by_cases n : y ≤ -1
  ·obtain ⟨⟨u, v, hu, hv, l⟩, ⟨u', v', hu', hv', l'⟩⟩ := R_low s hop (c := c) (d := min d (-1)) h1 h2 h3 (by omega) (fun _ => by omega)
   rw [if_pos (show c ≤ -1 by omega)]
   exact ⟨⟨(u, v), pairs_two a b _ hu (t := (false, c, min d (-1))) (by simp) rfl hv, l⟩, ⟨(u', v'), pairs_two a b _ hu' (t := (false, c, min d (-1))) (by simp) rfl hv', l'⟩⟩
  ·have : y ≠ 0 := fun q => hz ⟨e, q⟩
   obtain ⟨⟨u, v, hu, hv, l⟩, ⟨u', v', hu', hv', l'⟩⟩ := R_low s hop (c := max c 1) (d := d) h1 h2 (by omega) h4 (fun _ => by omega)
   rw [if_pos (show 1 ≤ d by omega)]
   exact ⟨⟨(u, v), pairs_two a b _ hu (t := (false, max c 1, d)) (by simp) rfl hv, l⟩, ⟨(u', v'), pairs_two a b _ hu' (t := (false, max c 1, d)) (by simp) rfl hv', l'⟩⟩
 ·rw [if_neg e]
  obtain ⟨⟨u, v, hu, hv, l⟩, ⟨u', v', hu', hv', l'⟩⟩ := R_low s hop h1 h2 h3 h4 (fun q => absurd q e)
  exact ⟨⟨(u, v), pairs_two a b _ hu (t := (false, c, d)) (by simp) rfl hv, l⟩, ⟨(u', v'), pairs_two a b _ hu' (t := (false, c, d)) (by simp) rfl hv', l'⟩⟩
theorem prs_in {op a b c d : Int} (hcd : c ≤ d) {p : Int × Int} (hp : p ∈ prs op a b c d) : (p.1 = a ∨ p.1 = b) ∧ c ≤ p.2 ∧ p.2 ≤ d ∧ ¬ (op = 11 ∧ p.2 = 0) := by
 unfold prs at hp
 by_cases e : op = 11
 ·rw [if_pos e] at hp
  obtain ⟨h, t, ht, t0, hv⟩ := pairs_inF hp
  refine ⟨h, ?_⟩
  simp only [List.mem_cons, List.not_mem_nil, or_false] at ht
  rcases ht with ht | ht
  ·by_cases n : c ≤ -1
   ·rw [if_pos n] at ht
    subst ht
    simp only at hv
    omega
   ·rw [if_neg n] at ht
    subst ht
    simp at t0
  ·by_cases n : 1 ≤ d
   ·rw [if_pos n] at ht
    subst ht
    simp only at hv
    omega
   ·rw [if_neg n] at ht
    subst ht
    simp at t0
 ·rw [if_neg e] at hp
  obtain ⟨h, t, ht, t0, hv⟩ := pairs_inF hp
  simp only [List.mem_cons, List.not_mem_nil, or_false] at ht
  subst ht
  simp only at hv
  exact ⟨h, by omega, by omega, fun q => e q.1⟩
theorem pairs_map (s : Bool) (op a b : Int) (ls : List (Bool × Int × Int)) (ms : List (Bool × Int × Int)) (h : endsL ls = (endsL ms).map (mk s)) :
  (pairsL (false, mk s a, mk s b) ls).map (fun p => gF op s p.1 p.2) = (pairsL (false, a, b) ms).map fun p => gF op s (mk s p.1) (mk s p.2) := by
 unfold pairsL withL
 have e1 : endsL [(false, mk s a, mk s b)] = [mk s a, mk s b] := rfl
 have e2 : endsL [(false, a, b)] = [a, b] := rfl
 rw [e1, e2, h]
 simp only [List.flatMap_cons, List.flatMap_nil, List.append_nil, List.map_append, List.map_map]
 rfl
theorem resF_prs {s : Bool} {op a b c d : Int} (h1 : -fI s < c) (h2 : d < fI s) (h3 : c ≤ d) : resF s op (mk s a) (mk s b) (mk s c) (mk s d) = (prs op a b c d).map fun p => gF op s (mk s p.1) (mk s p.2) := by
 unfold resF prs
 by_cases e : op = 11
 ·rw [if_pos e, if_pos e, lowF h1 h2 h3, highF h1 h2 h3, e]
  refine pairs_map s 11 a b _ _ ?_
  unfold endsL
  by_cases n : c ≤ -1
  ·rw [if_pos n, if_pos n]
   by_cases m : 1 ≤ d
   ·rw [if_pos m, if_pos m]; simp
   ·rw [if_neg m, if_neg m]; simp
  ·rw [if_neg n, if_neg n]
   by_cases m : 1 ≤ d
   ·rw [if_pos m, if_pos m]; simp
   ·rw [if_neg m, if_neg m]; simp
 ·rw [if_neg e, if_neg e]
  exact pairs_map s op a b _ _ rfl
theorem hull_from (s : Bool) (f g : Int × Int → Int) : ∀ (ps : List (Int × Int)), (∀ p ∈ ps, Res s (f p) (g p)) → ∀ (lo hi : Int), -fI s ≤ lo → lo ≤ fI s → -fI s ≤ hi → hi ≤ fI s →
  ∃ l h, (ps.map f).foldl (fun acc x => joinP (WyF s) acc (false, (WyF s).pl x, (WyF s).pl x)) (false, mk s lo, mk s hi) = (false, mk s l, mk s h) ∧ (l = lo ∨ ∃ p ∈ ps, l = g p) ∧ (h = hi ∨ ∃ p ∈ ps, h = g p) ∧ l ≤ lo ∧ hi ≤ h ∧ (∀ p ∈ ps, l ≤ g p ∧ g p ≤ h) := by
 intro ps
 induction ps with
 | nil => intro _ lo hi _ _ _ _; exact ⟨lo, hi, rfl, Or.inl rfl, Or.inl rfl, Int.le_refl _, Int.le_refl _, by simp⟩
 | cons p ps ih =>
  intro hR lo hi a1 a2 b1 b2
  have r := hR p (by simp)
  have e : joinP (WyF s) (false, mk s lo, mk s hi) (false, (WyF s).pl (f p), (WyF s).pl (f p)) = (false, mk s (min lo (g p)), mk s (max hi (g p))) := by
   rw [show (WyF s).pl (f p) = mk s (g p) from r.pl]
   unfold joinP
   simp only [Bool.false_eq_true, if_false]
   rw [smlF a1 a2 r.lo r.hi, grtF b1 b2 r.lo r.hi]
  have rl := r.lo
  have rh := r.hi
  obtain ⟨l, h, e1, l1, l2, l3, l4, l5⟩ := ih (fun q hq => hR q (by simp [hq])) (min lo (g p)) (max hi (g p)) (by omega) (by omega) (by omega) (by omega)
  refine ⟨l, h, ?_, ?_, ?_, by omega, by omega, ?_⟩
  ·rw [List.map_cons, List.foldl_cons, e, e1]
  ·rcases l1 with l1 | ⟨q, hq, l1⟩
   ·by_cases c : lo ≤ g p
    ·left; omega
    ·right; exact ⟨p, by simp, by omega⟩
   ·right; exact ⟨q, by simp [hq], l1⟩
  ·rcases l2 with l2 | ⟨q, hq, l2⟩
   ·by_cases c : g p ≤ hi
    ·left; omega
    ·right; exact ⟨p, by simp, by omega⟩
   ·right; exact ⟨q, by simp [hq], l2⟩
  ·intro q hq
   rcases List.mem_cons.1 hq with rfl | hq
   ·omega
   ·exact l5 q hq
theorem hullR (s : Bool) (f g : Int × Int → Int) (ps : List (Int × Int)) (ne : ps ≠ []) (hR : ∀ p ∈ ps, Res s (f p) (g p)) :
  ∃ l h, hullP (WyF s) (ps.map f) = (false, mk s l, mk s h) ∧ (∃ p ∈ ps, l = g p) ∧ (∃ p ∈ ps, h = g p) ∧ (∀ p ∈ ps, l ≤ g p ∧ g p ≤ h) := by
 cases ps with
 | nil => exact absurd rfl ne
 | cons p ps =>
  have r := hR p (by simp)
  obtain ⟨l, h, e1, l1, l2, l3, l4, l5⟩ := hull_from s f g ps (fun q hq => hR q (by simp [hq])) (g p) (g p) r.lo r.hi r.lo r.hi
  refine ⟨l, h, ?_, ?_, ?_, ?_⟩
  ·unfold hullP
   rw [List.map_cons, List.foldl_cons]
   rw [show joinP (WyF s) (true, 0, 0) (false, (WyF s).pl (f p), (WyF s).pl (f p)) = (false, mk s (g p), mk s (g p)) by rw [show (WyF s).pl (f p) = mk s (g p) from r.pl]; rfl]
   exact e1
  ·rcases l1 with l1 | ⟨q, hq, l1⟩
   ·exact ⟨p, by simp, l1⟩
   ·exact ⟨q, by simp [hq], l1⟩
  ·rcases l2 with l2 | ⟨q, hq, l2⟩
   ·exact ⟨p, by simp, l2⟩
   ·exact ⟨q, by simp [hq], l2⟩
  ·intro q hq
   rcases List.mem_cons.1 hq with rfl | hq
   ·exact ⟨l3, l4⟩
   ·exact l5 q hq
theorem trap_from (s : Bool) (f g : Int × Int → Int) : ∀ (ps : List (Int × Int)), (∀ p ∈ ps, Res s (f p) (g p)) → ∀ (t : Int),
  ((ps.map f).foldl (fun acc x => if pastP (WyF s) (LF s) x then 2 else acc) t = 2 ∧ ∃ p ∈ ps, g p = fI s ∨ g p = -fI s) ∨ ((ps.map f).foldl (fun acc x => if pastP (WyF s) (LF s) x then 2 else acc) t = t ∧ ∀ p ∈ ps, -fI s < g p ∧ g p < fI s) := by
 intro ps
 induction ps with
 | nil => intro _ t; right; exact ⟨rfl, by simp⟩
 | cons p ps ih =>
  intro hR t
  have r := hR p (by simp)
  have rl := r.lo
  have rh := r.hi
  rw [List.map_cons, List.foldl_cons, pastF r]
  by_cases c : g p = fI s ∨ g p = -fI s
  ·rw [if_pos (by simpa using c)]
   left
   rcases ih (fun q hq => hR q (by simp [hq])) 2 with ⟨e, _⟩ | ⟨e, _⟩
   ·exact ⟨e, p, by simp, c⟩
   ·exact ⟨e, p, by simp, c⟩
  ·rw [if_neg (by simpa using c)]
   rcases ih (fun q hq => hR q (by simp [hq])) t with ⟨e, q, hq, h⟩ | ⟨e, h⟩
   ·left; exact ⟨e, q, by simp [hq], h⟩
   ·right
    refine ⟨e, fun q hq => ?_⟩
    rcases List.mem_cons.1 hq with rfl | hq
    ·omega
    ·exact h q hq
theorem range_is {s : Bool} {op a b c d : Int} (hop : op = 8 ∨ op = 9 ∨ op = 10 ∨ op = 11) (a1 : -fI s < a) (hab : a ≤ b) (b2 : b < fI s) (c1 : -fI s < c) (hcd : c ≤ d) (d2 : d < fI s) :
  (prs op a b c d = [] ∧ rangeF s op (mk s a) (mk s b) (mk s c) (mk s d) = (true, 0, 0) ∧ trapP (WyF s) (LF s) 2 (resF s op (mk s a) (mk s b) (mk s c) (mk s d)) = 0) ∨
  (∃ l h, (∃ p ∈ prs op a b c d, l = R s op p.1 p.2) ∧ (∃ p ∈ prs op a b c d, h = R s op p.1 p.2) ∧ (∀ p ∈ prs op a b c d, l ≤ R s op p.1 p.2 ∧ R s op p.1 p.2 ≤ h) ∧ -fI s ≤ l ∧ h ≤ fI s
   ∧ rangeF s op (mk s a) (mk s b) (mk s c) (mk s d) = (if min h (fI s - 1) < max l (-(fI s - 1)) then (true, 0, 0) else (false, mk s (max l (-(fI s - 1))), mk s (min h (fI s - 1))))
   ∧ ((trapP (WyF s) (LF s) 2 (resF s op (mk s a) (mk s b) (mk s c) (mk s d)) = 2 ∧ (l = -fI s ∨ h = fI s)) ∨ (trapP (WyF s) (LF s) 2 (resF s op (mk s a) (mk s b) (mk s c) (mk s d)) = 0 ∧ -fI s < l ∧ h < fI s))) := by
 have t := fI_two s
 have hR : ∀ p ∈ prs op a b c d, Res s (gF op s (mk s p.1) (mk s p.2)) (R s op p.1 p.2) := fun p hp => by
  obtain ⟨q1, q2, q3, q4⟩ := prs_in hcd hp
  exact R_res hop (by omega) (by omega) (by omega) (by omega) q4
 by_cases ne : prs op a b c d = []
 ·left
  refine ⟨ne, ?_, ?_⟩
  ·unfold rangeF
   rw [resF_prs c1 d2 hcd, ne]
   rfl
  ·rw [resF_prs c1 d2 hcd, ne]
   rfl
 ·right
  obtain ⟨l, h, e, ⟨p, hp, hl⟩, ⟨q, hq, hh⟩, all⟩ := hullR s (fun p => gF op s (mk s p.1) (mk s p.2)) (fun p => R s op p.1 p.2) _ ne hR
  have pl := (hR p hp).lo
  have ph := (hR p hp).hi
  have ql := (hR q hq).lo
  have qh := (hR q hq).hi
  have lh := all p hp
  refine ⟨l, h, ⟨p, hp, hl⟩, ⟨q, hq, hh⟩, all, by omega, by omega, ?_, ?_⟩
  ·unfold rangeF
   rw [resF_prs c1 d2 hcd, e, LF_least, LF_most, meetF (by omega) (by omega) (by omega) (by omega) (by omega) (by omega) (by omega) (by omega)]
  ·rw [resF_prs c1 d2 hcd]
   rcases trap_from s (fun p => gF op s (mk s p.1) (mk s p.2)) (fun p => R s op p.1 p.2) _ hR 0 with ⟨e1, r, hr, h1⟩ | ⟨e1, h1⟩
   ·left
    have := all r hr
    refine ⟨e1, ?_⟩
    have rl := (hR r hr).lo
    have rh := (hR r hr).hi
    omega
   ·right
    have := h1 p hp
    have := h1 q hq
    exact ⟨e1, by omega, by omega⟩
end Go.Proofs.YtdehcmajhdhcaaaGreat
namespace Go.Proofs.YtdehcmajhdhcaaaGreat
set_option linter.unusedVariables false
set_option linter.unusedSimpArgs false
theorem plain_fin {s : Bool} {x : Int} (hx : Word x) (h : finF s (plainF s x) = true) : ∃ r, -fI s < r ∧ r < fI s ∧ plainF s x = mk s r := by
 by_cases c : (cls s x == 0 || cls s x == 5) = true
 ·have e : plainF s x = fNan s := by unfold plainF; rw [if_pos c]
  rw [e] at h
  exact absurd h (by cases s <;> decide +kernel)
 ·obtain ⟨r, h1, h2, e⟩ := num_mk s x hx (by simpa using c)
  rw [e, fin_mk h1 h2] at h
  have := of_decide_eq_true h
  exact ⟨r, this.1, this.2, e⟩
theorem right_mk {s : Bool} {a b : Int} (ha : Word a) (hb : Word b) (h : rRF s false a b = true) : ∃ r q, -fI s < r ∧ r ≤ q ∧ q < fI s ∧ a = mk s r ∧ b = mk s q := by
 rw [← right_same] at h
 unfold rightP at h
 simp only [Bool.false_eq_true, if_false, Bool.and_eq_true] at h
 obtain ⟨r, r1, r2, er⟩ := one_is ha h.1
 obtain ⟨q, q1, q2, eq⟩ := one_is hb h.2.1
 have := of_decide_eq_true h.2.2
 rw [er, eq, ord_mk (by omega) (by omega) (by omega) (by omega), ordI_le] at this
 exact ⟨r, q, r1, this, q2, er, eq⟩
theorem num_mk' {s : Bool} {r : Int} (h1 : -fI s < r) (h2 : r < fI s) : Num s (mk s r) := num_fin (by rw [fin_mk (by omega) (by omega)]; exact decide_eq_true ⟨h1, h2⟩)
theorem has_mk {s : Bool} {r q x : Int} (hx : Word x) (r1 : -fI s < r) (rq : r ≤ q) (q2 : q < fI s) (h : hRF s false (mk s r) (mk s q) (plainF s x) = true) : ∃ n, -fI s < n ∧ n < fI s ∧ plainF s x = mk s n ∧ r ≤ n ∧ n ≤ q := by
 have f : finF s (plainF s x) = true := by
  unfold hRF at h
  simp only [Bool.not_false, Bool.true_and, Bool.and_eq_true] at h
  exact h.1
 obtain ⟨n, n1, n2, e⟩ := plain_fin hx f
 refine ⟨n, n1, n2, e, ?_⟩
 rw [e, ← has_same (mk_word (by omega) (by omega)) (num_mk' r1 (by omega)) (num_mk' (by omega) q2), hasF (by omega) (by omega) (by omega) (by omega) n1 n2] at h
 exact of_decide_eq_true h
theorem bits_or2 (h : Bool) (a b : Int) : (bits BinOp.and IntKind.i64 (bits BinOp.or IntKind.i64 2 (zF h a b)) 2 != 0) = true := by
 unfold zF
 by_cases c : a = 0 ∧ b = 0
 ·rw [if_pos c]; cases h <;> decide +kernel
 ·rw [if_neg c]; cases h <;> decide +kernel
theorem sound_over {s : Bool} {op a b c d x y : Int} (hop : op = 8 ∨ op = 9 ∨ op = 10 ∨ op = 11) (a1 : -fI s < a) (hab : a ≤ b) (b2 : b < fI s) (c1 : -fI s < c) (hcd : c ≤ d) (d2 : d < fI s) (h1 : a ≤ x) (h2 : x ≤ b) (h3 : c ≤ y) (h4 : y ≤ d) (hz : ¬ (op = 11 ∧ y = 0)) (hr : R s op x y = fI s ∨ R s op x y = -fI s) : (bits BinOp.and IntKind.i64 (trapsF s op (mk s a) (mk s b) (mk s c) (mk s d)) 2 != 0) = true := by
 have t := fI_two s
 obtain ⟨⟨p, hp, lp⟩, ⟨q, hq, lq⟩⟩ := prs_btw s hop h1 h2 h3 h4 hz
 have tr : trapP (WyF s) (LF s) 2 (resF s op (mk s a) (mk s b) (mk s c) (mk s d)) = 2 := by
  rcases range_is hop a1 hab b2 c1 hcd d2 with ⟨e, _⟩ | ⟨l, h, _, _, all, _, _, _, e | e⟩
  ·rw [e] at hp; simp at hp
  ·exact e.1
  ·have := all p hp; have := all q hq; omega
 unfold trapsF
 rw [tr]
 split
 ·exact bits_or2 _ _ _
 ·decide +kernel
theorem sound_in {s : Bool} {op a b c d x y : Int} (hop : op = 8 ∨ op = 9 ∨ op = 10 ∨ op = 11) (a1 : -fI s < a) (hab : a ≤ b) (b2 : b < fI s) (c1 : -fI s < c) (hcd : c ≤ d) (d2 : d < fI s) (h1 : a ≤ x) (h2 : x ≤ b) (h3 : c ≤ y) (h4 : y ≤ d) (hz : ¬ (op = 11 ∧ y = 0)) (hr1 : -fI s < R s op x y) (hr2 : R s op x y < fI s) : ∃ l h, -fI s < l ∧ l ≤ h ∧ h < fI s ∧ rangeF s op (mk s a) (mk s b) (mk s c) (mk s d) = (false, mk s l, mk s h) ∧ l ≤ R s op x y ∧ R s op x y ≤ h := by
 have t := fI_two s
 obtain ⟨⟨p, hp, lp⟩, ⟨q, hq, lq⟩⟩ := prs_btw s hop h1 h2 h3 h4 hz
 rcases range_is hop a1 hab b2 c1 hcd d2 with ⟨e, _⟩ | ⟨l, h, _, _, all, _, _, e, _⟩
 ·rw [e] at hp; simp at hp
 ·have := all p hp; have := all q hq
  rw [if_neg (by omega)] at e
  exact ⟨_, _, by omega, by omega, by omega, e, by omega, by omega⟩
theorem sound_zero {s : Bool} {a b c d x : Int} (a1 : -fI s < a) (b2 : b < fI s) (c1 : -fI s < c) (d2 : d < fI s) (h1 : a ≤ x) (h2 : x ≤ b) (h3 : c ≤ 0) (h4 : 0 ≤ d) :
  (bits BinOp.and IntKind.i64 (trapsF s 11 (mk s a) (mk s b) (mk s c) (mk s d)) (if x = 0 then 1 else 2) != 0) = true := by
 have t := fI_two s
 have hz : ∀ {a b : Int}, -fI s < a → a ≤ b → b < fI s → hasP (WyF s) (false, mk s a, mk s b) 0 = decide (a ≤ 0 ∧ 0 ≤ b) := fun h1 h2 h3 => by
  have := hasF (s := s) (x := 0) (Int.le_of_lt h1) (by omega) (by omega) (Int.le_of_lt h3) (by omega) (by omega)
  rw [mk_zero] at this
  exact this
 have tr : trapP (WyF s) (LF s) 2 (resF s 11 (mk s a) (mk s b) (mk s c) (mk s d)) = 0 ∨ trapP (WyF s) (LF s) 2 (resF s 11 (mk s a) (mk s b) (mk s c) (mk s d)) = 2 := by
  rcases range_is (op := 11) (Or.inr (Or.inr (Or.inr rfl))) a1 (by omega) b2 c1 (by omega) d2 with ⟨_, _, e⟩ | ⟨l, h, _, _, _, _, _, _, e | e⟩
  ·exact Or.inl e
  ·exact Or.inr e.1
  ·exact Or.inl e.1
 unfold trapsF
 rw [if_pos ⟨rfl, by rw [hz c1 (by omega) d2]; exact decide_eq_true ⟨h3, h4⟩⟩, hz a1 (by omega) b2]
 generalize trapP (WyF s) (LF s) 2 (resF s 11 (mk s a) (mk s b) (mk s c) (mk s d)) = T at *
 by_cases x0 : x = 0
 ·rw [if_pos x0, decide_eq_true ⟨by omega, by omega⟩]
  unfold zF
  by_cases q : mk s a = 0 ∧ mk s b = 0
  ·rw [if_pos q]; rcases tr with rfl | rfl <;> decide +kernel
  ·rw [if_neg q]; rcases tr with rfl | rfl <;> decide +kernel
 ·rw [if_neg x0]
  have q : ¬ (mk s a = 0 ∧ mk s b = 0) := by
   rintro ⟨q1, q2⟩
   have e1 := mk_inj (s := s) (r := a) (q := 0) (by omega) (by omega) (by omega) (by omega) (by rw [q1, mk_zero])
   have e2 := mk_inj (s := s) (r := b) (q := 0) (by omega) (by omega) (by omega) (by omega) (by rw [q2, mk_zero])
   omega
  unfold zF
  rw [if_neg q]
  generalize decide (a ≤ 0 ∧ 0 ≤ b) = g
  cases g <;> rcases tr with rfl | rfl <;> decide +kernel
end Go.Proofs.YtdehcmajhdhcaaaGreat
