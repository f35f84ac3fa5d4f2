/- Texts of the proof, put together. -/
import Derived.Test.YteafnkimcidkhaaGreatRG7
import Derived.Test.YteafnkimcidkhaaGreatRLjH
import Derived.Test.YteafnkimcidkhaaGreatRG6
namespace Go.Proofs.YteafnkimcidkhaaGreat
set_option linter.unusedVariables false
set_option linter.unusedSimpArgs false
theorem sumT_rkM (s : Bool) (m : Int) (xb : Bool) (xw x : Nat) (yb : Bool) (yw y : Nat) (L : Int) :
  Res s (sumT s m xb xw (L + x) yb yw (L + y)) (rkM s m (sg xb (xw * 2 ^ x) + sg yb (yw * 2 ^ y)) L) := by
 obtain ⟨k, i, j, hx, hy, hk⟩ : ∃ k i j : Nat, x = i + k ∧ y = j + k ∧ min (L + (x : Int)) (L + y) = L + k :=
  ⟨min x y, x - min x y, y - min x y, by omega, by omega, by omega⟩
 subst hx hy
 unfold sumT
 rw [hk, show (L + ((i + k : Nat) : Int) - (L + k)).toNat = i by omega, show (L + ((j + k : Nat) : Int) - (L + k)).toNat = j by omega]
 have t : rkM s m (sg xb (xw * 2 ^ (i + k)) + sg yb (yw * 2 ^ (j + k))) L = rkM s m (sg xb (xw * 2 ^ i) + sg yb (yw * 2 ^ j)) (L + k) := by
  have := rkM_scale s m (sg xb (xw * 2 ^ i) + sg yb (yw * 2 ^ j)) k (L + k)
  rw [show L + (k : Int) - k = L by omega] at this
  rw [← this]
  congr 1
  rw [Int.add_mul, Nat.pow_add, Nat.pow_add, ← Nat.mul_assoc, ← Nat.mul_assoc]
  unfold sg
  cases xb <;> cases yb <;> simp [Int.neg_mul]
 rw [t]
 generalize xw * 2 ^ i = X
 generalize yw * 2 ^ j = Y
 clear t
 by_cases c : xb = yb
 ·subst c
  rw [if_pos rfl]
  have := rnd_rkM s m xb (X + Y) (L + k)
  rw [show sg xb X + sg xb Y = if xb then -((X + Y : Nat) : Int) else ((X + Y : Nat) : Int) by unfold sg; cases xb <;> simp <;> omega]
  exact this
 ·rw [if_neg c]
  by_cases c1 : X = Y
  ·rw [if_pos c1]
   have := made_res s (m == 2) 0 (Int.le_refl _) (fI_pos s)
   rw [show (if (m == 2) = true then -(0 : Int) else 0) = 0 by split <;> rfl] at this
   rw [show sg xb X + sg yb Y = 0 by subst c1; unfold sg; cases xb <;> cases yb <;> simp at c ⊢ <;> omega]
   exact this
  ·rw [if_neg c1]
   by_cases c2 : Y < X
   ·rw [if_pos c2]
    have := rnd_rkM s m xb (X - Y) (L + k)
    rw [show sg xb X + sg yb Y = if xb then -((X - Y : Nat) : Int) else ((X - Y : Nat) : Int) by unfold sg; cases xb <;> cases yb <;> simp at c ⊢ <;> omega]
    exact this
   ·rw [if_neg c2]
    have := rnd_rkM s m yb (Y - X) (L + k)
    rw [show sg xb X + sg yb Y = if yb then -((Y - X : Nat) : Int) else ((Y - X : Nat) : Int) by unfold sg; cases xb <;> cases yb <;> simp at c ⊢ <;> omega]
    exact this
theorem add_rkM (s : Bool) (m : Int) (b c : Bool) (y z : Nat) (hy : (y : Int) < fI s) (hz : (z : Int) < fI s) : Res s (addF s m (sgnd s b y) (sgnd s c z)) (rkM s m (sg b (val s y) + sg c (val s z)) (fL s)) := by
 obtain ⟨a1, a2⟩ := made_fin s b y hy
 obtain ⟨b1, b2⟩ := made_fin s c z hz
 obtain ⟨i, pi, vi, _⟩ := parts_val s b y hy
 obtain ⟨j, pj, vj, _⟩ := parts_val s c z hz
 unfold addF
 rw [a1, b1, a2, b2]
 simp only [Bool.or_self, Bool.false_eq_true, if_false, Bool.false_and]
 rw [self_sgn s b y hy, self_sgn s c z hz, pi, pj, vi, vj]
 exact sumT_rkM s m b _ i c _ j (fL s)
theorem mul_rkM (s : Bool) (m : Int) (b c : Bool) (y z : Nat) (hy : (y : Int) < fI s) (hz : (z : Int) < fI s) : Res s (mulF s m (sgnd s b y) (sgnd s c z)) (rkM s m (sg b (val s y) * sg c (val s z)) (fL s + fL s)) := by
 obtain ⟨a1, a2⟩ := made_fin s b y hy
 obtain ⟨b1, b2⟩ := made_fin s c z hz
 obtain ⟨i, pi, vi, _⟩ := parts_val s b y hy
 obtain ⟨j, pj, vj, _⟩ := parts_val s c z hz
 unfold mulF
 rw [a1, b1, a2, b2]
 simp only [Bool.or_self, Bool.false_eq_true, if_false, Bool.false_and, Bool.and_false]
 rw [self_sgn s b y hy, self_sgn s c z hz, pi, pj, vi, vj]
 generalize (whl s (sgnd s b y)).toNat = A
 generalize (whl s (sgnd s c z)).toNat = B
 have r := rnd_rkM s m (b != c) (A * B) (fL s + i + (fL s + j))
 have t := rkM_scale s m (if (b != c) = true then -((A * B : Nat) : Int) else ((A * B : Nat) : Int)) (i + j) (fL s + i + (fL s + j))
 rw [show fL s + (i : Int) + (fL s + j) - ((i + j : Nat) : Int) = fL s + fL s by omega] at t
 rw [← t] at r
 rw [show sg b (A * 2 ^ i) * sg c (B * 2 ^ j) = (if (b != c) = true then -((A * B : Nat) : Int) else ((A * B : Nat) : Int)) * 2 ^ (i + j) by
  unfold sg
  rw [Int.pow_add]
  cases b <;> cases c <;> simp [Int.neg_mul, Int.mul_neg, Int.mul_assoc, Int.mul_left_comm, Int.mul_comm]]
 exact r
theorem aR_is {m x y : Int} (x1 : -fI false < x) (x2 : x < fI false) (y1 : -fI false < y) (y2 : y < fI false) : aR m x y = rkM false m (vl false x + vl false y) (fL false) := by
 obtain ⟨b, eb, vb, _⟩ := mk_at false x
 obtain ⟨c, ec, vc, _⟩ := mk_at false y
 have r := add_rkM false m b c x.natAbs y.natAbs (by omega) (by omega)
 rw [vb, vc, ← eb, ← ec] at r
 exact res_rnk r
theorem mR_is {m x y : Int} (x1 : -fI false < x) (x2 : x < fI false) (y1 : -fI false < y) (y2 : y < fI false) : mR m x y = rkM false m (vl false x * vl false y) (fL false + fL false) := by
 obtain ⟨b, eb, vb, _⟩ := mk_at false x
 obtain ⟨c, ec, vc, _⟩ := mk_at false y
 have r := mul_rkM false m b c x.natAbs y.natAbs (by omega) (by omega)
 rw [vb, vc, ← eb, ← ec] at r
 exact res_rnk r
theorem aR_mono {m x y x' y' : Int} (x1 : -fI false < x) (xx : x ≤ x') (x2 : x' < fI false) (y1 : -fI false < y) (yy : y ≤ y') (y2 : y' < fI false) : aR m x y ≤ aR m x' y' := by
 rw [aR_is x1 (by omega) y1 (by omega), aR_is (by omega) x2 (by omega) y2]
 exact rkM_mono false m (Int.add_le_add (vl_mono false xx) (vl_mono false yy)) _
theorem sum_lo {a b c d : Int} (a1 : -fI false < a) (ab : a ≤ b) (b1 : b < fI false) (c1 : -fI false < c) (cd : c ≤ d) (d1 : d < fI false) : loR aR a b c d = aR 2 a c := by
 have h1 := aR_mono (m := 2) a1 (Int.le_refl a) (by omega) c1 cd d1
 have h2 := aR_mono (m := 2) a1 ab b1 c1 (Int.le_refl c) (by omega)
 have h3 := aR_mono (m := 2) a1 ab b1 c1 cd d1
 unfold loR
 omega
theorem sum_hi {a b c d : Int} (a1 : -fI false < a) (ab : a ≤ b) (b1 : b < fI false) (c1 : -fI false < c) (cd : c ≤ d) (d1 : d < fI false) : hiR aR a b c d = aR 1 b d := by
 have h1 := aR_mono (m := 1) a1 ab b1 c1 cd d1
 have h2 := aR_mono (m := 1) a1 ab b1 (show -fI false < d by omega) (Int.le_refl d) d1
 have h3 := aR_mono (m := 1) (show -fI false < b by omega) (Int.le_refl b) b1 c1 cd d1
 unfold hiR
 omega
theorem sumP_ends {a b c d : Int} (a1 : -fI false < a) (ab : a ≤ b) (b1 : b < fI false) (c1 : -fI false < c) (cd : c ≤ d) (d1 : d < fI false) :
  sumP (false, mk false a, mk false b) (false, mk false c, mk false d) = if -fI false < aR 2 a c ∧ aR 2 a c ≤ aR 1 b d ∧ aR 1 b d < fI false then ((false, mk false (aR 2 a c), mk false (aR 1 b d)), true) else ((false, 0, 0), false) := by
 rw [sumP_mk a1 ab b1 c1 cd d1, sum_lo a1 ab b1 c1 cd d1, sum_hi a1 ab b1 c1 cd d1]
end Go.Proofs.YteafnkimcidkhaaGreat



namespace Go.Proofs.YteafnkimcidkhaaGreat
open Go.RowKit
set_option linter.unusedVariables false
set_option linter.unusedSimpArgs false
theorem mag_du (s : Bool) (n : Nat) (e : Int) : mag s 2 false n e ≤ mag s 1 false n e ∧ mag s 1 true n e ≤ mag s 2 true n e := by
 unfold mag fin great away
 generalize (lastOf s n e - fL s) * 2 ^ fP s = A
 generalize quo n (lastOf s n e - e) = q
 generalize half n (lastOf s n e - e) = h
 generalize low n (lastOf s n e - e) = l
 cases h <;> cases l <;> simp <;> (split <;> (try split) <;> omega)
theorem rkM_du (s : Bool) (n : Int) (e : Int) : rkM s 2 n e ≤ rkM s 1 n e := by
 have h := mag_du s n.natAbs e
 unfold rkM mgM
 split <;> split <;> omega
theorem aR_du {x y : Int} (x1 : -fI false < x) (x2 : x < fI false) (y1 : -fI false < y) (y2 : y < fI false) : aR 2 x y ≤ aR 1 x y := by
 rw [aR_is x1 x2 y1 y2, aR_is x1 x2 y1 y2]
 exact rkM_du _ _ _
theorem mR_du {x y : Int} (x1 : -fI false < x) (x2 : x < fI false) (y1 : -fI false < y) (y2 : y < fI false) : mR 2 x y ≤ mR 1 x y := by
 rw [mR_is x1 x2 y1 y2, mR_is x1 x2 y1 y2]
 exact rkM_du _ _ _
theorem lj_fin {v r : Int} (h : Res false v r) : finF false v = decide (-fI false < r ∧ r < fI false) := by
 have n := h.num
 have i := h.inf
 have l := h.lo
 have u := h.hi
 have c : cls false v = 0 ∨ cls false v = 1 ∨ cls false v = 2 ∨ cls false v = 3 ∨ cls false v = 4 ∨ cls false v = 5 := by
  unfold cls
  (repeat' split) <;> simp
 unfold finF
 rw [Bool.eq_iff_iff]
 rcases c with c | c | c | c | c | c <;> rw [c] at n i ⊢ <;> simp at n i ⊢ <;> omega
theorem lj_less {v u r q : Int} (h1 : Res false v r) (h2 : Res false u q) : lessF false v u = decide (r < q) := by
 rw [lessN h1.num h2.num, res_rnk h1, res_rnk h2]
theorem mn_res {v u r q : Int} (h1 : Res false v r) (h2 : Res false u q) : Res false (mnP (lessF false) v u) (min r q) := by
 unfold mnP
 rw [lj_less h2 h1]
 by_cases h : q < r
 ·rw [if_pos (by simpa using h), show min r q = q by omega]; exact h2
 ·rw [if_neg (by simpa using h), show min r q = r by omega]; exact h1
theorem mx_res {v u r q : Int} (h1 : Res false v r) (h2 : Res false u q) : Res false (mxP (lessF false) v u) (max r q) := by
 unfold mxP
 rw [lj_less h1 h2]
 by_cases h : r < q
 ·rw [if_pos (by simpa using h), show max r q = q by omega]; exact h2
 ·rw [if_neg (by simpa using h), show max r q = r by omega]; exact h1
def out9 (r q : Int) : (Bool × Int × Int) × Bool := if -fI false < r ∧ r ≤ q ∧ q < fI false then ((false, mk false r, mk false q), true) else ((false, 0, 0), false)
theorem rout9_any {s1 s2 r q : Int} (h1 : Res false s1 r) (h2 : Res false s2 q) (le : r ≤ q) (w1 : Word s1) (w2 : Word s2) (w : World) :
  Calls Tryz.prog 56 #[.int .u64 s1, .int .u64 s2] w fun e w' => e = .returned (.tuple #[.agg #[.bool (out9 r q).1.1, .int .u64 (out9 r q).1.2.1, .int .u64 (out9 r q).1.2.2], .bool (out9 r q).2]) ∧ Below w.heap.size w w' := by
 refine (rout9 s1 s2 _ _ _ _ _ (rfinite_any false s1 w1) (rfinite_any false s2 w2) (rofF_any false s1 s2 w1 w2) w).mono fun e w' k => ⟨k.1.trans ?_, k.2⟩
 rw [lj_fin h1, lj_fin h2]
 unfold out9
 by_cases c : -fI false < r ∧ r ≤ q ∧ q < fI false
 ·have f1 : decide (-fI false < r ∧ r < fI false) = true := by rw [decide_eq_true_iff]; omega
  have f2 : decide (-fI false < q ∧ q < fI false) = true := by rw [decide_eq_true_iff]; omega
  have er : rOfF false s1 s2 = (false, mk false r, mk false q) := by
   rw [← of_same]
   unfold ofP
   rw [show (WyF false).pl s1 = mk false r from h1.pl, show (WyF false).pl s2 = mk false q from h2.pl]
   exact if_pos (liN_R (mk_right c.1 c.2.1 c.2.2)).1
  rw [f1, f2, if_pos c, er]
  rfl
 ·have f : (decide (-fI false < r ∧ r < fI false) && decide (-fI false < q ∧ q < fI false)) = false := by
   rw [Bool.and_eq_false_iff, decide_eq_false_iff_not, decide_eq_false_iff_not]
   omega
  rw [f, if_neg c]
  rfl
theorem rless9_any (u v : Int) (hu : Word u) (hv : Word v) (w : World) : Calls Tryz.prog 59 #[.int .u64 u, .int .u64 v] w fun e w' => e = .returned (.bool (lessF false u v)) ∧ Below w.heap.size w w' :=
 (rless9 u v _ _ (rcompare_any false u v hu hv) w).mono fun e w' ⟨k, q, hq⟩ => ⟨k, by rw [hq]; exact lj_dN w q⟩
theorem rright9 (x : Bool × Int × Int) (hx : wdR x) (w : World) : Calls Tryz.prog 47 #[.int .i64 0, .agg #[.bool x.1, .int .u64 x.2.1, .int .u64 x.2.2]] w fun r w' => r = .returned (.bool (liR x)) ∧ Below w.heap.size w w' := by
 have := rrightF_any false x.1 x.2.1 x.2.2 hx.1 hx.2 w
 rw [← right_same] at this
 exact this
theorem rnone9 (w : World) : Calls Tryz.prog 55 #[] w fun e w' => e = .returned (.agg #[.bool true, .int .u64 0, .int .u64 0]) ∧ Below w.heap.size w w' :=
 (rnoneF w).mono fun e w' k => ⟨k.1, by rw [k.2]; exact sp_new (Below.refl _ _) _⟩
theorem nn_of {x : Bool × Int × Int} (h : liR x = true) (e : x.1 = false) : liN x = true := by simp [liN, h, e]
theorem rsum9_any (x y : Bool × Int × Int) (hx : wdR x) (hy : wdR y) (w : World) :
  Calls Tryz.prog 14 #[.agg #[.bool x.1, .int .u64 x.2.1, .int .u64 x.2.2], .agg #[.bool y.1, .int .u64 y.2.1, .int .u64 y.2.2]] w fun e w' => e = .returned (.tuple #[.agg #[.bool (sumP x y).1.1, .int .u64 (sumP x y).1.2.1, .int .u64 (sumP x y).1.2.2], .bool (sumP x y).2]) ∧ Below w.heap.size w w' := by
 have r1 := rright9 x hx
 have r2 := rright9 y hy
 by_cases c : (liR x && liR y) = false
 ·have e : sumP x y = ((false, 0, 0), false) := if_pos c
  rw [e]
  exact rsum9_no _ _ _ _ _ _ _ _ c r1 r2 w
 have c1 : liR x = true := by revert c; cases liR x <;> simp
 have c2 : liR y = true := by revert c; cases liR y <;> simp
 rw [c1] at r1
 rw [c2] at r2
 by_cases d : (x.1 || y.1) = true
 ·have e : sumP x y = ((true, 0, 0), true) := (if_neg c).trans (if_pos d)
  rw [e]
  exact rsum9_em _ _ _ _ _ _ d r1 r2 rnone9 w
 have d1 : x.1 = false := by revert d; cases x.1 <;> simp
 have d2 : y.1 = false := by revert d; cases y.1 <;> simp
 obtain ⟨a, b, a1, ab, b1, rfl⟩ := right_is hx (nn_of c1 d1)
 obtain ⟨c', d', c1', cd, d1', rfl⟩ := right_is hy (nn_of c2 d2)
 rw [sumP_ends a1 ab b1 c1' cd d1']
 have m1 := aR_mono (m := 2) a1 ab b1 c1' cd d1'
 have m2 := aR_du (x := b) (y := d') (by omega) b1 (by omega) d1'
 have o := rout9_any (aR_res (m := 2) a1 (by omega) c1' (by omega)) (aR_res (m := 1) (show -fI false < b by omega) b1 (show -fI false < d' by omega) d1') (by omega) (addF_word _ _ _ _ hx.1 hy.1) (addF_word _ _ _ _ hx.2 hy.2)
 exact rsum9_ok _ _ _ _ _ _ _ _ _ _ r1 r2 (raddF_any false 2 _ _ hx.1 hy.1) (raddF_any false 1 _ _ hx.2 hy.2) o w
theorem rprod9_any (x y : Bool × Int × Int) (hx : wdR x) (hy : wdR y) (w : World) :
  Calls Tryz.prog 16 #[.agg #[.bool x.1, .int .u64 x.2.1, .int .u64 x.2.2], .agg #[.bool y.1, .int .u64 y.2.1, .int .u64 y.2.2]] w fun e w' => e = .returned (.tuple #[.agg #[.bool (prodP x y).1.1, .int .u64 (prodP x y).1.2.1, .int .u64 (prodP x y).1.2.2], .bool (prodP x y).2]) ∧ Below w.heap.size w w' := by
 have r1 := rright9 x hx
 have r2 := rright9 y hy
 by_cases c : (liR x && liR y) = false
 ·have e : prodP x y = ((false, 0, 0), false) := if_pos c
  rw [e]
  exact rprod9_no _ _ _ _ _ _ _ _ c r1 r2 w
 have c1 : liR x = true := by revert c; cases liR x <;> simp
 have c2 : liR y = true := by revert c; cases liR y <;> simp
 rw [c1] at r1
 rw [c2] at r2
 by_cases d : (x.1 || y.1) = true
 ·have e : prodP x y = ((true, 0, 0), true) := (if_neg c).trans (if_pos d)
  rw [e]
  exact rprod9_em _ _ _ _ _ _ d r1 r2 rnone9 w
 have d1 : x.1 = false := by revert d; cases x.1 <;> simp
 have d2 : y.1 = false := by revert d; cases y.1 <;> simp
 obtain ⟨a, b, a1, ab, b1, rfl⟩ := right_is hx (nn_of c1 d1)
 obtain ⟨c', d', c1', cd, d1', rfl⟩ := right_is hy (nn_of c2 d2)
 rw [prodP_mk a1 ab b1 c1' cd d1']
 have hG : ∀ m u v, (u = a ∨ u = b) → (v = c' ∨ v = d') → Res false (mulF false m (mk false u) (mk false v)) (mR m u v) := fun m u v hu hv => mR_res (by rcases hu with rfl | rfl <;> omega) (by rcases hu with rfl | rfl <;> omega) (by rcases hv with rfl | rfl <;> omega) (by rcases hv with rfl | rfl <;> omega)
 have gw : ∀ m u v, (u = mk false a ∨ u = mk false b) → (v = mk false c' ∨ v = mk false d') → Word (mulF false m u v) := fun m u v _ _ => mulF_word _ _ _ _
 have w1 : ∀ u, (u = mk false a ∨ u = mk false b) → Word u := fun u hu => by rcases hu with rfl | rfl; exact hx.1; exact hx.2
 have w2 : ∀ u, (u = mk false c' ∨ u = mk false d') → Word u := fun u hu => by rcases hu with rfl | rfl; exact hy.1; exact hy.2
 have l1 := mn_res (mn_res (mn_res (mn_res (hG 2 a c' (Or.inl rfl) (Or.inl rfl)) (hG 2 a c' (Or.inl rfl) (Or.inl rfl))) (hG 2 a d' (Or.inl rfl) (Or.inr rfl))) (hG 2 b c' (Or.inr rfl) (Or.inl rfl))) (hG 2 b d' (Or.inr rfl) (Or.inr rfl))
 have g1 := mx_res (mx_res (mx_res (mx_res (hG 1 a c' (Or.inl rfl) (Or.inl rfl)) (hG 1 a c' (Or.inl rfl) (Or.inl rfl))) (hG 1 a d' (Or.inl rfl) (Or.inr rfl))) (hG 1 b c' (Or.inr rfl) (Or.inl rfl))) (hG 1 b d' (Or.inr rfl) (Or.inr rfl))
 rw [show min (min (min (min (mR 2 a c') (mR 2 a c')) (mR 2 a d')) (mR 2 b c')) (mR 2 b d') = loR mR a b c' d' by unfold loR; omega] at l1
 rw [show max (max (max (max (mR 1 a c') (mR 1 a c')) (mR 1 a d')) (mR 1 b c')) (mR 1 b d') = hiR mR a b c' d' by unfold hiR; omega] at g1
 have m2 := mR_du (x := a) (y := c') a1 (by omega) c1' (by omega)
 have le : loR mR a b c' d' ≤ hiR mR a b c' d' := by unfold loR hiR; omega
 have e1 : LOn (mulF false) (lessF false) (mk false a) (mk false b) (mk false c') (mk false d') 4 = mnP (lessF false) (mnP (lessF false) (mnP (lessF false) (mnP (lessF false) (mulF false 2 (mk false a) (mk false c')) (mulF false 2 (mk false a) (mk false c'))) (mulF false 2 (mk false a) (mk false d'))) (mulF false 2 (mk false b) (mk false c'))) (mulF false 2 (mk false b) (mk false d')) := rfl
 have e2 : HIn (mulF false) (lessF false) (mk false a) (mk false b) (mk false c') (mk false d') 4 = mxP (lessF false) (mxP (lessF false) (mxP (lessF false) (mxP (lessF false) (mulF false 1 (mk false a) (mk false c')) (mulF false 1 (mk false a) (mk false c'))) (mulF false 1 (mk false a) (mk false d'))) (mulF false 1 (mk false b) (mk false c'))) (mulF false 1 (mk false b) (mk false d')) := rfl
 rw [← e1] at l1
 rw [← e2] at g1
 have wl : ∀ n, Word (LOn (mulF false) (lessF false) (mk false a) (mk false b) (mk false c') (mk false d') n) := fun n => by
  induction n with
  | zero => exact mulF_word _ _ _ _
  | succ n ih => unfold LOn mnP; split; exact mulF_word _ _ _ _; exact ih
 have wh : ∀ n, Word (HIn (mulF false) (lessF false) (mk false a) (mk false b) (mk false c') (mk false d') n) := fun n => by
  induction n with
  | zero => exact mulF_word _ _ _ _
  | succ n ih => unfold HIn mxP; split; exact mulF_word _ _ _ _; exact ih
 have o := rout9_any l1 g1 le (wl 4) (wh 4)
 exact rprod9_ok _ _ _ _ (mulF false) (lessF false) gw _ _ _ _ r1 r2 (fun m u v hu hv => rmulF_any false m u v (w1 u hu) (w2 v hv)) (fun u v hu hv V => rless9_any u v hu hv V) o w
end Go.Proofs.YteafnkimcidkhaaGreat



namespace Go.Proofs.YteafnkimcidkhaaGreat
open Go.RowKit
set_option linter.unusedVariables false
set_option linter.unusedSimpArgs false
set_option maxRecDepth 100000 in
set_option maxHeartbeats 6400000 in
theorem ranges_walk (e1 : Bool) (a b : Int) (e2 : Bool) (c d : Int) (se : Bool) (sl sh : Int) (sk : Bool) (pe : Bool) (pl ph : Int) (pk : Bool)
  (k1 : ∀ V, Calls Tryz.prog 13 #[.agg #[.bool e1, .int .u64 a, .int .u64 b], .agg #[.bool e2, .int .u64 c, .int .u64 d]] V fun e w' => e = .returned (.tuple #[.agg #[.bool se, .int .u64 sl, .int .u64 sh], .bool sk]) ∧ Below V.heap.size V w')
  (k2 : ∀ V, Calls Tryz.prog 14 #[.agg #[.bool e1, .int .u64 a, .int .u64 b], .agg #[.bool e2, .int .u64 c, .int .u64 d]] V fun e w' => e = .returned (.tuple #[.agg #[.bool se, .int .u64 sl, .int .u64 sh], .bool sk]) ∧ Below V.heap.size V w')
  (k3 : ∀ V, Calls Tryz.prog 15 #[.agg #[.bool e1, .int .u64 a, .int .u64 b], .agg #[.bool e2, .int .u64 c, .int .u64 d]] V fun e w' => e = .returned (.tuple #[.agg #[.bool pe, .int .u64 pl, .int .u64 ph], .bool pk]) ∧ Below V.heap.size V w')
  (k4 : ∀ V, Calls Tryz.prog 16 #[.agg #[.bool e1, .int .u64 a, .int .u64 b], .agg #[.bool e2, .int .u64 c, .int .u64 d]] V fun e w' => e = .returned (.tuple #[.agg #[.bool pe, .int .u64 pl, .int .u64 ph], .bool pk]) ∧ Below V.heap.size V w')
  (k5 : ∀ V, Calls Tryz.prog 17 #[] V fun e w' => e = .returned (.bool true) ∧ Below V.heap.size V w') (w : World) :
  Calls Tryz.prog 3 #[.agg #[.bool e1, .int .u64 a, .int .u64 b], .agg #[.bool e2, .int .u64 c, .int .u64 d]] w fun e w' => e = .returned (.bool true) ∧ Below w.heap.size w w' := by
 obtain ⟨W, hW⟩ : ∃ W, (w.alloc (.cells #[.bool e1, .int .u64 a, .int .u64 b] 24)).alloc (.cells #[.bool e2, .int .u64 c, .int .u64 d] 24) = W := ⟨_, rfl⟩
 have gW : Below w.heap.size w W := by rw [← hW]; exact sp_new (sp_new (Below.refl _ _) _) _
 have a0 : W.cell? ⟨w.heap.size, 0, none⟩ = some (.bool e1) := by rw [← hW]; simp [go_sem]
 have a1 : W.cell? ⟨w.heap.size, 1, none⟩ = some (.int .u64 a) := by rw [← hW]; simp [go_sem]
 have a2 : W.cell? ⟨w.heap.size, 2, none⟩ = some (.int .u64 b) := by rw [← hW]; simp [go_sem]
 have b0 : W.cell? ⟨w.heap.size + 1, 0, none⟩ = some (.bool e2) := by rw [← hW]; simp [go_sem]
 have b1 : W.cell? ⟨w.heap.size + 1, 1, none⟩ = some (.int .u64 c) := by rw [← hW]; simp [go_sem]
 have b2 : W.cell? ⟨w.heap.size + 1, 2, none⟩ = some (.int .u64 d) := by rw [← hW]; simp [go_sem]
 go_enter Tryz.func3, Tryz.ntmps3
 go_upto_region 1 with fail
 (try rw [hW])
 clear hW
 go_upto_region 2 with (first
  | (go_at_call 13; refine (k1 _).mono ?_; rintro e v1 ⟨rfl, g⟩; replace a0 := sO g a0; replace a1 := sO g a1; replace a2 := sO g a2; replace b0 := sO g b0; replace b1 := sO g b1; replace b2 := sO g b2; replace gW := sp_call gW g; clear g k1)
  | fail)
 have gN0 : Below v1.heap.size v1 (v1.alloc (.cells #[.bool se, .int .u64 sl, .int .u64 sh] 24)) := sp_new (Below.refl _ _) _
 have x0 : (v1.alloc (.cells #[.bool se, .int .u64 sl, .int .u64 sh] 24)).cell? ⟨v1.heap.size, 0, none⟩ = some (.bool se) := by simp [go_sem]
 have x1 : (v1.alloc (.cells #[.bool se, .int .u64 sl, .int .u64 sh] 24)).cell? ⟨v1.heap.size, 1, none⟩ = some (.int .u64 sl) := by simp [go_sem]
 have x2 : (v1.alloc (.cells #[.bool se, .int .u64 sl, .int .u64 sh] 24)).cell? ⟨v1.heap.size, 2, none⟩ = some (.int .u64 sh) := by simp [go_sem]
 replace a0 := sO gN0 a0; replace a1 := sO gN0 a1; replace a2 := sO gN0 a2; replace b0 := sO gN0 b0; replace b1 := sO gN0 b1; replace b2 := sO gN0 b2
 replace gW := sp_call gW gN0
 generalize v1.alloc (.cells #[.bool se, .int .u64 sl, .int .u64 sh] 24) = Y1 at *
 clear gN0
 generalize v1.heap.size = Bx at *
 clear v1
 go_upto_region 3 with (first
  | (go_at_call 14; refine (k2 _).mono ?_; rintro e v2 ⟨rfl, g⟩; replace a0 := sO g a0; replace a1 := sO g a1; replace a2 := sO g a2; replace b0 := sO g b0; replace b1 := sO g b1; replace b2 := sO g b2; replace x0 := sO g x0; replace x1 := sO g x1; replace x2 := sO g x2; replace gW := sp_call gW g; clear g k2)
  | fail)
 have gN1 : Below v2.heap.size v2 (v2.alloc (.cells #[.bool se, .int .u64 sl, .int .u64 sh] 24)) := sp_new (Below.refl _ _) _
 have y0 : (v2.alloc (.cells #[.bool se, .int .u64 sl, .int .u64 sh] 24)).cell? ⟨v2.heap.size, 0, none⟩ = some (.bool se) := by simp [go_sem]
 have y1 : (v2.alloc (.cells #[.bool se, .int .u64 sl, .int .u64 sh] 24)).cell? ⟨v2.heap.size, 1, none⟩ = some (.int .u64 sl) := by simp [go_sem]
 have y2 : (v2.alloc (.cells #[.bool se, .int .u64 sl, .int .u64 sh] 24)).cell? ⟨v2.heap.size, 2, none⟩ = some (.int .u64 sh) := by simp [go_sem]
 replace a0 := sO gN1 a0; replace a1 := sO gN1 a1; replace a2 := sO gN1 a2; replace b0 := sO gN1 b0; replace b1 := sO gN1 b1; replace b2 := sO gN1 b2; replace x0 := sO gN1 x0; replace x1 := sO gN1 x1; replace x2 := sO gN1 x2
 replace gW := sp_call gW gN1
 generalize v2.alloc (.cells #[.bool se, .int .u64 sl, .int .u64 sh] 24) = Y2 at *
 clear gN1
 generalize v2.heap.size = By at *
 clear v2
 go_upto_region 4 with (first
  | (go_at_call 15; refine (k3 _).mono ?_; rintro e v3 ⟨rfl, g⟩; replace a0 := sO g a0; replace a1 := sO g a1; replace a2 := sO g a2; replace b0 := sO g b0; replace b1 := sO g b1; replace b2 := sO g b2; replace x0 := sO g x0; replace x1 := sO g x1; replace x2 := sO g x2; replace y0 := sO g y0; replace y1 := sO g y1; replace y2 := sO g y2; replace gW := sp_call gW g; clear g k3)
  | fail)
 have gN2 : Below v3.heap.size v3 (v3.alloc (.cells #[.bool pe, .int .u64 pl, .int .u64 ph] 24)) := sp_new (Below.refl _ _) _
 have z0 : (v3.alloc (.cells #[.bool pe, .int .u64 pl, .int .u64 ph] 24)).cell? ⟨v3.heap.size, 0, none⟩ = some (.bool pe) := by simp [go_sem]
 have z1 : (v3.alloc (.cells #[.bool pe, .int .u64 pl, .int .u64 ph] 24)).cell? ⟨v3.heap.size, 1, none⟩ = some (.int .u64 pl) := by simp [go_sem]
 have z2 : (v3.alloc (.cells #[.bool pe, .int .u64 pl, .int .u64 ph] 24)).cell? ⟨v3.heap.size, 2, none⟩ = some (.int .u64 ph) := by simp [go_sem]
 replace a0 := sO gN2 a0; replace a1 := sO gN2 a1; replace a2 := sO gN2 a2; replace b0 := sO gN2 b0; replace b1 := sO gN2 b1; replace b2 := sO gN2 b2; replace x0 := sO gN2 x0; replace x1 := sO gN2 x1; replace x2 := sO gN2 x2; replace y0 := sO gN2 y0; replace y1 := sO gN2 y1; replace y2 := sO gN2 y2
 replace gW := sp_call gW gN2
 generalize v3.alloc (.cells #[.bool pe, .int .u64 pl, .int .u64 ph] 24) = Y3 at *
 clear gN2
 generalize v3.heap.size = Bz at *
 clear v3
 go_upto_region 5 with (first
  | (go_at_call 16; refine (k4 _).mono ?_; rintro e v4 ⟨rfl, g⟩; replace a0 := sO g a0; replace a1 := sO g a1; replace a2 := sO g a2; replace b0 := sO g b0; replace b1 := sO g b1; replace b2 := sO g b2; replace x0 := sO g x0; replace x1 := sO g x1; replace x2 := sO g x2; replace y0 := sO g y0; replace y1 := sO g y1; replace y2 := sO g y2; replace z0 := sO g z0; replace z1 := sO g z1; replace z2 := sO g z2; replace gW := sp_call gW g; clear g k4)
  | fail)
 have gN3 : Below v4.heap.size v4 (v4.alloc (.cells #[.bool pe, .int .u64 pl, .int .u64 ph] 24)) := sp_new (Below.refl _ _) _
 have u0 : (v4.alloc (.cells #[.bool pe, .int .u64 pl, .int .u64 ph] 24)).cell? ⟨v4.heap.size, 0, none⟩ = some (.bool pe) := by simp [go_sem]
 have u1 : (v4.alloc (.cells #[.bool pe, .int .u64 pl, .int .u64 ph] 24)).cell? ⟨v4.heap.size, 1, none⟩ = some (.int .u64 pl) := by simp [go_sem]
 have u2 : (v4.alloc (.cells #[.bool pe, .int .u64 pl, .int .u64 ph] 24)).cell? ⟨v4.heap.size, 2, none⟩ = some (.int .u64 ph) := by simp [go_sem]
 replace a0 := sO gN3 a0; replace a1 := sO gN3 a1; replace a2 := sO gN3 a2; replace b0 := sO gN3 b0; replace b1 := sO gN3 b1; replace b2 := sO gN3 b2; replace x0 := sO gN3 x0; replace x1 := sO gN3 x1; replace x2 := sO gN3 x2; replace y0 := sO gN3 y0; replace y1 := sO gN3 y1; replace y2 := sO gN3 y2; replace z0 := sO gN3 z0; replace z1 := sO gN3 z1; replace z2 := sO gN3 z2
 replace gW := sp_call gW gN3
 generalize v4.alloc (.cells #[.bool pe, .int .u64 pl, .int .u64 ph] 24) = Y4 at *
 clear gN3
 generalize v4.heap.size = Bu at *
 clear v4
 clear a0 a1 a2 b0 b1 b2
 go_wp2_with (first
  | (go_at_call 17; refine (k5 _).mono ?_; rintro e v5 ⟨rfl, g⟩; replace x0 := sO g x0; replace x1 := sO g x1; replace x2 := sO g x2; replace y0 := sO g y0; replace y1 := sO g y1; replace y2 := sO g y2; replace z0 := sO g z0; replace z1 := sO g z1; replace z2 := sO g z2; replace u0 := sO g u0; replace u1 := sO g u1; replace u2 := sO g u2; replace gW := sp_call gW g; clear g k5)
  | fail)
 go_ret
 exact ⟨rfl, gW⟩
theorem law_ranges (e1 : Bool) (a b : Int) (e2 : Bool) (c d : Int) (ha : Word a) (hb : Word b) (hc : Word c) (hd : Word d) (w : World) :
  Calls Tryz.prog 3 #[.agg #[.bool e1, .int .u64 a, .int .u64 b], .agg #[.bool e2, .int .u64 c, .int .u64 d]] w fun e w' => e = .returned (.bool true) ∧ Below w.heap.size w w' := by
 have h1 : wdR (e1, a, b) := ⟨ha, hb⟩
 have h2 : wdR (e2, c, d) := ⟨hc, hd⟩
 exact ranges_walk e1 a b e2 c d _ _ _ _ _ _ _ _ (lsum_any (e1, a, b) (e2, c, d) h1 h2) (rsum9_any (e1, a, b) (e2, c, d) h1 h2) (lprod_any (e1, a, b) (e2, c, d) h1 h2) (rprod9_any (e1, a, b) (e2, c, d) h1 h2) lilive_any w
end Go.Proofs.YteafnkimcidkhaaGreat



