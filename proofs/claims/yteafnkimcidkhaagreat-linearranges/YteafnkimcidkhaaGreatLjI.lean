/- The reference's sums and products of ranges are the program's. -/
import Derived.Test.YteafnkimcidkhaaGreatLjH
import Derived.Test.YteafnkimcidkhaaGreatLjC
import Derived.Test.YteafnkimcidkhaaGreatSpRf
import Derived.Test.YteafnkimcidkhaaGreatSpRg
import Derived.Test.YteafnkimcidkhaaGreatSpRh
import Derived.Test.YteafnkimcidkhaaGreatFlS
namespace Go.Proofs.YteafnkimcidkhaaGreat
open Go.RowKit
set_option linter.unusedVariables false
set_option linter.unusedSimpArgs false
theorem mag_du (s : Bool) (n : Nat) (e : Int) : mag s 2 false n e ≤ mag s 1 false n e ∧ mag s 1 true n e ≤ mag s 2 true n e := by
  unfold mag fin great away
  generalize (lastOf s n e - fL s) * 2 ^ fP s = A
  generalize quo n (lastOf s n e - e) = q
  generalize half n (lastOf s n e - e) = h
  generalize low n (lastOf s n e - e) = l
  cases h <;> cases l <;> simp <;> (split <;> (try split) <;> omega)
theorem rkM_du (s : Bool) (n : Int) (e : Int) : rkM s 2 n e ≤ rkM s 1 n e := by
  have h := mag_du s n.natAbs e
  unfold rkM mgM
  split <;> split <;> omega
theorem aR_du {x y : Int} (x1 : -fI false < x) (x2 : x < fI false) (y1 : -fI false < y) (y2 : y < fI false) : aR 2 x y ≤ aR 1 x y := by
  rw [aR_is x1 x2 y1 y2, aR_is x1 x2 y1 y2]
  exact rkM_du _ _ _
theorem mR_du {x y : Int} (x1 : -fI false < x) (x2 : x < fI false) (y1 : -fI false < y) (y2 : y < fI false) : mR 2 x y ≤ mR 1 x y := by
  rw [mR_is x1 x2 y1 y2, mR_is x1 x2 y1 y2]
  exact rkM_du _ _ _
theorem lj_fin {v r : Int} (h : Res false v r) : finF false v = decide (-fI false < r ∧ r < fI false) := by
  have n := h.num
  have i := h.inf
  have l := h.lo
  have u := h.hi
  have c : cls false v = 0 ∨ cls false v = 1 ∨ cls false v = 2 ∨ cls false v = 3 ∨ cls false v = 4 ∨ cls false v = 5 := by
    unfold cls
    (repeat' split) <;> simp
  unfold finF
  rw [Bool.eq_iff_iff]
  rcases c with c | c | c | c | c | c <;> rw [c] at n i ⊢ <;> simp at n i ⊢ <;> omega
theorem lj_less {v u r q : Int} (h1 : Res false v r) (h2 : Res false u q) : lessF false v u = decide (r < q) := by
  rw [lessN h1.num h2.num, res_rnk h1, res_rnk h2]
theorem mn_res {v u r q : Int} (h1 : Res false v r) (h2 : Res false u q) : Res false (mnP (lessF false) v u) (min r q) := by
  unfold mnP
  rw [lj_less h2 h1]
  by_cases h : q < r
  · rw [if_pos (by simpa using h), show min r q = q by omega]; exact h2
  · rw [if_neg (by simpa using h), show min r q = r by omega]; exact h1
theorem mx_res {v u r q : Int} (h1 : Res false v r) (h2 : Res false u q) : Res false (mxP (lessF false) v u) (max r q) := by
  unfold mxP
  rw [lj_less h1 h2]
  by_cases h : r < q
  · rw [if_pos (by simpa using h), show max r q = q by omega]; exact h2
  · rw [if_neg (by simpa using h), show max r q = r by omega]; exact h1
/-- What outward of the reference tells. -/
def out9 (r q : Int) : (Bool × Int × Int) × Bool := if -fI false < r ∧ r ≤ q ∧ q < fI false then ((false, mk false r, mk false q), true) else ((false, 0, 0), false)
theorem rout9_any {s1 s2 r q : Int} (h1 : Res false s1 r) (h2 : Res false s2 q) (le : r ≤ q) (w1 : Word s1) (w2 : Word s2) (w : World) :
    Calls Tryz.prog 56 #[.int .u64 s1, .int .u64 s2] w fun e w' => e = .returned (.tuple #[.agg #[.bool (out9 r q).1.1, .int .u64 (out9 r q).1.2.1, .int .u64 (out9 r q).1.2.2], .bool (out9 r q).2]) ∧ Below w.heap.size w w' := by
  refine (rout9 s1 s2 _ _ _ _ _ (rfinite_any false s1 w1) (rfinite_any false s2 w2) (rofF_any false s1 s2 w1 w2) w).mono fun e w' k => ⟨k.1.trans ?_, k.2⟩
  rw [lj_fin h1, lj_fin h2]
  unfold out9
  by_cases c : -fI false < r ∧ r ≤ q ∧ q < fI false
  · have f1 : decide (-fI false < r ∧ r < fI false) = true := by rw [decide_eq_true_iff]; omega
    have f2 : decide (-fI false < q ∧ q < fI false) = true := by rw [decide_eq_true_iff]; omega
    have er : rOfF false s1 s2 = (false, mk false r, mk false q) := by
      rw [← of_same]
      unfold ofP
      rw [show (WyF false).pl s1 = mk false r from h1.pl, show (WyF false).pl s2 = mk false q from h2.pl]
      exact if_pos (liN_R (mk_right c.1 c.2.1 c.2.2)).1
    rw [f1, f2, if_pos c, er]
    rfl
  · have f : (decide (-fI false < r ∧ r < fI false) && decide (-fI false < q ∧ q < fI false)) = false := by
      rw [Bool.and_eq_false_iff, decide_eq_false_iff_not, decide_eq_false_iff_not]
      omega
    rw [f, if_neg c]
    rfl
theorem rless9_any (u v : Int) (hu : Word u) (hv : Word v) (w : World) : Calls Tryz.prog 59 #[.int .u64 u, .int .u64 v] w fun e w' => e = .returned (.bool (lessF false u v)) ∧ Below w.heap.size w w' :=
  (rless9 u v _ _ (rcompare_any false u v hu hv) w).mono fun e w' ⟨k, q, hq⟩ => ⟨k, by rw [hq]; exact lj_dN w q⟩
theorem rright9 (x : Bool × Int × Int) (hx : wdR x) (w : World) : Calls Tryz.prog 47 #[.int .i64 0, .agg #[.bool x.1, .int .u64 x.2.1, .int .u64 x.2.2]] w fun r w' => r = .returned (.bool (liR x)) ∧ Below w.heap.size w w' := by
  have := rrightF_any false x.1 x.2.1 x.2.2 hx.1 hx.2 w
  rw [← right_same] at this
  exact this
theorem rnone9 (w : World) : Calls Tryz.prog 55 #[] w fun e w' => e = .returned (.agg #[.bool true, .int .u64 0, .int .u64 0]) ∧ Below w.heap.size w w' :=
  (rnoneF w).mono fun e w' k => ⟨k.1, by rw [k.2]; exact sp_new (Below.refl _ _) _⟩
theorem nn_of {x : Bool × Int × Int} (h : liR x = true) (e : x.1 = false) : liN x = true := by simp [liN, h, e]
/-- The reference's Sum. -/
theorem rsum9_any (x y : Bool × Int × Int) (hx : wdR x) (hy : wdR y) (w : World) :
    Calls Tryz.prog 14 #[.agg #[.bool x.1, .int .u64 x.2.1, .int .u64 x.2.2], .agg #[.bool y.1, .int .u64 y.2.1, .int .u64 y.2.2]] w fun e w' => e = .returned (.tuple #[.agg #[.bool (sumP x y).1.1, .int .u64 (sumP x y).1.2.1, .int .u64 (sumP x y).1.2.2], .bool (sumP x y).2]) ∧ Below w.heap.size w w' := by
  have r1 := rright9 x hx
  have r2 := rright9 y hy
  by_cases c : (liR x && liR y) = false
  · have e : sumP x y = ((false, 0, 0), false) := if_pos c
    rw [e]
    exact rsum9_no _ _ _ _ _ _ _ _ c r1 r2 w
  have c1 : liR x = true := by revert c; cases liR x <;> simp
  have c2 : liR y = true := by revert c; cases liR y <;> simp
  rw [c1] at r1
  rw [c2] at r2
  by_cases d : (x.1 || y.1) = true
  · have e : sumP x y = ((true, 0, 0), true) := (if_neg c).trans (if_pos d)
    rw [e]
    exact rsum9_em _ _ _ _ _ _ d r1 r2 rnone9 w
  have d1 : x.1 = false := by revert d; cases x.1 <;> simp
  have d2 : y.1 = false := by revert d; cases y.1 <;> simp
  obtain ⟨a, b, a1, ab, b1, rfl⟩ := right_is hx (nn_of c1 d1)
  obtain ⟨c', d', c1', cd, d1', rfl⟩ := right_is hy (nn_of c2 d2)
  rw [sumP_ends a1 ab b1 c1' cd d1']
  have m1 := aR_mono (m := 2) a1 ab b1 c1' cd d1'
  have m2 := aR_du (x := b) (y := d') (by omega) b1 (by omega) d1'
  have o := rout9_any (aR_res (m := 2) a1 (by omega) c1' (by omega)) (aR_res (m := 1) (show -fI false < b by omega) b1 (show -fI false < d' by omega) d1') (by omega) (addF_word _ _ _ _ hx.1 hy.1) (addF_word _ _ _ _ hx.2 hy.2)
  exact rsum9_ok _ _ _ _ _ _ _ _ _ _ r1 r2 (raddF_any false 2 _ _ hx.1 hy.1) (raddF_any false 1 _ _ hx.2 hy.2) o w
/-- The reference's Product. -/
theorem rprod9_any (x y : Bool × Int × Int) (hx : wdR x) (hy : wdR y) (w : World) :
    Calls Tryz.prog 16 #[.agg #[.bool x.1, .int .u64 x.2.1, .int .u64 x.2.2], .agg #[.bool y.1, .int .u64 y.2.1, .int .u64 y.2.2]] w fun e w' => e = .returned (.tuple #[.agg #[.bool (prodP x y).1.1, .int .u64 (prodP x y).1.2.1, .int .u64 (prodP x y).1.2.2], .bool (prodP x y).2]) ∧ Below w.heap.size w w' := by
  have r1 := rright9 x hx
  have r2 := rright9 y hy
  by_cases c : (liR x && liR y) = false
  · have e : prodP x y = ((false, 0, 0), false) := if_pos c
    rw [e]
    exact rprod9_no _ _ _ _ _ _ _ _ c r1 r2 w
  have c1 : liR x = true := by revert c; cases liR x <;> simp
  have c2 : liR y = true := by revert c; cases liR y <;> simp
  rw [c1] at r1
  rw [c2] at r2
  by_cases d : (x.1 || y.1) = true
  · have e : prodP x y = ((true, 0, 0), true) := (if_neg c).trans (if_pos d)
    rw [e]
    exact rprod9_em _ _ _ _ _ _ d r1 r2 rnone9 w
  have d1 : x.1 = false := by revert d; cases x.1 <;> simp
  have d2 : y.1 = false := by revert d; cases y.1 <;> simp
  obtain ⟨a, b, a1, ab, b1, rfl⟩ := right_is hx (nn_of c1 d1)
  obtain ⟨c', d', c1', cd, d1', rfl⟩ := right_is hy (nn_of c2 d2)
  rw [prodP_mk a1 ab b1 c1' cd d1']
  have hG : ∀ m u v, (u = a ∨ u = b) → (v = c' ∨ v = d') → Res false (mulF false m (mk false u) (mk false v)) (mR m u v) := fun m u v hu hv => mR_res (by rcases hu with rfl | rfl <;> omega) (by rcases hu with rfl | rfl <;> omega) (by rcases hv with rfl | rfl <;> omega) (by rcases hv with rfl | rfl <;> omega)
  have gw : ∀ m u v, (u = mk false a ∨ u = mk false b) → (v = mk false c' ∨ v = mk false d') → Word (mulF false m u v) := fun m u v _ _ => mulF_word _ _ _ _
  have w1 : ∀ u, (u = mk false a ∨ u = mk false b) → Word u := fun u hu => by rcases hu with rfl | rfl; exact hx.1; exact hx.2
  have w2 : ∀ u, (u = mk false c' ∨ u = mk false d') → Word u := fun u hu => by rcases hu with rfl | rfl; exact hy.1; exact hy.2
  have l1 := mn_res (mn_res (mn_res (mn_res (hG 2 a c' (Or.inl rfl) (Or.inl rfl)) (hG 2 a c' (Or.inl rfl) (Or.inl rfl))) (hG 2 a d' (Or.inl rfl) (Or.inr rfl))) (hG 2 b c' (Or.inr rfl) (Or.inl rfl))) (hG 2 b d' (Or.inr rfl) (Or.inr rfl))
  have g1 := mx_res (mx_res (mx_res (mx_res (hG 1 a c' (Or.inl rfl) (Or.inl rfl)) (hG 1 a c' (Or.inl rfl) (Or.inl rfl))) (hG 1 a d' (Or.inl rfl) (Or.inr rfl))) (hG 1 b c' (Or.inr rfl) (Or.inl rfl))) (hG 1 b d' (Or.inr rfl) (Or.inr rfl))
  rw [show min (min (min (min (mR 2 a c') (mR 2 a c')) (mR 2 a d')) (mR 2 b c')) (mR 2 b d') = loR mR a b c' d' by unfold loR; omega] at l1
  rw [show max (max (max (max (mR 1 a c') (mR 1 a c')) (mR 1 a d')) (mR 1 b c')) (mR 1 b d') = hiR mR a b c' d' by unfold hiR; omega] at g1
  have m2 := mR_du (x := a) (y := c') a1 (by omega) c1' (by omega)
  have le : loR mR a b c' d' ≤ hiR mR a b c' d' := by unfold loR hiR; omega
  have e1 : LOn (mulF false) (lessF false) (mk false a) (mk false b) (mk false c') (mk false d') 4 = mnP (lessF false) (mnP (lessF false) (mnP (lessF false) (mnP (lessF false) (mulF false 2 (mk false a) (mk false c')) (mulF false 2 (mk false a) (mk false c'))) (mulF false 2 (mk false a) (mk false d'))) (mulF false 2 (mk false b) (mk false c'))) (mulF false 2 (mk false b) (mk false d')) := rfl
  have e2 : HIn (mulF false) (lessF false) (mk false a) (mk false b) (mk false c') (mk false d') 4 = mxP (lessF false) (mxP (lessF false) (mxP (lessF false) (mxP (lessF false) (mulF false 1 (mk false a) (mk false c')) (mulF false 1 (mk false a) (mk false c'))) (mulF false 1 (mk false a) (mk false d'))) (mulF false 1 (mk false b) (mk false c'))) (mulF false 1 (mk false b) (mk false d')) := rfl
  rw [← e1] at l1
  rw [← e2] at g1
  have wl : ∀ n, Word (LOn (mulF false) (lessF false) (mk false a) (mk false b) (mk false c') (mk false d') n) := fun n => by
    induction n with
    | zero => exact mulF_word _ _ _ _
    | succ n ih => unfold LOn mnP; split; exact mulF_word _ _ _ _; exact ih
  have wh : ∀ n, Word (HIn (mulF false) (lessF false) (mk false a) (mk false b) (mk false c') (mk false d') n) := fun n => by
    induction n with
    | zero => exact mulF_word _ _ _ _
    | succ n ih => unfold HIn mxP; split; exact mulF_word _ _ _ _; exact ih
  have o := rout9_any l1 g1 le (wl 4) (wh 4)
  exact rprod9_ok _ _ _ _ (mulF false) (lessF false) gw _ _ _ _ r1 r2 (fun m u v hu hv => rmulF_any false m u v (w1 u hu) (w2 v hv)) (fun u v hu hv V => rless9_any u v hu hv V) o w
end Go.Proofs.YteafnkimcidkhaaGreat

