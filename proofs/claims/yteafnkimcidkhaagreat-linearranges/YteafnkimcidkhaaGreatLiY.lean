/- Sums and products of ranges, by ranks; what is added is right, and does not hang on the order. -/
import Derived.Test.YteafnkimcidkhaaGreatLiU
import Derived.Test.YteafnkimcidkhaaGreatFlN
import Derived.Test.YteafnkimcidkhaaGreatFlS
namespace Go.Proofs.YteafnkimcidkhaaGreat
open Go.RowKit
set_option linter.unusedVariables false
set_option linter.unusedSimpArgs false
theorem res_rnk {s : Bool} {v r : Int} (h : Res s v r) : rnk s v = r := by
  have hp := h.pl
  have hn := h.num
  unfold plainF at hp
  rw [hn] at hp
  simp only [Bool.false_eq_true, if_false] at hp
  split at hp
  · rename_i hz
    have hr : r = 0 := by
      have : mk s r = mk s 0 := hp.symm
      exact mk_inj h.lo h.hi (by have := fI_pos s; omega) (by have := fI_pos s; omega) this
    have : rnk s v = 0 := by
      have hz2 : cls s v = 1 := by simpa using hz
      have : zOf s v = 0 := by
        unfold cls at hz2
        repeat' split at hz2
        all_goals first | assumption | (exfalso; simp at hz2; done) | (simp_all; done)
      unfold rnk
      rw [this]
      split <;> rfl
    rw [this, hr]
  · rw [hp]
    exact mk_rnk h.lo h.hi
theorem les_res {v u r q : Int} (h1 : Res false v r) (h2 : Res false u q) : Res false (lesP v u) (min r q) := by
  have hc : (cmpF false v u).1 = cmpI (rnk false v) (rnk false u) := ordN (s := false) h1.num h2.num
  rw [res_rnk h1, res_rnk h2] at hc
  unfold lesP
  rw [hc]
  by_cases h : q < r
  · rw [if_pos ((pos_cmp _ _).2 h), show min r q = q by omega]
    exact h2
  · rw [if_neg fun x => h ((pos_cmp _ _).1 x), show min r q = r by omega]
    exact h1
theorem gre_res {v u r q : Int} (h1 : Res false v r) (h2 : Res false u q) : Res false (greP v u) (max r q) := by
  have hc : (cmpF false v u).1 = cmpI (rnk false v) (rnk false u) := ordN (s := false) h1.num h2.num
  rw [res_rnk h1, res_rnk h2] at hc
  unfold greP
  rw [hc]
  by_cases h : r < q
  · rw [if_pos ((neg_cmp _ _).2 h), show max r q = q by omega]
    exact h2
  · rw [if_neg fun x => h ((neg_cmp _ _).1 x), show max r q = r by omega]
    exact h1
/-- The least and the greatest of four. -/
def loR (G : Int → Int → Int → Int) (a b c d : Int) : Int := min (min (min (G 2 a c) (G 2 a d)) (G 2 b c)) (G 2 b d)
def hiR (G : Int → Int → Int → Int) (a b c d : Int) : Int := max (max (max (G 1 a c) (G 1 a d)) (G 1 b c)) (G 1 b d)
theorem right_is {a : Bool × Int × Int} (hw : wdR a) (h : liN a = true) : ∃ r q, -fI false < r ∧ r ≤ q ∧ q < fI false ∧ a = (false, mk false r, mk false q) := by
  obtain ⟨e, x, y⟩ := a
  simp only [liN, liR, Bool.and_eq_true, Bool.not_eq_true'] at h
  obtain ⟨h1, rfl⟩ := h
  simp only [rightP, Bool.false_eq_true, if_false, Bool.and_eq_true, decide_eq_true_eq] at h1
  obtain ⟨hx, hy, ho⟩ := h1
  obtain ⟨r, r1, r2, rfl⟩ := one_is hw.1 hx
  obtain ⟨q, q1, q2, rfl⟩ := one_is hw.2 hy
  rw [ord_mk (by omega) (by omega) (by omega) (by omega)] at ho
  have := (le_cmp r q).1 ho
  exact ⟨r, q, r1, this, q2, rfl⟩
theorem mk_right {r q : Int} (h1 : -fI false < r) (h2 : r ≤ q) (h3 : q < fI false) : liN (false, mk false r, mk false q) = true := by
  simp only [liN, liR, rightP, Bool.false_eq_true, if_false, Bool.not_false, Bool.and_true, Bool.and_eq_true, decide_eq_true_eq]
  refine ⟨one_mk h1 (by omega), one_mk (by omega) h3, ?_⟩
  rw [ord_mk (by omega) (by omega) (by omega) (by omega)]
  exact (le_cmp r q).2 h2
theorem liN_R {a : Bool × Int × Int} (h : liN a = true) : liR a = true ∧ a.1 = false := by simpa [liN] using h
/-- A range of two ranges, by ranks. -/
theorem outP_mk {g G : Int → Int → Int → Int} {a b c d : Int} (hG : ∀ m x y, (x = a ∨ x = b) → (y = c ∨ y = d) → Res false (g m (mk false x) (mk false y)) (G m x y)) (a1 : -fI false < a) (ab : a ≤ b) (b1 : b < fI false) (c1 : -fI false < c) (cd : c ≤ d) (d1 : d < fI false) :
    outP g (false, mk false a, mk false b) (false, mk false c, mk false d) = if -fI false < loR G a b c d ∧ loR G a b c d ≤ hiR G a b c d ∧ hiR G a b c d < fI false then ((false, mk false (loR G a b c d), mk false (hiR G a b c d)), true) else ((false, 0, 0), false) := by
  have hx := (liN_R (mk_right a1 ab b1)).1
  have hy := (liN_R (mk_right c1 cd d1)).1
  have l1 := les_res (les_res (les_res (les_res (hG 2 a c (Or.inl rfl) (Or.inl rfl)) (hG 2 a c (Or.inl rfl) (Or.inl rfl))) (hG 2 a d (Or.inl rfl) (Or.inr rfl))) (hG 2 b c (Or.inr rfl) (Or.inl rfl))) (hG 2 b d (Or.inr rfl) (Or.inr rfl))
  have g1 := gre_res (gre_res (gre_res (gre_res (hG 1 b d (Or.inr rfl) (Or.inr rfl)) (hG 1 a c (Or.inl rfl) (Or.inl rfl))) (hG 1 a d (Or.inl rfl) (Or.inr rfl))) (hG 1 b c (Or.inr rfl) (Or.inl rfl))) (hG 1 b d (Or.inr rfl) (Or.inr rfl))
  rw [show min (min (min (min (G 2 a c) (G 2 a c)) (G 2 a d)) (G 2 b c)) (G 2 b d) = loR G a b c d by unfold loR; omega] at l1
  rw [show max (max (max (max (G 1 b d) (G 1 a c)) (G 1 a d)) (G 1 b c)) (G 1 b d) = hiR G a b c d by unfold hiR; omega] at g1
  have eo : ofP (WyF false) (loP g (mk false a) (mk false b) (mk false c) (mk false d)) (hiP g (mk false a) (mk false b) (mk false c) (mk false d)) = if -fI false < loR G a b c d ∧ loR G a b c d ≤ hiR G a b c d ∧ hiR G a b c d < fI false then (false, mk false (loR G a b c d), mk false (hiR G a b c d)) else (true, 0, 0) := by
    unfold ofP
    have p1 : (WyF false).pl (loP g (mk false a) (mk false b) (mk false c) (mk false d)) = mk false (loR G a b c d) := l1.pl
    have p2 : (WyF false).pl (hiP g (mk false a) (mk false b) (mk false c) (mk false d)) = mk false (hiR G a b c d) := g1.pl
    rw [p1, p2]
    by_cases h : -fI false < loR G a b c d ∧ loR G a b c d ≤ hiR G a b c d ∧ hiR G a b c d < fI false
    · rw [if_pos h]
      exact if_pos (liN_R (mk_right h.1 h.2.1 h.2.2)).1
    · rw [if_neg h, if_neg]
      intro hr
      apply h
      simp only [rightP, Bool.false_eq_true, if_false, Bool.and_eq_true, decide_eq_true_eq] at hr
      obtain ⟨o1, o2, o3⟩ := hr
      have f1 : finF false (mk false (loR G a b c d)) = true := by
        have := o1
        rw [one_iff] at this
        simp only [Bool.and_eq_true] at this
        exact this.1
      have f2 : finF false (mk false (hiR G a b c d)) = true := by
        have := o2
        rw [one_iff] at this
        simp only [Bool.and_eq_true] at this
        exact this.1
      rw [fin_mk l1.lo l1.hi] at f1
      rw [fin_mk g1.lo g1.hi] at f2
      rw [ord_mk l1.lo l1.hi g1.lo g1.hi] at o3
      have o3' := (le_cmp _ _).1 o3
      simp only [decide_eq_true_eq] at f1 f2
      exact ⟨f1.1, o3', f2.2⟩
  unfold outP
  rw [hx, hy]
  simp only [Bool.and_self, Bool.true_eq_false, if_false, Bool.or_self, Bool.false_eq_true]
  rw [eo]
  by_cases h : -fI false < loR G a b c d ∧ loR G a b c d ≤ hiR G a b c d ∧ hiR G a b c d < fI false
  · simp only [if_pos h, Bool.false_eq_true, if_false]
  · simp only [if_neg h, if_true]
theorem fin_of_mk {r : Int} (h1 : -fI false < r) (h2 : r < fI false) : finF false (mk false r) = true := by
  rw [fin_mk (by omega) (by omega)]
  simp [h1, h2]
theorem add_resM (s : Bool) (m a b : Int) (fa : finF s a = true) (fb : finF s b = true) : ∃ r, Res s (addF s m a b) r := by
  have n1 := n_num fa
  have n2 := n_num fb
  unfold addF
  rw [n1.1, n2.1, n1.2, n2.2]
  simp only [Bool.or_self, Bool.false_eq_true, if_false, Bool.false_and]
  exact sumT_res _ _ _ _ _ _ _ _
theorem mul_resM (s : Bool) (m a b : Int) (fa : finF s a = true) (fb : finF s b = true) : ∃ r, Res s (mulF s m a b) r := by
  have n1 := n_num fa
  have n2 := n_num fb
  unfold mulF
  rw [n1.1, n2.1, n1.2, n2.2]
  simp only [Bool.or_self, Bool.false_eq_true, if_false, Bool.false_and, Bool.and_false]
  exact rnd_res _ _ _ _ _
/-- The rank of a sum, of a product. -/
def aR (m x y : Int) : Int := rnk false (addF false m (mk false x) (mk false y))
def mR (m x y : Int) : Int := rnk false (mulF false m (mk false x) (mk false y))
theorem aR_res {m x y : Int} (x1 : -fI false < x) (x2 : x < fI false) (y1 : -fI false < y) (y2 : y < fI false) : Res false (addF false m (mk false x) (mk false y)) (aR m x y) := by
  obtain ⟨r, hr⟩ := add_resM false m _ _ (fin_of_mk x1 x2) (fin_of_mk y1 y2)
  rw [aR, res_rnk hr]
  exact hr
theorem mR_res {m x y : Int} (x1 : -fI false < x) (x2 : x < fI false) (y1 : -fI false < y) (y2 : y < fI false) : Res false (mulF false m (mk false x) (mk false y)) (mR m x y) := by
  obtain ⟨r, hr⟩ := mul_resM false m _ _ (fin_of_mk x1 x2) (fin_of_mk y1 y2)
  rw [mR, res_rnk hr]
  exact hr
theorem aR_comm {m x y : Int} (x1 : -fI false ≤ x) (x2 : x ≤ fI false) (y1 : -fI false ≤ y) (y2 : y ≤ fI false) : aR m x y = aR m y x := by
  rw [aR, aR, addF_comm false m _ _ (mk_word x1 x2) (mk_word y1 y2)]
theorem sumP_mk {a b c d : Int} (a1 : -fI false < a) (ab : a ≤ b) (b1 : b < fI false) (c1 : -fI false < c) (cd : c ≤ d) (d1 : d < fI false) :
    sumP (false, mk false a, mk false b) (false, mk false c, mk false d) = if -fI false < loR aR a b c d ∧ loR aR a b c d ≤ hiR aR a b c d ∧ hiR aR a b c d < fI false then ((false, mk false (loR aR a b c d), mk false (hiR aR a b c d)), true) else ((false, 0, 0), false) :=
  outP_mk (fun m x y hx hy => aR_res (by rcases hx with rfl | rfl <;> omega) (by rcases hx with rfl | rfl <;> omega) (by rcases hy with rfl | rfl <;> omega) (by rcases hy with rfl | rfl <;> omega)) a1 ab b1 c1 cd d1
theorem prodP_mk {a b c d : Int} (a1 : -fI false < a) (ab : a ≤ b) (b1 : b < fI false) (c1 : -fI false < c) (cd : c ≤ d) (d1 : d < fI false) :
    prodP (false, mk false a, mk false b) (false, mk false c, mk false d) = if -fI false < loR mR a b c d ∧ loR mR a b c d ≤ hiR mR a b c d ∧ hiR mR a b c d < fI false then ((false, mk false (loR mR a b c d), mk false (hiR mR a b c d)), true) else ((false, 0, 0), false) :=
  outP_mk (fun m x y hx hy => mR_res (by rcases hx with rfl | rfl <;> omega) (by rcases hx with rfl | rfl <;> omega) (by rcases hy with rfl | rfl <;> omega) (by rcases hy with rfl | rfl <;> omega)) a1 ab b1 c1 cd d1
theorem sumP_comm {x y : Bool × Int × Int} (hx : wdR x) (hy : wdR y) (nx : liN x = true) (ny : liN y = true) : sumP x y = sumP y x := by
  obtain ⟨a, b, a1, ab, b1, rfl⟩ := right_is hx nx
  obtain ⟨c, d, c1, cd, d1, rfl⟩ := right_is hy ny
  rw [sumP_mk a1 ab b1 c1 cd d1, sumP_mk c1 cd d1 a1 ab b1]
  have q : ∀ m x y, (x = a ∨ x = b) → (y = c ∨ y = d) → aR m y x = aR m x y := fun m x y hx hy => aR_comm (by rcases hy with rfl | rfl <;> omega) (by rcases hy with rfl | rfl <;> omega) (by rcases hx with rfl | rfl <;> omega) (by rcases hx with rfl | rfl <;> omega)
  have e1 : loR aR c d a b = loR aR a b c d := by
    unfold loR
    rw [q 2 a c (Or.inl rfl) (Or.inl rfl), q 2 b c (Or.inr rfl) (Or.inl rfl), q 2 a d (Or.inl rfl) (Or.inr rfl), q 2 b d (Or.inr rfl) (Or.inr rfl)]
    omega
  have e2 : hiR aR c d a b = hiR aR a b c d := by
    unfold hiR
    rw [q 1 a c (Or.inl rfl) (Or.inl rfl), q 1 b c (Or.inr rfl) (Or.inl rfl), q 1 a d (Or.inl rfl) (Or.inr rfl), q 1 b d (Or.inr rfl) (Or.inr rfl)]
    omega
  rw [e1, e2]
theorem sumP_right {x y : Bool × Int × Int} (hx : wdR x) (hy : wdR y) (nx : liN x = true) (ny : liN y = true) (h : (sumP x y).2 = true) : liN (sumP x y).1 = true := by
  obtain ⟨a, b, a1, ab, b1, rfl⟩ := right_is hx nx
  obtain ⟨c, d, c1, cd, d1, rfl⟩ := right_is hy ny
  rw [sumP_mk a1 ab b1 c1 cd d1] at h ⊢
  split at h
  · rename_i hh
    rw [if_pos hh]
    exact mk_right hh.1 hh.2.1 hh.2.2
  · cases h
theorem prodP_right {x y : Bool × Int × Int} (hx : wdR x) (hy : wdR y) (nx : liN x = true) (ny : liN y = true) (h : (prodP x y).2 = true) : liN (prodP x y).1 = true := by
  obtain ⟨a, b, a1, ab, b1, rfl⟩ := right_is hx nx
  obtain ⟨c, d, c1, cd, d1, rfl⟩ := right_is hy ny
  rw [prodP_mk a1 ab b1 c1 cd d1] at h ⊢
  split at h
  · rename_i hh
    rw [if_pos hh]
    exact mk_right hh.1 hh.2.1 hh.2.2
  · cases h
theorem trnP_mk {a b : Int} (a1 : -fI false < a) (ab : a ≤ b) (b1 : b < fI false) : trnP (false, mk false a, mk false b) = (false, mk false (-b), mk false (-a)) := by
  unfold trnP
  rw [neg_mk (by omega) (by omega), neg_mk (by omega) (by omega)]
theorem trnP_right {x : Bool × Int × Int} (hx : wdR x) (nx : liN x = true) : liN (trnP x) = true := by
  obtain ⟨a, b, a1, ab, b1, rfl⟩ := right_is hx nx
  rw [trnP_mk a1 ab b1]
  exact mk_right (by omega) (by omega) (by omega)
end Go.Proofs.YteafnkimcidkhaaGreat

