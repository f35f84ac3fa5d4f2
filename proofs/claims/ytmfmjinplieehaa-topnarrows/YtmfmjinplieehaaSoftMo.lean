/- The four modes, in plain numbers: one float, or two that are neighbours. -/
import Derived.Test.YtmfmjinplieehaaSoftSe
import Derived.Test.YtmfmjinplieehaaSoftBy
import Derived.Test.YtmfmjinplieehaaSoftO
namespace Go.Proofs.Ytmfmjinplieehaa
open Go.RowKit
set_option linter.unusedVariables false
set_option linter.unusedSimpArgs false
/-- What four answers are: no number, one number, both zeros, or neighbours. -/
inductive Four (s : Bool) (u n d z : Int) : Prop
  | nan (h : (cls s n == 0 || cls s n == 5) = true) (e1 : u = n) (e2 : d = n) (e3 : z = n)
  | one (b : Bool) (k : Nat) (hk : (k : Int) ≤ fI s) (e0 : n = sgnd s b k) (e1 : u = n) (e2 : d = n) (e3 : z = n)
  | zero (e0 : n = sgnd s false 0) (e1 : u = n) (e2 : d = sgnd s true 0) (e3 : z = n)
  | above (k l : Nat) (h1 : k ≤ l) (h2 : l ≤ k + 1) (h3 : (l : Int) ≤ fI s) (h4 : (k : Int) < fI s) (e1 : u = sgnd s false l) (e2 : d = sgnd s false k) (e3 : z = sgnd s false k) (e0 : n = sgnd s false k ∨ n = sgnd s false l)
  | below (k l : Nat) (h1 : k ≤ l) (h2 : l ≤ k + 1) (h3 : (l : Int) ≤ fI s) (h4 : (k : Int) < fI s) (e1 : u = sgnd s true k) (e2 : d = sgnd s true l) (e3 : z = sgnd s true k) (e0 : n = sgnd s true k ∨ n = sgnd s true l)
theorem four_nan (s : Bool) : Four s (fNan s) (fNan s) (fNan s) (fNan s) := .nan (nan_is s) rfl rfl rfl
theorem four_one (s b : Bool) (z : Int) (h0 : 0 ≤ z) (h : z ≤ fI s) : Four s (sgnd s b z) (sgnd s b z) (sgnd s b z) (sgnd s b z) := by
  obtain ⟨k, rfl⟩ := Int.eq_ofNat_of_zero_le h0
  exact .one b k h rfl rfl rfl rfl
theorem four_rnd (s b : Bool) (n : Nat) (e : Int) : Four s (rnd s 1 b n e) (rnd s 0 b n e) (rnd s 2 b n e) (rnd s 3 b n e) := by
  unfold rnd
  by_cases c : n = 0
  · simp only [if_pos c]
    exact four_one s b 0 (Int.le_refl _) (fI_pos s)
  · simp only [if_neg c]
    obtain ⟨d, u, h1, h2, h3, h4, e3, ed, eu, en⟩ := mag_modes s b c e
    cases b
    · simp only [Bool.false_eq_true, if_false] at ed eu
      refine .above d u h1 h2 h3 h4 (by rw [eu]) (by rw [ed]) (by rw [e3]) ?_
      rcases en with t | t
      · left; rw [t]
      · right; rw [t]
    · simp only [if_true] at ed eu
      refine .below d u h1 h2 h3 h4 (by rw [ed]) (by rw [eu]) (by rw [e3]) ?_
      rcases en with t | t
      · left; rw [t]
      · right; rw [t]
theorem four_sum (s : Bool) (xb : Bool) (xw : Nat) (xe : Int) (yb : Bool) (yw : Nat) (ye : Int) : Four s (sumT s 1 xb xw xe yb yw ye) (sumT s 0 xb xw xe yb yw ye) (sumT s 2 xb xw xe yb yw ye) (sumT s 3 xb xw xe yb yw ye) := by
  unfold sumT
  generalize xw * 2 ^ (xe - min xe ye).toNat = X
  generalize yw * 2 ^ (ye - min xe ye).toNat = Y
  by_cases c : xb = yb
  · simp only [if_pos c]; exact four_rnd s _ _ _
  · simp only [if_neg c]
    by_cases d : X = Y
    · simp only [if_pos d]; exact .zero rfl rfl rfl rfl
    · simp only [if_neg d]
      by_cases e : Y < X
      · simp only [if_pos e]; exact four_rnd s _ _ _
      · simp only [if_neg e]; exact four_rnd s _ _ _
theorem four_num (s : Bool) (a : Int) (h : Word a) (c : (cls s a == 0 || cls s a == 5) = false) : Four s a a a a := by
  rcases num_or s a h with t | ⟨b, z, rfl, z0, z1⟩
  · rw [t] at c; exact absurd c (by decide)
  · exact four_one s b z z0 z1
theorem four_add (s : Bool) (a b : Int) (h1 : Word a) (h2 : Word b) : Four s (addF s 1 a b) (addF s 0 a b) (addF s 2 a b) (addF s 3 a b) := by
  unfold addF
  have k1 := four_num s a h1
  have k2 := four_num s b h2
  generalize (cls s a == 0 || cls s a == 5) = N1 at *
  generalize (cls s b == 0 || cls s b == 5) = N2 at *
  cases N1
  · cases N2
    · simp only [Bool.or_false, Bool.false_eq_true, if_false]
      split
      · exact four_nan s
      · split
        · exact k1 rfl
        · split
          · exact k2 rfl
          · exact four_sum s _ _ _ _ _ _
    · simp only [Bool.or_true, if_true]; exact four_nan s
  · simp only [Bool.true_or, if_true]; exact four_nan s
theorem four_by (op : Int) (s : Bool) (a b : Int) (h1 : Word a) (h2 : Word b) : Four s (byF op s 1 a b) (byF op s 0 a b) (byF op s 2 a b) (byF op s 3 a b) := by
  unfold byF
  split
  · exact four_add s a b h1 h2
  · split
    · exact four_add s a _ h1 (negF_word s b h2)
    · split
      · unfold mulF
        split
        · exact four_nan s
        · split
          · exact four_nan s
          · split
            · exact four_one s _ _ (fI_pos s) (Int.le_refl _)
            · exact four_rnd s _ _ _
      · unfold divF
        split
        · exact four_nan s
        · split
          · exact four_nan s
          · split
            · exact four_one s _ _ (fI_pos s) (Int.le_refl _)
            · split
              · exact four_one s _ _ (Int.le_refl _) (fI_pos s)
              · exact four_rnd s _ _ _
theorem rnk_made (s b : Bool) (z : Int) (h0 : 0 ≤ z) (h : z ≤ fI s) : rnk s (sgnd s b z) = if b then -z else z := by
  obtain ⟨_, _, e, g⟩ := made s b z h0 (by have := fI_lt s; omega)
  unfold rnk
  rw [e, g]
theorem cmp_made (s b c : Bool) (y z : Int) (h0 : 0 ≤ y) (h : y ≤ fI s) (k0 : 0 ≤ z) (k : z ≤ fI s) : cmpF s (sgnd s b y) (sgnd s c z) = (if (if b then -y else y) < (if c then -z else z) then -1 else if (if c then -z else z) < (if b then -y else y) then 1 else 0, true) := by
  unfold cmpF
  rw [num_made s b y h0 h, num_made s c z k0 k, rnk_made s b y h0 h, rnk_made s c z k0 k]
  rfl
/-- The least step up is not past the neighbour: above 0. -/
theorem step_above (s : Bool) (k : Nat) (h : (k : Int) < fI s) : ∃ z : Nat, addF s 1 (sgnd s false k) 1 = sgnd s false z ∧ (z : Int) ≤ fI s ∧ k + 1 ≤ z := by
  have i1 : ((1 : Nat) : Int) < fI s := by cases s <;> decide
  obtain ⟨x, q, e, q1, q2, w, p⟩ := size_parts s false k h
  obtain ⟨x', q', e', q1', q2', w', p'⟩ := size_parts s false 1 i1
  obtain ⟨c1, c2, c3⟩ := self_cls s false 1 (by decide) i1
  have n1 := num_made s false k (by omega) (by omega)
  have n2 : (cls s (sgnd s false k) == 4) = false := by
    have := cls_made s false k (by omega) (by have := fI_lt s; omega)
    rw [if_neg (by omega), if_neg (by omega)] at this
    rw [this]
    split
    · rfl
    · split <;> rfl
  have pp := Nat.two_pow_pos (fP s)
  have hx' : x' = 0 := by
    rcases Nat.eq_zero_or_pos x' with t | t
    · exact t
    · have : 2 ^ fP s ≤ x' * 2 ^ fP s := Nat.le_mul_of_pos_left _ t
      have : 2 ^ 1 ≤ 2 ^ fP s := Nat.pow_le_pow_right (by decide) (by have := fP_ge s; omega)
      omega
  subst hx'
  have hq' : q' = 1 := by omega
  subst hq'
  rw [show addF s 1 (sgnd s false k) 1 = addF s 1 (sgnd s false k) (sgnd s false ((1 : Nat) : Int)) from rfl]
  unfold addF
  rw [n1, n2, c1, c2, self_sgn s false k h, self_sgn s false 1 i1, w, p, w', p']
  simp only [Bool.or_false, Bool.false_eq_true, if_false, Bool.false_and]
  unfold sumT
  rw [if_pos rfl, show min (fL s + (x : Int)) (fL s + ((0 : Nat) : Int)) = fL s by omega, show (fL s + (x : Int) - fL s).toNat = x by omega, show (fL s + ((0 : Nat) : Int) - fL s).toNat = 0 by omega]
  have v := val_at s x q (by omega) q2
  rw [← e] at v
  rw [← v, Nat.pow_zero, Nat.mul_one]
  unfold rnd
  rw [if_neg (by omega)]
  obtain ⟨z, ez, z1, z2⟩ := mag_up s 1 false (fun o h l => by cases o <;> cases h <;> cases l <;> rfl) (n := val s k + 1) (by omega) (fL s) (fL s) (Int.le_refl _) (Int.le_refl _)
  refine ⟨z, by rw [ez], z1, ?_⟩
  rcases z2 with t | t
  · omega
  · have y : (fL s - fL s).toNat = 0 := by omega
    rw [y, Nat.pow_zero, Nat.mul_one, Nat.mul_one] at t
    exact lt_of_val s (by omega)
/-- Below 0. -/
theorem step_below (s : Bool) (k : Nat) (h : (k : Int) < fI s) (k0 : k ≠ 0) : ∃ (b : Bool) (z : Nat), addF s 1 (sgnd s true k) 1 = sgnd s b z ∧ (z : Int) ≤ fI s ∧ (b = true → z + 1 ≤ k) := by
  have i1 : ((1 : Nat) : Int) < fI s := by cases s <;> decide
  obtain ⟨x, q, e, q1, q2, w, p⟩ := size_parts s true k h
  obtain ⟨x', q', e', q1', q2', w', p'⟩ := size_parts s false 1 i1
  obtain ⟨c1, c2, c3⟩ := self_cls s false 1 (by decide) i1
  obtain ⟨n1, n2, n3⟩ := self_cls s true k k0 h
  have pp := Nat.two_pow_pos (fP s)
  have hx' : x' = 0 := by
    rcases Nat.eq_zero_or_pos x' with t | t
    · exact t
    · have : 2 ^ fP s ≤ x' * 2 ^ fP s := Nat.le_mul_of_pos_left _ t
      have : 2 ^ 1 ≤ 2 ^ fP s := Nat.pow_le_pow_right (by decide) (by have := fP_ge s; omega)
      omega
  subst hx'
  have hq' : q' = 1 := by omega
  subst hq'
  rw [show addF s 1 (sgnd s true k) 1 = addF s 1 (sgnd s true k) (sgnd s false ((1 : Nat) : Int)) from rfl]
  unfold addF
  rw [n1, n2, c1, c2, self_sgn s true k h, self_sgn s false 1 i1, w, p, w', p']
  simp only [Bool.or_false, Bool.false_eq_true, if_false, Bool.false_and]
  unfold sumT
  rw [if_neg (by decide), show min (fL s + (x : Int)) (fL s + ((0 : Nat) : Int)) = fL s by omega, show (fL s + (x : Int) - fL s).toNat = x by omega, show (fL s + ((0 : Nat) : Int) - fL s).toNat = 0 by omega]
  have v := val_at s x q (by omega) q2
  rw [← e] at v
  rw [← v, Nat.pow_zero, Nat.mul_one]
  have vk : 0 < val s k := by have := val_lt s (show 0 < k by omega); rw [val_zero] at this; exact this
  by_cases c : val s k = 1
  · rw [if_pos c]
    exact ⟨false, 0, rfl, by have := fI_pos s; omega, fun t => absurd t (by decide)⟩
  · rw [if_neg c, if_pos (by omega)]
    unfold rnd
    rw [if_neg (by omega)]
    obtain ⟨z, ez, z1, z2⟩ := mag_down s 1 true (fun o h l => by cases o <;> cases h <;> cases l <;> rfl) (n := val s k - 1) (by omega) (fL s) (fL s) (Int.le_refl _) (Int.le_refl _)
    refine ⟨true, z, by rw [ez], by omega, fun _ => ?_⟩
    have y : (fL s - fL s).toNat = 0 := by omega
    rw [y, Nat.pow_zero, Nat.mul_one, Nat.mul_one] at z2
    exact lt_of_val s (by omega)
/-- What the four answers say of each other. -/
theorem four_law {s : Bool} {u n d z : Int} (h : Four s u n d z) :
    ((cmpF s u n).2 = false ∧ u = n ∧ n = d ∧ d = z) ∨
    ((cmpF s u n).2 = true ∧ (cmpF s n d).2 = true ∧ 0 ≤ (cmpF s u n).1 ∧ 0 ≤ (cmpF s n d).1 ∧ (n = u ∨ n = d) ∧ (z = u ∨ z = d) ∧ ((cmpF s u d).1 = 0 ∨ 0 ≤ (cmpF s (addF s 1 d 1) u).1 ∨ finF s d = false)) := by
  have i0 := fI_pos s
  cases h with
  | nan h e1 e2 e3 =>
    left
    subst e1 e2 e3
    refine ⟨?_, rfl, rfl, rfl⟩
    unfold cmpF
    rw [h]; rfl
  | one b k hk e0 e1 e2 e3 =>
    right
    subst e1 e2 e3 e0
    have q := cmp_made s b b k k (by omega) hk (by omega) hk
    rw [if_neg (by omega), if_neg (by omega)] at q
    rw [q]
    exact ⟨rfl, rfl, Int.le_refl _, Int.le_refl _, Or.inl rfl, Or.inl rfl, Or.inl rfl⟩
  | zero e0 e1 e2 e3 =>
    right
    subst e1 e3 e0 e2
    have q1 := cmp_made s false false 0 0 (Int.le_refl _) i0 (Int.le_refl _) i0
    have q2 := cmp_made s false true 0 0 (Int.le_refl _) i0 (Int.le_refl _) i0
    simp at q1 q2
    rw [q1, q2]
    exact ⟨rfl, rfl, Int.le_refl _, Int.le_refl _, Or.inl rfl, Or.inl rfl, Or.inl rfl⟩
  | above k l h1 h2 h3 h4 e1 e2 e3 e0 =>
    right
    subst e1 e2 e3
    have q1 := cmp_made s false false l k (by omega) h3 (by omega) (by omega)
    have q2 := cmp_made s false false l l (by omega) h3 (by omega) h3
    have q3 := cmp_made s false false k k (by omega) (by omega) (by omega) (by omega)
    simp only [Bool.false_eq_true, if_false] at q1 q2 q3
    rw [if_neg (by omega), if_neg (by omega)] at q2 q3
    rw [if_neg (by omega)] at q1
    have last : (cmpF s (sgnd s false l) (sgnd s false k)).1 = 0 ∨ 0 ≤ (cmpF s (addF s 1 (sgnd s false k) 1) (sgnd s false l)).1 ∨ finF s (sgnd s false k) = false := by
      right; left
      obtain ⟨y, e, y1, y2⟩ := step_above s k h4
      rw [e]
      have q4 := cmp_made s false false y l (by omega) y1 (by omega) h3
      simp only [Bool.false_eq_true, if_false] at q4
      rw [if_neg (by omega)] at q4
      rw [q4]
      split <;> decide
    rcases e0 with t | t
    · subst t
      rw [q3]
      refine ⟨by rw [q1], rfl, ?_, Int.le_refl _, Or.inr rfl, Or.inr rfl, last⟩
      rw [q1]; split <;> decide
    · subst t
      rw [q2]
      refine ⟨rfl, by rw [q1], Int.le_refl _, ?_, Or.inl rfl, Or.inr rfl, last⟩
      rw [q1]; split <;> decide
  | below k l h1 h2 h3 h4 e1 e2 e3 e0 =>
    right
    subst e1 e2 e3
    have q1 := cmp_made s true true k l (by omega) (by omega) (by omega) h3
    have q2 := cmp_made s true true l l (by omega) h3 (by omega) h3
    have q3 := cmp_made s true true k k (by omega) (by omega) (by omega) (by omega)
    simp only [if_true] at q1 q2 q3
    rw [if_neg (by omega), if_neg (by omega)] at q2 q3
    rw [if_neg (by omega)] at q1
    have last : (cmpF s (sgnd s true k) (sgnd s true l)).1 = 0 ∨ 0 ≤ (cmpF s (addF s 1 (sgnd s true l) 1) (sgnd s true k)).1 ∨ finF s (sgnd s true l) = false := by
      by_cases c : k = l
      · left; rw [q1, if_neg (by omega)]
      · right
        by_cases f : (l : Int) = fI s
        · right
          unfold finF
          rw [cls_made s true l (by omega) (by have := fI_lt s; omega), if_neg (by omega), if_pos f]
          rfl
        · left
          obtain ⟨b, y, e, y1, y2⟩ := step_below s l (by omega) (by omega)
          rw [e]
          have q4 := cmp_made s b true y k (by omega) y1 (by omega) (by omega)
          cases b
          · simp only [if_true, Bool.false_eq_true, if_false] at q4
            rw [if_neg (by omega)] at q4
            rw [q4]
            split <;> decide
          · have := y2 rfl
            simp only [if_true] at q4
            rw [if_neg (by omega)] at q4
            rw [q4]
            split <;> decide
    rcases e0 with t | t
    · subst t
      rw [q3]
      refine ⟨rfl, by rw [q1], Int.le_refl _, ?_, Or.inl rfl, Or.inl rfl, last⟩
      rw [q1]; split <;> decide
    · subst t
      rw [q2]
      refine ⟨by rw [q1], rfl, ?_, Int.le_refl _, Or.inr rfl, Or.inl rfl, last⟩
      rw [q1]; split <;> decide
end Go.Proofs.Ytmfmjinplieehaa

