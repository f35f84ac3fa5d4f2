/- Reckoning with floats keeps the order: what two floats come to, by their ranks; plain functions alone. -/
import Derived.Test.YteafnkimcidkhaaGreatFlR
import Derived.Test.YteafnkimcidkhaaGreatRndM
import Derived.Test.YteafnkimcidkhaaGreatSoftTo
namespace Go.Proofs.YteafnkimcidkhaaGreat
set_option linter.unusedVariables false
set_option linter.unusedSimpArgs false
/-- The size of n times 2 to the e, rounded to the nearest. -/
def mgF (s : Bool) (n : Nat) (e : Int) : Int := if n = 0 then 0 else mag s 0 false n e
theorem mgF_bd (s : Bool) (n : Nat) (e : Int) : 0 ≤ mgF s n e ∧ mgF s n e ≤ fI s := by
  unfold mgF
  split
  · exact ⟨Int.le_refl _, fI_pos s⟩
  · rename_i h
    obtain ⟨z, e1, e2⟩ := mag_any s 0 false h e
    rw [e1]
    exact ⟨by omega, e2⟩
theorem mgF_mono (s : Bool) {n m : Nat} (h : n ≤ m) (e : Int) : mgF s n e ≤ mgF s m e := by
  by_cases c : n = 0
  · have := mgF_bd s m e
    unfold mgF at this ⊢
    rw [if_pos c]
    exact this.1
  · unfold mgF
    rw [if_neg c, if_neg (by omega)]
    exact mag_mono s c h e
theorem mgF_scale (s : Bool) (n j : Nat) (e : Int) : mgF s (n * 2 ^ j) (e - j) = mgF s n e := by
  have p := Nat.two_pow_pos j
  unfold mgF
  by_cases c : n = 0
  · rw [if_pos c, if_pos (by rw [c, Nat.zero_mul])]
  · rw [if_neg c, if_neg (by intro h; rcases Nat.mul_eq_zero.1 h with h | h <;> omega)]
    exact mag_scale s 0 false c j e
theorem mag_near (s b : Bool) (n : Nat) (e : Int) : mag s 0 b n e = mag s 0 false n e := by
  unfold mag fin great
  have an : ∀ b o h l, away 0 b o h l = (h && (l || o)) := fun b o h l => rfl
  simp only [an]
/-- The rank of a number of either sign, rounded. -/
def rk (s : Bool) (n : Int) (e : Int) : Int := if n < 0 then -(mgF s n.natAbs e) else mgF s n.natAbs e
theorem rk_mono (s : Bool) {n m : Int} (h : n ≤ m) (e : Int) : rk s n e ≤ rk s m e := by
  have b1 := mgF_bd s n.natAbs e
  have b2 := mgF_bd s m.natAbs e
  unfold rk
  split
  · split
    · have := mgF_mono s (show m.natAbs ≤ n.natAbs by omega) e
      omega
    · omega
  · split
    · omega
    · exact mgF_mono s (by omega) e
theorem rk_scale (s : Bool) (n : Int) (j : Nat) (e : Int) : rk s (n * 2 ^ j) (e - j) = rk s n e := by
  have p := Nat.two_pow_pos j
  have q : (0 : Int) < 2 ^ j := by exact_mod_cast p
  have a : (n * 2 ^ j).natAbs = n.natAbs * 2 ^ j := by
    rw [Int.natAbs_mul, Int.natAbs_pow]; rfl
  unfold rk
  rw [a, mgF_scale]
  by_cases c : n < 0
  · rw [if_pos c, if_pos (Int.mul_neg_of_neg_of_pos c q)]
  · rw [if_neg c, if_neg (by have := Int.mul_nonneg (show 0 ≤ n by omega) (Int.le_of_lt q); omega)]
theorem rnd_rk (s b : Bool) (n : Nat) (e : Int) : Res s (rnd s 0 b n e) (rk s (if b then -(n : Int) else n) e) := by
  have bd := mgF_bd s n e
  have r := made_res s b (mgF s n e) bd.1 bd.2
  have e1 : rnd s 0 b n e = sgnd s b (mgF s n e) := by
    unfold rnd mgF
    split
    · rfl
    · rw [mag_near]
  have e2 : rk s (if b then -(n : Int) else n) e = if b then -(mgF s n e) else mgF s n e := by
    unfold rk
    cases b
    · simp only [Bool.false_eq_true, if_false, Int.natAbs_natCast]
      rw [if_neg (by omega)]
    · simp only [if_true, Int.natAbs_neg, Int.natAbs_natCast]
      by_cases c : n = 0
      · subst c; simp [mgF]
      · rw [if_pos (by omega)]
  rw [e1, e2]
  exact r
/-- A number with its sign. -/
def sg (b : Bool) (n : Nat) : Int := if b then -(n : Int) else n
theorem sumT_rk (s : Bool) (xb : Bool) (xw x : Nat) (yb : Bool) (yw y : Nat) (L : Int) :
    Res s (sumT s 0 xb xw (L + x) yb yw (L + y)) (rk s (sg xb (xw * 2 ^ x) + sg yb (yw * 2 ^ y)) L) := by
  obtain ⟨k, i, j, hx, hy, hk⟩ : ∃ k i j : Nat, x = i + k ∧ y = j + k ∧ min (L + (x : Int)) (L + y) = L + k :=
    ⟨min x y, x - min x y, y - min x y, by omega, by omega, by omega⟩
  subst hx hy
  unfold sumT
  rw [hk, show (L + ((i + k : Nat) : Int) - (L + k)).toNat = i by omega, show (L + ((j + k : Nat) : Int) - (L + k)).toNat = j by omega]
  have t : rk s (sg xb (xw * 2 ^ (i + k)) + sg yb (yw * 2 ^ (j + k))) L = rk s (sg xb (xw * 2 ^ i) + sg yb (yw * 2 ^ j)) (L + k) := by
    have := rk_scale s (sg xb (xw * 2 ^ i) + sg yb (yw * 2 ^ j)) k (L + k)
    rw [show L + (k : Int) - k = L by omega] at this
    rw [← this]
    congr 1
    rw [Int.add_mul, Nat.pow_add, Nat.pow_add, ← Nat.mul_assoc, ← Nat.mul_assoc]
    unfold sg
    cases xb <;> cases yb <;> simp [Int.neg_mul]
  rw [t]
  generalize xw * 2 ^ i = X
  generalize yw * 2 ^ j = Y
  clear t
  by_cases c : xb = yb
  · subst c
    rw [if_pos rfl]
    have := rnd_rk s xb (X + Y) (L + k)
    rw [show sg xb X + sg xb Y = if xb then -((X + Y : Nat) : Int) else ((X + Y : Nat) : Int) by unfold sg; cases xb <;> simp <;> omega]
    exact this
  · rw [if_neg c]
    by_cases c1 : X = Y
    · rw [if_pos c1]
      have := made_res s false 0 (Int.le_refl _) (fI_pos s)
      rw [show sg xb X + sg yb Y = 0 by subst c1; unfold sg; cases xb <;> cases yb <;> simp at c ⊢ <;> omega]
      exact this
    · rw [if_neg c1]
      by_cases c2 : Y < X
      · rw [if_pos c2]
        have := rnd_rk s xb (X - Y) (L + k)
        rw [show sg xb X + sg yb Y = if xb then -((X - Y : Nat) : Int) else ((X - Y : Nat) : Int) by unfold sg; cases xb <;> cases yb <;> simp at c ⊢ <;> omega]
        exact this
      · rw [if_neg c2]
        have := rnd_rk s yb (Y - X) (L + k)
        rw [show sg xb X + sg yb Y = if yb then -((Y - X : Nat) : Int) else ((Y - X : Nat) : Int) by unfold sg; cases xb <;> cases yb <;> simp at c ⊢ <;> omega]
        exact this
theorem parts_val (s b : Bool) (z : Nat) (h : (z : Int) < fI s) : ∃ x : Nat, pwr s (sgnd s b z) = fL s + x ∧ val s z = (whl s (sgnd s b z)).toNat * 2 ^ x ∧ x ≤ z := by
  obtain ⟨x, q, e, q1, q2, w, p⟩ := size_parts s b z h
  refine ⟨x, p, ?_, ?_⟩
  · rw [w, e]; exact val_at s x q (by omega) q2
  · rw [e]
    have := Nat.le_mul_of_pos_right x (Nat.two_pow_pos (fP s))
    omega
theorem made_fin (s b : Bool) (z : Nat) (h : (z : Int) < fI s) : (cls s (sgnd s b z) == 0 || cls s (sgnd s b z) == 5) = false ∧ (cls s (sgnd s b z) == 4) = false := n_num (n_fin s b z h)
theorem add_rk (s b c : Bool) (y z : Nat) (hy : (y : Int) < fI s) (hz : (z : Int) < fI s) : Res s (addF s 0 (sgnd s b y) (sgnd s c z)) (rk s (sg b (val s y) + sg c (val s z)) (fL s)) := by
  obtain ⟨a1, a2⟩ := made_fin s b y hy
  obtain ⟨b1, b2⟩ := made_fin s c z hz
  obtain ⟨i, pi, vi, _⟩ := parts_val s b y hy
  obtain ⟨j, pj, vj, _⟩ := parts_val s c z hz
  unfold addF
  rw [a1, b1, a2, b2]
  simp only [Bool.or_self, Bool.false_eq_true, if_false, Bool.false_and]
  rw [self_sgn s b y hy, self_sgn s c z hz, pi, pj, vi, vj]
  exact sumT_rk s b _ i c _ j (fL s)
theorem mul_rk (s b c : Bool) (y z : Nat) (hy : (y : Int) < fI s) (hz : (z : Int) < fI s) : Res s (mulF s 0 (sgnd s b y) (sgnd s c z)) (rk s (sg b (val s y) * sg c (val s z)) (fL s + fL s)) := by
  obtain ⟨a1, a2⟩ := made_fin s b y hy
  obtain ⟨b1, b2⟩ := made_fin s c z hz
  obtain ⟨i, pi, vi, _⟩ := parts_val s b y hy
  obtain ⟨j, pj, vj, _⟩ := parts_val s c z hz
  unfold mulF
  rw [a1, b1, a2, b2]
  simp only [Bool.or_self, Bool.false_eq_true, if_false, Bool.false_and, Bool.and_false]
  rw [self_sgn s b y hy, self_sgn s c z hz, pi, pj, vi, vj]
  generalize (whl s (sgnd s b y)).toNat = A
  generalize (whl s (sgnd s c z)).toNat = B
  have r := rnd_rk s (b != c) (A * B) (fL s + i + (fL s + j))
  have t := rk_scale s (if (b != c) = true then -((A * B : Nat) : Int) else ((A * B : Nat) : Int)) (i + j) (fL s + i + (fL s + j))
  rw [show fL s + (i : Int) + (fL s + j) - ((i + j : Nat) : Int) = fL s + fL s by omega] at t
  rw [← t] at r
  rw [show sg b (A * 2 ^ i) * sg c (B * 2 ^ j) = (if (b != c) = true then -((A * B : Nat) : Int) else ((A * B : Nat) : Int)) * 2 ^ (i + j) by
    unfold sg
    rw [Int.pow_add]
    cases b <;> cases c <;> simp [Int.neg_mul, Int.mul_neg, Int.mul_assoc, Int.mul_left_comm, Int.mul_comm]]
  exact r
/-- A quotient, twice, and one bit for what is left. -/
def stk (A D : Nat) : Nat := 2 * (A / D) + (decide (A % D ≠ 0)).toNat
theorem stk_scale (s : Bool) (A D c : Nat) (e : Int) (hD : 0 < D) (h : A = 0 ∨ fP s + 2 ≤ blen (A / D)) : mgF s (stk (A * 2 ^ c) D) (e - c) = mgF s (stk A D) e := by
  rcases h with h | h
  · subst h
    simp [stk, mgF]
  have dm := Nat.div_add_mod A D
  have rl := Nat.mod_lt A hD
  have q0 : A / D ≠ 0 := by intro c; rw [c, blen_zero] at h; omega
  have p := Nat.two_pow_pos c
  by_cases r0 : A % D = 0
  · have e1 : A * 2 ^ c = D * (A / D * 2 ^ c) := by
      rw [r0, Nat.add_zero] at dm
      rw [← Nat.mul_assoc, dm]
    have e2 : stk (A * 2 ^ c) D = stk A D * 2 ^ c := by
      unfold stk
      rw [r0, e1, Nat.mul_div_cancel_left _ hD, Nat.mul_mod_right]
      simp [Nat.mul_assoc]
    rw [e2, mgF_scale]
  · have e1 : A * 2 ^ c = D * (A / D * 2 ^ c) + A % D * 2 ^ c := by
      rw [← Nat.mul_assoc, ← Nat.add_mul, dm]
    have e2 : A * 2 ^ c / D = A / D * 2 ^ c + A % D * 2 ^ c / D := by
      conv => lhs; rw [e1]
      rw [Nat.mul_add_div hD]
    have e3 : A * 2 ^ c % D = A % D * 2 ^ c % D := by
      conv => lhs; rw [e1]
      rw [Nat.mul_add_mod]
    have ul : A % D * 2 ^ c / D < 2 ^ c := by
      rw [Nat.div_lt_iff_lt_mul hD, Nat.mul_comm]
      exact Nat.mul_lt_mul_of_pos_left rl p
    obtain ⟨T, hT, T0, TL⟩ : ∃ T, stk (A * 2 ^ c) D = A / D * 2 ^ (c + 1) + T ∧ T ≠ 0 ∧ T < 2 ^ (c + 1) := by
      refine ⟨2 * (A % D * 2 ^ c / D) + (decide (A % D * 2 ^ c % D ≠ 0)).toNat, ?_, ?_, ?_⟩
      · unfold stk
        rw [e2, e3, Nat.pow_succ, Nat.mul_add, Nat.mul_comm (2 ^ c) 2, Nat.mul_left_comm, Nat.add_assoc]
      · intro z
        have z1 : A % D * 2 ^ c / D = 0 := by omega
        have z2 : A % D * 2 ^ c % D = 0 := by
          rcases Nat.eq_zero_or_pos (A % D * 2 ^ c % D) with h | h
          · exact h
          · rw [show (decide (A % D * 2 ^ c % D ≠ 0)).toNat = 1 by rw [decide_eq_true (by omega)]; rfl] at z
            omega
        have := Nat.div_add_mod (A % D * 2 ^ c) D
        rw [z1, z2] at this
        rcases Nat.mul_eq_zero.1 (show A % D * 2 ^ c = 0 by omega) with h | h <;> omega
      · have : (decide (A % D * 2 ^ c % D ≠ 0)).toNat ≤ 1 := Bool.toNat_le _
        rw [Nat.pow_succ]
        omega
    have st := rnd_sticky s 0 false q0 (c + 1) T 1 1 TL T0 (by decide) (by decide) (e + 1) (last_ge s (e + 1) h)
    rw [show e + 1 - ((c + 1 : Nat) : Int) = e - c by omega, show e + 1 - ((1 : Nat) : Int) = e by omega] at st
    have o : stk A D = A / D * 2 ^ 1 + 1 := by
      unfold stk
      rw [decide_eq_true r0]
      show 2 * (A / D) + 1 = A / D * 2 ^ 1 + 1
      omega
    rw [hT, o]
    have rm : ∀ n e, rnd s 0 false n e = mgF s n e := fun n e => rfl
    rw [rm, rm] at st
    exact st
theorem stk_mono {A D B E : Nat} (hD : 0 < D) (hE : 0 < E) (h : A * E ≤ B * D) : stk A D ≤ stk B E := by
  have d1 := Nat.div_add_mod A D
  have d2 := Nat.div_add_mod B E
  have l2 := Nat.mod_lt B hE
  have q : A / D ≤ B / E := by
    rw [Nat.le_div_iff_mul_le hE]
    have h1 : D * (A / D) * E ≤ A * E := Nat.mul_le_mul_right _ (by omega)
    have h2 : D * (A / D * E) ≤ D * B := by rw [← Nat.mul_assoc, Nat.mul_comm D B]; exact Nat.le_trans h1 h
    exact Nat.le_of_mul_le_mul_left h2 hD
  unfold stk
  have b1 := Bool.toNat_le (decide (A % D ≠ 0))
  by_cases c : A / D = B / E
  · by_cases r : B % E = 0
    · have a0 : A % D = 0 := by
        rcases Nat.eq_zero_or_pos (A % D) with z | z
        · exact z
        · exfalso
          rw [r, Nat.add_zero] at d2
          have : D * (A / D) * E < A * E := Nat.mul_lt_mul_of_pos_right (by omega) hE
          rw [c, Nat.mul_assoc, Nat.mul_comm (B / E) E, d2, Nat.mul_comm D B] at this
          omega
      rw [a0, r, c]
      simp
    · rw [decide_eq_true (show B % E ≠ 0 from r), c]
      show _ ≤ 2 * (B / E) + 1
      omega
  · omega
/-- The size of a quotient, rounded; K: as many places as are wanted. -/
def mq (s : Bool) (K A D : Nat) : Int := mgF s (stk (A * 2 ^ K) D) (-(K : Int) - 1)
theorem mq_mono (s : Bool) {K A D B E : Nat} (hD : 0 < D) (hE : 0 < E) (h : A * E ≤ B * D) : mq s K A D ≤ mq s K B E := by
  refine mgF_mono s (stk_mono hD hE ?_) _
  rw [Nat.mul_right_comm, Nat.mul_right_comm B]
  exact Nat.mul_le_mul_right _ h
theorem mq_zero (s : Bool) (K D : Nat) : mq s K 0 D = 0 := by simp [mq, stk, mgF]
def rq (s : Bool) (K : Nat) (n : Int) (D : Nat) : Int := if n < 0 then -(mq s K n.natAbs D) else mq s K n.natAbs D
theorem mq_bd (s : Bool) (K A D : Nat) : 0 ≤ mq s K A D ∧ mq s K A D ≤ fI s := mgF_bd _ _ _
theorem rq_mono (s : Bool) {K D E : Nat} {n m : Int} (hD : 0 < D) (hE : 0 < E) (h : n * E ≤ m * D) : rq s K n D ≤ rq s K m E := by
  have b1 := mq_bd s K n.natAbs D
  have b2 := mq_bd s K m.natAbs E
  have pD : (0 : Int) < D := by omega
  have pE : (0 : Int) < E := by omega
  unfold rq
  by_cases c1 : n < 0
  · rw [if_pos c1]
    by_cases c2 : m < 0
    · rw [if_pos c2]
      obtain ⟨a, rfl⟩ : ∃ a : Nat, n = -a := ⟨n.natAbs, by omega⟩
      obtain ⟨b, rfl⟩ : ∃ b : Nat, m = -b := ⟨m.natAbs, by omega⟩
      have : mq s K b E ≤ mq s K a D := mq_mono s hE hD (by
        rw [Int.neg_mul, Int.neg_mul] at h
        have : (b : Int) * D ≤ a * E := by omega
        exact_mod_cast this)
      simp only [Int.natAbs_neg, Int.natAbs_natCast]
      omega
    · rw [if_neg c2]; omega
  · rw [if_neg c1]
    have c2 : ¬ m < 0 := by
      intro c2
      have h1 := Int.mul_nonneg (show 0 ≤ n by omega) (Int.le_of_lt pE)
      have h2 := Int.mul_neg_of_neg_of_pos c2 pD
      omega
    rw [if_neg c2]
    obtain ⟨a, rfl⟩ : ∃ a : Nat, n = a := ⟨n.natAbs, by omega⟩
    obtain ⟨b, rfl⟩ : ∃ b : Nat, m = b := ⟨m.natAbs, by omega⟩
    exact mq_mono s hD hE (by simpa using (by exact_mod_cast h : a * E ≤ b * D))
theorem div_core (s x : Bool) (A D i j K m P : Nat) (hm : i + K = 130 + m + j) (hP : 2 ^ 130 = P) (hD : 0 < D) (hb : A = 0 ∨ fP s + 2 ≤ blen (A * P / D)) :
    rq s K (sg x (A * 2 ^ i)) (D * 2 ^ j) = rk s (if x = true then -((stk (A * P) D : Nat) : Int) else ((stk (A * P) D : Nat) : Int)) ((i : Int) - j - 131) := by
  have st := stk_scale s (A * P) D m ((i : Int) - j - 131) hD (by
    rcases hb with h | h
    · left; rw [h, Nat.zero_mul]
    · exact Or.inr h)
  have pj2 := Nat.two_pow_pos j
  have en : A * 2 ^ i * 2 ^ K = A * P * 2 ^ m * 2 ^ j := by
    rw [Nat.mul_assoc, ← Nat.pow_add, hm, Nat.pow_add, Nat.pow_add, hP, ← Nat.mul_assoc, ← Nat.mul_assoc]
  have ek : stk (A * 2 ^ i * 2 ^ K) (D * 2 ^ j) = stk (A * P * 2 ^ m) D := by
    unfold stk
    rw [en, Nat.mul_div_mul_right _ _ pj2, Nat.mul_mod_mul_right]
    have : (A * P * 2 ^ m % D * 2 ^ j ≠ 0) ↔ (A * P * 2 ^ m % D ≠ 0) := by
      rw [ne_eq, ne_eq, Nat.mul_eq_zero]
      constructor
      · intro h q; exact h (Or.inl q)
      · rintro h (q | q)
        · exact h q
        · omega
    simp only [this]
  have em : mq s K (A * 2 ^ i) (D * 2 ^ j) = mgF s (stk (A * P) D) ((i : Int) - j - 131) := by
    unfold mq
    rw [ek, ← st]
    congr 1
    omega
  clear st ek en hP
  unfold rq rk sg
  have z1 : A * 2 ^ i = 0 → stk (A * P) D = 0 := by
    intro h
    rcases Nat.mul_eq_zero.1 h with h | h
    · subst h; simp [stk]
    · have := Nat.two_pow_pos i; omega
  generalize stk (A * P) D = S at *
  have z2 : S = 0 → mq s K (A * 2 ^ i) (D * 2 ^ j) = 0 := by
    intro h; rw [em, h]; rfl
  generalize A * 2 ^ i = N at *
  cases x
  · simp only [Bool.false_eq_true, if_false, Int.natAbs_natCast]
    rw [if_neg (by omega), if_neg (by omega), em]
  · simp only [if_true, Int.natAbs_neg, Int.natAbs_natCast]
    by_cases n0 : N = 0
    · rw [z1 n0, n0]
      simp [mq_zero, mgF]
    · rw [if_pos (by omega)]
      by_cases s0 : S = 0
      · rw [z2 s0, s0]; simp [mgF]
      · rw [if_pos (by omega), em]
theorem divT_stk (s x : Bool) (A D : Nat) (pe qe : Int) (P : Nat) (hP : 2 ^ 130 = P) : divT s 0 x A pe D qe = rnd s 0 x (stk (A * P) D) (pe - qe - 131) := by
  unfold divT stk
  rw [hP]
theorem div_rk (s b c : Bool) (y z K : Nat) (hy : (y : Int) < fI s) (hz : (z : Int) < fI s) (z0 : z ≠ 0) (hK : 130 + z ≤ K) : Res s (divF s 0 (sgnd s b y) (sgnd s c z)) (rq s K (sg (b != c) (val s y)) (val s z)) := by
  obtain ⟨a1, a2⟩ := made_fin s b y hy
  obtain ⟨b1, b2, b3⟩ := self_cls s c z z0 hz
  obtain ⟨i, pi, vi, _⟩ := parts_val s b y hy
  obtain ⟨j, pj, vj, jz⟩ := parts_val s c z hz
  have wz := whl_pos s c z z0 hz
  obtain ⟨P, hP⟩ : ∃ P : Nat, 2 ^ 130 = P := ⟨_, rfl⟩
  have hb : (whl s (sgnd s b y)).toNat = 0 ∨ fP s + 2 ≤ blen ((whl s (sgnd s b y)).toNat * P / (whl s (sgnd s c z)).toNat) := by
    by_cases h : (whl s (sgnd s b y)).toNat = 0
    · exact Or.inl h
    · have := quot_big s _ _ h wz.1 wz.2
      rw [hP] at this
      exact Or.inr this
  unfold divF
  rw [a1, b1, a2, b2, b3]
  simp only [Bool.or_self, Bool.false_eq_true, if_false, Bool.false_and, Bool.and_false]
  rw [self_sgn s b y hy, self_sgn s c z hz, pi, pj, divT_stk s _ _ _ _ _ P hP]
  rw [vi, vj]
  generalize (whl s (sgnd s b y)).toNat = A at *
  generalize (whl s (sgnd s c z)).toNat = D at *
  obtain ⟨m, hm⟩ : ∃ m : Nat, i + K = 130 + m + j := ⟨i + K - 130 - j, by omega⟩
  rw [div_core s (b != c) A D i j K m P hm hP (by omega) hb, show fL s + (i : Int) - (fL s + j) - 131 = (i : Int) - j - 131 by omega]
  exact rnd_rk s (b != c) (stk (A * P) D) ((i : Int) - j - 131)
end Go.Proofs.YteafnkimcidkhaaGreat

