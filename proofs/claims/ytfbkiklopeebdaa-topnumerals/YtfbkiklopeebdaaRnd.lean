/- Rounding, with no Go in sight: a whole number times a power of 2, rounded to a float; sums, quotients and roots. -/
import Derived.Test.YtfbkiklopeebdaaWords
namespace Go.Proofs.Ytfbkiklopeebdaa
set_option linter.unusedSimpArgs false
set_option linter.unusedVariables false
def fS (s : Bool) : Int := if s then 2147483648 else 9223372036854775808
def fI (s : Bool) : Int := if s then 2139095040 else 9218868437227405312
def fP (s : Bool) : Nat := if s then 23 else 52
def fL (s : Bool) : Int := if s then -149 else -1074
/-- How many bits a number has. -/
def blen (n : Nat) : Nat := if n = 0 then 0 else n.log2 + 1
theorem blen_zero : blen 0 = 0 := rfl
theorem lt_blen (n : Nat) : n < 2 ^ blen n := by
  unfold blen
  split
  · subst_vars; decide
  · exact Nat.lt_log2_self
theorem blen_le {n : Nat} (h : n ≠ 0) : 2 ^ (blen n - 1) ≤ n ∧ 1 ≤ blen n := by
  unfold blen
  rw [if_neg h]
  exact ⟨Nat.log2_self_le h, by omega⟩
theorem blen_uniq {n l : Nat} (h1 : 1 ≤ l) (h2 : 2 ^ (l - 1) ≤ n) (h3 : n < 2 ^ l) : blen n = l := by
  have n0 : n ≠ 0 := by have := Nat.two_pow_pos (l - 1); omega
  obtain ⟨a, b⟩ := blen_le n0
  have c := lt_blen n
  have d1 : l - 1 < blen n := (Nat.pow_lt_pow_iff_right (a := 2) (by decide)).1 (Nat.lt_of_le_of_lt h2 c)
  have d2 : blen n - 1 < l := (Nat.pow_lt_pow_iff_right (a := 2) (by decide)).1 (Nat.lt_of_le_of_lt a h3)
  omega
theorem blen_up {n : Nat} (h : n ≠ 0) (j t : Nat) (ht : t < 2 ^ j) : blen (n * 2 ^ j + t) = blen n + j := by
  obtain ⟨a, b⟩ := blen_le h
  have c := lt_blen n
  apply blen_uniq (by omega)
  · have : blen n + j - 1 = (blen n - 1) + j := by omega
    rw [this, Nat.pow_add]
    exact Nat.le_trans (Nat.mul_le_mul_right _ a) (Nat.le_add_right _ _)
  · rw [Nat.pow_add]
    have : (n + 1) * 2 ^ j ≤ 2 ^ blen n * 2 ^ j := Nat.mul_le_mul_right _ c
    rw [Nat.succ_mul] at this
    omega
/-- The power of 2 of the last place that is kept. -/
def lastOf (s : Bool) (n : Nat) (e : Int) : Int := max ((blen n : Int) - (fP s + 1) + e) (fL s)
/-- What is kept of n, without the last k places. -/
def quo (n : Nat) (k : Int) : Nat := if k ≤ 0 then n * 2 ^ (-k).toNat else n / 2 ^ k.toNat
/-- The bit that is half of the last place kept. -/
def half (n : Nat) (k : Int) : Bool := decide (1 ≤ k) && (n / 2 ^ (k.toNat - 1) % 2 == 1)
/-- Is there something below that bit? -/
def low (n : Nat) (k : Int) : Bool := decide (1 ≤ k) && (n % 2 ^ (k.toNat - 1) != 0)
/-- Does what is kept go one step away from 0? -/
def away (m : Int) (below odd half low : Bool) : Bool :=
  if m = 1 then (half || low) && !below else if m = 2 then (half || low) && below else if m = 3 then false else half && (low || odd)
/-- The size of what lies past the greatest finite one. -/
def great (s : Bool) (m : Int) (below : Bool) : Int := if away m below true true true then fI s else fI s - 1
/-- The size of a float, of what is kept and what is lost. -/
def fin (s : Bool) (m : Int) (below : Bool) (last : Int) (q : Nat) (h l : Bool) : Int :=
  if fI s ≤ (last - fL s) * 2 ^ fP s + ((q + if away m below (q % 2 == 1) h l then 1 else 0 : Nat) : Int) then great s m below
  else (last - fL s) * 2 ^ fP s + ((q + if away m below (q % 2 == 1) h l then 1 else 0 : Nat) : Int)
/-- The size of n times 2 to the e, rounded. -/
def mag (s : Bool) (m : Int) (below : Bool) (n : Nat) (e : Int) : Int :=
  fin s m below (lastOf s n e) (quo n (lastOf s n e - e)) (half n (lastOf s n e - e)) (low n (lastOf s n e - e))
/-- A size with its sign. -/
def sgnd (s below : Bool) (z : Int) : Int := if below then z + fS s else z
/-- n times 2 to the e, rounded. -/
def rnd (s : Bool) (m : Int) (below : Bool) (n : Nat) (e : Int) : Int := sgnd s below (if n = 0 then 0 else mag s m below n e)

theorem div_pow_add (n a b : Nat) : n * 2 ^ a / 2 ^ (a + b) = n / 2 ^ b := by
  rw [Nat.pow_add, Nat.mul_comm n, Nat.mul_div_mul_left _ _ (Nat.two_pow_pos a)]
theorem quo_scale (n j : Nat) (k : Int) : quo (n * 2 ^ j) (k + j) = quo n k := by
  unfold quo
  by_cases c1 : k ≤ 0
  · rw [if_pos c1]
    by_cases c2 : k + j ≤ 0
    · rw [if_pos c2, Nat.mul_assoc, ← Nat.pow_add]
      congr 2
      omega
    · rw [if_neg c2]
      have e : j = (k + j).toNat + (-k).toNat := by omega
      have : n * 2 ^ j = n * 2 ^ (-k).toNat * 2 ^ (k + j).toNat := by rw [Nat.mul_assoc, ← Nat.pow_add]; congr 2; omega
      rw [this, Nat.mul_div_cancel _ (Nat.two_pow_pos _)]
  · rw [if_neg c1, if_neg (by omega)]
    have : (k + j).toNat = j + k.toNat := by omega
    rw [this, div_pow_add]
theorem half_scale (n j : Nat) (k : Int) : half (n * 2 ^ j) (k + j) = half n k := by
  unfold half
  by_cases c1 : 1 ≤ k
  · rw [decide_eq_true c1, decide_eq_true (by omega : 1 ≤ k + j)]
    have : (k + j).toNat - 1 = j + (k.toNat - 1) := by omega
    rw [this, div_pow_add]
  · rw [decide_eq_false c1]
    by_cases c2 : 1 ≤ k + j
    · rw [decide_eq_true c2]
      have : n * 2 ^ j = 2 * (n * 2 ^ (j - (k + j).toNat)) * 2 ^ ((k + j).toNat - 1) := by
        have : j = (j - (k + j).toNat) + ((k + j).toNat - 1) + 1 := by omega
        conv => lhs; rw [this, Nat.pow_succ, Nat.pow_add]
        simp only [Nat.mul_comm, Nat.mul_left_comm, Nat.mul_assoc]
      rw [this, Nat.mul_div_cancel _ (Nat.two_pow_pos _), Nat.mul_mod_right]
      rfl
    · rw [decide_eq_false c2]
      rfl
theorem low_scale (n j : Nat) (k : Int) : low (n * 2 ^ j) (k + j) = low n k := by
  unfold low
  by_cases c1 : 1 ≤ k
  · rw [decide_eq_true c1, decide_eq_true (by omega : 1 ≤ k + j)]
    have : (k + j).toNat - 1 = j + (k.toNat - 1) := by omega
    rw [this, Nat.pow_add, Nat.mul_comm n, Nat.mul_mod_mul_left]
    have : 2 ^ j ≠ 0 := Nat.ne_of_gt (Nat.two_pow_pos j)
    by_cases c : n % 2 ^ (k.toNat - 1) = 0
    · rw [c]; rfl
    · rw [bne_iff_ne.2 (Nat.mul_ne_zero this c), bne_iff_ne.2 c]
  · rw [decide_eq_false c1]
    by_cases c2 : 1 ≤ k + j
    · rw [decide_eq_true c2]
      have : n * 2 ^ j = 2 ^ ((k + j).toNat - 1) * (n * 2 ^ (j - ((k + j).toNat - 1))) := by
        have : j = (j - ((k + j).toNat - 1)) + ((k + j).toNat - 1) := by omega
        conv => lhs; rw [this, Nat.pow_add]
        simp only [Nat.mul_comm, Nat.mul_left_comm, Nat.mul_assoc]
      rw [this, Nat.mul_mod_right]
      rfl
    · rw [decide_eq_false c2]
      rfl
theorem lastOf_scale (s : Bool) {n : Nat} (h : n ≠ 0) (j t : Nat) (ht : t < 2 ^ j) (e : Int) : lastOf s (n * 2 ^ j + t) (e - j) = lastOf s n e := by
  unfold lastOf
  rw [blen_up h j t ht]
  congr 1
  omega
theorem mag_scale (s : Bool) (m : Int) (b : Bool) {n : Nat} (h : n ≠ 0) (j : Nat) (e : Int) : mag s m b (n * 2 ^ j) (e - j) = mag s m b n e := by
  have a := lastOf_scale s h j 0 (Nat.two_pow_pos j) e
  rw [Nat.add_zero] at a
  unfold mag
  rw [a]
  have k : lastOf s n e - (e - j) = (lastOf s n e - e) + j := by omega
  rw [k, quo_scale, half_scale, low_scale]
theorem rnd_scale (s : Bool) (m : Int) (b : Bool) (n j : Nat) (e : Int) : rnd s m b (n * 2 ^ j) (e - j) = rnd s m b n e := by
  unfold rnd
  by_cases h : n = 0
  · subst h; simp
  · have : n * 2 ^ j ≠ 0 := Nat.mul_ne_zero h (Nat.ne_of_gt (Nat.two_pow_pos j))
    rw [if_neg h, if_neg this, mag_scale s m b h]
/-- One bit for all that is lost. -/
theorem mag_sticky (s : Bool) (m : Int) (b : Bool) {n : Nat} (h : n ≠ 0) (j t : Nat) (ht : t < 2 ^ j) (t0 : t ≠ 0) (e : Int) (hk : 1 ≤ lastOf s n e - e) :
    mag s m b (n * 2 ^ j + t) (e - j) = fin s m b (lastOf s n e) (quo n (lastOf s n e - e)) (half n (lastOf s n e - e)) true := by
  have a := lastOf_scale s h j t ht e
  unfold mag
  rw [a]
  generalize lastOf s n e = L at *
  have k : L - (e - j) = (L - e) + j := by omega
  rw [k]
  generalize L - e = K at *
  have kk : (K + j).toNat = j + K.toNat := by omega
  have k1 : (K + j).toNat - 1 = j + (K.toNat - 1) := by omega
  have d : ∀ r, (n * 2 ^ j + t) / 2 ^ (j + r) = n / 2 ^ r := fun r => by
    rw [Nat.pow_add, ← Nat.div_div_eq_div_mul, Nat.mul_comm n, Nat.mul_add_div (Nat.two_pow_pos j), Nat.div_eq_of_lt ht, Nat.add_zero]
  have q : quo (n * 2 ^ j + t) (K + j) = quo n K := by
    unfold quo
    rw [if_neg (by omega), if_neg (by omega), kk, d]
  have hf : half (n * 2 ^ j + t) (K + j) = half n K := by
    unfold half
    rw [decide_eq_true (by omega : 1 ≤ K + j), decide_eq_true hk, k1, d]
  have lw : low (n * 2 ^ j + t) (K + j) = true := by
    unfold low
    rw [decide_eq_true (by omega : 1 ≤ K + j), k1]
    have : (n * 2 ^ j + t) % 2 ^ (j + (K.toNat - 1)) ≠ 0 := by
      intro z
      have z' := Nat.mod_mod_of_dvd (n * 2 ^ j + t) (Nat.pow_dvd_pow 2 (Nat.le_add_right j (K.toNat - 1)))
      rw [z, Nat.mul_comm n, Nat.mul_add_mod, Nat.mod_eq_of_lt ht] at z'
      simp at z'
      omega
    simp [this]
  rw [q, hf, lw]
theorem rnd_sticky (s : Bool) (m : Int) (b : Bool) {n : Nat} (h : n ≠ 0) (j t j' t' : Nat) (ht : t < 2 ^ j) (t0 : t ≠ 0) (ht' : t' < 2 ^ j') (t0' : t' ≠ 0) (e : Int) (hk : 1 ≤ lastOf s n e - e) :
    rnd s m b (n * 2 ^ j + t) (e - j) = rnd s m b (n * 2 ^ j' + t') (e - j') := by
  unfold rnd
  rw [if_neg (by omega), if_neg (by omega), mag_sticky s m b h j t ht t0 e hk, mag_sticky s m b h j' t' ht' t0' e hk]
/-- Of a number of enough bits something is lost. -/
theorem last_ge (s : Bool) {n : Nat} (e : Int) (h : fP s + 2 ≤ blen n) : 1 ≤ lastOf s n e - e := by
  unfold lastOf; omega

theorem fP_le (s : Bool) : fP s ≤ 52 := by cases s <;> decide
theorem fP_ge (s : Bool) : 23 ≤ fP s := by cases s <;> decide
theorem le_blen {n l : Nat} (h : 2 ^ l ≤ n) : l + 1 ≤ blen n := by
  have : 2 ^ l < 2 ^ blen n := Nat.lt_of_le_of_lt h (lt_blen n)
  exact (Nat.pow_lt_pow_iff_right (a := 2) (by decide)).1 this
theorem blen_le_of {n l : Nat} (h : n < 2 ^ l) : blen n ≤ l := by
  by_cases c : n = 0
  · subst c; rw [blen_zero]; omega
  · obtain ⟨a, b⟩ := blen_le c
    have : 2 ^ (blen n - 1) < 2 ^ l := Nat.lt_of_le_of_lt a h
    have := (Nat.pow_lt_pow_iff_right (a := 2) (by decide)).1 this
    omega
/-- n, and a quarter, if more, times 2 to the e: rounded. -/
def rndQ (s : Bool) (m : Int) (b : Bool) (n : Nat) (e : Int) (more : Bool) : Int := rnd s m b (4 * n + more.toNat) (e - 2)
theorem rndQ_false (s : Bool) (m : Int) (b : Bool) (n : Nat) (e : Int) : rndQ s m b n e false = rnd s m b n e := by
  have := rnd_scale s m b n 2 e
  unfold rndQ
  rw [← this]
  congr 1
  simp; omega
/-- Where something is lost anyway, a bit at the end serves for all. -/
theorem rnd_odd (s : Bool) (m : Int) (b : Bool) (n : Nat) (e : Int) (h : fP s + 4 ≤ blen n) : rnd s m b (n / 2 * 2 + 1) e = rndQ s m b n e true := by
  have n0 : n ≠ 0 := by intro c; subst c; rw [blen_zero] at h; omega
  have hb : blen n = blen (n / 2) + 1 := by
    have h2 : n / 2 ≠ 0 := by
      intro c
      have : n < 2 ^ 1 := by omega
      have := blen_le_of this
      omega
    have := blen_up h2 1 (n % 2) (by omega)
    have e : n / 2 * 2 ^ 1 + n % 2 = n := by omega
    rw [e] at this
    exact this
  have hk := last_ge s (n := n / 2) (e + 1) (by omega)
  have h2 : n / 2 ≠ 0 := by intro c; rw [c, blen_zero] at hb; omega
  have t := rnd_sticky s m b h2 1 1 3 (n % 2 * 4 + 1) (by decide) (by decide) (by omega) (by omega) (e + 1) hk
  have e1 : n / 2 * 2 ^ 1 + 1 = n / 2 * 2 + 1 := by omega
  have e2 : e + 1 - ((1 : Nat) : Int) = e := by omega
  have e3 : n / 2 * 2 ^ 3 + (n % 2 * 4 + 1) = 4 * n + 1 := by omega
  have e4 : e + 1 - ((3 : Nat) : Int) = e - 2 := by omega
  rw [e1, e2, e3, e4] at t
  exact t
/-- A quotient, or a root: with all that is lost, of enough places. -/
theorem rndQ_more (s : Bool) (m : Int) (b : Bool) (q j t : Nat) (e : Int) (h : fP s + 2 ≤ blen q) (ht : t < 2 ^ j) (more : Bool) (hm : more = decide (t ≠ 0)) :
    rndQ s m b q e more = rnd s m b (q * 2 ^ j + t) (e - j) := by
  have q0 : q ≠ 0 := by intro c; subst c; rw [blen_zero] at h; omega
  by_cases c : t = 0
  · have : more = false := by rw [hm]; simp [c]
    subst this c
    rw [rndQ_false, Nat.add_zero, rnd_scale]
  · have : more = true := by rw [hm]; simp [c]
    subst this
    have k := rnd_sticky s m b q0 2 1 j t (by decide) (by decide) ht c e (last_ge s e h)
    unfold rndQ
    rw [← k]
    congr 1
    simp; omega
/-- Far apart: a sum. -/
theorem rnd_far_add (s : Bool) (m : Int) (b : Bool) (x y d : Nat) (e : Int) (hx : 2 ^ fP s ≤ x) (hy : y < 2 ^ (fP s + 1)) (hd : 70 ≤ d) :
    rnd s m b (x * 2 ^ 70 + y) (e - 70) = rnd s m b (x * 2 ^ d + y) (e - d) := by
  have x0 : x ≠ 0 := by have := Nat.two_pow_pos (fP s); omega
  by_cases c : y = 0
  · subst c
    rw [Nat.add_zero, Nat.add_zero]
    have a := rnd_scale s m b x 70 e
    have a' := rnd_scale s m b x d e
    rw [a']
    exact a
  · have hl : fP s + 2 ≤ blen (x * 2 ^ 2 + 0) := by
      rw [blen_up x0 2 0 (by decide)]
      have := le_blen hx
      omega
    rw [Nat.add_zero] at hl
    have hp : 2 ^ (fP s + 1) ≤ 2 ^ 68 := Nat.pow_le_pow_right (by decide) (by have := fP_le s; omega)
    have hp' : 2 ^ 68 ≤ 2 ^ (d - 2) := Nat.pow_le_pow_right (by decide) (by omega)
    have n0 : x * 2 ^ 2 ≠ 0 := by omega
    have t := rnd_sticky s m b n0 68 y (d - 2) y (by omega) c (by omega) c (e - 2) (last_ge s _ hl)
    have e1 : x * 2 ^ 2 * 2 ^ (d - 2) = x * 2 ^ d := by rw [Nat.mul_assoc, ← Nat.pow_add]; congr 2; omega
    have e3 : e - 2 - ((d - 2 : Nat) : Int) = e - d := by omega
    have e5 : x * 2 ^ 2 * 2 ^ 68 = x * 2 ^ 70 := by rw [Nat.mul_assoc, ← Nat.pow_add]
    have e6 : e - 2 - ((68 : Nat) : Int) = e - 70 := by omega
    rw [e1, e3, e5, e6] at t
    exact t
/-- Far apart: a difference. -/
theorem rnd_far_sub (s : Bool) (m : Int) (b : Bool) (x y d : Nat) (e : Int) (hx : 2 ^ fP s ≤ x) (hy : y < 2 ^ (fP s + 1)) (hd : 70 ≤ d) :
    rnd s m b (x * 2 ^ 70 - y) (e - 70) = rnd s m b (x * 2 ^ d - y) (e - d) := by
  have x0 : x ≠ 0 := by have := Nat.two_pow_pos (fP s); omega
  by_cases c : y = 0
  · subst c
    rw [Nat.sub_zero, Nat.sub_zero]
    have a := rnd_scale s m b x 70 e
    have a' := rnd_scale s m b x d e
    rw [a']
    exact a
  · have hx2 : 2 ^ (fP s + 1) ≤ x * 2 ^ 2 - 1 := by rw [Nat.pow_succ]; have := Nat.two_pow_pos (fP s); omega
    have hl := le_blen hx2
    have hp : 2 ^ (fP s + 1) ≤ 2 ^ 68 := Nat.pow_le_pow_right (by decide) (by have := fP_le s; omega)
    have hp' : 2 ^ 68 ≤ 2 ^ (d - 2) := Nat.pow_le_pow_right (by decide) (by omega)
    have n0 : x * 2 ^ 2 - 1 ≠ 0 := by omega
    have t := rnd_sticky s m b n0 68 (2 ^ 68 - y) (d - 2) (2 ^ (d - 2) - y) (by omega) (by omega) (by omega) (by omega) (e - 2) (last_ge s _ (by omega))
    have e1 : ∀ j, y ≤ 2 ^ j → (x * 2 ^ 2 - 1) * 2 ^ j + (2 ^ j - y) = x * 2 ^ (j + 2) - y := fun j hj => by
      rw [Nat.mul_comm (x * 2 ^ 2 - 1), Nat.mul_sub, Nat.mul_one]
      have : x * 2 ^ (j + 2) = 2 ^ j * (x * 2 ^ 2) := by rw [Nat.pow_add]; simp only [Nat.mul_comm, Nat.mul_left_comm]
      rw [this]
      have : 2 ^ j * 1 ≤ 2 ^ j * (x * 2 ^ 2) := Nat.mul_le_mul_left _ (by omega)
      omega
    have e3 : e - 2 - ((d - 2 : Nat) : Int) = e - d := by omega
    have e4 : d - 2 + 2 = d := by omega
    rw [e1 68 (by omega), e1 (d - 2) (by omega), e3, e4] at t
    rw [← t]
    congr 1
    omega
/-- The sum of two numbers, each with its sign, a whole number and a power of 2: rounded. -/
def sumT (s : Bool) (m : Int) (xb : Bool) (xw : Nat) (xe : Int) (yb : Bool) (yw : Nat) (ye : Int) : Int :=
  if xb = yb then rnd s m xb (xw * 2 ^ (xe - min xe ye).toNat + yw * 2 ^ (ye - min xe ye).toNat) (min xe ye)
  else if xw * 2 ^ (xe - min xe ye).toNat = yw * 2 ^ (ye - min xe ye).toNat then sgnd s (m == 2) 0
  else if yw * 2 ^ (ye - min xe ye).toNat < xw * 2 ^ (xe - min xe ye).toNat then rnd s m xb (xw * 2 ^ (xe - min xe ye).toNat - yw * 2 ^ (ye - min xe ye).toNat) (min xe ye)
  else rnd s m yb (yw * 2 ^ (ye - min xe ye).toNat - xw * 2 ^ (xe - min xe ye).toNat) (min xe ye)
theorem sumT_swap (s : Bool) (m : Int) (xb : Bool) (xw : Nat) (xe : Int) (yb : Bool) (yw : Nat) (ye : Int) : sumT s m xb xw xe yb yw ye = sumT s m yb yw ye xb xw xe := by
  unfold sumT
  rw [show min ye xe = min xe ye by omega]
  generalize xw * 2 ^ (xe - min xe ye).toNat = X
  generalize yw * 2 ^ (ye - min xe ye).toNat = Y
  by_cases c : xb = yb
  · subst c
    rw [if_pos rfl, if_pos rfl, Nat.add_comm]
  · rw [if_neg c, if_neg (fun h : yb = xb => c h.symm)]
    by_cases d : X = Y
    · rw [if_pos d, if_pos d.symm]
    · rw [if_neg d, if_neg (fun h : Y = X => d h.symm)]
      by_cases g : Y < X
      · rw [if_pos g, if_neg (by omega)]
      · rw [if_neg g, if_pos (by omega)]
theorem rnd_zero (s : Bool) (m : Int) (b : Bool) (e : Int) : rnd s m b 0 e = sgnd s b 0 := by unfold rnd; rw [if_pos rfl]
/-- How far the lower one is raised. -/
def raised (xe ye : Int) : Int := max ye (xe - 70)
theorem raised_ge (xe ye : Int) (h : ye ≤ xe) : 0 ≤ xe - raised xe ye ∧ xe - raised xe ye ≤ 70 := by unfold raised; omega
theorem far_or (xe ye : Int) (h : ye ≤ xe) : raised xe ye = ye ∨ raised xe ye = xe - 70 ∧ 70 < xe - ye := by unfold raised; omega
theorem sum_same (s : Bool) (m : Int) (b : Bool) (xw yw : Nat) (xe ye : Int) (h : ye ≤ xe) (hx : fL s < xe → 2 ^ fP s ≤ xw) (hy : yw < 2 ^ (fP s + 1)) (hl : fL s ≤ ye) :
    rnd s m b (xw * 2 ^ (xe - raised xe ye).toNat + yw) (raised xe ye) = sumT s m b xw xe b yw ye := by
  unfold sumT
  rw [if_pos rfl, show min xe ye = ye by omega, show (ye - ye).toNat = 0 by omega, Nat.pow_zero, Nat.mul_one]
  rcases far_or xe ye h with c | ⟨c, d⟩
  · rw [c]
  · rw [c, show (xe - (xe - 70)).toNat = 70 by omega, rnd_far_add s m b xw yw (xe - ye).toNat xe (hx (by omega)) hy (by omega)]
    congr 1
    omega
theorem far_above (s : Bool) (x y d : Nat) (hx : 2 ^ fP s ≤ x) (hy : y < 2 ^ (fP s + 1)) (hd : 1 ≤ d) : y < x * 2 ^ d := by
  have : 2 ^ (fP s + 1) ≤ x * 2 ^ d := by
    rw [Nat.pow_succ]
    exact Nat.mul_le_mul hx (Nat.le_trans (by decide) (Nat.pow_le_pow_right (by decide) hd : 2 ^ 1 ≤ 2 ^ d))
  omega
theorem sum_more (s : Bool) (m : Int) (xb yb : Bool) (xw yw : Nat) (xe ye : Int) (hb : xb ≠ yb) (h : ye ≤ xe) (hx : fL s < xe → 2 ^ fP s ≤ xw) (hy : yw < 2 ^ (fP s + 1)) (hl : fL s ≤ ye)
    (g : yw < xw * 2 ^ (xe - raised xe ye).toNat) :
    rnd s m xb (xw * 2 ^ (xe - raised xe ye).toNat - yw) (raised xe ye) = sumT s m xb xw xe yb yw ye := by
  unfold sumT
  rw [if_neg hb, show min xe ye = ye by omega, show (ye - ye).toNat = 0 by omega, Nat.pow_zero, Nat.mul_one]
  rcases far_or xe ye h with c | ⟨c, d⟩
  · rw [c] at g ⊢
    rw [if_neg (by omega), if_pos g]
  · rw [c] at g ⊢
    have q := far_above s xw yw (xe - ye).toNat (hx (by omega)) hy (by omega)
    rw [if_neg (by omega), if_pos q]
    rw [show (xe - (xe - 70)).toNat = 70 by omega, rnd_far_sub s m xb xw yw (xe - ye).toNat xe (hx (by omega)) hy (by omega)]
    congr 1
    omega
theorem sum_gone (s : Bool) (m : Int) (xb yb : Bool) (xw yw : Nat) (xe ye e : Int) (hb : xb ≠ yb) (h : ye ≤ xe) (hx : fL s < xe → 2 ^ fP s ≤ xw) (hy : yw < 2 ^ (fP s + 1)) (hl : fL s ≤ ye)
    (g : yw = xw * 2 ^ (xe - raised xe ye).toNat) :
    rnd s m (m == 2) 0 e = sumT s m xb xw xe yb yw ye := by
  rw [rnd_zero]
  unfold sumT
  rw [if_neg hb, show min xe ye = ye by omega, show (ye - ye).toNat = 0 by omega, Nat.pow_zero, Nat.mul_one]
  rcases far_or xe ye h with c | ⟨c, d⟩
  · rw [c] at g
    rw [if_pos g.symm]
  · rw [c, show (xe - (xe - 70)).toNat = 70 by omega] at g
    have q := far_above s xw yw 70 (hx (by omega)) hy (by omega)
    omega
theorem sum_less (s : Bool) (m : Int) (xb yb : Bool) (xw yw : Nat) (xe ye : Int) (hb : xb ≠ yb) (h : ye ≤ xe) (hx : fL s < xe → 2 ^ fP s ≤ xw) (hy : yw < 2 ^ (fP s + 1)) (hl : fL s ≤ ye)
    (g : xw * 2 ^ (xe - raised xe ye).toNat < yw) :
    rnd s m yb (yw - xw * 2 ^ (xe - raised xe ye).toNat) (raised xe ye) = sumT s m xb xw xe yb yw ye := by
  unfold sumT
  rw [if_neg hb, show min xe ye = ye by omega, show (ye - ye).toNat = 0 by omega, Nat.pow_zero, Nat.mul_one]
  rcases far_or xe ye h with c | ⟨c, d⟩
  · rw [c] at g ⊢
    rw [if_neg (by omega), if_neg (by omega)]
  · rw [c, show (xe - (xe - 70)).toNat = 70 by omega] at g
    have q := far_above s xw yw 70 (hx (by omega)) hy (by omega)
    omega
/-- The quotient of two numbers, rounded. -/
def divT (s : Bool) (m : Int) (b : Bool) (xw : Nat) (xe : Int) (yw : Nat) (ye : Int) : Int :=
  rnd s m b (2 * (xw * 2 ^ 130 / yw) + (decide (xw * 2 ^ 130 % yw ≠ 0)).toNat) (xe - ye - 131)
theorem div_fits (s : Bool) (m : Int) (b : Bool) (xw yw up : Nat) (xe ye : Int) (more : Bool) (y0 : yw ≠ 0) (hy : yw < 2 ^ 53) (hu : up ≤ 128) (hx : 2 ^ 127 ≤ xw * 2 ^ up)
    (hm : more = decide (xw * 2 ^ up % yw ≠ 0)) : rndQ s m b (xw * 2 ^ up / yw) (xe - up - ye) more = divT s m b xw xe yw ye := by
  have y1 : 0 < yw := by omega
  have big : 2 ^ 74 ≤ xw * 2 ^ up / yw := by
    rw [Nat.le_div_iff_mul_le y1]
    have : 2 ^ 74 * yw ≤ 2 ^ 74 * 2 ^ 53 := Nat.mul_le_mul_left _ (by omega)
    omega
  have hl : fP s + 2 ≤ blen (xw * 2 ^ up / yw) := by have := le_blen big; have := fP_le s; omega
  have hd : xw * 2 ^ 130 = xw * 2 ^ up * 2 ^ (130 - up) := by rw [Nat.mul_assoc, ← Nat.pow_add]; congr 2; omega
  have h2 := Nat.two_pow_pos (130 - up)
  unfold divT
  rw [hd]
  generalize xw * 2 ^ up = A at *
  have dm := Nat.div_add_mod A yw
  have lt := Nat.mod_lt A y1
  generalize A / yw = Q at *
  generalize A % yw = R at *
  generalize hP : 2 ^ (130 - up) = P at *
  have e1 : A * P = yw * (Q * P) + R * P := by rw [← dm, Nat.add_mul, Nat.mul_assoc]
  have e2 : A * P / yw = Q * P + R * P / yw := by rw [e1, Nat.mul_add_div y1]
  have e3 : A * P % yw = R * P % yw := by rw [e1, Nat.mul_add_mod]
  have lt2 : R * P / yw < P := by
    rw [Nat.div_lt_iff_lt_mul y1, Nat.mul_comm P]
    exact Nat.mul_lt_mul_of_pos_right lt h2
  rw [e2, e3]
  have ht : 2 * (R * P / yw) + (decide (R * P % yw ≠ 0)).toNat < 2 ^ (131 - up) := by
    rw [show 131 - up = (130 - up) + 1 by omega, Nat.pow_succ, hP]
    have : (decide (R * P % yw ≠ 0)).toNat ≤ 1 := Bool.toNat_le _
    omega
  have hm2 : more = decide (2 * (R * P / yw) + (decide (R * P % yw ≠ 0)).toNat ≠ 0) := by
    rw [hm, decide_eq_decide]
    have k := Nat.div_add_mod (R * P) yw
    constructor
    · intro r0 z
      have z1 : R * P / yw = 0 := by omega
      have z2 : R * P % yw = 0 := by
        by_cases c : R * P % yw = 0
        · exact c
        · rw [decide_eq_true c] at z; simp at z
      rw [z1, z2] at k
      have : R * P = 0 := by omega
      rcases Nat.mul_eq_zero.1 this with h | h <;> omega
    · intro z r0
      subst r0
      simp at z
  rw [rndQ_more s m b Q (131 - up) _ _ hl ht more hm2]
  congr 1
  · rw [show 131 - up = (130 - up) + 1 by omega, Nat.pow_succ, hP, Nat.mul_add, ← Nat.add_assoc]
    congr 2
    rw [Nat.mul_comm 2, Nat.mul_assoc]
  · omega
/-- The root of a whole number. -/
def isq (n : Nat) : Nat := if h : n = 0 then 0 else
  if (2 * isq (n / 4) + 1) * (2 * isq (n / 4) + 1) ≤ n then 2 * isq (n / 4) + 1 else 2 * isq (n / 4)
termination_by n
decreasing_by all_goals omega
theorem isq_spec (n : Nat) : isq n * isq n ≤ n ∧ n < (isq n + 1) * (isq n + 1) := by
  induction n using Nat.strongRecOn with
  | _ n ih =>
    rw [isq]
    by_cases h : n = 0
    · subst h; simp
    · rw [dif_neg h]
      obtain ⟨a, b⟩ := ih (n / 4) (by omega)
      generalize isq (n / 4) = r at *
      have e1 : (2 * r) * (2 * r) = 4 * (r * r) := by rw [Nat.mul_mul_mul_comm]
      have e2 : (2 * r + 1 + 1) * (2 * r + 1 + 1) = 4 * ((r + 1) * (r + 1)) := by rw [show 2 * r + 1 + 1 = 2 * (r + 1) by omega, Nat.mul_mul_mul_comm]
      split
      · exact ⟨by assumption, by omega⟩
      · exact ⟨by omega, by omega⟩
theorem isq_uniq {n r : Nat} (h1 : r * r ≤ n) (h2 : n < (r + 1) * (r + 1)) : r = isq n := by
  obtain ⟨a, b⟩ := isq_spec n
  have c1 : r < isq n + 1 := Nat.mul_self_lt_mul_self_iff.1 (Nat.lt_of_le_of_lt h1 b)
  have c2 : isq n < r + 1 := Nat.mul_self_lt_mul_self_iff.1 (Nat.lt_of_le_of_lt a h2)
  omega
/-- How far a number is moved up ahead of its root. -/
def rootUp (xw : Nat) (xe : Int) : Nat := if (xe - (126 - blen xw : Nat)) % 2 = 0 then 126 - blen xw else 126 - blen xw + 1
/-- The root of a number, rounded. -/
def sqrtT (s : Bool) (m : Int) (xw : Nat) (xe : Int) : Int :=
  rnd s m false (2 * isq (xw * 2 ^ rootUp xw xe) + (decide (xw * 2 ^ rootUp xw xe - isq (xw * 2 ^ rootUp xw xe) * isq (xw * 2 ^ rootUp xw xe) ≠ 0)).toNat) ((xe - rootUp xw xe) / 2 - 1)
theorem root_fits (s : Bool) (m : Int) (A : Nat) (e : Int) (more : Bool) (hA : 2 ^ 125 ≤ A) (hm : more = decide (A - isq A * isq A ≠ 0)) :
    rndQ s m false (isq A) e more = rnd s m false (2 * isq A + (decide (A - isq A * isq A ≠ 0)).toNat) (e - 1) := by
  obtain ⟨a, b⟩ := isq_spec A
  have big : 2 ^ 62 ≤ isq A := by
    by_cases c : 2 ^ 62 ≤ isq A
    · exact c
    · have : (isq A + 1) * (isq A + 1) ≤ 2 ^ 62 * 2 ^ 62 := Nat.mul_le_mul (by omega) (by omega)
      omega
  have hl : fP s + 2 ≤ blen (isq A) := by have := le_blen big; have := fP_le s; omega
  generalize decide (A - isq A * isq A ≠ 0) = g at *
  subst hm
  have hg : more.toNat < 2 ^ 1 := by have := Bool.toNat_le more; omega
  rw [rndQ_more s m false (isq A) 1 more.toNat e hl hg more (by cases more <;> rfl)]
  congr 1
  omega
end Go.Proofs.Ytfbkiklopeebdaa
