/- Texts of the proof, put together. -/
import Derived.Test.YtlmcopeongkppaaDoorM1
import Derived.Laws.BitsAllLaws
import Derived.Laws.EntriesVeiled
import Derived.Shelf.Abstract
namespace Go.Proofs.YtlmcopeongkppaaDoor
set_option linter.unusedSimpArgs false
set_option linter.unusedVariables false
def fS (s : Bool) : Int := if s then 2147483648 else 9223372036854775808
def fI (s : Bool) : Int := if s then 2139095040 else 9218868437227405312
def fP (s : Bool) : Nat := if s then 23 else 52
def fL (s : Bool) : Int := if s then -149 else -1074
/-- How many bits a number has. -/
def blen (n : Nat) : Nat := if n = 0 then 0 else n.log2 + 1
theorem blen_zero : blen 0 = 0 := rfl
theorem lt_blen (n : Nat) : n < 2 ^ blen n := by
  unfold blen
  split
  · subst_vars; decide
  · exact Nat.lt_log2_self
theorem blen_le {n : Nat} (h : n ≠ 0) : 2 ^ (blen n - 1) ≤ n ∧ 1 ≤ blen n := by
  unfold blen
  rw [if_neg h]
  exact ⟨Nat.log2_self_le h, by omega⟩
theorem blen_uniq {n l : Nat} (h1 : 1 ≤ l) (h2 : 2 ^ (l - 1) ≤ n) (h3 : n < 2 ^ l) : blen n = l := by
  have n0 : n ≠ 0 := by have := Nat.two_pow_pos (l - 1); omega
  obtain ⟨a, b⟩ := blen_le n0
  have c := lt_blen n
  have d1 : l - 1 < blen n := (Nat.pow_lt_pow_iff_right (a := 2) (by decide)).1 (Nat.lt_of_le_of_lt h2 c)
  have d2 : blen n - 1 < l := (Nat.pow_lt_pow_iff_right (a := 2) (by decide)).1 (Nat.lt_of_le_of_lt a h3)
  omega
theorem blen_up {n : Nat} (h : n ≠ 0) (j t : Nat) (ht : t < 2 ^ j) : blen (n * 2 ^ j + t) = blen n + j := by
  obtain ⟨a, b⟩ := blen_le h
  have c := lt_blen n
  apply blen_uniq (by omega)
  · have : blen n + j - 1 = (blen n - 1) + j := by omega
    rw [this, Nat.pow_add]
    exact Nat.le_trans (Nat.mul_le_mul_right _ a) (Nat.le_add_right _ _)
  · rw [Nat.pow_add]
    have : (n + 1) * 2 ^ j ≤ 2 ^ blen n * 2 ^ j := Nat.mul_le_mul_right _ c
    rw [Nat.succ_mul] at this
    omega
/-- The power of 2 of the last place that is kept. -/
def lastOf (s : Bool) (n : Nat) (e : Int) : Int := max ((blen n : Int) - (fP s + 1) + e) (fL s)
/-- What is kept of n, without the last k places. -/
def quo (n : Nat) (k : Int) : Nat := if k ≤ 0 then n * 2 ^ (-k).toNat else n / 2 ^ k.toNat
/-- The bit that is half of the last place kept. -/
def half (n : Nat) (k : Int) : Bool := decide (1 ≤ k) && (n / 2 ^ (k.toNat - 1) % 2 == 1)
/-- Is there something below that bit? -/
def low (n : Nat) (k : Int) : Bool := decide (1 ≤ k) && (n % 2 ^ (k.toNat - 1) != 0)
/-- Does what is kept go one step away from 0? -/
def away (m : Int) (below odd half low : Bool) : Bool :=
  if m = 1 then (half || low) && !below else if m = 2 then (half || low) && below else if m = 3 then false else half && (low || odd)
/-- The size of what lies past the greatest finite one. -/
def great (s : Bool) (m : Int) (below : Bool) : Int := if away m below true true true then fI s else fI s - 1
/-- The size of a float, of what is kept and what is lost. -/
def fin (s : Bool) (m : Int) (below : Bool) (last : Int) (q : Nat) (h l : Bool) : Int :=
  if fI s ≤ (last - fL s) * 2 ^ fP s + ((q + if away m below (q % 2 == 1) h l then 1 else 0 : Nat) : Int) then great s m below
  else (last - fL s) * 2 ^ fP s + ((q + if away m below (q % 2 == 1) h l then 1 else 0 : Nat) : Int)
/-- The size of n times 2 to the e, rounded. -/
def mag (s : Bool) (m : Int) (below : Bool) (n : Nat) (e : Int) : Int :=
  fin s m below (lastOf s n e) (quo n (lastOf s n e - e)) (half n (lastOf s n e - e)) (low n (lastOf s n e - e))
/-- A size with its sign. -/
def sgnd (s below : Bool) (z : Int) : Int := if below then z + fS s else z
/-- n times 2 to the e, rounded. -/
def rnd (s : Bool) (m : Int) (below : Bool) (n : Nat) (e : Int) : Int := sgnd s below (if n = 0 then 0 else mag s m below n e)

theorem div_pow_add (n a b : Nat) : n * 2 ^ a / 2 ^ (a + b) = n / 2 ^ b := by
  rw [Nat.pow_add, Nat.mul_comm n, Nat.mul_div_mul_left _ _ (Nat.two_pow_pos a)]
theorem quo_scale (n j : Nat) (k : Int) : quo (n * 2 ^ j) (k + j) = quo n k := by
  unfold quo
  by_cases c1 : k ≤ 0
  · rw [if_pos c1]
    by_cases c2 : k + j ≤ 0
    · rw [if_pos c2, Nat.mul_assoc, ← Nat.pow_add]
      congr 2
      omega
    · rw [if_neg c2]
      have e : j = (k + j).toNat + (-k).toNat := by omega
      have : n * 2 ^ j = n * 2 ^ (-k).toNat * 2 ^ (k + j).toNat := by rw [Nat.mul_assoc, ← Nat.pow_add]; congr 2; omega
      rw [this, Nat.mul_div_cancel _ (Nat.two_pow_pos _)]
  · rw [if_neg c1, if_neg (by omega)]
    have : (k + j).toNat = j + k.toNat := by omega
    rw [this, div_pow_add]
theorem half_scale (n j : Nat) (k : Int) : half (n * 2 ^ j) (k + j) = half n k := by
  unfold half
  by_cases c1 : 1 ≤ k
  · rw [decide_eq_true c1, decide_eq_true (by omega : 1 ≤ k + j)]
    have : (k + j).toNat - 1 = j + (k.toNat - 1) := by omega
    rw [this, div_pow_add]
  · rw [decide_eq_false c1]
    by_cases c2 : 1 ≤ k + j
    · rw [decide_eq_true c2]
      have : n * 2 ^ j = 2 * (n * 2 ^ (j - (k + j).toNat)) * 2 ^ ((k + j).toNat - 1) := by
        have : j = (j - (k + j).toNat) + ((k + j).toNat - 1) + 1 := by omega
        conv => lhs; rw [this, Nat.pow_succ, Nat.pow_add]
        simp only [Nat.mul_comm, Nat.mul_left_comm, Nat.mul_assoc]
      rw [this, Nat.mul_div_cancel _ (Nat.two_pow_pos _), Nat.mul_mod_right]
      rfl
    · rw [decide_eq_false c2]
      rfl
theorem low_scale (n j : Nat) (k : Int) : low (n * 2 ^ j) (k + j) = low n k := by
  unfold low
  by_cases c1 : 1 ≤ k
  · rw [decide_eq_true c1, decide_eq_true (by omega : 1 ≤ k + j)]
    have : (k + j).toNat - 1 = j + (k.toNat - 1) := by omega
    rw [this, Nat.pow_add, Nat.mul_comm n, Nat.mul_mod_mul_left]
    have : 2 ^ j ≠ 0 := Nat.ne_of_gt (Nat.two_pow_pos j)
    by_cases c : n % 2 ^ (k.toNat - 1) = 0
    · rw [c]; rfl
    · rw [bne_iff_ne.2 (Nat.mul_ne_zero this c), bne_iff_ne.2 c]
  · rw [decide_eq_false c1]
    by_cases c2 : 1 ≤ k + j
    · rw [decide_eq_true c2]
      have : n * 2 ^ j = 2 ^ ((k + j).toNat - 1) * (n * 2 ^ (j - ((k + j).toNat - 1))) := by
        have : j = (j - ((k + j).toNat - 1)) + ((k + j).toNat - 1) := by omega
        conv => lhs; rw [this, Nat.pow_add]
        simp only [Nat.mul_comm, Nat.mul_left_comm, Nat.mul_assoc]
      rw [this, Nat.mul_mod_right]
      rfl
    · rw [decide_eq_false c2]
      rfl
theorem lastOf_scale (s : Bool) {n : Nat} (h : n ≠ 0) (j t : Nat) (ht : t < 2 ^ j) (e : Int) : lastOf s (n * 2 ^ j + t) (e - j) = lastOf s n e := by
  unfold lastOf
  rw [blen_up h j t ht]
  congr 1
  omega
theorem mag_scale (s : Bool) (m : Int) (b : Bool) {n : Nat} (h : n ≠ 0) (j : Nat) (e : Int) : mag s m b (n * 2 ^ j) (e - j) = mag s m b n e := by
  have a := lastOf_scale s h j 0 (Nat.two_pow_pos j) e
  rw [Nat.add_zero] at a
  unfold mag
  rw [a]
  have k : lastOf s n e - (e - j) = (lastOf s n e - e) + j := by omega
  rw [k, quo_scale, half_scale, low_scale]
theorem rnd_scale (s : Bool) (m : Int) (b : Bool) (n j : Nat) (e : Int) : rnd s m b (n * 2 ^ j) (e - j) = rnd s m b n e := by
  unfold rnd
  by_cases h : n = 0
  · subst h; simp
  · have : n * 2 ^ j ≠ 0 := Nat.mul_ne_zero h (Nat.ne_of_gt (Nat.two_pow_pos j))
    rw [if_neg h, if_neg this, mag_scale s m b h]
/-- One bit for all that is lost. -/
theorem mag_sticky (s : Bool) (m : Int) (b : Bool) {n : Nat} (h : n ≠ 0) (j t : Nat) (ht : t < 2 ^ j) (t0 : t ≠ 0) (e : Int) (hk : 1 ≤ lastOf s n e - e) :
    mag s m b (n * 2 ^ j + t) (e - j) = fin s m b (lastOf s n e) (quo n (lastOf s n e - e)) (half n (lastOf s n e - e)) true := by
  have a := lastOf_scale s h j t ht e
  unfold mag
  rw [a]
  generalize lastOf s n e = L at *
  have k : L - (e - j) = (L - e) + j := by omega
  rw [k]
  generalize L - e = K at *
  have kk : (K + j).toNat = j + K.toNat := by omega
  have k1 : (K + j).toNat - 1 = j + (K.toNat - 1) := by omega
  have d : ∀ r, (n * 2 ^ j + t) / 2 ^ (j + r) = n / 2 ^ r := fun r => by
    rw [Nat.pow_add, ← Nat.div_div_eq_div_mul, Nat.mul_comm n, Nat.mul_add_div (Nat.two_pow_pos j), Nat.div_eq_of_lt ht, Nat.add_zero]
  have q : quo (n * 2 ^ j + t) (K + j) = quo n K := by
    unfold quo
    rw [if_neg (by omega), if_neg (by omega), kk, d]
  have hf : half (n * 2 ^ j + t) (K + j) = half n K := by
    unfold half
    rw [decide_eq_true (by omega : 1 ≤ K + j), decide_eq_true hk, k1, d]
  have lw : low (n * 2 ^ j + t) (K + j) = true := by
    unfold low
    rw [decide_eq_true (by omega : 1 ≤ K + j), k1]
    have : (n * 2 ^ j + t) % 2 ^ (j + (K.toNat - 1)) ≠ 0 := by
      intro z
      have z' := Nat.mod_mod_of_dvd (n * 2 ^ j + t) (Nat.pow_dvd_pow 2 (Nat.le_add_right j (K.toNat - 1)))
      rw [z, Nat.mul_comm n, Nat.mul_add_mod, Nat.mod_eq_of_lt ht] at z'
      simp at z'
      omega
    simp [this]
  rw [q, hf, lw]
theorem rnd_sticky (s : Bool) (m : Int) (b : Bool) {n : Nat} (h : n ≠ 0) (j t j' t' : Nat) (ht : t < 2 ^ j) (t0 : t ≠ 0) (ht' : t' < 2 ^ j') (t0' : t' ≠ 0) (e : Int) (hk : 1 ≤ lastOf s n e - e) :
    rnd s m b (n * 2 ^ j + t) (e - j) = rnd s m b (n * 2 ^ j' + t') (e - j') := by
  unfold rnd
  rw [if_neg (by omega), if_neg (by omega), mag_sticky s m b h j t ht t0 e hk, mag_sticky s m b h j' t' ht' t0' e hk]
/-- Of a number of enough bits something is lost. -/
theorem last_ge (s : Bool) {n : Nat} (e : Int) (h : fP s + 2 ≤ blen n) : 1 ≤ lastOf s n e - e := by
  unfold lastOf; omega

theorem fP_le (s : Bool) : fP s ≤ 52 := by cases s <;> decide
theorem fP_ge (s : Bool) : 23 ≤ fP s := by cases s <;> decide
theorem le_blen {n l : Nat} (h : 2 ^ l ≤ n) : l + 1 ≤ blen n := by
  have : 2 ^ l < 2 ^ blen n := Nat.lt_of_le_of_lt h (lt_blen n)
  exact (Nat.pow_lt_pow_iff_right (a := 2) (by decide)).1 this
theorem blen_le_of {n l : Nat} (h : n < 2 ^ l) : blen n ≤ l := by
  by_cases c : n = 0
  · subst c; rw [blen_zero]; omega
  · obtain ⟨a, b⟩ := blen_le c
    have : 2 ^ (blen n - 1) < 2 ^ l := Nat.lt_of_le_of_lt a h
    have := (Nat.pow_lt_pow_iff_right (a := 2) (by decide)).1 this
    omega
/-- n, and a quarter, if more, times 2 to the e: rounded. -/
def rndQ (s : Bool) (m : Int) (b : Bool) (n : Nat) (e : Int) (more : Bool) : Int := rnd s m b (4 * n + more.toNat) (e - 2)
theorem rndQ_false (s : Bool) (m : Int) (b : Bool) (n : Nat) (e : Int) : rndQ s m b n e false = rnd s m b n e := by
  have := rnd_scale s m b n 2 e
  unfold rndQ
  rw [← this]
  congr 1
  simp; omega
/-- Where something is lost anyway, a bit at the end serves for all. -/
theorem rnd_odd (s : Bool) (m : Int) (b : Bool) (n : Nat) (e : Int) (h : fP s + 4 ≤ blen n) : rnd s m b (n / 2 * 2 + 1) e = rndQ s m b n e true := by
  have n0 : n ≠ 0 := by intro c; subst c; rw [blen_zero] at h; omega
  have hb : blen n = blen (n / 2) + 1 := by
    have h2 : n / 2 ≠ 0 := by
      intro c
      have : n < 2 ^ 1 := by omega
      have := blen_le_of this
      omega
    have := blen_up h2 1 (n % 2) (by omega)
    have e : n / 2 * 2 ^ 1 + n % 2 = n := by omega
    rw [e] at this
    exact this
  have hk := last_ge s (n := n / 2) (e + 1) (by omega)
  have h2 : n / 2 ≠ 0 := by intro c; rw [c, blen_zero] at hb; omega
  have t := rnd_sticky s m b h2 1 1 3 (n % 2 * 4 + 1) (by decide) (by decide) (by omega) (by omega) (e + 1) hk
  have e1 : n / 2 * 2 ^ 1 + 1 = n / 2 * 2 + 1 := by omega
  have e2 : e + 1 - ((1 : Nat) : Int) = e := by omega
  have e3 : n / 2 * 2 ^ 3 + (n % 2 * 4 + 1) = 4 * n + 1 := by omega
  have e4 : e + 1 - ((3 : Nat) : Int) = e - 2 := by omega
  rw [e1, e2, e3, e4] at t
  exact t
/-- A quotient, or a root: with all that is lost, of enough places. -/
theorem rndQ_more (s : Bool) (m : Int) (b : Bool) (q j t : Nat) (e : Int) (h : fP s + 2 ≤ blen q) (ht : t < 2 ^ j) (more : Bool) (hm : more = decide (t ≠ 0)) :
    rndQ s m b q e more = rnd s m b (q * 2 ^ j + t) (e - j) := by
  have q0 : q ≠ 0 := by intro c; subst c; rw [blen_zero] at h; omega
  by_cases c : t = 0
  · have : more = false := by rw [hm]; simp [c]
    subst this c
    rw [rndQ_false, Nat.add_zero, rnd_scale]
  · have : more = true := by rw [hm]; simp [c]
    subst this
    have k := rnd_sticky s m b q0 2 1 j t (by decide) (by decide) ht c e (last_ge s e h)
    unfold rndQ
    rw [← k]
    congr 1
    simp; omega
/-- Far apart: a sum. -/
theorem rnd_far_add (s : Bool) (m : Int) (b : Bool) (x y d : Nat) (e : Int) (hx : 2 ^ fP s ≤ x) (hy : y < 2 ^ (fP s + 1)) (hd : 70 ≤ d) :
    rnd s m b (x * 2 ^ 70 + y) (e - 70) = rnd s m b (x * 2 ^ d + y) (e - d) := by
  have x0 : x ≠ 0 := by have := Nat.two_pow_pos (fP s); omega
  by_cases c : y = 0
  · subst c
    rw [Nat.add_zero, Nat.add_zero]
    have a := rnd_scale s m b x 70 e
    have a' := rnd_scale s m b x d e
    rw [a']
    exact a
  · have hl : fP s + 2 ≤ blen (x * 2 ^ 2 + 0) := by
      rw [blen_up x0 2 0 (by decide)]
      have := le_blen hx
      omega
    rw [Nat.add_zero] at hl
    have hp : 2 ^ (fP s + 1) ≤ 2 ^ 68 := Nat.pow_le_pow_right (by decide) (by have := fP_le s; omega)
    have hp' : 2 ^ 68 ≤ 2 ^ (d - 2) := Nat.pow_le_pow_right (by decide) (by omega)
    have n0 : x * 2 ^ 2 ≠ 0 := by omega
    have t := rnd_sticky s m b n0 68 y (d - 2) y (by omega) c (by omega) c (e - 2) (last_ge s _ hl)
    have e1 : x * 2 ^ 2 * 2 ^ (d - 2) = x * 2 ^ d := by rw [Nat.mul_assoc, ← Nat.pow_add]; congr 2; omega
    have e3 : e - 2 - ((d - 2 : Nat) : Int) = e - d := by omega
    have e5 : x * 2 ^ 2 * 2 ^ 68 = x * 2 ^ 70 := by rw [Nat.mul_assoc, ← Nat.pow_add]
    have e6 : e - 2 - ((68 : Nat) : Int) = e - 70 := by omega
    rw [e1, e3, e5, e6] at t
    exact t
/-- Far apart: a difference. -/
theorem rnd_far_sub (s : Bool) (m : Int) (b : Bool) (x y d : Nat) (e : Int) (hx : 2 ^ fP s ≤ x) (hy : y < 2 ^ (fP s + 1)) (hd : 70 ≤ d) :
    rnd s m b (x * 2 ^ 70 - y) (e - 70) = rnd s m b (x * 2 ^ d - y) (e - d) := by
  have x0 : x ≠ 0 := by have := Nat.two_pow_pos (fP s); omega
  by_cases c : y = 0
  · subst c
    rw [Nat.sub_zero, Nat.sub_zero]
    have a := rnd_scale s m b x 70 e
    have a' := rnd_scale s m b x d e
    rw [a']
    exact a
  · have hx2 : 2 ^ (fP s + 1) ≤ x * 2 ^ 2 - 1 := by rw [Nat.pow_succ]; have := Nat.two_pow_pos (fP s); omega
    have hl := le_blen hx2
    have hp : 2 ^ (fP s + 1) ≤ 2 ^ 68 := Nat.pow_le_pow_right (by decide) (by have := fP_le s; omega)
    have hp' : 2 ^ 68 ≤ 2 ^ (d - 2) := Nat.pow_le_pow_right (by decide) (by omega)
    have n0 : x * 2 ^ 2 - 1 ≠ 0 := by omega
    have t := rnd_sticky s m b n0 68 (2 ^ 68 - y) (d - 2) (2 ^ (d - 2) - y) (by omega) (by omega) (by omega) (by omega) (e - 2) (last_ge s _ (by omega))
    have e1 : ∀ j, y ≤ 2 ^ j → (x * 2 ^ 2 - 1) * 2 ^ j + (2 ^ j - y) = x * 2 ^ (j + 2) - y := fun j hj => by
      rw [Nat.mul_comm (x * 2 ^ 2 - 1), Nat.mul_sub, Nat.mul_one]
      have : x * 2 ^ (j + 2) = 2 ^ j * (x * 2 ^ 2) := by rw [Nat.pow_add]; simp only [Nat.mul_comm, Nat.mul_left_comm]
      rw [this]
      have : 2 ^ j * 1 ≤ 2 ^ j * (x * 2 ^ 2) := Nat.mul_le_mul_left _ (by omega)
      omega
    have e3 : e - 2 - ((d - 2 : Nat) : Int) = e - d := by omega
    have e4 : d - 2 + 2 = d := by omega
    rw [e1 68 (by omega), e1 (d - 2) (by omega), e3, e4] at t
    rw [← t]
    congr 1
    omega
/-- The sum of two numbers, each with its sign, a whole number and a power of 2: rounded. -/
def sumT (s : Bool) (m : Int) (xb : Bool) (xw : Nat) (xe : Int) (yb : Bool) (yw : Nat) (ye : Int) : Int :=
  if xb = yb then rnd s m xb (xw * 2 ^ (xe - min xe ye).toNat + yw * 2 ^ (ye - min xe ye).toNat) (min xe ye)
  else if xw * 2 ^ (xe - min xe ye).toNat = yw * 2 ^ (ye - min xe ye).toNat then sgnd s (m == 2) 0
  else if yw * 2 ^ (ye - min xe ye).toNat < xw * 2 ^ (xe - min xe ye).toNat then rnd s m xb (xw * 2 ^ (xe - min xe ye).toNat - yw * 2 ^ (ye - min xe ye).toNat) (min xe ye)
  else rnd s m yb (yw * 2 ^ (ye - min xe ye).toNat - xw * 2 ^ (xe - min xe ye).toNat) (min xe ye)
theorem sumT_swap (s : Bool) (m : Int) (xb : Bool) (xw : Nat) (xe : Int) (yb : Bool) (yw : Nat) (ye : Int) : sumT s m xb xw xe yb yw ye = sumT s m yb yw ye xb xw xe := by
  unfold sumT
  rw [show min ye xe = min xe ye by omega]
  generalize xw * 2 ^ (xe - min xe ye).toNat = X
  generalize yw * 2 ^ (ye - min xe ye).toNat = Y
  by_cases c : xb = yb
  · subst c
    rw [if_pos rfl, if_pos rfl, Nat.add_comm]
  · rw [if_neg c, if_neg (fun h : yb = xb => c h.symm)]
    by_cases d : X = Y
    · rw [if_pos d, if_pos d.symm]
    · rw [if_neg d, if_neg (fun h : Y = X => d h.symm)]
      by_cases g : Y < X
      · rw [if_pos g, if_neg (by omega)]
      · rw [if_neg g, if_pos (by omega)]
theorem rnd_zero (s : Bool) (m : Int) (b : Bool) (e : Int) : rnd s m b 0 e = sgnd s b 0 := by unfold rnd; rw [if_pos rfl]
/-- How far the lower one is raised. -/
def raised (xe ye : Int) : Int := max ye (xe - 70)
theorem raised_ge (xe ye : Int) (h : ye ≤ xe) : 0 ≤ xe - raised xe ye ∧ xe - raised xe ye ≤ 70 := by unfold raised; omega
theorem far_or (xe ye : Int) (h : ye ≤ xe) : raised xe ye = ye ∨ raised xe ye = xe - 70 ∧ 70 < xe - ye := by unfold raised; omega
theorem sum_same (s : Bool) (m : Int) (b : Bool) (xw yw : Nat) (xe ye : Int) (h : ye ≤ xe) (hx : fL s < xe → 2 ^ fP s ≤ xw) (hy : yw < 2 ^ (fP s + 1)) (hl : fL s ≤ ye) :
    rnd s m b (xw * 2 ^ (xe - raised xe ye).toNat + yw) (raised xe ye) = sumT s m b xw xe b yw ye := by
  unfold sumT
  rw [if_pos rfl, show min xe ye = ye by omega, show (ye - ye).toNat = 0 by omega, Nat.pow_zero, Nat.mul_one]
  rcases far_or xe ye h with c | ⟨c, d⟩
  · rw [c]
  · rw [c, show (xe - (xe - 70)).toNat = 70 by omega, rnd_far_add s m b xw yw (xe - ye).toNat xe (hx (by omega)) hy (by omega)]
    congr 1
    omega
theorem far_above (s : Bool) (x y d : Nat) (hx : 2 ^ fP s ≤ x) (hy : y < 2 ^ (fP s + 1)) (hd : 1 ≤ d) : y < x * 2 ^ d := by
  have : 2 ^ (fP s + 1) ≤ x * 2 ^ d := by
    rw [Nat.pow_succ]
    exact Nat.mul_le_mul hx (Nat.le_trans (by decide) (Nat.pow_le_pow_right (by decide) hd : 2 ^ 1 ≤ 2 ^ d))
  omega
theorem sum_more (s : Bool) (m : Int) (xb yb : Bool) (xw yw : Nat) (xe ye : Int) (hb : xb ≠ yb) (h : ye ≤ xe) (hx : fL s < xe → 2 ^ fP s ≤ xw) (hy : yw < 2 ^ (fP s + 1)) (hl : fL s ≤ ye)
    (g : yw < xw * 2 ^ (xe - raised xe ye).toNat) :
    rnd s m xb (xw * 2 ^ (xe - raised xe ye).toNat - yw) (raised xe ye) = sumT s m xb xw xe yb yw ye := by
  unfold sumT
  rw [if_neg hb, show min xe ye = ye by omega, show (ye - ye).toNat = 0 by omega, Nat.pow_zero, Nat.mul_one]
  rcases far_or xe ye h with c | ⟨c, d⟩
  · rw [c] at g ⊢
    rw [if_neg (by omega), if_pos g]
  · rw [c] at g ⊢
    have q := far_above s xw yw (xe - ye).toNat (hx (by omega)) hy (by omega)
    rw [if_neg (by omega), if_pos q]
    rw [show (xe - (xe - 70)).toNat = 70 by omega, rnd_far_sub s m xb xw yw (xe - ye).toNat xe (hx (by omega)) hy (by omega)]
    congr 1
    omega
theorem sum_gone (s : Bool) (m : Int) (xb yb : Bool) (xw yw : Nat) (xe ye e : Int) (hb : xb ≠ yb) (h : ye ≤ xe) (hx : fL s < xe → 2 ^ fP s ≤ xw) (hy : yw < 2 ^ (fP s + 1)) (hl : fL s ≤ ye)
    (g : yw = xw * 2 ^ (xe - raised xe ye).toNat) :
    rnd s m (m == 2) 0 e = sumT s m xb xw xe yb yw ye := by
  rw [rnd_zero]
  unfold sumT
  rw [if_neg hb, show min xe ye = ye by omega, show (ye - ye).toNat = 0 by omega, Nat.pow_zero, Nat.mul_one]
  rcases far_or xe ye h with c | ⟨c, d⟩
  · rw [c] at g
    rw [if_pos g.symm]
  · rw [c, show (xe - (xe - 70)).toNat = 70 by omega] at g
    have q := far_above s xw yw 70 (hx (by omega)) hy (by omega)
    omega
theorem sum_less (s : Bool) (m : Int) (xb yb : Bool) (xw yw : Nat) (xe ye : Int) (hb : xb ≠ yb) (h : ye ≤ xe) (hx : fL s < xe → 2 ^ fP s ≤ xw) (hy : yw < 2 ^ (fP s + 1)) (hl : fL s ≤ ye)
    (g : xw * 2 ^ (xe - raised xe ye).toNat < yw) :
    rnd s m yb (yw - xw * 2 ^ (xe - raised xe ye).toNat) (raised xe ye) = sumT s m xb xw xe yb yw ye := by
  unfold sumT
  rw [if_neg hb, show min xe ye = ye by omega, show (ye - ye).toNat = 0 by omega, Nat.pow_zero, Nat.mul_one]
  rcases far_or xe ye h with c | ⟨c, d⟩
  · rw [c] at g ⊢
    rw [if_neg (by omega), if_neg (by omega)]
  · rw [c, show (xe - (xe - 70)).toNat = 70 by omega] at g
    have q := far_above s xw yw 70 (hx (by omega)) hy (by omega)
    omega
/-- The quotient of two numbers, rounded. -/
def divT (s : Bool) (m : Int) (b : Bool) (xw : Nat) (xe : Int) (yw : Nat) (ye : Int) : Int :=
  rnd s m b (2 * (xw * 2 ^ 130 / yw) + (decide (xw * 2 ^ 130 % yw ≠ 0)).toNat) (xe - ye - 131)
theorem div_fits (s : Bool) (m : Int) (b : Bool) (xw yw up : Nat) (xe ye : Int) (more : Bool) (y0 : yw ≠ 0) (hy : yw < 2 ^ 53) (hu : up ≤ 128) (hx : 2 ^ 127 ≤ xw * 2 ^ up)
    (hm : more = decide (xw * 2 ^ up % yw ≠ 0)) : rndQ s m b (xw * 2 ^ up / yw) (xe - up - ye) more = divT s m b xw xe yw ye := by
  have y1 : 0 < yw := by omega
  have big : 2 ^ 74 ≤ xw * 2 ^ up / yw := by
    rw [Nat.le_div_iff_mul_le y1]
    have : 2 ^ 74 * yw ≤ 2 ^ 74 * 2 ^ 53 := Nat.mul_le_mul_left _ (by omega)
    omega
  have hl : fP s + 2 ≤ blen (xw * 2 ^ up / yw) := by have := le_blen big; have := fP_le s; omega
  have hd : xw * 2 ^ 130 = xw * 2 ^ up * 2 ^ (130 - up) := by rw [Nat.mul_assoc, ← Nat.pow_add]; congr 2; omega
  have h2 := Nat.two_pow_pos (130 - up)
  unfold divT
  rw [hd]
  generalize xw * 2 ^ up = A at *
  have dm := Nat.div_add_mod A yw
  have lt := Nat.mod_lt A y1
  generalize A / yw = Q at *
  generalize A % yw = R at *
  generalize hP : 2 ^ (130 - up) = P at *
  have e1 : A * P = yw * (Q * P) + R * P := by rw [← dm, Nat.add_mul, Nat.mul_assoc]
  have e2 : A * P / yw = Q * P + R * P / yw := by rw [e1, Nat.mul_add_div y1]
  have e3 : A * P % yw = R * P % yw := by rw [e1, Nat.mul_add_mod]
  have lt2 : R * P / yw < P := by
    rw [Nat.div_lt_iff_lt_mul y1, Nat.mul_comm P]
    exact Nat.mul_lt_mul_of_pos_right lt h2
  rw [e2, e3]
  have ht : 2 * (R * P / yw) + (decide (R * P % yw ≠ 0)).toNat < 2 ^ (131 - up) := by
    rw [show 131 - up = (130 - up) + 1 by omega, Nat.pow_succ, hP]
    have : (decide (R * P % yw ≠ 0)).toNat ≤ 1 := Bool.toNat_le _
    omega
  have hm2 : more = decide (2 * (R * P / yw) + (decide (R * P % yw ≠ 0)).toNat ≠ 0) := by
    rw [hm, decide_eq_decide]
    have k := Nat.div_add_mod (R * P) yw
    constructor
    · intro r0 z
      have z1 : R * P / yw = 0 := by omega
      have z2 : R * P % yw = 0 := by
        by_cases c : R * P % yw = 0
        · exact c
        · rw [decide_eq_true c] at z; simp at z
      rw [z1, z2] at k
      have : R * P = 0 := by omega
      rcases Nat.mul_eq_zero.1 this with h | h <;> omega
    · intro z r0
      subst r0
      simp at z
  rw [rndQ_more s m b Q (131 - up) _ _ hl ht more hm2]
  congr 1
  · rw [show 131 - up = (130 - up) + 1 by omega, Nat.pow_succ, hP, Nat.mul_add, ← Nat.add_assoc]
    congr 2
    rw [Nat.mul_comm 2, Nat.mul_assoc]
  · omega
/-- The root of a whole number. -/
def isq (n : Nat) : Nat := if h : n = 0 then 0 else
  if (2 * isq (n / 4) + 1) * (2 * isq (n / 4) + 1) ≤ n then 2 * isq (n / 4) + 1 else 2 * isq (n / 4)
  termination_by n
  decreasing_by all_goals omega
theorem isq_spec (n : Nat) : isq n * isq n ≤ n ∧ n < (isq n + 1) * (isq n + 1) := by
  induction n using Nat.strongRecOn with
  | _ n ih =>
    rw [isq]
    by_cases h : n = 0
    · subst h; simp
    · rw [dif_neg h]
      obtain ⟨a, b⟩ := ih (n / 4) (by omega)
      generalize isq (n / 4) = r at *
      have e1 : (2 * r) * (2 * r) = 4 * (r * r) := by rw [Nat.mul_mul_mul_comm]
      have e2 : (2 * r + 1 + 1) * (2 * r + 1 + 1) = 4 * ((r + 1) * (r + 1)) := by rw [show 2 * r + 1 + 1 = 2 * (r + 1) by omega, Nat.mul_mul_mul_comm]
      split
      · exact ⟨by assumption, by omega⟩
      · exact ⟨by omega, by omega⟩
theorem isq_uniq {n r : Nat} (h1 : r * r ≤ n) (h2 : n < (r + 1) * (r + 1)) : r = isq n := by
  obtain ⟨a, b⟩ := isq_spec n
  have c1 : r < isq n + 1 := Nat.mul_self_lt_mul_self_iff.1 (Nat.lt_of_le_of_lt h1 b)
  have c2 : isq n < r + 1 := Nat.mul_self_lt_mul_self_iff.1 (Nat.lt_of_le_of_lt a h2)
  omega
/-- How far a number is moved up ahead of its root. -/
def rootUp (xw : Nat) (xe : Int) : Nat := if (xe - (126 - blen xw : Nat)) % 2 = 0 then 126 - blen xw else 126 - blen xw + 1
/-- The root of a number, rounded. -/
def sqrtT (s : Bool) (m : Int) (xw : Nat) (xe : Int) : Int :=
  rnd s m false (2 * isq (xw * 2 ^ rootUp xw xe) + (decide (xw * 2 ^ rootUp xw xe - isq (xw * 2 ^ rootUp xw xe) * isq (xw * 2 ^ rootUp xw xe) ≠ 0)).toNat) ((xe - rootUp xw xe) / 2 - 1)
theorem root_fits (s : Bool) (m : Int) (A : Nat) (e : Int) (more : Bool) (hA : 2 ^ 125 ≤ A) (hm : more = decide (A - isq A * isq A ≠ 0)) :
    rndQ s m false (isq A) e more = rnd s m false (2 * isq A + (decide (A - isq A * isq A ≠ 0)).toNat) (e - 1) := by
  obtain ⟨a, b⟩ := isq_spec A
  have big : 2 ^ 62 ≤ isq A := by
    by_cases c : 2 ^ 62 ≤ isq A
    · exact c
    · have : (isq A + 1) * (isq A + 1) ≤ 2 ^ 62 * 2 ^ 62 := Nat.mul_le_mul (by omega) (by omega)
      omega
  have hl : fP s + 2 ≤ blen (isq A) := by have := le_blen big; have := fP_le s; omega
  generalize decide (A - isq A * isq A ≠ 0) = g at *
  subst hm
  have hg : more.toNat < 2 ^ 1 := by have := Bool.toNat_le more; omega
  rw [rndQ_more s m false (isq A) 1 more.toNat e hl hg more (by cases more <;> rfl)]
  congr 1
  omega
end Go.Proofs.YtlmcopeongkppaaDoor
namespace Go.Proofs.YtlmcopeongkppaaDoor
open Go.RowKit
set_option linter.unusedVariables false
set_option linter.unusedSimpArgs false
/-- A format's numbers and masks: Single or not. -/
def fmtV : Bool → Value
  | true => .agg #[.int .i64 32, .int .i64 23, .int .i64 (-149), .int .u64 2147483648, .int .u64 2139095040]
  | false => .agg #[.int .i64 64, .int .i64 52, .int .i64 (-1074), .int .u64 9223372036854775808, .int .u64 9218868437227405312]
def fmtO : Bool → Obj
  | true => .cells #[.int .i64 32, .int .i64 23, .int .i64 (-149), .int .u64 2147483648, .int .u64 2139095040] 75
  | false => .cells #[.int .i64 64, .int .i64 52, .int .i64 (-1074), .int .u64 9223372036854775808, .int .u64 9218868437227405312] 75
def fNan (s : Bool) : Int := if s then 2143289344 else 9221120237041090560
/-- The bits without the sign. -/
def zOf (s : Bool) (a : Int) : Int := bits BinOp.andNot IntKind.u64 a (fS s)
/-- Is it none of a Single? -/
def wideB (s : Bool) (a : Int) : Bool := s && decide (4294967296 ≤ a)
/-- The class. -/
def cls (s : Bool) (a : Int) : Int :=
  if wideB s a then 0 else if fI s < zOf s a then 5 else if zOf s a = fI s then 4 else if zOf s a = 0 then 1 else if zOf s a / 2 ^ fP s = 0 then 2 else 3
theorem zOf_word (s : Bool) (a : Int) (h : Word a) : Word (zOf s a) := by
  obtain ⟨x, rfl⟩ := Int.eq_ofNat_of_zero_le h.1
  have hx := h.2
  have e : ∃ b : Nat, fS s = (b : Int) ∧ b < 18446744073709551616 := by
    cases s
    · exact ⟨9223372036854775808, rfl, by decide⟩
    · exact ⟨2147483648, rfl, by decide⟩
  obtain ⟨b, e1, e2⟩ := e
  unfold zOf
  rw [e1, u64_andNot_nat x b (by omega) e2]
  have l := Nat.and_le_left (n := x) (m := 18446744073709551615 - b)
  exact ⟨by omega, by omega⟩
theorem zOf_double (a : Int) (h : Word a) : zOf false a = a % 9223372036854775808 := by
  obtain ⟨x, rfl⟩ := Int.eq_ofNat_of_zero_le h.1
  have hx := h.2
  have t := u64_andNot_nat x 9223372036854775808 (by omega) (by decide)
  have e : x &&& (18446744073709551615 - 9223372036854775808) = x % 9223372036854775808 := Nat.and_two_pow_sub_one_eq_mod x 63
  rw [e] at t
  show bits BinOp.andNot IntKind.u64 (x : Int) 9223372036854775808 = _
  exact t.trans (by omega)
theorem zOf_single (a : Int) (h : 0 ≤ a) (h' : a < 4294967296) : zOf true a = a % 2147483648 := by
  obtain ⟨x, rfl⟩ := Int.eq_ofNat_of_zero_le h
  have t := u64_andNot_nat x 2147483648 (by omega) (by decide)
  have e : x &&& (18446744073709551615 - 2147483648) = x % 2147483648 := by
    have l := Nat.and_le_left (n := x) (m := 18446744073709551615 - 2147483648)
    have m := Nat.and_mod_two_pow (a := x) (b := 18446744073709551615 - 2147483648) (n := 32)
    rw [Nat.mod_eq_of_lt (a := x &&& (18446744073709551615 - 2147483648)) (by omega), Nat.mod_eq_of_lt (a := x) (by omega)] at m
    rw [m]
    exact Nat.and_two_pow_sub_one_eq_mod x 31
  rw [e] at t
  show bits BinOp.andNot IntKind.u64 (x : Int) 2147483648 = _
  exact t.trans (by omega)

set_option maxHeartbeats 800000 in
theorem formatOf_any (f : Int) (w : World) :
    Calls Tryd.prog 41 #[.int .i64 f] w fun e w' => e = .returned (fmtV (f == 1)) ∧ Below w.heap.size w w' := by
  by_cases c : f = 1
  · subst c
    go_enter Tryd.func41, Tryd.ntmps41
    go_wp2_with fail
    go_region
    go_wp2_with fail
    exact bodyPost_ret (v := fmtV true) (by simp [results, Tryd.results41, go_sem, fmtV]) rfl ⟨rfl, (below_two _ _ _).drew⟩
  · have c' : (f == 1) = false := by simp [c]
    rw [c']
    go_enter Tryd.func41, Tryd.ntmps41
    go_wp2_with fail
    go_region
    go_wp2_with fail
    exact bodyPost_ret (v := fmtV false) (by simp [results, Tryd.results41, go_sem, fmtV]) rfl ⟨rfl, (below_two _ _ _).drew⟩

theorem i64_eq {a b : Int} (h : a = b) : Ending.returned (Value.int IntKind.i64 a) = .returned (.int .i64 b) := by rw [h]
set_option maxHeartbeats 1600000 in
theorem class_any (s : Bool) (a : Int) (h : Word a) (w : World) :
    Calls Tryd.prog 46 #[fmtV s, .int .u64 a] w fun e w' => e = .returned (.int .i64 (cls s a)) ∧ w' = w.alloc (fmtO s) := by
  obtain ⟨a0, a1⟩ := id h
  obtain ⟨z0, z1⟩ := zOf_word s a h
  have hz : ∃ z, zOf s a = z := ⟨_, rfl⟩
  obtain ⟨z, hz⟩ := hz
  have hc : ∃ k, cls s a = k := ⟨_, rfl⟩
  obtain ⟨k, hc⟩ := hc
  rw [hz] at z0 z1
  rw [hc]
  unfold cls wideB at hc
  rw [hz] at hc
  cases s
  · have hq : bits BinOp.andNot IntKind.u64 a 9223372036854775808 = z := hz
    have hw : (a / 18446744073709551616 != 0) = false := by simp; omega
    simp only [Bool.false_and, Bool.false_eq_true, if_false, fI, fP] at hc
    have HC : Hid _ := hc
    clear hc hz
    unfold fmtV
    by_cases c1 : 9218868437227405312 < z
    · have hk := HC.out
      simp [c1] at hk
      have HK : Hid _ := hk
      clear hk
      go_enter Tryd.func46, Tryd.ntmps46
      go_wp2_with fail
      go_ret
      exact ⟨i64_eq HK.out, rfl⟩
    · by_cases c2 : z = 9218868437227405312
      · have hk := HC.out
        simp [c1, c2] at hk
        have HK : Hid _ := hk
        clear hk
        go_enter Tryd.func46, Tryd.ntmps46
        go_wp2_with fail
        go_ret
        exact ⟨i64_eq HK.out, rfl⟩
      · by_cases c3 : z = 0
        · have hk := HC.out
          simp [c1, c2, c3] at hk
          have HK : Hid _ := hk
          clear hk
          go_enter Tryd.func46, Tryd.ntmps46
          go_wp2_with fail
          go_ret
          exact ⟨i64_eq HK.out, rfl⟩
        · by_cases c4 : z / 4503599627370496 = 0
          · have hk := HC.out
            simp [c1, c2, c3, c4] at hk
            have HK : Hid _ := hk
            clear hk
            go_enter Tryd.func46, Tryd.ntmps46
            go_wp2_with fail
            go_ret
            exact ⟨i64_eq HK.out, rfl⟩
          · have hk := HC.out
            simp [c1, c2, c3, c4] at hk
            have HK : Hid _ := hk
            clear hk
            go_enter Tryd.func46, Tryd.ntmps46
            go_wp2_with fail
            go_ret
            exact ⟨i64_eq HK.out, rfl⟩
  · have hq : bits BinOp.andNot IntKind.u64 a 2147483648 = z := hz
    simp only [Bool.true_and, decide_eq_true_iff, if_true, fI, fP] at hc
    have HC : Hid _ := hc
    clear hc hz
    unfold fmtV
    by_cases c0 : 4294967296 ≤ a
    · have hw : (a / 4294967296 != 0) = true := by simp; omega
      have hk := HC.out
      simp [c0] at hk
      have HK : Hid _ := hk
      clear hk
      go_enter Tryd.func46, Tryd.ntmps46
      go_wp2_with fail
      go_ret
      exact ⟨i64_eq HK.out, rfl⟩
    · have hw : (a / 4294967296 != 0) = false := by simp; omega
      by_cases c1 : 2139095040 < z
      · have hk := HC.out
        simp [c0, c1] at hk
        have HK : Hid _ := hk
        clear hk
        go_enter Tryd.func46, Tryd.ntmps46
        go_wp2_with fail
        go_ret
        exact ⟨i64_eq HK.out, rfl⟩
      · by_cases c2 : z = 2139095040
        · have hk := HC.out
          simp [c0, c1, c2] at hk
          have HK : Hid _ := hk
          clear hk
          go_enter Tryd.func46, Tryd.ntmps46
          go_wp2_with fail
          go_ret
          exact ⟨i64_eq HK.out, rfl⟩
        · by_cases c3 : z = 0
          · have hk := HC.out
            simp [c0, c1, c2, c3] at hk
            have HK : Hid _ := hk
            clear hk
            go_enter Tryd.func46, Tryd.ntmps46
            go_wp2_with fail
            go_ret
            exact ⟨i64_eq HK.out, rfl⟩
          · by_cases c4 : z / 8388608 = 0
            · have hk := HC.out
              simp [c0, c1, c2, c3, c4] at hk
              have HK : Hid _ := hk
              clear hk
              go_enter Tryd.func46, Tryd.ntmps46
              go_wp2_with fail
              go_ret
              exact ⟨i64_eq HK.out, rfl⟩
            · have hk := HC.out
              simp [c0, c1, c2, c3, c4] at hk
              have HK : Hid _ := hk
              clear hk
              go_enter Tryd.func46, Tryd.ntmps46
              go_wp2_with fail
              go_ret
              exact ⟨i64_eq HK.out, rfl⟩
end Go.Proofs.YtlmcopeongkppaaDoor

namespace Go.Proofs.YtlmcopeongkppaaDoor
set_option linter.unusedVariables false
set_option linter.unusedSimpArgs false
/-- What a size is worth, in the least steps. -/
def val (s : Bool) (z : Nat) : Nat := if z / 2 ^ fP s = 0 then z else (z % 2 ^ fP s + 2 ^ fP s) * 2 ^ (z / 2 ^ fP s - 1)
theorem val_at (s : Bool) (x q : Nat) (h : q ≤ 2 ^ (fP s + 1)) (h0 : x = 0 ∨ 2 ^ fP s ≤ q) : val s (x * 2 ^ fP s + q) = q * 2 ^ x := by
  unfold val
  have hp := Nat.two_pow_pos (fP s)
  rw [Nat.pow_succ] at h
  generalize hQ : 2 ^ fP s = Q at *
  by_cases c : q < Q
  · have : x = 0 := by omega
    subst this
    rw [Nat.zero_mul, Nat.zero_add, Nat.div_eq_of_lt c, if_pos rfl]
    omega
  · by_cases d : q < 2 * Q
    · have e : x * Q + q = (q - Q) + Q * (x + 1) := by rw [Nat.mul_add, Nat.mul_comm Q]; omega
      rw [e, Nat.add_mul_div_left _ _ hp, Nat.div_eq_of_lt (by omega), Nat.add_mul_mod_self_left, Nat.mod_eq_of_lt (by omega), if_neg (by omega)]
      congr 1
      · omega
      · congr 1; omega
    · have e : x * Q + q = 0 + Q * (x + 2) := by rw [Nat.mul_add, Nat.mul_comm Q]; omega
      rw [e, Nat.add_mul_div_left _ _ hp, Nat.zero_div, Nat.add_mul_mod_self_left, Nat.zero_mod, if_neg (by omega), Nat.zero_add]
      rw [show 0 + (x + 2) - 1 = x + 1 by omega, Nat.pow_succ, show q = Q * 2 by omega, Nat.mul_assoc]
      congr 1
      rw [Nat.mul_comm]
theorem val_parts (s : Bool) (z : Nat) : ∃ x q, z = x * 2 ^ fP s + q ∧ q < 2 ^ (fP s + 1) ∧ (x = 0 ∨ 2 ^ fP s ≤ q) := by
  have hp := Nat.two_pow_pos (fP s)
  rw [Nat.pow_succ]
  generalize 2 ^ fP s = Q at *
  have dm := Nat.div_add_mod z Q
  have lt := Nat.mod_lt z hp
  by_cases c : z < Q
  · exact ⟨0, z, by omega, by omega, Or.inl rfl⟩
  · have : 0 < z / Q := Nat.div_pos (by omega) hp
    refine ⟨z / Q - 1, z % Q + Q, ?_, by omega, Or.inr (by omega)⟩
    have : z / Q * Q = (z / Q - 1) * Q + Q := by rw [← Nat.succ_mul]; congr 1; omega
    rw [Nat.mul_comm] at dm
    omega
theorem val_succ (s : Bool) (z : Nat) : val s z < val s (z + 1) := by
  obtain ⟨x, q, e, h, h0⟩ := val_parts s z
  rw [e, val_at s x q (by omega) h0, Nat.add_assoc, val_at s x (q + 1) (by omega) (by omega)]
  exact Nat.mul_lt_mul_of_pos_right (by omega) (Nat.two_pow_pos x)
theorem val_lt (s : Bool) {y z : Nat} (h : y < z) : val s y < val s z := by
  induction z with
  | zero => omega
  | succ z ih =>
    by_cases c : y = z
    · subst c; exact val_succ s y
    · exact Nat.lt_trans (ih (by omega)) (val_succ s z)
theorem val_le (s : Bool) {y z : Nat} (h : y ≤ z) : val s y ≤ val s z := by
  by_cases c : y = z
  · subst c; exact Nat.le_refl _
  · exact Nat.le_of_lt (val_lt s (by omega))
theorem lt_of_val (s : Bool) {y z : Nat} (h : val s y < val s z) : y < z := by
  by_cases c : y < z
  · exact c
  · have := val_le s (Nat.le_of_not_lt c); omega
theorem le_of_val (s : Bool) {y z : Nat} (h : val s y ≤ val s z) : y ≤ z := by
  by_cases c : y ≤ z
  · exact c
  · have := val_lt s (Nat.lt_of_not_le c); omega
theorem val_zero (s : Bool) : val s 0 = 0 := by unfold val; rw [Nat.zero_div, if_pos rfl]
/-- What is kept, and what it is worth. -/
theorem kept (s : Bool) {n : Nat} (h : n ≠ 0) (e E : Int) (h1 : E ≤ e) (h2 : E ≤ fL s) :
    ∃ x : Nat, lastOf s n e - fL s = x ∧ quo n (lastOf s n e - e) < 2 ^ (fP s + 1) ∧ (x = 0 ∨ 2 ^ fP s ≤ quo n (lastOf s n e - e)) ∧
      quo n (lastOf s n e - e) * 2 ^ (x + (fL s - E).toNat) ≤ n * 2 ^ (e - E).toNat ∧ n * 2 ^ (e - E).toNat < (quo n (lastOf s n e - e) + 1) * 2 ^ (x + (fL s - E).toNat) ∧
      ((half n (lastOf s n e - e) || low n (lastOf s n e - e)) = false → n * 2 ^ (e - E).toNat = quo n (lastOf s n e - e) * 2 ^ (x + (fL s - E).toNat)) := by
  have hl : fL s ≤ lastOf s n e := by unfold lastOf; omega
  have hl2 : (blen n : Int) - (fP s + 1) + e ≤ lastOf s n e := by unfold lastOf; omega
  have hl3 : lastOf s n e = fL s ∨ lastOf s n e = (blen n : Int) - (fP s + 1) + e := by unfold lastOf; omega
  obtain ⟨b1, b2⟩ := blen_le h
  have b3 := lt_blen n
  generalize lastOf s n e = L at *
  refine ⟨(L - fL s).toNat, by omega, ?_⟩
  have ex : (L - fL s).toNat + (fL s - E).toNat = (L - E).toNat := by omega
  rw [ex]
  by_cases c : L - e ≤ 0
  · have q : quo n (L - e) = n * 2 ^ (e - L).toNat := by unfold quo; rw [if_pos c]; congr 2; omega
    have ee : n * 2 ^ (e - L).toNat * 2 ^ (L - E).toNat = n * 2 ^ (e - E).toNat := by rw [Nat.mul_assoc, ← Nat.pow_add]; congr 2; omega
    rw [q]
    refine ⟨?_, ?_, ?_, ?_, ?_⟩
    · have : n * 2 ^ (e - L).toNat < 2 ^ blen n * 2 ^ (e - L).toNat := Nat.mul_lt_mul_of_pos_right b3 (Nat.two_pow_pos _)
      rw [← Nat.pow_add] at this
      exact Nat.lt_of_lt_of_le this (Nat.pow_le_pow_right (by decide) (by omega))
    · rcases hl3 with g | g
      · left; omega
      · right
        have : 2 ^ (blen n - 1) * 2 ^ (e - L).toNat ≤ n * 2 ^ (e - L).toNat := Nat.mul_le_mul_right _ b1
        rw [← Nat.pow_add] at this
        exact Nat.le_trans (Nat.pow_le_pow_right (by decide) (by omega)) this
    · omega
    · rw [Nat.add_mul, ee]; have := Nat.two_pow_pos (L - E).toNat; omega
    · intro _; exact ee.symm
  · have q : quo n (L - e) = n / 2 ^ (L - e).toNat := by unfold quo; rw [if_neg c]
    have hp := Nat.two_pow_pos (L - e).toNat
    have dm := Nat.div_add_mod n (2 ^ (L - e).toNat)
    have lt := Nat.mod_lt n hp
    have ee : 2 ^ (L - E).toNat = 2 ^ (L - e).toNat * 2 ^ (e - E).toNat := by rw [← Nat.pow_add]; congr 1; omega
    have p2 := Nat.two_pow_pos (e - E).toNat
    rw [q]
    refine ⟨?_, ?_, ?_, ?_, ?_⟩
    · rw [Nat.div_lt_iff_lt_mul hp, ← Nat.pow_add]
      exact Nat.lt_of_lt_of_le b3 (Nat.pow_le_pow_right (by decide) (by omega))
    · rcases hl3 with g | g
      · left; omega
      · right
        rw [Nat.le_div_iff_mul_le hp, ← Nat.pow_add]
        exact Nat.le_trans (Nat.pow_le_pow_right (by decide) (by omega)) b1
    · rw [ee, ← Nat.mul_assoc]
      exact Nat.mul_le_mul_right _ (by rw [Nat.mul_comm]; omega)
    · rw [ee, ← Nat.mul_assoc]
      exact Nat.mul_lt_mul_of_pos_right (by rw [Nat.add_mul, Nat.mul_comm]; omega) p2
    · intro ho
      rw [ee, ← Nat.mul_assoc]
      congr 1
      have k1 : 1 ≤ L - e := by omega
      unfold half low at ho
      rw [decide_eq_true k1] at ho
      have kk : (L - e).toNat = ((L - e).toNat - 1) + 1 := by omega
      generalize (L - e).toNat - 1 = j at *
      rw [kk, Nat.pow_succ] at dm ⊢
      simp only [Bool.true_and, Bool.or_eq_false_iff, beq_eq_false_iff_ne, bne_eq_false_iff_eq, ne_eq] at ho
      obtain ⟨o1, o2⟩ := ho
      have t1 := Nat.div_add_mod n (2 ^ j)
      rw [o2] at t1
      have t2 : n / (2 ^ j * 2) = n / 2 ^ j / 2 := (Nat.div_div_eq_div_mul _ _ _).symm
      rw [t2]
      generalize n / 2 ^ j = y at *
      have t3 : y = 2 * (y / 2) := by omega
      have : n = 2 ^ j * y := by omega
      rw [this]
      conv => lhs; rw [t3]
      simp only [Nat.mul_comm, Nat.mul_left_comm, Nat.mul_assoc]
theorem fI_nat (s : Bool) : ∃ i : Nat, fI s = i ∧ 0 < i ∧ (i : Int) < fS s := by
  cases s
  · exact ⟨9218868437227405312, rfl, by decide, by decide⟩
  · exact ⟨2139095040, rfl, by decide, by decide⟩
/-- Never away from 0: what is told is not above. -/
theorem mag_down (s : Bool) (m : Int) (b : Bool) (hm : ∀ o h l, away m b o h l = false) {n : Nat} (h : n ≠ 0) (e E : Int) (h1 : E ≤ e) (h2 : E ≤ fL s) :
    ∃ z : Nat, mag s m b n e = z ∧ (z : Int) < fI s ∧ val s z * 2 ^ (fL s - E).toNat ≤ n * 2 ^ (e - E).toNat := by
  obtain ⟨x, ex, q1, q2, q3, q4, q5⟩ := kept s h e E h1 h2
  obtain ⟨i, ei, i0, _⟩ := fI_nat s
  unfold mag fin great
  rw [ex, ei, hm, hm]
  generalize quo n (lastOf s n e - e) = q at *
  have v := val_at s x q (by omega) q2
  have le : val s (x * 2 ^ fP s + q) * 2 ^ (fL s - E).toNat ≤ n * 2 ^ (e - E).toNat := by rw [v, Nat.mul_assoc, ← Nat.pow_add]; exact q3
  have cast : (x : Int) * 2 ^ fP s + ((q + if false = true then 1 else 0 : Nat) : Int) = ((x * 2 ^ fP s + q : Nat) : Int) := by simp
  rw [cast]
  generalize x * 2 ^ fP s + q = z at *
  by_cases c : (i : Int) ≤ (z : Int)
  · rw [if_pos c, if_neg (by decide)]
    refine ⟨i - 1, by omega, by omega, Nat.le_trans (Nat.mul_le_mul_right _ (val_le s (by omega))) le⟩
  · rw [if_neg c]
    exact ⟨z, rfl, by omega, le⟩
/-- Always away from 0: what is told is not below. -/
theorem mag_up (s : Bool) (m : Int) (b : Bool) (hm : ∀ o h l, away m b o h l = (h || l)) {n : Nat} (h : n ≠ 0) (e E : Int) (h1 : E ≤ e) (h2 : E ≤ fL s) :
    ∃ z : Nat, mag s m b n e = z ∧ (z : Int) ≤ fI s ∧ ((z : Int) = fI s ∨ n * 2 ^ (e - E).toNat ≤ val s z * 2 ^ (fL s - E).toNat) := by
  obtain ⟨x, ex, q1, q2, q3, q4, q5⟩ := kept s h e E h1 h2
  obtain ⟨i, ei, i0, _⟩ := fI_nat s
  unfold mag fin great
  rw [ex, ei, hm, hm]
  generalize quo n (lastOf s n e - e) = q at *
  generalize (half n (lastOf s n e - e) || low n (lastOf s n e - e)) = g at *
  have v := val_at s x q (by omega) q2
  have v1 := val_at s x (q + 1) (by omega) (by omega)
  have le : n * 2 ^ (e - E).toNat ≤ val s (x * 2 ^ fP s + (q + if g = true then 1 else 0)) * 2 ^ (fL s - E).toNat := by
    cases g
    · simp only [Bool.false_eq_true, if_false, Nat.add_zero]
      rw [v, Nat.mul_assoc, ← Nat.pow_add, q5 rfl]
      exact Nat.le_refl _
    · simp only [if_true]
      rw [v1, Nat.mul_assoc, ← Nat.pow_add]
      exact Nat.le_of_lt q4
  generalize (q + if g = true then 1 else 0) = Y at *
  have cast : (x : Int) * 2 ^ fP s + (Y : Int) = ((x * 2 ^ fP s + Y : Nat) : Int) := by rw [Int.natCast_add, Int.natCast_mul]; simp
  rw [cast]
  generalize x * 2 ^ fP s + Y = z at *
  by_cases c : (i : Int) ≤ (z : Int)
  · rw [if_pos c, if_pos (by decide)]
    exact ⟨i, rfl, by omega, Or.inl rfl⟩
  · rw [if_neg c]
    exact ⟨z, rfl, by omega, Or.inr le⟩
/-- All sizes are at most the infinite one's. -/
theorem mag_any (s : Bool) (m : Int) (b : Bool) {n : Nat} (h : n ≠ 0) (e : Int) : ∃ z : Nat, mag s m b n e = z ∧ (z : Int) ≤ fI s := by
  obtain ⟨x, ex, _⟩ := kept s h e (min e (fL s)) (by omega) (by omega)
  obtain ⟨i, ei, i0, _⟩ := fI_nat s
  unfold mag fin great
  rw [ex, ei]
  generalize (quo n (lastOf s n e - e) + if away m b (quo n (lastOf s n e - e) % 2 == 1) (half n (lastOf s n e - e)) (low n (lastOf s n e - e)) = true then 1 else 0) = Y
  have cast : (x : Int) * 2 ^ fP s + (Y : Int) = ((x * 2 ^ fP s + Y : Nat) : Int) := by rw [Int.natCast_add, Int.natCast_mul]; simp
  rw [cast]
  generalize x * 2 ^ fP s + Y = z
  by_cases c : (i : Int) ≤ (z : Int)
  · rw [if_pos c]
    split
    · exact ⟨i, rfl, by omega⟩
    · exact ⟨i - 1, by omega, by omega⟩
  · rw [if_neg c]; exact ⟨z, rfl, by omega⟩
theorem away_none (m : Int) (b o : Bool) : away m b o false false = false := by unfold away; split <;> (try split) <;> (try split) <;> rfl
/-- What is a float already stays itself. -/
theorem mag_exact (s : Bool) (m : Int) (b : Bool) (x q : Nat) (q0 : q ≠ 0) (h : q < 2 ^ (fP s + 1)) (h0 : x = 0 ∨ 2 ^ fP s ≤ q) (hi : ((x * 2 ^ fP s + q : Nat) : Int) < fI s) :
    mag s m b q (fL s + x) = ((x * 2 ^ fP s + q : Nat) : Int) := by
  have hl : lastOf s q (fL s + x) = fL s + x := by
    unfold lastOf
    have c1 := blen_le_of h
    rcases h0 with g | g
    · omega
    · have := le_blen g; omega
  unfold mag fin
  rw [hl]
  have k : fL s + (x : Int) - (fL s + x) = 0 := by omega
  rw [k]
  have a1 : quo q 0 = q := by unfold quo; rw [if_pos (by decide)]; simp
  have a2 : half q 0 = false := rfl
  have a3 : low q 0 = false := rfl
  rw [a1, a2, a3, away_none]
  have cast : (fL s + (x : Int) - fL s) * 2 ^ fP s + ((q + if false = true then 1 else 0 : Nat) : Int) = ((x * 2 ^ fP s + q : Nat) : Int) := by
    have : fL s + (x : Int) - fL s = x := by omega
    rw [this]; simp
  rw [cast, if_neg (by omega)]
theorem away_mirror (b o h l : Bool) : away 1 b o h l = away 2 (!b) o h l := by cases b <;> cases o <;> cases h <;> cases l <;> rfl
/-- Up is, with the other sign, Down. -/
theorem mag_mirror (s b : Bool) (n : Nat) (e : Int) : mag s 1 b n e = mag s 2 (!b) n e := by
  unfold mag fin great
  simp only [away_mirror]
/-- By all modes: one size, or two that are neighbours. -/
theorem mag_modes (s b : Bool) {n : Nat} (h : n ≠ 0) (e : Int) :
    ∃ d u : Nat, d ≤ u ∧ u ≤ d + 1 ∧ (u : Int) ≤ fI s ∧ (d : Int) < fI s ∧ mag s 3 b n e = d ∧ mag s (if b then 1 else 2) b n e = d ∧ mag s (if b then 2 else 1) b n e = u ∧ (mag s 0 b n e = d ∨ mag s 0 b n e = u) := by
  obtain ⟨x, ex, _⟩ := kept s h e (min e (fL s)) (by omega) (by omega)
  obtain ⟨i, ei, i0, _⟩ := fI_nat s
  unfold mag fin great
  rw [ex, ei]
  generalize quo n (lastOf s n e - e) = q
  generalize half n (lastOf s n e - e) = g
  generalize low n (lastOf s n e - e) = l
  have cast : ∀ Y : Nat, (x : Int) * 2 ^ fP s + (Y : Int) = ((x * 2 ^ fP s + Y : Nat) : Int) := fun Y => by rw [Int.natCast_add, Int.natCast_mul]; simp
  simp only [cast]
  generalize x * 2 ^ fP s = B
  have a3 : ∀ o h l, away 3 b o h l = false := fun o h l => rfl
  have ad : ∀ o h l, away (if b then 1 else 2) b o h l = false := fun o h l => by cases b <;> cases o <;> cases h <;> cases l <;> rfl
  have au : ∀ o h l, away (if b then 2 else 1) b o h l = (h || l) := fun o h l => by cases b <;> cases o <;> cases h <;> cases l <;> rfl
  have an : ∀ o h l, away 0 b o h l = (h && (l || o)) := fun o h l => rfl
  simp only [a3, ad, au, an, Bool.false_eq_true, if_false, Bool.or_true, Bool.and_true, if_true, Nat.add_zero]
  have hn : (g && (l || q % 2 == 1)) = true → (g || l) = true := by cases g <;> cases l <;> simp
  generalize (g && (l || q % 2 == 1)) = N at *
  generalize (g || l) = I at *
  by_cases c : (i : Int) ≤ ((B + q : Nat) : Int)
  · have c1 : ∀ t : Nat, (i : Int) ≤ ((B + (q + t) : Nat) : Int) := fun t => by omega
    simp only [if_pos c, if_pos (c1 _)]
    exact ⟨i - 1, i, by omega, by omega, by omega, by omega, by omega, by omega, rfl, Or.inr rfl⟩
  · simp only [if_neg c]
    cases I
    · have : N = false := by cases N; rfl; exact absurd (hn rfl) (by decide)
      subst this
      simp only [Bool.false_eq_true, if_false, Nat.add_zero, if_neg c]
      exact ⟨B + q, B + q, by omega, by omega, by omega, by omega, rfl, rfl, rfl, Or.inl rfl⟩
    · simp only [if_true]
      refine ⟨B + q, B + q + 1, by omega, by omega, by omega, by omega, rfl, rfl, ?_, ?_⟩
      · split <;> omega
      · cases N
        · simp only [Bool.false_eq_true, if_false, Nat.add_zero, if_neg c]; exact Or.inl trivial
        · simp only [if_true]; right; split <;> omega
end Go.Proofs.YtlmcopeongkppaaDoor
namespace Go.Proofs.YtlmcopeongkppaaDoor
open Go.RowKit
set_option linter.unusedVariables false
set_option linter.unusedSimpArgs false
/-- Has it a sign? -/
def sgn (s : Bool) (a : Int) : Bool := bits BinOp.and IntKind.u64 a (fS s) != 0
/-- Its whole number, and the power of 2. -/
def whl (s : Bool) (a : Int) : Int := if 0 < zOf s a / 2 ^ fP s then a % 2 ^ fP s + 2 ^ fP s else a % 2 ^ fP s
def pwr (s : Bool) (a : Int) : Int := if 0 < zOf s a / 2 ^ fP s then fL s + (zOf s a / 2 ^ fP s - 1) else fL s
/-- A float taken apart. -/
def prtV (s : Bool) (a : Int) : Value := .agg #[.int .i64 (cls s a), .bool (sgn s a), .int .u64 (whl s a), .int .i64 (pwr s a)]

theorem and_lowD (a : Int) (h : Word a) : bits BinOp.and IntKind.u64 a 4503599627370495 = a % 4503599627370496 := by
  obtain ⟨x, rfl⟩ := Int.eq_ofNat_of_zero_le h.1
  have hx := h.2
  have t := u64_and_nat x 4503599627370495 (by omega) (by decide)
  have e : x &&& 4503599627370495 = x % 4503599627370496 := Nat.and_two_pow_sub_one_eq_mod x 52
  rw [e] at t
  exact t.trans (by omega)
theorem or_topD (r : Int) (h0 : 0 ≤ r) (h : r < 4503599627370496) : bits BinOp.or IntKind.u64 r 4503599627370496 = r + 4503599627370496 := by
  obtain ⟨x, rfl⟩ := Int.eq_ofNat_of_zero_le h0
  have t := u64_or_nat x 4503599627370496 (by omega) (by decide)
  have e : x ||| 4503599627370496 = x + 4503599627370496 := by
    have k := Nat.two_pow_add_eq_or_of_lt (i := 52) (b := x) (by omega) 1
    rw [Nat.mul_one] at k
    rw [Nat.or_comm, ← show 2 ^ 52 = 4503599627370496 by decide, ← k, Nat.add_comm]
  rw [e] at t
  exact t.trans (by omega)

theorem and_lowS (a : Int) (h : Word a) : bits BinOp.and IntKind.u64 a 8388607 = a % 8388608 := by
  obtain ⟨x, rfl⟩ := Int.eq_ofNat_of_zero_le h.1
  have hx := h.2
  have t := u64_and_nat x 8388607 (by omega) (by decide)
  have e : x &&& 8388607 = x % 8388608 := Nat.and_two_pow_sub_one_eq_mod x 23
  rw [e] at t
  exact t.trans (by omega)
theorem or_topS (r : Int) (h0 : 0 ≤ r) (h : r < 8388608) : bits BinOp.or IntKind.u64 r 8388608 = r + 8388608 := by
  obtain ⟨x, rfl⟩ := Int.eq_ofNat_of_zero_le h0
  have t := u64_or_nat x 8388608 (by omega) (by decide)
  have e : x ||| 8388608 = x + 8388608 := by
    have k := Nat.two_pow_add_eq_or_of_lt (i := 23) (b := x) (by omega) 1
    rw [Nat.mul_one] at k
    rw [Nat.or_comm, ← show 2 ^ 23 = 8388608 by decide, ← k, Nat.add_comm]
  rw [e] at t
  exact t.trans (by omega)
end Go.Proofs.YtlmcopeongkppaaDoor

namespace Go.Proofs.YtlmcopeongkppaaDoor
open Go.RowKit
set_option linter.unusedVariables false
set_option linter.unusedSimpArgs false
def prt (k : Int) (g : Bool) (u p : Int) : Value := .agg #[.int .i64 k, .bool g, .int .u64 u, .int .i64 p]
theorem prtV_eq (s : Bool) (a : Int) : prtV s a = prt (cls s a) (sgn s a) (whl s a) (pwr s a) := rfl
theorem or_nanD : bits BinOp.or IntKind.u64 9218868437227405312 2251799813685248 = 9221120237041090560 := by rfl
theorem or_nanS : bits BinOp.or IntKind.u64 2139095040 4194304 = 2143289344 := by rfl
theorem nan_any (s : Bool) (w : World) : Calls Tryd.prog 47 #[fmtV s] w fun e w' => e = .returned (.int .u64 (fNan s)) ∧ Below w.heap.size w w' := by
  have o1 := or_nanD
  have o2 := or_nanS
  cases s
  · unfold fmtV
    go_enter Tryd.func47, Tryd.ntmps47
    go_wp2_with fail
    go_region
    go_wp2_with fail
    go_ret
    exact ⟨rfl, ((Below.refl _ _).alloc (Nat.le_refl _) _).drew⟩
  · unfold fmtV
    go_enter Tryd.func47, Tryd.ntmps47
    go_wp2_with fail
    go_region
    go_wp2_with fail
    go_ret
    exact ⟨rfl, ((Below.refl _ _).alloc (Nat.le_refl _) _).drew⟩
theorem most_any (s : Bool) (w : World) : Calls Tryd.prog 55 #[fmtV s] w fun e w' => e = .returned (.int .u64 (fI s - 1)) ∧ w' = w.alloc (fmtO s) := by
  cases s
  · unfold fmtV fmtO
    go_enter Tryd.func55, Tryd.ntmps55
    go_wp2_with fail
    go_ret
    exact ⟨rfl, rfl⟩
  · unfold fmtV fmtO
    go_enter Tryd.func55, Tryd.ntmps55
    go_wp2_with fail
    go_ret
    exact ⟨rfl, rfl⟩
theorem or_signD (z : Int) (h0 : 0 ≤ z) (h : z < 9223372036854775808) : bits BinOp.or IntKind.u64 z 9223372036854775808 = z + 9223372036854775808 := by
  obtain ⟨x, rfl⟩ := Int.eq_ofNat_of_zero_le h0
  have t := u64_or_nat x 9223372036854775808 (by omega) (by decide)
  have e : x ||| 9223372036854775808 = x + 9223372036854775808 := by
    have k := Nat.two_pow_add_eq_or_of_lt (i := 63) (b := x) (by omega) 1
    rw [Nat.mul_one] at k
    rw [Nat.or_comm, ← show 2 ^ 63 = 9223372036854775808 by decide, ← k, Nat.add_comm]
  rw [e] at t
  exact t.trans (by omega)
theorem or_signS (z : Int) (h0 : 0 ≤ z) (h : z < 2147483648) : bits BinOp.or IntKind.u64 z 2147483648 = z + 2147483648 := by
  obtain ⟨x, rfl⟩ := Int.eq_ofNat_of_zero_le h0
  have t := u64_or_nat x 2147483648 (by omega) (by decide)
  have e : x ||| 2147483648 = x + 2147483648 := by
    have k := Nat.two_pow_add_eq_or_of_lt (i := 31) (b := x) (by omega) 1
    rw [Nat.mul_one] at k
    rw [Nat.or_comm, ← show 2 ^ 31 = 2147483648 by decide, ← k, Nat.add_comm]
  rw [e] at t
  exact t.trans (by omega)
theorem signed_any (s b : Bool) (z : Int) (h0 : 0 ≤ z) (h : z ≤ fI s) (w : World) :
    Calls Tryd.prog 43 #[fmtV s, .bool b, .int .u64 z] w fun e w' => e = .returned (.int .u64 (sgnd s b z)) ∧ w' = w.alloc (fmtO s) := by
  cases s <;> cases b
  · unfold fmtV fmtO
    go_enter Tryd.func43, Tryd.ntmps43
    go_wp2_with fail
    go_ret
    exact ⟨rfl, rfl⟩
  · have o := or_signD z h0 (by unfold fI at h; simp at h; omega)
    have v : sgnd false true z = z + 9223372036854775808 := rfl
    rw [v]
    unfold fmtV fmtO
    go_enter Tryd.func43, Tryd.ntmps43
    go_wp2_with fail
    go_ret
    exact ⟨rfl, rfl⟩
  · unfold fmtV fmtO
    go_enter Tryd.func43, Tryd.ntmps43
    go_wp2_with fail
    go_ret
    exact ⟨rfl, rfl⟩
  · have o := or_signS z h0 (by unfold fI at h; simp at h; omega)
    have v : sgnd true true z = z + 2147483648 := rfl
    rw [v]
    unfold fmtV fmtO
    go_enter Tryd.func43, Tryd.ntmps43
    go_wp2_with fail
    go_ret
    exact ⟨rfl, rfl⟩
end Go.Proofs.YtlmcopeongkppaaDoor

namespace Go.Proofs.YtlmcopeongkppaaDoor
open Go.RowKit
set_option linter.unusedVariables false
set_option linter.unusedSimpArgs false
def awF (m : Int) : Nat := if m = 1 then 59 else if m = 2 then 60 else if m = 3 then 61 else 62
def rdV (m : Int) : Value := .agg #[.func (.func (awF m)) #[] #[]]
def rdO (m : Int) : Obj := .cells #[.func (.func (awF m)) #[] #[]] 83
theorem roundingOf_any (m : Int) (w : World) : Calls Tryd.prog 45 #[.int .i64 m] w fun e w' => e = .returned (rdV m) ∧ w' = w.alloc (rdO m) := by
  unfold rdV rdO awF
  by_cases c1 : m = 1
  · subst c1
    go_enter Tryd.func45, Tryd.ntmps45
    go_wp2_with fail
    exact bodyPost_ret (v := .agg #[.func (.func 59) #[] #[]]) (by simp [results, Tryd.results45, go_sem]) rfl ⟨rfl, rfl⟩
  · by_cases c2 : m = 2
    · subst c2
      go_enter Tryd.func45, Tryd.ntmps45
      go_wp2_with fail
      exact bodyPost_ret (v := .agg #[.func (.func 60) #[] #[]]) (by simp [results, Tryd.results45, go_sem]) rfl ⟨rfl, rfl⟩
    · by_cases c3 : m = 3
      · subst c3
        go_enter Tryd.func45, Tryd.ntmps45
        go_wp2_with fail
        exact bodyPost_ret (v := .agg #[.func (.func 61) #[] #[]]) (by simp [results, Tryd.results45, go_sem]) rfl ⟨rfl, rfl⟩
      · rw [if_neg c1, if_neg c2, if_neg c3]
        go_enter Tryd.func45, Tryd.ntmps45
        go_wp2_with fail
        exact bodyPost_ret (v := .agg #[.func (.func 62) #[] #[]]) (by simp [results, Tryd.results45, go_sem]) rfl ⟨rfl, rfl⟩
/-- What is lost, as the program counts it. -/
def rc (h l : Bool) : Int := if h then (if l then 3 else 2) else (if l then 1 else 0)
theorem away_any (m : Int) (b o h l : Bool) (w : World) : Calls Tryd.prog (awF m) #[.bool b, .bool o, .int .i64 (rc h l)] w fun e w' => e = .returned (.bool (away m b o h l)) ∧ w' = w := by
  unfold awF away
  by_cases c1 : m = 1
  · rw [if_pos c1, if_pos c1]
    cases b <;> cases h <;> cases l
    all_goals (unfold rc; simp only [if_true, if_false, Bool.false_eq_true])
    all_goals (go_enter Tryd.func59, Tryd.ntmps59; go_wp2_with fail; go_ret; exact ⟨rfl, rfl⟩)
  · rw [if_neg c1, if_neg c1]
    by_cases c2 : m = 2
    · rw [if_pos c2, if_pos c2]
      cases b <;> cases h <;> cases l
      all_goals (unfold rc; simp only [if_true, if_false, Bool.false_eq_true])
      all_goals (go_enter Tryd.func60, Tryd.ntmps60; go_wp2_with fail; go_ret; exact ⟨rfl, rfl⟩)
    · rw [if_neg c2, if_neg c2]
      by_cases c3 : m = 3
      · rw [if_pos c3, if_pos c3]
        go_enter Tryd.func61, Tryd.ntmps61; go_wp2_with fail; go_ret; exact ⟨rfl, rfl⟩
      · rw [if_neg c3, if_neg c3]
        cases o <;> cases h <;> cases l
        all_goals (unfold rc; simp only [if_true, if_false, Bool.false_eq_true])
        all_goals (go_enter Tryd.func62, Tryd.ntmps62; go_wp2_with fail; go_ret; exact ⟨rfl, rfl⟩)
theorem awF_enters (m : Int) : ∀ args w, (callFunc (awF m) args).run Tryd.prog w = .ok (.enter (awF m) args) w := by
  unfold awF
  by_cases c1 : m = 1
  · rw [if_pos c1]; exact enters_of Tryd.func59 (by kernel_rfl) rfl
  · rw [if_neg c1]
    by_cases c2 : m = 2
    · rw [if_pos c2]; exact enters_of Tryd.func60 (by kernel_rfl) rfl
    · rw [if_neg c2]
      by_cases c3 : m = 3
      · rw [if_pos c3]; exact enters_of Tryd.func61 (by kernel_rfl) rfl
      · rw [if_neg c3]; exact enters_of Tryd.func62 (by kernel_rfl) rfl
theorem tooGreat_any (s : Bool) (m : Int) (b : Bool) (w : World) : Calls Tryd.prog 57 #[fmtV s, rdV m, .bool b] w fun e w' => e = .returned (.int .u64 (great s m b)) ∧ Below w.heap.size w w' := by
  have ha := away_any m b true true true
  have hE := awF_enters m
  unfold great
  generalize away m b true true true = r at *
  have r3 : rc true true = 3 := rfl
  rw [r3] at ha
  unfold rdV
  generalize awF m = F at *
  cases s <;> cases r
  all_goals unfold fmtV
  · go_enter Tryd.func57, Tryd.ntmps57
    go_wp2_with (first | (go_at_fn F; refine (ha _).mono ?_; rintro e w1 ⟨rfl, rfl⟩) | (go_at_call 55; refine (most_any false _).mono ?_; rintro e w1 ⟨rfl, rfl⟩))
    go_ret
    exact ⟨rfl, below_three _ _ _ _⟩
  · go_enter Tryd.func57, Tryd.ntmps57
    go_wp2_with (go_at_fn F; refine (ha _).mono ?_; rintro e w1 ⟨rfl, rfl⟩)
    go_ret
    exact ⟨rfl, below_two _ _ _⟩
  · go_enter Tryd.func57, Tryd.ntmps57
    go_wp2_with (first | (go_at_fn F; refine (ha _).mono ?_; rintro e w1 ⟨rfl, rfl⟩) | (go_at_call 55; refine (most_any true _).mono ?_; rintro e w1 ⟨rfl, rfl⟩))
    go_ret
    exact ⟨rfl, below_three _ _ _ _⟩
  · go_enter Tryd.func57, Tryd.ntmps57
    go_wp2_with (go_at_fn F; refine (ha _).mono ?_; rintro e w1 ⟨rfl, rfl⟩)
    go_ret
    exact ⟨rfl, below_two _ _ _⟩
/-- The number of two words, as a whole number. -/
def nn (h l : Int) : Nat := (num h l).toNat
theorem nn_num {h l : Int} (a : Word h) (b : Word l) : (nn h l : Int) = num h l := by have := num_lo a b; unfold nn; omega
theorem pow_cast (k : Nat) : (2 : Int) ^ k = ((2 ^ k : Nat) : Int) := by simp
theorem isLen_blen {n h l : Int} (a : Word h) (b : Word l) (i : IsLen n (num h l)) : n = (blen (nn h l) : Int) := by
  obtain ⟨i0, i1, i2, i3, i4⟩ := i
  rw [← nn_num a b] at i2 i3 i4
  generalize nn h l = N at *
  obtain ⟨k, rfl⟩ := Int.eq_ofNat_of_zero_le i0
  rw [pow_cast, Int.toNat_natCast] at i2 i3
  by_cases c : N = 0
  · rw [c, blen_zero]; exact i4 (by omega)
  · have k1 : 1 ≤ k := by
      rcases Nat.eq_zero_or_pos k with z | z
      · subst z; simp at i2; omega
      · exact z
    have p : 2 ^ k = 2 ^ (k - 1) * 2 := by rw [← Nat.pow_succ]; congr 1; omega
    have : blen N = k := blen_uniq k1 (by omega) (by omega)
    rw [this]
/-- A number below a word lies in the lower one. -/
theorem low_word {h l : Int} (a : Word h) (b : Word l) (c : num h l < 18446744073709551616) : h = 0 ∧ l = num h l := by unfold num Word at *; omega
theorem shl_low (ah al h l k : Int) (w1 : Word ah) (w2 : Word al) (w3 : Word h) (w4 : Word l) (k0 : k ≤ 0) (E : num h l = num ah al * 2 ^ (-k).toNat % 340282366920938463463374607431768211456)
    (f : quo (nn ah al) k < 18446744073709551616) : l = (quo (nn ah al) k : Int) := by
  unfold quo at *
  rw [if_pos k0] at *
  rw [← nn_num w1 w2, pow_cast, ← Int.natCast_mul] at E
  generalize nn ah al * 2 ^ (-k).toNat = V at *
  have := low_word w3 w4 (by omega)
  omega
theorem half_low_none (n : Nat) (k : Int) (h : k ≤ 0) : half n k = false ∧ low n k = false := by
  unfold half low
  rw [decide_eq_false (by omega : ¬ 1 ≤ k)]
  exact ⟨rfl, rfl⟩
theorem shr_parts (ah al dh dl kh kl k : Int) (lost hb : Bool) (w1 : Word ah) (w2 : Word al) (w3 : Word dh) (w4 : Word dl) (w5 : Word kh) (w6 : Word kl) (k0 : 1 ≤ k)
    (E1 : num dh dl = num ah al / 2 ^ (k - 1).toNat) (E2 : lost = decide (¬ num ah al % 2 ^ (k - 1).toNat = 0)) (E3 : num kh kl = num dh dl / 2 ^ Int.toNat 1) (E4 : hb = decide (¬ num dh dl % 2 ^ Int.toNat 1 = 0))
    (f : quo (nn ah al) k < 18446744073709551616) : kl = (quo (nn ah al) k : Int) ∧ hb = half (nn ah al) k ∧ lost = low (nn ah al) k := by
  have t : Int.toNat 1 = 1 := rfl
  rw [t] at E3 E4
  have d := nn_num w3 w4
  unfold quo half low at *
  rw [if_neg (by omega)] at *
  rw [decide_eq_true k0, Bool.true_and, Bool.true_and]
  have kk : (k - 1).toNat = k.toNat - 1 := by omega
  have k1 : k.toNat = (k.toNat - 1) + 1 := by omega
  rw [kk, ← nn_num w1 w2, pow_cast, ← Int.natCast_ediv] at E1
  rw [kk, ← nn_num w1 w2, pow_cast, ← Int.natCast_emod] at E2
  rw [E1] at E3 E4
  have q : nn ah al / 2 ^ k.toNat = nn ah al / 2 ^ (k.toNat - 1) / 2 := by
    conv => lhs; rw [k1, Nat.pow_succ]
    exact (Nat.div_div_eq_div_mul _ _ _).symm
  rw [q] at f ⊢
  generalize nn ah al / 2 ^ (k.toNat - 1) = D at *
  generalize nn ah al % 2 ^ (k.toNat - 1) = R at *
  refine ⟨?_, ?_, ?_⟩
  · have := low_word w5 w6 (by omega)
    omega
  · rw [E4, Bool.eq_iff_iff, decide_eq_true_iff, beq_iff_eq]; omega
  · rw [E2, Bool.eq_iff_iff, decide_eq_true_iff, bne_iff_ne]; omega
theorem len_ex (ah al : Int) (h1 : Word ah) (h2 : Word al) (w : World) :
    Calls Tryd.prog 21 #[.agg #[.int .u64 ah, .int .u64 al]] w fun e w' => e = .returned (.int .i64 (blen (nn ah al) : Int)) ∧ w' = w.alloc (.cells #[.int .u64 ah, .int .u64 al] 50) := by
  by_cases h0 : ah = 0
  · subst h0
    obtain ⟨i, _⟩ := isLen_low al h2
    have I : Hid _ := isLen_blen word_zero h2 i
    clear i
    go_enter Tryd.func21, Tryd.ntmps21
    go_wp2_with (go_at_call 39; refine (len64 al h2 _).mono ?_; rintro e w' ⟨rfl, rfl⟩)
    go_ret
    exact ⟨i64_eq I.out, rfl⟩
  · have i := isLen_high ah al h1 h2 h0
    have I : Hid _ := isLen_blen h1 h2 i
    clear i
    have b := (isLen_low ah h1).2
    have b0 : 0 ≤ (Lib.bitLen ah.toNat : Int) := Int.natCast_nonneg _
    go_enter Tryd.func21, Tryd.ntmps21
    go_wp2_with (go_at_call 39; refine (len64 ah h1 _).mono ?_; rintro e w' ⟨rfl, rfl⟩)
    go_ret
    exact ⟨i64_eq I.out, rfl⟩
theorem blen_128 {h l : Int} (a : Word h) (b : Word l) : blen (nn h l) ≤ 128 := by
  have e := nn_num a b
  have := num_hi a b
  exact blen_le_of (by omega)
theorem field_lo (h l : Int) (w : World) : (Instr.field 50 (.agg #[.int .u64 h, .int .u64 l]) 1).run Tryd.prog w = .ok (.int .u64 l) w := by kernel_rfl
set_option maxRecDepth 5000 in
set_option maxHeartbeats 800000 in
theorem cut_any (ah al k : Int) (h1 : Word ah) (h2 : Word al) (k0 : -100 ≤ k) (k1 : k ≤ 10000) (f : quo (nn ah al) k < 18446744073709551616) (w : World) :
    Calls Tryd.prog 58 #[.agg #[.int .u64 ah, .int .u64 al], .int .i64 k] w fun e w' =>
      e = .returned (.tuple #[.int .u64 (quo (nn ah al) k), .int .i64 (rc (half (nn ah al) k) (low (nn ah al) k))]) ∧ Below w.heap.size w w' := by
  have hfl := field_lo
  by_cases c : k ≤ 0
  · obtain ⟨g1, g2⟩ := half_low_none (nn ah al) k c
    rw [g1, g2]
    have hs := shl_any ah al (-k) h1 h2 (by omega) (by omega)
    have hl := fun h l w3 w4 E => shl_low ah al h l k h1 h2 w3 w4 c E f
    generalize quo (nn ah al) k = q at *
    have HL : Hid _ := hl
    have b := (Below.refl w.heap.size w).alloc (Nat.le_refl _) (.cells #[.int .u64 ah, .int .u64 al] 50)
    clear g1 g2 f hl
    go_enter Tryd.func58, Tryd.ntmps58
    go_wp2_with fail
    refine (hs _).mono ?_
    rintro e w1 ⟨h, l, rfl, w3, w4, E, hb1⟩
    have LL : Hid _ := HL.out h l w3 w4 E.out
    clear E HL
    replace b := below_call b hb1
    clear hs hb1
    go_wp2_with fail
    exact bodyPost_ret (v := .tuple #[.int .u64 l, .int .i64 0]) (by simp [results, Tryd.results58, go_sem]) rfl ⟨by rw [LL.out]; rfl, b⟩
  · have hs := shr_any ah al (k - 1) h1 h2 (by omega) (by omega)
    have hp := fun dh dl kh kl lost hb w3 w4 w5 w6 => shr_parts ah al dh dl kh kl k lost hb h1 h2 w3 w4 w5 w6 (by omega)
    generalize quo (nn ah al) k = q at *
    generalize half (nn ah al) k = g at *
    generalize low (nn ah al) k = l0 at *
    have HP : Hid _ := hp
    clear hp
    have b := (Below.refl w.heap.size w).alloc (Nat.le_refl _) (.cells #[.int .u64 ah, .int .u64 al] 50)
    go_enter Tryd.func58, Tryd.ntmps58
    go_wp2_with fail
    refine (hs _).mono ?_
    rintro e w1 ⟨dh, dl, lost, rfl, w3, w4, E1, E2, hb1⟩
    replace b := below_call b hb1
    go_wp2_with fail
    refine (shr_any dh dl 1 w3 w4 (by decide) (by decide) _).mono ?_
    rintro e w2 ⟨kh, kl, hf, rfl, w5, w6, E3, E4, hb2⟩
    replace b := below_call (below_new b _) hb2
    obtain ⟨rfl, rfl, rfl⟩ := HP.out dh dl kh kl lost hf w3 w4 w5 w6 E1.out E2.out E3.out E4.out f
    clear E1 E2 E3 E4 HP hs
    cases hf <;> cases lost
    all_goals go_wp2_with fail
    · exact bodyPost_ret (v := .tuple #[.int .u64 q, .int .i64 0]) (by simp [results, Tryd.results58, go_sem]) rfl ⟨rfl, below_new b _⟩
    · exact bodyPost_ret (v := .tuple #[.int .u64 q, .int .i64 1]) (by simp [results, Tryd.results58, go_sem]) rfl ⟨rfl, below_new b _⟩
    · exact bodyPost_ret (v := .tuple #[.int .u64 q, .int .i64 2]) (by simp [results, Tryd.results58, go_sem]) rfl ⟨rfl, below_new b _⟩
    · exact bodyPost_ret (v := .tuple #[.int .u64 q, .int .i64 3]) (by simp [results, Tryd.results58, go_sem]) rfl ⟨rfl, below_new b _⟩
theorem or_odd (x : Int) (h : Word x) : bits BinOp.or IntKind.u64 x 1 = x / 2 * 2 + 1 := by
  obtain ⟨n, rfl⟩ := Int.eq_ofNat_of_zero_le h.1
  have hx := h.2
  have t := u64_or_nat n 1 (by omega) (by decide)
  have e : n ||| 1 = n / 2 * 2 + 1 := by
    apply Nat.eq_of_testBit_eq
    intro i
    rw [Nat.testBit_or]
    cases i with
    | zero => simp
    | succ i =>
      rw [Nat.testBit_succ, Nat.testBit_succ, Nat.testBit_succ, show (n / 2 * 2 + 1) / 2 = n / 2 by omega]
      simp
  rw [e] at t
  exact t.trans (by omega)
theorem odd_word {x : Int} (h : Word x) : Word (x / 2 * 2 + 1) := by unfold Word at *; omega
theorem odd_num {h l : Int} (a : Word h) (b : Word l) : nn h (l / 2 * 2 + 1) = nn h l / 2 * 2 + 1 := by
  have e1 := nn_num a b
  have e2 := nn_num a (odd_word b)
  unfold num at *
  omega
theorem quarter_great {ah al : Int} (a : Word ah) (b : Word al) (c : 126 < blen (nn ah al)) (s : Bool) (m : Int) (bl : Bool) (e : Int) :
    rnd s m bl (nn ah (al / 2 * 2 + 1)) e = rndQ s m bl (nn ah al) e true := by
  rw [odd_num a b]
  exact rnd_odd s m bl (nn ah al) e (by have := fP_le s; omega)
theorem quarter_small {ah al h l : Int} (a : Word ah) (b : Word al) (c : blen (nn ah al) ≤ 126) (w3 : Word h) (w4 : Word l)
    (E : num h l = num ah al * 2 ^ Int.toNat 2 % 340282366920938463463374607431768211456) : nn h (l / 2 * 2 + 1) = 4 * nn ah al + 1 := by
  have lt := lt_blen (nn ah al)
  have p : 2 ^ blen (nn ah al) ≤ 2 ^ 126 := Nat.pow_le_pow_right (by decide) c
  have t : (2 : Int) ^ Int.toNat 2 = 4 := rfl
  rw [t, ← nn_num a b, ← nn_num w3 w4] at E
  rw [odd_num w3 w4]
  omega
end Go.Proofs.YtlmcopeongkppaaDoor

namespace Go.Proofs.YtlmcopeongkppaaDoor
open Go.RowKit
set_option linter.unusedVariables false
set_option linter.unusedSimpArgs false
theorem set2_in {w : World} {b : Nat} {u v : Value} (x y : Value) (c0 : w.cell? ⟨b, 0, none⟩ = some u) (c1 : w.cell? ⟨b, 1, none⟩ = some v) :
    ((w.setCell ⟨b, 0, none⟩ x).setCell ⟨b, 1, none⟩ y).cell? ⟨b, 0, none⟩ = some x ∧ ((w.setCell ⟨b, 0, none⟩ x).setCell ⟨b, 1, none⟩ y).cell? ⟨b, 1, none⟩ = some y :=
  ⟨(World.cell?_setCell_other _ _ _ _ (by simp)).trans (World.cell?_setCell_same _ _ _ c0), World.cell?_setCell_same _ _ _ ((World.cell?_setCell_other _ _ _ _ (by simp)).trans c1)⟩
theorem set2_out {w : World} {b c o : Nat} {u : Value} (x y : Value) (h : b ≠ c) (c0 : w.cell? ⟨c, o, none⟩ = some u) (f : w.frozen? ⟨c, o, none⟩ = false) :
    ((w.setCell ⟨b, 0, none⟩ x).setCell ⟨b, 1, none⟩ y).cell? ⟨c, o, none⟩ = some u ∧ ((w.setCell ⟨b, 0, none⟩ x).setCell ⟨b, 1, none⟩ y).frozen? ⟨c, o, none⟩ = false :=
  ⟨(World.cell?_setCell_other _ _ _ _ (by simp [h])).trans ((World.cell?_setCell_other _ _ _ _ (by simp [h])).trans c0), by simp [f]⟩
set_option maxRecDepth 5000 in
set_option maxHeartbeats 800000 in
theorem withQuarter_any (ah al e0 : Int) (h1 : Word ah) (h2 : Word al) (e1 : -4000 ≤ e0) (e2 : e0 ≤ 4000) (w : World) :
    Calls Tryd.prog 42 #[.agg #[.int .u64 ah, .int .u64 al], .int .i64 e0] w fun e w' =>
      ∃ h l x : Int, e = .returned (.tuple #[.agg #[.int .u64 h, .int .u64 l], .int .i64 x]) ∧ Word h ∧ Word l ∧ -4002 ≤ x ∧ x ≤ 4000 ∧ Hid (nn h l ≠ 0) ∧ Hid (∀ s m b, rnd s m b (nn h l) x = rndQ s m b (nn ah al) e0 true) ∧ Below w.heap.size w w' := by
  have hl := len_ex ah al h1 h2
  have hs := shl_any ah al 2 h1 h2 (by decide) (by decide)
  have hn := blen_128 h1 h2
  by_cases c : 126 < blen (nn ah al)
  · have HQ : Hid _ := quarter_great h1 h2 c
    have HN : Hid (nn ah (al / 2 * 2 + 1) ≠ 0) := by have := odd_num h1 h2; show _ ≠ 0; omega
    have o := or_odd al h2
    have o2 := odd_word h2
    generalize blen (nn ah al) = n at *
    have c2 : (126 : Int) < (n : Int) := by omega
    clear hs
    go_enter Tryd.func42, Tryd.ntmps42
    go_wp2_with (go_at_call 21; refine (hl _).mono ?_; rintro e w1 ⟨rfl, rfl⟩)
    refine bodyPost_ret (v := .tuple #[.agg #[.int .u64 ah, .int .u64 (al / 2 * 2 + 1)], .int .i64 e0]) (by simp [results, Tryd.results42, go_sem]) rfl ?_
    exact ⟨_, _, _, rfl, h1, o2, by omega, e2, HN, fun s m b => HQ.out s m b e0, below_three _ _ _ _⟩
  · have HR : Hid (∀ h l, Word h → Word l → num h l = num ah al * 2 ^ Int.toNat 2 % 340282366920938463463374607431768211456 → nn h (l / 2 * 2 + 1) = 4 * nn ah al + 1) := fun h l w3 w4 E => quarter_small h1 h2 (by omega) w3 w4 E
    generalize hN : blen (nn ah al) = n at *
    have c2 : ¬ (126 : Int) < (n : Int) := by omega
    clear hN
    have b := below_three w (.cells #[.int .u64 ah, .int .u64 al] 50) (.cells #[.int .u64 0, .int .u64 0] 50) (.cells #[.int .u64 ah, .int .u64 al] 50)
    go_enter Tryd.func42, Tryd.ntmps42
    go_wp2_with (go_at_call 21; refine (hl _).mono ?_; rintro e w1 ⟨rfl, rfl⟩)
    refine (hs _).mono ?_
    rintro e w2 ⟨h, l, rfl, w3, w4, E, hb2⟩
    have o := or_odd l w4
    have o2 := odd_word w4
    have K : Hid _ := HR.out h l w3 w4 E.out
    clear E HR
    obtain ⟨hc, hf⟩ := bcell hb2
    have c0 : w2.cell? ⟨w.heap.size, 0, none⟩ = some (.int .u64 ah) := by rw [hc _ _ (by simp; omega)]; simp [go_sem]
    have c1 : w2.cell? ⟨w.heap.size, 1, none⟩ = some (.int .u64 al) := by rw [hc _ _ (by simp; omega)]; simp [go_sem]
    have r0 : w2.cell? ⟨w.heap.size + 1, 0, none⟩ = some (.int .u64 0) := by rw [hc _ _ (by simp)]; simp [go_sem]
    have r1 : w2.cell? ⟨w.heap.size + 1, 1, none⟩ = some (.int .u64 0) := by rw [hc _ _ (by simp)]; simp [go_sem]
    have f0 : w2.frozen? ⟨w.heap.size, 0, none⟩ = false := by rw [hf _ _ (by simp; omega)]; simp [go_sem]
    have f1 : w2.frozen? ⟨w.heap.size, 1, none⟩ = false := by rw [hf _ _ (by simp; omega)]; simp [go_sem]
    have g0 : w2.frozen? ⟨w.heap.size + 1, 0, none⟩ = false := by rw [hf _ _ (by simp)]; simp [go_sem]
    have g1 : w2.frozen? ⟨w.heap.size + 1, 1, none⟩ = false := by rw [hf _ _ (by simp)]; simp [go_sem]
    replace b := below_call b hb2
    clear hc hf hb2 hs hl
    go_upto_region 5 with fail
    obtain ⟨q0, q1⟩ := set2_in (w := w2) (b := w.heap.size) (.int .u64 h) (.int .u64 l) c0 c1
    obtain ⟨q2, q5⟩ := set2_out (w := w2) (b := w.heap.size) (c := w.heap.size + 1) (o := 0) (.int .u64 h) (.int .u64 l) (by omega) r0 g0
    obtain ⟨q3, q6⟩ := set2_out (w := w2) (b := w.heap.size) (c := w.heap.size + 1) (o := 1) (.int .u64 h) (.int .u64 l) (by omega) r1 g1
    have q4 : ((w2.setCell ⟨w.heap.size, 0, none⟩ (.int .u64 h)).setCell ⟨w.heap.size, 1, none⟩ (.int .u64 l)).frozen? ⟨w.heap.size, 1, none⟩ = false := by simp [*]
    have q7 : Below w.heap.size w ((w2.setCell ⟨w.heap.size, 0, none⟩ (.int .u64 h)).setCell ⟨w.heap.size, 1, none⟩ (.int .u64 l)) := (b.setCell (Nat.le_refl _) _).setCell (Nat.le_refl _) _
    generalize (w2.setCell ⟨w.heap.size, 0, none⟩ (.int .u64 h)).setCell ⟨w.heap.size, 1, none⟩ (.int .u64 l) = W at *
    clear c0 c1 r0 r1 f0 f1 g0 g1 b
    go_wp2_with fail
    refine bodyPost_ret (v := .tuple #[.agg #[.int .u64 h, .int .u64 (l / 2 * 2 + 1)], .int .i64 (e0 - 2)]) (by simp [results, Tryd.results42, go_sem, *]) rfl ?_
    refine ⟨_, _, _, rfl, w3, o2, by omega, by omega, by have := K.out; show _ ≠ 0; omega, fun s m b => by rw [K.out]; rfl, ?_⟩
    exact ((q7.setCell (Nat.le_refl _) _).setCell (Nat.le_succ _) _).setCell (Nat.le_succ _) _
end Go.Proofs.YtlmcopeongkppaaDoor

