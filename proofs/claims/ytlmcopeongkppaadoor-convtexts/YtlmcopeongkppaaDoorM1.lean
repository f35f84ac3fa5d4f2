/- Texts of the proof, put together. -/
import Derived.RowKit
import Derived.Laws.Bits64
import Derived.Laws.Bits64b
import Derived.Lib.Mul64
import Derived.Lib.BitFns
import Derived.Test.YtlmcopeongkppaaDoorRows
import Derived.Test.YtlmcopeongkppaaDoorShelf
import Derived.WalkKit
import Derived.WalkSpells
import Derived.StillTactics
import Derived.Laws.Pointers
import Derived.Laws.Externs
import Derived.Deep.RegionHeld3
import Derived.Below
import Derived.Shelf.Spec.BitsCarry
import Derived.BigQuiet
import Derived.Deep.QuietTactic
import Derived.Deep.DeepCutAuto
import Derived.ScopeJumps
import Derived.Deep.CutBlock
namespace Go.Proofs.YtlmcopeongkppaaDoor
set_option linter.unusedVariables false

/-- A word. -/
def Word (x : Int) : Prop := 0 ≤ x ∧ x < 18446744073709551616
/-- A borrow. -/
def bor (x y : Int) : Int := if x < y then 1 else 0
theorem bor_lo (x y : Int) : 0 ≤ bor x y := by unfold bor; split <;> decide
theorem bor_hi (x y : Int) : bor x y ≤ 1 := by unfold bor; split <;> decide
theorem word_mod (x : Int) : Word (x % 18446744073709551616) := ⟨by omega, by omega⟩
/-- The number of two words. -/
def num (h l : Int) : Int := h * 18446744073709551616 + l
theorem num_lo {h l : Int} (a : Word h) (b : Word l) : 0 ≤ num h l := by unfold num Word at *; omega
theorem num_hi {h l : Int} (a : Word h) (b : Word l) : num h l < 340282366920938463463374607431768211456 := by unfold num Word at *; omega
/-- Two words are told by their number. -/
theorem num_inj {h l h' l' : Int} (a : Word h) (b : Word l) (a' : Word h') (b' : Word l') (e : num h l = num h' l') : h = h' ∧ l = l' := by
  unfold num Word at *; omega
theorem num_zero : num 0 0 = 0 := rfl
/-- The words of a number. -/
theorem num_of (n : Int) : num (n / 18446744073709551616) (n % 18446744073709551616) = n := by unfold num; omega
theorem word_hi {n : Int} (h0 : 0 ≤ n) (h1 : n < 340282366920938463463374607431768211456) : Word (n / 18446744073709551616) := by unfold Word; omega

/-! ### Sums and differences -/
theorem add_num (ah al bh bl : Int) (h1 : Word ah) (h2 : Word al) (h3 : Word bh) (h4 : Word bl) :
    num ((ah + bh + (al + bl) / 18446744073709551616) % 18446744073709551616) ((al + bl) % 18446744073709551616) = (num ah al + num bh bl) % 340282366920938463463374607431768211456 := by
  unfold num Word at *; omega
theorem add_carry (ah al bh bl : Int) (h1 : Word ah) (h2 : Word al) (h3 : Word bh) (h4 : Word bl) :
    ((ah + bh + (al + bl) / 18446744073709551616) / 18446744073709551616 != 0) = decide (340282366920938463463374607431768211456 ≤ num ah al + num bh bl) := by
  rw [Bool.eq_iff_iff, bne_iff_ne, decide_eq_true_iff]
  unfold num Word at *; omega
theorem sub_num (ah al bh bl : Int) (h1 : Word ah) (h2 : Word al) (h3 : Word bh) (h4 : Word bl) :
    num ((ah - bh - bor al bl) % 18446744073709551616) ((al - bl) % 18446744073709551616) = (num ah al - num bh bl) % 340282366920938463463374607431768211456 := by
  unfold num Word bor at *; split <;> omega
theorem sub_borrow (ah al bh bl : Int) (h1 : Word ah) (h2 : Word al) (h3 : Word bh) (h4 : Word bl) :
    ((if ah < bh + bor al bl then (1 : Int) else 0) != 0) = decide (num ah al < num bh bl) := by
  rw [Bool.eq_iff_iff, bne_iff_ne, decide_eq_true_iff]
  unfold num Word bor at *; split <;> split <;> omega

/-! ### Moves -/
theorem pow_split {n : Nat} (h : n ≤ 64) : 2 ^ n * 2 ^ (64 - n) = 18446744073709551616 := by
  rw [← Nat.pow_add, Nat.add_sub_cancel' h]
theorem pow_pos' (n : Nat) : 0 < 2 ^ n := Nat.two_pow_pos n
theorem wrapN (a : Nat) : IntKind.u64.wrap (a : Int) = ((a % 18446744073709551616 : Nat) : Int) := by rw [IntKind.wrap_u64]; omega
theorem castShl (a k : Nat) : (a : Int) * 2 ^ k = ((a * 2 ^ k : Nat) : Int) := by simp
theorem castShr (a k : Nat) : (a : Int) / 2 ^ k = ((a / 2 ^ k : Nat) : Int) := by simp
theorem wshl (a k : Nat) : IntKind.u64.wrap ((a : Int) * 2 ^ k) = ((a * 2 ^ k % 18446744073709551616 : Nat) : Int) := by rw [castShl, wrapN]
theorem shl_min (a k : Nat) : a * 2 ^ min k 64 % 18446744073709551616 = a * 2 ^ k % 18446744073709551616 := by
  by_cases h : k ≤ 64
  · rw [Nat.min_eq_left h]
  · rw [Nat.min_eq_right (by omega)]
    have e : 2 ^ k = 2 ^ (k - 64) * 18446744073709551616 := by
      rw [show (18446744073709551616 : Nat) = 2 ^ 64 from rfl, ← Nat.pow_add]; congr 1; omega
    rw [e, ← Nat.mul_assoc]
    omega
theorem shr_min (a k : Nat) (ha : a < 18446744073709551616) : a / 2 ^ min k 64 = a / 2 ^ k := by
  by_cases h : k ≤ 64
  · rw [Nat.min_eq_left h]
  · rw [Nat.min_eq_right (by omega)]
    have e : 18446744073709551616 ≤ 2 ^ k := by
      rw [show (18446744073709551616 : Nat) = 2 ^ 64 from rfl]; exact Nat.pow_le_pow_right (by decide) (by omega)
    rw [Nat.div_eq_of_lt (show a < 2 ^ k by omega)]
    omega
theorem mul_cut (x P Q : Nat) (e : P * Q = 18446744073709551616) (hQ : 0 < Q) : x * P = x / Q * 18446744073709551616 + x % Q * P := by
  have d := Nat.div_add_mod' x Q
  conv => lhs; rw [← d]
  rw [Nat.add_mul, Nat.mul_assoc, Nat.mul_comm Q P, e]
theorem mul_cut_mod (x P Q : Nat) (e : P * Q = 18446744073709551616) (hQ : 0 < Q) : x * P % 18446744073709551616 = x % Q * P := by
  have c := mul_cut x P Q e hQ
  have l : x % Q * P < 18446744073709551616 := by
    have := Nat.mod_lt x hQ
    have pP : 0 < P := by
      rcases Nat.eq_zero_or_pos P with h | h
      · subst h; simp at e
      · exact h
    have h2 : x % Q * P < Q * P := Nat.mul_lt_mul_of_pos_right this pP
    rw [Nat.mul_comm Q P, e] at h2; exact h2
  rw [c]; omega
theorem or_cut (x y n : Nat) (h : y < 2 ^ n) : (x * 2 ^ n) ||| y = x * 2 ^ n + y := by
  rw [Nat.mul_comm]; exact (Nat.two_pow_add_eq_or_of_lt h x).symm

/-- Up by fewer than 64 bits, on natural numbers. -/
theorem shl_nat (a b n : Nat) (ha : a < 18446744073709551616) (hb : b < 18446744073709551616) (hn : n < 64) :
    ((a * 2 ^ n % 18446744073709551616) ||| (b / 2 ^ (64 - n))) < 18446744073709551616 ∧
    ((a * 2 ^ n % 18446744073709551616) ||| (b / 2 ^ (64 - n))) * 18446744073709551616 + b * 2 ^ n % 18446744073709551616 = (a * 18446744073709551616 + b) * 2 ^ n % 340282366920938463463374607431768211456 := by
  have e := pow_split (n := n) (by omega)
  have pP := pow_pos' n
  have pQ := pow_pos' (64 - n)
  generalize hP : 2 ^ n = P at *
  generalize hQ : 2 ^ (64 - n) = Q at *
  have ca := mul_cut a P Q e pQ
  have cb := mul_cut b P Q e pQ
  have bq : b / Q < P := by
    rw [Nat.div_lt_iff_lt_mul pQ, e]; exact hb
  rw [mul_cut_mod a P Q e pQ, mul_cut_mod b P Q e pQ]
  have o : (a % Q * P) ||| (b / Q) = a % Q * P + b / Q := by rw [← hP]; exact or_cut _ _ _ (by rw [hP]; exact bq)
  rw [o]
  have la : a % Q * P + P ≤ 18446744073709551616 := by
    have := Nat.mod_lt a pQ
    calc a % Q * P + P = (a % Q + 1) * P := by rw [Nat.add_mul, Nat.one_mul]
      _ ≤ Q * P := Nat.mul_le_mul_right P this
      _ = 18446744073709551616 := by rw [Nat.mul_comm, e]
  have lb : b % Q * P < 18446744073709551616 := by
    have := mul_cut_mod b P Q e pQ
    omega
  refine ⟨by omega, ?_⟩
  have t : (a * 18446744073709551616 + b) * P = a * P * 18446744073709551616 + b * P := by
    rw [Nat.add_mul, Nat.mul_right_comm]
  rw [t, ca, cb]
  generalize a % Q * P = u at *
  generalize b % Q * P = v at *
  generalize a / Q = y at *
  generalize b / Q = z at *
  omega

/-- Down by fewer than 64 bits, on natural numbers. -/
theorem shr_nat (a b n : Nat) (ha : a < 18446744073709551616) (hb : b < 18446744073709551616) (hn : n < 64) :
    ((a * 2 ^ (64 - n) % 18446744073709551616) ||| (b / 2 ^ n)) < 18446744073709551616 ∧
    a / 2 ^ n * 18446744073709551616 + ((a * 2 ^ (64 - n) % 18446744073709551616) ||| (b / 2 ^ n)) = (a * 18446744073709551616 + b) / 2 ^ n := by
  have e := pow_split (n := n) (by omega)
  have pP := pow_pos' n
  have pQ := pow_pos' (64 - n)
  generalize hP : 2 ^ n = P at *
  generalize hQ : 2 ^ (64 - n) = Q at *
  have e' : Q * P = 18446744073709551616 := by rw [Nat.mul_comm]; exact e
  have bq : b / P < Q := by
    rw [Nat.div_lt_iff_lt_mul pP, e']; exact hb
  rw [mul_cut_mod a Q P e' pP]
  have o : (a % P * Q) ||| (b / P) = a % P * Q + b / P := by rw [← hQ]; exact or_cut _ _ _ (by rw [hQ]; exact bq)
  rw [o]
  have la : a % P * Q + Q ≤ 18446744073709551616 := by
    have := Nat.mod_lt a pP
    calc a % P * Q + Q = (a % P + 1) * Q := by rw [Nat.add_mul, Nat.one_mul]
      _ ≤ P * Q := Nat.mul_le_mul_right Q this
      _ = 18446744073709551616 := e
  refine ⟨by omega, ?_⟩
  have ca := mul_cut a Q P e' pP
  have t : P * (a * Q) = a * 18446744073709551616 := by
    rw [Nat.mul_left_comm, e]
  rw [← t, Nat.mul_add_div pP, ca]
  omega

theorem pow_ge {k n : Nat} (h : k ≤ n) : 2 ^ n = 2 ^ (n - k) * 2 ^ k := by rw [← Nat.pow_add]; congr 1; omega
theorem shl_nat_big (a b n : Nat) (ha : a < 18446744073709551616) (hb : b < 18446744073709551616) (hn : 64 ≤ n) :
    (b * 2 ^ (n - 64) % 18446744073709551616) * 18446744073709551616 + 0 = (a * 18446744073709551616 + b) * 2 ^ n % 340282366920938463463374607431768211456 := by
  have e : 2 ^ n = 2 ^ (n - 64) * 18446744073709551616 := pow_ge (k := 64) hn
  rw [e]
  have t : (a * 18446744073709551616 + b) * (2 ^ (n - 64) * 18446744073709551616) = a * 2 ^ (n - 64) * 340282366920938463463374607431768211456 + b * 2 ^ (n - 64) * 18446744073709551616 := by
    rw [Nat.add_mul, ← Nat.mul_assoc b, ← Nat.mul_assoc, Nat.mul_right_comm a, Nat.mul_assoc (a * 2 ^ (n - 64))]
  rw [t]
  omega
theorem shr_nat_big (a b n : Nat) (hb : b < 18446744073709551616) (hn : 64 ≤ n) :
    0 * 18446744073709551616 + a / 2 ^ (n - 64) = (a * 18446744073709551616 + b) / 2 ^ n := by
  have e : 2 ^ n = 18446744073709551616 * 2 ^ (n - 64) := by rw [Nat.mul_comm]; exact pow_ge (k := 64) hn
  rw [e, ← Nat.div_div_eq_div_mul]
  have : (a * 18446744073709551616 + b) / 18446744073709551616 = a := by omega
  rw [this]; omega

/-- Down and up again: what is lost is what does not come back. -/
theorem back_nat (a n : Nat) (ha : a < 340282366920938463463374607431768211456) : (a / 2 ^ n * 2 ^ n % 340282366920938463463374607431768211456 = a) ↔ a % 2 ^ n = 0 := by
  have d := Nat.div_add_mod' a (2 ^ n)
  have l : a / 2 ^ n * 2 ^ n ≤ a := Nat.div_mul_le_self a (2 ^ n)
  rw [Nat.mod_eq_of_lt (by omega)]
  omega

end Go.Proofs.YtlmcopeongkppaaDoor
namespace Go.Proofs.YtlmcopeongkppaaDoor
open Go.RowKit
set_option linter.unusedVariables false

/-- Two or three new blocks turn nothing that was there. -/
theorem below_two (w : World) (a b : Obj) : Below w.heap.size w ((w.alloc a).alloc b) :=
  ((Below.refl _ _).alloc (Nat.le_refl _) _).alloc (by simp) _
theorem below_three (w : World) (a b c : Obj) : Below w.heap.size w (((w.alloc a).alloc b).alloc c) :=
  (below_two w a b).alloc (by simp; omega) _

theorem mul_num (a b : Int) (ha : Word a) (hb : Word b) : Word (a * b / 18446744073709551616) ∧ Word (a * b % 18446744073709551616) ∧ num (a * b / 18446744073709551616) (a * b % 18446744073709551616) = a * b := by
  refine ⟨?_, word_mod _, num_of _⟩
  unfold Word at *
  have h0 : 0 ≤ a * b := Int.mul_nonneg ha.1 hb.1
  have h1 : a * b ≤ 18446744073709551615 * 18446744073709551615 := Int.mul_le_mul (by omega) (by omega) hb.1 (by decide)
  omega

theorem mul64 (x y : Int) (hx : Word x) (hy : Word y) (w : World) :
    Calls Tryd.prog 68 #[.int .u64 x, .int .u64 y] w fun e w' => e = .returned (.tuple #[.int .u64 (x * y / 18446744073709551616), .int .u64 (x * y % 18446744073709551616)]) ∧ w' = w := by
  obtain ⟨x, rfl⟩ := Int.eq_ofNat_of_zero_le hx.1
  obtain ⟨y, rfl⟩ := Int.eq_ofNat_of_zero_le hy.1
  have a := hx.2; have b := hy.2
  have h := Tryd.bits_Mul64 x y (by omega) (by omega) w
  simpa using h

end Go.Proofs.YtlmcopeongkppaaDoor

namespace Go.Proofs.YtlmcopeongkppaaDoor
open Go.RowKit
set_option linter.unusedVariables false

theorem shl_small (ah al m : Int) (h1 : Word ah) (h2 : Word al) (h0 : 0 ≤ m) (hm : m < 64) :
    Word (bits BinOp.or IntKind.u64 (IntKind.u64.wrap (ah * 2 ^ m.toNat)) (al / 2 ^ (64 - m).toNat)) ∧ Word (IntKind.u64.wrap (al * 2 ^ m.toNat)) ∧
    num (bits BinOp.or IntKind.u64 (IntKind.u64.wrap (ah * 2 ^ m.toNat)) (al / 2 ^ (64 - m).toNat)) (IntKind.u64.wrap (al * 2 ^ m.toNat)) = num ah al * 2 ^ m.toNat % 340282366920938463463374607431768211456 := by
  obtain ⟨a, rfl⟩ := Int.eq_ofNat_of_zero_le h1.1
  obtain ⟨b, rfl⟩ := Int.eq_ofNat_of_zero_le h2.1
  obtain ⟨n, rfl⟩ := Int.eq_ofNat_of_zero_le h0
  have ha := h1.2; have hb := h2.2
  have e64 : (64 - (n : Int)).toNat = 64 - n := by omega
  rw [e64, Int.toNat_natCast, wshl, wshl, castShr, bits_or_u64_nat _ _ (by omega) (by have := Nat.div_le_self b (2 ^ (64 - n)); omega)]
  obtain ⟨k1, k2⟩ := shl_nat a b n (by omega) (by omega) (by omega)
  refine ⟨⟨by omega, by omega⟩, ⟨by omega, by omega⟩, ?_⟩
  unfold num
  have c : ((a : Int) * 18446744073709551616 + b) * 2 ^ n = (((a * 18446744073709551616 + b) * 2 ^ n : Nat) : Int) := by simp
  rw [c]
  omega
theorem shl_big (ah al m : Int) (h1 : Word ah) (h2 : Word al) (hm : 64 ≤ m) :
    Word (IntKind.u64.wrap (al * 2 ^ min (m - 64).toNat 64)) ∧
    num (IntKind.u64.wrap (al * 2 ^ min (m - 64).toNat 64)) 0 = num ah al * 2 ^ m.toNat % 340282366920938463463374607431768211456 := by
  obtain ⟨a, rfl⟩ := Int.eq_ofNat_of_zero_le h1.1
  obtain ⟨b, rfl⟩ := Int.eq_ofNat_of_zero_le h2.1
  obtain ⟨n, rfl⟩ := Int.eq_ofNat_of_zero_le (show 0 ≤ m by omega)
  have ha := h1.2; have hb := h2.2
  have e64 : ((n : Int) - 64).toNat = n - 64 := by omega
  rw [e64, Int.toNat_natCast, wshl, shl_min]
  have k := shl_nat_big a b n (by omega) (by omega) (by omega)
  refine ⟨⟨by omega, by omega⟩, ?_⟩
  unfold num
  have c : ((a : Int) * 18446744073709551616 + b) * 2 ^ n = (((a * 18446744073709551616 + b) * 2 ^ n : Nat) : Int) := by simp
  rw [c]
  omega
theorem shr_small (ah al m : Int) (h1 : Word ah) (h2 : Word al) (h0 : 0 ≤ m) (hm : m < 64) :
    Word (ah / 2 ^ m.toNat) ∧ Word (bits BinOp.or IntKind.u64 (IntKind.u64.wrap (ah * 2 ^ (64 - m).toNat)) (al / 2 ^ m.toNat)) ∧
    num (ah / 2 ^ m.toNat) (bits BinOp.or IntKind.u64 (IntKind.u64.wrap (ah * 2 ^ (64 - m).toNat)) (al / 2 ^ m.toNat)) = num ah al / 2 ^ m.toNat := by
  obtain ⟨a, rfl⟩ := Int.eq_ofNat_of_zero_le h1.1
  obtain ⟨b, rfl⟩ := Int.eq_ofNat_of_zero_le h2.1
  obtain ⟨n, rfl⟩ := Int.eq_ofNat_of_zero_le h0
  have ha := h1.2; have hb := h2.2
  have e64 : (64 - (n : Int)).toNat = 64 - n := by omega
  have d1 := Nat.div_le_self b (2 ^ n)
  have d2 := Nat.div_le_self a (2 ^ n)
  rw [e64, Int.toNat_natCast, wshl, castShr, castShr, bits_or_u64_nat _ _ (by omega) (by omega)]
  obtain ⟨k1, k2⟩ := shr_nat a b n (by omega) (by omega) (by omega)
  refine ⟨⟨by omega, by omega⟩, ⟨by omega, by omega⟩, ?_⟩
  unfold num
  have c : ((a : Int) * 18446744073709551616 + b) / 2 ^ n = (((a * 18446744073709551616 + b) / 2 ^ n : Nat) : Int) := by simp
  rw [c, ← k2]
  omega
theorem shr_big (ah al m : Int) (h1 : Word ah) (h2 : Word al) (hm : 64 ≤ m) :
    Word (ah / 2 ^ min (m - 64).toNat 64) ∧
    num 0 (ah / 2 ^ min (m - 64).toNat 64) = num ah al / 2 ^ m.toNat := by
  obtain ⟨a, rfl⟩ := Int.eq_ofNat_of_zero_le h1.1
  obtain ⟨b, rfl⟩ := Int.eq_ofNat_of_zero_le h2.1
  obtain ⟨n, rfl⟩ := Int.eq_ofNat_of_zero_le (show 0 ≤ m by omega)
  have ha := h1.2; have hb := h2.2
  have e64 : ((n : Int) - 64).toNat = n - 64 := by omega
  rw [e64, Int.toNat_natCast, castShr, shr_min a _ (by omega)]
  have k := shr_nat_big a b n (by omega) (by omega)
  have d2 := Nat.div_le_self a (2 ^ (n - 64))
  refine ⟨⟨Int.natCast_nonneg _, by omega⟩, ?_⟩
  unfold num
  have c : ((a : Int) * 18446744073709551616 + b) / 2 ^ n = (((a * 18446744073709551616 + b) / 2 ^ n : Nat) : Int) := by simp
  rw [c, ← k]
  omega
/-- Moved down and up again a number is itself just if nothing was lost. -/
theorem back_num (ah al h l h' l' : Int) (k : Nat) (h1 : Word ah) (h2 : Word al) (a : Word h) (b : Word l) (a' : Word h') (b' : Word l') (e : num h l = num ah al / 2 ^ k) (e' : num h' l' = num h l * 2 ^ k % 340282366920938463463374607431768211456) :
    (h' = ah ∧ l' = al) ↔ num ah al % 2 ^ k = 0 := by
  have p0 := num_lo h1 h2
  have p1 := num_hi h1 h2
  rw [e] at e'
  obtain ⟨x, hx⟩ := Int.eq_ofNat_of_zero_le p0
  have bk := back_nat x k (by omega)
  rw [hx] at e'
  have c1 : (x : Int) / 2 ^ k * 2 ^ k % 340282366920938463463374607431768211456 = ((x / 2 ^ k * 2 ^ k % 340282366920938463463374607431768211456 : Nat) : Int) := by simp
  have c2 : (x : Int) % 2 ^ k = ((x % 2 ^ k : Nat) : Int) := by simp
  rw [c1] at e'
  rw [hx, c2]
  constructor
  · rintro ⟨rfl, rfl⟩
    rw [hx] at e'
    have := bk.1 (by omega)
    omega
  · intro h0
    have := bk.2 (by omega)
    exact num_inj a' b' h1 h2 (by rw [e', hx]; omega)

/-- Are two numbers of two words alike? -/
def eq2 (h l h' l' : Int) : Bool := h == h' && l == l'
theorem eq2_true {h l h' l' : Int} (e : h = h') (e' : l = l') : eq2 h l h' l' = true := by unfold eq2; simp [e, e']
theorem eq2_num {h l h' l' : Int} (a : Word h) (b : Word l) (a' : Word h') (b' : Word l') : eq2 h l h' l' = decide (num h l = num h' l') := by
  rw [Bool.eq_iff_iff, decide_eq_true_iff]
  unfold eq2
  rw [Bool.and_eq_true, beq_iff_eq, beq_iff_eq]
  exact ⟨fun ⟨e, e'⟩ => by rw [e, e'], num_inj a b a' b'⟩
theorem eql_u128 (h l h' l' : Int) (w : World) : (binOp .eql 50 (.agg #[.int .u64 h, .int .u64 l]) (.agg #[.int .u64 h', .int .u64 l'])).run Tryd.prog w = .ok (.bool (eq2 h l h' l')) w := by
  unfold eq2
  cases c : (h == h') <;> cases d : (l == l') <;> simp [go_sem, c, d]
theorem neq_u128 (h l h' l' : Int) (w : World) : (binOp .neq 50 (.agg #[.int .u64 h, .int .u64 l]) (.agg #[.int .u64 h', .int .u64 l'])).run Tryd.prog w = .ok (.bool (!eq2 h l h' l')) w := by
  unfold eq2
  cases c : (h == h') <;> cases d : (l == l') <;> simp [go_sem, c, d]
theorem bcell {W w1 : World} (hb : Below W.heap.size W w1) : (∀ b o, b < W.heap.size → w1.cell? ⟨b, o, none⟩ = W.cell? ⟨b, o, none⟩) ∧ (∀ b o, b < W.heap.size → w1.frozen? ⟨b, o, none⟩ = W.frozen? ⟨b, o, none⟩) :=
  ⟨fun b o h => hb.cell (p := ⟨b, o, none⟩) h, fun b o h => hb.frozen (p := ⟨b, o, none⟩) h⟩

set_option maxHeartbeats 400000 in
theorem shl_any (ah al n : Int) (h1 : Word ah) (h2 : Word al) (hn : -9223372036854775808 ≤ n) (hn' : n ≤ 9223372036854775807) (w : World) :
    Calls Tryd.prog 23 #[.agg #[.int .u64 ah, .int .u64 al], .int .i64 n] w fun e w' =>
      ∃ h l : Int, e = .returned (.agg #[.int .u64 h, .int .u64 l]) ∧ Word h ∧ Word l ∧ Hid (num h l = num ah al * 2 ^ n.toNat % 340282366920938463463374607431768211456) ∧ Below w.heap.size w w' := by
  have e0 : (max n 0).toNat = n.toNat := by omega
  by_cases hm : 64 ≤ max n 0
  · obtain ⟨m1, m2⟩ := shl_big ah al (max n 0) h1 h2 hm
    have m4 := m2.trans (congrArg (fun k => num ah al * 2 ^ k % 340282366920938463463374607431768211456) e0)
    have M2 : Hid _ := m4; clear m2 m4 e0
    obtain ⟨a1, a2⟩ := h1; obtain ⟨b1, b2⟩ := h2
    go_enter Tryd.func23, Tryd.ntmps23
    go_wp2
    refine bodyPost_ret (v := .agg #[.int .u64 (IntKind.u64.wrap (al * 2 ^ min (max n 0 - 64).toNat 64)), .int .u64 0]) (by simp [results, Tryd.results23, go_sem]) rfl ?_
    exact ⟨_, _, rfl, m1, ⟨by decide, by decide⟩, M2, below_two _ _ _⟩
  · have hm' : max n 0 < 64 := by omega
    obtain ⟨m1, m2, m3⟩ := shl_small ah al (max n 0) h1 h2 (by omega) hm'
    have m4 := m3.trans (congrArg (fun k => num ah al * 2 ^ k % 340282366920938463463374607431768211456) e0)
    have M3 : Hid _ := m4; clear m3 m4 e0
    obtain ⟨a1, a2⟩ := h1; obtain ⟨b1, b2⟩ := h2
    go_enter Tryd.func23, Tryd.ntmps23
    go_wp2
    go_region
    go_wp2
    refine bodyPost_ret (v := .agg #[.int .u64 (bits BinOp.or IntKind.u64 (IntKind.u64.wrap (ah * 2 ^ (max n 0).toNat)) (al / 2 ^ (64 - max n 0).toNat)), .int .u64 (IntKind.u64.wrap (al * 2 ^ (max n 0).toNat))]) (by simp [results, Tryd.results23, go_sem]) rfl ?_
    refine ⟨_, _, rfl, ?_, ?_, ?_, ?_⟩
    · exact m1
    · exact m2
    · exact M3
    · exact (below_two _ _ _).drew


/-- The two words' test, as a test on numbers. -/
theorem back_bool (ah al h l h' l' : Int) (k : Nat) (h1 : Word ah) (h2 : Word al) (a : Word h) (b : Word l) (e : num h l = num ah al / 2 ^ k) (a' : Word h') (b' : Word l') (e' : num h' l' = num h l * 2 ^ k % 340282366920938463463374607431768211456) :
    (!eq2 h' l' ah al) = decide (¬ num ah al % 2 ^ k = 0) := by
  have := back_num ah al h l h' l' k h1 h2 a b a' b' e e'
  rw [Bool.eq_iff_iff, decide_eq_true_iff, ← this]
  unfold eq2
  by_cases c : h' = ah <;> simp [c]

set_option maxHeartbeats 800000 in
theorem shr_any (ah al n : Int) (h1 : Word ah) (h2 : Word al) (hn : -9223372036854775808 ≤ n) (hn' : n ≤ 9223372036854775807) (w : World) :
    Calls Tryd.prog 72 #[.agg #[.int .u64 ah, .int .u64 al], .int .i64 n] w fun e w' =>
      ∃ (h l : Int) (c : Bool), e = .returned (.tuple #[.agg #[.int .u64 h, .int .u64 l], .bool c]) ∧ Word h ∧ Word l ∧ Hid (num h l = num ah al / 2 ^ n.toNat) ∧ Hid (c = decide (¬ num ah al % 2 ^ n.toNat = 0)) ∧ Below w.heap.size w w' := by
  have e0 : (max n 0).toNat = n.toNat := by omega
  have g1 : -9223372036854775808 ≤ max n 0 := by omega
  have g2 : max n 0 ≤ 9223372036854775807 := by omega
  by_cases hm : 64 ≤ max n 0
  · obtain ⟨m1, m2⟩ := shr_big ah al (max n 0) h1 h2 hm
    have m4 := m2.trans (congrArg (fun k => num ah al / 2 ^ k) e0)
    have M2 : Hid _ := m4; clear m2 m4
    have E0 : Hid _ := e0; clear e0
    have z : Word 0 := ⟨by decide, by decide⟩
    have hq := neq_u128
    obtain ⟨a1, a2⟩ := id h1; obtain ⟨b1, b2⟩ := id h2
    go_enter Tryd.func72, Tryd.ntmps72
    go_wp2
    go_region_held3 (fun w' => w'.cell? ⟨w.heap.size, 0, none⟩ = some (.int .u64 ah) ∧ w'.cell? ⟨w.heap.size, 1, none⟩ = some (.int .u64 al) ∧ w'.cell? ⟨w.heap.size + 1 + 1, 0, none⟩ = some (.int .u64 0) ∧ w'.cell? ⟨w.heap.size + 1 + 1, 1, none⟩ = some (.int .u64 (ah / 2 ^ min (max n 0 - 64).toNat 64))) (simp [go_sem, *])
      ((go_at_call 23; refine (shl_any 0 _ (max n 0) z m1 g1 g2 _).mono ?_; rintro e w1 ⟨h', l', rfl, a', b', E, hb⟩; obtain ⟨hc, hf⟩ := bcell hb))
    go_wp2
    have hs := hb.size
    simp at hs
    refine bodyPost_ret (v := .tuple #[.agg #[.int .u64 0, .int .u64 (ah / 2 ^ min (max n 0 - 64).toNat 64)], .bool (!eq2 h' l' ah al)]) (by simp [results, Tryd.results72, go_sem, hc]) rfl ?_
    refine ⟨_, _, _, rfl, z, m1, M2, ?_, ?_⟩
    · exact back_bool ah al _ _ h' l' n.toNat h1 h2 z m1 M2.out a' b' (by have := E.out; rw [E0.out] at this; exact this)
    · exact ((((below_three _ _ _ _).drew).trans (hb.mono (by simp; omega))).setCell (by simp) _).setCell (by simp) _
  · have hm' : max n 0 < 64 := by omega
    obtain ⟨m1, m2, m3⟩ := shr_small ah al (max n 0) h1 h2 (by omega) hm'
    have m4 := m3.trans (congrArg (fun k => num ah al / 2 ^ k) e0)
    have M2 : Hid _ := m4; clear m3 m4
    have E0 : Hid _ := e0; clear e0
    have hq := neq_u128
    obtain ⟨a1, a2⟩ := id h1; obtain ⟨b1, b2⟩ := id h2
    go_enter Tryd.func72, Tryd.ntmps72
    go_wp2
    go_region
    go_wp2
    go_region_held3 (fun w' => w'.cell? ⟨w.heap.size, 0, none⟩ = some (.int .u64 ah) ∧ w'.cell? ⟨w.heap.size, 1, none⟩ = some (.int .u64 al) ∧ w'.cell? ⟨w.heap.size + 1 + 1, 0, none⟩ = some (.int .u64 (ah / 2 ^ (max n 0).toNat)) ∧ w'.cell? ⟨w.heap.size + 1 + 1, 1, none⟩ = some (.int .u64 (bits BinOp.or IntKind.u64 (IntKind.u64.wrap (ah * 2 ^ (64 - max n 0).toNat)) (al / 2 ^ (max n 0).toNat)))) (simp [go_sem, *])
      ((go_at_call 23; refine (shl_any _ _ (max n 0) m1 m2 g1 g2 _).mono ?_; rintro e w1 ⟨h', l', rfl, a', b', E, hb⟩; obtain ⟨hc, hf⟩ := bcell hb))
    go_wp2
    have hs := hb.size
    simp at hs
    refine bodyPost_ret (v := .tuple #[.agg #[.int .u64 (ah / 2 ^ (max n 0).toNat), .int .u64 (bits BinOp.or IntKind.u64 (IntKind.u64.wrap (ah * 2 ^ (64 - max n 0).toNat)) (al / 2 ^ (max n 0).toNat))], .bool (!eq2 h' l' ah al)]) (by simp [results, Tryd.results72, go_sem, hc]) rfl ?_
    refine ⟨_, _, _, rfl, m1, m2, M2, ?_, ?_⟩
    · exact back_bool ah al _ _ h' l' n.toNat h1 h2 m1 m2 M2.out a' b' (by have := E.out; rw [this, E0.out])
    · exact ((((below_three _ _ _ _).drew.drew).trans (hb.mono (by simp; omega))).setCell (by simp) _).setCell (by simp) _
end Go.Proofs.YtlmcopeongkppaaDoor

namespace Go.Proofs.YtlmcopeongkppaaDoor
open Go.RowKit
set_option linter.unusedVariables false

/-- Which of two numbers is greater. -/
def cmpN (a b : Int) : Int := if a < b then -1 else if b < a then 1 else 0
theorem cmpN_lt {a b : Int} (h : a < b) : -1 = cmpN a b := by unfold cmpN; rw [if_pos h]
theorem cmpN_gt {a b : Int} (h : b < a) : 1 = cmpN a b := by unfold cmpN; rw [if_neg (by omega), if_pos h]
theorem cmpN_eq {a b : Int} (h : a = b) : 0 = cmpN a b := by unfold cmpN; rw [if_neg (by omega), if_neg (by omega)]
end Go.Proofs.YtlmcopeongkppaaDoor

namespace Go.Proofs.YtlmcopeongkppaaDoor
open Go.RowKit
set_option linter.unusedVariables false

/-! ### The arithmetic of one round -/
theorem or_low (x y : Int) (hx : Word x) (hy : 0 ≤ y) (hy' : y < 4) (h4 : x % 4 = 0) : bits BinOp.or IntKind.u64 x y = x + y ∧ Word (x + y) := by
  obtain ⟨a, rfl⟩ := Int.eq_ofNat_of_zero_le hx.1
  obtain ⟨b, rfl⟩ := Int.eq_ofNat_of_zero_le hy
  have ha := hx.2
  rw [bits_or_u64_nat a b (by omega) (by omega)]
  have e : a = a / 4 * 2 ^ 2 := by omega
  have o := or_cut (a / 4) b 2 (by omega)
  rw [← e] at o
  rw [o]
  exact ⟨by omega, ⟨by omega, by omega⟩⟩
theorem or_one (x : Int) (hx : Word x) (h2 : x % 2 = 0) : bits BinOp.or IntKind.u64 x 1 = x + 1 ∧ Word (x + 1) := by
  obtain ⟨a, rfl⟩ := Int.eq_ofNat_of_zero_le hx.1
  have ha := hx.2
  have t := bits_or_u64_nat a 1 (by omega) (by omega)
  have e : a = a / 2 * 2 ^ 1 := by omega
  have o := or_cut (a / 2) 1 1 (by omega)
  rw [← e] at o
  rw [o] at t
  refine ⟨?_, ⟨by omega, by omega⟩⟩
  rw [← Int.natCast_one, t]
  omega
theorem and_three (x : Int) (hx : Word x) : bits BinOp.and IntKind.u64 x 3 = x % 4 := by
  obtain ⟨a, rfl⟩ := Int.eq_ofNat_of_zero_le hx.1
  have ha := hx.2
  have t := bits_and_u64_nat a 3 (by omega) (by omega)
  have e : a &&& 3 = a % 4 := Nat.and_two_pow_sub_one_eq_mod a 2
  rw [e] at t
  have t' : bits BinOp.and IntKind.u64 (a : Int) 3 = ((a % 4 : Nat) : Int) := t
  rw [t']; omega
/-- The next pair of bits is put behind what is left. -/
theorem sq_left (A lh ll qh ql ph pl : Int) (hlh : Word lh) (hll : Word ll) (wqh : Word qh) (wql : Word ql) (wph : Word ph) (wpl : Word pl)
    (P : num ph pl = A) (Q : num qh ql = num lh ll * 2 ^ Int.toNat 2 % 340282366920938463463374607431768211456) (small : num lh ll ≤ 36893488147419103232) :
    Word (bits BinOp.or IntKind.u64 ql (bits BinOp.and IntKind.u64 pl 3)) ∧ num qh (bits BinOp.or IntKind.u64 ql (bits BinOp.and IntKind.u64 pl 3)) = 4 * num lh ll + A % 4 := by
  have p := num_lo hlh hll
  have e : (2 : Int) ^ Int.toNat 2 = 4 := rfl
  rw [e] at Q
  have hq4 : ql % 4 = 0 := by unfold num Word at *; omega
  rw [and_three pl wpl]
  obtain ⟨o1, o2⟩ := or_low ql (pl % 4) wql (by omega) (by omega) hq4
  rw [o1]
  exact ⟨o2, by unfold num Word at *; omega⟩
/-- Four times the root, and 1. -/
theorem sq_grows (r gh gl : Int) (hr : Word r) (wgh : Word gh) (wgl : Word gl) (Q : num gh gl = num 0 r * 2 ^ Int.toNat 2 % 340282366920938463463374607431768211456) :
    Word (bits BinOp.or IntKind.u64 gl 1) ∧ num gh (bits BinOp.or IntKind.u64 gl 1) = 4 * r + 1 := by
  have e : (2 : Int) ^ Int.toNat 2 = 4 := rfl
  rw [e] at Q
  have hq4 : gl % 2 = 0 := by unfold num Word at *; omega
  obtain ⟨o1, o2⟩ := or_one gl wgl hq4
  rw [o1]
  exact ⟨o2, by unfold num Word at *; omega⟩
/-- What holds of the root and of what is left, ahead of the pair number j. -/
structure SqInv (A : Int) (j : Nat) (r L : Int) : Prop where
  sum : r * r + L = A / 2 ^ (2 * j + 2)
  le : L ≤ 2 * r
  lt : r < 2 ^ (63 - j)
theorem pow_le63 (j : Nat) : (2 : Int) ^ (63 - j) ≤ 9223372036854775808 := by
  have h : 2 ^ (63 - j) ≤ 2 ^ 63 := Nat.pow_le_pow_right (by decide) (by omega)
  have e : ((2 ^ (63 - j) : Nat) : Int) = (2 : Int) ^ (63 - j) := by simp
  rw [← e]
  omega
theorem quad_div (A : Int) (j : Nat) (hA : 0 ≤ A) : A / 2 ^ (2 * j + 2) = A / 2 ^ (2 * j) / 4 := by
  have e : (2 : Int) ^ (2 * j + 2) = 2 ^ (2 * j) * 4 := by rw [Int.pow_add]; rfl
  rw [e, Int.ediv_ediv_of_nonneg (by exact Int.le_of_lt (Int.pow_pos (by decide)))]
theorem sq_mul2 (r : Int) : (2 * r) * (2 * r) = 4 * (r * r) := by
  rw [Int.mul_assoc 2 r, Int.mul_left_comm r 2 r]; omega
theorem sq_mul21 (r : Int) : (2 * r + 1) * (2 * r + 1) = 4 * (r * r) + 4 * r + 1 := by
  rw [Int.add_mul, Int.mul_add, sq_mul2]; omega
/-- One round: the bit is 0. -/
theorem SqInv.zero {A : Int} {j : Nat} {r L : Int} (hA : 0 ≤ A) (h : SqInv A j r L) (hj : j ≤ 63) (c : 4 * L + A / 2 ^ (2 * j) % 4 < 4 * r + 1) :
    (2 * r) * (2 * r) + (4 * L + A / 2 ^ (2 * j) % 4) = A / 2 ^ (2 * j) ∧ 4 * L + A / 2 ^ (2 * j) % 4 ≤ 2 * (2 * r) ∧ 2 * r < 2 ^ (64 - j) := by
  have s := h.sum
  rw [quad_div A j hA] at s
  have l := h.lt
  have e : (2 : Int) ^ (64 - j) = 2 ^ (63 - j) * 2 := by rw [show 64 - j = (63 - j) + 1 from by omega, Int.pow_succ]
  rw [sq_mul2, e]
  generalize (2 : Int) ^ (63 - j) = P at *
  generalize A / 2 ^ (2 * j) = N at *
  generalize r * r = R at *
  exact ⟨by omega, by omega, by omega⟩
/-- One round: the bit is 1. -/
theorem SqInv.one {A : Int} {j : Nat} {r L : Int} (hA : 0 ≤ A) (h : SqInv A j r L) (hj : j ≤ 63) (c : 4 * r + 1 ≤ 4 * L + A / 2 ^ (2 * j) % 4) :
    (2 * r + 1) * (2 * r + 1) + (4 * L + A / 2 ^ (2 * j) % 4 - (4 * r + 1)) = A / 2 ^ (2 * j) ∧ 4 * L + A / 2 ^ (2 * j) % 4 - (4 * r + 1) ≤ 2 * (2 * r + 1) ∧ 2 * r + 1 < 2 ^ (64 - j) := by
  have s := h.sum
  rw [quad_div A j hA] at s
  have l := h.lt
  have l2 := h.le
  have e : (2 : Int) ^ (64 - j) = 2 ^ (63 - j) * 2 := by rw [show 64 - j = (63 - j) + 1 from by omega, Int.pow_succ]
  rw [sq_mul21, e]
  generalize (2 : Int) ^ (63 - j) = P at *
  generalize A / 2 ^ (2 * j) = N at *
  generalize r * r = R at *
  exact ⟨by omega, by omega, by omega⟩
/-- What holds of the root and of what is left, behind the pair number j. -/
structure SqNext (A : Int) (j : Nat) (r L : Int) : Prop where
  sum : r * r + L = A / 2 ^ (2 * j)
  le : L ≤ 2 * r
  lt : r < 2 ^ (64 - j)
theorem SqInv.next0 {A : Int} {j : Nat} {r L X : Int} (hA : 0 ≤ A) (h : SqInv A j r L) (hj : j ≤ 63) (hX : X = 4 * L + A / 2 ^ (2 * j) % 4) (c : 4 * L + A / 2 ^ (2 * j) % 4 < 4 * r + 1) : SqNext A j (r * 2) X := by
  obtain ⟨a, b, d⟩ := h.zero hA hj c
  rw [← hX] at a b
  rw [Int.mul_comm r 2]
  exact ⟨a, b, d⟩
theorem SqInv.next1 {A : Int} {j : Nat} {r L X : Int} (hA : 0 ≤ A) (h : SqInv A j r L) (hj : j ≤ 63) (hX : X = 4 * L + A / 2 ^ (2 * j) % 4 - (4 * r + 1)) (c : 4 * r + 1 ≤ 4 * L + A / 2 ^ (2 * j) % 4) : SqNext A j (r * 2 + 1) X := by
  obtain ⟨a, b, d⟩ := h.one hA hj c
  rw [← hX] at a b
  rw [Int.mul_comm r 2]
  exact ⟨a, b, d⟩
theorem SqNext.inv {A : Int} {j : Nat} {r L : Int} (h : SqNext A j r L) (hj : j ≤ 63) (hj0 : j ≠ 0) : SqInv A (j - 1) r L :=
  ⟨by rw [h.sum, show 2 * (j - 1) + 2 = 2 * j from by omega], h.le, by have := h.lt; rw [show 63 - (j - 1) = 64 - j from by omega]; exact this⟩
theorem SqNext.fin {A r L : Int} (h : SqNext A 0 r L) : r * r + L = A ∧ L ≤ 2 * r := by
  refine ⟨?_, h.le⟩
  have := h.sum
  simpa using this
theorem sq_start (A : Int) (h0 : 0 ≤ A) (h1 : A < 340282366920938463463374607431768211456) : SqInv A 63 0 0 :=
  ⟨by have e : (2 : Int) ^ (2 * 63 + 2) = 340282366920938463463374607431768211456 := by decide
      rw [e]; omega, by decide, by decide⟩

/-- What the memory holds while a root is reckoned: the number, the place of the answer, what is left. -/
structure SqMem (n : Nat) (ah al lh ll : Int) (w : World) : Prop where
  s0 : n < w.heap.size
  s1 : n + 1 < w.heap.size
  s2 : n + 1 + 1 < w.heap.size
  c0 : w.cell? ⟨n, 0, none⟩ = some (.int .u64 ah)
  c1 : w.cell? ⟨n, 1, none⟩ = some (.int .u64 al)
  d0 : ∃ x, w.cell? ⟨n + 1, 0, none⟩ = some (.int .u64 x)
  d1 : ∃ x, w.cell? ⟨n + 1, 1, none⟩ = some (.int .u64 x)
  e0 : w.cell? ⟨n + 1 + 1, 0, none⟩ = some (.int .u64 lh)
  e1 : w.cell? ⟨n + 1 + 1, 1, none⟩ = some (.int .u64 ll)
  f10 : w.frozen? ⟨n + 1, 0, none⟩ = false
  f11 : w.frozen? ⟨n + 1, 1, none⟩ = false
  f20 : w.frozen? ⟨n + 1 + 1, 0, none⟩ = false
  f21 : w.frozen? ⟨n + 1 + 1, 1, none⟩ = false

theorem SqMem.below {n : Nat} {ah al lh ll : Int} {W w1 : World} (h : SqMem n ah al lh ll W) (hb : Below W.heap.size W w1) : SqMem n ah al lh ll w1 := by
  obtain ⟨hc, hf⟩ := bcell hb
  have hs := hb.size
  refine ⟨by have := h.s0; omega, by have := h.s1; omega, by have := h.s2; omega, ?_, ?_, ?_, ?_, ?_, ?_, ?_, ?_, ?_, ?_⟩
  · rw [hc _ _ h.s0]; exact h.c0
  · rw [hc _ _ h.s0]; exact h.c1
  · rw [hc _ _ h.s1]; exact h.d0
  · rw [hc _ _ h.s1]; exact h.d1
  · rw [hc _ _ h.s2]; exact h.e0
  · rw [hc _ _ h.s2]; exact h.e1
  · rw [hf _ _ h.s1]; exact h.f10
  · rw [hf _ _ h.s1]; exact h.f11
  · rw [hf _ _ h.s2]; exact h.f20
  · rw [hf _ _ h.s2]; exact h.f21

theorem SqMem.alloc {n : Nat} {ah al lh ll : Int} {W : World} (h : SqMem n ah al lh ll W) (o : Obj) : SqMem n ah al lh ll (W.alloc o) :=
  h.below ((Below.refl _ _).alloc (Nat.le_refl _) o)
theorem SqMem.set {n : Nat} {ah al lh ll : Int} {W : World} (h : SqMem n ah al lh ll W) (x y : Int) : SqMem n ah al x y ((W.setCell ⟨n + 1 + 1, 0, none⟩ (.int .u64 x)).setCell ⟨n + 1 + 1, 1, none⟩ (.int .u64 y)) := by
  obtain ⟨s0, s1, s2, c0, c1, ⟨x0, d0⟩, ⟨x1, d1⟩, e0, e1, f10, f11, f20, f21⟩ := h
  refine ⟨by simpa using s0, by simpa using s1, by simpa using s2, ?_, ?_, ⟨x0, ?_⟩, ⟨x1, ?_⟩, ?_, ?_, ?_, ?_, ?_, ?_⟩ <;> simp [go_sem, *]
theorem SqMem.set1 {n : Nat} {ah al lh ll : Int} {W : World} (h : SqMem n ah al lh ll W) (y : Int) : SqMem n ah al lh y (W.setCell ⟨n + 1 + 1, 1, none⟩ (.int .u64 y)) := by
  obtain ⟨s0, s1, s2, c0, c1, ⟨x0, d0⟩, ⟨x1, d1⟩, e0, e1, f10, f11, f20, f21⟩ := h
  refine ⟨by simpa using s0, by simpa using s1, by simpa using s2, ?_, ?_, ⟨x0, ?_⟩, ⟨x1, ?_⟩, ?_, ?_, ?_, ?_, ?_, ?_⟩ <;> simp [go_sem, *]
theorem SqMem.drew {n : Nat} {ah al lh ll : Int} {W : World} (h : SqMem n ah al lh ll W) : SqMem n ah al lh ll W.drew := by
  obtain ⟨s0, s1, s2, c0, c1, ⟨x0, d0⟩, ⟨x1, d1⟩, e0, e1, f10, f11, f20, f21⟩ := h
  exact ⟨s0, s1, s2, c0, c1, ⟨x0, d0⟩, ⟨x1, d1⟩, e0, e1, f10, f11, f20, f21⟩

end Go.Proofs.YtlmcopeongkppaaDoor

namespace Go.Proofs.YtlmcopeongkppaaDoor
open Go.RowKit
set_option linter.unusedVariables false

theorem word_zero : Word 0 := ⟨by decide, by decide⟩
theorem below_set {n o : Nat} {w w' : World} (h : Below n w w') (v : Value) : Below n w (w'.setCell ⟨n + 1 + 1, o, none⟩ v) := h.setCell (by show n ≤ n + 1 + 1; omega) v
theorem below_set1 {n o : Nat} {w w' : World} (h : Below n w w') (v : Value) : Below n w (w'.setCell ⟨n + 1, o, none⟩ v) := h.setCell (by show n ≤ n + 1; omega) v
theorem two_of (j : Nat) : (2 * (j : Int)).toNat = 2 * j := by omega
theorem cmpN_neg {a b n : Int} (h : n = cmpN a b) (c : a < b) : n = -1 := by rw [h]; exact (cmpN_lt c).symm
theorem cmpN_nonneg {a b n : Int} (h : n = cmpN a b) (c : b ≤ a) : 0 ≤ n := by
  rw [h]; unfold cmpN; rw [if_neg (by omega)]; split <;> omega

/-- What holds at the label: the frame, the root, what is left. -/
def SqJ (w : World) (ah al : Int) (a' : Act) (w' : World) : Prop := ∃ (j : Nat) (r lh ll : Int) (u7 u8 u9 u10 u11 u12 u13 u14 u15 u16 u17 u18 u19 u20 u21 u22 u23 u24 u25 u26 u27 u28 u29 u30 u31 u32 u33 u34 u35 u36 u37 u38 u39 u40 u41 u42 u43 u44 u45 u46 u47 u48 u49 : Value), a' = { tmps := #[.agg #[.int .u64 ah, .int .u64 al], .pointer (some ⟨w.heap.size, 0, none⟩), .int .u64 0, .pointer (some ⟨w.heap.size + 1, 0, none⟩), .int .u64 r, .pointer (some ⟨w.heap.size + 1 + 1, 0, none⟩), .int .i64 (2 * j), u7, u8, u9, u10, u11, u12, u13, u14, u15, u16, u17, u18, u19, u20, u21, u22, u23, u24, u25, u26, u27, u28, u29, u30, u31, u32, u33, u34, u35, u36, u37, u38, u39, u40, u41, u42, u43, u44, u45, u46, u47, u48, u49, undef, undef], defers := [] } ∧ j ≤ 63 ∧ Word r ∧ Word lh ∧ Word ll ∧ SqInv (num ah al) j r (num lh ll) ∧ SqMem w.heap.size ah al lh ll w' ∧ Below w.heap.size w w'
def SqMu (a' : Act) (_ : World) : Nat := (intOf (a'.tmps.getD 6 undef)).toNat
/-- The code behind the label. -/
def restOf (f : Func) : Code := match f.body with | some (.seq _ (.scope c)) => (findLabel c 0).getD .skip | some (.scope c) => (findLabel c 0).getD .skip | _ => .skip
def bodyOf (f : Func) : Code := match restOf f with | .seq _ c => c | c => c
theorem jump_weak {l : Nat} {J : Act → World → Prop} {m : Act → World → Prop} {Q : Exit → Act → World → Prop} : ∀ (e : Exit) (a : Act) (w : World), Exit.jump l (fun a' w' => J a' w' ∧ m a' w') Q e a w → Exit.jump l J Q e a w := by
  intro e a w h
  cases e <;> first | exact h | exact ⟨h.1, h.2.1⟩
theorem jump_ret {l : Nat} {J : Act → World → Prop} {Q : Exit → Act → World → Prop} {a : Act} {w : World} (h : Q .ret a w) : Exit.jump l J Q .ret a w := h

end Go.Proofs.YtlmcopeongkppaaDoor

namespace Go.Proofs.YtlmcopeongkppaaDoor
open Go.RowKit
set_option linter.unusedVariables false

/-! ### The number of bits -/
theorem bitLenAux_spec : ∀ (f x : Nat), x < 2 ^ f → Lib.bitLenAux f x ≤ f ∧ x < 2 ^ Lib.bitLenAux f x ∧ (x = 0 ∨ 2 ^ Lib.bitLenAux f x ≤ 2 * x) ∧ (x = 0 → Lib.bitLenAux f x = 0)
  | 0, x, h => by
    have : x = 0 := by omega
    subst this
    simp [Lib.bitLenAux]
  | f + 1, x, h => by
    unfold Lib.bitLenAux
    by_cases h0 : x = 0
    · subst h0; simp
    · rw [if_neg h0]
      have hx : x / 2 < 2 ^ f := by rw [Nat.pow_succ] at h; omega
      obtain ⟨a, b, c, d⟩ := bitLenAux_spec f (x / 2) hx
      refine ⟨by omega, ?_, Or.inr ?_, fun e => absurd e h0⟩
      · rw [Nat.pow_add]; omega
      · rw [Nat.pow_add]
        rcases c with c | c
        · rw [d c]; omega
        · omega
/-- How many bits a number has: n is above it, half of n is not. -/
def IsLen (n A : Int) : Prop := 0 ≤ n ∧ n ≤ 128 ∧ A < 2 ^ n.toNat ∧ (A = 0 ∨ 2 ^ n.toNat ≤ 2 * A) ∧ (A = 0 → n = 0)
theorem isLen_low (a : Int) (ha : Word a) : IsLen (Lib.bitLen a.toNat : Int) (num 0 a) ∧ (Lib.bitLen a.toNat : Int) ≤ 64 := by
  obtain ⟨x, rfl⟩ := Int.eq_ofNat_of_zero_le ha.1
  have hx := ha.2
  obtain ⟨a, b, c, d⟩ := bitLenAux_spec 64 x (by omega)
  have e : ∀ k : Nat, (2 : Int) ^ k = ((2 ^ k : Nat) : Int) := fun k => by simp
  unfold IsLen num Lib.bitLen
  simp only [Int.toNat_natCast, e]
  generalize 2 ^ Lib.bitLenAux 64 x = P at *
  refine ⟨⟨by omega, by omega, by omega, ?_, ?_⟩, by omega⟩
  · rcases c with c | c
    · left; omega
    · right; omega
  · intro h; have := d (by omega); omega
theorem isLen_high (h l : Int) (hh : Word h) (hl : Word l) (h0 : h ≠ 0) : IsLen (64 + (Lib.bitLen h.toNat : Int)) (num h l) := by
  obtain ⟨x, rfl⟩ := Int.eq_ofNat_of_zero_le hh.1
  obtain ⟨y, rfl⟩ := Int.eq_ofNat_of_zero_le hl.1
  have hx := hh.2
  have hy := hl.2
  obtain ⟨a, b, c, d⟩ := bitLenAux_spec 64 x (by omega)
  have e : ∀ k : Nat, (2 : Int) ^ k = ((2 ^ k : Nat) : Int) := fun k => by simp
  unfold IsLen num Lib.bitLen
  have t : (64 + ((Lib.bitLenAux 64 (x : Int).toNat : Nat) : Int)).toNat = 64 + Lib.bitLenAux 64 x := by simp only [Int.toNat_natCast]; omega
  rw [t, e, Nat.pow_add]
  simp only [Int.toNat_natCast]
  rcases c with c | c
  · exact absurd (by omega) h0
  generalize 2 ^ Lib.bitLenAux 64 x = P at *
  refine ⟨by omega, by omega, by omega, Or.inr (by omega), fun h => by omega⟩

theorem len64 (x : Int) (hx : Word x) (w : World) : Calls Tryd.prog 39 #[.int .u64 x] w fun e w' => e = .returned (.int .i64 (Lib.bitLen x.toNat)) ∧ w' = w :=
  Tryd.bits_Len64 x w hx.1 (by have := hx.2; omega)

theorem len_any (ah al : Int) (h1 : Word ah) (h2 : Word al) (w : World) :
    Calls Tryd.prog 21 #[.agg #[.int .u64 ah, .int .u64 al]] w fun e w' => ∃ n : Int, e = .returned (.int .i64 n) ∧ 0 ≤ n ∧ n ≤ 128 ∧ IsLen n (num ah al) ∧ Below w.heap.size w w' := by
  by_cases h0 : ah = 0
  · subst h0
    obtain ⟨i, _⟩ := isLen_low al h2
    go_enter Tryd.func21, Tryd.ntmps21
    go_wp2_with (go_at_call 39; refine (len64 al h2 _).mono ?_; rintro e w' ⟨rfl, rfl⟩)
    go_ret
    exact ⟨_, rfl, i.1, i.2.1, i, (Below.refl _ _).alloc (Nat.le_refl _) _⟩
  · have i := isLen_high ah al h1 h2 h0
    have b := (isLen_low ah h1).2
    have b0 : 0 ≤ (Lib.bitLen ah.toNat : Int) := Int.natCast_nonneg _
    go_enter Tryd.func21, Tryd.ntmps21
    go_wp2_with (go_at_call 39; refine (len64 ah h1 _).mono ?_; rintro e w' ⟨rfl, rfl⟩)
    go_ret
    exact ⟨_, rfl, i.1, i.2.1, i, (Below.refl _ _).alloc (Nat.le_refl _) _⟩

theorem cell_past {w : World} {a : Addr} {v : Value} (h : w.cell? a = some v) (o : Obj) : (w.alloc o).cell? a = some v := (World.cell?_alloc_some w a o (by rw [h]; rfl)).trans h

end Go.Proofs.YtlmcopeongkppaaDoor

namespace Go.Proofs.YtlmcopeongkppaaDoor
open Go.RowKit
set_option linter.unusedVariables false

theorem cell_on {W w1 : World} (hb : Below W.heap.size W w1) {a : Addr} {v : Value} (h : W.cell? a = some v) : w1.cell? a = some v := by
  rw [hb.cell (World.block_lt_of_cell? W a h)]; exact h
theorem cell_new0 (w : World) (x y : Value) (t : TypeId) : (w.alloc (.cells #[x, y] t)).cell? ⟨w.heap.size, 0, none⟩ = some x := by simp [go_sem]
theorem cell_new1 (w : World) (x y : Value) (t : TypeId) : (w.alloc (.cells #[x, y] t)).cell? ⟨w.heap.size, 1, none⟩ = some y := by simp [go_sem]
theorem below_on {n : Nat} {w W w1 : World} (h : Below n w W) (hn : n ≤ W.heap.size) (hb : Below W.heap.size W w1) : Below n w w1 := h.trans (hb.mono hn)
theorem below_new {w W : World} (h : Below w.heap.size w W) (o : Obj) : Below w.heap.size w (W.alloc o) := h.alloc h.size o
theorem below_call {w W w1 : World} (h : Below w.heap.size w W) (hb : Below W.heap.size W w1) : Below w.heap.size w w1 := h.trans (hb.mono h.size)
theorem lt_new {w1 : World} {b o : Nat} {v : Value} (h : w1.cell? ⟨b, o, none⟩ = some v) : b < w1.heap.size := World.block_lt_of_cell? w1 ⟨b, o, none⟩ h

end Go.Proofs.YtlmcopeongkppaaDoor

namespace Go.Proofs.YtlmcopeongkppaaDoor
open Go.RowKit
set_option linter.unusedVariables false

theorem lz64 (y : Int) (hy : Word y) (h0 : y ≠ 0) (w : World) : Calls Tryd.prog 56 #[.int .u64 y] w fun e w' => ∃ s : Int, e = .returned (.int .i64 s) ∧ 0 ≤ s ∧ s ≤ 63 ∧ Hid (9223372036854775808 ≤ y * 2 ^ s.toNat ∧ y * 2 ^ s.toNat < 18446744073709551616) ∧ w' = w := by
  refine (Tryd.bits_LeadingZeros64 y w hy.1 (by have := hy.2; omega)).mono ?_
  rintro e w' ⟨rfl, rfl⟩
  obtain ⟨x, rfl⟩ := Int.eq_ofNat_of_zero_le hy.1
  have hx := hy.2
  obtain ⟨a, b, c, d⟩ := bitLenAux_spec 64 x (by omega)
  rw [Int.toNat_natCast]
  show ∃ s : Int, Ending.returned (.int .i64 (64 - ((Lib.bitLenAux 64 x : Nat) : Int))) = _ ∧ _
  generalize Lib.bitLenAux 64 x = n at *
  have hn : n ≠ 0 := by rintro rfl; rw [Nat.pow_zero] at b; omega
  refine ⟨_, rfl, by omega, by omega, ?_, rfl⟩
  have e : (64 - (n : Int)).toNat = 64 - n := by omega
  rw [e]
  have c1 : (x : Int) * 2 ^ (64 - n) = ((x * 2 ^ (64 - n) : Nat) : Int) := by simp
  show _ ∧ _
  rw [c1]
  have pp := pow_split (n := n) a
  have p2 := pow_pos' (64 - n)
  have l : x * 2 ^ (64 - n) < 2 ^ n * 2 ^ (64 - n) := Nat.mul_lt_mul_of_pos_right b p2
  have g : 2 ^ n * 2 ^ (64 - n) ≤ (2 * x) * 2 ^ (64 - n) := Nat.mul_le_mul_right _ (c.resolve_left (by omega))
  rw [pp, Nat.mul_assoc] at g
  rw [pp] at l
  omega

/-! ### One half of the quotient: a digit of 32 bits -/
/-- What holds of a guess q at the digit Q, with its rest p. (U: what is divided, D: the next digit, V and X: the halves of what it is by.) -/
structure Half (U V X D Q q p : Int) : Prop where
  sum : q * V + p = U
  le : Q ≤ q
  p0 : 0 ≤ p
  p1 : p < 4294967296
  q0 : 0 ≤ q
  q1 : q ≤ 4294967297
/-- Q is the digit. -/
structure Digit (U V X D Q : Int) : Prop where
  V0 : 2147483648 ≤ V
  V1 : V < 4294967296
  X0 : 0 ≤ X
  X1 : X < 4294967296
  D0 : 0 ≤ D
  D1 : D < 4294967296
  U0 : 0 ≤ U
  U1 : U < V * 4294967296 + X
  Q0 : 0 ≤ Q
  lo : Q * (V * 4294967296 + X) ≤ U * 4294967296 + D
  hi : U * 4294967296 + D < Q * (V * 4294967296 + X) + (V * 4294967296 + X)
theorem yy_mul (q V X : Int) : q * (V * 4294967296 + X) = q * V * 4294967296 + q * X := by rw [Int.mul_add, Int.mul_assoc]
theorem Digit.mono {U V X D Q : Int} (h : Digit U V X D Q) {a b : Int} (l : a ≤ b) : a * (V * 4294967296 + X) ≤ b * (V * 4294967296 + X) :=
  Int.mul_le_mul_of_nonneg_right l (by have := h.V0; have := h.X0; omega)
theorem Digit.lt {U V X D Q : Int} (h : Digit U V X D Q) : Q < 4294967296 := by
  by_cases c : Q < 4294967296
  · exact c
  · have m := h.mono (show (4294967296 : Int) ≤ Q by omega)
    have a := h.lo; have b := h.U1; have d := h.D1
    omega
theorem Digit.start {U V X D Q : Int} (h : Digit U V X D Q) : Half U V X D Q (U / V) (U - U / V * V) := by
  have v0 := h.V0; have u0 := h.U0
  have vp : 0 < V := by omega
  have e := Int.mul_ediv_add_emod U V
  have l := Int.emod_lt_of_pos U vp
  have g := Int.emod_nonneg U (show V ≠ 0 by omega)
  have qn : 0 ≤ U / V := Int.ediv_nonneg u0 (by omega)
  rw [Int.mul_comm] at e
  generalize hq : U / V = q at *
  have v1 := h.V1
  refine ⟨by omega, ?_, by omega, by omega, qn, ?_⟩
  · by_cases c : Q ≤ q
    · exact c
    · have m := h.mono (show q + 1 ≤ Q by omega)
      have e1 : (q + 1) * V = q * V + V := by rw [Int.add_mul, Int.one_mul]
      have e2 : (q + 1) * X = q * X + X := by rw [Int.add_mul, Int.one_mul]
      rw [yy_mul, e1, e2] at m
      have qx : 0 ≤ q * X := Int.mul_nonneg qn h.X0
      have a := h.lo; have x0 := h.X0; have d1 := h.D1
      omega
  · by_cases c : q ≤ 4294967297
    · exact c
    · have m : 4294967298 * V ≤ q * V := Int.mul_le_mul_of_nonneg_right (by omega) (by omega)
      have a := h.U1; have x1 := h.X1
      omega
theorem Half.down1 {U V X D Q q p : Int} (h : Digit U V X D Q) (i : Half U V X D Q q p) (c : 4294967296 ≤ q) : Q ≤ q - 1 := by
  have := h.lt; omega
theorem Half.down2 {U V X D Q q p : Int} (h : Digit U V X D Q) (i : Half U V X D Q q p) (c : 4294967296 * p + D < q * X) : Q ≤ q - 1 := by
  by_cases k : Q ≤ q - 1
  · exact k
  · have m := h.mono (show q ≤ Q by omega)
    rw [yy_mul q] at m
    have s := i.sum; have a := h.lo
    omega
theorem Half.next {U V X D Q q p : Int} (h : Digit U V X D Q) (i : Half U V X D Q q p) (k : Q ≤ q - 1) (c : p + V < 4294967296) : Half U V X D Q (q - 1) (p + V) := by
  have s := i.sum; have a := i.p0; have v := h.V0; have q0 := h.Q0; have q1 := i.q1
  refine ⟨?_, k, by omega, c, by omega, by omega⟩
  rw [Int.sub_mul, Int.one_mul]; omega
theorem Half.fin {U V X D Q q p : Int} (h : Digit U V X D Q) (i : Half U V X D Q q p) (c : ¬ 4294967296 * p + D < q * X) : q = Q := by
  have l := i.le
  by_cases k : q ≤ Q
  · omega
  · have m := h.mono (show Q + 1 ≤ q by omega)
    rw [yy_mul q, Int.add_mul, Int.one_mul] at m
    have s := i.sum; have a := h.hi
    omega
theorem Half.brk {U V X D Q q p : Int} (h : Digit U V X D Q) (i : Half U V X D Q q p) (k : Q ≤ q - 1) (c : 4294967296 ≤ p + V) : q - 1 = Q := by
  by_cases j : q - 1 ≤ Q
  · omega
  · have m := h.mono (show Q + 1 ≤ q - 1 by omega)
    rw [yy_mul (q - 1), Int.add_mul, Int.one_mul, Int.sub_mul q 1 V, Int.one_mul] at m
    have s := i.sum; have a := h.hi
    have qx : (q - 1) * X ≤ 4294967296 * X := Int.mul_le_mul_of_nonneg_right (by have := i.q1; omega) h.X0
    have x1 := h.X1
    have d0 := h.D0
    omega
/-- There is such a digit. -/
theorem digit_of {U V X D : Int} (V0 : 2147483648 ≤ V) (V1 : V < 4294967296) (X0 : 0 ≤ X) (X1 : X < 4294967296) (D0 : 0 ≤ D) (D1 : D < 4294967296) (U0 : 0 ≤ U) (U1 : U < V * 4294967296 + X) :
    Digit U V X D ((U * 4294967296 + D) / (V * 4294967296 + X)) := by
  have yp : 0 < V * 4294967296 + X := by omega
  have e := Int.mul_ediv_add_emod (U * 4294967296 + D) (V * 4294967296 + X)
  have l := Int.emod_lt_of_pos (U * 4294967296 + D) yp
  have g := Int.emod_nonneg (U * 4294967296 + D) (show V * 4294967296 + X ≠ 0 by omega)
  have qn : 0 ≤ (U * 4294967296 + D) / (V * 4294967296 + X) := Int.ediv_nonneg (by omega) (by omega)
  rw [Int.mul_comm] at e
  exact ⟨V0, V1, X0, X1, D0, D1, U0, U1, qn, by omega, by omega⟩

theorem half_mul {q X : Int} (q0 : 0 ≤ q) (q1 : q < 4294967296) (X0 : 0 ≤ X) (X1 : X < 4294967296) : 0 ≤ q * X ∧ q * X < 18446744073709551616 := by
  have a : 0 ≤ q * X := Int.mul_nonneg q0 X0
  have b : q * X ≤ 4294967295 * 4294967295 := Int.mul_le_mul (by omega) (by omega) X0 (by decide)
  omega
theorem u64_eq {a b : Int} (h : a = b) : Value.int IntKind.u64 a = Value.int IntKind.u64 b := by rw [h]
theorem and_mask (x : Int) (hx : Word x) : bits BinOp.and IntKind.u64 x 4294967295 = x % 4294967296 := by
  obtain ⟨a, rfl⟩ := Int.eq_ofNat_of_zero_le hx.1
  have ha := hx.2
  have t := bits_and_u64_nat a 4294967295 (by omega) (by omega)
  have e : a &&& 4294967295 = a % 4294967296 := Nat.and_two_pow_sub_one_eq_mod a 32
  rw [e] at t
  have t' : bits BinOp.and IntKind.u64 (a : Int) 4294967295 = ((a % 4294967296 : Nat) : Int) := t
  rw [t']; omega

theorem ret2_eq {a b c d : Int} (h : a = b) (h' : c = d) : Ending.returned (.tuple #[.int .u64 a, .int .u64 c]) = .returned (.tuple #[.int .u64 b, .int .u64 d]) := by rw [h, h']
/-- The two digits are the quotient, and what is left, moved back, the rest. -/
theorem div64_fin (A y pw U T D E Q R P Z Y NN : Int) (pp : 0 < pw) (hN : A * pw = NN) (hY : y * pw = Y) (g : num U T = NN) (eT : T = D * 4294967296 + E) (hR : U * 4294967296 + D - Q * Y = R) (hZ : R * 4294967296 + E - P * Y = Z) (Z0 : 0 ≤ Z) (Z1 : Z < Y) :
    Q * 4294967296 + P = A / y ∧ Z / pw = A % y := by
  have yp : 0 < Y := by omega
  have e : Z + Y * (Q * 4294967296 + P) = NN := by
    have e1 : Y * (Q * 4294967296 + P) = Q * Y * 4294967296 + P * Y := by
      rw [Int.mul_add, Int.mul_comm Y P, ← Int.mul_assoc, Int.mul_comm Y Q]
    rw [e1, ← g, ← hZ, ← hR, eT]
    unfold num
    omega
  obtain ⟨q, r⟩ := (Int.ediv_emod_unique yp).2 ⟨e, Z0, Z1⟩
  constructor
  · rw [← q, ← hN, ← hY, Int.mul_ediv_mul_of_pos_left _ _ pp]
  · rw [← r, ← hN, ← hY, Int.mul_comm A pw, Int.mul_comm y pw, Int.mul_emod_mul_of_pos _ _ pp, Int.mul_ediv_cancel_left _ (by omega)]

set_option maxHeartbeats 3200000 in
theorem div64_main (hi lo y : Int) (h1 : Word hi) (h2 : Word lo) (h3 : Word y) (h0 : 0 < hi) (hlt : hi < y) (w : World) :
    Calls Tryd.prog 40 #[.int .u64 hi, .int .u64 lo, .int .u64 y] w fun e w' => e = .returned (.tuple #[.int .u64 (num hi lo / y), .int .u64 (num hi lo % y)]) ∧ w' = w := by
  have y0 : (y == 0) = false := by simp; omega
  have y1 : ¬ y ≤ hi := by omega
  have y2 : (hi == 0) = false := by simp; omega
  obtain ⟨a1, a2⟩ := id h1; obtain ⟨b1, b2⟩ := id h2; obtain ⟨d1, d2⟩ := id h3
  go_enter Tryd.func40, Tryd.ntmps40
  go_wp2_with fail
  refine (lz64 y h3 (by omega) _).mono ?_
  rintro e w1 ⟨s, rfl, s0, s1, S, rfl⟩
  obtain ⟨Y0, Y1⟩ := S.out
  obtain ⟨g1, g2, g3⟩ := shl_small hi lo s h1 h2 s0 (by omega)
  have pp : (0 : Int) < 2 ^ s.toNat := Int.pow_pos (by decide)
  have gl : num hi lo * 2 ^ s.toNat < y * 2 ^ s.toNat * 18446744073709551616 := by
    have : num hi lo < y * 18446744073709551616 := by unfold num; omega
    have := Int.mul_lt_mul_of_pos_right this pp
    rw [Int.mul_right_comm] at this; exact this
  have gn : 0 ≤ num hi lo * 2 ^ s.toNat := Int.mul_nonneg (num_lo h1 h2) (by omega)
  have qY : IntKind.u64.wrap (y * 2 ^ s.toNat) = y * 2 ^ s.toNat := by rw [IntKind.wrap_u64]; omega
  rw [Int.emod_eq_of_lt gn (by omega)] at g3
  generalize hN : num hi lo * 2 ^ s.toNat = NN at *
  generalize hY : y * 2 ^ s.toNat = Y at *
  generalize hU : bits BinOp.or IntKind.u64 (IntKind.u64.wrap (hi * 2 ^ s.toNat)) (lo / 2 ^ (64 - s).toNat) = U at *
  generalize hT : IntKind.u64.wrap (lo * 2 ^ s.toNat) = T at *
  have qA := and_mask Y ⟨by omega, Y1⟩
  have qB := and_mask T g2
  obtain ⟨u0, u1⟩ := g1
  obtain ⟨t0, t1⟩ := g2
  have U1 : U < Y := by unfold num at g3; omega
  have qY2 : IntKind.u64.wrap (y * 2 ^ s.toNat) = Y := by rw [hY]; exact qY
  have HN : Hid _ := hN
  have HY : Hid _ := hY
  have G3 : Hid _ := g3
  clear hN hY g3 gl gn qY
  have v0 : 2147483648 ≤ Y / 4294967296 := by omega
  have v1 : Y / 4294967296 < 4294967296 := by omega
  have x0 : 0 ≤ Y % 4294967296 := by omega
  have x1 : Y % 4294967296 < 4294967296 := by omega
  have eY : Y = Y / 4294967296 * 4294967296 + Y % 4294967296 := by omega
  have eT : T = T / 4294967296 * 4294967296 + T % 4294967296 := by omega
  have dd0 : 0 ≤ T / 4294967296 := by omega
  have dd1 : T / 4294967296 < 4294967296 := by omega
  have dd2 : 0 ≤ T % 4294967296 := by omega
  have dd3 : T % 4294967296 < 4294967296 := by omega
  have hV : ∃ V, Y / 4294967296 = V := ⟨_, rfl⟩
  have hX : ∃ X, Y % 4294967296 = X := ⟨_, rfl⟩
  have hD : ∃ D, T / 4294967296 = D := ⟨_, rfl⟩
  have hE : ∃ E, T % 4294967296 = E := ⟨_, rfl⟩
  obtain ⟨V, hV⟩ := hV
  obtain ⟨X, hX⟩ := hX
  obtain ⟨D, hD⟩ := hD
  obtain ⟨E, hE⟩ := hE
  rw [hV] at v0 v1 eY
  rw [hX] at x0 x1 eY qA
  rw [hD] at dd0 dd1 eT
  rw [hE] at dd2 dd3 eT qB
  have dg := digit_of v0 v1 x0 x1 dd0 dd1 u0 (by omega : U < V * 4294967296 + X)
  have st := dg.start
  generalize hQ : (U * 4294967296 + D) / (V * 4294967296 + X) = Q at dg st
  have b0 := st.p0
  have b3 : 0 ≤ U / V * V := Int.mul_nonneg st.q0 (by omega)
  have b4 : U / V * V ≤ U := by omega
  have EY : Hid _ := eY
  have ET : Hid _ := eT
  clear hQ eY eT
  go_upto_block 0 with fail
  go_cut [15, 16] from 67 to 85 (fun a b wx => a = .int .u64 Q ∧ wx = w1)
  case first =>
    go_wp2_with fail
    go_loop [15, 16] (fun a b => ∃ g p : Int, a = .int .u64 g ∧ b = .int .u64 p ∧ Half U V X D Q g p) (fun a _ => (intOf a).toNat)
    case atStart => exact ⟨_, _, rfl, rfl, st⟩
    case round =>
      obtain ⟨g, p, rfl, rfl, hI⟩ := hrel
      have p0 := hI.p0
      have p1 := hI.p1
      have g0 := hI.q0
      have g1 := hI.q1
      have HQ := dg.Q0
      by_cases c1 : 4294967296 ≤ g
      · have k := hI.down1 dg c1
        by_cases c3 : 4294967296 ≤ p + V
        · have f := hI.brk dg k c3
          have F : Hid _ := f
          clear f
          go_wp2_with fail
          go_meet
          exact ⟨u64_eq F.out, rfl⟩
        · have n := hI.next dg k (by omega)
          go_wp2_with fail
          go_round
          case rel => exact ⟨_, _, rfl, rfl, n⟩
          case measure => simp [intOf]; omega
      · obtain ⟨m0, m1⟩ := half_mul g0 (by omega) x0 x1
        by_cases c2 : 4294967296 * p + D < g * X
        · have k := hI.down2 dg c2
          by_cases c3 : 4294967296 ≤ p + V
          · have f := hI.brk dg k c3
            have F : Hid _ := f
            clear f
            go_wp2_with fail
            go_meet
            exact ⟨u64_eq F.out, rfl⟩
          · have n := hI.next dg k (by omega)
            go_wp2_with fail
            go_round
            case rel => exact ⟨_, _, rfl, rfl, n⟩
            case measure => simp [intOf]; omega
        · have f := hI.fin dg c2
          have F : Hid _ := f
          clear f
          go_wp2_with fail
          go_meet
          exact ⟨u64_eq F.out, rfl⟩
  case rest =>
    obtain ⟨rfl, rfl⟩ := hcut
    have R0 : 0 ≤ U * 4294967296 + D - Q * Y := by have := dg.lo; rw [← EY.out] at this; omega
    have R1 : U * 4294967296 + D - Q * Y < Y := by have := dg.hi; rw [← EY.out] at this; omega
    have h21 : IntKind.u64.wrap (IntKind.u64.wrap (IntKind.u64.wrap (U * 4294967296) + D) - IntKind.u64.wrap (Q * Y)) = U * 4294967296 + D - Q * Y := by
      simp only [IntKind.wrap_u64]; omega
    have Qlt := dg.lt
    have Qge := dg.Q0
    clear st b0 b3 b4
    generalize hR : U * 4294967296 + D - Q * Y = R at *
    have HR : Hid _ := hR
    clear hR
    have dg2 := digit_of v0 v1 x0 x1 dd2 dd3 R0 (by have := EY.out; omega : R < V * 4294967296 + X)
    have st2 := dg2.start
    generalize hP : (R * 4294967296 + E) / (V * 4294967296 + X) = P at dg2 st2
    have b0 := st2.p0
    have b3 : 0 ≤ R / V * V := Int.mul_nonneg st2.q0 (by omega)
    have b4 : R / V * V ≤ R := by omega
    clear hP
    go_upto_block 2 with fail
    go_cut [18, 16] from 102 to 120 (fun a b wx => a = .int .u64 P ∧ wx = wc)
    case first =>
      go_wp2_with fail
      go_loop [18, 16] (fun a b => ∃ g p : Int, a = .int .u64 g ∧ b = .int .u64 p ∧ Half R V X E P g p) (fun a _ => (intOf a).toNat)
      case atStart => exact ⟨_, _, rfl, rfl, st2⟩
      case round =>
        obtain ⟨g, p, rfl, rfl, hI⟩ := hrel
        have p0 := hI.p0
        have p1 := hI.p1
        have g0 := hI.q0
        have g1 := hI.q1
        have HQ := dg2.Q0
        by_cases c1 : 4294967296 ≤ g
        · have k := hI.down1 dg2 c1
          by_cases c3 : 4294967296 ≤ p + V
          · have f := hI.brk dg2 k c3
            have F : Hid _ := f
            clear f
            go_wp2_with fail
            go_meet
            exact ⟨u64_eq F.out, rfl⟩
          · have n := hI.next dg2 k (by omega)
            go_wp2_with fail
            go_round
            case rel => exact ⟨_, _, rfl, rfl, n⟩
            case measure => simp [intOf]; omega
        · obtain ⟨m0, m1⟩ := half_mul g0 (by omega) x0 x1
          by_cases c2 : 4294967296 * p + E < g * X
          · have k := hI.down2 dg2 c2
            by_cases c3 : 4294967296 ≤ p + V
            · have f := hI.brk dg2 k c3
              have F : Hid _ := f
              clear f
              go_wp2_with fail
              go_meet
              exact ⟨u64_eq F.out, rfl⟩
            · have n := hI.next dg2 k (by omega)
              go_wp2_with fail
              go_round
              case rel => exact ⟨_, _, rfl, rfl, n⟩
              case measure => simp [intOf]; omega
          · have f := hI.fin dg2 c2
            have F : Hid _ := f
            clear f
            go_wp2_with fail
            go_meet
            exact ⟨u64_eq F.out, rfl⟩
    case rest =>
      obtain ⟨rfl, rfl⟩ := hcut
      have Z0 : 0 ≤ R * 4294967296 + E - P * Y := by have := dg2.lo; rw [← EY.out] at this; omega
      have Z1 : R * 4294967296 + E - P * Y < Y := by have := dg2.hi; rw [← EY.out] at this; omega
      have h22 : IntKind.u64.wrap (IntKind.u64.wrap (IntKind.u64.wrap (R * 4294967296) + E) - IntKind.u64.wrap (P * Y)) = R * 4294967296 + E - P * Y := by
        simp only [IntKind.wrap_u64]; omega
      have Plt := dg2.lt
      have Pge := dg2.Q0
      clear st2 b0 b3 b4
      generalize hZ : R * 4294967296 + E - P * Y = Z at *
      have HZ : Hid _ := hZ
      clear hZ
      obtain ⟨F1, F2⟩ := div64_fin (num hi lo) y (2 ^ s.toNat) U T D E Q R P Z Y NN pp HN.out HY.out G3.out ET.out HR.out HZ.out Z0 Z1
      have K1 : Hid _ := F1
      have K2 : Hid _ := F2
      clear F1 F2
      go_wp2_with fail
      go_ret2
      exact ⟨ret2_eq K1.out K2.out, rfl⟩

set_option maxHeartbeats 800000 in
theorem div64_zero (lo y : Int) (h2 : Word lo) (h3 : Word y) (hlt : 0 < y) (w : World) :
    Calls Tryd.prog 40 #[.int .u64 0, .int .u64 lo, .int .u64 y] w fun e w' => e = .returned (.tuple #[.int .u64 (num 0 lo / y), .int .u64 (num 0 lo % y)]) ∧ ∃ n, w' = w.drewN n := by
  have y0 : (y == 0) = false := by simp; omega
  have y1 : ¬ y ≤ 0 := by omega
  have y2 : ¬ y = 0 := by omega
  obtain ⟨b1, b2⟩ := id h2; obtain ⟨d1, d2⟩ := id h3
  have e : num 0 lo = lo := by unfold num; omega
  rw [e]
  go_enter Tryd.func40, Tryd.ntmps40
  go_wp2_with fail
  go_region
  go_wp2_with fail
  go_ret2
  exact ⟨rfl, 1, rfl⟩

theorem div64_any (hi lo y : Int) (h1 : Word hi) (h2 : Word lo) (h3 : Word y) (hlt : hi < y) (w : World) :
    Calls Tryd.prog 40 #[.int .u64 hi, .int .u64 lo, .int .u64 y] w fun e w' => e = .returned (.tuple #[.int .u64 (num hi lo / y), .int .u64 (num hi lo % y)]) ∧ Below w.heap.size w w' := by
  by_cases c : hi = 0
  · subst c
    refine (div64_zero lo y h2 h3 hlt w).mono ?_
    rintro e w' ⟨rfl, n, rfl⟩
    exact ⟨rfl, by induction n with | zero => exact Below.refl _ _ | succ k ih => exact ih.drew⟩
  · refine (div64_main hi lo y h1 h2 h3 (by have := h1.1; omega) hlt w).mono ?_
    rintro e w' ⟨rfl, rfl⟩
    exact ⟨rfl, Below.refl _ _⟩

/-- The quotient by words. -/
theorem div_num (ah al b : Int) (h1 : Word ah) (h2 : Word al) (h3 : Word b) (hb : 0 < b) :
    Word (ah / b) ∧ Word (num (ah % b) al / b) ∧ Word (num (ah % b) al % b) ∧ num (ah / b) (num (ah % b) al / b) = num ah al / b ∧ num (ah % b) al % b = num ah al % b := by
  have e := Int.mul_ediv_add_emod ah b
  have l := Int.emod_lt_of_pos ah hb
  have g := Int.emod_nonneg ah (show b ≠ 0 by omega)
  have q0 : 0 ≤ ah / b := Int.ediv_nonneg h1.1 (by omega)
  have q1 : ah / b ≤ ah := Int.ediv_le_self _ h1.1
  have hM : num (ah % b) al < b * 18446744073709551616 := by unfold num Word at *; omega
  have hM0 : 0 ≤ num (ah % b) al := by unfold num Word at *; omega
  have e2 : num ah al = num (ah % b) al + b * (ah / b * 18446744073709551616) := by
    unfold num
    rw [← Int.mul_assoc]
    omega
  have d1 : num ah al / b = num (ah % b) al / b + ah / b * 18446744073709551616 := by
    rw [e2, Int.add_mul_ediv_left _ _ (by omega)]
  have d2 : num ah al % b = num (ah % b) al % b := by
    rw [e2, Int.add_mul_emod_self_left]
  have c1 : num (ah % b) al / b < 18446744073709551616 := Int.ediv_lt_of_lt_mul hb (by rw [Int.mul_comm]; exact hM)
  have c0 : 0 ≤ num (ah % b) al / b := Int.ediv_nonneg hM0 (by omega)
  have r1 := Int.emod_lt_of_pos (num (ah % b) al) hb
  have r0 := Int.emod_nonneg (num (ah % b) al) (show b ≠ 0 by omega)
  refine ⟨⟨q0, by have := h1.2; omega⟩, ⟨c0, c1⟩, ⟨r0, by have := h3.2; omega⟩, ?_, d2.symm⟩
  rw [d1]
  generalize num (ah % b) al / b = z
  unfold num
  omega

set_option maxHeartbeats 1600000 in
theorem div_zero (ah al : Int) (h1 : Word ah) (h2 : Word al) (w : World) :
    Calls Tryd.prog 22 #[.agg #[.int .u64 ah, .int .u64 al], .int .u64 0] w fun e w' => e = .returned (.tuple #[.agg #[.int .u64 0, .int .u64 0], .int .u64 0]) ∧ Below w.heap.size w w' := by
  go_enter Tryd.func22, Tryd.ntmps22
  go_wp2_with fail
  refine bodyPost_ret (v := .tuple #[.agg #[.int .u64 0, .int .u64 0], .int .u64 0]) (by simp [results, Tryd.results22, go_sem]) rfl ?_
  exact ⟨rfl, below_two _ _ _⟩
set_option maxRecDepth 100000 in
set_option maxHeartbeats 1600000 in
theorem div_pos (ah al b : Int) (h1 : Word ah) (h2 : Word al) (h3 : Word b) (hb : 0 < b) (w : World) :
    Calls Tryd.prog 22 #[.agg #[.int .u64 ah, .int .u64 al], .int .u64 b] w fun e w' => ∃ h l r : Int, e = .returned (.tuple #[.agg #[.int .u64 h, .int .u64 l], .int .u64 r]) ∧ Word h ∧ Word l ∧ Word r ∧ Hid (num h l = num ah al / b) ∧ Hid (r = num ah al % b) ∧ Below w.heap.size w w' := by
  obtain ⟨p1, p2, p3, p4, p5⟩ := div_num ah al b h1 h2 h3 hb
  have P4 : Hid _ := p4
  have P5 : Hid _ := p5
  clear p4 p5
  have b0 : ¬ b = 0 := by omega
  have b1 : (b == 0) = false := by simp; omega
  obtain ⟨a1, a2⟩ := id h1; obtain ⟨c1, c2⟩ := id h2; obtain ⟨d1, d2⟩ := id h3
  have qt : ah.tmod b = ah % b := Int.tmod_eq_emod_of_nonneg a1
  have qd : ah.tdiv b = ah / b := Int.tdiv_eq_ediv_of_nonneg a1
  have qw : IntKind.u64.wrap (ah / b) = ah / b := by rw [IntKind.wrap_u64]; have := p1.1; have := p1.2; omega
  have m0 : Word (ah % b) := ⟨Int.emod_nonneg ah b0, by have := Int.emod_lt_of_pos ah hb; omega⟩
  go_enter Tryd.func22, Tryd.ntmps22
  have L := (below_two w (.cells #[.int .u64 ah, .int .u64 al] 50) (.cells #[.int .u64 0, .int .u64 0] 50)).drew
  have e0 := cell_past (cell_new0 w (.int .u64 ah) (.int .u64 al) 50) (.cells #[.int .u64 0, .int .u64 0] 50)
  have e1 := cell_past (cell_new1 w (.int .u64 ah) (.int .u64 al) 50) (.cells #[.int .u64 0, .int .u64 0] 50)
  go_wp2_with fail
  go_region_held3 (fun w' => w'.cell? ⟨w.heap.size, 0, none⟩ = some (.int .u64 ah) ∧ w'.cell? ⟨w.heap.size, 1, none⟩ = some (.int .u64 al))
    (first | exact ⟨e0, e1⟩ | (simp [go_sem, *]; done))
    ((go_at_call 40; refine (div64_any (ah % b) al b m0 h2 h3 (Int.emod_lt_of_pos ah hb) _).mono ?_; rintro e w1 ⟨rfl, B1⟩; obtain ⟨hc, hf⟩ := bcell B1; replace e0 := cell_on B1 e0; replace e1 := cell_on B1 e1; replace L := below_call L B1))
  go_wp2_with fail
  refine bodyPost_ret (v := .tuple #[.agg #[.int .u64 (ah / b), .int .u64 (num (ah % b) al / b)], .int .u64 (num (ah % b) al % b)]) (by simp [results, Tryd.results22, go_sem, hc]) rfl ?_
  exact ⟨_, _, _, rfl, p1, p2, p3, P4, P5, (L.setCell (by simp) _).setCell (by simp) _⟩
end Go.Proofs.YtlmcopeongkppaaDoor

