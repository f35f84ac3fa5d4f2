/- Texts of the proof, put together. -/
import Derived.RowKit
import Derived.Laws.Bits64
import Derived.Laws.Bits64b
import Derived.Lib.Mul64
import Derived.Lib.BitFns
import Derived.Test.YteafnkimcidkhaaGreatRows
import Derived.Test.YteafnkimcidkhaaGreatShelf
import Derived.WalkKit
import Derived.WalkSpells
import Derived.StillTactics
import Derived.Laws.Pointers
import Derived.Laws.Externs
import Derived.Deep.RegionHeld3
import Derived.Below
import Derived.Shelf.Spec.BitsCarry
import Derived.BigQuiet
import Derived.Deep.QuietTactic
import Derived.Deep.DeepCutAuto
import Derived.ScopeJumps
import Derived.Deep.CutBlock
import Derived.Laws.BitsAllLaws
import Derived.Laws.EntriesVeiled
import Derived.Shelf.Abstract
namespace Go.Proofs.YteafnkimcidkhaaGreat
set_option linter.unusedVariables false

def Word (x : Int) : Prop := 0 ≤ x ∧ x < 18446744073709551616
def bor (x y : Int) : Int := if x < y then 1 else 0
theorem bor_lo (x y : Int) : 0 ≤ bor x y := by unfold bor; split <;> decide
theorem bor_hi (x y : Int) : bor x y ≤ 1 := by unfold bor; split <;> decide
theorem word_mod (x : Int) : Word (x % 18446744073709551616) := ⟨by omega, by omega⟩
def num (h l : Int) : Int := h * 18446744073709551616 + l
theorem num_lo {h l : Int} (a : Word h) (b : Word l) : 0 ≤ num h l := by unfold num Word at *; omega
theorem num_hi {h l : Int} (a : Word h) (b : Word l) : num h l < 340282366920938463463374607431768211456 := by unfold num Word at *; omega
theorem num_inj {h l h' l' : Int} (a : Word h) (b : Word l) (a' : Word h') (b' : Word l') (e : num h l = num h' l') : h = h' ∧ l = l' := by
 unfold num Word at *; omega
theorem num_of (n : Int) : num (n / 18446744073709551616) (n % 18446744073709551616) = n := by unfold num; omega
/-! ### Sums and differences -/
theorem add_num (ah al bh bl : Int) (h1 : Word ah) (h2 : Word al) (h3 : Word bh) (h4 : Word bl) :
  num ((ah + bh + (al + bl) / 18446744073709551616) % 18446744073709551616) ((al + bl) % 18446744073709551616) = (num ah al + num bh bl) % 340282366920938463463374607431768211456 := by
 unfold num Word at *; omega
theorem add_carry (ah al bh bl : Int) (h1 : Word ah) (h2 : Word al) (h3 : Word bh) (h4 : Word bl) :
  ((ah + bh + (al + bl) / 18446744073709551616) / 18446744073709551616 != 0) = decide (340282366920938463463374607431768211456 ≤ num ah al + num bh bl) := by
 rw [Bool.eq_iff_iff, bne_iff_ne, decide_eq_true_iff]
 unfold num Word at *; omega
theorem sub_num (ah al bh bl : Int) (h1 : Word ah) (h2 : Word al) (h3 : Word bh) (h4 : Word bl) :
  num ((ah - bh - bor al bl) % 18446744073709551616) ((al - bl) % 18446744073709551616) = (num ah al - num bh bl) % 340282366920938463463374607431768211456 := by
 unfold num Word bor at *; split <;> omega
theorem sub_borrow (ah al bh bl : Int) (h1 : Word ah) (h2 : Word al) (h3 : Word bh) (h4 : Word bl) :
  ((if ah < bh + bor al bl then (1 : Int) else 0) != 0) = decide (num ah al < num bh bl) := by
 rw [Bool.eq_iff_iff, bne_iff_ne, decide_eq_true_iff]
 unfold num Word bor at *; split <;> split <;> omega
/-! ### Moves -/
theorem pow_split {n : Nat} (h : n ≤ 64) : 2 ^ n * 2 ^ (64 - n) = 18446744073709551616 := by
 rw [← Nat.pow_add, Nat.add_sub_cancel' h]
theorem pow_pos' (n : Nat) : 0 < 2 ^ n := Nat.two_pow_pos n
theorem wrapN (a : Nat) : IntKind.u64.wrap (a : Int) = ((a % 18446744073709551616 : Nat) : Int) := by rw [IntKind.wrap_u64]; omega
theorem castShl (a k : Nat) : (a : Int) * 2 ^ k = ((a * 2 ^ k : Nat) : Int) := by simp
theorem castShr (a k : Nat) : (a : Int) / 2 ^ k = ((a / 2 ^ k : Nat) : Int) := by simp
theorem wshl (a k : Nat) : IntKind.u64.wrap ((a : Int) * 2 ^ k) = ((a * 2 ^ k % 18446744073709551616 : Nat) : Int) := by rw [castShl, wrapN]
theorem shl_min (a k : Nat) : a * 2 ^ min k 64 % 18446744073709551616 = a * 2 ^ k % 18446744073709551616 := by
 by_cases h : k ≤ 64
 ·rw [Nat.min_eq_left h]
 ·rw [Nat.min_eq_right (by omega)]
  have e : 2 ^ k = 2 ^ (k - 64) * 18446744073709551616 := by
   rw [show (18446744073709551616 : Nat) = 2 ^ 64 from rfl, ← Nat.pow_add]; congr 1; omega
  rw [e, ← Nat.mul_assoc]
  omega
theorem shr_min (a k : Nat) (ha : a < 18446744073709551616) : a / 2 ^ min k 64 = a / 2 ^ k := by
 by_cases h : k ≤ 64
 ·rw [Nat.min_eq_left h]
 ·rw [Nat.min_eq_right (by omega)]
  have e : 18446744073709551616 ≤ 2 ^ k := by
   rw [show (18446744073709551616 : Nat) = 2 ^ 64 from rfl]; exact Nat.pow_le_pow_right (by decide) (by omega)
  rw [Nat.div_eq_of_lt (show a < 2 ^ k by omega)]
  omega
theorem mul_cut (x P Q : Nat) (e : P * Q = 18446744073709551616) (hQ : 0 < Q) : x * P = x / Q * 18446744073709551616 + x % Q * P := by
 have d := Nat.div_add_mod' x Q
 conv => lhs; rw [← d]
 rw [Nat.add_mul, Nat.mul_assoc, Nat.mul_comm Q P, e]
theorem mul_cut_mod (x P Q : Nat) (e : P * Q = 18446744073709551616) (hQ : 0 < Q) : x * P % 18446744073709551616 = x % Q * P := by
 have c := mul_cut x P Q e hQ
 have l : x % Q * P < 18446744073709551616 := by
  have := Nat.mod_lt x hQ
  have pP : 0 < P := by
   rcases Nat.eq_zero_or_pos P with h | h
   ·subst h; simp at e
   ·exact h
  have h2 : x % Q * P < Q * P := Nat.mul_lt_mul_of_pos_right this pP
  rw [Nat.mul_comm Q P, e] at h2; exact h2
 rw [c]; omega
theorem or_cut (x y n : Nat) (h : y < 2 ^ n) : (x * 2 ^ n) ||| y = x * 2 ^ n + y := by
 rw [Nat.mul_comm]; exact (Nat.two_pow_add_eq_or_of_lt h x).symm
theorem shl_nat (a b n : Nat) (ha : a < 18446744073709551616) (hb : b < 18446744073709551616) (hn : n < 64) :
  ((a * 2 ^ n % 18446744073709551616) ||| (b / 2 ^ (64 - n))) < 18446744073709551616 ∧
  ((a * 2 ^ n % 18446744073709551616) ||| (b / 2 ^ (64 - n))) * 18446744073709551616 + b * 2 ^ n % 18446744073709551616 = (a * 18446744073709551616 + b) * 2 ^ n % 340282366920938463463374607431768211456 := by
 have e := pow_split (n := n) (by omega)
 have pP := pow_pos' n
 have pQ := pow_pos' (64 - n)
 generalize hP : 2 ^ n = P at *
 generalize hQ : 2 ^ (64 - n) = Q at *
 have ca := mul_cut a P Q e pQ
 have cb := mul_cut b P Q e pQ
 have bq : b / Q < P := by
  rw [Nat.div_lt_iff_lt_mul pQ, e]; exact hb
 rw [mul_cut_mod a P Q e pQ, mul_cut_mod b P Q e pQ]
 have o : (a % Q * P) ||| (b / Q) = a % Q * P + b / Q := by rw [← hP]; exact or_cut _ _ _ (by rw [hP]; exact bq)
 rw [o]
 have la : a % Q * P + P ≤ 18446744073709551616 := by
  have := Nat.mod_lt a pQ
  calc a % Q * P + P = (a % Q + 1) * P := by rw [Nat.add_mul, Nat.one_mul]
   _ ≤ Q * P := Nat.mul_le_mul_right P this
   _ = 18446744073709551616 := by rw [Nat.mul_comm, e]
 have lb : b % Q * P < 18446744073709551616 := by
  have := mul_cut_mod b P Q e pQ
  omega
 refine ⟨by omega, ?_⟩
 have t : (a * 18446744073709551616 + b) * P = a * P * 18446744073709551616 + b * P := by
  rw [Nat.add_mul, Nat.mul_right_comm]
 rw [t, ca, cb]
 generalize a % Q * P = u at *
 generalize b % Q * P = v at *
 generalize a / Q = y at *
 generalize b / Q = z at *
 omega
theorem shr_nat (a b n : Nat) (ha : a < 18446744073709551616) (hb : b < 18446744073709551616) (hn : n < 64) :
  ((a * 2 ^ (64 - n) % 18446744073709551616) ||| (b / 2 ^ n)) < 18446744073709551616 ∧
  a / 2 ^ n * 18446744073709551616 + ((a * 2 ^ (64 - n) % 18446744073709551616) ||| (b / 2 ^ n)) = (a * 18446744073709551616 + b) / 2 ^ n := by
 have e := pow_split (n := n) (by omega)
 have pP := pow_pos' n
 have pQ := pow_pos' (64 - n)
 generalize hP : 2 ^ n = P at *
 generalize hQ : 2 ^ (64 - n) = Q at *
 have e' : Q * P = 18446744073709551616 := by rw [Nat.mul_comm]; exact e
 have bq : b / P < Q := by
  rw [Nat.div_lt_iff_lt_mul pP, e']; exact hb
 rw [mul_cut_mod a Q P e' pP]
 have o : (a % P * Q) ||| (b / P) = a % P * Q + b / P := by rw [← hQ]; exact or_cut _ _ _ (by rw [hQ]; exact bq)
 rw [o]
 have la : a % P * Q + Q ≤ 18446744073709551616 := by
  have := Nat.mod_lt a pP
  calc a % P * Q + Q = (a % P + 1) * Q := by rw [Nat.add_mul, Nat.one_mul]
   _ ≤ P * Q := Nat.mul_le_mul_right Q this
   _ = 18446744073709551616 := e
 refine ⟨by omega, ?_⟩
 have ca := mul_cut a Q P e' pP
 have t : P * (a * Q) = a * 18446744073709551616 := by
  rw [Nat.mul_left_comm, e]
 rw [← t, Nat.mul_add_div pP, ca]
 omega
theorem pow_ge {k n : Nat} (h : k ≤ n) : 2 ^ n = 2 ^ (n - k) * 2 ^ k := by rw [← Nat.pow_add]; congr 1; omega
theorem shl_nat_big (a b n : Nat) (ha : a < 18446744073709551616) (hb : b < 18446744073709551616) (hn : 64 ≤ n) :
  (b * 2 ^ (n - 64) % 18446744073709551616) * 18446744073709551616 + 0 = (a * 18446744073709551616 + b) * 2 ^ n % 340282366920938463463374607431768211456 := by
 have e : 2 ^ n = 2 ^ (n - 64) * 18446744073709551616 := pow_ge (k := 64) hn
 rw [e]
 have t : (a * 18446744073709551616 + b) * (2 ^ (n - 64) * 18446744073709551616) = a * 2 ^ (n - 64) * 340282366920938463463374607431768211456 + b * 2 ^ (n - 64) * 18446744073709551616 := by
  rw [Nat.add_mul, ← Nat.mul_assoc b, ← Nat.mul_assoc, Nat.mul_right_comm a, Nat.mul_assoc (a * 2 ^ (n - 64))]
 rw [t]
 omega
theorem shr_nat_big (a b n : Nat) (hb : b < 18446744073709551616) (hn : 64 ≤ n) :
  0 * 18446744073709551616 + a / 2 ^ (n - 64) = (a * 18446744073709551616 + b) / 2 ^ n := by
 have e : 2 ^ n = 18446744073709551616 * 2 ^ (n - 64) := by rw [Nat.mul_comm]; exact pow_ge (k := 64) hn
 rw [e, ← Nat.div_div_eq_div_mul]
 have : (a * 18446744073709551616 + b) / 18446744073709551616 = a := by omega
 rw [this]; omega
theorem back_nat (a n : Nat) (ha : a < 340282366920938463463374607431768211456) : (a / 2 ^ n * 2 ^ n % 340282366920938463463374607431768211456 = a) ↔ a % 2 ^ n = 0 := by
 have d := Nat.div_add_mod' a (2 ^ n)
 have l : a / 2 ^ n * 2 ^ n ≤ a := Nat.div_mul_le_self a (2 ^ n)
 rw [Nat.mod_eq_of_lt (by omega)]
 omega
end Go.Proofs.YteafnkimcidkhaaGreat
namespace Go.Proofs.YteafnkimcidkhaaGreat
open Go.RowKit
set_option linter.unusedVariables false

theorem add64 (x y c : Int) (hx : 0 ≤ x) (hy : 0 ≤ y) (hc0 : 0 ≤ c) (hc : c ≤ 1) (w : World) : (callFunc 196 #[.int .u64 x, .int .u64 y, .int .u64 c]).run Tryz.prog w =
  .ok (.value (.tuple #[.int .u64 ((x + y + c) % 18446744073709551616), .int .u64 ((x + y + c) / 18446744073709551616)])) w := by
 rw [run_callFunc_extern Tryz.func196 (by kernel_rfl) (by kernel_rfl) (by kernel_rfl) (e := add64Entry) (by kernel_rfl), run_add64 x y c hx hy hc0 hc]
 rfl
theorem sub64 (x y b : Int) (hx : 0 ≤ x) (hy : 0 ≤ y) (hy' : y < 18446744073709551616) (hb0 : 0 ≤ b) (hb : b ≤ 1) (w : World) : (callFunc 198 #[.int .u64 x, .int .u64 y, .int .u64 b]).run Tryz.prog w =
  .ok (.value (.tuple #[.int .u64 ((x - y - b) % 18446744073709551616), .int .u64 (bor x (y + b))])) w := by
 obtain ⟨x, rfl⟩ := Int.eq_ofNat_of_zero_le hx
 obtain ⟨y, rfl⟩ := Int.eq_ofNat_of_zero_le hy
 obtain ⟨b, rfl⟩ := Int.eq_ofNat_of_zero_le hb0
 have e1 : (((x + 18446744073709551616 - y - b) % 18446744073709551616 : Nat) : Int) = ((x : Int) - y - b) % 18446744073709551616 := by omega
 have e2 : ((if x < y + b then 1 else 0 : Nat) : Int) = bor (x : Int) (y + b) := by unfold bor; split <;> split <;> omega
 rw [← e1, ← e2]
 rw [run_callFunc_extern Tryz.func198 (by kernel_rfl) (by kernel_rfl) (by kernel_rfl) (e := sub64Entry) (by kernel_rfl), run_sub64 x y b (by omega)]
 rfl
theorem add64_0 (x y : Int) (hx : 0 ≤ x) (hy : 0 ≤ y) (w : World) : (callFunc 196 #[.int .u64 x, .int .u64 y, .int .u64 0]).run Tryz.prog w =
  .ok (.value (.tuple #[.int .u64 ((x + y) % 18446744073709551616), .int .u64 ((x + y) / 18446744073709551616)])) w := by
 simpa using add64 x y 0 hx hy (Int.le_refl 0) (by decide) w
theorem sub64_0 (x y : Int) (hx : 0 ≤ x) (hy : 0 ≤ y) (hy' : y < 18446744073709551616) (w : World) : (callFunc 198 #[.int .u64 x, .int .u64 y, .int .u64 0]).run Tryz.prog w =
  .ok (.value (.tuple #[.int .u64 ((x - y) % 18446744073709551616), .int .u64 (bor x y)])) w := by
 simpa using sub64 x y 0 hx hy hy' (Int.le_refl 0) (by decide) w
theorem below_two (w : World) (a b : Obj) : Below w.heap.size w ((w.alloc a).alloc b) :=
 ((Below.refl _ _).alloc (Nat.le_refl _) _).alloc (by simp) _
theorem below_three (w : World) (a b c : Obj) : Below w.heap.size w (((w.alloc a).alloc b).alloc c) :=
 (below_two w a b).alloc (by simp; omega) _
theorem add_any (ah al bh bl : Int) (h1 : Word ah) (h2 : Word al) (h3 : Word bh) (h4 : Word bl) (w : World) :
  Calls Tryz.prog 159 #[.agg #[.int .u64 ah, .int .u64 al], .agg #[.int .u64 bh, .int .u64 bl]] w fun e w' =>
   ∃ (h l : Int) (c : Bool), e = .returned (.tuple #[.agg #[.int .u64 h, .int .u64 l], .bool c]) ∧ Word h ∧ Word l ∧
    Hid (num h l = (num ah al + num bh bl) % 340282366920938463463374607431768211456) ∧ Hid (c = decide (340282366920938463463374607431768211456 ≤ num ah al + num bh bl)) ∧ Below w.heap.size w w' := by
 have m1 := add_num ah al bh bl h1 h2 h3 h4
 have m2 := add_carry ah al bh bl h1 h2 h3 h4
 have M1 : Hid _ := m1; have M2 : Hid _ := m2; clear m1 m2
 obtain ⟨a1, a2⟩ := h1; obtain ⟨b1, b2⟩ := h2; obtain ⟨c1, c2⟩ := h3; obtain ⟨d1, d2⟩ := h4
 have k0 : 0 ≤ (al + bl) / 18446744073709551616 := by omega
 have k1 : (al + bl) / 18446744073709551616 ≤ 1 := by omega
 go_enter Tryz.func159, Tryz.ntmps159
 go_wp2_with (first | simp only [add64_0 al bl b1 d1] | simp only [add64 ah bh _ a1 c1 k0 k1])
 refine bodyPost_ret (v := .tuple #[.agg #[.int .u64 ((ah + bh + (al + bl) / 18446744073709551616) % 18446744073709551616), .int .u64 ((al + bl) % 18446744073709551616)], .bool ((ah + bh + (al + bl) / 18446744073709551616) / 18446744073709551616 != 0)]) (by simp [results, Tryz.results159, go_sem]) rfl ?_
 exact ⟨_, _, _, rfl, word_mod _, word_mod _, M1, M2, below_three _ _ _ _⟩
theorem sub_any (ah al bh bl : Int) (h1 : Word ah) (h2 : Word al) (h3 : Word bh) (h4 : Word bl) (w : World) :
  Calls Tryz.prog 161 #[.agg #[.int .u64 ah, .int .u64 al], .agg #[.int .u64 bh, .int .u64 bl]] w fun e w' =>
   ∃ (h l : Int) (c : Bool), e = .returned (.tuple #[.agg #[.int .u64 h, .int .u64 l], .bool c]) ∧ Word h ∧ Word l ∧
    Hid (num h l = (num ah al - num bh bl) % 340282366920938463463374607431768211456) ∧ Hid (c = decide (num ah al < num bh bl)) ∧ Below w.heap.size w w' := by
 have m1 := sub_num ah al bh bl h1 h2 h3 h4
 have m2 : (bor ah (bh + bor al bl) != 0) = _ := sub_borrow ah al bh bl h1 h2 h3 h4
 have M1 : Hid _ := m1; have M2 : Hid _ := m2; clear m1 m2
 obtain ⟨a1, a2⟩ := h1; obtain ⟨b1, b2⟩ := h2; obtain ⟨c1, c2⟩ := h3; obtain ⟨d1, d2⟩ := h4
 have k0 := bor_lo al bl
 have k1 := bor_hi al bl
 go_enter Tryz.func161, Tryz.ntmps161
 go_wp2_with (first | simp only [sub64_0 al bl b1 d1 d2] | simp only [sub64 ah bh _ a1 c1 c2 k0 k1])
 refine bodyPost_ret (v := .tuple #[.agg #[.int .u64 ((ah - bh - bor al bl) % 18446744073709551616), .int .u64 ((al - bl) % 18446744073709551616)], .bool (bor ah (bh + bor al bl) != 0)]) (by simp [results, Tryz.results161, go_sem]) rfl ?_
 exact ⟨_, _, _, rfl, word_mod _, word_mod _, M1, M2, below_three _ _ _ _⟩
theorem mul_num (a b : Int) (ha : Word a) (hb : Word b) : Word (a * b / 18446744073709551616) ∧ Word (a * b % 18446744073709551616) ∧ num (a * b / 18446744073709551616) (a * b % 18446744073709551616) = a * b := by
 refine ⟨?_, word_mod _, num_of _⟩
 unfold Word at *
 have h0 : 0 ≤ a * b := Int.mul_nonneg ha.1 hb.1
 have h1 : a * b ≤ 18446744073709551615 * 18446744073709551615 := Int.mul_le_mul (by omega) (by omega) hb.1 (by decide)
 omega
theorem mul64 (x y : Int) (hx : Word x) (hy : Word y) (w : World) :
  Calls Tryz.prog 162 #[.int .u64 x, .int .u64 y] w fun e w' => e = .returned (.tuple #[.int .u64 (x * y / 18446744073709551616), .int .u64 (x * y % 18446744073709551616)]) ∧ w' = w := by
 obtain ⟨x, rfl⟩ := Int.eq_ofNat_of_zero_le hx.1
 obtain ⟨y, rfl⟩ := Int.eq_ofNat_of_zero_le hy.1
 have a := hx.2; have b := hy.2
 have h := Tryz.bits_Mul64 x y (by omega) (by omega) w
 simpa using h
theorem mul_any (a b : Int) (h1 : Word a) (h2 : Word b) (w : World) :
  Calls Tryz.prog 115 #[.int .u64 a, .int .u64 b] w fun e w' =>
   ∃ (h l : Int), e = .returned (.agg #[.int .u64 h, .int .u64 l]) ∧ Word h ∧ Word l ∧ Hid (num h l = a * b) ∧ Below w.heap.size w w' := by
 obtain ⟨m1, m2, m3⟩ := mul_num a b h1 h2
 have M3 : Hid _ := m3; clear m3
 go_enter Tryz.func115, Tryz.ntmps115
 go_wp2_with (go_at_call 162; refine (mul64 a b h1 h2 _).mono ?_; rintro e w' ⟨rfl, rfl⟩)
 refine bodyPost_ret (v := .agg #[.int .u64 (a * b / 18446744073709551616), .int .u64 (a * b % 18446744073709551616)]) (by simp [results, Tryz.results115, go_sem]) rfl ?_
 exact ⟨_, _, rfl, m1, m2, M3, (Below.refl _ _).alloc (Nat.le_refl _) _⟩
end Go.Proofs.YteafnkimcidkhaaGreat
namespace Go.Proofs.YteafnkimcidkhaaGreat
open Go.RowKit
set_option linter.unusedVariables false

theorem shl_small (ah al m : Int) (h1 : Word ah) (h2 : Word al) (h0 : 0 ≤ m) (hm : m < 64) :
  Word (bits BinOp.or IntKind.u64 (IntKind.u64.wrap (ah * 2 ^ m.toNat)) (al / 2 ^ (64 - m).toNat)) ∧ Word (IntKind.u64.wrap (al * 2 ^ m.toNat)) ∧
  num (bits BinOp.or IntKind.u64 (IntKind.u64.wrap (ah * 2 ^ m.toNat)) (al / 2 ^ (64 - m).toNat)) (IntKind.u64.wrap (al * 2 ^ m.toNat)) = num ah al * 2 ^ m.toNat % 340282366920938463463374607431768211456 := by
 obtain ⟨a, rfl⟩ := Int.eq_ofNat_of_zero_le h1.1
 obtain ⟨b, rfl⟩ := Int.eq_ofNat_of_zero_le h2.1
 obtain ⟨n, rfl⟩ := Int.eq_ofNat_of_zero_le h0
 have ha := h1.2; have hb := h2.2
 have e64 : (64 - (n : Int)).toNat = 64 - n := by omega
 rw [e64, Int.toNat_natCast, wshl, wshl, castShr, bits_or_u64_nat _ _ (by omega) (by have := Nat.div_le_self b (2 ^ (64 - n)); omega)]
 obtain ⟨k1, k2⟩ := shl_nat a b n (by omega) (by omega) (by omega)
 refine ⟨⟨by omega, by omega⟩, ⟨by omega, by omega⟩, ?_⟩
 unfold num
 have c : ((a : Int) * 18446744073709551616 + b) * 2 ^ n = (((a * 18446744073709551616 + b) * 2 ^ n : Nat) : Int) := by simp
 rw [c]
 omega
theorem shl_big (ah al m : Int) (h1 : Word ah) (h2 : Word al) (hm : 64 ≤ m) :
  Word (IntKind.u64.wrap (al * 2 ^ min (m - 64).toNat 64)) ∧
  num (IntKind.u64.wrap (al * 2 ^ min (m - 64).toNat 64)) 0 = num ah al * 2 ^ m.toNat % 340282366920938463463374607431768211456 := by
 obtain ⟨a, rfl⟩ := Int.eq_ofNat_of_zero_le h1.1
 obtain ⟨b, rfl⟩ := Int.eq_ofNat_of_zero_le h2.1
 obtain ⟨n, rfl⟩ := Int.eq_ofNat_of_zero_le (show 0 ≤ m by omega)
 have ha := h1.2; have hb := h2.2
 have e64 : ((n : Int) - 64).toNat = n - 64 := by omega
 rw [e64, Int.toNat_natCast, wshl, shl_min]
 have k := shl_nat_big a b n (by omega) (by omega) (by omega)
 refine ⟨⟨by omega, by omega⟩, ?_⟩
 unfold num
 have c : ((a : Int) * 18446744073709551616 + b) * 2 ^ n = (((a * 18446744073709551616 + b) * 2 ^ n : Nat) : Int) := by simp
 rw [c]
 omega
theorem shr_small (ah al m : Int) (h1 : Word ah) (h2 : Word al) (h0 : 0 ≤ m) (hm : m < 64) :
  Word (ah / 2 ^ m.toNat) ∧ Word (bits BinOp.or IntKind.u64 (IntKind.u64.wrap (ah * 2 ^ (64 - m).toNat)) (al / 2 ^ m.toNat)) ∧
  num (ah / 2 ^ m.toNat) (bits BinOp.or IntKind.u64 (IntKind.u64.wrap (ah * 2 ^ (64 - m).toNat)) (al / 2 ^ m.toNat)) = num ah al / 2 ^ m.toNat := by
 obtain ⟨a, rfl⟩ := Int.eq_ofNat_of_zero_le h1.1
 obtain ⟨b, rfl⟩ := Int.eq_ofNat_of_zero_le h2.1
 obtain ⟨n, rfl⟩ := Int.eq_ofNat_of_zero_le h0
 have ha := h1.2; have hb := h2.2
 have e64 : (64 - (n : Int)).toNat = 64 - n := by omega
 have d1 := Nat.div_le_self b (2 ^ n)
 have d2 := Nat.div_le_self a (2 ^ n)
 rw [e64, Int.toNat_natCast, wshl, castShr, castShr, bits_or_u64_nat _ _ (by omega) (by omega)]
 obtain ⟨k1, k2⟩ := shr_nat a b n (by omega) (by omega) (by omega)
 refine ⟨⟨by omega, by omega⟩, ⟨by omega, by omega⟩, ?_⟩
 unfold num
 have c : ((a : Int) * 18446744073709551616 + b) / 2 ^ n = (((a * 18446744073709551616 + b) / 2 ^ n : Nat) : Int) := by simp
 rw [c, ← k2]
 omega
theorem shr_big (ah al m : Int) (h1 : Word ah) (h2 : Word al) (hm : 64 ≤ m) :
  Word (ah / 2 ^ min (m - 64).toNat 64) ∧
  num 0 (ah / 2 ^ min (m - 64).toNat 64) = num ah al / 2 ^ m.toNat := by
 obtain ⟨a, rfl⟩ := Int.eq_ofNat_of_zero_le h1.1
 obtain ⟨b, rfl⟩ := Int.eq_ofNat_of_zero_le h2.1
 obtain ⟨n, rfl⟩ := Int.eq_ofNat_of_zero_le (show 0 ≤ m by omega)
 have ha := h1.2; have hb := h2.2
 have e64 : ((n : Int) - 64).toNat = n - 64 := by omega
 rw [e64, Int.toNat_natCast, castShr, shr_min a _ (by omega)]
 have k := shr_nat_big a b n (by omega) (by omega)
 have d2 := Nat.div_le_self a (2 ^ (n - 64))
 refine ⟨⟨Int.natCast_nonneg _, by omega⟩, ?_⟩
 unfold num
 have c : ((a : Int) * 18446744073709551616 + b) / 2 ^ n = (((a * 18446744073709551616 + b) / 2 ^ n : Nat) : Int) := by simp
 rw [c, ← k]
 omega
theorem back_num (ah al h l h' l' : Int) (k : Nat) (h1 : Word ah) (h2 : Word al) (a : Word h) (b : Word l) (a' : Word h') (b' : Word l') (e : num h l = num ah al / 2 ^ k) (e' : num h' l' = num h l * 2 ^ k % 340282366920938463463374607431768211456) :
  (h' = ah ∧ l' = al) ↔ num ah al % 2 ^ k = 0 := by
 have p0 := num_lo h1 h2
 have p1 := num_hi h1 h2
 rw [e] at e'
 obtain ⟨x, hx⟩ := Int.eq_ofNat_of_zero_le p0
 have bk := back_nat x k (by omega)
 rw [hx] at e'
 have c1 : (x : Int) / 2 ^ k * 2 ^ k % 340282366920938463463374607431768211456 = ((x / 2 ^ k * 2 ^ k % 340282366920938463463374607431768211456 : Nat) : Int) := by simp
 have c2 : (x : Int) % 2 ^ k = ((x % 2 ^ k : Nat) : Int) := by simp
 rw [c1] at e'
 rw [hx, c2]
 constructor
 ·rintro ⟨rfl, rfl⟩
  rw [hx] at e'
  have := bk.1 (by omega)
  omega
 ·intro h0
  have := bk.2 (by omega)
  exact num_inj a' b' h1 h2 (by rw [e', hx]; omega)
def eq2 (h l h' l' : Int) : Bool := h == h' && l == l'
theorem eq2_num {h l h' l' : Int} (a : Word h) (b : Word l) (a' : Word h') (b' : Word l') : eq2 h l h' l' = decide (num h l = num h' l') := by
 rw [Bool.eq_iff_iff, decide_eq_true_iff]
 unfold eq2
 rw [Bool.and_eq_true, beq_iff_eq, beq_iff_eq]
 exact ⟨fun ⟨e, e'⟩ => by rw [e, e'], num_inj a b a' b'⟩
theorem eql_u128 (h l h' l' : Int) (w : World) : (binOp .eql 139 (.agg #[.int .u64 h, .int .u64 l]) (.agg #[.int .u64 h', .int .u64 l'])).run Tryz.prog w = .ok (.bool (eq2 h l h' l')) w := by
 unfold eq2
 cases c : (h == h') <;> cases d : (l == l') <;> simp [go_sem, c, d]
theorem neq_u128 (h l h' l' : Int) (w : World) : (binOp .neq 139 (.agg #[.int .u64 h, .int .u64 l]) (.agg #[.int .u64 h', .int .u64 l'])).run Tryz.prog w = .ok (.bool (!eq2 h l h' l')) w := by
 unfold eq2
 cases c : (h == h') <;> cases d : (l == l') <;> simp [go_sem, c, d]
theorem bcell {W w1 : World} (hb : Below W.heap.size W w1) : (∀ b o, b < W.heap.size → w1.cell? ⟨b, o, none⟩ = W.cell? ⟨b, o, none⟩) ∧ (∀ b o, b < W.heap.size → w1.frozen? ⟨b, o, none⟩ = W.frozen? ⟨b, o, none⟩) :=
 ⟨fun b o h => hb.cell (p := ⟨b, o, none⟩) h, fun b o h => hb.frozen (p := ⟨b, o, none⟩) h⟩
set_option maxHeartbeats 400000 in
theorem shl_any (ah al n : Int) (h1 : Word ah) (h2 : Word al) (hn : -9223372036854775808 ≤ n) (hn' : n ≤ 9223372036854775807) (w : World) :
  Calls Tryz.prog 158 #[.agg #[.int .u64 ah, .int .u64 al], .int .i64 n] w fun e w' =>
   ∃ h l : Int, e = .returned (.agg #[.int .u64 h, .int .u64 l]) ∧ Word h ∧ Word l ∧ Hid (num h l = num ah al * 2 ^ n.toNat % 340282366920938463463374607431768211456) ∧ Below w.heap.size w w' := by
 have e0 : (max n 0).toNat = n.toNat := by omega
 by_cases hm : 64 ≤ max n 0
 ·obtain ⟨m1, m2⟩ := shl_big ah al (max n 0) h1 h2 hm
  have m4 := m2.trans (congrArg (fun k => num ah al * 2 ^ k % 340282366920938463463374607431768211456) e0)
  have M2 : Hid _ := m4; clear m2 m4 e0
  obtain ⟨a1, a2⟩ := h1; obtain ⟨b1, b2⟩ := h2
  go_enter Tryz.func158, Tryz.ntmps158
  go_wp2
  refine bodyPost_ret (v := .agg #[.int .u64 (IntKind.u64.wrap (al * 2 ^ min (max n 0 - 64).toNat 64)), .int .u64 0]) (by simp [results, Tryz.results158, go_sem]) rfl ?_
  exact ⟨_, _, rfl, m1, ⟨by decide, by decide⟩, M2, below_two _ _ _⟩
 ·have hm' : max n 0 < 64 := by omega
  obtain ⟨m1, m2, m3⟩ := shl_small ah al (max n 0) h1 h2 (by omega) hm'
  have m4 := m3.trans (congrArg (fun k => num ah al * 2 ^ k % 340282366920938463463374607431768211456) e0)
  have M3 : Hid _ := m4; clear m3 m4 e0
  obtain ⟨a1, a2⟩ := h1; obtain ⟨b1, b2⟩ := h2
  go_enter Tryz.func158, Tryz.ntmps158
  go_wp2
  go_region
  go_wp2
  refine bodyPost_ret (v := .agg #[.int .u64 (bits BinOp.or IntKind.u64 (IntKind.u64.wrap (ah * 2 ^ (max n 0).toNat)) (al / 2 ^ (64 - max n 0).toNat)), .int .u64 (IntKind.u64.wrap (al * 2 ^ (max n 0).toNat))]) (by simp [results, Tryz.results158, go_sem]) rfl ?_
  refine ⟨_, _, rfl, ?_, ?_, ?_, ?_⟩
  ·exact m1
  ·exact m2
  ·exact M3
  ·exact (below_two _ _ _).drew
theorem back_bool (ah al h l h' l' : Int) (k : Nat) (h1 : Word ah) (h2 : Word al) (a : Word h) (b : Word l) (e : num h l = num ah al / 2 ^ k) (a' : Word h') (b' : Word l') (e' : num h' l' = num h l * 2 ^ k % 340282366920938463463374607431768211456) :
  (!eq2 h' l' ah al) = decide (¬ num ah al % 2 ^ k = 0) := by
 have := back_num ah al h l h' l' k h1 h2 a b a' b' e e'
 rw [Bool.eq_iff_iff, decide_eq_true_iff, ← this]
 unfold eq2
 by_cases c : h' = ah <;> simp [c]
set_option maxHeartbeats 800000 in
theorem shr_any (ah al n : Int) (h1 : Word ah) (h2 : Word al) (hn : -9223372036854775808 ≤ n) (hn' : n ≤ 9223372036854775807) (w : World) :
  Calls Tryz.prog 204 #[.agg #[.int .u64 ah, .int .u64 al], .int .i64 n] w fun e w' =>
   ∃ (h l : Int) (c : Bool), e = .returned (.tuple #[.agg #[.int .u64 h, .int .u64 l], .bool c]) ∧ Word h ∧ Word l ∧ Hid (num h l = num ah al / 2 ^ n.toNat) ∧ Hid (c = decide (¬ num ah al % 2 ^ n.toNat = 0)) ∧ Below w.heap.size w w' := by
 have e0 : (max n 0).toNat = n.toNat := by omega
 have g1 : -9223372036854775808 ≤ max n 0 := by omega
 have g2 : max n 0 ≤ 9223372036854775807 := by omega
 by_cases hm : 64 ≤ max n 0
 ·obtain ⟨m1, m2⟩ := shr_big ah al (max n 0) h1 h2 hm
  have m4 := m2.trans (congrArg (fun k => num ah al / 2 ^ k) e0)
  have M2 : Hid _ := m4; clear m2 m4
  have E0 : Hid _ := e0; clear e0
  have z : Word 0 := ⟨by decide, by decide⟩
  have hq := neq_u128
  obtain ⟨a1, a2⟩ := id h1; obtain ⟨b1, b2⟩ := id h2
  go_enter Tryz.func204, Tryz.ntmps204
  go_wp2
  go_region_held3 (fun w' => w'.cell? ⟨w.heap.size, 0, none⟩ = some (.int .u64 ah) ∧ w'.cell? ⟨w.heap.size, 1, none⟩ = some (.int .u64 al) ∧ w'.cell? ⟨w.heap.size + 1 + 1, 0, none⟩ = some (.int .u64 0) ∧ w'.cell? ⟨w.heap.size + 1 + 1, 1, none⟩ = some (.int .u64 (ah / 2 ^ min (max n 0 - 64).toNat 64))) (simp [go_sem, *])
   ((go_at_call 158; refine (shl_any 0 _ (max n 0) z m1 g1 g2 _).mono ?_; rintro e w1 ⟨h', l', rfl, a', b', E, hb⟩; obtain ⟨hc, hf⟩ := bcell hb))
  go_wp2
  have hs := hb.size
  simp at hs
  refine bodyPost_ret (v := .tuple #[.agg #[.int .u64 0, .int .u64 (ah / 2 ^ min (max n 0 - 64).toNat 64)], .bool (!eq2 h' l' ah al)]) (by simp [results, Tryz.results204, go_sem, hc]) rfl ?_
  refine ⟨_, _, _, rfl, z, m1, M2, ?_, ?_⟩
  ·exact back_bool ah al _ _ h' l' n.toNat h1 h2 z m1 M2.out a' b' (by have := E.out; rw [E0.out] at this; exact this)
  ·exact ((((below_three _ _ _ _).drew).trans (hb.mono (by simp; omega))).setCell (by simp) _).setCell (by simp) _
 ·have hm' : max n 0 < 64 := by omega
  obtain ⟨m1, m2, m3⟩ := shr_small ah al (max n 0) h1 h2 (by omega) hm'
  have m4 := m3.trans (congrArg (fun k => num ah al / 2 ^ k) e0)
  have M2 : Hid _ := m4; clear m3 m4
  have E0 : Hid _ := e0; clear e0
  have hq := neq_u128
  obtain ⟨a1, a2⟩ := id h1; obtain ⟨b1, b2⟩ := id h2
  go_enter Tryz.func204, Tryz.ntmps204
  go_wp2
  go_region
  go_wp2
  go_region_held3 (fun w' => w'.cell? ⟨w.heap.size, 0, none⟩ = some (.int .u64 ah) ∧ w'.cell? ⟨w.heap.size, 1, none⟩ = some (.int .u64 al) ∧ w'.cell? ⟨w.heap.size + 1 + 1, 0, none⟩ = some (.int .u64 (ah / 2 ^ (max n 0).toNat)) ∧ w'.cell? ⟨w.heap.size + 1 + 1, 1, none⟩ = some (.int .u64 (bits BinOp.or IntKind.u64 (IntKind.u64.wrap (ah * 2 ^ (64 - max n 0).toNat)) (al / 2 ^ (max n 0).toNat)))) (simp [go_sem, *])
   ((go_at_call 158; refine (shl_any _ _ (max n 0) m1 m2 g1 g2 _).mono ?_; rintro e w1 ⟨h', l', rfl, a', b', E, hb⟩; obtain ⟨hc, hf⟩ := bcell hb))
  go_wp2
  have hs := hb.size
  simp at hs
  refine bodyPost_ret (v := .tuple #[.agg #[.int .u64 (ah / 2 ^ (max n 0).toNat), .int .u64 (bits BinOp.or IntKind.u64 (IntKind.u64.wrap (ah * 2 ^ (64 - max n 0).toNat)) (al / 2 ^ (max n 0).toNat))], .bool (!eq2 h' l' ah al)]) (by simp [results, Tryz.results204, go_sem, hc]) rfl ?_
  refine ⟨_, _, _, rfl, m1, m2, M2, ?_, ?_⟩
  ·exact back_bool ah al _ _ h' l' n.toNat h1 h2 m1 m2 M2.out a' b' (by have := E.out; rw [this, E0.out])
  ·exact ((((below_three _ _ _ _).drew.drew).trans (hb.mono (by simp; omega))).setCell (by simp) _).setCell (by simp) _
end Go.Proofs.YteafnkimcidkhaaGreat
namespace Go.Proofs.YteafnkimcidkhaaGreat
open Go.RowKit
set_option linter.unusedVariables false

theorem words_any (h l : Int) (w : World) :
  Calls Tryz.prog 197 #[.agg #[.int .u64 h, .int .u64 l]] w fun e w' => e = .returned (.agg #[.int .u64 h, .int .u64 l]) ∧ w' = (w.alloc (.cells #[.int .u64 h, .int .u64 l] 139)).alloc (.cells #[.int .u64 h, .int .u64 l] 143) := by
 go_enter Tryz.func197, Tryz.ntmps197
 go_wp2
 refine bodyPost_ret (v := .agg #[.int .u64 h, .int .u64 l]) (by simp [results, Tryz.results197, go_sem]) rfl ?_
 exact ⟨rfl, rfl⟩
def cmpN (a b : Int) : Int := if a < b then -1 else if b < a then 1 else 0
theorem cmpN_lt {a b : Int} (h : a < b) : -1 = cmpN a b := by unfold cmpN; rw [if_pos h]
theorem cmpN_gt {a b : Int} (h : b < a) : 1 = cmpN a b := by unfold cmpN; rw [if_neg (by omega), if_pos h]
theorem cmpN_eq {a b : Int} (h : a = b) : 0 = cmpN a b := by unfold cmpN; rw [if_neg (by omega), if_neg (by omega)]
set_option maxHeartbeats 1600000 in
theorem cmp_any (ah al bh bl : Int) (h1 : Word ah) (h2 : Word al) (h3 : Word bh) (h4 : Word bl) (w : World) :
  Calls Tryz.prog 160 #[.agg #[.int .u64 ah, .int .u64 al], .agg #[.int .u64 bh, .int .u64 bl]] w fun e w' =>
   ∃ n : Int, e = .returned (.int .i64 n) ∧ Hid (n = cmpN (num ah al) (num bh bl)) ∧ Below w.heap.size w w' := by
 go_enter Tryz.func160, Tryz.ntmps160
 go_upto_region 1 with fail
 go_cut [5, 6] from 8 to 11 (fun p q wx => ∃ b c : Nat, p = .pointer (some ⟨b, 0, none⟩) ∧ q = .pointer (some ⟨c, 0, none⟩) ∧ wx.cell? ⟨b, 0, none⟩ = some (.int .u64 ah) ∧ wx.cell? ⟨b, 1, none⟩ = some (.int .u64 al) ∧ wx.cell? ⟨c, 0, none⟩ = some (.int .u64 bh) ∧ wx.cell? ⟨c, 1, none⟩ = some (.int .u64 bl) ∧ Below w.heap.size w wx)
 case first =>
  go_region_held3 (fun w' => w'.cell? ⟨w.heap.size, 0, none⟩ = some (.int .u64 ah) ∧ w'.cell? ⟨w.heap.size, 1, none⟩ = some (.int .u64 al) ∧ w'.cell? ⟨w.heap.size + 1, 0, none⟩ = some (.int .u64 bh) ∧ w'.cell? ⟨w.heap.size + 1, 1, none⟩ = some (.int .u64 bl))
   (simp [go_sem, World.cell?_alloc_past])
   ((go_at_call 197; refine (words_any _ _ _).mono ?_; rintro e w1 ⟨rfl, rfl⟩))
  all_goals (go_wp2_with fail; go_meet)
  all_goals exact ⟨_, _, rfl, rfl, by simp [go_sem, World.cell?_alloc_past], by simp [go_sem, World.cell?_alloc_past], by simp [go_sem, World.cell?_alloc_past], by simp [go_sem, World.cell?_alloc_past], by repeat (first | exact Below.refl _ _ | refine Below.drew ?_ | refine Below.alloc ?_ (by simp; omega) _ | refine Below.alloc ?_ (by simp) _)⟩
 case rest =>
  obtain ⟨b, c, rfl, rfl, f0, f1, g0, g1, hb0⟩ := hcut
  go_wp2
  go_loopw [12] (fun i wr => ∃ k : Nat, k ≤ 2 ∧ i = .int .i64 k ∧ Hid (1 ≤ k → ah = bh) ∧ Hid (2 ≤ k → al = bl) ∧ wr.cell? ⟨b, 0, none⟩ = some (.int .u64 ah) ∧ wr.cell? ⟨b, 1, none⟩ = some (.int .u64 al) ∧ wr.cell? ⟨c, 0, none⟩ = some (.int .u64 bh) ∧ wr.cell? ⟨c, 1, none⟩ = some (.int .u64 bl) ∧ Below w.heap.size w wr) (fun i _ => 2 - (intOf i).toNat)
  case atStart => exact ⟨0, by omega, rfl, fun h => by omega, fun h => by omega, f0, f1, g0, g1, hb0⟩
  case round =>
   obtain ⟨k, hk, rfl, E1, E2, c0, c1, d0, d1, hb⟩ := hrel
   have hk3 : k = 0 ∨ k = 1 ∨ k = 2 := by omega
   rcases hk3 with rfl | rfl | rfl
   ·by_cases l1 : ah < bh
    ·go_wp2
     go_region
     go_wp2
     go_ret
     exact ⟨_, rfl, cmpN_lt (by unfold num Word at *; omega), hb.drew⟩
    ·by_cases l2 : bh < ah
     ·go_wp2
      go_region
      go_wp2
      go_region
      go_wp2
      go_ret
      exact ⟨_, rfl, cmpN_gt (by unfold num Word at *; omega), hb.drew.drew⟩
     ·go_wp2
      go_region
      go_wp2
      go_region
      go_wp2
      go_roundw
      case rel => exact ⟨1, by omega, by go_num, fun _ => by omega, fun h => by omega, c0, c1, d0, d1, hb.drew.drew⟩
      case measure => simp [intOf]
   ·have e1 := E1.out (by omega)
    have E3 : Hid (ah = bh) := e1
    clear e1
    by_cases l1 : al < bl
    ·go_wp2
     go_region
     go_wp2
     go_ret
     exact ⟨_, rfl, cmpN_lt (by have := E3.out; unfold num Word at *; omega), hb.drew⟩
    ·by_cases l2 : bl < al
     ·go_wp2
      go_region
      go_wp2
      go_region
      go_wp2
      go_ret
      exact ⟨_, rfl, cmpN_gt (by have := E3.out; unfold num Word at *; omega), hb.drew.drew⟩
     ·go_wp2
      go_region
      go_wp2
      go_region
      go_wp2
      go_roundw
      case rel => exact ⟨2, by omega, by go_num, fun _ => E3.out, fun h => by omega, c0, c1, d0, d1, hb.drew.drew⟩
      case measure => simp [intOf]
   ·have e1 := E1.out (by omega)
    have e2 := E2.out (by omega)
    have E3 : Hid (ah = bh) := e1
    have E4 : Hid (al = bl) := e2
    clear e1 e2
    go_wp2
    go_ret
    exact ⟨_, rfl, cmpN_eq (by rw [E3.out, E4.out]), hb⟩
end Go.Proofs.YteafnkimcidkhaaGreat
namespace Go.Proofs.YteafnkimcidkhaaGreat
open Go.RowKit
set_option linter.unusedVariables false

/-! ### The arithmetic of one round -/
structure SqInv (A : Int) (j : Nat) (r L : Int) : Prop where
 sum : r * r + L = A / 2 ^ (2 * j + 2)
 le : L ≤ 2 * r
 lt : r < 2 ^ (63 - j)
theorem quad_div (A : Int) (j : Nat) (hA : 0 ≤ A) : A / 2 ^ (2 * j + 2) = A / 2 ^ (2 * j) / 4 := by
 have e : (2 : Int) ^ (2 * j + 2) = 2 ^ (2 * j) * 4 := by rw [Int.pow_add]; rfl
 rw [e, Int.ediv_ediv_of_nonneg (by exact Int.le_of_lt (Int.pow_pos (by decide)))]
theorem sq_mul2 (r : Int) : (2 * r) * (2 * r) = 4 * (r * r) := by
 rw [Int.mul_assoc 2 r, Int.mul_left_comm r 2 r]; omega
theorem sq_mul21 (r : Int) : (2 * r + 1) * (2 * r + 1) = 4 * (r * r) + 4 * r + 1 := by
 rw [Int.add_mul, Int.mul_add, sq_mul2]; omega
theorem SqInv.zero {A : Int} {j : Nat} {r L : Int} (hA : 0 ≤ A) (h : SqInv A j r L) (hj : j ≤ 63) (c : 4 * L + A / 2 ^ (2 * j) % 4 < 4 * r + 1) :
  (2 * r) * (2 * r) + (4 * L + A / 2 ^ (2 * j) % 4) = A / 2 ^ (2 * j) ∧ 4 * L + A / 2 ^ (2 * j) % 4 ≤ 2 * (2 * r) ∧ 2 * r < 2 ^ (64 - j) := by
 have s := h.sum
 rw [quad_div A j hA] at s
 have l := h.lt
 have e : (2 : Int) ^ (64 - j) = 2 ^ (63 - j) * 2 := by rw [show 64 - j = (63 - j) + 1 from by omega, Int.pow_succ]
 rw [sq_mul2, e]
 generalize (2 : Int) ^ (63 - j) = P at *
 generalize A / 2 ^ (2 * j) = N at *
 generalize r * r = R at *
 exact ⟨by omega, by omega, by omega⟩
theorem SqInv.one {A : Int} {j : Nat} {r L : Int} (hA : 0 ≤ A) (h : SqInv A j r L) (hj : j ≤ 63) (c : 4 * r + 1 ≤ 4 * L + A / 2 ^ (2 * j) % 4) :
  (2 * r + 1) * (2 * r + 1) + (4 * L + A / 2 ^ (2 * j) % 4 - (4 * r + 1)) = A / 2 ^ (2 * j) ∧ 4 * L + A / 2 ^ (2 * j) % 4 - (4 * r + 1) ≤ 2 * (2 * r + 1) ∧ 2 * r + 1 < 2 ^ (64 - j) := by
 have s := h.sum
 rw [quad_div A j hA] at s
 have l := h.lt
 have l2 := h.le
 have e : (2 : Int) ^ (64 - j) = 2 ^ (63 - j) * 2 := by rw [show 64 - j = (63 - j) + 1 from by omega, Int.pow_succ]
 rw [sq_mul21, e]
 generalize (2 : Int) ^ (63 - j) = P at *
 generalize A / 2 ^ (2 * j) = N at *
 generalize r * r = R at *
 exact ⟨by omega, by omega, by omega⟩
structure SqNext (A : Int) (j : Nat) (r L : Int) : Prop where
 sum : r * r + L = A / 2 ^ (2 * j)
 le : L ≤ 2 * r
 lt : r < 2 ^ (64 - j)
theorem SqNext.fin {A r L : Int} (h : SqNext A 0 r L) : r * r + L = A ∧ L ≤ 2 * r := by
 refine ⟨?_, h.le⟩
 have := h.sum
 simpa using this
structure SqMem (n : Nat) (ah al lh ll : Int) (w : World) : Prop where
 s0 : n < w.heap.size
 s1 : n + 1 < w.heap.size
 s2 : n + 1 + 1 < w.heap.size
 c0 : w.cell? ⟨n, 0, none⟩ = some (.int .u64 ah)
 c1 : w.cell? ⟨n, 1, none⟩ = some (.int .u64 al)
 d0 : ∃ x, w.cell? ⟨n + 1, 0, none⟩ = some (.int .u64 x)
 d1 : ∃ x, w.cell? ⟨n + 1, 1, none⟩ = some (.int .u64 x)
 e0 : w.cell? ⟨n + 1 + 1, 0, none⟩ = some (.int .u64 lh)
 e1 : w.cell? ⟨n + 1 + 1, 1, none⟩ = some (.int .u64 ll)
 f10 : w.frozen? ⟨n + 1, 0, none⟩ = false
 f11 : w.frozen? ⟨n + 1, 1, none⟩ = false
 f20 : w.frozen? ⟨n + 1 + 1, 0, none⟩ = false
 f21 : w.frozen? ⟨n + 1 + 1, 1, none⟩ = false
theorem SqMem.below {n : Nat} {ah al lh ll : Int} {W w1 : World} (h : SqMem n ah al lh ll W) (hb : Below W.heap.size W w1) : SqMem n ah al lh ll w1 := by
 obtain ⟨hc, hf⟩ := bcell hb
 have hs := hb.size
 refine ⟨by have := h.s0; omega, by have := h.s1; omega, by have := h.s2; omega, ?_, ?_, ?_, ?_, ?_, ?_, ?_, ?_, ?_, ?_⟩
 ·rw [hc _ _ h.s0]; exact h.c0
 ·rw [hc _ _ h.s0]; exact h.c1
 ·rw [hc _ _ h.s1]; exact h.d0
 ·rw [hc _ _ h.s1]; exact h.d1
 ·rw [hc _ _ h.s2]; exact h.e0
 ·rw [hc _ _ h.s2]; exact h.e1
 ·rw [hf _ _ h.s1]; exact h.f10
 ·rw [hf _ _ h.s1]; exact h.f11
 ·rw [hf _ _ h.s2]; exact h.f20
 ·rw [hf _ _ h.s2]; exact h.f21
theorem SqMem.alloc {n : Nat} {ah al lh ll : Int} {W : World} (h : SqMem n ah al lh ll W) (o : Obj) : SqMem n ah al lh ll (W.alloc o) :=
 h.below ((Below.refl _ _).alloc (Nat.le_refl _) o)
theorem SqMem.set {n : Nat} {ah al lh ll : Int} {W : World} (h : SqMem n ah al lh ll W) (x y : Int) : SqMem n ah al x y ((W.setCell ⟨n + 1 + 1, 0, none⟩ (.int .u64 x)).setCell ⟨n + 1 + 1, 1, none⟩ (.int .u64 y)) := by
 obtain ⟨s0, s1, s2, c0, c1, ⟨x0, d0⟩, ⟨x1, d1⟩, e0, e1, f10, f11, f20, f21⟩ := h
 refine ⟨by simpa using s0, by simpa using s1, by simpa using s2, ?_, ?_, ⟨x0, ?_⟩, ⟨x1, ?_⟩, ?_, ?_, ?_, ?_, ?_, ?_⟩ <;> simp [go_sem, *]
theorem SqMem.drew {n : Nat} {ah al lh ll : Int} {W : World} (h : SqMem n ah al lh ll W) : SqMem n ah al lh ll W.drew := by
 obtain ⟨s0, s1, s2, c0, c1, ⟨x0, d0⟩, ⟨x1, d1⟩, e0, e1, f10, f11, f20, f21⟩ := h
 exact ⟨s0, s1, s2, c0, c1, ⟨x0, d0⟩, ⟨x1, d1⟩, e0, e1, f10, f11, f20, f21⟩
end Go.Proofs.YteafnkimcidkhaaGreat
namespace Go.Proofs.YteafnkimcidkhaaGreat
open Go.RowKit
set_option linter.unusedVariables false

theorem word_zero : Word 0 := ⟨by decide, by decide⟩
end Go.Proofs.YteafnkimcidkhaaGreat
namespace Go.Proofs.YteafnkimcidkhaaGreat
open Go.RowKit
set_option linter.unusedVariables false

/-! ### The number of bits -/
theorem bitLenAux_spec : ∀ (f x : Nat), x < 2 ^ f → Lib.bitLenAux f x ≤ f ∧ x < 2 ^ Lib.bitLenAux f x ∧ (x = 0 ∨ 2 ^ Lib.bitLenAux f x ≤ 2 * x) ∧ (x = 0 → Lib.bitLenAux f x = 0)
 | 0, x, h => by
  have : x = 0 := by omega
  subst this
  simp [Lib.bitLenAux]
 | f + 1, x, h => by
  unfold Lib.bitLenAux
  by_cases h0 : x = 0
  ·subst h0; simp
  ·rw [if_neg h0]
   have hx : x / 2 < 2 ^ f := by rw [Nat.pow_succ] at h; omega
   obtain ⟨a, b, c, d⟩ := bitLenAux_spec f (x / 2) hx
   refine ⟨by omega, ?_, Or.inr ?_, fun e => absurd e h0⟩
   ·rw [Nat.pow_add]; omega
   ·rw [Nat.pow_add]
    rcases c with c | c
    ·rw [d c]; omega
    ·omega
def IsLen (n A : Int) : Prop := 0 ≤ n ∧ n ≤ 128 ∧ A < 2 ^ n.toNat ∧ (A = 0 ∨ 2 ^ n.toNat ≤ 2 * A) ∧ (A = 0 → n = 0)
theorem isLen_low (a : Int) (ha : Word a) : IsLen (Lib.bitLen a.toNat : Int) (num 0 a) ∧ (Lib.bitLen a.toNat : Int) ≤ 64 := by
 obtain ⟨x, rfl⟩ := Int.eq_ofNat_of_zero_le ha.1
 have hx := ha.2
 obtain ⟨a, b, c, d⟩ := bitLenAux_spec 64 x (by omega)
 have e : ∀ k : Nat, (2 : Int) ^ k = ((2 ^ k : Nat) : Int) := fun k => by simp
 unfold IsLen num Lib.bitLen
 simp only [Int.toNat_natCast, e]
 generalize 2 ^ Lib.bitLenAux 64 x = P at *
 refine ⟨⟨by omega, by omega, by omega, ?_, ?_⟩, by omega⟩
 ·rcases c with c | c
  ·left; omega
  ·right; omega
 ·intro h; have := d (by omega); omega
theorem isLen_high (h l : Int) (hh : Word h) (hl : Word l) (h0 : h ≠ 0) : IsLen (64 + (Lib.bitLen h.toNat : Int)) (num h l) := by
 obtain ⟨x, rfl⟩ := Int.eq_ofNat_of_zero_le hh.1
 obtain ⟨y, rfl⟩ := Int.eq_ofNat_of_zero_le hl.1
 have hx := hh.2
 have hy := hl.2
 obtain ⟨a, b, c, d⟩ := bitLenAux_spec 64 x (by omega)
 have e : ∀ k : Nat, (2 : Int) ^ k = ((2 ^ k : Nat) : Int) := fun k => by simp
 unfold IsLen num Lib.bitLen
 have t : (64 + ((Lib.bitLenAux 64 (x : Int).toNat : Nat) : Int)).toNat = 64 + Lib.bitLenAux 64 x := by simp only [Int.toNat_natCast]; omega
 rw [t, e, Nat.pow_add]
 simp only [Int.toNat_natCast]
 rcases c with c | c
 ·exact absurd (by omega) h0
 generalize 2 ^ Lib.bitLenAux 64 x = P at *
 refine ⟨by omega, by omega, by omega, Or.inr (by omega), fun h => by omega⟩
theorem len64 (x : Int) (hx : Word x) (w : World) : Calls Tryz.prog 203 #[.int .u64 x] w fun e w' => e = .returned (.int .i64 (Lib.bitLen x.toNat)) ∧ w' = w :=
 Tryz.bits_Len64 x w hx.1 (by have := hx.2; omega)
theorem cell_past {w : World} {a : Addr} {v : Value} (h : w.cell? a = some v) (o : Obj) : (w.alloc o).cell? a = some v := (World.cell?_alloc_some w a o (by rw [h]; rfl)).trans h
end Go.Proofs.YteafnkimcidkhaaGreat
namespace Go.Proofs.YteafnkimcidkhaaGreat
open Go.RowKit
set_option linter.unusedVariables false

theorem cell_on {W w1 : World} (hb : Below W.heap.size W w1) {a : Addr} {v : Value} (h : W.cell? a = some v) : w1.cell? a = some v := by
 rw [hb.cell (World.block_lt_of_cell? W a h)]; exact h
theorem cell_new0 (w : World) (x y : Value) (t : TypeId) : (w.alloc (.cells #[x, y] t)).cell? ⟨w.heap.size, 0, none⟩ = some x := by simp [go_sem]
theorem cell_new1 (w : World) (x y : Value) (t : TypeId) : (w.alloc (.cells #[x, y] t)).cell? ⟨w.heap.size, 1, none⟩ = some y := by simp [go_sem]
theorem below_new {w W : World} (h : Below w.heap.size w W) (o : Obj) : Below w.heap.size w (W.alloc o) := h.alloc h.size o
theorem below_call {w W w1 : World} (h : Below w.heap.size w W) (hb : Below W.heap.size W w1) : Below w.heap.size w w1 := h.trans (hb.mono h.size)
theorem lt_new {w1 : World} {b o : Nat} {v : Value} (h : w1.cell? ⟨b, o, none⟩ = some v) : b < w1.heap.size := World.block_lt_of_cell? w1 ⟨b, o, none⟩ h
end Go.Proofs.YteafnkimcidkhaaGreat
namespace Go.Proofs.YteafnkimcidkhaaGreat
open Go.RowKit
set_option linter.unusedVariables false

theorem lz64 (y : Int) (hy : Word y) (h0 : y ≠ 0) (w : World) : Calls Tryz.prog 213 #[.int .u64 y] w fun e w' => ∃ s : Int, e = .returned (.int .i64 s) ∧ 0 ≤ s ∧ s ≤ 63 ∧ Hid (9223372036854775808 ≤ y * 2 ^ s.toNat ∧ y * 2 ^ s.toNat < 18446744073709551616) ∧ w' = w := by
 refine (Tryz.bits_LeadingZeros64 y w hy.1 (by have := hy.2; omega)).mono ?_
 rintro e w' ⟨rfl, rfl⟩
 obtain ⟨x, rfl⟩ := Int.eq_ofNat_of_zero_le hy.1
 have hx := hy.2
 obtain ⟨a, b, c, d⟩ := bitLenAux_spec 64 x (by omega)
 rw [Int.toNat_natCast]
 show ∃ s : Int, Ending.returned (.int .i64 (64 - ((Lib.bitLenAux 64 x : Nat) : Int))) = _ ∧ _
 generalize Lib.bitLenAux 64 x = n at *
 have hn : n ≠ 0 := by rintro rfl; rw [Nat.pow_zero] at b; omega
 refine ⟨_, rfl, by omega, by omega, ?_, rfl⟩
 have e : (64 - (n : Int)).toNat = 64 - n := by omega
 rw [e]
 have c1 : (x : Int) * 2 ^ (64 - n) = ((x * 2 ^ (64 - n) : Nat) : Int) := by simp
 show _ ∧ _
 rw [c1]
 have pp := pow_split (n := n) a
 have p2 := pow_pos' (64 - n)
 have l : x * 2 ^ (64 - n) < 2 ^ n * 2 ^ (64 - n) := Nat.mul_lt_mul_of_pos_right b p2
 have g : 2 ^ n * 2 ^ (64 - n) ≤ (2 * x) * 2 ^ (64 - n) := Nat.mul_le_mul_right _ (c.resolve_left (by omega))
 rw [pp, Nat.mul_assoc] at g
 rw [pp] at l
 omega
/-! ### One half of the quotient: a digit of 32 bits -/
structure Half (U V X D Q q p : Int) : Prop where
 sum : q * V + p = U
 le : Q ≤ q
 p0 : 0 ≤ p
 p1 : p < 4294967296
 q0 : 0 ≤ q
 q1 : q ≤ 4294967297
structure Digit (U V X D Q : Int) : Prop where
 V0 : 2147483648 ≤ V
 V1 : V < 4294967296
 X0 : 0 ≤ X
 X1 : X < 4294967296
 D0 : 0 ≤ D
 D1 : D < 4294967296
 U0 : 0 ≤ U
 U1 : U < V * 4294967296 + X
 Q0 : 0 ≤ Q
 lo : Q * (V * 4294967296 + X) ≤ U * 4294967296 + D
 hi : U * 4294967296 + D < Q * (V * 4294967296 + X) + (V * 4294967296 + X)
theorem yy_mul (q V X : Int) : q * (V * 4294967296 + X) = q * V * 4294967296 + q * X := by rw [Int.mul_add, Int.mul_assoc]
theorem Digit.mono {U V X D Q : Int} (h : Digit U V X D Q) {a b : Int} (l : a ≤ b) : a * (V * 4294967296 + X) ≤ b * (V * 4294967296 + X) :=
 Int.mul_le_mul_of_nonneg_right l (by have := h.V0; have := h.X0; omega)
theorem Digit.lt {U V X D Q : Int} (h : Digit U V X D Q) : Q < 4294967296 := by
 by_cases c : Q < 4294967296
 ·exact c
 ·have m := h.mono (show (4294967296 : Int) ≤ Q by omega)
  have a := h.lo; have b := h.U1; have d := h.D1
  omega
theorem Digit.start {U V X D Q : Int} (h : Digit U V X D Q) : Half U V X D Q (U / V) (U - U / V * V) := by
 have v0 := h.V0; have u0 := h.U0
 have vp : 0 < V := by omega
 have e := Int.mul_ediv_add_emod U V
 have l := Int.emod_lt_of_pos U vp
 have g := Int.emod_nonneg U (show V ≠ 0 by omega)
 have qn : 0 ≤ U / V := Int.ediv_nonneg u0 (by omega)
 rw [Int.mul_comm] at e
 generalize hq : U / V = q at *
 have v1 := h.V1
 refine ⟨by omega, ?_, by omega, by omega, qn, ?_⟩
 ·by_cases c : Q ≤ q
  ·exact c
  ·have m := h.mono (show q + 1 ≤ Q by omega)
   have e1 : (q + 1) * V = q * V + V := by rw [Int.add_mul, Int.one_mul]
   have e2 : (q + 1) * X = q * X + X := by rw [Int.add_mul, Int.one_mul]
   rw [yy_mul, e1, e2] at m
   have qx : 0 ≤ q * X := Int.mul_nonneg qn h.X0
   have a := h.lo; have x0 := h.X0; have d1 := h.D1
   omega
 ·by_cases c : q ≤ 4294967297
  ·exact c
  ·have m : 4294967298 * V ≤ q * V := Int.mul_le_mul_of_nonneg_right (by omega) (by omega)
   have a := h.U1; have x1 := h.X1
   omega
theorem Half.down1 {U V X D Q q p : Int} (h : Digit U V X D Q) (i : Half U V X D Q q p) (c : 4294967296 ≤ q) : Q ≤ q - 1 := by
 have := h.lt; omega
theorem Half.down2 {U V X D Q q p : Int} (h : Digit U V X D Q) (i : Half U V X D Q q p) (c : 4294967296 * p + D < q * X) : Q ≤ q - 1 := by
 by_cases k : Q ≤ q - 1
 ·exact k
 ·have m := h.mono (show q ≤ Q by omega)
  rw [yy_mul q] at m
  have s := i.sum; have a := h.lo
  omega
theorem Half.next {U V X D Q q p : Int} (h : Digit U V X D Q) (i : Half U V X D Q q p) (k : Q ≤ q - 1) (c : p + V < 4294967296) : Half U V X D Q (q - 1) (p + V) := by
 have s := i.sum; have a := i.p0; have v := h.V0; have q0 := h.Q0; have q1 := i.q1
 refine ⟨?_, k, by omega, c, by omega, by omega⟩
 rw [Int.sub_mul, Int.one_mul]; omega
theorem Half.fin {U V X D Q q p : Int} (h : Digit U V X D Q) (i : Half U V X D Q q p) (c : ¬ 4294967296 * p + D < q * X) : q = Q := by
 have l := i.le
 by_cases k : q ≤ Q
 ·omega
 ·have m := h.mono (show Q + 1 ≤ q by omega)
  rw [yy_mul q, Int.add_mul, Int.one_mul] at m
  have s := i.sum; have a := h.hi
  omega
theorem Half.brk {U V X D Q q p : Int} (h : Digit U V X D Q) (i : Half U V X D Q q p) (k : Q ≤ q - 1) (c : 4294967296 ≤ p + V) : q - 1 = Q := by
 by_cases j : q - 1 ≤ Q
 ·omega
 ·have m := h.mono (show Q + 1 ≤ q - 1 by omega)
  rw [yy_mul (q - 1), Int.add_mul, Int.one_mul, Int.sub_mul q 1 V, Int.one_mul] at m
  have s := i.sum; have a := h.hi
  have qx : (q - 1) * X ≤ 4294967296 * X := Int.mul_le_mul_of_nonneg_right (by have := i.q1; omega) h.X0
  have x1 := h.X1
  have d0 := h.D0
  omega
theorem digit_of {U V X D : Int} (V0 : 2147483648 ≤ V) (V1 : V < 4294967296) (X0 : 0 ≤ X) (X1 : X < 4294967296) (D0 : 0 ≤ D) (D1 : D < 4294967296) (U0 : 0 ≤ U) (U1 : U < V * 4294967296 + X) :
  Digit U V X D ((U * 4294967296 + D) / (V * 4294967296 + X)) := by
 have yp : 0 < V * 4294967296 + X := by omega
 have e := Int.mul_ediv_add_emod (U * 4294967296 + D) (V * 4294967296 + X)
 have l := Int.emod_lt_of_pos (U * 4294967296 + D) yp
 have g := Int.emod_nonneg (U * 4294967296 + D) (show V * 4294967296 + X ≠ 0 by omega)
 have qn : 0 ≤ (U * 4294967296 + D) / (V * 4294967296 + X) := Int.ediv_nonneg (by omega) (by omega)
 rw [Int.mul_comm] at e
 exact ⟨V0, V1, X0, X1, D0, D1, U0, U1, qn, by omega, by omega⟩
theorem half_mul {q X : Int} (q0 : 0 ≤ q) (q1 : q < 4294967296) (X0 : 0 ≤ X) (X1 : X < 4294967296) : 0 ≤ q * X ∧ q * X < 18446744073709551616 := by
 have a : 0 ≤ q * X := Int.mul_nonneg q0 X0
 have b : q * X ≤ 4294967295 * 4294967295 := Int.mul_le_mul (by omega) (by omega) X0 (by decide)
 omega
theorem u64_eq {a b : Int} (h : a = b) : Value.int IntKind.u64 a = Value.int IntKind.u64 b := by rw [h]
theorem and_mask (x : Int) (hx : Word x) : bits BinOp.and IntKind.u64 x 4294967295 = x % 4294967296 := by
 obtain ⟨a, rfl⟩ := Int.eq_ofNat_of_zero_le hx.1
 have ha := hx.2
 have t := bits_and_u64_nat a 4294967295 (by omega) (by omega)
 have e : a &&& 4294967295 = a % 4294967296 := Nat.and_two_pow_sub_one_eq_mod a 32
 rw [e] at t
 have t' : bits BinOp.and IntKind.u64 (a : Int) 4294967295 = ((a % 4294967296 : Nat) : Int) := t
 rw [t']; omega
theorem ret2_eq {a b c d : Int} (h : a = b) (h' : c = d) : Ending.returned (.tuple #[.int .u64 a, .int .u64 c]) = .returned (.tuple #[.int .u64 b, .int .u64 d]) := by rw [h, h']
theorem div64_fin (A y pw U T D E Q R P Z Y NN : Int) (pp : 0 < pw) (hN : A * pw = NN) (hY : y * pw = Y) (g : num U T = NN) (eT : T = D * 4294967296 + E) (hR : U * 4294967296 + D - Q * Y = R) (hZ : R * 4294967296 + E - P * Y = Z) (Z0 : 0 ≤ Z) (Z1 : Z < Y) :
  Q * 4294967296 + P = A / y ∧ Z / pw = A % y := by
 have yp : 0 < Y := by omega
 have e : Z + Y * (Q * 4294967296 + P) = NN := by
  have e1 : Y * (Q * 4294967296 + P) = Q * Y * 4294967296 + P * Y := by
   rw [Int.mul_add, Int.mul_comm Y P, ← Int.mul_assoc, Int.mul_comm Y Q]
  rw [e1, ← g, ← hZ, ← hR, eT]
  unfold num
  omega
 obtain ⟨q, r⟩ := (Int.ediv_emod_unique yp).2 ⟨e, Z0, Z1⟩
 constructor
 ·rw [← q, ← hN, ← hY, Int.mul_ediv_mul_of_pos_left _ _ pp]
 ·rw [← r, ← hN, ← hY, Int.mul_comm A pw, Int.mul_comm y pw, Int.mul_emod_mul_of_pos _ _ pp, Int.mul_ediv_cancel_left _ (by omega)]
set_option maxHeartbeats 3200000 in
theorem div64_main (hi lo y : Int) (h1 : Word hi) (h2 : Word lo) (h3 : Word y) (h0 : 0 < hi) (hlt : hi < y) (w : World) :
  Calls Tryz.prog 212 #[.int .u64 hi, .int .u64 lo, .int .u64 y] w fun e w' => e = .returned (.tuple #[.int .u64 (num hi lo / y), .int .u64 (num hi lo % y)]) ∧ w' = w := by
 have y0 : (y == 0) = false := by simp; omega
 have y1 : ¬ y ≤ hi := by omega
 have y2 : (hi == 0) = false := by simp; omega
 obtain ⟨a1, a2⟩ := id h1; obtain ⟨b1, b2⟩ := id h2; obtain ⟨d1, d2⟩ := id h3
 go_enter Tryz.func212, Tryz.ntmps212
 go_wp2_with fail
 refine (lz64 y h3 (by omega) _).mono ?_
 rintro e w1 ⟨s, rfl, s0, s1, S, rfl⟩
 obtain ⟨Y0, Y1⟩ := S.out
 obtain ⟨g1, g2, g3⟩ := shl_small hi lo s h1 h2 s0 (by omega)
 have pp : (0 : Int) < 2 ^ s.toNat := Int.pow_pos (by decide)
 have gl : num hi lo * 2 ^ s.toNat < y * 2 ^ s.toNat * 18446744073709551616 := by
  have : num hi lo < y * 18446744073709551616 := by unfold num; omega
  have := Int.mul_lt_mul_of_pos_right this pp
  rw [Int.mul_right_comm] at this; exact this
 have gn : 0 ≤ num hi lo * 2 ^ s.toNat := Int.mul_nonneg (num_lo h1 h2) (by omega)
 have qY : IntKind.u64.wrap (y * 2 ^ s.toNat) = y * 2 ^ s.toNat := by rw [IntKind.wrap_u64]; omega
 rw [Int.emod_eq_of_lt gn (by omega)] at g3
 generalize hN : num hi lo * 2 ^ s.toNat = NN at *
 generalize hY : y * 2 ^ s.toNat = Y at *
 generalize hU : bits BinOp.or IntKind.u64 (IntKind.u64.wrap (hi * 2 ^ s.toNat)) (lo / 2 ^ (64 - s).toNat) = U at *
 generalize hT : IntKind.u64.wrap (lo * 2 ^ s.toNat) = T at *
 have qA := and_mask Y ⟨by omega, Y1⟩
 have qB := and_mask T g2
 obtain ⟨u0, u1⟩ := g1
 obtain ⟨t0, t1⟩ := g2
 have U1 : U < Y := by unfold num at g3; omega
 have qY2 : IntKind.u64.wrap (y * 2 ^ s.toNat) = Y := by rw [hY]; exact qY
 have HN : Hid _ := hN
 have HY : Hid _ := hY
 have G3 : Hid _ := g3
 clear hN hY g3 gl gn qY
 have v0 : 2147483648 ≤ Y / 4294967296 := by omega
 have v1 : Y / 4294967296 < 4294967296 := by omega
 have x0 : 0 ≤ Y % 4294967296 := by omega
 have x1 : Y % 4294967296 < 4294967296 := by omega
 have eY : Y = Y / 4294967296 * 4294967296 + Y % 4294967296 := by omega
 have eT : T = T / 4294967296 * 4294967296 + T % 4294967296 := by omega
 have dd0 : 0 ≤ T / 4294967296 := by omega
 have dd1 : T / 4294967296 < 4294967296 := by omega
 have dd2 : 0 ≤ T % 4294967296 := by omega
 have dd3 : T % 4294967296 < 4294967296 := by omega
 have hV : ∃ V, Y / 4294967296 = V := ⟨_, rfl⟩
 have hX : ∃ X, Y % 4294967296 = X := ⟨_, rfl⟩
 have hD : ∃ D, T / 4294967296 = D := ⟨_, rfl⟩
 have hE : ∃ E, T % 4294967296 = E := ⟨_, rfl⟩
 obtain ⟨V, hV⟩ := hV
 obtain ⟨X, hX⟩ := hX
 obtain ⟨D, hD⟩ := hD
 obtain ⟨E, hE⟩ := hE
 rw [hV] at v0 v1 eY
 rw [hX] at x0 x1 eY qA
 rw [hD] at dd0 dd1 eT
 rw [hE] at dd2 dd3 eT qB
 have dg := digit_of v0 v1 x0 x1 dd0 dd1 u0 (by omega : U < V * 4294967296 + X)
 have st := dg.start
 generalize hQ : (U * 4294967296 + D) / (V * 4294967296 + X) = Q at dg st
 have b0 := st.p0
 have b3 : 0 ≤ U / V * V := Int.mul_nonneg st.q0 (by omega)
 have b4 : U / V * V ≤ U := by omega
 have EY : Hid _ := eY
 have ET : Hid _ := eT
 clear hQ eY eT
 go_upto_block 0 with fail
 go_cut [15, 16] from 67 to 85 (fun a b wx => a = .int .u64 Q ∧ wx = w1)
 case first =>
  go_wp2_with fail
  go_loop [15, 16] (fun a b => ∃ g p : Int, a = .int .u64 g ∧ b = .int .u64 p ∧ Half U V X D Q g p) (fun a _ => (intOf a).toNat)
  case atStart => exact ⟨_, _, rfl, rfl, st⟩
  case round =>
   obtain ⟨g, p, rfl, rfl, hI⟩ := hrel
   have p0 := hI.p0
   have p1 := hI.p1
   have g0 := hI.q0
   have g1 := hI.q1
   have HQ := dg.Q0
   by_cases c1 : 4294967296 ≤ g
   ·have k := hI.down1 dg c1
    by_cases c3 : 4294967296 ≤ p + V
    ·have f := hI.brk dg k c3
     have F : Hid _ := f
     clear f
     go_wp2_with fail
     go_meet
     exact ⟨u64_eq F.out, rfl⟩
    ·have n := hI.next dg k (by omega)
     go_wp2_with fail
     go_round
     case rel => exact ⟨_, _, rfl, rfl, n⟩
     case measure => simp [intOf]; omega
   ·obtain ⟨m0, m1⟩ := half_mul g0 (by omega) x0 x1
    by_cases c2 : 4294967296 * p + D < g * X
    ·have k := hI.down2 dg c2
     by_cases c3 : 4294967296 ≤ p + V
     ·have f := hI.brk dg k c3
      have F : Hid _ := f
      clear f
      go_wp2_with fail
      go_meet
      exact ⟨u64_eq F.out, rfl⟩
     ·have n := hI.next dg k (by omega)
      go_wp2_with fail
      go_round
      case rel => exact ⟨_, _, rfl, rfl, n⟩
      case measure => simp [intOf]; omega
    ·have f := hI.fin dg c2
     have F : Hid _ := f
     clear f
     go_wp2_with fail
     go_meet
     exact ⟨u64_eq F.out, rfl⟩
 case rest =>
  obtain ⟨rfl, rfl⟩ := hcut
  have R0 : 0 ≤ U * 4294967296 + D - Q * Y := by have := dg.lo; rw [← EY.out] at this; omega
  have R1 : U * 4294967296 + D - Q * Y < Y := by have := dg.hi; rw [← EY.out] at this; omega
  have h21 : IntKind.u64.wrap (IntKind.u64.wrap (IntKind.u64.wrap (U * 4294967296) + D) - IntKind.u64.wrap (Q * Y)) = U * 4294967296 + D - Q * Y := by
   simp only [IntKind.wrap_u64]; omega
  have Qlt := dg.lt
  have Qge := dg.Q0
  clear st b0 b3 b4
  generalize hR : U * 4294967296 + D - Q * Y = R at *
  have HR : Hid _ := hR
  clear hR
  have dg2 := digit_of v0 v1 x0 x1 dd2 dd3 R0 (by have := EY.out; omega : R < V * 4294967296 + X)
  have st2 := dg2.start
  generalize hP : (R * 4294967296 + E) / (V * 4294967296 + X) = P at dg2 st2
  have b0 := st2.p0
  have b3 : 0 ≤ R / V * V := Int.mul_nonneg st2.q0 (by omega)
  have b4 : R / V * V ≤ R := by omega
  clear hP
  go_upto_block 2 with fail
  go_cut [18, 16] from 102 to 120 (fun a b wx => a = .int .u64 P ∧ wx = wc)
  case first =>
   go_wp2_with fail
   go_loop [18, 16] (fun a b => ∃ g p : Int, a = .int .u64 g ∧ b = .int .u64 p ∧ Half R V X E P g p) (fun a _ => (intOf a).toNat)
   case atStart => exact ⟨_, _, rfl, rfl, st2⟩
   case round =>
    obtain ⟨g, p, rfl, rfl, hI⟩ := hrel
    have p0 := hI.p0
    have p1 := hI.p1
    have g0 := hI.q0
    have g1 := hI.q1
    have HQ := dg2.Q0
    by_cases c1 : 4294967296 ≤ g
    ·have k := hI.down1 dg2 c1
     by_cases c3 : 4294967296 ≤ p + V
     ·have f := hI.brk dg2 k c3
      have F : Hid _ := f
      clear f
      go_wp2_with fail
      go_meet
      exact ⟨u64_eq F.out, rfl⟩
     ·have n := hI.next dg2 k (by omega)
      go_wp2_with fail
      go_round
      case rel => exact ⟨_, _, rfl, rfl, n⟩
      case measure => simp [intOf]; omega
    ·obtain ⟨m0, m1⟩ := half_mul g0 (by omega) x0 x1
     by_cases c2 : 4294967296 * p + E < g * X
     ·have k := hI.down2 dg2 c2
      by_cases c3 : 4294967296 ≤ p + V
      ·have f := hI.brk dg2 k c3
       have F : Hid _ := f
       clear f
       go_wp2_with fail
       go_meet
       exact ⟨u64_eq F.out, rfl⟩
      ·have n := hI.next dg2 k (by omega)
       go_wp2_with fail
       go_round
       case rel => exact ⟨_, _, rfl, rfl, n⟩
       case measure => simp [intOf]; omega
     ·have f := hI.fin dg2 c2
      have F : Hid _ := f
      clear f
      go_wp2_with fail
      go_meet
      exact ⟨u64_eq F.out, rfl⟩
  case rest =>
   obtain ⟨rfl, rfl⟩ := hcut
   have Z0 : 0 ≤ R * 4294967296 + E - P * Y := by have := dg2.lo; rw [← EY.out] at this; omega
   have Z1 : R * 4294967296 + E - P * Y < Y := by have := dg2.hi; rw [← EY.out] at this; omega
   have h22 : IntKind.u64.wrap (IntKind.u64.wrap (IntKind.u64.wrap (R * 4294967296) + E) - IntKind.u64.wrap (P * Y)) = R * 4294967296 + E - P * Y := by
    simp only [IntKind.wrap_u64]; omega
   have Plt := dg2.lt
   have Pge := dg2.Q0
   clear st2 b0 b3 b4
   generalize hZ : R * 4294967296 + E - P * Y = Z at *
   have HZ : Hid _ := hZ
   clear hZ
   obtain ⟨F1, F2⟩ := div64_fin (num hi lo) y (2 ^ s.toNat) U T D E Q R P Z Y NN pp HN.out HY.out G3.out ET.out HR.out HZ.out Z0 Z1
   have K1 : Hid _ := F1
   have K2 : Hid _ := F2
   clear F1 F2
   go_wp2_with fail
   go_ret2
   exact ⟨ret2_eq K1.out K2.out, rfl⟩
set_option maxHeartbeats 800000 in
theorem div64_zero (lo y : Int) (h2 : Word lo) (h3 : Word y) (hlt : 0 < y) (w : World) :
  Calls Tryz.prog 212 #[.int .u64 0, .int .u64 lo, .int .u64 y] w fun e w' => e = .returned (.tuple #[.int .u64 (num 0 lo / y), .int .u64 (num 0 lo % y)]) ∧ ∃ n, w' = w.drewN n := by
 have y0 : (y == 0) = false := by simp; omega
 have y1 : ¬ y ≤ 0 := by omega
 have y2 : ¬ y = 0 := by omega
 obtain ⟨b1, b2⟩ := id h2; obtain ⟨d1, d2⟩ := id h3
 have e : num 0 lo = lo := by unfold num; omega
 rw [e]
 go_enter Tryz.func212, Tryz.ntmps212
 go_wp2_with fail
 go_region
 go_wp2_with fail
 go_ret2
 exact ⟨rfl, 1, rfl⟩
theorem div64_any (hi lo y : Int) (h1 : Word hi) (h2 : Word lo) (h3 : Word y) (hlt : hi < y) (w : World) :
  Calls Tryz.prog 212 #[.int .u64 hi, .int .u64 lo, .int .u64 y] w fun e w' => e = .returned (.tuple #[.int .u64 (num hi lo / y), .int .u64 (num hi lo % y)]) ∧ Below w.heap.size w w' := by
 by_cases c : hi = 0
 ·subst c
  refine (div64_zero lo y h2 h3 hlt w).mono ?_
  rintro e w' ⟨rfl, n, rfl⟩
  exact ⟨rfl, by induction n with | zero => exact Below.refl _ _ | succ k ih => exact ih.drew⟩
 ·refine (div64_main hi lo y h1 h2 h3 (by have := h1.1; omega) hlt w).mono ?_
  rintro e w' ⟨rfl, rfl⟩
  exact ⟨rfl, Below.refl _ _⟩
theorem div_num (ah al b : Int) (h1 : Word ah) (h2 : Word al) (h3 : Word b) (hb : 0 < b) :
  Word (ah / b) ∧ Word (num (ah % b) al / b) ∧ Word (num (ah % b) al % b) ∧ num (ah / b) (num (ah % b) al / b) = num ah al / b ∧ num (ah % b) al % b = num ah al % b := by
 have e := Int.mul_ediv_add_emod ah b
 have l := Int.emod_lt_of_pos ah hb
 have g := Int.emod_nonneg ah (show b ≠ 0 by omega)
 have q0 : 0 ≤ ah / b := Int.ediv_nonneg h1.1 (by omega)
 have q1 : ah / b ≤ ah := Int.ediv_le_self _ h1.1
 have hM : num (ah % b) al < b * 18446744073709551616 := by unfold num Word at *; omega
 have hM0 : 0 ≤ num (ah % b) al := by unfold num Word at *; omega
 have e2 : num ah al = num (ah % b) al + b * (ah / b * 18446744073709551616) := by
  unfold num
  rw [← Int.mul_assoc]
  omega
 have d1 : num ah al / b = num (ah % b) al / b + ah / b * 18446744073709551616 := by
  rw [e2, Int.add_mul_ediv_left _ _ (by omega)]
 have d2 : num ah al % b = num (ah % b) al % b := by
  rw [e2, Int.add_mul_emod_self_left]
 have c1 : num (ah % b) al / b < 18446744073709551616 := Int.ediv_lt_of_lt_mul hb (by rw [Int.mul_comm]; exact hM)
 have c0 : 0 ≤ num (ah % b) al / b := Int.ediv_nonneg hM0 (by omega)
 have r1 := Int.emod_lt_of_pos (num (ah % b) al) hb
 have r0 := Int.emod_nonneg (num (ah % b) al) (show b ≠ 0 by omega)
 refine ⟨⟨q0, by have := h1.2; omega⟩, ⟨c0, c1⟩, ⟨r0, by have := h3.2; omega⟩, ?_, d2.symm⟩
 rw [d1]
 generalize num (ah % b) al / b = z
 unfold num
 omega
set_option maxRecDepth 100000 in
set_option maxHeartbeats 1600000 in
theorem div_pos (ah al b : Int) (h1 : Word ah) (h2 : Word al) (h3 : Word b) (hb : 0 < b) (w : World) :
  Calls Tryz.prog 210 #[.agg #[.int .u64 ah, .int .u64 al], .int .u64 b] w fun e w' => ∃ h l r : Int, e = .returned (.tuple #[.agg #[.int .u64 h, .int .u64 l], .int .u64 r]) ∧ Word h ∧ Word l ∧ Word r ∧ Hid (num h l = num ah al / b) ∧ Hid (r = num ah al % b) ∧ Below w.heap.size w w' := by
 obtain ⟨p1, p2, p3, p4, p5⟩ := div_num ah al b h1 h2 h3 hb
 have P4 : Hid _ := p4
 have P5 : Hid _ := p5
 clear p4 p5
 have b0 : ¬ b = 0 := by omega
 have b1 : (b == 0) = false := by simp; omega
 obtain ⟨a1, a2⟩ := id h1; obtain ⟨c1, c2⟩ := id h2; obtain ⟨d1, d2⟩ := id h3
 have qt : ah.tmod b = ah % b := Int.tmod_eq_emod_of_nonneg a1
 have qd : ah.tdiv b = ah / b := Int.tdiv_eq_ediv_of_nonneg a1
 have qw : IntKind.u64.wrap (ah / b) = ah / b := by rw [IntKind.wrap_u64]; have := p1.1; have := p1.2; omega
 have m0 : Word (ah % b) := ⟨Int.emod_nonneg ah b0, by have := Int.emod_lt_of_pos ah hb; omega⟩
 go_enter Tryz.func210, Tryz.ntmps210
 have L := (below_two w (.cells #[.int .u64 ah, .int .u64 al] 139) (.cells #[.int .u64 0, .int .u64 0] 139)).drew
 have e0 := cell_past (cell_new0 w (.int .u64 ah) (.int .u64 al) 139) (.cells #[.int .u64 0, .int .u64 0] 139)
 have e1 := cell_past (cell_new1 w (.int .u64 ah) (.int .u64 al) 139) (.cells #[.int .u64 0, .int .u64 0] 139)
 go_wp2_with fail
 go_region_held3 (fun w' => w'.cell? ⟨w.heap.size, 0, none⟩ = some (.int .u64 ah) ∧ w'.cell? ⟨w.heap.size, 1, none⟩ = some (.int .u64 al))
  (first | exact ⟨e0, e1⟩ | (simp [go_sem, *]; done))
  ((go_at_call 212; refine (div64_any (ah % b) al b m0 h2 h3 (Int.emod_lt_of_pos ah hb) _).mono ?_; rintro e w1 ⟨rfl, B1⟩; obtain ⟨hc, hf⟩ := bcell B1; replace e0 := cell_on B1 e0; replace e1 := cell_on B1 e1; replace L := below_call L B1))
 go_wp2_with fail
 refine bodyPost_ret (v := .tuple #[.agg #[.int .u64 (ah / b), .int .u64 (num (ah % b) al / b)], .int .u64 (num (ah % b) al % b)]) (by simp [results, Tryz.results210, go_sem, hc]) rfl ?_
 exact ⟨_, _, _, rfl, p1, p2, p3, P4, P5, (L.setCell (by simp) _).setCell (by simp) _⟩
end Go.Proofs.YteafnkimcidkhaaGreat
namespace Go.Proofs.YteafnkimcidkhaaGreat
set_option linter.unusedSimpArgs false
set_option linter.unusedVariables false
def fS (s : Bool) : Int := if s then 2147483648 else 9223372036854775808
def fI (s : Bool) : Int := if s then 2139095040 else 9218868437227405312
def fP (s : Bool) : Nat := if s then 23 else 52
def fL (s : Bool) : Int := if s then -149 else -1074
def blen (n : Nat) : Nat := if n = 0 then 0 else n.log2 + 1
theorem blen_zero : blen 0 = 0 := rfl
theorem lt_blen (n : Nat) : n < 2 ^ blen n := by
 unfold blen
 split
 ·subst_vars; decide
 ·exact Nat.lt_log2_self
theorem blen_le {n : Nat} (h : n ≠ 0) : 2 ^ (blen n - 1) ≤ n ∧ 1 ≤ blen n := by
 unfold blen
 rw [if_neg h]
 exact ⟨Nat.log2_self_le h, by omega⟩
theorem blen_uniq {n l : Nat} (h1 : 1 ≤ l) (h2 : 2 ^ (l - 1) ≤ n) (h3 : n < 2 ^ l) : blen n = l := by
 have n0 : n ≠ 0 := by have := Nat.two_pow_pos (l - 1); omega
 obtain ⟨a, b⟩ := blen_le n0
 have c := lt_blen n
 have d1 : l - 1 < blen n := (Nat.pow_lt_pow_iff_right (a := 2) (by decide)).1 (Nat.lt_of_le_of_lt h2 c)
 have d2 : blen n - 1 < l := (Nat.pow_lt_pow_iff_right (a := 2) (by decide)).1 (Nat.lt_of_le_of_lt a h3)
 omega
theorem blen_up {n : Nat} (h : n ≠ 0) (j t : Nat) (ht : t < 2 ^ j) : blen (n * 2 ^ j + t) = blen n + j := by
 obtain ⟨a, b⟩ := blen_le h
 have c := lt_blen n
 apply blen_uniq (by omega)
 ·have : blen n + j - 1 = (blen n - 1) + j := by omega
  rw [this, Nat.pow_add]
  exact Nat.le_trans (Nat.mul_le_mul_right _ a) (Nat.le_add_right _ _)
 ·rw [Nat.pow_add]
  have : (n + 1) * 2 ^ j ≤ 2 ^ blen n * 2 ^ j := Nat.mul_le_mul_right _ c
  rw [Nat.succ_mul] at this
  omega
def lastOf (s : Bool) (n : Nat) (e : Int) : Int := max ((blen n : Int) - (fP s + 1) + e) (fL s)
def quo (n : Nat) (k : Int) : Nat := if k ≤ 0 then n * 2 ^ (-k).toNat else n / 2 ^ k.toNat
def half (n : Nat) (k : Int) : Bool := decide (1 ≤ k) && (n / 2 ^ (k.toNat - 1) % 2 == 1)
def low (n : Nat) (k : Int) : Bool := decide (1 ≤ k) && (n % 2 ^ (k.toNat - 1) != 0)
def away (m : Int) (below odd half low : Bool) : Bool :=
 if m = 1 then (half || low) && !below else if m = 2 then (half || low) && below else if m = 3 then false else half && (low || odd)
def great (s : Bool) (m : Int) (below : Bool) : Int := if away m below true true true then fI s else fI s - 1
def fin (s : Bool) (m : Int) (below : Bool) (last : Int) (q : Nat) (h l : Bool) : Int :=
 if fI s ≤ (last - fL s) * 2 ^ fP s + ((q + if away m below (q % 2 == 1) h l then 1 else 0 : Nat) : Int) then great s m below
 else (last - fL s) * 2 ^ fP s + ((q + if away m below (q % 2 == 1) h l then 1 else 0 : Nat) : Int)
def mag (s : Bool) (m : Int) (below : Bool) (n : Nat) (e : Int) : Int :=
 fin s m below (lastOf s n e) (quo n (lastOf s n e - e)) (half n (lastOf s n e - e)) (low n (lastOf s n e - e))
def sgnd (s below : Bool) (z : Int) : Int := if below then z + fS s else z
def rnd (s : Bool) (m : Int) (below : Bool) (n : Nat) (e : Int) : Int := sgnd s below (if n = 0 then 0 else mag s m below n e)
theorem div_pow_add (n a b : Nat) : n * 2 ^ a / 2 ^ (a + b) = n / 2 ^ b := by
 rw [Nat.pow_add, Nat.mul_comm n, Nat.mul_div_mul_left _ _ (Nat.two_pow_pos a)]
theorem quo_scale (n j : Nat) (k : Int) : quo (n * 2 ^ j) (k + j) = quo n k := by
 unfold quo
 by_cases c1 : k ≤ 0
 ·rw [if_pos c1]
  by_cases c2 : k + j ≤ 0
  ·rw [if_pos c2, Nat.mul_assoc, ← Nat.pow_add]
   congr 2
   omega
  ·rw [if_neg c2]
   have e : j = (k + j).toNat + (-k).toNat := by omega
   have : n * 2 ^ j = n * 2 ^ (-k).toNat * 2 ^ (k + j).toNat := by rw [Nat.mul_assoc, ← Nat.pow_add]; congr 2; omega
   rw [this, Nat.mul_div_cancel _ (Nat.two_pow_pos _)]
 ·rw [if_neg c1, if_neg (by omega)]
  have : (k + j).toNat = j + k.toNat := by omega
  rw [this, div_pow_add]
theorem half_scale (n j : Nat) (k : Int) : half (n * 2 ^ j) (k + j) = half n k := by
 unfold half
 by_cases c1 : 1 ≤ k
 ·rw [decide_eq_true c1, decide_eq_true (by omega : 1 ≤ k + j)]
  have : (k + j).toNat - 1 = j + (k.toNat - 1) := by omega
  rw [this, div_pow_add]
 ·rw [decide_eq_false c1]
  by_cases c2 : 1 ≤ k + j
  ·rw [decide_eq_true c2]
   have : n * 2 ^ j = 2 * (n * 2 ^ (j - (k + j).toNat)) * 2 ^ ((k + j).toNat - 1) := by
    have : j = (j - (k + j).toNat) + ((k + j).toNat - 1) + 1 := by omega
    conv => lhs; rw [this, Nat.pow_succ, Nat.pow_add]
    simp only [Nat.mul_comm, Nat.mul_left_comm, Nat.mul_assoc]
   rw [this, Nat.mul_div_cancel _ (Nat.two_pow_pos _), Nat.mul_mod_right]
   rfl
  ·rw [decide_eq_false c2]
   rfl
theorem low_scale (n j : Nat) (k : Int) : low (n * 2 ^ j) (k + j) = low n k := by
 unfold low
 by_cases c1 : 1 ≤ k
 ·rw [decide_eq_true c1, decide_eq_true (by omega : 1 ≤ k + j)]
  have : (k + j).toNat - 1 = j + (k.toNat - 1) := by omega
  rw [this, Nat.pow_add, Nat.mul_comm n, Nat.mul_mod_mul_left]
  have : 2 ^ j ≠ 0 := Nat.ne_of_gt (Nat.two_pow_pos j)
  by_cases c : n % 2 ^ (k.toNat - 1) = 0
  ·rw [c]; rfl
  ·rw [bne_iff_ne.2 (Nat.mul_ne_zero this c), bne_iff_ne.2 c]
 ·rw [decide_eq_false c1]
  by_cases c2 : 1 ≤ k + j
  ·rw [decide_eq_true c2]
   have : n * 2 ^ j = 2 ^ ((k + j).toNat - 1) * (n * 2 ^ (j - ((k + j).toNat - 1))) := by
    have : j = (j - ((k + j).toNat - 1)) + ((k + j).toNat - 1) := by omega
    conv => lhs; rw [this, Nat.pow_add]
    simp only [Nat.mul_comm, Nat.mul_left_comm, Nat.mul_assoc]
   rw [this, Nat.mul_mod_right]
   rfl
  ·rw [decide_eq_false c2]
   rfl
theorem lastOf_scale (s : Bool) {n : Nat} (h : n ≠ 0) (j t : Nat) (ht : t < 2 ^ j) (e : Int) : lastOf s (n * 2 ^ j + t) (e - j) = lastOf s n e := by
 unfold lastOf
 rw [blen_up h j t ht]
 congr 1
 omega
theorem mag_scale (s : Bool) (m : Int) (b : Bool) {n : Nat} (h : n ≠ 0) (j : Nat) (e : Int) : mag s m b (n * 2 ^ j) (e - j) = mag s m b n e := by
 have a := lastOf_scale s h j 0 (Nat.two_pow_pos j) e
 rw [Nat.add_zero] at a
 unfold mag
 rw [a]
 have k : lastOf s n e - (e - j) = (lastOf s n e - e) + j := by omega
 rw [k, quo_scale, half_scale, low_scale]
theorem rnd_scale (s : Bool) (m : Int) (b : Bool) (n j : Nat) (e : Int) : rnd s m b (n * 2 ^ j) (e - j) = rnd s m b n e := by
 unfold rnd
 by_cases h : n = 0
 ·subst h; simp
 ·have : n * 2 ^ j ≠ 0 := Nat.mul_ne_zero h (Nat.ne_of_gt (Nat.two_pow_pos j))
  rw [if_neg h, if_neg this, mag_scale s m b h]
theorem mag_sticky (s : Bool) (m : Int) (b : Bool) {n : Nat} (h : n ≠ 0) (j t : Nat) (ht : t < 2 ^ j) (t0 : t ≠ 0) (e : Int) (hk : 1 ≤ lastOf s n e - e) :
  mag s m b (n * 2 ^ j + t) (e - j) = fin s m b (lastOf s n e) (quo n (lastOf s n e - e)) (half n (lastOf s n e - e)) true := by
 have a := lastOf_scale s h j t ht e
 unfold mag
 rw [a]
 generalize lastOf s n e = L at *
 have k : L - (e - j) = (L - e) + j := by omega
 rw [k]
 generalize L - e = K at *
 have kk : (K + j).toNat = j + K.toNat := by omega
 have k1 : (K + j).toNat - 1 = j + (K.toNat - 1) := by omega
 have d : ∀ r, (n * 2 ^ j + t) / 2 ^ (j + r) = n / 2 ^ r := fun r => by
  rw [Nat.pow_add, ← Nat.div_div_eq_div_mul, Nat.mul_comm n, Nat.mul_add_div (Nat.two_pow_pos j), Nat.div_eq_of_lt ht, Nat.add_zero]
 have q : quo (n * 2 ^ j + t) (K + j) = quo n K := by
  unfold quo
  rw [if_neg (by omega), if_neg (by omega), kk, d]
 have hf : half (n * 2 ^ j + t) (K + j) = half n K := by
  unfold half
  rw [decide_eq_true (by omega : 1 ≤ K + j), decide_eq_true hk, k1, d]
 have lw : low (n * 2 ^ j + t) (K + j) = true := by
  unfold low
  rw [decide_eq_true (by omega : 1 ≤ K + j), k1]
  have : (n * 2 ^ j + t) % 2 ^ (j + (K.toNat - 1)) ≠ 0 := by
   intro z
   have z' := Nat.mod_mod_of_dvd (n * 2 ^ j + t) (Nat.pow_dvd_pow 2 (Nat.le_add_right j (K.toNat - 1)))
   rw [z, Nat.mul_comm n, Nat.mul_add_mod, Nat.mod_eq_of_lt ht] at z'
   simp at z'
   omega
  simp [this]
 rw [q, hf, lw]
theorem rnd_sticky (s : Bool) (m : Int) (b : Bool) {n : Nat} (h : n ≠ 0) (j t j' t' : Nat) (ht : t < 2 ^ j) (t0 : t ≠ 0) (ht' : t' < 2 ^ j') (t0' : t' ≠ 0) (e : Int) (hk : 1 ≤ lastOf s n e - e) :
  rnd s m b (n * 2 ^ j + t) (e - j) = rnd s m b (n * 2 ^ j' + t') (e - j') := by
 unfold rnd
 rw [if_neg (by omega), if_neg (by omega), mag_sticky s m b h j t ht t0 e hk, mag_sticky s m b h j' t' ht' t0' e hk]
theorem last_ge (s : Bool) {n : Nat} (e : Int) (h : fP s + 2 ≤ blen n) : 1 ≤ lastOf s n e - e := by
 unfold lastOf; omega
theorem fP_le (s : Bool) : fP s ≤ 52 := by cases s <;> decide
theorem le_blen {n l : Nat} (h : 2 ^ l ≤ n) : l + 1 ≤ blen n := by
 have : 2 ^ l < 2 ^ blen n := Nat.lt_of_le_of_lt h (lt_blen n)
 exact (Nat.pow_lt_pow_iff_right (a := 2) (by decide)).1 this
theorem blen_le_of {n l : Nat} (h : n < 2 ^ l) : blen n ≤ l := by
 by_cases c : n = 0
 ·subst c; rw [blen_zero]; omega
 ·obtain ⟨a, b⟩ := blen_le c
  have : 2 ^ (blen n - 1) < 2 ^ l := Nat.lt_of_le_of_lt a h
  have := (Nat.pow_lt_pow_iff_right (a := 2) (by decide)).1 this
  omega
def rndQ (s : Bool) (m : Int) (b : Bool) (n : Nat) (e : Int) (more : Bool) : Int := rnd s m b (4 * n + more.toNat) (e - 2)
theorem rndQ_false (s : Bool) (m : Int) (b : Bool) (n : Nat) (e : Int) : rndQ s m b n e false = rnd s m b n e := by
 have := rnd_scale s m b n 2 e
 unfold rndQ
 rw [← this]
 congr 1
 simp; omega
theorem rnd_odd (s : Bool) (m : Int) (b : Bool) (n : Nat) (e : Int) (h : fP s + 4 ≤ blen n) : rnd s m b (n / 2 * 2 + 1) e = rndQ s m b n e true := by
 have n0 : n ≠ 0 := by intro c; subst c; rw [blen_zero] at h; omega
 have hb : blen n = blen (n / 2) + 1 := by
  have h2 : n / 2 ≠ 0 := by
   intro c
   have : n < 2 ^ 1 := by omega
   have := blen_le_of this
   omega
  have := blen_up h2 1 (n % 2) (by omega)
  have e : n / 2 * 2 ^ 1 + n % 2 = n := by omega
  rw [e] at this
  exact this
 have hk := last_ge s (n := n / 2) (e + 1) (by omega)
 have h2 : n / 2 ≠ 0 := by intro c; rw [c, blen_zero] at hb; omega
 have t := rnd_sticky s m b h2 1 1 3 (n % 2 * 4 + 1) (by decide) (by decide) (by omega) (by omega) (e + 1) hk
 have e1 : n / 2 * 2 ^ 1 + 1 = n / 2 * 2 + 1 := by omega
 have e2 : e + 1 - ((1 : Nat) : Int) = e := by omega
 have e3 : n / 2 * 2 ^ 3 + (n % 2 * 4 + 1) = 4 * n + 1 := by omega
 have e4 : e + 1 - ((3 : Nat) : Int) = e - 2 := by omega
 rw [e1, e2, e3, e4] at t
 exact t
theorem rnd_far_add (s : Bool) (m : Int) (b : Bool) (x y d : Nat) (e : Int) (hx : 2 ^ fP s ≤ x) (hy : y < 2 ^ (fP s + 1)) (hd : 70 ≤ d) :
  rnd s m b (x * 2 ^ 70 + y) (e - 70) = rnd s m b (x * 2 ^ d + y) (e - d) := by
 have x0 : x ≠ 0 := by have := Nat.two_pow_pos (fP s); omega
 by_cases c : y = 0
 ·subst c
  rw [Nat.add_zero, Nat.add_zero]
  have a := rnd_scale s m b x 70 e
  have a' := rnd_scale s m b x d e
  rw [a']
  exact a
 ·have hl : fP s + 2 ≤ blen (x * 2 ^ 2 + 0) := by
   rw [blen_up x0 2 0 (by decide)]
   have := le_blen hx
   omega
  rw [Nat.add_zero] at hl
  have hp : 2 ^ (fP s + 1) ≤ 2 ^ 68 := Nat.pow_le_pow_right (by decide) (by have := fP_le s; omega)
  have hp' : 2 ^ 68 ≤ 2 ^ (d - 2) := Nat.pow_le_pow_right (by decide) (by omega)
  have n0 : x * 2 ^ 2 ≠ 0 := by omega
  have t := rnd_sticky s m b n0 68 y (d - 2) y (by omega) c (by omega) c (e - 2) (last_ge s _ hl)
  have e1 : x * 2 ^ 2 * 2 ^ (d - 2) = x * 2 ^ d := by rw [Nat.mul_assoc, ← Nat.pow_add]; congr 2; omega
  have e3 : e - 2 - ((d - 2 : Nat) : Int) = e - d := by omega
  have e5 : x * 2 ^ 2 * 2 ^ 68 = x * 2 ^ 70 := by rw [Nat.mul_assoc, ← Nat.pow_add]
  have e6 : e - 2 - ((68 : Nat) : Int) = e - 70 := by omega
  rw [e1, e3, e5, e6] at t
  exact t
theorem rnd_far_sub (s : Bool) (m : Int) (b : Bool) (x y d : Nat) (e : Int) (hx : 2 ^ fP s ≤ x) (hy : y < 2 ^ (fP s + 1)) (hd : 70 ≤ d) :
  rnd s m b (x * 2 ^ 70 - y) (e - 70) = rnd s m b (x * 2 ^ d - y) (e - d) := by
 have x0 : x ≠ 0 := by have := Nat.two_pow_pos (fP s); omega
 by_cases c : y = 0
 ·subst c
  rw [Nat.sub_zero, Nat.sub_zero]
  have a := rnd_scale s m b x 70 e
  have a' := rnd_scale s m b x d e
  rw [a']
  exact a
 ·have hx2 : 2 ^ (fP s + 1) ≤ x * 2 ^ 2 - 1 := by rw [Nat.pow_succ]; have := Nat.two_pow_pos (fP s); omega
  have hl := le_blen hx2
  have hp : 2 ^ (fP s + 1) ≤ 2 ^ 68 := Nat.pow_le_pow_right (by decide) (by have := fP_le s; omega)
  have hp' : 2 ^ 68 ≤ 2 ^ (d - 2) := Nat.pow_le_pow_right (by decide) (by omega)
  have n0 : x * 2 ^ 2 - 1 ≠ 0 := by omega
  have t := rnd_sticky s m b n0 68 (2 ^ 68 - y) (d - 2) (2 ^ (d - 2) - y) (by omega) (by omega) (by omega) (by omega) (e - 2) (last_ge s _ (by omega))
  have e1 : ∀ j, y ≤ 2 ^ j → (x * 2 ^ 2 - 1) * 2 ^ j + (2 ^ j - y) = x * 2 ^ (j + 2) - y := fun j hj => by
   rw [Nat.mul_comm (x * 2 ^ 2 - 1), Nat.mul_sub, Nat.mul_one]
   have : x * 2 ^ (j + 2) = 2 ^ j * (x * 2 ^ 2) := by rw [Nat.pow_add]; simp only [Nat.mul_comm, Nat.mul_left_comm]
   rw [this]
   have : 2 ^ j * 1 ≤ 2 ^ j * (x * 2 ^ 2) := Nat.mul_le_mul_left _ (by omega)
   omega
  have e3 : e - 2 - ((d - 2 : Nat) : Int) = e - d := by omega
  have e4 : d - 2 + 2 = d := by omega
  rw [e1 68 (by omega), e1 (d - 2) (by omega), e3, e4] at t
  rw [← t]
  congr 1
  omega
def sumT (s : Bool) (m : Int) (xb : Bool) (xw : Nat) (xe : Int) (yb : Bool) (yw : Nat) (ye : Int) : Int :=
 if xb = yb then rnd s m xb (xw * 2 ^ (xe - min xe ye).toNat + yw * 2 ^ (ye - min xe ye).toNat) (min xe ye)
 else if xw * 2 ^ (xe - min xe ye).toNat = yw * 2 ^ (ye - min xe ye).toNat then sgnd s (m == 2) 0
 else if yw * 2 ^ (ye - min xe ye).toNat < xw * 2 ^ (xe - min xe ye).toNat then rnd s m xb (xw * 2 ^ (xe - min xe ye).toNat - yw * 2 ^ (ye - min xe ye).toNat) (min xe ye)
 else rnd s m yb (yw * 2 ^ (ye - min xe ye).toNat - xw * 2 ^ (xe - min xe ye).toNat) (min xe ye)
theorem sumT_swap (s : Bool) (m : Int) (xb : Bool) (xw : Nat) (xe : Int) (yb : Bool) (yw : Nat) (ye : Int) : sumT s m xb xw xe yb yw ye = sumT s m yb yw ye xb xw xe := by
 unfold sumT
 rw [show min ye xe = min xe ye by omega]
 generalize xw * 2 ^ (xe - min xe ye).toNat = X
 generalize yw * 2 ^ (ye - min xe ye).toNat = Y
 by_cases c : xb = yb
 ·subst c
  rw [if_pos rfl, if_pos rfl, Nat.add_comm]
 ·rw [if_neg c, if_neg (fun h : yb = xb => c h.symm)]
  by_cases d : X = Y
  ·rw [if_pos d, if_pos d.symm]
  ·rw [if_neg d, if_neg (fun h : Y = X => d h.symm)]
   by_cases g : Y < X
   ·rw [if_pos g, if_neg (by omega)]
   ·rw [if_neg g, if_pos (by omega)]
theorem rnd_zero (s : Bool) (m : Int) (b : Bool) (e : Int) : rnd s m b 0 e = sgnd s b 0 := by unfold rnd; rw [if_pos rfl]
def raised (xe ye : Int) : Int := max ye (xe - 70)
theorem raised_ge (xe ye : Int) (h : ye ≤ xe) : 0 ≤ xe - raised xe ye ∧ xe - raised xe ye ≤ 70 := by unfold raised; omega
theorem far_or (xe ye : Int) (h : ye ≤ xe) : raised xe ye = ye ∨ raised xe ye = xe - 70 ∧ 70 < xe - ye := by unfold raised; omega
theorem sum_same (s : Bool) (m : Int) (b : Bool) (xw yw : Nat) (xe ye : Int) (h : ye ≤ xe) (hx : fL s < xe → 2 ^ fP s ≤ xw) (hy : yw < 2 ^ (fP s + 1)) (hl : fL s ≤ ye) :
  rnd s m b (xw * 2 ^ (xe - raised xe ye).toNat + yw) (raised xe ye) = sumT s m b xw xe b yw ye := by
 unfold sumT
 rw [if_pos rfl, show min xe ye = ye by omega, show (ye - ye).toNat = 0 by omega, Nat.pow_zero, Nat.mul_one]
 rcases far_or xe ye h with c | ⟨c, d⟩
 ·rw [c]
 ·rw [c, show (xe - (xe - 70)).toNat = 70 by omega, rnd_far_add s m b xw yw (xe - ye).toNat xe (hx (by omega)) hy (by omega)]
  congr 1
  omega
theorem far_above (s : Bool) (x y d : Nat) (hx : 2 ^ fP s ≤ x) (hy : y < 2 ^ (fP s + 1)) (hd : 1 ≤ d) : y < x * 2 ^ d := by
 have : 2 ^ (fP s + 1) ≤ x * 2 ^ d := by
  rw [Nat.pow_succ]
  exact Nat.mul_le_mul hx (Nat.le_trans (by decide) (Nat.pow_le_pow_right (by decide) hd : 2 ^ 1 ≤ 2 ^ d))
 omega
theorem sum_more (s : Bool) (m : Int) (xb yb : Bool) (xw yw : Nat) (xe ye : Int) (hb : xb ≠ yb) (h : ye ≤ xe) (hx : fL s < xe → 2 ^ fP s ≤ xw) (hy : yw < 2 ^ (fP s + 1)) (hl : fL s ≤ ye)
  (g : yw < xw * 2 ^ (xe - raised xe ye).toNat) :
  rnd s m xb (xw * 2 ^ (xe - raised xe ye).toNat - yw) (raised xe ye) = sumT s m xb xw xe yb yw ye := by
 unfold sumT
 rw [if_neg hb, show min xe ye = ye by omega, show (ye - ye).toNat = 0 by omega, Nat.pow_zero, Nat.mul_one]
 rcases far_or xe ye h with c | ⟨c, d⟩
 ·rw [c] at g ⊢
  rw [if_neg (by omega), if_pos g]
 ·rw [c] at g ⊢
  have q := far_above s xw yw (xe - ye).toNat (hx (by omega)) hy (by omega)
  rw [if_neg (by omega), if_pos q]
  rw [show (xe - (xe - 70)).toNat = 70 by omega, rnd_far_sub s m xb xw yw (xe - ye).toNat xe (hx (by omega)) hy (by omega)]
  congr 1
  omega
theorem sum_gone (s : Bool) (m : Int) (xb yb : Bool) (xw yw : Nat) (xe ye e : Int) (hb : xb ≠ yb) (h : ye ≤ xe) (hx : fL s < xe → 2 ^ fP s ≤ xw) (hy : yw < 2 ^ (fP s + 1)) (hl : fL s ≤ ye)
  (g : yw = xw * 2 ^ (xe - raised xe ye).toNat) :
  rnd s m (m == 2) 0 e = sumT s m xb xw xe yb yw ye := by
 rw [rnd_zero]
 unfold sumT
 rw [if_neg hb, show min xe ye = ye by omega, show (ye - ye).toNat = 0 by omega, Nat.pow_zero, Nat.mul_one]
 rcases far_or xe ye h with c | ⟨c, d⟩
 ·rw [c] at g
  rw [if_pos g.symm]
 ·rw [c, show (xe - (xe - 70)).toNat = 70 by omega] at g
  have q := far_above s xw yw 70 (hx (by omega)) hy (by omega)
  omega
theorem sum_less (s : Bool) (m : Int) (xb yb : Bool) (xw yw : Nat) (xe ye : Int) (hb : xb ≠ yb) (h : ye ≤ xe) (hx : fL s < xe → 2 ^ fP s ≤ xw) (hy : yw < 2 ^ (fP s + 1)) (hl : fL s ≤ ye)
  (g : xw * 2 ^ (xe - raised xe ye).toNat < yw) :
  rnd s m yb (yw - xw * 2 ^ (xe - raised xe ye).toNat) (raised xe ye) = sumT s m xb xw xe yb yw ye := by
 unfold sumT
 rw [if_neg hb, show min xe ye = ye by omega, show (ye - ye).toNat = 0 by omega, Nat.pow_zero, Nat.mul_one]
 rcases far_or xe ye h with c | ⟨c, d⟩
 ·rw [c] at g ⊢
  rw [if_neg (by omega), if_neg (by omega)]
 ·rw [c, show (xe - (xe - 70)).toNat = 70 by omega] at g
  have q := far_above s xw yw 70 (hx (by omega)) hy (by omega)
  omega
end Go.Proofs.YteafnkimcidkhaaGreat
namespace Go.Proofs.YteafnkimcidkhaaGreat
open Go.RowKit
set_option linter.unusedVariables false
set_option linter.unusedSimpArgs false
def fmtV : Bool → Value
 | true => .agg #[.int .i64 32, .int .i64 23, .int .i64 (-149), .int .u64 2147483648, .int .u64 2139095040]
 | false => .agg #[.int .i64 64, .int .i64 52, .int .i64 (-1074), .int .u64 9223372036854775808, .int .u64 9218868437227405312]
def fmtO : Bool → Obj
 | true => .cells #[.int .i64 32, .int .i64 23, .int .i64 (-149), .int .u64 2147483648, .int .u64 2139095040] 148
 | false => .cells #[.int .i64 64, .int .i64 52, .int .i64 (-1074), .int .u64 9223372036854775808, .int .u64 9218868437227405312] 148
def fNan (s : Bool) : Int := if s then 2143289344 else 9221120237041090560
def zOf (s : Bool) (a : Int) : Int := bits BinOp.andNot IntKind.u64 a (fS s)
def wideB (s : Bool) (a : Int) : Bool := s && decide (4294967296 ≤ a)
def cls (s : Bool) (a : Int) : Int :=
 if wideB s a then 0 else if fI s < zOf s a then 5 else if zOf s a = fI s then 4 else if zOf s a = 0 then 1 else if zOf s a / 2 ^ fP s = 0 then 2 else 3
theorem zOf_word (s : Bool) (a : Int) (h : Word a) : Word (zOf s a) := by
 obtain ⟨x, rfl⟩ := Int.eq_ofNat_of_zero_le h.1
 have hx := h.2
 have e : ∃ b : Nat, fS s = (b : Int) ∧ b < 18446744073709551616 := by
  cases s
  ·exact ⟨9223372036854775808, rfl, by decide⟩
  ·exact ⟨2147483648, rfl, by decide⟩
 obtain ⟨b, e1, e2⟩ := e
 unfold zOf
 rw [e1, u64_andNot_nat x b (by omega) e2]
 have l := Nat.and_le_left (n := x) (m := 18446744073709551615 - b)
 exact ⟨by omega, by omega⟩
theorem zOf_double (a : Int) (h : Word a) : zOf false a = a % 9223372036854775808 := by
 obtain ⟨x, rfl⟩ := Int.eq_ofNat_of_zero_le h.1
 have hx := h.2
 have t := u64_andNot_nat x 9223372036854775808 (by omega) (by decide)
 have e : x &&& (18446744073709551615 - 9223372036854775808) = x % 9223372036854775808 := Nat.and_two_pow_sub_one_eq_mod x 63
 rw [e] at t
 show bits BinOp.andNot IntKind.u64 (x : Int) 9223372036854775808 = _
 exact t.trans (by omega)
theorem zOf_single (a : Int) (h : 0 ≤ a) (h' : a < 4294967296) : zOf true a = a % 2147483648 := by
 obtain ⟨x, rfl⟩ := Int.eq_ofNat_of_zero_le h
 have t := u64_andNot_nat x 2147483648 (by omega) (by decide)
 have e : x &&& (18446744073709551615 - 2147483648) = x % 2147483648 := by
  have l := Nat.and_le_left (n := x) (m := 18446744073709551615 - 2147483648)
  have m := Nat.and_mod_two_pow (a := x) (b := 18446744073709551615 - 2147483648) (n := 32)
  rw [Nat.mod_eq_of_lt (a := x &&& (18446744073709551615 - 2147483648)) (by omega), Nat.mod_eq_of_lt (a := x) (by omega)] at m
  rw [m]
  exact Nat.and_two_pow_sub_one_eq_mod x 31
 rw [e] at t
 show bits BinOp.andNot IntKind.u64 (x : Int) 2147483648 = _
 exact t.trans (by omega)
set_option maxHeartbeats 800000 in
theorem formatOf_any (f : Int) (w : World) :
  Calls Tryz.prog 107 #[.int .i64 f] w fun e w' => e = .returned (fmtV (f == 1)) ∧ Below w.heap.size w w' := by
 by_cases c : f = 1
 ·subst c
  go_enter Tryz.func107, Tryz.ntmps107
  go_wp2_with fail
  go_region
  go_wp2_with fail
  exact bodyPost_ret (v := fmtV true) (by simp [results, Tryz.results107, go_sem, fmtV]) rfl ⟨rfl, (below_two _ _ _).drew⟩
 ·have c' : (f == 1) = false := by simp [c]
  rw [c']
  go_enter Tryz.func107, Tryz.ntmps107
  go_wp2_with fail
  go_region
  go_wp2_with fail
  exact bodyPost_ret (v := fmtV false) (by simp [results, Tryz.results107, go_sem, fmtV]) rfl ⟨rfl, (below_two _ _ _).drew⟩
theorem i64_eq {a b : Int} (h : a = b) : Ending.returned (Value.int IntKind.i64 a) = .returned (.int .i64 b) := by rw [h]
set_option maxHeartbeats 1600000 in
theorem class_any (s : Bool) (a : Int) (h : Word a) (w : World) :
  Calls Tryz.prog 157 #[fmtV s, .int .u64 a] w fun e w' => e = .returned (.int .i64 (cls s a)) ∧ w' = w.alloc (fmtO s) := by
 obtain ⟨a0, a1⟩ := id h
 obtain ⟨z0, z1⟩ := zOf_word s a h
 have hz : ∃ z, zOf s a = z := ⟨_, rfl⟩
 obtain ⟨z, hz⟩ := hz
 have hc : ∃ k, cls s a = k := ⟨_, rfl⟩
 obtain ⟨k, hc⟩ := hc
 rw [hz] at z0 z1
 rw [hc]
 unfold cls wideB at hc
 rw [hz] at hc
 cases s
 ·have hq : bits BinOp.andNot IntKind.u64 a 9223372036854775808 = z := hz
  have hw : (a / 18446744073709551616 != 0) = false := by simp; omega
  simp only [Bool.false_and, Bool.false_eq_true, if_false, fI, fP] at hc
  have HC : Hid _ := hc
  clear hc hz
  unfold fmtV
  by_cases c1 : 9218868437227405312 < z
  ·have hk := HC.out
   simp [c1] at hk
   have HK : Hid _ := hk
   clear hk
   go_enter Tryz.func157, Tryz.ntmps157
   go_wp2_with fail
   go_ret
   exact ⟨i64_eq HK.out, rfl⟩
  ·by_cases c2 : z = 9218868437227405312
   ·have hk := HC.out
    simp [c1, c2] at hk
    have HK : Hid _ := hk
    clear hk
    go_enter Tryz.func157, Tryz.ntmps157
    go_wp2_with fail
    go_ret
    exact ⟨i64_eq HK.out, rfl⟩
   ·by_cases c3 : z = 0
    ·have hk := HC.out
     simp [c1, c2, c3] at hk
     have HK : Hid _ := hk
     clear hk
     go_enter Tryz.func157, Tryz.ntmps157
     go_wp2_with fail
     go_ret
     exact ⟨i64_eq HK.out, rfl⟩
    ·by_cases c4 : z / 4503599627370496 = 0
     ·have hk := HC.out
      simp [c1, c2, c3, c4] at hk
      have HK : Hid _ := hk
      clear hk
      go_enter Tryz.func157, Tryz.ntmps157
      go_wp2_with fail
      go_ret
      exact ⟨i64_eq HK.out, rfl⟩
     ·have hk := HC.out
      simp [c1, c2, c3, c4] at hk
      have HK : Hid _ := hk
      clear hk
      go_enter Tryz.func157, Tryz.ntmps157
      go_wp2_with fail
      go_ret
      exact ⟨i64_eq HK.out, rfl⟩
 ·have hq : bits BinOp.andNot IntKind.u64 a 2147483648 = z := hz
  simp only [Bool.true_and, decide_eq_true_iff, if_true, fI, fP] at hc
  have HC : Hid _ := hc
  clear hc hz
  unfold fmtV
  by_cases c0 : 4294967296 ≤ a
  ·have hw : (a / 4294967296 != 0) = true := by simp; omega
   have hk := HC.out
   simp [c0] at hk
   have HK : Hid _ := hk
   clear hk
   go_enter Tryz.func157, Tryz.ntmps157
   go_wp2_with fail
   go_ret
   exact ⟨i64_eq HK.out, rfl⟩
  ·have hw : (a / 4294967296 != 0) = false := by simp; omega
   by_cases c1 : 2139095040 < z
   ·have hk := HC.out
    simp [c0, c1] at hk
    have HK : Hid _ := hk
    clear hk
    go_enter Tryz.func157, Tryz.ntmps157
    go_wp2_with fail
    go_ret
    exact ⟨i64_eq HK.out, rfl⟩
   ·by_cases c2 : z = 2139095040
    ·have hk := HC.out
     simp [c0, c1, c2] at hk
     have HK : Hid _ := hk
     clear hk
     go_enter Tryz.func157, Tryz.ntmps157
     go_wp2_with fail
     go_ret
     exact ⟨i64_eq HK.out, rfl⟩
    ·by_cases c3 : z = 0
     ·have hk := HC.out
      simp [c0, c1, c2, c3] at hk
      have HK : Hid _ := hk
      clear hk
      go_enter Tryz.func157, Tryz.ntmps157
      go_wp2_with fail
      go_ret
      exact ⟨i64_eq HK.out, rfl⟩
     ·by_cases c4 : z / 8388608 = 0
      ·have hk := HC.out
       simp [c0, c1, c2, c3, c4] at hk
       have HK : Hid _ := hk
       clear hk
       go_enter Tryz.func157, Tryz.ntmps157
       go_wp2_with fail
       go_ret
       exact ⟨i64_eq HK.out, rfl⟩
      ·have hk := HC.out
       simp [c0, c1, c2, c3, c4] at hk
       have HK : Hid _ := hk
       clear hk
       go_enter Tryz.func157, Tryz.ntmps157
       go_wp2_with fail
       go_ret
       exact ⟨i64_eq HK.out, rfl⟩
end Go.Proofs.YteafnkimcidkhaaGreat
namespace Go.Proofs.YteafnkimcidkhaaGreat
set_option linter.unusedVariables false
set_option linter.unusedSimpArgs false
def val (s : Bool) (z : Nat) : Nat := if z / 2 ^ fP s = 0 then z else (z % 2 ^ fP s + 2 ^ fP s) * 2 ^ (z / 2 ^ fP s - 1)
theorem val_at (s : Bool) (x q : Nat) (h : q ≤ 2 ^ (fP s + 1)) (h0 : x = 0 ∨ 2 ^ fP s ≤ q) : val s (x * 2 ^ fP s + q) = q * 2 ^ x := by
 unfold val
 have hp := Nat.two_pow_pos (fP s)
 rw [Nat.pow_succ] at h
 generalize hQ : 2 ^ fP s = Q at *
 by_cases c : q < Q
 ·have : x = 0 := by omega
  subst this
  rw [Nat.zero_mul, Nat.zero_add, Nat.div_eq_of_lt c, if_pos rfl]
  omega
 ·by_cases d : q < 2 * Q
  ·have e : x * Q + q = (q - Q) + Q * (x + 1) := by rw [Nat.mul_add, Nat.mul_comm Q]; omega
   rw [e, Nat.add_mul_div_left _ _ hp, Nat.div_eq_of_lt (by omega), Nat.add_mul_mod_self_left, Nat.mod_eq_of_lt (by omega), if_neg (by omega)]
   congr 1
   ·omega
   ·congr 1; omega
  ·have e : x * Q + q = 0 + Q * (x + 2) := by rw [Nat.mul_add, Nat.mul_comm Q]; omega
   rw [e, Nat.add_mul_div_left _ _ hp, Nat.zero_div, Nat.add_mul_mod_self_left, Nat.zero_mod, if_neg (by omega), Nat.zero_add]
   rw [show 0 + (x + 2) - 1 = x + 1 by omega, Nat.pow_succ, show q = Q * 2 by omega, Nat.mul_assoc]
   congr 1
   rw [Nat.mul_comm]
theorem val_parts (s : Bool) (z : Nat) : ∃ x q, z = x * 2 ^ fP s + q ∧ q < 2 ^ (fP s + 1) ∧ (x = 0 ∨ 2 ^ fP s ≤ q) := by
 have hp := Nat.two_pow_pos (fP s)
 rw [Nat.pow_succ]
 generalize 2 ^ fP s = Q at *
 have dm := Nat.div_add_mod z Q
 have lt := Nat.mod_lt z hp
 by_cases c : z < Q
 ·exact ⟨0, z, by omega, by omega, Or.inl rfl⟩
 ·have : 0 < z / Q := Nat.div_pos (by omega) hp
  refine ⟨z / Q - 1, z % Q + Q, ?_, by omega, Or.inr (by omega)⟩
  have : z / Q * Q = (z / Q - 1) * Q + Q := by rw [← Nat.succ_mul]; congr 1; omega
  rw [Nat.mul_comm] at dm
  omega
theorem val_succ (s : Bool) (z : Nat) : val s z < val s (z + 1) := by
 obtain ⟨x, q, e, h, h0⟩ := val_parts s z
 rw [e, val_at s x q (by omega) h0, Nat.add_assoc, val_at s x (q + 1) (by omega) (by omega)]
 exact Nat.mul_lt_mul_of_pos_right (by omega) (Nat.two_pow_pos x)
theorem val_lt (s : Bool) {y z : Nat} (h : y < z) : val s y < val s z := by
 induction z with
 | zero => omega
 | succ z ih =>
  by_cases c : y = z
  ·subst c; exact val_succ s y
  ·exact Nat.lt_trans (ih (by omega)) (val_succ s z)
theorem val_le (s : Bool) {y z : Nat} (h : y ≤ z) : val s y ≤ val s z := by
 by_cases c : y = z
 ·subst c; exact Nat.le_refl _
 ·exact Nat.le_of_lt (val_lt s (by omega))
theorem lt_of_val (s : Bool) {y z : Nat} (h : val s y < val s z) : y < z := by
 by_cases c : y < z
 ·exact c
 ·have := val_le s (Nat.le_of_not_lt c); omega
theorem kept (s : Bool) {n : Nat} (h : n ≠ 0) (e E : Int) (h1 : E ≤ e) (h2 : E ≤ fL s) :
  ∃ x : Nat, lastOf s n e - fL s = x ∧ quo n (lastOf s n e - e) < 2 ^ (fP s + 1) ∧ (x = 0 ∨ 2 ^ fP s ≤ quo n (lastOf s n e - e)) ∧
   quo n (lastOf s n e - e) * 2 ^ (x + (fL s - E).toNat) ≤ n * 2 ^ (e - E).toNat ∧ n * 2 ^ (e - E).toNat < (quo n (lastOf s n e - e) + 1) * 2 ^ (x + (fL s - E).toNat) ∧
   ((half n (lastOf s n e - e) || low n (lastOf s n e - e)) = false → n * 2 ^ (e - E).toNat = quo n (lastOf s n e - e) * 2 ^ (x + (fL s - E).toNat)) := by
 have hl : fL s ≤ lastOf s n e := by unfold lastOf; omega
 have hl2 : (blen n : Int) - (fP s + 1) + e ≤ lastOf s n e := by unfold lastOf; omega
 have hl3 : lastOf s n e = fL s ∨ lastOf s n e = (blen n : Int) - (fP s + 1) + e := by unfold lastOf; omega
 obtain ⟨b1, b2⟩ := blen_le h
 have b3 := lt_blen n
 generalize lastOf s n e = L at *
 refine ⟨(L - fL s).toNat, by omega, ?_⟩
 have ex : (L - fL s).toNat + (fL s - E).toNat = (L - E).toNat := by omega
 rw [ex]
 by_cases c : L - e ≤ 0
 ·have q : quo n (L - e) = n * 2 ^ (e - L).toNat := by unfold quo; rw [if_pos c]; congr 2; omega
  have ee : n * 2 ^ (e - L).toNat * 2 ^ (L - E).toNat = n * 2 ^ (e - E).toNat := by rw [Nat.mul_assoc, ← Nat.pow_add]; congr 2; omega
  rw [q]
  refine ⟨?_, ?_, ?_, ?_, ?_⟩
  ·have : n * 2 ^ (e - L).toNat < 2 ^ blen n * 2 ^ (e - L).toNat := Nat.mul_lt_mul_of_pos_right b3 (Nat.two_pow_pos _)
   rw [← Nat.pow_add] at this
   exact Nat.lt_of_lt_of_le this (Nat.pow_le_pow_right (by decide) (by omega))
  ·rcases hl3 with g | g
   ·left; omega
   ·right
    have : 2 ^ (blen n - 1) * 2 ^ (e - L).toNat ≤ n * 2 ^ (e - L).toNat := Nat.mul_le_mul_right _ b1
    rw [← Nat.pow_add] at this
    exact Nat.le_trans (Nat.pow_le_pow_right (by decide) (by omega)) this
  ·omega
  ·rw [Nat.add_mul, ee]; have := Nat.two_pow_pos (L - E).toNat; omega
  ·intro _; exact ee.symm
 ·have q : quo n (L - e) = n / 2 ^ (L - e).toNat := by unfold quo; rw [if_neg c]
  have hp := Nat.two_pow_pos (L - e).toNat
  have dm := Nat.div_add_mod n (2 ^ (L - e).toNat)
  have lt := Nat.mod_lt n hp
  have ee : 2 ^ (L - E).toNat = 2 ^ (L - e).toNat * 2 ^ (e - E).toNat := by rw [← Nat.pow_add]; congr 1; omega
  have p2 := Nat.two_pow_pos (e - E).toNat
  rw [q]
  refine ⟨?_, ?_, ?_, ?_, ?_⟩
  ·rw [Nat.div_lt_iff_lt_mul hp, ← Nat.pow_add]
   exact Nat.lt_of_lt_of_le b3 (Nat.pow_le_pow_right (by decide) (by omega))
  ·rcases hl3 with g | g
   ·left; omega
   ·right
    rw [Nat.le_div_iff_mul_le hp, ← Nat.pow_add]
    exact Nat.le_trans (Nat.pow_le_pow_right (by decide) (by omega)) b1
  ·rw [ee, ← Nat.mul_assoc]
   exact Nat.mul_le_mul_right _ (by rw [Nat.mul_comm]; omega)
  ·rw [ee, ← Nat.mul_assoc]
   exact Nat.mul_lt_mul_of_pos_right (by rw [Nat.add_mul, Nat.mul_comm]; omega) p2
  ·intro ho
   rw [ee, ← Nat.mul_assoc]
   congr 1
   have k1 : 1 ≤ L - e := by omega
   unfold half low at ho
   rw [decide_eq_true k1] at ho
   have kk : (L - e).toNat = ((L - e).toNat - 1) + 1 := by omega
   generalize (L - e).toNat - 1 = j at *
   rw [kk, Nat.pow_succ] at dm ⊢
   simp only [Bool.true_and, Bool.or_eq_false_iff, beq_eq_false_iff_ne, bne_eq_false_iff_eq, ne_eq] at ho
   obtain ⟨o1, o2⟩ := ho
   have t1 := Nat.div_add_mod n (2 ^ j)
   rw [o2] at t1
   have t2 : n / (2 ^ j * 2) = n / 2 ^ j / 2 := (Nat.div_div_eq_div_mul _ _ _).symm
   rw [t2]
   generalize n / 2 ^ j = y at *
   have t3 : y = 2 * (y / 2) := by omega
   have : n = 2 ^ j * y := by omega
   rw [this]
   conv => lhs; rw [t3]
   simp only [Nat.mul_comm, Nat.mul_left_comm, Nat.mul_assoc]
theorem fI_nat (s : Bool) : ∃ i : Nat, fI s = i ∧ 0 < i ∧ (i : Int) < fS s := by
 cases s
 ·exact ⟨9218868437227405312, rfl, by decide, by decide⟩
 ·exact ⟨2139095040, rfl, by decide, by decide⟩
theorem mag_down (s : Bool) (m : Int) (b : Bool) (hm : ∀ o h l, away m b o h l = false) {n : Nat} (h : n ≠ 0) (e E : Int) (h1 : E ≤ e) (h2 : E ≤ fL s) :
  ∃ z : Nat, mag s m b n e = z ∧ (z : Int) < fI s ∧ val s z * 2 ^ (fL s - E).toNat ≤ n * 2 ^ (e - E).toNat := by
 obtain ⟨x, ex, q1, q2, q3, q4, q5⟩ := kept s h e E h1 h2
 obtain ⟨i, ei, i0, _⟩ := fI_nat s
 unfold mag fin great
 rw [ex, ei, hm, hm]
 generalize quo n (lastOf s n e - e) = q at *
 have v := val_at s x q (by omega) q2
 have le : val s (x * 2 ^ fP s + q) * 2 ^ (fL s - E).toNat ≤ n * 2 ^ (e - E).toNat := by rw [v, Nat.mul_assoc, ← Nat.pow_add]; exact q3
 have cast : (x : Int) * 2 ^ fP s + ((q + if false = true then 1 else 0 : Nat) : Int) = ((x * 2 ^ fP s + q : Nat) : Int) := by simp
 rw [cast]
 generalize x * 2 ^ fP s + q = z at *
 by_cases c : (i : Int) ≤ (z : Int)
 ·rw [if_pos c, if_neg (by decide)]
  refine ⟨i - 1, by omega, by omega, Nat.le_trans (Nat.mul_le_mul_right _ (val_le s (by omega))) le⟩
 ·rw [if_neg c]
  exact ⟨z, rfl, by omega, le⟩
theorem mag_any (s : Bool) (m : Int) (b : Bool) {n : Nat} (h : n ≠ 0) (e : Int) : ∃ z : Nat, mag s m b n e = z ∧ (z : Int) ≤ fI s := by
 obtain ⟨x, ex, _⟩ := kept s h e (min e (fL s)) (by omega) (by omega)
 obtain ⟨i, ei, i0, _⟩ := fI_nat s
 unfold mag fin great
 rw [ex, ei]
 generalize (quo n (lastOf s n e - e) + if away m b (quo n (lastOf s n e - e) % 2 == 1) (half n (lastOf s n e - e)) (low n (lastOf s n e - e)) = true then 1 else 0) = Y
 have cast : (x : Int) * 2 ^ fP s + (Y : Int) = ((x * 2 ^ fP s + Y : Nat) : Int) := by rw [Int.natCast_add, Int.natCast_mul]; simp
 rw [cast]
 generalize x * 2 ^ fP s + Y = z
 by_cases c : (i : Int) ≤ (z : Int)
 ·rw [if_pos c]
  split
  ·exact ⟨i, rfl, by omega⟩
  ·exact ⟨i - 1, by omega, by omega⟩
 ·rw [if_neg c]; exact ⟨z, rfl, by omega⟩
end Go.Proofs.YteafnkimcidkhaaGreat
namespace Go.Proofs.YteafnkimcidkhaaGreat
open Go.RowKit
set_option linter.unusedVariables false
set_option linter.unusedSimpArgs false
def sgn (s : Bool) (a : Int) : Bool := bits BinOp.and IntKind.u64 a (fS s) != 0
def whl (s : Bool) (a : Int) : Int := if 0 < zOf s a / 2 ^ fP s then a % 2 ^ fP s + 2 ^ fP s else a % 2 ^ fP s
def pwr (s : Bool) (a : Int) : Int := if 0 < zOf s a / 2 ^ fP s then fL s + (zOf s a / 2 ^ fP s - 1) else fL s
def prtV (s : Bool) (a : Int) : Value := .agg #[.int .i64 (cls s a), .bool (sgn s a), .int .u64 (whl s a), .int .i64 (pwr s a)]
theorem and_lowD (a : Int) (h : Word a) : bits BinOp.and IntKind.u64 a 4503599627370495 = a % 4503599627370496 := by
 obtain ⟨x, rfl⟩ := Int.eq_ofNat_of_zero_le h.1
 have hx := h.2
 have t := u64_and_nat x 4503599627370495 (by omega) (by decide)
 have e : x &&& 4503599627370495 = x % 4503599627370496 := Nat.and_two_pow_sub_one_eq_mod x 52
 rw [e] at t
 exact t.trans (by omega)
theorem or_topD (r : Int) (h0 : 0 ≤ r) (h : r < 4503599627370496) : bits BinOp.or IntKind.u64 r 4503599627370496 = r + 4503599627370496 := by
 obtain ⟨x, rfl⟩ := Int.eq_ofNat_of_zero_le h0
 have t := u64_or_nat x 4503599627370496 (by omega) (by decide)
 have e : x ||| 4503599627370496 = x + 4503599627370496 := by
  have k := Nat.two_pow_add_eq_or_of_lt (i := 52) (b := x) (by omega) 1
  rw [Nat.mul_one] at k
  rw [Nat.or_comm, ← show 2 ^ 52 = 4503599627370496 by decide, ← k, Nat.add_comm]
 rw [e] at t
 exact t.trans (by omega)
theorem and_lowS (a : Int) (h : Word a) : bits BinOp.and IntKind.u64 a 8388607 = a % 8388608 := by
 obtain ⟨x, rfl⟩ := Int.eq_ofNat_of_zero_le h.1
 have hx := h.2
 have t := u64_and_nat x 8388607 (by omega) (by decide)
 have e : x &&& 8388607 = x % 8388608 := Nat.and_two_pow_sub_one_eq_mod x 23
 rw [e] at t
 exact t.trans (by omega)
theorem or_topS (r : Int) (h0 : 0 ≤ r) (h : r < 8388608) : bits BinOp.or IntKind.u64 r 8388608 = r + 8388608 := by
 obtain ⟨x, rfl⟩ := Int.eq_ofNat_of_zero_le h0
 have t := u64_or_nat x 8388608 (by omega) (by decide)
 have e : x ||| 8388608 = x + 8388608 := by
  have k := Nat.two_pow_add_eq_or_of_lt (i := 23) (b := x) (by omega) 1
  rw [Nat.mul_one] at k
  rw [Nat.or_comm, ← show 2 ^ 23 = 8388608 by decide, ← k, Nat.add_comm]
 rw [e] at t
 exact t.trans (by omega)
end Go.Proofs.YteafnkimcidkhaaGreat
namespace Go.Proofs.YteafnkimcidkhaaGreat
open Go.RowKit
set_option linter.unusedVariables false
set_option linter.unusedSimpArgs false
def prt (k : Int) (g : Bool) (u p : Int) : Value := .agg #[.int .i64 k, .bool g, .int .u64 u, .int .i64 p]
def prtO (k : Int) (g : Bool) (u p : Int) : Obj := .cells #[.int .i64 k, .bool g, .int .u64 u, .int .i64 p] 151
theorem or_nanD : bits BinOp.or IntKind.u64 9218868437227405312 2251799813685248 = 9221120237041090560 := by rfl
theorem or_nanS : bits BinOp.or IntKind.u64 2139095040 4194304 = 2143289344 := by rfl
theorem most_any (s : Bool) (w : World) : Calls Tryz.prog 169 #[fmtV s] w fun e w' => e = .returned (.int .u64 (fI s - 1)) ∧ w' = w.alloc (fmtO s) := by
 cases s
 ·unfold fmtV fmtO
  go_enter Tryz.func169, Tryz.ntmps169
  go_wp2_with fail
  go_ret
  exact ⟨rfl, rfl⟩
 ·unfold fmtV fmtO
  go_enter Tryz.func169, Tryz.ntmps169
  go_wp2_with fail
  go_ret
  exact ⟨rfl, rfl⟩
theorem or_signD (z : Int) (h0 : 0 ≤ z) (h : z < 9223372036854775808) : bits BinOp.or IntKind.u64 z 9223372036854775808 = z + 9223372036854775808 := by
 obtain ⟨x, rfl⟩ := Int.eq_ofNat_of_zero_le h0
 have t := u64_or_nat x 9223372036854775808 (by omega) (by decide)
 have e : x ||| 9223372036854775808 = x + 9223372036854775808 := by
  have k := Nat.two_pow_add_eq_or_of_lt (i := 63) (b := x) (by omega) 1
  rw [Nat.mul_one] at k
  rw [Nat.or_comm, ← show 2 ^ 63 = 9223372036854775808 by decide, ← k, Nat.add_comm]
 rw [e] at t
 exact t.trans (by omega)
theorem or_signS (z : Int) (h0 : 0 ≤ z) (h : z < 2147483648) : bits BinOp.or IntKind.u64 z 2147483648 = z + 2147483648 := by
 obtain ⟨x, rfl⟩ := Int.eq_ofNat_of_zero_le h0
 have t := u64_or_nat x 2147483648 (by omega) (by decide)
 have e : x ||| 2147483648 = x + 2147483648 := by
  have k := Nat.two_pow_add_eq_or_of_lt (i := 31) (b := x) (by omega) 1
  rw [Nat.mul_one] at k
  rw [Nat.or_comm, ← show 2 ^ 31 = 2147483648 by decide, ← k, Nat.add_comm]
 rw [e] at t
 exact t.trans (by omega)
theorem signed_any (s b : Bool) (z : Int) (h0 : 0 ≤ z) (h : z ≤ fI s) (w : World) :
  Calls Tryz.prog 114 #[fmtV s, .bool b, .int .u64 z] w fun e w' => e = .returned (.int .u64 (sgnd s b z)) ∧ w' = w.alloc (fmtO s) := by
 cases s <;> cases b
 ·unfold fmtV fmtO
  go_enter Tryz.func114, Tryz.ntmps114
  go_wp2_with fail
  go_ret
  exact ⟨rfl, rfl⟩
 ·have o := or_signD z h0 (by unfold fI at h; simp at h; omega)
  have v : sgnd false true z = z + 9223372036854775808 := rfl
  rw [v]
  unfold fmtV fmtO
  go_enter Tryz.func114, Tryz.ntmps114
  go_wp2_with fail
  go_ret
  exact ⟨rfl, rfl⟩
 ·unfold fmtV fmtO
  go_enter Tryz.func114, Tryz.ntmps114
  go_wp2_with fail
  go_ret
  exact ⟨rfl, rfl⟩
 ·have o := or_signS z h0 (by unfold fI at h; simp at h; omega)
  have v : sgnd true true z = z + 2147483648 := rfl
  rw [v]
  unfold fmtV fmtO
  go_enter Tryz.func114, Tryz.ntmps114
  go_wp2_with fail
  go_ret
  exact ⟨rfl, rfl⟩
theorem noNumber_any (k : Int) (g : Bool) (u p : Int) (w : World) :
  Calls Tryz.prog 109 #[prt k g u p] w fun e w' => e = .returned (.bool (k == 0 || k == 5)) ∧ w' = w.alloc (prtO k g u p) := by
 unfold prt prtO
 by_cases c : k = 0
 ·subst c
  go_enter Tryz.func109, Tryz.ntmps109
  go_wp2_with fail
  go_ret
  exact ⟨rfl, rfl⟩
 ·have c' : (k == 0) = false := by simp [c]
  rw [c', Bool.false_or]
  go_enter Tryz.func109, Tryz.ntmps109
  go_wp2_with fail
  all_goals go_ret
  all_goals exact ⟨rfl, rfl⟩
theorem isInfinite_any (k : Int) (g : Bool) (u p : Int) (w : World) :
  Calls Tryz.prog 111 #[prt k g u p] w fun e w' => e = .returned (.bool (k == 4)) ∧ w' = w.alloc (prtO k g u p) := by
 unfold prt prtO
 go_enter Tryz.func111, Tryz.ntmps111
 go_wp2_with fail
 all_goals go_ret
 all_goals exact ⟨rfl, rfl⟩
theorem isZero_any (k : Int) (g : Bool) (u p : Int) (w : World) :
  Calls Tryz.prog 113 #[prt k g u p] w fun e w' => e = .returned (.bool (k == 1)) ∧ w' = w.alloc (prtO k g u p) := by
 unfold prt prtO
 go_enter Tryz.func113, Tryz.ntmps113
 go_wp2_with fail
 all_goals go_ret
 all_goals exact ⟨rfl, rfl⟩
end Go.Proofs.YteafnkimcidkhaaGreat
namespace Go.Proofs.YteafnkimcidkhaaGreat
open Go.RowKit
set_option linter.unusedVariables false
set_option linter.unusedSimpArgs false
def awF (m : Int) : Nat := if m = 1 then 185 else if m = 2 then 186 else if m = 3 then 187 else 188
def rdV (m : Int) : Value := .agg #[.func (.func (awF m)) #[] #[]]
def rdO (m : Int) : Obj := .cells #[.func (.func (awF m)) #[] #[]] 181
theorem roundingOf_any (m : Int) (w : World) : Calls Tryz.prog 153 #[.int .i64 m] w fun e w' => e = .returned (rdV m) ∧ w' = w.alloc (rdO m) := by
 unfold rdV rdO awF
 by_cases c1 : m = 1
 ·subst c1
  go_enter Tryz.func153, Tryz.ntmps153
  go_wp2_with fail
  exact bodyPost_ret (v := .agg #[.func (.func 185) #[] #[]]) (by simp [results, Tryz.results153, go_sem]) rfl ⟨rfl, rfl⟩
 ·by_cases c2 : m = 2
  ·subst c2
   go_enter Tryz.func153, Tryz.ntmps153
   go_wp2_with fail
   exact bodyPost_ret (v := .agg #[.func (.func 186) #[] #[]]) (by simp [results, Tryz.results153, go_sem]) rfl ⟨rfl, rfl⟩
  ·by_cases c3 : m = 3
   ·subst c3
    go_enter Tryz.func153, Tryz.ntmps153
    go_wp2_with fail
    exact bodyPost_ret (v := .agg #[.func (.func 187) #[] #[]]) (by simp [results, Tryz.results153, go_sem]) rfl ⟨rfl, rfl⟩
   ·rw [if_neg c1, if_neg c2, if_neg c3]
    go_enter Tryz.func153, Tryz.ntmps153
    go_wp2_with fail
    exact bodyPost_ret (v := .agg #[.func (.func 188) #[] #[]]) (by simp [results, Tryz.results153, go_sem]) rfl ⟨rfl, rfl⟩
def rc (h l : Bool) : Int := if h then (if l then 3 else 2) else (if l then 1 else 0)
theorem away_any (m : Int) (b o h l : Bool) (w : World) : Calls Tryz.prog (awF m) #[.bool b, .bool o, .int .i64 (rc h l)] w fun e w' => e = .returned (.bool (away m b o h l)) ∧ w' = w := by
 unfold awF away
 by_cases c1 : m = 1
 ·rw [if_pos c1, if_pos c1]
  cases b <;> cases h <;> cases l
  all_goals (unfold rc; simp only [if_true, if_false, Bool.false_eq_true])
  all_goals (go_enter Tryz.func185, Tryz.ntmps185; go_wp2_with fail; go_ret; exact ⟨rfl, rfl⟩)
 ·rw [if_neg c1, if_neg c1]
  by_cases c2 : m = 2
  ·rw [if_pos c2, if_pos c2]
   cases b <;> cases h <;> cases l
   all_goals (unfold rc; simp only [if_true, if_false, Bool.false_eq_true])
   all_goals (go_enter Tryz.func186, Tryz.ntmps186; go_wp2_with fail; go_ret; exact ⟨rfl, rfl⟩)
  ·rw [if_neg c2, if_neg c2]
   by_cases c3 : m = 3
   ·rw [if_pos c3, if_pos c3]
    go_enter Tryz.func187, Tryz.ntmps187; go_wp2_with fail; go_ret; exact ⟨rfl, rfl⟩
   ·rw [if_neg c3, if_neg c3]
    cases o <;> cases h <;> cases l
    all_goals (unfold rc; simp only [if_true, if_false, Bool.false_eq_true])
    all_goals (go_enter Tryz.func188, Tryz.ntmps188; go_wp2_with fail; go_ret; exact ⟨rfl, rfl⟩)
theorem awF_enters (m : Int) : ∀ args w, (callFunc (awF m) args).run Tryz.prog w = .ok (.enter (awF m) args) w := by
 unfold awF
 by_cases c1 : m = 1
 ·rw [if_pos c1]; exact enters_of Tryz.func185 (by kernel_rfl) rfl
 ·rw [if_neg c1]
  by_cases c2 : m = 2
  ·rw [if_pos c2]; exact enters_of Tryz.func186 (by kernel_rfl) rfl
  ·rw [if_neg c2]
   by_cases c3 : m = 3
   ·rw [if_pos c3]; exact enters_of Tryz.func187 (by kernel_rfl) rfl
   ·rw [if_neg c3]; exact enters_of Tryz.func188 (by kernel_rfl) rfl
theorem tooGreat_any (s : Bool) (m : Int) (b : Bool) (w : World) : Calls Tryz.prog 183 #[fmtV s, rdV m, .bool b] w fun e w' => e = .returned (.int .u64 (great s m b)) ∧ Below w.heap.size w w' := by
 have ha := away_any m b true true true
 have hE := awF_enters m
 unfold great
 generalize away m b true true true = r at *
 have r3 : rc true true = 3 := rfl
 rw [r3] at ha
 unfold rdV
 generalize awF m = F at *
 cases s <;> cases r
 all_goals unfold fmtV
 ·go_enter Tryz.func183, Tryz.ntmps183
  go_wp2_with (first | (go_at_fn F; refine (ha _).mono ?_; rintro e w1 ⟨rfl, rfl⟩) | (go_at_call 169; refine (most_any false _).mono ?_; rintro e w1 ⟨rfl, rfl⟩))
  go_ret
  exact ⟨rfl, below_three _ _ _ _⟩
 ·go_enter Tryz.func183, Tryz.ntmps183
  go_wp2_with (go_at_fn F; refine (ha _).mono ?_; rintro e w1 ⟨rfl, rfl⟩)
  go_ret
  exact ⟨rfl, below_two _ _ _⟩
 ·go_enter Tryz.func183, Tryz.ntmps183
  go_wp2_with (first | (go_at_fn F; refine (ha _).mono ?_; rintro e w1 ⟨rfl, rfl⟩) | (go_at_call 169; refine (most_any true _).mono ?_; rintro e w1 ⟨rfl, rfl⟩))
  go_ret
  exact ⟨rfl, below_three _ _ _ _⟩
 ·go_enter Tryz.func183, Tryz.ntmps183
  go_wp2_with (go_at_fn F; refine (ha _).mono ?_; rintro e w1 ⟨rfl, rfl⟩)
  go_ret
  exact ⟨rfl, below_two _ _ _⟩
def nn (h l : Int) : Nat := (num h l).toNat
theorem nn_num {h l : Int} (a : Word h) (b : Word l) : (nn h l : Int) = num h l := by have := num_lo a b; unfold nn; omega
theorem pow_cast (k : Nat) : (2 : Int) ^ k = ((2 ^ k : Nat) : Int) := by simp
theorem isLen_blen {n h l : Int} (a : Word h) (b : Word l) (i : IsLen n (num h l)) : n = (blen (nn h l) : Int) := by
 obtain ⟨i0, i1, i2, i3, i4⟩ := i
 rw [← nn_num a b] at i2 i3 i4
 generalize nn h l = N at *
 obtain ⟨k, rfl⟩ := Int.eq_ofNat_of_zero_le i0
 rw [pow_cast, Int.toNat_natCast] at i2 i3
 by_cases c : N = 0
 ·rw [c, blen_zero]; exact i4 (by omega)
 ·have k1 : 1 ≤ k := by
   rcases Nat.eq_zero_or_pos k with z | z
   ·subst z; simp at i2; omega
   ·exact z
  have p : 2 ^ k = 2 ^ (k - 1) * 2 := by rw [← Nat.pow_succ]; congr 1; omega
  have : blen N = k := blen_uniq k1 (by omega) (by omega)
  rw [this]
theorem low_word {h l : Int} (a : Word h) (b : Word l) (c : num h l < 18446744073709551616) : h = 0 ∧ l = num h l := by unfold num Word at *; omega
theorem shl_low (ah al h l k : Int) (w1 : Word ah) (w2 : Word al) (w3 : Word h) (w4 : Word l) (k0 : k ≤ 0) (E : num h l = num ah al * 2 ^ (-k).toNat % 340282366920938463463374607431768211456)
  (f : quo (nn ah al) k < 18446744073709551616) : l = (quo (nn ah al) k : Int) := by
 unfold quo at *
 rw [if_pos k0] at *
 rw [← nn_num w1 w2, pow_cast, ← Int.natCast_mul] at E
 generalize nn ah al * 2 ^ (-k).toNat = V at *
 have := low_word w3 w4 (by omega)
 omega
theorem half_low_none (n : Nat) (k : Int) (h : k ≤ 0) : half n k = false ∧ low n k = false := by
 unfold half low
 rw [decide_eq_false (by omega : ¬ 1 ≤ k)]
 exact ⟨rfl, rfl⟩
theorem shr_parts (ah al dh dl kh kl k : Int) (lost hb : Bool) (w1 : Word ah) (w2 : Word al) (w3 : Word dh) (w4 : Word dl) (w5 : Word kh) (w6 : Word kl) (k0 : 1 ≤ k)
  (E1 : num dh dl = num ah al / 2 ^ (k - 1).toNat) (E2 : lost = decide (¬ num ah al % 2 ^ (k - 1).toNat = 0)) (E3 : num kh kl = num dh dl / 2 ^ Int.toNat 1) (E4 : hb = decide (¬ num dh dl % 2 ^ Int.toNat 1 = 0))
  (f : quo (nn ah al) k < 18446744073709551616) : kl = (quo (nn ah al) k : Int) ∧ hb = half (nn ah al) k ∧ lost = low (nn ah al) k := by
 have t : Int.toNat 1 = 1 := rfl
 rw [t] at E3 E4
 have d := nn_num w3 w4
 unfold quo half low at *
 rw [if_neg (by omega)] at *
 rw [decide_eq_true k0, Bool.true_and, Bool.true_and]
 have kk : (k - 1).toNat = k.toNat - 1 := by omega
 have k1 : k.toNat = (k.toNat - 1) + 1 := by omega
 rw [kk, ← nn_num w1 w2, pow_cast, ← Int.natCast_ediv] at E1
 rw [kk, ← nn_num w1 w2, pow_cast, ← Int.natCast_emod] at E2
 rw [E1] at E3 E4
 have q : nn ah al / 2 ^ k.toNat = nn ah al / 2 ^ (k.toNat - 1) / 2 := by
  conv => lhs; rw [k1, Nat.pow_succ]
  exact (Nat.div_div_eq_div_mul _ _ _).symm
 rw [q] at f ⊢
 generalize nn ah al / 2 ^ (k.toNat - 1) = D at *
 generalize nn ah al % 2 ^ (k.toNat - 1) = R at *
 refine ⟨?_, ?_, ?_⟩
 ·have := low_word w5 w6 (by omega)
  omega
 ·rw [E4, Bool.eq_iff_iff, decide_eq_true_iff, beq_iff_eq]; omega
 ·rw [E2, Bool.eq_iff_iff, decide_eq_true_iff, bne_iff_ne]; omega
theorem len_ex (ah al : Int) (h1 : Word ah) (h2 : Word al) (w : World) :
  Calls Tryz.prog 182 #[.agg #[.int .u64 ah, .int .u64 al]] w fun e w' => e = .returned (.int .i64 (blen (nn ah al) : Int)) ∧ w' = w.alloc (.cells #[.int .u64 ah, .int .u64 al] 139) := by
 by_cases h0 : ah = 0
 ·subst h0
  obtain ⟨i, _⟩ := isLen_low al h2
  have I : Hid _ := isLen_blen word_zero h2 i
  clear i
  go_enter Tryz.func182, Tryz.ntmps182
  go_wp2_with (go_at_call 203; refine (len64 al h2 _).mono ?_; rintro e w' ⟨rfl, rfl⟩)
  go_ret
  exact ⟨i64_eq I.out, rfl⟩
 ·have i := isLen_high ah al h1 h2 h0
  have I : Hid _ := isLen_blen h1 h2 i
  clear i
  have b := (isLen_low ah h1).2
  have b0 : 0 ≤ (Lib.bitLen ah.toNat : Int) := Int.natCast_nonneg _
  go_enter Tryz.func182, Tryz.ntmps182
  go_wp2_with (go_at_call 203; refine (len64 ah h1 _).mono ?_; rintro e w' ⟨rfl, rfl⟩)
  go_ret
  exact ⟨i64_eq I.out, rfl⟩
theorem blen_128 {h l : Int} (a : Word h) (b : Word l) : blen (nn h l) ≤ 128 := by
 have e := nn_num a b
 have := num_hi a b
 exact blen_le_of (by omega)
theorem field_lo (h l : Int) (w : World) : (Instr.field 139 (.agg #[.int .u64 h, .int .u64 l]) 1).run Tryz.prog w = .ok (.int .u64 l) w := by kernel_rfl
set_option maxRecDepth 5000 in
set_option maxHeartbeats 800000 in
theorem cut_any (ah al k : Int) (h1 : Word ah) (h2 : Word al) (k0 : -100 ≤ k) (k1 : k ≤ 10000) (f : quo (nn ah al) k < 18446744073709551616) (w : World) :
  Calls Tryz.prog 184 #[.agg #[.int .u64 ah, .int .u64 al], .int .i64 k] w fun e w' =>
   e = .returned (.tuple #[.int .u64 (quo (nn ah al) k), .int .i64 (rc (half (nn ah al) k) (low (nn ah al) k))]) ∧ Below w.heap.size w w' := by
 have hfl := field_lo
 by_cases c : k ≤ 0
 ·obtain ⟨g1, g2⟩ := half_low_none (nn ah al) k c
  rw [g1, g2]
  have hs := shl_any ah al (-k) h1 h2 (by omega) (by omega)
  have hl := fun h l w3 w4 E => shl_low ah al h l k h1 h2 w3 w4 c E f
  generalize quo (nn ah al) k = q at *
  have HL : Hid _ := hl
  have b := (Below.refl w.heap.size w).alloc (Nat.le_refl _) (.cells #[.int .u64 ah, .int .u64 al] 139)
  clear g1 g2 f hl
  go_enter Tryz.func184, Tryz.ntmps184
  go_wp2_with fail
  refine (hs _).mono ?_
  rintro e w1 ⟨h, l, rfl, w3, w4, E, hb1⟩
  have LL : Hid _ := HL.out h l w3 w4 E.out
  clear E HL
  replace b := below_call b hb1
  clear hs hb1
  go_wp2_with fail
  exact bodyPost_ret (v := .tuple #[.int .u64 l, .int .i64 0]) (by simp [results, Tryz.results184, go_sem]) rfl ⟨by rw [LL.out]; rfl, b⟩
 ·have hs := shr_any ah al (k - 1) h1 h2 (by omega) (by omega)
  have hp := fun dh dl kh kl lost hb w3 w4 w5 w6 => shr_parts ah al dh dl kh kl k lost hb h1 h2 w3 w4 w5 w6 (by omega)
  generalize quo (nn ah al) k = q at *
  generalize half (nn ah al) k = g at *
  generalize low (nn ah al) k = l0 at *
  have HP : Hid _ := hp
  clear hp
  have b := (Below.refl w.heap.size w).alloc (Nat.le_refl _) (.cells #[.int .u64 ah, .int .u64 al] 139)
  go_enter Tryz.func184, Tryz.ntmps184
  go_wp2_with fail
  refine (hs _).mono ?_
  rintro e w1 ⟨dh, dl, lost, rfl, w3, w4, E1, E2, hb1⟩
  replace b := below_call b hb1
  go_wp2_with fail
  refine (shr_any dh dl 1 w3 w4 (by decide) (by decide) _).mono ?_
  rintro e w2 ⟨kh, kl, hf, rfl, w5, w6, E3, E4, hb2⟩
  replace b := below_call (below_new b _) hb2
  obtain ⟨rfl, rfl, rfl⟩ := HP.out dh dl kh kl lost hf w3 w4 w5 w6 E1.out E2.out E3.out E4.out f
  clear E1 E2 E3 E4 HP hs
  cases hf <;> cases lost
  all_goals go_wp2_with fail
  ·exact bodyPost_ret (v := .tuple #[.int .u64 q, .int .i64 0]) (by simp [results, Tryz.results184, go_sem]) rfl ⟨rfl, below_new b _⟩
  ·exact bodyPost_ret (v := .tuple #[.int .u64 q, .int .i64 1]) (by simp [results, Tryz.results184, go_sem]) rfl ⟨rfl, below_new b _⟩
  ·exact bodyPost_ret (v := .tuple #[.int .u64 q, .int .i64 2]) (by simp [results, Tryz.results184, go_sem]) rfl ⟨rfl, below_new b _⟩
  ·exact bodyPost_ret (v := .tuple #[.int .u64 q, .int .i64 3]) (by simp [results, Tryz.results184, go_sem]) rfl ⟨rfl, below_new b _⟩
theorem or_odd (x : Int) (h : Word x) : bits BinOp.or IntKind.u64 x 1 = x / 2 * 2 + 1 := by
 obtain ⟨n, rfl⟩ := Int.eq_ofNat_of_zero_le h.1
 have hx := h.2
 have t := u64_or_nat n 1 (by omega) (by decide)
 have e : n ||| 1 = n / 2 * 2 + 1 := by
  apply Nat.eq_of_testBit_eq
  intro i
  rw [Nat.testBit_or]
  cases i with
  | zero => simp
  | succ i =>
   rw [Nat.testBit_succ, Nat.testBit_succ, Nat.testBit_succ, show (n / 2 * 2 + 1) / 2 = n / 2 by omega]
   simp
 rw [e] at t
 exact t.trans (by omega)
theorem odd_word {x : Int} (h : Word x) : Word (x / 2 * 2 + 1) := by unfold Word at *; omega
theorem odd_num {h l : Int} (a : Word h) (b : Word l) : nn h (l / 2 * 2 + 1) = nn h l / 2 * 2 + 1 := by
 have e1 := nn_num a b
 have e2 := nn_num a (odd_word b)
 unfold num at *
 omega
theorem quarter_great {ah al : Int} (a : Word ah) (b : Word al) (c : 126 < blen (nn ah al)) (s : Bool) (m : Int) (bl : Bool) (e : Int) :
  rnd s m bl (nn ah (al / 2 * 2 + 1)) e = rndQ s m bl (nn ah al) e true := by
 rw [odd_num a b]
 exact rnd_odd s m bl (nn ah al) e (by have := fP_le s; omega)
theorem quarter_small {ah al h l : Int} (a : Word ah) (b : Word al) (c : blen (nn ah al) ≤ 126) (w3 : Word h) (w4 : Word l)
  (E : num h l = num ah al * 2 ^ Int.toNat 2 % 340282366920938463463374607431768211456) : nn h (l / 2 * 2 + 1) = 4 * nn ah al + 1 := by
 have lt := lt_blen (nn ah al)
 have p : 2 ^ blen (nn ah al) ≤ 2 ^ 126 := Nat.pow_le_pow_right (by decide) c
 have t : (2 : Int) ^ Int.toNat 2 = 4 := rfl
 rw [t, ← nn_num a b, ← nn_num w3 w4] at E
 rw [odd_num w3 w4]
 omega
end Go.Proofs.YteafnkimcidkhaaGreat
namespace Go.Proofs.YteafnkimcidkhaaGreat
open Go.RowKit
set_option linter.unusedVariables false
set_option linter.unusedSimpArgs false
theorem set2_in {w : World} {b : Nat} {u v : Value} (x y : Value) (c0 : w.cell? ⟨b, 0, none⟩ = some u) (c1 : w.cell? ⟨b, 1, none⟩ = some v) :
  ((w.setCell ⟨b, 0, none⟩ x).setCell ⟨b, 1, none⟩ y).cell? ⟨b, 0, none⟩ = some x ∧ ((w.setCell ⟨b, 0, none⟩ x).setCell ⟨b, 1, none⟩ y).cell? ⟨b, 1, none⟩ = some y :=
 ⟨(World.cell?_setCell_other _ _ _ _ (by simp)).trans (World.cell?_setCell_same _ _ _ c0), World.cell?_setCell_same _ _ _ ((World.cell?_setCell_other _ _ _ _ (by simp)).trans c1)⟩
theorem set2_out {w : World} {b c o : Nat} {u : Value} (x y : Value) (h : b ≠ c) (c0 : w.cell? ⟨c, o, none⟩ = some u) (f : w.frozen? ⟨c, o, none⟩ = false) :
  ((w.setCell ⟨b, 0, none⟩ x).setCell ⟨b, 1, none⟩ y).cell? ⟨c, o, none⟩ = some u ∧ ((w.setCell ⟨b, 0, none⟩ x).setCell ⟨b, 1, none⟩ y).frozen? ⟨c, o, none⟩ = false :=
 ⟨(World.cell?_setCell_other _ _ _ _ (by simp [h])).trans ((World.cell?_setCell_other _ _ _ _ (by simp [h])).trans c0), by simp [f]⟩
set_option maxRecDepth 5000 in
set_option maxHeartbeats 800000 in
theorem withQuarter_any (ah al e0 : Int) (h1 : Word ah) (h2 : Word al) (e1 : -4000 ≤ e0) (e2 : e0 ≤ 4000) (w : World) :
  Calls Tryz.prog 151 #[.agg #[.int .u64 ah, .int .u64 al], .int .i64 e0] w fun e w' =>
   ∃ h l x : Int, e = .returned (.tuple #[.agg #[.int .u64 h, .int .u64 l], .int .i64 x]) ∧ Word h ∧ Word l ∧ -4002 ≤ x ∧ x ≤ 4000 ∧ Hid (nn h l ≠ 0) ∧ Hid (∀ s m b, rnd s m b (nn h l) x = rndQ s m b (nn ah al) e0 true) ∧ Below w.heap.size w w' := by
 have hl := len_ex ah al h1 h2
 have hs := shl_any ah al 2 h1 h2 (by decide) (by decide)
 have hn := blen_128 h1 h2
 by_cases c : 126 < blen (nn ah al)
 ·have HQ : Hid _ := quarter_great h1 h2 c
  have HN : Hid (nn ah (al / 2 * 2 + 1) ≠ 0) := by have := odd_num h1 h2; show _ ≠ 0; omega
  have o := or_odd al h2
  have o2 := odd_word h2
  generalize blen (nn ah al) = n at *
  have c2 : (126 : Int) < (n : Int) := by omega
  clear hs
  go_enter Tryz.func151, Tryz.ntmps151
  go_wp2_with (go_at_call 182; refine (hl _).mono ?_; rintro e w1 ⟨rfl, rfl⟩)
  refine bodyPost_ret (v := .tuple #[.agg #[.int .u64 ah, .int .u64 (al / 2 * 2 + 1)], .int .i64 e0]) (by simp [results, Tryz.results151, go_sem]) rfl ?_
  exact ⟨_, _, _, rfl, h1, o2, by omega, e2, HN, fun s m b => HQ.out s m b e0, below_three _ _ _ _⟩
 ·have HR : Hid (∀ h l, Word h → Word l → num h l = num ah al * 2 ^ Int.toNat 2 % 340282366920938463463374607431768211456 → nn h (l / 2 * 2 + 1) = 4 * nn ah al + 1) := fun h l w3 w4 E => quarter_small h1 h2 (by omega) w3 w4 E
  generalize hN : blen (nn ah al) = n at *
  have c2 : ¬ (126 : Int) < (n : Int) := by omega
  clear hN
  have b := below_three w (.cells #[.int .u64 ah, .int .u64 al] 139) (.cells #[.int .u64 0, .int .u64 0] 139) (.cells #[.int .u64 ah, .int .u64 al] 139)
  go_enter Tryz.func151, Tryz.ntmps151
  go_wp2_with (go_at_call 182; refine (hl _).mono ?_; rintro e w1 ⟨rfl, rfl⟩)
  refine (hs _).mono ?_
  rintro e w2 ⟨h, l, rfl, w3, w4, E, hb2⟩
  have o := or_odd l w4
  have o2 := odd_word w4
  have K : Hid _ := HR.out h l w3 w4 E.out
  clear E HR
  obtain ⟨hc, hf⟩ := bcell hb2
  have c0 : w2.cell? ⟨w.heap.size, 0, none⟩ = some (.int .u64 ah) := by rw [hc _ _ (by simp; omega)]; simp [go_sem]
  have c1 : w2.cell? ⟨w.heap.size, 1, none⟩ = some (.int .u64 al) := by rw [hc _ _ (by simp; omega)]; simp [go_sem]
  have r0 : w2.cell? ⟨w.heap.size + 1, 0, none⟩ = some (.int .u64 0) := by rw [hc _ _ (by simp)]; simp [go_sem]
  have r1 : w2.cell? ⟨w.heap.size + 1, 1, none⟩ = some (.int .u64 0) := by rw [hc _ _ (by simp)]; simp [go_sem]
  have f0 : w2.frozen? ⟨w.heap.size, 0, none⟩ = false := by rw [hf _ _ (by simp; omega)]; simp [go_sem]
  have f1 : w2.frozen? ⟨w.heap.size, 1, none⟩ = false := by rw [hf _ _ (by simp; omega)]; simp [go_sem]
  have g0 : w2.frozen? ⟨w.heap.size + 1, 0, none⟩ = false := by rw [hf _ _ (by simp)]; simp [go_sem]
  have g1 : w2.frozen? ⟨w.heap.size + 1, 1, none⟩ = false := by rw [hf _ _ (by simp)]; simp [go_sem]
  replace b := below_call b hb2
  clear hc hf hb2 hs hl
  go_upto_region 5 with fail
  obtain ⟨q0, q1⟩ := set2_in (w := w2) (b := w.heap.size) (.int .u64 h) (.int .u64 l) c0 c1
  obtain ⟨q2, q5⟩ := set2_out (w := w2) (b := w.heap.size) (c := w.heap.size + 1) (o := 0) (.int .u64 h) (.int .u64 l) (by omega) r0 g0
  obtain ⟨q3, q6⟩ := set2_out (w := w2) (b := w.heap.size) (c := w.heap.size + 1) (o := 1) (.int .u64 h) (.int .u64 l) (by omega) r1 g1
  have q4 : ((w2.setCell ⟨w.heap.size, 0, none⟩ (.int .u64 h)).setCell ⟨w.heap.size, 1, none⟩ (.int .u64 l)).frozen? ⟨w.heap.size, 1, none⟩ = false := by simp [*]
  have q7 : Below w.heap.size w ((w2.setCell ⟨w.heap.size, 0, none⟩ (.int .u64 h)).setCell ⟨w.heap.size, 1, none⟩ (.int .u64 l)) := (b.setCell (Nat.le_refl _) _).setCell (Nat.le_refl _) _
  generalize (w2.setCell ⟨w.heap.size, 0, none⟩ (.int .u64 h)).setCell ⟨w.heap.size, 1, none⟩ (.int .u64 l) = W at *
  clear c0 c1 r0 r1 f0 f1 g0 g1 b
  go_wp2_with fail
  refine bodyPost_ret (v := .tuple #[.agg #[.int .u64 h, .int .u64 (l / 2 * 2 + 1)], .int .i64 (e0 - 2)]) (by simp [results, Tryz.results151, go_sem, *]) rfl ?_
  refine ⟨_, _, _, rfl, w3, o2, by omega, by omega, by have := K.out; show _ ≠ 0; omega, fun s m b => by rw [K.out]; rfl, ?_⟩
  exact ((q7.setCell (Nat.le_refl _) _).setCell (Nat.le_succ _) _).setCell (Nat.le_succ _) _
end Go.Proofs.YteafnkimcidkhaaGreat



