/- Texts of the proof, put together. -/
import Derived.Test.YteafnkimcidkhaaGreatRMB3
import Derived.Deep.OwnRows
import Derived.Deep.QuietTactic
import Derived.BigQuiet
import Derived.Deep.CutRange
import Derived.WalkKit
import Derived.Laws.AppendOwnNone
namespace Go.Proofs.YteafnkimcidkhaaGreat
open Go.RowKit
set_option linter.unusedVariables false
set_option linter.unusedSimpArgs false
def refSize (s : Bool) (m : Int) (below : Bool) (last : Int) (q1 : Nat) : Int :=
 if (if (if q1 = 2 ^ (fP s + 1) then q1 / 2 else q1) < 2 ^ fP s then 0 else (if q1 = 2 ^ (fP s + 1) then last + 1 else last) - fL s + 1) ≥ 2 ^ (fE s).toNat - 1 then
  (if m = 3 ∨ m = 1 ∧ below = true ∨ m = 2 ∧ below = false then fI s - 1 else fI s)
 else (if (if q1 = 2 ^ (fP s + 1) then q1 / 2 else q1) < 2 ^ fP s then 0 else (if q1 = 2 ^ (fP s + 1) then last + 1 else last) - fL s + 1) * 2 ^ fP s + (((if q1 = 2 ^ (fP s + 1) then q1 / 2 else q1) % 2 ^ fP s : Nat) : Int)
theorem great_ref (s : Bool) (m : Int) (b : Bool) : great s m b = if m = 3 ∨ m = 1 ∧ b = true ∨ m = 2 ∧ b = false then fI s - 1 else fI s := by
 unfold great away
 by_cases c1 : m = 1
 ·subst c1; cases b <;> rfl
 ·by_cases c2 : m = 2
  ·subst c2; cases b <;> rfl
  ·by_cases c3 : m = 3
   ·subst c3; cases b <;> rfl
   ·simp [c1, c2, c3]
theorem fI_eq (s : Bool) : fI s = (2 ^ (fE s).toNat - 1) * 2 ^ fP s := by cases s <;> rfl
theorem fE_ge (s : Bool) : (2 : Int) ≤ 2 ^ (fE s).toNat - 1 := by cases s <;> decide
theorem ref_fin (s : Bool) (m : Int) (below : Bool) (last : Int) (q : Nat) (h l : Bool) (h1 : q < 2 ^ (fP s + 1)) (h2 : last = fL s ∨ 2 ^ fP s ≤ q) (h3 : fL s ≤ last) :
  refSize s m below last (q + if away m below (q % 2 == 1) h l then 1 else 0) = fin s m below last q h l := by
 unfold refSize fin
 rw [← great_ref, fI_eq]
 have e2 := fE_ge s
 have g1 : q ≤ (q + if away m below (q % 2 == 1) h l then 1 else 0) := Nat.le_add_right _ _
 have g2 : (q + if away m below (q % 2 == 1) h l then 1 else 0) ≤ q + 1 := by split <;> omega
 generalize (q + if away m below (q % 2 == 1) h l then 1 else 0) = Y at *
 generalize (2 : Int) ^ (fE s).toNat - 1 = X at *
 have pp := Nat.two_pow_pos (fP s)
 rw [Nat.pow_succ] at *
 rw [pow_cast]
 generalize 2 ^ fP s = P at *
 obtain ⟨d, hd⟩ : ∃ d : Nat, last - fL s = d := ⟨(last - fL s).toNat, by omega⟩
 obtain ⟨x, hx⟩ : ∃ x : Nat, X = x := ⟨X.toNat, by omega⟩
 rw [hd, hx]
 by_cases c : Y = P * 2
 ·have y2 : Y / 2 = P := by omega
  have np : ¬ P < P := by omega
  rw [if_pos c, if_pos c, y2]
  simp only [if_neg np]
  rw [Nat.mod_self, show last + 1 - fL s + 1 = ((d + 2 : Nat) : Int) by omega]
  have t : ((d + 2 : Nat) : Int) * (P : Int) = (d : Int) * P + (Y : Int) := by
   have k : (d + 2) * P = d * P + P * 2 := by rw [Nat.add_mul, Nat.mul_comm 2]
   rw [c, ← Int.natCast_mul, ← Int.natCast_mul, k, Int.natCast_add]
  by_cases g : ((x : Int)) ≤ ((d + 2 : Nat) : Int)
  ·rw [if_pos g, if_pos (by rw [← t]; exact Int.mul_le_mul_of_nonneg_right g (by omega))]
  ·rw [if_neg g, if_neg (by rw [← t]; intro k; exact g (Int.le_of_mul_le_mul_right k (by omega)))]
   rw [← t]; simp
 ·rw [if_neg c, if_neg c]
  by_cases z : Y < P
  ·have dz : d = 0 := by
    rcases h2 with k | k
    ·omega
    ·omega
   rw [if_pos z, if_neg (by omega), Nat.mod_eq_of_lt z, dz]
   have : ¬ ((x : Int) * (P : Int) ≤ ((0 : Nat) : Int) * (P : Int) + (Y : Int)) := by
    have k : (2 : Int) * P ≤ (x : Int) * P := Int.mul_le_mul_of_nonneg_right (by omega) (by omega)
    simp
    omega
   rw [if_neg this]
   simp
  ·have m1 : Y % P = Y - P := by
    rw [Nat.mod_eq_sub_mod (by omega), Nat.mod_eq_of_lt (by omega)]
   rw [if_neg z, m1, show last - fL s + 1 = ((d + 1 : Nat) : Int) by omega]
   have t : ((d + 1 : Nat) : Int) * (P : Int) + ((Y - P : Nat) : Int) = (d : Int) * P + (Y : Int) := by
    rw [← Int.natCast_mul, ← Int.natCast_mul]
    have : (d + 1) * P = d * P + P := by rw [Nat.add_mul, Nat.one_mul]
    omega
   by_cases g : ((x : Int)) ≤ ((d + 1 : Nat) : Int)
   ·have k : (x : Int) * P ≤ ((d + 1 : Nat) : Int) * P := Int.mul_le_mul_of_nonneg_right g (by omega)
    rw [if_pos g, if_pos (by omega)]
   ·have k : ((d + 1 : Nat) : Int) * P + P ≤ (x : Int) * P := by
     have k' : (((d + 1 : Nat) : Int) + 1) * P ≤ (x : Int) * P := Int.mul_le_mul_of_nonneg_right (by omega) (by omega)
     rw [Int.add_mul, Int.one_mul] at k'
     exact k'
    rw [if_neg g, if_neg (by omega)]
    exact t
/-! ### What is kept, bit by bit from the top -/
def qTo (A : Nat) (k : Int) (j : Nat) : Nat := if (j : Int) ≤ k then A / 2 ^ k.toNat else A / 2 ^ j * 2 ^ ((j : Int) - k).toNat
theorem qTo_top {A n : Nat} (k : Int) (h : A < 2 ^ n) : qTo A k n = 0 := by
 unfold qTo
 split
 ·exact Nat.div_eq_of_lt (Nat.lt_of_lt_of_le h (Nat.pow_le_pow_right (by decide) (by omega)))
 ·rw [Nat.div_eq_of_lt h, Nat.zero_mul]
theorem qTo_end (A : Nat) (k : Int) : qTo A k 0 = quo A k := by
 unfold qTo quo
 by_cases c : 0 < k
 ·rw [if_pos (by omega), if_neg (by omega)]
 ·by_cases d : k = 0
  ·subst d
   rw [if_pos (by decide), if_pos (by decide)]
   simp
  ·rw [if_neg (by omega), if_pos (by omega), Nat.pow_zero, Nat.div_one]
   congr 2
   omega
theorem qTo_no (A : Nat) (k : Int) (i : Nat) (h : (i : Int) < k) : qTo A k i = qTo A k (i + 1) := by
 unfold qTo
 rw [if_pos (by omega), if_pos (by omega)]
theorem qTo_yes (A : Nat) (k : Int) (i : Nat) (h : k ≤ (i : Int)) : qTo A k i = qTo A k (i + 1) + (A.testBit i).toNat * 2 ^ ((i : Int) - k).toNat ∧ qTo A k (i + 1) % 2 ^ (((i : Int) - k).toNat + 1) = 0 := by
 have e : qTo A k i = A / 2 ^ i * 2 ^ ((i : Int) - k).toNat := by
  unfold qTo
  by_cases c : (i : Int) ≤ k
  ·have : k.toNat = i := by omega
   rw [if_pos c, this, show ((i : Int) - k).toNat = 0 by omega, Nat.pow_zero, Nat.mul_one]
  ·rw [if_neg c]
 have e' : qTo A k (i + 1) = A / 2 ^ (i + 1) * 2 ^ (((i : Int) - k).toNat + 1) := by
  unfold qTo
  rw [if_neg (by omega)]
  congr 2
  omega
 refine ⟨?_, by rw [e', Nat.mul_mod_left]⟩
 rw [e, e', Nat.pow_succ, Nat.pow_succ, ← Nat.div_div_eq_div_mul, Nat.testBit_eq_decide_div_mod_eq]
 generalize A / 2 ^ i = B
 generalize 2 ^ ((i : Int) - k).toNat = T
 have m : B = 2 * (B / 2) + B % 2 := by omega
 have t : (decide (B % 2 = 1)).toNat = B % 2 := by
  have : B % 2 = 0 ∨ B % 2 = 1 := by omega
  rcases this with c | c <;> rw [c] <;> rfl
 rw [t]
 conv => lhs; rw [m, Nat.add_mul]
 congr 1
 rw [Nat.mul_comm 2, Nat.mul_assoc, Nat.mul_comm 2]
theorem qTo_le (A : Nat) (k : Int) (i : Nat) : qTo A k (i + 1) ≤ qTo A k i := by
 by_cases c : k ≤ (i : Int)
 ·rw [(qTo_yes A k i c).1]; exact Nat.le_add_right _ _
 ·rw [qTo_no A k i (by omega)]; exact Nat.le_refl _
theorem qTo_quo (A : Nat) (k : Int) (i : Nat) : qTo A k i ≤ quo A k := by
 induction i with
 | zero => rw [qTo_end]; exact Nat.le_refl _
 | succ i ih => exact Nat.le_trans (qTo_le A k i) ih
theorem or_pow (q t : Nat) (h : q % 2 ^ (t + 1) = 0) : q ||| 2 ^ t = q + 2 ^ t := by
 obtain ⟨b, rfl⟩ : ∃ b, q = 2 ^ (t + 1) * b := ⟨q / 2 ^ (t + 1), by have := Nat.div_add_mod q (2 ^ (t + 1)); omega⟩
 exact (Nat.two_pow_add_eq_or_of_lt (i := t + 1) (b := 2 ^ t) (Nat.pow_lt_pow_right (by decide) (by omega)) b).symm
end Go.Proofs.YteafnkimcidkhaaGreat
namespace Go.Proofs.YteafnkimcidkhaaGreat
open Go.RowKit
set_option linter.unusedVariables false
set_option linter.unusedSimpArgs false
theorem half_bit (n : Nat) (k : Int) : half n k = (decide (1 ≤ k) && n.testBit (k.toNat - 1)) := by
 unfold half
 rw [Nat.testBit_eq_decide_div_mod_eq]
 congr 1
theorem mod_no {A i : Nat} (h : A.testBit i = false) : A % 2 ^ (i + 1) = A % 2 ^ i := by
 rw [Nat.mod_pow_succ]
 rw [Nat.testBit_eq_decide_div_mod_eq, decide_eq_false_iff_not] at h
 have : A / 2 ^ i % 2 = 0 := by omega
 rw [this, Nat.mul_zero, Nat.add_zero]
theorem mod_yes {A i : Nat} (h : A.testBit i = true) : A % 2 ^ (i + 1) = A % 2 ^ i + 2 ^ i := by
 rw [Nat.mod_pow_succ]
 rw [Nat.testBit_eq_decide_div_mod_eq, decide_eq_true_iff] at h
 rw [h, Nat.mul_one]
theorem half_other {A i : Nat} {k : Int} (h : ¬ (i : Int) = k - 1) : half (A % 2 ^ (i + 1)) k = half (A % 2 ^ i) k := by
 rw [half_bit, half_bit, Nat.testBit_mod_two_pow, Nat.testBit_mod_two_pow]
 by_cases c : 1 ≤ k
 ·have : decide (k.toNat - 1 < i + 1) = decide (k.toNat - 1 < i) := by rw [decide_eq_decide]; omega
  rw [this]
 ·rw [decide_eq_false c, Bool.false_and, Bool.false_and]
theorem half_at {A i : Nat} {k : Int} (hb : A.testBit i = true) (h : (i : Int) = k - 1) : half (A % 2 ^ (i + 1)) k = true := by
 rw [half_bit, Nat.testBit_mod_two_pow]
 have e : k.toNat - 1 = i := by omega
 rw [e, hb, decide_eq_true (by omega : 1 ≤ k), decide_eq_true (by omega : i < i + 1)]
 rfl
theorem low_other {A i : Nat} {k : Int} (h : ¬ (i : Int) < k - 1) : low (A % 2 ^ (i + 1)) k = low (A % 2 ^ i) k := by
 unfold low
 by_cases c : 1 ≤ k
 ·have d1 : 2 ^ (k.toNat - 1) ∣ 2 ^ i := Nat.pow_dvd_pow 2 (by omega)
  have d2 : 2 ^ (k.toNat - 1) ∣ 2 ^ (i + 1) := Nat.pow_dvd_pow 2 (by omega)
  rw [Nat.mod_mod_of_dvd _ d1, Nat.mod_mod_of_dvd _ d2]
 ·rw [decide_eq_false c, Bool.false_and, Bool.false_and]
theorem low_at {A i : Nat} {k : Int} (hb : A.testBit i = true) (h : (i : Int) < k - 1) : low (A % 2 ^ (i + 1)) k = true := by
 unfold low
 have l : A % 2 ^ (i + 1) < 2 ^ (k.toNat - 1) := Nat.lt_of_lt_of_le (Nat.mod_lt _ (Nat.two_pow_pos _)) (Nat.pow_le_pow_right (by decide) (by omega))
 rw [Nat.mod_eq_of_lt l, mod_yes hb, decide_eq_true (by omega : 1 ≤ k)]
 have := Nat.two_pow_pos i
 simp
theorem hl_no {A i : Nat} {k : Int} (hb : A.testBit i = false) : half (A % 2 ^ (i + 1)) k = half (A % 2 ^ i) k ∧ low (A % 2 ^ (i + 1)) k = low (A % 2 ^ i) k := by
 rw [mod_no hb]; exact ⟨rfl, rfl⟩
theorem hl_eq {A i : Nat} {k : Int} (hb : A.testBit i = true) (h : (i : Int) = k - 1) : half (A % 2 ^ (i + 1)) k = true ∧ low (A % 2 ^ (i + 1)) k = low (A % 2 ^ i) k := ⟨half_at hb h, low_other (by omega)⟩
theorem hl_lt {A i : Nat} {k : Int} (hb : A.testBit i = true) (h : (i : Int) < k - 1) : half (A % 2 ^ (i + 1)) k = half (A % 2 ^ i) k ∧ low (A % 2 ^ (i + 1)) k = true := ⟨half_other (by omega), low_at hb h⟩
theorem hl_gt {A i : Nat} {k : Int} (h : k - 1 < (i : Int)) : half (A % 2 ^ (i + 1)) k = half (A % 2 ^ i) k ∧ low (A % 2 ^ (i + 1)) k = low (A % 2 ^ i) k := ⟨half_other (by omega), low_other (by omega)⟩
theorem hl_zero (A : Nat) (k : Int) : half (A % 2 ^ 0) k = false ∧ low (A % 2 ^ 0) k = false := by
 rw [Nat.pow_zero, Nat.mod_one, half_bit]
 unfold low
 simp
theorem q_yes {A i : Nat} {k : Int} {t : Nat} (h : (i : Int) - k = (t : Int)) (ht : t < 64) (hq : quo A k < 2 ^ 63) (hb : A.testBit i = true) :
  bits BinOp.or IntKind.u64 ((qTo A k (i + 1) : Nat) : Int) (2 ^ t) = ((qTo A k i : Nat) : Int) := by
 obtain ⟨e1, e2⟩ := qTo_yes A k i (by omega)
 have tt : ((i : Int) - k).toNat = t := by omega
 rw [tt] at e1 e2
 have l := qTo_quo A k (i + 1)
 have p : 2 ^ t < 2 ^ 64 := Nat.pow_lt_pow_right (by decide) ht
 rw [pow_cast, u64_or_nat _ _ (by omega) (by omega), or_pow _ _ e2, e1, hb]
 simp
theorem q_no {A i : Nat} {k : Int} {t : Nat} (h : (i : Int) - k = (t : Int)) (ht : t < 64) (hq : quo A k < 2 ^ 63) (hb : A.testBit i = false) :
  bits BinOp.andNot IntKind.u64 (bits BinOp.or IntKind.u64 ((qTo A k (i + 1) : Nat) : Int) (2 ^ t)) (2 ^ t) = ((qTo A k i : Nat) : Int) := by
 obtain ⟨e1, e2⟩ := qTo_yes A k i (by omega)
 have tt : ((i : Int) - k).toNat = t := by omega
 rw [tt] at e1 e2
 have l := qTo_quo A k (i + 1)
 have p : 2 ^ t < 2 ^ 64 := Nat.pow_lt_pow_right (by decide) ht
 have o : qTo A k (i + 1) ||| 2 ^ t < 2 ^ 64 := Nat.or_lt_two_pow (by omega) p
 rw [pow_cast, u64_or_nat _ _ (by omega) (by omega), u64_andNot_nat _ _ (by omega) (by omega), e1, hb]
 congr 1
 simp only [Bool.toNat_false, Nat.zero_mul, Nat.add_zero]
 rw [show 18446744073709551615 - 2 ^ t = 2 ^ 64 - (2 ^ t + 1) by omega]
 have q0 : (qTo A k (i + 1)).testBit t = false := by
  have := Nat.testBit_mod_two_pow (qTo A k (i + 1)) (t + 1) t
  rw [e2, Nat.zero_testBit] at this
  simpa using this.symm
 apply Nat.eq_of_testBit_eq
 intro j
 rw [Nat.testBit_and, Nat.testBit_or, Nat.testBit_two_pow, Nat.testBit_two_pow_sub_succ p, Nat.testBit_two_pow]
 by_cases c : t = j
 ·subst c; simp [q0]
 ·by_cases c2 : j < 64
  ·simp [c, c2]
  ·have : (qTo A k (i + 1)).testBit j = false := Nat.testBit_lt_two_pow (Nat.lt_of_lt_of_le (by omega : qTo A k (i + 1) < 2 ^ 63) (Nat.pow_le_pow_right (by decide) (by omega)))
   simp [c, c2, this]
end Go.Proofs.YteafnkimcidkhaaGreat
namespace Go.Proofs.YteafnkimcidkhaaGreat
open Go.RowKit
set_option linter.unusedVariables false

def RowB (w : World) (b n : Nat) (f : Nat → Bool) : Prop := ∀ i, i < n → w.cell? ⟨b, i, none⟩ = some (.bool (f i))
def RowF (w : World) (b n : Nat) : Prop := ∀ i, i < n → w.frozen? ⟨b, i, none⟩ = false
def freshW (w : World) (n : Nat) : World := w.alloc (.cells (madeCells #[.bool false] n) 4)
theorem fresh_size (w : World) (n : Nat) : (freshW w n).heap.size = w.heap.size + 1 := by simp [freshW]
theorem fresh_below (w : World) (n : Nat) : Below w.heap.size w (freshW w n) := (Below.refl _ _).alloc (Nat.le_refl _) _
theorem fresh_row (w : World) (n : Nat) : RowB (freshW w n) w.heap.size n (fun _ => false) := by
 intro i hi
 have := size_madeCells #[Value.bool false] n
 simp [freshW, go_sem, madeCells, hi, Nat.mod_one]
theorem fresh_free (w : World) (n : Nat) : RowF (freshW w n) w.heap.size n := by
 intro i hi
 simp [freshW, go_sem]
theorem make_bools (n : Nat) (hn : n ≤ 1000000) (w : World) : (Instr.makeSlice 116 (.int .i64 n) (.int .i64 n)).run Tryz.prog w = .ok (.slice (some ⟨w.heap.size, 0, none⟩) n n) (freshW w n) := by
 exact run_make_row' (P := Tryz.prog) 116 4 (.bool false) 1 Tryz.underlying116 (by kernel_rfl) rfl .i64 .i64 n (by omega) (by omega) w
theorem make_128 (w : World) : (Instr.makeSlice 116 (.int .i64 128) (.int .i64 128)).run Tryz.prog w = .ok (.slice (some ⟨w.heap.size, 0, none⟩) 128 128) (freshW w 128) := make_bools 128 (by decide) w
theorem RowB.below {W w1 : World} {b n : Nat} {f : Nat → Bool} (h : RowB W b n f) (hb : Below W.heap.size W w1) (hs : b < W.heap.size) : RowB w1 b n f := fun i hi => by
 rw [(bcell hb).1 _ _ hs]; exact h i hi
theorem RowF.below {W w1 : World} {b n : Nat} (h : RowF W b n) (hb : Below W.heap.size W w1) (hs : b < W.heap.size) : RowF w1 b n := fun i hi => by
 rw [(bcell hb).2 _ _ hs]; exact h i hi
theorem RowF.set {W : World} {b n : Nat} (h : RowF W b n) (a : Addr) (v : Value) : RowF (W.setCell a v) b n := fun i hi => by
 simpa [go_sem] using h i hi
theorem RowB.set {W : World} {b n : Nat} {f : Nat → Bool} (h : RowB W b n f) (k : Nat) (v : Bool) (hk : k < n) : RowB (W.setCell ⟨b, k, none⟩ (.bool v)) b n (fun i => if i = k then v else f i) := fun i hi => by
 by_cases e : i = k
 ·subst e
  simp [go_sem, h i hi]
 ·rw [World.cell?_setCell_other _ _ _ _ (by first | (simp; done) | (simp; omega)), h i hi]
  simp [e]
theorem RowB.far {W : World} {b n : Nat} {f : Nat → Bool} (h : RowB W b n f) (a : Addr) (v : Value) (hk : a.block ≠ b) : RowB (W.setCell a v) b n f := fun i hi => by
 rw [World.cell?_setCell_far _ _ _ _ (by simpa using hk)]; exact h i hi
theorem RowB.drew {W : World} {b n : Nat} {f : Nat → Bool} (h : RowB W b n f) : RowB W.drew b n f := h
theorem RowF.drew {W : World} {b n : Nat} (h : RowF W b n) : RowF W.drew b n := h
theorem RowB.ext {W : World} {b n : Nat} {f g : Nat → Bool} (h : RowB W b n f) (e : ∀ i, i < n → f i = g i) : RowB W b n g := fun i hi => by rw [h i hi, e i hi]
def N (h l : Int) : Nat := (num h l).toNat
theorem N_cast {h l : Int} (a : Word h) (b : Word l) : ((N h l : Nat) : Int) = num h l := Int.toNat_of_nonneg (num_lo a b)
theorem N_lt {h l : Int} (a : Word h) (b : Word l) : N h l < 2 ^ 128 := by
 have := num_hi a b; have e := N_cast a b
 have : (2 : Nat) ^ 128 = 340282366920938463463374607431768211456 := by decide
 omega
theorem N_bit {h l : Int} (a : Word h) (b : Word l) (j : Nat) : (N h l).testBit j = if j < 64 then l.toNat.testBit j else h.toNat.testBit (j - 64) := by
 have e : N h l = 2 ^ 64 * h.toNat + l.toNat := by
  have := N_cast a b; unfold num Word at *; omega
 rw [e]
 exact Nat.testBit_two_pow_mul_add h.toNat (by have := b.1; have := b.2; omega) j
theorem and_one (x : Int) (hx : Word x) : bits BinOp.and IntKind.u64 x 1 = x % 2 := by
 obtain ⟨a, rfl⟩ := Int.eq_ofNat_of_zero_le hx.1
 have ha := hx.2
 have t := bits_and_u64_nat a 1 (by omega) (by omega)
 rw [Nat.and_one_is_mod] at t
 have t' : bits BinOp.and IntKind.u64 (a : Int) 1 = ((a % 2 : Nat) : Int) := t
 rw [t']; omega
theorem bit_of (x : Int) (hx : Word x) (k : Nat) : (bits BinOp.and IntKind.u64 (x / 2 ^ k) 1 == 1) = x.toNat.testBit k := by
 obtain ⟨a, rfl⟩ := Int.eq_ofNat_of_zero_le hx.1
 have ha := hx.2
 rw [castShr, and_one _ ⟨Int.natCast_nonneg _, by have := Nat.div_le_self a (2 ^ k); omega⟩, Int.toNat_natCast, Nat.testBit_eq_decide_div_mod_eq, Bool.eq_iff_iff, beq_iff_eq, decide_eq_true_iff]
 generalize a / 2 ^ k = q
 omega
def bitsTo (A k : Nat) (j : Nat) : Bool := if j < 64 then decide (j < k) && A.testBit j else decide (j - 64 < k) && A.testBit j
theorem bitsTo_zero (A : Nat) : bitsTo A 0 = fun _ => false := by funext j; simp [bitsTo]
theorem bitsTo_full (A j : Nat) (h : j < 128) : bitsTo A 64 j = A.testBit j := by
 unfold bitsTo; split
 ·simp [*]
 ·have : j - 64 < 64 := by omega
  simp [this]
theorem bitsTo_succ (A k : Nat) (hk : k < 64) : (fun i => if i = 64 + k then A.testBit (64 + k) else if i = k then A.testBit k else bitsTo A k i) = bitsTo A (k + 1) := by
 funext j
 unfold bitsTo
 by_cases e1 : j = 64 + k
 ·subst e1
  have a1 : ¬ 64 + k < 64 := by omega
  have a2 : 64 + k - 64 < k + 1 := by omega
  simp [a1]
 ·by_cases e2 : j = k
  ·subst e2
   have a0 : ¬ j = 64 + j := by omega
   simp [hk]
  ·simp only [if_neg e1, if_neg e2]
   by_cases c : j < 64
   ·simp only [if_pos c]
    have : (decide (j < k)) = decide (j < k + 1) := by rw [decide_eq_decide]; omega
    rw [this]
   ·simp only [if_neg c]
    have : (decide (j - 64 < k)) = decide (j - 64 < k + 1) := by rw [decide_eq_decide]; omega
    rw [this]
set_option maxHeartbeats 800000 in
theorem bits_any (ah al : Int) (h1 : Word ah) (h2 : Word al) (w : World) :
  Calls Tryz.prog 118 #[.agg #[.int .u64 ah, .int .u64 al]] w fun e w' =>
   ∃ b : Nat, e = .returned (.slice (some ⟨b, 0, none⟩) 128 128) ∧ w.heap.size ≤ b ∧ b < w'.heap.size ∧ RowB w' b 128 (N ah al).testBit ∧ RowF w' b 128 ∧ Below w.heap.size w w' := by
 have hmk := make_128
 have h1' := h1.1
 have h2' := h2.1
 go_enter Tryz.func118, Tryz.ntmps118
 go_wp2
 go_loopw [4] (fun i wr => ∃ k : Nat, k ≤ 64 ∧ i = .int .i64 k ∧ w.heap.size < wr.heap.size ∧ w.heap.size + 1 < wr.heap.size ∧ wr.cell? ⟨w.heap.size, 0, none⟩ = some (.int .u64 ah) ∧ wr.cell? ⟨w.heap.size, 1, none⟩ = some (.int .u64 al) ∧ RowB wr (w.heap.size + 1) 128 (bitsTo (N ah al) k) ∧ RowF wr (w.heap.size + 1) 128 ∧ Below w.heap.size w wr) (fun i _ => 64 - (intOf i).toNat)
 case atStart =>
  have z := fresh_size (w.alloc (.cells #[.int .u64 ah, .int .u64 al] 139)) 128
  have fb := fresh_below (w.alloc (.cells #[.int .u64 ah, .int .u64 al] 139)) 128
  have fr := fresh_row (w.alloc (.cells #[.int .u64 ah, .int .u64 al] 139)) 128
  have ff := fresh_free (w.alloc (.cells #[.int .u64 ah, .int .u64 al] 139)) 128
  simp only [World.size_alloc] at z fr ff
  refine ⟨0, by omega, rfl, by omega, by omega, ?_, ?_, ?_, ff, ?_⟩
  ·rw [(bcell fb).1 _ _ (by simp)]; simp [go_sem]
  ·rw [(bcell fb).1 _ _ (by simp)]; simp [go_sem]
  ·rw [bitsTo_zero]; exact fr
  ·exact ((Below.refl _ _).alloc (Nat.le_refl _) _).trans (fb.mono (by simp))
 case round =>
  obtain ⟨k, hk, rfl, s0, s1, c0, c1, hrow, hfree, hb⟩ := hrel
  by_cases hlt : k < 64
  ·have g1 := hrow k (by omega)
   have f1 := hfree k (by omega)
   have g2 := hrow (64 + k) (by omega)
   have f2 := hfree (64 + k) (by omega)
   have q1 : (bits BinOp.and IntKind.u64 (al / 2 ^ k) 1 == 1) = (N ah al).testBit k := by
    rw [bit_of al h2, N_bit h1 h2, if_pos hlt]
   have q2 : (bits BinOp.and IntKind.u64 (ah / 2 ^ k) 1 == 1) = (N ah al).testBit (64 + k) := by
    rw [bit_of ah h1, N_bit h1 h2, if_neg (by omega), show 64 + k - 64 = k from by omega]
   go_wp2
   go_roundw
   case rel =>
    refine ⟨k + 1, by omega, by go_num, by simpa using s0, by simpa using s1, ?_, ?_, ?_, (hfree.set _ _).set _ _, (hb.setCell (by simp) _).setCell (by simp) _⟩
    ·simp [go_sem, c0]
    ·simp [go_sem, c1]
    ·rw [← bitsTo_succ _ _ hlt]
     exact (hrow.set k _ (by omega)).set (64 + k) _ (by omega)
   case measure => simp [intOf]; omega
  ·have : k = 64 := by omega
   subst this
   go_wp2
   go_ret
   exact ⟨_, rfl, by omega, s1, hrow.ext (fun i hi => bitsTo_full _ _ hi), hfree, hb⟩
end Go.Proofs.YteafnkimcidkhaaGreat
namespace Go.Proofs.YteafnkimcidkhaaGreat
open Go.RowKit
set_option linter.unusedVariables false
set_option linter.unusedSimpArgs false
theorem top_bit {A k : Nat} (h : A < 2 ^ (k + 1)) (hb : A.testBit k = true) : blen A = k + 1 := by
 rw [Nat.testBit_eq_decide_div_mod_eq, decide_eq_true_iff] at hb
 refine blen_uniq (by omega) ?_ h
 rw [Nat.add_sub_cancel]
 by_cases c : 2 ^ k ≤ A
 ·exact c
 ·rw [Nat.div_eq_of_lt (by omega)] at hb; omega
theorem no_bit {A k : Nat} (h : A < 2 ^ (k + 1)) (hb : A.testBit k = false) : A < 2 ^ k := by
 rw [Nat.testBit_eq_decide_div_mod_eq, decide_eq_false_iff_not] at hb
 by_cases c : 2 ^ k ≤ A
 ·have p := Nat.two_pow_pos k
  rw [Nat.pow_succ] at h
  have : A / 2 ^ k = 1 := Nat.div_eq_of_lt_le (by omega) (by omega)
  rw [this] at hb; omega
 ·omega
set_option maxHeartbeats 800000 in
theorem length_any (b n cap A : Nat) (hA : A < 2 ^ n) (hn : n ≤ 1000000) (w : World) (row : RowB w b n (fun i => A.testBit i)) :
  Calls Tryz.prog 128 #[.slice (some ⟨b, 0, none⟩) n cap] w fun e w' => e = .returned (.int .i64 (blen A : Int)) ∧ w' = w := by
 have HA : Hid _ := hA
 clear hA
 go_enter Tryz.func128, Tryz.ntmps128
 go_wp2
 go_loopw [3] (fun i wr => ∃ k : Nat, k ≤ n ∧ i = .int .i64 k ∧ Hid (A < 2 ^ k) ∧ wr = w) (fun i _ => (intOf i).toNat)
 case atStart => exact ⟨n, Nat.le_refl _, rfl, HA, rfl⟩
 case round =>
  obtain ⟨k, hk, rfl, E1, rfl⟩ := hrel
  rcases Nat.eq_zero_or_pos k with rfl | kp
  ·have z : blen A = 0 := by
    have := E1.out
    simp at this
    subst this
    exact blen_zero
   have Z : Hid _ := z
   clear z
   go_wp2
   go_ret
   exact ⟨i64_eq (by rw [Z.out]), rfl⟩
  ·obtain ⟨j, rfl⟩ : ∃ j, k = j + 1 := ⟨k - 1, by omega⟩
   have cj : wr.cell? ⟨b, j, none⟩ = some (.bool (A.testBit j)) := row j (by omega)
   have e1 : ((j + 1 : Nat) : Int) - 1 = (j : Int) := by omega
   have e2 : (0 : Int) < ((j + 1 : Nat) : Int) := by omega
   cases t : A.testBit j
   ·rw [t] at cj
    have E2 : Hid _ := no_bit E1.out t
    clear t row
    go_wp2
    go_roundw
    case rel => exact ⟨j, by omega, by go_num, E2, by first | rfl | trivial⟩
    case measure => first | (simp [intOf]; done) | (simp [intOf]; omega)
   ·rw [t] at cj
    have Z : Hid _ := top_bit E1.out t
    clear t row
    go_wp2
    go_ret
    exact ⟨i64_eq (by rw [Z.out]), rfl⟩
end Go.Proofs.YteafnkimcidkhaaGreat
namespace Go.Proofs.YteafnkimcidkhaaGreat
open Go.RowKit
set_option linter.unusedVariables false
set_option linter.unusedSimpArgs false
theorem or_top (x i : Nat) (h : x < 2 ^ i) (hi : i < 64) : bits BinOp.or IntKind.u64 ((2 ^ i : Nat) : Int) (x : Int) = ((2 ^ i + x : Nat) : Int) := by
 have p : 2 ^ i < 2 ^ 64 := Nat.pow_lt_pow_right (by decide) hi
 rw [u64_or_nat _ _ (by omega) (by omega)]
 have := Nat.two_pow_add_eq_or_of_lt h 1
 rw [Nat.mul_one] at this
 rw [← this]
theorem or_none (x : Nat) (h : x < 2 ^ 64) : bits BinOp.or IntKind.u64 0 (x : Int) = (x : Int) := by
 have t := u64_or_nat 0 x (by decide) (by omega)
 rw [Nat.zero_or] at t
 exact t
theorem or_lowN (x m i : Nat) (hm : m < 2 ^ i) (h : x * 2 ^ i + m < 2 ^ 64) : bits BinOp.or IntKind.u64 ((x * 2 ^ i : Nat) : Int) (m : Int) = ((x * 2 ^ i + m : Nat) : Int) := by
 rw [u64_or_nat _ _ (by omega) (by omega), Nat.mul_comm x, Nat.two_pow_add_eq_or_of_lt hm x]
theorem or_sign (s b : Bool) (x : Nat) (h : (x : Int) < fS s) : bits BinOp.or IntKind.u64 (if b then fS s else 0) (x : Int) = sgnd s b (x : Int) := by
 have e1 : fS false = ((2 ^ 63 : Nat) : Int) := by decide
 have e2 : fS true = ((2 ^ 31 : Nat) : Int) := by decide
 unfold sgnd
 cases b
 ·have h' : x < 2 ^ 64 := by cases s; rw [e1] at h; omega; rw [e2] at h; omega
  rw [if_neg (by decide), if_neg (by decide), or_none x h']
 ·rw [if_pos rfl, if_pos rfl]
  cases s
  ·rw [e1] at h ⊢
   rw [or_top x 63 (by omega) (by decide)]; omega
  ·rw [e2] at h ⊢
   rw [or_top x 31 (by omega) (by decide)]; omega
theorem put_d (b : Bool) (X M : Nat) (hX : X < 2048) (hM : M < 4503599627370496) : bits BinOp.or IntKind.u64 (bits BinOp.or IntKind.u64 (if b then 9223372036854775808 else 0) ((X * 4503599627370496 : Nat) : Int)) (M : Int) = sgnd false b ((X : Int) * 4503599627370496 + M) := by
 have e := or_sign false b (X * 4503599627370496) (by show _ < (9223372036854775808 : Int); omega)
 have e0 : fS false = 9223372036854775808 := rfl
 rw [e0] at e
 rw [e]
 cases b
 ·unfold sgnd
  rw [if_neg (by decide), if_neg (by decide)]
  have t := or_lowN X M 52 (by omega) (by omega)
  rw [show (2 : Nat) ^ 52 = 4503599627370496 from rfl] at t
  rw [t]; omega
 ·unfold sgnd
  rw [if_pos rfl, if_pos rfl, e0]
  have t := or_lowN (X + 2048) M 52 (by omega) (by omega)
  rw [show ((X * 4503599627370496 : Nat) : Int) + 9223372036854775808 = (((X + 2048) * 2 ^ 52 : Nat) : Int) by omega, t]
  omega
theorem put_s (b : Bool) (X M : Nat) (hX : X < 256) (hM : M < 8388608) : bits BinOp.or IntKind.u64 (bits BinOp.or IntKind.u64 (if b then 2147483648 else 0) ((X * 8388608 : Nat) : Int)) (M : Int) = sgnd true b ((X : Int) * 8388608 + M) := by
 have e := or_sign true b (X * 8388608) (by show _ < (2147483648 : Int); omega)
 have e0 : fS true = 2147483648 := rfl
 rw [e0] at e
 rw [e]
 cases b
 ·unfold sgnd
  rw [if_neg (by decide), if_neg (by decide)]
  have t := or_lowN X M 23 (by omega) (by omega)
  rw [show (2 : Nat) ^ 23 = 8388608 from rfl] at t
  rw [t]; omega
 ·unfold sgnd
  rw [if_pos rfl, if_pos rfl, e0]
  have t := or_lowN (X + 256) M 23 (by omega) (by omega)
  rw [show ((X * 8388608 : Nat) : Int) + 2147483648 = (((X + 256) * 2 ^ 23 : Nat) : Int) by omega, t]
  omega
theorem rinf_any (s b : Bool) (w : World) : Calls Tryz.prog 116 #[.int .i64 (fb s), .bool b] w fun e w' => e = .returned (.int .u64 (sgnd s b (fI s))) ∧ ∃ n, w' = w.drewN n := by
 cases s
 ·have hs := rsize_d
  have hg : ∀ w, Calls Tryz.prog 96 #[.int .i64 0, .bool b] w fun e w' => e = .returned (.int .u64 (if b then 9223372036854775808 else 0)) ∧ w' = w := rsign_any false b
  have o : bits BinOp.or IntKind.u64 (if b then 9223372036854775808 else 0) 9218868437227405312 = sgnd false b (fI false) := or_sign false b 9218868437227405312 (by decide)
  show Calls Tryz.prog 116 #[.int .i64 0, .bool b] w _
  generalize (if b then (9223372036854775808 : Int) else 0) = S at *
  generalize sgnd false b (fI false) = V at *
  go_enter Tryz.func116, Tryz.ntmps116
  go_wp2_with (go_at_call 126; refine (hs _).mono ?_; rintro e w1 ⟨rfl, rfl⟩)
  go_quiet ((go_at_call 96; exact Calls.quiet_of_same (hg _)))
  go_wp2_with fail
  go_ret
  exact ⟨rfl, _, rfl⟩
 ·have hs := rsize_s
  have hg : ∀ w, Calls Tryz.prog 96 #[.int .i64 1, .bool b] w fun e w' => e = .returned (.int .u64 (if b then 2147483648 else 0)) ∧ w' = w := rsign_any true b
  have o : bits BinOp.or IntKind.u64 (if b then 2147483648 else 0) 2139095040 = sgnd true b (fI true) := or_sign true b 2139095040 (by decide)
  show Calls Tryz.prog 116 #[.int .i64 1, .bool b] w _
  generalize (if b then (2147483648 : Int) else 0) = S at *
  generalize sgnd true b (fI true) = V at *
  go_enter Tryz.func116, Tryz.ntmps116
  go_wp2_with (go_at_call 126; refine (hs _).mono ?_; rintro e w1 ⟨rfl, rfl⟩)
  go_quiet ((go_at_call 96; exact Calls.quiet_of_same (hg _)))
  go_wp2_with fail
  go_ret
  exact ⟨rfl, _, rfl⟩
end Go.Proofs.YteafnkimcidkhaaGreat
namespace Go.Proofs.YteafnkimcidkhaaGreat
open Go.RowKit
set_option linter.unusedVariables false

theorem or_bit (x y : Int) (hx : Word x) (hy : Word y) : Word (bits BinOp.or IntKind.u64 x y) ∧ (bits BinOp.or IntKind.u64 x y).toNat = x.toNat ||| y.toNat := by
 obtain ⟨a, rfl⟩ := Int.eq_ofNat_of_zero_le hx.1
 obtain ⟨b, rfl⟩ := Int.eq_ofNat_of_zero_le hy.1
 have ha := hx.2; have hb := hy.2
 rw [bits_or_u64_nat a b (by omega) (by omega)]
 have l : a ||| b < 2 ^ 64 := Nat.or_lt_two_pow (by omega) (by omega)
 exact ⟨⟨by omega, by omega⟩, rfl⟩
theorem pow_word (k : Nat) (hk : k < 64) : Word ((2 : Int) ^ k) ∧ ((2 : Int) ^ k).toNat = 2 ^ k := by
 have e : (2 : Int) ^ k = ((2 ^ k : Nat) : Int) := by simp
 have l : 2 ^ k < 2 ^ 64 := Nat.pow_lt_pow_right (by decide) hk
 rw [e]
 exact ⟨⟨Int.natCast_nonneg _, by omega⟩, rfl⟩
theorem wrap_pow (k : Nat) (hk : k < 64) : IntKind.u64.wrap ((2 : Int) ^ k) = 2 ^ k := by
 obtain ⟨⟨a, b⟩, _⟩ := pow_word k hk
 rw [IntKind.wrap_u64]; omega
theorem low_set (h l : Int) (a : Word h) (b : Word l) (k : Nat) (hk : k < 64) : Word (bits BinOp.or IntKind.u64 l (2 ^ k)) ∧ ∀ j, (N h (bits BinOp.or IntKind.u64 l (2 ^ k))).testBit j = ((N h l).testBit j || decide (j = k)) := by
 obtain ⟨p1, p2⟩ := pow_word k hk
 obtain ⟨o1, o2⟩ := or_bit l (2 ^ k) b p1
 refine ⟨o1, fun j => ?_⟩
 rw [N_bit a o1, N_bit a b, o2, p2]
 by_cases c : j < 64
 ·rw [if_pos c, if_pos c, Nat.testBit_or, Nat.testBit_two_pow]
  congr 1
  rw [decide_eq_decide]; omega
 ·rw [if_neg c, if_neg c]
  have : ¬ j = k := by omega
  simp [this]
theorem high_set (h l : Int) (a : Word h) (b : Word l) (k : Nat) (hk : 64 ≤ k) (hk' : k < 128) : Word (bits BinOp.or IntKind.u64 h (2 ^ (k - 64))) ∧ ∀ j, (N (bits BinOp.or IntKind.u64 h (2 ^ (k - 64))) l).testBit j = ((N h l).testBit j || decide (j = k)) := by
 obtain ⟨p1, p2⟩ := pow_word (k - 64) (by omega)
 obtain ⟨o1, o2⟩ := or_bit h (2 ^ (k - 64)) a p1
 refine ⟨o1, fun j => ?_⟩
 rw [N_bit o1 b, N_bit a b, o2, p2]
 by_cases c : j < 64
 ·rw [if_pos c, if_pos c]
  have : ¬ j = k := by omega
  simp [this]
 ·rw [if_neg c, if_neg c, Nat.testBit_or, Nat.testBit_two_pow]
  congr 1
  rw [decide_eq_decide]; omega
def IsFrom (f : Nat → Bool) (k x : Nat) : Prop := ∀ j, x.testBit j = (decide (j < k) && f j)
theorem isFrom_zero (f : Nat → Bool) : IsFrom f 0 0 := fun j => by simp
theorem IsFrom.skip {f : Nat → Bool} {k x : Nat} (h : IsFrom f k x) (hf : f k = false) : IsFrom f (k + 1) x := fun j => by
 rw [h j]
 by_cases e : j = k
 ·subst e; simp [hf]
 ·have : (decide (j < k)) = decide (j < k + 1) := by rw [decide_eq_decide]; omega
  rw [this]
theorem IsFrom.step {f : Nat → Bool} {k x y : Nat} (h : IsFrom f k x) (hf : f k = true) (hy : ∀ j, y.testBit j = (x.testBit j || decide (j = k))) : IsFrom f (k + 1) y := fun j => by
 rw [hy j, h j]
 by_cases e : j = k
 ·subst e; simp [hf]
 ·have : (decide (j < k)) = decide (j < k + 1) := by rw [decide_eq_decide]; omega
  rw [this]; simp [e]
set_option maxHeartbeats 1600000 in
theorem from_any (b n cap : Nat) (f : Nat → Bool) (hn : n ≤ 1000) (w : World) (hrow : RowB w b n f) (hs : b < w.heap.size) :
  Calls Tryz.prog 200 #[.slice (some ⟨b, 0, none⟩) n cap] w fun e w' =>
   ∃ h l : Int, e = .returned (.agg #[.int .u64 h, .int .u64 l]) ∧ Word h ∧ Word l ∧ IsFrom f (min n 128) (N h l) ∧ Below w.heap.size w w' := by
 go_enter Tryz.func200, Tryz.ntmps200
 go_wp2
 go_loopw [4] (fun i wr => ∃ (k : Nat) (h l : Int), k ≤ n ∧ k ≤ 128 ∧ i = .int .i64 k ∧ Word h ∧ Word l ∧ IsFrom f k (N h l) ∧ w.heap.size < wr.heap.size ∧ w.heap.size + 1 < wr.heap.size ∧ wr.cell? ⟨w.heap.size + 1, 0, none⟩ = some (.int .u64 h) ∧ wr.cell? ⟨w.heap.size + 1, 1, none⟩ = some (.int .u64 l) ∧ wr.frozen? ⟨w.heap.size + 1, 0, none⟩ = false ∧ wr.frozen? ⟨w.heap.size + 1, 1, none⟩ = false ∧ (∃ x y, wr.cell? ⟨w.heap.size, 0, none⟩ = some x ∧ wr.cell? ⟨w.heap.size, 1, none⟩ = some y) ∧ wr.frozen? ⟨w.heap.size, 0, none⟩ = false ∧ wr.frozen? ⟨w.heap.size, 1, none⟩ = false ∧ Below w.heap.size w wr) (fun i _ => 1000 - (intOf i).toNat)
 case atStart =>
  refine ⟨0, 0, 0, by omega, by omega, rfl, word_zero, word_zero, isFrom_zero f, by simp; omega, by simp, ?_, ?_, ?_, ?_, ⟨.int .u64 0, .int .u64 0, ?_, ?_⟩, ?_, ?_, below_two _ _ _⟩ <;> simp [go_sem]
 case round =>
  obtain ⟨k, h, l, hk, hk2, rfl, wh, wl, hI, s0, s1, c0, c1, f0, f1, ⟨x, y, d0, d1⟩, f2, f3, hb⟩ := hrel
  by_cases hin : k < n ∧ k < 128
  ·obtain ⟨hlt, hlt2⟩ := hin
   have ge : wr.cell? ⟨b, k, none⟩ = some (.bool (f k)) := by rw [(bcell hb).1 _ _ hs]; exact hrow k hlt
   have t1 : (k : Int) < (n : Int) := by omega
   have t2 : (k : Int) < 128 := by omega
   cases hf : f k
   ·rw [hf] at ge
    have I2 := hI.skip hf
    clear hf
    go_wp2
    go_roundw
    case rel => exact ⟨k + 1, h, l, by omega, by omega, by go_num, wh, wl, I2, s0, s1, c0, c1, f0, f1, ⟨x, y, d0, d1⟩, f2, f3, hb⟩
    case measure => simp [intOf]; omega
   ·rw [hf] at ge
    by_cases h64 : k < 64
    ·obtain ⟨w2, b2⟩ := low_set h l wh wl k h64
     have I2 := hI.step hf b2
     clear hf b2
     have t3 : (k : Int) < 64 := by omega
     have qw := wrap_pow k h64
     go_wp2
     go_region
     go_wp2
     go_roundw
     case rel => exact ⟨k + 1, h, _, by omega, by omega, by go_num, wh, w2, I2, by simpa using s0, by simpa using s1, by simp [go_sem, c0], by simp [go_sem, c1], by simp [go_sem, f0], by simp [go_sem, f1], ⟨x, y, by simp [go_sem, d0], by simp [go_sem, d1]⟩, by simp [go_sem, f2], by simp [go_sem, f3], (hb.setCell (by simp) _).drew⟩
     case measure => simp [intOf]; omega
    ·obtain ⟨w2, b2⟩ := high_set h l wh wl k (by omega) hlt2
     have I2 := hI.step hf b2
     clear hf b2
     have t3 : ¬ (k : Int) < 64 := by omega
     have qw := wrap_pow (k - 64) (by omega)
     go_wp2
     go_region
     go_wp2
     go_roundw
     case rel => exact ⟨k + 1, _, l, by omega, by omega, by go_num, w2, wl, I2, by simpa using s0, by simpa using s1, by simp [go_sem, c0], by simp [go_sem, c1], by simp [go_sem, f0], by simp [go_sem, f1], ⟨x, y, by simp [go_sem, d0], by simp [go_sem, d1]⟩, by simp [go_sem, f2], by simp [go_sem, f3], (hb.setCell (by simp) _).drew⟩
     case measure => simp [intOf]; omega
  ·have hm : k = min n 128 := by omega
   have HM : Hid _ := hm
   clear hm
   by_cases hlt : k < n
   ·have t1 : (k : Int) < (n : Int) := by omega
    have t2 : ¬ (k : Int) < 128 := by omega
    go_wp2
    refine bodyPost_ret (v := .agg #[.int .u64 h, .int .u64 l]) (by simp [results, Tryz.results200, go_sem, *]) rfl ?_
    exact ⟨_, _, rfl, wh, wl, by rw [← HM.out]; exact hI, (hb.setCell (by simp) _).setCell (by simp) _⟩
   ·have t1 : ¬ (k : Int) < (n : Int) := by omega
    go_wp2
    refine bodyPost_ret (v := .agg #[.int .u64 h, .int .u64 l]) (by simp [results, Tryz.results200, go_sem, *]) rfl ?_
    exact ⟨_, _, rfl, wh, wl, by rw [← HM.out]; exact hI, (hb.setCell (by simp) _).setCell (by simp) _⟩
end Go.Proofs.YteafnkimcidkhaaGreat
namespace Go.Proofs.YteafnkimcidkhaaGreat
open Go.RowKit
set_option linter.unusedVariables false
set_option linter.unusedSimpArgs false
theorem last_two (s : Bool) {A : Nat} (A0 : A ≠ 0) (e : Int) : ∃ La : Int, lastOf s A e = La ∧ ((e + (blen A : Int) - 1 - (fP s : Int) < fL s ∧ La = fL s) ∨ (¬ e + (blen A : Int) - 1 - (fP s : Int) < fL s ∧ La = e + (blen A : Int) - 1 - (fP s : Int))) := by
 refine ⟨_, rfl, ?_⟩
 unfold lastOf
 omega
def gr (m : Int) (b : Bool) (M I : Int) : Int := if m = 3 ∨ m = 1 ∧ b = true ∨ m = 2 ∧ b = false then M else I
theorem great_ways (m : Int) (b : Bool) (M I : Int) :
  (gr m b M I = M ∧ m = 3) ∨ (gr m b M I = M ∧ (m == 3) = false ∧ m = 1 ∧ b = true) ∨ (gr m b M I = M ∧ (m == 3) = false ∧ (m == 1) = false ∧ m = 2 ∧ b = false) ∨ (gr m b M I = I ∧ (m == 3) = false ∧ m = 1 ∧ b = false) ∨
  (gr m b M I = I ∧ (m == 3) = false ∧ (m == 1) = false ∧ m = 2 ∧ b = true) ∨ (gr m b M I = I ∧ (m == 3) = false ∧ (m == 1) = false ∧ (m == 2) = false) := by
 unfold gr
 by_cases m3 : m = 3
 ·subst m3; simp
 ·by_cases m1 : m = 1
  ·subst m1; cases b <;> simp
  ·by_cases m2 : m = 2
   ·subst m2; cases b <;> simp
   ·simp [m1, m2, m3]
theorem drew_0 (w : World) : ∃ k, w = w.drewN k := ⟨0, rfl⟩
theorem u64r_eq {a b : Int} (h : a = b) : Ending.returned (Value.int IntKind.u64 a) = .returned (.int .u64 b) := by rw [h]
theorem put_d' (b : Bool) (X M : Int) (x0 : 0 ≤ X) (hX : X < 2047) (m0 : 0 ≤ M) (hM : M < 4503599627370496) : bits BinOp.or IntKind.u64 (bits BinOp.or IntKind.u64 (if b then 9223372036854775808 else 0) (X * 4503599627370496)) M = sgnd false b (X * 4503599627370496 + M) := by
 obtain ⟨x, rfl⟩ := Int.eq_ofNat_of_zero_le x0
 obtain ⟨m, rfl⟩ := Int.eq_ofNat_of_zero_le m0
 exact put_d b x m (by omega) (by omega)
theorem ref_up_d (m : Int) (b : Bool) (La X : Int) (hX : X = La + 1 + 1074 + 1) (h : X < 2047) : sgnd false b (refSize false m b La (9007199254740992 : Int).toNat) = sgnd false b (X * 4503599627370496 + 0) := by
 congr 1
 unfold refSize
 have e1 : (2 : Nat) ^ (fP false + 1) = 9007199254740992 := rfl
 have e2 : (2 : Nat) ^ fP false = 4503599627370496 := rfl
 have e3 : (2 : Int) ^ fP false = 4503599627370496 := rfl
 have e4 : (2 : Int) ^ (fE false).toNat - 1 = 2047 := rfl
 have e5 : fL false = -1074 := rfl
 rw [e1, e2, e3, e4, e5]
 rw [if_pos (by decide : (9007199254740992 : Int).toNat = 9007199254740992), if_pos (by decide : (9007199254740992 : Int).toNat = 9007199254740992)]
 rw [if_neg (by decide : ¬ (9007199254740992 : Int).toNat / 2 < 4503599627370496)]
 rw [if_neg (by omega), show (9007199254740992 : Int).toNat / 2 % 4503599627370496 = 0 by decide]
 omega
theorem ref_sub_d (m : Int) (b : Bool) (La y : Int) (y0 : 0 ≤ y) (h : y < 4503599627370496) : sgnd false b (refSize false m b La y.toNat) = sgnd false b (0 * 4503599627370496 + y) := by
 congr 1
 unfold refSize
 have e1 : (2 : Nat) ^ (fP false + 1) = 9007199254740992 := rfl
 have e2 : (2 : Nat) ^ fP false = 4503599627370496 := rfl
 have e3 : (2 : Int) ^ fP false = 4503599627370496 := rfl
 have e4 : (2 : Int) ^ (fE false).toNat - 1 = 2047 := rfl
 have n1 : ¬ y.toNat = 9007199254740992 := by omega
 have n2 : y.toNat < 4503599627370496 := by omega
 rw [e1, e2, e3, e4]
 simp only [if_neg n1, if_pos n2]
 rw [if_neg (by decide), Nat.mod_eq_of_lt n2]
 omega
theorem ref_great_d (m : Int) (b : Bool) (La y : Int) (h : (y = 9007199254740992 ∧ 2047 ≤ La + 1 + 1074 + 1) ∨ (¬ y = 9007199254740992 ∧ 4503599627370496 ≤ y ∧ 2047 ≤ La + 1074 + 1)) :
  sgnd false b (refSize false m b La y.toNat) = sgnd false b (gr m b 9218868437227405311 9218868437227405312) := by
 congr 1
 unfold refSize gr
 have e1 : (2 : Nat) ^ (fP false + 1) = 9007199254740992 := rfl
 have e2 : (2 : Nat) ^ fP false = 4503599627370496 := rfl
 have e3 : (2 : Int) ^ fP false = 4503599627370496 := rfl
 have e4 : (2 : Int) ^ (fE false).toNat - 1 = 2047 := rfl
 have e5 : fL false = -1074 := rfl
 rw [e1, e2, e3, e4, e5]
 rcases h with ⟨h1, h2⟩ | ⟨h1, h2, h3⟩
 ·have n1 : y.toNat = 9007199254740992 := by omega
  have n2 : ¬ y.toNat / 2 < 4503599627370496 := by omega
  simp only [if_pos n1, if_neg n2]
  rw [if_pos (by omega)]
  rfl
 ·have n1 : ¬ y.toNat = 9007199254740992 := by omega
  have n2 : ¬ y.toNat < 4503599627370496 := by omega
  simp only [if_neg n1, if_neg n2]
  rw [if_pos (by omega)]
  rfl
theorem ref_norm_d (m : Int) (b : Bool) (La y X : Int) (hX : X = La + 1074 + 1) (c1 : ¬ y = 9007199254740992) (c2 : ¬ y < 4503599627370496) (y1 : y ≤ 9007199254740992) (h : X < 2047) : sgnd false b (refSize false m b La y.toNat) = sgnd false b (X * 4503599627370496 + (y - 4503599627370496)) := by
 congr 1
 unfold refSize
 have e1 : (2 : Nat) ^ (fP false + 1) = 9007199254740992 := rfl
 have e2 : (2 : Nat) ^ fP false = 4503599627370496 := rfl
 have e3 : (2 : Int) ^ fP false = 4503599627370496 := rfl
 have e4 : (2 : Int) ^ (fE false).toNat - 1 = 2047 := rfl
 have e5 : fL false = -1074 := rfl
 have n1 : ¬ y.toNat = 9007199254740992 := by omega
 have n2 : ¬ y.toNat < 4503599627370496 := by omega
 rw [e1, e2, e3, e4, e5, if_neg n1, if_neg n1, if_neg n2, if_neg (by omega)]
 omega
set_option maxRecDepth 20000 in
set_option maxHeartbeats 4000000 in
theorem rounded_d (m : Int) (below : Bool) (b n cap A : Nat) (hA : A < 2 ^ n) (hn : n ≤ 100000) (e : Int) (he1 : -100000 ≤ e) (he2 : e ≤ 100000) (w : World) (row : RowB w b n (fun i => A.testBit i)) (A0 : A ≠ 0) :
  Calls Tryz.prog 93 #[.int .i64 0, .int .i64 m, .bool below, .slice (some ⟨b, 0, none⟩) n cap, .int .i64 e] w fun r w' => r = .returned (.int .u64 (rnd false m below A e)) ∧ ∃ k, w' = w.drewN k := by
 have hs := rsize_d
 have hl := length_any b n cap A hA (by omega) w row
 obtain ⟨La, hLa, hcase⟩ := last_two false A0 e
 obtain ⟨b1, b2⟩ := blen_le A0
 have b3 := blen_le_of hA
 have b4 := lt_blen A
 obtain ⟨N, hN⟩ : ∃ N : Nat, blen A = N := ⟨_, rfl⟩
 rw [hN] at hl hcase b1 b2 b3 b4
 have HLa : Hid (lastOf false A e = La) := hLa
 have HN : Hid (blen A = N) := hN
 have B1 : Hid _ := b1
 have B4 : Hid _ := b4
 have HA : Hid _ := hA
 have hq : quo A (La - e) < 2 ^ 63 := by
  obtain ⟨x, k1, k2, _⟩ := kept false A0 e (min e (-1074)) (by omega) (by show _ ≤ (-1074 : Int); omega)
  rw [hLa] at k2
  exact Nat.lt_of_lt_of_le k2 (by decide)
 have HQ : Hid _ := hq
 clear hLa hN b1 b4 hA hq
 have p52 : ((fP false : Nat) : Int) = 52 := rfl
 have l74 : fL false = -1074 := rfl
 rw [p52, l74] at hcase
 clear p52 l74
 have hk : -1074 ≤ La ∧ e + (N : Int) - 1 - La ≤ 52 ∧ La ≤ 300000 := by rcases hcase with ⟨a, rfl⟩ | ⟨a, rfl⟩ <;> refine ⟨?_, ?_, ?_⟩ <;> omega
 obtain ⟨hk1, hk2, hk3⟩ := hk
 have N1 : ((N : Int) == 0) = false := by simp; omega
 go_enter Tryz.func93, Tryz.ntmps93
 go_upto_if 44 with (first
   | (go_at_call 126; refine (hs _).mono ?_; rintro r w1 ⟨rfl, hw⟩; rw [hw]; clear hw w1)
   | (go_at_call 128; refine hl.mono ?_; rintro r w1 ⟨rfl, hw⟩; rw [hw]; clear hw w1))
 go_cut [15] from 23 to 46 (fun s wx => s = .int .i64 La ∧ wx = w)
 case first =>
  rcases hcase with ⟨hc, hLa⟩ | ⟨hc, hLa⟩
  ·have HL : Hid _ := hLa
   clear hLa
   go_wp2_with fail
   go_meet
   case rel => exact ⟨by rw [HL.out], rfl⟩
  ·have HL : Hid _ := hLa
   clear hLa
   go_wp2_with fail
   go_meet
   case rel => exact ⟨by rw [HL.out], rfl⟩
 case rest =>
  obtain ⟨rfl, hw⟩ := hcut
  rw [hw]
  clear hw wc hcase hs hl
  go_wp2
  go_loop [16, 17] (fun q i => ∃ j : Nat, j ≤ N ∧ q = .int .u64 ((qTo A (La - e) j : Nat) : Int) ∧ ((j = 0 ∧ i = .int .i64 (-1)) ∨ ∃ i0 : Nat, j = i0 + 1 ∧ i = .int .i64 (i0 : Int))) (fun _ i => (intOf i + 1).toNat)
  case atStart =>
   refine ⟨N, Nat.le_refl _, by rw [qTo_top _ B4.out]; rfl, Or.inr ⟨N - 1, by omega, by go_num⟩⟩
  case round =>
   obtain ⟨j, hj, rfl, hj2⟩ := hrel
   rcases hj2 with ⟨rfl, rfl⟩ | ⟨i0, rfl, rfl⟩
   ·rw [qTo_end]
    obtain ⟨Q, hQ⟩ : ∃ Q : Nat, quo A (La - e) = Q := ⟨_, rfl⟩
    have HQ' : Hid _ := hQ
    rw [hQ]
    clear hQ
    go_wp2
    go_loop [18, 19, 20] (fun h l i => ∃ j : Nat, j ≤ N ∧ i = .int .i64 (j : Int) ∧ h = .bool (half (A % 2 ^ j) (La - e)) ∧ l = .bool (low (A % 2 ^ j) (La - e))) (fun _ _ i => N - (intOf i).toNat)
    case atStart => exact ⟨0, by omega, rfl, by rw [(hl_zero A _).1], by rw [(hl_zero A _).2]⟩
    case round =>
     obtain ⟨j, hj, rfl, rfl, rfl⟩ := hrel
     by_cases hlt : j < N
     ·have cj : w.cell? ⟨b, j, none⟩ = some (.bool (A.testBit j)) := row j (by omega)
      have t1 : (j : Int) < (N : Int) := by omega
      cases tb : A.testBit j
      ·have Z : Hid _ := hl_no (k := La - e) tb
       rw [tb] at cj
       clear tb row
       go_wp2
       go_round
       case rel => exact ⟨j + 1, by omega, by go_num, by rw [Z.out.1], by rw [Z.out.2]⟩
       case measure => simp [intOf]; omega
      ·rcases Int.lt_trichotomy (e + (j : Int)) (La - 1) with hc | hc | hc
       ·have Z : Hid _ := hl_lt (k := La - e) tb (by omega)
        have hne : (e + (j : Int) == La - 1) = false := by simp; omega
        rw [tb] at cj
        clear tb row
        go_wp2
        go_round
        case rel => exact ⟨j + 1, by omega, by go_num, by rw [Z.out.1], by rw [Z.out.2]⟩
        case measure => simp [intOf]; omega
       ·have Z : Hid _ := hl_eq (k := La - e) tb (by omega)
        have hne : (e + (j : Int) == La - 1) = true := by simp; omega
        have hnl : ¬ e + (j : Int) < La - 1 := by omega
        rw [tb] at cj
        clear tb row hc
        go_wp2
        go_round
        case rel => exact ⟨j + 1, by omega, by go_num, by rw [Z.out.1], by rw [Z.out.2]⟩
        case measure => simp [intOf]; omega
       ·have Z : Hid _ := hl_gt (A := A) (i := j) (k := La - e) (by omega)
        have hne : (e + (j : Int) == La - 1) = false := by simp; omega
        have hnl : ¬ e + (j : Int) < La - 1 := by omega
        rw [tb] at cj
        clear tb row
        go_wp2
        go_round
        case rel => exact ⟨j + 1, by omega, by go_num, by rw [Z.out.1], by rw [Z.out.2]⟩
        case measure => simp [intOf]; omega
     ·have : j = N := by omega
      subst this
      rw [Nat.mod_eq_of_lt B4.out]
      obtain ⟨H, hH⟩ : ∃ H : Bool, half A (La - e) = H := ⟨_, rfl⟩
      obtain ⟨L, hL⟩ : ∃ L : Bool, low A (La - e) = L := ⟨_, rfl⟩
      have HH : Hid _ := hH
      have HL : Hid _ := hL
      rw [hH, hL]
      clear hH hL
      go_upto_region 24 with fail
      iterate 8 go_step
      go_cut [21] from 114 to 144 (fun s wx => s = .bool (away m below (Q % 2 == 1) H L) ∧ wx = w)
      case first =>
       by_cases m1 : m = 1
       ·subst m1
        cases below <;> cases H <;> cases L <;> (go_wp2_with fail; go_meet; exact ⟨rfl, rfl⟩)
       ·by_cases m2 : m = 2
        ·subst m2
         cases below <;> cases H <;> cases L <;> (go_wp2_with fail; go_meet; exact ⟨rfl, rfl⟩)
        ·by_cases m3 : m = 3
         ·subst m3
          go_wp2_with fail
          go_meet
          exact ⟨rfl, rfl⟩
         ·have n1 : (m == 1) = false := by simp [m1]
          have n2 : (m == 2) = false := by simp [m2]
          have n3 : (m == 3) = false := by simp [m3]
          have aw : Hid (∀ o, away m below o H L = (H && (L || o))) := fun o => by unfold away; rw [if_neg m1, if_neg m2, if_neg m3]
          cases H
          ·go_wp2_with fail
           go_meet
           exact ⟨by rw [aw.out]; rfl, rfl⟩
          ·cases L
           ·have od : ((Q : Int) % 2 == 1) = (Q % 2 == 1) := by rw [Bool.eq_iff_iff]; simp; omega
            go_wp2_with fail
            go_meet
            exact ⟨by rw [aw.out]; rfl, rfl⟩
           ·go_wp2_with fail
            go_meet
            exact ⟨by rw [aw.out]; rfl, rfl⟩
      case rest =>
       obtain ⟨rfl, hw⟩ := hcut
       rw [hw]
       clear hw wc
       have T := ref_fin false m below La Q H L
       obtain ⟨mo, hmo⟩ : ∃ mo : Bool, away m below (Q % 2 == 1) H L = mo := ⟨_, rfl⟩
       rw [hmo] at T ⊢
       have T2 : Hid (rnd false m below A e = sgnd false below (refSize false m below La (Q + mo.toNat)) ∧ Q < 2 ^ 53 ∧ (La = -1074 ∨ 2 ^ 52 ≤ Q)) := by
        obtain ⟨x, k1, k2, k3, _⟩ := kept false A0 e (min e (-1074)) (by omega) (by show _ ≤ (-1074 : Int); omega)
        have fl : fL false = -1074 := rfl
        have fp : fP false = 52 := rfl
        rw [HLa.out, HQ'.out, fp] at k2 k3
        rw [HLa.out, fl] at k1
        have k4 : La = -1074 ∨ 2 ^ 52 ≤ Q := by rcases k3 with k | k; left; omega; right; exact k
        have T3 := T k2 (by rw [fl, fp]; exact k4) (by rw [fl]; exact hk1)
        refine ⟨?_, k2, k4⟩
        unfold rnd
        rw [if_neg A0]
        unfold mag
        rw [HLa.out, HQ'.out, HH.out, HL.out, ← T3]
        cases mo <;> rfl
       clear T hmo HLa HQ' HH HL HQ B1 B4 HA HN
       iterate 2 go_step
       go_cut [16] from 145 to 147 (fun s wx => s = .int .u64 ((Q + mo.toNat : Nat) : Int) ∧ wx = w)
       case first =>
        have q53 := T2.out.2.1
        clear T2
        cases mo
        ·go_wp2_with fail
         go_meet
         exact ⟨rfl, rfl⟩
        ·go_wp2_with fail
         go_meet
         exact ⟨by go_num, rfl⟩
       case rest =>
        obtain ⟨rfl, hw⟩ := hcut
        rw [hw]
        clear hw wc
        obtain ⟨y, hy⟩ : ∃ y : Int, ((Q + mo.toNat : Nat) : Int) = y := ⟨_, rfl⟩
        have y53 : 0 ≤ y ∧ y ≤ 9007199254740992 := by have := T2.out.2.1; have := Bool.toNat_le mo; omega
        have T : Hid (rnd false m below A e = sgnd false below (refSize false m below La y.toNat)) := by rw [T2.out.1, ← hy]; rfl
        rw [hy]
        clear T2 hy
        obtain ⟨y0, y1⟩ := y53
        have hg : ∀ w, Calls Tryz.prog 96 #[.int .i64 0, .bool below] w fun e w' => e = .returned (.int .u64 (if below then 9223372036854775808 else 0)) ∧ w' = w := rsign_any false below
        by_cases c1 : y = 9007199254740992
        ·subst c1
         obtain ⟨X, hX⟩ : ∃ X : Int, La + 1 + 1074 + 1 = X := ⟨_, rfl⟩
         have x1 : 0 ≤ X := by omega
         by_cases c3 : X < 2047
         ·have TT : Hid _ := T.out.trans (ref_up_d m below La X hX.symm c3)
          have wx : IntKind.u64.wrap (X * 4503599627370496) = X * 4503599627370496 := by rw [IntKind.wrap_u64]; omega
          have pu := put_d' below X 0 x1 c3 (by decide) (by decide)
          obtain ⟨S, hS⟩ : ∃ S : Int, (if below then (9223372036854775808 : Int) else 0) = S := ⟨_, rfl⟩
          rw [hS] at hg pu
          have PU : Hid _ := pu
          clear hS pu T
          go_wp2_with fail
          go_quiet ((go_at_call 96; exact Calls.quiet_of_same (hg _)))
          go_wp2_with fail
          go_ret
          exact ⟨u64r_eq (by rw [TT.out, ← PU.out]; rfl), _, rfl⟩
         ·have nx : ¬ X < 2047 := c3
          have hmo := rmost_d
          have hin : ∀ w, Calls Tryz.prog 116 #[.int .i64 0, .bool below] w fun e w' => e = .returned (.int .u64 (sgnd false below 9218868437227405312)) ∧ ∃ n, w' = w.drewN n := rinf_any false below
          have om : bits BinOp.or IntKind.u64 (if below then 9223372036854775808 else 0) 9218868437227405311 = sgnd false below 9218868437227405311 := or_sign false below 9218868437227405311 (by decide)
          have GH : Hid _ := T.out.trans (ref_great_d m below La _ (Or.inl ⟨rfl, by omega⟩))
          clear T
          obtain ⟨S, hS⟩ : ∃ S : Int, (if below then (9223372036854775808 : Int) else 0) = S := ⟨_, rfl⟩
          rw [hS] at hg om
          have OM : Hid _ := om
          clear hS om
          obtain ⟨VI, hVI⟩ : ∃ V : Int, sgnd false below 9218868437227405312 = V := ⟨_, rfl⟩
          rw [hVI] at hin
          have HVI : Hid _ := hVI
          clear hVI
          rcases great_ways m below 9218868437227405311 9218868437227405312 with ⟨g, rfl⟩ | ⟨g, _, rfl, rfl⟩ | ⟨g, _, _, rfl, rfl⟩ | ⟨g, _, rfl, rfl⟩ | ⟨g, _, _, rfl, rfl⟩ | ⟨g, m3, m1, m2⟩
          all_goals
           have GV : Hid _ := GH.out
           rw [g] at GV
           have G2 : Hid _ := GV
           clear GV GH g
           go_wp2_with (first
            | (go_at_call 96; refine (hg _).mono ?_; rintro r w1 ⟨rfl, hw⟩; rw [hw]; clear hw w1)
            | (go_at_call 129; refine (hmo _).mono ?_; rintro r w1 ⟨rfl, hw⟩; rw [hw]; clear hw w1)
            | (go_at_call 116; refine (hin _).mono ?_; rintro r w1 ⟨rfl, nn, hw⟩; rw [hw]; clear hw w1))
           go_ret
          ·exact ⟨u64r_eq (by rw [G2.out]; exact OM.out), drew_0 w⟩
          ·exact ⟨u64r_eq (by rw [G2.out]; exact OM.out), drew_0 w⟩
          ·exact ⟨u64r_eq (by rw [G2.out]; exact OM.out), drew_0 w⟩
          ·exact ⟨u64r_eq (by rw [G2.out]; exact HVI.out.symm), nn, rfl⟩
          ·exact ⟨u64r_eq (by rw [G2.out]; exact HVI.out.symm), nn, rfl⟩
          ·exact ⟨u64r_eq (by rw [G2.out]; exact HVI.out.symm), nn, rfl⟩
        ·have c1' : (y == 9007199254740992) = false := by simp; omega
         obtain ⟨X, hX⟩ : ∃ X : Int, La + 1074 + 1 = X := ⟨_, rfl⟩
         have x1 : 0 ≤ X := by omega
         by_cases c2 : y < 4503599627370496
         ·have pu := put_d' below 0 y (by omega) (by decide) y0 c2
          have aw : bits BinOp.and IntKind.u64 y 4503599627370495 = y := by
           rw [and_bits y.toNat 52 4503599627370495 rfl (by decide) y (by omega) (by omega)]
           show y % 4503599627370496 = _
           omega
          have TT : Hid _ := T.out.trans (ref_sub_d m below La y y0 c2)
          obtain ⟨S, hS⟩ : ∃ S : Int, (if below then (9223372036854775808 : Int) else 0) = S := ⟨_, rfl⟩
          rw [hS] at hg pu
          have PU : Hid _ := pu
          clear hS pu T
          go_wp2_with fail
          go_quiet ((go_at_call 96; exact Calls.quiet_of_same (hg _)))
          go_wp2_with fail
          go_ret
          exact ⟨u64r_eq (by rw [TT.out, ← PU.out]; rfl), _, rfl⟩
         ·by_cases c3 : X < 2047
          ·have TT : Hid _ := T.out.trans (ref_norm_d m below La y X hX.symm c1 c2 y1 c3)
           have wx : IntKind.u64.wrap (X * 4503599627370496) = X * 4503599627370496 := by rw [IntKind.wrap_u64]; omega
           have pu := put_d' below X (y - 4503599627370496) x1 c3 (by omega) (by omega)
           have aw : bits BinOp.and IntKind.u64 y 4503599627370495 = y - 4503599627370496 := by
            rw [and_bits y.toNat 52 4503599627370495 rfl (by decide) y (by omega) (by omega)]
            show y % 4503599627370496 = _
            omega
           obtain ⟨S, hS⟩ : ∃ S : Int, (if below then (9223372036854775808 : Int) else 0) = S := ⟨_, rfl⟩
           rw [hS] at hg pu
           have PU : Hid _ := pu
           clear hS pu T
           go_wp2_with fail
           go_quiet ((go_at_call 96; exact Calls.quiet_of_same (hg _)))
           go_wp2_with fail
           go_ret
           exact ⟨u64r_eq (by rw [TT.out, ← PU.out]), _, rfl⟩
          ·have nx : ¬ X < 2047 := c3
           have hmo := rmost_d
           have hin : ∀ w, Calls Tryz.prog 116 #[.int .i64 0, .bool below] w fun e w' => e = .returned (.int .u64 (sgnd false below 9218868437227405312)) ∧ ∃ n, w' = w.drewN n := rinf_any false below
           have om : bits BinOp.or IntKind.u64 (if below then 9223372036854775808 else 0) 9218868437227405311 = sgnd false below 9218868437227405311 := or_sign false below 9218868437227405311 (by decide)
           have GH : Hid _ := T.out.trans (ref_great_d m below La _ (Or.inr ⟨c1, by omega, by omega⟩))
           clear T
           obtain ⟨S, hS⟩ : ∃ S : Int, (if below then (9223372036854775808 : Int) else 0) = S := ⟨_, rfl⟩
           rw [hS] at hg om
           have OM : Hid _ := om
           clear hS om
           obtain ⟨VI, hVI⟩ : ∃ V : Int, sgnd false below 9218868437227405312 = V := ⟨_, rfl⟩
           rw [hVI] at hin
           have HVI : Hid _ := hVI
           clear hVI
           rcases great_ways m below 9218868437227405311 9218868437227405312 with ⟨g, rfl⟩ | ⟨g, _, rfl, rfl⟩ | ⟨g, _, _, rfl, rfl⟩ | ⟨g, _, rfl, rfl⟩ | ⟨g, _, _, rfl, rfl⟩ | ⟨g, m3, m1, m2⟩
           all_goals
            have GV : Hid _ := GH.out
            rw [g] at GV
            have G2 : Hid _ := GV
            clear GV GH g
            go_wp2_with (first
             | (go_at_call 96; refine (hg _).mono ?_; rintro r w1 ⟨rfl, hw⟩; rw [hw]; clear hw w1)
             | (go_at_call 129; refine (hmo _).mono ?_; rintro r w1 ⟨rfl, hw⟩; rw [hw]; clear hw w1)
             | (go_at_call 116; refine (hin _).mono ?_; rintro r w1 ⟨rfl, nn, hw⟩; rw [hw]; clear hw w1))
            go_ret
           ·exact ⟨u64r_eq (by rw [G2.out]; exact OM.out), drew_0 w⟩
           ·exact ⟨u64r_eq (by rw [G2.out]; exact OM.out), drew_0 w⟩
           ·exact ⟨u64r_eq (by rw [G2.out]; exact OM.out), drew_0 w⟩
           ·exact ⟨u64r_eq (by rw [G2.out]; exact HVI.out.symm), nn, rfl⟩
           ·exact ⟨u64r_eq (by rw [G2.out]; exact HVI.out.symm), nn, rfl⟩
           ·exact ⟨u64r_eq (by rw [G2.out]; exact HVI.out.symm), nn, rfl⟩
   ·have hi0 : (i0 : Int) + 1 ≤ N := by omega
    have cj : w.cell? ⟨b, i0, none⟩ = some (.bool (A.testBit i0)) := row i0 (by omega)
    have t1 : (0 : Int) ≤ (i0 : Int) := by omega
    by_cases hge : La ≤ e + (i0 : Int)
    ·obtain ⟨t, ht⟩ : ∃ t : Nat, e + (i0 : Int) - La = (t : Int) := ⟨(e + (i0 : Int) - La).toNat, by omega⟩
     have t64 : t < 64 := by omega
     have qw := wrap_pow t t64
     cases tb : A.testBit i0
     ·have Z := q_no (A := A) (i := i0) (k := La - e) (t := t) (by omega) t64 HQ.out tb
      rw [tb] at cj
      clear tb row
      go_wp2
      go_round
      case rel => exact ⟨i0, by omega, rfl, by rcases i0 with _ | i1; exact Or.inl ⟨rfl, by go_num⟩; exact Or.inr ⟨i1, rfl, by go_num⟩⟩
      case measure => simp [intOf]
     ·have Z := q_yes (A := A) (i := i0) (k := La - e) (t := t) (by omega) t64 HQ.out tb
      rw [tb] at cj
      clear tb row
      go_wp2
      go_round
      case rel => exact ⟨i0, by omega, rfl, by rcases i0 with _ | i1; exact Or.inl ⟨rfl, by go_num⟩; exact Or.inr ⟨i1, rfl, by go_num⟩⟩
      case measure => simp [intOf]
    ·have Z : Hid _ := qTo_no A (La - e) i0 (by omega)
     have hge' : e + (i0 : Int) < La := by omega
     cases tb : A.testBit i0
     ·rw [tb] at cj
      clear tb row
      go_wp2
      go_round
      case rel => exact ⟨i0, by omega, by rw [Z.out], by rcases i0 with _ | i1; exact Or.inl ⟨rfl, by go_num⟩; exact Or.inr ⟨i1, rfl, by go_num⟩⟩
      case measure => simp [intOf]
     ·rw [tb] at cj
      clear tb row
      go_wp2
      go_round
      case rel => exact ⟨i0, by omega, by rw [Z.out], by rcases i0 with _ | i1; exact Or.inl ⟨rfl, by go_num⟩; exact Or.inr ⟨i1, rfl, by go_num⟩⟩
      case measure => simp [intOf]
end Go.Proofs.YteafnkimcidkhaaGreat
namespace Go.Proofs.YteafnkimcidkhaaGreat
open Go.RowKit
set_option linter.unusedVariables false
set_option linter.unusedSimpArgs false
theorem put_s' (b : Bool) (X M : Int) (x0 : 0 ≤ X) (hX : X < 255) (m0 : 0 ≤ M) (hM : M < 8388608) : bits BinOp.or IntKind.u64 (bits BinOp.or IntKind.u64 (if b then 2147483648 else 0) (X * 8388608)) M = sgnd true b (X * 8388608 + M) := by
 obtain ⟨x, rfl⟩ := Int.eq_ofNat_of_zero_le x0
 obtain ⟨m, rfl⟩ := Int.eq_ofNat_of_zero_le m0
 exact put_s b x m (by omega) (by omega)
theorem ref_up_s (m : Int) (b : Bool) (La X : Int) (hX : X = La + 1 + 149 + 1) (h : X < 255) : sgnd true b (refSize true m b La (16777216 : Int).toNat) = sgnd true b (X * 8388608 + 0) := by
 congr 1
 unfold refSize
 have e1 : (2 : Nat) ^ (fP true + 1) = 16777216 := rfl
 have e2 : (2 : Nat) ^ fP true = 8388608 := rfl
 have e3 : (2 : Int) ^ fP true = 8388608 := rfl
 have e4 : (2 : Int) ^ (fE true).toNat - 1 = 255 := rfl
 have e5 : fL true = -149 := rfl
 rw [e1, e2, e3, e4, e5]
 rw [if_pos (by decide : (16777216 : Int).toNat = 16777216), if_pos (by decide : (16777216 : Int).toNat = 16777216)]
 rw [if_neg (by decide : ¬ (16777216 : Int).toNat / 2 < 8388608)]
 rw [if_neg (by omega), show (16777216 : Int).toNat / 2 % 8388608 = 0 by decide]
 omega
theorem ref_sub_s (m : Int) (b : Bool) (La y : Int) (y0 : 0 ≤ y) (h : y < 8388608) : sgnd true b (refSize true m b La y.toNat) = sgnd true b (0 * 8388608 + y) := by
 congr 1
 unfold refSize
 have e1 : (2 : Nat) ^ (fP true + 1) = 16777216 := rfl
 have e2 : (2 : Nat) ^ fP true = 8388608 := rfl
 have e3 : (2 : Int) ^ fP true = 8388608 := rfl
 have e4 : (2 : Int) ^ (fE true).toNat - 1 = 255 := rfl
 have n1 : ¬ y.toNat = 16777216 := by omega
 have n2 : y.toNat < 8388608 := by omega
 rw [e1, e2, e3, e4]
 simp only [if_neg n1, if_pos n2]
 rw [if_neg (by decide), Nat.mod_eq_of_lt n2]
 omega
theorem ref_great_s (m : Int) (b : Bool) (La y : Int) (h : (y = 16777216 ∧ 255 ≤ La + 1 + 149 + 1) ∨ (¬ y = 16777216 ∧ 8388608 ≤ y ∧ 255 ≤ La + 149 + 1)) :
  sgnd true b (refSize true m b La y.toNat) = sgnd true b (gr m b 2139095039 2139095040) := by
 congr 1
 unfold refSize gr
 have e1 : (2 : Nat) ^ (fP true + 1) = 16777216 := rfl
 have e2 : (2 : Nat) ^ fP true = 8388608 := rfl
 have e3 : (2 : Int) ^ fP true = 8388608 := rfl
 have e4 : (2 : Int) ^ (fE true).toNat - 1 = 255 := rfl
 have e5 : fL true = -149 := rfl
 rw [e1, e2, e3, e4, e5]
 rcases h with ⟨h1, h2⟩ | ⟨h1, h2, h3⟩
 ·have n1 : y.toNat = 16777216 := by omega
  have n2 : ¬ y.toNat / 2 < 8388608 := by omega
  simp only [if_pos n1, if_neg n2]
  rw [if_pos (by omega)]
  rfl
 ·have n1 : ¬ y.toNat = 16777216 := by omega
  have n2 : ¬ y.toNat < 8388608 := by omega
  simp only [if_neg n1, if_neg n2]
  rw [if_pos (by omega)]
  rfl
theorem ref_norm_s (m : Int) (b : Bool) (La y X : Int) (hX : X = La + 149 + 1) (c1 : ¬ y = 16777216) (c2 : ¬ y < 8388608) (y1 : y ≤ 16777216) (h : X < 255) : sgnd true b (refSize true m b La y.toNat) = sgnd true b (X * 8388608 + (y - 8388608)) := by
 congr 1
 unfold refSize
 have e1 : (2 : Nat) ^ (fP true + 1) = 16777216 := rfl
 have e2 : (2 : Nat) ^ fP true = 8388608 := rfl
 have e3 : (2 : Int) ^ fP true = 8388608 := rfl
 have e4 : (2 : Int) ^ (fE true).toNat - 1 = 255 := rfl
 have e5 : fL true = -149 := rfl
 have n1 : ¬ y.toNat = 16777216 := by omega
 have n2 : ¬ y.toNat < 8388608 := by omega
 rw [e1, e2, e3, e4, e5, if_neg n1, if_neg n1, if_neg n2, if_neg (by omega)]
 omega
set_option maxRecDepth 20000 in
set_option maxHeartbeats 4000000 in
theorem rounded_s (m : Int) (below : Bool) (b n cap A : Nat) (hA : A < 2 ^ n) (hn : n ≤ 100000) (e : Int) (he1 : -100000 ≤ e) (he2 : e ≤ 100000) (w : World) (row : RowB w b n (fun i => A.testBit i)) (A0 : A ≠ 0) :
  Calls Tryz.prog 93 #[.int .i64 1, .int .i64 m, .bool below, .slice (some ⟨b, 0, none⟩) n cap, .int .i64 e] w fun r w' => r = .returned (.int .u64 (rnd true m below A e)) ∧ ∃ k, w' = w.drewN k := by
 have hs := rsize_s
 have hl := length_any b n cap A hA (by omega) w row
 obtain ⟨La, hLa, hcase⟩ := last_two true A0 e
 obtain ⟨b1, b2⟩ := blen_le A0
 have b3 := blen_le_of hA
 have b4 := lt_blen A
 obtain ⟨N, hN⟩ : ∃ N : Nat, blen A = N := ⟨_, rfl⟩
 rw [hN] at hl hcase b1 b2 b3 b4
 have HLa : Hid (lastOf true A e = La) := hLa
 have HN : Hid (blen A = N) := hN
 have B1 : Hid _ := b1
 have B4 : Hid _ := b4
 have HA : Hid _ := hA
 have hq : quo A (La - e) < 2 ^ 63 := by
  obtain ⟨x, k1, k2, _⟩ := kept true A0 e (min e (-149)) (by omega) (by show _ ≤ (-149 : Int); omega)
  rw [hLa] at k2
  exact Nat.lt_of_lt_of_le k2 (by decide)
 have HQ : Hid _ := hq
 clear hLa hN b1 b4 hA hq
 have p52 : ((fP true : Nat) : Int) = 23 := rfl
 have l74 : fL true = -149 := rfl
 rw [p52, l74] at hcase
 clear p52 l74
 have hk : -149 ≤ La ∧ e + (N : Int) - 1 - La ≤ 23 ∧ La ≤ 300000 := by rcases hcase with ⟨a, rfl⟩ | ⟨a, rfl⟩ <;> refine ⟨?_, ?_, ?_⟩ <;> omega
 obtain ⟨hk1, hk2, hk3⟩ := hk
 have N1 : ((N : Int) == 0) = false := by simp; omega
 go_enter Tryz.func93, Tryz.ntmps93
 go_upto_if 44 with (first
   | (go_at_call 126; refine (hs _).mono ?_; rintro r w1 ⟨rfl, hw⟩; rw [hw]; clear hw w1)
   | (go_at_call 128; refine hl.mono ?_; rintro r w1 ⟨rfl, hw⟩; rw [hw]; clear hw w1))
 go_cut [15] from 23 to 46 (fun s wx => s = .int .i64 La ∧ wx = w)
 case first =>
  rcases hcase with ⟨hc, hLa⟩ | ⟨hc, hLa⟩
  ·have HL : Hid _ := hLa
   clear hLa
   go_wp2_with fail
   go_meet
   case rel => exact ⟨by rw [HL.out], rfl⟩
  ·have HL : Hid _ := hLa
   clear hLa
   go_wp2_with fail
   go_meet
   case rel => exact ⟨by rw [HL.out], rfl⟩
 case rest =>
  obtain ⟨rfl, hw⟩ := hcut
  rw [hw]
  clear hw wc hcase hs hl
  go_wp2
  go_loop [16, 17] (fun q i => ∃ j : Nat, j ≤ N ∧ q = .int .u64 ((qTo A (La - e) j : Nat) : Int) ∧ ((j = 0 ∧ i = .int .i64 (-1)) ∨ ∃ i0 : Nat, j = i0 + 1 ∧ i = .int .i64 (i0 : Int))) (fun _ i => (intOf i + 1).toNat)
  case atStart =>
   refine ⟨N, Nat.le_refl _, by rw [qTo_top _ B4.out]; rfl, Or.inr ⟨N - 1, by omega, by go_num⟩⟩
  case round =>
   obtain ⟨j, hj, rfl, hj2⟩ := hrel
   rcases hj2 with ⟨rfl, rfl⟩ | ⟨i0, rfl, rfl⟩
   ·rw [qTo_end]
    obtain ⟨Q, hQ⟩ : ∃ Q : Nat, quo A (La - e) = Q := ⟨_, rfl⟩
    have HQ' : Hid _ := hQ
    rw [hQ]
    clear hQ
    go_wp2
    go_loop [18, 19, 20] (fun h l i => ∃ j : Nat, j ≤ N ∧ i = .int .i64 (j : Int) ∧ h = .bool (half (A % 2 ^ j) (La - e)) ∧ l = .bool (low (A % 2 ^ j) (La - e))) (fun _ _ i => N - (intOf i).toNat)
    case atStart => exact ⟨0, by omega, rfl, by rw [(hl_zero A _).1], by rw [(hl_zero A _).2]⟩
    case round =>
     obtain ⟨j, hj, rfl, rfl, rfl⟩ := hrel
     by_cases hlt : j < N
     ·have cj : w.cell? ⟨b, j, none⟩ = some (.bool (A.testBit j)) := row j (by omega)
      have t1 : (j : Int) < (N : Int) := by omega
      cases tb : A.testBit j
      ·have Z : Hid _ := hl_no (k := La - e) tb
       rw [tb] at cj
       clear tb row
       go_wp2
       go_round
       case rel => exact ⟨j + 1, by omega, by go_num, by rw [Z.out.1], by rw [Z.out.2]⟩
       case measure => simp [intOf]; omega
      ·rcases Int.lt_trichotomy (e + (j : Int)) (La - 1) with hc | hc | hc
       ·have Z : Hid _ := hl_lt (k := La - e) tb (by omega)
        have hne : (e + (j : Int) == La - 1) = false := by simp; omega
        rw [tb] at cj
        clear tb row
        go_wp2
        go_round
        case rel => exact ⟨j + 1, by omega, by go_num, by rw [Z.out.1], by rw [Z.out.2]⟩
        case measure => simp [intOf]; omega
       ·have Z : Hid _ := hl_eq (k := La - e) tb (by omega)
        have hne : (e + (j : Int) == La - 1) = true := by simp; omega
        have hnl : ¬ e + (j : Int) < La - 1 := by omega
        rw [tb] at cj
        clear tb row hc
        go_wp2
        go_round
        case rel => exact ⟨j + 1, by omega, by go_num, by rw [Z.out.1], by rw [Z.out.2]⟩
        case measure => simp [intOf]; omega
       ·have Z : Hid _ := hl_gt (A := A) (i := j) (k := La - e) (by omega)
        have hne : (e + (j : Int) == La - 1) = false := by simp; omega
        have hnl : ¬ e + (j : Int) < La - 1 := by omega
        rw [tb] at cj
        clear tb row
        go_wp2
        go_round
        case rel => exact ⟨j + 1, by omega, by go_num, by rw [Z.out.1], by rw [Z.out.2]⟩
        case measure => simp [intOf]; omega
     ·have : j = N := by omega
      subst this
      rw [Nat.mod_eq_of_lt B4.out]
      obtain ⟨H, hH⟩ : ∃ H : Bool, half A (La - e) = H := ⟨_, rfl⟩
      obtain ⟨L, hL⟩ : ∃ L : Bool, low A (La - e) = L := ⟨_, rfl⟩
      have HH : Hid _ := hH
      have HL : Hid _ := hL
      rw [hH, hL]
      clear hH hL
      go_upto_region 24 with fail
      iterate 8 go_step
      go_cut [21] from 114 to 144 (fun s wx => s = .bool (away m below (Q % 2 == 1) H L) ∧ wx = w)
      case first =>
       by_cases m1 : m = 1
       ·subst m1
        cases below <;> cases H <;> cases L <;> (go_wp2_with fail; go_meet; exact ⟨rfl, rfl⟩)
       ·by_cases m2 : m = 2
        ·subst m2
         cases below <;> cases H <;> cases L <;> (go_wp2_with fail; go_meet; exact ⟨rfl, rfl⟩)
        ·by_cases m3 : m = 3
         ·subst m3
          go_wp2_with fail
          go_meet
          exact ⟨rfl, rfl⟩
         ·have n1 : (m == 1) = false := by simp [m1]
          have n2 : (m == 2) = false := by simp [m2]
          have n3 : (m == 3) = false := by simp [m3]
          have aw : Hid (∀ o, away m below o H L = (H && (L || o))) := fun o => by unfold away; rw [if_neg m1, if_neg m2, if_neg m3]
          cases H
          ·go_wp2_with fail
           go_meet
           exact ⟨by rw [aw.out]; rfl, rfl⟩
          ·cases L
           ·have od : ((Q : Int) % 2 == 1) = (Q % 2 == 1) := by rw [Bool.eq_iff_iff]; simp; omega
            go_wp2_with fail
            go_meet
            exact ⟨by rw [aw.out]; rfl, rfl⟩
           ·go_wp2_with fail
            go_meet
            exact ⟨by rw [aw.out]; rfl, rfl⟩
      case rest =>
       obtain ⟨rfl, hw⟩ := hcut
       rw [hw]
       clear hw wc
       have T := ref_fin true m below La Q H L
       obtain ⟨mo, hmo⟩ : ∃ mo : Bool, away m below (Q % 2 == 1) H L = mo := ⟨_, rfl⟩
       rw [hmo] at T ⊢
       have T2 : Hid (rnd true m below A e = sgnd true below (refSize true m below La (Q + mo.toNat)) ∧ Q < 2 ^ 24 ∧ (La = -149 ∨ 2 ^ 23 ≤ Q)) := by
        obtain ⟨x, k1, k2, k3, _⟩ := kept true A0 e (min e (-149)) (by omega) (by show _ ≤ (-149 : Int); omega)
        have fl : fL true = -149 := rfl
        have fp : fP true = 23 := rfl
        rw [HLa.out, HQ'.out, fp] at k2 k3
        rw [HLa.out, fl] at k1
        have k4 : La = -149 ∨ 2 ^ 23 ≤ Q := by rcases k3 with k | k; left; omega; right; exact k
        have T3 := T k2 (by rw [fl, fp]; exact k4) (by rw [fl]; exact hk1)
        refine ⟨?_, k2, k4⟩
        unfold rnd
        rw [if_neg A0]
        unfold mag
        rw [HLa.out, HQ'.out, HH.out, HL.out, ← T3]
        cases mo <;> rfl
       clear T hmo HLa HQ' HH HL HQ B1 B4 HA HN
       iterate 2 go_step
       go_cut [16] from 145 to 147 (fun s wx => s = .int .u64 ((Q + mo.toNat : Nat) : Int) ∧ wx = w)
       case first =>
        have q53 := T2.out.2.1
        clear T2
        cases mo
        ·go_wp2_with fail
         go_meet
         exact ⟨rfl, rfl⟩
        ·go_wp2_with fail
         go_meet
         exact ⟨by go_num, rfl⟩
       case rest =>
        obtain ⟨rfl, hw⟩ := hcut
        rw [hw]
        clear hw wc
        obtain ⟨y, hy⟩ : ∃ y : Int, ((Q + mo.toNat : Nat) : Int) = y := ⟨_, rfl⟩
        have y53 : 0 ≤ y ∧ y ≤ 16777216 := by have := T2.out.2.1; have := Bool.toNat_le mo; omega
        have T : Hid (rnd true m below A e = sgnd true below (refSize true m below La y.toNat)) := by rw [T2.out.1, ← hy]; rfl
        rw [hy]
        clear T2 hy
        obtain ⟨y0, y1⟩ := y53
        have hg : ∀ w, Calls Tryz.prog 96 #[.int .i64 1, .bool below] w fun e w' => e = .returned (.int .u64 (if below then 2147483648 else 0)) ∧ w' = w := rsign_any true below
        by_cases c1 : y = 16777216
        ·subst c1
         obtain ⟨X, hX⟩ : ∃ X : Int, La + 1 + 149 + 1 = X := ⟨_, rfl⟩
         have x1 : 0 ≤ X := by omega
         by_cases c3 : X < 255
         ·have TT : Hid _ := T.out.trans (ref_up_s m below La X hX.symm c3)
          have wx : IntKind.u64.wrap (X * 8388608) = X * 8388608 := by rw [IntKind.wrap_u64]; omega
          have pu := put_s' below X 0 x1 c3 (by decide) (by decide)
          obtain ⟨S, hS⟩ : ∃ S : Int, (if below then (2147483648 : Int) else 0) = S := ⟨_, rfl⟩
          rw [hS] at hg pu
          have PU : Hid _ := pu
          clear hS pu T
          go_wp2_with fail
          go_quiet ((go_at_call 96; exact Calls.quiet_of_same (hg _)))
          go_wp2_with fail
          go_ret
          exact ⟨u64r_eq (by rw [TT.out, ← PU.out]; rfl), _, rfl⟩
         ·have nx : ¬ X < 255 := c3
          have hmo := rmost_s
          have hin : ∀ w, Calls Tryz.prog 116 #[.int .i64 1, .bool below] w fun e w' => e = .returned (.int .u64 (sgnd true below 2139095040)) ∧ ∃ n, w' = w.drewN n := rinf_any true below
          have om : bits BinOp.or IntKind.u64 (if below then 2147483648 else 0) 2139095039 = sgnd true below 2139095039 := or_sign true below 2139095039 (by decide)
          have GH : Hid _ := T.out.trans (ref_great_s m below La _ (Or.inl ⟨rfl, by omega⟩))
          clear T
          obtain ⟨S, hS⟩ : ∃ S : Int, (if below then (2147483648 : Int) else 0) = S := ⟨_, rfl⟩
          rw [hS] at hg om
          have OM : Hid _ := om
          clear hS om
          obtain ⟨VI, hVI⟩ : ∃ V : Int, sgnd true below 2139095040 = V := ⟨_, rfl⟩
          rw [hVI] at hin
          have HVI : Hid _ := hVI
          clear hVI
          rcases great_ways m below 2139095039 2139095040 with ⟨g, rfl⟩ | ⟨g, _, rfl, rfl⟩ | ⟨g, _, _, rfl, rfl⟩ | ⟨g, _, rfl, rfl⟩ | ⟨g, _, _, rfl, rfl⟩ | ⟨g, m3, m1, m2⟩
          all_goals
           have GV : Hid _ := GH.out
           rw [g] at GV
           have G2 : Hid _ := GV
           clear GV GH g
           go_wp2_with (first
            | (go_at_call 96; refine (hg _).mono ?_; rintro r w1 ⟨rfl, hw⟩; rw [hw]; clear hw w1)
            | (go_at_call 129; refine (hmo _).mono ?_; rintro r w1 ⟨rfl, hw⟩; rw [hw]; clear hw w1)
            | (go_at_call 116; refine (hin _).mono ?_; rintro r w1 ⟨rfl, nn, hw⟩; rw [hw]; clear hw w1))
           go_ret
          ·exact ⟨u64r_eq (by rw [G2.out]; exact OM.out), drew_0 w⟩
          ·exact ⟨u64r_eq (by rw [G2.out]; exact OM.out), drew_0 w⟩
          ·exact ⟨u64r_eq (by rw [G2.out]; exact OM.out), drew_0 w⟩
          ·exact ⟨u64r_eq (by rw [G2.out]; exact HVI.out.symm), nn, rfl⟩
          ·exact ⟨u64r_eq (by rw [G2.out]; exact HVI.out.symm), nn, rfl⟩
          ·exact ⟨u64r_eq (by rw [G2.out]; exact HVI.out.symm), nn, rfl⟩
        ·have c1' : (y == 16777216) = false := by simp; omega
         obtain ⟨X, hX⟩ : ∃ X : Int, La + 149 + 1 = X := ⟨_, rfl⟩
         have x1 : 0 ≤ X := by omega
         by_cases c2 : y < 8388608
         ·have pu := put_s' below 0 y (by omega) (by decide) y0 c2
          have aw : bits BinOp.and IntKind.u64 y 8388607 = y := by
           rw [and_bits y.toNat 23 8388607 rfl (by decide) y (by omega) (by omega)]
           show y % 8388608 = _
           omega
          have TT : Hid _ := T.out.trans (ref_sub_s m below La y y0 c2)
          obtain ⟨S, hS⟩ : ∃ S : Int, (if below then (2147483648 : Int) else 0) = S := ⟨_, rfl⟩
          rw [hS] at hg pu
          have PU : Hid _ := pu
          clear hS pu T
          go_wp2_with fail
          go_quiet ((go_at_call 96; exact Calls.quiet_of_same (hg _)))
          go_wp2_with fail
          go_ret
          exact ⟨u64r_eq (by rw [TT.out, ← PU.out]; rfl), _, rfl⟩
         ·by_cases c3 : X < 255
          ·have TT : Hid _ := T.out.trans (ref_norm_s m below La y X hX.symm c1 c2 y1 c3)
           have wx : IntKind.u64.wrap (X * 8388608) = X * 8388608 := by rw [IntKind.wrap_u64]; omega
           have pu := put_s' below X (y - 8388608) x1 c3 (by omega) (by omega)
           have aw : bits BinOp.and IntKind.u64 y 8388607 = y - 8388608 := by
            rw [and_bits y.toNat 23 8388607 rfl (by decide) y (by omega) (by omega)]
            show y % 8388608 = _
            omega
           obtain ⟨S, hS⟩ : ∃ S : Int, (if below then (2147483648 : Int) else 0) = S := ⟨_, rfl⟩
           rw [hS] at hg pu
           have PU : Hid _ := pu
           clear hS pu T
           go_wp2_with fail
           go_quiet ((go_at_call 96; exact Calls.quiet_of_same (hg _)))
           go_wp2_with fail
           go_ret
           exact ⟨u64r_eq (by rw [TT.out, ← PU.out]), _, rfl⟩
          ·have nx : ¬ X < 255 := c3
           have hmo := rmost_s
           have hin : ∀ w, Calls Tryz.prog 116 #[.int .i64 1, .bool below] w fun e w' => e = .returned (.int .u64 (sgnd true below 2139095040)) ∧ ∃ n, w' = w.drewN n := rinf_any true below
           have om : bits BinOp.or IntKind.u64 (if below then 2147483648 else 0) 2139095039 = sgnd true below 2139095039 := or_sign true below 2139095039 (by decide)
           have GH : Hid _ := T.out.trans (ref_great_s m below La _ (Or.inr ⟨c1, by omega, by omega⟩))
           clear T
           obtain ⟨S, hS⟩ : ∃ S : Int, (if below then (2147483648 : Int) else 0) = S := ⟨_, rfl⟩
           rw [hS] at hg om
           have OM : Hid _ := om
           clear hS om
           obtain ⟨VI, hVI⟩ : ∃ V : Int, sgnd true below 2139095040 = V := ⟨_, rfl⟩
           rw [hVI] at hin
           have HVI : Hid _ := hVI
           clear hVI
           rcases great_ways m below 2139095039 2139095040 with ⟨g, rfl⟩ | ⟨g, _, rfl, rfl⟩ | ⟨g, _, _, rfl, rfl⟩ | ⟨g, _, rfl, rfl⟩ | ⟨g, _, _, rfl, rfl⟩ | ⟨g, m3, m1, m2⟩
           all_goals
            have GV : Hid _ := GH.out
            rw [g] at GV
            have G2 : Hid _ := GV
            clear GV GH g
            go_wp2_with (first
             | (go_at_call 96; refine (hg _).mono ?_; rintro r w1 ⟨rfl, hw⟩; rw [hw]; clear hw w1)
             | (go_at_call 129; refine (hmo _).mono ?_; rintro r w1 ⟨rfl, hw⟩; rw [hw]; clear hw w1)
             | (go_at_call 116; refine (hin _).mono ?_; rintro r w1 ⟨rfl, nn, hw⟩; rw [hw]; clear hw w1))
            go_ret
           ·exact ⟨u64r_eq (by rw [G2.out]; exact OM.out), drew_0 w⟩
           ·exact ⟨u64r_eq (by rw [G2.out]; exact OM.out), drew_0 w⟩
           ·exact ⟨u64r_eq (by rw [G2.out]; exact OM.out), drew_0 w⟩
           ·exact ⟨u64r_eq (by rw [G2.out]; exact HVI.out.symm), nn, rfl⟩
           ·exact ⟨u64r_eq (by rw [G2.out]; exact HVI.out.symm), nn, rfl⟩
           ·exact ⟨u64r_eq (by rw [G2.out]; exact HVI.out.symm), nn, rfl⟩
   ·have hi0 : (i0 : Int) + 1 ≤ N := by omega
    have cj : w.cell? ⟨b, i0, none⟩ = some (.bool (A.testBit i0)) := row i0 (by omega)
    have t1 : (0 : Int) ≤ (i0 : Int) := by omega
    by_cases hge : La ≤ e + (i0 : Int)
    ·obtain ⟨t, ht⟩ : ∃ t : Nat, e + (i0 : Int) - La = (t : Int) := ⟨(e + (i0 : Int) - La).toNat, by omega⟩
     have t64 : t < 64 := by omega
     have qw := wrap_pow t t64
     cases tb : A.testBit i0
     ·have Z := q_no (A := A) (i := i0) (k := La - e) (t := t) (by omega) t64 HQ.out tb
      rw [tb] at cj
      clear tb row
      go_wp2
      go_round
      case rel => exact ⟨i0, by omega, rfl, by rcases i0 with _ | i1; exact Or.inl ⟨rfl, by go_num⟩; exact Or.inr ⟨i1, rfl, by go_num⟩⟩
      case measure => simp [intOf]
     ·have Z := q_yes (A := A) (i := i0) (k := La - e) (t := t) (by omega) t64 HQ.out tb
      rw [tb] at cj
      clear tb row
      go_wp2
      go_round
      case rel => exact ⟨i0, by omega, rfl, by rcases i0 with _ | i1; exact Or.inl ⟨rfl, by go_num⟩; exact Or.inr ⟨i1, rfl, by go_num⟩⟩
      case measure => simp [intOf]
    ·have Z : Hid _ := qTo_no A (La - e) i0 (by omega)
     have hge' : e + (i0 : Int) < La := by omega
     cases tb : A.testBit i0
     ·rw [tb] at cj
      clear tb row
      go_wp2
      go_round
      case rel => exact ⟨i0, by omega, by rw [Z.out], by rcases i0 with _ | i1; exact Or.inl ⟨rfl, by go_num⟩; exact Or.inr ⟨i1, rfl, by go_num⟩⟩
      case measure => simp [intOf]
     ·rw [tb] at cj
      clear tb row
      go_wp2
      go_round
      case rel => exact ⟨i0, by omega, by rw [Z.out], by rcases i0 with _ | i1; exact Or.inl ⟨rfl, by go_num⟩; exact Or.inr ⟨i1, rfl, by go_num⟩⟩
      case measure => simp [intOf]
end Go.Proofs.YteafnkimcidkhaaGreat
namespace Go.Proofs.YteafnkimcidkhaaGreat
open Go.RowKit
set_option linter.unusedVariables false
set_option linter.unusedSimpArgs false
def BitV (w : World) (v : Value) (n A : Nat) : Prop := A < 2 ^ n ∧ ((v = .slice none 0 0 ∧ n = 0) ∨ ∃ b cap, v = .slice (some ⟨b, 0, none⟩) n cap ∧ b < w.heap.size ∧ RowB w b n (fun i => A.testBit i))
theorem length_nil (w : World) : Calls Tryz.prog 128 #[.slice none 0 0] w fun e w' => e = .returned (.int .i64 0) ∧ w' = w := by
 go_enter Tryz.func128, Tryz.ntmps128
 go_wp2
 go_loopw [3] (fun i wr => i = .int .i64 0 ∧ wr = w) (fun i _ => 0)
 case atStart => exact ⟨rfl, rfl⟩
 case round =>
  obtain ⟨rfl, rfl⟩ := hrel
  go_wp2
  go_ret
  exact ⟨rfl, rfl⟩
set_option maxRecDepth 20000 in
theorem rounded_zero (s : Bool) (m : Int) (below : Bool) (v : Value) (e : Int) (w : World) (hl : Calls Tryz.prog 128 #[v] w fun e w' => e = .returned (.int .i64 0) ∧ w' = w) :
  Calls Tryz.prog 93 #[.int .i64 (fb s), .int .i64 m, .bool below, v, .int .i64 e] w fun r w' => r = .returned (.int .u64 (sgnd s below 0)) ∧ ∃ k, w' = w.drewN k := by
 have hg := rsign_any s below
 have e00 : (if below then fS s else 0) = sgnd s below 0 := by unfold sgnd; cases below <;> simp
 have e0 : Hid _ := e00
 clear e00
 generalize sgnd s below 0 = V at *
 generalize (if below then fS s else 0) = S at *
 cases s
 ·have hs := rsize_d
  have hg' : ∀ w, Calls Tryz.prog 96 #[.int .i64 0, .bool below] w fun e w' => e = .returned (.int .u64 S) ∧ w' = w := hg
  clear hg
  show Calls Tryz.prog 93 #[.int .i64 0, .int .i64 m, .bool below, v, .int .i64 e] w _
  go_enter Tryz.func93, Tryz.ntmps93
  go_wp2_with (first
   | (go_at_call 126; refine (hs _).mono ?_; rintro r w1 ⟨rfl, hw⟩; rw [hw]; clear hw w1)
   | (go_at_call 128; refine hl.mono ?_; rintro r w1 ⟨rfl, hw⟩; rw [hw]; clear hw w1)
   | (go_at_call 96; refine (hg' _).mono ?_; rintro r w1 ⟨rfl, hw⟩; rw [hw]; clear hw w1))
  go_ret
  exact ⟨u64r_eq e0.out, drew_0 w⟩
 ·have hs := rsize_s
  have hg' : ∀ w, Calls Tryz.prog 96 #[.int .i64 1, .bool below] w fun e w' => e = .returned (.int .u64 S) ∧ w' = w := hg
  clear hg
  show Calls Tryz.prog 93 #[.int .i64 1, .int .i64 m, .bool below, v, .int .i64 e] w _
  go_enter Tryz.func93, Tryz.ntmps93
  go_wp2_with (first
   | (go_at_call 126; refine (hs _).mono ?_; rintro r w1 ⟨rfl, hw⟩; rw [hw]; clear hw w1)
   | (go_at_call 128; refine hl.mono ?_; rintro r w1 ⟨rfl, hw⟩; rw [hw]; clear hw w1)
   | (go_at_call 96; refine (hg' _).mono ?_; rintro r w1 ⟨rfl, hw⟩; rw [hw]; clear hw w1))
  go_ret
  exact ⟨u64r_eq e0.out, drew_0 w⟩
theorem rounded_any (s : Bool) (m : Int) (below : Bool) (v : Value) (n A : Nat) (hn : n ≤ 100000) (e : Int) (he1 : -100000 ≤ e) (he2 : e ≤ 100000) (w : World) (h : BitV w v n A) :
  Calls Tryz.prog 93 #[.int .i64 (fb s), .int .i64 m, .bool below, v, .int .i64 e] w fun r w' => r = .returned (.int .u64 (rnd s m below A e)) ∧ ∃ k, w' = w.drewN k := by
 obtain ⟨hA, h⟩ := h
 by_cases A0 : A = 0
 ·subst A0
  rw [rnd_zero]
  rcases h with ⟨rfl, rfl⟩ | ⟨b, cap, rfl, hb, row⟩
  ·exact rounded_zero s m below _ e w (length_nil w)
  ·refine rounded_zero s m below _ e w ?_
   have := length_any b n cap 0 hA (by omega) w row
   rw [blen_zero] at this
   exact this
 ·rcases h with ⟨rfl, rfl⟩ | ⟨b, cap, rfl, hb, row⟩
  ·exfalso
   rw [Nat.pow_zero] at hA
   omega
  ·cases s
   ·exact rounded_d m below b n cap A hA hn e he1 he2 w row A0
   ·exact rounded_s m below b n cap A hA hn e he1 he2 w row A0
/-! ### Rows of bits that the call itself makes -/
def Bl (n A : Nat) : List Value := (List.range n).map (fun i => .bool (A.testBit i))
theorem Bl_len (n A : Nat) : (Bl n A).length = n := by simp [Bl]
theorem Bl_get (n A i : Nat) (h : i < n) : (Bl n A)[i]? = some (.bool (A.testBit i)) := by simp [Bl, h]
theorem Bl_snoc (n A : Nat) : Bl n A ++ [.bool (A.testBit n)] = Bl (n + 1) A := by simp [Bl, List.range_succ]
theorem Bl_app (n k A B : Nat) (h : B < 2 ^ n) : Bl n B ++ Bl k A = Bl (n + k) (A * 2 ^ n + B) := by
 apply List.ext_getElem?
 intro i
 by_cases c : i < n
 ·rw [List.getElem?_append_left (by rw [Bl_len]; exact c), Bl_get _ _ _ c, Bl_get _ _ _ (by omega), Nat.mul_comm, Nat.testBit_two_pow_mul_add A h i, if_pos c]
 ·rw [List.getElem?_append_right (by rw [Bl_len]; omega), Bl_len]
  by_cases d : i < n + k
  ·rw [Bl_get _ _ _ (by omega), Bl_get _ _ _ d, Nat.mul_comm, Nat.testBit_two_pow_mul_add A h i, if_neg c]
  ·rw [List.getElem?_eq_none (by rw [Bl_len]; omega), List.getElem?_eq_none (by rw [Bl_len]; omega)]
theorem Bl_one (n A : Nat) : ∀ u ∈ Bl n A, u.oneCell' = true := by
 intro u hu
 simp [Bl] at hu
 obtain ⟨i, _, rfl⟩ := hu
 rfl
theorem Tryz.infoB : (Tryz.prog.info? 4).map (fun i => (i.zero, i.size, i.bytes)) = some (some (.bool false), 1, 1) := by kernel_rfl
theorem own_bits {w : World} {base n A : Nat} {v : Value} (h : w.ownsRow base 4 1 v n (Bl n A)) (hA : A < 2 ^ n) : BitV w v n A := by
 refine ⟨hA, ?_⟩
 obtain ⟨h1, h2⟩ := id h
 rcases h2 with ⟨rfl, rfl⟩ | ⟨g, cap, cur, rfl, _, hg, _⟩
 ·exact Or.inl ⟨rfl, rfl⟩
 ·refine Or.inr ⟨g, cap, rfl, ?_, ?_⟩
  ·exact lt_of_block hg
  ·intro i hi
   rw [h.cellAt i (by omega), Bl_get _ _ _ hi]
theorem BitV.below {W w1 : World} {v : Value} {n A : Nat} (h : BitV W v n A) (hb : Below W.heap.size W w1) : BitV w1 v n A := by
 obtain ⟨a, h⟩ := h
 refine ⟨a, ?_⟩
 rcases h with h | ⟨b, cap, e, hs, row⟩
 ·exact Or.inl h
 ·exact Or.inr ⟨b, cap, e, Nat.lt_of_lt_of_le hs hb.size, row.below hb hs⟩
theorem own_block {w : World} {base n size : Nat} {e : TypeId} {v : Value} {xs : List Value} (h : w.ownsRow base e size v n xs) : ∀ k, v.ownBlock = some k → base ≤ k := by
 obtain ⟨_, h⟩ := h
 rcases h with ⟨rfl, _⟩ | ⟨g, cap, cur, rfl, hg, _⟩
 ·intro k hk; simp [Value.ownBlock] at hk
 ·intro k hk; simp [Value.ownBlock] at hk; omega
set_option maxHeartbeats 1600000 in
theorem rbits_any (X : Nat) (hX : X < 18446744073709551616) (w : World) :
  Calls Tryz.prog 92 #[.int .u64 (X : Int)] w fun e w' => ∃ v, e = .returned v ∧ w'.ownsRow w.heap.size 4 1 v (blen X) (Bl (blen X) X) ∧ Below w.heap.size w w' := by
 obtain ⟨i0, hi, hz0, hz1, hz2⟩ := info_parts Tryz.infoB
 go_enter Tryz.func92, Tryz.ntmps92
 go_wp2
 go_loopw [0, 3] (fun x v wr => ∃ k : Nat, k ≤ 64 ∧ x = .int .u64 ((X / 2 ^ k : Nat) : Int) ∧ wr.ownsRow w.heap.size 4 1 v k (Bl k X) ∧ (k = 0 ∨ X / 2 ^ (k - 1) ≠ 0) ∧ Below w.heap.size w wr) (fun x _ _ => (intOf x).toNat)
 case atStart => exact ⟨0, by omega, by simp, World.ownsRow_nil _ _ _ _, Or.inl rfl, Below.refl _ _⟩
 case round =>
  obtain ⟨k, hk, rfl, hown, hpos, hb⟩ := hrel
  have hlt : X / 2 ^ k < 18446744073709551616 := Nat.lt_of_le_of_lt (Nat.div_le_self _ _) hX
  by_cases z : X / 2 ^ k = 0
  ·have e : blen X = k := by
    rcases hpos with rfl | hp
    ·rw [Nat.pow_zero, Nat.div_one] at z
     subst z
     exact blen_zero
    ·have k1 : 1 ≤ k := by
      rcases Nat.eq_zero_or_pos k with rfl | h
      ·exact absurd z hp
      ·exact h
     refine blen_uniq k1 ?_ ?_
     ·by_cases c : 2 ^ (k - 1) ≤ X
      ·exact c
      ·exact absurd (Nat.div_eq_of_lt (by omega)) hp
     ·exact Nat.lt_of_div_eq_zero (Nat.two_pow_pos k) z
   have E : Hid _ := e
   rw [z]
   clear e z hpos hlt
   go_wp2
   go_ret
   exact ⟨_, rfl, by rw [E.out]; exact hown, hb⟩
  ·have kl : k < 64 := by
    by_cases c : k < 64
    ·exact c
    ·exfalso
     apply z
     exact Nat.div_eq_of_lt (Nat.lt_of_lt_of_le hX (by rw [show (18446744073709551616 : Nat) = 2 ^ 64 from rfl]; exact Nat.pow_le_pow_right (by decide) (by omega)))
   have zp : (0 : Int) < ((X / 2 ^ k : Nat) : Int) := Int.natCast_pos.2 (Nat.pos_of_ne_zero z)
   have zp' : ((X / 2 ^ k : Nat) : Int) < 18446744073709551616 := Int.ofNat_lt.2 hlt
   have q1 : (((X / 2 ^ k : Nat) : Int) % 2 == 1) = X.testBit k := by
    rw [Nat.testBit_eq_decide_div_mod_eq, Bool.eq_iff_iff, beq_iff_eq, decide_eq_true_iff]
    generalize X / 2 ^ k = d
    omega
   have q2 : Hid (((X / 2 ^ k : Nat) : Int) / 2 = ((X / 2 ^ (k + 1) : Nat) : Int)) := by
    rw [Nat.pow_succ, ← Nat.div_div_eq_div_mul]; rfl
   have Z : Hid _ := z
   clear z hlt
   generalize hD : ((X / 2 ^ k : Nat) : Int) = D at *
   have HD : Hid _ := hD
   clear hD
   go_wp2_with (first
    | (at_builtin; refine wpList_append_own _ rfl _ _ 116 rfl w.heap.size 4 i0 (.bool false) 1 1 Tryz.underlying116 hi hz0 hz1 hz2 rfl (by decide) _ _ _ rfl (hown.alloc _) ⟨wr.heap.size, 0, none⟩ 1 1 [.bool (X.testBit k)] rfl rfl ?c1 ?c2 ?c3 ?c4 ?c5 ?_)
    | go_in)
   case c1 =>
    intro j u hj
    match j, hj with
    | 0, hj => simp at hj; subst hj; simp [Addr.add]
   case c2 => intro u hu; simp at hu; subst hu; rfl
   case c3 => unfold maxLen; omega
   case c4 => omega
   case c5 => have := hb.size; simp; omega
   ·intro v' w1 hown' hgrow _
    rw [Bl_snoc] at hown'
    have hb' := (hb.alloc hb.size _).grown hgrow (by have := hb.size; simp; omega) (own_block hown)
    clear hgrow hown
    go_wp2
    go_roundw
    case rel => exact ⟨k + 1, by omega, by rw [← q2.out], hown', Or.inr (by simpa using Z.out), hb'⟩
    case measure => simp [intOf]; omega
end Go.Proofs.YteafnkimcidkhaaGreat
namespace Go.Proofs.YteafnkimcidkhaaGreat
open Go.RowKit
set_option linter.unusedVariables false

def cB (A B c k : Nat) : Bool := decide (2 ^ k ≤ A % 2 ^ k + B % 2 ^ k + c)
theorem cB_zero (A B c : Nat) : cB A B c 0 = decide (1 ≤ c) := by unfold cB; rw [Nat.pow_zero, Nat.mod_one, Nat.mod_one]; simp
theorem bitN (A k : Nat) : A.testBit k = decide (A / 2 ^ k % 2 = 1) := Nat.testBit_eq_decide_div_mod_eq
theorem sum_parts (A B c k : Nat) (hc : c ≤ 1) : (A + B + c) / 2 ^ k = A / 2 ^ k + B / 2 ^ k + (if cB A B c k then 1 else 0) := by
 unfold cB
 have p := pow_pos' k
 have a := Nat.div_add_mod A (2 ^ k)
 have b := Nat.div_add_mod B (2 ^ k)
 have la := Nat.mod_lt A p
 have lb := Nat.mod_lt B p
 generalize A % 2 ^ k = x at *
 generalize B % 2 ^ k = y at *
 generalize A / 2 ^ k = q at *
 generalize B / 2 ^ k = r at *
 have e : A + B + c = (x + y + c) + 2 ^ k * (q + r) := by rw [Nat.mul_add]; omega
 rw [e, Nat.add_mul_div_left _ _ p]
 by_cases h : 2 ^ k ≤ x + y + c
 ·have : (x + y + c) / 2 ^ k = 1 := by
   rw [Nat.div_eq_iff p]; omega
  simp [h]; omega
 ·rw [Nat.div_eq_of_lt (by omega)]
  simp [h]
theorem sum_bit (A B c k : Nat) (hc : c ≤ 1) : (A + B + c).testBit k = ((A.testBit k ^^ B.testBit k) ^^ cB A B c k) := by
 rw [bitN, bitN, bitN, sum_parts A B c k hc]
 generalize A / 2 ^ k = q
 generalize B / 2 ^ k = r
 rcases Nat.mod_two_eq_zero_or_one q with h1 | h1 <;> rcases Nat.mod_two_eq_zero_or_one r with h2 | h2 <;> cases cB A B c k <;> simp [h1, h2] <;> omega
theorem cB_succ (A B c k : Nat) (hc : c ≤ 1) : cB A B c (k + 1) = (A.testBit k && B.testBit k || (A.testBit k || B.testBit k) && cB A B c k) := by
 rw [bitN, bitN]
 unfold cB
 rw [Nat.mod_pow_succ, Nat.mod_pow_succ, Nat.pow_succ]
 have p := pow_pos' k
 have la := Nat.mod_lt A p
 have lb := Nat.mod_lt B p
 generalize A % 2 ^ k = x at *
 generalize B % 2 ^ k = y at *
 generalize A / 2 ^ k = q at *
 generalize B / 2 ^ k = r at *
 generalize 2 ^ k = P at *
 rcases Nat.mod_two_eq_zero_or_one q with h1 | h1 <;> rcases Nat.mod_two_eq_zero_or_one r with h2 | h2 <;> simp [h1, h2] <;> omega
def sumTo (S k : Nat) (j : Nat) : Bool := decide (j < k) && S.testBit j
theorem sumTo_zero (S : Nat) : sumTo S 0 = fun _ => false := by funext j; simp [sumTo]
theorem sumTo_succ (S k : Nat) (v : Bool) (hv : v = S.testBit k) : (fun i => if i = k then v else sumTo S k i) = sumTo S (k + 1) := by
 funext j
 unfold sumTo
 by_cases e : j = k
 ·subst e; simp [hv]
 ·have : (decide (j < k)) = decide (j < k + 1) := by rw [decide_eq_decide]; omega
  simp [e, this]
theorem sumTo_full (S k j : Nat) (h : j < k) : sumTo S k j = S.testBit j := by simp [sumTo, h]
set_option maxHeartbeats 3200000 in
theorem add_bits (b1 b2 : Nat) (A B : Nat) (c : Bool) (w : World) (r1 : RowB w b1 128 A.testBit) (r2 : RowB w b2 128 B.testBit) (z1 : b1 < w.heap.size) (z2 : b2 < w.heap.size) :
  Calls Tryz.prog 199 #[.slice (some ⟨b1, 0, none⟩) 128 128, .slice (some ⟨b2, 0, none⟩) 128 128, .bool c] w fun e w' =>
   ∃ b : Nat, e = .returned (.slice (some ⟨b, 0, none⟩) 129 129) ∧ b < w'.heap.size ∧ RowB w' b 129 (fun j => if j = 128 then cB A B (if c then 1 else 0) 128 else (A + B + (if c then 1 else 0)).testBit j) ∧ Below w.heap.size w w' := by
 have hmk : ∀ w : World, (Instr.makeSlice 116 (.int .i64 129) (.int .i64 129)).run Tryz.prog w = .ok (.slice (some ⟨w.heap.size, 0, none⟩) 129 129) (freshW w 129) := fun w => make_bools 129 (by decide) w
 have hc : (if c then 1 else 0 : Nat) ≤ 1 := by cases c <;> decide
 have c0 : c = cB A B (if c then 1 else 0) 0 := by rw [cB_zero]; cases c <;> rfl
 generalize hcc : (if c then 1 else 0 : Nat) = cc at hc c0 ⊢
 clear hcc
 have C0 : Hid _ := c0
 clear c0
 go_enter Tryz.func199, Tryz.ntmps199
 go_wp2
 go_loopw [2, 9] (fun u i wr => ∃ (k : Nat), k ≤ 128 ∧ i = .int .i64 k ∧ u = .bool (cB A B cc k) ∧ w.heap.size < wr.heap.size ∧ RowB wr w.heap.size 129 (sumTo (A + B + cc) k) ∧ RowF wr w.heap.size 129 ∧ Below w.heap.size w wr) (fun _ i _ => 128 - (intOf i).toNat)
 case atStart =>
  refine ⟨0, by omega, rfl, congrArg Value.bool C0.out, by rw [fresh_size]; omega, ?_, fresh_free _ _, fresh_below _ _⟩
  rw [sumTo_zero]; exact fresh_row _ _
 case round =>
  obtain ⟨k, hk, rfl, rfl, s0, hrow, hfree, hb⟩ := hrel
  by_cases hlt : k < 128
  ·have t1 : (k : Int) < 128 := by omega
   have ga : wr.cell? ⟨b1, k, none⟩ = some (.bool (A.testBit k)) := by rw [(bcell hb).1 _ _ z1]; exact r1 k hlt
   have gb : wr.cell? ⟨b2, k, none⟩ = some (.bool (B.testBit k)) := by rw [(bcell hb).1 _ _ z2]; exact r2 k hlt
   have go := hrow k (by omega)
   have ho := hfree k (by omega)
   have sb := sum_bit A B cc k hc
   have cs := cB_succ A B cc k hc
   generalize A.testBit k = x at *
   generalize B.testBit k = y at *
   generalize hz : cB A B cc k = z at *
   have S1 : Hid _ := sb
   have S2 : Hid _ := cs
   clear sb cs hz
   cases x <;> cases y <;> cases z
   all_goals
    go_wp2
    go_roundw
    case rel =>
     refine ⟨k + 1, by omega, by go_num, congrArg Value.bool S2.out.symm, by simpa using s0, ?_, hfree.set _ _, hb.setCell (by simp) _⟩
     rw [← sumTo_succ (A + B + cc) k _ S1.out.symm]
     exact hrow.set k _ (by omega)
    case measure => simp [intOf]; omega
  ·have : k = 128 := by omega
   subst this
   have go := hrow 128 (by omega)
   have ho := hfree 128 (by omega)
   go_wp2
   go_ret
   refine ⟨_, rfl, by simpa using s0, ?_, hb.setCell (by simp) _⟩
   refine (hrow.set 128 _ (by omega)).ext (fun i hi => ?_)
   by_cases e : i = 128
   ·simp [e]
   ·simp only [if_neg e]
    exact sumTo_full _ _ _ (by omega)
end Go.Proofs.YteafnkimcidkhaaGreat
namespace Go.Proofs.YteafnkimcidkhaaGreat
open Go.RowKit
set_option linter.unusedVariables false

structure TwoMem (n : Nat) (ah al bh bl : Int) (w : World) : Prop where
 s0 : n < w.heap.size
 s1 : n + 1 < w.heap.size
 s2 : n + 1 + 1 < w.heap.size
 c0 : w.cell? ⟨n, 0, none⟩ = some (.int .u64 ah)
 c1 : w.cell? ⟨n, 1, none⟩ = some (.int .u64 al)
 d0 : w.cell? ⟨n + 1, 0, none⟩ = some (.int .u64 bh)
 d1 : w.cell? ⟨n + 1, 1, none⟩ = some (.int .u64 bl)
 e0 : ∃ x, w.cell? ⟨n + 1 + 1, 0, none⟩ = some (.int .u64 x)
 e1 : ∃ x, w.cell? ⟨n + 1 + 1, 1, none⟩ = some (.int .u64 x)
 f0 : w.frozen? ⟨n + 1 + 1, 0, none⟩ = false
 f1 : w.frozen? ⟨n + 1 + 1, 1, none⟩ = false
theorem TwoMem.below {n : Nat} {ah al bh bl : Int} {W w1 : World} (h : TwoMem n ah al bh bl W) (hb : Below W.heap.size W w1) : TwoMem n ah al bh bl w1 := by
 obtain ⟨hc, hf⟩ := bcell hb
 have hs := hb.size
 refine ⟨by have := h.s0; omega, by have := h.s1; omega, by have := h.s2; omega, ?_, ?_, ?_, ?_, ?_, ?_, ?_, ?_⟩
 ·rw [hc _ _ h.s0]; exact h.c0
 ·rw [hc _ _ h.s0]; exact h.c1
 ·rw [hc _ _ h.s1]; exact h.d0
 ·rw [hc _ _ h.s1]; exact h.d1
 ·rw [hc _ _ h.s2]; exact h.e0
 ·rw [hc _ _ h.s2]; exact h.e1
 ·rw [hf _ _ h.s2]; exact h.f0
 ·rw [hf _ _ h.s2]; exact h.f1
theorem TwoMem.drew {n : Nat} {ah al bh bl : Int} {W : World} (h : TwoMem n ah al bh bl W) : TwoMem n ah al bh bl W.drew :=
 ⟨h.s0, h.s1, h.s2, h.c0, h.c1, h.d0, h.d1, h.e0, h.e1, h.f0, h.f1⟩
theorem carry_128 (A B c : Nat) (ha : A < 2 ^ 128) (hb : B < 2 ^ 128) : cB A B c 128 = decide (2 ^ 128 ≤ A + B + c) := by
 unfold cB; rw [Nat.mod_eq_of_lt ha, Nat.mod_eq_of_lt hb]
theorem from_mod (f : Nat → Bool) (S x : Nat) (h : IsFrom f 128 x) (hf : ∀ j, j < 128 → f j = S.testBit j) : x = S % 2 ^ 128 := by
 apply Nat.eq_of_testBit_eq
 intro j
 rw [h j, Nat.testBit_mod_two_pow]
 by_cases c : j < 128
 ·simp [c, hf j c]
 ·simp [c]
set_option maxHeartbeats 1600000 in
theorem radd_any (ah al bh bl : Int) (h1 : Word ah) (h2 : Word al) (h3 : Word bh) (h4 : Word bl) (w : World) :
  Calls Tryz.prog 163 #[.agg #[.int .u64 ah, .int .u64 al], .agg #[.int .u64 bh, .int .u64 bl]] w fun e w' =>
   ∃ (h l : Int) (c : Bool), e = .returned (.tuple #[.agg #[.int .u64 h, .int .u64 l], .bool c]) ∧ Word h ∧ Word l ∧
    Hid (num h l = (num ah al + num bh bl) % 340282366920938463463374607431768211456) ∧ Hid (c = decide (340282366920938463463374607431768211456 ≤ num ah al + num bh bl)) ∧ Below w.heap.size w w' := by
 go_enter Tryz.func163, Tryz.ntmps163
 go_upto_region 1 with fail
 go_cut [6] from 7 to 11 (fun s wx => ∃ b3 : Nat, s = .slice (some ⟨b3, 0, none⟩) 129 129 ∧ b3 < wx.heap.size ∧ RowB wx b3 129 (fun j => if j = 128 then cB (N ah al) (N bh bl) 0 128 else (N ah al + N bh bl + 0).testBit j) ∧ TwoMem w.heap.size ah al bh bl wx ∧ Below w.heap.size w wx)
 case first =>
  have m0 : TwoMem w.heap.size ah al bh bl (((w.alloc (.cells #[.int .u64 ah, .int .u64 al] 139)).alloc (.cells #[.int .u64 bh, .int .u64 bl] 139)).alloc (.cells #[.int .u64 0, .int .u64 0] 139)).drew := by
   constructor <;> first | (simp [go_sem]; done) | (simp; omega) | (exact ⟨0, by simp [go_sem]⟩)
  have b0 : Below w.heap.size w (((w.alloc (.cells #[.int .u64 ah, .int .u64 al] 139)).alloc (.cells #[.int .u64 bh, .int .u64 bl] 139)).alloc (.cells #[.int .u64 0, .int .u64 0] 139)).drew := (below_three _ _ _ _).drew
  go_region_held3 (fun w' => w'.cell? ⟨w.heap.size, 0, none⟩ = some (.int .u64 ah) ∧ w'.cell? ⟨w.heap.size, 1, none⟩ = some (.int .u64 al) ∧ w'.cell? ⟨w.heap.size + 1, 0, none⟩ = some (.int .u64 bh) ∧ w'.cell? ⟨w.heap.size + 1, 1, none⟩ = some (.int .u64 bl))
   (first | (simp [go_sem, *]; done) | (go_keep; done))
   (first
    | (go_at_call_of 118 ah; refine (bits_any ah al h1 h2 _).mono ?_; rintro e w1 ⟨q1, rfl, x1, y1, r1, _, B1⟩; have m1 := m0.below B1; obtain ⟨_, _, _, c0, c1, d0, d1, _, _, _, _⟩ := id m1; have L1 := b0.trans (B1.mono b0.size))
    | (go_at_call_of 118 bh; refine (bits_any bh bl h3 h4 _).mono ?_; rintro e w2 ⟨q2, rfl, x2, y2, r2, _, B2⟩; have m2 := m1.below B2; clear c0 c1 d0 d1; obtain ⟨_, _, _, c0, c1, d0, d1, _, _, _, _⟩ := id m2; have L2 := L1.trans (B2.mono L1.size); have r1' := r1.below B2 y1; have y1' : q1 < w2.heap.size := (by have := B2.size; omega))
    | (go_at_call 199; refine (add_bits q1 q2 (N ah al) (N bh bl) false _ r1' r2 y1' y2).mono ?_; rintro e w3 ⟨q3, rfl, y3, r3, B3⟩; have m3 := m2.below B3; clear c0 c1 d0 d1; obtain ⟨_, _, _, c0, c1, d0, d1, _, _, _, _⟩ := id m3; have L3 := L2.trans (B3.mono L2.size)))
  go_wp2_with fail
  go_meet
  exact ⟨q3, rfl, y3, r3, m3, L3⟩
 case rest =>
  obtain ⟨b3, rfl, y3, r3, m3, L3⟩ := hcut
  obtain ⟨s0, s1, s2, c0, c1, d0, d1, ⟨x0, e0⟩, ⟨x1, e1⟩, f0, f1⟩ := id m3
  have g := r3 128 (by decide)
  simp only [if_true] at g
  go_wp2_with fail
  go_region_held3 (fun w' => w'.cell? ⟨b3, 128, none⟩ = some (.bool (cB (N ah al) (N bh bl) 0 128)))
   (first | (simp [go_sem, *]; done) | (go_keep; done))
   ((go_at_call 200; refine (from_any b3 129 129 _ (by decide) _ r3.drew y3).mono ?_; rintro e w4 ⟨h, l, rfl, wh, wl, F, B4⟩; have m4 := m3.drew.below B4; clear s0 s1 s2 c0 c1 d0 d1 e0 e1 f0 f1; obtain ⟨s0, s1, s2, c0, c1, d0, d1, ⟨x2, e0⟩, ⟨x3, e1⟩, f0, f1⟩ := id m4; have g4 : w4.cell? ⟨b3, 128, none⟩ = some (.bool (cB (N ah al) (N bh bl) 0 128)) := ((bcell B4).1 _ _ y3).trans g))
  go_wp2
  refine bodyPost_ret (v := .tuple #[.agg #[.int .u64 h, .int .u64 l], .bool (cB (N ah al) (N bh bl) 0 128)]) (by simp [results, Tryz.results163, go_sem, *]) rfl ?_
  have y5 := L3.size
  refine ⟨h, l, _, rfl, wh, wl, ?_, ?_, ((L3.drew.trans (B4.mono y5)).setCell (by simp; omega) _).setCell (by simp; omega) _⟩
  ·have e := from_mod _ (N ah al + N bh bl + 0) _ F (fun j hj => by rw [if_neg (by omega)])
   have a := N_cast h1 h2
   have b := N_cast h3 h4
   have c := N_cast wh wl
   show num h l = _
   rw [← a, ← b, ← c, e]
   have : (2 : Nat) ^ 128 = 340282366920938463463374607431768211456 := by decide
   omega
  ·have a := N_cast h1 h2
   have b := N_cast h3 h4
   show _ = _
   rw [carry_128 _ _ _ (N_lt h1 h2) (N_lt h3 h4), ← a, ← b, decide_eq_decide]
   have : (2 : Nat) ^ 128 = 340282366920938463463374607431768211456 := by decide
   omega
/-! ### Differences -/
end Go.Proofs.YteafnkimcidkhaaGreat
namespace Go.Proofs.YteafnkimcidkhaaGreat
open Go.RowKit
set_option linter.unusedVariables false

structure OneMem (n : Nat) (ah al : Int) (w : World) : Prop where
 s0 : n < w.heap.size
 s1 : n + 1 < w.heap.size
 c0 : w.cell? ⟨n, 0, none⟩ = some (.int .u64 ah)
 c1 : w.cell? ⟨n, 1, none⟩ = some (.int .u64 al)
 e0 : ∃ x, w.cell? ⟨n + 1, 0, none⟩ = some (.int .u64 x)
 e1 : ∃ x, w.cell? ⟨n + 1, 1, none⟩ = some (.int .u64 x)
 f0 : w.frozen? ⟨n + 1, 0, none⟩ = false
 f1 : w.frozen? ⟨n + 1, 1, none⟩ = false
theorem OneMem.below {n : Nat} {ah al : Int} {W w1 : World} (h : OneMem n ah al W) (hb : Below W.heap.size W w1) : OneMem n ah al w1 := by
 obtain ⟨hc, hf⟩ := bcell hb
 have hs := hb.size
 refine ⟨by have := h.s0; omega, by have := h.s1; omega, ?_, ?_, ?_, ?_, ?_, ?_⟩
 ·rw [hc _ _ h.s0]; exact h.c0
 ·rw [hc _ _ h.s0]; exact h.c1
 ·rw [hc _ _ h.s1]; exact h.e0
 ·rw [hc _ _ h.s1]; exact h.e1
 ·rw [hf _ _ h.s1]; exact h.f0
 ·rw [hf _ _ h.s1]; exact h.f1
theorem OneMem.far {n : Nat} {ah al : Int} {W : World} (h : OneMem n ah al W) (a : Addr) (v : Value) (h0 : a.block ≠ n) (h1 : a.block ≠ n + 1) : OneMem n ah al (W.setCell a v) := by
 obtain ⟨s0, s1, c0, c1, e0, e1, f0, f1⟩ := h
 refine ⟨by simpa using s0, by simpa using s1, ?_, ?_, ?_, ?_, by simpa [go_sem] using f0, by simpa [go_sem] using f1⟩
 ·rw [World.cell?_setCell_far _ _ _ _ h0]; exact c0
 ·rw [World.cell?_setCell_far _ _ _ _ h0]; exact c1
 ·rw [World.cell?_setCell_far _ _ _ _ h1]; exact e0
 ·rw [World.cell?_setCell_far _ _ _ _ h1]; exact e1
theorem one_start (w : World) (ah al : Int) : OneMem w.heap.size ah al ((w.alloc (.cells #[.int .u64 ah, .int .u64 al] 139)).alloc (.cells #[.int .u64 0, .int .u64 0] 139)) := by
 constructor <;> first | (simp [go_sem]; done) | (simp; omega) | (exact ⟨0, by simp [go_sem]⟩)
/-! ### Up -/
def upTo (A M k : Nat) (j : Nat) : Bool := decide (k ≤ j) && (decide (M ≤ j) && A.testBit (j - M))
theorem upTo_start (A M j : Nat) (h : j < 128) : false = upTo A M 128 j := by
 unfold upTo
 have : ¬ 128 ≤ j := by omega
 simp [this]
theorem upTo_step (A M k : Nat) (hk : 1 ≤ k) (hM : M ≤ k - 1) : (fun i => if i = k - 1 then A.testBit (k - 1 - M) else upTo A M k i) = upTo A M (k - 1) := by
 funext j
 unfold upTo
 by_cases e : j = k - 1
 ·subst e
  simp [hM]
 ·simp only [if_neg e]
  have : (decide (k ≤ j)) = decide (k - 1 ≤ j) := by rw [decide_eq_decide]; omega
  rw [this]
theorem upTo_end (A M k j : Nat) (hk : k = 0 ∨ k - 1 < M) : upTo A M k j = (A * 2 ^ M).testBit j := by
 unfold upTo
 rw [← Nat.shiftLeft_eq, Nat.testBit_shiftLeft]
 by_cases c : M ≤ j
 ·have : k ≤ j := by omega
  simp [c, this]
 ·simp [c]
theorem num_mul_pow (h l h' l' : Int) (M : Nat) (a : Word h) (b : Word l) (a' : Word h') (b' : Word l') (e : N h' l' = N h l * 2 ^ M % 2 ^ 128) : num h' l' = num h l * 2 ^ M % 340282366920938463463374607431768211456 := by
 rw [← N_cast a b, ← N_cast a' b', e]
 have p : (2 : Nat) ^ 128 = 340282366920938463463374607431768211456 := by decide
 rw [p]
 simp
set_option maxHeartbeats 1600000 in
theorem rshl_any (ah al n : Int) (h1 : Word ah) (h2 : Word al) (hn : -9223372036854775808 ≤ n) (hn' : n ≤ 9223372036854775807) (w : World) :
  Calls Tryz.prog 164 #[.agg #[.int .u64 ah, .int .u64 al], .int .i64 n] w fun e w' =>
   ∃ h l : Int, e = .returned (.agg #[.int .u64 h, .int .u64 l]) ∧ Word h ∧ Word l ∧ Hid (num h l = num ah al * 2 ^ n.toNat % 340282366920938463463374607431768211456) ∧ Below w.heap.size w w' := by
 have hmk := make_128
 have m0 := one_start w ah al
 go_enter Tryz.func164, Tryz.ntmps164
 go_upto_if 9 with fail
 go_cut [1] from 8 to 9 (fun s wx => s = .int .i64 (n.toNat : Nat) ∧ wx = (w.alloc (.cells #[.int .u64 ah, .int .u64 al] 139)).alloc (.cells #[.int .u64 0, .int .u64 0] 139))
 case first =>
  by_cases c : n < 0
  ·go_wp2_with fail
   go_meet
   exact ⟨by rw [Int.toNat_of_nonpos (by omega)]; rfl, rfl⟩
  ·go_wp2_with fail
   go_meet
   exact ⟨by rw [Int.toNat_of_nonneg (by omega)], rfl⟩
 case rest =>
  obtain ⟨rfl, rfl⟩ := hcut
  have hM : n.toNat ≤ 9223372036854775807 := by omega
  generalize hMn : n.toNat = M at *
  have HM : Hid (n.toNat = M) := hMn
  clear hMn
  go_wp2_with fail
  refine (bits_any ah al h1 h2 _).mono ?_
  rintro e w1 ⟨q, rfl, x1, y1, r1, _, B1⟩
  have m1 := m0.below B1
  have L1 := below_call (below_two w _ _) B1
  simp at x1
  go_wp2_with fail
  go_loopw [7] (fun i wr => ∃ k : Nat, k ≤ 128 ∧ i = .int .i64 ((k : Int) - 1) ∧ w1.heap.size < wr.heap.size ∧ RowB wr q 128 (N ah al).testBit ∧ RowB wr w1.heap.size 128 (upTo (N ah al) M k) ∧ RowF wr w1.heap.size 128 ∧ OneMem w.heap.size ah al wr ∧ Below w.heap.size w wr) (fun i _ => (intOf i + 1).toNat)
  case atStart =>
   have fb := fresh_below w1 128
   exact ⟨128, by omega, rfl, by rw [fresh_size]; omega, r1.below fb y1, (fresh_row w1 128).ext (fun i hi => upTo_start _ _ _ hi), fresh_free _ _, m1.below fb, below_call L1 fb⟩
  case round =>
   obtain ⟨k, hk, rfl, y2, r2, r3, fr3, m2, L2⟩ := hrel
   by_cases hin : 1 ≤ k ∧ M ≤ k - 1
   ·obtain ⟨hk1, hkM⟩ := hin
    have t1 : (0 : Int) ≤ (k : Int) - 1 := by omega
    have t2 : (M : Int) ≤ (k : Int) - 1 := by omega
    have t3 : (k : Int) - 1 < 128 := by omega
    have g1 := r2 (k - 1 - M) (by omega)
    have g2 := r3 (k - 1) (by omega)
    have f2 := fr3 (k - 1) (by omega)
    go_wp2
    go_roundw
    case rel =>
     refine ⟨k - 1, by omega, ?_, by simpa using y2, r2.far _ _ (by show w1.heap.size ≠ q; omega), ?_, fr3.set _ _, m2.far _ _ (by show w1.heap.size ≠ _; omega) (by show w1.heap.size ≠ _; omega), L2.setCell (by show _ ≤ w1.heap.size; omega) _⟩
     ·exact congrArg (Value.int IntKind.i64) (by omega)
     ·rw [← upTo_step _ _ _ hk1 hkM]
      exact r3.set (k - 1) _ (by omega)
    case measure => simp [intOf]; omega
   ·have hend : k = 0 ∨ k - 1 < M := by omega
    have r4 : RowB wr w1.heap.size 128 (N ah al * 2 ^ M).testBit := r3.ext (fun i hi => upTo_end _ _ _ _ hend)
    obtain ⟨s0, s1, c0, c1, ⟨x0, e0⟩, ⟨x1, e1⟩, f0, f1⟩ := id m2
    by_cases hk0 : k = 0
    ·have t1 : ¬ (0 : Int) ≤ (k : Int) - 1 := by omega
     clear hin hend
     go_wp2_with fail
     refine (from_any w1.heap.size 128 128 _ (by decide) _ r4 y2).mono ?_
     rintro e w3 ⟨h, l, rfl, wh, wl, F, B3⟩
     have m3 := m2.below B3
     clear s0 s1 c0 c1 e0 e1 f0 f1
     obtain ⟨s0, s1, c0, c1, ⟨x2, e0⟩, ⟨x3, e1⟩, f0, f1⟩ := id m3
     go_wp2
     refine bodyPost_ret (v := .agg #[.int .u64 h, .int .u64 l]) (by simp [results, Tryz.results164, go_sem, *]) rfl ?_
     have L3 := below_call L2 B3
     exact ⟨h, l, rfl, wh, wl, by rw [HM.out]; exact num_mul_pow ah al h l M h1 h2 wh wl (from_mod _ _ _ F (fun j hj => rfl)), (L3.setCell (by simp) _).setCell (by simp) _⟩
    ·have t1 : (0 : Int) ≤ (k : Int) - 1 := by omega
     have t2 : ¬ (M : Int) ≤ (k : Int) - 1 := by omega
     clear hin hend
     go_wp2_with fail
     refine (from_any w1.heap.size 128 128 _ (by decide) _ r4 y2).mono ?_
     rintro e w3 ⟨h, l, rfl, wh, wl, F, B3⟩
     have m3 := m2.below B3
     clear s0 s1 c0 c1 e0 e1 f0 f1
     obtain ⟨s0, s1, c0, c1, ⟨x2, e0⟩, ⟨x3, e1⟩, f0, f1⟩ := id m3
     go_wp2
     refine bodyPost_ret (v := .agg #[.int .u64 h, .int .u64 l]) (by simp [results, Tryz.results164, go_sem, *]) rfl ?_
     have L3 := below_call L2 B3
     exact ⟨h, l, rfl, wh, wl, by rw [HM.out]; exact num_mul_pow ah al h l M h1 h2 wh wl (from_mod _ _ _ F (fun j hj => rfl)), (L3.setCell (by simp) _).setCell (by simp) _⟩
/-! ### Down -/
end Go.Proofs.YteafnkimcidkhaaGreat
namespace Go.Proofs.YteafnkimcidkhaaGreat
open Go.RowKit
set_option linter.unusedVariables false

structure SumMem (n : Nat) (sh sl : Int) (w : World) : Prop where
 s0 : n < w.heap.size
 s1 : n + 1 < w.heap.size
 d0 : ∃ x, w.cell? ⟨n, 0, none⟩ = some (.int .u64 x)
 d1 : ∃ x, w.cell? ⟨n, 1, none⟩ = some (.int .u64 x)
 e0 : w.cell? ⟨n + 1, 0, none⟩ = some (.int .u64 sh)
 e1 : w.cell? ⟨n + 1, 1, none⟩ = some (.int .u64 sl)
 f0 : w.frozen? ⟨n, 0, none⟩ = false
 f1 : w.frozen? ⟨n, 1, none⟩ = false
 f2 : w.frozen? ⟨n + 1, 0, none⟩ = false
 f3 : w.frozen? ⟨n + 1, 1, none⟩ = false
theorem SumMem.below {n : Nat} {sh sl : Int} {W w1 : World} (h : SumMem n sh sl W) (hb : Below W.heap.size W w1) : SumMem n sh sl w1 := by
 obtain ⟨hc, hf⟩ := bcell hb
 have hs := hb.size
 refine ⟨by have := h.s0; omega, by have := h.s1; omega, ?_, ?_, ?_, ?_, ?_, ?_, ?_, ?_⟩
 ·rw [hc _ _ h.s0]; exact h.d0
 ·rw [hc _ _ h.s0]; exact h.d1
 ·rw [hc _ _ h.s1]; exact h.e0
 ·rw [hc _ _ h.s1]; exact h.e1
 ·rw [hf _ _ h.s0]; exact h.f0
 ·rw [hf _ _ h.s0]; exact h.f1
 ·rw [hf _ _ h.s1]; exact h.f2
 ·rw [hf _ _ h.s1]; exact h.f3
theorem SumMem.set {n : Nat} {sh sl : Int} {W : World} (h : SumMem n sh sl W) (x y : Int) : SumMem n x y ((W.setCell ⟨n + 1, 0, none⟩ (.int .u64 x)).setCell ⟨n + 1, 1, none⟩ (.int .u64 y)) := by
 obtain ⟨s0, s1, ⟨x0, d0⟩, ⟨x1, d1⟩, e0, e1, f0, f1, f2, f3⟩ := h
 refine ⟨by simpa using s0, by simpa using s1, ⟨x0, ?_⟩, ⟨x1, ?_⟩, ?_, ?_, ?_, ?_, ?_, ?_⟩ <;> simp [go_sem, *]
theorem SumMem.drew {n : Nat} {sh sl : Int} {W : World} (h : SumMem n sh sl W) : SumMem n sh sl W.drew := ⟨h.s0, h.s1, h.d0, h.d1, h.e0, h.e1, h.f0, h.f1, h.f2, h.f3⟩
theorem sum_start (w : World) : SumMem w.heap.size 0 0 ((w.alloc (.cells #[.int .u64 0, .int .u64 0] 139)).alloc (.cells #[.int .u64 0, .int .u64 0] 139)) := by
 constructor <;> first | (simp [go_sem]; done) | (simp; omega) | (exact ⟨0, by simp [go_sem]⟩)
theorem mul_step0 (a b k : Nat) (h : b.testBit k = false) : a * (b % 2 ^ (k + 1)) = a * (b % 2 ^ k) := by
 rw [bitN, decide_eq_false_iff_not] at h
 rw [Nat.mod_pow_succ]
 have : b / 2 ^ k % 2 = 0 := by omega
 rw [this]; simp
theorem mul_step1 (a b k : Nat) (h : b.testBit k = true) : a * (b % 2 ^ (k + 1)) = a * (b % 2 ^ k) + a * 2 ^ k := by
 rw [bitN, decide_eq_true_iff] at h
 rw [Nat.mod_pow_succ, h, Nat.mul_one, Nat.mul_add]
theorem mul_lt (a b k : Nat) (ha : a < 18446744073709551616) (hb : b < 18446744073709551616) : a * (b % 2 ^ k) < 340282366920938463463374607431768211456 := by
 have l := Nat.mod_le b (2 ^ k)
 have : a * (b % 2 ^ k) ≤ 18446744073709551615 * 18446744073709551615 := Nat.mul_le_mul (by omega) (by omega)
 omega
theorem mul_add_step (a b k : Nat) (sh sl ph pl rh rl : Int) (ha : a < 18446744073709551616) (hb : b < 18446744073709551616) (hk : k < 64) (h : b.testBit k = true)
  (S : num sh sl = ((a * (b % 2 ^ k) : Nat) : Int)) (P : num ph pl = num 0 a * 2 ^ k % 340282366920938463463374607431768211456) (R : num rh rl = (num sh sl + num ph pl) % 340282366920938463463374607431768211456) :
  num rh rl = ((a * (b % 2 ^ (k + 1)) : Nat) : Int) := by
 have e := mul_step1 a b k h
 have l := mul_lt a b (k + 1) ha hb
 have p0 : num 0 (a : Int) * 2 ^ k = ((a * 2 ^ k : Nat) : Int) := by unfold num; simp
 rw [p0] at P
 rw [e] at l
 generalize a * 2 ^ k = x at *
 generalize a * (b % 2 ^ k) = y at *
 rw [e, R, S, P]
 omega
set_option maxHeartbeats 1600000 in
theorem rmul_any (a b : Int) (h1 : Word a) (h2 : Word b) (w : World) :
  Calls Tryz.prog 117 #[.int .u64 a, .int .u64 b] w fun e w' =>
   ∃ (h l : Int), e = .returned (.agg #[.int .u64 h, .int .u64 l]) ∧ Word h ∧ Word l ∧ Hid (num h l = a * b) ∧ Below w.heap.size w w' := by
 obtain ⟨x, rfl⟩ := Int.eq_ofNat_of_zero_le h1.1
 obtain ⟨y, rfl⟩ := Int.eq_ofNat_of_zero_le h2.1
 have hx : x < 18446744073709551616 := by have := h1.2; omega
 have hy : y < 18446744073709551616 := by have := h2.2; omega
 have m0 := sum_start w
 go_enter Tryz.func117, Tryz.ntmps117
 go_wp2_with fail
 go_loopw [6] (fun i wr => ∃ (k : Nat) (sh sl : Int), k ≤ 64 ∧ i = .int .i64 k ∧ Word sh ∧ Word sl ∧ Hid (num sh sl = ((x * (y % 2 ^ k) : Nat) : Int)) ∧ SumMem w.heap.size sh sl wr ∧ Below w.heap.size w wr) (fun i _ => 64 - (intOf i).toNat)
 case atStart => exact ⟨0, 0, 0, by omega, rfl, word_zero, word_zero, by rw [Nat.pow_zero, Nat.mod_one]; exact rfl, m0, below_two _ _ _⟩
 case round =>
  obtain ⟨k, sh, sl, hk, rfl, wsh, wsl, S, m, L⟩ := hrel
  obtain ⟨s0, s1, ⟨x0, d0⟩, ⟨x1, d1⟩, e0, e1, f0, f1, f2, f3⟩ := id m
  by_cases hlt : k < 64
  ·have t1 : (k : Int) < 64 := by omega
   have q1 := bit_of (y : Int) h2 k
   rw [Int.toNat_natCast] at q1
   cases hb : y.testBit k
   ·rw [hb] at q1
    have S2 : Hid (num sh sl = ((x * (y % 2 ^ (k + 1)) : Nat) : Int)) := by rw [mul_step0 x y k hb]; exact S
    clear hb
    go_wp2_with fail
    go_roundw
    case rel => exact ⟨k + 1, sh, sl, by omega, by go_num, wsh, wsl, S2, m, L⟩
    case measure => simp [intOf]; omega
   ·rw [hb] at q1
    have HB : Hid _ := hb
    clear hb
    go_wp2_with fail
    go_region_with
     (first
      | (go_at_call 164; refine (rshl_any 0 x k word_zero h1 (by omega) (by omega) _).mono ?_; rintro e w2 ⟨ph, pl, rfl, wph, wpl, P, B2⟩; have m2 := m.drew.below B2; have L2 := below_call L.drew B2; clear s0 s1 d0 d1 e0 e1 f0 f1 f2 f3; obtain ⟨s0, s1, ⟨x2, d0⟩, ⟨x3, d1⟩, e0, e1, f0, f1, f2, f3⟩ := id m2)
      | (go_at_call 163; refine (radd_any sh sl ph pl wsh wsl wph wpl _).mono ?_; rintro e w3 ⟨rh, rl, rc, rfl, wrh, wrl, R, _, B3⟩; have m3 := m2.below B3; have L3 := below_call L2 B3; clear s0 s1 d0 d1 e0 e1 f0 f1 f2 f3; obtain ⟨s0, s1, ⟨x4, d0⟩, ⟨x5, d1⟩, e0, e1, f0, f1, f2, f3⟩ := id m3))
    all_goals
     go_wp2_with fail
     go_roundw
     case rel => exact ⟨k + 1, rh, rl, by omega, by go_num, wrh, wrl, mul_add_step x y k sh sl ph pl rh rl hx hy hlt HB.out S.out (by have := P.out; rw [Int.toNat_natCast] at this; exact this) R.out, m3.set rh rl, (L3.setCell (by simp) _).setCell (by simp) _⟩
     case measure => simp [intOf]; omega
  ·have : k = 64 := by omega
   subst this
   go_wp2_with fail
   refine bodyPost_ret (v := .agg #[.int .u64 sh, .int .u64 sl]) (by simp [results, Tryz.results117, go_sem, *]) rfl ?_
   refine ⟨sh, sl, rfl, wsh, wsl, ?_, (L.setCell (by simp) _).setCell (by simp) _⟩
   have := S.out
   rw [Nat.mod_eq_of_lt (show y < 2 ^ 64 by omega)] at this
   show num sh sl = _
   rw [this]; simp
end Go.Proofs.YteafnkimcidkhaaGreat
namespace Go.Proofs.YteafnkimcidkhaaGreat
open Go.RowKit
set_option linter.unusedVariables false
set_option linter.unusedSimpArgs false
theorem risInf_any (s : Bool) (a : Int) (h : Word a) (w : World) : Calls Tryz.prog 88 #[.int .i64 (fb s), .int .u64 a] w fun e w' => e = .returned (.bool (cls s a == 4)) ∧ ∃ n, w' = w.drewN n := by
 have hc := rclass_any s a h
 generalize cls s a = k at *
 generalize fb s = f at *
 go_enter Tryz.func88, Tryz.ntmps88
 go_wp2_with (go_at_call 85; refine (hc _).mono ?_; rintro e w1 ⟨rfl, n, rfl⟩)
 go_ret
 exact ⟨rfl, n, rfl⟩
theorem rvalue_any (s : Bool) (a : Int) (h : Word a) (hw : wideB s a = false) (w : World) : Calls Tryz.prog 90 #[.int .i64 (fb s), .int .u64 a] w fun e w' => e = .returned (.tuple #[.int .u64 (whl s a), .int .i64 (pwr s a)]) ∧ w' = w.drew := by
 have h1 := h.1
 have h2 := h.2
 cases s
 ·have hs := rsize_d
  have hp : ∀ w, Calls Tryz.prog 127 #[.int .i64 0, .int .u64 a] w fun e w' => e = .returned (.tuple #[.int .u64 (xpo false a), .int .u64 (a % 4503599627370496)]) ∧ w' = w.drew := rparts_any false a h
  have e1 : zOf false a / 2 ^ fP false = xpo false a := by
   rw [zOf_double a h]
   show a % 9223372036854775808 / 4503599627370496 = a / 4503599627370496 % 2048
   omega
  have x0 : 0 ≤ xpo false a ∧ xpo false a < 2048 := by
   show 0 ≤ a / 4503599627370496 % 2048 ∧ a / 4503599627370496 % 2048 < 2048
   omega
  have hwh : whl false a = if 0 < xpo false a then a % 4503599627370496 + 4503599627370496 else a % 4503599627370496 := by unfold whl; rw [e1]; rfl
  have hpw : pwr false a = if 0 < xpo false a then -1074 + (xpo false a - 1) else -1074 := by unfold pwr; rw [e1]; rfl
  have om : bits BinOp.or IntKind.u64 (a % 4503599627370496) 4503599627370496 = a % 4503599627370496 + 4503599627370496 := by
   obtain ⟨x, hx⟩ : ∃ x : Nat, a % 4503599627370496 = x := ⟨(a % 4503599627370496).toNat, by omega⟩
   rw [hx]
   have t := u64_or_nat x 4503599627370496 (by omega) (by decide)
   have o := Nat.two_pow_add_eq_or_of_lt (i := 52) (b := x) (by omega) 1
   rw [Nat.mul_one, Nat.or_comm] at o
   rw [show (4503599627370496 : Nat) = 2 ^ 52 from rfl, ← o] at t
   exact t.trans (by rw [show (2 : Nat) ^ 52 = 4503599627370496 from rfl]; omega)
  show Calls Tryz.prog 90 #[.int .i64 0, .int .u64 a] w _
  rw [hwh, hpw]
  clear hwh hpw e1
  have om2 : a % 4503599627370496 + 4503599627370496 < 18446744073709551616 := by omega
  generalize xpo false a = X at *
  obtain ⟨x0, x1⟩ := x0
  generalize a % 4503599627370496 = M at *
  by_cases c : X = 0
  ·subst c
   rw [if_neg (by decide), if_neg (by decide)]
   go_enter Tryz.func90, Tryz.ntmps90
   go_wp2_with (first
    | (go_at_call 126; refine (hs _).mono ?_; rintro e w1 ⟨rfl, rfl⟩)
    | (go_at_call 127; refine (hp _).mono ?_; rintro e w1 ⟨rfl, rfl⟩))
   exact bodyPost_ret (v := .tuple #[.int .u64 M, .int .i64 (-1074)]) (by simp [results, Tryz.results90, go_sem]) rfl ⟨rfl, rfl⟩
  ·rw [if_pos (by omega), if_pos (by omega)]
   have c' : (X == 0) = false := by simp [c]
   have e3 : X - 1 + -1074 = -1074 + (X - 1) := by omega
   generalize M + 4503599627370496 = MM at *
   go_enter Tryz.func90, Tryz.ntmps90
   go_wp2_with (first
    | (go_at_call 126; refine (hs _).mono ?_; rintro e w1 ⟨rfl, rfl⟩)
    | (go_at_call 127; refine (hp _).mono ?_; rintro e w1 ⟨rfl, rfl⟩))
   refine bodyPost_ret (v := .tuple #[.int .u64 MM, .int .i64 (-1074 + (X - 1))]) ?_ rfl ⟨rfl, rfl⟩
   simp [results, Tryz.results90, go_sem]
   try omega
 ·have a3 : a < 4294967296 := by unfold wideB at hw; simp at hw; exact hw
  have hs := rsize_s
  have hp : ∀ w, Calls Tryz.prog 127 #[.int .i64 1, .int .u64 a] w fun e w' => e = .returned (.tuple #[.int .u64 (xpo true a), .int .u64 (a % 8388608)]) ∧ w' = w.drew := rparts_any true a h
  have e1 : zOf true a / 2 ^ fP true = xpo true a := by
   rw [zOf_single a h1 a3]
   show a % 2147483648 / 8388608 = a / 8388608 % 256
   omega
  have x0 : 0 ≤ xpo true a ∧ xpo true a < 256 := by
   show 0 ≤ a / 8388608 % 256 ∧ a / 8388608 % 256 < 256
   omega
  have hwh : whl true a = if 0 < xpo true a then a % 8388608 + 8388608 else a % 8388608 := by unfold whl; rw [e1]; rfl
  have hpw : pwr true a = if 0 < xpo true a then -149 + (xpo true a - 1) else -149 := by unfold pwr; rw [e1]; rfl
  have om : bits BinOp.or IntKind.u64 (a % 8388608) 8388608 = a % 8388608 + 8388608 := by
   obtain ⟨x, hx⟩ : ∃ x : Nat, a % 8388608 = x := ⟨(a % 8388608).toNat, by omega⟩
   rw [hx]
   have t := u64_or_nat x 8388608 (by omega) (by decide)
   have o := Nat.two_pow_add_eq_or_of_lt (i := 23) (b := x) (by omega) 1
   rw [Nat.mul_one, Nat.or_comm] at o
   rw [show (8388608 : Nat) = 2 ^ 23 from rfl, ← o] at t
   exact t.trans (by rw [show (2 : Nat) ^ 23 = 8388608 from rfl]; omega)
  show Calls Tryz.prog 90 #[.int .i64 1, .int .u64 a] w _
  rw [hwh, hpw]
  clear hwh hpw e1
  have om2 : a % 8388608 + 8388608 < 18446744073709551616 := by omega
  generalize xpo true a = X at *
  obtain ⟨x0, x1⟩ := x0
  generalize a % 8388608 = M at *
  by_cases c : X = 0
  ·subst c
   rw [if_neg (by decide), if_neg (by decide)]
   go_enter Tryz.func90, Tryz.ntmps90
   go_wp2_with (first
    | (go_at_call 126; refine (hs _).mono ?_; rintro e w1 ⟨rfl, rfl⟩)
    | (go_at_call 127; refine (hp _).mono ?_; rintro e w1 ⟨rfl, rfl⟩))
   exact bodyPost_ret (v := .tuple #[.int .u64 M, .int .i64 (-149)]) (by simp [results, Tryz.results90, go_sem]) rfl ⟨rfl, rfl⟩
  ·rw [if_pos (by omega), if_pos (by omega)]
   have c' : (X == 0) = false := by simp [c]
   have e3 : X - 1 + -149 = -149 + (X - 1) := by omega
   generalize M + 8388608 = MM at *
   go_enter Tryz.func90, Tryz.ntmps90
   go_wp2_with (first
    | (go_at_call 126; refine (hs _).mono ?_; rintro e w1 ⟨rfl, rfl⟩)
    | (go_at_call 127; refine (hp _).mono ?_; rintro e w1 ⟨rfl, rfl⟩))
   refine bodyPost_ret (v := .tuple #[.int .u64 MM, .int .i64 (-149 + (X - 1))]) ?_ rfl ⟨rfl, rfl⟩
   simp [results, Tryz.results90, go_sem]
   try omega
theorem row_bl {w : World} {b n A : Nat} (row : RowB w b n (fun i => A.testBit i)) : ∀ j u, (Bl n A)[j]? = some u → w.cell? (Addr.add ⟨b, 0, none⟩ j) = some u := by
 intro j u hj
 have hl : j < n := by
  by_cases c : j < n
  ·exact c
  ·rw [List.getElem?_eq_none (by rw [Bl_len]; omega)] at hj; cases hj
 rw [Bl_get _ _ _ hl] at hj
 have := row j hl
 have e : Addr.add ⟨b, 0, none⟩ j = ⟨b, j, none⟩ := by simp [Addr.add]; intro h; exact h.symm
 rw [e, this, hj]
theorem below_drewN {B : Nat} {a w : World} (h : Below B a w) (n : Nat) : Below B a (w.drewN n) := ⟨h.os, h.tape, h.output, h.size, h.block⟩
end Go.Proofs.YteafnkimcidkhaaGreat
namespace Go.Proofs.YteafnkimcidkhaaGreat
open Go.RowKit
set_option linter.unusedVariables false

/-! ### The number of bits -/
structure LenTo (A k n : Nat) : Prop where
 le : n ≤ k
 lt : A % 2 ^ k < 2 ^ n
 ge : A % 2 ^ k = 0 ∨ 2 ^ n ≤ 2 * (A % 2 ^ k)
 zero : A % 2 ^ k = 0 → n = 0
theorem LenTo.no {A k n : Nat} (h : LenTo A k n) (hb : A.testBit k = false) : LenTo A (k + 1) n := by
 rw [bitN, decide_eq_false_iff_not] at hb
 have e : A % 2 ^ (k + 1) = A % 2 ^ k := by
  rw [Nat.mod_pow_succ]
  have : A / 2 ^ k % 2 = 0 := by omega
  rw [this]; omega
 exact ⟨by have := h.le; omega, by rw [e]; exact h.lt, by rw [e]; exact h.ge, by rw [e]; exact h.zero⟩
/-! ### Which one is greater -/
end Go.Proofs.YteafnkimcidkhaaGreat



