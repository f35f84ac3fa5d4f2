/- Texts of the proof, put together. -/
import Derived.Test.YthjoigkckgdcaaaGreatXMB3
import Derived.Deep.OwnRows
import Derived.Deep.QuietTactic
import Derived.BigQuiet
import Derived.Deep.CutRange
import Derived.WalkKit
import Derived.Laws.AppendOwnNone
namespace Go.Proofs.YthjoigkckgdcaaaGreat
open Go.RowKit
set_option linter.unusedVariables false
set_option linter.unusedSimpArgs false
def refSize (s : Bool) (m : Int) (below : Bool) (last : Int) (q1 : Nat) : Int :=
  if (if (if q1 = 2 ^ (fP s + 1) then q1 / 2 else q1) < 2 ^ fP s then 0 else (if q1 = 2 ^ (fP s + 1) then last + 1 else last) - fL s + 1) ≥ 2 ^ (fE s).toNat - 1 then
    (if m = 3 ∨ m = 1 ∧ below = true ∨ m = 2 ∧ below = false then fI s - 1 else fI s)
  else (if (if q1 = 2 ^ (fP s + 1) then q1 / 2 else q1) < 2 ^ fP s then 0 else (if q1 = 2 ^ (fP s + 1) then last + 1 else last) - fL s + 1) * 2 ^ fP s + (((if q1 = 2 ^ (fP s + 1) then q1 / 2 else q1) % 2 ^ fP s : Nat) : Int)
theorem great_ref (s : Bool) (m : Int) (b : Bool) : great s m b = if m = 3 ∨ m = 1 ∧ b = true ∨ m = 2 ∧ b = false then fI s - 1 else fI s := by
  unfold great away
  by_cases c1 : m = 1
  · subst c1; cases b <;> rfl
  · by_cases c2 : m = 2
    · subst c2; cases b <;> rfl
    · by_cases c3 : m = 3
      · subst c3; cases b <;> rfl
      · simp [c1, c2, c3]
theorem fI_eq (s : Bool) : fI s = (2 ^ (fE s).toNat - 1) * 2 ^ fP s := by cases s <;> rfl
theorem fE_ge (s : Bool) : (2 : Int) ≤ 2 ^ (fE s).toNat - 1 := by cases s <;> decide
theorem ref_fin (s : Bool) (m : Int) (below : Bool) (last : Int) (q : Nat) (h l : Bool) (h1 : q < 2 ^ (fP s + 1)) (h2 : last = fL s ∨ 2 ^ fP s ≤ q) (h3 : fL s ≤ last) :
    refSize s m below last (q + if away m below (q % 2 == 1) h l then 1 else 0) = fin s m below last q h l := by
  unfold refSize fin
  rw [← great_ref, fI_eq]
  have e2 := fE_ge s
  have g1 : q ≤ (q + if away m below (q % 2 == 1) h l then 1 else 0) := Nat.le_add_right _ _
  have g2 : (q + if away m below (q % 2 == 1) h l then 1 else 0) ≤ q + 1 := by split <;> omega
  generalize (q + if away m below (q % 2 == 1) h l then 1 else 0) = Y at *
  generalize (2 : Int) ^ (fE s).toNat - 1 = X at *
  have pp := Nat.two_pow_pos (fP s)
  rw [Nat.pow_succ] at *
  rw [pow_cast]
  generalize 2 ^ fP s = P at *
  obtain ⟨d, hd⟩ : ∃ d : Nat, last - fL s = d := ⟨(last - fL s).toNat, by omega⟩
  obtain ⟨x, hx⟩ : ∃ x : Nat, X = x := ⟨X.toNat, by omega⟩
  rw [hd, hx]
  by_cases c : Y = P * 2
  · have y2 : Y / 2 = P := by omega
    have np : ¬ P < P := by omega
    rw [if_pos c, if_pos c, y2]
    simp only [if_neg np]
    rw [Nat.mod_self, show last + 1 - fL s + 1 = ((d + 2 : Nat) : Int) by omega]
    have t : ((d + 2 : Nat) : Int) * (P : Int) = (d : Int) * P + (Y : Int) := by
      have k : (d + 2) * P = d * P + P * 2 := by rw [Nat.add_mul, Nat.mul_comm 2]
      rw [c, ← Int.natCast_mul, ← Int.natCast_mul, k, Int.natCast_add]
    by_cases g : ((x : Int)) ≤ ((d + 2 : Nat) : Int)
    · rw [if_pos g, if_pos (by rw [← t]; exact Int.mul_le_mul_of_nonneg_right g (by omega))]
    · rw [if_neg g, if_neg (by rw [← t]; intro k; exact g (Int.le_of_mul_le_mul_right k (by omega)))]
      rw [← t]; simp
  · rw [if_neg c, if_neg c]
    by_cases z : Y < P
    · have dz : d = 0 := by
        rcases h2 with k | k
        · omega
        · omega
      rw [if_pos z, if_neg (by omega), Nat.mod_eq_of_lt z, dz]
      have : ¬ ((x : Int) * (P : Int) ≤ ((0 : Nat) : Int) * (P : Int) + (Y : Int)) := by
        have k : (2 : Int) * P ≤ (x : Int) * P := Int.mul_le_mul_of_nonneg_right (by omega) (by omega)
        simp
        omega
      rw [if_neg this]
      simp
    · have m1 : Y % P = Y - P := by
        rw [Nat.mod_eq_sub_mod (by omega), Nat.mod_eq_of_lt (by omega)]
      rw [if_neg z, m1, show last - fL s + 1 = ((d + 1 : Nat) : Int) by omega]
      have t : ((d + 1 : Nat) : Int) * (P : Int) + ((Y - P : Nat) : Int) = (d : Int) * P + (Y : Int) := by
        rw [← Int.natCast_mul, ← Int.natCast_mul]
        have : (d + 1) * P = d * P + P := by rw [Nat.add_mul, Nat.one_mul]
        omega
      by_cases g : ((x : Int)) ≤ ((d + 1 : Nat) : Int)
      · have k : (x : Int) * P ≤ ((d + 1 : Nat) : Int) * P := Int.mul_le_mul_of_nonneg_right g (by omega)
        rw [if_pos g, if_pos (by omega)]
      · have k : ((d + 1 : Nat) : Int) * P + P ≤ (x : Int) * P := by
          have k' : (((d + 1 : Nat) : Int) + 1) * P ≤ (x : Int) * P := Int.mul_le_mul_of_nonneg_right (by omega) (by omega)
          rw [Int.add_mul, Int.one_mul] at k'
          exact k'
        rw [if_neg g, if_neg (by omega)]
        exact t
/-! ### What is kept, bit by bit from the top -/
def qTo (A : Nat) (k : Int) (j : Nat) : Nat := if (j : Int) ≤ k then A / 2 ^ k.toNat else A / 2 ^ j * 2 ^ ((j : Int) - k).toNat
theorem qTo_top {A n : Nat} (k : Int) (h : A < 2 ^ n) : qTo A k n = 0 := by
  unfold qTo
  split
  · exact Nat.div_eq_of_lt (Nat.lt_of_lt_of_le h (Nat.pow_le_pow_right (by decide) (by omega)))
  · rw [Nat.div_eq_of_lt h, Nat.zero_mul]
theorem qTo_end (A : Nat) (k : Int) : qTo A k 0 = quo A k := by
  unfold qTo quo
  by_cases c : 0 < k
  · rw [if_pos (by omega), if_neg (by omega)]
  · by_cases d : k = 0
    · subst d
      rw [if_pos (by decide), if_pos (by decide)]
      simp
    · rw [if_neg (by omega), if_pos (by omega), Nat.pow_zero, Nat.div_one]
      congr 2
      omega
theorem qTo_no (A : Nat) (k : Int) (i : Nat) (h : (i : Int) < k) : qTo A k i = qTo A k (i + 1) := by
  unfold qTo
  rw [if_pos (by omega), if_pos (by omega)]
theorem qTo_yes (A : Nat) (k : Int) (i : Nat) (h : k ≤ (i : Int)) : qTo A k i = qTo A k (i + 1) + (A.testBit i).toNat * 2 ^ ((i : Int) - k).toNat ∧ qTo A k (i + 1) % 2 ^ (((i : Int) - k).toNat + 1) = 0 := by
  have e : qTo A k i = A / 2 ^ i * 2 ^ ((i : Int) - k).toNat := by
    unfold qTo
    by_cases c : (i : Int) ≤ k
    · have : k.toNat = i := by omega
      rw [if_pos c, this, show ((i : Int) - k).toNat = 0 by omega, Nat.pow_zero, Nat.mul_one]
    · rw [if_neg c]
  have e' : qTo A k (i + 1) = A / 2 ^ (i + 1) * 2 ^ (((i : Int) - k).toNat + 1) := by
    unfold qTo
    rw [if_neg (by omega)]
    congr 2
    omega
  refine ⟨?_, by rw [e', Nat.mul_mod_left]⟩
  rw [e, e', Nat.pow_succ, Nat.pow_succ, ← Nat.div_div_eq_div_mul, Nat.testBit_eq_decide_div_mod_eq]
  generalize A / 2 ^ i = B
  generalize 2 ^ ((i : Int) - k).toNat = T
  have m : B = 2 * (B / 2) + B % 2 := by omega
  have t : (decide (B % 2 = 1)).toNat = B % 2 := by
    have : B % 2 = 0 ∨ B % 2 = 1 := by omega
    rcases this with c | c <;> rw [c] <;> rfl
  rw [t]
  conv => lhs; rw [m, Nat.add_mul]
  congr 1
  rw [Nat.mul_comm 2, Nat.mul_assoc, Nat.mul_comm 2]
theorem qTo_le (A : Nat) (k : Int) (i : Nat) : qTo A k (i + 1) ≤ qTo A k i := by
  by_cases c : k ≤ (i : Int)
  · rw [(qTo_yes A k i c).1]; exact Nat.le_add_right _ _
  · rw [qTo_no A k i (by omega)]; exact Nat.le_refl _
theorem qTo_quo (A : Nat) (k : Int) (i : Nat) : qTo A k i ≤ quo A k := by
  induction i with
  | zero => rw [qTo_end]; exact Nat.le_refl _
  | succ i ih => exact Nat.le_trans (qTo_le A k i) ih
theorem or_pow (q t : Nat) (h : q % 2 ^ (t + 1) = 0) : q ||| 2 ^ t = q + 2 ^ t := by
  obtain ⟨b, rfl⟩ : ∃ b, q = 2 ^ (t + 1) * b := ⟨q / 2 ^ (t + 1), by have := Nat.div_add_mod q (2 ^ (t + 1)); omega⟩
  exact (Nat.two_pow_add_eq_or_of_lt (i := t + 1) (b := 2 ^ t) (Nat.pow_lt_pow_right (by decide) (by omega)) b).symm
end Go.Proofs.YthjoigkckgdcaaaGreat
namespace Go.Proofs.YthjoigkckgdcaaaGreat
open Go.RowKit
set_option linter.unusedVariables false
set_option linter.unusedSimpArgs false
theorem half_bit (n : Nat) (k : Int) : half n k = (decide (1 ≤ k) && n.testBit (k.toNat - 1)) := by
  unfold half
  rw [Nat.testBit_eq_decide_div_mod_eq]
  congr 1
theorem mod_no {A i : Nat} (h : A.testBit i = false) : A % 2 ^ (i + 1) = A % 2 ^ i := by
  rw [Nat.mod_pow_succ]
  rw [Nat.testBit_eq_decide_div_mod_eq, decide_eq_false_iff_not] at h
  have : A / 2 ^ i % 2 = 0 := by omega
  rw [this, Nat.mul_zero, Nat.add_zero]
theorem mod_yes {A i : Nat} (h : A.testBit i = true) : A % 2 ^ (i + 1) = A % 2 ^ i + 2 ^ i := by
  rw [Nat.mod_pow_succ]
  rw [Nat.testBit_eq_decide_div_mod_eq, decide_eq_true_iff] at h
  rw [h, Nat.mul_one]
theorem half_other {A i : Nat} {k : Int} (h : ¬ (i : Int) = k - 1) : half (A % 2 ^ (i + 1)) k = half (A % 2 ^ i) k := by
  rw [half_bit, half_bit, Nat.testBit_mod_two_pow, Nat.testBit_mod_two_pow]
  by_cases c : 1 ≤ k
  · have : decide (k.toNat - 1 < i + 1) = decide (k.toNat - 1 < i) := by rw [decide_eq_decide]; omega
    rw [this]
  · rw [decide_eq_false c, Bool.false_and, Bool.false_and]
theorem half_at {A i : Nat} {k : Int} (hb : A.testBit i = true) (h : (i : Int) = k - 1) : half (A % 2 ^ (i + 1)) k = true := by
  rw [half_bit, Nat.testBit_mod_two_pow]
  have e : k.toNat - 1 = i := by omega
  rw [e, hb, decide_eq_true (by omega : 1 ≤ k), decide_eq_true (by omega : i < i + 1)]
  rfl
theorem low_other {A i : Nat} {k : Int} (h : ¬ (i : Int) < k - 1) : low (A % 2 ^ (i + 1)) k = low (A % 2 ^ i) k := by
  unfold low
  by_cases c : 1 ≤ k
  · have d1 : 2 ^ (k.toNat - 1) ∣ 2 ^ i := Nat.pow_dvd_pow 2 (by omega)
    have d2 : 2 ^ (k.toNat - 1) ∣ 2 ^ (i + 1) := Nat.pow_dvd_pow 2 (by omega)
    rw [Nat.mod_mod_of_dvd _ d1, Nat.mod_mod_of_dvd _ d2]
  · rw [decide_eq_false c, Bool.false_and, Bool.false_and]
theorem low_at {A i : Nat} {k : Int} (hb : A.testBit i = true) (h : (i : Int) < k - 1) : low (A % 2 ^ (i + 1)) k = true := by
  unfold low
  have l : A % 2 ^ (i + 1) < 2 ^ (k.toNat - 1) := Nat.lt_of_lt_of_le (Nat.mod_lt _ (Nat.two_pow_pos _)) (Nat.pow_le_pow_right (by decide) (by omega))
  rw [Nat.mod_eq_of_lt l, mod_yes hb, decide_eq_true (by omega : 1 ≤ k)]
  have := Nat.two_pow_pos i
  simp
theorem hl_no {A i : Nat} {k : Int} (hb : A.testBit i = false) : half (A % 2 ^ (i + 1)) k = half (A % 2 ^ i) k ∧ low (A % 2 ^ (i + 1)) k = low (A % 2 ^ i) k := by
  rw [mod_no hb]; exact ⟨rfl, rfl⟩
theorem hl_eq {A i : Nat} {k : Int} (hb : A.testBit i = true) (h : (i : Int) = k - 1) : half (A % 2 ^ (i + 1)) k = true ∧ low (A % 2 ^ (i + 1)) k = low (A % 2 ^ i) k := ⟨half_at hb h, low_other (by omega)⟩
theorem hl_lt {A i : Nat} {k : Int} (hb : A.testBit i = true) (h : (i : Int) < k - 1) : half (A % 2 ^ (i + 1)) k = half (A % 2 ^ i) k ∧ low (A % 2 ^ (i + 1)) k = true := ⟨half_other (by omega), low_at hb h⟩
theorem hl_gt {A i : Nat} {k : Int} (h : k - 1 < (i : Int)) : half (A % 2 ^ (i + 1)) k = half (A % 2 ^ i) k ∧ low (A % 2 ^ (i + 1)) k = low (A % 2 ^ i) k := ⟨half_other (by omega), low_other (by omega)⟩
theorem hl_zero (A : Nat) (k : Int) : half (A % 2 ^ 0) k = false ∧ low (A % 2 ^ 0) k = false := by
  rw [Nat.pow_zero, Nat.mod_one, half_bit]
  unfold low
  simp
theorem q_yes {A i : Nat} {k : Int} {t : Nat} (h : (i : Int) - k = (t : Int)) (ht : t < 64) (hq : quo A k < 2 ^ 63) (hb : A.testBit i = true) :
    bits BinOp.or IntKind.u64 ((qTo A k (i + 1) : Nat) : Int) (2 ^ t) = ((qTo A k i : Nat) : Int) := by
  obtain ⟨e1, e2⟩ := qTo_yes A k i (by omega)
  have tt : ((i : Int) - k).toNat = t := by omega
  rw [tt] at e1 e2
  have l := qTo_quo A k (i + 1)
  have p : 2 ^ t < 2 ^ 64 := Nat.pow_lt_pow_right (by decide) ht
  rw [pow_cast, u64_or_nat _ _ (by omega) (by omega), or_pow _ _ e2, e1, hb]
  simp
theorem q_no {A i : Nat} {k : Int} {t : Nat} (h : (i : Int) - k = (t : Int)) (ht : t < 64) (hq : quo A k < 2 ^ 63) (hb : A.testBit i = false) :
    bits BinOp.andNot IntKind.u64 (bits BinOp.or IntKind.u64 ((qTo A k (i + 1) : Nat) : Int) (2 ^ t)) (2 ^ t) = ((qTo A k i : Nat) : Int) := by
  obtain ⟨e1, e2⟩ := qTo_yes A k i (by omega)
  have tt : ((i : Int) - k).toNat = t := by omega
  rw [tt] at e1 e2
  have l := qTo_quo A k (i + 1)
  have p : 2 ^ t < 2 ^ 64 := Nat.pow_lt_pow_right (by decide) ht
  have o : qTo A k (i + 1) ||| 2 ^ t < 2 ^ 64 := Nat.or_lt_two_pow (by omega) p
  rw [pow_cast, u64_or_nat _ _ (by omega) (by omega), u64_andNot_nat _ _ (by omega) (by omega), e1, hb]
  congr 1
  simp only [Bool.toNat_false, Nat.zero_mul, Nat.add_zero]
  rw [show 18446744073709551615 - 2 ^ t = 2 ^ 64 - (2 ^ t + 1) by omega]
  have q0 : (qTo A k (i + 1)).testBit t = false := by
    have := Nat.testBit_mod_two_pow (qTo A k (i + 1)) (t + 1) t
    rw [e2, Nat.zero_testBit] at this
    simpa using this.symm
  apply Nat.eq_of_testBit_eq
  intro j
  rw [Nat.testBit_and, Nat.testBit_or, Nat.testBit_two_pow, Nat.testBit_two_pow_sub_succ p, Nat.testBit_two_pow]
  by_cases c : t = j
  · subst c; simp [q0]
  · by_cases c2 : j < 64
    · simp [c, c2]
    · have : (qTo A k (i + 1)).testBit j = false := Nat.testBit_lt_two_pow (Nat.lt_of_lt_of_le (by omega : qTo A k (i + 1) < 2 ^ 63) (Nat.pow_le_pow_right (by decide) (by omega)))
      simp [c, c2, this]
end Go.Proofs.YthjoigkckgdcaaaGreat
namespace Go.Proofs.YthjoigkckgdcaaaGreat
open Go.RowKit
set_option linter.unusedVariables false

def RowB (w : World) (b n : Nat) (f : Nat → Bool) : Prop := ∀ i, i < n → w.cell? ⟨b, i, none⟩ = some (.bool (f i))
def RowF (w : World) (b n : Nat) : Prop := ∀ i, i < n → w.frozen? ⟨b, i, none⟩ = false
def freshW (w : World) (n : Nat) : World := w.alloc (.cells (madeCells #[.bool false] n) 4)
theorem fresh_size (w : World) (n : Nat) : (freshW w n).heap.size = w.heap.size + 1 := by simp [freshW]
theorem fresh_below (w : World) (n : Nat) : Below w.heap.size w (freshW w n) := (Below.refl _ _).alloc (Nat.le_refl _) _
theorem fresh_row (w : World) (n : Nat) : RowB (freshW w n) w.heap.size n (fun _ => false) := by
  intro i hi
  have := size_madeCells #[Value.bool false] n
  simp [freshW, go_sem, madeCells, hi, Nat.mod_one]
theorem fresh_free (w : World) (n : Nat) : RowF (freshW w n) w.heap.size n := by
  intro i hi
  simp [freshW, go_sem]
theorem make_bools (n : Nat) (hn : n ≤ 1000000) (w : World) : (Instr.makeSlice 193 (.int .i64 n) (.int .i64 n)).run Tryz.prog w = .ok (.slice (some ⟨w.heap.size, 0, none⟩) n n) (freshW w n) := by
  exact run_make_row' (P := Tryz.prog) 193 4 (.bool false) 1 Tryz.underlying193 (by kernel_rfl) rfl .i64 .i64 n (by omega) (by omega) w
theorem make_128 (w : World) : (Instr.makeSlice 193 (.int .i64 128) (.int .i64 128)).run Tryz.prog w = .ok (.slice (some ⟨w.heap.size, 0, none⟩) 128 128) (freshW w 128) := make_bools 128 (by decide) w

theorem RowB.below {W w1 : World} {b n : Nat} {f : Nat → Bool} (h : RowB W b n f) (hb : Below W.heap.size W w1) (hs : b < W.heap.size) : RowB w1 b n f := fun i hi => by
  rw [(bcell hb).1 _ _ hs]; exact h i hi
theorem RowF.below {W w1 : World} {b n : Nat} (h : RowF W b n) (hb : Below W.heap.size W w1) (hs : b < W.heap.size) : RowF w1 b n := fun i hi => by
  rw [(bcell hb).2 _ _ hs]; exact h i hi
theorem RowF.set {W : World} {b n : Nat} (h : RowF W b n) (a : Addr) (v : Value) : RowF (W.setCell a v) b n := fun i hi => by
  simpa [go_sem] using h i hi
theorem RowB.set {W : World} {b n : Nat} {f : Nat → Bool} (h : RowB W b n f) (k : Nat) (v : Bool) (hk : k < n) : RowB (W.setCell ⟨b, k, none⟩ (.bool v)) b n (fun i => if i = k then v else f i) := fun i hi => by
  by_cases e : i = k
  · subst e
    simp [go_sem, h i hi]
  · rw [World.cell?_setCell_other _ _ _ _ (by first | (simp; done) | (simp; omega)), h i hi]
    simp [e]
theorem RowB.far {W : World} {b n : Nat} {f : Nat → Bool} (h : RowB W b n f) (a : Addr) (v : Value) (hk : a.block ≠ b) : RowB (W.setCell a v) b n f := fun i hi => by
  rw [World.cell?_setCell_far _ _ _ _ (by simpa using hk)]; exact h i hi
theorem RowB.drew {W : World} {b n : Nat} {f : Nat → Bool} (h : RowB W b n f) : RowB W.drew b n f := h
theorem RowF.drew {W : World} {b n : Nat} (h : RowF W b n) : RowF W.drew b n := h
theorem RowB.ext {W : World} {b n : Nat} {f g : Nat → Bool} (h : RowB W b n f) (e : ∀ i, i < n → f i = g i) : RowB W b n g := fun i hi => by rw [h i hi, e i hi]

def N (h l : Int) : Nat := (num h l).toNat
theorem N_cast {h l : Int} (a : Word h) (b : Word l) : ((N h l : Nat) : Int) = num h l := Int.toNat_of_nonneg (num_lo a b)
theorem N_lt {h l : Int} (a : Word h) (b : Word l) : N h l < 2 ^ 128 := by
  have := num_hi a b; have e := N_cast a b
  have : (2 : Nat) ^ 128 = 340282366920938463463374607431768211456 := by decide
  omega
theorem N_bit {h l : Int} (a : Word h) (b : Word l) (j : Nat) : (N h l).testBit j = if j < 64 then l.toNat.testBit j else h.toNat.testBit (j - 64) := by
  have e : N h l = 2 ^ 64 * h.toNat + l.toNat := by
    have := N_cast a b; unfold num Word at *; omega
  rw [e]
  exact Nat.testBit_two_pow_mul_add h.toNat (by have := b.1; have := b.2; omega) j
theorem and_one (x : Int) (hx : Word x) : bits BinOp.and IntKind.u64 x 1 = x % 2 := by
  obtain ⟨a, rfl⟩ := Int.eq_ofNat_of_zero_le hx.1
  have ha := hx.2
  have t := bits_and_u64_nat a 1 (by omega) (by omega)
  rw [Nat.and_one_is_mod] at t
  have t' : bits BinOp.and IntKind.u64 (a : Int) 1 = ((a % 2 : Nat) : Int) := t
  rw [t']; omega
theorem bit_of (x : Int) (hx : Word x) (k : Nat) : (bits BinOp.and IntKind.u64 (x / 2 ^ k) 1 == 1) = x.toNat.testBit k := by
  obtain ⟨a, rfl⟩ := Int.eq_ofNat_of_zero_le hx.1
  have ha := hx.2
  rw [castShr, and_one _ ⟨Int.natCast_nonneg _, by have := Nat.div_le_self a (2 ^ k); omega⟩, Int.toNat_natCast, Nat.testBit_eq_decide_div_mod_eq, Bool.eq_iff_iff, beq_iff_eq, decide_eq_true_iff]
  generalize a / 2 ^ k = q
  omega

def bitsTo (A k : Nat) (j : Nat) : Bool := if j < 64 then decide (j < k) && A.testBit j else decide (j - 64 < k) && A.testBit j
theorem bitsTo_zero (A : Nat) : bitsTo A 0 = fun _ => false := by funext j; simp [bitsTo]
theorem bitsTo_full (A j : Nat) (h : j < 128) : bitsTo A 64 j = A.testBit j := by
  unfold bitsTo; split
  · simp [*]
  · have : j - 64 < 64 := by omega
    simp [this]
theorem bitsTo_succ (A k : Nat) (hk : k < 64) : (fun i => if i = 64 + k then A.testBit (64 + k) else if i = k then A.testBit k else bitsTo A k i) = bitsTo A (k + 1) := by
  funext j
  unfold bitsTo
  by_cases e1 : j = 64 + k
  · subst e1
    have a1 : ¬ 64 + k < 64 := by omega
    have a2 : 64 + k - 64 < k + 1 := by omega
    simp [a1]
  · by_cases e2 : j = k
    · subst e2
      have a0 : ¬ j = 64 + j := by omega
      simp [hk]
    · simp only [if_neg e1, if_neg e2]
      by_cases c : j < 64
      · simp only [if_pos c]
        have : (decide (j < k)) = decide (j < k + 1) := by rw [decide_eq_decide]; omega
        rw [this]
      · simp only [if_neg c]
        have : (decide (j - 64 < k)) = decide (j - 64 < k + 1) := by rw [decide_eq_decide]; omega
        rw [this]

set_option maxHeartbeats 800000 in
theorem bits_any (ah al : Int) (h1 : Word ah) (h2 : Word al) (w : World) :
    Calls Tryz.prog 226 #[.agg #[.int .u64 ah, .int .u64 al]] w fun e w' =>
      ∃ b : Nat, e = .returned (.slice (some ⟨b, 0, none⟩) 128 128) ∧ w.heap.size ≤ b ∧ b < w'.heap.size ∧ RowB w' b 128 (N ah al).testBit ∧ RowF w' b 128 ∧ Below w.heap.size w w' := by
  have hmk := make_128
  have h1' := h1.1
  have h2' := h2.1
  go_enter Tryz.func226, Tryz.ntmps226
  go_wp2
  go_loopw [4] (fun i wr => ∃ k : Nat, k ≤ 64 ∧ i = .int .i64 k ∧ w.heap.size < wr.heap.size ∧ w.heap.size + 1 < wr.heap.size ∧ wr.cell? ⟨w.heap.size, 0, none⟩ = some (.int .u64 ah) ∧ wr.cell? ⟨w.heap.size, 1, none⟩ = some (.int .u64 al) ∧ RowB wr (w.heap.size + 1) 128 (bitsTo (N ah al) k) ∧ RowF wr (w.heap.size + 1) 128 ∧ Below w.heap.size w wr) (fun i _ => 64 - (intOf i).toNat)
  case atStart =>
    have z := fresh_size (w.alloc (.cells #[.int .u64 ah, .int .u64 al] 187)) 128
    have fb := fresh_below (w.alloc (.cells #[.int .u64 ah, .int .u64 al] 187)) 128
    have fr := fresh_row (w.alloc (.cells #[.int .u64 ah, .int .u64 al] 187)) 128
    have ff := fresh_free (w.alloc (.cells #[.int .u64 ah, .int .u64 al] 187)) 128
    simp only [World.size_alloc] at z fr ff
    refine ⟨0, by omega, rfl, by omega, by omega, ?_, ?_, ?_, ff, ?_⟩
    · rw [(bcell fb).1 _ _ (by simp)]; simp [go_sem]
    · rw [(bcell fb).1 _ _ (by simp)]; simp [go_sem]
    · rw [bitsTo_zero]; exact fr
    · exact ((Below.refl _ _).alloc (Nat.le_refl _) _).trans (fb.mono (by simp))
  case round =>
    obtain ⟨k, hk, rfl, s0, s1, c0, c1, hrow, hfree, hb⟩ := hrel
    by_cases hlt : k < 64
    · have g1 := hrow k (by omega)
      have f1 := hfree k (by omega)
      have g2 := hrow (64 + k) (by omega)
      have f2 := hfree (64 + k) (by omega)
      have q1 : (bits BinOp.and IntKind.u64 (al / 2 ^ k) 1 == 1) = (N ah al).testBit k := by
        rw [bit_of al h2, N_bit h1 h2, if_pos hlt]
      have q2 : (bits BinOp.and IntKind.u64 (ah / 2 ^ k) 1 == 1) = (N ah al).testBit (64 + k) := by
        rw [bit_of ah h1, N_bit h1 h2, if_neg (by omega), show 64 + k - 64 = k from by omega]
      go_wp2
      go_roundw
      case rel =>
        refine ⟨k + 1, by omega, by go_num, by simpa using s0, by simpa using s1, ?_, ?_, ?_, (hfree.set _ _).set _ _, (hb.setCell (by simp) _).setCell (by simp) _⟩
        · simp [go_sem, c0]
        · simp [go_sem, c1]
        · rw [← bitsTo_succ _ _ hlt]
          exact (hrow.set k _ (by omega)).set (64 + k) _ (by omega)
      case measure => simp [intOf]; omega
    · have : k = 64 := by omega
      subst this
      go_wp2
      go_ret
      exact ⟨_, rfl, by omega, s1, hrow.ext (fun i hi => bitsTo_full _ _ hi), hfree, hb⟩
end Go.Proofs.YthjoigkckgdcaaaGreat
namespace Go.Proofs.YthjoigkckgdcaaaGreat
open Go.RowKit
set_option linter.unusedVariables false
set_option linter.unusedSimpArgs false
theorem top_bit {A k : Nat} (h : A < 2 ^ (k + 1)) (hb : A.testBit k = true) : blen A = k + 1 := by
  rw [Nat.testBit_eq_decide_div_mod_eq, decide_eq_true_iff] at hb
  refine blen_uniq (by omega) ?_ h
  rw [Nat.add_sub_cancel]
  by_cases c : 2 ^ k ≤ A
  · exact c
  · rw [Nat.div_eq_of_lt (by omega)] at hb; omega
theorem no_bit {A k : Nat} (h : A < 2 ^ (k + 1)) (hb : A.testBit k = false) : A < 2 ^ k := by
  rw [Nat.testBit_eq_decide_div_mod_eq, decide_eq_false_iff_not] at hb
  by_cases c : 2 ^ k ≤ A
  · have p := Nat.two_pow_pos k
    rw [Nat.pow_succ] at h
    have : A / 2 ^ k = 1 := Nat.div_eq_of_lt_le (by omega) (by omega)
    rw [this] at hb; omega
  · omega
set_option maxHeartbeats 800000 in
theorem length_any (b n cap A : Nat) (hA : A < 2 ^ n) (hn : n ≤ 1000000) (w : World) (row : RowB w b n (fun i => A.testBit i)) :
    Calls Tryz.prog 254 #[.slice (some ⟨b, 0, none⟩) n cap] w fun e w' => e = .returned (.int .i64 (blen A : Int)) ∧ w' = w := by
  have HA : Hid _ := hA
  clear hA
  go_enter Tryz.func254, Tryz.ntmps254
  go_wp2
  go_loopw [3] (fun i wr => ∃ k : Nat, k ≤ n ∧ i = .int .i64 k ∧ Hid (A < 2 ^ k) ∧ wr = w) (fun i _ => (intOf i).toNat)
  case atStart => exact ⟨n, Nat.le_refl _, rfl, HA, rfl⟩
  case round =>
    obtain ⟨k, hk, rfl, E1, rfl⟩ := hrel
    rcases Nat.eq_zero_or_pos k with rfl | kp
    · have z : blen A = 0 := by
        have := E1.out
        simp at this
        subst this
        exact blen_zero
      have Z : Hid _ := z
      clear z
      go_wp2
      go_ret
      exact ⟨i64_eq (by rw [Z.out]), rfl⟩
    · obtain ⟨j, rfl⟩ : ∃ j, k = j + 1 := ⟨k - 1, by omega⟩
      have cj : wr.cell? ⟨b, j, none⟩ = some (.bool (A.testBit j)) := row j (by omega)
      have e1 : ((j + 1 : Nat) : Int) - 1 = (j : Int) := by omega
      have e2 : (0 : Int) < ((j + 1 : Nat) : Int) := by omega
      cases t : A.testBit j
      · rw [t] at cj
        have E2 : Hid _ := no_bit E1.out t
        clear t row
        go_wp2
        go_roundw
        case rel => exact ⟨j, by omega, by go_num, E2, by first | rfl | trivial⟩
        case measure => first | (simp [intOf]; done) | (simp [intOf]; omega)
      · rw [t] at cj
        have Z : Hid _ := top_bit E1.out t
        clear t row
        go_wp2
        go_ret
        exact ⟨i64_eq (by rw [Z.out]), rfl⟩
end Go.Proofs.YthjoigkckgdcaaaGreat
namespace Go.Proofs.YthjoigkckgdcaaaGreat
open Go.RowKit
set_option linter.unusedVariables false
set_option linter.unusedSimpArgs false
theorem or_top (x i : Nat) (h : x < 2 ^ i) (hi : i < 64) : bits BinOp.or IntKind.u64 ((2 ^ i : Nat) : Int) (x : Int) = ((2 ^ i + x : Nat) : Int) := by
  have p : 2 ^ i < 2 ^ 64 := Nat.pow_lt_pow_right (by decide) hi
  rw [u64_or_nat _ _ (by omega) (by omega)]
  have := Nat.two_pow_add_eq_or_of_lt h 1
  rw [Nat.mul_one] at this
  rw [← this]
theorem or_none (x : Nat) (h : x < 2 ^ 64) : bits BinOp.or IntKind.u64 0 (x : Int) = (x : Int) := by
  have t := u64_or_nat 0 x (by decide) (by omega)
  rw [Nat.zero_or] at t
  exact t
theorem or_lowN (x m i : Nat) (hm : m < 2 ^ i) (h : x * 2 ^ i + m < 2 ^ 64) : bits BinOp.or IntKind.u64 ((x * 2 ^ i : Nat) : Int) (m : Int) = ((x * 2 ^ i + m : Nat) : Int) := by
  rw [u64_or_nat _ _ (by omega) (by omega), Nat.mul_comm x, Nat.two_pow_add_eq_or_of_lt hm x]
theorem or_sign (s b : Bool) (x : Nat) (h : (x : Int) < fS s) : bits BinOp.or IntKind.u64 (if b then fS s else 0) (x : Int) = sgnd s b (x : Int) := by
  have e1 : fS false = ((2 ^ 63 : Nat) : Int) := by decide
  have e2 : fS true = ((2 ^ 31 : Nat) : Int) := by decide
  unfold sgnd
  cases b
  · have h' : x < 2 ^ 64 := by cases s; rw [e1] at h; omega; rw [e2] at h; omega
    rw [if_neg (by decide), if_neg (by decide), or_none x h']
  · rw [if_pos rfl, if_pos rfl]
    cases s
    · rw [e1] at h ⊢
      rw [or_top x 63 (by omega) (by decide)]; omega
    · rw [e2] at h ⊢
      rw [or_top x 31 (by omega) (by decide)]; omega
theorem put_d (b : Bool) (X M : Nat) (hX : X < 2048) (hM : M < 4503599627370496) : bits BinOp.or IntKind.u64 (bits BinOp.or IntKind.u64 (if b then 9223372036854775808 else 0) ((X * 4503599627370496 : Nat) : Int)) (M : Int) = sgnd false b ((X : Int) * 4503599627370496 + M) := by
  have e := or_sign false b (X * 4503599627370496) (by show _ < (9223372036854775808 : Int); omega)
  have e0 : fS false = 9223372036854775808 := rfl
  rw [e0] at e
  rw [e]
  cases b
  · unfold sgnd
    rw [if_neg (by decide), if_neg (by decide)]
    have t := or_lowN X M 52 (by omega) (by omega)
    rw [show (2 : Nat) ^ 52 = 4503599627370496 from rfl] at t
    rw [t]; omega
  · unfold sgnd
    rw [if_pos rfl, if_pos rfl, e0]
    have t := or_lowN (X + 2048) M 52 (by omega) (by omega)
    rw [show ((X * 4503599627370496 : Nat) : Int) + 9223372036854775808 = (((X + 2048) * 2 ^ 52 : Nat) : Int) by omega, t]
    omega
theorem put_s (b : Bool) (X M : Nat) (hX : X < 256) (hM : M < 8388608) : bits BinOp.or IntKind.u64 (bits BinOp.or IntKind.u64 (if b then 2147483648 else 0) ((X * 8388608 : Nat) : Int)) (M : Int) = sgnd true b ((X : Int) * 8388608 + M) := by
  have e := or_sign true b (X * 8388608) (by show _ < (2147483648 : Int); omega)
  have e0 : fS true = 2147483648 := rfl
  rw [e0] at e
  rw [e]
  cases b
  · unfold sgnd
    rw [if_neg (by decide), if_neg (by decide)]
    have t := or_lowN X M 23 (by omega) (by omega)
    rw [show (2 : Nat) ^ 23 = 8388608 from rfl] at t
    rw [t]; omega
  · unfold sgnd
    rw [if_pos rfl, if_pos rfl, e0]
    have t := or_lowN (X + 256) M 23 (by omega) (by omega)
    rw [show ((X * 8388608 : Nat) : Int) + 2147483648 = (((X + 256) * 2 ^ 23 : Nat) : Int) by omega, t]
    omega
theorem rinf_any (s b : Bool) (w : World) : Calls Tryz.prog 224 #[.int .i64 (fb s), .bool b] w fun e w' => e = .returned (.int .u64 (sgnd s b (fI s))) ∧ ∃ n, w' = w.drewN n := by
  cases s
  · have hs := rsize_d
    have hg : ∀ w, Calls Tryz.prog 173 #[.int .i64 0, .bool b] w fun e w' => e = .returned (.int .u64 (if b then 9223372036854775808 else 0)) ∧ w' = w := rsign_any false b
    have o : bits BinOp.or IntKind.u64 (if b then 9223372036854775808 else 0) 9218868437227405312 = sgnd false b (fI false) := or_sign false b 9218868437227405312 (by decide)
    show Calls Tryz.prog 224 #[.int .i64 0, .bool b] w _
    generalize (if b then (9223372036854775808 : Int) else 0) = S at *
    generalize sgnd false b (fI false) = V at *
    go_enter Tryz.func224, Tryz.ntmps224
    go_wp2_with (go_at_call 163; refine (hs _).mono ?_; rintro e w1 ⟨rfl, rfl⟩)
    go_quiet ((go_at_call 173; exact Calls.quiet_of_same (hg _)))
    go_wp2_with fail
    go_ret
    exact ⟨rfl, _, rfl⟩
  · have hs := rsize_s
    have hg : ∀ w, Calls Tryz.prog 173 #[.int .i64 1, .bool b] w fun e w' => e = .returned (.int .u64 (if b then 2147483648 else 0)) ∧ w' = w := rsign_any true b
    have o : bits BinOp.or IntKind.u64 (if b then 2147483648 else 0) 2139095040 = sgnd true b (fI true) := or_sign true b 2139095040 (by decide)
    show Calls Tryz.prog 224 #[.int .i64 1, .bool b] w _
    generalize (if b then (2147483648 : Int) else 0) = S at *
    generalize sgnd true b (fI true) = V at *
    go_enter Tryz.func224, Tryz.ntmps224
    go_wp2_with (go_at_call 163; refine (hs _).mono ?_; rintro e w1 ⟨rfl, rfl⟩)
    go_quiet ((go_at_call 173; exact Calls.quiet_of_same (hg _)))
    go_wp2_with fail
    go_ret
    exact ⟨rfl, _, rfl⟩
end Go.Proofs.YthjoigkckgdcaaaGreat
namespace Go.Proofs.YthjoigkckgdcaaaGreat
open Go.RowKit
set_option linter.unusedVariables false

theorem or_bit (x y : Int) (hx : Word x) (hy : Word y) : Word (bits BinOp.or IntKind.u64 x y) ∧ (bits BinOp.or IntKind.u64 x y).toNat = x.toNat ||| y.toNat := by
  obtain ⟨a, rfl⟩ := Int.eq_ofNat_of_zero_le hx.1
  obtain ⟨b, rfl⟩ := Int.eq_ofNat_of_zero_le hy.1
  have ha := hx.2; have hb := hy.2
  rw [bits_or_u64_nat a b (by omega) (by omega)]
  have l : a ||| b < 2 ^ 64 := Nat.or_lt_two_pow (by omega) (by omega)
  exact ⟨⟨by omega, by omega⟩, rfl⟩
theorem pow_word (k : Nat) (hk : k < 64) : Word ((2 : Int) ^ k) ∧ ((2 : Int) ^ k).toNat = 2 ^ k := by
  have e : (2 : Int) ^ k = ((2 ^ k : Nat) : Int) := by simp
  have l : 2 ^ k < 2 ^ 64 := Nat.pow_lt_pow_right (by decide) hk
  rw [e]
  exact ⟨⟨Int.natCast_nonneg _, by omega⟩, rfl⟩
theorem wrap_pow (k : Nat) (hk : k < 64) : IntKind.u64.wrap ((2 : Int) ^ k) = 2 ^ k := by
  obtain ⟨⟨a, b⟩, _⟩ := pow_word k hk
  rw [IntKind.wrap_u64]; omega
theorem low_set (h l : Int) (a : Word h) (b : Word l) (k : Nat) (hk : k < 64) : Word (bits BinOp.or IntKind.u64 l (2 ^ k)) ∧ ∀ j, (N h (bits BinOp.or IntKind.u64 l (2 ^ k))).testBit j = ((N h l).testBit j || decide (j = k)) := by
  obtain ⟨p1, p2⟩ := pow_word k hk
  obtain ⟨o1, o2⟩ := or_bit l (2 ^ k) b p1
  refine ⟨o1, fun j => ?_⟩
  rw [N_bit a o1, N_bit a b, o2, p2]
  by_cases c : j < 64
  · rw [if_pos c, if_pos c, Nat.testBit_or, Nat.testBit_two_pow]
    congr 1
    rw [decide_eq_decide]; omega
  · rw [if_neg c, if_neg c]
    have : ¬ j = k := by omega
    simp [this]
theorem high_set (h l : Int) (a : Word h) (b : Word l) (k : Nat) (hk : 64 ≤ k) (hk' : k < 128) : Word (bits BinOp.or IntKind.u64 h (2 ^ (k - 64))) ∧ ∀ j, (N (bits BinOp.or IntKind.u64 h (2 ^ (k - 64))) l).testBit j = ((N h l).testBit j || decide (j = k)) := by
  obtain ⟨p1, p2⟩ := pow_word (k - 64) (by omega)
  obtain ⟨o1, o2⟩ := or_bit h (2 ^ (k - 64)) a p1
  refine ⟨o1, fun j => ?_⟩
  rw [N_bit o1 b, N_bit a b, o2, p2]
  by_cases c : j < 64
  · rw [if_pos c, if_pos c]
    have : ¬ j = k := by omega
    simp [this]
  · rw [if_neg c, if_neg c, Nat.testBit_or, Nat.testBit_two_pow]
    congr 1
    rw [decide_eq_decide]; omega
def IsFrom (f : Nat → Bool) (k x : Nat) : Prop := ∀ j, x.testBit j = (decide (j < k) && f j)
theorem isFrom_zero (f : Nat → Bool) : IsFrom f 0 0 := fun j => by simp
theorem IsFrom.skip {f : Nat → Bool} {k x : Nat} (h : IsFrom f k x) (hf : f k = false) : IsFrom f (k + 1) x := fun j => by
  rw [h j]
  by_cases e : j = k
  · subst e; simp [hf]
  · have : (decide (j < k)) = decide (j < k + 1) := by rw [decide_eq_decide]; omega
    rw [this]
theorem IsFrom.step {f : Nat → Bool} {k x y : Nat} (h : IsFrom f k x) (hf : f k = true) (hy : ∀ j, y.testBit j = (x.testBit j || decide (j = k))) : IsFrom f (k + 1) y := fun j => by
  rw [hy j, h j]
  by_cases e : j = k
  · subst e; simp [hf]
  · have : (decide (j < k)) = decide (j < k + 1) := by rw [decide_eq_decide]; omega
    rw [this]; simp [e]

set_option maxHeartbeats 1600000 in
theorem from_any (b n cap : Nat) (f : Nat → Bool) (hn : n ≤ 1000) (w : World) (hrow : RowB w b n f) (hs : b < w.heap.size) :
    Calls Tryz.prog 251 #[.slice (some ⟨b, 0, none⟩) n cap] w fun e w' =>
      ∃ h l : Int, e = .returned (.agg #[.int .u64 h, .int .u64 l]) ∧ Word h ∧ Word l ∧ IsFrom f (min n 128) (N h l) ∧ Below w.heap.size w w' := by
  go_enter Tryz.func251, Tryz.ntmps251
  go_wp2
  go_loopw [4] (fun i wr => ∃ (k : Nat) (h l : Int), k ≤ n ∧ k ≤ 128 ∧ i = .int .i64 k ∧ Word h ∧ Word l ∧ IsFrom f k (N h l) ∧ w.heap.size < wr.heap.size ∧ w.heap.size + 1 < wr.heap.size ∧ wr.cell? ⟨w.heap.size + 1, 0, none⟩ = some (.int .u64 h) ∧ wr.cell? ⟨w.heap.size + 1, 1, none⟩ = some (.int .u64 l) ∧ wr.frozen? ⟨w.heap.size + 1, 0, none⟩ = false ∧ wr.frozen? ⟨w.heap.size + 1, 1, none⟩ = false ∧ (∃ x y, wr.cell? ⟨w.heap.size, 0, none⟩ = some x ∧ wr.cell? ⟨w.heap.size, 1, none⟩ = some y) ∧ wr.frozen? ⟨w.heap.size, 0, none⟩ = false ∧ wr.frozen? ⟨w.heap.size, 1, none⟩ = false ∧ Below w.heap.size w wr) (fun i _ => 1000 - (intOf i).toNat)
  case atStart =>
    refine ⟨0, 0, 0, by omega, by omega, rfl, word_zero, word_zero, isFrom_zero f, by simp; omega, by simp, ?_, ?_, ?_, ?_, ⟨.int .u64 0, .int .u64 0, ?_, ?_⟩, ?_, ?_, below_two _ _ _⟩ <;> simp [go_sem]
  case round =>
    obtain ⟨k, h, l, hk, hk2, rfl, wh, wl, hI, s0, s1, c0, c1, f0, f1, ⟨x, y, d0, d1⟩, f2, f3, hb⟩ := hrel
    by_cases hin : k < n ∧ k < 128
    · obtain ⟨hlt, hlt2⟩ := hin
      have ge : wr.cell? ⟨b, k, none⟩ = some (.bool (f k)) := by rw [(bcell hb).1 _ _ hs]; exact hrow k hlt
      have t1 : (k : Int) < (n : Int) := by omega
      have t2 : (k : Int) < 128 := by omega
      cases hf : f k
      · rw [hf] at ge
        have I2 := hI.skip hf
        clear hf
        go_wp2
        go_roundw
        case rel => exact ⟨k + 1, h, l, by omega, by omega, by go_num, wh, wl, I2, s0, s1, c0, c1, f0, f1, ⟨x, y, d0, d1⟩, f2, f3, hb⟩
        case measure => simp [intOf]; omega
      · rw [hf] at ge
        by_cases h64 : k < 64
        · obtain ⟨w2, b2⟩ := low_set h l wh wl k h64
          have I2 := hI.step hf b2
          clear hf b2
          have t3 : (k : Int) < 64 := by omega
          have qw := wrap_pow k h64
          go_wp2
          go_region
          go_wp2
          go_roundw
          case rel => exact ⟨k + 1, h, _, by omega, by omega, by go_num, wh, w2, I2, by simpa using s0, by simpa using s1, by simp [go_sem, c0], by simp [go_sem, c1], by simp [go_sem, f0], by simp [go_sem, f1], ⟨x, y, by simp [go_sem, d0], by simp [go_sem, d1]⟩, by simp [go_sem, f2], by simp [go_sem, f3], (hb.setCell (by simp) _).drew⟩
          case measure => simp [intOf]; omega
        · obtain ⟨w2, b2⟩ := high_set h l wh wl k (by omega) hlt2
          have I2 := hI.step hf b2
          clear hf b2
          have t3 : ¬ (k : Int) < 64 := by omega
          have qw := wrap_pow (k - 64) (by omega)
          go_wp2
          go_region
          go_wp2
          go_roundw
          case rel => exact ⟨k + 1, _, l, by omega, by omega, by go_num, w2, wl, I2, by simpa using s0, by simpa using s1, by simp [go_sem, c0], by simp [go_sem, c1], by simp [go_sem, f0], by simp [go_sem, f1], ⟨x, y, by simp [go_sem, d0], by simp [go_sem, d1]⟩, by simp [go_sem, f2], by simp [go_sem, f3], (hb.setCell (by simp) _).drew⟩
          case measure => simp [intOf]; omega
    · have hm : k = min n 128 := by omega
      have HM : Hid _ := hm
      clear hm
      by_cases hlt : k < n
      · have t1 : (k : Int) < (n : Int) := by omega
        have t2 : ¬ (k : Int) < 128 := by omega
        go_wp2
        refine bodyPost_ret (v := .agg #[.int .u64 h, .int .u64 l]) (by simp [results, Tryz.results251, go_sem, *]) rfl ?_
        exact ⟨_, _, rfl, wh, wl, by rw [← HM.out]; exact hI, (hb.setCell (by simp) _).setCell (by simp) _⟩
      · have t1 : ¬ (k : Int) < (n : Int) := by omega
        go_wp2
        refine bodyPost_ret (v := .agg #[.int .u64 h, .int .u64 l]) (by simp [results, Tryz.results251, go_sem, *]) rfl ?_
        exact ⟨_, _, rfl, wh, wl, by rw [← HM.out]; exact hI, (hb.setCell (by simp) _).setCell (by simp) _⟩
end Go.Proofs.YthjoigkckgdcaaaGreat
namespace Go.Proofs.YthjoigkckgdcaaaGreat
open Go.RowKit
set_option linter.unusedVariables false
set_option linter.unusedSimpArgs false
theorem last_two (s : Bool) {A : Nat} (A0 : A ≠ 0) (e : Int) : ∃ La : Int, lastOf s A e = La ∧ ((e + (blen A : Int) - 1 - (fP s : Int) < fL s ∧ La = fL s) ∨ (¬ e + (blen A : Int) - 1 - (fP s : Int) < fL s ∧ La = e + (blen A : Int) - 1 - (fP s : Int))) := by
  refine ⟨_, rfl, ?_⟩
  unfold lastOf
  omega
def gr (m : Int) (b : Bool) (M I : Int) : Int := if m = 3 ∨ m = 1 ∧ b = true ∨ m = 2 ∧ b = false then M else I
theorem great_ways (m : Int) (b : Bool) (M I : Int) :
    (gr m b M I = M ∧ m = 3) ∨ (gr m b M I = M ∧ (m == 3) = false ∧ m = 1 ∧ b = true) ∨ (gr m b M I = M ∧ (m == 3) = false ∧ (m == 1) = false ∧ m = 2 ∧ b = false) ∨ (gr m b M I = I ∧ (m == 3) = false ∧ m = 1 ∧ b = false) ∨
    (gr m b M I = I ∧ (m == 3) = false ∧ (m == 1) = false ∧ m = 2 ∧ b = true) ∨ (gr m b M I = I ∧ (m == 3) = false ∧ (m == 1) = false ∧ (m == 2) = false) := by
  unfold gr
  by_cases m3 : m = 3
  · subst m3; simp
  · by_cases m1 : m = 1
    · subst m1; cases b <;> simp
    · by_cases m2 : m = 2
      · subst m2; cases b <;> simp
      · simp [m1, m2, m3]
theorem drew_0 (w : World) : ∃ k, w = w.drewN k := ⟨0, rfl⟩
theorem u64r_eq {a b : Int} (h : a = b) : Ending.returned (Value.int IntKind.u64 a) = .returned (.int .u64 b) := by rw [h]
theorem put_d' (b : Bool) (X M : Int) (x0 : 0 ≤ X) (hX : X < 2047) (m0 : 0 ≤ M) (hM : M < 4503599627370496) : bits BinOp.or IntKind.u64 (bits BinOp.or IntKind.u64 (if b then 9223372036854775808 else 0) (X * 4503599627370496)) M = sgnd false b (X * 4503599627370496 + M) := by
  obtain ⟨x, rfl⟩ := Int.eq_ofNat_of_zero_le x0
  obtain ⟨m, rfl⟩ := Int.eq_ofNat_of_zero_le m0
  exact put_d b x m (by omega) (by omega)
theorem ref_up_d (m : Int) (b : Bool) (La X : Int) (hX : X = La + 1 + 1074 + 1) (h : X < 2047) : sgnd false b (refSize false m b La (9007199254740992 : Int).toNat) = sgnd false b (X * 4503599627370496 + 0) := by
  congr 1
  unfold refSize
  have e1 : (2 : Nat) ^ (fP false + 1) = 9007199254740992 := rfl
  have e2 : (2 : Nat) ^ fP false = 4503599627370496 := rfl
  have e3 : (2 : Int) ^ fP false = 4503599627370496 := rfl
  have e4 : (2 : Int) ^ (fE false).toNat - 1 = 2047 := rfl
  have e5 : fL false = -1074 := rfl
  rw [e1, e2, e3, e4, e5]
  rw [if_pos (by decide : (9007199254740992 : Int).toNat = 9007199254740992), if_pos (by decide : (9007199254740992 : Int).toNat = 9007199254740992)]
  rw [if_neg (by decide : ¬ (9007199254740992 : Int).toNat / 2 < 4503599627370496)]
  rw [if_neg (by omega), show (9007199254740992 : Int).toNat / 2 % 4503599627370496 = 0 by decide]
  omega
theorem ref_sub_d (m : Int) (b : Bool) (La y : Int) (y0 : 0 ≤ y) (h : y < 4503599627370496) : sgnd false b (refSize false m b La y.toNat) = sgnd false b (0 * 4503599627370496 + y) := by
  congr 1
  unfold refSize
  have e1 : (2 : Nat) ^ (fP false + 1) = 9007199254740992 := rfl
  have e2 : (2 : Nat) ^ fP false = 4503599627370496 := rfl
  have e3 : (2 : Int) ^ fP false = 4503599627370496 := rfl
  have e4 : (2 : Int) ^ (fE false).toNat - 1 = 2047 := rfl
  have n1 : ¬ y.toNat = 9007199254740992 := by omega
  have n2 : y.toNat < 4503599627370496 := by omega
  rw [e1, e2, e3, e4]
  simp only [if_neg n1, if_pos n2]
  rw [if_neg (by decide), Nat.mod_eq_of_lt n2]
  omega
theorem ref_great_d (m : Int) (b : Bool) (La y : Int) (h : (y = 9007199254740992 ∧ 2047 ≤ La + 1 + 1074 + 1) ∨ (¬ y = 9007199254740992 ∧ 4503599627370496 ≤ y ∧ 2047 ≤ La + 1074 + 1)) :
    sgnd false b (refSize false m b La y.toNat) = sgnd false b (gr m b 9218868437227405311 9218868437227405312) := by
  congr 1
  unfold refSize gr
  have e1 : (2 : Nat) ^ (fP false + 1) = 9007199254740992 := rfl
  have e2 : (2 : Nat) ^ fP false = 4503599627370496 := rfl
  have e3 : (2 : Int) ^ fP false = 4503599627370496 := rfl
  have e4 : (2 : Int) ^ (fE false).toNat - 1 = 2047 := rfl
  have e5 : fL false = -1074 := rfl
  rw [e1, e2, e3, e4, e5]
  rcases h with ⟨h1, h2⟩ | ⟨h1, h2, h3⟩
  · have n1 : y.toNat = 9007199254740992 := by omega
    have n2 : ¬ y.toNat / 2 < 4503599627370496 := by omega
    simp only [if_pos n1, if_neg n2]
    rw [if_pos (by omega)]
    rfl
  · have n1 : ¬ y.toNat = 9007199254740992 := by omega
    have n2 : ¬ y.toNat < 4503599627370496 := by omega
    simp only [if_neg n1, if_neg n2]
    rw [if_pos (by omega)]
    rfl
theorem ref_norm_d (m : Int) (b : Bool) (La y X : Int) (hX : X = La + 1074 + 1) (c1 : ¬ y = 9007199254740992) (c2 : ¬ y < 4503599627370496) (y1 : y ≤ 9007199254740992) (h : X < 2047) : sgnd false b (refSize false m b La y.toNat) = sgnd false b (X * 4503599627370496 + (y - 4503599627370496)) := by
  congr 1
  unfold refSize
  have e1 : (2 : Nat) ^ (fP false + 1) = 9007199254740992 := rfl
  have e2 : (2 : Nat) ^ fP false = 4503599627370496 := rfl
  have e3 : (2 : Int) ^ fP false = 4503599627370496 := rfl
  have e4 : (2 : Int) ^ (fE false).toNat - 1 = 2047 := rfl
  have e5 : fL false = -1074 := rfl
  have n1 : ¬ y.toNat = 9007199254740992 := by omega
  have n2 : ¬ y.toNat < 4503599627370496 := by omega
  rw [e1, e2, e3, e4, e5, if_neg n1, if_neg n1, if_neg n2, if_neg (by omega)]
  omega
set_option maxRecDepth 20000 in
set_option maxHeartbeats 4000000 in
theorem rounded_d (m : Int) (below : Bool) (b n cap A : Nat) (hA : A < 2 ^ n) (hn : n ≤ 100000) (e : Int) (he1 : -100000 ≤ e) (he2 : e ≤ 100000) (w : World) (row : RowB w b n (fun i => A.testBit i)) (A0 : A ≠ 0) :
    Calls Tryz.prog 179 #[.int .i64 0, .int .i64 m, .bool below, .slice (some ⟨b, 0, none⟩) n cap, .int .i64 e] w fun r w' => r = .returned (.int .u64 (rnd false m below A e)) ∧ ∃ k, w' = w.drewN k := by
  have hs := rsize_d
  have hl := length_any b n cap A hA (by omega) w row
  obtain ⟨La, hLa, hcase⟩ := last_two false A0 e
  obtain ⟨b1, b2⟩ := blen_le A0
  have b3 := blen_le_of hA
  have b4 := lt_blen A
  obtain ⟨N, hN⟩ : ∃ N : Nat, blen A = N := ⟨_, rfl⟩
  rw [hN] at hl hcase b1 b2 b3 b4
  have HLa : Hid (lastOf false A e = La) := hLa
  have HN : Hid (blen A = N) := hN
  have B1 : Hid _ := b1
  have B4 : Hid _ := b4
  have HA : Hid _ := hA
  have hq : quo A (La - e) < 2 ^ 63 := by
    obtain ⟨x, k1, k2, _⟩ := kept false A0 e (min e (-1074)) (by omega) (by show _ ≤ (-1074 : Int); omega)
    rw [hLa] at k2
    exact Nat.lt_of_lt_of_le k2 (by decide)
  have HQ : Hid _ := hq
  clear hLa hN b1 b4 hA hq
  have p52 : ((fP false : Nat) : Int) = 52 := rfl
  have l74 : fL false = -1074 := rfl
  rw [p52, l74] at hcase
  clear p52 l74
  have hk : -1074 ≤ La ∧ e + (N : Int) - 1 - La ≤ 52 ∧ La ≤ 300000 := by rcases hcase with ⟨a, rfl⟩ | ⟨a, rfl⟩ <;> refine ⟨?_, ?_, ?_⟩ <;> omega
  obtain ⟨hk1, hk2, hk3⟩ := hk
  have N1 : ((N : Int) == 0) = false := by simp; omega
  go_enter Tryz.func179, Tryz.ntmps179
  go_upto_if 44 with (first
      | (go_at_call 163; refine (hs _).mono ?_; rintro r w1 ⟨rfl, hw⟩; rw [hw]; clear hw w1)
      | (go_at_call 254; refine hl.mono ?_; rintro r w1 ⟨rfl, hw⟩; rw [hw]; clear hw w1))
  go_cut [15] from 23 to 46 (fun s wx => s = .int .i64 La ∧ wx = w)
  case first =>
    rcases hcase with ⟨hc, hLa⟩ | ⟨hc, hLa⟩
    · have HL : Hid _ := hLa
      clear hLa
      go_wp2_with fail
      go_meet
      case rel => exact ⟨by rw [HL.out], rfl⟩
    · have HL : Hid _ := hLa
      clear hLa
      go_wp2_with fail
      go_meet
      case rel => exact ⟨by rw [HL.out], rfl⟩
  case rest =>
    obtain ⟨rfl, hw⟩ := hcut
    rw [hw]
    clear hw wc hcase hs hl
    go_wp2
    go_loop [16, 17] (fun q i => ∃ j : Nat, j ≤ N ∧ q = .int .u64 ((qTo A (La - e) j : Nat) : Int) ∧ ((j = 0 ∧ i = .int .i64 (-1)) ∨ ∃ i0 : Nat, j = i0 + 1 ∧ i = .int .i64 (i0 : Int))) (fun _ i => (intOf i + 1).toNat)
    case atStart =>
      refine ⟨N, Nat.le_refl _, by rw [qTo_top _ B4.out]; rfl, Or.inr ⟨N - 1, by omega, by go_num⟩⟩
    case round =>
      obtain ⟨j, hj, rfl, hj2⟩ := hrel
      rcases hj2 with ⟨rfl, rfl⟩ | ⟨i0, rfl, rfl⟩
      · rw [qTo_end]
        obtain ⟨Q, hQ⟩ : ∃ Q : Nat, quo A (La - e) = Q := ⟨_, rfl⟩
        have HQ' : Hid _ := hQ
        rw [hQ]
        clear hQ
        go_wp2
        go_loop [18, 19, 20] (fun h l i => ∃ j : Nat, j ≤ N ∧ i = .int .i64 (j : Int) ∧ h = .bool (half (A % 2 ^ j) (La - e)) ∧ l = .bool (low (A % 2 ^ j) (La - e))) (fun _ _ i => N - (intOf i).toNat)
        case atStart => exact ⟨0, by omega, rfl, by rw [(hl_zero A _).1], by rw [(hl_zero A _).2]⟩
        case round =>
          obtain ⟨j, hj, rfl, rfl, rfl⟩ := hrel
          by_cases hlt : j < N
          · have cj : w.cell? ⟨b, j, none⟩ = some (.bool (A.testBit j)) := row j (by omega)
            have t1 : (j : Int) < (N : Int) := by omega
            cases tb : A.testBit j
            · have Z : Hid _ := hl_no (k := La - e) tb
              rw [tb] at cj
              clear tb row
              go_wp2
              go_round
              case rel => exact ⟨j + 1, by omega, by go_num, by rw [Z.out.1], by rw [Z.out.2]⟩
              case measure => simp [intOf]; omega
            · rcases Int.lt_trichotomy (e + (j : Int)) (La - 1) with hc | hc | hc
              · have Z : Hid _ := hl_lt (k := La - e) tb (by omega)
                have hne : (e + (j : Int) == La - 1) = false := by simp; omega
                rw [tb] at cj
                clear tb row
                go_wp2
                go_round
                case rel => exact ⟨j + 1, by omega, by go_num, by rw [Z.out.1], by rw [Z.out.2]⟩
                case measure => simp [intOf]; omega
              · have Z : Hid _ := hl_eq (k := La - e) tb (by omega)
                have hne : (e + (j : Int) == La - 1) = true := by simp; omega
                have hnl : ¬ e + (j : Int) < La - 1 := by omega
                rw [tb] at cj
                clear tb row hc
                go_wp2
                go_round
                case rel => exact ⟨j + 1, by omega, by go_num, by rw [Z.out.1], by rw [Z.out.2]⟩
                case measure => simp [intOf]; omega
              · have Z : Hid _ := hl_gt (A := A) (i := j) (k := La - e) (by omega)
                have hne : (e + (j : Int) == La - 1) = false := by simp; omega
                have hnl : ¬ e + (j : Int) < La - 1 := by omega
                rw [tb] at cj
                clear tb row
                go_wp2
                go_round
                case rel => exact ⟨j + 1, by omega, by go_num, by rw [Z.out.1], by rw [Z.out.2]⟩
                case measure => simp [intOf]; omega
          · have : j = N := by omega
            subst this
            rw [Nat.mod_eq_of_lt B4.out]
            obtain ⟨H, hH⟩ : ∃ H : Bool, half A (La - e) = H := ⟨_, rfl⟩
            obtain ⟨L, hL⟩ : ∃ L : Bool, low A (La - e) = L := ⟨_, rfl⟩
            have HH : Hid _ := hH
            have HL : Hid _ := hL
            rw [hH, hL]
            clear hH hL
            go_upto_region 24 with fail
            iterate 8 go_step
            go_cut [21] from 114 to 144 (fun s wx => s = .bool (away m below (Q % 2 == 1) H L) ∧ wx = w)
            case first =>
              by_cases m1 : m = 1
              · subst m1
                cases below <;> cases H <;> cases L <;> (go_wp2_with fail; go_meet; exact ⟨rfl, rfl⟩)
              · by_cases m2 : m = 2
                · subst m2
                  cases below <;> cases H <;> cases L <;> (go_wp2_with fail; go_meet; exact ⟨rfl, rfl⟩)
                · by_cases m3 : m = 3
                  · subst m3
                    go_wp2_with fail
                    go_meet
                    exact ⟨rfl, rfl⟩
                  · have n1 : (m == 1) = false := by simp [m1]
                    have n2 : (m == 2) = false := by simp [m2]
                    have n3 : (m == 3) = false := by simp [m3]
                    have aw : Hid (∀ o, away m below o H L = (H && (L || o))) := fun o => by unfold away; rw [if_neg m1, if_neg m2, if_neg m3]
                    cases H
                    · go_wp2_with fail
                      go_meet
                      exact ⟨by rw [aw.out]; rfl, rfl⟩
                    · cases L
                      · have od : ((Q : Int) % 2 == 1) = (Q % 2 == 1) := by rw [Bool.eq_iff_iff]; simp; omega
                        go_wp2_with fail
                        go_meet
                        exact ⟨by rw [aw.out]; rfl, rfl⟩
                      · go_wp2_with fail
                        go_meet
                        exact ⟨by rw [aw.out]; rfl, rfl⟩
            case rest =>
              obtain ⟨rfl, hw⟩ := hcut
              rw [hw]
              clear hw wc
              have T := ref_fin false m below La Q H L
              obtain ⟨mo, hmo⟩ : ∃ mo : Bool, away m below (Q % 2 == 1) H L = mo := ⟨_, rfl⟩
              rw [hmo] at T ⊢
              have T2 : Hid (rnd false m below A e = sgnd false below (refSize false m below La (Q + mo.toNat)) ∧ Q < 2 ^ 53 ∧ (La = -1074 ∨ 2 ^ 52 ≤ Q)) := by
                obtain ⟨x, k1, k2, k3, _⟩ := kept false A0 e (min e (-1074)) (by omega) (by show _ ≤ (-1074 : Int); omega)
                have fl : fL false = -1074 := rfl
                have fp : fP false = 52 := rfl
                rw [HLa.out, HQ'.out, fp] at k2 k3
                rw [HLa.out, fl] at k1
                have k4 : La = -1074 ∨ 2 ^ 52 ≤ Q := by rcases k3 with k | k; left; omega; right; exact k
                have T3 := T k2 (by rw [fl, fp]; exact k4) (by rw [fl]; exact hk1)
                refine ⟨?_, k2, k4⟩
                unfold rnd
                rw [if_neg A0]
                unfold mag
                rw [HLa.out, HQ'.out, HH.out, HL.out, ← T3]
                cases mo <;> rfl
              clear T hmo HLa HQ' HH HL HQ B1 B4 HA HN
              iterate 2 go_step
              go_cut [16] from 145 to 147 (fun s wx => s = .int .u64 ((Q + mo.toNat : Nat) : Int) ∧ wx = w)
              case first =>
                have q53 := T2.out.2.1
                clear T2
                cases mo
                · go_wp2_with fail
                  go_meet
                  exact ⟨rfl, rfl⟩
                · go_wp2_with fail
                  go_meet
                  exact ⟨by go_num, rfl⟩
              case rest =>
                obtain ⟨rfl, hw⟩ := hcut
                rw [hw]
                clear hw wc
                obtain ⟨y, hy⟩ : ∃ y : Int, ((Q + mo.toNat : Nat) : Int) = y := ⟨_, rfl⟩
                have y53 : 0 ≤ y ∧ y ≤ 9007199254740992 := by have := T2.out.2.1; have := Bool.toNat_le mo; omega
                have T : Hid (rnd false m below A e = sgnd false below (refSize false m below La y.toNat)) := by rw [T2.out.1, ← hy]; rfl
                rw [hy]
                clear T2 hy
                obtain ⟨y0, y1⟩ := y53
                have hg : ∀ w, Calls Tryz.prog 173 #[.int .i64 0, .bool below] w fun e w' => e = .returned (.int .u64 (if below then 9223372036854775808 else 0)) ∧ w' = w := rsign_any false below
                by_cases c1 : y = 9007199254740992
                · subst c1
                  obtain ⟨X, hX⟩ : ∃ X : Int, La + 1 + 1074 + 1 = X := ⟨_, rfl⟩
                  have x1 : 0 ≤ X := by omega
                  by_cases c3 : X < 2047
                  · have TT : Hid _ := T.out.trans (ref_up_d m below La X hX.symm c3)
                    have wx : IntKind.u64.wrap (X * 4503599627370496) = X * 4503599627370496 := by rw [IntKind.wrap_u64]; omega
                    have pu := put_d' below X 0 x1 c3 (by decide) (by decide)
                    obtain ⟨S, hS⟩ : ∃ S : Int, (if below then (9223372036854775808 : Int) else 0) = S := ⟨_, rfl⟩
                    rw [hS] at hg pu
                    have PU : Hid _ := pu
                    clear hS pu T
                    go_wp2_with fail
                    go_quiet ((go_at_call 173; exact Calls.quiet_of_same (hg _)))
                    go_wp2_with fail
                    go_ret
                    exact ⟨u64r_eq (by rw [TT.out, ← PU.out]; rfl), _, rfl⟩
                  · have nx : ¬ X < 2047 := c3
                    have hmo := rmost_d
                    have hin : ∀ w, Calls Tryz.prog 224 #[.int .i64 0, .bool below] w fun e w' => e = .returned (.int .u64 (sgnd false below 9218868437227405312)) ∧ ∃ n, w' = w.drewN n := rinf_any false below
                    have om : bits BinOp.or IntKind.u64 (if below then 9223372036854775808 else 0) 9218868437227405311 = sgnd false below 9218868437227405311 := or_sign false below 9218868437227405311 (by decide)
                    have GH : Hid _ := T.out.trans (ref_great_d m below La _ (Or.inl ⟨rfl, by omega⟩))
                    clear T
                    obtain ⟨S, hS⟩ : ∃ S : Int, (if below then (9223372036854775808 : Int) else 0) = S := ⟨_, rfl⟩
                    rw [hS] at hg om
                    have OM : Hid _ := om
                    clear hS om
                    obtain ⟨VI, hVI⟩ : ∃ V : Int, sgnd false below 9218868437227405312 = V := ⟨_, rfl⟩
                    rw [hVI] at hin
                    have HVI : Hid _ := hVI
                    clear hVI
                    rcases great_ways m below 9218868437227405311 9218868437227405312 with ⟨g, rfl⟩ | ⟨g, _, rfl, rfl⟩ | ⟨g, _, _, rfl, rfl⟩ | ⟨g, _, rfl, rfl⟩ | ⟨g, _, _, rfl, rfl⟩ | ⟨g, m3, m1, m2⟩
                    all_goals
                      have GV : Hid _ := GH.out
                      rw [g] at GV
                      have G2 : Hid _ := GV
                      clear GV GH g
                      go_wp2_with (first
                        | (go_at_call 173; refine (hg _).mono ?_; rintro r w1 ⟨rfl, hw⟩; rw [hw]; clear hw w1)
                        | (go_at_call 83; refine (hmo _).mono ?_; rintro r w1 ⟨rfl, hw⟩; rw [hw]; clear hw w1)
                        | (go_at_call 224; refine (hin _).mono ?_; rintro r w1 ⟨rfl, nn, hw⟩; rw [hw]; clear hw w1))
                      go_ret
                    · exact ⟨u64r_eq (by rw [G2.out]; exact OM.out), drew_0 w⟩
                    · exact ⟨u64r_eq (by rw [G2.out]; exact OM.out), drew_0 w⟩
                    · exact ⟨u64r_eq (by rw [G2.out]; exact OM.out), drew_0 w⟩
                    · exact ⟨u64r_eq (by rw [G2.out]; exact HVI.out.symm), nn, rfl⟩
                    · exact ⟨u64r_eq (by rw [G2.out]; exact HVI.out.symm), nn, rfl⟩
                    · exact ⟨u64r_eq (by rw [G2.out]; exact HVI.out.symm), nn, rfl⟩
                · have c1' : (y == 9007199254740992) = false := by simp; omega
                  obtain ⟨X, hX⟩ : ∃ X : Int, La + 1074 + 1 = X := ⟨_, rfl⟩
                  have x1 : 0 ≤ X := by omega
                  by_cases c2 : y < 4503599627370496
                  · have pu := put_d' below 0 y (by omega) (by decide) y0 c2
                    have aw : bits BinOp.and IntKind.u64 y 4503599627370495 = y := by
                      rw [and_bits y.toNat 52 4503599627370495 rfl (by decide) y (by omega) (by omega)]
                      show y % 4503599627370496 = _
                      omega
                    have TT : Hid _ := T.out.trans (ref_sub_d m below La y y0 c2)
                    obtain ⟨S, hS⟩ : ∃ S : Int, (if below then (9223372036854775808 : Int) else 0) = S := ⟨_, rfl⟩
                    rw [hS] at hg pu
                    have PU : Hid _ := pu
                    clear hS pu T
                    go_wp2_with fail
                    go_quiet ((go_at_call 173; exact Calls.quiet_of_same (hg _)))
                    go_wp2_with fail
                    go_ret
                    exact ⟨u64r_eq (by rw [TT.out, ← PU.out]; rfl), _, rfl⟩
                  · by_cases c3 : X < 2047
                    · have TT : Hid _ := T.out.trans (ref_norm_d m below La y X hX.symm c1 c2 y1 c3)
                      have wx : IntKind.u64.wrap (X * 4503599627370496) = X * 4503599627370496 := by rw [IntKind.wrap_u64]; omega
                      have pu := put_d' below X (y - 4503599627370496) x1 c3 (by omega) (by omega)
                      have aw : bits BinOp.and IntKind.u64 y 4503599627370495 = y - 4503599627370496 := by
                        rw [and_bits y.toNat 52 4503599627370495 rfl (by decide) y (by omega) (by omega)]
                        show y % 4503599627370496 = _
                        omega
                      obtain ⟨S, hS⟩ : ∃ S : Int, (if below then (9223372036854775808 : Int) else 0) = S := ⟨_, rfl⟩
                      rw [hS] at hg pu
                      have PU : Hid _ := pu
                      clear hS pu T
                      go_wp2_with fail
                      go_quiet ((go_at_call 173; exact Calls.quiet_of_same (hg _)))
                      go_wp2_with fail
                      go_ret
                      exact ⟨u64r_eq (by rw [TT.out, ← PU.out]), _, rfl⟩
                    · have nx : ¬ X < 2047 := c3
                      have hmo := rmost_d
                      have hin : ∀ w, Calls Tryz.prog 224 #[.int .i64 0, .bool below] w fun e w' => e = .returned (.int .u64 (sgnd false below 9218868437227405312)) ∧ ∃ n, w' = w.drewN n := rinf_any false below
                      have om : bits BinOp.or IntKind.u64 (if below then 9223372036854775808 else 0) 9218868437227405311 = sgnd false below 9218868437227405311 := or_sign false below 9218868437227405311 (by decide)
                      have GH : Hid _ := T.out.trans (ref_great_d m below La _ (Or.inr ⟨c1, by omega, by omega⟩))
                      clear T
                      obtain ⟨S, hS⟩ : ∃ S : Int, (if below then (9223372036854775808 : Int) else 0) = S := ⟨_, rfl⟩
                      rw [hS] at hg om
                      have OM : Hid _ := om
                      clear hS om
                      obtain ⟨VI, hVI⟩ : ∃ V : Int, sgnd false below 9218868437227405312 = V := ⟨_, rfl⟩
                      rw [hVI] at hin
                      have HVI : Hid _ := hVI
                      clear hVI
                      rcases great_ways m below 9218868437227405311 9218868437227405312 with ⟨g, rfl⟩ | ⟨g, _, rfl, rfl⟩ | ⟨g, _, _, rfl, rfl⟩ | ⟨g, _, rfl, rfl⟩ | ⟨g, _, _, rfl, rfl⟩ | ⟨g, m3, m1, m2⟩
                      all_goals
                        have GV : Hid _ := GH.out
                        rw [g] at GV
                        have G2 : Hid _ := GV
                        clear GV GH g
                        go_wp2_with (first
                          | (go_at_call 173; refine (hg _).mono ?_; rintro r w1 ⟨rfl, hw⟩; rw [hw]; clear hw w1)
                          | (go_at_call 83; refine (hmo _).mono ?_; rintro r w1 ⟨rfl, hw⟩; rw [hw]; clear hw w1)
                          | (go_at_call 224; refine (hin _).mono ?_; rintro r w1 ⟨rfl, nn, hw⟩; rw [hw]; clear hw w1))
                        go_ret
                      · exact ⟨u64r_eq (by rw [G2.out]; exact OM.out), drew_0 w⟩
                      · exact ⟨u64r_eq (by rw [G2.out]; exact OM.out), drew_0 w⟩
                      · exact ⟨u64r_eq (by rw [G2.out]; exact OM.out), drew_0 w⟩
                      · exact ⟨u64r_eq (by rw [G2.out]; exact HVI.out.symm), nn, rfl⟩
                      · exact ⟨u64r_eq (by rw [G2.out]; exact HVI.out.symm), nn, rfl⟩
                      · exact ⟨u64r_eq (by rw [G2.out]; exact HVI.out.symm), nn, rfl⟩
      · have hi0 : (i0 : Int) + 1 ≤ N := by omega
        have cj : w.cell? ⟨b, i0, none⟩ = some (.bool (A.testBit i0)) := row i0 (by omega)
        have t1 : (0 : Int) ≤ (i0 : Int) := by omega
        by_cases hge : La ≤ e + (i0 : Int)
        · obtain ⟨t, ht⟩ : ∃ t : Nat, e + (i0 : Int) - La = (t : Int) := ⟨(e + (i0 : Int) - La).toNat, by omega⟩
          have t64 : t < 64 := by omega
          have qw := wrap_pow t t64
          cases tb : A.testBit i0
          · have Z := q_no (A := A) (i := i0) (k := La - e) (t := t) (by omega) t64 HQ.out tb
            rw [tb] at cj
            clear tb row
            go_wp2
            go_round
            case rel => exact ⟨i0, by omega, rfl, by rcases i0 with _ | i1; exact Or.inl ⟨rfl, by go_num⟩; exact Or.inr ⟨i1, rfl, by go_num⟩⟩
            case measure => simp [intOf]
          · have Z := q_yes (A := A) (i := i0) (k := La - e) (t := t) (by omega) t64 HQ.out tb
            rw [tb] at cj
            clear tb row
            go_wp2
            go_round
            case rel => exact ⟨i0, by omega, rfl, by rcases i0 with _ | i1; exact Or.inl ⟨rfl, by go_num⟩; exact Or.inr ⟨i1, rfl, by go_num⟩⟩
            case measure => simp [intOf]
        · have Z : Hid _ := qTo_no A (La - e) i0 (by omega)
          have hge' : e + (i0 : Int) < La := by omega
          cases tb : A.testBit i0
          · rw [tb] at cj
            clear tb row
            go_wp2
            go_round
            case rel => exact ⟨i0, by omega, by rw [Z.out], by rcases i0 with _ | i1; exact Or.inl ⟨rfl, by go_num⟩; exact Or.inr ⟨i1, rfl, by go_num⟩⟩
            case measure => simp [intOf]
          · rw [tb] at cj
            clear tb row
            go_wp2
            go_round
            case rel => exact ⟨i0, by omega, by rw [Z.out], by rcases i0 with _ | i1; exact Or.inl ⟨rfl, by go_num⟩; exact Or.inr ⟨i1, rfl, by go_num⟩⟩
            case measure => simp [intOf]
end Go.Proofs.YthjoigkckgdcaaaGreat
namespace Go.Proofs.YthjoigkckgdcaaaGreat
open Go.RowKit
set_option linter.unusedVariables false
set_option linter.unusedSimpArgs false
theorem put_s' (b : Bool) (X M : Int) (x0 : 0 ≤ X) (hX : X < 255) (m0 : 0 ≤ M) (hM : M < 8388608) : bits BinOp.or IntKind.u64 (bits BinOp.or IntKind.u64 (if b then 2147483648 else 0) (X * 8388608)) M = sgnd true b (X * 8388608 + M) := by
  obtain ⟨x, rfl⟩ := Int.eq_ofNat_of_zero_le x0
  obtain ⟨m, rfl⟩ := Int.eq_ofNat_of_zero_le m0
  exact put_s b x m (by omega) (by omega)
theorem ref_up_s (m : Int) (b : Bool) (La X : Int) (hX : X = La + 1 + 149 + 1) (h : X < 255) : sgnd true b (refSize true m b La (16777216 : Int).toNat) = sgnd true b (X * 8388608 + 0) := by
  congr 1
  unfold refSize
  have e1 : (2 : Nat) ^ (fP true + 1) = 16777216 := rfl
  have e2 : (2 : Nat) ^ fP true = 8388608 := rfl
  have e3 : (2 : Int) ^ fP true = 8388608 := rfl
  have e4 : (2 : Int) ^ (fE true).toNat - 1 = 255 := rfl
  have e5 : fL true = -149 := rfl
  rw [e1, e2, e3, e4, e5]
  rw [if_pos (by decide : (16777216 : Int).toNat = 16777216), if_pos (by decide : (16777216 : Int).toNat = 16777216)]
  rw [if_neg (by decide : ¬ (16777216 : Int).toNat / 2 < 8388608)]
  rw [if_neg (by omega), show (16777216 : Int).toNat / 2 % 8388608 = 0 by decide]
  omega
theorem ref_sub_s (m : Int) (b : Bool) (La y : Int) (y0 : 0 ≤ y) (h : y < 8388608) : sgnd true b (refSize true m b La y.toNat) = sgnd true b (0 * 8388608 + y) := by
  congr 1
  unfold refSize
  have e1 : (2 : Nat) ^ (fP true + 1) = 16777216 := rfl
  have e2 : (2 : Nat) ^ fP true = 8388608 := rfl
  have e3 : (2 : Int) ^ fP true = 8388608 := rfl
  have e4 : (2 : Int) ^ (fE true).toNat - 1 = 255 := rfl
  have n1 : ¬ y.toNat = 16777216 := by omega
  have n2 : y.toNat < 8388608 := by omega
  rw [e1, e2, e3, e4]
  simp only [if_neg n1, if_pos n2]
  rw [if_neg (by decide), Nat.mod_eq_of_lt n2]
  omega
theorem ref_great_s (m : Int) (b : Bool) (La y : Int) (h : (y = 16777216 ∧ 255 ≤ La + 1 + 149 + 1) ∨ (¬ y = 16777216 ∧ 8388608 ≤ y ∧ 255 ≤ La + 149 + 1)) :
    sgnd true b (refSize true m b La y.toNat) = sgnd true b (gr m b 2139095039 2139095040) := by
  congr 1
  unfold refSize gr
  have e1 : (2 : Nat) ^ (fP true + 1) = 16777216 := rfl
  have e2 : (2 : Nat) ^ fP true = 8388608 := rfl
  have e3 : (2 : Int) ^ fP true = 8388608 := rfl
  have e4 : (2 : Int) ^ (fE true).toNat - 1 = 255 := rfl
  have e5 : fL true = -149 := rfl
  rw [e1, e2, e3, e4, e5]
  rcases h with ⟨h1, h2⟩ | ⟨h1, h2, h3⟩
  · have n1 : y.toNat = 16777216 := by omega
    have n2 : ¬ y.toNat / 2 < 8388608 := by omega
    simp only [if_pos n1, if_neg n2]
    rw [if_pos (by omega)]
    rfl
  · have n1 : ¬ y.toNat = 16777216 := by omega
    have n2 : ¬ y.toNat < 8388608 := by omega
    simp only [if_neg n1, if_neg n2]
    rw [if_pos (by omega)]
    rfl
theorem ref_norm_s (m : Int) (b : Bool) (La y X : Int) (hX : X = La + 149 + 1) (c1 : ¬ y = 16777216) (c2 : ¬ y < 8388608) (y1 : y ≤ 16777216) (h : X < 255) : sgnd true b (refSize true m b La y.toNat) = sgnd true b (X * 8388608 + (y - 8388608)) := by
  congr 1
  unfold refSize
  have e1 : (2 : Nat) ^ (fP true + 1) = 16777216 := rfl
  have e2 : (2 : Nat) ^ fP true = 8388608 := rfl
  have e3 : (2 : Int) ^ fP true = 8388608 := rfl
  have e4 : (2 : Int) ^ (fE true).toNat - 1 = 255 := rfl
  have e5 : fL true = -149 := rfl
  have n1 : ¬ y.toNat = 16777216 := by omega
  have n2 : ¬ y.toNat < 8388608 := by omega
  rw [e1, e2, e3, e4, e5, if_neg n1, if_neg n1, if_neg n2, if_neg (by omega)]
  omega
set_option maxRecDepth 20000 in
set_option maxHeartbeats 4000000 in
theorem rounded_s (m : Int) (below : Bool) (b n cap A : Nat) (hA : A < 2 ^ n) (hn : n ≤ 100000) (e : Int) (he1 : -100000 ≤ e) (he2 : e ≤ 100000) (w : World) (row : RowB w b n (fun i => A.testBit i)) (A0 : A ≠ 0) :
    Calls Tryz.prog 179 #[.int .i64 1, .int .i64 m, .bool below, .slice (some ⟨b, 0, none⟩) n cap, .int .i64 e] w fun r w' => r = .returned (.int .u64 (rnd true m below A e)) ∧ ∃ k, w' = w.drewN k := by
  have hs := rsize_s
  have hl := length_any b n cap A hA (by omega) w row
  obtain ⟨La, hLa, hcase⟩ := last_two true A0 e
  obtain ⟨b1, b2⟩ := blen_le A0
  have b3 := blen_le_of hA
  have b4 := lt_blen A
  obtain ⟨N, hN⟩ : ∃ N : Nat, blen A = N := ⟨_, rfl⟩
  rw [hN] at hl hcase b1 b2 b3 b4
  have HLa : Hid (lastOf true A e = La) := hLa
  have HN : Hid (blen A = N) := hN
  have B1 : Hid _ := b1
  have B4 : Hid _ := b4
  have HA : Hid _ := hA
  have hq : quo A (La - e) < 2 ^ 63 := by
    obtain ⟨x, k1, k2, _⟩ := kept true A0 e (min e (-149)) (by omega) (by show _ ≤ (-149 : Int); omega)
    rw [hLa] at k2
    exact Nat.lt_of_lt_of_le k2 (by decide)
  have HQ : Hid _ := hq
  clear hLa hN b1 b4 hA hq
  have p52 : ((fP true : Nat) : Int) = 23 := rfl
  have l74 : fL true = -149 := rfl
  rw [p52, l74] at hcase
  clear p52 l74
  have hk : -149 ≤ La ∧ e + (N : Int) - 1 - La ≤ 23 ∧ La ≤ 300000 := by rcases hcase with ⟨a, rfl⟩ | ⟨a, rfl⟩ <;> refine ⟨?_, ?_, ?_⟩ <;> omega
  obtain ⟨hk1, hk2, hk3⟩ := hk
  have N1 : ((N : Int) == 0) = false := by simp; omega
  go_enter Tryz.func179, Tryz.ntmps179
  go_upto_if 44 with (first
      | (go_at_call 163; refine (hs _).mono ?_; rintro r w1 ⟨rfl, hw⟩; rw [hw]; clear hw w1)
      | (go_at_call 254; refine hl.mono ?_; rintro r w1 ⟨rfl, hw⟩; rw [hw]; clear hw w1))
  go_cut [15] from 23 to 46 (fun s wx => s = .int .i64 La ∧ wx = w)
  case first =>
    rcases hcase with ⟨hc, hLa⟩ | ⟨hc, hLa⟩
    · have HL : Hid _ := hLa
      clear hLa
      go_wp2_with fail
      go_meet
      case rel => exact ⟨by rw [HL.out], rfl⟩
    · have HL : Hid _ := hLa
      clear hLa
      go_wp2_with fail
      go_meet
      case rel => exact ⟨by rw [HL.out], rfl⟩
  case rest =>
    obtain ⟨rfl, hw⟩ := hcut
    rw [hw]
    clear hw wc hcase hs hl
    go_wp2
    go_loop [16, 17] (fun q i => ∃ j : Nat, j ≤ N ∧ q = .int .u64 ((qTo A (La - e) j : Nat) : Int) ∧ ((j = 0 ∧ i = .int .i64 (-1)) ∨ ∃ i0 : Nat, j = i0 + 1 ∧ i = .int .i64 (i0 : Int))) (fun _ i => (intOf i + 1).toNat)
    case atStart =>
      refine ⟨N, Nat.le_refl _, by rw [qTo_top _ B4.out]; rfl, Or.inr ⟨N - 1, by omega, by go_num⟩⟩
    case round =>
      obtain ⟨j, hj, rfl, hj2⟩ := hrel
      rcases hj2 with ⟨rfl, rfl⟩ | ⟨i0, rfl, rfl⟩
      · rw [qTo_end]
        obtain ⟨Q, hQ⟩ : ∃ Q : Nat, quo A (La - e) = Q := ⟨_, rfl⟩
        have HQ' : Hid _ := hQ
        rw [hQ]
        clear hQ
        go_wp2
        go_loop [18, 19, 20] (fun h l i => ∃ j : Nat, j ≤ N ∧ i = .int .i64 (j : Int) ∧ h = .bool (half (A % 2 ^ j) (La - e)) ∧ l = .bool (low (A % 2 ^ j) (La - e))) (fun _ _ i => N - (intOf i).toNat)
        case atStart => exact ⟨0, by omega, rfl, by rw [(hl_zero A _).1], by rw [(hl_zero A _).2]⟩
        case round =>
          obtain ⟨j, hj, rfl, rfl, rfl⟩ := hrel
          by_cases hlt : j < N
          · have cj : w.cell? ⟨b, j, none⟩ = some (.bool (A.testBit j)) := row j (by omega)
            have t1 : (j : Int) < (N : Int) := by omega
            cases tb : A.testBit j
            · have Z : Hid _ := hl_no (k := La - e) tb
              rw [tb] at cj
              clear tb row
              go_wp2
              go_round
              case rel => exact ⟨j + 1, by omega, by go_num, by rw [Z.out.1], by rw [Z.out.2]⟩
              case measure => simp [intOf]; omega
            · rcases Int.lt_trichotomy (e + (j : Int)) (La - 1) with hc | hc | hc
              · have Z : Hid _ := hl_lt (k := La - e) tb (by omega)
                have hne : (e + (j : Int) == La - 1) = false := by simp; omega
                rw [tb] at cj
                clear tb row
                go_wp2
                go_round
                case rel => exact ⟨j + 1, by omega, by go_num, by rw [Z.out.1], by rw [Z.out.2]⟩
                case measure => simp [intOf]; omega
              · have Z : Hid _ := hl_eq (k := La - e) tb (by omega)
                have hne : (e + (j : Int) == La - 1) = true := by simp; omega
                have hnl : ¬ e + (j : Int) < La - 1 := by omega
                rw [tb] at cj
                clear tb row hc
                go_wp2
                go_round
                case rel => exact ⟨j + 1, by omega, by go_num, by rw [Z.out.1], by rw [Z.out.2]⟩
                case measure => simp [intOf]; omega
              · have Z : Hid _ := hl_gt (A := A) (i := j) (k := La - e) (by omega)
                have hne : (e + (j : Int) == La - 1) = false := by simp; omega
                have hnl : ¬ e + (j : Int) < La - 1 := by omega
                rw [tb] at cj
                clear tb row
                go_wp2
                go_round
                case rel => exact ⟨j + 1, by omega, by go_num, by rw [Z.out.1], by rw [Z.out.2]⟩
                case measure => simp [intOf]; omega
          · have : j = N := by omega
            subst this
            rw [Nat.mod_eq_of_lt B4.out]
            obtain ⟨H, hH⟩ : ∃ H : Bool, half A (La - e) = H := ⟨_, rfl⟩
            obtain ⟨L, hL⟩ : ∃ L : Bool, low A (La - e) = L := ⟨_, rfl⟩
            have HH : Hid _ := hH
            have HL : Hid _ := hL
            rw [hH, hL]
            clear hH hL
            go_upto_region 24 with fail
            iterate 8 go_step
            go_cut [21] from 114 to 144 (fun s wx => s = .bool (away m below (Q % 2 == 1) H L) ∧ wx = w)
            case first =>
              by_cases m1 : m = 1
              · subst m1
                cases below <;> cases H <;> cases L <;> (go_wp2_with fail; go_meet; exact ⟨rfl, rfl⟩)
              · by_cases m2 : m = 2
                · subst m2
                  cases below <;> cases H <;> cases L <;> (go_wp2_with fail; go_meet; exact ⟨rfl, rfl⟩)
                · by_cases m3 : m = 3
                  · subst m3
                    go_wp2_with fail
                    go_meet
                    exact ⟨rfl, rfl⟩
                  · have n1 : (m == 1) = false := by simp [m1]
                    have n2 : (m == 2) = false := by simp [m2]
                    have n3 : (m == 3) = false := by simp [m3]
                    have aw : Hid (∀ o, away m below o H L = (H && (L || o))) := fun o => by unfold away; rw [if_neg m1, if_neg m2, if_neg m3]
                    cases H
                    · go_wp2_with fail
                      go_meet
                      exact ⟨by rw [aw.out]; rfl, rfl⟩
                    · cases L
                      · have od : ((Q : Int) % 2 == 1) = (Q % 2 == 1) := by rw [Bool.eq_iff_iff]; simp; omega
                        go_wp2_with fail
                        go_meet
                        exact ⟨by rw [aw.out]; rfl, rfl⟩
                      · go_wp2_with fail
                        go_meet
                        exact ⟨by rw [aw.out]; rfl, rfl⟩
            case rest =>
              obtain ⟨rfl, hw⟩ := hcut
              rw [hw]
              clear hw wc
              have T := ref_fin true m below La Q H L
              obtain ⟨mo, hmo⟩ : ∃ mo : Bool, away m below (Q % 2 == 1) H L = mo := ⟨_, rfl⟩
              rw [hmo] at T ⊢
              have T2 : Hid (rnd true m below A e = sgnd true below (refSize true m below La (Q + mo.toNat)) ∧ Q < 2 ^ 24 ∧ (La = -149 ∨ 2 ^ 23 ≤ Q)) := by
                obtain ⟨x, k1, k2, k3, _⟩ := kept true A0 e (min e (-149)) (by omega) (by show _ ≤ (-149 : Int); omega)
                have fl : fL true = -149 := rfl
                have fp : fP true = 23 := rfl
                rw [HLa.out, HQ'.out, fp] at k2 k3
                rw [HLa.out, fl] at k1
                have k4 : La = -149 ∨ 2 ^ 23 ≤ Q := by rcases k3 with k | k; left; omega; right; exact k
                have T3 := T k2 (by rw [fl, fp]; exact k4) (by rw [fl]; exact hk1)
                refine ⟨?_, k2, k4⟩
                unfold rnd
                rw [if_neg A0]
                unfold mag
                rw [HLa.out, HQ'.out, HH.out, HL.out, ← T3]
                cases mo <;> rfl
              clear T hmo HLa HQ' HH HL HQ B1 B4 HA HN
              iterate 2 go_step
              go_cut [16] from 145 to 147 (fun s wx => s = .int .u64 ((Q + mo.toNat : Nat) : Int) ∧ wx = w)
              case first =>
                have q53 := T2.out.2.1
                clear T2
                cases mo
                · go_wp2_with fail
                  go_meet
                  exact ⟨rfl, rfl⟩
                · go_wp2_with fail
                  go_meet
                  exact ⟨by go_num, rfl⟩
              case rest =>
                obtain ⟨rfl, hw⟩ := hcut
                rw [hw]
                clear hw wc
                obtain ⟨y, hy⟩ : ∃ y : Int, ((Q + mo.toNat : Nat) : Int) = y := ⟨_, rfl⟩
                have y53 : 0 ≤ y ∧ y ≤ 16777216 := by have := T2.out.2.1; have := Bool.toNat_le mo; omega
                have T : Hid (rnd true m below A e = sgnd true below (refSize true m below La y.toNat)) := by rw [T2.out.1, ← hy]; rfl
                rw [hy]
                clear T2 hy
                obtain ⟨y0, y1⟩ := y53
                have hg : ∀ w, Calls Tryz.prog 173 #[.int .i64 1, .bool below] w fun e w' => e = .returned (.int .u64 (if below then 2147483648 else 0)) ∧ w' = w := rsign_any true below
                by_cases c1 : y = 16777216
                · subst c1
                  obtain ⟨X, hX⟩ : ∃ X : Int, La + 1 + 149 + 1 = X := ⟨_, rfl⟩
                  have x1 : 0 ≤ X := by omega
                  by_cases c3 : X < 255
                  · have TT : Hid _ := T.out.trans (ref_up_s m below La X hX.symm c3)
                    have wx : IntKind.u64.wrap (X * 8388608) = X * 8388608 := by rw [IntKind.wrap_u64]; omega
                    have pu := put_s' below X 0 x1 c3 (by decide) (by decide)
                    obtain ⟨S, hS⟩ : ∃ S : Int, (if below then (2147483648 : Int) else 0) = S := ⟨_, rfl⟩
                    rw [hS] at hg pu
                    have PU : Hid _ := pu
                    clear hS pu T
                    go_wp2_with fail
                    go_quiet ((go_at_call 173; exact Calls.quiet_of_same (hg _)))
                    go_wp2_with fail
                    go_ret
                    exact ⟨u64r_eq (by rw [TT.out, ← PU.out]; rfl), _, rfl⟩
                  · have nx : ¬ X < 255 := c3
                    have hmo := rmost_s
                    have hin : ∀ w, Calls Tryz.prog 224 #[.int .i64 1, .bool below] w fun e w' => e = .returned (.int .u64 (sgnd true below 2139095040)) ∧ ∃ n, w' = w.drewN n := rinf_any true below
                    have om : bits BinOp.or IntKind.u64 (if below then 2147483648 else 0) 2139095039 = sgnd true below 2139095039 := or_sign true below 2139095039 (by decide)
                    have GH : Hid _ := T.out.trans (ref_great_s m below La _ (Or.inl ⟨rfl, by omega⟩))
                    clear T
                    obtain ⟨S, hS⟩ : ∃ S : Int, (if below then (2147483648 : Int) else 0) = S := ⟨_, rfl⟩
                    rw [hS] at hg om
                    have OM : Hid _ := om
                    clear hS om
                    obtain ⟨VI, hVI⟩ : ∃ V : Int, sgnd true below 2139095040 = V := ⟨_, rfl⟩
                    rw [hVI] at hin
                    have HVI : Hid _ := hVI
                    clear hVI
                    rcases great_ways m below 2139095039 2139095040 with ⟨g, rfl⟩ | ⟨g, _, rfl, rfl⟩ | ⟨g, _, _, rfl, rfl⟩ | ⟨g, _, rfl, rfl⟩ | ⟨g, _, _, rfl, rfl⟩ | ⟨g, m3, m1, m2⟩
                    all_goals
                      have GV : Hid _ := GH.out
                      rw [g] at GV
                      have G2 : Hid _ := GV
                      clear GV GH g
                      go_wp2_with (first
                        | (go_at_call 173; refine (hg _).mono ?_; rintro r w1 ⟨rfl, hw⟩; rw [hw]; clear hw w1)
                        | (go_at_call 83; refine (hmo _).mono ?_; rintro r w1 ⟨rfl, hw⟩; rw [hw]; clear hw w1)
                        | (go_at_call 224; refine (hin _).mono ?_; rintro r w1 ⟨rfl, nn, hw⟩; rw [hw]; clear hw w1))
                      go_ret
                    · exact ⟨u64r_eq (by rw [G2.out]; exact OM.out), drew_0 w⟩
                    · exact ⟨u64r_eq (by rw [G2.out]; exact OM.out), drew_0 w⟩
                    · exact ⟨u64r_eq (by rw [G2.out]; exact OM.out), drew_0 w⟩
                    · exact ⟨u64r_eq (by rw [G2.out]; exact HVI.out.symm), nn, rfl⟩
                    · exact ⟨u64r_eq (by rw [G2.out]; exact HVI.out.symm), nn, rfl⟩
                    · exact ⟨u64r_eq (by rw [G2.out]; exact HVI.out.symm), nn, rfl⟩
                · have c1' : (y == 16777216) = false := by simp; omega
                  obtain ⟨X, hX⟩ : ∃ X : Int, La + 149 + 1 = X := ⟨_, rfl⟩
                  have x1 : 0 ≤ X := by omega
                  by_cases c2 : y < 8388608
                  · have pu := put_s' below 0 y (by omega) (by decide) y0 c2
                    have aw : bits BinOp.and IntKind.u64 y 8388607 = y := by
                      rw [and_bits y.toNat 23 8388607 rfl (by decide) y (by omega) (by omega)]
                      show y % 8388608 = _
                      omega
                    have TT : Hid _ := T.out.trans (ref_sub_s m below La y y0 c2)
                    obtain ⟨S, hS⟩ : ∃ S : Int, (if below then (2147483648 : Int) else 0) = S := ⟨_, rfl⟩
                    rw [hS] at hg pu
                    have PU : Hid _ := pu
                    clear hS pu T
                    go_wp2_with fail
                    go_quiet ((go_at_call 173; exact Calls.quiet_of_same (hg _)))
                    go_wp2_with fail
                    go_ret
                    exact ⟨u64r_eq (by rw [TT.out, ← PU.out]; rfl), _, rfl⟩
                  · by_cases c3 : X < 255
                    · have TT : Hid _ := T.out.trans (ref_norm_s m below La y X hX.symm c1 c2 y1 c3)
                      have wx : IntKind.u64.wrap (X * 8388608) = X * 8388608 := by rw [IntKind.wrap_u64]; omega
                      have pu := put_s' below X (y - 8388608) x1 c3 (by omega) (by omega)
                      have aw : bits BinOp.and IntKind.u64 y 8388607 = y - 8388608 := by
                        rw [and_bits y.toNat 23 8388607 rfl (by decide) y (by omega) (by omega)]
                        show y % 8388608 = _
                        omega
                      obtain ⟨S, hS⟩ : ∃ S : Int, (if below then (2147483648 : Int) else 0) = S := ⟨_, rfl⟩
                      rw [hS] at hg pu
                      have PU : Hid _ := pu
                      clear hS pu T
                      go_wp2_with fail
                      go_quiet ((go_at_call 173; exact Calls.quiet_of_same (hg _)))
                      go_wp2_with fail
                      go_ret
                      exact ⟨u64r_eq (by rw [TT.out, ← PU.out]), _, rfl⟩
                    · have nx : ¬ X < 255 := c3
                      have hmo := rmost_s
                      have hin : ∀ w, Calls Tryz.prog 224 #[.int .i64 1, .bool below] w fun e w' => e = .returned (.int .u64 (sgnd true below 2139095040)) ∧ ∃ n, w' = w.drewN n := rinf_any true below
                      have om : bits BinOp.or IntKind.u64 (if below then 2147483648 else 0) 2139095039 = sgnd true below 2139095039 := or_sign true below 2139095039 (by decide)
                      have GH : Hid _ := T.out.trans (ref_great_s m below La _ (Or.inr ⟨c1, by omega, by omega⟩))
                      clear T
                      obtain ⟨S, hS⟩ : ∃ S : Int, (if below then (2147483648 : Int) else 0) = S := ⟨_, rfl⟩
                      rw [hS] at hg om
                      have OM : Hid _ := om
                      clear hS om
                      obtain ⟨VI, hVI⟩ : ∃ V : Int, sgnd true below 2139095040 = V := ⟨_, rfl⟩
                      rw [hVI] at hin
                      have HVI : Hid _ := hVI
                      clear hVI
                      rcases great_ways m below 2139095039 2139095040 with ⟨g, rfl⟩ | ⟨g, _, rfl, rfl⟩ | ⟨g, _, _, rfl, rfl⟩ | ⟨g, _, rfl, rfl⟩ | ⟨g, _, _, rfl, rfl⟩ | ⟨g, m3, m1, m2⟩
                      all_goals
                        have GV : Hid _ := GH.out
                        rw [g] at GV
                        have G2 : Hid _ := GV
                        clear GV GH g
                        go_wp2_with (first
                          | (go_at_call 173; refine (hg _).mono ?_; rintro r w1 ⟨rfl, hw⟩; rw [hw]; clear hw w1)
                          | (go_at_call 83; refine (hmo _).mono ?_; rintro r w1 ⟨rfl, hw⟩; rw [hw]; clear hw w1)
                          | (go_at_call 224; refine (hin _).mono ?_; rintro r w1 ⟨rfl, nn, hw⟩; rw [hw]; clear hw w1))
                        go_ret
                      · exact ⟨u64r_eq (by rw [G2.out]; exact OM.out), drew_0 w⟩
                      · exact ⟨u64r_eq (by rw [G2.out]; exact OM.out), drew_0 w⟩
                      · exact ⟨u64r_eq (by rw [G2.out]; exact OM.out), drew_0 w⟩
                      · exact ⟨u64r_eq (by rw [G2.out]; exact HVI.out.symm), nn, rfl⟩
                      · exact ⟨u64r_eq (by rw [G2.out]; exact HVI.out.symm), nn, rfl⟩
                      · exact ⟨u64r_eq (by rw [G2.out]; exact HVI.out.symm), nn, rfl⟩
      · have hi0 : (i0 : Int) + 1 ≤ N := by omega
        have cj : w.cell? ⟨b, i0, none⟩ = some (.bool (A.testBit i0)) := row i0 (by omega)
        have t1 : (0 : Int) ≤ (i0 : Int) := by omega
        by_cases hge : La ≤ e + (i0 : Int)
        · obtain ⟨t, ht⟩ : ∃ t : Nat, e + (i0 : Int) - La = (t : Int) := ⟨(e + (i0 : Int) - La).toNat, by omega⟩
          have t64 : t < 64 := by omega
          have qw := wrap_pow t t64
          cases tb : A.testBit i0
          · have Z := q_no (A := A) (i := i0) (k := La - e) (t := t) (by omega) t64 HQ.out tb
            rw [tb] at cj
            clear tb row
            go_wp2
            go_round
            case rel => exact ⟨i0, by omega, rfl, by rcases i0 with _ | i1; exact Or.inl ⟨rfl, by go_num⟩; exact Or.inr ⟨i1, rfl, by go_num⟩⟩
            case measure => simp [intOf]
          · have Z := q_yes (A := A) (i := i0) (k := La - e) (t := t) (by omega) t64 HQ.out tb
            rw [tb] at cj
            clear tb row
            go_wp2
            go_round
            case rel => exact ⟨i0, by omega, rfl, by rcases i0 with _ | i1; exact Or.inl ⟨rfl, by go_num⟩; exact Or.inr ⟨i1, rfl, by go_num⟩⟩
            case measure => simp [intOf]
        · have Z : Hid _ := qTo_no A (La - e) i0 (by omega)
          have hge' : e + (i0 : Int) < La := by omega
          cases tb : A.testBit i0
          · rw [tb] at cj
            clear tb row
            go_wp2
            go_round
            case rel => exact ⟨i0, by omega, by rw [Z.out], by rcases i0 with _ | i1; exact Or.inl ⟨rfl, by go_num⟩; exact Or.inr ⟨i1, rfl, by go_num⟩⟩
            case measure => simp [intOf]
          · rw [tb] at cj
            clear tb row
            go_wp2
            go_round
            case rel => exact ⟨i0, by omega, by rw [Z.out], by rcases i0 with _ | i1; exact Or.inl ⟨rfl, by go_num⟩; exact Or.inr ⟨i1, rfl, by go_num⟩⟩
            case measure => simp [intOf]
end Go.Proofs.YthjoigkckgdcaaaGreat
namespace Go.Proofs.YthjoigkckgdcaaaGreat
open Go.RowKit
set_option linter.unusedVariables false
set_option linter.unusedSimpArgs false
def BitV (w : World) (v : Value) (n A : Nat) : Prop := A < 2 ^ n ∧ ((v = .slice none 0 0 ∧ n = 0) ∨ ∃ b cap, v = .slice (some ⟨b, 0, none⟩) n cap ∧ b < w.heap.size ∧ RowB w b n (fun i => A.testBit i))
theorem length_nil (w : World) : Calls Tryz.prog 254 #[.slice none 0 0] w fun e w' => e = .returned (.int .i64 0) ∧ w' = w := by
  go_enter Tryz.func254, Tryz.ntmps254
  go_wp2
  go_loopw [3] (fun i wr => i = .int .i64 0 ∧ wr = w) (fun i _ => 0)
  case atStart => exact ⟨rfl, rfl⟩
  case round =>
    obtain ⟨rfl, rfl⟩ := hrel
    go_wp2
    go_ret
    exact ⟨rfl, rfl⟩
set_option maxRecDepth 20000 in
theorem rounded_zero (s : Bool) (m : Int) (below : Bool) (v : Value) (e : Int) (w : World) (hl : Calls Tryz.prog 254 #[v] w fun e w' => e = .returned (.int .i64 0) ∧ w' = w) :
    Calls Tryz.prog 179 #[.int .i64 (fb s), .int .i64 m, .bool below, v, .int .i64 e] w fun r w' => r = .returned (.int .u64 (sgnd s below 0)) ∧ ∃ k, w' = w.drewN k := by
  have hg := rsign_any s below
  have e00 : (if below then fS s else 0) = sgnd s below 0 := by unfold sgnd; cases below <;> simp
  have e0 : Hid _ := e00
  clear e00
  generalize sgnd s below 0 = V at *
  generalize (if below then fS s else 0) = S at *
  cases s
  · have hs := rsize_d
    have hg' : ∀ w, Calls Tryz.prog 173 #[.int .i64 0, .bool below] w fun e w' => e = .returned (.int .u64 S) ∧ w' = w := hg
    clear hg
    show Calls Tryz.prog 179 #[.int .i64 0, .int .i64 m, .bool below, v, .int .i64 e] w _
    go_enter Tryz.func179, Tryz.ntmps179
    go_wp2_with (first
      | (go_at_call 163; refine (hs _).mono ?_; rintro r w1 ⟨rfl, hw⟩; rw [hw]; clear hw w1)
      | (go_at_call 254; refine hl.mono ?_; rintro r w1 ⟨rfl, hw⟩; rw [hw]; clear hw w1)
      | (go_at_call 173; refine (hg' _).mono ?_; rintro r w1 ⟨rfl, hw⟩; rw [hw]; clear hw w1))
    go_ret
    exact ⟨u64r_eq e0.out, drew_0 w⟩
  · have hs := rsize_s
    have hg' : ∀ w, Calls Tryz.prog 173 #[.int .i64 1, .bool below] w fun e w' => e = .returned (.int .u64 S) ∧ w' = w := hg
    clear hg
    show Calls Tryz.prog 179 #[.int .i64 1, .int .i64 m, .bool below, v, .int .i64 e] w _
    go_enter Tryz.func179, Tryz.ntmps179
    go_wp2_with (first
      | (go_at_call 163; refine (hs _).mono ?_; rintro r w1 ⟨rfl, hw⟩; rw [hw]; clear hw w1)
      | (go_at_call 254; refine hl.mono ?_; rintro r w1 ⟨rfl, hw⟩; rw [hw]; clear hw w1)
      | (go_at_call 173; refine (hg' _).mono ?_; rintro r w1 ⟨rfl, hw⟩; rw [hw]; clear hw w1))
    go_ret
    exact ⟨u64r_eq e0.out, drew_0 w⟩
theorem rounded_any (s : Bool) (m : Int) (below : Bool) (v : Value) (n A : Nat) (hn : n ≤ 100000) (e : Int) (he1 : -100000 ≤ e) (he2 : e ≤ 100000) (w : World) (h : BitV w v n A) :
    Calls Tryz.prog 179 #[.int .i64 (fb s), .int .i64 m, .bool below, v, .int .i64 e] w fun r w' => r = .returned (.int .u64 (rnd s m below A e)) ∧ ∃ k, w' = w.drewN k := by
  obtain ⟨hA, h⟩ := h
  by_cases A0 : A = 0
  · subst A0
    rw [rnd_zero]
    rcases h with ⟨rfl, rfl⟩ | ⟨b, cap, rfl, hb, row⟩
    · exact rounded_zero s m below _ e w (length_nil w)
    · refine rounded_zero s m below _ e w ?_
      have := length_any b n cap 0 hA (by omega) w row
      rw [blen_zero] at this
      exact this
  · rcases h with ⟨rfl, rfl⟩ | ⟨b, cap, rfl, hb, row⟩
    · exfalso
      rw [Nat.pow_zero] at hA
      omega
    · cases s
      · exact rounded_d m below b n cap A hA hn e he1 he2 w row A0
      · exact rounded_s m below b n cap A hA hn e he1 he2 w row A0
/-! ### Rows of bits that the call itself makes -/
def Bl (n A : Nat) : List Value := (List.range n).map (fun i => .bool (A.testBit i))
theorem Bl_len (n A : Nat) : (Bl n A).length = n := by simp [Bl]
theorem Bl_get (n A i : Nat) (h : i < n) : (Bl n A)[i]? = some (.bool (A.testBit i)) := by simp [Bl, h]
theorem Bl_snoc (n A : Nat) : Bl n A ++ [.bool (A.testBit n)] = Bl (n + 1) A := by simp [Bl, List.range_succ]
theorem Bl_cons (n A : Nat) (b : Bool) : Value.bool b :: Bl n A = Bl (n + 1) (2 * A + b.toNat) := by
  apply List.ext_getElem?
  intro i
  rcases i with _ | i
  · simp [Bl, Nat.testBit_zero]
    cases b <;> simp <;> omega
  · by_cases c : i < n
    · have e : (2 * A + b.toNat).testBit (i + 1) = A.testBit i := by
        rw [Nat.testBit_succ]
        congr 1
        have := Bool.toNat_le b
        omega
      rw [Bl_get _ _ _ (by omega : i + 1 < n + 1), e, List.getElem?_cons_succ, Bl_get _ _ _ c]
    · rw [List.getElem?_eq_none (by rw [List.length_cons, Bl_len]; omega), List.getElem?_eq_none (by rw [Bl_len]; omega)]
theorem Bl_app (n k A B : Nat) (h : B < 2 ^ n) : Bl n B ++ Bl k A = Bl (n + k) (A * 2 ^ n + B) := by
  apply List.ext_getElem?
  intro i
  by_cases c : i < n
  · rw [List.getElem?_append_left (by rw [Bl_len]; exact c), Bl_get _ _ _ c, Bl_get _ _ _ (by omega), Nat.mul_comm, Nat.testBit_two_pow_mul_add A h i, if_pos c]
  · rw [List.getElem?_append_right (by rw [Bl_len]; omega), Bl_len]
    by_cases d : i < n + k
    · rw [Bl_get _ _ _ (by omega), Bl_get _ _ _ d, Nat.mul_comm, Nat.testBit_two_pow_mul_add A h i, if_neg c]
    · rw [List.getElem?_eq_none (by rw [Bl_len]; omega), List.getElem?_eq_none (by rw [Bl_len]; omega)]
theorem Bl_one (n A : Nat) : ∀ u ∈ Bl n A, u.oneCell' = true := by
  intro u hu
  simp [Bl] at hu
  obtain ⟨i, _, rfl⟩ := hu
  rfl
theorem Tryz.infoB : (Tryz.prog.info? 4).map (fun i => (i.zero, i.size, i.bytes)) = some (some (.bool false), 1, 1) := by kernel_rfl
theorem own_bits {w : World} {base n A : Nat} {v : Value} (h : w.ownsRow base 4 1 v n (Bl n A)) (hA : A < 2 ^ n) : BitV w v n A := by
  refine ⟨hA, ?_⟩
  obtain ⟨h1, h2⟩ := id h
  rcases h2 with ⟨rfl, rfl⟩ | ⟨g, cap, cur, rfl, _, hg, _⟩
  · exact Or.inl ⟨rfl, rfl⟩
  · refine Or.inr ⟨g, cap, rfl, ?_, ?_⟩
    · exact lt_of_block hg
    · intro i hi
      rw [h.cellAt i (by omega), Bl_get _ _ _ hi]
theorem BitV.below {W w1 : World} {v : Value} {n A : Nat} (h : BitV W v n A) (hb : Below W.heap.size W w1) : BitV w1 v n A := by
  obtain ⟨a, h⟩ := h
  refine ⟨a, ?_⟩
  rcases h with h | ⟨b, cap, e, hs, row⟩
  · exact Or.inl h
  · exact Or.inr ⟨b, cap, e, Nat.lt_of_lt_of_le hs hb.size, row.below hb hs⟩
theorem own_block {w : World} {base n size : Nat} {e : TypeId} {v : Value} {xs : List Value} (h : w.ownsRow base e size v n xs) : ∀ k, v.ownBlock = some k → base ≤ k := by
  obtain ⟨_, h⟩ := h
  rcases h with ⟨rfl, _⟩ | ⟨g, cap, cur, rfl, hg, _⟩
  · intro k hk; simp [Value.ownBlock] at hk
  · intro k hk; simp [Value.ownBlock] at hk; omega
set_option maxHeartbeats 1600000 in
theorem rbits_any (X : Nat) (hX : X < 18446744073709551616) (w : World) :
    Calls Tryz.prog 180 #[.int .u64 (X : Int)] w fun e w' => ∃ v, e = .returned v ∧ w'.ownsRow w.heap.size 4 1 v (blen X) (Bl (blen X) X) ∧ Below w.heap.size w w' := by
  obtain ⟨i0, hi, hz0, hz1, hz2⟩ := info_parts Tryz.infoB
  go_enter Tryz.func180, Tryz.ntmps180
  go_wp2
  go_loopw [0, 3] (fun x v wr => ∃ k : Nat, k ≤ 64 ∧ x = .int .u64 ((X / 2 ^ k : Nat) : Int) ∧ wr.ownsRow w.heap.size 4 1 v k (Bl k X) ∧ (k = 0 ∨ X / 2 ^ (k - 1) ≠ 0) ∧ Below w.heap.size w wr) (fun x _ _ => (intOf x).toNat)
  case atStart => exact ⟨0, by omega, by simp, World.ownsRow_nil _ _ _ _, Or.inl rfl, Below.refl _ _⟩
  case round =>
    obtain ⟨k, hk, rfl, hown, hpos, hb⟩ := hrel
    have hlt : X / 2 ^ k < 18446744073709551616 := Nat.lt_of_le_of_lt (Nat.div_le_self _ _) hX
    by_cases z : X / 2 ^ k = 0
    · have e : blen X = k := by
        rcases hpos with rfl | hp
        · rw [Nat.pow_zero, Nat.div_one] at z
          subst z
          exact blen_zero
        · have k1 : 1 ≤ k := by
            rcases Nat.eq_zero_or_pos k with rfl | h
            · exact absurd z hp
            · exact h
          refine blen_uniq k1 ?_ ?_
          · by_cases c : 2 ^ (k - 1) ≤ X
            · exact c
            · exact absurd (Nat.div_eq_of_lt (by omega)) hp
          · exact Nat.lt_of_div_eq_zero (Nat.two_pow_pos k) z
      have E : Hid _ := e
      rw [z]
      clear e z hpos hlt
      go_wp2
      go_ret
      exact ⟨_, rfl, by rw [E.out]; exact hown, hb⟩
    · have kl : k < 64 := by
        by_cases c : k < 64
        · exact c
        · exfalso
          apply z
          exact Nat.div_eq_of_lt (Nat.lt_of_lt_of_le hX (by rw [show (18446744073709551616 : Nat) = 2 ^ 64 from rfl]; exact Nat.pow_le_pow_right (by decide) (by omega)))
      have zp : (0 : Int) < ((X / 2 ^ k : Nat) : Int) := Int.natCast_pos.2 (Nat.pos_of_ne_zero z)
      have zp' : ((X / 2 ^ k : Nat) : Int) < 18446744073709551616 := Int.ofNat_lt.2 hlt
      have q1 : (((X / 2 ^ k : Nat) : Int) % 2 == 1) = X.testBit k := by
        rw [Nat.testBit_eq_decide_div_mod_eq, Bool.eq_iff_iff, beq_iff_eq, decide_eq_true_iff]
        generalize X / 2 ^ k = d
        omega
      have q2 : Hid (((X / 2 ^ k : Nat) : Int) / 2 = ((X / 2 ^ (k + 1) : Nat) : Int)) := by
        rw [Nat.pow_succ, ← Nat.div_div_eq_div_mul]; rfl
      have Z : Hid _ := z
      clear z hlt
      generalize hD : ((X / 2 ^ k : Nat) : Int) = D at *
      have HD : Hid _ := hD
      clear hD
      go_wp2_with (first
        | (at_builtin; refine wpList_append_own _ rfl _ _ 193 rfl w.heap.size 4 i0 (.bool false) 1 1 Tryz.underlying193 hi hz0 hz1 hz2 rfl (by decide) _ _ _ rfl (hown.alloc _) ⟨wr.heap.size, 0, none⟩ 1 1 [.bool (X.testBit k)] rfl rfl ?c1 ?c2 ?c3 ?c4 ?c5 ?_)
        | go_in)
      case c1 =>
        intro j u hj
        match j, hj with
        | 0, hj => simp at hj; subst hj; simp [Addr.add]
      case c2 => intro u hu; simp at hu; subst hu; rfl
      case c3 => unfold maxLen; omega
      case c4 => omega
      case c5 => have := hb.size; simp; omega
      · intro v' w1 hown' hgrow _
        rw [Bl_snoc] at hown'
        have hb' := (hb.alloc hb.size _).grown hgrow (by have := hb.size; simp; omega) (own_block hown)
        clear hgrow hown
        go_wp2
        go_roundw
        case rel => exact ⟨k + 1, by omega, by rw [← q2.out], hown', Or.inr (by simpa using Z.out), hb'⟩
        case measure => simp [intOf]; omega
end Go.Proofs.YthjoigkckgdcaaaGreat
namespace Go.Proofs.YthjoigkckgdcaaaGreat
open Go.RowKit
set_option linter.unusedVariables false

def cB (A B c k : Nat) : Bool := decide (2 ^ k ≤ A % 2 ^ k + B % 2 ^ k + c)
theorem cB_zero (A B c : Nat) : cB A B c 0 = decide (1 ≤ c) := by unfold cB; rw [Nat.pow_zero, Nat.mod_one, Nat.mod_one]; simp
theorem bitN (A k : Nat) : A.testBit k = decide (A / 2 ^ k % 2 = 1) := Nat.testBit_eq_decide_div_mod_eq
theorem sum_parts (A B c k : Nat) (hc : c ≤ 1) : (A + B + c) / 2 ^ k = A / 2 ^ k + B / 2 ^ k + (if cB A B c k then 1 else 0) := by
  unfold cB
  have p := pow_pos' k
  have a := Nat.div_add_mod A (2 ^ k)
  have b := Nat.div_add_mod B (2 ^ k)
  have la := Nat.mod_lt A p
  have lb := Nat.mod_lt B p
  generalize A % 2 ^ k = x at *
  generalize B % 2 ^ k = y at *
  generalize A / 2 ^ k = q at *
  generalize B / 2 ^ k = r at *
  have e : A + B + c = (x + y + c) + 2 ^ k * (q + r) := by rw [Nat.mul_add]; omega
  rw [e, Nat.add_mul_div_left _ _ p]
  by_cases h : 2 ^ k ≤ x + y + c
  · have : (x + y + c) / 2 ^ k = 1 := by
      rw [Nat.div_eq_iff p]; omega
    simp [h]; omega
  · rw [Nat.div_eq_of_lt (by omega)]
    simp [h]
theorem sum_bit (A B c k : Nat) (hc : c ≤ 1) : (A + B + c).testBit k = ((A.testBit k ^^ B.testBit k) ^^ cB A B c k) := by
  rw [bitN, bitN, bitN, sum_parts A B c k hc]
  generalize A / 2 ^ k = q
  generalize B / 2 ^ k = r
  rcases Nat.mod_two_eq_zero_or_one q with h1 | h1 <;> rcases Nat.mod_two_eq_zero_or_one r with h2 | h2 <;> cases cB A B c k <;> simp [h1, h2] <;> omega
theorem cB_succ (A B c k : Nat) (hc : c ≤ 1) : cB A B c (k + 1) = (A.testBit k && B.testBit k || (A.testBit k || B.testBit k) && cB A B c k) := by
  rw [bitN, bitN]
  unfold cB
  rw [Nat.mod_pow_succ, Nat.mod_pow_succ, Nat.pow_succ]
  have p := pow_pos' k
  have la := Nat.mod_lt A p
  have lb := Nat.mod_lt B p
  generalize A % 2 ^ k = x at *
  generalize B % 2 ^ k = y at *
  generalize A / 2 ^ k = q at *
  generalize B / 2 ^ k = r at *
  generalize 2 ^ k = P at *
  rcases Nat.mod_two_eq_zero_or_one q with h1 | h1 <;> rcases Nat.mod_two_eq_zero_or_one r with h2 | h2 <;> simp [h1, h2] <;> omega

def sumTo (S k : Nat) (j : Nat) : Bool := decide (j < k) && S.testBit j
theorem sumTo_zero (S : Nat) : sumTo S 0 = fun _ => false := by funext j; simp [sumTo]
theorem sumTo_succ (S k : Nat) (v : Bool) (hv : v = S.testBit k) : (fun i => if i = k then v else sumTo S k i) = sumTo S (k + 1) := by
  funext j
  unfold sumTo
  by_cases e : j = k
  · subst e; simp [hv]
  · have : (decide (j < k)) = decide (j < k + 1) := by rw [decide_eq_decide]; omega
    simp [e, this]
theorem sumTo_full (S k j : Nat) (h : j < k) : sumTo S k j = S.testBit j := by simp [sumTo, h]

set_option maxHeartbeats 3200000 in
theorem add_bits (b1 b2 : Nat) (A B : Nat) (c : Bool) (w : World) (r1 : RowB w b1 128 A.testBit) (r2 : RowB w b2 128 B.testBit) (z1 : b1 < w.heap.size) (z2 : b2 < w.heap.size) :
    Calls Tryz.prog 284 #[.slice (some ⟨b1, 0, none⟩) 128 128, .slice (some ⟨b2, 0, none⟩) 128 128, .bool c] w fun e w' =>
      ∃ b : Nat, e = .returned (.slice (some ⟨b, 0, none⟩) 129 129) ∧ b < w'.heap.size ∧ RowB w' b 129 (fun j => if j = 128 then cB A B (if c then 1 else 0) 128 else (A + B + (if c then 1 else 0)).testBit j) ∧ Below w.heap.size w w' := by
  have hmk : ∀ w : World, (Instr.makeSlice 193 (.int .i64 129) (.int .i64 129)).run Tryz.prog w = .ok (.slice (some ⟨w.heap.size, 0, none⟩) 129 129) (freshW w 129) := fun w => make_bools 129 (by decide) w
  have hc : (if c then 1 else 0 : Nat) ≤ 1 := by cases c <;> decide
  have c0 : c = cB A B (if c then 1 else 0) 0 := by rw [cB_zero]; cases c <;> rfl
  generalize hcc : (if c then 1 else 0 : Nat) = cc at hc c0 ⊢
  clear hcc
  have C0 : Hid _ := c0
  clear c0
  go_enter Tryz.func284, Tryz.ntmps284
  go_wp2
  go_loopw [2, 9] (fun u i wr => ∃ (k : Nat), k ≤ 128 ∧ i = .int .i64 k ∧ u = .bool (cB A B cc k) ∧ w.heap.size < wr.heap.size ∧ RowB wr w.heap.size 129 (sumTo (A + B + cc) k) ∧ RowF wr w.heap.size 129 ∧ Below w.heap.size w wr) (fun _ i _ => 128 - (intOf i).toNat)
  case atStart =>
    refine ⟨0, by omega, rfl, congrArg Value.bool C0.out, by rw [fresh_size]; omega, ?_, fresh_free _ _, fresh_below _ _⟩
    rw [sumTo_zero]; exact fresh_row _ _
  case round =>
    obtain ⟨k, hk, rfl, rfl, s0, hrow, hfree, hb⟩ := hrel
    by_cases hlt : k < 128
    · have t1 : (k : Int) < 128 := by omega
      have ga : wr.cell? ⟨b1, k, none⟩ = some (.bool (A.testBit k)) := by rw [(bcell hb).1 _ _ z1]; exact r1 k hlt
      have gb : wr.cell? ⟨b2, k, none⟩ = some (.bool (B.testBit k)) := by rw [(bcell hb).1 _ _ z2]; exact r2 k hlt
      have go := hrow k (by omega)
      have ho := hfree k (by omega)
      have sb := sum_bit A B cc k hc
      have cs := cB_succ A B cc k hc
      generalize A.testBit k = x at *
      generalize B.testBit k = y at *
      generalize hz : cB A B cc k = z at *
      have S1 : Hid _ := sb
      have S2 : Hid _ := cs
      clear sb cs hz
      cases x <;> cases y <;> cases z
      all_goals
        go_wp2
        go_roundw
        case rel =>
          refine ⟨k + 1, by omega, by go_num, congrArg Value.bool S2.out.symm, by simpa using s0, ?_, hfree.set _ _, hb.setCell (by simp) _⟩
          rw [← sumTo_succ (A + B + cc) k _ S1.out.symm]
          exact hrow.set k _ (by omega)
        case measure => simp [intOf]; omega
    · have : k = 128 := by omega
      subst this
      have go := hrow 128 (by omega)
      have ho := hfree 128 (by omega)
      go_wp2
      go_ret
      refine ⟨_, rfl, by simpa using s0, ?_, hb.setCell (by simp) _⟩
      refine (hrow.set 128 _ (by omega)).ext (fun i hi => ?_)
      by_cases e : i = 128
      · simp [e]
      · simp only [if_neg e]
        exact sumTo_full _ _ _ (by omega)
end Go.Proofs.YthjoigkckgdcaaaGreat
namespace Go.Proofs.YthjoigkckgdcaaaGreat
open Go.RowKit
set_option linter.unusedVariables false

structure TwoMem (n : Nat) (ah al bh bl : Int) (w : World) : Prop where
  s0 : n < w.heap.size
  s1 : n + 1 < w.heap.size
  s2 : n + 1 + 1 < w.heap.size
  c0 : w.cell? ⟨n, 0, none⟩ = some (.int .u64 ah)
  c1 : w.cell? ⟨n, 1, none⟩ = some (.int .u64 al)
  d0 : w.cell? ⟨n + 1, 0, none⟩ = some (.int .u64 bh)
  d1 : w.cell? ⟨n + 1, 1, none⟩ = some (.int .u64 bl)
  e0 : ∃ x, w.cell? ⟨n + 1 + 1, 0, none⟩ = some (.int .u64 x)
  e1 : ∃ x, w.cell? ⟨n + 1 + 1, 1, none⟩ = some (.int .u64 x)
  f0 : w.frozen? ⟨n + 1 + 1, 0, none⟩ = false
  f1 : w.frozen? ⟨n + 1 + 1, 1, none⟩ = false
theorem TwoMem.below {n : Nat} {ah al bh bl : Int} {W w1 : World} (h : TwoMem n ah al bh bl W) (hb : Below W.heap.size W w1) : TwoMem n ah al bh bl w1 := by
  obtain ⟨hc, hf⟩ := bcell hb
  have hs := hb.size
  refine ⟨by have := h.s0; omega, by have := h.s1; omega, by have := h.s2; omega, ?_, ?_, ?_, ?_, ?_, ?_, ?_, ?_⟩
  · rw [hc _ _ h.s0]; exact h.c0
  · rw [hc _ _ h.s0]; exact h.c1
  · rw [hc _ _ h.s1]; exact h.d0
  · rw [hc _ _ h.s1]; exact h.d1
  · rw [hc _ _ h.s2]; exact h.e0
  · rw [hc _ _ h.s2]; exact h.e1
  · rw [hf _ _ h.s2]; exact h.f0
  · rw [hf _ _ h.s2]; exact h.f1

theorem TwoMem.drew {n : Nat} {ah al bh bl : Int} {W : World} (h : TwoMem n ah al bh bl W) : TwoMem n ah al bh bl W.drew :=
  ⟨h.s0, h.s1, h.s2, h.c0, h.c1, h.d0, h.d1, h.e0, h.e1, h.f0, h.f1⟩

theorem carry_128 (A B c : Nat) (ha : A < 2 ^ 128) (hb : B < 2 ^ 128) : cB A B c 128 = decide (2 ^ 128 ≤ A + B + c) := by
  unfold cB; rw [Nat.mod_eq_of_lt ha, Nat.mod_eq_of_lt hb]
theorem from_mod (f : Nat → Bool) (S x : Nat) (h : IsFrom f 128 x) (hf : ∀ j, j < 128 → f j = S.testBit j) : x = S % 2 ^ 128 := by
  apply Nat.eq_of_testBit_eq
  intro j
  rw [h j, Nat.testBit_mod_two_pow]
  by_cases c : j < 128
  · simp [c, hf j c]
  · simp [c]

set_option maxHeartbeats 1600000 in
theorem radd_any (ah al bh bl : Int) (h1 : Word ah) (h2 : Word al) (h3 : Word bh) (h4 : Word bl) (w : World) :
    Calls Tryz.prog 275 #[.agg #[.int .u64 ah, .int .u64 al], .agg #[.int .u64 bh, .int .u64 bl]] w fun e w' =>
      ∃ (h l : Int) (c : Bool), e = .returned (.tuple #[.agg #[.int .u64 h, .int .u64 l], .bool c]) ∧ Word h ∧ Word l ∧
        Hid (num h l = (num ah al + num bh bl) % 340282366920938463463374607431768211456) ∧ Hid (c = decide (340282366920938463463374607431768211456 ≤ num ah al + num bh bl)) ∧ Below w.heap.size w w' := by
  go_enter Tryz.func275, Tryz.ntmps275
  go_upto_region 1 with fail
  go_cut [6] from 7 to 11 (fun s wx => ∃ b3 : Nat, s = .slice (some ⟨b3, 0, none⟩) 129 129 ∧ b3 < wx.heap.size ∧ RowB wx b3 129 (fun j => if j = 128 then cB (N ah al) (N bh bl) 0 128 else (N ah al + N bh bl + 0).testBit j) ∧ TwoMem w.heap.size ah al bh bl wx ∧ Below w.heap.size w wx)
  case first =>
    have m0 : TwoMem w.heap.size ah al bh bl (((w.alloc (.cells #[.int .u64 ah, .int .u64 al] 187)).alloc (.cells #[.int .u64 bh, .int .u64 bl] 187)).alloc (.cells #[.int .u64 0, .int .u64 0] 187)).drew := by
      constructor <;> first | (simp [go_sem]; done) | (simp; omega) | (exact ⟨0, by simp [go_sem]⟩)
    have b0 : Below w.heap.size w (((w.alloc (.cells #[.int .u64 ah, .int .u64 al] 187)).alloc (.cells #[.int .u64 bh, .int .u64 bl] 187)).alloc (.cells #[.int .u64 0, .int .u64 0] 187)).drew := (below_three _ _ _ _).drew
    go_region_held3 (fun w' => w'.cell? ⟨w.heap.size, 0, none⟩ = some (.int .u64 ah) ∧ w'.cell? ⟨w.heap.size, 1, none⟩ = some (.int .u64 al) ∧ w'.cell? ⟨w.heap.size + 1, 0, none⟩ = some (.int .u64 bh) ∧ w'.cell? ⟨w.heap.size + 1, 1, none⟩ = some (.int .u64 bl))
      (first | (simp [go_sem, *]; done) | (go_keep; done))
      (first
        | (go_at_call_of 226 ah; refine (bits_any ah al h1 h2 _).mono ?_; rintro e w1 ⟨q1, rfl, x1, y1, r1, _, B1⟩; have m1 := m0.below B1; obtain ⟨_, _, _, c0, c1, d0, d1, _, _, _, _⟩ := id m1; have L1 := b0.trans (B1.mono b0.size))
        | (go_at_call_of 226 bh; refine (bits_any bh bl h3 h4 _).mono ?_; rintro e w2 ⟨q2, rfl, x2, y2, r2, _, B2⟩; have m2 := m1.below B2; clear c0 c1 d0 d1; obtain ⟨_, _, _, c0, c1, d0, d1, _, _, _, _⟩ := id m2; have L2 := L1.trans (B2.mono L1.size); have r1' := r1.below B2 y1; have y1' : q1 < w2.heap.size := (by have := B2.size; omega))
        | (go_at_call 284; refine (add_bits q1 q2 (N ah al) (N bh bl) false _ r1' r2 y1' y2).mono ?_; rintro e w3 ⟨q3, rfl, y3, r3, B3⟩; have m3 := m2.below B3; clear c0 c1 d0 d1; obtain ⟨_, _, _, c0, c1, d0, d1, _, _, _, _⟩ := id m3; have L3 := L2.trans (B3.mono L2.size)))
    go_wp2_with fail
    go_meet
    exact ⟨q3, rfl, y3, r3, m3, L3⟩
  case rest =>
    obtain ⟨b3, rfl, y3, r3, m3, L3⟩ := hcut
    obtain ⟨s0, s1, s2, c0, c1, d0, d1, ⟨x0, e0⟩, ⟨x1, e1⟩, f0, f1⟩ := id m3
    have g := r3 128 (by decide)
    simp only [if_true] at g
    go_wp2_with fail
    go_region_held3 (fun w' => w'.cell? ⟨b3, 128, none⟩ = some (.bool (cB (N ah al) (N bh bl) 0 128)))
      (first | (simp [go_sem, *]; done) | (go_keep; done))
      ((go_at_call 251; refine (from_any b3 129 129 _ (by decide) _ r3.drew y3).mono ?_; rintro e w4 ⟨h, l, rfl, wh, wl, F, B4⟩; have m4 := m3.drew.below B4; clear s0 s1 s2 c0 c1 d0 d1 e0 e1 f0 f1; obtain ⟨s0, s1, s2, c0, c1, d0, d1, ⟨x2, e0⟩, ⟨x3, e1⟩, f0, f1⟩ := id m4; have g4 : w4.cell? ⟨b3, 128, none⟩ = some (.bool (cB (N ah al) (N bh bl) 0 128)) := ((bcell B4).1 _ _ y3).trans g))
    go_wp2
    refine bodyPost_ret (v := .tuple #[.agg #[.int .u64 h, .int .u64 l], .bool (cB (N ah al) (N bh bl) 0 128)]) (by simp [results, Tryz.results275, go_sem, *]) rfl ?_
    have y5 := L3.size
    refine ⟨h, l, _, rfl, wh, wl, ?_, ?_, ((L3.drew.trans (B4.mono y5)).setCell (by simp; omega) _).setCell (by simp; omega) _⟩
    · have e := from_mod _ (N ah al + N bh bl + 0) _ F (fun j hj => by rw [if_neg (by omega)])
      have a := N_cast h1 h2
      have b := N_cast h3 h4
      have c := N_cast wh wl
      show num h l = _
      rw [← a, ← b, ← c, e]
      have : (2 : Nat) ^ 128 = 340282366920938463463374607431768211456 := by decide
      omega
    · have a := N_cast h1 h2
      have b := N_cast h3 h4
      show _ = _
      rw [carry_128 _ _ _ (N_lt h1 h2) (N_lt h3 h4), ← a, ← b, decide_eq_decide]
      have : (2 : Nat) ^ 128 = 340282366920938463463374607431768211456 := by decide
      omega

/-! ### Differences -/
def flipTo (B k : Nat) (j : Nat) : Bool := if j < k then !B.testBit j else B.testBit j
theorem flipTo_succ (B k : Nat) : (fun i => if i = k then !B.testBit k else flipTo B k i) = flipTo B (k + 1) := by
  funext j
  unfold flipTo
  by_cases e : j = k
  · subst e; simp
  · by_cases c : j < k
    · have : j < k + 1 := by omega
      simp [e, c, this]
    · have : ¬ j < k + 1 := by omega
      simp [e, c, this]
theorem flip_bit (B j : Nat) (hB : B < 2 ^ 128) (hj : j < 128) : flipTo B 128 j = (2 ^ 128 - (B + 1)).testBit j := by
  unfold flipTo
  rw [Nat.testBit_two_pow_sub_succ hB]
  simp [hj]

set_option maxHeartbeats 1600000 in
theorem rsub_any (ah al bh bl : Int) (h1 : Word ah) (h2 : Word al) (h3 : Word bh) (h4 : Word bl) (w : World) :
    Calls Tryz.prog 253 #[.agg #[.int .u64 ah, .int .u64 al], .agg #[.int .u64 bh, .int .u64 bl]] w fun e w' =>
      ∃ (h l : Int) (c : Bool), e = .returned (.tuple #[.agg #[.int .u64 h, .int .u64 l], .bool c]) ∧ Word h ∧ Word l ∧
        Hid (num h l = (num ah al - num bh bl) % 340282366920938463463374607431768211456) ∧ Hid (c = decide (num ah al < num bh bl)) ∧ Below w.heap.size w w' := by
  have m0 : TwoMem w.heap.size ah al bh bl (((w.alloc (.cells #[.int .u64 ah, .int .u64 al] 187)).alloc (.cells #[.int .u64 bh, .int .u64 bl] 187)).alloc (.cells #[.int .u64 0, .int .u64 0] 187)) := by
    constructor <;> first | (simp [go_sem]; done) | (simp; omega) | (exact ⟨0, by simp [go_sem]⟩)
  go_enter Tryz.func253, Tryz.ntmps253
  go_wp2_with fail
  refine (bits_any bh bl h3 h4 _).mono ?_
  rintro e w1 ⟨q, rfl, x1, y1, r1, fr1, B1⟩
  have m1 := m0.below B1
  have L1 := (below_three w _ _ _).trans (B1.mono (by simp; omega))
  simp at x1
  go_wp2_with fail
  go_loopw [7] (fun i wr => ∃ k : Nat, k ≤ 128 ∧ i = .int .i64 k ∧ q < wr.heap.size ∧ RowB wr q 128 (flipTo (N bh bl) k) ∧ RowF wr q 128 ∧ TwoMem w.heap.size ah al bh bl wr ∧ Below w.heap.size w wr) (fun i _ => 128 - (intOf i).toNat)
  case atStart => exact ⟨0, by omega, rfl, y1, r1.ext (fun i hi => by simp [flipTo]), fr1, m1, L1⟩
  case round =>
    obtain ⟨k, hk, rfl, y2, r2, fr2, m2, L2⟩ := hrel
    by_cases hlt : k < 128
    · have t1 : (k : Int) < 128 := by omega
      have g := r2 k hlt
      have g' : wr.cell? ⟨q, k, none⟩ = some (.bool ((N bh bl).testBit k)) := by rw [g]; simp [flipTo]
      have f' := fr2 k hlt
      clear g
      have hnot : ∀ (x : Bool) (w : World), (Op.unary .not (.bool x)).run Tryz.prog w = .ok (.bool (!x)) w := fun _ _ => rfl
      go_wp2
      go_roundw
      case rel =>
        refine ⟨k + 1, by omega, by go_num, by simpa using y2, ?_, fr2.set _ _, ?_, L2.setCell (by show _ ≤ q; omega) _⟩
        · rw [← flipTo_succ]
          exact r2.set k _ hlt
        · obtain ⟨s0, s1, s2, c0, c1, d0, d1, e0, e1, f0, f1⟩ := m2
          have n0 : q ≠ w.heap.size := by omega
          have n1 : q ≠ w.heap.size + 1 := by omega
          have n2 : q ≠ w.heap.size + 1 + 1 := by omega
          refine ⟨by simpa using s0, by simpa using s1, by simpa using s2, ?_, ?_, ?_, ?_, ?_, ?_, by simpa [go_sem] using f0, by simpa [go_sem] using f1⟩
          · rw [World.cell?_setCell_far _ _ _ _ n0]; exact c0
          · rw [World.cell?_setCell_far _ _ _ _ n0]; exact c1
          · rw [World.cell?_setCell_far _ _ _ _ n1]; exact d0
          · rw [World.cell?_setCell_far _ _ _ _ n1]; exact d1
          · rw [World.cell?_setCell_far _ _ _ _ n2]; exact e0
          · rw [World.cell?_setCell_far _ _ _ _ n2]; exact e1
      case measure => simp [intOf]; omega
    · have : k = 128 := by omega
      subst this
      obtain ⟨s0, s1, s2, c0, c1, d0, d1, ⟨x0, e0⟩, ⟨x1, e1⟩, f0, f1⟩ := id m2
      have r2' : RowB wr q 128 (2 ^ 128 - (N bh bl + 1)).testBit := r2.ext (fun i hi => flip_bit _ _ (N_lt h3 h4) hi)
      generalize hM : 2 ^ 128 - (N bh bl + 1) = M at r2'
      have HM : Hid _ := hM
      clear hM
      go_wp2_with fail
      refine (bits_any ah al h1 h2 _).mono ?_
      rintro e w3 ⟨q3, rfl, x3, y3, r3, _, B3⟩
      have m3 := m2.below B3
      have L3 := L2.trans (B3.mono L2.size)
      have r4 := r2'.below B3 y2
      have y4 : q < w3.heap.size := by have := B3.size; omega
      go_wp2_with fail
      refine (add_bits q3 q (N ah al) M true _ r3 r4 y3 y4).mono ?_
      rintro e w5 ⟨q5, rfl, y5, r5, B5⟩
      have m5 := m3.below B5
      have L5 := L3.trans (B5.mono L3.size)
      clear s0 s1 s2 c0 c1 d0 d1 e0 e1 f0 f1
      obtain ⟨s0, s1, s2, c0, c1, d0, d1, ⟨x2, e0⟩, ⟨x3, e1⟩, f0, f1⟩ := id m5
      have g := r5 128 (by decide)
      simp only [if_true] at g r5
      have hnot : ∀ (x : Bool) (w : World), (Op.unary .not (.bool x)).run Tryz.prog w = .ok (.bool (!x)) w := fun _ _ => rfl
      go_wp2_with fail
      go_region_held3 (fun w' => w'.cell? ⟨q5, 128, none⟩ = some (.bool (cB (N ah al) M 1 128)))
        (first | (simp [go_sem, *]; done) | (go_keep; done))
        ((go_at_call 251; refine (from_any q5 129 129 _ (by decide) _ r5.drew y5).mono ?_; rintro e w6 ⟨h, l, rfl, wh, wl, F, B6⟩; have m6 := m5.drew.below B6; clear s0 s1 s2 c0 c1 d0 d1 e0 e1 f0 f1; obtain ⟨s0, s1, s2, c0, c1, d0, d1, ⟨x4, e0⟩, ⟨x5, e1⟩, f0, f1⟩ := id m6; have g4 : w6.cell? ⟨q5, 128, none⟩ = some (.bool (cB (N ah al) M 1 128)) := ((bcell B6).1 _ _ y5).trans g))
      go_wp2
      refine bodyPost_ret (v := .tuple #[.agg #[.int .u64 h, .int .u64 l], .bool (!cB (N ah al) M 1 128)]) (by simp [results, Tryz.results253, go_sem, *]) rfl ?_
      have y7 := L5.size
      have a := N_cast h1 h2
      have b := N_cast h3 h4
      have c := N_cast wh wl
      have hM := HM.out
      have lb := N_lt h3 h4
      have p128 : (2 : Nat) ^ 128 = 340282366920938463463374607431768211456 := by decide
      refine ⟨h, l, _, rfl, wh, wl, ?_, ?_, ((L5.drew.trans (B6.mono y7)).setCell (by simp; omega) _).setCell (by simp; omega) _⟩
      · have e := from_mod _ (N ah al + M + 1) _ F (fun j hj => by rw [if_neg (by omega)])
        show num h l = _
        rw [← a, ← b, ← c, e]
        omega
      · show _ = _
        rw [carry_128 _ _ _ (N_lt h1 h2) (by omega), ← a, ← b, ← decide_not, decide_eq_decide]
        omega
end Go.Proofs.YthjoigkckgdcaaaGreat
namespace Go.Proofs.YthjoigkckgdcaaaGreat
open Go.RowKit
set_option linter.unusedVariables false

structure OneMem (n : Nat) (ah al : Int) (w : World) : Prop where
  s0 : n < w.heap.size
  s1 : n + 1 < w.heap.size
  c0 : w.cell? ⟨n, 0, none⟩ = some (.int .u64 ah)
  c1 : w.cell? ⟨n, 1, none⟩ = some (.int .u64 al)
  e0 : ∃ x, w.cell? ⟨n + 1, 0, none⟩ = some (.int .u64 x)
  e1 : ∃ x, w.cell? ⟨n + 1, 1, none⟩ = some (.int .u64 x)
  f0 : w.frozen? ⟨n + 1, 0, none⟩ = false
  f1 : w.frozen? ⟨n + 1, 1, none⟩ = false
theorem OneMem.below {n : Nat} {ah al : Int} {W w1 : World} (h : OneMem n ah al W) (hb : Below W.heap.size W w1) : OneMem n ah al w1 := by
  obtain ⟨hc, hf⟩ := bcell hb
  have hs := hb.size
  refine ⟨by have := h.s0; omega, by have := h.s1; omega, ?_, ?_, ?_, ?_, ?_, ?_⟩
  · rw [hc _ _ h.s0]; exact h.c0
  · rw [hc _ _ h.s0]; exact h.c1
  · rw [hc _ _ h.s1]; exact h.e0
  · rw [hc _ _ h.s1]; exact h.e1
  · rw [hf _ _ h.s1]; exact h.f0
  · rw [hf _ _ h.s1]; exact h.f1
theorem OneMem.far {n : Nat} {ah al : Int} {W : World} (h : OneMem n ah al W) (a : Addr) (v : Value) (h0 : a.block ≠ n) (h1 : a.block ≠ n + 1) : OneMem n ah al (W.setCell a v) := by
  obtain ⟨s0, s1, c0, c1, e0, e1, f0, f1⟩ := h
  refine ⟨by simpa using s0, by simpa using s1, ?_, ?_, ?_, ?_, by simpa [go_sem] using f0, by simpa [go_sem] using f1⟩
  · rw [World.cell?_setCell_far _ _ _ _ h0]; exact c0
  · rw [World.cell?_setCell_far _ _ _ _ h0]; exact c1
  · rw [World.cell?_setCell_far _ _ _ _ h1]; exact e0
  · rw [World.cell?_setCell_far _ _ _ _ h1]; exact e1
theorem one_start (w : World) (ah al : Int) : OneMem w.heap.size ah al ((w.alloc (.cells #[.int .u64 ah, .int .u64 al] 187)).alloc (.cells #[.int .u64 0, .int .u64 0] 187)) := by
  constructor <;> first | (simp [go_sem]; done) | (simp; omega) | (exact ⟨0, by simp [go_sem]⟩)

/-! ### Up -/
def upTo (A M k : Nat) (j : Nat) : Bool := decide (k ≤ j) && (decide (M ≤ j) && A.testBit (j - M))
theorem upTo_start (A M j : Nat) (h : j < 128) : false = upTo A M 128 j := by
  unfold upTo
  have : ¬ 128 ≤ j := by omega
  simp [this]
theorem upTo_step (A M k : Nat) (hk : 1 ≤ k) (hM : M ≤ k - 1) : (fun i => if i = k - 1 then A.testBit (k - 1 - M) else upTo A M k i) = upTo A M (k - 1) := by
  funext j
  unfold upTo
  by_cases e : j = k - 1
  · subst e
    simp [hM]
  · simp only [if_neg e]
    have : (decide (k ≤ j)) = decide (k - 1 ≤ j) := by rw [decide_eq_decide]; omega
    rw [this]
theorem upTo_end (A M k j : Nat) (hk : k = 0 ∨ k - 1 < M) : upTo A M k j = (A * 2 ^ M).testBit j := by
  unfold upTo
  rw [← Nat.shiftLeft_eq, Nat.testBit_shiftLeft]
  by_cases c : M ≤ j
  · have : k ≤ j := by omega
    simp [c, this]
  · simp [c]
theorem num_mul_pow (h l h' l' : Int) (M : Nat) (a : Word h) (b : Word l) (a' : Word h') (b' : Word l') (e : N h' l' = N h l * 2 ^ M % 2 ^ 128) : num h' l' = num h l * 2 ^ M % 340282366920938463463374607431768211456 := by
  rw [← N_cast a b, ← N_cast a' b', e]
  have p : (2 : Nat) ^ 128 = 340282366920938463463374607431768211456 := by decide
  rw [p]
  simp

set_option maxHeartbeats 1600000 in
theorem rshl_any (ah al n : Int) (h1 : Word ah) (h2 : Word al) (hn : -9223372036854775808 ≤ n) (hn' : n ≤ 9223372036854775807) (w : World) :
    Calls Tryz.prog 177 #[.agg #[.int .u64 ah, .int .u64 al], .int .i64 n] w fun e w' =>
      ∃ h l : Int, e = .returned (.agg #[.int .u64 h, .int .u64 l]) ∧ Word h ∧ Word l ∧ Hid (num h l = num ah al * 2 ^ n.toNat % 340282366920938463463374607431768211456) ∧ Below w.heap.size w w' := by
  have hmk := make_128
  have m0 := one_start w ah al
  go_enter Tryz.func177, Tryz.ntmps177
  go_upto_if 9 with fail
  go_cut [1] from 8 to 9 (fun s wx => s = .int .i64 (n.toNat : Nat) ∧ wx = (w.alloc (.cells #[.int .u64 ah, .int .u64 al] 187)).alloc (.cells #[.int .u64 0, .int .u64 0] 187))
  case first =>
    by_cases c : n < 0
    · go_wp2_with fail
      go_meet
      exact ⟨by rw [Int.toNat_of_nonpos (by omega)]; rfl, rfl⟩
    · go_wp2_with fail
      go_meet
      exact ⟨by rw [Int.toNat_of_nonneg (by omega)], rfl⟩
  case rest =>
    obtain ⟨rfl, rfl⟩ := hcut
    have hM : n.toNat ≤ 9223372036854775807 := by omega
    generalize hMn : n.toNat = M at *
    have HM : Hid (n.toNat = M) := hMn
    clear hMn
    go_wp2_with fail
    refine (bits_any ah al h1 h2 _).mono ?_
    rintro e w1 ⟨q, rfl, x1, y1, r1, _, B1⟩
    have m1 := m0.below B1
    have L1 := below_call (below_two w _ _) B1
    simp at x1
    go_wp2_with fail
    go_loopw [7] (fun i wr => ∃ k : Nat, k ≤ 128 ∧ i = .int .i64 ((k : Int) - 1) ∧ w1.heap.size < wr.heap.size ∧ RowB wr q 128 (N ah al).testBit ∧ RowB wr w1.heap.size 128 (upTo (N ah al) M k) ∧ RowF wr w1.heap.size 128 ∧ OneMem w.heap.size ah al wr ∧ Below w.heap.size w wr) (fun i _ => (intOf i + 1).toNat)
    case atStart =>
      have fb := fresh_below w1 128
      exact ⟨128, by omega, rfl, by rw [fresh_size]; omega, r1.below fb y1, (fresh_row w1 128).ext (fun i hi => upTo_start _ _ _ hi), fresh_free _ _, m1.below fb, below_call L1 fb⟩
    case round =>
      obtain ⟨k, hk, rfl, y2, r2, r3, fr3, m2, L2⟩ := hrel
      by_cases hin : 1 ≤ k ∧ M ≤ k - 1
      · obtain ⟨hk1, hkM⟩ := hin
        have t1 : (0 : Int) ≤ (k : Int) - 1 := by omega
        have t2 : (M : Int) ≤ (k : Int) - 1 := by omega
        have t3 : (k : Int) - 1 < 128 := by omega
        have g1 := r2 (k - 1 - M) (by omega)
        have g2 := r3 (k - 1) (by omega)
        have f2 := fr3 (k - 1) (by omega)
        go_wp2
        go_roundw
        case rel =>
          refine ⟨k - 1, by omega, ?_, by simpa using y2, r2.far _ _ (by show w1.heap.size ≠ q; omega), ?_, fr3.set _ _, m2.far _ _ (by show w1.heap.size ≠ _; omega) (by show w1.heap.size ≠ _; omega), L2.setCell (by show _ ≤ w1.heap.size; omega) _⟩
          · exact congrArg (Value.int IntKind.i64) (by omega)
          · rw [← upTo_step _ _ _ hk1 hkM]
            exact r3.set (k - 1) _ (by omega)
        case measure => simp [intOf]; omega
      · have hend : k = 0 ∨ k - 1 < M := by omega
        have r4 : RowB wr w1.heap.size 128 (N ah al * 2 ^ M).testBit := r3.ext (fun i hi => upTo_end _ _ _ _ hend)
        obtain ⟨s0, s1, c0, c1, ⟨x0, e0⟩, ⟨x1, e1⟩, f0, f1⟩ := id m2
        by_cases hk0 : k = 0
        · have t1 : ¬ (0 : Int) ≤ (k : Int) - 1 := by omega
          clear hin hend
          go_wp2_with fail
          refine (from_any w1.heap.size 128 128 _ (by decide) _ r4 y2).mono ?_
          rintro e w3 ⟨h, l, rfl, wh, wl, F, B3⟩
          have m3 := m2.below B3
          clear s0 s1 c0 c1 e0 e1 f0 f1
          obtain ⟨s0, s1, c0, c1, ⟨x2, e0⟩, ⟨x3, e1⟩, f0, f1⟩ := id m3
          go_wp2
          refine bodyPost_ret (v := .agg #[.int .u64 h, .int .u64 l]) (by simp [results, Tryz.results177, go_sem, *]) rfl ?_
          have L3 := below_call L2 B3
          exact ⟨h, l, rfl, wh, wl, by rw [HM.out]; exact num_mul_pow ah al h l M h1 h2 wh wl (from_mod _ _ _ F (fun j hj => rfl)), (L3.setCell (by simp) _).setCell (by simp) _⟩
        · have t1 : (0 : Int) ≤ (k : Int) - 1 := by omega
          have t2 : ¬ (M : Int) ≤ (k : Int) - 1 := by omega
          clear hin hend
          go_wp2_with fail
          refine (from_any w1.heap.size 128 128 _ (by decide) _ r4 y2).mono ?_
          rintro e w3 ⟨h, l, rfl, wh, wl, F, B3⟩
          have m3 := m2.below B3
          clear s0 s1 c0 c1 e0 e1 f0 f1
          obtain ⟨s0, s1, c0, c1, ⟨x2, e0⟩, ⟨x3, e1⟩, f0, f1⟩ := id m3
          go_wp2
          refine bodyPost_ret (v := .agg #[.int .u64 h, .int .u64 l]) (by simp [results, Tryz.results177, go_sem, *]) rfl ?_
          have L3 := below_call L2 B3
          exact ⟨h, l, rfl, wh, wl, by rw [HM.out]; exact num_mul_pow ah al h l M h1 h2 wh wl (from_mod _ _ _ F (fun j hj => rfl)), (L3.setCell (by simp) _).setCell (by simp) _⟩

/-! ### Down -/
end Go.Proofs.YthjoigkckgdcaaaGreat
namespace Go.Proofs.YthjoigkckgdcaaaGreat
open Go.RowKit
set_option linter.unusedVariables false

structure SumMem (n : Nat) (sh sl : Int) (w : World) : Prop where
  s0 : n < w.heap.size
  s1 : n + 1 < w.heap.size
  d0 : ∃ x, w.cell? ⟨n, 0, none⟩ = some (.int .u64 x)
  d1 : ∃ x, w.cell? ⟨n, 1, none⟩ = some (.int .u64 x)
  e0 : w.cell? ⟨n + 1, 0, none⟩ = some (.int .u64 sh)
  e1 : w.cell? ⟨n + 1, 1, none⟩ = some (.int .u64 sl)
  f0 : w.frozen? ⟨n, 0, none⟩ = false
  f1 : w.frozen? ⟨n, 1, none⟩ = false
  f2 : w.frozen? ⟨n + 1, 0, none⟩ = false
  f3 : w.frozen? ⟨n + 1, 1, none⟩ = false
theorem SumMem.below {n : Nat} {sh sl : Int} {W w1 : World} (h : SumMem n sh sl W) (hb : Below W.heap.size W w1) : SumMem n sh sl w1 := by
  obtain ⟨hc, hf⟩ := bcell hb
  have hs := hb.size
  refine ⟨by have := h.s0; omega, by have := h.s1; omega, ?_, ?_, ?_, ?_, ?_, ?_, ?_, ?_⟩
  · rw [hc _ _ h.s0]; exact h.d0
  · rw [hc _ _ h.s0]; exact h.d1
  · rw [hc _ _ h.s1]; exact h.e0
  · rw [hc _ _ h.s1]; exact h.e1
  · rw [hf _ _ h.s0]; exact h.f0
  · rw [hf _ _ h.s0]; exact h.f1
  · rw [hf _ _ h.s1]; exact h.f2
  · rw [hf _ _ h.s1]; exact h.f3
theorem SumMem.set {n : Nat} {sh sl : Int} {W : World} (h : SumMem n sh sl W) (x y : Int) : SumMem n x y ((W.setCell ⟨n + 1, 0, none⟩ (.int .u64 x)).setCell ⟨n + 1, 1, none⟩ (.int .u64 y)) := by
  obtain ⟨s0, s1, ⟨x0, d0⟩, ⟨x1, d1⟩, e0, e1, f0, f1, f2, f3⟩ := h
  refine ⟨by simpa using s0, by simpa using s1, ⟨x0, ?_⟩, ⟨x1, ?_⟩, ?_, ?_, ?_, ?_, ?_, ?_⟩ <;> simp [go_sem, *]
theorem SumMem.drew {n : Nat} {sh sl : Int} {W : World} (h : SumMem n sh sl W) : SumMem n sh sl W.drew := ⟨h.s0, h.s1, h.d0, h.d1, h.e0, h.e1, h.f0, h.f1, h.f2, h.f3⟩
theorem sum_start (w : World) : SumMem w.heap.size 0 0 ((w.alloc (.cells #[.int .u64 0, .int .u64 0] 187)).alloc (.cells #[.int .u64 0, .int .u64 0] 187)) := by
  constructor <;> first | (simp [go_sem]; done) | (simp; omega) | (exact ⟨0, by simp [go_sem]⟩)

theorem mul_step0 (a b k : Nat) (h : b.testBit k = false) : a * (b % 2 ^ (k + 1)) = a * (b % 2 ^ k) := by
  rw [bitN, decide_eq_false_iff_not] at h
  rw [Nat.mod_pow_succ]
  have : b / 2 ^ k % 2 = 0 := by omega
  rw [this]; simp
theorem mul_step1 (a b k : Nat) (h : b.testBit k = true) : a * (b % 2 ^ (k + 1)) = a * (b % 2 ^ k) + a * 2 ^ k := by
  rw [bitN, decide_eq_true_iff] at h
  rw [Nat.mod_pow_succ, h, Nat.mul_one, Nat.mul_add]
theorem mul_lt (a b k : Nat) (ha : a < 18446744073709551616) (hb : b < 18446744073709551616) : a * (b % 2 ^ k) < 340282366920938463463374607431768211456 := by
  have l := Nat.mod_le b (2 ^ k)
  have : a * (b % 2 ^ k) ≤ 18446744073709551615 * 18446744073709551615 := Nat.mul_le_mul (by omega) (by omega)
  omega
theorem mul_add_step (a b k : Nat) (sh sl ph pl rh rl : Int) (ha : a < 18446744073709551616) (hb : b < 18446744073709551616) (hk : k < 64) (h : b.testBit k = true)
    (S : num sh sl = ((a * (b % 2 ^ k) : Nat) : Int)) (P : num ph pl = num 0 a * 2 ^ k % 340282366920938463463374607431768211456) (R : num rh rl = (num sh sl + num ph pl) % 340282366920938463463374607431768211456) :
    num rh rl = ((a * (b % 2 ^ (k + 1)) : Nat) : Int) := by
  have e := mul_step1 a b k h
  have l := mul_lt a b (k + 1) ha hb
  have p0 : num 0 (a : Int) * 2 ^ k = ((a * 2 ^ k : Nat) : Int) := by unfold num; simp
  rw [p0] at P
  rw [e] at l
  generalize a * 2 ^ k = x at *
  generalize a * (b % 2 ^ k) = y at *
  rw [e, R, S, P]
  omega

set_option maxHeartbeats 1600000 in
theorem rmul_any (a b : Int) (h1 : Word a) (h2 : Word b) (w : World) :
    Calls Tryz.prog 225 #[.int .u64 a, .int .u64 b] w fun e w' =>
      ∃ (h l : Int), e = .returned (.agg #[.int .u64 h, .int .u64 l]) ∧ Word h ∧ Word l ∧ Hid (num h l = a * b) ∧ Below w.heap.size w w' := by
  obtain ⟨x, rfl⟩ := Int.eq_ofNat_of_zero_le h1.1
  obtain ⟨y, rfl⟩ := Int.eq_ofNat_of_zero_le h2.1
  have hx : x < 18446744073709551616 := by have := h1.2; omega
  have hy : y < 18446744073709551616 := by have := h2.2; omega
  have m0 := sum_start w
  go_enter Tryz.func225, Tryz.ntmps225
  go_wp2_with fail
  go_loopw [6] (fun i wr => ∃ (k : Nat) (sh sl : Int), k ≤ 64 ∧ i = .int .i64 k ∧ Word sh ∧ Word sl ∧ Hid (num sh sl = ((x * (y % 2 ^ k) : Nat) : Int)) ∧ SumMem w.heap.size sh sl wr ∧ Below w.heap.size w wr) (fun i _ => 64 - (intOf i).toNat)
  case atStart => exact ⟨0, 0, 0, by omega, rfl, word_zero, word_zero, by rw [Nat.pow_zero, Nat.mod_one]; exact rfl, m0, below_two _ _ _⟩
  case round =>
    obtain ⟨k, sh, sl, hk, rfl, wsh, wsl, S, m, L⟩ := hrel
    obtain ⟨s0, s1, ⟨x0, d0⟩, ⟨x1, d1⟩, e0, e1, f0, f1, f2, f3⟩ := id m
    by_cases hlt : k < 64
    · have t1 : (k : Int) < 64 := by omega
      have q1 := bit_of (y : Int) h2 k
      rw [Int.toNat_natCast] at q1
      cases hb : y.testBit k
      · rw [hb] at q1
        have S2 : Hid (num sh sl = ((x * (y % 2 ^ (k + 1)) : Nat) : Int)) := by rw [mul_step0 x y k hb]; exact S
        clear hb
        go_wp2_with fail
        go_roundw
        case rel => exact ⟨k + 1, sh, sl, by omega, by go_num, wsh, wsl, S2, m, L⟩
        case measure => simp [intOf]; omega
      · rw [hb] at q1
        have HB : Hid _ := hb
        clear hb
        go_wp2_with fail
        go_region_with
          (first
            | (go_at_call 177; refine (rshl_any 0 x k word_zero h1 (by omega) (by omega) _).mono ?_; rintro e w2 ⟨ph, pl, rfl, wph, wpl, P, B2⟩; have m2 := m.drew.below B2; have L2 := below_call L.drew B2; clear s0 s1 d0 d1 e0 e1 f0 f1 f2 f3; obtain ⟨s0, s1, ⟨x2, d0⟩, ⟨x3, d1⟩, e0, e1, f0, f1, f2, f3⟩ := id m2)
            | (go_at_call 275; refine (radd_any sh sl ph pl wsh wsl wph wpl _).mono ?_; rintro e w3 ⟨rh, rl, rc, rfl, wrh, wrl, R, _, B3⟩; have m3 := m2.below B3; have L3 := below_call L2 B3; clear s0 s1 d0 d1 e0 e1 f0 f1 f2 f3; obtain ⟨s0, s1, ⟨x4, d0⟩, ⟨x5, d1⟩, e0, e1, f0, f1, f2, f3⟩ := id m3))
        all_goals
          go_wp2_with fail
          go_roundw
          case rel => exact ⟨k + 1, rh, rl, by omega, by go_num, wrh, wrl, mul_add_step x y k sh sl ph pl rh rl hx hy hlt HB.out S.out (by have := P.out; rw [Int.toNat_natCast] at this; exact this) R.out, m3.set rh rl, (L3.setCell (by simp) _).setCell (by simp) _⟩
          case measure => simp [intOf]; omega
    · have : k = 64 := by omega
      subst this
      go_wp2_with fail
      refine bodyPost_ret (v := .agg #[.int .u64 sh, .int .u64 sl]) (by simp [results, Tryz.results225, go_sem, *]) rfl ?_
      refine ⟨sh, sl, rfl, wsh, wsl, ?_, (L.setCell (by simp) _).setCell (by simp) _⟩
      have := S.out
      rw [Nat.mod_eq_of_lt (show y < 2 ^ 64 by omega)] at this
      show num sh sl = _
      rw [this]; simp
end Go.Proofs.YthjoigkckgdcaaaGreat
namespace Go.Proofs.YthjoigkckgdcaaaGreat
open Go.RowKit
set_option linter.unusedVariables false
set_option linter.unusedSimpArgs false
theorem risInf_any (s : Bool) (a : Int) (h : Word a) (w : World) : Calls Tryz.prog 174 #[.int .i64 (fb s), .int .u64 a] w fun e w' => e = .returned (.bool (cls s a == 4)) ∧ ∃ n, w' = w.drewN n := by
  have hc := rclass_any s a h
  generalize cls s a = k at *
  generalize fb s = f at *
  go_enter Tryz.func174, Tryz.ntmps174
  go_wp2_with (go_at_call 134; refine (hc _).mono ?_; rintro e w1 ⟨rfl, n, rfl⟩)
  go_ret
  exact ⟨rfl, n, rfl⟩
theorem rvalue_any (s : Bool) (a : Int) (h : Word a) (hw : wideB s a = false) (w : World) : Calls Tryz.prog 175 #[.int .i64 (fb s), .int .u64 a] w fun e w' => e = .returned (.tuple #[.int .u64 (whl s a), .int .i64 (pwr s a)]) ∧ w' = w.drew := by
  have h1 := h.1
  have h2 := h.2
  cases s
  · have hs := rsize_d
    have hp : ∀ w, Calls Tryz.prog 219 #[.int .i64 0, .int .u64 a] w fun e w' => e = .returned (.tuple #[.int .u64 (xpo false a), .int .u64 (a % 4503599627370496)]) ∧ w' = w.drew := rparts_any false a h
    have e1 : zOf false a / 2 ^ fP false = xpo false a := by
      rw [zOf_double a h]
      show a % 9223372036854775808 / 4503599627370496 = a / 4503599627370496 % 2048
      omega
    have x0 : 0 ≤ xpo false a ∧ xpo false a < 2048 := by
      show 0 ≤ a / 4503599627370496 % 2048 ∧ a / 4503599627370496 % 2048 < 2048
      omega
    have hwh : whl false a = if 0 < xpo false a then a % 4503599627370496 + 4503599627370496 else a % 4503599627370496 := by unfold whl; rw [e1]; rfl
    have hpw : pwr false a = if 0 < xpo false a then -1074 + (xpo false a - 1) else -1074 := by unfold pwr; rw [e1]; rfl
    have om : bits BinOp.or IntKind.u64 (a % 4503599627370496) 4503599627370496 = a % 4503599627370496 + 4503599627370496 := by
      obtain ⟨x, hx⟩ : ∃ x : Nat, a % 4503599627370496 = x := ⟨(a % 4503599627370496).toNat, by omega⟩
      rw [hx]
      have t := u64_or_nat x 4503599627370496 (by omega) (by decide)
      have o := Nat.two_pow_add_eq_or_of_lt (i := 52) (b := x) (by omega) 1
      rw [Nat.mul_one, Nat.or_comm] at o
      rw [show (4503599627370496 : Nat) = 2 ^ 52 from rfl, ← o] at t
      exact t.trans (by rw [show (2 : Nat) ^ 52 = 4503599627370496 from rfl]; omega)
    show Calls Tryz.prog 175 #[.int .i64 0, .int .u64 a] w _
    rw [hwh, hpw]
    clear hwh hpw e1
    have om2 : a % 4503599627370496 + 4503599627370496 < 18446744073709551616 := by omega
    generalize xpo false a = X at *
    obtain ⟨x0, x1⟩ := x0
    generalize a % 4503599627370496 = M at *
    by_cases c : X = 0
    · subst c
      rw [if_neg (by decide), if_neg (by decide)]
      go_enter Tryz.func175, Tryz.ntmps175
      go_wp2_with (first
        | (go_at_call 163; refine (hs _).mono ?_; rintro e w1 ⟨rfl, rfl⟩)
        | (go_at_call 219; refine (hp _).mono ?_; rintro e w1 ⟨rfl, rfl⟩))
      exact bodyPost_ret (v := .tuple #[.int .u64 M, .int .i64 (-1074)]) (by simp [results, Tryz.results175, go_sem]) rfl ⟨rfl, rfl⟩
    · rw [if_pos (by omega), if_pos (by omega)]
      have c' : (X == 0) = false := by simp [c]
      have e3 : X - 1 + -1074 = -1074 + (X - 1) := by omega
      generalize M + 4503599627370496 = MM at *
      go_enter Tryz.func175, Tryz.ntmps175
      go_wp2_with (first
        | (go_at_call 163; refine (hs _).mono ?_; rintro e w1 ⟨rfl, rfl⟩)
        | (go_at_call 219; refine (hp _).mono ?_; rintro e w1 ⟨rfl, rfl⟩))
      refine bodyPost_ret (v := .tuple #[.int .u64 MM, .int .i64 (-1074 + (X - 1))]) ?_ rfl ⟨rfl, rfl⟩
      simp [results, Tryz.results175, go_sem]
      try omega
  · have a3 : a < 4294967296 := by unfold wideB at hw; simp at hw; exact hw
    have hs := rsize_s
    have hp : ∀ w, Calls Tryz.prog 219 #[.int .i64 1, .int .u64 a] w fun e w' => e = .returned (.tuple #[.int .u64 (xpo true a), .int .u64 (a % 8388608)]) ∧ w' = w.drew := rparts_any true a h
    have e1 : zOf true a / 2 ^ fP true = xpo true a := by
      rw [zOf_single a h1 a3]
      show a % 2147483648 / 8388608 = a / 8388608 % 256
      omega
    have x0 : 0 ≤ xpo true a ∧ xpo true a < 256 := by
      show 0 ≤ a / 8388608 % 256 ∧ a / 8388608 % 256 < 256
      omega
    have hwh : whl true a = if 0 < xpo true a then a % 8388608 + 8388608 else a % 8388608 := by unfold whl; rw [e1]; rfl
    have hpw : pwr true a = if 0 < xpo true a then -149 + (xpo true a - 1) else -149 := by unfold pwr; rw [e1]; rfl
    have om : bits BinOp.or IntKind.u64 (a % 8388608) 8388608 = a % 8388608 + 8388608 := by
      obtain ⟨x, hx⟩ : ∃ x : Nat, a % 8388608 = x := ⟨(a % 8388608).toNat, by omega⟩
      rw [hx]
      have t := u64_or_nat x 8388608 (by omega) (by decide)
      have o := Nat.two_pow_add_eq_or_of_lt (i := 23) (b := x) (by omega) 1
      rw [Nat.mul_one, Nat.or_comm] at o
      rw [show (8388608 : Nat) = 2 ^ 23 from rfl, ← o] at t
      exact t.trans (by rw [show (2 : Nat) ^ 23 = 8388608 from rfl]; omega)
    show Calls Tryz.prog 175 #[.int .i64 1, .int .u64 a] w _
    rw [hwh, hpw]
    clear hwh hpw e1
    have om2 : a % 8388608 + 8388608 < 18446744073709551616 := by omega
    generalize xpo true a = X at *
    obtain ⟨x0, x1⟩ := x0
    generalize a % 8388608 = M at *
    by_cases c : X = 0
    · subst c
      rw [if_neg (by decide), if_neg (by decide)]
      go_enter Tryz.func175, Tryz.ntmps175
      go_wp2_with (first
        | (go_at_call 163; refine (hs _).mono ?_; rintro e w1 ⟨rfl, rfl⟩)
        | (go_at_call 219; refine (hp _).mono ?_; rintro e w1 ⟨rfl, rfl⟩))
      exact bodyPost_ret (v := .tuple #[.int .u64 M, .int .i64 (-149)]) (by simp [results, Tryz.results175, go_sem]) rfl ⟨rfl, rfl⟩
    · rw [if_pos (by omega), if_pos (by omega)]
      have c' : (X == 0) = false := by simp [c]
      have e3 : X - 1 + -149 = -149 + (X - 1) := by omega
      generalize M + 8388608 = MM at *
      go_enter Tryz.func175, Tryz.ntmps175
      go_wp2_with (first
        | (go_at_call 163; refine (hs _).mono ?_; rintro e w1 ⟨rfl, rfl⟩)
        | (go_at_call 219; refine (hp _).mono ?_; rintro e w1 ⟨rfl, rfl⟩))
      refine bodyPost_ret (v := .tuple #[.int .u64 MM, .int .i64 (-149 + (X - 1))]) ?_ rfl ⟨rfl, rfl⟩
      simp [results, Tryz.results175, go_sem]
      try omega
theorem row_bl {w : World} {b n A : Nat} (row : RowB w b n (fun i => A.testBit i)) : ∀ j u, (Bl n A)[j]? = some u → w.cell? (Addr.add ⟨b, 0, none⟩ j) = some u := by
  intro j u hj
  have hl : j < n := by
    by_cases c : j < n
    · exact c
    · rw [List.getElem?_eq_none (by rw [Bl_len]; omega)] at hj; cases hj
  rw [Bl_get _ _ _ hl] at hj
  have := row j hl
  have e : Addr.add ⟨b, 0, none⟩ j = ⟨b, j, none⟩ := by simp [Addr.add]; intro h; exact h.symm
  rw [e, this, hj]
theorem below_drewN {B : Nat} {a w : World} (h : Below B a w) (n : Nat) : Below B a (w.drewN n) := ⟨h.os, h.tape, h.output, h.size, h.block⟩
end Go.Proofs.YthjoigkckgdcaaaGreat
namespace Go.Proofs.YthjoigkckgdcaaaGreat
open Go.RowKit
set_option linter.unusedVariables false

/-! ### The number of bits -/
structure LenTo (A k n : Nat) : Prop where
  le : n ≤ k
  lt : A % 2 ^ k < 2 ^ n
  ge : A % 2 ^ k = 0 ∨ 2 ^ n ≤ 2 * (A % 2 ^ k)
  zero : A % 2 ^ k = 0 → n = 0
theorem LenTo.no {A k n : Nat} (h : LenTo A k n) (hb : A.testBit k = false) : LenTo A (k + 1) n := by
  rw [bitN, decide_eq_false_iff_not] at hb
  have e : A % 2 ^ (k + 1) = A % 2 ^ k := by
    rw [Nat.mod_pow_succ]
    have : A / 2 ^ k % 2 = 0 := by omega
    rw [this]; omega
  exact ⟨by have := h.le; omega, by rw [e]; exact h.lt, by rw [e]; exact h.ge, by rw [e]; exact h.zero⟩
/-! ### Which one is greater -/
theorem cmp_bits {A B k : Nat} (e : A / 2 ^ (k + 1) = B / 2 ^ (k + 1)) (ha : A.testBit k = true) (hb : B.testBit k = false) : B < A := by
  rw [bitN, decide_eq_true_iff] at ha
  rw [bitN, decide_eq_false_iff_not] at hb
  rw [Nat.pow_succ, ← Nat.div_div_eq_div_mul, ← Nat.div_div_eq_div_mul] at e
  have l : B / 2 ^ k < A / 2 ^ k := by omega
  have := pow_pos' k
  rcases Nat.lt_or_ge B A with h | h
  · exact h
  · have := Nat.div_le_div_right (c := 2 ^ k) h
    omega
theorem cmp_same {A B k : Nat} (e : A / 2 ^ (k + 1) = B / 2 ^ (k + 1)) (h : A.testBit k = B.testBit k) : A / 2 ^ k = B / 2 ^ k := by
  rw [bitN, bitN, decide_eq_decide] at h
  rw [Nat.pow_succ, ← Nat.div_div_eq_div_mul, ← Nat.div_div_eq_div_mul] at e
  omega

set_option maxHeartbeats 1600000 in
theorem rcmp_any (ah al bh bl : Int) (h1 : Word ah) (h2 : Word al) (h3 : Word bh) (h4 : Word bl) (w : World) :
    Calls Tryz.prog 252 #[.agg #[.int .u64 ah, .int .u64 al], .agg #[.int .u64 bh, .int .u64 bl]] w fun e w' =>
      ∃ n : Int, e = .returned (.int .i64 n) ∧ Hid (n = cmpN (num ah al) (num bh bl)) ∧ Below w.heap.size w w' := by
  have L0 := (below_two w (.cells #[.int .u64 ah, .int .u64 al] 187) (.cells #[.int .u64 bh, .int .u64 bl] 187)).drew
  have c0 := cell_past (cell_new0 w (.int .u64 ah) (.int .u64 al) 187) (.cells #[.int .u64 bh, .int .u64 bl] 187)
  have c1 := cell_past (cell_new1 w (.int .u64 ah) (.int .u64 al) 187) (.cells #[.int .u64 bh, .int .u64 bl] 187)
  have d0 := cell_new0 (w.alloc (.cells #[.int .u64 ah, .int .u64 al] 187)) (.int .u64 bh) (.int .u64 bl) 187
  have d1 := cell_new1 (w.alloc (.cells #[.int .u64 ah, .int .u64 al] 187)) (.int .u64 bh) (.int .u64 bl) 187
  rw [World.size_alloc] at d0 d1
  go_enter Tryz.func252, Tryz.ntmps252
  go_upto_region 1 with fail
  go_cut [5, 6] from 8 to 11 (fun s t wx => ∃ q1 q2 : Nat, s = .slice (some ⟨q1, 0, none⟩) 128 128 ∧ t = .slice (some ⟨q2, 0, none⟩) 128 128 ∧ RowB wx q1 128 (N ah al).testBit ∧ RowB wx q2 128 (N bh bl).testBit ∧ Below w.heap.size w wx)
  case first =>
    go_region_held3 (fun w' => w'.cell? ⟨w.heap.size, 0, none⟩ = some (.int .u64 ah) ∧ w'.cell? ⟨w.heap.size, 1, none⟩ = some (.int .u64 al) ∧ w'.cell? ⟨w.heap.size + 1, 0, none⟩ = some (.int .u64 bh) ∧ w'.cell? ⟨w.heap.size + 1, 1, none⟩ = some (.int .u64 bl))
      (first | exact ⟨c0, c1, d0, d1⟩ | (simp [go_sem, *]; done))
      (first
        | (go_at_call_of 226 ah; refine (bits_any ah al h1 h2 _).mono ?_; rintro e w1 ⟨q1, rfl, x1, y1, r1, _, B1⟩; replace c0 := cell_on B1 c0; replace c1 := cell_on B1 c1; replace d0 := cell_on B1 d0; replace d1 := cell_on B1 d1; have L1 := below_call L0 B1)
        | (go_at_call_of 226 bh; refine (bits_any bh bl h3 h4 _).mono ?_; rintro e w2 ⟨q2, rfl, x2, y2, r2, _, B2⟩; replace c0 := cell_on B2 c0; replace c1 := cell_on B2 c1; replace d0 := cell_on B2 d0; replace d1 := cell_on B2 d1; have L2 := below_call L1 B2; have r1' := r1.below B2 y1))
    go_wp2_with fail
    go_meet
    exact ⟨q1, q2, rfl, rfl, r1', r2, L2⟩
  case rest =>
    obtain ⟨q1, q2, rfl, rfl, r1, r2, L2⟩ := hcut
    go_wp2_with fail
    go_loopw [7] (fun i wr => ∃ k : Nat, k ≤ 128 ∧ i = .int .i64 ((k : Int) - 1) ∧ Hid (N ah al / 2 ^ k = N bh bl / 2 ^ k) ∧ RowB wr q1 128 (N ah al).testBit ∧ RowB wr q2 128 (N bh bl).testBit ∧ Below w.heap.size w wr) (fun i _ => (intOf i + 1).toNat)
    case atStart => exact ⟨128, by omega, rfl, by rw [Nat.div_eq_of_lt (N_lt h1 h2), Nat.div_eq_of_lt (N_lt h3 h4)]; exact rfl, r1, r2, L2⟩
    case round =>
      obtain ⟨k, hk, rfl, E, r1, r2, L2⟩ := hrel
      have ca := N_cast h1 h2
      have cb := N_cast h3 h4
      have CA : Hid _ := ca
      have CB : Hid _ := cb
      clear ca cb
      by_cases hk0 : k = 0
      · subst hk0
        have e := E.out
        rw [Nat.pow_zero, Nat.div_one, Nat.div_one] at e
        have E' : Hid _ := e
        clear e
        go_wp2
        go_ret
        exact ⟨_, rfl, cmpN_eq (by rw [← CA.out, ← CB.out, E'.out]), L2⟩
      · obtain ⟨j, rfl⟩ : ∃ j, k = j + 1 := ⟨k - 1, by omega⟩
        have ej : ((j + 1 : Nat) : Int) - 1 = (j : Int) := by omega
        rw [ej]
        have t1 : (0 : Int) ≤ (j : Int) := by omega
        have t2 : (j : Int) < 128 := by omega
        have g1 := r1 j (by omega)
        have g2 := r2 j (by omega)
        cases ha : (N ah al).testBit j <;> cases hb : (N bh bl).testBit j
        · rw [ha] at g1; rw [hb] at g2
          have E2 := cmp_same E.out (ha.trans hb.symm)
          have E3 : Hid _ := E2
          clear E2 ha hb E
          go_wp2
          go_region
          go_wp2
          go_roundw
          case rel => exact ⟨j, by omega, rfl, E3, r1.drew, r2.drew, L2.drew⟩
          case measure => simp [intOf]
        · rw [ha] at g1; rw [hb] at g2
          have lt := cmp_bits E.out.symm hb ha
          clear ha hb E
          go_wp2
          go_region
          go_wp2
          go_ret
          exact ⟨_, rfl, cmpN_lt (by rw [← CA.out, ← CB.out]; omega), L2.drew⟩
        · rw [ha] at g1; rw [hb] at g2
          have lt := cmp_bits E.out ha hb
          clear ha hb E
          go_wp2
          go_region
          go_wp2
          go_ret
          exact ⟨_, rfl, cmpN_gt (by rw [← CA.out, ← CB.out]; omega), L2.drew⟩
        · rw [ha] at g1; rw [hb] at g2
          have E2 := cmp_same E.out (ha.trans hb.symm)
          have E3 : Hid _ := E2
          clear E2 ha hb E
          go_wp2
          go_region
          go_wp2
          go_roundw
          case rel => exact ⟨j, by omega, rfl, E3, r1.drew, r2.drew, L2.drew⟩
          case measure => simp [intOf]
end Go.Proofs.YthjoigkckgdcaaaGreat


namespace Go.Proofs.YthjoigkckgdcaaaGreat
open Go.RowKit
set_option linter.unusedVariables false

structure RootTo (A k r : Nat) : Prop where
  mul : r % 2 ^ k = 0
  room : r + 2 ^ k ≤ 18446744073709551616
  lo : r * r ≤ A
  hi : A < (r + 2 ^ k) * (r + 2 ^ k)
theorem RootTo.bit {A k r : Nat} (h : RootTo A (k + 1) r) : (r ||| 2 ^ k) = r + 2 ^ k ∧ r + 2 ^ k < 18446744073709551616 ∧ r % 2 ^ k = 0 := by
  have m := h.mul
  have p := pow_pos' k
  have ro := h.room
  rw [Nat.pow_succ] at m ro
  have d : r % 2 ^ k = 0 := by
    have := Nat.mod_mul_right_mod r (2 ^ k) 2
    rw [m] at this
    simpa using this.symm
  refine ⟨?_, by omega, d⟩
  have e : r = 2 ^ (k + 1) * (r / 2 ^ (k + 1)) := by
    have := Nat.div_add_mod r (2 ^ (k + 1))
    rw [h.mul] at this; omega
  rw [e]
  exact (Nat.two_pow_add_eq_or_of_lt (by rw [Nat.pow_succ]; omega) _).symm
theorem RootTo.take {A k r : Nat} (h : RootTo A (k + 1) r) (c : (r + 2 ^ k) * (r + 2 ^ k) ≤ A) : RootTo A k (r + 2 ^ k) := by
  obtain ⟨_, _, d⟩ := h.bit
  have ro := h.room
  have hi := h.hi
  have e : r + 2 ^ (k + 1) = r + 2 ^ k + 2 ^ k := by rw [Nat.pow_succ]; omega
  rw [e] at ro hi
  exact ⟨by rw [Nat.add_mod_right]; exact d, ro, c, hi⟩
theorem RootTo.fin {A r : Nat} (h : RootTo A 0 r) : r * r ≤ A ∧ A - r * r ≤ 2 * r := by
  have l := h.lo
  have hi := h.hi
  rw [Nat.pow_zero, Nat.add_mul, Nat.mul_add, Nat.one_mul, Nat.mul_one] at hi
  omega
theorem OneMem.drew {n : Nat} {ah al : Int} {W : World} (h : OneMem n ah al W) : OneMem n ah al W.drew := ⟨h.s0, h.s1, h.c0, h.c1, h.e0, h.e1, h.f0, h.f1⟩
theorem OneMem.alloc {n : Nat} {ah al : Int} {W : World} (h : OneMem n ah al W) (o : Obj) : OneMem n ah al (W.alloc o) :=
  h.below ((Below.refl _ _).alloc (Nat.le_refl _) o)
end Go.Proofs.YthjoigkckgdcaaaGreat
namespace Go.Proofs.YthjoigkckgdcaaaGreat
open Go.RowKit
set_option linter.unusedVariables false

structure DivMem (n q o : Nat) (ah al rh rl : Int) (A : Nat) (f : Nat → Bool) (w : World) : Prop where
  one : OneMem n ah al w
  rq : RowB w q 128 A.testBit
  ro : RowB w o 128 f
  fo : RowF w o 128
  g0 : w.cell? ⟨o + 1, 0, none⟩ = some (.int .u64 rh)
  g1 : w.cell? ⟨o + 1, 1, none⟩ = some (.int .u64 rl)
  k0 : w.frozen? ⟨o + 1, 0, none⟩ = false
  k1 : w.frozen? ⟨o + 1, 1, none⟩ = false
  nq : n + 1 < q
  qo : q < o
  sz : o + 1 < w.heap.size
theorem DivMem.below {n q o : Nat} {ah al rh rl : Int} {A : Nat} {f : Nat → Bool} {W w1 : World} (h : DivMem n q o ah al rh rl A f W) (hb : Below W.heap.size W w1) : DivMem n q o ah al rh rl A f w1 := by
  obtain ⟨hc, hf⟩ := bcell hb
  have hs := hb.size
  have sz := h.sz; have qo := h.qo
  exact ⟨h.one.below hb, h.rq.below hb (by omega), h.ro.below hb (by omega), h.fo.below hb (by omega), cell_on hb h.g0, cell_on hb h.g1, by rw [hf _ _ sz]; exact h.k0, by rw [hf _ _ sz]; exact h.k1, h.nq, h.qo, by omega⟩
theorem DivMem.set1 {n q o : Nat} {ah al rh rl : Int} {A : Nat} {f : Nat → Bool} {W : World} (h : DivMem n q o ah al rh rl A f W) (y : Int) : DivMem n q o ah al rh y A f (W.setCell ⟨o + 1, 1, none⟩ (.int .u64 y)) := by
  have nq := h.nq; have qo := h.qo
  have g0 := h.g0; have g1 := h.g1; have k0 := h.k0; have k1 := h.k1
  exact ⟨h.one.far _ _ (by show o + 1 ≠ _; omega) (by show o + 1 ≠ _; omega), h.rq.far _ _ (by show o + 1 ≠ _; omega), h.ro.far _ _ (by show o + 1 ≠ _; omega), h.fo.set _ _, by simp [go_sem, *], by simp [go_sem, *], by simp [go_sem, *], by simp [go_sem, *], nq, qo, by simpa using h.sz⟩
theorem DivMem.set {n q o : Nat} {ah al rh rl : Int} {A : Nat} {f : Nat → Bool} {W : World} (h : DivMem n q o ah al rh rl A f W) (x y : Int) : DivMem n q o ah al x y A f ((W.setCell ⟨o + 1, 0, none⟩ (.int .u64 x)).setCell ⟨o + 1, 1, none⟩ (.int .u64 y)) := by
  have nq := h.nq; have qo := h.qo
  have g0 := h.g0; have g1 := h.g1; have k0 := h.k0; have k1 := h.k1
  exact ⟨(h.one.far _ _ (by show o + 1 ≠ _; omega) (by show o + 1 ≠ _; omega)).far _ _ (by show o + 1 ≠ _; omega) (by show o + 1 ≠ _; omega), (h.rq.far _ _ (by show o + 1 ≠ _; omega)).far _ _ (by show o + 1 ≠ _; omega), (h.ro.far _ _ (by show o + 1 ≠ _; omega)).far _ _ (by show o + 1 ≠ _; omega), (h.fo.set _ _).set _ _, by simp [go_sem, *], by simp [go_sem, *], by simp [go_sem, *], by simp [go_sem, *], nq, qo, by simpa using h.sz⟩
theorem DivMem.bit {n q o : Nat} {ah al rh rl : Int} {A : Nat} {f : Nat → Bool} {W : World} (h : DivMem n q o ah al rh rl A f W) (k : Nat) (hk : k < 128) (v : Bool) : DivMem n q o ah al rh rl A (fun i => if i = k then v else f i) (W.setCell ⟨o, k, none⟩ (.bool v)) := by
  have nq := h.nq; have qo := h.qo
  have g0 := h.g0; have g1 := h.g1; have k0 := h.k0; have k1 := h.k1
  exact ⟨h.one.far _ _ (by show o ≠ _; omega) (by show o ≠ _; omega), h.rq.far _ _ (by show o ≠ _; omega), h.ro.set k v hk, h.fo.set _ _, by simp [go_sem, *], by simp [go_sem, *], by simp [go_sem, *], by simp [go_sem, *], nq, qo, by simpa using h.sz⟩
theorem DivMem.ext {n q o : Nat} {ah al rh rl : Int} {A : Nat} {f g : Nat → Bool} {W : World} (h : DivMem n q o ah al rh rl A f W) (e : ∀ i, i < 128 → f i = g i) : DivMem n q o ah al rh rl A g W :=
  ⟨h.one, h.rq, h.ro.ext e, h.fo, h.g0, h.g1, h.k0, h.k1, h.nq, h.qo, h.sz⟩

def quoTo (A b k : Nat) (j : Nat) : Bool := decide (k ≤ j) && (A / b).testBit j
theorem quo_bit (A b j : Nat) : (A / b).testBit j = decide (A / 2 ^ j / b % 2 = 1) := by
  rw [bitN, Nat.div_div_eq_div_mul, Nat.div_div_eq_div_mul, Nat.mul_comm]
theorem quoTo_step (A b k : Nat) (v : Bool) (hv : v = (A / b).testBit k) : (fun i => if i = k then v else quoTo A b (k + 1) i) = quoTo A b k := by
  funext j
  unfold quoTo
  by_cases e : j = k
  · subst e; simp [hv]
  · have : (decide (k + 1 ≤ j)) = decide (k ≤ j) := by rw [decide_eq_decide]; omega
    simp [e, this]
theorem quoTo_skip (A b k : Nat) (hv : (A / b).testBit k = false) : quoTo A b (k + 1) = quoTo A b k := by
  funext j
  unfold quoTo
  by_cases e : j = k
  · subst e
    have : ¬ j + 1 ≤ j := by omega
    simp [hv]
  · have : (decide (k + 1 ≤ j)) = decide (k ≤ j) := by rw [decide_eq_decide]; omega
    rw [this]
theorem quo_round (A b k : Nat) (hb : 0 < b) (r x : Nat) (hr : r = A / 2 ^ (k + 1) % b) (hx : x = 2 * r + (if A.testBit k then 1 else 0)) :
    (b ≤ x → (A / b).testBit k = true ∧ x - b = A / 2 ^ k % b) ∧ (x < b → (A / b).testBit k = false ∧ x = A / 2 ^ k % b) := by
  have hbit := bitN A k
  have e : A / 2 ^ (k + 1) = A / 2 ^ k / 2 := by rw [Nat.pow_succ, Nat.div_div_eq_div_mul]
  rw [e] at hr
  rw [quo_bit]
  generalize A / 2 ^ k = M at *
  have hxx : x = 2 * r + M % 2 := by
    rw [hx, hbit]
    rcases Nat.mod_two_eq_zero_or_one M with h | h <;> simp [h]
  have d := Nat.div_add_mod (M / 2) b
  have l := Nat.mod_lt (M / 2) hb
  rw [← hr] at d l
  generalize hq : M / 2 / b = q at *
  have eM : M = b * (2 * q) + x := by
    rw [Nat.mul_left_comm]
    omega
  constructor
  · intro c
    have e2 : M = (x - b) + b * (2 * q + 1) := by rw [Nat.mul_add, Nat.mul_one]; omega
    have q1 : M / b = 2 * q + 1 := by rw [e2, Nat.add_mul_div_left _ _ hb, Nat.div_eq_of_lt (by omega)]; omega
    have q2 : M % b = x - b := by rw [e2, Nat.add_mul_mod_self_left, Nat.mod_eq_of_lt (by omega)]
    rw [q1, q2]
    exact ⟨by simp, rfl⟩
  · intro c
    have q1 : M / b = 2 * q := by rw [eM, Nat.add_comm, Nat.add_mul_div_left _ _ hb, Nat.div_eq_of_lt c]; omega
    have q2 : M % b = x := by rw [eM, Nat.add_comm, Nat.add_mul_mod_self_left, Nat.mod_eq_of_lt c]
    rw [q1, q2]
    exact ⟨by simp, rfl⟩
theorem dbl_num (r : Nat) (sh sl rh rl : Int) (wsh : Word sh) (wsl : Word sl) (R : num rh rl = (r : Int)) (hr : r < 18446744073709551616) (S : num sh sl = num rh rl * 2 ^ Int.toNat 1 % 340282366920938463463374607431768211456) : num sh sl = ((2 * r : Nat) : Int) ∧ sl % 2 = 0 := by
  have e : (2 : Int) ^ Int.toNat 1 = 2 := rfl
  rw [e, R] at S
  have : num sh sl = ((2 * r : Nat) : Int) := by omega
  exact ⟨this, by unfold num at this; omega⟩

end Go.Proofs.YthjoigkckgdcaaaGreat
namespace Go.Proofs.YthjoigkckgdcaaaGreat
open Go.RowKit
set_option linter.unusedVariables false
set_option linter.unusedSimpArgs false
structure QMem (q o nl T : Nat) (rh rl dl : Int) (X : Nat) (f : Nat → Bool) (w : World) : Prop where
  rq : RowB w q nl (fun i => X.testBit i)
  ro : RowB w o T f
  fo : RowF w o T
  g0 : w.cell? ⟨o + 1, 0, none⟩ = some (.int .u64 rh)
  g1 : w.cell? ⟨o + 1, 1, none⟩ = some (.int .u64 rl)
  k0 : w.frozen? ⟨o + 1, 0, none⟩ = false
  k1 : w.frozen? ⟨o + 1, 1, none⟩ = false
  d0 : w.cell? ⟨o + 2, 0, none⟩ = some (.int .u64 0)
  d1 : w.cell? ⟨o + 2, 1, none⟩ = some (.int .u64 dl)
  qo : q < o
  sz : o + 2 < w.heap.size
theorem QMem.below {q o nl T : Nat} {rh rl dl : Int} {X : Nat} {f : Nat → Bool} {W w1 : World} (h : QMem q o nl T rh rl dl X f W) (hb : Below W.heap.size W w1) : QMem q o nl T rh rl dl X f w1 := by
  obtain ⟨hc, hf⟩ := bcell hb
  have hs := hb.size
  have sz := h.sz; have qo := h.qo
  exact ⟨h.rq.below hb (by omega), h.ro.below hb (by omega), h.fo.below hb (by omega), cell_on hb h.g0, cell_on hb h.g1, by rw [hf _ _ (by omega)]; exact h.k0, by rw [hf _ _ (by omega)]; exact h.k1, cell_on hb h.d0, cell_on hb h.d1, h.qo, by omega⟩
theorem QMem.set1 {q o nl T : Nat} {rh rl dl : Int} {X : Nat} {f : Nat → Bool} {W : World} (h : QMem q o nl T rh rl dl X f W) (y : Int) : QMem q o nl T rh y dl X f (W.setCell ⟨o + 1, 1, none⟩ (.int .u64 y)) := by
  have qo := h.qo
  have g0 := h.g0; have g1 := h.g1; have k0 := h.k0; have k1 := h.k1; have d0 := h.d0; have d1 := h.d1
  exact ⟨h.rq.far _ _ (by show o + 1 ≠ _; omega), h.ro.far _ _ (by show o + 1 ≠ _; omega), h.fo.set _ _, by simp [go_sem, *], by simp [go_sem, *], by simp [go_sem, *], by simp [go_sem, *], by simp [go_sem, *], by simp [go_sem, *], qo, by simpa using h.sz⟩
theorem QMem.set {q o nl T : Nat} {rh rl dl : Int} {X : Nat} {f : Nat → Bool} {W : World} (h : QMem q o nl T rh rl dl X f W) (x y : Int) : QMem q o nl T x y dl X f ((W.setCell ⟨o + 1, 0, none⟩ (.int .u64 x)).setCell ⟨o + 1, 1, none⟩ (.int .u64 y)) := by
  have qo := h.qo
  have g0 := h.g0; have g1 := h.g1; have k0 := h.k0; have k1 := h.k1; have d0 := h.d0; have d1 := h.d1
  exact ⟨(h.rq.far _ _ (by show o + 1 ≠ _; omega)).far _ _ (by show o + 1 ≠ _; omega), (h.ro.far _ _ (by show o + 1 ≠ _; omega)).far _ _ (by show o + 1 ≠ _; omega), (h.fo.set _ _).set _ _, by simp [go_sem, *], by simp [go_sem, *], by simp [go_sem, *], by simp [go_sem, *], by simp [go_sem, *], by simp [go_sem, *], qo, by simpa using h.sz⟩
theorem QMem.bit {q o nl T : Nat} {rh rl dl : Int} {X : Nat} {f : Nat → Bool} {W : World} (h : QMem q o nl T rh rl dl X f W) (k : Nat) (hk : k < T) (v : Bool) : QMem q o nl T rh rl dl X (fun i => if i = k then v else f i) (W.setCell ⟨o, k, none⟩ (.bool v)) := by
  have qo := h.qo
  have g0 := h.g0; have g1 := h.g1; have k0 := h.k0; have k1 := h.k1; have d0 := h.d0; have d1 := h.d1
  exact ⟨h.rq.far _ _ (by show o ≠ _; omega), h.ro.set k v hk, h.fo.set _ _, by simp [go_sem, *], by simp [go_sem, *], by simp [go_sem, *], by simp [go_sem, *], by simp [go_sem, *], by simp [go_sem, *], qo, by simpa using h.sz⟩
theorem quo_start {w : World} {q nl T : Nat} {dl : Int} {X A B : Nat} (hA : A < 2 ^ T) (hB : 0 < B) (row : RowB w q nl (fun i => X.testBit i)) (hq : q < w.heap.size) :
    QMem q w.heap.size nl T 0 0 dl X (quoTo A B T) (((freshW w T).alloc (.cells #[.int .u64 0, .int .u64 0] 187)).alloc (.cells #[.int .u64 0, .int .u64 dl] 187)) := by
  have fz := fresh_size w T
  have fb := fresh_below w T
  have nb := (Below.refl (freshW w T).heap.size (freshW w T)).alloc (Nat.le_refl _) (.cells #[.int .u64 0, .int .u64 0] 187)
  have nb2 := (Below.refl ((freshW w T).alloc (.cells #[.int .u64 0, .int .u64 0] 187)).heap.size ((freshW w T).alloc (.cells #[.int .u64 0, .int .u64 0] 187))).alloc (Nat.le_refl _) (.cells #[.int .u64 0, .int .u64 dl] 187)
  have s1 : ((freshW w T).alloc (.cells #[.int .u64 0, .int .u64 0] 187)).heap.size = w.heap.size + 2 := by simp; omega
  refine ⟨((row.below fb hq).below nb (by omega)).below nb2 (by omega), (((fresh_row w T).below nb (by omega)).below nb2 (by omega)).ext (fun i hi => ?_), ((fresh_free w T).below nb (by omega)).below nb2 (by omega), ?_, ?_, ?_, ?_, ?_, ?_, hq, by simp; omega⟩
  · unfold quoTo
    have : ¬ T ≤ i := by omega
    simp [this]
  · rw [← fz]; simp [go_sem]
  · rw [← fz]; simp [go_sem]
  · rw [← fz]; simp [go_sem]
  · rw [← fz]; simp [go_sem]
  · rw [← s1]; simp [go_sem]
  · rw [← s1]; simp [go_sem]
set_option maxRecDepth 100000 in
set_option maxHeartbeats 6400000 in
theorem rquotP_any (P : Nat) (hP : P ≤ 200) (q nl cap X : Nat) (bi : Int) (h3 : Word bi) (hb : 0 < bi) (hb2 : bi < 9007199254740992) (hX : X < 2 ^ nl) (hnl : nl ≤ 64) (w : World) (row : RowB w q nl (fun i => X.testBit i)) (hq : q < w.heap.size) :
    Calls Tryz.prog 227 #[.slice (some ⟨q, 0, none⟩) nl cap, .int .u64 bi, .int .i64 (P : Int)] w fun e w' =>
      ∃ o : Nat, e = .returned (.tuple #[.slice (some ⟨o, 0, none⟩) (nl + P) (nl + P), .bool (decide (X * 2 ^ P % bi.toNat ≠ 0))]) ∧ w.heap.size ≤ o ∧ o < w'.heap.size ∧ RowB w' o (nl + P) (fun i => (X * 2 ^ P / bi.toNat).testBit i) ∧ Below w.heap.size w w' := by
  obtain ⟨B, rfl⟩ := Int.eq_ofNat_of_zero_le h3.1
  have hB : 0 < B := by omega
  have hB2 : B < 9007199254740992 := by omega
  obtain ⟨T, hT⟩ : ∃ T : Nat, nl + P = T := ⟨_, rfl⟩
  have hTi : (nl : Int) + (P : Int) = (T : Int) := by omega
  have hT2 : T ≤ 300 := by omega
  obtain ⟨A, hA⟩ : ∃ A : Nat, X * 2 ^ P = A := ⟨_, rfl⟩
  have lA : A < 2 ^ T := by
    rw [← hA, ← hT, Nat.pow_add]
    exact Nat.mul_lt_mul_of_pos_right hX (Nat.two_pow_pos P)
  have AB0 : Hid (∀ j, j < P → A.testBit j = false) := by
    intro j hj
    have nj : ¬ P ≤ j := by omega
    rw [← hA, Nat.mul_comm, Nat.testBit_two_pow_mul]
    simp [nj]
  have AB1 : Hid (∀ i, A.testBit (i + P) = X.testBit i) := by
    intro i
    rw [← hA, Nat.mul_comm, Nat.testBit_two_pow_mul]
    simp
  rw [hA, hT, Int.toNat_natCast]
  have HT0 : Hid _ := hT
  have LA : Hid _ := lA
  clear hA lA hT
  have hmk := make_bools T (by omega)
  have m0 := quo_start (T := T) (dl := (B : Int)) LA.out hB row hq
  have fz := fresh_size w T
  go_enter Tryz.func227, Tryz.ntmps227
  go_wp2_with fail
  go_loopw [11] (fun i wr => ∃ (k r : Nat) (rh rl : Int), k ≤ T ∧ i = .int .i64 ((k : Int) - 1) ∧ Word rh ∧ Word rl ∧ r < B ∧ Hid (num rh rl = (r : Int)) ∧ Hid (r = A / 2 ^ k % B) ∧ QMem q w.heap.size nl T rh rl B X (quoTo A B k) wr ∧ Below w.heap.size w wr) (fun i _ => (intOf i + 1).toNat)
  case atStart =>
    exact ⟨T, 0, 0, 0, by omega, rfl, word_zero, word_zero, hB, rfl, by rw [Nat.div_eq_of_lt LA.out, Nat.zero_mod]; exact rfl, m0, below_new (below_new (fresh_below w T) _) _⟩
  case round =>
    obtain ⟨k, r, rh, rl, hk, rfl, wrh, wrl, hrB, R, RK, m, L⟩ := hrel
    obtain ⟨rq, ro, fo, g0, g1, k0, k1, d0, d1, qo, sz⟩ := id m
    by_cases hk0 : k = 0
    · subst hk0
      have r5 : RowB wr w.heap.size T (fun i => (A / B).testBit i) := ro.ext (fun i hi => by simp [quoTo])
      have rk := RK.out
      rw [Nat.pow_zero, Nat.div_one] at rk
      have RK' : Hid _ := rk
      clear rk RK
      have rrl : rh = 0 ∧ rl = (r : Int) := by
        have a := R.out
        have b := wrl.1; have c := wrl.2; have d := wrh.1
        unfold num at a; omega
      obtain ⟨rfl, hrl⟩ := rrl
      have HRL : Hid _ := hrl
      clear hrl
      have y5 : w.heap.size < wr.heap.size := by omega
      by_cases r0 : rl = 0
      · subst r0
        have e5 : decide (A % B ≠ 0) = false := by
          rw [← RK'.out]
          have := HRL.out
          simp; omega
        have E5 : Hid _ := e5
        clear e5
        go_wp2_with fail
        go_region
        go_wp2_with fail
        refine bodyPost_ret (v := .tuple #[.slice (some ⟨w.heap.size, 0, none⟩) T T, .bool false]) (by simp [results, Tryz.results227, go_sem]) rfl ?_
        exact ⟨_, by rw [E5.out], Nat.le_refl _, y5, r5, L.drew⟩
      · have e5 : decide (A % B ≠ 0) = true := by
          rw [← RK'.out]
          have := HRL.out
          simp; omega
        have E5 : Hid _ := e5
        clear e5
        go_wp2_with fail
        go_region
        go_wp2_with fail
        refine bodyPost_ret (v := .tuple #[.slice (some ⟨w.heap.size, 0, none⟩) T T, .bool true]) (by simp [results, Tryz.results227, go_sem]) rfl ?_
        exact ⟨_, by rw [E5.out], Nat.le_refl _, y5, r5, L.drew⟩
    · obtain ⟨j, rfl⟩ : ∃ j, k = j + 1 := ⟨k - 1, by omega⟩
      have ej : ((j + 1 : Nat) : Int) - 1 = (j : Int) := by omega
      rw [ej]
      have t1 : (0 : Int) ≤ (j : Int) := by omega
      have hj : j < T := by omega
      go_wp2_with fail
      refine (rshl_any rh rl 1 wrh wrl (by decide) (by decide) _).mono ?_
      rintro e w2 ⟨sh, sl, rfl, wsh, wsl, S, B2⟩
      have m2 := m.below B2
      have L2 := below_call L B2
      obtain ⟨hs, hs2⟩ := dbl_num r sh sl rh rl wsh wsl R.out (by omega) S.out
      have HS : Hid (num sh sl = ((2 * r : Nat) : Int)) := hs
      clear hs S
      clear g0 g1 k0 k1 d0 d1 qo sz rq ro fo
      obtain ⟨rq, ro, fo, g0, g1, k0, k1, d0, d1, qo, sz⟩ := id m2
      by_cases hlow : j < P
      · have hbit : A.testBit j = false := AB0.out j hlow
        obtain ⟨qr1, qr2⟩ := quo_round A B j hB r (2 * r) RK.out (by rw [hbit]; rfl)
        have t3 : (P ≤ j) = False := eq_false (by omega)
        clear hbit hlow
        go_wp2_with fail
        refine (rcmp_any sh sl 0 B wsh wsl word_zero h3 _).mono ?_
        rintro e w4 ⟨n, rfl, C, B4⟩
        have m4 := (m2.set sh sl).below B4
        have L4 := below_call ((L2.setCell (by simp) _).setCell (by simp) _) B4
        clear g0 g1 k0 k1 d0 d1 qo sz rq ro fo
        obtain ⟨rq, ro, fo, g0, g1, k0, k1, d0, d1, qo, sz⟩ := id m4
        have nB : num 0 (B : Int) = (B : Int) := by unfold num; omega
        by_cases c : B ≤ (2 * r)
        · have hn : 0 ≤ n := cmpN_nonneg C.out (by rw [nB, HS.out]; omega)
          obtain ⟨qb, qv⟩ := qr1 c
          have QV : Hid _ := qv
          clear qr1 qr2 qv
          go_wp2_with fail
          refine (rsub_any sh sl 0 B wsh wsl word_zero h3 _).mono ?_
          rintro e w5 ⟨th, tl, tc, rfl, wth, wtl, T5, _, B5⟩
          have m5 := m4.below B5
          have L5 := below_call L4 B5
          have HT : Hid (num th tl = (((2 * r) - B : Nat) : Int)) := by
            show num th tl = _
            rw [T5.out, nB, HS.out]; omega
          clear g0 g1 k0 k1 d0 d1 qo sz rq ro fo C nB T5
          obtain ⟨rq, ro, fo, g0, g1, k0, k1, d0, d1, qo, sz⟩ := id m5
          have go := ro j hj
          have gf := fo j hj
          go_wp2_with fail
          go_roundw
          case rel =>
            refine ⟨j, (2 * r) - B, th, tl, by omega, rfl, wth, wtl, by omega, HT, QV, ?_, ((L5.setCell (by simp) _).setCell (by simp) _).setCell (by simp) _⟩
            have := (m5.set th tl).bit j hj true
            rw [quoTo_step _ _ _ _ qb.symm] at this
            exact this
          case measure => simp [intOf]
        · have hn := cmpN_neg C.out (by rw [nB, HS.out]; omega)
          subst hn
          obtain ⟨qb, qv⟩ := qr2 (by omega)
          have QV : Hid _ := qv
          clear qr1 qr2 qv C nB
          rw [quoTo_skip _ _ _ qb] at m4
          go_wp2_with fail
          go_roundw
          case rel => exact ⟨j, (2 * r), sh, sl, by omega, rfl, wsh, wsl, by omega, HS, QV, m4, L4⟩
          case measure => simp [intOf]
      · obtain ⟨i, hi⟩ : ∃ i, i + P = j := ⟨j - P, by omega⟩
        have hii : i < nl := by omega
        have t3 : (P : Int) ≤ (j : Int) := by omega
        have t4 : (j : Int) - (P : Int) = (i : Int) := by omega
        have ab : A.testBit j = X.testBit i := by rw [← hi]; exact AB1.out i
        have gb : w2.cell? ⟨q, i, none⟩ = some (.bool (X.testBit i)) := rq i hii
        clear hlow hi
        cases hx : X.testBit i
        · rw [hx] at gb ab
          obtain ⟨qr1, qr2⟩ := quo_round A B j hB r (2 * r) RK.out (by rw [ab]; rfl)
          clear hx ab
          go_wp2_with fail
          refine (rcmp_any sh sl 0 B wsh wsl word_zero h3 _).mono ?_
          rintro e w4 ⟨n, rfl, C, B4⟩
          have m4 := (m2.set sh sl).below B4
          have L4 := below_call ((L2.setCell (by simp) _).setCell (by simp) _) B4
          clear g0 g1 k0 k1 d0 d1 qo sz rq ro fo
          obtain ⟨rq, ro, fo, g0, g1, k0, k1, d0, d1, qo, sz⟩ := id m4
          have nB : num 0 (B : Int) = (B : Int) := by unfold num; omega
          by_cases c : B ≤ (2 * r)
          · have hn : 0 ≤ n := cmpN_nonneg C.out (by rw [nB, HS.out]; omega)
            obtain ⟨qb, qv⟩ := qr1 c
            have QV : Hid _ := qv
            clear qr1 qr2 qv
            go_wp2_with fail
            refine (rsub_any sh sl 0 B wsh wsl word_zero h3 _).mono ?_
            rintro e w5 ⟨th, tl, tc, rfl, wth, wtl, T5, _, B5⟩
            have m5 := m4.below B5
            have L5 := below_call L4 B5
            have HT : Hid (num th tl = (((2 * r) - B : Nat) : Int)) := by
              show num th tl = _
              rw [T5.out, nB, HS.out]; omega
            clear g0 g1 k0 k1 d0 d1 qo sz rq ro fo C nB T5
            obtain ⟨rq, ro, fo, g0, g1, k0, k1, d0, d1, qo, sz⟩ := id m5
            have go := ro j hj
            have gf := fo j hj
            go_wp2_with fail
            go_roundw
            case rel =>
              refine ⟨j, (2 * r) - B, th, tl, by omega, rfl, wth, wtl, by omega, HT, QV, ?_, ((L5.setCell (by simp) _).setCell (by simp) _).setCell (by simp) _⟩
              have := (m5.set th tl).bit j hj true
              rw [quoTo_step _ _ _ _ qb.symm] at this
              exact this
            case measure => simp [intOf]
          · have hn := cmpN_neg C.out (by rw [nB, HS.out]; omega)
            subst hn
            obtain ⟨qb, qv⟩ := qr2 (by omega)
            have QV : Hid _ := qv
            clear qr1 qr2 qv C nB
            rw [quoTo_skip _ _ _ qb] at m4
            go_wp2_with fail
            go_roundw
            case rel => exact ⟨j, (2 * r), sh, sl, by omega, rfl, wsh, wsl, by omega, HS, QV, m4, L4⟩
            case measure => simp [intOf]
        · rw [hx] at gb ab
          obtain ⟨qo1, wsl1⟩ := or_one sl wsl hs2
          have HS1 : Hid (num sh (sl + 1) = ((2 * r + 1 : Nat) : Int)) := by
            have := HS.out
            show num sh (sl + 1) = _
            unfold num at *; omega
          have a0 := ((m2.set sh sl).set1 (sl + 1)).g0
          have a1 := ((m2.set sh sl).set1 (sl + 1)).g1
          obtain ⟨qr1, qr2⟩ := quo_round A B j hB r (2 * r + 1) RK.out (by rw [ab]; rfl)
          clear hx ab
          go_wp2_with fail
          refine (rcmp_any sh (sl + 1) 0 B wsh wsl1 word_zero h3 _).mono ?_
          rintro e w4 ⟨n, rfl, C, B4⟩
          have m4 := ((m2.set sh sl).set1 (sl + 1)).below B4
          have L4 := below_call (((L2.setCell (by simp) _).setCell (by simp) _).setCell (by simp) _) B4
          clear g0 g1 k0 k1 d0 d1 qo sz rq ro fo
          obtain ⟨rq, ro, fo, g0, g1, k0, k1, d0, d1, qo, sz⟩ := id m4
          have nB : num 0 (B : Int) = (B : Int) := by unfold num; omega
          by_cases c : B ≤ (2 * r + 1)
          · have hn : 0 ≤ n := cmpN_nonneg C.out (by rw [nB, HS1.out]; omega)
            obtain ⟨qb, qv⟩ := qr1 c
            have QV : Hid _ := qv
            clear qr1 qr2 qv
            go_wp2_with fail
            refine (rsub_any sh (sl + 1) 0 B wsh wsl1 word_zero h3 _).mono ?_
            rintro e w5 ⟨th, tl, tc, rfl, wth, wtl, T5, _, B5⟩
            have m5 := m4.below B5
            have L5 := below_call L4 B5
            have HT : Hid (num th tl = (((2 * r + 1) - B : Nat) : Int)) := by
              show num th tl = _
              rw [T5.out, nB, HS1.out]; omega
            clear g0 g1 k0 k1 d0 d1 qo sz rq ro fo C nB T5
            obtain ⟨rq, ro, fo, g0, g1, k0, k1, d0, d1, qo, sz⟩ := id m5
            have go := ro j hj
            have gf := fo j hj
            go_wp2_with fail
            go_roundw
            case rel =>
              refine ⟨j, (2 * r + 1) - B, th, tl, by omega, rfl, wth, wtl, by omega, HT, QV, ?_, ((L5.setCell (by simp) _).setCell (by simp) _).setCell (by simp) _⟩
              have := (m5.set th tl).bit j hj true
              rw [quoTo_step _ _ _ _ qb.symm] at this
              exact this
            case measure => simp [intOf]
          · have hn := cmpN_neg C.out (by rw [nB, HS1.out]; omega)
            subst hn
            obtain ⟨qb, qv⟩ := qr2 (by omega)
            have QV : Hid _ := qv
            clear qr1 qr2 qv C nB
            rw [quoTo_skip _ _ _ qb] at m4
            go_wp2_with fail
            go_roundw
            case rel => exact ⟨j, (2 * r + 1), sh, (sl + 1), by omega, rfl, wsh, wsl1, by omega, HS1, QV, m4, L4⟩
            case measure => simp [intOf]
theorem rquot_any (q nl cap X : Nat) (bi : Int) (h3 : Word bi) (hb : 0 < bi) (hb2 : bi < 9007199254740992) (hX : X < 2 ^ nl) (hnl : nl ≤ 64) (w : World) (row : RowB w q nl (fun i => X.testBit i)) (hq : q < w.heap.size) :
    Calls Tryz.prog 227 #[.slice (some ⟨q, 0, none⟩) nl cap, .int .u64 bi, .int .i64 130] w fun e w' =>
      ∃ o : Nat, e = .returned (.tuple #[.slice (some ⟨o, 0, none⟩) (nl + 130) (nl + 130), .bool (decide (X * 2 ^ 130 % bi.toNat ≠ 0))]) ∧ w.heap.size ≤ o ∧ o < w'.heap.size ∧ RowB w' o (nl + 130) (fun i => (X * 2 ^ 130 / bi.toNat).testBit i) ∧ Below w.heap.size w w' :=
  rquotP_any 130 (by decide) q nl cap X bi h3 hb hb2 hX hnl w row hq
end Go.Proofs.YthjoigkckgdcaaaGreat
namespace Go.Proofs.YthjoigkckgdcaaaGreat
open Go.RowKit
set_option linter.unusedVariables false
set_option linter.unusedSimpArgs false
theorem kinds4X (k : Int) : ((k == 0 || k == 5) = true ∧ (k == 4) = false ∧ (k == 1) = false) ∨ ((k == 0 || k == 5) = false ∧ (k == 4) = true ∧ (k == 1) = false) ∨ ((k == 0 || k == 5) = false ∧ (k == 4) = false ∧ (k == 1) = true) ∨ ((k == 0 || k == 5) = false ∧ (k == 4) = false ∧ (k == 1) = false) := by
  by_cases c1 : k = 0
  · subst c1; decide
  · by_cases c2 : k = 5
    · subst c2; decide
    · by_cases c3 : k = 4
      · subst c3; decide
      · by_cases c4 : k = 1
        · subst c4; decide
        · simp [c1, c2, c3, c4]
theorem wide_notX {s : Bool} {a : Int} (h : (cls s a == 0 || cls s a == 5) = false) : wideB s a = false := by
  cases c : wideB s a
  · rfl
  · exfalso
    have : cls s a = 0 := by unfold cls; rw [c]; rfl
    rw [this] at h
    exact absurd h (by decide)
theorem fin_wordX {s : Bool} {u p : Int} (h : Fin s u p) : Word u ∧ u < 9007199254740992 ∧ -1074 ≤ p ∧ p ≤ 2000 := by
  obtain ⟨a, b, c, d, e⟩ := h
  cases s
  · have b' : u < 9007199254740992 := b
    have c' : -1074 ≤ p := c
    exact ⟨⟨a, by omega⟩, b', c', d⟩
  · have b' : u < 16777216 := b
    have c' : -149 ≤ p := c
    exact ⟨⟨a, by omega⟩, by omega, by omega, d⟩
theorem whl_none {s : Bool} {a : Int} (h : Word a) (c : (cls s a == 1) = true) : whl s a = 0 := by
  have c' : cls s a = 1 := by simpa using c
  have w : wideB s a = false := by
    cases d : wideB s a
    · rfl
    · exfalso
      have : cls s a = 0 := by unfold cls; rw [d]; rfl
      omega
  have z : zOf s a = 0 := by
    unfold cls at c'
    rw [w, if_neg (by decide)] at c'
    by_cases g : zOf s a = 0
    · exact g
    · exfalso
      rw [if_neg g] at c'
      split at c'
      · omega
      · split at c'
        · omega
        · split at c' <;> omega
  obtain ⟨p1, _, _⟩ := put s a h w
  unfold whl
  rw [z, if_neg (by simp)]
  rw [p1, z]
  unfold sgnd
  cases s <;> split <;> rfl
theorem divT_none (s : Bool) (m : Int) (b : Bool) (xe : Int) (yw : Nat) (ye : Int) : divT s m b 0 xe yw ye = sgnd s b 0 := by
  unfold divT
  rw [Nat.zero_mul, Nat.zero_div, Nat.zero_mod]
  exact rnd_zero s m b _
theorem own_row {w : World} {base n A q cap : Nat} (h : w.ownsRow base 4 1 (.slice (some ⟨q, 0, none⟩) n cap) n (Bl n A)) : q < w.heap.size ∧ RowB w q n (fun i => A.testBit i) := by
  refine ⟨?_, fun i hi => by rw [h.cellAt i (by omega), Bl_get _ _ _ hi]⟩
  rcases h.2 with ⟨hn, _⟩ | ⟨g, cap', cur, e, _, hg, _⟩
  · exact absurd hn (by simp)
  · have : q = g := by simp at e; exact e.1
    rw [this]
    exact lt_of_block hg
theorem own_some {w : World} {base n size : Nat} {e : TypeId} {v : Value} {xs : List Value} (h : w.ownsRow base e size v n xs) (hn : 0 < n) : ∃ g cap, v = .slice (some ⟨g, 0, none⟩) n cap := by
  rcases h.2 with ⟨_, h0⟩ | ⟨g, cap, _, hv, _⟩
  · omega
  · exact ⟨g, cap, hv⟩
theorem below_call' {w W w1 : World} (h : Below w.heap.size w W) (hb : Below W.heap.size W w1) : Below w.heap.size w w1 := h.trans (hb.mono h.size)
set_option maxRecDepth 20000 in
set_option maxHeartbeats 12800000 in
theorem rdivF_any (s : Bool) (m a b : Int) (h1 : Word a) (h2 : Word b) (w : World) :
    Calls Tryz.prog 141 #[.int .i64 (fb s), .int .i64 m, .int .u64 a, .int .u64 b] w fun r w' => r = .returned (.int .u64 (divF s m a b)) ∧ Below w.heap.size w w' := by
  obtain ⟨i0, hi, hz0, hz1, hz2⟩ := info_parts Tryz.infoB
  have hb1 := rbelow_any s a
  have hb2 := rbelow_any s b
  have hc1 := rclass_any s a h1
  have hc2 := rclass_any s b h2
  have hn1 := risNan_any s a h1
  have hn2 := risNan_any s b h2
  have hi1 := risInf_any s a h1
  have hi2 := risInf_any s b h2
  have hnan := rnan_any s
  have hinf := rinf_any s (sgn s a != sgn s b)
  have hsg := rsign_any s (sgn s a != sgn s b)
  have hrd := fun (v : Value) (n A : Nat) => rounded_any s m (sgn s a != sgn s b) v n A
  have hv1 := fun h => rvalue_any s a h1 (wide_notX h)
  have hv2 := fun h => rvalue_any s b h2 (wide_notX h)
  have f1 := fin_of s a h1
  have f2 := fin_of s b h2
  have K1 := kinds4X (cls s a)
  have K2 := kinds4X (cls s b)
  have W1 := @whl_none s a h1
  have D0 := divT_none s m (sgn s a != sgn s b) (pwr s a) (whl s b).toNat (pwr s b)
  have S0 : (if (sgn s a != sgn s b) = true then fS s else 0) = sgnd s (sgn s a != sgn s b) 0 := by unfold sgnd; split <;> simp
  rw [S0] at hsg
  clear S0
  unfold divF
  generalize hN1 : (cls s a == 0 || cls s a == 5) = N1 at *
  generalize hN2 : (cls s b == 0 || cls s b == 5) = N2 at *
  generalize hI1 : (cls s a == 4) = I1 at *
  generalize hI2 : (cls s b == 4) = I2 at *
  generalize hZ1 : (cls s a == 1) = Z1 at *
  generalize hZ2 : (cls s b == 1) = Z2 at *
  generalize cls s a = c1 at *
  generalize cls s b = c2 at *
  clear hN1 hN2 hI1 hI2
  generalize fb s = f at *
  generalize sgn s a = g1 at *
  generalize sgn s b = g2 at *
  generalize fNan s = Q at *
  generalize hV : sgnd s (g1 != g2) (fI s) = VI at *
  generalize hV0 : sgnd s (g1 != g2) 0 = V0 at *
  clear hV
  rcases K1 with ⟨rfl, rfl, rfl⟩ | ⟨rfl, rfl, rfl⟩ | ⟨rfl, rfl, rfl⟩ | ⟨rfl, rfl, rfl⟩ <;> rcases K2 with ⟨rfl, rfl, rfl⟩ | ⟨rfl, rfl, rfl⟩ | ⟨rfl, rfl, rfl⟩ | ⟨rfl, rfl, rfl⟩
  case inr.inr.inr.inr.inr.inr =>
    have F1 := fin_wordX (f1 rfl rfl).1
    have F2 := fin_wordX (f2 rfl rfl).1
    have z1 := (f1 rfl rfl).2 rfl
    have z2 := (f2 rfl rfl).2 rfl
    have v1 := hv1 rfl
    have v2 := hv2 rfl
    clear hv1 hv2 f1 f2 hnan hinf hsg W1 D0 hV0
    generalize whl s a = u1 at *
    generalize whl s b = u2 at *
    generalize pwr s a = p1 at *
    generalize pwr s b = p2 at *
    obtain ⟨a1, a2, a3, a4⟩ := F1
    obtain ⟨d1, d2, d3, d4⟩ := F2
    obtain ⟨X, rfl⟩ := Int.eq_ofNat_of_zero_le a1.1
    have u2p : 0 < u2 := by have := d1.1; omega
    have hbt := rbits_any X (by omega)
    have hX := lt_blen X
    have hX1 : 1 ≤ blen X := (blen_le (by omega)).2
    have hX2 : blen X ≤ 64 := blen_le_of (Nat.lt_of_lt_of_le (by omega : X < 2 ^ 53) (by decide))
    rw [Int.toNat_natCast]
    unfold divT
    generalize blen X = nl at *
    have HX : Hid _ := hX
    clear hX
    have hlt : 2 * (X * 2 ^ 130 / u2.toNat) + (decide (X * 2 ^ 130 % u2.toNat ≠ 0)).toNat < 2 ^ (1 + (nl + 130)) := by
      have q1 : X * 2 ^ 130 / u2.toNat ≤ X * 2 ^ 130 := Nat.div_le_self _ _
      have q2 : X * 2 ^ 130 < 2 ^ nl * 2 ^ 130 := Nat.mul_lt_mul_of_pos_right HX.out (by decide)
      rw [← Nat.pow_add] at q2
      rw [Nat.pow_add 2 1]
      have q3 := Bool.toNat_le (decide (X * 2 ^ 130 % u2.toNat ≠ 0))
      omega
    have HLT : Hid _ := hlt
    clear hlt
    have hquot := fun q cap w row hq => rquot_any q nl cap X u2 d1 u2p d2 HX.out hX2 w row hq
    generalize hQ : X * 2 ^ 130 / u2.toNat = QQ at *
    generalize hM : decide (X * 2 ^ 130 % u2.toNat ≠ 0) = MM at *
    clear hQ hM
    have hcons : ∀ n A : Nat, #[Value.bool MM].toList ++ Bl n A = Bl (1 + n) (2 * A + MM.toNat) := fun n A => by rw [Nat.add_comm 1 n, ← Bl_cons]; rfl
    have HC : Hid _ := hcons
    have lenH : (Bl (nl + 130) QQ).length = (nl + 130) * 1 := by rw [Bl_len, Nat.mul_one]
    have l1H : 1 + (nl + 130) ≤ maxLen := by unfold maxLen; omega
    have l2H : (1 + (nl + 130)) * 1 ≤ 140737488355328 := by omega
    have l3H : 1 + (nl + 130) ≤ 100000 := by omega
    have l4H : -100000 ≤ p1 - p2 - 131 := by omega
    have l5H : p1 - p2 - 131 ≤ 100000 := by omega
    obtain ⟨V, hV⟩ : ∃ V : Int, rnd s m (g1 != g2) (2 * QQ + MM.toNat) (p1 - p2 - 131) = V := ⟨_, rfl⟩
    have HV : Hid _ := hV
    simp only [Bool.or_self, Bool.and_self, Bool.false_eq_true, if_false]
    rw [hV]
    clear hV
    clear hcons a2 z1
    go_enter Tryz.func141, Tryz.ntmps141
    go_wp2_with (first
         | (go_at_call_of 169 a; refine (hb1 _).mono ?_; rintro r w1 ⟨rfl, hw⟩; rw [hw]; clear hw w1)
         | (go_at_call_of 169 b; refine (hb2 _).mono ?_; rintro r w1 ⟨rfl, hw⟩; rw [hw]; clear hw w1)
         | (go_at_call_of 134 a; refine (hc1 _).mono ?_; rintro r w1 ⟨rfl, n1, rfl⟩)
         | (go_at_call_of 134 b; refine (hc2 _).mono ?_; rintro r w1 ⟨rfl, n2, rfl⟩)
         | (go_at_call_of 172 a; refine (hn1 _).mono ?_; rintro r w1 ⟨rfl, n3, rfl⟩)
         | (go_at_call_of 172 b; refine (hn2 _).mono ?_; rintro r w1 ⟨rfl, n4, rfl⟩)
         | (go_at_call_of 174 a; refine (hi1 _).mono ?_; rintro r w1 ⟨rfl, n5, rfl⟩)
         | (go_at_call_of 174 b; refine (hi2 _).mono ?_; rintro r w1 ⟨rfl, n6, rfl⟩)
         | (go_at_call_of 175 a; refine (v1 _).mono ?_; rintro r w1 ⟨rfl, rfl⟩)
         | (go_at_call_of 175 b; refine (v2 _).mono ?_; rintro r w1 ⟨rfl, rfl⟩)
         | (go_at_call 180; refine (hbt _).mono ?_; rintro r w2 ⟨v, rfl, own, L2⟩; obtain ⟨q, cap, rfl⟩ := own_some own hX1; obtain ⟨hq, row⟩ := own_row own; have s2 : w.heap.size ≤ w2.heap.size := L2.size)
         | (go_at_call 227; refine (hquot _ _ _ row hq).mono ?_; rintro r w3 ⟨o, rfl, ho1, ho2, row3, L3⟩; have s3 : w.heap.size ≤ w3.heap.size := Nat.le_trans s2 L3.size; have own3 := World.ownsRow_lit (e := 4) (size := 1) (base := w.heap.size) w3 #[.bool MM] 1 s3 (by decide) rfl; have row4 := row_bl (row3.below (below_new (Below.refl w3.heap.size w3) (.cells #[.bool MM] 4)) ho2); have s4 := Nat.le_trans s3 (below_new (Below.refl w3.heap.size w3) (.cells #[.bool MM] 4)).size)
         | (at_builtin; refine wpList_append_own _ rfl _ _ 193 rfl w.heap.size 4 i0 (.bool false) 1 1 Tryz.underlying193 hi hz0 hz1 hz2 rfl (by decide) _ _ _ rfl own3 ⟨o, 0, none⟩ (nl + 130) (nl + 130) (Bl (nl + 130) QQ) rfl lenH row4 (Bl_one _ _) l1H l2H s4 ?_; intro v4 w4 hown4 hgrow4 _; have hown5 := hown4; rw [HC.out] at hown5; have bv4 := own_bits hown5 HLT.out; clear hown4 hown5; have hR := hrd v4 (1 + (nl + 130)) _ l3H (p1 - p2 - 131) l4H l5H w4 bv4; rw [HV.out] at hR)
         | (go_at_call 179; refine hR.mono ?_; rintro r w5 ⟨rfl, kk, rfl⟩))
    go_ret
    have q1 : Below w.heap.size w w2 := (below_drewN (Below.refl _ _) _).trans L2
    exact ⟨rfl, below_drewN ((below_new (below_call' q1 L3) _).grown hgrow4 s4 (own_block own3)) _⟩
  all_goals
    try rw [W1 rfl, Int.toNat_zero, D0]
    clear hrd hv1 hv2 f1 f2 W1 D0 hV0
    go_enter Tryz.func141, Tryz.ntmps141
    go_wp2_with (first
         | (go_at_call_of 169 a; refine (hb1 _).mono ?_; rintro r w1 ⟨rfl, hw⟩; rw [hw]; clear hw w1)
         | (go_at_call_of 169 b; refine (hb2 _).mono ?_; rintro r w1 ⟨rfl, hw⟩; rw [hw]; clear hw w1)
         | (go_at_call_of 134 a; refine (hc1 _).mono ?_; rintro r w1 ⟨rfl, n1, rfl⟩)
         | (go_at_call_of 134 b; refine (hc2 _).mono ?_; rintro r w1 ⟨rfl, n2, rfl⟩)
         | (go_at_call_of 172 a; refine (hn1 _).mono ?_; rintro r w1 ⟨rfl, n3, rfl⟩)
         | (go_at_call_of 172 b; refine (hn2 _).mono ?_; rintro r w1 ⟨rfl, n4, rfl⟩)
         | (go_at_call_of 174 a; refine (hi1 _).mono ?_; rintro r w1 ⟨rfl, n5, rfl⟩)
         | (go_at_call_of 174 b; refine (hi2 _).mono ?_; rintro r w1 ⟨rfl, n6, rfl⟩)
         | (go_at_call 135; refine (hnan _).mono ?_; rintro r w1 ⟨rfl, rfl⟩)
         | (go_at_call 173; refine (hsg _).mono ?_; rintro r w1 ⟨rfl, hw⟩; rw [hw]; clear hw w1)
         | (go_at_call 224; refine (hinf _).mono ?_; rintro r w1 ⟨rfl, n7, rfl⟩))
    go_ret
    exact ⟨rfl, below_drewN (Below.refl _ _) _⟩
end Go.Proofs.YthjoigkckgdcaaaGreat
namespace Go.Proofs.YthjoigkckgdcaaaGreat
open Go.RowKit
set_option linter.unusedVariables false
set_option linter.unusedSimpArgs false
theorem kinds4 (k : Int) : ((k == 0 || k == 5) = true ∧ (k == 4) = false ∧ (k == 1) = false) ∨ ((k == 0 || k == 5) = false ∧ (k == 4) = true ∧ (k == 1) = false) ∨ ((k == 0 || k == 5) = false ∧ (k == 4) = false ∧ (k == 1) = true) ∨ ((k == 0 || k == 5) = false ∧ (k == 4) = false ∧ (k == 1) = false) := by
  by_cases c1 : k = 0
  · subst c1; decide
  · by_cases c2 : k = 5
    · subst c2; decide
    · by_cases c3 : k = 4
      · subst c3; decide
      · by_cases c4 : k = 1
        · subst c4; decide
        · simp [c1, c2, c3, c4]
theorem wide_not {s : Bool} {a : Int} (h : (cls s a == 0 || cls s a == 5) = false) : wideB s a = false := by
  cases c : wideB s a
  · rfl
  · exfalso
    have : cls s a = 0 := by unfold cls; rw [c]; rfl
    rw [this] at h
    exact absurd h (by decide)
theorem fin_word {s : Bool} {u p : Int} (h : Fin s u p) : Word u ∧ u < 9007199254740992 ∧ -1074 ≤ p ∧ p ≤ 2000 := by
  obtain ⟨a, b, c, d, e⟩ := h
  cases s
  · have b' : u < 9007199254740992 := b
    have c' : -1074 ≤ p := c
    exact ⟨⟨a, by omega⟩, b', c', d⟩
  · have b' : u < 16777216 := b
    have c' : -149 ≤ p := c
    exact ⟨⟨a, by omega⟩, by omega, by omega, d⟩
set_option maxRecDepth 20000 in
set_option maxHeartbeats 6400000 in
theorem rmulF_any (s : Bool) (m a b : Int) (h1 : Word a) (h2 : Word b) (w : World) :
    Calls Tryz.prog 140 #[.int .i64 (fb s), .int .i64 m, .int .u64 a, .int .u64 b] w fun r w' => r = .returned (.int .u64 (mulF s m a b)) ∧ Below w.heap.size w w' := by
  have hb1 := rbelow_any s a
  have hb2 := rbelow_any s b
  have hc1 := rclass_any s a h1
  have hc2 := rclass_any s b h2
  have hn1 := risNan_any s a h1
  have hn2 := risNan_any s b h2
  have hi1 := risInf_any s a h1
  have hi2 := risInf_any s b h2
  have hnan := rnan_any s
  have hinf := rinf_any s (sgn s a != sgn s b)
  have hrd := fun (v : Value) (n A : Nat) => rounded_any s m (sgn s a != sgn s b) v n A
  have hv1 := fun h => rvalue_any s a h1 (wide_not h)
  have hv2 := fun h => rvalue_any s b h2 (wide_not h)
  have f1 := fin_of s a h1
  have f2 := fin_of s b h2
  have K1 := kinds4 (cls s a)
  have K2 := kinds4 (cls s b)
  unfold mulF
  generalize hN1 : (cls s a == 0 || cls s a == 5) = N1 at *
  generalize hN2 : (cls s b == 0 || cls s b == 5) = N2 at *
  generalize hI1 : (cls s a == 4) = I1 at *
  generalize hI2 : (cls s b == 4) = I2 at *
  generalize hZ1 : (cls s a == 1) = Z1 at *
  generalize hZ2 : (cls s b == 1) = Z2 at *
  generalize cls s a = c1 at *
  generalize cls s b = c2 at *
  clear hN1 hN2 hI1 hI2
  generalize fb s = f at *
  generalize sgn s a = g1 at *
  generalize sgn s b = g2 at *
  generalize fNan s = Q at *
  generalize hV : sgnd s (g1 != g2) (fI s) = VI at *
  clear hV
  rcases K1 with ⟨rfl, rfl, rfl⟩ | ⟨rfl, rfl, rfl⟩ | ⟨rfl, rfl, rfl⟩ | ⟨rfl, rfl, rfl⟩ <;> rcases K2 with ⟨rfl, rfl, rfl⟩ | ⟨rfl, rfl, rfl⟩ | ⟨rfl, rfl, rfl⟩ | ⟨rfl, rfl, rfl⟩
  all_goals
    first
    | (have F1 := fin_word (f1 rfl rfl).1
       have F2 := fin_word (f2 rfl rfl).1
       have v1 := hv1 rfl
       have v2 := hv2 rfl
       clear hv1 hv2 f1 f2 hnan hinf
       generalize whl s a = u1 at *
       generalize whl s b = u2 at *
       generalize pwr s a = p1 at *
       generalize pwr s b = p2 at *
       obtain ⟨a1, a2, a3, a4⟩ := F1
       obtain ⟨d1, d2, d3, d4⟩ := F2
       have hmu := rmul_any u1 u2 a1 d1
       have hbits := fun (h l : Int) (wh : Word h) (wl : Word l) => bits_any h l wh wl
       go_enter Tryz.func140, Tryz.ntmps140
       go_wp2_with (first
         | (go_at_call_of 169 a; refine (hb1 _).mono ?_; rintro r w1 ⟨rfl, hw⟩; rw [hw]; clear hw w1)
         | (go_at_call_of 169 b; refine (hb2 _).mono ?_; rintro r w1 ⟨rfl, hw⟩; rw [hw]; clear hw w1)
         | (go_at_call_of 134 a; refine (hc1 _).mono ?_; rintro r w1 ⟨rfl, n1, rfl⟩)
         | (go_at_call_of 134 b; refine (hc2 _).mono ?_; rintro r w1 ⟨rfl, n2, rfl⟩)
         | (go_at_call_of 172 a; refine (hn1 _).mono ?_; rintro r w1 ⟨rfl, n3, rfl⟩)
         | (go_at_call_of 172 b; refine (hn2 _).mono ?_; rintro r w1 ⟨rfl, n4, rfl⟩)
         | (go_at_call_of 174 a; refine (hi1 _).mono ?_; rintro r w1 ⟨rfl, n5, rfl⟩)
         | (go_at_call_of 174 b; refine (hi2 _).mono ?_; rintro r w1 ⟨rfl, n6, rfl⟩)
         | (go_at_call_of 175 a; refine (v1 _).mono ?_; rintro r w1 ⟨rfl, rfl⟩)
         | (go_at_call_of 175 b; refine (v2 _).mono ?_; rintro r w1 ⟨rfl, rfl⟩)
         | (go_at_call 225; refine (hmu _).mono ?_; rintro r w2 ⟨xh, xl, rfl, wh, wl, hm, hbe⟩)
         | (go_at_call 226; refine (hbits _ _ wh wl _).mono ?_; rintro r w3 ⟨bb, rfl, hs1, hs2, row, fre, hbe2⟩; have bv : BitV w3 (.slice (some ⟨bb, 0, none⟩) 128 128) 128 (N xh xl) := ⟨N_lt wh wl, Or.inr ⟨bb, 128, rfl, hs2, row⟩⟩)
         | (go_at_call 179; refine (hrd _ _ _ (by decide) _ (by omega) (by omega) _ bv).mono ?_; rintro r w4 ⟨rfl, kk, rfl⟩))
       go_ret
       refine ⟨u64r_eq ?_, ?_⟩
       · have e : N xh xl = u1.toNat * u2.toNat := nn_mul a1 d1 wh wl hm.out
         rw [e]
       · have q1 : Below w.heap.size w w2 := (below_drewN (Below.refl _ _) _).trans hbe
         exact below_drewN ((below_new q1 _).trans (hbe2.mono (below_new q1 _).size)) _)
    | (clear hrd hv1 hv2 f1 f2
       go_enter Tryz.func140, Tryz.ntmps140
       go_wp2_with (first
         | (go_at_call_of 169 a; refine (hb1 _).mono ?_; rintro r w1 ⟨rfl, hw⟩; rw [hw]; clear hw w1)
         | (go_at_call_of 169 b; refine (hb2 _).mono ?_; rintro r w1 ⟨rfl, hw⟩; rw [hw]; clear hw w1)
         | (go_at_call_of 134 a; refine (hc1 _).mono ?_; rintro r w1 ⟨rfl, n1, rfl⟩)
         | (go_at_call_of 134 b; refine (hc2 _).mono ?_; rintro r w1 ⟨rfl, n2, rfl⟩)
         | (go_at_call_of 172 a; refine (hn1 _).mono ?_; rintro r w1 ⟨rfl, n3, rfl⟩)
         | (go_at_call_of 172 b; refine (hn2 _).mono ?_; rintro r w1 ⟨rfl, n4, rfl⟩)
         | (go_at_call_of 174 a; refine (hi1 _).mono ?_; rintro r w1 ⟨rfl, n5, rfl⟩)
         | (go_at_call_of 174 b; refine (hi2 _).mono ?_; rintro r w1 ⟨rfl, n6, rfl⟩)
         | (go_at_call 135; refine (hnan _).mono ?_; rintro r w1 ⟨rfl, rfl⟩)
         | (go_at_call 224; refine (hinf _).mono ?_; rintro r w1 ⟨rfl, n7, rfl⟩))
       go_ret
       exact ⟨rfl, below_drewN (Below.refl _ _) _⟩)
end Go.Proofs.YthjoigkckgdcaaaGreat
namespace Go.Proofs.YthjoigkckgdcaaaGreat
open Go.RowKit
set_option linter.unusedVariables false
set_option linter.unusedSimpArgs false
theorem made_bl (k : Nat) : (madeCells #[.bool false] k).toList = Bl k 0 := by
  apply List.ext_getElem?
  intro i
  by_cases c : i < k
  · rw [Bl_get _ _ _ c]
    simp [madeCells, c, Nat.mod_one]
  · rw [List.getElem?_eq_none (by simp [madeCells]; omega), List.getElem?_eq_none (by rw [Bl_len]; omega)]
theorem own_rowP {w : World} {base n A q cap : Nat} (h : w.ownsRow base 4 1 (.slice (some ⟨q, 0, none⟩) n cap) n (Bl n A)) : q < w.heap.size ∧ RowB w q n (fun i => A.testBit i) := by
  refine ⟨?_, fun i hi => by rw [h.cellAt i (by omega), Bl_get _ _ _ hi]⟩
  rcases h.2 with ⟨hn, _⟩ | ⟨g, cap', cur, e, _, hg, _⟩
  · exact absurd hn (by simp)
  · have : q = g := by simp at e; exact e.1
    rw [this]
    exact lt_of_block hg
set_option maxHeartbeats 1600000 in
theorem rup_any (v : Value) (n A k : Nat) (hn : n ≤ 100) (hk : k ≤ 5000) (w : World) (h : BitV w v n A) :
    Calls Tryz.prog 220 #[v, .int .i64 (k : Int)] w fun e w' => ∃ g cap, e = .returned (.slice (some ⟨g, 0, none⟩) (k + n) cap) ∧ g < w'.heap.size ∧ RowB w' g (k + n) (fun i => (A * 2 ^ k).testBit i) ∧ Below w.heap.size w w' := by
  obtain ⟨i0, hi, hz0, hz1, hz2⟩ := info_parts Tryz.infoB
  obtain ⟨hA, h⟩ := h
  have hmk := make_bools k (by omega)
  have sz := fresh_size w k
  have own0 : (freshW w k).ownsRow w.heap.size 4 1 (.slice (some ⟨w.heap.size, 0, none⟩) k k) k (Bl k 0) := by
    rw [← made_bl]
    exact World.ownsRow_lit w _ k (Nat.le_refl _) (by unfold maxLen; omega) (by simp [madeCells])
  have L0 := fresh_below w k
  rcases h with ⟨rfl, rfl⟩ | ⟨b, cap, rfl, hb, row⟩
  · have A0 : A = 0 := by rw [Nat.pow_zero] at hA; omega
    subst A0
    go_enter Tryz.func220, Tryz.ntmps220
    go_wp2_with (at_builtin; refine wpList_append_own_none _ rfl _ _ 193 rfl w.heap.size 4 i0 1 Tryz.underlying193 hi _ _ _ rfl own0 rfl ?_)
    go_ret
    obtain ⟨q1, q2⟩ := own_rowP own0
    exact ⟨_, _, rfl, q1, by rw [Nat.zero_mul]; exact q2, L0⟩
  · have row2 := row_bl (row.below L0 hb)
    have l1 : Hid (k + n ≤ maxLen) := by show k + n ≤ maxLen; unfold maxLen; omega
    have l2 : Hid ((k + n) * 1 ≤ 140737488355328) := by show (k + n) * 1 ≤ 140737488355328; omega
    have l3 : (Bl n A).length = n * 1 := by rw [Bl_len, Nat.mul_one]
    have l4 : w.heap.size ≤ (freshW w k).heap.size := by omega
    go_enter Tryz.func220, Tryz.ntmps220
    go_wp2_with (at_builtin; refine wpList_append_own _ rfl _ _ 193 rfl w.heap.size 4 i0 (.bool false) 1 1 Tryz.underlying193 hi hz0 hz1 hz2 rfl (by decide) _ _ _ rfl own0 ⟨b, 0, none⟩ n cap (Bl n A) rfl l3 row2 (Bl_one _ _) l1.out l2.out l4 ?_; intro v' w2 hown' hgrow hnil; have HN : Hid _ := hnil; clear hnil)
    go_ret
    rw [Bl_app _ _ _ _ (Nat.two_pow_pos k), Nat.add_zero] at hown'
    rcases id hown'.2 with ⟨hn, _⟩ | ⟨g, cap', cur, rfl, _⟩
    · have hx := (HN.out.1 hn).1
      cases hx
    · obtain ⟨q1, q2⟩ := own_rowP hown'
      exact ⟨_, _, rfl, q1, q2, L0.grown hgrow l4 (own_block own0)⟩
/-! ### Two rows as numbers -/
def cmpR (A B : Nat) : Int := if A < B then -1 else if A = B then 0 else 1
theorem blen_mono_lt {A B : Nat} (h : blen A < blen B) : A < B := by
  have a := lt_blen A
  have B0 : B ≠ 0 := by rintro rfl; rw [blen_zero] at h; omega
  obtain ⟨b1, b2⟩ := blen_le B0
  exact Nat.lt_of_lt_of_le (Nat.lt_of_lt_of_le a (Nat.pow_le_pow_right (by decide) (by omega))) b1
theorem cmp_bit {A B k : Nat} (h : A / 2 ^ (k + 1) = B / 2 ^ (k + 1)) (x : A.testBit k = false) (y : B.testBit k = true) : A < B := by
  rw [bitN, decide_eq_false_iff_not] at x
  rw [bitN, decide_eq_true_iff] at y
  rw [Nat.pow_succ, ← Nat.div_div_eq_div_mul, ← Nat.div_div_eq_div_mul] at h
  have l : A / 2 ^ k < B / 2 ^ k := by omega
  exact Nat.lt_of_div_lt_div l
theorem cmp_eq {A B k : Nat} (h : A / 2 ^ (k + 1) = B / 2 ^ (k + 1)) (x : A.testBit k = B.testBit k) : A / 2 ^ k = B / 2 ^ k := by
  rw [bitN, bitN, decide_eq_decide] at x
  rw [Nat.pow_succ, ← Nat.div_div_eq_div_mul, ← Nat.div_div_eq_div_mul] at h
  omega
set_option maxHeartbeats 1600000 in
theorem rcmpP_any (b1 n1 cap1 A b2 n2 cap2 B : Nat) (hA : A < 2 ^ n1) (hB : B < 2 ^ n2) (h1 : n1 ≤ 10000) (h2 : n2 ≤ 10000) (w : World) (r1 : RowB w b1 n1 (fun i => A.testBit i)) (r2 : RowB w b2 n2 (fun i => B.testBit i)) :
    Calls Tryz.prog 222 #[.slice (some ⟨b1, 0, none⟩) n1 cap1, .slice (some ⟨b2, 0, none⟩) n2 cap2] w fun e w' => e = .returned (.int .i64 (cmpR A B)) ∧ ∃ k, w' = w.drewN k := by
  have hl1 := length_any b1 n1 cap1 A hA (by omega) w r1
  have hl2 := length_any b2 n2 cap2 B hB (by omega) w r2
  have m1 : blen A ≤ n1 := blen_le_of hA
  have m2 : blen B ≤ n2 := blen_le_of hB
  have e1 : Hid (blen A < blen B → cmpR A B = -1) := fun h => by unfold cmpR; rw [if_pos (blen_mono_lt h)]
  have e2 : Hid (blen B < blen A → cmpR A B = 1) := fun h => by
    have := blen_mono_lt h
    unfold cmpR; rw [if_neg (by omega), if_neg (by omega)]
  have e3 : Hid (∀ k, A / 2 ^ (k + 1) = B / 2 ^ (k + 1) → A.testBit k = false → B.testBit k = true → cmpR A B = -1) := fun k h x y => by unfold cmpR; rw [if_pos (cmp_bit h x y)]
  have e4 : Hid (∀ k, A / 2 ^ (k + 1) = B / 2 ^ (k + 1) → A.testBit k = true → B.testBit k = false → cmpR A B = 1) := fun k h x y => by
    have := cmp_bit h.symm y x
    unfold cmpR; rw [if_neg (by omega), if_neg (by omega)]
  have e5 : Hid (A = B → cmpR A B = 0) := fun h => by unfold cmpR; rw [if_neg (by omega), if_pos h]
  have lA := lt_blen A
  have lB := lt_blen B
  generalize cmpR A B = V at *
  generalize hNA : blen A = NA at *
  generalize hNB : blen B = NB at *
  clear hNA hNB hA hB
  have LA : Hid _ := lA
  have LB : Hid _ := lB
  clear lA lB
  rcases Nat.lt_trichotomy NA NB with c | rfl | c
  · have E := e1.out c
    have c' : (NA : Int) < (NB : Int) := by omega
    have c2 : ¬ (NA : Int) = (NB : Int) := by omega
    clear e1 e2 e3 e4 e5 LA LB r1 r2 m1 m2
    subst E
    go_enter Tryz.func222, Tryz.ntmps222
    go_wp2_with (first
      | (go_at_call_of 254 b1; refine hl1.mono ?_; rintro e w1 ⟨rfl, hw⟩; rw [hw]; clear hw w1)
      | (go_at_call_of 254 b2; refine hl2.mono ?_; rintro e w1 ⟨rfl, hw⟩; rw [hw]; clear hw w1))
    go_ret
    exact ⟨rfl, drew_0 _⟩
  · go_enter Tryz.func222, Tryz.ntmps222
    go_wp2_with (first
      | (go_at_call_of 254 b1; refine hl1.mono ?_; rintro e w1 ⟨rfl, hw⟩; rw [hw]; clear hw w1)
      | (go_at_call_of 254 b2; refine hl2.mono ?_; rintro e w1 ⟨rfl, hw⟩; rw [hw]; clear hw w1))
    go_loopw [7] (fun i wr => ∃ k : Nat, k ≤ NA ∧ i = .int .i64 ((k : Int) - 1) ∧ Hid (A / 2 ^ k = B / 2 ^ k) ∧ ∃ d, wr = w.drewN d) (fun i _ => (intOf i + 1).toNat)
    case atStart => exact ⟨NA, Nat.le_refl _, rfl, by show A / 2 ^ NA = B / 2 ^ NA; rw [Nat.div_eq_of_lt LA.out, Nat.div_eq_of_lt LB.out], drew_0 w⟩
    case round =>
      obtain ⟨k, hk, rfl, E, d, hw⟩ := hrel
      have HW : Hid _ := hw
      by_cases hk0 : k = 0
      · subst hk0
        have q := E.out
        rw [Nat.pow_zero, Nat.div_one, Nat.div_one] at q
        have Q := e5.out q
        clear q E e1 e2 e3 e4 e5 LA LB r1 r2 hw
        subst Q
        go_wp2
        go_ret
        exact ⟨rfl, d, HW.out⟩
      · obtain ⟨j, rfl⟩ : ∃ j, k = j + 1 := ⟨k - 1, by omega⟩
        have ej : ((j + 1 : Nat) : Int) - 1 = (j : Int) := by omega
        rw [ej]
        have t1 : (0 : Int) ≤ (j : Int) := by omega
        have t2 : j < n1 := by omega
        have t3 : j < n2 := by omega
        have ga : wr.cell? ⟨b1, j, none⟩ = some (.bool (A.testBit j)) := by rw [hw]; exact r1 j t2
        have gb : wr.cell? ⟨b2, j, none⟩ = some (.bool (B.testBit j)) := by rw [hw]; exact r2 j t3
        clear hw
        have x3 := e3.out j E.out
        have x4 := e4.out j E.out
        have x5 := fun h => cmp_eq (k := j) E.out h
        clear e1 e2 e3 e4 E
        generalize hx : A.testBit j = x at *
        generalize hy : B.testBit j = y at *
        clear hx hy
        cases x <;> cases y
        · have E2 : Hid _ := x5 rfl
          clear x3 x4 x5
          go_wp2_with fail
          go_region
          go_wp2_with fail
          go_roundw
          case rel => exact ⟨j, by omega, by go_num, E2, d + 1, by rw [HW.out]; rfl⟩
          case measure => first | (simp [intOf]; done) | (simp [intOf]; omega)
        · have := x3 rfl rfl
          subst this
          clear x4 x5
          go_wp2_with fail
          go_region
          go_wp2_with fail
          go_ret
          exact ⟨rfl, d + 1, by rw [HW.out]; rfl⟩
        · have := x4 rfl rfl
          subst this
          clear x3 x5
          go_wp2_with fail
          go_region
          go_wp2_with fail
          go_ret
          exact ⟨rfl, d + 1, by rw [HW.out]; rfl⟩
        · have E2 : Hid _ := x5 rfl
          clear x3 x4 x5
          go_wp2_with fail
          go_region
          go_wp2_with fail
          go_roundw
          case rel => exact ⟨j, by omega, by go_num, E2, d + 1, by rw [HW.out]; rfl⟩
          case measure => first | (simp [intOf]; done) | (simp [intOf]; omega)
  · have E := e2.out c
    have c' : ¬ (NA : Int) < (NB : Int) := by omega
    have c2 : ¬ (NA : Int) = (NB : Int) := by omega
    clear e1 e2 e3 e4 e5 LA LB r1 r2 m1 m2
    subst E
    go_enter Tryz.func222, Tryz.ntmps222
    go_wp2_with (first
      | (go_at_call_of 254 b1; refine hl1.mono ?_; rintro e w1 ⟨rfl, hw⟩; rw [hw]; clear hw w1)
      | (go_at_call_of 254 b2; refine hl2.mono ?_; rintro e w1 ⟨rfl, hw⟩; rw [hw]; clear hw w1))
    go_ret
    exact ⟨rfl, drew_0 _⟩
/-! ### Differences -/
def bB (A B k : Nat) : Bool := decide (A % 2 ^ k < B % 2 ^ k)
theorem bB_zero (A B : Nat) : bB A B 0 = false := by unfold bB; rw [Nat.pow_zero, Nat.mod_one, Nat.mod_one]; simp
theorem dif_parts (A B k : Nat) (h : B ≤ A) : (A - B) / 2 ^ k = A / 2 ^ k - B / 2 ^ k - (if bB A B k then 1 else 0) := by
  unfold bB
  have p := pow_pos' k
  have a := Nat.div_add_mod A (2 ^ k)
  have b := Nat.div_add_mod B (2 ^ k)
  have la := Nat.mod_lt A p
  have lb := Nat.mod_lt B p
  have hq : B / 2 ^ k ≤ A / 2 ^ k := Nat.div_le_div_right h
  generalize A % 2 ^ k = x at *
  generalize B % 2 ^ k = y at *
  generalize A / 2 ^ k = q at *
  generalize B / 2 ^ k = r at *
  generalize 2 ^ k = P at *
  obtain ⟨d, rfl⟩ := Nat.exists_eq_add_of_le hq
  rw [Nat.mul_add] at a
  by_cases g : x < y
  · simp only [g, decide_true, if_true]
    have d1 : d ≠ 0 := by
      rintro rfl
      rw [Nat.mul_zero] at a
      omega
    obtain ⟨d', rfl⟩ := Nat.exists_eq_succ_of_ne_zero d1
    have : A - B = (x + P - y) + P * d' := by rw [Nat.mul_succ] at a; omega
    rw [this, Nat.add_mul_div_left _ _ p, Nat.div_eq_of_lt (by omega)]
    omega
  · simp only [g, decide_false, Bool.false_eq_true, if_false]
    have : A - B = (x - y) + P * d := by omega
    rw [this, Nat.add_mul_div_left _ _ p, Nat.div_eq_of_lt (by omega)]
    omega
theorem dif_bit (A B k : Nat) (h : B ≤ A) : (A - B).testBit k = ((A.testBit k ^^ B.testBit k) ^^ bB A B k) := by
  have le : B / 2 ^ k + (if bB A B k then 1 else 0) ≤ A / 2 ^ k := by
    have p := pow_pos' k
    have a := Nat.div_add_mod A (2 ^ k)
    have b := Nat.div_add_mod B (2 ^ k)
    have la := Nat.mod_lt A p
    have lb := Nat.mod_lt B p
    have hq : B / 2 ^ k ≤ A / 2 ^ k := Nat.div_le_div_right h
    unfold bB
    by_cases g : A % 2 ^ k < B % 2 ^ k
    · simp only [g, decide_true, if_true]
      rcases Nat.lt_or_ge (B / 2 ^ k) (A / 2 ^ k) with c | c
      · exact c
      · exfalso
        have : B / 2 ^ k = A / 2 ^ k := by omega
        rw [this] at b
        omega
    · simp only [g, decide_false, Bool.false_eq_true, if_false]
      exact hq
  rw [bitN, bitN, bitN, dif_parts A B k h]
  generalize A / 2 ^ k = q at *
  generalize B / 2 ^ k = r at *
  generalize bB A B k = z at *
  cases z
  · simp only [Bool.false_eq_true, if_false, Nat.add_zero, Nat.sub_zero, Bool.xor_false] at le ⊢
    rcases Nat.mod_two_eq_zero_or_one q with h1 | h1 <;> rcases Nat.mod_two_eq_zero_or_one r with h2 | h2 <;> simp [h1, h2] <;> omega
  · simp only [if_true, Bool.xor_true] at le ⊢
    rcases Nat.mod_two_eq_zero_or_one q with h1 | h1 <;> rcases Nat.mod_two_eq_zero_or_one r with h2 | h2 <;> simp [h1, h2] <;> omega
theorem bB_succ (A B k : Nat) : bB A B (k + 1) = (!A.testBit k && B.testBit k || !(A.testBit k ^^ B.testBit k) && bB A B k) := by
  rw [bitN, bitN]
  unfold bB
  rw [Nat.mod_pow_succ, Nat.mod_pow_succ]
  have p := pow_pos' k
  have la := Nat.mod_lt A p
  have lb := Nat.mod_lt B p
  generalize A % 2 ^ k = x at *
  generalize B % 2 ^ k = y at *
  generalize A / 2 ^ k = q at *
  generalize B / 2 ^ k = r at *
  generalize 2 ^ k = P at *
  rcases Nat.mod_two_eq_zero_or_one q with h1 | h1 <;> rcases Nat.mod_two_eq_zero_or_one r with h2 | h2 <;> simp [h1, h2] <;> omega
theorem bit_past {B n k : Nat} (h : B < 2 ^ n) (hk : n ≤ k) : B.testBit k = false := by
  rw [bitN, Nat.div_eq_of_lt (Nat.lt_of_lt_of_le h (Nat.pow_le_pow_right (by decide) hk))]
  rfl
set_option maxHeartbeats 6400000 in
theorem rminus_any (b1 n1 cap1 A b2 n2 cap2 B : Nat) (hA : A < 2 ^ n1) (hB : B < 2 ^ n2) (h1 : n1 ≤ 10000) (h2 : n2 ≤ 10000) (hAB : B ≤ A) (w : World) (r1 : RowB w b1 n1 (fun i => A.testBit i)) (r2 : RowB w b2 n2 (fun i => B.testBit i)) (z1 : b1 < w.heap.size) (z2 : b2 < w.heap.size) :
    Calls Tryz.prog 223 #[.slice (some ⟨b1, 0, none⟩) n1 cap1, .slice (some ⟨b2, 0, none⟩) n2 cap2] w fun e w' => ∃ v, e = .returned v ∧ BitV w' v n1 (A - B) ∧ Below w.heap.size w w' := by
  have hmk := make_bools n1 (by omega)
  have lS : A - B < 2 ^ n1 := by omega
  have HB : Hid _ := hB
  have LS : Hid _ := lS
  clear hB hA lS
  go_enter Tryz.func223, Tryz.ntmps223
  go_wp2
  go_loopw [6, 7] (fun u i wr => ∃ (k : Nat), k ≤ n1 ∧ i = .int .i64 k ∧ u = .bool (bB A B k) ∧ w.heap.size < wr.heap.size ∧ RowB wr w.heap.size n1 (sumTo (A - B) k) ∧ RowF wr w.heap.size n1 ∧ Below w.heap.size w wr) (fun _ i _ => n1 - (intOf i).toNat)
  case atStart =>
    refine ⟨0, by omega, rfl, by rw [bB_zero], by rw [fresh_size]; omega, ?_, fresh_free _ _, fresh_below _ _⟩
    rw [sumTo_zero]; exact fresh_row _ _
  case round =>
    obtain ⟨k, hk, rfl, rfl, s0, hrow, hfree, hb⟩ := hrel
    by_cases hlt : k < n1
    · have t1 : (k : Int) < (n1 : Int) := by omega
      have ga : wr.cell? ⟨b1, k, none⟩ = some (.bool (A.testBit k)) := by rw [(bcell hb).1 _ _ z1]; exact r1 k hlt
      have go := hrow k (by omega)
      have ho := hfree k (by omega)
      have sb := dif_bit A B k hAB
      have cs := bB_succ A B k
      by_cases hlt2 : k < n2
      · have t2 : (k : Int) < (n2 : Int) := by omega
        have gb : wr.cell? ⟨b2, k, none⟩ = some (.bool (B.testBit k)) := by rw [(bcell hb).1 _ _ z2]; exact r2 k hlt2
        generalize A.testBit k = x at *
        generalize B.testBit k = y at *
        generalize hz : bB A B k = z at *
        have S1 : Hid _ := sb
        have S2 : Hid _ := cs
        clear sb cs hz
        cases x <;> cases y <;> cases z
        all_goals
          go_wp2
          go_roundw
          case rel =>
            refine ⟨k + 1, by omega, by go_num, congrArg Value.bool S2.out.symm, by simpa using s0, ?_, hfree.set _ _, hb.setCell (by simp) _⟩
            rw [← sumTo_succ (A - B) k _ S1.out.symm]
            exact hrow.set k _ (by omega)
          case measure => simp [intOf]; omega
      · have t2 : ¬ (k : Int) < (n2 : Int) := by omega
        rw [bit_past HB.out (by omega)] at sb cs
        generalize A.testBit k = x at *
        generalize hz : bB A B k = z at *
        have S1 : Hid _ := sb
        have S2 : Hid _ := cs
        clear sb cs hz
        cases x <;> cases z
        all_goals
          go_wp2
          go_roundw
          case rel =>
            refine ⟨k + 1, by omega, by go_num, congrArg Value.bool S2.out.symm, by simpa using s0, ?_, hfree.set _ _, hb.setCell (by simp) _⟩
            rw [← sumTo_succ (A - B) k _ S1.out.symm]
            exact hrow.set k _ (by omega)
          case measure => simp [intOf]; omega
    · have : k = n1 := by omega
      subst this
      go_wp2
      go_ret
      refine ⟨_, rfl, ⟨LS.out, Or.inr ⟨_, _, rfl, s0, hrow.ext (fun i hi => sumTo_full _ _ _ hi)⟩⟩, hb⟩
/-! ### Sums -/
theorem lit_cell (w : World) (v : Value) (t : TypeId) : ∀ j u, [v][j]? = some u → (w.alloc (.cells #[v] t)).cell? (Addr.add ⟨w.heap.size, 0, none⟩ j) = some u := by
  intro j u hj
  match j, hj with
  | 0, hj => simp at hj; subst hj; simp [Addr.add]
theorem lit_one (b : Bool) : ∀ u ∈ [Value.bool b], u.oneCell' = true := by intro u hu; simp at hu; subst hu; rfl
theorem sum_done {A B n1 n2 k : Nat} (hA : A < 2 ^ n1) (hB : B < 2 ^ n2) (h1 : n1 ≤ k) (h2 : n2 ≤ k) (c : cB A B 0 k = false) : A + B < 2 ^ k := by
  unfold cB at c
  rw [Nat.mod_eq_of_lt (Nat.lt_of_lt_of_le hA (Nat.pow_le_pow_right (by decide) h1)), Nat.mod_eq_of_lt (Nat.lt_of_lt_of_le hB (Nat.pow_le_pow_right (by decide) h2))] at c
  simp at c
  omega
set_option maxHeartbeats 12800000 in
theorem rplus_any (b1 n1 cap1 A b2 n2 cap2 B : Nat) (hA : A < 2 ^ n1) (hB : B < 2 ^ n2) (h1 : n1 ≤ 10000) (h2 : n2 ≤ 10000) (w : World) (r1 : RowB w b1 n1 (fun i => A.testBit i)) (r2 : RowB w b2 n2 (fun i => B.testBit i)) (z1 : b1 < w.heap.size) (z2 : b2 < w.heap.size) :
    Calls Tryz.prog 221 #[.slice (some ⟨b1, 0, none⟩) n1 cap1, .slice (some ⟨b2, 0, none⟩) n2 cap2] w fun e w' => ∃ v, e = .returned v ∧ (∃ n, n ≤ 20001 ∧ BitV w' v n (A + B)) ∧ Below w.heap.size w w' := by
  obtain ⟨i0, hi, hz0, hz1, hz2⟩ := info_parts Tryz.infoB
  have HA : Hid _ := hA
  have HB : Hid _ := hB
  clear hB hA
  go_enter Tryz.func221, Tryz.ntmps221
  go_wp2
  go_loopw [5, 6, 7] (fun v u i wr => ∃ (k : Nat), k ≤ 10001 ∧ (cB A B 0 k = true → k ≤ 10000) ∧ i = .int .i64 k ∧ u = .bool (cB A B 0 k) ∧ wr.ownsRow w.heap.size 4 1 v k (Bl k (A + B)) ∧ Below w.heap.size w wr) (fun _ _ i _ => 10002 - (intOf i).toNat)
  case atStart =>
    exact ⟨0, by omega, fun _ => by omega, rfl, by rw [cB_zero]; rfl, World.ownsRow_nil _ _ _ _, Below.refl _ _⟩
  case round =>
    obtain ⟨k, hk, hck, rfl, rfl, hown, hb⟩ := hrel
    have sb := sum_bit A B 0 k (by decide)
    have cs := cB_succ A B 0 k (by decide)
    rw [Nat.add_zero] at sb
    have HD : Hid (n1 ≤ k → n2 ≤ k → cB A B 0 k = false → A + B < 2 ^ k) := fun a b c => sum_done HA.out HB.out a b c
    have hs := hb.size
    have l1 : k + 1 ≤ maxLen := by unfold maxLen; omega
    have l2 : (k + 1) * 1 ≤ 140737488355328 := by omega
    have l3 : w.heap.size ≤ (wr.alloc (.cells #[.bool false] 4)).heap.size := by simp; omega
    have l4 : w.heap.size ≤ (wr.alloc (.cells #[.bool true] 4)).heap.size := by simp; omega
    by_cases c1 : k < n1 <;> by_cases c2 : k < n2
    · have t1 : (k : Int) < (n1 : Int) := by omega
      have t2 : (k : Int) < (n2 : Int) := by omega
      have ga : wr.cell? ⟨b1, k, none⟩ = some (.bool (A.testBit k)) := by rw [(bcell hb).1 _ _ z1]; exact r1 k c1
      have gb : wr.cell? ⟨b2, k, none⟩ = some (.bool (B.testBit k)) := by rw [(bcell hb).1 _ _ z2]; exact r2 k c2
      have KB : Hid (cB A B 0 (k + 1) = true → k + 1 ≤ 10000) := fun _ => by omega
      generalize A.testBit k = x at *
      generalize B.testBit k = y at *
      generalize hz : cB A B 0 k = z at *
      have S1 : Hid _ := sb
      have S2 : Hid _ := cs
      clear sb cs hz HD hck
      cases x <;> cases y <;> cases z
      all_goals
        go_wp2_with (first
          | (at_builtin; refine wpList_append_own _ rfl _ _ 193 rfl w.heap.size 4 i0 (.bool false) 1 1 Tryz.underlying193 hi hz0 hz1 hz2 rfl (by decide) _ _ _ rfl (hown.alloc _) ⟨wr.heap.size, 0, none⟩ 1 1 [.bool false] rfl rfl (lit_cell _ _ _) (lit_one _) l1 l2 l3 ?_; intro v' w1 hown' hgrow hnil; clear hnil)
          | (at_builtin; refine wpList_append_own _ rfl _ _ 193 rfl w.heap.size 4 i0 (.bool false) 1 1 Tryz.underlying193 hi hz0 hz1 hz2 rfl (by decide) _ _ _ rfl (hown.alloc _) ⟨wr.heap.size, 0, none⟩ 1 1 [.bool true] rfl rfl (lit_cell _ _ _) (lit_one _) l1 l2 l4 ?_; intro v' w1 hown' hgrow hnil; clear hnil)
          | go_in)
        have hown2 : w1.ownsRow w.heap.size 4 1 v' (k + 1) (Bl (k + 1) (A + B)) := by
          rw [← Bl_snoc, S1.out]
          exact hown'
        have hb' := (hb.alloc hb.size _).grown hgrow (by assumption) (own_block hown)
        clear hgrow hown hown'
        go_wp2
        go_roundw
        case rel => exact ⟨k + 1, by omega, KB.out, by go_num, congrArg Value.bool S2.out.symm, hown2, hb'⟩
        case measure => simp [intOf]; omega
    · have t1 : (k : Int) < (n1 : Int) := by omega
      have t2 : ¬ (k : Int) < (n2 : Int) := by omega
      have ga : wr.cell? ⟨b1, k, none⟩ = some (.bool (A.testBit k)) := by rw [(bcell hb).1 _ _ z1]; exact r1 k c1
      have KB : Hid (cB A B 0 (k + 1) = true → k + 1 ≤ 10000) := fun _ => by omega
      rw [bit_past HB.out (by omega)] at sb cs
      generalize A.testBit k = x at *
      generalize hz : cB A B 0 k = z at *
      have S1 : Hid _ := sb
      have S2 : Hid _ := cs
      clear sb cs hz HD hck
      cases x <;> cases z
      all_goals
        go_wp2_with (first
          | (at_builtin; refine wpList_append_own _ rfl _ _ 193 rfl w.heap.size 4 i0 (.bool false) 1 1 Tryz.underlying193 hi hz0 hz1 hz2 rfl (by decide) _ _ _ rfl (hown.alloc _) ⟨wr.heap.size, 0, none⟩ 1 1 [.bool false] rfl rfl (lit_cell _ _ _) (lit_one _) l1 l2 l3 ?_; intro v' w1 hown' hgrow hnil; clear hnil)
          | (at_builtin; refine wpList_append_own _ rfl _ _ 193 rfl w.heap.size 4 i0 (.bool false) 1 1 Tryz.underlying193 hi hz0 hz1 hz2 rfl (by decide) _ _ _ rfl (hown.alloc _) ⟨wr.heap.size, 0, none⟩ 1 1 [.bool true] rfl rfl (lit_cell _ _ _) (lit_one _) l1 l2 l4 ?_; intro v' w1 hown' hgrow hnil; clear hnil)
          | go_in)
        have hown2 : w1.ownsRow w.heap.size 4 1 v' (k + 1) (Bl (k + 1) (A + B)) := by
          rw [← Bl_snoc, S1.out]
          exact hown'
        have hb' := (hb.alloc hb.size _).grown hgrow (by assumption) (own_block hown)
        clear hgrow hown hown'
        go_wp2
        go_roundw
        case rel => exact ⟨k + 1, by omega, KB.out, by go_num, congrArg Value.bool S2.out.symm, hown2, hb'⟩
        case measure => simp [intOf]; omega
    · have t1 : ¬ (k : Int) < (n1 : Int) := by omega
      have t2 : (k : Int) < (n2 : Int) := by omega
      have gb : wr.cell? ⟨b2, k, none⟩ = some (.bool (B.testBit k)) := by rw [(bcell hb).1 _ _ z2]; exact r2 k c2
      have KB : Hid (cB A B 0 (k + 1) = true → k + 1 ≤ 10000) := fun _ => by omega
      rw [bit_past HA.out (by omega)] at sb cs
      generalize B.testBit k = y at *
      generalize hz : cB A B 0 k = z at *
      have S1 : Hid _ := sb
      have S2 : Hid _ := cs
      clear sb cs hz HD hck
      cases y <;> cases z
      all_goals
        go_wp2_with (first
          | (at_builtin; refine wpList_append_own _ rfl _ _ 193 rfl w.heap.size 4 i0 (.bool false) 1 1 Tryz.underlying193 hi hz0 hz1 hz2 rfl (by decide) _ _ _ rfl (hown.alloc _) ⟨wr.heap.size, 0, none⟩ 1 1 [.bool false] rfl rfl (lit_cell _ _ _) (lit_one _) l1 l2 l3 ?_; intro v' w1 hown' hgrow hnil; clear hnil)
          | (at_builtin; refine wpList_append_own _ rfl _ _ 193 rfl w.heap.size 4 i0 (.bool false) 1 1 Tryz.underlying193 hi hz0 hz1 hz2 rfl (by decide) _ _ _ rfl (hown.alloc _) ⟨wr.heap.size, 0, none⟩ 1 1 [.bool true] rfl rfl (lit_cell _ _ _) (lit_one _) l1 l2 l4 ?_; intro v' w1 hown' hgrow hnil; clear hnil)
          | go_in)
        have hown2 : w1.ownsRow w.heap.size 4 1 v' (k + 1) (Bl (k + 1) (A + B)) := by
          rw [← Bl_snoc, S1.out]
          exact hown'
        have hb' := (hb.alloc hb.size _).grown hgrow (by assumption) (own_block hown)
        clear hgrow hown hown'
        go_wp2
        go_roundw
        case rel => exact ⟨k + 1, by omega, KB.out, by go_num, congrArg Value.bool S2.out.symm, hown2, hb'⟩
        case measure => simp [intOf]; omega
    · have t1 : ¬ (k : Int) < (n1 : Int) := by omega
      have t2 : ¬ (k : Int) < (n2 : Int) := by omega
      rw [bit_past HA.out (by omega), bit_past HB.out (by omega)] at sb cs
      have D := HD.out (by omega) (by omega)
      generalize hz : cB A B 0 k = z at *
      cases z
      · have LD : Hid _ := D rfl
        clear D HD sb cs hck hz
        go_wp2
        go_ret
        exact ⟨_, rfl, ⟨k, by omega, own_bits hown LD.out⟩, hb⟩
      · have S1 : Hid _ := sb
        have S2 : Hid _ := cs
        have hk2 := hck rfl
        have KB : Hid (cB A B 0 (k + 1) = true → k + 1 ≤ 10000) := fun h => absurd (S2.out.symm.trans h) (by decide)
        clear sb cs hz HD hck D
        go_wp2_with (first
          | (at_builtin; refine wpList_append_own _ rfl _ _ 193 rfl w.heap.size 4 i0 (.bool false) 1 1 Tryz.underlying193 hi hz0 hz1 hz2 rfl (by decide) _ _ _ rfl (hown.alloc _) ⟨wr.heap.size, 0, none⟩ 1 1 [.bool false] rfl rfl (lit_cell _ _ _) (lit_one _) l1 l2 l3 ?_; intro v' w1 hown' hgrow hnil; clear hnil)
          | (at_builtin; refine wpList_append_own _ rfl _ _ 193 rfl w.heap.size 4 i0 (.bool false) 1 1 Tryz.underlying193 hi hz0 hz1 hz2 rfl (by decide) _ _ _ rfl (hown.alloc _) ⟨wr.heap.size, 0, none⟩ 1 1 [.bool true] rfl rfl (lit_cell _ _ _) (lit_one _) l1 l2 l4 ?_; intro v' w1 hown' hgrow hnil; clear hnil)
          | go_in)
        have hown2 : w1.ownsRow w.heap.size 4 1 v' (k + 1) (Bl (k + 1) (A + B)) := by
          rw [← Bl_snoc, S1.out]
          exact hown'
        have hb' := (hb.alloc hb.size _).grown hgrow (by assumption) (own_block hown)
        clear hgrow hown hown'
        go_wp2
        go_roundw
        case rel => exact ⟨k + 1, by omega, KB.out, by go_num, congrArg Value.bool S2.out.symm, hown2, hb'⟩
        case measure => simp [intOf]; omega
end Go.Proofs.YthjoigkckgdcaaaGreat
namespace Go.Proofs.YthjoigkckgdcaaaGreat
open Go.RowKit
set_option linter.unusedVariables false
set_option linter.unusedSimpArgs false
theorem kinds3Y (k : Int) : ((k == 0 || k == 5) = true ∧ (k == 4) = false) ∨ ((k == 0 || k == 5) = false ∧ (k == 4) = true) ∨ ((k == 0 || k == 5) = false ∧ (k == 4) = false) := by
  by_cases c1 : k = 0
  · subst c1; decide
  · by_cases c2 : k = 5
    · subst c2; decide
    · by_cases c3 : k = 4
      · subst c3; decide
      · simp [c1, c2, c3]
theorem wide_notY {s : Bool} {a : Int} (h : (cls s a == 0 || cls s a == 5) = false) : wideB s a = false := by
  cases c : wideB s a
  · rfl
  · exfalso
    have : cls s a = 0 := by unfold cls; rw [c]; rfl
    rw [this] at h
    exact absurd h (by decide)
theorem fin_wordY {s : Bool} {u p : Int} (h : Fin s u p) : Word u ∧ u < 9007199254740992 ∧ -1074 ≤ p ∧ p ≤ 2000 := by
  obtain ⟨a, b, c, d, e⟩ := h
  cases s
  · have b' : u < 9007199254740992 := b
    have c' : -1074 ≤ p := c
    exact ⟨⟨a, by omega⟩, b', c', d⟩
  · have b' : u < 16777216 := b
    have c' : -149 ≤ p := c
    exact ⟨⟨a, by omega⟩, by omega, by omega, d⟩
theorem rup_int (v : Value) (n A : Nat) (z : Int) (hn : n ≤ 100) (hz0 : 0 ≤ z) (hz : z ≤ 5000) (w : World) (h : BitV w v n A) :
    Calls Tryz.prog 220 #[v, .int .i64 z] w fun e w' => ∃ g cap, e = .returned (.slice (some ⟨g, 0, none⟩) (z.toNat + n) cap) ∧ g < w'.heap.size ∧ RowB w' g (z.toNat + n) (fun i => (A * 2 ^ z.toNat).testBit i) ∧ Below w.heap.size w w' := by
  obtain ⟨k, rfl⟩ := Int.eq_ofNat_of_zero_le hz0
  rw [Int.toNat_natCast]
  exact rup_any v n A k hn (by omega) w h
theorem below_callY {w W w1 : World} (h : Below w.heap.size w W) (hb : Below W.heap.size W w1) : Below w.heap.size w w1 := h.trans (hb.mono h.size)
theorem drewNY (w : World) (n : Nat) : Below w.heap.size w (w.drewN n) := below_drewN (Below.refl _ _) n
set_option maxRecDepth 20000 in
set_option maxHeartbeats 25600000 in
theorem radd_core (f m a b : Int) (g1 g2 : Bool) (X Y : Nat) (p1 p2 z1 z2 e S0 : Int) (nX nY N1 N2 SA SB : Nat) (V : Int)
    (hp1 : -1074 ≤ p1) (hp1' : p1 ≤ 2000) (hp2 : -1074 ≤ p2) (hp2' : p2 ≤ 2000)
    (hz : p2 < p1 ∧ z1 = p1 - p2 ∧ z2 = 0 ∧ e = p2 ∨ ¬ p2 < p1 ∧ z1 = 0 ∧ z2 = p2 - p1 ∧ e = p1)
    (hX : X < 2 ^ nX) (hY : Y < 2 ^ nY) (hSA : SA < 2 ^ N1) (hSB : SB < 2 ^ N2) (hN1 : N1 ≤ 10000) (hN2 : N2 ≤ 10000)
    (hb1 : ∀ w, Calls Tryz.prog 169 #[.int .i64 f, .int .u64 a] w fun e w' => e = .returned (.bool g1) ∧ w' = w)
    (hb2 : ∀ w, Calls Tryz.prog 169 #[.int .i64 f, .int .u64 b] w fun e w' => e = .returned (.bool g2) ∧ w' = w)
    (hn1 : ∀ w, Calls Tryz.prog 172 #[.int .i64 f, .int .u64 a] w fun e w' => e = .returned (.bool false) ∧ ∃ n, w' = w.drewN n)
    (hn2 : ∀ w, Calls Tryz.prog 172 #[.int .i64 f, .int .u64 b] w fun e w' => e = .returned (.bool false) ∧ ∃ n, w' = w.drewN n)
    (hi1 : ∀ w, Calls Tryz.prog 174 #[.int .i64 f, .int .u64 a] w fun e w' => e = .returned (.bool false) ∧ ∃ n, w' = w.drewN n)
    (hi2 : ∀ w, Calls Tryz.prog 174 #[.int .i64 f, .int .u64 b] w fun e w' => e = .returned (.bool false) ∧ ∃ n, w' = w.drewN n)
    (v1 : ∀ w, Calls Tryz.prog 175 #[.int .i64 f, .int .u64 a] w fun e w' => e = .returned (.tuple #[.int .u64 (X : Int), .int .i64 p1]) ∧ w' = w.drew)
    (v2 : ∀ w, Calls Tryz.prog 175 #[.int .i64 f, .int .u64 b] w fun e w' => e = .returned (.tuple #[.int .u64 (Y : Int), .int .i64 p2]) ∧ w' = w.drew)
    (hbX : ∀ w : World, Calls Tryz.prog 180 #[.int .u64 (X : Int)] w fun e w' => ∃ v, e = .returned v ∧ BitV w' v nX X ∧ Below w.heap.size w w')
    (hbY : ∀ w : World, Calls Tryz.prog 180 #[.int .u64 (Y : Int)] w fun e w' => ∃ v, e = .returned v ∧ BitV w' v nY Y ∧ Below w.heap.size w w')
    (hu1 : ∀ v w, BitV w v nX X → Calls Tryz.prog 220 #[v, .int .i64 z1] w fun e w' => ∃ g cap, e = .returned (.slice (some ⟨g, 0, none⟩) N1 cap) ∧ g < w'.heap.size ∧ RowB w' g N1 (fun i => SA.testBit i) ∧ Below w.heap.size w w')
    (hu2 : ∀ v w, BitV w v nY Y → Calls Tryz.prog 220 #[v, .int .i64 z2] w fun e w' => ∃ g cap, e = .returned (.slice (some ⟨g, 0, none⟩) N2 cap) ∧ g < w'.heap.size ∧ RowB w' g N2 (fun i => SB.testBit i) ∧ Below w.heap.size w w')
    (hsg : ∀ w, Calls Tryz.prog 173 #[.int .i64 f, .bool (m == 2)] w fun e w' => e = .returned (.int .u64 S0) ∧ w' = w)
    (q1 : g1 = g2 → ∀ v n w, n ≤ 20001 → BitV w v n (SA + SB) → Calls Tryz.prog 179 #[.int .i64 f, .int .i64 m, .bool g1, v, .int .i64 e] w fun r w' => r = .returned (.int .u64 V) ∧ ∃ k, w' = w.drewN k)
    (q2 : g1 ≠ g2 → SA = SB → S0 = V)
    (q3 : g1 ≠ g2 → SB < SA → ∀ v w, BitV w v N1 (SA - SB) → Calls Tryz.prog 179 #[.int .i64 f, .int .i64 m, .bool g1, v, .int .i64 e] w fun r w' => r = .returned (.int .u64 V) ∧ ∃ k, w' = w.drewN k)
    (q4 : g1 ≠ g2 → SA < SB → ∀ v w, BitV w v N2 (SB - SA) → Calls Tryz.prog 179 #[.int .i64 f, .int .i64 m, .bool g2, v, .int .i64 e] w fun r w' => r = .returned (.int .u64 V) ∧ ∃ k, w' = w.drewN k)
    (w : World) :
    Calls Tryz.prog 138 #[.int .i64 f, .int .i64 m, .int .u64 a, .int .u64 b] w fun r w' => r = .returned (.int .u64 V) ∧ Below w.heap.size w w' := by
  have hcm := fun (ga ca gb cb : Nat) (w : World) (ra : RowB w ga N1 (fun i => SA.testBit i)) (rb : RowB w gb N2 (fun i => SB.testBit i)) => rcmpP_any ga N1 ca SA gb N2 cb SB hSA hSB hN1 hN2 w ra rb
  have hpl := fun (ga ca gb cb : Nat) (w : World) (ra : RowB w ga N1 (fun i => SA.testBit i)) (rb : RowB w gb N2 (fun i => SB.testBit i)) (za : ga < w.heap.size) (zb : gb < w.heap.size) => rplus_any ga N1 ca SA gb N2 cb SB hSA hSB hN1 hN2 w ra rb za zb
  have hm1 := fun (h : SB ≤ SA) (ga ca gb cb : Nat) (w : World) (ra : RowB w ga N1 (fun i => SA.testBit i)) (rb : RowB w gb N2 (fun i => SB.testBit i)) (za : ga < w.heap.size) (zb : gb < w.heap.size) => rminus_any ga N1 ca SA gb N2 cb SB hSA hSB hN1 hN2 h w ra rb za zb
  have hm2 := fun (h : SA ≤ SB) (ga ca gb cb : Nat) (w : World) (ra : RowB w ga N1 (fun i => SA.testBit i)) (rb : RowB w gb N2 (fun i => SB.testBit i)) (za : ga < w.heap.size) (zb : gb < w.heap.size) => rminus_any gb N2 cb SB ga N1 ca SA hSB hSA hN2 hN1 h w rb ra zb za
  clear hSA hSB hX hY
  have tri : g1 = g2 ∨ (g1 ≠ g2 ∧ SA = SB) ∨ (g1 ≠ g2 ∧ SB < SA) ∨ (g1 ≠ g2 ∧ SA < SB) := by
    by_cases c : g1 = g2
    · exact Or.inl c
    · rcases Nat.lt_trichotomy SA SB with d | d | d
      · exact Or.inr (Or.inr (Or.inr ⟨c, d⟩))
      · exact Or.inr (Or.inl ⟨c, d⟩)
      · exact Or.inr (Or.inr (Or.inl ⟨c, d⟩))
  rcases tri with c | ⟨c, d⟩ | ⟨c, d⟩ | ⟨c, d⟩
  · have R := q1 c
    subst c
    clear q1 q2 q3 q4 hm1 hm2 hcm hsg
    rcases hz with ⟨t, rfl, rfl, rfl⟩ | ⟨t, rfl, rfl, rfl⟩ <;> cases g1
    all_goals
      go_enter Tryz.func138, Tryz.ntmps138
      go_wp2_with (first
         | (go_at_call_of 169 a; refine (hb1 _).mono ?_; rintro r w1 ⟨rfl, hw⟩; rw [hw]; clear hw w1)
         | (go_at_call_of 169 b; refine (hb2 _).mono ?_; rintro r w1 ⟨rfl, hw⟩; rw [hw]; clear hw w1)
         | (go_at_call_of 172 a; refine (hn1 _).mono ?_; rintro r w1 ⟨rfl, n3, rfl⟩)
         | (go_at_call_of 172 b; refine (hn2 _).mono ?_; rintro r w1 ⟨rfl, n4, rfl⟩)
         | (go_at_call_of 174 a; refine (hi1 _).mono ?_; rintro r w1 ⟨rfl, n5, rfl⟩)
         | (go_at_call_of 174 b; refine (hi2 _).mono ?_; rintro r w1 ⟨rfl, n6, rfl⟩)
         | (go_at_call_of 175 a; refine (v1 _).mono ?_; rintro r w1 ⟨rfl, rfl⟩)
         | (go_at_call_of 175 b; refine (v2 _).mono ?_; rintro r w1 ⟨rfl, rfl⟩)
         | (go_at_call_of 180 X; refine (hbX _).mono ?_; rintro r wa ⟨va, rfl, bva, La⟩; replace La : Below w.heap.size w wa := below_callY (drewNY w _) La)
         | (go_at_call_of 220 va; refine (hu1 va _ bva).mono ?_; rintro r wb ⟨ga, ca, rfl, za, ra, Lb⟩; replace Lb := below_callY La Lb; clear La bva)
         | (go_at_call_of 180 Y; refine (hbY _).mono ?_; rintro r wc ⟨vb, rfl, bvb, Lc⟩; replace ra := ra.below Lc za; replace za := Nat.lt_of_lt_of_le za Lc.size; replace Lc := below_callY Lb Lc; clear Lb)
         | (go_at_call_of 220 vb; refine (hu2 vb _ bvb).mono ?_; rintro r wd ⟨gb, cb, rfl, zb, rb, Ld⟩; replace ra := ra.below Ld za; replace za := Nat.lt_of_lt_of_le za Ld.size; replace Ld := below_callY Lc Ld; clear Lc bvb)
         | (go_at_call 221; refine (hpl _ _ _ _ _ ra rb za zb).mono ?_; rintro r we ⟨vs, rfl, ⟨ns, hns, bvs⟩, Le⟩; replace Le := below_callY Ld Le)
         | (go_at_call 179; refine (R vs ns _ hns bvs).mono ?_; rintro r wf ⟨rfl, kk, rfl⟩))
      go_ret
      exact ⟨rfl, below_drewN Le _⟩
  · have R := q2 c d
    subst R
    have d0 : cmpR SA SB = 0 := by unfold cmpR; rw [if_neg (by omega), if_pos d]
    simp only [d0] at hcm
    clear q1 q2 q3 q4 hm1 hm2 hpl d0
    rcases hz with ⟨t, rfl, rfl, rfl⟩ | ⟨t, rfl, rfl, rfl⟩ <;> cases g1 <;> cases g2
    all_goals
      first
        | exact absurd rfl c
        | (clear c d
           go_enter Tryz.func138, Tryz.ntmps138
           go_wp2_with (first
         | (go_at_call_of 169 a; refine (hb1 _).mono ?_; rintro r w1 ⟨rfl, hw⟩; rw [hw]; clear hw w1)
         | (go_at_call_of 169 b; refine (hb2 _).mono ?_; rintro r w1 ⟨rfl, hw⟩; rw [hw]; clear hw w1)
         | (go_at_call_of 172 a; refine (hn1 _).mono ?_; rintro r w1 ⟨rfl, n3, rfl⟩)
         | (go_at_call_of 172 b; refine (hn2 _).mono ?_; rintro r w1 ⟨rfl, n4, rfl⟩)
         | (go_at_call_of 174 a; refine (hi1 _).mono ?_; rintro r w1 ⟨rfl, n5, rfl⟩)
         | (go_at_call_of 174 b; refine (hi2 _).mono ?_; rintro r w1 ⟨rfl, n6, rfl⟩)
         | (go_at_call_of 175 a; refine (v1 _).mono ?_; rintro r w1 ⟨rfl, rfl⟩)
         | (go_at_call_of 175 b; refine (v2 _).mono ?_; rintro r w1 ⟨rfl, rfl⟩)
         | (go_at_call_of 180 X; refine (hbX _).mono ?_; rintro r wa ⟨va, rfl, bva, La⟩; replace La : Below w.heap.size w wa := below_callY (drewNY w _) La)
         | (go_at_call_of 220 va; refine (hu1 va _ bva).mono ?_; rintro r wb ⟨ga, ca, rfl, za, ra, Lb⟩; replace Lb := below_callY La Lb; clear La bva)
         | (go_at_call_of 180 Y; refine (hbY _).mono ?_; rintro r wc ⟨vb, rfl, bvb, Lc⟩; replace ra := ra.below Lc za; replace za := Nat.lt_of_lt_of_le za Lc.size; replace Lc := below_callY Lb Lc; clear Lb)
         | (go_at_call_of 220 vb; refine (hu2 vb _ bvb).mono ?_; rintro r wd ⟨gb, cb, rfl, zb, rb, Ld⟩; replace ra := ra.below Ld za; replace za := Nat.lt_of_lt_of_le za Ld.size; replace Ld := below_callY Lc Ld; clear Lc bvb)
         | (go_at_call 222; refine (hcm ga ca gb cb _ ra rb).mono ?_; rintro r w1 ⟨rfl, kc, rfl⟩)
         | (go_at_call 173; refine (hsg _).mono ?_; rintro r w1 ⟨rfl, hw⟩; rw [hw]; clear hw w1))
           go_ret
           exact ⟨rfl, below_drewN Ld _⟩)
  · have R := q3 c d
    have d0 : cmpR SA SB = 1 := by unfold cmpR; rw [if_neg (by omega), if_neg (by omega)]
    simp only [d0] at hcm
    have hm := hm1 (by omega)
    clear q1 q2 q3 q4 hm1 hm2 hpl d0 hsg
    rcases hz with ⟨t, rfl, rfl, rfl⟩ | ⟨t, rfl, rfl, rfl⟩ <;> cases g1 <;> cases g2
    all_goals
      first
        | exact absurd rfl c
        | (clear c d
           go_enter Tryz.func138, Tryz.ntmps138
           go_wp2_with (first
         | (go_at_call_of 169 a; refine (hb1 _).mono ?_; rintro r w1 ⟨rfl, hw⟩; rw [hw]; clear hw w1)
         | (go_at_call_of 169 b; refine (hb2 _).mono ?_; rintro r w1 ⟨rfl, hw⟩; rw [hw]; clear hw w1)
         | (go_at_call_of 172 a; refine (hn1 _).mono ?_; rintro r w1 ⟨rfl, n3, rfl⟩)
         | (go_at_call_of 172 b; refine (hn2 _).mono ?_; rintro r w1 ⟨rfl, n4, rfl⟩)
         | (go_at_call_of 174 a; refine (hi1 _).mono ?_; rintro r w1 ⟨rfl, n5, rfl⟩)
         | (go_at_call_of 174 b; refine (hi2 _).mono ?_; rintro r w1 ⟨rfl, n6, rfl⟩)
         | (go_at_call_of 175 a; refine (v1 _).mono ?_; rintro r w1 ⟨rfl, rfl⟩)
         | (go_at_call_of 175 b; refine (v2 _).mono ?_; rintro r w1 ⟨rfl, rfl⟩)
         | (go_at_call_of 180 X; refine (hbX _).mono ?_; rintro r wa ⟨va, rfl, bva, La⟩; replace La : Below w.heap.size w wa := below_callY (drewNY w _) La)
         | (go_at_call_of 220 va; refine (hu1 va _ bva).mono ?_; rintro r wb ⟨ga, ca, rfl, za, ra, Lb⟩; replace Lb := below_callY La Lb; clear La bva)
         | (go_at_call_of 180 Y; refine (hbY _).mono ?_; rintro r wc ⟨vb, rfl, bvb, Lc⟩; replace ra := ra.below Lc za; replace za := Nat.lt_of_lt_of_le za Lc.size; replace Lc := below_callY Lb Lc; clear Lb)
         | (go_at_call_of 220 vb; refine (hu2 vb _ bvb).mono ?_; rintro r wd ⟨gb, cb, rfl, zb, rb, Ld⟩; replace ra := ra.below Ld za; replace za := Nat.lt_of_lt_of_le za Ld.size; replace Ld := below_callY Lc Ld; clear Lc bvb)
         | (go_at_call 222; refine (hcm ga ca gb cb _ ra rb).mono ?_; rintro r w1 ⟨rfl, kc, rfl⟩)
         | (go_at_call 223; refine (hm ga ca gb cb (wd.drewN kc) ra rb za zb).mono ?_; rintro r we ⟨vs, rfl, bvs, Le⟩; replace Le := below_callY (below_drewN Ld kc) Le)
         | (go_at_call 179; refine (R vs _ bvs).mono ?_; rintro r wf ⟨rfl, kk, rfl⟩))
           go_ret
           exact ⟨rfl, below_drewN Le _⟩)
  · have R := q4 c d
    have d0 : cmpR SA SB = -1 := by unfold cmpR; rw [if_pos (by omega)]
    simp only [d0] at hcm
    have hm := hm2 (by omega)
    clear q1 q2 q3 q4 hm1 hm2 hpl d0 hsg
    rcases hz with ⟨t, rfl, rfl, rfl⟩ | ⟨t, rfl, rfl, rfl⟩ <;> cases g1 <;> cases g2
    all_goals
      first
        | exact absurd rfl c
        | (clear c d
           go_enter Tryz.func138, Tryz.ntmps138
           go_wp2_with (first
         | (go_at_call_of 169 a; refine (hb1 _).mono ?_; rintro r w1 ⟨rfl, hw⟩; rw [hw]; clear hw w1)
         | (go_at_call_of 169 b; refine (hb2 _).mono ?_; rintro r w1 ⟨rfl, hw⟩; rw [hw]; clear hw w1)
         | (go_at_call_of 172 a; refine (hn1 _).mono ?_; rintro r w1 ⟨rfl, n3, rfl⟩)
         | (go_at_call_of 172 b; refine (hn2 _).mono ?_; rintro r w1 ⟨rfl, n4, rfl⟩)
         | (go_at_call_of 174 a; refine (hi1 _).mono ?_; rintro r w1 ⟨rfl, n5, rfl⟩)
         | (go_at_call_of 174 b; refine (hi2 _).mono ?_; rintro r w1 ⟨rfl, n6, rfl⟩)
         | (go_at_call_of 175 a; refine (v1 _).mono ?_; rintro r w1 ⟨rfl, rfl⟩)
         | (go_at_call_of 175 b; refine (v2 _).mono ?_; rintro r w1 ⟨rfl, rfl⟩)
         | (go_at_call_of 180 X; refine (hbX _).mono ?_; rintro r wa ⟨va, rfl, bva, La⟩; replace La : Below w.heap.size w wa := below_callY (drewNY w _) La)
         | (go_at_call_of 220 va; refine (hu1 va _ bva).mono ?_; rintro r wb ⟨ga, ca, rfl, za, ra, Lb⟩; replace Lb := below_callY La Lb; clear La bva)
         | (go_at_call_of 180 Y; refine (hbY _).mono ?_; rintro r wc ⟨vb, rfl, bvb, Lc⟩; replace ra := ra.below Lc za; replace za := Nat.lt_of_lt_of_le za Lc.size; replace Lc := below_callY Lb Lc; clear Lb)
         | (go_at_call_of 220 vb; refine (hu2 vb _ bvb).mono ?_; rintro r wd ⟨gb, cb, rfl, zb, rb, Ld⟩; replace ra := ra.below Ld za; replace za := Nat.lt_of_lt_of_le za Ld.size; replace Ld := below_callY Lc Ld; clear Lc bvb)
         | (go_at_call 222; refine (hcm ga ca gb cb _ ra rb).mono ?_; rintro r w1 ⟨rfl, kc, rfl⟩)
         | (go_at_call 223; refine (hm ga ca gb cb (wd.drewN kc) ra rb za zb).mono ?_; rintro r we ⟨vs, rfl, bvs, Le⟩; replace Le := below_callY (below_drewN Ld kc) Le)
         | (go_at_call 179; refine (R vs _ bvs).mono ?_; rintro r wf ⟨rfl, kk, rfl⟩))
           go_ret
           exact ⟨rfl, below_drewN Le _⟩)
set_option maxRecDepth 20000 in
set_option maxHeartbeats 6400000 in
theorem raddF_any (s : Bool) (m a b : Int) (h1 : Word a) (h2 : Word b) (w : World) :
    Calls Tryz.prog 138 #[.int .i64 (fb s), .int .i64 m, .int .u64 a, .int .u64 b] w fun r w' => r = .returned (.int .u64 (addF s m a b)) ∧ Below w.heap.size w w' := by
  have hb1 := rbelow_any s a
  have hb2 := rbelow_any s b
  have hn1 := risNan_any s a h1
  have hn2 := risNan_any s b h2
  have hi1 := risInf_any s a h1
  have hi2 := risInf_any s b h2
  have hnan := rnan_any s
  have hsg := rsign_any s (m == 2)
  have hrd := fun (below : Bool) (v : Value) (n A : Nat) => rounded_any s m below v n A
  have hv1 := fun h => rvalue_any s a h1 (wide_notY h)
  have hv2 := fun h => rvalue_any s b h2 (wide_notY h)
  have f1 := fin_of s a h1
  have f2 := fin_of s b h2
  have K1 := kinds3Y (cls s a)
  have K2 := kinds3Y (cls s b)
  have S0 : (if (m == 2) = true then fS s else 0) = sgnd s (m == 2) 0 := by unfold sgnd; split <;> simp
  rw [S0] at hsg
  clear S0
  unfold addF
  generalize hN1 : (cls s a == 0 || cls s a == 5) = N1 at *
  generalize hN2 : (cls s b == 0 || cls s b == 5) = N2 at *
  generalize hI1 : (cls s a == 4) = I1 at *
  generalize hI2 : (cls s b == 4) = I2 at *
  clear hN1 hN2 hI1 hI2
  generalize hfb : fb s = f at *
  generalize sgn s a = g1 at *
  generalize sgn s b = g2 at *
  generalize fNan s = Q at *
  rcases K1 with ⟨rfl, rfl⟩ | ⟨rfl, rfl⟩ | ⟨rfl, rfl⟩ <;> rcases K2 with ⟨rfl, rfl⟩ | ⟨rfl, rfl⟩ | ⟨rfl, rfl⟩
  case inr.inr.inr.inr =>
    have F1 := fin_wordY (f1 rfl rfl).1
    have F2 := fin_wordY (f2 rfl rfl).1
    have v1 := hv1 rfl
    have v2 := hv2 rfl
    clear hv1 hv2 f1 f2 hnan
    simp only [Bool.or_self, Bool.and_self, Bool.false_and, Bool.false_eq_true, if_false]
    generalize whl s a = u1 at *
    generalize whl s b = u2 at *
    generalize pwr s a = p1 at *
    generalize pwr s b = p2 at *
    obtain ⟨a1, a2, a3, a4⟩ := F1
    obtain ⟨d1, d2, d3, d4⟩ := F2
    obtain ⟨X, rfl⟩ := Int.eq_ofNat_of_zero_le a1.1
    obtain ⟨Y, rfl⟩ := Int.eq_ofNat_of_zero_le d1.1
    rw [Int.toNat_natCast, Int.toNat_natCast]
    have lX : blen X ≤ 53 := blen_le_of (by omega : X < 2 ^ 53)
    have lY : blen Y ≤ 53 := blen_le_of (by omega : Y < 2 ^ 53)
    have hX := lt_blen X
    have hY := lt_blen Y
    have hbX : ∀ w : World, Calls Tryz.prog 180 #[.int .u64 (X : Int)] w fun e w' => ∃ v, e = .returned v ∧ BitV w' v (blen X) X ∧ Below w.heap.size w w' := fun w => (rbits_any X (by omega) w).mono fun e w' ⟨v, h1, h2, h3⟩ => ⟨v, h1, own_bits h2 hX, h3⟩
    have hbY : ∀ w : World, Calls Tryz.prog 180 #[.int .u64 (Y : Int)] w fun e w' => ∃ v, e = .returned v ∧ BitV w' v (blen Y) Y ∧ Below w.heap.size w w' := fun w => (rbits_any Y (by omega) w).mono fun e w' ⟨v, h1, h2, h3⟩ => ⟨v, h1, own_bits h2 hY, h3⟩
    have main : ∀ z1 z2 e : Int, 0 ≤ z1 → z1 ≤ 5000 → 0 ≤ z2 → z2 ≤ 5000 → -2000 ≤ e → e ≤ 2000 → (p2 < p1 ∧ z1 = p1 - p2 ∧ z2 = 0 ∧ e = p2 ∨ ¬ p2 < p1 ∧ z1 = 0 ∧ z2 = p2 - p1 ∧ e = p1) →
        Calls Tryz.prog 138 #[.int .i64 f, .int .i64 m, .int .u64 a, .int .u64 b] w fun r w' => r = .returned (.int .u64 (if g1 = g2 then rnd s m g1 (X * 2 ^ z1.toNat + Y * 2 ^ z2.toNat) e
          else if X * 2 ^ z1.toNat = Y * 2 ^ z2.toNat then sgnd s (m == 2) 0
          else if Y * 2 ^ z2.toNat < X * 2 ^ z1.toNat then rnd s m g1 (X * 2 ^ z1.toNat - Y * 2 ^ z2.toNat) e
          else rnd s m g2 (Y * 2 ^ z2.toNat - X * 2 ^ z1.toNat) e)) ∧ Below w.heap.size w w' := by
      intro z1 z2 e r1 r2 r3 r4 r5 r6 hz
      refine radd_core f m a b g1 g2 X Y p1 p2 z1 z2 e (sgnd s (m == 2) 0) (blen X) (blen Y) (z1.toNat + blen X) (z2.toNat + blen Y) (X * 2 ^ z1.toNat) (Y * 2 ^ z2.toNat) _ a3 a4 d3 d4 hz hX hY ?_ ?_ (by omega) (by omega) hb1 hb2 hn1 hn2 hi1 hi2 v1 v2 hbX hbY ?_ ?_ hsg ?_ ?_ ?_ ?_ w
      · rw [Nat.add_comm, Nat.pow_add]; exact Nat.mul_lt_mul_of_pos_right hX (Nat.two_pow_pos _)
      · rw [Nat.add_comm, Nat.pow_add]; exact Nat.mul_lt_mul_of_pos_right hY (Nat.two_pow_pos _)
      · exact fun v w h => rup_int v _ _ z1 (by omega) r1 r2 w h
      · exact fun v w h => rup_int v _ _ z2 (by omega) r3 r4 w h
      · intro c v n w hn h
        rw [if_pos c]
        exact hrd g1 v n _ (by omega) e (by omega) (by omega) w h
      · intro c d
        rw [if_neg c, if_pos d]
      · intro c d v w h
        rw [if_neg c, if_neg (by omega), if_pos d]
        exact hrd g1 v _ _ (by omega) e (by omega) (by omega) w h
      · intro c d v w h
        rw [if_neg c, if_neg (by omega), if_neg (by omega)]
        exact hrd g2 v _ _ (by omega) e (by omega) (by omega) w h
    unfold sumT
    by_cases t : p2 < p1
    · rw [show min p1 p2 = p2 by omega, Int.sub_self]
      exact main (p1 - p2) 0 p2 (by omega) (by omega) (by omega) (by omega) (by omega) (by omega) (Or.inl ⟨t, rfl, rfl, rfl⟩)
    · rw [show min p1 p2 = p1 by omega, Int.sub_self]
      exact main 0 (p2 - p1) p1 (by omega) (by omega) (by omega) (by omega) (by omega) (by omega) (Or.inr ⟨t, rfl, rfl, rfl⟩)
  all_goals
    clear hrd hv1 hv2 f1 f2 hsg
    cases g1 <;> cases g2
  all_goals
    go_enter Tryz.func138, Tryz.ntmps138
    go_wp2_with (first
         | (go_at_call_of 169 a; refine (hb1 _).mono ?_; rintro r w1 ⟨rfl, hw⟩; rw [hw]; clear hw w1)
         | (go_at_call_of 169 b; refine (hb2 _).mono ?_; rintro r w1 ⟨rfl, hw⟩; rw [hw]; clear hw w1)
         | (go_at_call_of 172 a; refine (hn1 _).mono ?_; rintro r w1 ⟨rfl, n3, rfl⟩)
         | (go_at_call_of 172 b; refine (hn2 _).mono ?_; rintro r w1 ⟨rfl, n4, rfl⟩)
         | (go_at_call_of 174 a; refine (hi1 _).mono ?_; rintro r w1 ⟨rfl, n5, rfl⟩)
         | (go_at_call_of 174 b; refine (hi2 _).mono ?_; rintro r w1 ⟨rfl, n6, rfl⟩)
         | (go_at_call 135; refine (hnan _).mono ?_; rintro r w1 ⟨rfl, rfl⟩))
    go_ret
    exact ⟨rfl, drewNY w _⟩
end Go.Proofs.YthjoigkckgdcaaaGreat
namespace Go.Proofs.YthjoigkckgdcaaaGreat
open Go.RowKit
set_option linter.unusedVariables false
set_option linter.unusedSimpArgs false
theorem rsubF_any (s : Bool) (m a b : Int) (h1 : Word a) (h2 : Word b) (w : World) :
    Calls Tryz.prog 139 #[.int .i64 (fb s), .int .i64 m, .int .u64 a, .int .u64 b] w fun r w' => r = .returned (.int .u64 (subF s m a b)) ∧ Below w.heap.size w w' := by
  have hn := rneg_any s b h2
  have ha := raddF_any s m a (negF s b) h1 (negF_word _ b h2)
  unfold subF
  generalize addF s m a (negF s b) = V at *
  generalize negF s b = N at *
  generalize fb s = f at *
  go_enter Tryz.func139, Tryz.ntmps139
  go_wp2_with fail
  refine (hn _).mono ?_
  rintro r w1 ⟨rfl, k, rfl⟩
  go_wp2_with fail
  refine (ha _).mono ?_
  rintro r w2 ⟨rfl, hb2⟩
  go_wp2_with fail
  go_ret
  exact ⟨rfl, below_callY (drewNY w k) hb2⟩
end Go.Proofs.YthjoigkckgdcaaaGreat
namespace Go.Proofs.YthjoigkckgdcaaaGreat
open Go.RowKit
set_option linter.unusedVariables false
set_option linter.unusedSimpArgs false
set_option maxHeartbeats 1600000 in
theorem rplain3_any (s : Bool) (a : Int) (h : Word a) (w : World) : Calls Tryz.prog 68 #[.int .i64 (fb s), .int .u64 a] w fun e w' => e = .returned (.int .u64 (plainF s a)) ∧ ∃ n, w' = w.drewN n := by
  have hcl := rclass_any s a h
  have hnan := rnan_any s
  have K := kindsP (cls s a)
  unfold plainF
  generalize hN : (cls s a == 0 || cls s a == 5) = N1 at *
  generalize hI : (cls s a == 1) = I1 at *
  generalize cls s a = k at *
  generalize fNan s = Q at *
  generalize fb s = f at *
  clear hN hI
  rcases K with ⟨rfl, rfl, rfl⟩ | ⟨rfl, rfl, rfl⟩ | ⟨rfl, rfl, rfl⟩ | ⟨rfl, rfl, k0, k5, k1⟩
  · go_enter Tryz.func68, Tryz.ntmps68
    go_wp2_with (first
      | (go_at_call 134; refine (hcl _).mono ?_; rintro e w1 ⟨rfl, n1, rfl⟩)
      | (go_at_call 135; refine (hnan _).mono ?_; rintro e w1 ⟨rfl, rfl⟩)
      | fail)
    go_ret
    exact ⟨rfl, n1 + 1, rfl⟩
  · go_enter Tryz.func68, Tryz.ntmps68
    go_wp2_with (first
      | (go_at_call 134; refine (hcl _).mono ?_; rintro e w1 ⟨rfl, n1, rfl⟩)
      | (go_at_call 135; refine (hnan _).mono ?_; rintro e w1 ⟨rfl, rfl⟩)
      | fail)
    go_ret
    exact ⟨rfl, n1 + 1, rfl⟩
  · go_enter Tryz.func68, Tryz.ntmps68
    go_wp2_with (first
      | (go_at_call 134; refine (hcl _).mono ?_; rintro e w1 ⟨rfl, n1, rfl⟩)
      | fail)
    go_ret
    exact ⟨rfl, n1, rfl⟩
  · go_enter Tryz.func68, Tryz.ntmps68
    go_wp2_with (first
      | (go_at_call 134; refine (hcl _).mono ?_; rintro e w1 ⟨rfl, n1, rfl⟩)
      | fail)
    go_ret
    exact ⟨rfl, n1, rfl⟩
end Go.Proofs.YthjoigkckgdcaaaGreat


