/- Texts of the proof, put together. -/
import Derived.Test.YtgdknlnpfnifiaaGreatTMB3
import Derived.Deep.OwnRows
import Derived.Deep.QuietTactic
import Derived.BigQuiet
import Derived.Deep.CutRange
import Derived.WalkKit
import Derived.Laws.AppendOwnNone
namespace Go.Proofs.YtgdknlnpfnifiaaGreat
open Go.RowKit
set_option linter.unusedVariables false
set_option linter.unusedSimpArgs false
def refSize (s : Bool) (m : Int) (below : Bool) (last : Int) (q1 : Nat) : Int :=
  if (if (if q1 = 2 ^ (fP s + 1) then q1 / 2 else q1) < 2 ^ fP s then 0 else (if q1 = 2 ^ (fP s + 1) then last + 1 else last) - fL s + 1) ≥ 2 ^ (fE s).toNat - 1 then
    (if m = 3 ∨ m = 1 ∧ below = true ∨ m = 2 ∧ below = false then fI s - 1 else fI s)
  else (if (if q1 = 2 ^ (fP s + 1) then q1 / 2 else q1) < 2 ^ fP s then 0 else (if q1 = 2 ^ (fP s + 1) then last + 1 else last) - fL s + 1) * 2 ^ fP s + (((if q1 = 2 ^ (fP s + 1) then q1 / 2 else q1) % 2 ^ fP s : Nat) : Int)
theorem great_ref (s : Bool) (m : Int) (b : Bool) : great s m b = if m = 3 ∨ m = 1 ∧ b = true ∨ m = 2 ∧ b = false then fI s - 1 else fI s := by
  unfold great away
  by_cases c1 : m = 1
  · subst c1; cases b <;> rfl
  · by_cases c2 : m = 2
    · subst c2; cases b <;> rfl
    · by_cases c3 : m = 3
      · subst c3; cases b <;> rfl
      · simp [c1, c2, c3]
theorem fI_eq (s : Bool) : fI s = (2 ^ (fE s).toNat - 1) * 2 ^ fP s := by cases s <;> rfl
theorem fE_ge (s : Bool) : (2 : Int) ≤ 2 ^ (fE s).toNat - 1 := by cases s <;> decide
theorem ref_fin (s : Bool) (m : Int) (below : Bool) (last : Int) (q : Nat) (h l : Bool) (h1 : q < 2 ^ (fP s + 1)) (h2 : last = fL s ∨ 2 ^ fP s ≤ q) (h3 : fL s ≤ last) :
    refSize s m below last (q + if away m below (q % 2 == 1) h l then 1 else 0) = fin s m below last q h l := by
  unfold refSize fin
  rw [← great_ref, fI_eq]
  have e2 := fE_ge s
  have g1 : q ≤ (q + if away m below (q % 2 == 1) h l then 1 else 0) := Nat.le_add_right _ _
  have g2 : (q + if away m below (q % 2 == 1) h l then 1 else 0) ≤ q + 1 := by split <;> omega
  generalize (q + if away m below (q % 2 == 1) h l then 1 else 0) = Y at *
  generalize (2 : Int) ^ (fE s).toNat - 1 = X at *
  have pp := Nat.two_pow_pos (fP s)
  rw [Nat.pow_succ] at *
  rw [pow_cast]
  generalize 2 ^ fP s = P at *
  obtain ⟨d, hd⟩ : ∃ d : Nat, last - fL s = d := ⟨(last - fL s).toNat, by omega⟩
  obtain ⟨x, hx⟩ : ∃ x : Nat, X = x := ⟨X.toNat, by omega⟩
  rw [hd, hx]
  by_cases c : Y = P * 2
  · have y2 : Y / 2 = P := by omega
    have np : ¬ P < P := by omega
    rw [if_pos c, if_pos c, y2]
    simp only [if_neg np]
    rw [Nat.mod_self, show last + 1 - fL s + 1 = ((d + 2 : Nat) : Int) by omega]
    have t : ((d + 2 : Nat) : Int) * (P : Int) = (d : Int) * P + (Y : Int) := by
      have k : (d + 2) * P = d * P + P * 2 := by rw [Nat.add_mul, Nat.mul_comm 2]
      rw [c, ← Int.natCast_mul, ← Int.natCast_mul, k, Int.natCast_add]
    by_cases g : ((x : Int)) ≤ ((d + 2 : Nat) : Int)
    · rw [if_pos g, if_pos (by rw [← t]; exact Int.mul_le_mul_of_nonneg_right g (by omega))]
    · rw [if_neg g, if_neg (by rw [← t]; intro k; exact g (Int.le_of_mul_le_mul_right k (by omega)))]
      rw [← t]; simp
  · rw [if_neg c, if_neg c]
    by_cases z : Y < P
    · have dz : d = 0 := by
        rcases h2 with k | k
        · omega
        · omega
      rw [if_pos z, if_neg (by omega), Nat.mod_eq_of_lt z, dz]
      have : ¬ ((x : Int) * (P : Int) ≤ ((0 : Nat) : Int) * (P : Int) + (Y : Int)) := by
        have k : (2 : Int) * P ≤ (x : Int) * P := Int.mul_le_mul_of_nonneg_right (by omega) (by omega)
        simp
        omega
      rw [if_neg this]
      simp
    · have m1 : Y % P = Y - P := by
        rw [Nat.mod_eq_sub_mod (by omega), Nat.mod_eq_of_lt (by omega)]
      rw [if_neg z, m1, show last - fL s + 1 = ((d + 1 : Nat) : Int) by omega]
      have t : ((d + 1 : Nat) : Int) * (P : Int) + ((Y - P : Nat) : Int) = (d : Int) * P + (Y : Int) := by
        rw [← Int.natCast_mul, ← Int.natCast_mul]
        have : (d + 1) * P = d * P + P := by rw [Nat.add_mul, Nat.one_mul]
        omega
      by_cases g : ((x : Int)) ≤ ((d + 1 : Nat) : Int)
      · have k : (x : Int) * P ≤ ((d + 1 : Nat) : Int) * P := Int.mul_le_mul_of_nonneg_right g (by omega)
        rw [if_pos g, if_pos (by omega)]
      · have k : ((d + 1 : Nat) : Int) * P + P ≤ (x : Int) * P := by
          have k' : (((d + 1 : Nat) : Int) + 1) * P ≤ (x : Int) * P := Int.mul_le_mul_of_nonneg_right (by omega) (by omega)
          rw [Int.add_mul, Int.one_mul] at k'
          exact k'
        rw [if_neg g, if_neg (by omega)]
        exact t
/-! ### What is kept, bit by bit from the top -/
def qTo (A : Nat) (k : Int) (j : Nat) : Nat := if (j : Int) ≤ k then A / 2 ^ k.toNat else A / 2 ^ j * 2 ^ ((j : Int) - k).toNat
theorem qTo_top {A n : Nat} (k : Int) (h : A < 2 ^ n) : qTo A k n = 0 := by
  unfold qTo
  split
  · exact Nat.div_eq_of_lt (Nat.lt_of_lt_of_le h (Nat.pow_le_pow_right (by decide) (by omega)))
  · rw [Nat.div_eq_of_lt h, Nat.zero_mul]
theorem qTo_end (A : Nat) (k : Int) : qTo A k 0 = quo A k := by
  unfold qTo quo
  by_cases c : 0 < k
  · rw [if_pos (by omega), if_neg (by omega)]
  · by_cases d : k = 0
    · subst d
      rw [if_pos (by decide), if_pos (by decide)]
      simp
    · rw [if_neg (by omega), if_pos (by omega), Nat.pow_zero, Nat.div_one]
      congr 2
      omega
theorem qTo_no (A : Nat) (k : Int) (i : Nat) (h : (i : Int) < k) : qTo A k i = qTo A k (i + 1) := by
  unfold qTo
  rw [if_pos (by omega), if_pos (by omega)]
theorem qTo_yes (A : Nat) (k : Int) (i : Nat) (h : k ≤ (i : Int)) : qTo A k i = qTo A k (i + 1) + (A.testBit i).toNat * 2 ^ ((i : Int) - k).toNat ∧ qTo A k (i + 1) % 2 ^ (((i : Int) - k).toNat + 1) = 0 := by
  have e : qTo A k i = A / 2 ^ i * 2 ^ ((i : Int) - k).toNat := by
    unfold qTo
    by_cases c : (i : Int) ≤ k
    · have : k.toNat = i := by omega
      rw [if_pos c, this, show ((i : Int) - k).toNat = 0 by omega, Nat.pow_zero, Nat.mul_one]
    · rw [if_neg c]
  have e' : qTo A k (i + 1) = A / 2 ^ (i + 1) * 2 ^ (((i : Int) - k).toNat + 1) := by
    unfold qTo
    rw [if_neg (by omega)]
    congr 2
    omega
  refine ⟨?_, by rw [e', Nat.mul_mod_left]⟩
  rw [e, e', Nat.pow_succ, Nat.pow_succ, ← Nat.div_div_eq_div_mul, Nat.testBit_eq_decide_div_mod_eq]
  generalize A / 2 ^ i = B
  generalize 2 ^ ((i : Int) - k).toNat = T
  have m : B = 2 * (B / 2) + B % 2 := by omega
  have t : (decide (B % 2 = 1)).toNat = B % 2 := by
    have : B % 2 = 0 ∨ B % 2 = 1 := by omega
    rcases this with c | c <;> rw [c] <;> rfl
  rw [t]
  conv => lhs; rw [m, Nat.add_mul]
  congr 1
  rw [Nat.mul_comm 2, Nat.mul_assoc, Nat.mul_comm 2]
theorem qTo_le (A : Nat) (k : Int) (i : Nat) : qTo A k (i + 1) ≤ qTo A k i := by
  by_cases c : k ≤ (i : Int)
  · rw [(qTo_yes A k i c).1]; exact Nat.le_add_right _ _
  · rw [qTo_no A k i (by omega)]; exact Nat.le_refl _
theorem qTo_quo (A : Nat) (k : Int) (i : Nat) : qTo A k i ≤ quo A k := by
  induction i with
  | zero => rw [qTo_end]; exact Nat.le_refl _
  | succ i ih => exact Nat.le_trans (qTo_le A k i) ih
theorem or_pow (q t : Nat) (h : q % 2 ^ (t + 1) = 0) : q ||| 2 ^ t = q + 2 ^ t := by
  obtain ⟨b, rfl⟩ : ∃ b, q = 2 ^ (t + 1) * b := ⟨q / 2 ^ (t + 1), by have := Nat.div_add_mod q (2 ^ (t + 1)); omega⟩
  exact (Nat.two_pow_add_eq_or_of_lt (i := t + 1) (b := 2 ^ t) (Nat.pow_lt_pow_right (by decide) (by omega)) b).symm
end Go.Proofs.YtgdknlnpfnifiaaGreat
namespace Go.Proofs.YtgdknlnpfnifiaaGreat
open Go.RowKit
set_option linter.unusedVariables false
set_option linter.unusedSimpArgs false
theorem half_bit (n : Nat) (k : Int) : half n k = (decide (1 ≤ k) && n.testBit (k.toNat - 1)) := by
  unfold half
  rw [Nat.testBit_eq_decide_div_mod_eq]
  congr 1
theorem mod_no {A i : Nat} (h : A.testBit i = false) : A % 2 ^ (i + 1) = A % 2 ^ i := by
  rw [Nat.mod_pow_succ]
  rw [Nat.testBit_eq_decide_div_mod_eq, decide_eq_false_iff_not] at h
  have : A / 2 ^ i % 2 = 0 := by omega
  rw [this, Nat.mul_zero, Nat.add_zero]
theorem mod_yes {A i : Nat} (h : A.testBit i = true) : A % 2 ^ (i + 1) = A % 2 ^ i + 2 ^ i := by
  rw [Nat.mod_pow_succ]
  rw [Nat.testBit_eq_decide_div_mod_eq, decide_eq_true_iff] at h
  rw [h, Nat.mul_one]
theorem half_other {A i : Nat} {k : Int} (h : ¬ (i : Int) = k - 1) : half (A % 2 ^ (i + 1)) k = half (A % 2 ^ i) k := by
  rw [half_bit, half_bit, Nat.testBit_mod_two_pow, Nat.testBit_mod_two_pow]
  by_cases c : 1 ≤ k
  · have : decide (k.toNat - 1 < i + 1) = decide (k.toNat - 1 < i) := by rw [decide_eq_decide]; omega
    rw [this]
  · rw [decide_eq_false c, Bool.false_and, Bool.false_and]
theorem half_at {A i : Nat} {k : Int} (hb : A.testBit i = true) (h : (i : Int) = k - 1) : half (A % 2 ^ (i + 1)) k = true := by
  rw [half_bit, Nat.testBit_mod_two_pow]
  have e : k.toNat - 1 = i := by omega
  rw [e, hb, decide_eq_true (by omega : 1 ≤ k), decide_eq_true (by omega : i < i + 1)]
  rfl
theorem low_other {A i : Nat} {k : Int} (h : ¬ (i : Int) < k - 1) : low (A % 2 ^ (i + 1)) k = low (A % 2 ^ i) k := by
  unfold low
  by_cases c : 1 ≤ k
  · have d1 : 2 ^ (k.toNat - 1) ∣ 2 ^ i := Nat.pow_dvd_pow 2 (by omega)
    have d2 : 2 ^ (k.toNat - 1) ∣ 2 ^ (i + 1) := Nat.pow_dvd_pow 2 (by omega)
    rw [Nat.mod_mod_of_dvd _ d1, Nat.mod_mod_of_dvd _ d2]
  · rw [decide_eq_false c, Bool.false_and, Bool.false_and]
theorem low_at {A i : Nat} {k : Int} (hb : A.testBit i = true) (h : (i : Int) < k - 1) : low (A % 2 ^ (i + 1)) k = true := by
  unfold low
  have l : A % 2 ^ (i + 1) < 2 ^ (k.toNat - 1) := Nat.lt_of_lt_of_le (Nat.mod_lt _ (Nat.two_pow_pos _)) (Nat.pow_le_pow_right (by decide) (by omega))
  rw [Nat.mod_eq_of_lt l, mod_yes hb, decide_eq_true (by omega : 1 ≤ k)]
  have := Nat.two_pow_pos i
  simp
theorem hl_no {A i : Nat} {k : Int} (hb : A.testBit i = false) : half (A % 2 ^ (i + 1)) k = half (A % 2 ^ i) k ∧ low (A % 2 ^ (i + 1)) k = low (A % 2 ^ i) k := by
  rw [mod_no hb]; exact ⟨rfl, rfl⟩
theorem hl_eq {A i : Nat} {k : Int} (hb : A.testBit i = true) (h : (i : Int) = k - 1) : half (A % 2 ^ (i + 1)) k = true ∧ low (A % 2 ^ (i + 1)) k = low (A % 2 ^ i) k := ⟨half_at hb h, low_other (by omega)⟩
theorem hl_lt {A i : Nat} {k : Int} (hb : A.testBit i = true) (h : (i : Int) < k - 1) : half (A % 2 ^ (i + 1)) k = half (A % 2 ^ i) k ∧ low (A % 2 ^ (i + 1)) k = true := ⟨half_other (by omega), low_at hb h⟩
theorem hl_gt {A i : Nat} {k : Int} (h : k - 1 < (i : Int)) : half (A % 2 ^ (i + 1)) k = half (A % 2 ^ i) k ∧ low (A % 2 ^ (i + 1)) k = low (A % 2 ^ i) k := ⟨half_other (by omega), low_other (by omega)⟩
theorem hl_zero (A : Nat) (k : Int) : half (A % 2 ^ 0) k = false ∧ low (A % 2 ^ 0) k = false := by
  rw [Nat.pow_zero, Nat.mod_one, half_bit]
  unfold low
  simp
theorem q_yes {A i : Nat} {k : Int} {t : Nat} (h : (i : Int) - k = (t : Int)) (ht : t < 64) (hq : quo A k < 2 ^ 63) (hb : A.testBit i = true) :
    bits BinOp.or IntKind.u64 ((qTo A k (i + 1) : Nat) : Int) (2 ^ t) = ((qTo A k i : Nat) : Int) := by
  obtain ⟨e1, e2⟩ := qTo_yes A k i (by omega)
  have tt : ((i : Int) - k).toNat = t := by omega
  rw [tt] at e1 e2
  have l := qTo_quo A k (i + 1)
  have p : 2 ^ t < 2 ^ 64 := Nat.pow_lt_pow_right (by decide) ht
  rw [pow_cast, u64_or_nat _ _ (by omega) (by omega), or_pow _ _ e2, e1, hb]
  simp
theorem q_no {A i : Nat} {k : Int} {t : Nat} (h : (i : Int) - k = (t : Int)) (ht : t < 64) (hq : quo A k < 2 ^ 63) (hb : A.testBit i = false) :
    bits BinOp.andNot IntKind.u64 (bits BinOp.or IntKind.u64 ((qTo A k (i + 1) : Nat) : Int) (2 ^ t)) (2 ^ t) = ((qTo A k i : Nat) : Int) := by
  obtain ⟨e1, e2⟩ := qTo_yes A k i (by omega)
  have tt : ((i : Int) - k).toNat = t := by omega
  rw [tt] at e1 e2
  have l := qTo_quo A k (i + 1)
  have p : 2 ^ t < 2 ^ 64 := Nat.pow_lt_pow_right (by decide) ht
  have o : qTo A k (i + 1) ||| 2 ^ t < 2 ^ 64 := Nat.or_lt_two_pow (by omega) p
  rw [pow_cast, u64_or_nat _ _ (by omega) (by omega), u64_andNot_nat _ _ (by omega) (by omega), e1, hb]
  congr 1
  simp only [Bool.toNat_false, Nat.zero_mul, Nat.add_zero]
  rw [show 18446744073709551615 - 2 ^ t = 2 ^ 64 - (2 ^ t + 1) by omega]
  have q0 : (qTo A k (i + 1)).testBit t = false := by
    have := Nat.testBit_mod_two_pow (qTo A k (i + 1)) (t + 1) t
    rw [e2, Nat.zero_testBit] at this
    simpa using this.symm
  apply Nat.eq_of_testBit_eq
  intro j
  rw [Nat.testBit_and, Nat.testBit_or, Nat.testBit_two_pow, Nat.testBit_two_pow_sub_succ p, Nat.testBit_two_pow]
  by_cases c : t = j
  · subst c; simp [q0]
  · by_cases c2 : j < 64
    · simp [c, c2]
    · have : (qTo A k (i + 1)).testBit j = false := Nat.testBit_lt_two_pow (Nat.lt_of_lt_of_le (by omega : qTo A k (i + 1) < 2 ^ 63) (Nat.pow_le_pow_right (by decide) (by omega)))
      simp [c, c2, this]
end Go.Proofs.YtgdknlnpfnifiaaGreat
namespace Go.Proofs.YtgdknlnpfnifiaaGreat
open Go.RowKit
set_option linter.unusedVariables false

def RowB (w : World) (b n : Nat) (f : Nat → Bool) : Prop := ∀ i, i < n → w.cell? ⟨b, i, none⟩ = some (.bool (f i))
def RowF (w : World) (b n : Nat) : Prop := ∀ i, i < n → w.frozen? ⟨b, i, none⟩ = false
theorem RowB.below {W w1 : World} {b n : Nat} {f : Nat → Bool} (h : RowB W b n f) (hb : Below W.heap.size W w1) (hs : b < W.heap.size) : RowB w1 b n f := fun i hi => by
  rw [(bcell hb).1 _ _ hs]; exact h i hi
theorem RowF.below {W w1 : World} {b n : Nat} (h : RowF W b n) (hb : Below W.heap.size W w1) (hs : b < W.heap.size) : RowF w1 b n := fun i hi => by
  rw [(bcell hb).2 _ _ hs]; exact h i hi
theorem RowF.set {W : World} {b n : Nat} (h : RowF W b n) (a : Addr) (v : Value) : RowF (W.setCell a v) b n := fun i hi => by
  simpa [go_sem] using h i hi
theorem RowB.set {W : World} {b n : Nat} {f : Nat → Bool} (h : RowB W b n f) (k : Nat) (v : Bool) (hk : k < n) : RowB (W.setCell ⟨b, k, none⟩ (.bool v)) b n (fun i => if i = k then v else f i) := fun i hi => by
  by_cases e : i = k
  · subst e
    simp [go_sem, h i hi]
  · rw [World.cell?_setCell_other _ _ _ _ (by first | (simp; done) | (simp; omega)), h i hi]
    simp [e]
theorem RowB.far {W : World} {b n : Nat} {f : Nat → Bool} (h : RowB W b n f) (a : Addr) (v : Value) (hk : a.block ≠ b) : RowB (W.setCell a v) b n f := fun i hi => by
  rw [World.cell?_setCell_far _ _ _ _ (by simpa using hk)]; exact h i hi
theorem RowB.drew {W : World} {b n : Nat} {f : Nat → Bool} (h : RowB W b n f) : RowB W.drew b n f := h
theorem RowF.drew {W : World} {b n : Nat} (h : RowF W b n) : RowF W.drew b n := h
def N (h l : Int) : Nat := (num h l).toNat
end Go.Proofs.YtgdknlnpfnifiaaGreat
namespace Go.Proofs.YtgdknlnpfnifiaaGreat
open Go.RowKit
set_option linter.unusedVariables false
set_option linter.unusedSimpArgs false
theorem top_bit {A k : Nat} (h : A < 2 ^ (k + 1)) (hb : A.testBit k = true) : blen A = k + 1 := by
  rw [Nat.testBit_eq_decide_div_mod_eq, decide_eq_true_iff] at hb
  refine blen_uniq (by omega) ?_ h
  rw [Nat.add_sub_cancel]
  by_cases c : 2 ^ k ≤ A
  · exact c
  · rw [Nat.div_eq_of_lt (by omega)] at hb; omega
theorem no_bit {A k : Nat} (h : A < 2 ^ (k + 1)) (hb : A.testBit k = false) : A < 2 ^ k := by
  rw [Nat.testBit_eq_decide_div_mod_eq, decide_eq_false_iff_not] at hb
  by_cases c : 2 ^ k ≤ A
  · have p := Nat.two_pow_pos k
    rw [Nat.pow_succ] at h
    have : A / 2 ^ k = 1 := Nat.div_eq_of_lt_le (by omega) (by omega)
    rw [this] at hb; omega
  · omega
set_option maxHeartbeats 800000 in
theorem length_any (b n cap A : Nat) (hA : A < 2 ^ n) (hn : n ≤ 1000000) (w : World) (row : RowB w b n (fun i => A.testBit i)) :
    Calls Tryz.prog 176 #[.slice (some ⟨b, 0, none⟩) n cap] w fun e w' => e = .returned (.int .i64 (blen A : Int)) ∧ w' = w := by
  have HA : Hid _ := hA
  clear hA
  go_enter Tryz.func176, Tryz.ntmps176
  go_wp2
  go_loopw [3] (fun i wr => ∃ k : Nat, k ≤ n ∧ i = .int .i64 k ∧ Hid (A < 2 ^ k) ∧ wr = w) (fun i _ => (intOf i).toNat)
  case atStart => exact ⟨n, Nat.le_refl _, rfl, HA, rfl⟩
  case round =>
    obtain ⟨k, hk, rfl, E1, rfl⟩ := hrel
    rcases Nat.eq_zero_or_pos k with rfl | kp
    · have z : blen A = 0 := by
        have := E1.out
        simp at this
        subst this
        exact blen_zero
      have Z : Hid _ := z
      clear z
      go_wp2
      go_ret
      exact ⟨i64_eq (by rw [Z.out]), rfl⟩
    · obtain ⟨j, rfl⟩ : ∃ j, k = j + 1 := ⟨k - 1, by omega⟩
      have cj : wr.cell? ⟨b, j, none⟩ = some (.bool (A.testBit j)) := row j (by omega)
      have e1 : ((j + 1 : Nat) : Int) - 1 = (j : Int) := by omega
      have e2 : (0 : Int) < ((j + 1 : Nat) : Int) := by omega
      cases t : A.testBit j
      · rw [t] at cj
        have E2 : Hid _ := no_bit E1.out t
        clear t row
        go_wp2
        go_roundw
        case rel => exact ⟨j, by omega, by go_num, E2, by first | rfl | trivial⟩
        case measure => first | (simp [intOf]; done) | (simp [intOf]; omega)
      · rw [t] at cj
        have Z : Hid _ := top_bit E1.out t
        clear t row
        go_wp2
        go_ret
        exact ⟨i64_eq (by rw [Z.out]), rfl⟩
end Go.Proofs.YtgdknlnpfnifiaaGreat
namespace Go.Proofs.YtgdknlnpfnifiaaGreat
open Go.RowKit
set_option linter.unusedVariables false
set_option linter.unusedSimpArgs false
theorem or_top (x i : Nat) (h : x < 2 ^ i) (hi : i < 64) : bits BinOp.or IntKind.u64 ((2 ^ i : Nat) : Int) (x : Int) = ((2 ^ i + x : Nat) : Int) := by
  have p : 2 ^ i < 2 ^ 64 := Nat.pow_lt_pow_right (by decide) hi
  rw [u64_or_nat _ _ (by omega) (by omega)]
  have := Nat.two_pow_add_eq_or_of_lt h 1
  rw [Nat.mul_one] at this
  rw [← this]
theorem or_none (x : Nat) (h : x < 2 ^ 64) : bits BinOp.or IntKind.u64 0 (x : Int) = (x : Int) := by
  have t := u64_or_nat 0 x (by decide) (by omega)
  rw [Nat.zero_or] at t
  exact t
theorem or_lowN (x m i : Nat) (hm : m < 2 ^ i) (h : x * 2 ^ i + m < 2 ^ 64) : bits BinOp.or IntKind.u64 ((x * 2 ^ i : Nat) : Int) (m : Int) = ((x * 2 ^ i + m : Nat) : Int) := by
  rw [u64_or_nat _ _ (by omega) (by omega), Nat.mul_comm x, Nat.two_pow_add_eq_or_of_lt hm x]
theorem or_sign (s b : Bool) (x : Nat) (h : (x : Int) < fS s) : bits BinOp.or IntKind.u64 (if b then fS s else 0) (x : Int) = sgnd s b (x : Int) := by
  have e1 : fS false = ((2 ^ 63 : Nat) : Int) := by decide
  have e2 : fS true = ((2 ^ 31 : Nat) : Int) := by decide
  unfold sgnd
  cases b
  · have h' : x < 2 ^ 64 := by cases s; rw [e1] at h; omega; rw [e2] at h; omega
    rw [if_neg (by decide), if_neg (by decide), or_none x h']
  · rw [if_pos rfl, if_pos rfl]
    cases s
    · rw [e1] at h ⊢
      rw [or_top x 63 (by omega) (by decide)]; omega
    · rw [e2] at h ⊢
      rw [or_top x 31 (by omega) (by decide)]; omega
theorem put_d (b : Bool) (X M : Nat) (hX : X < 2048) (hM : M < 4503599627370496) : bits BinOp.or IntKind.u64 (bits BinOp.or IntKind.u64 (if b then 9223372036854775808 else 0) ((X * 4503599627370496 : Nat) : Int)) (M : Int) = sgnd false b ((X : Int) * 4503599627370496 + M) := by
  have e := or_sign false b (X * 4503599627370496) (by show _ < (9223372036854775808 : Int); omega)
  have e0 : fS false = 9223372036854775808 := rfl
  rw [e0] at e
  rw [e]
  cases b
  · unfold sgnd
    rw [if_neg (by decide), if_neg (by decide)]
    have t := or_lowN X M 52 (by omega) (by omega)
    rw [show (2 : Nat) ^ 52 = 4503599627370496 from rfl] at t
    rw [t]; omega
  · unfold sgnd
    rw [if_pos rfl, if_pos rfl, e0]
    have t := or_lowN (X + 2048) M 52 (by omega) (by omega)
    rw [show ((X * 4503599627370496 : Nat) : Int) + 9223372036854775808 = (((X + 2048) * 2 ^ 52 : Nat) : Int) by omega, t]
    omega
theorem put_s (b : Bool) (X M : Nat) (hX : X < 256) (hM : M < 8388608) : bits BinOp.or IntKind.u64 (bits BinOp.or IntKind.u64 (if b then 2147483648 else 0) ((X * 8388608 : Nat) : Int)) (M : Int) = sgnd true b ((X : Int) * 8388608 + M) := by
  have e := or_sign true b (X * 8388608) (by show _ < (2147483648 : Int); omega)
  have e0 : fS true = 2147483648 := rfl
  rw [e0] at e
  rw [e]
  cases b
  · unfold sgnd
    rw [if_neg (by decide), if_neg (by decide)]
    have t := or_lowN X M 23 (by omega) (by omega)
    rw [show (2 : Nat) ^ 23 = 8388608 from rfl] at t
    rw [t]; omega
  · unfold sgnd
    rw [if_pos rfl, if_pos rfl, e0]
    have t := or_lowN (X + 256) M 23 (by omega) (by omega)
    rw [show ((X * 8388608 : Nat) : Int) + 2147483648 = (((X + 256) * 2 ^ 23 : Nat) : Int) by omega, t]
    omega
theorem rinf_any (s b : Bool) (w : World) : Calls Tryz.prog 177 #[.int .i64 (fb s), .bool b] w fun e w' => e = .returned (.int .u64 (sgnd s b (fI s))) ∧ ∃ n, w' = w.drewN n := by
  cases s
  · have hs := rsize_d
    have hg : ∀ w, Calls Tryz.prog 98 #[.int .i64 0, .bool b] w fun e w' => e = .returned (.int .u64 (if b then 9223372036854775808 else 0)) ∧ w' = w := rsign_any false b
    have o : bits BinOp.or IntKind.u64 (if b then 9223372036854775808 else 0) 9218868437227405312 = sgnd false b (fI false) := or_sign false b 9218868437227405312 (by decide)
    show Calls Tryz.prog 177 #[.int .i64 0, .bool b] w _
    generalize (if b then (9223372036854775808 : Int) else 0) = S at *
    generalize sgnd false b (fI false) = V at *
    go_enter Tryz.func177, Tryz.ntmps177
    go_wp2_with (go_at_call 93; refine (hs _).mono ?_; rintro e w1 ⟨rfl, rfl⟩)
    go_quiet ((go_at_call 98; exact Calls.quiet_of_same (hg _)))
    go_wp2_with fail
    go_ret
    exact ⟨rfl, _, rfl⟩
  · have hs := rsize_s
    have hg : ∀ w, Calls Tryz.prog 98 #[.int .i64 1, .bool b] w fun e w' => e = .returned (.int .u64 (if b then 2147483648 else 0)) ∧ w' = w := rsign_any true b
    have o : bits BinOp.or IntKind.u64 (if b then 2147483648 else 0) 2139095040 = sgnd true b (fI true) := or_sign true b 2139095040 (by decide)
    show Calls Tryz.prog 177 #[.int .i64 1, .bool b] w _
    generalize (if b then (2147483648 : Int) else 0) = S at *
    generalize sgnd true b (fI true) = V at *
    go_enter Tryz.func177, Tryz.ntmps177
    go_wp2_with (go_at_call 93; refine (hs _).mono ?_; rintro e w1 ⟨rfl, rfl⟩)
    go_quiet ((go_at_call 98; exact Calls.quiet_of_same (hg _)))
    go_wp2_with fail
    go_ret
    exact ⟨rfl, _, rfl⟩
end Go.Proofs.YtgdknlnpfnifiaaGreat
namespace Go.Proofs.YtgdknlnpfnifiaaGreat
open Go.RowKit
set_option linter.unusedVariables false

theorem pow_word (k : Nat) (hk : k < 64) : Word ((2 : Int) ^ k) ∧ ((2 : Int) ^ k).toNat = 2 ^ k := by
  have e : (2 : Int) ^ k = ((2 ^ k : Nat) : Int) := by simp
  have l : 2 ^ k < 2 ^ 64 := Nat.pow_lt_pow_right (by decide) hk
  rw [e]
  exact ⟨⟨Int.natCast_nonneg _, by omega⟩, rfl⟩
theorem wrap_pow (k : Nat) (hk : k < 64) : IntKind.u64.wrap ((2 : Int) ^ k) = 2 ^ k := by
  obtain ⟨⟨a, b⟩, _⟩ := pow_word k hk
  rw [IntKind.wrap_u64]; omega
def IsFrom (f : Nat → Bool) (k x : Nat) : Prop := ∀ j, x.testBit j = (decide (j < k) && f j)
theorem IsFrom.skip {f : Nat → Bool} {k x : Nat} (h : IsFrom f k x) (hf : f k = false) : IsFrom f (k + 1) x := fun j => by
  rw [h j]
  by_cases e : j = k
  · subst e; simp [hf]
  · have : (decide (j < k)) = decide (j < k + 1) := by rw [decide_eq_decide]; omega
    rw [this]
theorem IsFrom.step {f : Nat → Bool} {k x y : Nat} (h : IsFrom f k x) (hf : f k = true) (hy : ∀ j, y.testBit j = (x.testBit j || decide (j = k))) : IsFrom f (k + 1) y := fun j => by
  rw [hy j, h j]
  by_cases e : j = k
  · subst e; simp [hf]
  · have : (decide (j < k)) = decide (j < k + 1) := by rw [decide_eq_decide]; omega
    rw [this]; simp [e]

end Go.Proofs.YtgdknlnpfnifiaaGreat
namespace Go.Proofs.YtgdknlnpfnifiaaGreat
open Go.RowKit
set_option linter.unusedVariables false
set_option linter.unusedSimpArgs false
theorem last_two (s : Bool) {A : Nat} (A0 : A ≠ 0) (e : Int) : ∃ La : Int, lastOf s A e = La ∧ ((e + (blen A : Int) - 1 - (fP s : Int) < fL s ∧ La = fL s) ∨ (¬ e + (blen A : Int) - 1 - (fP s : Int) < fL s ∧ La = e + (blen A : Int) - 1 - (fP s : Int))) := by
  refine ⟨_, rfl, ?_⟩
  unfold lastOf
  omega
def gr (m : Int) (b : Bool) (M I : Int) : Int := if m = 3 ∨ m = 1 ∧ b = true ∨ m = 2 ∧ b = false then M else I
theorem great_ways (m : Int) (b : Bool) (M I : Int) :
    (gr m b M I = M ∧ m = 3) ∨ (gr m b M I = M ∧ (m == 3) = false ∧ m = 1 ∧ b = true) ∨ (gr m b M I = M ∧ (m == 3) = false ∧ (m == 1) = false ∧ m = 2 ∧ b = false) ∨ (gr m b M I = I ∧ (m == 3) = false ∧ m = 1 ∧ b = false) ∨
    (gr m b M I = I ∧ (m == 3) = false ∧ (m == 1) = false ∧ m = 2 ∧ b = true) ∨ (gr m b M I = I ∧ (m == 3) = false ∧ (m == 1) = false ∧ (m == 2) = false) := by
  unfold gr
  by_cases m3 : m = 3
  · subst m3; simp
  · by_cases m1 : m = 1
    · subst m1; cases b <;> simp
    · by_cases m2 : m = 2
      · subst m2; cases b <;> simp
      · simp [m1, m2, m3]
theorem drew_0 (w : World) : ∃ k, w = w.drewN k := ⟨0, rfl⟩
theorem u64r_eq {a b : Int} (h : a = b) : Ending.returned (Value.int IntKind.u64 a) = .returned (.int .u64 b) := by rw [h]
theorem put_d' (b : Bool) (X M : Int) (x0 : 0 ≤ X) (hX : X < 2047) (m0 : 0 ≤ M) (hM : M < 4503599627370496) : bits BinOp.or IntKind.u64 (bits BinOp.or IntKind.u64 (if b then 9223372036854775808 else 0) (X * 4503599627370496)) M = sgnd false b (X * 4503599627370496 + M) := by
  obtain ⟨x, rfl⟩ := Int.eq_ofNat_of_zero_le x0
  obtain ⟨m, rfl⟩ := Int.eq_ofNat_of_zero_le m0
  exact put_d b x m (by omega) (by omega)
theorem ref_up_d (m : Int) (b : Bool) (La X : Int) (hX : X = La + 1 + 1074 + 1) (h : X < 2047) : sgnd false b (refSize false m b La (9007199254740992 : Int).toNat) = sgnd false b (X * 4503599627370496 + 0) := by
  congr 1
  unfold refSize
  have e1 : (2 : Nat) ^ (fP false + 1) = 9007199254740992 := rfl
  have e2 : (2 : Nat) ^ fP false = 4503599627370496 := rfl
  have e3 : (2 : Int) ^ fP false = 4503599627370496 := rfl
  have e4 : (2 : Int) ^ (fE false).toNat - 1 = 2047 := rfl
  have e5 : fL false = -1074 := rfl
  rw [e1, e2, e3, e4, e5]
  rw [if_pos (by decide : (9007199254740992 : Int).toNat = 9007199254740992), if_pos (by decide : (9007199254740992 : Int).toNat = 9007199254740992)]
  rw [if_neg (by decide : ¬ (9007199254740992 : Int).toNat / 2 < 4503599627370496)]
  rw [if_neg (by omega), show (9007199254740992 : Int).toNat / 2 % 4503599627370496 = 0 by decide]
  omega
theorem ref_sub_d (m : Int) (b : Bool) (La y : Int) (y0 : 0 ≤ y) (h : y < 4503599627370496) : sgnd false b (refSize false m b La y.toNat) = sgnd false b (0 * 4503599627370496 + y) := by
  congr 1
  unfold refSize
  have e1 : (2 : Nat) ^ (fP false + 1) = 9007199254740992 := rfl
  have e2 : (2 : Nat) ^ fP false = 4503599627370496 := rfl
  have e3 : (2 : Int) ^ fP false = 4503599627370496 := rfl
  have e4 : (2 : Int) ^ (fE false).toNat - 1 = 2047 := rfl
  have n1 : ¬ y.toNat = 9007199254740992 := by omega
  have n2 : y.toNat < 4503599627370496 := by omega
  rw [e1, e2, e3, e4]
  simp only [if_neg n1, if_pos n2]
  rw [if_neg (by decide), Nat.mod_eq_of_lt n2]
  omega
theorem ref_great_d (m : Int) (b : Bool) (La y : Int) (h : (y = 9007199254740992 ∧ 2047 ≤ La + 1 + 1074 + 1) ∨ (¬ y = 9007199254740992 ∧ 4503599627370496 ≤ y ∧ 2047 ≤ La + 1074 + 1)) :
    sgnd false b (refSize false m b La y.toNat) = sgnd false b (gr m b 9218868437227405311 9218868437227405312) := by
  congr 1
  unfold refSize gr
  have e1 : (2 : Nat) ^ (fP false + 1) = 9007199254740992 := rfl
  have e2 : (2 : Nat) ^ fP false = 4503599627370496 := rfl
  have e3 : (2 : Int) ^ fP false = 4503599627370496 := rfl
  have e4 : (2 : Int) ^ (fE false).toNat - 1 = 2047 := rfl
  have e5 : fL false = -1074 := rfl
  rw [e1, e2, e3, e4, e5]
  rcases h with ⟨h1, h2⟩ | ⟨h1, h2, h3⟩
  · have n1 : y.toNat = 9007199254740992 := by omega
    have n2 : ¬ y.toNat / 2 < 4503599627370496 := by omega
    simp only [if_pos n1, if_neg n2]
    rw [if_pos (by omega)]
    rfl
  · have n1 : ¬ y.toNat = 9007199254740992 := by omega
    have n2 : ¬ y.toNat < 4503599627370496 := by omega
    simp only [if_neg n1, if_neg n2]
    rw [if_pos (by omega)]
    rfl
theorem ref_norm_d (m : Int) (b : Bool) (La y X : Int) (hX : X = La + 1074 + 1) (c1 : ¬ y = 9007199254740992) (c2 : ¬ y < 4503599627370496) (y1 : y ≤ 9007199254740992) (h : X < 2047) : sgnd false b (refSize false m b La y.toNat) = sgnd false b (X * 4503599627370496 + (y - 4503599627370496)) := by
  congr 1
  unfold refSize
  have e1 : (2 : Nat) ^ (fP false + 1) = 9007199254740992 := rfl
  have e2 : (2 : Nat) ^ fP false = 4503599627370496 := rfl
  have e3 : (2 : Int) ^ fP false = 4503599627370496 := rfl
  have e4 : (2 : Int) ^ (fE false).toNat - 1 = 2047 := rfl
  have e5 : fL false = -1074 := rfl
  have n1 : ¬ y.toNat = 9007199254740992 := by omega
  have n2 : ¬ y.toNat < 4503599627370496 := by omega
  rw [e1, e2, e3, e4, e5, if_neg n1, if_neg n1, if_neg n2, if_neg (by omega)]
  omega
set_option maxRecDepth 20000 in
set_option maxHeartbeats 4000000 in
theorem rounded_d (m : Int) (below : Bool) (b n cap A : Nat) (hA : A < 2 ^ n) (hn : n ≤ 100000) (e : Int) (he1 : -100000 ≤ e) (he2 : e ≤ 100000) (w : World) (row : RowB w b n (fun i => A.testBit i)) (A0 : A ≠ 0) :
    Calls Tryz.prog 106 #[.int .i64 0, .int .i64 m, .bool below, .slice (some ⟨b, 0, none⟩) n cap, .int .i64 e] w fun r w' => r = .returned (.int .u64 (rnd false m below A e)) ∧ ∃ k, w' = w.drewN k := by
  have hs := rsize_d
  have hl := length_any b n cap A hA (by omega) w row
  obtain ⟨La, hLa, hcase⟩ := last_two false A0 e
  obtain ⟨b1, b2⟩ := blen_le A0
  have b3 := blen_le_of hA
  have b4 := lt_blen A
  obtain ⟨N, hN⟩ : ∃ N : Nat, blen A = N := ⟨_, rfl⟩
  rw [hN] at hl hcase b1 b2 b3 b4
  have HLa : Hid (lastOf false A e = La) := hLa
  have HN : Hid (blen A = N) := hN
  have B1 : Hid _ := b1
  have B4 : Hid _ := b4
  have HA : Hid _ := hA
  have hq : quo A (La - e) < 2 ^ 63 := by
    obtain ⟨x, k1, k2, _⟩ := kept false A0 e (min e (-1074)) (by omega) (by show _ ≤ (-1074 : Int); omega)
    rw [hLa] at k2
    exact Nat.lt_of_lt_of_le k2 (by decide)
  have HQ : Hid _ := hq
  clear hLa hN b1 b4 hA hq
  have p52 : ((fP false : Nat) : Int) = 52 := rfl
  have l74 : fL false = -1074 := rfl
  rw [p52, l74] at hcase
  clear p52 l74
  have hk : -1074 ≤ La ∧ e + (N : Int) - 1 - La ≤ 52 ∧ La ≤ 300000 := by rcases hcase with ⟨a, rfl⟩ | ⟨a, rfl⟩ <;> refine ⟨?_, ?_, ?_⟩ <;> omega
  obtain ⟨hk1, hk2, hk3⟩ := hk
  have N1 : ((N : Int) == 0) = false := by simp; omega
  go_enter Tryz.func106, Tryz.ntmps106
  go_upto_if 44 with (first
      | (go_at_call 93; refine (hs _).mono ?_; rintro r w1 ⟨rfl, hw⟩; rw [hw]; clear hw w1)
      | (go_at_call 176; refine hl.mono ?_; rintro r w1 ⟨rfl, hw⟩; rw [hw]; clear hw w1))
  go_cut [15] from 23 to 46 (fun s wx => s = .int .i64 La ∧ wx = w)
  case first =>
    rcases hcase with ⟨hc, hLa⟩ | ⟨hc, hLa⟩
    · have HL : Hid _ := hLa
      clear hLa
      go_wp2_with fail
      go_meet
      case rel => exact ⟨by rw [HL.out], rfl⟩
    · have HL : Hid _ := hLa
      clear hLa
      go_wp2_with fail
      go_meet
      case rel => exact ⟨by rw [HL.out], rfl⟩
  case rest =>
    obtain ⟨rfl, hw⟩ := hcut
    rw [hw]
    clear hw wc hcase hs hl
    go_wp2
    go_loop [16, 17] (fun q i => ∃ j : Nat, j ≤ N ∧ q = .int .u64 ((qTo A (La - e) j : Nat) : Int) ∧ ((j = 0 ∧ i = .int .i64 (-1)) ∨ ∃ i0 : Nat, j = i0 + 1 ∧ i = .int .i64 (i0 : Int))) (fun _ i => (intOf i + 1).toNat)
    case atStart =>
      refine ⟨N, Nat.le_refl _, by rw [qTo_top _ B4.out]; rfl, Or.inr ⟨N - 1, by omega, by go_num⟩⟩
    case round =>
      obtain ⟨j, hj, rfl, hj2⟩ := hrel
      rcases hj2 with ⟨rfl, rfl⟩ | ⟨i0, rfl, rfl⟩
      · rw [qTo_end]
        obtain ⟨Q, hQ⟩ : ∃ Q : Nat, quo A (La - e) = Q := ⟨_, rfl⟩
        have HQ' : Hid _ := hQ
        rw [hQ]
        clear hQ
        go_wp2
        go_loop [18, 19, 20] (fun h l i => ∃ j : Nat, j ≤ N ∧ i = .int .i64 (j : Int) ∧ h = .bool (half (A % 2 ^ j) (La - e)) ∧ l = .bool (low (A % 2 ^ j) (La - e))) (fun _ _ i => N - (intOf i).toNat)
        case atStart => exact ⟨0, by omega, rfl, by rw [(hl_zero A _).1], by rw [(hl_zero A _).2]⟩
        case round =>
          obtain ⟨j, hj, rfl, rfl, rfl⟩ := hrel
          by_cases hlt : j < N
          · have cj : w.cell? ⟨b, j, none⟩ = some (.bool (A.testBit j)) := row j (by omega)
            have t1 : (j : Int) < (N : Int) := by omega
            cases tb : A.testBit j
            · have Z : Hid _ := hl_no (k := La - e) tb
              rw [tb] at cj
              clear tb row
              go_wp2
              go_round
              case rel => exact ⟨j + 1, by omega, by go_num, by rw [Z.out.1], by rw [Z.out.2]⟩
              case measure => simp [intOf]; omega
            · rcases Int.lt_trichotomy (e + (j : Int)) (La - 1) with hc | hc | hc
              · have Z : Hid _ := hl_lt (k := La - e) tb (by omega)
                have hne : (e + (j : Int) == La - 1) = false := by simp; omega
                rw [tb] at cj
                clear tb row
                go_wp2
                go_round
                case rel => exact ⟨j + 1, by omega, by go_num, by rw [Z.out.1], by rw [Z.out.2]⟩
                case measure => simp [intOf]; omega
              · have Z : Hid _ := hl_eq (k := La - e) tb (by omega)
                have hne : (e + (j : Int) == La - 1) = true := by simp; omega
                have hnl : ¬ e + (j : Int) < La - 1 := by omega
                rw [tb] at cj
                clear tb row hc
                go_wp2
                go_round
                case rel => exact ⟨j + 1, by omega, by go_num, by rw [Z.out.1], by rw [Z.out.2]⟩
                case measure => simp [intOf]; omega
              · have Z : Hid _ := hl_gt (A := A) (i := j) (k := La - e) (by omega)
                have hne : (e + (j : Int) == La - 1) = false := by simp; omega
                have hnl : ¬ e + (j : Int) < La - 1 := by omega
                rw [tb] at cj
                clear tb row
                go_wp2
                go_round
                case rel => exact ⟨j + 1, by omega, by go_num, by rw [Z.out.1], by rw [Z.out.2]⟩
                case measure => simp [intOf]; omega
          · have : j = N := by omega
            subst this
            rw [Nat.mod_eq_of_lt B4.out]
            obtain ⟨H, hH⟩ : ∃ H : Bool, half A (La - e) = H := ⟨_, rfl⟩
            obtain ⟨L, hL⟩ : ∃ L : Bool, low A (La - e) = L := ⟨_, rfl⟩
            have HH : Hid _ := hH
            have HL : Hid _ := hL
            rw [hH, hL]
            clear hH hL
            go_upto_region 24 with fail
            iterate 8 go_step
            go_cut [21] from 114 to 144 (fun s wx => s = .bool (away m below (Q % 2 == 1) H L) ∧ wx = w)
            case first =>
              by_cases m1 : m = 1
              · subst m1
                cases below <;> cases H <;> cases L <;> (go_wp2_with fail; go_meet; exact ⟨rfl, rfl⟩)
              · by_cases m2 : m = 2
                · subst m2
                  cases below <;> cases H <;> cases L <;> (go_wp2_with fail; go_meet; exact ⟨rfl, rfl⟩)
                · by_cases m3 : m = 3
                  · subst m3
                    go_wp2_with fail
                    go_meet
                    exact ⟨rfl, rfl⟩
                  · have n1 : (m == 1) = false := by simp [m1]
                    have n2 : (m == 2) = false := by simp [m2]
                    have n3 : (m == 3) = false := by simp [m3]
                    have aw : Hid (∀ o, away m below o H L = (H && (L || o))) := fun o => by unfold away; rw [if_neg m1, if_neg m2, if_neg m3]
                    cases H
                    · go_wp2_with fail
                      go_meet
                      exact ⟨by rw [aw.out]; rfl, rfl⟩
                    · cases L
                      · have od : ((Q : Int) % 2 == 1) = (Q % 2 == 1) := by rw [Bool.eq_iff_iff]; simp; omega
                        go_wp2_with fail
                        go_meet
                        exact ⟨by rw [aw.out]; rfl, rfl⟩
                      · go_wp2_with fail
                        go_meet
                        exact ⟨by rw [aw.out]; rfl, rfl⟩
            case rest =>
              obtain ⟨rfl, hw⟩ := hcut
              rw [hw]
              clear hw wc
              have T := ref_fin false m below La Q H L
              obtain ⟨mo, hmo⟩ : ∃ mo : Bool, away m below (Q % 2 == 1) H L = mo := ⟨_, rfl⟩
              rw [hmo] at T ⊢
              have T2 : Hid (rnd false m below A e = sgnd false below (refSize false m below La (Q + mo.toNat)) ∧ Q < 2 ^ 53 ∧ (La = -1074 ∨ 2 ^ 52 ≤ Q)) := by
                obtain ⟨x, k1, k2, k3, _⟩ := kept false A0 e (min e (-1074)) (by omega) (by show _ ≤ (-1074 : Int); omega)
                have fl : fL false = -1074 := rfl
                have fp : fP false = 52 := rfl
                rw [HLa.out, HQ'.out, fp] at k2 k3
                rw [HLa.out, fl] at k1
                have k4 : La = -1074 ∨ 2 ^ 52 ≤ Q := by rcases k3 with k | k; left; omega; right; exact k
                have T3 := T k2 (by rw [fl, fp]; exact k4) (by rw [fl]; exact hk1)
                refine ⟨?_, k2, k4⟩
                unfold rnd
                rw [if_neg A0]
                unfold mag
                rw [HLa.out, HQ'.out, HH.out, HL.out, ← T3]
                cases mo <;> rfl
              clear T hmo HLa HQ' HH HL HQ B1 B4 HA HN
              iterate 2 go_step
              go_cut [16] from 145 to 147 (fun s wx => s = .int .u64 ((Q + mo.toNat : Nat) : Int) ∧ wx = w)
              case first =>
                have q53 := T2.out.2.1
                clear T2
                cases mo
                · go_wp2_with fail
                  go_meet
                  exact ⟨rfl, rfl⟩
                · go_wp2_with fail
                  go_meet
                  exact ⟨by go_num, rfl⟩
              case rest =>
                obtain ⟨rfl, hw⟩ := hcut
                rw [hw]
                clear hw wc
                obtain ⟨y, hy⟩ : ∃ y : Int, ((Q + mo.toNat : Nat) : Int) = y := ⟨_, rfl⟩
                have y53 : 0 ≤ y ∧ y ≤ 9007199254740992 := by have := T2.out.2.1; have := Bool.toNat_le mo; omega
                have T : Hid (rnd false m below A e = sgnd false below (refSize false m below La y.toNat)) := by rw [T2.out.1, ← hy]; rfl
                rw [hy]
                clear T2 hy
                obtain ⟨y0, y1⟩ := y53
                have hg : ∀ w, Calls Tryz.prog 98 #[.int .i64 0, .bool below] w fun e w' => e = .returned (.int .u64 (if below then 9223372036854775808 else 0)) ∧ w' = w := rsign_any false below
                by_cases c1 : y = 9007199254740992
                · subst c1
                  obtain ⟨X, hX⟩ : ∃ X : Int, La + 1 + 1074 + 1 = X := ⟨_, rfl⟩
                  have x1 : 0 ≤ X := by omega
                  by_cases c3 : X < 2047
                  · have TT : Hid _ := T.out.trans (ref_up_d m below La X hX.symm c3)
                    have wx : IntKind.u64.wrap (X * 4503599627370496) = X * 4503599627370496 := by rw [IntKind.wrap_u64]; omega
                    have pu := put_d' below X 0 x1 c3 (by decide) (by decide)
                    obtain ⟨S, hS⟩ : ∃ S : Int, (if below then (9223372036854775808 : Int) else 0) = S := ⟨_, rfl⟩
                    rw [hS] at hg pu
                    have PU : Hid _ := pu
                    clear hS pu T
                    go_wp2_with fail
                    go_quiet ((go_at_call 98; exact Calls.quiet_of_same (hg _)))
                    go_wp2_with fail
                    go_ret
                    exact ⟨u64r_eq (by rw [TT.out, ← PU.out]; rfl), _, rfl⟩
                  · have nx : ¬ X < 2047 := c3
                    have hmo := rmost_d
                    have hin : ∀ w, Calls Tryz.prog 177 #[.int .i64 0, .bool below] w fun e w' => e = .returned (.int .u64 (sgnd false below 9218868437227405312)) ∧ ∃ n, w' = w.drewN n := rinf_any false below
                    have om : bits BinOp.or IntKind.u64 (if below then 9223372036854775808 else 0) 9218868437227405311 = sgnd false below 9218868437227405311 := or_sign false below 9218868437227405311 (by decide)
                    have GH : Hid _ := T.out.trans (ref_great_d m below La _ (Or.inl ⟨rfl, by omega⟩))
                    clear T
                    obtain ⟨S, hS⟩ : ∃ S : Int, (if below then (9223372036854775808 : Int) else 0) = S := ⟨_, rfl⟩
                    rw [hS] at hg om
                    have OM : Hid _ := om
                    clear hS om
                    obtain ⟨VI, hVI⟩ : ∃ V : Int, sgnd false below 9218868437227405312 = V := ⟨_, rfl⟩
                    rw [hVI] at hin
                    have HVI : Hid _ := hVI
                    clear hVI
                    rcases great_ways m below 9218868437227405311 9218868437227405312 with ⟨g, rfl⟩ | ⟨g, _, rfl, rfl⟩ | ⟨g, _, _, rfl, rfl⟩ | ⟨g, _, rfl, rfl⟩ | ⟨g, _, _, rfl, rfl⟩ | ⟨g, m3, m1, m2⟩
                    all_goals
                      have GV : Hid _ := GH.out
                      rw [g] at GV
                      have G2 : Hid _ := GV
                      clear GV GH g
                      go_wp2_with (first
                        | (go_at_call 98; refine (hg _).mono ?_; rintro r w1 ⟨rfl, hw⟩; rw [hw]; clear hw w1)
                        | (go_at_call 37; refine (hmo _).mono ?_; rintro r w1 ⟨rfl, hw⟩; rw [hw]; clear hw w1)
                        | (go_at_call 177; refine (hin _).mono ?_; rintro r w1 ⟨rfl, nn, hw⟩; rw [hw]; clear hw w1))
                      go_ret
                    · exact ⟨u64r_eq (by rw [G2.out]; exact OM.out), drew_0 w⟩
                    · exact ⟨u64r_eq (by rw [G2.out]; exact OM.out), drew_0 w⟩
                    · exact ⟨u64r_eq (by rw [G2.out]; exact OM.out), drew_0 w⟩
                    · exact ⟨u64r_eq (by rw [G2.out]; exact HVI.out.symm), nn, rfl⟩
                    · exact ⟨u64r_eq (by rw [G2.out]; exact HVI.out.symm), nn, rfl⟩
                    · exact ⟨u64r_eq (by rw [G2.out]; exact HVI.out.symm), nn, rfl⟩
                · have c1' : (y == 9007199254740992) = false := by simp; omega
                  obtain ⟨X, hX⟩ : ∃ X : Int, La + 1074 + 1 = X := ⟨_, rfl⟩
                  have x1 : 0 ≤ X := by omega
                  by_cases c2 : y < 4503599627370496
                  · have pu := put_d' below 0 y (by omega) (by decide) y0 c2
                    have aw : bits BinOp.and IntKind.u64 y 4503599627370495 = y := by
                      rw [and_bits y.toNat 52 4503599627370495 rfl (by decide) y (by omega) (by omega)]
                      show y % 4503599627370496 = _
                      omega
                    have TT : Hid _ := T.out.trans (ref_sub_d m below La y y0 c2)
                    obtain ⟨S, hS⟩ : ∃ S : Int, (if below then (9223372036854775808 : Int) else 0) = S := ⟨_, rfl⟩
                    rw [hS] at hg pu
                    have PU : Hid _ := pu
                    clear hS pu T
                    go_wp2_with fail
                    go_quiet ((go_at_call 98; exact Calls.quiet_of_same (hg _)))
                    go_wp2_with fail
                    go_ret
                    exact ⟨u64r_eq (by rw [TT.out, ← PU.out]; rfl), _, rfl⟩
                  · by_cases c3 : X < 2047
                    · have TT : Hid _ := T.out.trans (ref_norm_d m below La y X hX.symm c1 c2 y1 c3)
                      have wx : IntKind.u64.wrap (X * 4503599627370496) = X * 4503599627370496 := by rw [IntKind.wrap_u64]; omega
                      have pu := put_d' below X (y - 4503599627370496) x1 c3 (by omega) (by omega)
                      have aw : bits BinOp.and IntKind.u64 y 4503599627370495 = y - 4503599627370496 := by
                        rw [and_bits y.toNat 52 4503599627370495 rfl (by decide) y (by omega) (by omega)]
                        show y % 4503599627370496 = _
                        omega
                      obtain ⟨S, hS⟩ : ∃ S : Int, (if below then (9223372036854775808 : Int) else 0) = S := ⟨_, rfl⟩
                      rw [hS] at hg pu
                      have PU : Hid _ := pu
                      clear hS pu T
                      go_wp2_with fail
                      go_quiet ((go_at_call 98; exact Calls.quiet_of_same (hg _)))
                      go_wp2_with fail
                      go_ret
                      exact ⟨u64r_eq (by rw [TT.out, ← PU.out]), _, rfl⟩
                    · have nx : ¬ X < 2047 := c3
                      have hmo := rmost_d
                      have hin : ∀ w, Calls Tryz.prog 177 #[.int .i64 0, .bool below] w fun e w' => e = .returned (.int .u64 (sgnd false below 9218868437227405312)) ∧ ∃ n, w' = w.drewN n := rinf_any false below
                      have om : bits BinOp.or IntKind.u64 (if below then 9223372036854775808 else 0) 9218868437227405311 = sgnd false below 9218868437227405311 := or_sign false below 9218868437227405311 (by decide)
                      have GH : Hid _ := T.out.trans (ref_great_d m below La _ (Or.inr ⟨c1, by omega, by omega⟩))
                      clear T
                      obtain ⟨S, hS⟩ : ∃ S : Int, (if below then (9223372036854775808 : Int) else 0) = S := ⟨_, rfl⟩
                      rw [hS] at hg om
                      have OM : Hid _ := om
                      clear hS om
                      obtain ⟨VI, hVI⟩ : ∃ V : Int, sgnd false below 9218868437227405312 = V := ⟨_, rfl⟩
                      rw [hVI] at hin
                      have HVI : Hid _ := hVI
                      clear hVI
                      rcases great_ways m below 9218868437227405311 9218868437227405312 with ⟨g, rfl⟩ | ⟨g, _, rfl, rfl⟩ | ⟨g, _, _, rfl, rfl⟩ | ⟨g, _, rfl, rfl⟩ | ⟨g, _, _, rfl, rfl⟩ | ⟨g, m3, m1, m2⟩
                      all_goals
                        have GV : Hid _ := GH.out
                        rw [g] at GV
                        have G2 : Hid _ := GV
                        clear GV GH g
                        go_wp2_with (first
                          | (go_at_call 98; refine (hg _).mono ?_; rintro r w1 ⟨rfl, hw⟩; rw [hw]; clear hw w1)
                          | (go_at_call 37; refine (hmo _).mono ?_; rintro r w1 ⟨rfl, hw⟩; rw [hw]; clear hw w1)
                          | (go_at_call 177; refine (hin _).mono ?_; rintro r w1 ⟨rfl, nn, hw⟩; rw [hw]; clear hw w1))
                        go_ret
                      · exact ⟨u64r_eq (by rw [G2.out]; exact OM.out), drew_0 w⟩
                      · exact ⟨u64r_eq (by rw [G2.out]; exact OM.out), drew_0 w⟩
                      · exact ⟨u64r_eq (by rw [G2.out]; exact OM.out), drew_0 w⟩
                      · exact ⟨u64r_eq (by rw [G2.out]; exact HVI.out.symm), nn, rfl⟩
                      · exact ⟨u64r_eq (by rw [G2.out]; exact HVI.out.symm), nn, rfl⟩
                      · exact ⟨u64r_eq (by rw [G2.out]; exact HVI.out.symm), nn, rfl⟩
      · have hi0 : (i0 : Int) + 1 ≤ N := by omega
        have cj : w.cell? ⟨b, i0, none⟩ = some (.bool (A.testBit i0)) := row i0 (by omega)
        have t1 : (0 : Int) ≤ (i0 : Int) := by omega
        by_cases hge : La ≤ e + (i0 : Int)
        · obtain ⟨t, ht⟩ : ∃ t : Nat, e + (i0 : Int) - La = (t : Int) := ⟨(e + (i0 : Int) - La).toNat, by omega⟩
          have t64 : t < 64 := by omega
          have qw := wrap_pow t t64
          cases tb : A.testBit i0
          · have Z := q_no (A := A) (i := i0) (k := La - e) (t := t) (by omega) t64 HQ.out tb
            rw [tb] at cj
            clear tb row
            go_wp2
            go_round
            case rel => exact ⟨i0, by omega, rfl, by rcases i0 with _ | i1; exact Or.inl ⟨rfl, by go_num⟩; exact Or.inr ⟨i1, rfl, by go_num⟩⟩
            case measure => simp [intOf]
          · have Z := q_yes (A := A) (i := i0) (k := La - e) (t := t) (by omega) t64 HQ.out tb
            rw [tb] at cj
            clear tb row
            go_wp2
            go_round
            case rel => exact ⟨i0, by omega, rfl, by rcases i0 with _ | i1; exact Or.inl ⟨rfl, by go_num⟩; exact Or.inr ⟨i1, rfl, by go_num⟩⟩
            case measure => simp [intOf]
        · have Z : Hid _ := qTo_no A (La - e) i0 (by omega)
          have hge' : e + (i0 : Int) < La := by omega
          cases tb : A.testBit i0
          · rw [tb] at cj
            clear tb row
            go_wp2
            go_round
            case rel => exact ⟨i0, by omega, by rw [Z.out], by rcases i0 with _ | i1; exact Or.inl ⟨rfl, by go_num⟩; exact Or.inr ⟨i1, rfl, by go_num⟩⟩
            case measure => simp [intOf]
          · rw [tb] at cj
            clear tb row
            go_wp2
            go_round
            case rel => exact ⟨i0, by omega, by rw [Z.out], by rcases i0 with _ | i1; exact Or.inl ⟨rfl, by go_num⟩; exact Or.inr ⟨i1, rfl, by go_num⟩⟩
            case measure => simp [intOf]
end Go.Proofs.YtgdknlnpfnifiaaGreat
namespace Go.Proofs.YtgdknlnpfnifiaaGreat
open Go.RowKit
set_option linter.unusedVariables false
set_option linter.unusedSimpArgs false
theorem put_s' (b : Bool) (X M : Int) (x0 : 0 ≤ X) (hX : X < 255) (m0 : 0 ≤ M) (hM : M < 8388608) : bits BinOp.or IntKind.u64 (bits BinOp.or IntKind.u64 (if b then 2147483648 else 0) (X * 8388608)) M = sgnd true b (X * 8388608 + M) := by
  obtain ⟨x, rfl⟩ := Int.eq_ofNat_of_zero_le x0
  obtain ⟨m, rfl⟩ := Int.eq_ofNat_of_zero_le m0
  exact put_s b x m (by omega) (by omega)
theorem ref_up_s (m : Int) (b : Bool) (La X : Int) (hX : X = La + 1 + 149 + 1) (h : X < 255) : sgnd true b (refSize true m b La (16777216 : Int).toNat) = sgnd true b (X * 8388608 + 0) := by
  congr 1
  unfold refSize
  have e1 : (2 : Nat) ^ (fP true + 1) = 16777216 := rfl
  have e2 : (2 : Nat) ^ fP true = 8388608 := rfl
  have e3 : (2 : Int) ^ fP true = 8388608 := rfl
  have e4 : (2 : Int) ^ (fE true).toNat - 1 = 255 := rfl
  have e5 : fL true = -149 := rfl
  rw [e1, e2, e3, e4, e5]
  rw [if_pos (by decide : (16777216 : Int).toNat = 16777216), if_pos (by decide : (16777216 : Int).toNat = 16777216)]
  rw [if_neg (by decide : ¬ (16777216 : Int).toNat / 2 < 8388608)]
  rw [if_neg (by omega), show (16777216 : Int).toNat / 2 % 8388608 = 0 by decide]
  omega
theorem ref_sub_s (m : Int) (b : Bool) (La y : Int) (y0 : 0 ≤ y) (h : y < 8388608) : sgnd true b (refSize true m b La y.toNat) = sgnd true b (0 * 8388608 + y) := by
  congr 1
  unfold refSize
  have e1 : (2 : Nat) ^ (fP true + 1) = 16777216 := rfl
  have e2 : (2 : Nat) ^ fP true = 8388608 := rfl
  have e3 : (2 : Int) ^ fP true = 8388608 := rfl
  have e4 : (2 : Int) ^ (fE true).toNat - 1 = 255 := rfl
  have n1 : ¬ y.toNat = 16777216 := by omega
  have n2 : y.toNat < 8388608 := by omega
  rw [e1, e2, e3, e4]
  simp only [if_neg n1, if_pos n2]
  rw [if_neg (by decide), Nat.mod_eq_of_lt n2]
  omega
theorem ref_great_s (m : Int) (b : Bool) (La y : Int) (h : (y = 16777216 ∧ 255 ≤ La + 1 + 149 + 1) ∨ (¬ y = 16777216 ∧ 8388608 ≤ y ∧ 255 ≤ La + 149 + 1)) :
    sgnd true b (refSize true m b La y.toNat) = sgnd true b (gr m b 2139095039 2139095040) := by
  congr 1
  unfold refSize gr
  have e1 : (2 : Nat) ^ (fP true + 1) = 16777216 := rfl
  have e2 : (2 : Nat) ^ fP true = 8388608 := rfl
  have e3 : (2 : Int) ^ fP true = 8388608 := rfl
  have e4 : (2 : Int) ^ (fE true).toNat - 1 = 255 := rfl
  have e5 : fL true = -149 := rfl
  rw [e1, e2, e3, e4, e5]
  rcases h with ⟨h1, h2⟩ | ⟨h1, h2, h3⟩
  · have n1 : y.toNat = 16777216 := by omega
    have n2 : ¬ y.toNat / 2 < 8388608 := by omega
    simp only [if_pos n1, if_neg n2]
    rw [if_pos (by omega)]
    rfl
  · have n1 : ¬ y.toNat = 16777216 := by omega
    have n2 : ¬ y.toNat < 8388608 := by omega
    simp only [if_neg n1, if_neg n2]
    rw [if_pos (by omega)]
    rfl
theorem ref_norm_s (m : Int) (b : Bool) (La y X : Int) (hX : X = La + 149 + 1) (c1 : ¬ y = 16777216) (c2 : ¬ y < 8388608) (y1 : y ≤ 16777216) (h : X < 255) : sgnd true b (refSize true m b La y.toNat) = sgnd true b (X * 8388608 + (y - 8388608)) := by
  congr 1
  unfold refSize
  have e1 : (2 : Nat) ^ (fP true + 1) = 16777216 := rfl
  have e2 : (2 : Nat) ^ fP true = 8388608 := rfl
  have e3 : (2 : Int) ^ fP true = 8388608 := rfl
  have e4 : (2 : Int) ^ (fE true).toNat - 1 = 255 := rfl
  have e5 : fL true = -149 := rfl
  have n1 : ¬ y.toNat = 16777216 := by omega
  have n2 : ¬ y.toNat < 8388608 := by omega
  rw [e1, e2, e3, e4, e5, if_neg n1, if_neg n1, if_neg n2, if_neg (by omega)]
  omega
set_option maxRecDepth 20000 in
set_option maxHeartbeats 4000000 in
theorem rounded_s (m : Int) (below : Bool) (b n cap A : Nat) (hA : A < 2 ^ n) (hn : n ≤ 100000) (e : Int) (he1 : -100000 ≤ e) (he2 : e ≤ 100000) (w : World) (row : RowB w b n (fun i => A.testBit i)) (A0 : A ≠ 0) :
    Calls Tryz.prog 106 #[.int .i64 1, .int .i64 m, .bool below, .slice (some ⟨b, 0, none⟩) n cap, .int .i64 e] w fun r w' => r = .returned (.int .u64 (rnd true m below A e)) ∧ ∃ k, w' = w.drewN k := by
  have hs := rsize_s
  have hl := length_any b n cap A hA (by omega) w row
  obtain ⟨La, hLa, hcase⟩ := last_two true A0 e
  obtain ⟨b1, b2⟩ := blen_le A0
  have b3 := blen_le_of hA
  have b4 := lt_blen A
  obtain ⟨N, hN⟩ : ∃ N : Nat, blen A = N := ⟨_, rfl⟩
  rw [hN] at hl hcase b1 b2 b3 b4
  have HLa : Hid (lastOf true A e = La) := hLa
  have HN : Hid (blen A = N) := hN
  have B1 : Hid _ := b1
  have B4 : Hid _ := b4
  have HA : Hid _ := hA
  have hq : quo A (La - e) < 2 ^ 63 := by
    obtain ⟨x, k1, k2, _⟩ := kept true A0 e (min e (-149)) (by omega) (by show _ ≤ (-149 : Int); omega)
    rw [hLa] at k2
    exact Nat.lt_of_lt_of_le k2 (by decide)
  have HQ : Hid _ := hq
  clear hLa hN b1 b4 hA hq
  have p52 : ((fP true : Nat) : Int) = 23 := rfl
  have l74 : fL true = -149 := rfl
  rw [p52, l74] at hcase
  clear p52 l74
  have hk : -149 ≤ La ∧ e + (N : Int) - 1 - La ≤ 23 ∧ La ≤ 300000 := by rcases hcase with ⟨a, rfl⟩ | ⟨a, rfl⟩ <;> refine ⟨?_, ?_, ?_⟩ <;> omega
  obtain ⟨hk1, hk2, hk3⟩ := hk
  have N1 : ((N : Int) == 0) = false := by simp; omega
  go_enter Tryz.func106, Tryz.ntmps106
  go_upto_if 44 with (first
      | (go_at_call 93; refine (hs _).mono ?_; rintro r w1 ⟨rfl, hw⟩; rw [hw]; clear hw w1)
      | (go_at_call 176; refine hl.mono ?_; rintro r w1 ⟨rfl, hw⟩; rw [hw]; clear hw w1))
  go_cut [15] from 23 to 46 (fun s wx => s = .int .i64 La ∧ wx = w)
  case first =>
    rcases hcase with ⟨hc, hLa⟩ | ⟨hc, hLa⟩
    · have HL : Hid _ := hLa
      clear hLa
      go_wp2_with fail
      go_meet
      case rel => exact ⟨by rw [HL.out], rfl⟩
    · have HL : Hid _ := hLa
      clear hLa
      go_wp2_with fail
      go_meet
      case rel => exact ⟨by rw [HL.out], rfl⟩
  case rest =>
    obtain ⟨rfl, hw⟩ := hcut
    rw [hw]
    clear hw wc hcase hs hl
    go_wp2
    go_loop [16, 17] (fun q i => ∃ j : Nat, j ≤ N ∧ q = .int .u64 ((qTo A (La - e) j : Nat) : Int) ∧ ((j = 0 ∧ i = .int .i64 (-1)) ∨ ∃ i0 : Nat, j = i0 + 1 ∧ i = .int .i64 (i0 : Int))) (fun _ i => (intOf i + 1).toNat)
    case atStart =>
      refine ⟨N, Nat.le_refl _, by rw [qTo_top _ B4.out]; rfl, Or.inr ⟨N - 1, by omega, by go_num⟩⟩
    case round =>
      obtain ⟨j, hj, rfl, hj2⟩ := hrel
      rcases hj2 with ⟨rfl, rfl⟩ | ⟨i0, rfl, rfl⟩
      · rw [qTo_end]
        obtain ⟨Q, hQ⟩ : ∃ Q : Nat, quo A (La - e) = Q := ⟨_, rfl⟩
        have HQ' : Hid _ := hQ
        rw [hQ]
        clear hQ
        go_wp2
        go_loop [18, 19, 20] (fun h l i => ∃ j : Nat, j ≤ N ∧ i = .int .i64 (j : Int) ∧ h = .bool (half (A % 2 ^ j) (La - e)) ∧ l = .bool (low (A % 2 ^ j) (La - e))) (fun _ _ i => N - (intOf i).toNat)
        case atStart => exact ⟨0, by omega, rfl, by rw [(hl_zero A _).1], by rw [(hl_zero A _).2]⟩
        case round =>
          obtain ⟨j, hj, rfl, rfl, rfl⟩ := hrel
          by_cases hlt : j < N
          · have cj : w.cell? ⟨b, j, none⟩ = some (.bool (A.testBit j)) := row j (by omega)
            have t1 : (j : Int) < (N : Int) := by omega
            cases tb : A.testBit j
            · have Z : Hid _ := hl_no (k := La - e) tb
              rw [tb] at cj
              clear tb row
              go_wp2
              go_round
              case rel => exact ⟨j + 1, by omega, by go_num, by rw [Z.out.1], by rw [Z.out.2]⟩
              case measure => simp [intOf]; omega
            · rcases Int.lt_trichotomy (e + (j : Int)) (La - 1) with hc | hc | hc
              · have Z : Hid _ := hl_lt (k := La - e) tb (by omega)
                have hne : (e + (j : Int) == La - 1) = false := by simp; omega
                rw [tb] at cj
                clear tb row
                go_wp2
                go_round
                case rel => exact ⟨j + 1, by omega, by go_num, by rw [Z.out.1], by rw [Z.out.2]⟩
                case measure => simp [intOf]; omega
              · have Z : Hid _ := hl_eq (k := La - e) tb (by omega)
                have hne : (e + (j : Int) == La - 1) = true := by simp; omega
                have hnl : ¬ e + (j : Int) < La - 1 := by omega
                rw [tb] at cj
                clear tb row hc
                go_wp2
                go_round
                case rel => exact ⟨j + 1, by omega, by go_num, by rw [Z.out.1], by rw [Z.out.2]⟩
                case measure => simp [intOf]; omega
              · have Z : Hid _ := hl_gt (A := A) (i := j) (k := La - e) (by omega)
                have hne : (e + (j : Int) == La - 1) = false := by simp; omega
                have hnl : ¬ e + (j : Int) < La - 1 := by omega
                rw [tb] at cj
                clear tb row
                go_wp2
                go_round
                case rel => exact ⟨j + 1, by omega, by go_num, by rw [Z.out.1], by rw [Z.out.2]⟩
                case measure => simp [intOf]; omega
          · have : j = N := by omega
            subst this
            rw [Nat.mod_eq_of_lt B4.out]
            obtain ⟨H, hH⟩ : ∃ H : Bool, half A (La - e) = H := ⟨_, rfl⟩
            obtain ⟨L, hL⟩ : ∃ L : Bool, low A (La - e) = L := ⟨_, rfl⟩
            have HH : Hid _ := hH
            have HL : Hid _ := hL
            rw [hH, hL]
            clear hH hL
            go_upto_region 24 with fail
            iterate 8 go_step
            go_cut [21] from 114 to 144 (fun s wx => s = .bool (away m below (Q % 2 == 1) H L) ∧ wx = w)
            case first =>
              by_cases m1 : m = 1
              · subst m1
                cases below <;> cases H <;> cases L <;> (go_wp2_with fail; go_meet; exact ⟨rfl, rfl⟩)
              · by_cases m2 : m = 2
                · subst m2
                  cases below <;> cases H <;> cases L <;> (go_wp2_with fail; go_meet; exact ⟨rfl, rfl⟩)
                · by_cases m3 : m = 3
                  · subst m3
                    go_wp2_with fail
                    go_meet
                    exact ⟨rfl, rfl⟩
                  · have n1 : (m == 1) = false := by simp [m1]
                    have n2 : (m == 2) = false := by simp [m2]
                    have n3 : (m == 3) = false := by simp [m3]
                    have aw : Hid (∀ o, away m below o H L = (H && (L || o))) := fun o => by unfold away; rw [if_neg m1, if_neg m2, if_neg m3]
                    cases H
                    · go_wp2_with fail
                      go_meet
                      exact ⟨by rw [aw.out]; rfl, rfl⟩
                    · cases L
                      · have od : ((Q : Int) % 2 == 1) = (Q % 2 == 1) := by rw [Bool.eq_iff_iff]; simp; omega
                        go_wp2_with fail
                        go_meet
                        exact ⟨by rw [aw.out]; rfl, rfl⟩
                      · go_wp2_with fail
                        go_meet
                        exact ⟨by rw [aw.out]; rfl, rfl⟩
            case rest =>
              obtain ⟨rfl, hw⟩ := hcut
              rw [hw]
              clear hw wc
              have T := ref_fin true m below La Q H L
              obtain ⟨mo, hmo⟩ : ∃ mo : Bool, away m below (Q % 2 == 1) H L = mo := ⟨_, rfl⟩
              rw [hmo] at T ⊢
              have T2 : Hid (rnd true m below A e = sgnd true below (refSize true m below La (Q + mo.toNat)) ∧ Q < 2 ^ 24 ∧ (La = -149 ∨ 2 ^ 23 ≤ Q)) := by
                obtain ⟨x, k1, k2, k3, _⟩ := kept true A0 e (min e (-149)) (by omega) (by show _ ≤ (-149 : Int); omega)
                have fl : fL true = -149 := rfl
                have fp : fP true = 23 := rfl
                rw [HLa.out, HQ'.out, fp] at k2 k3
                rw [HLa.out, fl] at k1
                have k4 : La = -149 ∨ 2 ^ 23 ≤ Q := by rcases k3 with k | k; left; omega; right; exact k
                have T3 := T k2 (by rw [fl, fp]; exact k4) (by rw [fl]; exact hk1)
                refine ⟨?_, k2, k4⟩
                unfold rnd
                rw [if_neg A0]
                unfold mag
                rw [HLa.out, HQ'.out, HH.out, HL.out, ← T3]
                cases mo <;> rfl
              clear T hmo HLa HQ' HH HL HQ B1 B4 HA HN
              iterate 2 go_step
              go_cut [16] from 145 to 147 (fun s wx => s = .int .u64 ((Q + mo.toNat : Nat) : Int) ∧ wx = w)
              case first =>
                have q53 := T2.out.2.1
                clear T2
                cases mo
                · go_wp2_with fail
                  go_meet
                  exact ⟨rfl, rfl⟩
                · go_wp2_with fail
                  go_meet
                  exact ⟨by go_num, rfl⟩
              case rest =>
                obtain ⟨rfl, hw⟩ := hcut
                rw [hw]
                clear hw wc
                obtain ⟨y, hy⟩ : ∃ y : Int, ((Q + mo.toNat : Nat) : Int) = y := ⟨_, rfl⟩
                have y53 : 0 ≤ y ∧ y ≤ 16777216 := by have := T2.out.2.1; have := Bool.toNat_le mo; omega
                have T : Hid (rnd true m below A e = sgnd true below (refSize true m below La y.toNat)) := by rw [T2.out.1, ← hy]; rfl
                rw [hy]
                clear T2 hy
                obtain ⟨y0, y1⟩ := y53
                have hg : ∀ w, Calls Tryz.prog 98 #[.int .i64 1, .bool below] w fun e w' => e = .returned (.int .u64 (if below then 2147483648 else 0)) ∧ w' = w := rsign_any true below
                by_cases c1 : y = 16777216
                · subst c1
                  obtain ⟨X, hX⟩ : ∃ X : Int, La + 1 + 149 + 1 = X := ⟨_, rfl⟩
                  have x1 : 0 ≤ X := by omega
                  by_cases c3 : X < 255
                  · have TT : Hid _ := T.out.trans (ref_up_s m below La X hX.symm c3)
                    have wx : IntKind.u64.wrap (X * 8388608) = X * 8388608 := by rw [IntKind.wrap_u64]; omega
                    have pu := put_s' below X 0 x1 c3 (by decide) (by decide)
                    obtain ⟨S, hS⟩ : ∃ S : Int, (if below then (2147483648 : Int) else 0) = S := ⟨_, rfl⟩
                    rw [hS] at hg pu
                    have PU : Hid _ := pu
                    clear hS pu T
                    go_wp2_with fail
                    go_quiet ((go_at_call 98; exact Calls.quiet_of_same (hg _)))
                    go_wp2_with fail
                    go_ret
                    exact ⟨u64r_eq (by rw [TT.out, ← PU.out]; rfl), _, rfl⟩
                  · have nx : ¬ X < 255 := c3
                    have hmo := rmost_s
                    have hin : ∀ w, Calls Tryz.prog 177 #[.int .i64 1, .bool below] w fun e w' => e = .returned (.int .u64 (sgnd true below 2139095040)) ∧ ∃ n, w' = w.drewN n := rinf_any true below
                    have om : bits BinOp.or IntKind.u64 (if below then 2147483648 else 0) 2139095039 = sgnd true below 2139095039 := or_sign true below 2139095039 (by decide)
                    have GH : Hid _ := T.out.trans (ref_great_s m below La _ (Or.inl ⟨rfl, by omega⟩))
                    clear T
                    obtain ⟨S, hS⟩ : ∃ S : Int, (if below then (2147483648 : Int) else 0) = S := ⟨_, rfl⟩
                    rw [hS] at hg om
                    have OM : Hid _ := om
                    clear hS om
                    obtain ⟨VI, hVI⟩ : ∃ V : Int, sgnd true below 2139095040 = V := ⟨_, rfl⟩
                    rw [hVI] at hin
                    have HVI : Hid _ := hVI
                    clear hVI
                    rcases great_ways m below 2139095039 2139095040 with ⟨g, rfl⟩ | ⟨g, _, rfl, rfl⟩ | ⟨g, _, _, rfl, rfl⟩ | ⟨g, _, rfl, rfl⟩ | ⟨g, _, _, rfl, rfl⟩ | ⟨g, m3, m1, m2⟩
                    all_goals
                      have GV : Hid _ := GH.out
                      rw [g] at GV
                      have G2 : Hid _ := GV
                      clear GV GH g
                      go_wp2_with (first
                        | (go_at_call 98; refine (hg _).mono ?_; rintro r w1 ⟨rfl, hw⟩; rw [hw]; clear hw w1)
                        | (go_at_call 37; refine (hmo _).mono ?_; rintro r w1 ⟨rfl, hw⟩; rw [hw]; clear hw w1)
                        | (go_at_call 177; refine (hin _).mono ?_; rintro r w1 ⟨rfl, nn, hw⟩; rw [hw]; clear hw w1))
                      go_ret
                    · exact ⟨u64r_eq (by rw [G2.out]; exact OM.out), drew_0 w⟩
                    · exact ⟨u64r_eq (by rw [G2.out]; exact OM.out), drew_0 w⟩
                    · exact ⟨u64r_eq (by rw [G2.out]; exact OM.out), drew_0 w⟩
                    · exact ⟨u64r_eq (by rw [G2.out]; exact HVI.out.symm), nn, rfl⟩
                    · exact ⟨u64r_eq (by rw [G2.out]; exact HVI.out.symm), nn, rfl⟩
                    · exact ⟨u64r_eq (by rw [G2.out]; exact HVI.out.symm), nn, rfl⟩
                · have c1' : (y == 16777216) = false := by simp; omega
                  obtain ⟨X, hX⟩ : ∃ X : Int, La + 149 + 1 = X := ⟨_, rfl⟩
                  have x1 : 0 ≤ X := by omega
                  by_cases c2 : y < 8388608
                  · have pu := put_s' below 0 y (by omega) (by decide) y0 c2
                    have aw : bits BinOp.and IntKind.u64 y 8388607 = y := by
                      rw [and_bits y.toNat 23 8388607 rfl (by decide) y (by omega) (by omega)]
                      show y % 8388608 = _
                      omega
                    have TT : Hid _ := T.out.trans (ref_sub_s m below La y y0 c2)
                    obtain ⟨S, hS⟩ : ∃ S : Int, (if below then (2147483648 : Int) else 0) = S := ⟨_, rfl⟩
                    rw [hS] at hg pu
                    have PU : Hid _ := pu
                    clear hS pu T
                    go_wp2_with fail
                    go_quiet ((go_at_call 98; exact Calls.quiet_of_same (hg _)))
                    go_wp2_with fail
                    go_ret
                    exact ⟨u64r_eq (by rw [TT.out, ← PU.out]; rfl), _, rfl⟩
                  · by_cases c3 : X < 255
                    · have TT : Hid _ := T.out.trans (ref_norm_s m below La y X hX.symm c1 c2 y1 c3)
                      have wx : IntKind.u64.wrap (X * 8388608) = X * 8388608 := by rw [IntKind.wrap_u64]; omega
                      have pu := put_s' below X (y - 8388608) x1 c3 (by omega) (by omega)
                      have aw : bits BinOp.and IntKind.u64 y 8388607 = y - 8388608 := by
                        rw [and_bits y.toNat 23 8388607 rfl (by decide) y (by omega) (by omega)]
                        show y % 8388608 = _
                        omega
                      obtain ⟨S, hS⟩ : ∃ S : Int, (if below then (2147483648 : Int) else 0) = S := ⟨_, rfl⟩
                      rw [hS] at hg pu
                      have PU : Hid _ := pu
                      clear hS pu T
                      go_wp2_with fail
                      go_quiet ((go_at_call 98; exact Calls.quiet_of_same (hg _)))
                      go_wp2_with fail
                      go_ret
                      exact ⟨u64r_eq (by rw [TT.out, ← PU.out]), _, rfl⟩
                    · have nx : ¬ X < 255 := c3
                      have hmo := rmost_s
                      have hin : ∀ w, Calls Tryz.prog 177 #[.int .i64 1, .bool below] w fun e w' => e = .returned (.int .u64 (sgnd true below 2139095040)) ∧ ∃ n, w' = w.drewN n := rinf_any true below
                      have om : bits BinOp.or IntKind.u64 (if below then 2147483648 else 0) 2139095039 = sgnd true below 2139095039 := or_sign true below 2139095039 (by decide)
                      have GH : Hid _ := T.out.trans (ref_great_s m below La _ (Or.inr ⟨c1, by omega, by omega⟩))
                      clear T
                      obtain ⟨S, hS⟩ : ∃ S : Int, (if below then (2147483648 : Int) else 0) = S := ⟨_, rfl⟩
                      rw [hS] at hg om
                      have OM : Hid _ := om
                      clear hS om
                      obtain ⟨VI, hVI⟩ : ∃ V : Int, sgnd true below 2139095040 = V := ⟨_, rfl⟩
                      rw [hVI] at hin
                      have HVI : Hid _ := hVI
                      clear hVI
                      rcases great_ways m below 2139095039 2139095040 with ⟨g, rfl⟩ | ⟨g, _, rfl, rfl⟩ | ⟨g, _, _, rfl, rfl⟩ | ⟨g, _, rfl, rfl⟩ | ⟨g, _, _, rfl, rfl⟩ | ⟨g, m3, m1, m2⟩
                      all_goals
                        have GV : Hid _ := GH.out
                        rw [g] at GV
                        have G2 : Hid _ := GV
                        clear GV GH g
                        go_wp2_with (first
                          | (go_at_call 98; refine (hg _).mono ?_; rintro r w1 ⟨rfl, hw⟩; rw [hw]; clear hw w1)
                          | (go_at_call 37; refine (hmo _).mono ?_; rintro r w1 ⟨rfl, hw⟩; rw [hw]; clear hw w1)
                          | (go_at_call 177; refine (hin _).mono ?_; rintro r w1 ⟨rfl, nn, hw⟩; rw [hw]; clear hw w1))
                        go_ret
                      · exact ⟨u64r_eq (by rw [G2.out]; exact OM.out), drew_0 w⟩
                      · exact ⟨u64r_eq (by rw [G2.out]; exact OM.out), drew_0 w⟩
                      · exact ⟨u64r_eq (by rw [G2.out]; exact OM.out), drew_0 w⟩
                      · exact ⟨u64r_eq (by rw [G2.out]; exact HVI.out.symm), nn, rfl⟩
                      · exact ⟨u64r_eq (by rw [G2.out]; exact HVI.out.symm), nn, rfl⟩
                      · exact ⟨u64r_eq (by rw [G2.out]; exact HVI.out.symm), nn, rfl⟩
      · have hi0 : (i0 : Int) + 1 ≤ N := by omega
        have cj : w.cell? ⟨b, i0, none⟩ = some (.bool (A.testBit i0)) := row i0 (by omega)
        have t1 : (0 : Int) ≤ (i0 : Int) := by omega
        by_cases hge : La ≤ e + (i0 : Int)
        · obtain ⟨t, ht⟩ : ∃ t : Nat, e + (i0 : Int) - La = (t : Int) := ⟨(e + (i0 : Int) - La).toNat, by omega⟩
          have t64 : t < 64 := by omega
          have qw := wrap_pow t t64
          cases tb : A.testBit i0
          · have Z := q_no (A := A) (i := i0) (k := La - e) (t := t) (by omega) t64 HQ.out tb
            rw [tb] at cj
            clear tb row
            go_wp2
            go_round
            case rel => exact ⟨i0, by omega, rfl, by rcases i0 with _ | i1; exact Or.inl ⟨rfl, by go_num⟩; exact Or.inr ⟨i1, rfl, by go_num⟩⟩
            case measure => simp [intOf]
          · have Z := q_yes (A := A) (i := i0) (k := La - e) (t := t) (by omega) t64 HQ.out tb
            rw [tb] at cj
            clear tb row
            go_wp2
            go_round
            case rel => exact ⟨i0, by omega, rfl, by rcases i0 with _ | i1; exact Or.inl ⟨rfl, by go_num⟩; exact Or.inr ⟨i1, rfl, by go_num⟩⟩
            case measure => simp [intOf]
        · have Z : Hid _ := qTo_no A (La - e) i0 (by omega)
          have hge' : e + (i0 : Int) < La := by omega
          cases tb : A.testBit i0
          · rw [tb] at cj
            clear tb row
            go_wp2
            go_round
            case rel => exact ⟨i0, by omega, by rw [Z.out], by rcases i0 with _ | i1; exact Or.inl ⟨rfl, by go_num⟩; exact Or.inr ⟨i1, rfl, by go_num⟩⟩
            case measure => simp [intOf]
          · rw [tb] at cj
            clear tb row
            go_wp2
            go_round
            case rel => exact ⟨i0, by omega, by rw [Z.out], by rcases i0 with _ | i1; exact Or.inl ⟨rfl, by go_num⟩; exact Or.inr ⟨i1, rfl, by go_num⟩⟩
            case measure => simp [intOf]
end Go.Proofs.YtgdknlnpfnifiaaGreat
namespace Go.Proofs.YtgdknlnpfnifiaaGreat
open Go.RowKit
set_option linter.unusedVariables false
set_option linter.unusedSimpArgs false
def BitV (w : World) (v : Value) (n A : Nat) : Prop := A < 2 ^ n ∧ ((v = .slice none 0 0 ∧ n = 0) ∨ ∃ b cap, v = .slice (some ⟨b, 0, none⟩) n cap ∧ b < w.heap.size ∧ RowB w b n (fun i => A.testBit i))
theorem length_nil (w : World) : Calls Tryz.prog 176 #[.slice none 0 0] w fun e w' => e = .returned (.int .i64 0) ∧ w' = w := by
  go_enter Tryz.func176, Tryz.ntmps176
  go_wp2
  go_loopw [3] (fun i wr => i = .int .i64 0 ∧ wr = w) (fun i _ => 0)
  case atStart => exact ⟨rfl, rfl⟩
  case round =>
    obtain ⟨rfl, rfl⟩ := hrel
    go_wp2
    go_ret
    exact ⟨rfl, rfl⟩
set_option maxRecDepth 20000 in
theorem rounded_zero (s : Bool) (m : Int) (below : Bool) (v : Value) (e : Int) (w : World) (hl : Calls Tryz.prog 176 #[v] w fun e w' => e = .returned (.int .i64 0) ∧ w' = w) :
    Calls Tryz.prog 106 #[.int .i64 (fb s), .int .i64 m, .bool below, v, .int .i64 e] w fun r w' => r = .returned (.int .u64 (sgnd s below 0)) ∧ ∃ k, w' = w.drewN k := by
  have hg := rsign_any s below
  have e00 : (if below then fS s else 0) = sgnd s below 0 := by unfold sgnd; cases below <;> simp
  have e0 : Hid _ := e00
  clear e00
  generalize sgnd s below 0 = V at *
  generalize (if below then fS s else 0) = S at *
  cases s
  · have hs := rsize_d
    have hg' : ∀ w, Calls Tryz.prog 98 #[.int .i64 0, .bool below] w fun e w' => e = .returned (.int .u64 S) ∧ w' = w := hg
    clear hg
    show Calls Tryz.prog 106 #[.int .i64 0, .int .i64 m, .bool below, v, .int .i64 e] w _
    go_enter Tryz.func106, Tryz.ntmps106
    go_wp2_with (first
      | (go_at_call 93; refine (hs _).mono ?_; rintro r w1 ⟨rfl, hw⟩; rw [hw]; clear hw w1)
      | (go_at_call 176; refine hl.mono ?_; rintro r w1 ⟨rfl, hw⟩; rw [hw]; clear hw w1)
      | (go_at_call 98; refine (hg' _).mono ?_; rintro r w1 ⟨rfl, hw⟩; rw [hw]; clear hw w1))
    go_ret
    exact ⟨u64r_eq e0.out, drew_0 w⟩
  · have hs := rsize_s
    have hg' : ∀ w, Calls Tryz.prog 98 #[.int .i64 1, .bool below] w fun e w' => e = .returned (.int .u64 S) ∧ w' = w := hg
    clear hg
    show Calls Tryz.prog 106 #[.int .i64 1, .int .i64 m, .bool below, v, .int .i64 e] w _
    go_enter Tryz.func106, Tryz.ntmps106
    go_wp2_with (first
      | (go_at_call 93; refine (hs _).mono ?_; rintro r w1 ⟨rfl, hw⟩; rw [hw]; clear hw w1)
      | (go_at_call 176; refine hl.mono ?_; rintro r w1 ⟨rfl, hw⟩; rw [hw]; clear hw w1)
      | (go_at_call 98; refine (hg' _).mono ?_; rintro r w1 ⟨rfl, hw⟩; rw [hw]; clear hw w1))
    go_ret
    exact ⟨u64r_eq e0.out, drew_0 w⟩
theorem rounded_any (s : Bool) (m : Int) (below : Bool) (v : Value) (n A : Nat) (hn : n ≤ 100000) (e : Int) (he1 : -100000 ≤ e) (he2 : e ≤ 100000) (w : World) (h : BitV w v n A) :
    Calls Tryz.prog 106 #[.int .i64 (fb s), .int .i64 m, .bool below, v, .int .i64 e] w fun r w' => r = .returned (.int .u64 (rnd s m below A e)) ∧ ∃ k, w' = w.drewN k := by
  obtain ⟨hA, h⟩ := h
  by_cases A0 : A = 0
  · subst A0
    rw [rnd_zero]
    rcases h with ⟨rfl, rfl⟩ | ⟨b, cap, rfl, hb, row⟩
    · exact rounded_zero s m below _ e w (length_nil w)
    · refine rounded_zero s m below _ e w ?_
      have := length_any b n cap 0 hA (by omega) w row
      rw [blen_zero] at this
      exact this
  · rcases h with ⟨rfl, rfl⟩ | ⟨b, cap, rfl, hb, row⟩
    · exfalso
      rw [Nat.pow_zero] at hA
      omega
    · cases s
      · exact rounded_d m below b n cap A hA hn e he1 he2 w row A0
      · exact rounded_s m below b n cap A hA hn e he1 he2 w row A0
/-! ### Rows of bits that the call itself makes -/
def Bl (n A : Nat) : List Value := (List.range n).map (fun i => .bool (A.testBit i))
theorem Bl_get (n A i : Nat) (h : i < n) : (Bl n A)[i]? = some (.bool (A.testBit i)) := by simp [Bl, h]
theorem Bl_snoc (n A : Nat) : Bl n A ++ [.bool (A.testBit n)] = Bl (n + 1) A := by simp [Bl, List.range_succ]
theorem Tryz.infoB : (Tryz.prog.info? 4).map (fun i => (i.zero, i.size, i.bytes)) = some (some (.bool false), 1, 1) := by kernel_rfl
theorem own_bits {w : World} {base n A : Nat} {v : Value} (h : w.ownsRow base 4 1 v n (Bl n A)) (hA : A < 2 ^ n) : BitV w v n A := by
  refine ⟨hA, ?_⟩
  obtain ⟨h1, h2⟩ := id h
  rcases h2 with ⟨rfl, rfl⟩ | ⟨g, cap, cur, rfl, _, hg, _⟩
  · exact Or.inl ⟨rfl, rfl⟩
  · refine Or.inr ⟨g, cap, rfl, ?_, ?_⟩
    · exact lt_of_block hg
    · intro i hi
      rw [h.cellAt i (by omega), Bl_get _ _ _ hi]
theorem BitV.below {W w1 : World} {v : Value} {n A : Nat} (h : BitV W v n A) (hb : Below W.heap.size W w1) : BitV w1 v n A := by
  obtain ⟨a, h⟩ := h
  refine ⟨a, ?_⟩
  rcases h with h | ⟨b, cap, e, hs, row⟩
  · exact Or.inl h
  · exact Or.inr ⟨b, cap, e, Nat.lt_of_lt_of_le hs hb.size, row.below hb hs⟩
theorem own_block {w : World} {base n size : Nat} {e : TypeId} {v : Value} {xs : List Value} (h : w.ownsRow base e size v n xs) : ∀ k, v.ownBlock = some k → base ≤ k := by
  obtain ⟨_, h⟩ := h
  rcases h with ⟨rfl, _⟩ | ⟨g, cap, cur, rfl, hg, _⟩
  · intro k hk; simp [Value.ownBlock] at hk
  · intro k hk; simp [Value.ownBlock] at hk; omega
end Go.Proofs.YtgdknlnpfnifiaaGreat
namespace Go.Proofs.YtgdknlnpfnifiaaGreat
open Go.RowKit
set_option linter.unusedVariables false

theorem bitN (A k : Nat) : A.testBit k = decide (A / 2 ^ k % 2 = 1) := Nat.testBit_eq_decide_div_mod_eq
end Go.Proofs.YtgdknlnpfnifiaaGreat
namespace Go.Proofs.YtgdknlnpfnifiaaGreat
open Go.RowKit
set_option linter.unusedVariables false

structure TwoMem (n : Nat) (ah al bh bl : Int) (w : World) : Prop where
  s0 : n < w.heap.size
  s1 : n + 1 < w.heap.size
  s2 : n + 1 + 1 < w.heap.size
  c0 : w.cell? ⟨n, 0, none⟩ = some (.int .u64 ah)
  c1 : w.cell? ⟨n, 1, none⟩ = some (.int .u64 al)
  d0 : w.cell? ⟨n + 1, 0, none⟩ = some (.int .u64 bh)
  d1 : w.cell? ⟨n + 1, 1, none⟩ = some (.int .u64 bl)
  e0 : ∃ x, w.cell? ⟨n + 1 + 1, 0, none⟩ = some (.int .u64 x)
  e1 : ∃ x, w.cell? ⟨n + 1 + 1, 1, none⟩ = some (.int .u64 x)
  f0 : w.frozen? ⟨n + 1 + 1, 0, none⟩ = false
  f1 : w.frozen? ⟨n + 1 + 1, 1, none⟩ = false
theorem TwoMem.below {n : Nat} {ah al bh bl : Int} {W w1 : World} (h : TwoMem n ah al bh bl W) (hb : Below W.heap.size W w1) : TwoMem n ah al bh bl w1 := by
  obtain ⟨hc, hf⟩ := bcell hb
  have hs := hb.size
  refine ⟨by have := h.s0; omega, by have := h.s1; omega, by have := h.s2; omega, ?_, ?_, ?_, ?_, ?_, ?_, ?_, ?_⟩
  · rw [hc _ _ h.s0]; exact h.c0
  · rw [hc _ _ h.s0]; exact h.c1
  · rw [hc _ _ h.s1]; exact h.d0
  · rw [hc _ _ h.s1]; exact h.d1
  · rw [hc _ _ h.s2]; exact h.e0
  · rw [hc _ _ h.s2]; exact h.e1
  · rw [hf _ _ h.s2]; exact h.f0
  · rw [hf _ _ h.s2]; exact h.f1

theorem TwoMem.drew {n : Nat} {ah al bh bl : Int} {W : World} (h : TwoMem n ah al bh bl W) : TwoMem n ah al bh bl W.drew :=
  ⟨h.s0, h.s1, h.s2, h.c0, h.c1, h.d0, h.d1, h.e0, h.e1, h.f0, h.f1⟩

/-! ### Differences -/
end Go.Proofs.YtgdknlnpfnifiaaGreat
namespace Go.Proofs.YtgdknlnpfnifiaaGreat
open Go.RowKit
set_option linter.unusedVariables false

structure OneMem (n : Nat) (ah al : Int) (w : World) : Prop where
  s0 : n < w.heap.size
  s1 : n + 1 < w.heap.size
  c0 : w.cell? ⟨n, 0, none⟩ = some (.int .u64 ah)
  c1 : w.cell? ⟨n, 1, none⟩ = some (.int .u64 al)
  e0 : ∃ x, w.cell? ⟨n + 1, 0, none⟩ = some (.int .u64 x)
  e1 : ∃ x, w.cell? ⟨n + 1, 1, none⟩ = some (.int .u64 x)
  f0 : w.frozen? ⟨n + 1, 0, none⟩ = false
  f1 : w.frozen? ⟨n + 1, 1, none⟩ = false
theorem OneMem.below {n : Nat} {ah al : Int} {W w1 : World} (h : OneMem n ah al W) (hb : Below W.heap.size W w1) : OneMem n ah al w1 := by
  obtain ⟨hc, hf⟩ := bcell hb
  have hs := hb.size
  refine ⟨by have := h.s0; omega, by have := h.s1; omega, ?_, ?_, ?_, ?_, ?_, ?_⟩
  · rw [hc _ _ h.s0]; exact h.c0
  · rw [hc _ _ h.s0]; exact h.c1
  · rw [hc _ _ h.s1]; exact h.e0
  · rw [hc _ _ h.s1]; exact h.e1
  · rw [hf _ _ h.s1]; exact h.f0
  · rw [hf _ _ h.s1]; exact h.f1
theorem OneMem.far {n : Nat} {ah al : Int} {W : World} (h : OneMem n ah al W) (a : Addr) (v : Value) (h0 : a.block ≠ n) (h1 : a.block ≠ n + 1) : OneMem n ah al (W.setCell a v) := by
  obtain ⟨s0, s1, c0, c1, e0, e1, f0, f1⟩ := h
  refine ⟨by simpa using s0, by simpa using s1, ?_, ?_, ?_, ?_, by simpa [go_sem] using f0, by simpa [go_sem] using f1⟩
  · rw [World.cell?_setCell_far _ _ _ _ h0]; exact c0
  · rw [World.cell?_setCell_far _ _ _ _ h0]; exact c1
  · rw [World.cell?_setCell_far _ _ _ _ h1]; exact e0
  · rw [World.cell?_setCell_far _ _ _ _ h1]; exact e1
/-! ### Up -/
def upTo (A M k : Nat) (j : Nat) : Bool := decide (k ≤ j) && (decide (M ≤ j) && A.testBit (j - M))
/-! ### Down -/
end Go.Proofs.YtgdknlnpfnifiaaGreat
namespace Go.Proofs.YtgdknlnpfnifiaaGreat
open Go.RowKit
set_option linter.unusedVariables false

structure SumMem (n : Nat) (sh sl : Int) (w : World) : Prop where
  s0 : n < w.heap.size
  s1 : n + 1 < w.heap.size
  d0 : ∃ x, w.cell? ⟨n, 0, none⟩ = some (.int .u64 x)
  d1 : ∃ x, w.cell? ⟨n, 1, none⟩ = some (.int .u64 x)
  e0 : w.cell? ⟨n + 1, 0, none⟩ = some (.int .u64 sh)
  e1 : w.cell? ⟨n + 1, 1, none⟩ = some (.int .u64 sl)
  f0 : w.frozen? ⟨n, 0, none⟩ = false
  f1 : w.frozen? ⟨n, 1, none⟩ = false
  f2 : w.frozen? ⟨n + 1, 0, none⟩ = false
  f3 : w.frozen? ⟨n + 1, 1, none⟩ = false
theorem SumMem.below {n : Nat} {sh sl : Int} {W w1 : World} (h : SumMem n sh sl W) (hb : Below W.heap.size W w1) : SumMem n sh sl w1 := by
  obtain ⟨hc, hf⟩ := bcell hb
  have hs := hb.size
  refine ⟨by have := h.s0; omega, by have := h.s1; omega, ?_, ?_, ?_, ?_, ?_, ?_, ?_, ?_⟩
  · rw [hc _ _ h.s0]; exact h.d0
  · rw [hc _ _ h.s0]; exact h.d1
  · rw [hc _ _ h.s1]; exact h.e0
  · rw [hc _ _ h.s1]; exact h.e1
  · rw [hf _ _ h.s0]; exact h.f0
  · rw [hf _ _ h.s0]; exact h.f1
  · rw [hf _ _ h.s1]; exact h.f2
  · rw [hf _ _ h.s1]; exact h.f3
theorem SumMem.set {n : Nat} {sh sl : Int} {W : World} (h : SumMem n sh sl W) (x y : Int) : SumMem n x y ((W.setCell ⟨n + 1, 0, none⟩ (.int .u64 x)).setCell ⟨n + 1, 1, none⟩ (.int .u64 y)) := by
  obtain ⟨s0, s1, ⟨x0, d0⟩, ⟨x1, d1⟩, e0, e1, f0, f1, f2, f3⟩ := h
  refine ⟨by simpa using s0, by simpa using s1, ⟨x0, ?_⟩, ⟨x1, ?_⟩, ?_, ?_, ?_, ?_, ?_, ?_⟩ <;> simp [go_sem, *]
theorem SumMem.drew {n : Nat} {sh sl : Int} {W : World} (h : SumMem n sh sl W) : SumMem n sh sl W.drew := ⟨h.s0, h.s1, h.d0, h.d1, h.e0, h.e1, h.f0, h.f1, h.f2, h.f3⟩
end Go.Proofs.YtgdknlnpfnifiaaGreat
namespace Go.Proofs.YtgdknlnpfnifiaaGreat
open Go.RowKit
set_option linter.unusedVariables false
set_option linter.unusedSimpArgs false
theorem below_drewN {B : Nat} {a w : World} (h : Below B a w) (n : Nat) : Below B a (w.drewN n) := ⟨h.os, h.tape, h.output, h.size, h.block⟩
end Go.Proofs.YtgdknlnpfnifiaaGreat
namespace Go.Proofs.YtgdknlnpfnifiaaGreat
open Go.RowKit
set_option linter.unusedVariables false

/-! ### The number of bits -/
structure LenTo (A k n : Nat) : Prop where
  le : n ≤ k
  lt : A % 2 ^ k < 2 ^ n
  ge : A % 2 ^ k = 0 ∨ 2 ^ n ≤ 2 * (A % 2 ^ k)
  zero : A % 2 ^ k = 0 → n = 0
theorem LenTo.no {A k n : Nat} (h : LenTo A k n) (hb : A.testBit k = false) : LenTo A (k + 1) n := by
  rw [bitN, decide_eq_false_iff_not] at hb
  have e : A % 2 ^ (k + 1) = A % 2 ^ k := by
    rw [Nat.mod_pow_succ]
    have : A / 2 ^ k % 2 = 0 := by omega
    rw [this]; omega
  exact ⟨by have := h.le; omega, by rw [e]; exact h.lt, by rw [e]; exact h.ge, by rw [e]; exact h.zero⟩
/-! ### Which one is greater -/
end Go.Proofs.YtgdknlnpfnifiaaGreat


namespace Go.Proofs.YtgdknlnpfnifiaaGreat
open Go.RowKit
set_option linter.unusedVariables false

structure RootTo (A k r : Nat) : Prop where
  mul : r % 2 ^ k = 0
  room : r + 2 ^ k ≤ 18446744073709551616
  lo : r * r ≤ A
  hi : A < (r + 2 ^ k) * (r + 2 ^ k)
theorem RootTo.bit {A k r : Nat} (h : RootTo A (k + 1) r) : (r ||| 2 ^ k) = r + 2 ^ k ∧ r + 2 ^ k < 18446744073709551616 ∧ r % 2 ^ k = 0 := by
  have m := h.mul
  have p := pow_pos' k
  have ro := h.room
  rw [Nat.pow_succ] at m ro
  have d : r % 2 ^ k = 0 := by
    have := Nat.mod_mul_right_mod r (2 ^ k) 2
    rw [m] at this
    simpa using this.symm
  refine ⟨?_, by omega, d⟩
  have e : r = 2 ^ (k + 1) * (r / 2 ^ (k + 1)) := by
    have := Nat.div_add_mod r (2 ^ (k + 1))
    rw [h.mul] at this; omega
  rw [e]
  exact (Nat.two_pow_add_eq_or_of_lt (by rw [Nat.pow_succ]; omega) _).symm
theorem RootTo.take {A k r : Nat} (h : RootTo A (k + 1) r) (c : (r + 2 ^ k) * (r + 2 ^ k) ≤ A) : RootTo A k (r + 2 ^ k) := by
  obtain ⟨_, _, d⟩ := h.bit
  have ro := h.room
  have hi := h.hi
  have e : r + 2 ^ (k + 1) = r + 2 ^ k + 2 ^ k := by rw [Nat.pow_succ]; omega
  rw [e] at ro hi
  exact ⟨by rw [Nat.add_mod_right]; exact d, ro, c, hi⟩
theorem RootTo.fin {A r : Nat} (h : RootTo A 0 r) : r * r ≤ A ∧ A - r * r ≤ 2 * r := by
  have l := h.lo
  have hi := h.hi
  rw [Nat.pow_zero, Nat.add_mul, Nat.mul_add, Nat.one_mul, Nat.mul_one] at hi
  omega
theorem OneMem.drew {n : Nat} {ah al : Int} {W : World} (h : OneMem n ah al W) : OneMem n ah al W.drew := ⟨h.s0, h.s1, h.c0, h.c1, h.e0, h.e1, h.f0, h.f1⟩
theorem OneMem.alloc {n : Nat} {ah al : Int} {W : World} (h : OneMem n ah al W) (o : Obj) : OneMem n ah al (W.alloc o) :=
  h.below ((Below.refl _ _).alloc (Nat.le_refl _) o)
end Go.Proofs.YtgdknlnpfnifiaaGreat
namespace Go.Proofs.YtgdknlnpfnifiaaGreat
open Go.RowKit
set_option linter.unusedVariables false

structure DivMem (n q o : Nat) (ah al rh rl : Int) (A : Nat) (f : Nat → Bool) (w : World) : Prop where
  one : OneMem n ah al w
  rq : RowB w q 128 A.testBit
  ro : RowB w o 128 f
  fo : RowF w o 128
  g0 : w.cell? ⟨o + 1, 0, none⟩ = some (.int .u64 rh)
  g1 : w.cell? ⟨o + 1, 1, none⟩ = some (.int .u64 rl)
  k0 : w.frozen? ⟨o + 1, 0, none⟩ = false
  k1 : w.frozen? ⟨o + 1, 1, none⟩ = false
  nq : n + 1 < q
  qo : q < o
  sz : o + 1 < w.heap.size
theorem DivMem.below {n q o : Nat} {ah al rh rl : Int} {A : Nat} {f : Nat → Bool} {W w1 : World} (h : DivMem n q o ah al rh rl A f W) (hb : Below W.heap.size W w1) : DivMem n q o ah al rh rl A f w1 := by
  obtain ⟨hc, hf⟩ := bcell hb
  have hs := hb.size
  have sz := h.sz; have qo := h.qo
  exact ⟨h.one.below hb, h.rq.below hb (by omega), h.ro.below hb (by omega), h.fo.below hb (by omega), cell_on hb h.g0, cell_on hb h.g1, by rw [hf _ _ sz]; exact h.k0, by rw [hf _ _ sz]; exact h.k1, h.nq, h.qo, by omega⟩
theorem DivMem.set {n q o : Nat} {ah al rh rl : Int} {A : Nat} {f : Nat → Bool} {W : World} (h : DivMem n q o ah al rh rl A f W) (x y : Int) : DivMem n q o ah al x y A f ((W.setCell ⟨o + 1, 0, none⟩ (.int .u64 x)).setCell ⟨o + 1, 1, none⟩ (.int .u64 y)) := by
  have nq := h.nq; have qo := h.qo
  have g0 := h.g0; have g1 := h.g1; have k0 := h.k0; have k1 := h.k1
  exact ⟨(h.one.far _ _ (by show o + 1 ≠ _; omega) (by show o + 1 ≠ _; omega)).far _ _ (by show o + 1 ≠ _; omega) (by show o + 1 ≠ _; omega), (h.rq.far _ _ (by show o + 1 ≠ _; omega)).far _ _ (by show o + 1 ≠ _; omega), (h.ro.far _ _ (by show o + 1 ≠ _; omega)).far _ _ (by show o + 1 ≠ _; omega), (h.fo.set _ _).set _ _, by simp [go_sem, *], by simp [go_sem, *], by simp [go_sem, *], by simp [go_sem, *], nq, qo, by simpa using h.sz⟩
theorem DivMem.bit {n q o : Nat} {ah al rh rl : Int} {A : Nat} {f : Nat → Bool} {W : World} (h : DivMem n q o ah al rh rl A f W) (k : Nat) (hk : k < 128) (v : Bool) : DivMem n q o ah al rh rl A (fun i => if i = k then v else f i) (W.setCell ⟨o, k, none⟩ (.bool v)) := by
  have nq := h.nq; have qo := h.qo
  have g0 := h.g0; have g1 := h.g1; have k0 := h.k0; have k1 := h.k1
  exact ⟨h.one.far _ _ (by show o ≠ _; omega) (by show o ≠ _; omega), h.rq.far _ _ (by show o ≠ _; omega), h.ro.set k v hk, h.fo.set _ _, by simp [go_sem, *], by simp [go_sem, *], by simp [go_sem, *], by simp [go_sem, *], nq, qo, by simpa using h.sz⟩
end Go.Proofs.YtgdknlnpfnifiaaGreat
namespace Go.Proofs.YtgdknlnpfnifiaaGreat
open Go.RowKit
set_option linter.unusedVariables false
set_option linter.unusedSimpArgs false
structure QMem (q o nl T : Nat) (rh rl dl : Int) (X : Nat) (f : Nat → Bool) (w : World) : Prop where
  rq : RowB w q nl (fun i => X.testBit i)
  ro : RowB w o T f
  fo : RowF w o T
  g0 : w.cell? ⟨o + 1, 0, none⟩ = some (.int .u64 rh)
  g1 : w.cell? ⟨o + 1, 1, none⟩ = some (.int .u64 rl)
  k0 : w.frozen? ⟨o + 1, 0, none⟩ = false
  k1 : w.frozen? ⟨o + 1, 1, none⟩ = false
  d0 : w.cell? ⟨o + 2, 0, none⟩ = some (.int .u64 0)
  d1 : w.cell? ⟨o + 2, 1, none⟩ = some (.int .u64 dl)
  qo : q < o
  sz : o + 2 < w.heap.size
theorem QMem.below {q o nl T : Nat} {rh rl dl : Int} {X : Nat} {f : Nat → Bool} {W w1 : World} (h : QMem q o nl T rh rl dl X f W) (hb : Below W.heap.size W w1) : QMem q o nl T rh rl dl X f w1 := by
  obtain ⟨hc, hf⟩ := bcell hb
  have hs := hb.size
  have sz := h.sz; have qo := h.qo
  exact ⟨h.rq.below hb (by omega), h.ro.below hb (by omega), h.fo.below hb (by omega), cell_on hb h.g0, cell_on hb h.g1, by rw [hf _ _ (by omega)]; exact h.k0, by rw [hf _ _ (by omega)]; exact h.k1, cell_on hb h.d0, cell_on hb h.d1, h.qo, by omega⟩
theorem QMem.set {q o nl T : Nat} {rh rl dl : Int} {X : Nat} {f : Nat → Bool} {W : World} (h : QMem q o nl T rh rl dl X f W) (x y : Int) : QMem q o nl T x y dl X f ((W.setCell ⟨o + 1, 0, none⟩ (.int .u64 x)).setCell ⟨o + 1, 1, none⟩ (.int .u64 y)) := by
  have qo := h.qo
  have g0 := h.g0; have g1 := h.g1; have k0 := h.k0; have k1 := h.k1; have d0 := h.d0; have d1 := h.d1
  exact ⟨(h.rq.far _ _ (by show o + 1 ≠ _; omega)).far _ _ (by show o + 1 ≠ _; omega), (h.ro.far _ _ (by show o + 1 ≠ _; omega)).far _ _ (by show o + 1 ≠ _; omega), (h.fo.set _ _).set _ _, by simp [go_sem, *], by simp [go_sem, *], by simp [go_sem, *], by simp [go_sem, *], by simp [go_sem, *], by simp [go_sem, *], qo, by simpa using h.sz⟩
theorem QMem.bit {q o nl T : Nat} {rh rl dl : Int} {X : Nat} {f : Nat → Bool} {W : World} (h : QMem q o nl T rh rl dl X f W) (k : Nat) (hk : k < T) (v : Bool) : QMem q o nl T rh rl dl X (fun i => if i = k then v else f i) (W.setCell ⟨o, k, none⟩ (.bool v)) := by
  have qo := h.qo
  have g0 := h.g0; have g1 := h.g1; have k0 := h.k0; have k1 := h.k1; have d0 := h.d0; have d1 := h.d1
  exact ⟨h.rq.far _ _ (by show o ≠ _; omega), h.ro.set k v hk, h.fo.set _ _, by simp [go_sem, *], by simp [go_sem, *], by simp [go_sem, *], by simp [go_sem, *], by simp [go_sem, *], by simp [go_sem, *], qo, by simpa using h.sz⟩
end Go.Proofs.YtgdknlnpfnifiaaGreat
namespace Go.Proofs.YtgdknlnpfnifiaaGreat
open Go.RowKit
set_option linter.unusedVariables false
set_option linter.unusedSimpArgs false
end Go.Proofs.YtgdknlnpfnifiaaGreat
namespace Go.Proofs.YtgdknlnpfnifiaaGreat
open Go.RowKit
set_option linter.unusedVariables false
set_option linter.unusedSimpArgs false
end Go.Proofs.YtgdknlnpfnifiaaGreat
namespace Go.Proofs.YtgdknlnpfnifiaaGreat
open Go.RowKit
set_option linter.unusedVariables false
set_option linter.unusedSimpArgs false
/-! ### Two rows as numbers -/
/-! ### Differences -/
/-! ### Sums -/
end Go.Proofs.YtgdknlnpfnifiaaGreat
namespace Go.Proofs.YtgdknlnpfnifiaaGreat
open Go.RowKit
set_option linter.unusedVariables false
set_option linter.unusedSimpArgs false
end Go.Proofs.YtgdknlnpfnifiaaGreat
namespace Go.Proofs.YtgdknlnpfnifiaaGreat
open Go.RowKit
set_option linter.unusedVariables false
set_option linter.unusedSimpArgs false
end Go.Proofs.YtgdknlnpfnifiaaGreat
namespace Go.Proofs.YtgdknlnpfnifiaaGreat
open Go.RowKit
set_option linter.unusedVariables false
set_option linter.unusedSimpArgs false
set_option maxHeartbeats 1600000 in
theorem rplain3_any (s : Bool) (a : Int) (h : Word a) (w : World) : Calls Tryz.prog 44 #[.int .i64 (fb s), .int .u64 a] w fun e w' => e = .returned (.int .u64 (plainF s a)) ∧ ∃ n, w' = w.drewN n := by
  have hcl := rclass_any s a h
  have hnan := rnan_any s
  have K := kindsP (cls s a)
  unfold plainF
  generalize hN : (cls s a == 0 || cls s a == 5) = N1 at *
  generalize hI : (cls s a == 1) = I1 at *
  generalize cls s a = k at *
  generalize fNan s = Q at *
  generalize fb s = f at *
  clear hN hI
  rcases K with ⟨rfl, rfl, rfl⟩ | ⟨rfl, rfl, rfl⟩ | ⟨rfl, rfl, rfl⟩ | ⟨rfl, rfl, k0, k5, k1⟩
  · go_enter Tryz.func44, Tryz.ntmps44
    go_wp2_with (first
      | (go_at_call 100; refine (hcl _).mono ?_; rintro e w1 ⟨rfl, n1, rfl⟩)
      | (go_at_call 91; refine (hnan _).mono ?_; rintro e w1 ⟨rfl, rfl⟩)
      | fail)
    go_ret
    exact ⟨rfl, n1 + 1, rfl⟩
  · go_enter Tryz.func44, Tryz.ntmps44
    go_wp2_with (first
      | (go_at_call 100; refine (hcl _).mono ?_; rintro e w1 ⟨rfl, n1, rfl⟩)
      | (go_at_call 91; refine (hnan _).mono ?_; rintro e w1 ⟨rfl, rfl⟩)
      | fail)
    go_ret
    exact ⟨rfl, n1 + 1, rfl⟩
  · go_enter Tryz.func44, Tryz.ntmps44
    go_wp2_with (first
      | (go_at_call 100; refine (hcl _).mono ?_; rintro e w1 ⟨rfl, n1, rfl⟩)
      | fail)
    go_ret
    exact ⟨rfl, n1, rfl⟩
  · go_enter Tryz.func44, Tryz.ntmps44
    go_wp2_with (first
      | (go_at_call 100; refine (hcl _).mono ?_; rintro e w1 ⟨rfl, n1, rfl⟩)
      | fail)
    go_ret
    exact ⟨rfl, n1, rfl⟩
end Go.Proofs.YtgdknlnpfnifiaaGreat


