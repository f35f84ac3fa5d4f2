/- What plumblineref01.Div answers. -/
import Derived.Test.YtmfmjinplieehaaWideG
import Derived.Test.YtmfmjinplieehaaRefH
namespace Go.Proofs.Ytmfmjinplieehaa
open Go.RowKit
set_option linter.unusedVariables false

/-- What the memory holds while a quotient is reckoned. -/
structure DivMem (n q o : Nat) (ah al rh rl : Int) (A : Nat) (f : Nat → Bool) (w : World) : Prop where
  one : OneMem n ah al w
  rq : RowB w q 128 A.testBit
  ro : RowB w o 128 f
  fo : RowF w o 128
  g0 : w.cell? ⟨o + 1, 0, none⟩ = some (.int .u64 rh)
  g1 : w.cell? ⟨o + 1, 1, none⟩ = some (.int .u64 rl)
  k0 : w.frozen? ⟨o + 1, 0, none⟩ = false
  k1 : w.frozen? ⟨o + 1, 1, none⟩ = false
  nq : n + 1 < q
  qo : q < o
  sz : o + 1 < w.heap.size
theorem DivMem.below {n q o : Nat} {ah al rh rl : Int} {A : Nat} {f : Nat → Bool} {W w1 : World} (h : DivMem n q o ah al rh rl A f W) (hb : Below W.heap.size W w1) : DivMem n q o ah al rh rl A f w1 := by
  obtain ⟨hc, hf⟩ := bcell hb
  have hs := hb.size
  have sz := h.sz; have qo := h.qo
  exact ⟨h.one.below hb, h.rq.below hb (by omega), h.ro.below hb (by omega), h.fo.below hb (by omega), cell_on hb h.g0, cell_on hb h.g1, by rw [hf _ _ sz]; exact h.k0, by rw [hf _ _ sz]; exact h.k1, h.nq, h.qo, by omega⟩
theorem DivMem.set1 {n q o : Nat} {ah al rh rl : Int} {A : Nat} {f : Nat → Bool} {W : World} (h : DivMem n q o ah al rh rl A f W) (y : Int) : DivMem n q o ah al rh y A f (W.setCell ⟨o + 1, 1, none⟩ (.int .u64 y)) := by
  have nq := h.nq; have qo := h.qo
  have g0 := h.g0; have g1 := h.g1; have k0 := h.k0; have k1 := h.k1
  exact ⟨h.one.far _ _ (by show o + 1 ≠ _; omega) (by show o + 1 ≠ _; omega), h.rq.far _ _ (by show o + 1 ≠ _; omega), h.ro.far _ _ (by show o + 1 ≠ _; omega), h.fo.set _ _, by simp [go_sem, *], by simp [go_sem, *], by simp [go_sem, *], by simp [go_sem, *], nq, qo, by simpa using h.sz⟩
theorem DivMem.set {n q o : Nat} {ah al rh rl : Int} {A : Nat} {f : Nat → Bool} {W : World} (h : DivMem n q o ah al rh rl A f W) (x y : Int) : DivMem n q o ah al x y A f ((W.setCell ⟨o + 1, 0, none⟩ (.int .u64 x)).setCell ⟨o + 1, 1, none⟩ (.int .u64 y)) := by
  have nq := h.nq; have qo := h.qo
  have g0 := h.g0; have g1 := h.g1; have k0 := h.k0; have k1 := h.k1
  exact ⟨(h.one.far _ _ (by show o + 1 ≠ _; omega) (by show o + 1 ≠ _; omega)).far _ _ (by show o + 1 ≠ _; omega) (by show o + 1 ≠ _; omega), (h.rq.far _ _ (by show o + 1 ≠ _; omega)).far _ _ (by show o + 1 ≠ _; omega), (h.ro.far _ _ (by show o + 1 ≠ _; omega)).far _ _ (by show o + 1 ≠ _; omega), (h.fo.set _ _).set _ _, by simp [go_sem, *], by simp [go_sem, *], by simp [go_sem, *], by simp [go_sem, *], nq, qo, by simpa using h.sz⟩
theorem DivMem.bit {n q o : Nat} {ah al rh rl : Int} {A : Nat} {f : Nat → Bool} {W : World} (h : DivMem n q o ah al rh rl A f W) (k : Nat) (hk : k < 128) (v : Bool) : DivMem n q o ah al rh rl A (fun i => if i = k then v else f i) (W.setCell ⟨o, k, none⟩ (.bool v)) := by
  have nq := h.nq; have qo := h.qo
  have g0 := h.g0; have g1 := h.g1; have k0 := h.k0; have k1 := h.k1
  exact ⟨h.one.far _ _ (by show o ≠ _; omega) (by show o ≠ _; omega), h.rq.far _ _ (by show o ≠ _; omega), h.ro.set k v hk, h.fo.set _ _, by simp [go_sem, *], by simp [go_sem, *], by simp [go_sem, *], by simp [go_sem, *], nq, qo, by simpa using h.sz⟩
theorem DivMem.ext {n q o : Nat} {ah al rh rl : Int} {A : Nat} {f g : Nat → Bool} {W : World} (h : DivMem n q o ah al rh rl A f W) (e : ∀ i, i < 128 → f i = g i) : DivMem n q o ah al rh rl A g W :=
  ⟨h.one, h.rq, h.ro.ext e, h.fo, h.g0, h.g1, h.k0, h.k1, h.nq, h.qo, h.sz⟩

/-- The quotient's bits from k on. -/
def quoTo (A b k : Nat) (j : Nat) : Bool := decide (k ≤ j) && (A / b).testBit j
theorem quo_bit (A b j : Nat) : (A / b).testBit j = decide (A / 2 ^ j / b % 2 = 1) := by
  rw [bitN, Nat.div_div_eq_div_mul, Nat.div_div_eq_div_mul, Nat.mul_comm]
theorem quoTo_step (A b k : Nat) (v : Bool) (hv : v = (A / b).testBit k) : (fun i => if i = k then v else quoTo A b (k + 1) i) = quoTo A b k := by
  funext j
  unfold quoTo
  by_cases e : j = k
  · subst e; simp [hv]
  · have : (decide (k + 1 ≤ j)) = decide (k ≤ j) := by rw [decide_eq_decide]; omega
    simp [e, this]
theorem quoTo_skip (A b k : Nat) (hv : (A / b).testBit k = false) : quoTo A b (k + 1) = quoTo A b k := by
  funext j
  unfold quoTo
  by_cases e : j = k
  · subst e
    have : ¬ j + 1 ≤ j := by omega
    simp [hv]
  · have : (decide (k + 1 ≤ j)) = decide (k ≤ j) := by rw [decide_eq_decide]; omega
    rw [this]
/-- One place: the rest, doubled, with the next bit. -/
theorem quo_round (A b k : Nat) (hb : 0 < b) (r x : Nat) (hr : r = A / 2 ^ (k + 1) % b) (hx : x = 2 * r + (if A.testBit k then 1 else 0)) :
    (b ≤ x → (A / b).testBit k = true ∧ x - b = A / 2 ^ k % b) ∧ (x < b → (A / b).testBit k = false ∧ x = A / 2 ^ k % b) := by
  have hbit := bitN A k
  have e : A / 2 ^ (k + 1) = A / 2 ^ k / 2 := by rw [Nat.pow_succ, Nat.div_div_eq_div_mul]
  rw [e] at hr
  rw [quo_bit]
  generalize A / 2 ^ k = M at *
  have hxx : x = 2 * r + M % 2 := by
    rw [hx, hbit]
    rcases Nat.mod_two_eq_zero_or_one M with h | h <;> simp [h]
  have d := Nat.div_add_mod (M / 2) b
  have l := Nat.mod_lt (M / 2) hb
  rw [← hr] at d l
  generalize hq : M / 2 / b = q at *
  have eM : M = b * (2 * q) + x := by
    rw [Nat.mul_left_comm]
    omega
  constructor
  · intro c
    have e2 : M = (x - b) + b * (2 * q + 1) := by rw [Nat.mul_add, Nat.mul_one]; omega
    have q1 : M / b = 2 * q + 1 := by rw [e2, Nat.add_mul_div_left _ _ hb, Nat.div_eq_of_lt (by omega)]; omega
    have q2 : M % b = x - b := by rw [e2, Nat.add_mul_mod_self_left, Nat.mod_eq_of_lt (by omega)]
    rw [q1, q2]
    exact ⟨by simp, rfl⟩
  · intro c
    have q1 : M / b = 2 * q := by rw [eM, Nat.add_comm, Nat.add_mul_div_left _ _ hb, Nat.div_eq_of_lt c]; omega
    have q2 : M % b = x := by rw [eM, Nat.add_comm, Nat.add_mul_mod_self_left, Nat.mod_eq_of_lt c]
    rw [q1, q2]
    exact ⟨by simp, rfl⟩
/-- The rest is doubled. -/
theorem dbl_num (r : Nat) (sh sl rh rl : Int) (wsh : Word sh) (wsl : Word sl) (R : num rh rl = (r : Int)) (hr : r < 18446744073709551616) (S : num sh sl = num rh rl * 2 ^ Int.toNat 1 % 340282366920938463463374607431768211456) : num sh sl = ((2 * r : Nat) : Int) ∧ sl % 2 = 0 := by
  have e : (2 : Int) ^ Int.toNat 1 = 2 := rfl
  rw [e, R] at S
  have : num sh sl = ((2 * r : Nat) : Int) := by omega
  exact ⟨this, by unfold num at this; omega⟩

end Go.Proofs.Ytmfmjinplieehaa

