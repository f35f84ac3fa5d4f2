/- Ints as Doubles, in plain numbers: sums, differences and products are exact. -/
import Derived.Test.YtfdinlomlcnjnaaConvT
import Derived.Test.YtfdinlomlcnjnaaSoftSe
namespace Go.Proofs.Ytfdinlomlcnjnaa
open Go.RowKit
set_option linter.unusedVariables false
set_option linter.unusedSimpArgs false
/-- The size of a whole number as a Double. -/
def zI (n : Nat) : Nat := if n = 0 then 0 else (1074 - (53 - blen n)) * 2 ^ 52 + n * 2 ^ (53 - blen n)
theorem zI_parts {n : Nat} (n0 : n ≠ 0) (h : n < 2 ^ 53) : n * 2 ^ (53 - blen n) < 2 ^ 53 ∧ 2 ^ 52 ≤ n * 2 ^ (53 - blen n) ∧ blen n ≤ 53 ∧ 1 ≤ blen n := by
  have b1 := blen_le_of h
  obtain ⟨b2, b3⟩ := blen_le n0
  have b4 := lt_blen n
  refine ⟨?_, ?_, b1, b3⟩
  · have : n * 2 ^ (53 - blen n) < 2 ^ blen n * 2 ^ (53 - blen n) := Nat.mul_lt_mul_of_pos_right b4 (Nat.two_pow_pos _)
    rw [← Nat.pow_add, show blen n + (53 - blen n) = 53 by omega] at this
    exact this
  · have : 2 ^ (blen n - 1) * 2 ^ (53 - blen n) ≤ n * 2 ^ (53 - blen n) := Nat.mul_le_mul_right _ b2
    rw [← Nat.pow_add, show blen n - 1 + (53 - blen n) = 52 by omega] at this
    exact this
theorem zI_lt {n : Nat} (h : n < 2 ^ 53) : ((zI n : Nat) : Int) < fI false := by
  have e : fI false = 9218868437227405312 := rfl
  rw [e]
  unfold zI
  by_cases n0 : n = 0
  · rw [if_pos n0]; decide
  · rw [if_neg n0]
    obtain ⟨a, b, c, d⟩ := zI_parts n0 h
    rw [show (2 : Nat) ^ 53 = 9007199254740992 from rfl] at a
    rw [show (2 : Nat) ^ 52 = 4503599627370496 from rfl]
    generalize n * 2 ^ (53 - blen n) = q at *
    have x1 : 1074 - (53 - blen n) ≤ 1074 := by omega
    generalize 1074 - (53 - blen n) = x at *
    omega
theorem zI_zero {n : Nat} (h : n < 2 ^ 53) : zI n = 0 ↔ n = 0 := by
  unfold zI
  by_cases n0 : n = 0
  · rw [if_pos n0]; simp [n0]
  · rw [if_neg n0]
    obtain ⟨a, b, c, d⟩ := zI_parts n0 h
    generalize n * 2 ^ (53 - blen n) = q at *
    generalize (1074 - (53 - blen n)) * 2 ^ 52 = x at *
    omega
theorem rnd_int (m : Int) (g : Bool) {n : Nat} (h : n < 2 ^ 53) : rnd false m g n 0 = sgnd false g (zI n) := by
  by_cases n0 : n = 0
  · subst n0
    rw [rnd_zero]
    rfl
  · obtain ⟨a, b, c, d⟩ := zI_parts n0 h
    have t := rnd_scale false m g n (53 - blen n) 0
    rw [← t]
    have lt := zI_lt h
    unfold zI at *
    rw [if_neg n0] at *
    generalize hq : n * 2 ^ (53 - blen n) = q at *
    have q0 : q ≠ 0 := by omega
    have e := mag_exact false m g (1074 - (53 - blen n)) q q0 a (Or.inr b) lt
    have e2 : fL false + ((1074 - (53 - blen n) : Nat) : Int) = 0 - ((53 - blen n : Nat) : Int) := by
      have : fL false = -1074 := rfl
      omega
    rw [e2] at e
    unfold rnd
    rw [if_neg q0, e]
    rfl
/-- v is a Double of the sign g whose size is n. -/
structure Rep (v : Int) (g : Bool) (n : Nat) : Prop where
  word : Word v
  nan : (cls false v == 0 || cls false v == 5) = false
  inf : (cls false v == 4) = false
  zero : (cls false v == 1) = decide (n = 0)
  sg : sgn false v = g
  val : ∃ K : Nat, K ≤ 1074 ∧ (whl false v).toNat = n * 2 ^ K ∧ pwr false v = -(K : Int)
theorem rep_int (g : Bool) {n : Nat} (h : n < 2 ^ 53) : Rep (sgnd false g (zI n)) g n := by
  have lt := zI_lt h
  have l := fI_lt false
  have md := made false g (zI n) (by omega) (by omega)
  obtain ⟨x, q, e, h1, h2, w, p⟩ := size_parts false g (zI n) lt
  by_cases n0 : n = 0
  · have z0 : zI n = 0 := (zI_zero h).2 n0
    have c1 : cls false (sgnd false g (zI n)) = 1 := by rw [z0]; cases g <;> decide +kernel
    rw [z0] at e
    refine ⟨md.1, by rw [c1]; rfl, by rw [c1]; rfl, by rw [c1]; simp [n0], md.2.2.2, ?_⟩
    have hx : x = 0 ∧ q = 0 := by
      have p52 : (2 : Nat) ^ fP false = 4503599627370496 := rfl
      rw [p52] at e h2
      omega
    obtain ⟨rfl, rfl⟩ := hx
    obtain ⟨K, hK⟩ : ∃ K : Nat, K = 1074 := ⟨_, rfl⟩
    refine ⟨K, by omega, ?_, by rw [p, hK]; rfl⟩
    rw [w, n0, Nat.zero_mul]
  · have z0 : zI n ≠ 0 := fun c => n0 ((zI_zero h).1 c)
    obtain ⟨s1, s2, s3⟩ := self_cls false g (zI n) z0 lt
    obtain ⟨a, b, c, d⟩ := zI_parts n0 h
    refine ⟨md.1, s1, s2, by rw [s3]; simp [n0], md.2.2.2, 53 - blen n, by omega, ?_, ?_⟩
    all_goals
      have ez : zI n = (1074 - (53 - blen n)) * 2 ^ 52 + n * 2 ^ (53 - blen n) := by unfold zI; rw [if_neg n0]
      rw [ez] at e
      have p52 : (2 : Nat) ^ fP false = 4503599627370496 := rfl
      have p53 : (2 : Nat) ^ (fP false + 1) = 9007199254740992 := rfl
      rw [p52] at e h2
      rw [p53] at h1
      generalize n * 2 ^ (53 - blen n) = Q at *
      have uq : x = 1074 - (53 - blen n) ∧ q = Q := by omega
    · rw [w, uq.2]
    · rw [p, uq.1]
      have : fL false = -1074 := rfl
      omega
theorem scaled {W n K M : Nat} (h : W = n * 2 ^ K) (k : K ≤ M) : W * 2 ^ (-(K : Int) - -(M : Int)).toNat = n * 2 ^ M := by
  rw [h, Nat.mul_assoc, ← Nat.pow_add]
  congr 2
  omega
theorem rnd_back (m : Int) (g : Bool) (n M : Nat) : rnd false m g (n * 2 ^ M) (-(M : Int)) = rnd false m g n 0 := by
  have := rnd_scale false m g n M 0
  rw [Int.zero_sub] at this
  exact this
theorem add_rep (m : Int) {v v' : Int} {g g' : Bool} {n n' : Nat} (h : Rep v g n) (h' : Rep v' g' n') :
    addF false m v v' = if g = g' then rnd false m g (n + n') 0 else if n = n' then sgnd false (m == 2) 0 else if n' < n then rnd false m g (n - n') 0 else rnd false m g' (n' - n) 0 := by
  obtain ⟨K, k1, k2, k3⟩ := h.val
  obtain ⟨K', l1, l2, l3⟩ := h'.val
  unfold addF
  rw [h.nan, h'.nan, h.inf, h'.inf]
  simp only [Bool.or_self, Bool.false_and, Bool.false_eq_true, if_false]
  unfold sumT
  rw [h.sg, h'.sg, k3, l3]
  obtain ⟨M, hM, m1, m2⟩ : ∃ M : Nat, min (-(K : Int)) (-(K' : Int)) = -(M : Int) ∧ K ≤ M ∧ K' ≤ M := ⟨max K K', by omega, by omega, by omega⟩
  rw [hM, scaled k2 m1, scaled l2 m2]
  have p := Nat.two_pow_pos M
  have q1 : n * 2 ^ M + n' * 2 ^ M = (n + n') * 2 ^ M := (Nat.add_mul _ _ _).symm
  have q2 : n * 2 ^ M - n' * 2 ^ M = (n - n') * 2 ^ M := (Nat.mul_sub_right_distrib _ _ _).symm
  have q3 : n' * 2 ^ M - n * 2 ^ M = (n' - n) * 2 ^ M := (Nat.mul_sub_right_distrib _ _ _).symm
  rw [q1, q2, q3, rnd_back, rnd_back, rnd_back]
  have q4 : (n * 2 ^ M = n' * 2 ^ M) = (n = n') := by
    apply propext
    exact ⟨fun e => Nat.eq_of_mul_eq_mul_right p e, fun e => by rw [e]⟩
  have q5 : (n' * 2 ^ M < n * 2 ^ M) = (n' < n) := propext (Nat.mul_lt_mul_right p)
  simp only [q4, q5]
theorem mul_rep (m : Int) {v v' : Int} {g g' : Bool} {n n' : Nat} (h : Rep v g n) (h' : Rep v' g' n') : mulF false m v v' = rnd false m (g != g') (n * n') 0 := by
  obtain ⟨K, k1, k2, k3⟩ := h.val
  obtain ⟨K', l1, l2, l3⟩ := h'.val
  unfold mulF
  rw [h.nan, h'.nan, h.inf, h'.inf]
  simp only [Bool.or_self, Bool.false_and, Bool.and_false, Bool.false_eq_true, if_false]
  rw [h.sg, h'.sg, k3, l3, k2, l2]
  have e : n * 2 ^ K * (n' * 2 ^ K') = n * n' * 2 ^ (K + K') := by rw [Nat.pow_add]; simp only [Nat.mul_comm, Nat.mul_left_comm, Nat.mul_assoc]
  have e2 : -(K : Int) + -(K' : Int) = -((K + K' : Nat) : Int) := by omega
  rw [e, e2, rnd_back]
/-- An int as a Double. -/
def FF (n : Int) : Int := rnd false 0 (decide (n < 0)) n.natAbs 0
theorem FF_rep {n : Int} (h : n.natAbs < 2 ^ 53) : Rep (FF n) (decide (n < 0)) n.natAbs := by
  unfold FF
  rw [rnd_int 0 _ h]
  exact rep_int _ h
theorem FF_neg_rep {n : Int} (h : n.natAbs < 2 ^ 53) : Rep (negF false (FF n)) (!decide (n < 0)) n.natAbs := by
  unfold FF
  rw [rnd_int 0 _ h, neg_made false _ _ (by omega) (by have := zI_lt h; omega)]
  exact rep_int _ h
theorem FF_of {g : Bool} {n : Nat} {k : Int} (h1 : k.natAbs = n) (h2 : n ≠ 0 → decide (k < 0) = g) (h3 : n = 0 → g = false) : rnd false 0 g n 0 = FF k := by
  unfold FF
  rw [h1]
  by_cases c : n = 0
  · subst c
    rw [rnd_zero, rnd_zero, h3 rfl, show decide (k < 0) = false by simp; omega]
  · rw [h2 c]
theorem add_int {a b : Int} (ha : a.natAbs < 2 ^ 53) (hb : b.natAbs < 2 ^ 53) : addF false 0 (FF a) (FF b) = FF (a + b) := by
  rw [add_rep 0 (FF_rep ha) (FF_rep hb)]
  have z : sgnd false ((0 : Int) == 2) 0 = rnd false 0 false 0 0 := by rw [rnd_zero]; rfl
  by_cases c : decide (a < 0) = decide (b < 0)
  · rw [if_pos c]
    apply FF_of
    · rw [decide_eq_decide] at c; omega
    · intro _
      rw [decide_eq_decide]
      rw [decide_eq_decide] at c; omega
    · intro h0; simp; omega
  · rw [if_neg c]
    rw [decide_eq_decide] at c
    by_cases d : a.natAbs = b.natAbs
    · rw [if_pos d, z]
      exact FF_of (by omega) (fun h => absurd rfl h) (fun _ => rfl)
    · rw [if_neg d]
      by_cases e : b.natAbs < a.natAbs
      · rw [if_pos e]
        exact FF_of (by omega) (fun _ => by rw [decide_eq_decide]; omega) (fun h => by omega)
      · rw [if_neg e]
        exact FF_of (by omega) (fun _ => by rw [decide_eq_decide]; omega) (fun h => by omega)
theorem sub_int {a b : Int} (ha : a.natAbs < 2 ^ 53) (hb : b.natAbs < 2 ^ 53) : subF false 0 (FF a) (FF b) = FF (a - b) := by
  unfold subF
  rw [add_rep 0 (FF_rep ha) (FF_neg_rep hb)]
  have z : sgnd false ((0 : Int) == 2) 0 = rnd false 0 false 0 0 := by rw [rnd_zero]; rfl
  by_cases c : decide (a < 0) = !decide (b < 0)
  · rw [if_pos c]
    have c' : (a < 0) ↔ ¬ (b < 0) := by
      by_cases x : a < 0 <;> by_cases y : b < 0 <;> simp [x, y] at c ⊢
    apply FF_of
    · omega
    · intro _; rw [decide_eq_decide]; omega
    · intro h0; simp; omega
  · rw [if_neg c]
    have c' : (a < 0) ↔ (b < 0) := by
      by_cases x : a < 0 <;> by_cases y : b < 0 <;> simp [x, y] at c ⊢
    by_cases d : a.natAbs = b.natAbs
    · rw [if_pos d, z]
      exact FF_of (by omega) (fun h => absurd rfl h) (fun _ => rfl)
    · rw [if_neg d]
      by_cases e : b.natAbs < a.natAbs
      · rw [if_pos e]
        exact FF_of (by omega) (fun _ => by rw [decide_eq_decide]; omega) (fun h => by omega)
      · rw [if_neg e]
        refine FF_of (by omega) (fun _ => ?_) (fun h => by omega)
        by_cases y : b < 0
        · simp [y]; omega
        · simp [y]; omega
theorem mul_int {a b : Int} (ha : a.natAbs < 2 ^ 53) (hb : b.natAbs < 2 ^ 53) : mulF false 0 (FF a) (FF b) = rnd false 0 (decide (a < 0) != decide (b < 0)) (a * b).natAbs 0 := by
  rw [mul_rep 0 (FF_rep ha) (FF_rep hb), Int.natAbs_mul]
theorem cls_range (s : Bool) (a : Int) : 0 ≤ cls s a ∧ cls s a ≤ 5 := by
  unfold cls
  (repeat' split) <;> omega
theorem fin_rep {v : Int} {g : Bool} {n : Nat} (h : Rep v g n) : finF false v = true ∧ toI false v = (if g then -(n : Int) else n) := by
  obtain ⟨K, k1, k2, k3⟩ := h.val
  have f := (fin_of false v h.word h.nan h.inf).1
  have w0 : 0 ≤ whl false v := f.1
  have hw : whl false v = ((n * 2 ^ K : Nat) : Int) := by omega
  have hp : wpl (whl false v) (pwr false v) = n := by
    unfold wpl
    rw [hw, k3, show (min (-(K : Int)) 64).toNat = 0 by omega, show (- -(K : Int)).toNat = K by omega, Int.pow_zero, Int.mul_one]
    have : ((n * 2 ^ K : Nat) : Int) / 2 ^ K = ((n * 2 ^ K / 2 ^ K : Nat) : Int) := by simp
    rw [this, Nat.mul_div_cancel _ (Nat.two_pow_pos K)]
  refine ⟨?_, ?_⟩
  · have a := h.nan
    have b := h.inf
    unfold finF
    have k := cls_range false v
    generalize cls false v = c at *
    simp at a b
    have : c = 1 ∨ c = 2 ∨ c = 3 := by omega
    rcases this with rfl | rfl | rfl <;> rfl
  · unfold toI
    rw [h.sg, hp]
theorem plain_rep {v : Int} {g : Bool} {n : Nat} (h : Rep v g n) : plainF false v = if n = 0 then 0 else v := by
  unfold plainF
  rw [h.nan, h.zero]
  by_cases c : n = 0 <;> simp [c]
end Go.Proofs.Ytfdinlomlcnjnaa

