/- The arithmetic of the root's rounds, and what the memory holds meanwhile. -/
import Derived.Test.YtfbkiklopeebdaaWideC
import Derived.ScopeJumps
namespace Go.Proofs.Ytfbkiklopeebdaa
open Go.RowKit
set_option linter.unusedVariables false

/-! ### The arithmetic of one round -/
theorem or_low (x y : Int) (hx : Word x) (hy : 0 ≤ y) (hy' : y < 4) (h4 : x % 4 = 0) : bits BinOp.or IntKind.u64 x y = x + y ∧ Word (x + y) := by
  obtain ⟨a, rfl⟩ := Int.eq_ofNat_of_zero_le hx.1
  obtain ⟨b, rfl⟩ := Int.eq_ofNat_of_zero_le hy
  have ha := hx.2
  rw [bits_or_u64_nat a b (by omega) (by omega)]
  have e : a = a / 4 * 2 ^ 2 := by omega
  have o := or_cut (a / 4) b 2 (by omega)
  rw [← e] at o
  rw [o]
  exact ⟨by omega, ⟨by omega, by omega⟩⟩
theorem or_one (x : Int) (hx : Word x) (h2 : x % 2 = 0) : bits BinOp.or IntKind.u64 x 1 = x + 1 ∧ Word (x + 1) := by
  obtain ⟨a, rfl⟩ := Int.eq_ofNat_of_zero_le hx.1
  have ha := hx.2
  have t := bits_or_u64_nat a 1 (by omega) (by omega)
  have e : a = a / 2 * 2 ^ 1 := by omega
  have o := or_cut (a / 2) 1 1 (by omega)
  rw [← e] at o
  rw [o] at t
  refine ⟨?_, ⟨by omega, by omega⟩⟩
  rw [← Int.natCast_one, t]
  omega
theorem and_three (x : Int) (hx : Word x) : bits BinOp.and IntKind.u64 x 3 = x % 4 := by
  obtain ⟨a, rfl⟩ := Int.eq_ofNat_of_zero_le hx.1
  have ha := hx.2
  have t := bits_and_u64_nat a 3 (by omega) (by omega)
  have e : a &&& 3 = a % 4 := Nat.and_two_pow_sub_one_eq_mod a 2
  rw [e] at t
  have t' : bits BinOp.and IntKind.u64 (a : Int) 3 = ((a % 4 : Nat) : Int) := t
  rw [t']; omega
/-- The next pair of bits is put behind what is left. -/
theorem sq_left (A lh ll qh ql ph pl : Int) (hlh : Word lh) (hll : Word ll) (wqh : Word qh) (wql : Word ql) (wph : Word ph) (wpl : Word pl)
    (P : num ph pl = A) (Q : num qh ql = num lh ll * 2 ^ Int.toNat 2 % 340282366920938463463374607431768211456) (small : num lh ll ≤ 36893488147419103232) :
    Word (bits BinOp.or IntKind.u64 ql (bits BinOp.and IntKind.u64 pl 3)) ∧ num qh (bits BinOp.or IntKind.u64 ql (bits BinOp.and IntKind.u64 pl 3)) = 4 * num lh ll + A % 4 := by
  have p := num_lo hlh hll
  have e : (2 : Int) ^ Int.toNat 2 = 4 := rfl
  rw [e] at Q
  have hq4 : ql % 4 = 0 := by unfold num Word at *; omega
  rw [and_three pl wpl]
  obtain ⟨o1, o2⟩ := or_low ql (pl % 4) wql (by omega) (by omega) hq4
  rw [o1]
  exact ⟨o2, by unfold num Word at *; omega⟩
/-- Four times the root, and 1. -/
theorem sq_grows (r gh gl : Int) (hr : Word r) (wgh : Word gh) (wgl : Word gl) (Q : num gh gl = num 0 r * 2 ^ Int.toNat 2 % 340282366920938463463374607431768211456) :
    Word (bits BinOp.or IntKind.u64 gl 1) ∧ num gh (bits BinOp.or IntKind.u64 gl 1) = 4 * r + 1 := by
  have e : (2 : Int) ^ Int.toNat 2 = 4 := rfl
  rw [e] at Q
  have hq4 : gl % 2 = 0 := by unfold num Word at *; omega
  obtain ⟨o1, o2⟩ := or_one gl wgl hq4
  rw [o1]
  exact ⟨o2, by unfold num Word at *; omega⟩
/-- What holds of the root and of what is left, ahead of the pair number j. -/
structure SqInv (A : Int) (j : Nat) (r L : Int) : Prop where
  sum : r * r + L = A / 2 ^ (2 * j + 2)
  le : L ≤ 2 * r
  lt : r < 2 ^ (63 - j)
theorem pow_le63 (j : Nat) : (2 : Int) ^ (63 - j) ≤ 9223372036854775808 := by
  have h : 2 ^ (63 - j) ≤ 2 ^ 63 := Nat.pow_le_pow_right (by decide) (by omega)
  have e : ((2 ^ (63 - j) : Nat) : Int) = (2 : Int) ^ (63 - j) := by simp
  rw [← e]
  omega
theorem quad_div (A : Int) (j : Nat) (hA : 0 ≤ A) : A / 2 ^ (2 * j + 2) = A / 2 ^ (2 * j) / 4 := by
  have e : (2 : Int) ^ (2 * j + 2) = 2 ^ (2 * j) * 4 := by rw [Int.pow_add]; rfl
  rw [e, Int.ediv_ediv_of_nonneg (by exact Int.le_of_lt (Int.pow_pos (by decide)))]
theorem sq_mul2 (r : Int) : (2 * r) * (2 * r) = 4 * (r * r) := by
  rw [Int.mul_assoc 2 r, Int.mul_left_comm r 2 r]; omega
theorem sq_mul21 (r : Int) : (2 * r + 1) * (2 * r + 1) = 4 * (r * r) + 4 * r + 1 := by
  rw [Int.add_mul, Int.mul_add, sq_mul2]; omega
/-- One round: the bit is 0. -/
theorem SqInv.zero {A : Int} {j : Nat} {r L : Int} (hA : 0 ≤ A) (h : SqInv A j r L) (hj : j ≤ 63) (c : 4 * L + A / 2 ^ (2 * j) % 4 < 4 * r + 1) :
    (2 * r) * (2 * r) + (4 * L + A / 2 ^ (2 * j) % 4) = A / 2 ^ (2 * j) ∧ 4 * L + A / 2 ^ (2 * j) % 4 ≤ 2 * (2 * r) ∧ 2 * r < 2 ^ (64 - j) := by
  have s := h.sum
  rw [quad_div A j hA] at s
  have l := h.lt
  have e : (2 : Int) ^ (64 - j) = 2 ^ (63 - j) * 2 := by rw [show 64 - j = (63 - j) + 1 from by omega, Int.pow_succ]
  rw [sq_mul2, e]
  generalize (2 : Int) ^ (63 - j) = P at *
  generalize A / 2 ^ (2 * j) = N at *
  generalize r * r = R at *
  exact ⟨by omega, by omega, by omega⟩
/-- One round: the bit is 1. -/
theorem SqInv.one {A : Int} {j : Nat} {r L : Int} (hA : 0 ≤ A) (h : SqInv A j r L) (hj : j ≤ 63) (c : 4 * r + 1 ≤ 4 * L + A / 2 ^ (2 * j) % 4) :
    (2 * r + 1) * (2 * r + 1) + (4 * L + A / 2 ^ (2 * j) % 4 - (4 * r + 1)) = A / 2 ^ (2 * j) ∧ 4 * L + A / 2 ^ (2 * j) % 4 - (4 * r + 1) ≤ 2 * (2 * r + 1) ∧ 2 * r + 1 < 2 ^ (64 - j) := by
  have s := h.sum
  rw [quad_div A j hA] at s
  have l := h.lt
  have l2 := h.le
  have e : (2 : Int) ^ (64 - j) = 2 ^ (63 - j) * 2 := by rw [show 64 - j = (63 - j) + 1 from by omega, Int.pow_succ]
  rw [sq_mul21, e]
  generalize (2 : Int) ^ (63 - j) = P at *
  generalize A / 2 ^ (2 * j) = N at *
  generalize r * r = R at *
  exact ⟨by omega, by omega, by omega⟩
/-- What holds of the root and of what is left, behind the pair number j. -/
structure SqNext (A : Int) (j : Nat) (r L : Int) : Prop where
  sum : r * r + L = A / 2 ^ (2 * j)
  le : L ≤ 2 * r
  lt : r < 2 ^ (64 - j)
theorem SqInv.next0 {A : Int} {j : Nat} {r L X : Int} (hA : 0 ≤ A) (h : SqInv A j r L) (hj : j ≤ 63) (hX : X = 4 * L + A / 2 ^ (2 * j) % 4) (c : 4 * L + A / 2 ^ (2 * j) % 4 < 4 * r + 1) : SqNext A j (r * 2) X := by
  obtain ⟨a, b, d⟩ := h.zero hA hj c
  rw [← hX] at a b
  rw [Int.mul_comm r 2]
  exact ⟨a, b, d⟩
theorem SqInv.next1 {A : Int} {j : Nat} {r L X : Int} (hA : 0 ≤ A) (h : SqInv A j r L) (hj : j ≤ 63) (hX : X = 4 * L + A / 2 ^ (2 * j) % 4 - (4 * r + 1)) (c : 4 * r + 1 ≤ 4 * L + A / 2 ^ (2 * j) % 4) : SqNext A j (r * 2 + 1) X := by
  obtain ⟨a, b, d⟩ := h.one hA hj c
  rw [← hX] at a b
  rw [Int.mul_comm r 2]
  exact ⟨a, b, d⟩
theorem SqNext.inv {A : Int} {j : Nat} {r L : Int} (h : SqNext A j r L) (hj : j ≤ 63) (hj0 : j ≠ 0) : SqInv A (j - 1) r L :=
  ⟨by rw [h.sum, show 2 * (j - 1) + 2 = 2 * j from by omega], h.le, by have := h.lt; rw [show 63 - (j - 1) = 64 - j from by omega]; exact this⟩
theorem SqNext.fin {A r L : Int} (h : SqNext A 0 r L) : r * r + L = A ∧ L ≤ 2 * r := by
  refine ⟨?_, h.le⟩
  have := h.sum
  simpa using this
theorem sq_start (A : Int) (h0 : 0 ≤ A) (h1 : A < 340282366920938463463374607431768211456) : SqInv A 63 0 0 :=
  ⟨by have e : (2 : Int) ^ (2 * 63 + 2) = 340282366920938463463374607431768211456 := by decide
      rw [e]; omega, by decide, by decide⟩

/-- What the memory holds while a root is reckoned: the number, the place of the answer, what is left. -/
structure SqMem (n : Nat) (ah al lh ll : Int) (w : World) : Prop where
  s0 : n < w.heap.size
  s1 : n + 1 < w.heap.size
  s2 : n + 1 + 1 < w.heap.size
  c0 : w.cell? ⟨n, 0, none⟩ = some (.int .u64 ah)
  c1 : w.cell? ⟨n, 1, none⟩ = some (.int .u64 al)
  d0 : ∃ x, w.cell? ⟨n + 1, 0, none⟩ = some (.int .u64 x)
  d1 : ∃ x, w.cell? ⟨n + 1, 1, none⟩ = some (.int .u64 x)
  e0 : w.cell? ⟨n + 1 + 1, 0, none⟩ = some (.int .u64 lh)
  e1 : w.cell? ⟨n + 1 + 1, 1, none⟩ = some (.int .u64 ll)
  f10 : w.frozen? ⟨n + 1, 0, none⟩ = false
  f11 : w.frozen? ⟨n + 1, 1, none⟩ = false
  f20 : w.frozen? ⟨n + 1 + 1, 0, none⟩ = false
  f21 : w.frozen? ⟨n + 1 + 1, 1, none⟩ = false

theorem SqMem.below {n : Nat} {ah al lh ll : Int} {W w1 : World} (h : SqMem n ah al lh ll W) (hb : Below W.heap.size W w1) : SqMem n ah al lh ll w1 := by
  obtain ⟨hc, hf⟩ := bcell hb
  have hs := hb.size
  refine ⟨by have := h.s0; omega, by have := h.s1; omega, by have := h.s2; omega, ?_, ?_, ?_, ?_, ?_, ?_, ?_, ?_, ?_, ?_⟩
  · rw [hc _ _ h.s0]; exact h.c0
  · rw [hc _ _ h.s0]; exact h.c1
  · rw [hc _ _ h.s1]; exact h.d0
  · rw [hc _ _ h.s1]; exact h.d1
  · rw [hc _ _ h.s2]; exact h.e0
  · rw [hc _ _ h.s2]; exact h.e1
  · rw [hf _ _ h.s1]; exact h.f10
  · rw [hf _ _ h.s1]; exact h.f11
  · rw [hf _ _ h.s2]; exact h.f20
  · rw [hf _ _ h.s2]; exact h.f21

theorem SqMem.alloc {n : Nat} {ah al lh ll : Int} {W : World} (h : SqMem n ah al lh ll W) (o : Obj) : SqMem n ah al lh ll (W.alloc o) :=
  h.below ((Below.refl _ _).alloc (Nat.le_refl _) o)
theorem SqMem.set {n : Nat} {ah al lh ll : Int} {W : World} (h : SqMem n ah al lh ll W) (x y : Int) : SqMem n ah al x y ((W.setCell ⟨n + 1 + 1, 0, none⟩ (.int .u64 x)).setCell ⟨n + 1 + 1, 1, none⟩ (.int .u64 y)) := by
  obtain ⟨s0, s1, s2, c0, c1, ⟨x0, d0⟩, ⟨x1, d1⟩, e0, e1, f10, f11, f20, f21⟩ := h
  refine ⟨by simpa using s0, by simpa using s1, by simpa using s2, ?_, ?_, ⟨x0, ?_⟩, ⟨x1, ?_⟩, ?_, ?_, ?_, ?_, ?_, ?_⟩ <;> simp [go_sem, *]
theorem SqMem.set1 {n : Nat} {ah al lh ll : Int} {W : World} (h : SqMem n ah al lh ll W) (y : Int) : SqMem n ah al lh y (W.setCell ⟨n + 1 + 1, 1, none⟩ (.int .u64 y)) := by
  obtain ⟨s0, s1, s2, c0, c1, ⟨x0, d0⟩, ⟨x1, d1⟩, e0, e1, f10, f11, f20, f21⟩ := h
  refine ⟨by simpa using s0, by simpa using s1, by simpa using s2, ?_, ?_, ⟨x0, ?_⟩, ⟨x1, ?_⟩, ?_, ?_, ?_, ?_, ?_, ?_⟩ <;> simp [go_sem, *]
theorem SqMem.drew {n : Nat} {ah al lh ll : Int} {W : World} (h : SqMem n ah al lh ll W) : SqMem n ah al lh ll W.drew := by
  obtain ⟨s0, s1, s2, c0, c1, ⟨x0, d0⟩, ⟨x1, d1⟩, e0, e1, f10, f11, f20, f21⟩ := h
  exact ⟨s0, s1, s2, c0, c1, ⟨x0, d0⟩, ⟨x1, d1⟩, e0, e1, f10, f11, f20, f21⟩

end Go.Proofs.Ytfbkiklopeebdaa

