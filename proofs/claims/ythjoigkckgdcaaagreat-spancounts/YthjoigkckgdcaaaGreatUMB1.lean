/- Texts of the proof, put together. -/
import Derived.RowKit
import Derived.Laws.Bits64
import Derived.Laws.Bits64b
import Derived.Lib.Mul64
import Derived.Lib.BitFns
import Derived.Test.YthjoigkckgdcaaaGreatRows
import Derived.Test.YthjoigkckgdcaaaGreatShelf
import Derived.WalkKit
import Derived.WalkSpells
import Derived.StillTactics
import Derived.Laws.Pointers
import Derived.Laws.Externs
import Derived.Deep.RegionHeld3
import Derived.Below
import Derived.Shelf.Spec.BitsCarry
import Derived.BigQuiet
import Derived.Deep.QuietTactic
import Derived.Deep.DeepCutAuto
import Derived.ScopeJumps
import Derived.Deep.CutBlock
import Derived.Laws.BitsAllLaws
import Derived.Laws.EntriesVeiled
import Derived.Shelf.Abstract
namespace Go.Proofs.YthjoigkckgdcaaaGreat
set_option linter.unusedVariables false

def Word (x : Int) : Prop := 0 ≤ x ∧ x < 18446744073709551616
/-! ### Sums and differences -/
/-! ### Moves -/
end Go.Proofs.YthjoigkckgdcaaaGreat
namespace Go.Proofs.YthjoigkckgdcaaaGreat
open Go.RowKit
set_option linter.unusedVariables false

theorem below_two (w : World) (a b : Obj) : Below w.heap.size w ((w.alloc a).alloc b) :=
  ((Below.refl _ _).alloc (Nat.le_refl _) _).alloc (by simp) _
end Go.Proofs.YthjoigkckgdcaaaGreat
namespace Go.Proofs.YthjoigkckgdcaaaGreat
open Go.RowKit
set_option linter.unusedVariables false

theorem bcell {W w1 : World} (hb : Below W.heap.size W w1) : (∀ b o, b < W.heap.size → w1.cell? ⟨b, o, none⟩ = W.cell? ⟨b, o, none⟩) ∧ (∀ b o, b < W.heap.size → w1.frozen? ⟨b, o, none⟩ = W.frozen? ⟨b, o, none⟩) :=
  ⟨fun b o h => hb.cell (p := ⟨b, o, none⟩) h, fun b o h => hb.frozen (p := ⟨b, o, none⟩) h⟩

end Go.Proofs.YthjoigkckgdcaaaGreat
namespace Go.Proofs.YthjoigkckgdcaaaGreat
open Go.RowKit
set_option linter.unusedVariables false

end Go.Proofs.YthjoigkckgdcaaaGreat
namespace Go.Proofs.YthjoigkckgdcaaaGreat
open Go.RowKit
set_option linter.unusedVariables false

/-! ### The arithmetic of one round -/
structure SqInv (A : Int) (j : Nat) (r L : Int) : Prop where
  sum : r * r + L = A / 2 ^ (2 * j + 2)
  le : L ≤ 2 * r
  lt : r < 2 ^ (63 - j)
theorem quad_div (A : Int) (j : Nat) (hA : 0 ≤ A) : A / 2 ^ (2 * j + 2) = A / 2 ^ (2 * j) / 4 := by
  have e : (2 : Int) ^ (2 * j + 2) = 2 ^ (2 * j) * 4 := by rw [Int.pow_add]; rfl
  rw [e, Int.ediv_ediv_of_nonneg (by exact Int.le_of_lt (Int.pow_pos (by decide)))]
theorem sq_mul2 (r : Int) : (2 * r) * (2 * r) = 4 * (r * r) := by
  rw [Int.mul_assoc 2 r, Int.mul_left_comm r 2 r]; omega
theorem sq_mul21 (r : Int) : (2 * r + 1) * (2 * r + 1) = 4 * (r * r) + 4 * r + 1 := by
  rw [Int.add_mul, Int.mul_add, sq_mul2]; omega
theorem SqInv.zero {A : Int} {j : Nat} {r L : Int} (hA : 0 ≤ A) (h : SqInv A j r L) (hj : j ≤ 63) (c : 4 * L + A / 2 ^ (2 * j) % 4 < 4 * r + 1) :
    (2 * r) * (2 * r) + (4 * L + A / 2 ^ (2 * j) % 4) = A / 2 ^ (2 * j) ∧ 4 * L + A / 2 ^ (2 * j) % 4 ≤ 2 * (2 * r) ∧ 2 * r < 2 ^ (64 - j) := by
  have s := h.sum
  rw [quad_div A j hA] at s
  have l := h.lt
  have e : (2 : Int) ^ (64 - j) = 2 ^ (63 - j) * 2 := by rw [show 64 - j = (63 - j) + 1 from by omega, Int.pow_succ]
  rw [sq_mul2, e]
  generalize (2 : Int) ^ (63 - j) = P at *
  generalize A / 2 ^ (2 * j) = N at *
  generalize r * r = R at *
  exact ⟨by omega, by omega, by omega⟩
theorem SqInv.one {A : Int} {j : Nat} {r L : Int} (hA : 0 ≤ A) (h : SqInv A j r L) (hj : j ≤ 63) (c : 4 * r + 1 ≤ 4 * L + A / 2 ^ (2 * j) % 4) :
    (2 * r + 1) * (2 * r + 1) + (4 * L + A / 2 ^ (2 * j) % 4 - (4 * r + 1)) = A / 2 ^ (2 * j) ∧ 4 * L + A / 2 ^ (2 * j) % 4 - (4 * r + 1) ≤ 2 * (2 * r + 1) ∧ 2 * r + 1 < 2 ^ (64 - j) := by
  have s := h.sum
  rw [quad_div A j hA] at s
  have l := h.lt
  have l2 := h.le
  have e : (2 : Int) ^ (64 - j) = 2 ^ (63 - j) * 2 := by rw [show 64 - j = (63 - j) + 1 from by omega, Int.pow_succ]
  rw [sq_mul21, e]
  generalize (2 : Int) ^ (63 - j) = P at *
  generalize A / 2 ^ (2 * j) = N at *
  generalize r * r = R at *
  exact ⟨by omega, by omega, by omega⟩
structure SqMem (n : Nat) (ah al lh ll : Int) (w : World) : Prop where
  s0 : n < w.heap.size
  s1 : n + 1 < w.heap.size
  s2 : n + 1 + 1 < w.heap.size
  c0 : w.cell? ⟨n, 0, none⟩ = some (.int .u64 ah)
  c1 : w.cell? ⟨n, 1, none⟩ = some (.int .u64 al)
  d0 : ∃ x, w.cell? ⟨n + 1, 0, none⟩ = some (.int .u64 x)
  d1 : ∃ x, w.cell? ⟨n + 1, 1, none⟩ = some (.int .u64 x)
  e0 : w.cell? ⟨n + 1 + 1, 0, none⟩ = some (.int .u64 lh)
  e1 : w.cell? ⟨n + 1 + 1, 1, none⟩ = some (.int .u64 ll)
  f10 : w.frozen? ⟨n + 1, 0, none⟩ = false
  f11 : w.frozen? ⟨n + 1, 1, none⟩ = false
  f20 : w.frozen? ⟨n + 1 + 1, 0, none⟩ = false
  f21 : w.frozen? ⟨n + 1 + 1, 1, none⟩ = false

theorem SqMem.below {n : Nat} {ah al lh ll : Int} {W w1 : World} (h : SqMem n ah al lh ll W) (hb : Below W.heap.size W w1) : SqMem n ah al lh ll w1 := by
  obtain ⟨hc, hf⟩ := bcell hb
  have hs := hb.size
  refine ⟨by have := h.s0; omega, by have := h.s1; omega, by have := h.s2; omega, ?_, ?_, ?_, ?_, ?_, ?_, ?_, ?_, ?_, ?_⟩
  · rw [hc _ _ h.s0]; exact h.c0
  · rw [hc _ _ h.s0]; exact h.c1
  · rw [hc _ _ h.s1]; exact h.d0
  · rw [hc _ _ h.s1]; exact h.d1
  · rw [hc _ _ h.s2]; exact h.e0
  · rw [hc _ _ h.s2]; exact h.e1
  · rw [hf _ _ h.s1]; exact h.f10
  · rw [hf _ _ h.s1]; exact h.f11
  · rw [hf _ _ h.s2]; exact h.f20
  · rw [hf _ _ h.s2]; exact h.f21

theorem SqMem.alloc {n : Nat} {ah al lh ll : Int} {W : World} (h : SqMem n ah al lh ll W) (o : Obj) : SqMem n ah al lh ll (W.alloc o) :=
  h.below ((Below.refl _ _).alloc (Nat.le_refl _) o)
theorem SqMem.set {n : Nat} {ah al lh ll : Int} {W : World} (h : SqMem n ah al lh ll W) (x y : Int) : SqMem n ah al x y ((W.setCell ⟨n + 1 + 1, 0, none⟩ (.int .u64 x)).setCell ⟨n + 1 + 1, 1, none⟩ (.int .u64 y)) := by
  obtain ⟨s0, s1, s2, c0, c1, ⟨x0, d0⟩, ⟨x1, d1⟩, e0, e1, f10, f11, f20, f21⟩ := h
  refine ⟨by simpa using s0, by simpa using s1, by simpa using s2, ?_, ?_, ⟨x0, ?_⟩, ⟨x1, ?_⟩, ?_, ?_, ?_, ?_, ?_, ?_⟩ <;> simp [go_sem, *]
theorem SqMem.drew {n : Nat} {ah al lh ll : Int} {W : World} (h : SqMem n ah al lh ll W) : SqMem n ah al lh ll W.drew := by
  obtain ⟨s0, s1, s2, c0, c1, ⟨x0, d0⟩, ⟨x1, d1⟩, e0, e1, f10, f11, f20, f21⟩ := h
  exact ⟨s0, s1, s2, c0, c1, ⟨x0, d0⟩, ⟨x1, d1⟩, e0, e1, f10, f11, f20, f21⟩

end Go.Proofs.YthjoigkckgdcaaaGreat
namespace Go.Proofs.YthjoigkckgdcaaaGreat
open Go.RowKit
set_option linter.unusedVariables false

end Go.Proofs.YthjoigkckgdcaaaGreat
namespace Go.Proofs.YthjoigkckgdcaaaGreat
open Go.RowKit
set_option linter.unusedVariables false

/-! ### The number of bits -/
theorem cell_past {w : World} {a : Addr} {v : Value} (h : w.cell? a = some v) (o : Obj) : (w.alloc o).cell? a = some v := (World.cell?_alloc_some w a o (by rw [h]; rfl)).trans h

end Go.Proofs.YthjoigkckgdcaaaGreat
namespace Go.Proofs.YthjoigkckgdcaaaGreat
open Go.RowKit
set_option linter.unusedVariables false

theorem cell_on {W w1 : World} (hb : Below W.heap.size W w1) {a : Addr} {v : Value} (h : W.cell? a = some v) : w1.cell? a = some v := by
  rw [hb.cell (World.block_lt_of_cell? W a h)]; exact h
theorem below_new {w W : World} (h : Below w.heap.size w W) (o : Obj) : Below w.heap.size w (W.alloc o) := h.alloc h.size o
theorem lt_new {w1 : World} {b o : Nat} {v : Value} (h : w1.cell? ⟨b, o, none⟩ = some v) : b < w1.heap.size := World.block_lt_of_cell? w1 ⟨b, o, none⟩ h

end Go.Proofs.YthjoigkckgdcaaaGreat
namespace Go.Proofs.YthjoigkckgdcaaaGreat
open Go.RowKit
set_option linter.unusedVariables false

/-! ### One half of the quotient: a digit of 32 bits -/
structure Half (U V X D Q q p : Int) : Prop where
  sum : q * V + p = U
  le : Q ≤ q
  p0 : 0 ≤ p
  p1 : p < 4294967296
  q0 : 0 ≤ q
  q1 : q ≤ 4294967297
structure Digit (U V X D Q : Int) : Prop where
  V0 : 2147483648 ≤ V
  V1 : V < 4294967296
  X0 : 0 ≤ X
  X1 : X < 4294967296
  D0 : 0 ≤ D
  D1 : D < 4294967296
  U0 : 0 ≤ U
  U1 : U < V * 4294967296 + X
  Q0 : 0 ≤ Q
  lo : Q * (V * 4294967296 + X) ≤ U * 4294967296 + D
  hi : U * 4294967296 + D < Q * (V * 4294967296 + X) + (V * 4294967296 + X)
theorem Digit.mono {U V X D Q : Int} (h : Digit U V X D Q) {a b : Int} (l : a ≤ b) : a * (V * 4294967296 + X) ≤ b * (V * 4294967296 + X) :=
  Int.mul_le_mul_of_nonneg_right l (by have := h.V0; have := h.X0; omega)
theorem Digit.lt {U V X D Q : Int} (h : Digit U V X D Q) : Q < 4294967296 := by
  by_cases c : Q < 4294967296
  · exact c
  · have m := h.mono (show (4294967296 : Int) ≤ Q by omega)
    have a := h.lo; have b := h.U1; have d := h.D1
    omega
theorem Half.next {U V X D Q q p : Int} (h : Digit U V X D Q) (i : Half U V X D Q q p) (k : Q ≤ q - 1) (c : p + V < 4294967296) : Half U V X D Q (q - 1) (p + V) := by
  have s := i.sum; have a := i.p0; have v := h.V0; have q0 := h.Q0; have q1 := i.q1
  refine ⟨?_, k, by omega, c, by omega, by omega⟩
  rw [Int.sub_mul, Int.one_mul]; omega
end Go.Proofs.YthjoigkckgdcaaaGreat
namespace Go.Proofs.YthjoigkckgdcaaaGreat
set_option linter.unusedSimpArgs false
set_option linter.unusedVariables false
def fS (s : Bool) : Int := if s then 2147483648 else 9223372036854775808
def fI (s : Bool) : Int := if s then 2139095040 else 9218868437227405312
def fP (s : Bool) : Nat := if s then 23 else 52
def fL (s : Bool) : Int := if s then -149 else -1074
def blen (n : Nat) : Nat := if n = 0 then 0 else n.log2 + 1
theorem lt_blen (n : Nat) : n < 2 ^ blen n := by
  unfold blen
  split
  · subst_vars; decide
  · exact Nat.lt_log2_self
theorem blen_le {n : Nat} (h : n ≠ 0) : 2 ^ (blen n - 1) ≤ n ∧ 1 ≤ blen n := by
  unfold blen
  rw [if_neg h]
  exact ⟨Nat.log2_self_le h, by omega⟩
def lastOf (s : Bool) (n : Nat) (e : Int) : Int := max ((blen n : Int) - (fP s + 1) + e) (fL s)
def quo (n : Nat) (k : Int) : Nat := if k ≤ 0 then n * 2 ^ (-k).toNat else n / 2 ^ k.toNat
def half (n : Nat) (k : Int) : Bool := decide (1 ≤ k) && (n / 2 ^ (k.toNat - 1) % 2 == 1)
def low (n : Nat) (k : Int) : Bool := decide (1 ≤ k) && (n % 2 ^ (k.toNat - 1) != 0)
def sgnd (s below : Bool) (z : Int) : Int := if below then z + fS s else z
end Go.Proofs.YthjoigkckgdcaaaGreat
namespace Go.Proofs.YthjoigkckgdcaaaGreat
open Go.RowKit
set_option linter.unusedVariables false
set_option linter.unusedSimpArgs false
def fmtV : Bool → Value
  | true => .agg #[.int .i64 32, .int .i64 23, .int .i64 (-149), .int .u64 2147483648, .int .u64 2139095040]
  | false => .agg #[.int .i64 64, .int .i64 52, .int .i64 (-1074), .int .u64 9223372036854775808, .int .u64 9218868437227405312]
def fmtO : Bool → Obj
  | true => .cells #[.int .i64 32, .int .i64 23, .int .i64 (-149), .int .u64 2147483648, .int .u64 2139095040] 220
  | false => .cells #[.int .i64 64, .int .i64 52, .int .i64 (-1074), .int .u64 9223372036854775808, .int .u64 9218868437227405312] 220
def fNan (s : Bool) : Int := if s then 2143289344 else 9221120237041090560
def zOf (s : Bool) (a : Int) : Int := bits BinOp.andNot IntKind.u64 a (fS s)
def wideB (s : Bool) (a : Int) : Bool := s && decide (4294967296 ≤ a)
def cls (s : Bool) (a : Int) : Int :=
  if wideB s a then 0 else if fI s < zOf s a then 5 else if zOf s a = fI s then 4 else if zOf s a = 0 then 1 else if zOf s a / 2 ^ fP s = 0 then 2 else 3
theorem zOf_word (s : Bool) (a : Int) (h : Word a) : Word (zOf s a) := by
  obtain ⟨x, rfl⟩ := Int.eq_ofNat_of_zero_le h.1
  have hx := h.2
  have e : ∃ b : Nat, fS s = (b : Int) ∧ b < 18446744073709551616 := by
    cases s
    · exact ⟨9223372036854775808, rfl, by decide⟩
    · exact ⟨2147483648, rfl, by decide⟩
  obtain ⟨b, e1, e2⟩ := e
  unfold zOf
  rw [e1, u64_andNot_nat x b (by omega) e2]
  have l := Nat.and_le_left (n := x) (m := 18446744073709551615 - b)
  exact ⟨by omega, by omega⟩
theorem zOf_double (a : Int) (h : Word a) : zOf false a = a % 9223372036854775808 := by
  obtain ⟨x, rfl⟩ := Int.eq_ofNat_of_zero_le h.1
  have hx := h.2
  have t := u64_andNot_nat x 9223372036854775808 (by omega) (by decide)
  have e : x &&& (18446744073709551615 - 9223372036854775808) = x % 9223372036854775808 := Nat.and_two_pow_sub_one_eq_mod x 63
  rw [e] at t
  show bits BinOp.andNot IntKind.u64 (x : Int) 9223372036854775808 = _
  exact t.trans (by omega)
theorem zOf_single (a : Int) (h : 0 ≤ a) (h' : a < 4294967296) : zOf true a = a % 2147483648 := by
  obtain ⟨x, rfl⟩ := Int.eq_ofNat_of_zero_le h
  have t := u64_andNot_nat x 2147483648 (by omega) (by decide)
  have e : x &&& (18446744073709551615 - 2147483648) = x % 2147483648 := by
    have l := Nat.and_le_left (n := x) (m := 18446744073709551615 - 2147483648)
    have m := Nat.and_mod_two_pow (a := x) (b := 18446744073709551615 - 2147483648) (n := 32)
    rw [Nat.mod_eq_of_lt (a := x &&& (18446744073709551615 - 2147483648)) (by omega), Nat.mod_eq_of_lt (a := x) (by omega)] at m
    rw [m]
    exact Nat.and_two_pow_sub_one_eq_mod x 31
  rw [e] at t
  show bits BinOp.andNot IntKind.u64 (x : Int) 2147483648 = _
  exact t.trans (by omega)

theorem i64_eq {a b : Int} (h : a = b) : Ending.returned (Value.int IntKind.i64 a) = .returned (.int .i64 b) := by rw [h]
set_option maxHeartbeats 1600000 in
theorem class_any (s : Bool) (a : Int) (h : Word a) (w : World) :
    Calls Tryz.prog 276 #[fmtV s, .int .u64 a] w fun e w' => e = .returned (.int .i64 (cls s a)) ∧ w' = w.alloc (fmtO s) := by
  obtain ⟨a0, a1⟩ := id h
  obtain ⟨z0, z1⟩ := zOf_word s a h
  have hz : ∃ z, zOf s a = z := ⟨_, rfl⟩
  obtain ⟨z, hz⟩ := hz
  have hc : ∃ k, cls s a = k := ⟨_, rfl⟩
  obtain ⟨k, hc⟩ := hc
  rw [hz] at z0 z1
  rw [hc]
  unfold cls wideB at hc
  rw [hz] at hc
  cases s
  · have hq : bits BinOp.andNot IntKind.u64 a 9223372036854775808 = z := hz
    have hw : (a / 18446744073709551616 != 0) = false := by simp; omega
    simp only [Bool.false_and, Bool.false_eq_true, if_false, fI, fP] at hc
    have HC : Hid _ := hc
    clear hc hz
    unfold fmtV
    by_cases c1 : 9218868437227405312 < z
    · have hk := HC.out
      simp [c1] at hk
      have HK : Hid _ := hk
      clear hk
      go_enter Tryz.func276, Tryz.ntmps276
      go_wp2_with fail
      go_ret
      exact ⟨i64_eq HK.out, rfl⟩
    · by_cases c2 : z = 9218868437227405312
      · have hk := HC.out
        simp [c1, c2] at hk
        have HK : Hid _ := hk
        clear hk
        go_enter Tryz.func276, Tryz.ntmps276
        go_wp2_with fail
        go_ret
        exact ⟨i64_eq HK.out, rfl⟩
      · by_cases c3 : z = 0
        · have hk := HC.out
          simp [c1, c2, c3] at hk
          have HK : Hid _ := hk
          clear hk
          go_enter Tryz.func276, Tryz.ntmps276
          go_wp2_with fail
          go_ret
          exact ⟨i64_eq HK.out, rfl⟩
        · by_cases c4 : z / 4503599627370496 = 0
          · have hk := HC.out
            simp [c1, c2, c3, c4] at hk
            have HK : Hid _ := hk
            clear hk
            go_enter Tryz.func276, Tryz.ntmps276
            go_wp2_with fail
            go_ret
            exact ⟨i64_eq HK.out, rfl⟩
          · have hk := HC.out
            simp [c1, c2, c3, c4] at hk
            have HK : Hid _ := hk
            clear hk
            go_enter Tryz.func276, Tryz.ntmps276
            go_wp2_with fail
            go_ret
            exact ⟨i64_eq HK.out, rfl⟩
  · have hq : bits BinOp.andNot IntKind.u64 a 2147483648 = z := hz
    simp only [Bool.true_and, decide_eq_true_iff, if_true, fI, fP] at hc
    have HC : Hid _ := hc
    clear hc hz
    unfold fmtV
    by_cases c0 : 4294967296 ≤ a
    · have hw : (a / 4294967296 != 0) = true := by simp; omega
      have hk := HC.out
      simp [c0] at hk
      have HK : Hid _ := hk
      clear hk
      go_enter Tryz.func276, Tryz.ntmps276
      go_wp2_with fail
      go_ret
      exact ⟨i64_eq HK.out, rfl⟩
    · have hw : (a / 4294967296 != 0) = false := by simp; omega
      by_cases c1 : 2139095040 < z
      · have hk := HC.out
        simp [c0, c1] at hk
        have HK : Hid _ := hk
        clear hk
        go_enter Tryz.func276, Tryz.ntmps276
        go_wp2_with fail
        go_ret
        exact ⟨i64_eq HK.out, rfl⟩
      · by_cases c2 : z = 2139095040
        · have hk := HC.out
          simp [c0, c1, c2] at hk
          have HK : Hid _ := hk
          clear hk
          go_enter Tryz.func276, Tryz.ntmps276
          go_wp2_with fail
          go_ret
          exact ⟨i64_eq HK.out, rfl⟩
        · by_cases c3 : z = 0
          · have hk := HC.out
            simp [c0, c1, c2, c3] at hk
            have HK : Hid _ := hk
            clear hk
            go_enter Tryz.func276, Tryz.ntmps276
            go_wp2_with fail
            go_ret
            exact ⟨i64_eq HK.out, rfl⟩
          · by_cases c4 : z / 8388608 = 0
            · have hk := HC.out
              simp [c0, c1, c2, c3, c4] at hk
              have HK : Hid _ := hk
              clear hk
              go_enter Tryz.func276, Tryz.ntmps276
              go_wp2_with fail
              go_ret
              exact ⟨i64_eq HK.out, rfl⟩
            · have hk := HC.out
              simp [c0, c1, c2, c3, c4] at hk
              have HK : Hid _ := hk
              clear hk
              go_enter Tryz.func276, Tryz.ntmps276
              go_wp2_with fail
              go_ret
              exact ⟨i64_eq HK.out, rfl⟩
end Go.Proofs.YthjoigkckgdcaaaGreat
namespace Go.Proofs.YthjoigkckgdcaaaGreat
set_option linter.unusedVariables false
set_option linter.unusedSimpArgs false
theorem kept (s : Bool) {n : Nat} (h : n ≠ 0) (e E : Int) (h1 : E ≤ e) (h2 : E ≤ fL s) :
    ∃ x : Nat, lastOf s n e - fL s = x ∧ quo n (lastOf s n e - e) < 2 ^ (fP s + 1) ∧ (x = 0 ∨ 2 ^ fP s ≤ quo n (lastOf s n e - e)) ∧
      quo n (lastOf s n e - e) * 2 ^ (x + (fL s - E).toNat) ≤ n * 2 ^ (e - E).toNat ∧ n * 2 ^ (e - E).toNat < (quo n (lastOf s n e - e) + 1) * 2 ^ (x + (fL s - E).toNat) ∧
      ((half n (lastOf s n e - e) || low n (lastOf s n e - e)) = false → n * 2 ^ (e - E).toNat = quo n (lastOf s n e - e) * 2 ^ (x + (fL s - E).toNat)) := by
  have hl : fL s ≤ lastOf s n e := by unfold lastOf; omega
  have hl2 : (blen n : Int) - (fP s + 1) + e ≤ lastOf s n e := by unfold lastOf; omega
  have hl3 : lastOf s n e = fL s ∨ lastOf s n e = (blen n : Int) - (fP s + 1) + e := by unfold lastOf; omega
  obtain ⟨b1, b2⟩ := blen_le h
  have b3 := lt_blen n
  generalize lastOf s n e = L at *
  refine ⟨(L - fL s).toNat, by omega, ?_⟩
  have ex : (L - fL s).toNat + (fL s - E).toNat = (L - E).toNat := by omega
  rw [ex]
  by_cases c : L - e ≤ 0
  · have q : quo n (L - e) = n * 2 ^ (e - L).toNat := by unfold quo; rw [if_pos c]; congr 2; omega
    have ee : n * 2 ^ (e - L).toNat * 2 ^ (L - E).toNat = n * 2 ^ (e - E).toNat := by rw [Nat.mul_assoc, ← Nat.pow_add]; congr 2; omega
    rw [q]
    refine ⟨?_, ?_, ?_, ?_, ?_⟩
    · have : n * 2 ^ (e - L).toNat < 2 ^ blen n * 2 ^ (e - L).toNat := Nat.mul_lt_mul_of_pos_right b3 (Nat.two_pow_pos _)
      rw [← Nat.pow_add] at this
      exact Nat.lt_of_lt_of_le this (Nat.pow_le_pow_right (by decide) (by omega))
    · rcases hl3 with g | g
      · left; omega
      · right
        have : 2 ^ (blen n - 1) * 2 ^ (e - L).toNat ≤ n * 2 ^ (e - L).toNat := Nat.mul_le_mul_right _ b1
        rw [← Nat.pow_add] at this
        exact Nat.le_trans (Nat.pow_le_pow_right (by decide) (by omega)) this
    · omega
    · rw [Nat.add_mul, ee]; have := Nat.two_pow_pos (L - E).toNat; omega
    · intro _; exact ee.symm
  · have q : quo n (L - e) = n / 2 ^ (L - e).toNat := by unfold quo; rw [if_neg c]
    have hp := Nat.two_pow_pos (L - e).toNat
    have dm := Nat.div_add_mod n (2 ^ (L - e).toNat)
    have lt := Nat.mod_lt n hp
    have ee : 2 ^ (L - E).toNat = 2 ^ (L - e).toNat * 2 ^ (e - E).toNat := by rw [← Nat.pow_add]; congr 1; omega
    have p2 := Nat.two_pow_pos (e - E).toNat
    rw [q]
    refine ⟨?_, ?_, ?_, ?_, ?_⟩
    · rw [Nat.div_lt_iff_lt_mul hp, ← Nat.pow_add]
      exact Nat.lt_of_lt_of_le b3 (Nat.pow_le_pow_right (by decide) (by omega))
    · rcases hl3 with g | g
      · left; omega
      · right
        rw [Nat.le_div_iff_mul_le hp, ← Nat.pow_add]
        exact Nat.le_trans (Nat.pow_le_pow_right (by decide) (by omega)) b1
    · rw [ee, ← Nat.mul_assoc]
      exact Nat.mul_le_mul_right _ (by rw [Nat.mul_comm]; omega)
    · rw [ee, ← Nat.mul_assoc]
      exact Nat.mul_lt_mul_of_pos_right (by rw [Nat.add_mul, Nat.mul_comm]; omega) p2
    · intro ho
      rw [ee, ← Nat.mul_assoc]
      congr 1
      have k1 : 1 ≤ L - e := by omega
      unfold half low at ho
      rw [decide_eq_true k1] at ho
      have kk : (L - e).toNat = ((L - e).toNat - 1) + 1 := by omega
      generalize (L - e).toNat - 1 = j at *
      rw [kk, Nat.pow_succ] at dm ⊢
      simp only [Bool.true_and, Bool.or_eq_false_iff, beq_eq_false_iff_ne, bne_eq_false_iff_eq, ne_eq] at ho
      obtain ⟨o1, o2⟩ := ho
      have t1 := Nat.div_add_mod n (2 ^ j)
      rw [o2] at t1
      have t2 : n / (2 ^ j * 2) = n / 2 ^ j / 2 := (Nat.div_div_eq_div_mul _ _ _).symm
      rw [t2]
      generalize n / 2 ^ j = y at *
      have t3 : y = 2 * (y / 2) := by omega
      have : n = 2 ^ j * y := by omega
      rw [this]
      conv => lhs; rw [t3]
      simp only [Nat.mul_comm, Nat.mul_left_comm, Nat.mul_assoc]
end Go.Proofs.YthjoigkckgdcaaaGreat
namespace Go.Proofs.YthjoigkckgdcaaaGreat
open Go.RowKit
set_option linter.unusedVariables false
set_option linter.unusedSimpArgs false
def sgn (s : Bool) (a : Int) : Bool := bits BinOp.and IntKind.u64 a (fS s) != 0
def whl (s : Bool) (a : Int) : Int := if 0 < zOf s a / 2 ^ fP s then a % 2 ^ fP s + 2 ^ fP s else a % 2 ^ fP s
def pwr (s : Bool) (a : Int) : Int := if 0 < zOf s a / 2 ^ fP s then fL s + (zOf s a / 2 ^ fP s - 1) else fL s
def prtV (s : Bool) (a : Int) : Value := .agg #[.int .i64 (cls s a), .bool (sgn s a), .int .u64 (whl s a), .int .i64 (pwr s a)]

theorem and_lowD (a : Int) (h : Word a) : bits BinOp.and IntKind.u64 a 4503599627370495 = a % 4503599627370496 := by
  obtain ⟨x, rfl⟩ := Int.eq_ofNat_of_zero_le h.1
  have hx := h.2
  have t := u64_and_nat x 4503599627370495 (by omega) (by decide)
  have e : x &&& 4503599627370495 = x % 4503599627370496 := Nat.and_two_pow_sub_one_eq_mod x 52
  rw [e] at t
  exact t.trans (by omega)
theorem or_topD (r : Int) (h0 : 0 ≤ r) (h : r < 4503599627370496) : bits BinOp.or IntKind.u64 r 4503599627370496 = r + 4503599627370496 := by
  obtain ⟨x, rfl⟩ := Int.eq_ofNat_of_zero_le h0
  have t := u64_or_nat x 4503599627370496 (by omega) (by decide)
  have e : x ||| 4503599627370496 = x + 4503599627370496 := by
    have k := Nat.two_pow_add_eq_or_of_lt (i := 52) (b := x) (by omega) 1
    rw [Nat.mul_one] at k
    rw [Nat.or_comm, ← show 2 ^ 52 = 4503599627370496 by decide, ← k, Nat.add_comm]
  rw [e] at t
  exact t.trans (by omega)

theorem and_lowS (a : Int) (h : Word a) : bits BinOp.and IntKind.u64 a 8388607 = a % 8388608 := by
  obtain ⟨x, rfl⟩ := Int.eq_ofNat_of_zero_le h.1
  have hx := h.2
  have t := u64_and_nat x 8388607 (by omega) (by decide)
  have e : x &&& 8388607 = x % 8388608 := Nat.and_two_pow_sub_one_eq_mod x 23
  rw [e] at t
  exact t.trans (by omega)
theorem or_topS (r : Int) (h0 : 0 ≤ r) (h : r < 8388608) : bits BinOp.or IntKind.u64 r 8388608 = r + 8388608 := by
  obtain ⟨x, rfl⟩ := Int.eq_ofNat_of_zero_le h0
  have t := u64_or_nat x 8388608 (by omega) (by decide)
  have e : x ||| 8388608 = x + 8388608 := by
    have k := Nat.two_pow_add_eq_or_of_lt (i := 23) (b := x) (by omega) 1
    rw [Nat.mul_one] at k
    rw [Nat.or_comm, ← show 2 ^ 23 = 8388608 by decide, ← k, Nat.add_comm]
  rw [e] at t
  exact t.trans (by omega)
end Go.Proofs.YthjoigkckgdcaaaGreat
namespace Go.Proofs.YthjoigkckgdcaaaGreat
open Go.RowKit
set_option linter.unusedVariables false
set_option linter.unusedSimpArgs false
def prt (k : Int) (g : Bool) (u p : Int) : Value := .agg #[.int .i64 k, .bool g, .int .u64 u, .int .i64 p]
def prtO (k : Int) (g : Bool) (u p : Int) : Obj := .cells #[.int .i64 k, .bool g, .int .u64 u, .int .i64 p] 223

theorem or_nanD : bits BinOp.or IntKind.u64 9218868437227405312 2251799813685248 = 9221120237041090560 := by rfl
theorem or_nanS : bits BinOp.or IntKind.u64 2139095040 4194304 = 2143289344 := by rfl
theorem most_any (s : Bool) (w : World) : Calls Tryz.prog 233 #[fmtV s] w fun e w' => e = .returned (.int .u64 (fI s - 1)) ∧ w' = w.alloc (fmtO s) := by
  cases s
  · unfold fmtV fmtO
    go_enter Tryz.func233, Tryz.ntmps233
    go_wp2_with fail
    go_ret
    exact ⟨rfl, rfl⟩
  · unfold fmtV fmtO
    go_enter Tryz.func233, Tryz.ntmps233
    go_wp2_with fail
    go_ret
    exact ⟨rfl, rfl⟩
theorem noNumber_any (k : Int) (g : Bool) (u p : Int) (w : World) :
    Calls Tryz.prog 231 #[prt k g u p] w fun e w' => e = .returned (.bool (k == 0 || k == 5)) ∧ w' = w.alloc (prtO k g u p) := by
  unfold prt prtO
  by_cases c : k = 0
  · subst c
    go_enter Tryz.func231, Tryz.ntmps231
    go_wp2_with fail
    go_ret
    exact ⟨rfl, rfl⟩
  · have c' : (k == 0) = false := by simp [c]
    rw [c', Bool.false_or]
    go_enter Tryz.func231, Tryz.ntmps231
    go_wp2_with fail
    all_goals go_ret
    all_goals exact ⟨rfl, rfl⟩
end Go.Proofs.YthjoigkckgdcaaaGreat
namespace Go.Proofs.YthjoigkckgdcaaaGreat
open Go.RowKit
set_option linter.unusedVariables false
set_option linter.unusedSimpArgs false
end Go.Proofs.YthjoigkckgdcaaaGreat
namespace Go.Proofs.YthjoigkckgdcaaaGreat
open Go.RowKit
set_option linter.unusedVariables false
set_option linter.unusedSimpArgs false
end Go.Proofs.YthjoigkckgdcaaaGreat

