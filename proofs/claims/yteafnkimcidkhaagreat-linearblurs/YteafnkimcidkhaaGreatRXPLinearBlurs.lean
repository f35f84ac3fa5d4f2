/- Texts of the proof, put together. -/
import Derived.Test.YteafnkimcidkhaaGreatRG1
import Derived.Test.YteafnkimcidkhaaGreatRG2
import Derived.Test.YteafnkimcidkhaaGreatRSpWf
import Derived.Test.YteafnkimcidkhaaGreatShelf
import Derived.Test.YteafnkimcidkhaaGreatRMB1
import Derived.Test.YteafnkimcidkhaaGreatRMB2
import Derived.Test.YteafnkimcidkhaaGreatRMB3
import Derived.Test.YteafnkimcidkhaaGreatRSpF
import Derived.Test.YteafnkimcidkhaaGreatRSpFl
import Derived.Test.YteafnkimcidkhaaGreatRLjF
import Derived.Test.YteafnkimcidkhaaGreatRLjH
import Derived.Test.YteafnkimcidkhaaGreatRG3
import Derived.Test.YteafnkimcidkhaaGreatRLiF
import Derived.Test.YteafnkimcidkhaaGreatRLiG
import Derived.Test.YteafnkimcidkhaaGreatRLiH
import Derived.Test.YteafnkimcidkhaaGreatRLiI
import Derived.Test.YteafnkimcidkhaaGreatRLiJ
import Derived.Test.YteafnkimcidkhaaGreatRLiK
import Derived.Test.YteafnkimcidkhaaGreatRLiL
import Derived.Test.YteafnkimcidkhaaGreatRLiB
import Derived.Test.YteafnkimcidkhaaGreatRMB4
import Derived.Test.YteafnkimcidkhaaGreatRMB5
import Derived.Test.YteafnkimcidkhaaGreatRLiO
import Derived.Test.YteafnkimcidkhaaGreatRG5
import Derived.Test.YteafnkimcidkhaaGreatRG4
import Derived.Test.YteafnkimcidkhaaGreatRG6
import Derived.Test.YteafnkimcidkhaaGreatRG7
import Derived.Test.YteafnkimcidkhaaGreatRG8
import Derived.Test.YteafnkimcidkhaaGreatRG9
import Derived.WalkKit
import Derived.WalkSpells
import Derived.StillTactics
import Derived.Laws.Pointers
import Derived.Laws.Externs
import Derived.Deep.RegionHeld3
import Derived.Below
import Derived.RowKit
import Derived.Laws.EntriesVeiled
import Derived.Shelf.Abstract
import Derived.Laws.Bits64
import Derived.Laws.Bits64b
import Derived.Lib.Mul64
import Derived.Lib.BitFns
import Derived.Shelf.Spec.BitsCarry
import Derived.BigQuiet
import Derived.Deep.QuietTactic
import Derived.Deep.DeepCutAuto
import Derived.ScopeJumps
import Derived.Deep.CutBlock
import Derived.Laws.BitsAllLaws
import Derived.Laws.Append
import Derived.Deep.Upon
import Derived.Maps.AppendAt
namespace Go.Proofs.YteafnkimcidkhaaGreat
open Go.RowKit
set_option linter.unusedVariables false
set_option linter.unusedSimpArgs false
def meetP (A : Ways) (p q : Bool × Int × Int) : Bool × Int × Int := if p.1 || q.1 || decide (0 < A.ord (grt A p.2.1 q.2.1) (sml A p.2.2 q.2.2)) then (true, 0, 0) else (false, grt A p.2.1 q.2.1, sml A p.2.2 q.2.2)
end Go.Proofs.YteafnkimcidkhaaGreat

namespace Go.Proofs.YteafnkimcidkhaaGreat
open Go.RowKit
set_option linter.unusedVariables false
set_option linter.unusedSimpArgs false
theorem lw_at {W : World} {b : Nat} {t : TypeId} {z : Nat × Nat} {c : Array Value} (q : W.heap[b]? = some (.cells c t z)) (j : Nat) (v : Value) : (W.setCell ⟨b, j, none⟩ v).heap[b]? = some (.cells (c.setIfInBounds j v) t z) := by
  simp [World.setCell, Array.getElem?_modify, q]
def set5 (W : World) (b : Nat) (x0 x1 x2 x3 x4 : Value) : World := ((((W.setCell ⟨b, 0, none⟩ x0).setCell ⟨b, 1, none⟩ x1).setCell ⟨b, 2, none⟩ x2).setCell ⟨b, 3, none⟩ x3).setCell ⟨b, 4, none⟩ x4
theorem lw_set5 {W : World} {b : Nat} {t : TypeId} {z : Nat × Nat} {y0 y1 y2 y3 y4 : Value} (q : W.heap[b]? = some (.cells #[y0, y1, y2, y3, y4] t z)) (x0 x1 x2 x3 x4 : Value) : (set5 W b x0 x1 x2 x3 x4).heap[b]? = some (.cells #[x0, x1, x2, x3, x4] t z) := by
  have h := (lw_at (lw_at (lw_at (lw_at (lw_at q 0 x0) 1 x1) 2 x2) 3 x3) 4 x4)
  simpa [set5] using h
theorem lw_on {X v : World} {b : Nat} {o : Obj} (g : Below X.heap.size X v) (q : X.heap[b]? = some o) : v.heap[b]? = some o := (g.block b (Array.getElem?_eq_some_iff.1 q).1).trans q
theorem lw_cells5 {v : World} {b : Nat} {t : TypeId} {x0 x1 x2 x3 x4 : Value} (q : v.heap[b]? = some (.cells #[x0, x1, x2, x3, x4] t (0, 0))) : v.cell? ⟨b, 0, none⟩ = some x0 ∧ v.cell? ⟨b, 1, none⟩ = some x1 ∧ v.cell? ⟨b, 2, none⟩ = some x2 ∧ v.cell? ⟨b, 3, none⟩ = some x3 ∧ v.cell? ⟨b, 4, none⟩ = some x4 ∧ ∀ j, v.frozen? ⟨b, j, none⟩ = false :=
  ⟨by simp [World.cell?, q], by simp [World.cell?, q], by simp [World.cell?, q], by simp [World.cell?, q], by simp [World.cell?, q], fun j => by simp [World.frozen?, q]⟩
theorem lw_sp5 {w W : World} (h : Below w.heap.size w W) {b : Nat} (hb : w.heap.size ≤ b) (x0 x1 x2 x3 x4 : Value) : Below w.heap.size w (set5 W b x0 x1 x2 x3 x4) :=
  ((((h.setCell (p := ⟨b, 0, none⟩) hb x0).setCell (p := ⟨b, 1, none⟩) hb x1).setCell (p := ⟨b, 2, none⟩) hb x2).setCell (p := ⟨b, 3, none⟩) hb x3).setCell (p := ⟨b, 4, none⟩) hb x4
end Go.Proofs.YteafnkimcidkhaaGreat

namespace Go.Proofs.YteafnkimcidkhaaGreat
def belowP (A : Ways) (L : Ln) (x : Int) : Bool × Int × Int := if A.ord x L.least ≤ 0 then (true, 0, 0) else (false, L.least, A.prv x)
def aboveP (A : Ways) (L : Ln) (x : Int) : Bool × Int × Int := if 0 ≤ A.ord x L.most then (true, 0, 0) else (false, A.nxt x, L.most)
end Go.Proofs.YteafnkimcidkhaaGreat

namespace Go.Proofs.YteafnkimcidkhaaGreat
set_option linter.unusedVariables false

/-! ### Sums and differences -/
/-! ### Moves -/
end Go.Proofs.YteafnkimcidkhaaGreat
namespace Go.Proofs.YteafnkimcidkhaaGreat
open Go.RowKit
set_option linter.unusedVariables false

end Go.Proofs.YteafnkimcidkhaaGreat
namespace Go.Proofs.YteafnkimcidkhaaGreat
open Go.RowKit
set_option linter.unusedVariables false

end Go.Proofs.YteafnkimcidkhaaGreat
namespace Go.Proofs.YteafnkimcidkhaaGreat
open Go.RowKit
set_option linter.unusedVariables false

end Go.Proofs.YteafnkimcidkhaaGreat
namespace Go.Proofs.YteafnkimcidkhaaGreat
open Go.RowKit
set_option linter.unusedVariables false

/-! ### The arithmetic of one round -/
end Go.Proofs.YteafnkimcidkhaaGreat
namespace Go.Proofs.YteafnkimcidkhaaGreat
open Go.RowKit
set_option linter.unusedVariables false

end Go.Proofs.YteafnkimcidkhaaGreat
namespace Go.Proofs.YteafnkimcidkhaaGreat
open Go.RowKit
set_option linter.unusedVariables false

/-! ### The number of bits -/
end Go.Proofs.YteafnkimcidkhaaGreat
namespace Go.Proofs.YteafnkimcidkhaaGreat
open Go.RowKit
set_option linter.unusedVariables false

end Go.Proofs.YteafnkimcidkhaaGreat
namespace Go.Proofs.YteafnkimcidkhaaGreat
open Go.RowKit
set_option linter.unusedVariables false

/-! ### One half of the quotient: a digit of 32 bits -/
end Go.Proofs.YteafnkimcidkhaaGreat
namespace Go.Proofs.YteafnkimcidkhaaGreat
set_option linter.unusedSimpArgs false
set_option linter.unusedVariables false
end Go.Proofs.YteafnkimcidkhaaGreat
namespace Go.Proofs.YteafnkimcidkhaaGreat
open Go.RowKit
set_option linter.unusedVariables false
set_option linter.unusedSimpArgs false
end Go.Proofs.YteafnkimcidkhaaGreat
namespace Go.Proofs.YteafnkimcidkhaaGreat
set_option linter.unusedVariables false
set_option linter.unusedSimpArgs false
theorem val_zero (s : Bool) : val s 0 = 0 := by unfold val; rw [Nat.zero_div, if_pos rfl]
theorem mag_up (s : Bool) (m : Int) (b : Bool) (hm : ∀ o h l, away m b o h l = (h || l)) {n : Nat} (h : n ≠ 0) (e E : Int) (h1 : E ≤ e) (h2 : E ≤ fL s) :
    ∃ z : Nat, mag s m b n e = z ∧ (z : Int) ≤ fI s ∧ ((z : Int) = fI s ∨ n * 2 ^ (e - E).toNat ≤ val s z * 2 ^ (fL s - E).toNat) := by
  obtain ⟨x, ex, q1, q2, q3, q4, q5⟩ := kept s h e E h1 h2
  obtain ⟨i, ei, i0, _⟩ := fI_nat s
  unfold mag fin great
  rw [ex, ei, hm, hm]
  generalize quo n (lastOf s n e - e) = q at *
  generalize (half n (lastOf s n e - e) || low n (lastOf s n e - e)) = g at *
  have v := val_at s x q (by omega) q2
  have v1 := val_at s x (q + 1) (by omega) (by omega)
  have le : n * 2 ^ (e - E).toNat ≤ val s (x * 2 ^ fP s + (q + if g = true then 1 else 0)) * 2 ^ (fL s - E).toNat := by
    cases g
    · simp only [Bool.false_eq_true, if_false, Nat.add_zero]
      rw [v, Nat.mul_assoc, ← Nat.pow_add, q5 rfl]
      exact Nat.le_refl _
    · simp only [if_true]
      rw [v1, Nat.mul_assoc, ← Nat.pow_add]
      exact Nat.le_of_lt q4
  generalize (q + if g = true then 1 else 0) = Y at *
  have cast : (x : Int) * 2 ^ fP s + (Y : Int) = ((x * 2 ^ fP s + Y : Nat) : Int) := by rw [Int.natCast_add, Int.natCast_mul]; simp
  rw [cast]
  generalize x * 2 ^ fP s + Y = z at *
  by_cases c : (i : Int) ≤ (z : Int)
  · rw [if_pos c, if_pos (by decide)]
    exact ⟨i, rfl, by omega, Or.inl rfl⟩
  · rw [if_neg c]
    exact ⟨z, rfl, by omega, Or.inr le⟩
theorem away_none (m : Int) (b o : Bool) : away m b o false false = false := by unfold away; split <;> (try split) <;> (try split) <;> rfl
theorem mag_exact (s : Bool) (m : Int) (b : Bool) (x q : Nat) (q0 : q ≠ 0) (h : q < 2 ^ (fP s + 1)) (h0 : x = 0 ∨ 2 ^ fP s ≤ q) (hi : ((x * 2 ^ fP s + q : Nat) : Int) < fI s) :
    mag s m b q (fL s + x) = ((x * 2 ^ fP s + q : Nat) : Int) := by
  have hl : lastOf s q (fL s + x) = fL s + x := by
    unfold lastOf
    have c1 := blen_le_of h
    rcases h0 with g | g
    · omega
    · have := le_blen g; omega
  unfold mag fin
  rw [hl]
  have k : fL s + (x : Int) - (fL s + x) = 0 := by omega
  rw [k]
  have a1 : quo q 0 = q := by unfold quo; rw [if_pos (by decide)]; simp
  have a2 : half q 0 = false := rfl
  have a3 : low q 0 = false := rfl
  rw [a1, a2, a3, away_none]
  have cast : (fL s + (x : Int) - fL s) * 2 ^ fP s + ((q + if false = true then 1 else 0 : Nat) : Int) = ((x * 2 ^ fP s + q : Nat) : Int) := by
    have : fL s + (x : Int) - fL s = x := by omega
    rw [this]; simp
  rw [cast, if_neg (by omega)]
end Go.Proofs.YteafnkimcidkhaaGreat
namespace Go.Proofs.YteafnkimcidkhaaGreat
open Go.RowKit
set_option linter.unusedVariables false
set_option linter.unusedSimpArgs false
end Go.Proofs.YteafnkimcidkhaaGreat
namespace Go.Proofs.YteafnkimcidkhaaGreat
open Go.RowKit
set_option linter.unusedVariables false
set_option linter.unusedSimpArgs false
end Go.Proofs.YteafnkimcidkhaaGreat
namespace Go.Proofs.YteafnkimcidkhaaGreat
open Go.RowKit
set_option linter.unusedVariables false
set_option linter.unusedSimpArgs false
end Go.Proofs.YteafnkimcidkhaaGreat
namespace Go.Proofs.YteafnkimcidkhaaGreat
open Go.RowKit
set_option linter.unusedVariables false
set_option linter.unusedSimpArgs false
end Go.Proofs.YteafnkimcidkhaaGreat

namespace Go.Proofs.YteafnkimcidkhaaGreat
open Go.RowKit
set_option linter.unusedVariables false
set_option linter.unusedSimpArgs false
end Go.Proofs.YteafnkimcidkhaaGreat
namespace Go.Proofs.YteafnkimcidkhaaGreat
open Go.RowKit
set_option linter.unusedVariables false
set_option linter.unusedSimpArgs false
theorem xor_lo (x i : Nat) (h : x < 2 ^ i) : x ^^^ 2 ^ i = x + 2 ^ i := by
  have k := Nat.two_pow_add_eq_or_of_lt h 1
  rw [Nat.mul_one] at k
  rw [Nat.add_comm, k]
  apply Nat.eq_of_testBit_eq
  intro j
  rw [Nat.testBit_xor, Nat.testBit_or, Nat.testBit_two_pow]
  by_cases c : i = j
  · subst c
    rw [Nat.testBit_lt_two_pow h]
    simp
  · simp [c]
theorem xor_hi (x i : Nat) (h : x < 2 ^ i) : (x + 2 ^ i) ^^^ 2 ^ i = x := by
  rw [← xor_lo x i h, Nat.xor_assoc, Nat.xor_self, Nat.xor_zero]
theorem xor_sgnd (s b : Bool) (z : Int) (h0 : 0 ≤ z) (h : z < fS s) : bits BinOp.xor IntKind.u64 (sgnd s b z) (fS s) = sgnd s (!b) z := by
  obtain ⟨x, rfl⟩ := Int.eq_ofNat_of_zero_le h0
  unfold sgnd
  cases s
  · have q : fS false = ((9223372036854775808 : Nat) : Int) := rfl
    rw [q] at h ⊢
    cases b
    · have t := u64_xor_nat x 9223372036854775808 (by omega) (by decide)
      have k := xor_lo x 63 (by omega)
      rw [show (2 : Nat) ^ 63 = 9223372036854775808 by decide] at k
      rw [k] at t
      simpa using t
    · have t := u64_xor_nat (x + 9223372036854775808) 9223372036854775808 (by omega) (by decide)
      have k := xor_hi x 63 (by omega)
      rw [show (2 : Nat) ^ 63 = 9223372036854775808 by decide] at k
      rw [k] at t
      simpa using t
  · have q : fS true = ((2147483648 : Nat) : Int) := rfl
    rw [q] at h ⊢
    cases b
    · have t := u64_xor_nat x 2147483648 (by omega) (by decide)
      have k := xor_lo x 31 (by omega)
      rw [show (2 : Nat) ^ 31 = 2147483648 by decide] at k
      rw [k] at t
      simpa using t
    · have t := u64_xor_nat (x + 2147483648) 2147483648 (by omega) (by decide)
      have k := xor_hi x 31 (by omega)
      rw [show (2 : Nat) ^ 31 = 2147483648 by decide] at k
      rw [k] at t
      simpa using t
theorem neg_made (s b : Bool) (z : Int) (h0 : 0 ≤ z) (h : z ≤ fI s) : negF s (sgnd s b z) = sgnd s (!b) z := by
  unfold negF
  rw [num_made s b z h0 h, if_neg (by decide), xor_sgnd s b z h0 (by have := fI_lt s; omega)]
end Go.Proofs.YteafnkimcidkhaaGreat
namespace Go.Proofs.YteafnkimcidkhaaGreat
open Go.RowKit
set_option linter.unusedVariables false
set_option linter.unusedSimpArgs false
end Go.Proofs.YteafnkimcidkhaaGreat
namespace Go.Proofs.YteafnkimcidkhaaGreat
open Go.RowKit
set_option linter.unusedVariables false
set_option linter.unusedSimpArgs false
end Go.Proofs.YteafnkimcidkhaaGreat
namespace Go.Proofs.YteafnkimcidkhaaGreat
open Go.RowKit
set_option linter.unusedVariables false
set_option linter.unusedSimpArgs false
end Go.Proofs.YteafnkimcidkhaaGreat
namespace Go.Proofs.YteafnkimcidkhaaGreat
open Go.RowKit
set_option linter.unusedVariables false
set_option linter.unusedSimpArgs false
end Go.Proofs.YteafnkimcidkhaaGreat
namespace Go.Proofs.YteafnkimcidkhaaGreat
open Go.RowKit
set_option linter.unusedVariables false
set_option linter.unusedSimpArgs false
def cvtF (s t : Bool) (m a : Int) : Int := if (cls s a == 0 || cls s a == 5) then fNan t else if cls s a == 4 then sgnd t (sgn s a) (fI t) else rnd t m (sgn s a) (whl s a).toNat (pwr s a)
theorem fin_wordC {s : Bool} {u p : Int} (h : Fin s u p) : Word u ∧ u < 9007199254740992 ∧ -1074 ≤ p ∧ p ≤ 2000 := by
  obtain ⟨a, b, c, d, e⟩ := h
  cases s
  · have b' : u < 9007199254740992 := b
    have c' : -1074 ≤ p := c
    exact ⟨⟨a, by omega⟩, b', c', d⟩
  · have b' : u < 16777216 := b
    have c' : -149 ≤ p := c
    exact ⟨⟨a, by omega⟩, by omega, by omega, d⟩
end Go.Proofs.YteafnkimcidkhaaGreat
namespace Go.Proofs.YteafnkimcidkhaaGreat
open Go.RowKit
set_option linter.unusedVariables false
set_option linter.unusedSimpArgs false
theorem n_word (s b : Bool) (z : Nat) (h : (z : Int) < fI s) : Word (sgnd s b z) := (made s b z (by omega) (by have := fI_lt s; omega)).1
theorem n_pos (s : Bool) (z : Nat) (h : (z : Int) < fI s) : nextF s (z : Int) = if (z : Int) = fI s - 1 then (z : Int) else (z : Int) + 1 := by
  have l := fI_lt s
  have e : sgnd s false (z : Int) = z := rfl
  obtain ⟨_, _, m3, m4⟩ := made s false z (by omega) (by omega)
  have f := n_fin s false z h
  rw [e] at m3 m4 f
  unfold nextF
  rw [f, m3, m4]
  simp only [if_true, Bool.false_eq_true, if_false]
  by_cases c : (z : Int) = fI s - 1
  · rw [if_pos c, if_pos c]
  · rw [if_neg c, if_neg c]
    by_cases c0 : (z : Int) = 0
    · rw [if_pos c0, c0]; rfl
    · rw [if_neg c0]
theorem n_neg0 (s : Bool) : nextF s (sgnd s true 0) = 1 := by cases s <;> decide +kernel
theorem n_neg (s : Bool) (z : Nat) (h0 : z ≠ 0) (h : (z : Int) < fI s) : nextF s (sgnd s true z) = if z = 1 then 0 else sgnd s true ((z - 1 : Nat) : Int) := by
  have l := fI_lt s
  obtain ⟨_, _, m3, m4⟩ := made s true z (by omega) (by omega)
  have f := n_fin s true z h
  unfold nextF
  rw [f, m3, m4]
  simp only [if_true]
  have ne : ¬ sgnd s true (z : Int) = fI s - 1 := by unfold sgnd; simp only [if_true]; omega
  rw [if_neg ne, if_neg (show ¬ (z : Int) = 0 by omega)]
  have e : sgnd s true (z : Int) - 1 = sgnd s true ((z - 1 : Nat) : Int) := by unfold sgnd; simp only [if_true]; omega
  rw [e, n_plain s true (z - 1) (by omega)]
  by_cases c : z = 1
  · rw [if_pos c, if_pos (by omega)]
  · rw [if_neg c, if_neg (by omega)]
theorem n_rnk (s b : Bool) (z : Nat) (h : (z : Int) < fI s) : rnk s (sgnd s b z) = if b then -(z : Int) else z := by
  have l := fI_lt s
  obtain ⟨_, _, m3, m4⟩ := made s b z (by omega) (by omega)
  unfold rnk
  rw [m3, m4]
structure NextIs (s : Bool) (a n : Int) : Prop where
  wa : Word a
  wn : Word n
  fa : finF s a = true
  fn : finF s n = true
  back : prevF s n = a
  one : rnk s n = rnk s a + 1
theorem n_step (s : Bool) (a : Int) (h : Word a) (f : finF s a = true) (ne : plainF s a ≠ fI s - 1) : NextIs s (plainF s a) (nextF s (plainF s a)) := by
  obtain ⟨b, z, rfl, hz⟩ := n_made s a h f
  have l := fI_lt s
  have lp : 1 < fI s := by cases s <;> decide
  rw [n_plain s b z hz] at ne ⊢
  by_cases c : b = true ∧ z ≠ 0
  · obtain ⟨rfl, z0⟩ := c
    rw [if_neg z0] at ne ⊢
    have e1 := n_neg s z z0 hz
    by_cases z1 : z = 1
    · subst z1
      rw [if_pos rfl] at e1
      rw [e1]
      have w0 : Word 0 := ⟨by decide, by decide⟩
      have ez : sgnd s false ((0 : Nat) : Int) = 0 := rfl
      refine ⟨n_word s true 1 hz, w0, f, n_fin s false 0 (by omega), ?_, ?_⟩
      · unfold prevF
        have g0 : negF s 0 = sgnd s true 0 := neg_made s false 0 (by omega) (by omega)
        have g1 : negF s 1 = sgnd s true ((1 : Nat) : Int) := neg_made s false 1 (by omega) (by omega)
        rw [g0, n_neg0, g1, n_plain s true 1 hz, if_neg (by decide)]
      · rw [n_rnk s true 1 hz, show (0 : Int) = sgnd s false ((0 : Nat) : Int) from rfl, n_rnk s false 0 (by omega)]
        rfl
    · rw [if_neg z1] at e1
      rw [e1]
      have hz' : ((z - 1 : Nat) : Int) < fI s := by omega
      refine ⟨n_word s true z hz, n_word s true _ hz', f, n_fin s true _ hz', ?_, ?_⟩
      · unfold prevF
        rw [neg_made s true ((z - 1 : Nat) : Int) (by omega) (by omega)]
        have e2 : nextF s (sgnd s (!true) ((z - 1 : Nat) : Int)) = (z : Int) := by
          have t := n_pos s (z - 1) hz'
          rw [if_neg (by omega)] at t
          refine t.trans ?_
          omega
        rw [e2]
        have g1 : negF s (z : Int) = sgnd s true (z : Int) := neg_made s false z (by omega) (by omega)
        rw [g1, n_plain s true z hz, if_neg z0]
      · rw [n_rnk s true z hz, n_rnk s true (z - 1) hz']
        simp only [if_true]
        omega
  · have ea : (if z = 0 then 0 else sgnd s b (z : Int)) = (z : Int) := by
      by_cases z0 : z = 0
      · rw [if_pos z0, z0]; rfl
      · rw [if_neg z0]
        cases b
        · rfl
        · exact absurd ⟨rfl, z0⟩ c
    rw [ea] at ne ⊢
    have e1 := n_pos s z hz
    rw [if_neg ne] at e1
    have hz' : ((z + 1 : Nat) : Int) < fI s := by omega
    have e1' : nextF s (z : Int) = ((z + 1 : Nat) : Int) := by rw [e1]; omega
    rw [e1']
    refine ⟨n_word s false z hz, n_word s false (z + 1) hz', n_fin s false z hz, n_fin s false (z + 1) hz', ?_, ?_⟩
    · unfold prevF
      have g1 : negF s ((z + 1 : Nat) : Int) = sgnd s true ((z + 1 : Nat) : Int) := neg_made s false ((z + 1 : Nat) : Int) (by omega) (by omega)
      rw [g1, n_neg s (z + 1) (by omega) hz']
      by_cases z0 : z = 0
      · subst z0
        rw [if_pos rfl]
        have g0 : negF s 0 = sgnd s true ((0 : Nat) : Int) := neg_made s false 0 (by omega) (by omega)
        rw [g0, n_plain s true 0 hz, if_pos rfl]
        rfl
      · rw [if_neg (by omega), Nat.add_sub_cancel, neg_made s true (z : Int) (by omega) (by omega)]
        have t := n_plain s false z hz
        rw [if_neg z0] at t
        exact t
    · have r1 := n_rnk s false z hz
      have r2 := n_rnk s false (z + 1) hz'
      have r1' : rnk s (z : Int) = z := r1
      have r2' : rnk s ((z + 1 : Nat) : Int) = ((z + 1 : Nat) : Int) := r2
      rw [r1', r2']
      omega
end Go.Proofs.YteafnkimcidkhaaGreat
namespace Go.Proofs.YteafnkimcidkhaaGreat
open Go.RowKit
set_option linter.unusedVariables false
set_option linter.unusedSimpArgs false
end Go.Proofs.YteafnkimcidkhaaGreat
namespace Go.Proofs.YteafnkimcidkhaaGreat
open Go.RowKit
set_option linter.unusedVariables false
end Go.Proofs.YteafnkimcidkhaaGreat
namespace Go.Proofs.YteafnkimcidkhaaGreat
open Go.RowKit
set_option linter.unusedVariables false
end Go.Proofs.YteafnkimcidkhaaGreat
namespace Go.Proofs.YteafnkimcidkhaaGreat
open Go.RowKit
set_option linter.unusedVariables false
set_option linter.unusedSimpArgs false
end Go.Proofs.YteafnkimcidkhaaGreat


namespace Go.Proofs.YteafnkimcidkhaaGreat
open Go.RowKit
set_option linter.unusedVariables false
set_option linter.unusedSimpArgs false
theorem tnil {W V : World} {v : Value} (h : TAt W v []) : TAt V v [] := by
  rcases h with h | ⟨b, o, c, h1, h2, _⟩
  · exact Or.inl h
  · exact Or.inr ⟨b, o, c, h1, h2, fun j t k => by simp at k⟩
set_option maxRecDepth 100000 in
set_option maxHeartbeats 6400000 in
theorem bl_n1_1 (a b : Int) (kF1 : ∀ V, Calls Tryz.prog 44 #[.int .i64 1, .int .u64 a] V fun e w' => e = .returned (.bool false) ∧ Below V.heap.size V w') (kl : ∀ V, Calls Tryz.prog 17 #[] V fun e w' => e = .returned (.bool true) ∧ Below V.heap.size V w')
    (w : World) : Calls Tryz.prog 9 #[.int .i64 1, .int .u64 a, .int .u64 b] w fun e w' => e = .returned (.bool true) ∧ Below w.heap.size w w' := by
  go_enter Tryz.func9, Tryz.ntmps9
  have bW : Below w.heap.size w w := Below.refl _ _
  go_wp2_with (first
    | (go_at_call 44; (with_reducible refine (kF1 _).mono ?_); rintro e v ⟨rfl, g⟩; replace bW := sp_call bW g; clear g)
    | (go_at_call 17; (with_reducible refine (kl _).mono ?_); rintro e v ⟨rfl, g⟩; replace bW := sp_call bW g; clear g)
    | fail)
  go_ret
  exact ⟨rfl, bW⟩
set_option maxRecDepth 100000 in
set_option maxHeartbeats 6400000 in
theorem bl_n2_1 (a b : Int) (kF1 : ∀ V, Calls Tryz.prog 44 #[.int .i64 1, .int .u64 a] V fun e w' => e = .returned (.bool true) ∧ Below V.heap.size V w') (kF2 : ∀ V, Calls Tryz.prog 44 #[.int .i64 1, .int .u64 b] V fun e w' => e = .returned (.bool false) ∧ Below V.heap.size V w') (kl : ∀ V, Calls Tryz.prog 17 #[] V fun e w' => e = .returned (.bool true) ∧ Below V.heap.size V w')
    (w : World) : Calls Tryz.prog 9 #[.int .i64 1, .int .u64 a, .int .u64 b] w fun e w' => e = .returned (.bool true) ∧ Below w.heap.size w w' := by
  go_enter Tryz.func9, Tryz.ntmps9
  have bW : Below w.heap.size w w := Below.refl _ _
  go_wp2_with (first
    | (go_at_call 44; (with_reducible refine (kF1 _).mono ?_); rintro e v ⟨rfl, g⟩; replace bW := sp_call bW g; clear g)
    | (go_at_call 44; (with_reducible refine (kF2 _).mono ?_); rintro e v ⟨rfl, g⟩; replace bW := sp_call bW g; clear g)
    | (go_at_call 17; (with_reducible refine (kl _).mono ?_); rintro e v ⟨rfl, g⟩; replace bW := sp_call bW g; clear g)
    | fail)
  go_ret
  exact ⟨rfl, bW⟩
set_option maxRecDepth 100000 in
set_option maxHeartbeats 6400000 in
theorem bl_n3_1 (a b : Int) (s0 : Int) (kF1 : ∀ V, Calls Tryz.prog 44 #[.int .i64 1, .int .u64 a] V fun e w' => e = .returned (.bool true) ∧ Below V.heap.size V w') (kF2 : ∀ V, Calls Tryz.prog 44 #[.int .i64 1, .int .u64 b] V fun e w' => e = .returned (.bool true) ∧ Below V.heap.size V w') (kS : ∀ V, Calls Tryz.prog 45 #[.int .i64 1, .int .i64 0, .int .u64 a, .int .u64 b] V fun e w' => e = .returned (.int .u64 s0) ∧ Below V.heap.size V w') (kF3 : ∀ V, Calls Tryz.prog 44 #[.int .i64 1, .int .u64 s0] V fun e w' => e = .returned (.bool false) ∧ Below V.heap.size V w') (kl : ∀ V, Calls Tryz.prog 17 #[] V fun e w' => e = .returned (.bool true) ∧ Below V.heap.size V w')
    (w : World) : Calls Tryz.prog 9 #[.int .i64 1, .int .u64 a, .int .u64 b] w fun e w' => e = .returned (.bool true) ∧ Below w.heap.size w w' := by
  go_enter Tryz.func9, Tryz.ntmps9
  have bW : Below w.heap.size w w := Below.refl _ _
  go_wp2_with (first
    | (go_at_call 44; (with_reducible refine (kF1 _).mono ?_); rintro e v ⟨rfl, g⟩; replace bW := sp_call bW g; clear g)
    | (go_at_call 44; (with_reducible refine (kF2 _).mono ?_); rintro e v ⟨rfl, g⟩; replace bW := sp_call bW g; clear g)
    | (go_at_call 45; (with_reducible refine (kS _).mono ?_); rintro e v ⟨rfl, g⟩; replace bW := sp_call bW g; clear g)
    | (go_at_call 44; (with_reducible refine (kF3 _).mono ?_); rintro e v ⟨rfl, g⟩; replace bW := sp_call bW g; clear g)
    | (go_at_call 17; (with_reducible refine (kl _).mono ?_); rintro e v ⟨rfl, g⟩; replace bW := sp_call bW g; clear g)
    | fail)
  go_ret
  exact ⟨rfl, bW⟩
set_option maxRecDepth 100000 in
set_option maxHeartbeats 6400000 in
theorem bl_ok_1 (a b : Int) (s0 a1 b1 s1 : Int) (r1e r2e r3e rEe : Bool) (r1l r1h r2l r2h r3l r3h rEl rEh : Int) (aw ae bw be xw xe yw ye : Bool) (al ah bl bh xl xh yl yh : Int)
    (kF1 : ∀ V, Calls Tryz.prog 44 #[.int .i64 1, .int .u64 a] V fun e w' => e = .returned (.bool true) ∧ Below V.heap.size V w') (kF2 : ∀ V, Calls Tryz.prog 44 #[.int .i64 1, .int .u64 b] V fun e w' => e = .returned (.bool true) ∧ Below V.heap.size V w') (kS : ∀ V, Calls Tryz.prog 45 #[.int .i64 1, .int .i64 0, .int .u64 a, .int .u64 b] V fun e w' => e = .returned (.int .u64 s0) ∧ Below V.heap.size V w') (kF3 : ∀ V, Calls Tryz.prog 44 #[.int .i64 1, .int .u64 s0] V fun e w' => e = .returned (.bool true) ∧ Below V.heap.size V w') (kW1 : ∀ V, Calls Tryz.prog 46 #[.int .u64 a] V fun e w' => e = .returned (.int .u64 a1) ∧ Below V.heap.size V w') (kW2 : ∀ V, Calls Tryz.prog 46 #[.int .u64 b] V fun e w' => e = .returned (.int .u64 b1) ∧ Below V.heap.size V w') (kW3 : ∀ V, Calls Tryz.prog 46 #[.int .u64 s0] V fun e w' => e = .returned (.int .u64 s1) ∧ Below V.heap.size V w')
    (kO1 : ∀ V, Calls Tryz.prog 42 #[.int .i64 0, .int .u64 a1, .int .u64 a1] V fun e w' => e = .returned (.agg #[.bool r1e, .int .u64 r1l, .int .u64 r1h]) ∧ Below V.heap.size V w') (kO2 : ∀ V, Calls Tryz.prog 42 #[.int .i64 0, .int .u64 b1, .int .u64 b1] V fun e w' => e = .returned (.agg #[.bool r2e, .int .u64 r2l, .int .u64 r2h]) ∧ Below V.heap.size V w') (kO3 : ∀ V, Calls Tryz.prog 42 #[.int .i64 0, .int .u64 s1, .int .u64 s1] V fun e w' => e = .returned (.agg #[.bool r3e, .int .u64 r3l, .int .u64 r3h]) ∧ Below V.heap.size V w') (kL1 : ∀ V, Calls Tryz.prog 20 #[.agg #[.bool r1e, .int .u64 r1l, .int .u64 r1h]] V fun e w' => e = .returned (.agg #[.bool aw, .bool ae, .int .u64 al, .int .u64 ah, .slice none 0 0]) ∧ Below V.heap.size V w') (kL2 : ∀ V, Calls Tryz.prog 20 #[.agg #[.bool r2e, .int .u64 r2l, .int .u64 r2h]] V fun e w' => e = .returned (.agg #[.bool bw, .bool be, .int .u64 bl, .int .u64 bh, .slice none 0 0]) ∧ Below V.heap.size V w')
    (kA : ∀ V, Calls Tryz.prog 29 #[.agg #[.bool aw, .bool ae, .int .u64 al, .int .u64 ah, .slice none 0 0], .agg #[.bool bw, .bool be, .int .u64 bl, .int .u64 bh, .slice none 0 0]] V fun e w' => (∃ p c, e = .returned (.agg #[.bool xw, .bool xe, .int .u64 xl, .int .u64 xh, .slice p 0 c]) ∧ TAt w' (.slice p 0 c) []) ∧ Below V.heap.size V w')
    (kB : ∀ V v, TAt V v [] → Calls Tryz.prog 39 #[.agg #[.bool xw, .bool xe, .int .u64 xl, .int .u64 xh, v], .int .i64 1, .agg #[.bool r3e, .int .u64 r3l, .int .u64 r3h]] V fun e w' => (∃ p c, e = .returned (.agg #[.bool yw, .bool ye, .int .u64 yl, .int .u64 yh, .slice p 0 c]) ∧ TAt w' (.slice p 0 c) []) ∧ Below V.heap.size V w')
    (kE : yw = false → ∀ V v, TAt V v [] → Calls Tryz.prog 35 #[.agg #[.bool yw, .bool ye, .int .u64 yl, .int .u64 yh, v], .slice none 0 0] V fun e w' => e = .returned (.tuple #[.agg #[.bool rEe, .int .u64 rEl, .int .u64 rEh], .bool true]) ∧ Below V.heap.size V w')
    (kH : yw = false → ∀ V, Calls Tryz.prog 41 #[.int .i64 0, .agg #[.bool rEe, .int .u64 rEl, .int .u64 rEh], .int .u64 s1] V fun e w' => e = .returned (.bool true) ∧ Below V.heap.size V w') (kl : ∀ V, Calls Tryz.prog 17 #[] V fun e w' => e = .returned (.bool true) ∧ Below V.heap.size V w')
    (w : World) : Calls Tryz.prog 9 #[.int .i64 1, .int .u64 a, .int .u64 b] w fun e w' => e = .returned (.bool true) ∧ Below w.heap.size w w' := by
  go_enter Tryz.func9, Tryz.ntmps9
  have bW : Below w.heap.size w w := Below.refl _ _
  go_upto_region 11 with (first
    | (go_at_call 44; (with_reducible refine (kF1 _).mono ?_); rintro e v ⟨rfl, g⟩; replace bW := sp_call bW g; clear g)
    | (go_at_call 44; (with_reducible refine (kF2 _).mono ?_); rintro e v ⟨rfl, g⟩; replace bW := sp_call bW g; clear g)
    | (go_at_call 45; (with_reducible refine (kS _).mono ?_); rintro e v ⟨rfl, g⟩; replace bW := sp_call bW g; clear g)
    | (go_at_call 44; (with_reducible refine (kF3 _).mono ?_); rintro e v ⟨rfl, g⟩; replace bW := sp_call bW g; clear g)
    | (go_at_call 46; (with_reducible refine (kW1 _).mono ?_); rintro e v ⟨rfl, g⟩; replace bW := sp_call bW g; clear g)
    | (go_at_call 46; (with_reducible refine (kW2 _).mono ?_); rintro e v ⟨rfl, g⟩; replace bW := sp_call bW g; clear g)
    | (go_at_call 46; (with_reducible refine (kW3 _).mono ?_); rintro e v ⟨rfl, g⟩; replace bW := sp_call bW g; clear g)
    | (go_at_call 42; (with_reducible refine (kO1 _).mono ?_); rintro e v ⟨rfl, g⟩; replace bW := sp_call bW g; clear g)
    | (go_at_call 42; (with_reducible refine (kO2 _).mono ?_); rintro e v ⟨rfl, g⟩; replace bW := sp_call bW g; clear g)
    | (go_at_call 20; (with_reducible refine (kL1 _).mono ?_); rintro e v ⟨rfl, g⟩; replace bW := sp_call bW g; clear g)
    | (go_at_call 20; (with_reducible refine (kL2 _).mono ?_); rintro e v ⟨rfl, g⟩; replace bW := sp_call bW g; clear g)
    | (go_at_call 29; (with_reducible refine (kA _).mono ?_); rintro e v ⟨⟨p5, c5, rfl, tx⟩, g⟩; replace bW := sp_call bW g; clear g)
    | fail)
  obtain ⟨W, hW⟩ : ∃ W, v.alloc (.cells #[.bool xw, .bool xe, .int .u64 xl, .int .u64 xh, .slice p5 0 c5] 31) = W := ⟨_, rfl⟩
  obtain ⟨b8, h8⟩ : ∃ b, v.heap.size = b := ⟨_, rfl⟩
  have x0 : W.cell? ⟨b8, 0, none⟩ = some (.bool xw) := by rw [← hW, ← h8]; simp [go_sem]
  have x1 : W.cell? ⟨b8, 1, none⟩ = some (.bool xe) := by rw [← hW, ← h8]; simp [go_sem]
  have x2 : W.cell? ⟨b8, 2, none⟩ = some (.int .u64 xl) := by rw [← hW, ← h8]; simp [go_sem]
  have x3 : W.cell? ⟨b8, 3, none⟩ = some (.int .u64 xh) := by rw [← hW, ← h8]; simp [go_sem]
  have x4 : W.cell? ⟨b8, 4, none⟩ = some (.slice p5 0 c5) := by rw [← hW, ← h8]; simp [go_sem]
  replace bW : Below w.heap.size w W := by rw [← hW]; exact sp_new bW _
  replace tx : TAt W (.slice p5 0 c5) [] := tnil tx
  rw [hW]
  (try rw [h8])
  clear hW h8 kF1 kF2 kF3 kS kO1 kO2 kL1 kL2 kA kW1 kW2 kW3
  have cc : Below W.heap.size W W.drew := (Below.refl _ _).drew
  go_cut [9] from 51 to 56 (fun u X => ∃ (W1 : World) (b9 : Nat) (p9 : Option Addr) (c9 : Nat), W1 = X ∧ u = .pointer (some ⟨b9, 0, none⟩) ∧ X.heap[b9]? = some (.cells #[.bool yw, .bool ye, .int .u64 yl, .int .u64 yh, .slice p9 0 c9] 31) ∧ TAt X (.slice p9 0 c9) [] ∧ Below W.heap.size W X)
  case first =>
   have hall : ∀ X9, Below W.heap.size W X9 → (X9.cell? ⟨b8, 0, none⟩ = some (.bool xw) ∧ X9.cell? ⟨b8, 1, none⟩ = some (.bool xe) ∧ X9.cell? ⟨b8, 2, none⟩ = some (.int .u64 xl) ∧ X9.cell? ⟨b8, 3, none⟩ = some (.int .u64 xh) ∧ X9.cell? ⟨b8, 4, none⟩ = some (.slice p5 0 c5)) := fun X9 cc => ⟨sO cc x0, sO cc x1, sO cc x2, sO cc x3, sO cc x4⟩
   refine wp_region_held_drew (S := (fun w' => w'.cell? ⟨b8, 0, none⟩ = some (.bool xw) ∧ w'.cell? ⟨b8, 1, none⟩ = some (.bool xe) ∧ w'.cell? ⟨b8, 2, none⟩ = some (.int .u64 xl) ∧ w'.cell? ⟨b8, 3, none⟩ = some (.int .u64 xh) ∧ w'.cell? ⟨b8, 4, none⟩ = some (.slice p5 0 c5))) (by kernel_rfl) (hall _ cc) (fun hH => ?_)
   refine wpAnyH_take (i := 0) (oi := _) (v := .agg #[.bool xw, .bool xe, .int .u64 xl, .int .u64 xh, .slice p5 0 c5]) rfl (by kernel_rfl) (by kernel_rfl) (by kernel_rfl) (fun _ _ _ h => h) (Or.inl ⟨by rfl, fun w' hSw => by obtain ⟨zx0, zx1, zx2, zx3, zx4⟩ := hSw; go_simp⟩) hH ?_
   simp only [Act.put, List.getElem_toArray, List.getElem_cons_zero, List.getElem_cons_succ, List.setIfInBounds_toArray, List.set_cons_zero, List.set_cons_succ]
   refine wpAnyH_take (i := 1) (oi := _) (v := .int .i64 1) rfl (by kernel_rfl) (by kernel_rfl) (by kernel_rfl) (fun _ _ _ h => h) (Or.inl ⟨by rfl, fun w' hSw => by obtain ⟨zx0, zx1, zx2, zx3, zx4⟩ := hSw; go_simp⟩) hH ?_
   simp only [Act.put, List.getElem_toArray, List.getElem_cons_zero, List.getElem_cons_succ, List.setIfInBounds_toArray, List.set_cons_zero, List.set_cons_succ]
   refine wpAnyH_take (i := 2) (oi := _) (v := .int .u64 s1) rfl (by kernel_rfl) (by kernel_rfl) (by kernel_rfl) (fun _ _ _ h => h) (Or.inl ⟨by rfl, fun w' hSw => by obtain ⟨zx0, zx1, zx2, zx3, zx4⟩ := hSw; go_simp⟩) hH ?_
   simp only [Act.put, List.getElem_toArray, List.getElem_cons_zero, List.getElem_cons_succ, List.setIfInBounds_toArray, List.set_cons_zero, List.set_cons_succ]
   refine wpAnyH_take (i := 3) (oi := _) (v := .int .u64 s1) rfl (by kernel_rfl) (by kernel_rfl) (by kernel_rfl) (fun _ _ _ h => h) (Or.inl ⟨by rfl, fun w' hSw => by obtain ⟨zx0, zx1, zx2, zx3, zx4⟩ := hSw; go_simp⟩) hH ?_
   simp only [Act.put, List.getElem_toArray, List.getElem_cons_zero, List.getElem_cons_succ, List.setIfInBounds_toArray, List.set_cons_zero, List.set_cons_succ]
   generalize hY : W.drew = Y0 at *
   clear hY
   refine wpAnyH_ready (rs := [4, 6]) (by kernel_rfl) (by simp) (AllReadyH.cons (o := _) rfl (fun K hK => ?_) (AllReadyH.cons (o := _) rfl (fun K hK => ?_) AllReadyH.nil))
   ·skip
    go_simp
    refine (kO3 _).mono ?_
    rintro e Y1 ⟨rfl, g⟩
    replace cc := sp_call cc g
    clear g
    go_wp2_with fail
    refine hK.out _ _ (hall _ cc) (fun hH => ?_)
    clear hK K
    try simp only [Act.put, List.getElem_toArray, List.getElem_cons_zero, List.getElem_cons_succ, List.setIfInBounds_toArray, List.set_cons_zero, List.set_cons_succ]
    refine wpAnyH_ready (rs := [5, 6]) (by kernel_rfl) (by simp) (AllReadyH.cons (o := _) rfl (fun K hK => ?_) (AllReadyH.cons (o := _) rfl (fun K hK => ?_) AllReadyH.nil))
    ·skip
     go_simp
     refine (kB _ _ (tx.on cc)).mono ?_
     rintro e Y2 ⟨⟨p9, c9, rfl, ty⟩, g⟩
     replace cc := sp_call cc g
     clear g
     go_wp2_with fail
     refine hK.out _ _ (hall _ cc) (fun hH => ?_)
     clear hK K
     try simp only [Act.put, List.getElem_toArray, List.getElem_cons_zero, List.getElem_cons_succ, List.setIfInBounds_toArray, List.set_cons_zero, List.set_cons_succ]
     refine wpAnyH_ready (rs := [6]) (by kernel_rfl) (by simp) (AllReadyH.cons (o := _) rfl (fun K hK => ?_) AllReadyH.nil)
     go_simp
     have zz0 := cc.size
     have q0 := World.alloc_heap_new Y2 (.cells #[.bool false, .bool false, .int .u64 0, .int .u64 0, .slice none 0 0] 31)
     replace cc := sp_new cc (.cells #[.bool false, .bool false, .int .u64 0, .int .u64 0, .slice none 0 0] 31)
     generalize hY : Y2.alloc (.cells #[.bool false, .bool false, .int .u64 0, .int .u64 0, .slice none 0 0] 31) = Y3 at *
     clear hY
     refine hK.out _ _ (hall _ cc) (fun hH => ?_)
     clear hK K
     try simp only [Act.put, List.getElem_toArray, List.getElem_cons_zero, List.getElem_cons_succ, List.setIfInBounds_toArray, List.set_cons_zero, List.set_cons_succ]
     refine wpAnyH_ready (rs := [7]) (by kernel_rfl) (by simp) (AllReadyH.cons (o := _) rfl (fun K hK => ?_) AllReadyH.nil)
     obtain ⟨q_0, q_1, q_2, q_3, q_4, qf⟩ := lw_cells5 q0
     go_simp
     clear q_0 q_1 q_2 q_3 q_4 qf
     replace q0 := lw_set5 q0 (.bool yw) (.bool ye) (.int .u64 yl) (.int .u64 yh) (.slice p9 0 c9)
     replace cc := lw_sp5 (b := Y2.heap.size) cc zz0 (.bool yw) (.bool ye) (.int .u64 yl) (.int .u64 yh) (.slice p9 0 c9)
     rw [show (((((Y3.setCell ⟨Y2.heap.size, 0, none⟩ (.bool yw)).setCell ⟨Y2.heap.size, 1, none⟩ (.bool ye)).setCell ⟨Y2.heap.size, 2, none⟩ (.int .u64 yl)).setCell ⟨Y2.heap.size, 3, none⟩ (.int .u64 yh)).setCell ⟨Y2.heap.size, 4, none⟩ (.slice p9 0 c9)) = set5 Y3 Y2.heap.size (.bool yw) (.bool ye) (.int .u64 yl) (.int .u64 yh) (.slice p9 0 c9) from rfl]
     generalize hY : set5 Y3 Y2.heap.size (.bool yw) (.bool ye) (.int .u64 yl) (.int .u64 yh) (.slice p9 0 c9) = Y4 at *
     clear hY
     refine hK.out _ _ (hall _ cc) (fun hH => ?_)
     clear hK K
     try simp only [Act.put, List.getElem_toArray, List.getElem_cons_zero, List.getElem_cons_succ, List.setIfInBounds_toArray, List.set_cons_zero, List.set_cons_succ]
     refine wpAnyH_done (by kernel_rfl) ?_ _
     go_wp2_with fail
     go_meet
     exact ⟨_, Y2.heap.size, p9, c9, rfl, rfl, q0, tnil ty, cc⟩
    ·skip
     go_simp
     have zz0 := cc.size
     have q0 := World.alloc_heap_new Y1 (.cells #[.bool false, .bool false, .int .u64 0, .int .u64 0, .slice none 0 0] 31)
     replace cc := sp_new cc (.cells #[.bool false, .bool false, .int .u64 0, .int .u64 0, .slice none 0 0] 31)
     generalize hY : Y1.alloc (.cells #[.bool false, .bool false, .int .u64 0, .int .u64 0, .slice none 0 0] 31) = Y5 at *
     clear hY
     refine hK.out _ _ (hall _ cc) (fun hH => ?_)
     clear hK K
     try simp only [Act.put, List.getElem_toArray, List.getElem_cons_zero, List.getElem_cons_succ, List.setIfInBounds_toArray, List.set_cons_zero, List.set_cons_succ]
     refine wpAnyH_ready (rs := [5]) (by kernel_rfl) (by simp) (AllReadyH.cons (o := _) rfl (fun K hK => ?_) AllReadyH.nil)
     go_simp
     refine (kB _ _ (tx.on cc)).mono ?_
     rintro e Y6 ⟨⟨p9, c9, rfl, ty⟩, g⟩
     replace cc := sp_call cc g
     replace q0 := lw_on g q0
     clear g
     go_wp2_with fail
     refine hK.out _ _ (hall _ cc) (fun hH => ?_)
     clear hK K
     try simp only [Act.put, List.getElem_toArray, List.getElem_cons_zero, List.getElem_cons_succ, List.setIfInBounds_toArray, List.set_cons_zero, List.set_cons_succ]
     refine wpAnyH_ready (rs := [7]) (by kernel_rfl) (by simp) (AllReadyH.cons (o := _) rfl (fun K hK => ?_) AllReadyH.nil)
     obtain ⟨q_0, q_1, q_2, q_3, q_4, qf⟩ := lw_cells5 q0
     go_simp
     clear q_0 q_1 q_2 q_3 q_4 qf
     replace q0 := lw_set5 q0 (.bool yw) (.bool ye) (.int .u64 yl) (.int .u64 yh) (.slice p9 0 c9)
     replace cc := lw_sp5 (b := Y1.heap.size) cc zz0 (.bool yw) (.bool ye) (.int .u64 yl) (.int .u64 yh) (.slice p9 0 c9)
     rw [show (((((Y6.setCell ⟨Y1.heap.size, 0, none⟩ (.bool yw)).setCell ⟨Y1.heap.size, 1, none⟩ (.bool ye)).setCell ⟨Y1.heap.size, 2, none⟩ (.int .u64 yl)).setCell ⟨Y1.heap.size, 3, none⟩ (.int .u64 yh)).setCell ⟨Y1.heap.size, 4, none⟩ (.slice p9 0 c9)) = set5 Y6 Y1.heap.size (.bool yw) (.bool ye) (.int .u64 yl) (.int .u64 yh) (.slice p9 0 c9) from rfl]
     generalize hY : set5 Y6 Y1.heap.size (.bool yw) (.bool ye) (.int .u64 yl) (.int .u64 yh) (.slice p9 0 c9) = Y7 at *
     clear hY
     refine hK.out _ _ (hall _ cc) (fun hH => ?_)
     clear hK K
     try simp only [Act.put, List.getElem_toArray, List.getElem_cons_zero, List.getElem_cons_succ, List.setIfInBounds_toArray, List.set_cons_zero, List.set_cons_succ]
     refine wpAnyH_done (by kernel_rfl) ?_ _
     go_wp2_with fail
     go_meet
     exact ⟨_, Y1.heap.size, p9, c9, rfl, rfl, q0, tnil ty, cc⟩
   ·skip
    go_simp
    have zz0 := cc.size
    have q0 := World.alloc_heap_new Y0 (.cells #[.bool false, .bool false, .int .u64 0, .int .u64 0, .slice none 0 0] 31)
    replace cc := sp_new cc (.cells #[.bool false, .bool false, .int .u64 0, .int .u64 0, .slice none 0 0] 31)
    generalize hY : Y0.alloc (.cells #[.bool false, .bool false, .int .u64 0, .int .u64 0, .slice none 0 0] 31) = Y8 at *
    clear hY
    refine hK.out _ _ (hall _ cc) (fun hH => ?_)
    clear hK K
    try simp only [Act.put, List.getElem_toArray, List.getElem_cons_zero, List.getElem_cons_succ, List.setIfInBounds_toArray, List.set_cons_zero, List.set_cons_succ]
    refine wpAnyH_ready (rs := [4]) (by kernel_rfl) (by simp) (AllReadyH.cons (o := _) rfl (fun K hK => ?_) AllReadyH.nil)
    go_simp
    refine (kO3 _).mono ?_
    rintro e Y9 ⟨rfl, g⟩
    replace cc := sp_call cc g
    replace q0 := lw_on g q0
    clear g
    go_wp2_with fail
    refine hK.out _ _ (hall _ cc) (fun hH => ?_)
    clear hK K
    try simp only [Act.put, List.getElem_toArray, List.getElem_cons_zero, List.getElem_cons_succ, List.setIfInBounds_toArray, List.set_cons_zero, List.set_cons_succ]
    refine wpAnyH_ready (rs := [5]) (by kernel_rfl) (by simp) (AllReadyH.cons (o := _) rfl (fun K hK => ?_) AllReadyH.nil)
    go_simp
    refine (kB _ _ (tx.on cc)).mono ?_
    rintro e Y10 ⟨⟨p9, c9, rfl, ty⟩, g⟩
    replace cc := sp_call cc g
    replace q0 := lw_on g q0
    clear g
    go_wp2_with fail
    refine hK.out _ _ (hall _ cc) (fun hH => ?_)
    clear hK K
    try simp only [Act.put, List.getElem_toArray, List.getElem_cons_zero, List.getElem_cons_succ, List.setIfInBounds_toArray, List.set_cons_zero, List.set_cons_succ]
    refine wpAnyH_ready (rs := [7]) (by kernel_rfl) (by simp) (AllReadyH.cons (o := _) rfl (fun K hK => ?_) AllReadyH.nil)
    obtain ⟨q_0, q_1, q_2, q_3, q_4, qf⟩ := lw_cells5 q0
    go_simp
    clear q_0 q_1 q_2 q_3 q_4 qf
    replace q0 := lw_set5 q0 (.bool yw) (.bool ye) (.int .u64 yl) (.int .u64 yh) (.slice p9 0 c9)
    replace cc := lw_sp5 (b := Y0.heap.size) cc zz0 (.bool yw) (.bool ye) (.int .u64 yl) (.int .u64 yh) (.slice p9 0 c9)
    rw [show (((((Y10.setCell ⟨Y0.heap.size, 0, none⟩ (.bool yw)).setCell ⟨Y0.heap.size, 1, none⟩ (.bool ye)).setCell ⟨Y0.heap.size, 2, none⟩ (.int .u64 yl)).setCell ⟨Y0.heap.size, 3, none⟩ (.int .u64 yh)).setCell ⟨Y0.heap.size, 4, none⟩ (.slice p9 0 c9)) = set5 Y10 Y0.heap.size (.bool yw) (.bool ye) (.int .u64 yl) (.int .u64 yh) (.slice p9 0 c9) from rfl]
    generalize hY : set5 Y10 Y0.heap.size (.bool yw) (.bool ye) (.int .u64 yl) (.int .u64 yh) (.slice p9 0 c9) = Y11 at *
    clear hY
    refine hK.out _ _ (hall _ cc) (fun hH => ?_)
    clear hK K
    try simp only [Act.put, List.getElem_toArray, List.getElem_cons_zero, List.getElem_cons_succ, List.setIfInBounds_toArray, List.set_cons_zero, List.set_cons_succ]
    refine wpAnyH_done (by kernel_rfl) ?_ _
    go_wp2_with fail
    go_meet
    exact ⟨_, Y0.heap.size, p9, c9, rfl, rfl, q0, tnil ty, cc⟩
  case rest =>
   obtain ⟨W1, b9, p9, c9, rfl, rfl, q9, ty, cX⟩ := hcut
   replace bW := sp_call bW cX
   clear cX cc x0 x1 x2 x3 x4 tx kB kO3
   obtain ⟨y0, y1, y2, y3, y4, _⟩ := lw_cells5 q9
   clear q9
   cases yw
   · replace kE := kE rfl
     replace kH := kH rfl
     go_upto_region 15 with (first
    | (go_at_call 35; (with_reducible refine (kE _ _ ty).mono ?_); rintro e v ⟨rfl, g⟩; replace bW := sp_call bW g; clear g)
    | fail)
     obtain ⟨Z, hZ⟩ : ∃ Z, v.alloc (.cells #[.bool rEe, .int .u64 rEl, .int .u64 rEh] 24) = Z := ⟨_, rfl⟩
     obtain ⟨bz, hbz⟩ : ∃ b, v.heap.size = b := ⟨_, rfl⟩
     have z0 : Z.cell? ⟨bz, 0, none⟩ = some (.bool rEe) := by rw [← hZ, ← hbz]; simp [go_sem]
     have z1 : Z.cell? ⟨bz, 1, none⟩ = some (.int .u64 rEl) := by rw [← hZ, ← hbz]; simp [go_sem]
     have z2 : Z.cell? ⟨bz, 2, none⟩ = some (.int .u64 rEh) := by rw [← hZ, ← hbz]; simp [go_sem]
     replace bW : Below w.heap.size w Z := by rw [← hZ]; exact sp_new bW _
     rw [hZ]
     (try rw [hbz])
     clear hZ hbz y0 y1 y2 y3 y4 kE
     go_wp2_with (first
    | (go_at_call 17; (with_reducible refine (kl _).mono ?_); rintro e v2 ⟨rfl, g⟩; replace z0 := sO g z0; replace z1 := sO g z1; replace z2 := sO g z2; replace bW := sp_call bW g; clear g)
    | (go_at_call 41; (with_reducible refine (kH _).mono ?_); rintro e v3 ⟨rfl, g⟩; replace bW := sp_call bW g; clear g)
    | fail)
     go_ret
     exact ⟨rfl, bW⟩
   · clear kE kH
     go_wp2_with (first
    | (go_at_call 17; (with_reducible refine (kl _).mono ?_); rintro e v2 ⟨rfl, g⟩; replace bW := sp_call bW g; clear g)
    | fail)
     go_ret
     exact ⟨rfl, bW⟩
set_option maxRecDepth 100000 in
set_option maxHeartbeats 6400000 in
theorem bl_n1_0 (f0 : Int) (hf : ¬ f0 = 1) (a b : Int) (kF1 : ∀ V, Calls Tryz.prog 44 #[.int .i64 0, .int .u64 a] V fun e w' => e = .returned (.bool false) ∧ Below V.heap.size V w') (kl : ∀ V, Calls Tryz.prog 17 #[] V fun e w' => e = .returned (.bool true) ∧ Below V.heap.size V w')
    (w : World) : Calls Tryz.prog 9 #[.int .i64 f0, .int .u64 a, .int .u64 b] w fun e w' => e = .returned (.bool true) ∧ Below w.heap.size w w' := by
  have hf' : (f0 == 1) = false := by rw [beq_eq_false_iff_ne]; exact hf
  go_enter Tryz.func9, Tryz.ntmps9
  have bW : Below w.heap.size w w := Below.refl _ _
  go_wp2_with (first
    | (go_at_call 44; (with_reducible refine (kF1 _).mono ?_); rintro e v ⟨rfl, g⟩; replace bW := sp_call bW g; clear g)
    | (go_at_call 17; (with_reducible refine (kl _).mono ?_); rintro e v ⟨rfl, g⟩; replace bW := sp_call bW g; clear g)
    | fail)
  go_ret
  exact ⟨rfl, bW⟩
set_option maxRecDepth 100000 in
set_option maxHeartbeats 6400000 in
theorem bl_n2_0 (f0 : Int) (hf : ¬ f0 = 1) (a b : Int) (kF1 : ∀ V, Calls Tryz.prog 44 #[.int .i64 0, .int .u64 a] V fun e w' => e = .returned (.bool true) ∧ Below V.heap.size V w') (kF2 : ∀ V, Calls Tryz.prog 44 #[.int .i64 0, .int .u64 b] V fun e w' => e = .returned (.bool false) ∧ Below V.heap.size V w') (kl : ∀ V, Calls Tryz.prog 17 #[] V fun e w' => e = .returned (.bool true) ∧ Below V.heap.size V w')
    (w : World) : Calls Tryz.prog 9 #[.int .i64 f0, .int .u64 a, .int .u64 b] w fun e w' => e = .returned (.bool true) ∧ Below w.heap.size w w' := by
  have hf' : (f0 == 1) = false := by rw [beq_eq_false_iff_ne]; exact hf
  go_enter Tryz.func9, Tryz.ntmps9
  have bW : Below w.heap.size w w := Below.refl _ _
  go_wp2_with (first
    | (go_at_call 44; (with_reducible refine (kF1 _).mono ?_); rintro e v ⟨rfl, g⟩; replace bW := sp_call bW g; clear g)
    | (go_at_call 44; (with_reducible refine (kF2 _).mono ?_); rintro e v ⟨rfl, g⟩; replace bW := sp_call bW g; clear g)
    | (go_at_call 17; (with_reducible refine (kl _).mono ?_); rintro e v ⟨rfl, g⟩; replace bW := sp_call bW g; clear g)
    | fail)
  go_ret
  exact ⟨rfl, bW⟩
set_option maxRecDepth 100000 in
set_option maxHeartbeats 6400000 in
theorem bl_n3_0 (f0 : Int) (hf : ¬ f0 = 1) (a b : Int) (s0 : Int) (kF1 : ∀ V, Calls Tryz.prog 44 #[.int .i64 0, .int .u64 a] V fun e w' => e = .returned (.bool true) ∧ Below V.heap.size V w') (kF2 : ∀ V, Calls Tryz.prog 44 #[.int .i64 0, .int .u64 b] V fun e w' => e = .returned (.bool true) ∧ Below V.heap.size V w') (kS : ∀ V, Calls Tryz.prog 45 #[.int .i64 0, .int .i64 0, .int .u64 a, .int .u64 b] V fun e w' => e = .returned (.int .u64 s0) ∧ Below V.heap.size V w') (kF3 : ∀ V, Calls Tryz.prog 44 #[.int .i64 0, .int .u64 s0] V fun e w' => e = .returned (.bool false) ∧ Below V.heap.size V w') (kl : ∀ V, Calls Tryz.prog 17 #[] V fun e w' => e = .returned (.bool true) ∧ Below V.heap.size V w')
    (w : World) : Calls Tryz.prog 9 #[.int .i64 f0, .int .u64 a, .int .u64 b] w fun e w' => e = .returned (.bool true) ∧ Below w.heap.size w w' := by
  have hf' : (f0 == 1) = false := by rw [beq_eq_false_iff_ne]; exact hf
  go_enter Tryz.func9, Tryz.ntmps9
  have bW : Below w.heap.size w w := Below.refl _ _
  go_wp2_with (first
    | (go_at_call 44; (with_reducible refine (kF1 _).mono ?_); rintro e v ⟨rfl, g⟩; replace bW := sp_call bW g; clear g)
    | (go_at_call 44; (with_reducible refine (kF2 _).mono ?_); rintro e v ⟨rfl, g⟩; replace bW := sp_call bW g; clear g)
    | (go_at_call 45; (with_reducible refine (kS _).mono ?_); rintro e v ⟨rfl, g⟩; replace bW := sp_call bW g; clear g)
    | (go_at_call 44; (with_reducible refine (kF3 _).mono ?_); rintro e v ⟨rfl, g⟩; replace bW := sp_call bW g; clear g)
    | (go_at_call 17; (with_reducible refine (kl _).mono ?_); rintro e v ⟨rfl, g⟩; replace bW := sp_call bW g; clear g)
    | fail)
  go_ret
  exact ⟨rfl, bW⟩
set_option maxRecDepth 100000 in
set_option maxHeartbeats 6400000 in
theorem bl_ok_0 (f0 : Int) (hf : ¬ f0 = 1) (a b : Int) (s0  : Int) (r1e r2e r3e rEe : Bool) (r1l r1h r2l r2h r3l r3h rEl rEh : Int) (aw ae bw be xw xe yw ye : Bool) (al ah bl bh xl xh yl yh : Int)
    (kF1 : ∀ V, Calls Tryz.prog 44 #[.int .i64 0, .int .u64 a] V fun e w' => e = .returned (.bool true) ∧ Below V.heap.size V w') (kF2 : ∀ V, Calls Tryz.prog 44 #[.int .i64 0, .int .u64 b] V fun e w' => e = .returned (.bool true) ∧ Below V.heap.size V w') (kS : ∀ V, Calls Tryz.prog 45 #[.int .i64 0, .int .i64 0, .int .u64 a, .int .u64 b] V fun e w' => e = .returned (.int .u64 s0) ∧ Below V.heap.size V w') (kF3 : ∀ V, Calls Tryz.prog 44 #[.int .i64 0, .int .u64 s0] V fun e w' => e = .returned (.bool true) ∧ Below V.heap.size V w') 
    (kO1 : ∀ V, Calls Tryz.prog 42 #[.int .i64 0, .int .u64 a, .int .u64 a] V fun e w' => e = .returned (.agg #[.bool r1e, .int .u64 r1l, .int .u64 r1h]) ∧ Below V.heap.size V w') (kO2 : ∀ V, Calls Tryz.prog 42 #[.int .i64 0, .int .u64 b, .int .u64 b] V fun e w' => e = .returned (.agg #[.bool r2e, .int .u64 r2l, .int .u64 r2h]) ∧ Below V.heap.size V w') (kO3 : ∀ V, Calls Tryz.prog 42 #[.int .i64 0, .int .u64 s0, .int .u64 s0] V fun e w' => e = .returned (.agg #[.bool r3e, .int .u64 r3l, .int .u64 r3h]) ∧ Below V.heap.size V w') (kL1 : ∀ V, Calls Tryz.prog 20 #[.agg #[.bool r1e, .int .u64 r1l, .int .u64 r1h]] V fun e w' => e = .returned (.agg #[.bool aw, .bool ae, .int .u64 al, .int .u64 ah, .slice none 0 0]) ∧ Below V.heap.size V w') (kL2 : ∀ V, Calls Tryz.prog 20 #[.agg #[.bool r2e, .int .u64 r2l, .int .u64 r2h]] V fun e w' => e = .returned (.agg #[.bool bw, .bool be, .int .u64 bl, .int .u64 bh, .slice none 0 0]) ∧ Below V.heap.size V w')
    (kA : ∀ V, Calls Tryz.prog 29 #[.agg #[.bool aw, .bool ae, .int .u64 al, .int .u64 ah, .slice none 0 0], .agg #[.bool bw, .bool be, .int .u64 bl, .int .u64 bh, .slice none 0 0]] V fun e w' => (∃ p c, e = .returned (.agg #[.bool xw, .bool xe, .int .u64 xl, .int .u64 xh, .slice p 0 c]) ∧ TAt w' (.slice p 0 c) []) ∧ Below V.heap.size V w')
    (kB : ∀ V v, TAt V v [] → Calls Tryz.prog 39 #[.agg #[.bool xw, .bool xe, .int .u64 xl, .int .u64 xh, v], .int .i64 0, .agg #[.bool r3e, .int .u64 r3l, .int .u64 r3h]] V fun e w' => (∃ p c, e = .returned (.agg #[.bool yw, .bool ye, .int .u64 yl, .int .u64 yh, .slice p 0 c]) ∧ TAt w' (.slice p 0 c) []) ∧ Below V.heap.size V w')
    (kE : yw = false → ∀ V v, TAt V v [] → Calls Tryz.prog 35 #[.agg #[.bool yw, .bool ye, .int .u64 yl, .int .u64 yh, v], .slice none 0 0] V fun e w' => e = .returned (.tuple #[.agg #[.bool rEe, .int .u64 rEl, .int .u64 rEh], .bool true]) ∧ Below V.heap.size V w')
    (kH : yw = false → ∀ V, Calls Tryz.prog 41 #[.int .i64 0, .agg #[.bool rEe, .int .u64 rEl, .int .u64 rEh], .int .u64 s0] V fun e w' => e = .returned (.bool true) ∧ Below V.heap.size V w') (kl : ∀ V, Calls Tryz.prog 17 #[] V fun e w' => e = .returned (.bool true) ∧ Below V.heap.size V w')
    (w : World) : Calls Tryz.prog 9 #[.int .i64 f0, .int .u64 a, .int .u64 b] w fun e w' => e = .returned (.bool true) ∧ Below w.heap.size w w' := by
  have hf' : (f0 == 1) = false := by rw [beq_eq_false_iff_ne]; exact hf
  go_enter Tryz.func9, Tryz.ntmps9
  have bW : Below w.heap.size w w := Below.refl _ _
  go_upto_region 11 with (first
    | (go_at_call 44; (with_reducible refine (kF1 _).mono ?_); rintro e v ⟨rfl, g⟩; replace bW := sp_call bW g; clear g)
    | (go_at_call 44; (with_reducible refine (kF2 _).mono ?_); rintro e v ⟨rfl, g⟩; replace bW := sp_call bW g; clear g)
    | (go_at_call 45; (with_reducible refine (kS _).mono ?_); rintro e v ⟨rfl, g⟩; replace bW := sp_call bW g; clear g)
    | (go_at_call 44; (with_reducible refine (kF3 _).mono ?_); rintro e v ⟨rfl, g⟩; replace bW := sp_call bW g; clear g)
    | (go_at_call 42; (with_reducible refine (kO1 _).mono ?_); rintro e v ⟨rfl, g⟩; replace bW := sp_call bW g; clear g)
    | (go_at_call 42; (with_reducible refine (kO2 _).mono ?_); rintro e v ⟨rfl, g⟩; replace bW := sp_call bW g; clear g)
    | (go_at_call 20; (with_reducible refine (kL1 _).mono ?_); rintro e v ⟨rfl, g⟩; replace bW := sp_call bW g; clear g)
    | (go_at_call 20; (with_reducible refine (kL2 _).mono ?_); rintro e v ⟨rfl, g⟩; replace bW := sp_call bW g; clear g)
    | (go_at_call 29; (with_reducible refine (kA _).mono ?_); rintro e v ⟨⟨p5, c5, rfl, tx⟩, g⟩; replace bW := sp_call bW g; clear g)
    | fail)
  obtain ⟨W, hW⟩ : ∃ W, v.alloc (.cells #[.bool xw, .bool xe, .int .u64 xl, .int .u64 xh, .slice p5 0 c5] 31) = W := ⟨_, rfl⟩
  obtain ⟨b8, h8⟩ : ∃ b, v.heap.size = b := ⟨_, rfl⟩
  have x0 : W.cell? ⟨b8, 0, none⟩ = some (.bool xw) := by rw [← hW, ← h8]; simp [go_sem]
  have x1 : W.cell? ⟨b8, 1, none⟩ = some (.bool xe) := by rw [← hW, ← h8]; simp [go_sem]
  have x2 : W.cell? ⟨b8, 2, none⟩ = some (.int .u64 xl) := by rw [← hW, ← h8]; simp [go_sem]
  have x3 : W.cell? ⟨b8, 3, none⟩ = some (.int .u64 xh) := by rw [← hW, ← h8]; simp [go_sem]
  have x4 : W.cell? ⟨b8, 4, none⟩ = some (.slice p5 0 c5) := by rw [← hW, ← h8]; simp [go_sem]
  replace bW : Below w.heap.size w W := by rw [← hW]; exact sp_new bW _
  replace tx : TAt W (.slice p5 0 c5) [] := tnil tx
  rw [hW]
  (try rw [h8])
  clear hW h8 kF1 kF2 kF3 kS kO1 kO2 kL1 kL2 kA 
  have cc : Below W.heap.size W W.drew := (Below.refl _ _).drew
  go_cut [9] from 51 to 56 (fun u X => ∃ (W1 : World) (b9 : Nat) (p9 : Option Addr) (c9 : Nat), W1 = X ∧ u = .pointer (some ⟨b9, 0, none⟩) ∧ X.heap[b9]? = some (.cells #[.bool yw, .bool ye, .int .u64 yl, .int .u64 yh, .slice p9 0 c9] 31) ∧ TAt X (.slice p9 0 c9) [] ∧ Below W.heap.size W X)
  case first =>
   have hall : ∀ X9, Below W.heap.size W X9 → (X9.cell? ⟨b8, 0, none⟩ = some (.bool xw) ∧ X9.cell? ⟨b8, 1, none⟩ = some (.bool xe) ∧ X9.cell? ⟨b8, 2, none⟩ = some (.int .u64 xl) ∧ X9.cell? ⟨b8, 3, none⟩ = some (.int .u64 xh) ∧ X9.cell? ⟨b8, 4, none⟩ = some (.slice p5 0 c5)) := fun X9 cc => ⟨sO cc x0, sO cc x1, sO cc x2, sO cc x3, sO cc x4⟩
   refine wp_region_held_drew (S := (fun w' => w'.cell? ⟨b8, 0, none⟩ = some (.bool xw) ∧ w'.cell? ⟨b8, 1, none⟩ = some (.bool xe) ∧ w'.cell? ⟨b8, 2, none⟩ = some (.int .u64 xl) ∧ w'.cell? ⟨b8, 3, none⟩ = some (.int .u64 xh) ∧ w'.cell? ⟨b8, 4, none⟩ = some (.slice p5 0 c5))) (by kernel_rfl) (hall _ cc) (fun hH => ?_)
   refine wpAnyH_take (i := 0) (oi := _) (v := .agg #[.bool xw, .bool xe, .int .u64 xl, .int .u64 xh, .slice p5 0 c5]) rfl (by kernel_rfl) (by kernel_rfl) (by kernel_rfl) (fun _ _ _ h => h) (Or.inl ⟨by rfl, fun w' hSw => by obtain ⟨zx0, zx1, zx2, zx3, zx4⟩ := hSw; go_simp⟩) hH ?_
   simp only [Act.put, List.getElem_toArray, List.getElem_cons_zero, List.getElem_cons_succ, List.setIfInBounds_toArray, List.set_cons_zero, List.set_cons_succ]
   refine wpAnyH_take (i := 1) (oi := _) (v := .int .i64 0) rfl (by kernel_rfl) (by kernel_rfl) (by kernel_rfl) (fun _ _ _ h => h) (Or.inl ⟨by rfl, fun w' hSw => by obtain ⟨zx0, zx1, zx2, zx3, zx4⟩ := hSw; go_simp⟩) hH ?_
   simp only [Act.put, List.getElem_toArray, List.getElem_cons_zero, List.getElem_cons_succ, List.setIfInBounds_toArray, List.set_cons_zero, List.set_cons_succ]
   refine wpAnyH_take (i := 2) (oi := _) (v := .int .u64 s0) rfl (by kernel_rfl) (by kernel_rfl) (by kernel_rfl) (fun _ _ _ h => h) (Or.inl ⟨by rfl, fun w' hSw => by obtain ⟨zx0, zx1, zx2, zx3, zx4⟩ := hSw; go_simp⟩) hH ?_
   simp only [Act.put, List.getElem_toArray, List.getElem_cons_zero, List.getElem_cons_succ, List.setIfInBounds_toArray, List.set_cons_zero, List.set_cons_succ]
   refine wpAnyH_take (i := 3) (oi := _) (v := .int .u64 s0) rfl (by kernel_rfl) (by kernel_rfl) (by kernel_rfl) (fun _ _ _ h => h) (Or.inl ⟨by rfl, fun w' hSw => by obtain ⟨zx0, zx1, zx2, zx3, zx4⟩ := hSw; go_simp⟩) hH ?_
   simp only [Act.put, List.getElem_toArray, List.getElem_cons_zero, List.getElem_cons_succ, List.setIfInBounds_toArray, List.set_cons_zero, List.set_cons_succ]
   generalize hY : W.drew = Y0 at *
   clear hY
   refine wpAnyH_ready (rs := [4, 6]) (by kernel_rfl) (by simp) (AllReadyH.cons (o := _) rfl (fun K hK => ?_) (AllReadyH.cons (o := _) rfl (fun K hK => ?_) AllReadyH.nil))
   ·skip
    go_simp
    refine (kO3 _).mono ?_
    rintro e Y1 ⟨rfl, g⟩
    replace cc := sp_call cc g
    clear g
    go_wp2_with fail
    refine hK.out _ _ (hall _ cc) (fun hH => ?_)
    clear hK K
    try simp only [Act.put, List.getElem_toArray, List.getElem_cons_zero, List.getElem_cons_succ, List.setIfInBounds_toArray, List.set_cons_zero, List.set_cons_succ]
    refine wpAnyH_ready (rs := [5, 6]) (by kernel_rfl) (by simp) (AllReadyH.cons (o := _) rfl (fun K hK => ?_) (AllReadyH.cons (o := _) rfl (fun K hK => ?_) AllReadyH.nil))
    ·skip
     go_simp
     refine (kB _ _ (tx.on cc)).mono ?_
     rintro e Y2 ⟨⟨p9, c9, rfl, ty⟩, g⟩
     replace cc := sp_call cc g
     clear g
     go_wp2_with fail
     refine hK.out _ _ (hall _ cc) (fun hH => ?_)
     clear hK K
     try simp only [Act.put, List.getElem_toArray, List.getElem_cons_zero, List.getElem_cons_succ, List.setIfInBounds_toArray, List.set_cons_zero, List.set_cons_succ]
     refine wpAnyH_ready (rs := [6]) (by kernel_rfl) (by simp) (AllReadyH.cons (o := _) rfl (fun K hK => ?_) AllReadyH.nil)
     go_simp
     have zz0 := cc.size
     have q0 := World.alloc_heap_new Y2 (.cells #[.bool false, .bool false, .int .u64 0, .int .u64 0, .slice none 0 0] 31)
     replace cc := sp_new cc (.cells #[.bool false, .bool false, .int .u64 0, .int .u64 0, .slice none 0 0] 31)
     generalize hY : Y2.alloc (.cells #[.bool false, .bool false, .int .u64 0, .int .u64 0, .slice none 0 0] 31) = Y3 at *
     clear hY
     refine hK.out _ _ (hall _ cc) (fun hH => ?_)
     clear hK K
     try simp only [Act.put, List.getElem_toArray, List.getElem_cons_zero, List.getElem_cons_succ, List.setIfInBounds_toArray, List.set_cons_zero, List.set_cons_succ]
     refine wpAnyH_ready (rs := [7]) (by kernel_rfl) (by simp) (AllReadyH.cons (o := _) rfl (fun K hK => ?_) AllReadyH.nil)
     obtain ⟨q_0, q_1, q_2, q_3, q_4, qf⟩ := lw_cells5 q0
     go_simp
     clear q_0 q_1 q_2 q_3 q_4 qf
     replace q0 := lw_set5 q0 (.bool yw) (.bool ye) (.int .u64 yl) (.int .u64 yh) (.slice p9 0 c9)
     replace cc := lw_sp5 (b := Y2.heap.size) cc zz0 (.bool yw) (.bool ye) (.int .u64 yl) (.int .u64 yh) (.slice p9 0 c9)
     rw [show (((((Y3.setCell ⟨Y2.heap.size, 0, none⟩ (.bool yw)).setCell ⟨Y2.heap.size, 1, none⟩ (.bool ye)).setCell ⟨Y2.heap.size, 2, none⟩ (.int .u64 yl)).setCell ⟨Y2.heap.size, 3, none⟩ (.int .u64 yh)).setCell ⟨Y2.heap.size, 4, none⟩ (.slice p9 0 c9)) = set5 Y3 Y2.heap.size (.bool yw) (.bool ye) (.int .u64 yl) (.int .u64 yh) (.slice p9 0 c9) from rfl]
     generalize hY : set5 Y3 Y2.heap.size (.bool yw) (.bool ye) (.int .u64 yl) (.int .u64 yh) (.slice p9 0 c9) = Y4 at *
     clear hY
     refine hK.out _ _ (hall _ cc) (fun hH => ?_)
     clear hK K
     try simp only [Act.put, List.getElem_toArray, List.getElem_cons_zero, List.getElem_cons_succ, List.setIfInBounds_toArray, List.set_cons_zero, List.set_cons_succ]
     refine wpAnyH_done (by kernel_rfl) ?_ _
     go_wp2_with fail
     go_meet
     exact ⟨_, Y2.heap.size, p9, c9, rfl, rfl, q0, tnil ty, cc⟩
    ·skip
     go_simp
     have zz0 := cc.size
     have q0 := World.alloc_heap_new Y1 (.cells #[.bool false, .bool false, .int .u64 0, .int .u64 0, .slice none 0 0] 31)
     replace cc := sp_new cc (.cells #[.bool false, .bool false, .int .u64 0, .int .u64 0, .slice none 0 0] 31)
     generalize hY : Y1.alloc (.cells #[.bool false, .bool false, .int .u64 0, .int .u64 0, .slice none 0 0] 31) = Y5 at *
     clear hY
     refine hK.out _ _ (hall _ cc) (fun hH => ?_)
     clear hK K
     try simp only [Act.put, List.getElem_toArray, List.getElem_cons_zero, List.getElem_cons_succ, List.setIfInBounds_toArray, List.set_cons_zero, List.set_cons_succ]
     refine wpAnyH_ready (rs := [5]) (by kernel_rfl) (by simp) (AllReadyH.cons (o := _) rfl (fun K hK => ?_) AllReadyH.nil)
     go_simp
     refine (kB _ _ (tx.on cc)).mono ?_
     rintro e Y6 ⟨⟨p9, c9, rfl, ty⟩, g⟩
     replace cc := sp_call cc g
     replace q0 := lw_on g q0
     clear g
     go_wp2_with fail
     refine hK.out _ _ (hall _ cc) (fun hH => ?_)
     clear hK K
     try simp only [Act.put, List.getElem_toArray, List.getElem_cons_zero, List.getElem_cons_succ, List.setIfInBounds_toArray, List.set_cons_zero, List.set_cons_succ]
     refine wpAnyH_ready (rs := [7]) (by kernel_rfl) (by simp) (AllReadyH.cons (o := _) rfl (fun K hK => ?_) AllReadyH.nil)
     obtain ⟨q_0, q_1, q_2, q_3, q_4, qf⟩ := lw_cells5 q0
     go_simp
     clear q_0 q_1 q_2 q_3 q_4 qf
     replace q0 := lw_set5 q0 (.bool yw) (.bool ye) (.int .u64 yl) (.int .u64 yh) (.slice p9 0 c9)
     replace cc := lw_sp5 (b := Y1.heap.size) cc zz0 (.bool yw) (.bool ye) (.int .u64 yl) (.int .u64 yh) (.slice p9 0 c9)
     rw [show (((((Y6.setCell ⟨Y1.heap.size, 0, none⟩ (.bool yw)).setCell ⟨Y1.heap.size, 1, none⟩ (.bool ye)).setCell ⟨Y1.heap.size, 2, none⟩ (.int .u64 yl)).setCell ⟨Y1.heap.size, 3, none⟩ (.int .u64 yh)).setCell ⟨Y1.heap.size, 4, none⟩ (.slice p9 0 c9)) = set5 Y6 Y1.heap.size (.bool yw) (.bool ye) (.int .u64 yl) (.int .u64 yh) (.slice p9 0 c9) from rfl]
     generalize hY : set5 Y6 Y1.heap.size (.bool yw) (.bool ye) (.int .u64 yl) (.int .u64 yh) (.slice p9 0 c9) = Y7 at *
     clear hY
     refine hK.out _ _ (hall _ cc) (fun hH => ?_)
     clear hK K
     try simp only [Act.put, List.getElem_toArray, List.getElem_cons_zero, List.getElem_cons_succ, List.setIfInBounds_toArray, List.set_cons_zero, List.set_cons_succ]
     refine wpAnyH_done (by kernel_rfl) ?_ _
     go_wp2_with fail
     go_meet
     exact ⟨_, Y1.heap.size, p9, c9, rfl, rfl, q0, tnil ty, cc⟩
   ·skip
    go_simp
    have zz0 := cc.size
    have q0 := World.alloc_heap_new Y0 (.cells #[.bool false, .bool false, .int .u64 0, .int .u64 0, .slice none 0 0] 31)
    replace cc := sp_new cc (.cells #[.bool false, .bool false, .int .u64 0, .int .u64 0, .slice none 0 0] 31)
    generalize hY : Y0.alloc (.cells #[.bool false, .bool false, .int .u64 0, .int .u64 0, .slice none 0 0] 31) = Y8 at *
    clear hY
    refine hK.out _ _ (hall _ cc) (fun hH => ?_)
    clear hK K
    try simp only [Act.put, List.getElem_toArray, List.getElem_cons_zero, List.getElem_cons_succ, List.setIfInBounds_toArray, List.set_cons_zero, List.set_cons_succ]
    refine wpAnyH_ready (rs := [4]) (by kernel_rfl) (by simp) (AllReadyH.cons (o := _) rfl (fun K hK => ?_) AllReadyH.nil)
    go_simp
    refine (kO3 _).mono ?_
    rintro e Y9 ⟨rfl, g⟩
    replace cc := sp_call cc g
    replace q0 := lw_on g q0
    clear g
    go_wp2_with fail
    refine hK.out _ _ (hall _ cc) (fun hH => ?_)
    clear hK K
    try simp only [Act.put, List.getElem_toArray, List.getElem_cons_zero, List.getElem_cons_succ, List.setIfInBounds_toArray, List.set_cons_zero, List.set_cons_succ]
    refine wpAnyH_ready (rs := [5]) (by kernel_rfl) (by simp) (AllReadyH.cons (o := _) rfl (fun K hK => ?_) AllReadyH.nil)
    go_simp
    refine (kB _ _ (tx.on cc)).mono ?_
    rintro e Y10 ⟨⟨p9, c9, rfl, ty⟩, g⟩
    replace cc := sp_call cc g
    replace q0 := lw_on g q0
    clear g
    go_wp2_with fail
    refine hK.out _ _ (hall _ cc) (fun hH => ?_)
    clear hK K
    try simp only [Act.put, List.getElem_toArray, List.getElem_cons_zero, List.getElem_cons_succ, List.setIfInBounds_toArray, List.set_cons_zero, List.set_cons_succ]
    refine wpAnyH_ready (rs := [7]) (by kernel_rfl) (by simp) (AllReadyH.cons (o := _) rfl (fun K hK => ?_) AllReadyH.nil)
    obtain ⟨q_0, q_1, q_2, q_3, q_4, qf⟩ := lw_cells5 q0
    go_simp
    clear q_0 q_1 q_2 q_3 q_4 qf
    replace q0 := lw_set5 q0 (.bool yw) (.bool ye) (.int .u64 yl) (.int .u64 yh) (.slice p9 0 c9)
    replace cc := lw_sp5 (b := Y0.heap.size) cc zz0 (.bool yw) (.bool ye) (.int .u64 yl) (.int .u64 yh) (.slice p9 0 c9)
    rw [show (((((Y10.setCell ⟨Y0.heap.size, 0, none⟩ (.bool yw)).setCell ⟨Y0.heap.size, 1, none⟩ (.bool ye)).setCell ⟨Y0.heap.size, 2, none⟩ (.int .u64 yl)).setCell ⟨Y0.heap.size, 3, none⟩ (.int .u64 yh)).setCell ⟨Y0.heap.size, 4, none⟩ (.slice p9 0 c9)) = set5 Y10 Y0.heap.size (.bool yw) (.bool ye) (.int .u64 yl) (.int .u64 yh) (.slice p9 0 c9) from rfl]
    generalize hY : set5 Y10 Y0.heap.size (.bool yw) (.bool ye) (.int .u64 yl) (.int .u64 yh) (.slice p9 0 c9) = Y11 at *
    clear hY
    refine hK.out _ _ (hall _ cc) (fun hH => ?_)
    clear hK K
    try simp only [Act.put, List.getElem_toArray, List.getElem_cons_zero, List.getElem_cons_succ, List.setIfInBounds_toArray, List.set_cons_zero, List.set_cons_succ]
    refine wpAnyH_done (by kernel_rfl) ?_ _
    go_wp2_with fail
    go_meet
    exact ⟨_, Y0.heap.size, p9, c9, rfl, rfl, q0, tnil ty, cc⟩
  case rest =>
   obtain ⟨W1, b9, p9, c9, rfl, rfl, q9, ty, cX⟩ := hcut
   replace bW := sp_call bW cX
   clear cX cc x0 x1 x2 x3 x4 tx kB kO3
   obtain ⟨y0, y1, y2, y3, y4, _⟩ := lw_cells5 q9
   clear q9
   cases yw
   · replace kE := kE rfl
     replace kH := kH rfl
     go_upto_region 15 with (first
    | (go_at_call 35; (with_reducible refine (kE _ _ ty).mono ?_); rintro e v ⟨rfl, g⟩; replace bW := sp_call bW g; clear g)
    | fail)
     obtain ⟨Z, hZ⟩ : ∃ Z, v.alloc (.cells #[.bool rEe, .int .u64 rEl, .int .u64 rEh] 24) = Z := ⟨_, rfl⟩
     obtain ⟨bz, hbz⟩ : ∃ b, v.heap.size = b := ⟨_, rfl⟩
     have z0 : Z.cell? ⟨bz, 0, none⟩ = some (.bool rEe) := by rw [← hZ, ← hbz]; simp [go_sem]
     have z1 : Z.cell? ⟨bz, 1, none⟩ = some (.int .u64 rEl) := by rw [← hZ, ← hbz]; simp [go_sem]
     have z2 : Z.cell? ⟨bz, 2, none⟩ = some (.int .u64 rEh) := by rw [← hZ, ← hbz]; simp [go_sem]
     replace bW : Below w.heap.size w Z := by rw [← hZ]; exact sp_new bW _
     rw [hZ]
     (try rw [hbz])
     clear hZ hbz y0 y1 y2 y3 y4 kE
     go_wp2_with (first
    | (go_at_call 17; (with_reducible refine (kl _).mono ?_); rintro e v2 ⟨rfl, g⟩; replace z0 := sO g z0; replace z1 := sO g z1; replace z2 := sO g z2; replace bW := sp_call bW g; clear g)
    | (go_at_call 41; (with_reducible refine (kH _).mono ?_); rintro e v3 ⟨rfl, g⟩; replace bW := sp_call bW g; clear g)
    | fail)
     go_ret
     exact ⟨rfl, bW⟩
   · clear kE kH
     go_wp2_with (first
    | (go_at_call 17; (with_reducible refine (kl _).mono ?_); rintro e v2 ⟨rfl, g⟩; replace bW := sp_call bW g; clear g)
    | fail)
     go_ret
     exact ⟨rfl, bW⟩
end Go.Proofs.YteafnkimcidkhaaGreat


namespace Go.Proofs.YteafnkimcidkhaaGreat
theorem ordI_pos (x y : Int) : 0 < WyI.ord x y ↔ y < x := by unfold WyI cmpI; simp only; split <;> (try split) <;> omega
theorem ordI_neg (x y : Int) : WyI.ord x y < 0 ↔ x < y := by unfold WyI cmpI; simp only; split <;> (try split) <;> omega
theorem ordI_le (x y : Int) : WyI.ord x y ≤ 0 ↔ x ≤ y := by unfold WyI cmpI; simp only; split <;> (try split) <;> omega
end Go.Proofs.YteafnkimcidkhaaGreat


namespace Go.Proofs.YteafnkimcidkhaaGreat
set_option linter.unusedVariables false
set_option linter.unusedSimpArgs false
theorem mk_word {s : Bool} {r : Int} (h1 : -fI s ≤ r) (h2 : r ≤ fI s) : Word (mk s r) := by
  obtain ⟨b, e, _⟩ := mk_made s r
  rw [e]
  exact sgnd_word s b _ (by split <;> omega) (by split <;> omega)
theorem neg_mk {s : Bool} {r : Int} (h1 : -fI s ≤ r) (h2 : r ≤ fI s) : plainF s (negF s (mk s r)) = mk s (-r) := by
  obtain ⟨b, e, hb⟩ := mk_made s r
  by_cases z : r = 0
  · subst z
    cases s <;> decide +kernel
  · rw [e, neg_made s b _ (by split <;> omega) (by split <;> omega)]
    have m : sgnd s (!b) (if r < 0 then -r else r) = mk s (-r) := by
      unfold mk
      cases b
      · have : ¬ r < 0 := fun h => by simpa using hb.2 h
        have t : -r < 0 := by omega
        rw [if_pos t, if_neg this, Int.neg_neg]
        rfl
      · have := hb.1 rfl
        have t : ¬ -r < 0 := by omega
        rw [if_neg t, if_pos this]
        rfl
    rw [m]
    exact plain_mk (by omega) (by omega)
theorem least_mk (s : Bool) : negF s (fI s - 1) = mk s (-(fI s - 1)) := by cases s <;> decide +kernel
theorem most_mk (s : Bool) : fI s - 1 = mk s (fI s - 1) := by cases s <;> decide +kernel
theorem next_mk {s : Bool} {r : Int} (h1 : -fI s < r) (h2 : r < fI s - 1) : nextF s (mk s r) = mk s (r + 1) := by
  have p := plain_mk (s := s) (r := r) (by omega) (by omega)
  have ne : plainF s (mk s r) ≠ fI s - 1 := by
    rw [p]
    intro e
    rw [most_mk] at e
    have := mk_inj (by omega) (by omega) (by omega) (by omega) e
    omega
  have f : finF s (mk s r) = true := by rw [fin_mk (by omega) (by omega)]; exact decide_eq_true ⟨h1, by omega⟩
  have st := n_step s (mk s r) (mk_word (by omega) (by omega)) f ne
  rw [p] at st
  have one := st.one
  rw [mk_rnk (by omega) (by omega)] at one
  obtain ⟨b, z, e, hz⟩ := n_made s _ st.wn st.fn
  rw [e] at one ⊢
  rw [n_rnk s b z hz] at one
  unfold mk
  cases b
  · have one' : (z : Int) = r + 1 := by simpa using one
    rw [if_neg (by omega)]
    show (z : Int) = r + 1
    omega
  · have one' : -(z : Int) = r + 1 := by simpa using one
    by_cases z0 : z = 0
    · -- -0 is not what is next
      subst z0
      exfalso
      have r1 : r = -1 := by omega
      subst r1
      have e1 := n_neg s 1 (by decide) (by have := fI_two s; omega)
      have m1 : mk s (-1) = sgnd s true ((1 : Nat) : Int) := by unfold mk; simp
      rw [m1, e1] at e
      revert e
      cases s <;> decide
    · rw [if_pos (by omega)]
      congr 1
      omega
theorem prev_mk {s : Bool} {r : Int} (h1 : -(fI s - 1) < r) (h2 : r < fI s) : prevF s (mk s r) = mk s (r - 1) := by
  have st := next_mk (s := s) (r := r - 1) (by omega) (by omega)
  have p := plain_mk (s := s) (r := r - 1) (by omega) (by omega)
  have ne : plainF s (mk s (r - 1)) ≠ fI s - 1 := by
    rw [p]
    intro e
    rw [most_mk] at e
    have := mk_inj (by omega) (by omega) (by omega) (by omega) e
    omega
  have f : finF s (mk s (r - 1)) = true := by rw [fin_mk (by omega) (by omega)]; exact decide_eq_true ⟨by omega, by omega⟩
  have k := n_step s (mk s (r - 1)) (mk_word (by omega) (by omega)) f ne
  rw [p, st, show r - 1 + 1 = r by omega] at k
  exact k.back
end Go.Proofs.YteafnkimcidkhaaGreat


namespace Go.Proofs.YteafnkimcidkhaaGreat
set_option linter.unusedVariables false
set_option linter.unusedSimpArgs false
def LF (s : Bool) : Ln := LnF s 0 0
theorem LF_least (s : Bool) : (LF s).least = mk s (-(fI s - 1)) := least_mk s
theorem LF_most (s : Bool) : (LF s).most = mk s (fI s - 1) := most_mk s
theorem grtF {s : Bool} {a b : Int} (h1 : -fI s ≤ a) (h2 : a ≤ fI s) (h3 : -fI s ≤ b) (h4 : b ≤ fI s) : grt (WyF s) (mk s a) (mk s b) = mk s (max a b) := by
  unfold grt
  rw [ord_mk h3 h4 h1 h2]
  by_cases c : 0 < WyI.ord b a
  · rw [if_pos c]; have := (ordI_pos b a).1 c; rw [show max a b = b by omega]
  · rw [if_neg c]; have := mt (ordI_pos b a).2 c; rw [show max a b = a by omega]
theorem smlF {s : Bool} {a b : Int} (h1 : -fI s ≤ a) (h2 : a ≤ fI s) (h3 : -fI s ≤ b) (h4 : b ≤ fI s) : sml (WyF s) (mk s a) (mk s b) = mk s (min a b) := by
  unfold sml
  rw [ord_mk h3 h4 h1 h2]
  by_cases c : WyI.ord b a < 0
  · rw [if_pos c]; have := (ordI_neg b a).1 c; rw [show min a b = b by omega]
  · rw [if_neg c]; have := mt (ordI_neg b a).2 c; rw [show min a b = a by omega]
theorem meetF {s : Bool} {a b c d : Int} (a1 : -fI s ≤ a) (a2 : a ≤ fI s) (b1 : -fI s ≤ b) (b2 : b ≤ fI s) (c1 : -fI s ≤ c) (c2 : c ≤ fI s) (d1 : -fI s ≤ d) (d2 : d ≤ fI s) :
    meetP (WyF s) (false, mk s a, mk s b) (false, mk s c, mk s d) = if min b d < max a c then (true, 0, 0) else (false, mk s (max a c), mk s (min b d)) := by
  unfold meetP
  simp only [Bool.false_or]
  rw [grtF a1 a2 c1 c2, smlF b1 b2 d1 d2, ord_mk (by omega) (by omega) (by omega) (by omega)]
  by_cases h : min b d < max a c
  · rw [if_pos h, if_pos (by simpa using (ordI_pos _ _).2 h)]
  · rw [if_neg h, if_neg (by simpa using mt (ordI_pos _ _).1 h)]
end Go.Proofs.YteafnkimcidkhaaGreat
namespace Go.Proofs.YteafnkimcidkhaaGreat
open Go.RowKit
set_option linter.unusedVariables false
set_option linter.unusedSimpArgs false
end Go.Proofs.YteafnkimcidkhaaGreat


namespace Go.Proofs.YteafnkimcidkhaaGreat
open Go.RowKit
set_option linter.unusedVariables false
set_option linter.unusedSimpArgs false
theorem ofP_wd {x y : Int} (hx : Word x) (hy : Word y) : wdR (ofP (WyF false) x y) := by
  unfold ofP
  split
  · exact ⟨n_plainw _ _ hx, n_plainw _ _ hy⟩
  · exact ⟨word_0, word_0⟩
theorem outP_wd {g : Int → Int → Int → Int} (gw : ∀ m x y, Word x → Word y → Word (g m x y)) {x y : Bool × Int × Int} (hx : wdR x) (hy : wdR y) : wdR (outP g x y).1 := by
  unfold outP
  split
  · exact ⟨word_0, word_0⟩
  · split
    · exact ⟨word_0, word_0⟩
    · split
      · exact ⟨word_0, word_0⟩
      · obtain ⟨ha, hb⟩ := hx
        obtain ⟨hc, hd⟩ := hy
        exact ofP_wd (lesP_word (lesP_word (lesP_word (lesP_word (gw _ _ _ ha hc) (gw _ _ _ ha hc)) (gw _ _ _ ha hd)) (gw _ _ _ hb hc)) (gw _ _ _ hb hd)) (greP_word (greP_word (greP_word (greP_word (gw _ _ _ hb hd) (gw _ _ _ ha hc)) (gw _ _ _ ha hd)) (gw _ _ _ hb hc)) (gw _ _ _ hb hd))
end Go.Proofs.YteafnkimcidkhaaGreat


namespace Go.Proofs.YteafnkimcidkhaaGreat
open Go.RowKit Go.Shelf
set_option linter.unusedVariables false
set_option linter.unusedSimpArgs false
theorem sumP_wd (x y : Bool × Int × Int) (hx : wdR x) (hy : wdR y) : wdR (sumP x y).1 := outP_wd (fun m x y h1 h2 => addF_word false m x y h1 h2) hx hy
theorem prodP_wd (x y : Bool × Int × Int) (hx : wdR x) (hy : wdR y) : wdR (prodP x y).1 := outP_wd (fun m x y h1 h2 => mulF_word false m x y) hx hy
theorem addP_ok {A B : Frm} (hA : fOk A) (hB : fOk B) : fOk (addP A B) := (recP_ok sumP_wd hA hB).1
end Go.Proofs.YteafnkimcidkhaaGreat


namespace Go.Proofs.YteafnkimcidkhaaGreat
set_option linter.unusedVariables false
set_option linter.unusedSimpArgs false
theorem near_size (s : Bool) {n : Nat} (h : n ≠ 0) (e E : Int) (h1 : E ≤ e) (h2 : E ≤ fL s) :
    ∃ x q : Nat, lastOf s n e - fL s = x ∧ quo n (lastOf s n e - e) = q ∧ q < 2 ^ (fP s + 1) ∧ (x = 0 ∨ 2 ^ fP s ≤ q) ∧ val s (x * 2 ^ fP s + q) * 2 ^ (fL s - E).toNat ≤ n * 2 ^ (e - E).toNat ∧ n * 2 ^ (e - E).toNat < val s (x * 2 ^ fP s + q + 1) * 2 ^ (fL s - E).toNat ∧
      mag s 0 false n e = (if fI s ≤ ((x * 2 ^ fP s + q + (nearUp n (lastOf s n e - e)).toNat : Nat) : Int) then fI s else ((x * 2 ^ fP s + q + (nearUp n (lastOf s n e - e)).toNat : Nat) : Int)) := by
  obtain ⟨x, ex, q1, q2, q3, q4, q5⟩ := kept s h e E h1 h2
  refine ⟨x, _, ex, rfl, q1, q2, ?_, ?_, ?_⟩
  · rw [val_at s x _ (by omega) q2, Nat.mul_assoc, ← Nat.pow_add]; exact q3
  · rw [Nat.add_assoc, val_at s x _ (by omega) (by omega), Nat.mul_assoc, ← Nat.pow_add]; exact q4
  · unfold mag fin great nearUp
    rw [ex]
    have an : ∀ o h l, away 0 false o h l = (h && (l || o)) := fun o h l => rfl
    simp only [an]
    generalize quo n (lastOf s n e - e) = q
    generalize half n (lastOf s n e - e) = g
    generalize low n (lastOf s n e - e) = l
    have e0 : (if (true && (true || true)) = true then fI s else fI s - 1) = fI s := rfl
    rw [e0]
    have e1 : (x : Int) * 2 ^ fP s + ((q + if (g && (l || q % 2 == 1)) = true then 1 else 0 : Nat) : Int) = ((x * 2 ^ fP s + q + (g && (l || q % 2 == 1)).toNat : Nat) : Int) := by
      generalize (g && (l || q % 2 == 1)) = b
      cases b <;> simp <;> omega
    rw [e1]
theorem mag_mono (s : Bool) {n n' : Nat} (h : n ≠ 0) (le : n ≤ n') (e : Int) : mag s 0 false n e ≤ mag s 0 false n' e := by
  have h' : n' ≠ 0 := by omega
  obtain ⟨x, q, ex, eq, q1, q2, q3, q4, M⟩ := near_size s h e (min e (fL s)) (by omega) (by omega)
  obtain ⟨x', q', ex', eq', q1', q2', q3', q4', M'⟩ := near_size s h' e (min e (fL s)) (by omega) (by omega)
  rw [M, M']
  have p : 0 < 2 ^ (fL s - min e (fL s)).toNat := Nat.two_pow_pos _
  have zz : x * 2 ^ fP s + q < x' * 2 ^ fP s + q' + 1 := by
    apply lt_of_val s
    have t : val s (x * 2 ^ fP s + q) * 2 ^ (fL s - min e (fL s)).toNat < val s (x' * 2 ^ fP s + q' + 1) * 2 ^ (fL s - min e (fL s)).toNat :=
      Nat.lt_of_le_of_lt q3 (Nat.lt_of_le_of_lt (Nat.mul_le_mul_right _ le) q4')
    exact Nat.lt_of_mul_lt_mul_right t
  have key : x * 2 ^ fP s + q + (nearUp n (lastOf s n e - e)).toNat ≤ x' * 2 ^ fP s + q' + (nearUp n' (lastOf s n' e - e)).toNat := by
    by_cases c : x * 2 ^ fP s + q = x' * 2 ^ fP s + q'
    · have pw : 2 ^ (fP s + 1) = 2 ^ fP s * 2 := Nat.pow_succ _ _
      have uq : x = x' ∧ q = q' := by
        have p2 : 0 < 2 ^ fP s := Nat.two_pow_pos _
        rw [pw] at q1 q1'
        generalize 2 ^ fP s = B at *
        have : x = x' := by
          rcases Nat.lt_trichotomy x x' with l | l | l
          · exfalso
            obtain ⟨t, rfl⟩ : ∃ t, x' = x + 1 + t := ⟨x' - x - 1, by omega⟩
            rw [Nat.add_mul, Nat.add_mul] at c
            have : B ≤ q' := by rcases q2' with z | z <;> omega
            have t0 : 0 ≤ t * B := Nat.zero_le _
            omega
          · exact l
          · exfalso
            obtain ⟨t, rfl⟩ : ∃ t, x = x' + 1 + t := ⟨x - x' - 1, by omega⟩
            rw [Nat.add_mul, Nat.add_mul] at c
            have : B ≤ q := by rcases q2 with z | z <;> omega
            have t0 : 0 ≤ t * B := Nat.zero_le _
            omega
        subst this
        exact ⟨rfl, by omega⟩
      have el : lastOf s n' e = lastOf s n e := by omega
      rw [el] at eq' ⊢
      have qe : quo n (lastOf s n e - e) = quo n' (lastOf s n e - e) := by rw [eq, eq', uq.2]
      rw [c]
      cases b : nearUp n (lastOf s n e - e)
      · simp
      · rw [nearUp_mono le qe b]
        exact Nat.le_refl _
    · have := Bool.toNat_le (nearUp n (lastOf s n e - e))
      omega
  generalize x * 2 ^ fP s + q + (nearUp n (lastOf s n e - e)).toNat = A at *
  generalize x' * 2 ^ fP s + q' + (nearUp n' (lastOf s n' e - e)).toNat = B at *
  split <;> split <;> omega
end Go.Proofs.YteafnkimcidkhaaGreat

namespace Go.Proofs.YteafnkimcidkhaaGreat
set_option linter.unusedVariables false
set_option linter.unusedSimpArgs false
theorem mgF_bd (s : Bool) (n : Nat) (e : Int) : 0 ≤ mgF s n e ∧ mgF s n e ≤ fI s := by
  unfold mgF
  split
  · exact ⟨Int.le_refl _, fI_pos s⟩
  · rename_i h
    obtain ⟨z, e1, e2⟩ := mag_any s 0 false h e
    rw [e1]
    exact ⟨by omega, e2⟩
theorem mgF_scale (s : Bool) (n j : Nat) (e : Int) : mgF s (n * 2 ^ j) (e - j) = mgF s n e := by
  have p := Nat.two_pow_pos j
  unfold mgF
  by_cases c : n = 0
  · rw [if_pos c, if_pos (by rw [c, Nat.zero_mul])]
  · rw [if_neg c, if_neg (by intro h; rcases Nat.mul_eq_zero.1 h with h | h <;> omega)]
    exact mag_scale s 0 false c j e
theorem mag_near (s b : Bool) (n : Nat) (e : Int) : mag s 0 b n e = mag s 0 false n e := by
  unfold mag fin great
  have an : ∀ b o h l, away 0 b o h l = (h && (l || o)) := fun b o h l => rfl
  simp only [an]
theorem rk_scale (s : Bool) (n : Int) (j : Nat) (e : Int) : rk s (n * 2 ^ j) (e - j) = rk s n e := by
  have p := Nat.two_pow_pos j
  have q : (0 : Int) < 2 ^ j := by exact_mod_cast p
  have a : (n * 2 ^ j).natAbs = n.natAbs * 2 ^ j := by
    rw [Int.natAbs_mul, Int.natAbs_pow]; rfl
  unfold rk
  rw [a, mgF_scale]
  by_cases c : n < 0
  · rw [if_pos c, if_pos (Int.mul_neg_of_neg_of_pos c q)]
  · rw [if_neg c, if_neg (by have := Int.mul_nonneg (show 0 ≤ n by omega) (Int.le_of_lt q); omega)]
theorem rnd_rk (s b : Bool) (n : Nat) (e : Int) : Res s (rnd s 0 b n e) (rk s (if b then -(n : Int) else n) e) := by
  have bd := mgF_bd s n e
  have r := made_res s b (mgF s n e) bd.1 bd.2
  have e1 : rnd s 0 b n e = sgnd s b (mgF s n e) := by
    unfold rnd mgF
    split
    · rfl
    · rw [mag_near]
  have e2 : rk s (if b then -(n : Int) else n) e = if b then -(mgF s n e) else mgF s n e := by
    unfold rk
    cases b
    · simp only [Bool.false_eq_true, if_false, Int.natAbs_natCast]
      rw [if_neg (by omega)]
    · simp only [if_true, Int.natAbs_neg, Int.natAbs_natCast]
      by_cases c : n = 0
      · subst c; simp [mgF]
      · rw [if_pos (by omega)]
  rw [e1, e2]
  exact r
theorem sumT_rk (s : Bool) (xb : Bool) (xw x : Nat) (yb : Bool) (yw y : Nat) (L : Int) :
    Res s (sumT s 0 xb xw (L + x) yb yw (L + y)) (rk s (sg xb (xw * 2 ^ x) + sg yb (yw * 2 ^ y)) L) := by
  obtain ⟨k, i, j, hx, hy, hk⟩ : ∃ k i j : Nat, x = i + k ∧ y = j + k ∧ min (L + (x : Int)) (L + y) = L + k :=
    ⟨min x y, x - min x y, y - min x y, by omega, by omega, by omega⟩
  subst hx hy
  unfold sumT
  rw [hk, show (L + ((i + k : Nat) : Int) - (L + k)).toNat = i by omega, show (L + ((j + k : Nat) : Int) - (L + k)).toNat = j by omega]
  have t : rk s (sg xb (xw * 2 ^ (i + k)) + sg yb (yw * 2 ^ (j + k))) L = rk s (sg xb (xw * 2 ^ i) + sg yb (yw * 2 ^ j)) (L + k) := by
    have := rk_scale s (sg xb (xw * 2 ^ i) + sg yb (yw * 2 ^ j)) k (L + k)
    rw [show L + (k : Int) - k = L by omega] at this
    rw [← this]
    congr 1
    rw [Int.add_mul, Nat.pow_add, Nat.pow_add, ← Nat.mul_assoc, ← Nat.mul_assoc]
    unfold sg
    cases xb <;> cases yb <;> simp [Int.neg_mul]
  rw [t]
  generalize xw * 2 ^ i = X
  generalize yw * 2 ^ j = Y
  clear t
  by_cases c : xb = yb
  · subst c
    rw [if_pos rfl]
    have := rnd_rk s xb (X + Y) (L + k)
    rw [show sg xb X + sg xb Y = if xb then -((X + Y : Nat) : Int) else ((X + Y : Nat) : Int) by unfold sg; cases xb <;> simp <;> omega]
    exact this
  · rw [if_neg c]
    by_cases c1 : X = Y
    · rw [if_pos c1]
      have := made_res s false 0 (Int.le_refl _) (fI_pos s)
      rw [show sg xb X + sg yb Y = 0 by subst c1; unfold sg; cases xb <;> cases yb <;> simp at c ⊢ <;> omega]
      exact this
    · rw [if_neg c1]
      by_cases c2 : Y < X
      · rw [if_pos c2]
        have := rnd_rk s xb (X - Y) (L + k)
        rw [show sg xb X + sg yb Y = if xb then -((X - Y : Nat) : Int) else ((X - Y : Nat) : Int) by unfold sg; cases xb <;> cases yb <;> simp at c ⊢ <;> omega]
        exact this
      · rw [if_neg c2]
        have := rnd_rk s yb (Y - X) (L + k)
        rw [show sg xb X + sg yb Y = if yb then -((Y - X : Nat) : Int) else ((Y - X : Nat) : Int) by unfold sg; cases xb <;> cases yb <;> simp at c ⊢ <;> omega]
        exact this
theorem add_rk (s b c : Bool) (y z : Nat) (hy : (y : Int) < fI s) (hz : (z : Int) < fI s) : Res s (addF s 0 (sgnd s b y) (sgnd s c z)) (rk s (sg b (val s y) + sg c (val s z)) (fL s)) := by
  obtain ⟨a1, a2⟩ := made_fin s b y hy
  obtain ⟨b1, b2⟩ := made_fin s c z hz
  obtain ⟨i, pi, vi, _⟩ := parts_val s b y hy
  obtain ⟨j, pj, vj, _⟩ := parts_val s c z hz
  unfold addF
  rw [a1, b1, a2, b2]
  simp only [Bool.or_self, Bool.false_eq_true, if_false, Bool.false_and]
  rw [self_sgn s b y hy, self_sgn s c z hz, pi, pj, vi, vj]
  exact sumT_rk s b _ i c _ j (fL s)
end Go.Proofs.YteafnkimcidkhaaGreat


namespace Go.Proofs.YteafnkimcidkhaaGreat
set_option linter.unusedVariables false
set_option linter.unusedSimpArgs false
theorem val_pos (s : Bool) {z : Nat} (h : z ≠ 0) : 0 < val s z := by
  have := val_lt s (show 0 < z by omega)
  omega
end Go.Proofs.YteafnkimcidkhaaGreat


namespace Go.Proofs.YteafnkimcidkhaaGreat
open Go.RowKit
set_option linter.unusedVariables false
set_option linter.unusedSimpArgs false
def hRF (s : Bool) (e : Bool) (a b x : Int) : Bool := !e && (finF s x && (!lessF s x a && !lessF s b x))
set_option maxRecDepth 100000 in
set_option maxHeartbeats 3200000 in
theorem rhasF_any (s : Bool) (e : Bool) (a b x : Int) (h1 : Word a) (h2 : Word b) (h3 : Word x) (w : World) : Calls Tryz.prog 41 #[.int .i64 (fb s), .agg #[.bool e, .int .u64 a, .int .u64 b], .int .u64 x] w fun r w' => r = .returned (.bool (hRF s e a b x)) ∧ Below w.heap.size w w' := by
  have f1 := rfinite_any s x h3
  have l1 := rless_any s x a h3 h1
  have l2 := rless_any s b x h2 h3
  unfold hRF
  generalize finF s x = F1 at *
  generalize lessF s x a = L1 at *
  generalize lessF s b x = L2 at *
  generalize fb s = f at *
  cases e
  · cases F1
    · go_enter Tryz.func41, Tryz.ntmps41
      go_wp2_with (first
        | (go_at_call 44; refine (f1 _).mono ?_; rintro e w1 ⟨rfl, n1, rfl⟩)
        | (go_at_call_of 82 a; refine (l1 _).mono ?_; rintro e w2 ⟨rfl, n2, rfl⟩)
        | (go_at_call_of 82 b; refine (l2 _).mono ?_; rintro e w3 ⟨rfl, n3, rfl⟩)
        | fail)
      go_ret
      exact ⟨by simp, by (repeat (first | with_reducible exact Below.refl _ _ | with_reducible refine sp_dNr ?_ _ | with_reducible refine sp_new ?_ _ | with_reducible refine sp_drewr ?_))⟩
    · cases L1
      · cases L2
        · go_enter Tryz.func41, Tryz.ntmps41
          go_wp2_with (first
            | (go_at_call 44; refine (f1 _).mono ?_; rintro e w1 ⟨rfl, n1, rfl⟩)
            | (go_at_call_of 82 a; refine (l1 _).mono ?_; rintro e w2 ⟨rfl, n2, rfl⟩)
            | (go_at_call_of 82 b; refine (l2 _).mono ?_; rintro e w3 ⟨rfl, n3, rfl⟩)
            | fail)
          go_ret
          exact ⟨by simp, by (repeat (first | with_reducible exact Below.refl _ _ | with_reducible refine sp_dNr ?_ _ | with_reducible refine sp_new ?_ _ | with_reducible refine sp_drewr ?_))⟩
        · go_enter Tryz.func41, Tryz.ntmps41
          go_wp2_with (first
            | (go_at_call 44; refine (f1 _).mono ?_; rintro e w1 ⟨rfl, n1, rfl⟩)
            | (go_at_call_of 82 a; refine (l1 _).mono ?_; rintro e w2 ⟨rfl, n2, rfl⟩)
            | (go_at_call_of 82 b; refine (l2 _).mono ?_; rintro e w3 ⟨rfl, n3, rfl⟩)
            | fail)
          go_ret
          exact ⟨by simp, by (repeat (first | with_reducible exact Below.refl _ _ | with_reducible refine sp_dNr ?_ _ | with_reducible refine sp_new ?_ _ | with_reducible refine sp_drewr ?_))⟩
      · go_enter Tryz.func41, Tryz.ntmps41
        go_wp2_with (first
          | (go_at_call 44; refine (f1 _).mono ?_; rintro e w1 ⟨rfl, n1, rfl⟩)
          | (go_at_call_of 82 a; refine (l1 _).mono ?_; rintro e w2 ⟨rfl, n2, rfl⟩)
          | (go_at_call_of 82 b; refine (l2 _).mono ?_; rintro e w3 ⟨rfl, n3, rfl⟩)
          | fail)
        go_ret
        exact ⟨by simp, by (repeat (first | with_reducible exact Below.refl _ _ | with_reducible refine sp_dNr ?_ _ | with_reducible refine sp_new ?_ _ | with_reducible refine sp_drewr ?_))⟩
  · go_enter Tryz.func41, Tryz.ntmps41
    go_wp2_with (first
      | (go_at_call 44; refine (f1 _).mono ?_; rintro e w1 ⟨rfl, n1, rfl⟩)
      | (go_at_call_of 82 a; refine (l1 _).mono ?_; rintro e w2 ⟨rfl, n2, rfl⟩)
      | (go_at_call_of 82 b; refine (l2 _).mono ?_; rintro e w3 ⟨rfl, n3, rfl⟩)
      | fail)
    go_ret
    exact ⟨by simp, by (repeat (first | with_reducible exact Below.refl _ _ | with_reducible refine sp_dNr ?_ _ | with_reducible refine sp_new ?_ _ | with_reducible refine sp_drewr ?_))⟩
end Go.Proofs.YteafnkimcidkhaaGreat


namespace Go.Proofs.YteafnkimcidkhaaGreat
set_option linter.unusedVariables false
set_option linter.unusedSimpArgs false
theorem ge_cmp (p q : Int) : (0 ≤ cmpI p q) ↔ q ≤ p := by unfold cmpI; split <;> (try split) <;> omega
end Go.Proofs.YteafnkimcidkhaaGreat


namespace Go.Proofs.YteafnkimcidkhaaGreat
open Go.RowKit
set_option linter.unusedVariables false
set_option linter.unusedSimpArgs false
def RowFl (w : World) (v : Value) (xs : List Int) : Prop := (v = .slice none 0 0 ∧ xs = []) ∨ ∃ b : Nat, v = .slice (some ⟨b, 0, none⟩) xs.length xs.length ∧ 0 < xs.length ∧ ∀ j x, xs[j]? = some x → w.cell? ⟨b, j, none⟩ = some (.int .u64 x)
theorem RowFl.on {w V : World} {v : Value} {xs : List Int} (h : RowFl w v xs) (g : Below w.heap.size w V) : RowFl V v xs := by
  rcases h with h | ⟨b, h1, h2, h3⟩
  · exact Or.inl h
  · exact Or.inr ⟨b, h1, h2, fun j x hx => sO g (h3 j x hx)⟩
def RowGl (w : World) (v : Value) (xs : List Int) : Prop := (v = .slice none 0 0 ∧ xs = []) ∨ ∃ b cap : Nat, v = .slice (some ⟨b, 0, none⟩) xs.length cap ∧ 0 < xs.length ∧ ∀ j x, xs[j]? = some x → w.cell? ⟨b, j, none⟩ = some (.int .u64 x)
theorem RowFl.r {w : World} {v : Value} {xs : List Int} (h : RowFl w v xs) : RowGl w v xs := by
  rcases h with h | ⟨b, h1, h2, h3⟩
  · exact Or.inl h
  · exact Or.inr ⟨b, _, h1, h2, h3⟩
end Go.Proofs.YteafnkimcidkhaaGreat


namespace Go.Proofs.YteafnkimcidkhaaGreat
set_option linter.unusedVariables false
def withoutP (A : Ways) (L : Ln) (p q : Bool × Int × Int) : Bool × Int × Int := if ¬ A.ord q.2.1 q.2.2 = 0 then p else if A.ord q.2.1 p.2.1 = 0 then meetP A p (aboveP A L q.2.1) else if A.ord q.2.1 p.2.2 = 0 then meetP A p (belowP A L q.2.1) else p
def bothP (r s : Bool × Int × Int) : (Bool × Int × Int) × (Bool × Int × Int) := if r.1 || s.1 then ((true, 0, 0), (true, 0, 0)) else (r, s)
def ltP (A : Ways) (L : Ln) (p q : Bool × Int × Int) : (Bool × Int × Int) × (Bool × Int × Int) := bothP (meetP A p (belowP A L q.2.2)) (meetP A q (aboveP A L p.2.1))
def leP (A : Ways) (L : Ln) (p q : Bool × Int × Int) : (Bool × Int × Int) × (Bool × Int × Int) := bothP (meetP A p (false, L.least, q.2.2)) (meetP A q (false, p.2.1, L.most))
def refineP (A : Ways) (L : Ln) (op : Int) (p q : Bool × Int × Int) : (Bool × Int × Int) × (Bool × Int × Int) :=
  if op = 12 then ltP A L p q else if op = 13 then leP A L p q else if op = 14 then bothP (ltP A L q p).2 (ltP A L q p).1 else if op = 15 then bothP (leP A L q p).2 (leP A L q p).1
  else if op = 16 then bothP (meetP A p q) (meetP A q p) else if op = 17 then bothP (withoutP A L p q) (withoutP A L q p) else (p, q)
end Go.Proofs.YteafnkimcidkhaaGreat

namespace Go.Proofs.YteafnkimcidkhaaGreat
set_option linter.unusedVariables false
set_option linter.unusedSimpArgs false
theorem below_mk {s : Bool} {d : Int} (h1 : -(fI s - 1) < d) (h2 : d < fI s) : belowP (WyF s) (LF s) (mk s d) = (false, mk s (-(fI s - 1)), mk s (d - 1)) := by
  have t := fI_two s
  unfold belowP
  rw [LF_least, ord_mk (by omega) (by omega) (by omega) (by omega), if_neg (by rw [ordI_le]; omega), show (WyF s).prv (mk s d) = prevF s (mk s d) from rfl, prev_mk h1 h2]
theorem above_mk {s : Bool} {d : Int} (h1 : -fI s < d) (h2 : d < fI s - 1) : aboveP (WyF s) (LF s) (mk s d) = (false, mk s (d + 1), mk s (fI s - 1)) := by
  have t := fI_two s
  unfold aboveP
  rw [LF_most, ord_mk (by omega) (by omega) (by omega) (by omega), if_neg (by unfold WyI; simp only; rw [ge_cmp]; omega), show (WyF s).nxt (mk s d) = nextF s (mk s d) from rfl, next_mk h1 h2]
def Kept (s : Bool) (P : Bool × Int × Int) (a b n : Int) : Prop := ∃ l h, P = (false, mk s l, mk s h) ∧ a ≤ l ∧ l ≤ n ∧ n ≤ h ∧ h ≤ b
theorem both_ok {s : Bool} {P Q : Bool × Int × Int} {a b n c d m : Int} (h1 : Kept s P a b n) (h2 : Kept s Q c d m) : bothP P Q = (P, Q) := by
  obtain ⟨l, h, rfl, _⟩ := h1
  obtain ⟨l', h', rfl, _⟩ := h2
  rfl
theorem meet_kept {s : Bool} {a b n l h : Int} (a1 : -fI s < a) (b2 : b < fI s) (an : a ≤ n) (nb : n ≤ b) (l1 : -fI s < l) (h2 : h < fI s) (ln : l ≤ n) (nh : n ≤ h) : Kept s (meetP (WyF s) (false, mk s a, mk s b) (false, mk s l, mk s h)) a b n := by
  refine ⟨max a l, min b h, ?_, by omega, by omega, by omega, by omega⟩
  rw [meetF (by omega) (by omega) (by omega) (by omega) (by omega) (by omega) (by omega) (by omega), if_neg (by omega)]
theorem lt_kept {s : Bool} {a b c d n m : Int} (a1 : -fI s < a) (b2 : b < fI s) (an : a ≤ n) (nb : n ≤ b) (c1 : -fI s < c) (d2 : d < fI s) (cm : c ≤ m) (md : m ≤ d) (h : n < m) : Kept s (ltP (WyF s) (LF s) (false, mk s a, mk s b) (false, mk s c, mk s d)).1 a b n ∧ Kept s (ltP (WyF s) (LF s) (false, mk s a, mk s b) (false, mk s c, mk s d)).2 c d m := by
  have t := fI_two s
  have k1 : Kept s (meetP (WyF s) (false, mk s a, mk s b) (belowP (WyF s) (LF s) (mk s d))) a b n := by
    rw [below_mk (by omega) d2]
    exact meet_kept a1 b2 an nb (by omega) (by omega) (by omega) (by omega)
  have k2 : Kept s (meetP (WyF s) (false, mk s c, mk s d) (aboveP (WyF s) (LF s) (mk s a))) c d m := by
    rw [above_mk a1 (by omega)]
    exact meet_kept c1 d2 cm md (by omega) (by omega) (by omega) (by omega)
  unfold ltP
  dsimp only
  rw [both_ok k1 k2]
  exact ⟨k1, k2⟩
theorem le_kept {s : Bool} {a b c d n m : Int} (a1 : -fI s < a) (b2 : b < fI s) (an : a ≤ n) (nb : n ≤ b) (c1 : -fI s < c) (d2 : d < fI s) (cm : c ≤ m) (md : m ≤ d) (h : n ≤ m) : Kept s (leP (WyF s) (LF s) (false, mk s a, mk s b) (false, mk s c, mk s d)).1 a b n ∧ Kept s (leP (WyF s) (LF s) (false, mk s a, mk s b) (false, mk s c, mk s d)).2 c d m := by
  have t := fI_two s
  have k1 : Kept s (meetP (WyF s) (false, mk s a, mk s b) (false, (LF s).least, mk s d)) a b n := by
    rw [LF_least]
    exact meet_kept a1 b2 an nb (by omega) d2 (by omega) (by omega)
  have k2 : Kept s (meetP (WyF s) (false, mk s c, mk s d) (false, mk s a, (LF s).most)) c d m := by
    rw [LF_most]
    exact meet_kept c1 d2 cm md a1 (by omega) (by omega) (by omega)
  unfold leP
  dsimp only
  rw [both_ok k1 k2]
  exact ⟨k1, k2⟩
theorem without_kept {s : Bool} {a b c d n m : Int} (a1 : -fI s < a) (b2 : b < fI s) (an : a ≤ n) (nb : n ≤ b) (c1 : -fI s < c) (d2 : d < fI s) (cm : c ≤ m) (md : m ≤ d) (h : n ≠ m) : Kept s (withoutP (WyF s) (LF s) (false, mk s a, mk s b) (false, mk s c, mk s d)) a b n := by
  have t := fI_two s
  have self : Kept s (false, mk s a, mk s b) a b n := ⟨a, b, rfl, Int.le_refl _, an, nb, Int.le_refl _⟩
  have oz : ∀ x y : Int, -fI s < x → x < fI s → -fI s < y → y < fI s → ((WyF s).ord (mk s x) (mk s y) = 0 ↔ x = y) := fun x y x1 x2 y1 y2 => by
    rw [ord_mk (by omega) (by omega) (by omega) (by omega)]
    unfold WyI cmpI
    simp only
    split
    · constructor <;> intro <;> omega
    · split
      · constructor <;> intro <;> omega
      · constructor <;> intro <;> omega
  unfold withoutP
  dsimp only
  by_cases q1 : c = d
  · rw [if_neg (by rw [oz c d c1 (by omega) (by omega) d2]; simpa using q1)]
    by_cases q2 : c = a
    · rw [if_pos ((oz c a c1 (by omega) a1 (by omega)).2 q2), above_mk c1 (by omega)]
      exact meet_kept a1 b2 an nb (by omega) (by omega) (by omega) (by omega)
    · rw [if_neg (mt (oz c a c1 (by omega) a1 (by omega)).1 q2)]
      by_cases q3 : c = b
      · rw [if_pos ((oz c b c1 (by omega) (by omega) b2).2 q3), below_mk (by omega) (by omega)]
        exact meet_kept a1 b2 an nb (by omega) (by omega) (by omega) (by omega)
      · rw [if_neg (mt (oz c b c1 (by omega) (by omega) b2).1 q3)]
        exact self
  · rw [if_pos (by rw [oz c d c1 (by omega) (by omega) d2]; exact q1)]
    exact self
def holdI (op n m : Int) : Prop := (op = 12 → n < m) ∧ (op = 13 → n ≤ m) ∧ (op = 14 → m < n) ∧ (op = 15 → m ≤ n) ∧ (op = 16 → n = m) ∧ (op = 17 → n ≠ m)
theorem keeps {s : Bool} {op a b c d n m : Int} (h12 : 12 ≤ op) (h17 : op ≤ 17) (a1 : -fI s < a) (b2 : b < fI s) (an : a ≤ n) (nb : n ≤ b) (c1 : -fI s < c) (d2 : d < fI s) (cm : c ≤ m) (md : m ≤ d) (h : holdI op n m) :
    Kept s (refineP (WyF s) (LF s) op (false, mk s a, mk s b) (false, mk s c, mk s d)).1 a b n ∧ Kept s (refineP (WyF s) (LF s) op (false, mk s a, mk s b) (false, mk s c, mk s d)).2 c d m := by
  obtain ⟨g1, g2, g3, g4, g5, g6⟩ := h
  rcases (show op = 12 ∨ op = 13 ∨ op = 14 ∨ op = 15 ∨ op = 16 ∨ op = 17 by omega) with rfl | rfl | rfl | rfl | rfl | rfl
  · exact lt_kept a1 b2 an nb c1 d2 cm md (g1 rfl)
  · exact le_kept a1 b2 an nb c1 d2 cm md (g2 rfl)
  · obtain ⟨k1, k2⟩ := lt_kept c1 d2 cm md a1 b2 an nb (g3 rfl)
    have e : refineP (WyF s) (LF s) 14 (false, mk s a, mk s b) (false, mk s c, mk s d) = bothP (ltP (WyF s) (LF s) (false, mk s c, mk s d) (false, mk s a, mk s b)).2 (ltP (WyF s) (LF s) (false, mk s c, mk s d) (false, mk s a, mk s b)).1 := rfl
    rw [e, both_ok k2 k1]
    exact ⟨k2, k1⟩
  · obtain ⟨k1, k2⟩ := le_kept c1 d2 cm md a1 b2 an nb (g4 rfl)
    have e : refineP (WyF s) (LF s) 15 (false, mk s a, mk s b) (false, mk s c, mk s d) = bothP (leP (WyF s) (LF s) (false, mk s c, mk s d) (false, mk s a, mk s b)).2 (leP (WyF s) (LF s) (false, mk s c, mk s d) (false, mk s a, mk s b)).1 := rfl
    rw [e, both_ok k2 k1]
    exact ⟨k2, k1⟩
  · have q := g5 rfl
    have k1 : Kept s (meetP (WyF s) (false, mk s a, mk s b) (false, mk s c, mk s d)) a b n := meet_kept a1 b2 an nb c1 d2 (by omega) (by omega)
    have k2 : Kept s (meetP (WyF s) (false, mk s c, mk s d) (false, mk s a, mk s b)) c d m := meet_kept c1 d2 cm md a1 b2 (by omega) (by omega)
    have e : refineP (WyF s) (LF s) 16 (false, mk s a, mk s b) (false, mk s c, mk s d) = bothP (meetP (WyF s) (false, mk s a, mk s b) (false, mk s c, mk s d)) (meetP (WyF s) (false, mk s c, mk s d) (false, mk s a, mk s b)) := rfl
    rw [e, both_ok k1 k2]
    exact ⟨k1, k2⟩
  · have k1 := without_kept (s := s) a1 b2 an nb c1 d2 cm md (g6 rfl)
    have k2 := without_kept (s := s) c1 d2 cm md a1 b2 an nb (Ne.symm (g6 rfl))
    have e : refineP (WyF s) (LF s) 17 (false, mk s a, mk s b) (false, mk s c, mk s d) = bothP (withoutP (WyF s) (LF s) (false, mk s a, mk s b) (false, mk s c, mk s d)) (withoutP (WyF s) (LF s) (false, mk s c, mk s d) (false, mk s a, mk s b)) := rfl
    rw [e, both_ok k1 k2]
    exact ⟨k1, k2⟩
end Go.Proofs.YteafnkimcidkhaaGreat


namespace Go.Proofs.YteafnkimcidkhaaGreat
open Go.RowKit
set_option linter.unusedVariables false
set_option linter.unusedSimpArgs false
theorem res_mk {s : Bool} {r : Int} (h1 : -fI s < r) (h2 : r < fI s) : Res s (mk s r) r := by
  obtain ⟨b, e, hb⟩ := mk_made s r
  have := made_res s b (if r < 0 then -r else r) (by split <;> omega) (by split <;> omega)
  rw [← e] at this
  have e2 : (if b then -(if r < 0 then -r else r) else (if r < 0 then -r else r)) = r := by
    by_cases c : r < 0
    · rw [hb.2 c, if_pos rfl, if_pos c]; omega
    · have : b = false := by cases b with | false => rfl | true => exact absurd (hb.1 rfl) c
      rw [this, if_neg (by simp), if_neg c]
  rw [e2] at this
  exact this
end Go.Proofs.YteafnkimcidkhaaGreat


namespace Go.Proofs.YteafnkimcidkhaaGreat
open Go.RowKit
set_option linter.unusedVariables false
set_option linter.unusedSimpArgs false
theorem abs_resR {s : Bool} {r : Int} (h1 : -fI s < r) (h2 : r < fI s) : Res s (absF s (mk s r)) (max r (-r)) := by
  obtain ⟨b, e, hb⟩ := mk_made s r
  have l := fI_lt s
  have z := (made s b (if r < 0 then -r else r) (by split <;> omega) (by split <;> omega)).2.2.1
  have n := num_made s b (if r < 0 then -r else r) (by split <;> omega) (by split <;> omega)
  unfold absF
  rw [e, n, if_neg (by decide), z]
  have m := made_res s false (if r < 0 then -r else r) (by split <;> omega) (by split <;> omega)
  have : (if r < 0 then -r else r) = max r (-r) := by split <;> omega
  rw [this] at m ⊢
  exact m
end Go.Proofs.YteafnkimcidkhaaGreat


namespace Go.Proofs.YteafnkimcidkhaaGreat
open Go.RowKit
set_option linter.unusedVariables false
set_option linter.unusedSimpArgs false
theorem cls_range (s : Bool) (a : Int) : 0 ≤ cls s a ∧ cls s a ≤ 5 := by
  unfold cls
  (repeat' split) <;> omega
end Go.Proofs.YteafnkimcidkhaaGreat


namespace Go.Proofs.YteafnkimcidkhaaGreat
open Go.RowKit
set_option linter.unusedVariables false
set_option linter.unusedSimpArgs false
theorem bk_fin (s b : Bool) (y : Nat) (h : (y : Int) < fI s) : (cls s (sgnd s b y) == 0 || cls s (sgnd s b y) == 5) = false ∧ (cls s (sgnd s b y) == 4) = false := by
  have l := fI_lt s
  refine ⟨num_made s b y (by omega) (by omega), ?_⟩
  rw [cls_made s b y (by omega) (by omega)]
  have n1 : ¬ fI s < (y : Int) := by omega
  have n2 : ¬ (y : Int) = fI s := by omega
  rw [if_neg n1, if_neg n2]
  split
  · rfl
  · split <;> rfl
theorem bk_inf (s b : Bool) : (cls s (sgnd s b (fI s)) == 0 || cls s (sgnd s b (fI s)) == 5) = false ∧ (cls s (sgnd s b (fI s)) == 4) = true ∧ sgn s (sgnd s b (fI s)) = b := by
  have l := fI_lt s
  have p : 0 ≤ fI s := by cases s <;> decide
  refine ⟨num_made s b _ p (by omega), ?_, (made s b _ p l).2.2.2⟩
  rw [cls_made s b _ p l, if_neg (by omega), if_pos rfl]
  rfl
theorem bk_cfin (s t b : Bool) (m : Int) (y : Nat) (h : (y : Int) < fI s) : cvtF s t m (sgnd s b y) = rnd t m b (whl s (sgnd s b y)).toNat (pwr s (sgnd s b y)) := by
  obtain ⟨a, c⟩ := bk_fin s b y h
  have d := self_sgn s b y h
  unfold cvtF
  rw [a, c, d]
  rfl
theorem bk_back (b : Bool) (m m' : Int) (y : Nat) (h : (y : Int) < fI true) : cvtF false true m' (cvtF true false m (sgnd true b y)) = sgnd true b y := by
  rw [bk_cfin true false b m y h]
  obtain ⟨x, q, hy, q1, q2, e1, e2⟩ := size_parts true b y h
  rw [e1, e2]
  have fi : fI true = 2139095040 := rfl
  have fi2 : fI false = 9218868437227405312 := rfl
  have fl : fL true = -149 := rfl
  have fl2 : fL false = -1074 := rfl
  have p1 : (2 : Nat) ^ fP true = 8388608 := rfl
  have p2 : (2 : Nat) ^ (fP true + 1) = 16777216 := rfl
  have p3 : (2 : Nat) ^ fP false = 4503599627370496 := rfl
  have p4 : (2 : Nat) ^ (fP false + 1) = 9007199254740992 := rfl
  by_cases q0 : q = 0
  · subst q0
    have x0 : x = 0 := by
      rcases q2 with c | c
      · exact c
      · rw [p1] at c; omega
    subst x0
    have y0 : y = 0 := by rw [hy, Nat.zero_mul]
    subst y0
    rw [rnd_zero]
    have t := bk_cfin false true b m' 0 (by rw [fi2]; decide)
    have wz : (whl false (sgnd false b 0)).toNat = 0 := by cases b <;> decide +kernel
    rw [Int.natCast_zero] at t
    rw [t, wz, rnd_zero]
    rfl
  · obtain ⟨l1, l2⟩ := blen_le q0
    have l3 := lt_blen q
    have l4 : blen q ≤ 24 := blen_le_of (by rw [p2] at q1; exact q1)
    obtain ⟨j, hj⟩ : ∃ j, j = 53 - blen q := ⟨_, rfl⟩
    have hx : x ≤ 255 := by
      have h' := h
      rw [hy, p1] at h'
      rw [fi] at h'
      omega
    obtain ⟨x', hx'⟩ : ∃ x', x' + j = 925 + x := ⟨925 + x - j, by omega⟩
    have b1 : 2 ^ 52 ≤ q * 2 ^ j := by
      have : 2 ^ (blen q - 1) * 2 ^ j ≤ q * 2 ^ j := Nat.mul_le_mul_right _ l1
      rw [← Nat.pow_add] at this
      exact Nat.le_trans (Nat.pow_le_pow_right (by decide) (by omega)) this
    have b2 : q * 2 ^ j < 2 ^ 53 := by
      have : q * 2 ^ j < 2 ^ blen q * 2 ^ j := Nat.mul_lt_mul_of_pos_right l3 (Nat.two_pow_pos _)
      rw [← Nat.pow_add] at this
      exact Nat.lt_of_lt_of_le this (Nat.pow_le_pow_right (by decide) (by omega))
    have b2' : q * 2 ^ j < 9007199254740992 := b2
    have b1' : 4503599627370496 ≤ q * 2 ^ j := b1
    have hk : ((x' * 2 ^ fP false + q * 2 ^ j : Nat) : Int) < fI false := by
      rw [p3, fi2]
      have : x' ≤ 1200 := by omega
      generalize q * 2 ^ j = Q at *
      omega
    have ex := mag_exact false m b x' (q * 2 ^ j) (by omega) (by rw [p4]; exact b2) (Or.inr (by rw [p3]; exact b1)) hk
    have sc := mag_scale false m b q0 j (-149 + (x : Int))
    rw [show -149 + (x : Int) - (j : Int) = fL false + (x' : Int) by rw [fl2]; omega, ex] at sc
    have e3 : rnd false m b q (fL true + (x : Int)) = sgnd false b ((x' * 2 ^ fP false + q * 2 ^ j : Nat) : Int) := by
      unfold rnd
      rw [if_neg q0, fl, ← sc]
    rw [e3, bk_cfin false true b m' _ hk]
    obtain ⟨x2, r, hz, r1, r2, f1, f2⟩ := size_parts false b _ hk
    rw [f1, f2]
    have uq : x2 = x' ∧ r = q * 2 ^ j := by
      rw [p3] at hz r2
      rw [p4] at r1
      generalize q * 2 ^ j = Q at *
      omega
    rw [uq.1, uq.2]
    have rs := rnd_scale true m' b q j (-149 + (x : Int))
    rw [show -149 + (x : Int) - (j : Int) = fL false + (x' : Int) by rw [fl2]; omega] at rs
    rw [rs]
    have ex2 := mag_exact true m' b x q q0 q1 q2 (by rw [← hy]; exact h)
    rw [fl] at ex2
    unfold rnd
    rw [if_neg q0, ex2, ← hy]
theorem bk_word (s t : Bool) (m a : Int) : Word (cvtF s t m a) := by
  unfold cvtF
  split
  · cases t <;> exact ⟨by decide, by decide⟩
  · split
    · have l := fI_lt t
      exact (made t _ (fI t) (by cases t <;> decide) l).1
    · obtain ⟨z, e, h0, h1⟩ := rnd_made t m (sgn s a) (whl s a).toNat (pwr s a)
      rw [e]
      have l := fI_lt t
      exact (made t _ z h0 (by omega)).1
end Go.Proofs.YteafnkimcidkhaaGreat


namespace Go.Proofs.YteafnkimcidkhaaGreat
set_option linter.unusedVariables false
set_option linter.unusedSimpArgs false
def cv (s t : Bool) (r : Int) : Int := rk t (vl s r) (fL s)
theorem cvt_res (s t : Bool) {r : Int} (h1 : -fI s < r) (h2 : r < fI s) : Res t (cvtF s t 0 (mk s r)) (cv s t r) := by
  obtain ⟨b, e, v, hb⟩ := mk_at s r
  have hz : ((r.natAbs : Nat) : Int) < fI s := by omega
  obtain ⟨i, pi, vi, _⟩ := parts_val s b r.natAbs hz
  rw [e, bk_cfin s t b 0 r.natAbs hz, pi]
  unfold cv
  rw [← v, vi]
  generalize (whl s (sgnd s b r.natAbs)).toNat = A
  have R := rnd_rk t b A (fL s + i)
  have S := rk_scale t (if b then -(A : Int) else A) i (fL s + i)
  rw [show fL s + (i : Int) - i = fL s by omega] at S
  rw [← S] at R
  rw [show sg b (A * 2 ^ i) = (if b then -(A : Int) else A) * 2 ^ i by unfold sg; cases b <;> simp [Int.neg_mul]]
  exact R
theorem cv_wide {r : Int} (h1 : -fI true < r) (h2 : r < fI true) : -fI false < cv true false r ∧ cv true false r < fI false := by
  have R := cvt_res true false h1 h2
  have lo := R.lo
  have hi := R.hi
  by_cases c : cv true false r = fI false ∨ cv true false r = -fI false
  · exfalso
    have i := R.inf
    have n := R.num
    rw [decide_eq_true c] at i
    obtain ⟨b, e, v, hb⟩ := mk_at true r
    have bk := bk_back b 0 0 r.natAbs (by omega)
    rw [← e] at bk
    have k := (res_mk (s := true) h1 h2).inf
    rw [decide_eq_false (by omega)] at k
    generalize cvtF true false 0 (mk true r) = X at *
    have u : cvtF false true 0 X = sgnd true (sgn false X) (fI true) := by
      unfold cvtF
      rw [n, i]
      rfl
    rw [u] at bk
    have j := (bk_inf true (sgn false X)).2.1
    rw [bk, k] at j
    cases j
  · omega
end Go.Proofs.YteafnkimcidkhaaGreat


namespace Go.Proofs.YteafnkimcidkhaaGreat
set_option linter.unusedVariables false
set_option linter.unusedSimpArgs false
theorem gap (s : Bool) (z : Nat) : val s (z + 1) * 2 ^ fP s ≤ val s z * 2 ^ fP s + val s z + 2 ^ fP s := by
  obtain ⟨x, q, e, h1, h2⟩ := val_parts s z
  have hp := Nat.two_pow_pos (fP s)
  have v1 : val s z = q * 2 ^ x := by rw [e]; exact val_at s x q (by omega) h2
  have v2 : val s (z + 1) = (q + 1) * 2 ^ x := by
    rw [e, Nat.add_assoc]
    exact val_at s x (q + 1) (by omega) (by omega)
  rw [v1, v2, Nat.add_mul, Nat.one_mul, Nat.add_mul]
  have : 2 ^ x * 2 ^ fP s ≤ q * 2 ^ x + 2 ^ fP s := by
    rcases h2 with h2 | h2
    · subst h2; omega
    · have := Nat.mul_le_mul_right (2 ^ x) h2
      rw [Nat.mul_comm]; omega
  omega
theorem mag_core (s : Bool) (m : Int) (b : Bool) {z : Nat} (z0 : z ≠ 0) : mag s m b (val s z) (fL s) = if fI s ≤ (z : Int) then great s m b else z := by
  obtain ⟨x, q, e, h1, h2⟩ := val_parts s z
  have hp := Nat.two_pow_pos (fP s)
  have v1 : val s z = q * 2 ^ x := by rw [e]; exact val_at s x q (by omega) h2
  have q0 : q ≠ 0 := by
    rintro rfl
    rcases h2 with h2 | h2
    · subst h2; omega
    · omega
  have sc := mag_scale s m b q0 x (fL s + x)
  rw [show fL s + (x : Int) - x = fL s by omega] at sc
  rw [v1, sc]
  have bl := blen_le_of h1
  have last : lastOf s q (fL s + x) = fL s + x := by
    unfold lastOf
    rcases h2 with h2 | h2
    · subst h2; omega
    · have := le_blen h2; omega
  unfold mag
  rw [last, show fL s + (x : Int) - (fL s + x) = 0 by omega]
  have e1 : quo q 0 = q := by unfold quo; simp
  have e2 : half q 0 = false := by unfold half; simp
  have e3 : low q 0 = false := by unfold low; simp
  rw [e1, e2, e3]
  have e4 : ∀ o, away m b o false false = false := fun o => by unfold away; simp
  unfold fin
  rw [e4]
  simp only [Bool.false_eq_true, if_false, Nat.add_zero]
  have e5 : (fL s + (x : Int) - fL s) * 2 ^ fP s + (q : Int) = z := by
    rw [show fL s + (x : Int) - fL s = x by omega, e]
    simp
  rw [e5]
theorem mag_val (s : Bool) (m : Int) (b : Bool) {z : Nat} (z0 : z ≠ 0) (h : (z : Int) < fI s) : mag s m b (val s z) (fL s) = z := by
  rw [mag_core s m b z0, if_neg (by omega)]
theorem near_err (s : Bool) {N z : Nat} (h0 : N ≠ 0) (h : mag s 0 false N (fL s) = z) (hz : (z : Int) < fI s) :
    val s z * 2 ^ fP s ≤ N * 2 ^ fP s + val s z + 2 ^ fP s ∧ N * 2 ^ fP s ≤ val s z * 2 ^ fP s + val s z + 2 ^ fP s := by
  have hp := Nat.two_pow_pos (fP s)
  constructor
  · by_cases c : z = 0
    · subst c; rw [val_zero]; omega
    · obtain ⟨y, rfl⟩ : ∃ y, z = y + 1 := ⟨z - 1, by omega⟩
      have lt : val s y < N := by
        by_cases k : val s y < N
        · exact k
        · exfalso
          have y0 : y ≠ 0 := by
            rintro rfl
            rw [val_zero] at k; omega
          have a := mag_mono s h0 (show N ≤ val s y by omega) (fL s)
          rw [h, mag_val s 0 false y0 (by omega)] at a
          omega
      have g := gap s y
      have l := Nat.mul_le_mul_right (2 ^ fP s) (Nat.le_of_lt lt)
      have m := val_le s (show y ≤ y + 1 by omega)
      omega
  · have lt : N < val s (z + 1) ∨ (z : Int) + 1 = fI s := by
      by_cases c : (z : Int) + 1 = fI s
      · exact Or.inr c
      · left
        by_cases k : N < val s (z + 1)
        · exact k
        · exfalso
          have v0 : val s (z + 1) ≠ 0 := by have := val_lt s (show 0 < z + 1 by omega); omega
          have a := mag_mono s v0 (show val s (z + 1) ≤ N by omega) (fL s)
          rw [h, mag_val s 0 false (by omega) (by omega)] at a
          omega
    have lt2 : N ≤ val s (z + 1) := by
      rcases lt with lt | lt
      · omega
      · by_cases k : N ≤ val s (z + 1)
        · exact k
        · exfalso
          have v0 : val s (z + 1) ≠ 0 := by have := val_lt s (show 0 < z + 1 by omega); omega
          have a := mag_mono s v0 (show val s (z + 1) ≤ N by omega) (fL s)
          rw [h] at a
          have inf : mag s 0 false (val s (z + 1)) (fL s) = fI s := by
            rw [mag_core s 0 false (by omega), if_pos (by omega)]
            rfl
          rw [inf] at a
          omega
    have g := gap s z
    have l := Nat.mul_le_mul_right (2 ^ fP s) lt2
    omega
theorem rk_err (s : Bool) {n : Int} (h1 : -fI s < rk s n (fL s)) (h2 : rk s n (fL s) < fI s) :
    vl s (rk s n (fL s)) * (2 ^ fP s : Nat) ≤ n * (2 ^ fP s : Nat) + (vl s (rk s n (fL s))).natAbs + (2 ^ fP s : Nat) ∧ n * (2 ^ fP s : Nat) ≤ vl s (rk s n (fL s)) * (2 ^ fP s : Nat) + (vl s (rk s n (fL s))).natAbs + (2 ^ fP s : Nat) := by
  have hp := Nat.two_pow_pos (fP s)
  have i0 := fI_pos s
  by_cases c0 : n = 0
  · subst c0
    have : rk s 0 (fL s) = 0 := by simp [rk, mgF]
    rw [this]
    have : vl s 0 = 0 := by unfold vl; simp [val_zero]
    rw [this]
    have hP : (0 : Int) ≤ ((2 ^ fP s : Nat) : Int) := Int.natCast_nonneg _
    constructor <;> rw [Int.zero_mul] <;> omega
  · have mg0 : mgF s n.natAbs (fL s) = mag s 0 false n.natAbs (fL s) := by unfold mgF; rw [if_neg (by omega)]
    have bd := mgF_bd s n.natAbs (fL s)
    obtain ⟨z, hz⟩ : ∃ z : Nat, mgF s n.natAbs (fL s) = z := ⟨(mgF s n.natAbs (fL s)).toNat, by omega⟩
    have zl : (z : Int) < fI s := by
      unfold rk at h1 h2
      rw [hz] at h1 h2
      split at h1 <;> omega
    have er := near_err s (show n.natAbs ≠ 0 by omega) (by rw [← mg0, hz]) zl
    generalize 2 ^ fP s = P at *
    by_cases cn : n < 0
    · have r : rk s n (fL s) = -(z : Int) := by unfold rk; rw [if_pos cn, hz]
      have v : vl s (-(z : Int)) = -(val s z : Int) := by
        unfold vl
        by_cases z0 : z = 0
        · subst z0; simp [val_zero]
        · rw [if_pos (by omega)]; simp
      rw [r, v]
      obtain ⟨k, hk⟩ : ∃ k : Nat, n = -(k : Int) := ⟨n.natAbs, by omega⟩
      subst hk
      simp only [Int.natAbs_neg, Int.natAbs_natCast] at er ⊢
      obtain ⟨e1, e2⟩ := er
      have e1' : (val s z : Int) * P ≤ k * P + val s z + P := by exact_mod_cast e1
      have e2' : (k : Int) * P ≤ val s z * P + val s z + P := by exact_mod_cast e2
      rw [Int.neg_mul, Int.neg_mul]
      omega
    · have r : rk s n (fL s) = (z : Int) := by unfold rk; rw [if_neg cn, hz]
      have v : vl s (z : Int) = (val s z : Int) := by unfold vl; rw [if_neg (by omega)]; simp
      rw [r, v]
      obtain ⟨k, hk⟩ : ∃ k : Nat, n = (k : Int) := ⟨n.natAbs, by omega⟩
      subst hk
      simp only [Int.natAbs_natCast] at er ⊢
      obtain ⟨e1, e2⟩ := er
      have e1' : (val s z : Int) * P ≤ k * P + val s z + P := by exact_mod_cast e1
      have e2' : (k : Int) * P ≤ val s z * P + val s z + P := by exact_mod_cast e2
      omega
theorem rkM_vl (s : Bool) (m : Int) {r : Int} (h1 : -fI s < r) (h2 : r < fI s) : rkM s m (vl s r) (fL s) = r := by
  by_cases c : r < 0
  · have v : vl s r = -(val s r.natAbs : Int) := by unfold vl; rw [if_pos c]
    have p := val_pos s (show r.natAbs ≠ 0 by omega)
    unfold rkM mgM
    rw [v, if_pos (by omega), Int.natAbs_neg, Int.natAbs_natCast, if_neg (by omega), mag_val s m true (by omega) (by omega)]
    omega
  · have v : vl s r = (val s r.natAbs : Int) := by unfold vl; rw [if_neg c]
    by_cases z : r = 0
    · subst z
      unfold rkM mgM
      rw [v]
      simp [val_zero]
    · have p := val_pos s (show r.natAbs ≠ 0 by omega)
      unfold rkM mgM
      rw [v, if_neg (by omega), Int.natAbs_natCast, if_neg (by omega), mag_val s m false (by omega) (by omega)]
      omega
theorem up_ge (s : Bool) {n : Int} (h : rkM s 1 n (fL s) < fI s) : n ≤ vl s (rkM s 1 n (fL s)) := by
  by_cases c : n < 0
  · obtain ⟨z, a, b, d⟩ := mag_down s 1 true (fun o h l => by cases o <;> cases h <;> cases l <;> rfl) (show n.natAbs ≠ 0 by omega) (fL s) (fL s) (Int.le_refl _) (Int.le_refl _)
    rw [show fL s - fL s = 0 by omega] at d
    have r : rkM s 1 n (fL s) = -(z : Int) := by unfold rkM mgM; rw [if_pos c, if_neg (by omega), a]
    have v : vl s (-(z : Int)) = -(val s z : Int) := by
      unfold vl
      by_cases z0 : z = 0
      · subst z0; simp [val_zero]
      · rw [if_pos (by omega)]; simp
    rw [r, v]
    simp at d
    omega
  · by_cases z0 : n = 0
    · subst z0
      have : rkM s 1 0 (fL s) = 0 := by simp [rkM, mgM]
      rw [this]
      simp [vl, val_zero]
    · obtain ⟨z, a, b, d⟩ := mag_up s 1 false (fun o h l => by cases o <;> cases h <;> cases l <;> rfl) (show n.natAbs ≠ 0 by omega) (fL s) (fL s) (Int.le_refl _) (Int.le_refl _)
      rw [show fL s - fL s = 0 by omega] at d
      have r : rkM s 1 n (fL s) = (z : Int) := by unfold rkM mgM; rw [if_neg c, if_neg (by omega), a]
      rw [r] at h ⊢
      have v : vl s (z : Int) = (val s z : Int) := by unfold vl; rw [if_neg (by omega)]; simp
      rw [v]
      simp at d
      omega
theorem down_le (s : Bool) {n : Int} (h : -fI s < rkM s 2 n (fL s)) : vl s (rkM s 2 n (fL s)) ≤ n := by
  by_cases c : n < 0
  · obtain ⟨z, a, b, d⟩ := mag_up s 2 true (fun o h l => by cases o <;> cases h <;> cases l <;> rfl) (show n.natAbs ≠ 0 by omega) (fL s) (fL s) (Int.le_refl _) (Int.le_refl _)
    rw [show fL s - fL s = 0 by omega] at d
    have r : rkM s 2 n (fL s) = -(z : Int) := by unfold rkM mgM; rw [if_pos c, if_neg (by omega), a]
    rw [r] at h ⊢
    have v : vl s (-(z : Int)) = -(val s z : Int) := by
      unfold vl
      by_cases z0 : z = 0
      · subst z0; simp [val_zero]
      · rw [if_pos (by omega)]; simp
    rw [v]
    simp at d
    omega
  · by_cases z0 : n = 0
    · subst z0
      have : rkM s 2 0 (fL s) = 0 := by simp [rkM, mgM]
      rw [this]
      simp [vl, val_zero]
    · obtain ⟨z, a, b, d⟩ := mag_down s 2 false (fun o h l => by cases o <;> cases h <;> cases l <;> rfl) (show n.natAbs ≠ 0 by omega) (fL s) (fL s) (Int.le_refl _) (Int.le_refl _)
      rw [show fL s - fL s = 0 by omega] at d
      have r : rkM s 2 n (fL s) = (z : Int) := by unfold rkM mgM; rw [if_neg c, if_neg (by omega), a]
      have v : vl s (z : Int) = (val s z : Int) := by unfold vl; rw [if_neg (by omega)]; simp
      rw [r, v]
      simp at d
      omega
theorem rep_val (s : Bool) (q y : Nat) (h : q < 2 ^ (fP s + 1)) : ∃ z, val s z = q * 2 ^ y := by
  by_cases q0 : q = 0
  · exact ⟨0, by rw [val_zero, q0, Nat.zero_mul]⟩
  · obtain ⟨l1, l2⟩ := blen_le q0
    have l3 := lt_blen q
    have l4 := blen_le_of h
    by_cases c : y ≤ fP s + 1 - blen q
    · refine ⟨q * 2 ^ y, ?_⟩
      have b : q * 2 ^ y ≤ 2 ^ (fP s + 1) := by
        have h1 : q * 2 ^ y ≤ 2 ^ blen q * 2 ^ y := Nat.mul_le_mul_right _ (Nat.le_of_lt l3)
        rw [← Nat.pow_add] at h1
        exact Nat.le_trans h1 (Nat.pow_le_pow_right (by decide) (by omega))
      have := val_at s 0 (q * 2 ^ y) b (Or.inl rfl)
      simpa using this
    · obtain ⟨t, ht⟩ : ∃ t, y = t + (fP s + 1 - blen q) := ⟨y - (fP s + 1 - blen q), by omega⟩
      refine ⟨t * 2 ^ fP s + q * 2 ^ (fP s + 1 - blen q), ?_⟩
      have b1 : q * 2 ^ (fP s + 1 - blen q) ≤ 2 ^ (fP s + 1) := by
        have h1 : q * 2 ^ (fP s + 1 - blen q) ≤ 2 ^ blen q * 2 ^ (fP s + 1 - blen q) := Nat.mul_le_mul_right _ (Nat.le_of_lt l3)
        rw [← Nat.pow_add, show blen q + (fP s + 1 - blen q) = fP s + 1 by omega] at h1
        exact h1
      have b2 : 2 ^ fP s ≤ q * 2 ^ (fP s + 1 - blen q) := by
        have h1 : 2 ^ (blen q - 1) * 2 ^ (fP s + 1 - blen q) ≤ q * 2 ^ (fP s + 1 - blen q) := Nat.mul_le_mul_right _ l1
        rw [← Nat.pow_add, show blen q - 1 + (fP s + 1 - blen q) = fP s by omega] at h1
        exact h1
      rw [val_at s t _ b1 (Or.inr b2), ht, Nat.mul_assoc, ← Nat.pow_add, Nat.add_comm]
end Go.Proofs.YteafnkimcidkhaaGreat


namespace Go.Proofs.YteafnkimcidkhaaGreat
open Go.RowKit
set_option linter.unusedVariables false
set_option linter.unusedSimpArgs false
set_option maxRecDepth 100000 in
set_option maxHeartbeats 6400000 in
theorem lieval_no (wa ae : Bool) (al ah : Int) (va : Value) (hva : ∃ o n c, va = .slice o n c) (vl : Value) (ok : World → Prop) (hok : ∀ W V, ok W → Below W.heap.size W V → ok V) (kb : ∀ V, ok V → Calls Tryz.prog 73 #[.agg #[.bool wa, .bool ae, .int .u64 al, .int .u64 ah, va]] V fun e w' => e = .returned (.bool false) ∧ Below V.heap.size V w') (w : World) (h0 : ok w) :
    Calls Tryz.prog 35 #[.agg #[.bool wa, .bool ae, .int .u64 al, .int .u64 ah, va], vl] w fun e w' => e = .returned (.tuple #[.agg #[.bool false, .int .u64 0, .int .u64 0], .bool false]) ∧ Below w.heap.size w w' := by
  obtain ⟨pa, na, ca, rfl⟩ := hva
  go_enter Tryz.func35, Tryz.ntmps35
  go_upto_region 1 with fail
  obtain ⟨W, hW⟩ : ∃ W, ((w.alloc (.cells #[.bool wa, .bool ae, .int .u64 al, .int .u64 ah, .slice pa na ca] 31)).alloc (.cells #[.bool false, .int .u64 0, .int .u64 0] 24)) = W := ⟨_, rfl⟩
  have a0 : W.cell? ⟨w.heap.size, 0, none⟩ = some (.bool wa) := by rw [← hW]; simp [go_sem]
  have a1 : W.cell? ⟨w.heap.size, 1, none⟩ = some (.bool ae) := by rw [← hW]; simp [go_sem]
  have a2 : W.cell? ⟨w.heap.size, 2, none⟩ = some (.int .u64 al) := by rw [← hW]; simp [go_sem]
  have a3 : W.cell? ⟨w.heap.size, 3, none⟩ = some (.int .u64 ah) := by rw [← hW]; simp [go_sem]
  have a4 : W.cell? ⟨w.heap.size, 4, none⟩ = some (.slice pa na ca) := by rw [← hW]; simp [go_sem]
  have r0 : W.cell? ⟨w.heap.size + 1, 0, none⟩ = some (.bool false) := by rw [← hW]; simp [go_sem]
  have r1 : W.cell? ⟨w.heap.size + 1, 1, none⟩ = some (.int .u64 0) := by rw [← hW]; simp [go_sem]
  have r2 : W.cell? ⟨w.heap.size + 1, 2, none⟩ = some (.int .u64 0) := by rw [← hW]; simp [go_sem]
  have bW : Below w.heap.size w W := by rw [← hW]; exact (sp_new (sp_new (Below.refl _ _) _) _)
  have zW : W.heap.size = w.heap.size + 2 := by rw [← hW]; simp
  have fz : ∀ j, W.frozen? ⟨w.heap.size + 1, j, none⟩ = false := by intro j; rw [← hW]; simp [go_sem]
  rw [hW]
  clear hW
  replace zW := Nat.le_of_eq zW.symm
  have oW := hok _ _ h0 bW
  go_wp2_with (first
    | (go_at_call 73; (with_reducible refine (kb _ oW).mono ?_); rintro e v1 ⟨rfl, g⟩; replace fz : ∀ j, v1.frozen? ⟨w.heap.size + 1, j, none⟩ = false := fun j => (g.frozen (p := ⟨w.heap.size + 1, j, none⟩) (by first | (simp; done) | (simp; omega))).trans (fz j); replace bW := sp_call bW g; replace zW := Nat.le_trans zW g.size; replace a0 := sO g a0; replace a1 := sO g a1; replace a2 := sO g a2; replace a3 := sO g a3; replace a4 := sO g a4; replace r0 := sO g r0; replace r1 := sO g r1; replace r2 := sO g r2; clear g)
    | fail)
  exact bodyPost_ret (v := .tuple #[.agg #[.bool false, .int .u64 0, .int .u64 0], .bool false]) (by simp [results, Tryz.results35, go_sem, r0, r1, r2]) rfl ⟨rfl, (by (repeat (first | with_reducible assumption | with_reducible refine li_set1 ?_ (by omega) _ | with_reducible refine sp_new ?_ _)))⟩
end Go.Proofs.YteafnkimcidkhaaGreat

namespace Go.Proofs.YteafnkimcidkhaaGreat
open Go.RowKit Go.Shelf
set_option linter.unusedVariables false
set_option linter.unusedSimpArgs false
theorem frB_wh : frB whF = false := by simp [frB, whF]
theorem recP_wh1 (BY : Bool × Int × Int → Bool × Int × Int → (Bool × Int × Int) × Bool) (B : Frm) : recP BY whF B = whF := by rw [recP, if_neg]; rw [frB_wh]; simp
theorem recP_wh2 (BY : Bool × Int × Int → Bool × Int × Int → (Bool × Int × Int) × Bool) (A : Frm) : recP BY A whF = whF := by rw [recP, if_neg]; rw [frB_wh]; simp
end Go.Proofs.YteafnkimcidkhaaGreat


namespace Go.Proofs.YteafnkimcidkhaaGreat
open Go.RowKit
set_option linter.unusedVariables false
set_option linter.unusedSimpArgs false
set_option maxRecDepth 100000 in
theorem tixT (b o m c j : Nat) (hj : j < m) (w : World) : (Instr.indexAt 29 (.slice (some ⟨b, o, none⟩) m c) (.int .i64 j)).run Tryz.prog w = .ok (.pointer (some ⟨b, o + j * 4, none⟩)) w := by
  have e2 : ∀ w, (sizeOf (Tryz.prog.elem 29)).run Tryz.prog w = .ok 4 w := fun w => by kernel_rfl
  rw [run_indexAt_slice (h := by first | exact Tryz.underlying29 | rfl), if_pos ⟨by omega, by omega⟩, e2]
  simp [go_sem]
structure RefI (w : World) (p : Nat) (x0 x1 : Bool) (x2 x3 : Int) (ls : List (Int × Bool × Int × Int)) (va : Value) (j : Nat) (v : Value) (V : World) : Prop where
  a4 : V.cell? ⟨p, 4, none⟩ = some va
  q : V.heap[p + 1 + 1]? = some (.cells #[.bool x0, .bool x1, .int .u64 x2, .int .u64 x3, v] 38 (0, 0))
  r : V.heap[p + 1]? = some (.cells #[.bool false, .bool false, .int .u64 0, .int .u64 0, .slice none 0 0] 38 (0, 0))
  own : V.ownsRow (p + 3) 100 4 v j (tcs (ls.take j))
  bel : Below w.heap.size w V
  siz : p + 3 ≤ V.heap.size
theorem RefI.on {w : World} {p : Nat} {x0 x1 : Bool} {x2 x3 : Int} {ls : List (Int × Bool × Int × Int)} {va : Value} {j : Nat} {v : Value} {V V' : World} (h : RefI w p x0 x1 x2 x3 ls va j v V) (g : Below V.heap.size V V') : RefI w p x0 x1 x2 x3 ls va j v V' :=
  ⟨sO g h.a4, carryF g h.q, carryF g h.r, lo_on g h.own, sp_call h.bel g, Nat.le_trans h.siz g.size⟩
end Go.Proofs.YteafnkimcidkhaaGreat


namespace Go.Proofs.YteafnkimcidkhaaGreat
open Go.RowKit
set_option linter.unusedVariables false
set_option linter.unusedSimpArgs false
def rg (rs : List (Bool × Int × Int)) (q : Int) : Bool × Int × Int := rs.getD q.toNat (false, 0, 0)
def arP (rs : List (Bool × Int × Int)) (t : Int × Bool × Int × Int) : Bool := decide (t.1 < (rs.length : Int)) && liR (rg rs t.1)
def seP (rs : List (Bool × Int × Int)) (t : Int × Bool × Int × Int) : Bool := (rg rs t.1).1
set_option maxRecDepth 100000 in
theorem tixF (b o m c j : Nat) (hj : j < m) (w : World) : (Instr.indexAt 51 (.slice (some ⟨b, o, none⟩) m c) (.int .i64 j)).run Tryz.prog w = .ok (.pointer (some ⟨b, o + j * 3, none⟩)) w := by
  have e2 : ∀ w, (sizeOf (Tryz.prog.elem 51)).run Tryz.prog w = .ok 3 w := fun w => by kernel_rfl
  rw [run_indexAt_slice (h := by first | exact Tryz.underlying51 | rfl), if_pos ⟨by omega, by omega⟩, e2]
  simp [go_sem]
theorem TAt.get {W : World} {pa : Option Addr} {n ca : Nat} {ls : List (Int × Bool × Int × Int)} (h : TAt W (.slice pa n ca) ls) {j : Nat} {t : Int × Bool × Int × Int} (hj : ls[j]? = some t) : ∃ b o : Nat, pa = some ⟨b, o, none⟩ ∧ (W.cell? ⟨b, o + j * 4, none⟩ = some (.int .i64 t.1) ∧ W.cell? ⟨b, o + j * 4 + 1, none⟩ = some (.bool t.2.1) ∧ W.cell? ⟨b, o + j * 4 + 2, none⟩ = some (.int .u64 t.2.2.1) ∧ W.cell? ⟨b, o + j * 4 + 3, none⟩ = some (.int .u64 t.2.2.2)) := by
  rcases h with ⟨_, h⟩ | ⟨b, o, cap, h1, h2, h3⟩
  · rw [h] at hj; simp at hj
  · cases h1
    exact ⟨b, o, rfl, h3 j t hj⟩
theorem RAt.get {W : World} {pa : Option Addr} {n ca : Nat} {rs : List (Bool × Int × Int)} (h : RAt W (.slice pa n ca) rs) {q : Int} (h0 : 0 ≤ q) (hq : q < (rs.length : Int)) : ∃ b o : Nat, pa = some ⟨b, o, none⟩ ∧ W.cell? ⟨b, o + q.toNat * 3, none⟩ = some (.bool (rg rs q).1) ∧ W.cell? ⟨b, o + q.toNat * 3 + 1, none⟩ = some (.int .u64 (rg rs q).2.1) ∧ W.cell? ⟨b, o + q.toNat * 3 + 2, none⟩ = some (.int .u64 (rg rs q).2.2) := by
  have hj : rs[q.toNat]? = some (rg rs q) := by
    rw [List.getElem?_eq_getElem (show q.toNat < rs.length by omega)]
    simp [rg, List.getD, List.getElem?_eq_getElem (show q.toNat < rs.length by omega)]
  rcases h with ⟨_, h⟩ | ⟨b, o, cap, h1, h2, h3⟩
  · rw [h] at hj; simp at hj
  · cases h1
    exact ⟨b, o, rfl, h3 _ _ hj⟩
theorem rg_wd {rs : List (Bool × Int × Int)} (hw : ∀ r ∈ rs, wdR r) (q : Int) : wdR (rg rs q) := by
  unfold rg
  by_cases h : q.toNat < rs.length
  · have : rs.getD q.toNat (false, 0, 0) = rs[q.toNat] := by simp [List.getD, List.getElem?_eq_getElem h]
    rw [this]
    exact hw _ (List.getElem_mem h)
  · have : rs.getD q.toNat (false, 0, 0) = (false, 0, 0) := by simp [List.getD, List.getElem?_eq_none (show rs.length ≤ q.toNat by omega)]
    rw [this]
    exact wd0
theorem all_step {α : Type} {f : α → Bool} {l : List α} {j : Nat} {t : α} (h : l[j]? = some t) : (l.drop j).all f = (f t && (l.drop (j + 1)).all f) := by
  have hj := (List.getElem?_eq_some_iff.1 h)
  rw [List.drop_eq_getElem_cons hj.1, hj.2]
  rfl
theorem any_step {α : Type} {f : α → Bool} {l : List α} {j : Nat} {t : α} (h : l[j]? = some t) : (l.drop j).any f = (f t || (l.drop (j + 1)).any f) := by
  have hj := (List.getElem?_eq_some_iff.1 h)
  rw [List.drop_eq_getElem_cons hj.1, hj.2]
  rfl
set_option maxRecDepth 100000 in
set_option maxHeartbeats 6400000 in
theorem allright_any (ls : List (Int × Bool × Int × Int)) (rs : List (Bool × Int × Int)) (hl : ls.length ≤ 400) (hn : ∀ t ∈ ls, 0 ≤ t.1) (hw : ∀ r ∈ rs, wdR r) (va vr : Value) (w : World) (ta : TAt w va ls) (tr : RAt w vr rs) :
    Calls Tryz.prog 74 #[va, vr] w fun e w' => e = .returned (.bool (ls.all (arP rs))) ∧ Below w.heap.size w w' := by
  obtain ⟨pa, ca, rfl⟩ := ta.len
  obtain ⟨pr, cr, rfl⟩ := tr.len
  obtain ⟨len, hlen⟩ : ∃ n, ls.length = n := ⟨_, rfl⟩
  obtain ⟨m, hm⟩ : ∃ n, rs.length = n := ⟨_, rfl⟩
  have ta' : Hid (TAt w (.slice pa len ca) ls) := by rw [← hlen]; exact ta
  have tr' : Hid (RAt w (.slice pr m cr) rs) := by rw [← hm]; exact tr
  have hlen' : Hid (ls.length = len) := hlen
  have hm' : Hid (rs.length = m) := hm
  rw [hlen, hm]
  have l4 : len ≤ 400 := by omega
  clear ta tr hlen hm hl
  go_enter Tryz.func74, Tryz.ntmps74
  go_wp2_with fail
  go_loopw [9] (fun i wr => ∃ (V : World) (j : Nat), V = wr ∧ j ≤ len ∧ i = .int .i64 j ∧ Below w.heap.size w wr ∧ (ls.all (arP rs) = (ls.drop j).all (arP rs))) (fun i _ => len - (intOf i).toNat)
  case atStart => exact ⟨_, 0, rfl, by omega, rfl, Below.refl _ _, rfl⟩
  case round =>
    obtain ⟨V, j, rfl, hj, rfl, bV, heq⟩ := hrel
    by_cases cj : j < len
    case neg =>
      have ej : j = len := by omega
      subst ej
      have fin : Hid (ls.all (arP rs) = true) := (show ls.all (arP rs) = true by rw [heq, List.drop_of_length_le (by rw [hlen'.out]; exact Nat.le_refl _)]; rfl)
      clear heq
      go_wp2_with fail
      go_ret
      exact ⟨by rw [fin.out]; rfl, bV⟩
    case pos =>
      have cj' : (j : Int) < (len : Int) := by omega
      have wj : IntKind.i64.wrap ((j : Int) + 1) = ((j + 1 : Nat) : Int) := by rw [IntKind.wrap_i64]; omega
      obtain ⟨t, ht⟩ : ∃ t, ls[j]? = some t := ⟨_, List.getElem?_eq_getElem (by rw [hlen'.out]; exact cj)⟩
      have st := all_step (f := arP rs) ht
      rw [← heq] at st
      have n0 := hn t (List.mem_of_getElem? ht)
      obtain ⟨b, o, rfl, y0, y1, y2, y3⟩ := (ta'.out.on bV).get ht
      have ix := tixT b o len ca j cj
      have wr := rg_wd hw t.1
      have trV := tr'.out.on bV
      clear ht heq
      obtain ⟨t0, t1, t2, t3⟩ := t
      dsimp only at *
      by_cases c1 : t0 < (m : Int)
      case neg =>
        have c1' : (m : Int) ≤ t0 := by omega
        have ff : Hid (ls.all (arP rs) = false) := (show ls.all (arP rs) = false by rw [st]; simp [arP, hm'.out, c1])
        clear st
        go_wp2_with fail
        go_ret
        exact ⟨by rw [ff.out]; rfl, sp_call bV (sp_new (Below.refl _ _) _)⟩
      case pos =>
        have c1' : ¬ (m : Int) ≤ t0 := by omega
        obtain ⟨br, ro, rfl, r0, r1, r2⟩ := trV.get n0 (by rw [hm'.out]; exact c1)
        obtain ⟨k, rfl⟩ : ∃ k : Nat, t0 = (k : Int) := ⟨t0.toNat, by omega⟩
        simp only [Int.toNat_natCast] at r0 r1 r2
        have ix2 := tixF br ro m cr k (by omega)
        have kr := isrange_any (rg rs (k : Int)) wr
        have av : arP rs ((k : Int), t1, t2, t3) = liR (rg rs (k : Int)) := by simp [arP, hm'.out]; omega
        rw [av] at st
        cases hR : liR (rg rs (k : Int))
        case false =>
          rw [hR] at kr st
          have ff : Hid (ls.all (arP rs) = false) := (show ls.all (arP rs) = false by rw [st]; rfl)
          clear st av trV
          go_upto_region 4 with fail
          have gZ := sp_new (Below.refl _ V) (.cells #[.int .i64 (k : Int), .bool t1, .int .u64 t2, .int .u64 t3] 99)
          have bZ := sp_call bV gZ
          have z0 : (V.alloc (.cells #[.int .i64 (k : Int), .bool t1, .int .u64 t2, .int .u64 t3] 99)).cell? ⟨V.heap.size, 0, none⟩ = some (.int .i64 (k : Int)) := by simp [go_sem]
          replace r0 := sO gZ r0; replace r1 := sO gZ r1; replace r2 := sO gZ r2
          generalize V.alloc (.cells #[.int .i64 (k : Int), .bool t1, .int .u64 t2, .int .u64 t3] 99) = Z at *
          clear gZ
          go_wp2_with (first | (go_at_call 77; refine (kr _).mono ?_; rintro e v1 ⟨rfl, g⟩; replace bZ := sp_call bZ g; clear g kr) | fail)
          go_ret
          exact ⟨by rw [ff.out]; rfl, bZ⟩
        case true =>
          rw [hR] at kr st
          have nx : Hid (ls.all (arP rs) = (ls.drop (j + 1)).all (arP rs)) := (show ls.all (arP rs) = (ls.drop (j + 1)).all (arP rs) by rw [st, Bool.true_and])
          clear st av trV
          go_upto_region 4 with fail
          have gZ := sp_new (Below.refl _ V) (.cells #[.int .i64 (k : Int), .bool t1, .int .u64 t2, .int .u64 t3] 99)
          have bZ := sp_call bV gZ
          have z0 : (V.alloc (.cells #[.int .i64 (k : Int), .bool t1, .int .u64 t2, .int .u64 t3] 99)).cell? ⟨V.heap.size, 0, none⟩ = some (.int .i64 (k : Int)) := by simp [go_sem]
          replace r0 := sO gZ r0; replace r1 := sO gZ r1; replace r2 := sO gZ r2
          generalize V.alloc (.cells #[.int .i64 (k : Int), .bool t1, .int .u64 t2, .int .u64 t3] 99) = Z at *
          clear gZ
          go_wp2_with (first | (go_at_call 77; refine (kr _).mono ?_; rintro e v1 ⟨rfl, g⟩; replace bZ := sp_call bZ g; clear g kr) | fail)
          exact ⟨⟨_, j + 1, rfl, by omega, by first | rfl | go_num | simp, bZ, nx.out⟩, by simp [intOf]; omega⟩
set_option maxRecDepth 100000 in
set_option maxHeartbeats 6400000 in
theorem someempty_any (ls : List (Int × Bool × Int × Int)) (rs : List (Bool × Int × Int)) (hl : ls.length ≤ 400) (hn : ∀ t ∈ ls, 0 ≤ t.1 ∧ t.1 < (rs.length : Int)) (va vr : Value) (w : World) (ta : TAt w va ls) (tr : RAt w vr rs) :
    Calls Tryz.prog 75 #[va, vr] w fun e w' => e = .returned (.bool (ls.any (seP rs))) ∧ Below w.heap.size w w' := by
  obtain ⟨pa, ca, rfl⟩ := ta.len
  obtain ⟨pr, cr, rfl⟩ := tr.len
  obtain ⟨len, hlen⟩ : ∃ n, ls.length = n := ⟨_, rfl⟩
  obtain ⟨m, hm⟩ : ∃ n, rs.length = n := ⟨_, rfl⟩
  have ta' : Hid (TAt w (.slice pa len ca) ls) := by rw [← hlen]; exact ta
  have tr' : Hid (RAt w (.slice pr m cr) rs) := by rw [← hm]; exact tr
  have hlen' : Hid (ls.length = len) := hlen
  have hm' : Hid (rs.length = m) := hm
  rw [hlen, hm]
  have l4 : len ≤ 400 := by omega
  clear ta tr hlen hm hl
  go_enter Tryz.func75, Tryz.ntmps75
  go_wp2_with fail
  go_loopw [9] (fun i wr => ∃ (V : World) (j : Nat), V = wr ∧ j ≤ len ∧ i = .int .i64 j ∧ Below w.heap.size w wr ∧ (ls.any (seP rs) = (ls.drop j).any (seP rs))) (fun i _ => len - (intOf i).toNat)
  case atStart => exact ⟨_, 0, rfl, by omega, rfl, Below.refl _ _, rfl⟩
  case round =>
    obtain ⟨V, j, rfl, hj, rfl, bV, heq⟩ := hrel
    by_cases cj : j < len
    case neg =>
      have ej : j = len := by omega
      subst ej
      have fin : Hid (ls.any (seP rs) = false) := (show ls.any (seP rs) = false by rw [heq, List.drop_of_length_le (by rw [hlen'.out]; exact Nat.le_refl _)]; rfl)
      clear heq
      go_wp2_with fail
      go_ret
      exact ⟨by rw [fin.out]; rfl, bV⟩
    case pos =>
      have cj' : (j : Int) < (len : Int) := by omega
      have wj : IntKind.i64.wrap ((j : Int) + 1) = ((j + 1 : Nat) : Int) := by rw [IntKind.wrap_i64]; omega
      obtain ⟨t, ht⟩ : ∃ t, ls[j]? = some t := ⟨_, List.getElem?_eq_getElem (by rw [hlen'.out]; exact cj)⟩
      have st := any_step (f := seP rs) ht
      rw [← heq] at st
      obtain ⟨n0, n1⟩ := hn t (List.mem_of_getElem? ht)
      obtain ⟨b, o, rfl, y0, y1, y2, y3⟩ := (ta'.out.on bV).get ht
      have ix := tixT b o len ca j cj
      have trV := tr'.out.on bV
      clear ht heq
      obtain ⟨t0, t1, t2, t3⟩ := t
      dsimp only at *
      obtain ⟨br, ro, rfl, r0, r1, r2⟩ := trV.get n0 n1
      obtain ⟨k, rfl⟩ : ∃ k : Nat, t0 = (k : Int) := ⟨t0.toNat, by omega⟩
      simp only [Int.toNat_natCast] at r0 r1 r2
      have ix2 := tixF br ro m cr k (by rw [hm'.out] at n1; omega)
      have av : seP rs ((k : Int), t1, t2, t3) = (rg rs (k : Int)).1 := rfl
      rw [av] at st
      generalize (rg rs (k : Int)).1 = R0 at *
      cases R0
      case true =>
        have ff : Hid (ls.any (seP rs) = true) := (show ls.any (seP rs) = true by rw [st]; rfl)
        clear st av trV
        go_upto_region 4 with fail
        have gZ := sp_new (Below.refl _ V) (.cells #[.int .i64 (k : Int), .bool t1, .int .u64 t2, .int .u64 t3] 99)
        have bZ := sp_call bV gZ
        have z0 : (V.alloc (.cells #[.int .i64 (k : Int), .bool t1, .int .u64 t2, .int .u64 t3] 99)).cell? ⟨V.heap.size, 0, none⟩ = some (.int .i64 (k : Int)) := by simp [go_sem]
        replace r0 := sO gZ r0; replace r1 := sO gZ r1; replace r2 := sO gZ r2
        generalize V.alloc (.cells #[.int .i64 (k : Int), .bool t1, .int .u64 t2, .int .u64 t3] 99) = Z at *
        clear gZ
        go_wp2_with fail
        go_ret
        exact ⟨by rw [ff.out]; rfl, bZ⟩
      case false =>
        have nx : Hid (ls.any (seP rs) = (ls.drop (j + 1)).any (seP rs)) := (show ls.any (seP rs) = (ls.drop (j + 1)).any (seP rs) by rw [st, Bool.false_or])
        clear st av trV
        go_upto_region 4 with fail
        have gZ := sp_new (Below.refl _ V) (.cells #[.int .i64 (k : Int), .bool t1, .int .u64 t2, .int .u64 t3] 99)
        have bZ := sp_call bV gZ
        have z0 : (V.alloc (.cells #[.int .i64 (k : Int), .bool t1, .int .u64 t2, .int .u64 t3] 99)).cell? ⟨V.heap.size, 0, none⟩ = some (.int .i64 (k : Int)) := by simp [go_sem]
        replace r0 := sO gZ r0; replace r1 := sO gZ r1; replace r2 := sO gZ r2
        generalize V.alloc (.cells #[.int .i64 (k : Int), .bool t1, .int .u64 t2, .int .u64 t3] 99) = Z at *
        clear gZ
        go_wp2_with fail
        exact ⟨⟨_, j + 1, rfl, by omega, by first | rfl | go_num | simp, bZ, nx.out⟩, by simp [intOf]; omega⟩
end Go.Proofs.YteafnkimcidkhaaGreat


namespace Go.Proofs.YteafnkimcidkhaaGreat
open Go.RowKit
set_option linter.unusedVariables false
set_option linter.unusedSimpArgs false
theorem lj_old {W : World} {c : Nat} {o : Obj} (q : W.heap[c]? = some o) (o' : Obj) : (W.alloc o').heap[c]? = some o := (Below.heap_alloc W o' c (Array.getElem?_eq_some_iff.1 q).1).trans q
theorem lj_set3 {W : World} {b : Nat} {t : TypeId} {z : Nat × Nat} {y0 y1 y2 : Value} (q : W.heap[b]? = some (.cells #[y0, y1, y2] t z)) (x0 x1 x2 : Value) : (((W.setCell ⟨b, 0, none⟩ x0).setCell ⟨b, 1, none⟩ x1).setCell ⟨b, 2, none⟩ x2).heap[b]? = some (.cells #[x0, x1, x2] t z) := by
  have h := (at_set (at_set (at_set q 0 x0) 1 x1) 2 x2)
  simpa using h
theorem lj_far3 {W : World} {b c : Nat} {o : Obj} (q : W.heap[c]? = some o) (x0 x1 x2 : Value) (h : b ≠ c) : (((W.setCell ⟨b, 0, none⟩ x0).setCell ⟨b, 1, none⟩ x1).setCell ⟨b, 2, none⟩ x2).heap[c]? = some o := by
  rw [at_far _ _ h, at_far _ _ h, at_far _ _ h, q]
set_option maxRecDepth 100000 in
set_option maxHeartbeats 6400000 in
theorem lieval_ar (x0 x1 : Bool) (x2 x3 : Int) (ls : List (Int × Bool × Int × Int)) (rs : List (Bool × Int × Int)) (pa pr : Option Addr) (len ca m cr : Nat) (kb : ∀ V, TAt V (.slice pa len ca) ls → Calls Tryz.prog 73 #[.agg #[.bool x0, .bool x1, .int .u64 x2, .int .u64 x3, .slice pa len ca]] V fun e w' => e = .returned (.bool true) ∧ Below V.heap.size V w') (ka : ∀ V, TAt V (.slice pa len ca) ls → RAt V (.slice pr m cr) rs → Calls Tryz.prog 74 #[.slice pa len ca, .slice pr m cr] V fun e w' => e = .returned (.bool false) ∧ Below V.heap.size V w') (w : World) (ta : TAt w (.slice pa len ca) ls) (tr : RAt w (.slice pr m cr) rs) :
    Calls Tryz.prog 35 #[.agg #[.bool x0, .bool x1, .int .u64 x2, .int .u64 x3, .slice pa len ca], .slice pr m cr] w fun e w' => e = .returned (.tuple #[.agg #[.bool false, .int .u64 0, .int .u64 0], .bool false]) ∧ Below w.heap.size w w' := by
  obtain ⟨p, hp⟩ : ∃ p, w.heap.size = p := ⟨_, rfl⟩
  obtain ⟨W, hW⟩ : ∃ W, (w.alloc (.cells #[.bool x0, .bool x1, .int .u64 x2, .int .u64 x3, .slice pa len ca] 31)).alloc (.cells #[.bool false, .int .u64 0, .int .u64 0] 24) = W := ⟨_, rfl⟩
  have bW : Below w.heap.size w W := by rw [← hW]; exact sp_new (sp_new (Below.refl _ _) _) _
  have a0 : W.cell? ⟨p, 0, none⟩ = some (.bool x0) := by rw [← hW, ← hp]; simp [go_sem]
  have a1 : W.cell? ⟨p, 1, none⟩ = some (.bool x1) := by rw [← hW, ← hp]; simp [go_sem]
  have a2 : W.cell? ⟨p, 2, none⟩ = some (.int .u64 x2) := by rw [← hW, ← hp]; simp [go_sem]
  have a3 : W.cell? ⟨p, 3, none⟩ = some (.int .u64 x3) := by rw [← hW, ← hp]; simp [go_sem]
  have a4 : W.cell? ⟨p, 4, none⟩ = some (.slice pa len ca) := by rw [← hW, ← hp]; simp [go_sem]
  have q : W.heap[p + 1]? = some (.cells #[.bool false, .int .u64 0, .int .u64 0] 24 (0, 0)) := by
    have := World.alloc_heap_new (w.alloc (.cells #[.bool x0, .bool x1, .int .u64 x2, .int .u64 x3, .slice pa len ca] 31)) (.cells #[.bool false, .int .u64 0, .int .u64 0] 24)
    rw [hW] at this
    rw [← hp]
    simpa using this
  go_enter Tryz.func35, Tryz.ntmps35
  go_upto_region 1 with fail
  (try rw [hW])
  (try rw [hp])
  clear hW
  have kb1 := fun V g => kb V (ta.on g)
  have ka1 := fun V g => ka V (ta.on g) (tr.on g)
  go_upto_region 2 with (first
    | (go_at_call 73; refine (kb1 _ bW).mono ?_; rintro e v1 ⟨rfl, g⟩; replace a0 := sO g a0; replace a1 := sO g a1; replace a2 := sO g a2; replace a3 := sO g a3; replace a4 := sO g a4; replace q := carryF g q; replace bW := sp_call bW g; clear g; clear kb1)
    | (go_at_call 74; refine (ka1 _ bW).mono ?_; rintro e v2 ⟨rfl, g⟩; replace a0 := sO g a0; replace a1 := sO g a1; replace a2 := sO g a2; replace a3 := sO g a3; replace a4 := sO g a4; replace q := carryF g q; replace bW := sp_call bW g; clear g; clear ka1)
    | fail)
  obtain ⟨q0, q1, q2, qf⟩ := lj_cells3 q
  go_wp2_with fail
  exact bodyPost_ret (v := .tuple #[.agg #[.bool false, .int .u64 0, .int .u64 0], .bool false]) (by simp [results, Tryz.results35, go_sem, q0, q1, q2]) rfl ⟨rfl, by first | exact sp_set3 bW (by omega) _ _ _ | (rw [← hp]; exact sp_set3 bW (by omega) _ _ _)⟩
set_option maxRecDepth 100000 in
set_option maxHeartbeats 6400000 in
theorem lieval_em (x0 x1 : Bool) (x2 x3 : Int) (ls : List (Int × Bool × Int × Int)) (rs : List (Bool × Int × Int)) (pa pr : Option Addr) (len ca m cr : Nat) (kb : ∀ V, TAt V (.slice pa len ca) ls → Calls Tryz.prog 73 #[.agg #[.bool x0, .bool x1, .int .u64 x2, .int .u64 x3, .slice pa len ca]] V fun e w' => e = .returned (.bool true) ∧ Below V.heap.size V w') (ka : ∀ V, TAt V (.slice pa len ca) ls → RAt V (.slice pr m cr) rs → Calls Tryz.prog 74 #[.slice pa len ca, .slice pr m cr] V fun e w' => e = .returned (.bool true) ∧ Below V.heap.size V w') (ks : ∀ V, TAt V (.slice pa len ca) ls → RAt V (.slice pr m cr) rs → Calls Tryz.prog 75 #[.slice pa len ca, .slice pr m cr] V fun e w' => e = .returned (.bool true) ∧ Below V.heap.size V w') (w : World) (ta : TAt w (.slice pa len ca) ls) (tr : RAt w (.slice pr m cr) rs) :
    Calls Tryz.prog 35 #[.agg #[.bool x0, .bool x1, .int .u64 x2, .int .u64 x3, .slice pa len ca], .slice pr m cr] w fun e w' => e = .returned (.tuple #[.agg #[.bool true, .int .u64 0, .int .u64 0], .bool true]) ∧ Below w.heap.size w w' := by
  obtain ⟨p, hp⟩ : ∃ p, w.heap.size = p := ⟨_, rfl⟩
  obtain ⟨W, hW⟩ : ∃ W, (w.alloc (.cells #[.bool x0, .bool x1, .int .u64 x2, .int .u64 x3, .slice pa len ca] 31)).alloc (.cells #[.bool false, .int .u64 0, .int .u64 0] 24) = W := ⟨_, rfl⟩
  have bW : Below w.heap.size w W := by rw [← hW]; exact sp_new (sp_new (Below.refl _ _) _) _
  have a0 : W.cell? ⟨p, 0, none⟩ = some (.bool x0) := by rw [← hW, ← hp]; simp [go_sem]
  have a1 : W.cell? ⟨p, 1, none⟩ = some (.bool x1) := by rw [← hW, ← hp]; simp [go_sem]
  have a2 : W.cell? ⟨p, 2, none⟩ = some (.int .u64 x2) := by rw [← hW, ← hp]; simp [go_sem]
  have a3 : W.cell? ⟨p, 3, none⟩ = some (.int .u64 x3) := by rw [← hW, ← hp]; simp [go_sem]
  have a4 : W.cell? ⟨p, 4, none⟩ = some (.slice pa len ca) := by rw [← hW, ← hp]; simp [go_sem]
  have q : W.heap[p + 1]? = some (.cells #[.bool false, .int .u64 0, .int .u64 0] 24 (0, 0)) := by
    have := World.alloc_heap_new (w.alloc (.cells #[.bool x0, .bool x1, .int .u64 x2, .int .u64 x3, .slice pa len ca] 31)) (.cells #[.bool false, .int .u64 0, .int .u64 0] 24)
    rw [hW] at this
    rw [← hp]
    simpa using this
  go_enter Tryz.func35, Tryz.ntmps35
  go_upto_region 1 with fail
  (try rw [hW])
  (try rw [hp])
  clear hW
  have kb1 := fun V g => kb V (ta.on g)
  have ka1 := fun V g => ka V (ta.on g) (tr.on g)
  go_upto_region 4 with (first
    | (go_at_call 73; refine (kb1 _ bW).mono ?_; rintro e v1 ⟨rfl, g⟩; replace a0 := sO g a0; replace a1 := sO g a1; replace a2 := sO g a2; replace a3 := sO g a3; replace a4 := sO g a4; replace q := carryF g q; replace bW := sp_call bW g; clear g; clear kb1)
    | (go_at_call 74; refine (ka1 _ bW).mono ?_; rintro e v2 ⟨rfl, g⟩; replace a0 := sO g a0; replace a1 := sO g a1; replace a2 := sO g a2; replace a3 := sO g a3; replace a4 := sO g a4; replace q := carryF g q; replace bW := sp_call bW g; clear g; clear ka1)
    | (go_at_call 75; refine (ks _ (ta.on bW) (tr.on bW)).mono ?_; rintro e v3 ⟨rfl, g⟩; replace a0 := sO g a0; replace a1 := sO g a1; replace a2 := sO g a2; replace a3 := sO g a3; replace a4 := sO g a4; replace q := carryF g q; replace bW := sp_call bW g; clear g)
    | fail)
  obtain ⟨q0, q1, q2, qf⟩ := lj_cells3 q
  go_wp2_with fail
  exact bodyPost_ret (v := .tuple #[.agg #[.bool true, .int .u64 0, .int .u64 0], .bool true]) (by simp [results, Tryz.results35, go_sem, q0, q1, q2]) rfl ⟨rfl, by first | exact sp_set3 bW (by omega) _ _ _ | (rw [← hp]; exact sp_set3 bW (by omega) _ _ _)⟩
def evL (rs : List (Bool × Int × Int)) : Bool × Int × Int → List (Int × Bool × Int × Int) → (Bool × Int × Int) × Bool
  | r, [] => (r, true)
  | r, t :: ls => if (prodP t.2 (rg rs t.1)).2 = false then ((false, 0, 0), false) else if (sumP r (prodP t.2 (rg rs t.1)).1).2 = false then ((false, 0, 0), false) else evL rs (sumP r (prodP t.2 (rg rs t.1)).1).1 ls
theorem evL_step {rs : List (Bool × Int × Int)} {r : Bool × Int × Int} {ls : List (Int × Bool × Int × Int)} {j : Nat} {t : Int × Bool × Int × Int} (h : ls[j]? = some t) : evL rs r (ls.drop j) = if (prodP t.2 (rg rs t.1)).2 = false then ((false, 0, 0), false) else if (sumP r (prodP t.2 (rg rs t.1)).1).2 = false then ((false, 0, 0), false) else evL rs (sumP r (prodP t.2 (rg rs t.1)).1).1 (ls.drop (j + 1)) := by
  have hj := (List.getElem?_eq_some_iff.1 h)
  rw [List.drop_eq_getElem_cons hj.1, hj.2]
  rfl
set_option maxRecDepth 100000 in
set_option maxHeartbeats 6400000 in
theorem lieval_go (x0 x1 : Bool) (x2 x3 : Int) (ls : List (Int × Bool × Int × Int)) (rs : List (Bool × Int × Int)) (pa pr : Option Addr) (len ca m cr : Nat) (hlen : ls.length = len) (hm : rs.length = m) (hl : len ≤ 400) (hn : ∀ t ∈ ls, 0 ≤ t.1 ∧ t.1 < (m : Int)) (wl : ∀ t ∈ ls, wdR t.2) (wr : ∀ r ∈ rs, wdR r) (wx : wdR (x1, x2, x3)) (kb : ∀ V, TAt V (.slice pa len ca) ls → Calls Tryz.prog 73 #[.agg #[.bool x0, .bool x1, .int .u64 x2, .int .u64 x3, .slice pa len ca]] V fun e w' => e = .returned (.bool true) ∧ Below V.heap.size V w') (ka : ∀ V, TAt V (.slice pa len ca) ls → RAt V (.slice pr m cr) rs → Calls Tryz.prog 74 #[.slice pa len ca, .slice pr m cr] V fun e w' => e = .returned (.bool true) ∧ Below V.heap.size V w') (ks : ∀ V, TAt V (.slice pa len ca) ls → RAt V (.slice pr m cr) rs → Calls Tryz.prog 75 #[.slice pa len ca, .slice pr m cr] V fun e w' => e = .returned (.bool false) ∧ Below V.heap.size V w') (w : World) (ta : TAt w (.slice pa len ca) ls) (tr : RAt w (.slice pr m cr) rs) :
    Calls Tryz.prog 35 #[.agg #[.bool x0, .bool x1, .int .u64 x2, .int .u64 x3, .slice pa len ca], .slice pr m cr] w fun e w' => e = .returned (.tuple #[.agg #[.bool (evL rs (x1, x2, x3) ls).1.1, .int .u64 (evL rs (x1, x2, x3) ls).1.2.1, .int .u64 (evL rs (x1, x2, x3) ls).1.2.2], .bool (evL rs (x1, x2, x3) ls).2]) ∧ Below w.heap.size w w' := by
  obtain ⟨p, hp⟩ : ∃ p, w.heap.size = p := ⟨_, rfl⟩
  obtain ⟨W, hW⟩ : ∃ W, (w.alloc (.cells #[.bool x0, .bool x1, .int .u64 x2, .int .u64 x3, .slice pa len ca] 31)).alloc (.cells #[.bool false, .int .u64 0, .int .u64 0] 24) = W := ⟨_, rfl⟩
  have bW : Below w.heap.size w W := by rw [← hW]; exact sp_new (sp_new (Below.refl _ _) _) _
  have a0 : W.cell? ⟨p, 0, none⟩ = some (.bool x0) := by rw [← hW, ← hp]; simp [go_sem]
  have a1 : W.cell? ⟨p, 1, none⟩ = some (.bool x1) := by rw [← hW, ← hp]; simp [go_sem]
  have a2 : W.cell? ⟨p, 2, none⟩ = some (.int .u64 x2) := by rw [← hW, ← hp]; simp [go_sem]
  have a3 : W.cell? ⟨p, 3, none⟩ = some (.int .u64 x3) := by rw [← hW, ← hp]; simp [go_sem]
  have a4 : W.cell? ⟨p, 4, none⟩ = some (.slice pa len ca) := by rw [← hW, ← hp]; simp [go_sem]
  have q : W.heap[p + 1]? = some (.cells #[.bool false, .int .u64 0, .int .u64 0] 24 (0, 0)) := by
    have := World.alloc_heap_new (w.alloc (.cells #[.bool x0, .bool x1, .int .u64 x2, .int .u64 x3, .slice pa len ca] 31)) (.cells #[.bool false, .int .u64 0, .int .u64 0] 24)
    rw [hW] at this
    rw [← hp]
    simpa using this
  go_enter Tryz.func35, Tryz.ntmps35
  go_upto_region 1 with fail
  (try rw [hW])
  (try rw [hp])
  clear hW
  have kb1 := fun V g => kb V (ta.on g)
  have ka1 := fun V g => ka V (ta.on g) (tr.on g)
  go_upto_region 5 with (first
    | (go_at_call 73; refine (kb1 _ bW).mono ?_; rintro e v1 ⟨rfl, g⟩; replace a0 := sO g a0; replace a1 := sO g a1; replace a2 := sO g a2; replace a3 := sO g a3; replace a4 := sO g a4; replace q := carryF g q; replace bW := sp_call bW g; clear g; clear kb1)
    | (go_at_call 74; refine (ka1 _ bW).mono ?_; rintro e v2 ⟨rfl, g⟩; replace a0 := sO g a0; replace a1 := sO g a1; replace a2 := sO g a2; replace a3 := sO g a3; replace a4 := sO g a4; replace q := carryF g q; replace bW := sp_call bW g; clear g; clear ka1)
    | (go_at_call 75; refine (ks _ (ta.on bW) (tr.on bW)).mono ?_; rintro e v3 ⟨rfl, g⟩; replace a0 := sO g a0; replace a1 := sO g a1; replace a2 := sO g a2; replace a3 := sO g a3; replace a4 := sO g a4; replace q := carryF g q; replace bW := sp_call bW g; clear g)
    | fail)
  clear ks kb ka
  go_upto_region 6 with fail
  obtain ⟨b6, hb6⟩ : ∃ b, v3.heap.size = b := ⟨_, rfl⟩
  have n61 : b6 ≠ p + 1 := by have := (Array.getElem?_eq_some_iff.1 q).1; omega
  have z6 : w.heap.size ≤ b6 := by have := bW.size; omega
  obtain ⟨V0, hV0⟩ : ∃ V, v3.alloc (.cells #[.bool x1, .int .u64 x2, .int .u64 x3] 24) = V := ⟨_, rfl⟩
  have gN : Below v3.heap.size v3 V0 := by rw [← hV0]; exact sp_new (Below.refl _ _) _
  have q6 : V0.heap[b6]? = some (.cells #[.bool x1, .int .u64 x2, .int .u64 x3] 24 (0, 0)) := by
    have := World.alloc_heap_new v3 (.cells #[.bool x1, .int .u64 x2, .int .u64 x3] 24)
    rw [hV0, hb6] at this
    exact this
  replace a4 := sO gN a4
  replace q := carryF gN q
  replace bW := sp_call bW gN
  rw [hV0]
  (try rw [hb6])
  clear gN hV0 hb6 a0 a1 a2 a3
  have ta' : Hid (TAt w (.slice pa len ca) ls) := ta
  have tr' : Hid (RAt w (.slice pr m cr) rs) := tr
  have hlen' : Hid (ls.length = len) := hlen
  have hm' : Hid (rs.length = m) := hm
  clear ta tr hlen hm
  have kPr := lprod_any
  have kSu := lsum_any
  go_upto_region 7 with fail
  clear a4
  go_loopw [32] (fun i wr => ∃ (V : World) (j : Nat) (R : Bool × Int × Int), V = wr ∧ j ≤ len ∧ i = .int .i64 j ∧ V.heap[p + 1]? = some (.cells #[.bool false, .int .u64 0, .int .u64 0] 24 (0, 0)) ∧ V.heap[b6]? = some (.cells #[.bool R.1, .int .u64 R.2.1, .int .u64 R.2.2] 24 (0, 0)) ∧ Below w.heap.size w V ∧ wdR R ∧ (evL rs (x1, x2, x3) ls = evL rs R (ls.drop j))) (fun i _ => len - (intOf i).toNat)
  case atStart => exact ⟨_, 0, (x1, x2, x3), rfl, by omega, rfl, q, q6, bW, wx, rfl⟩
  case round =>
    clear q q6 bW
    obtain ⟨V, j, ⟨R0, R1, R2⟩, rfl, hj, rfl, q, q6, bV, wR, heq⟩ := hrel
    dsimp only at q6
    by_cases cj : j < len
    case neg =>
      have ej : j = len := by omega
      subst ej
      have fin : evL rs (x1, x2, x3) ls = ((R0, R1, R2), true) := by rw [heq, List.drop_of_length_le (by rw [hlen'.out]; exact Nat.le_refl _)]; rfl
      clear heq
      obtain ⟨q0, q1, q2, qf⟩ := lj_cells3 q
      obtain ⟨g0, g1, g2, gf⟩ := lj_cells3 q6
      go_wp2_with fail
      exact bodyPost_ret (v := .tuple #[.agg #[.bool R0, .int .u64 R1, .int .u64 R2], .bool true]) (by simp [results, Tryz.results35, go_sem, q0, q1, q2]) rfl ⟨by rw [fin], by first | exact sp_set3 bV (by omega) _ _ _ | (rw [← hp]; exact sp_set3 bV (by omega) _ _ _)⟩
    case pos =>
      have cj' : (j : Int) < (len : Int) := by omega
      have wj : IntKind.i64.wrap ((j : Int) + 1) = ((j + 1 : Nat) : Int) := by rw [IntKind.wrap_i64]; omega
      obtain ⟨t, ht⟩ : ∃ t, ls[j]? = some t := ⟨_, List.getElem?_eq_getElem (by rw [hlen'.out]; exact cj)⟩
      have st := evL_step (rs := rs) (r := (R0, R1, R2)) ht
      rw [← heq] at st
      obtain ⟨n0, n1⟩ := hn t (List.mem_of_getElem? ht)
      have wt := wl t (List.mem_of_getElem? ht)
      obtain ⟨b, o, rfl, y0, y1, y2, y3⟩ := (ta'.out.on bV).get ht
      obtain ⟨br, ro, rfl, r0, r1, r2⟩ := (tr'.out.on bV).get n0 (by rw [hm'.out]; exact n1)
      have ix := tixT b o len ca j cj
      have wg := rg_wd wr t.1
      clear ht heq
      obtain ⟨t0, t1, t2, t3⟩ := t
      dsimp only at *
      obtain ⟨k, rfl⟩ : ∃ k : Nat, t0 = (k : Int) := ⟨t0.toNat, by omega⟩
      simp only [Int.toNat_natCast] at r0 r1 r2
      have ix2 := tixF br ro m cr k (by omega)
      have kp := kPr (t1, t2, t3) (rg rs (k : Int)) wt wg
      have wp := prodP_wd (t1, t2, t3) (rg rs (k : Int)) wt wg
      have kS := fun (_ : (prodP (t1, t2, t3) (rg rs (k : Int))).2 = true) => kSu (R0, R1, R2) (prodP (t1, t2, t3) (rg rs (k : Int))).1 wR wp
      have nwd : Hid (wdR (sumP (R0, R1, R2) (prodP (t1, t2, t3) (rg rs (k : Int))).1).1) := sumP_wd _ _ wR wp
      have stp : ((prodP (t1, t2, t3) (rg rs (k : Int))).2 = false → evL rs (x1, x2, x3) ls = ((false, 0, 0), false)) ∧ ((prodP (t1, t2, t3) (rg rs (k : Int))).2 = true → ((sumP (R0, R1, R2) (prodP (t1, t2, t3) (rg rs (k : Int))).1).2 = false → evL rs (x1, x2, x3) ls = ((false, 0, 0), false)) ∧ ((sumP (R0, R1, R2) (prodP (t1, t2, t3) (rg rs (k : Int))).1).2 = true → evL rs (x1, x2, x3) ls = evL rs (sumP (R0, R1, R2) (prodP (t1, t2, t3) (rg rs (k : Int))).1).1 (ls.drop (j + 1)))) :=
        ⟨fun h => by rw [st, if_pos h], fun h => ⟨fun h2 => by rw [st, if_neg (by rw [h]; simp), if_pos h2], fun h2 => by rw [st, if_neg (by rw [h]; simp), if_neg (by rw [h2]; simp)]⟩⟩
      clear st wp wt wg
      generalize sumP (R0, R1, R2) (prodP (t1, t2, t3) (rg rs (k : Int))).1 = NN at *
      generalize prodP (t1, t2, t3) (rg rs (k : Int)) = PP at *
      generalize rg rs (k : Int) = SS at *
      obtain ⟨⟨ne, nl, nh⟩, nk⟩ := NN
      obtain ⟨⟨pe, pl, ph⟩, pk⟩ := PP
      obtain ⟨s0, s1, s2⟩ := SS
      dsimp only at *
      go_upto_region 9 with fail
      obtain ⟨qq, hqq⟩ : ∃ b, V.heap.size = b := ⟨_, rfl⟩
      obtain ⟨Z, hZ⟩ : ∃ Z, V.alloc (.cells #[.int .i64 (k : Int), .bool t1, .int .u64 t2, .int .u64 t3] 99) = Z := ⟨_, rfl⟩
      have gZ : Below V.heap.size V Z := by rw [← hZ]; exact sp_new (Below.refl _ _) _
      have z0 : Z.cell? ⟨qq, 0, none⟩ = some (.int .i64 (k : Int)) := by rw [← hZ, ← hqq]; simp [go_sem]
      have z1 : Z.cell? ⟨qq, 1, none⟩ = some (.bool t1) := by rw [← hZ, ← hqq]; simp [go_sem]
      have z2 : Z.cell? ⟨qq, 2, none⟩ = some (.int .u64 t2) := by rw [← hZ, ← hqq]; simp [go_sem]
      have z3 : Z.cell? ⟨qq, 3, none⟩ = some (.int .u64 t3) := by rw [← hZ, ← hqq]; simp [go_sem]
      replace r0 := sO gZ r0; replace r1 := sO gZ r1; replace r2 := sO gZ r2
      replace q := carryF gZ q
      replace q6 := carryF gZ q6
      replace bV := sp_call bV gZ
      rw [hZ]
      (try rw [hqq])
      clear hZ gZ hqq y0 y1 y2 y3 ix kPr kSu
      have hall : ∀ X9, Below Z.heap.size Z X9 → (X9.cell? ⟨qq, 0, none⟩ = some (.int .i64 (k : Int)) ∧ X9.cell? ⟨qq, 1, none⟩ = some (.bool t1) ∧ X9.cell? ⟨qq, 2, none⟩ = some (.int .u64 t2) ∧ X9.cell? ⟨qq, 3, none⟩ = some (.int .u64 t3) ∧ X9.cell? ⟨br, ro + k * 3, none⟩ = some (.bool s0) ∧ X9.cell? ⟨br, ro + k * 3 + 1, none⟩ = some (.int .u64 s1) ∧ X9.cell? ⟨br, ro + k * 3 + 2, none⟩ = some (.int .u64 s2)) := fun X9 g9 => ⟨sO g9 z0, sO g9 z1, sO g9 z2, sO g9 z3, sO g9 r0, sO g9 r1, sO g9 r2⟩
      have cc : Below Z.heap.size Z Z.drew := (Below.refl _ _).drew
      refine wp_region_held_drew (S := (fun w' => w'.cell? ⟨qq, 0, none⟩ = some (.int .i64 (k : Int)) ∧ w'.cell? ⟨qq, 1, none⟩ = some (.bool t1) ∧ w'.cell? ⟨qq, 2, none⟩ = some (.int .u64 t2) ∧ w'.cell? ⟨qq, 3, none⟩ = some (.int .u64 t3) ∧ w'.cell? ⟨br, ro + k * 3, none⟩ = some (.bool s0) ∧ w'.cell? ⟨br, ro + k * 3 + 1, none⟩ = some (.int .u64 s1) ∧ w'.cell? ⟨br, ro + k * 3 + 2, none⟩ = some (.int .u64 s2))) (by kernel_rfl) (hall _ cc) (fun hH => ?_)
      refine wpAnyH_take (i := 0) (oi := _) (v := .pointer (some ⟨qq, 1, none⟩)) rfl (by kernel_rfl) (by kernel_rfl) (by kernel_rfl) (fun _ _ _ h => h) (Or.inl ⟨by rfl, fun w' hSw => by obtain ⟨zz0, zz1, zz2, zz3, zr0, zr1, zr2⟩ := hSw; go_simp⟩) hH ?_
      simp only [Act.put, List.getElem_toArray, List.getElem_cons_zero, List.getElem_cons_succ, List.setIfInBounds_toArray, List.set_cons_zero, List.set_cons_succ]
      refine wpAnyH_take (i := 1) (oi := _) (v := .agg #[.bool t1, .int .u64 t2, .int .u64 t3]) rfl (by kernel_rfl) (by kernel_rfl) (by kernel_rfl) (fun _ _ _ h => h) (Or.inl ⟨by rfl, fun w' hSw => by obtain ⟨zz0, zz1, zz2, zz3, zr0, zr1, zr2⟩ := hSw; go_simp⟩) hH ?_
      simp only [Act.put, List.getElem_toArray, List.getElem_cons_zero, List.getElem_cons_succ, List.setIfInBounds_toArray, List.set_cons_zero, List.set_cons_succ]
      refine wpAnyH_take (i := 2) (oi := _) (v := .slice (some ⟨br, ro, none⟩) m cr) rfl (by kernel_rfl) (by kernel_rfl) (by kernel_rfl) (fun _ _ _ h => h) (Or.inl ⟨by rfl, fun w' hSw => by obtain ⟨zz0, zz1, zz2, zz3, zr0, zr1, zr2⟩ := hSw; go_simp⟩) hH ?_
      simp only [Act.put, List.getElem_toArray, List.getElem_cons_zero, List.getElem_cons_succ, List.setIfInBounds_toArray, List.set_cons_zero, List.set_cons_succ]
      refine wpAnyH_take (i := 3) (oi := _) (v := .pointer (some ⟨qq, 0, none⟩)) rfl (by kernel_rfl) (by kernel_rfl) (by kernel_rfl) (fun _ _ _ h => h) (Or.inl ⟨by rfl, fun w' hSw => by obtain ⟨zz0, zz1, zz2, zz3, zr0, zr1, zr2⟩ := hSw; go_simp⟩) hH ?_
      simp only [Act.put, List.getElem_toArray, List.getElem_cons_zero, List.getElem_cons_succ, List.setIfInBounds_toArray, List.set_cons_zero, List.set_cons_succ]
      refine wpAnyH_take (i := 4) (oi := _) (v := .int .i64 (k : Int)) rfl (by kernel_rfl) (by kernel_rfl) (by kernel_rfl) (fun _ _ _ h => h) (Or.inl ⟨by rfl, fun w' hSw => by obtain ⟨zz0, zz1, zz2, zz3, zr0, zr1, zr2⟩ := hSw; go_simp⟩) hH ?_
      simp only [Act.put, List.getElem_toArray, List.getElem_cons_zero, List.getElem_cons_succ, List.setIfInBounds_toArray, List.set_cons_zero, List.set_cons_succ]
      refine wpAnyH_take (i := 5) (oi := _) (v := .pointer (some ⟨br, ro + k * 3, none⟩)) rfl (by kernel_rfl) (by kernel_rfl) (by kernel_rfl) (fun _ _ _ h => h) (Or.inl ⟨by rfl, fun w' hSw => by obtain ⟨zz0, zz1, zz2, zz3, zr0, zr1, zr2⟩ := hSw; go_simp⟩) hH ?_
      simp only [Act.put, List.getElem_toArray, List.getElem_cons_zero, List.getElem_cons_succ, List.setIfInBounds_toArray, List.set_cons_zero, List.set_cons_succ]
      refine wpAnyH_take (i := 6) (oi := _) (v := .agg #[.bool s0, .int .u64 s1, .int .u64 s2]) rfl (by kernel_rfl) (by kernel_rfl) (by kernel_rfl) (fun _ _ _ h => h) (Or.inl ⟨by rfl, fun w' hSw => by obtain ⟨zz0, zz1, zz2, zz3, zr0, zr1, zr2⟩ := hSw; go_simp⟩) hH ?_
      simp only [Act.put, List.getElem_toArray, List.getElem_cons_zero, List.getElem_cons_succ, List.setIfInBounds_toArray, List.set_cons_zero, List.set_cons_succ]
      replace q : Z.drew.heap[p + 1]? = _ := q
      replace q6 : Z.drew.heap[b6]? = _ := q6
      replace bV := bV.drew
      generalize hY : Z.drew = Y0 at *
      clear hY
      refine wpAnyH_ready (rs := [7, 11]) (by kernel_rfl) (by simp) (AllReadyH.cons (o := _) rfl (fun K hK => ?_) (AllReadyH.cons (o := _) rfl (fun K hK => ?_) AllReadyH.nil))
      go_simp
      refine (kp _).mono ?_
      rintro e Y1 ⟨rfl, g⟩
      replace cc := sp_call cc g
      replace q := carryF g q; replace q6 := carryF g q6; replace bV := sp_call bV g
      clear g
      go_wp2_with fail
      refine hK.out _ _ (hall _ cc) (fun hH => ?_)
      clear hK K
      try simp only [Act.put, List.getElem_toArray, List.getElem_cons_zero, List.getElem_cons_succ, List.setIfInBounds_toArray, List.set_cons_zero, List.set_cons_succ]
      refine wpAnyH_take (i := 8) (oi := _) (v := .tuple #[.agg #[.bool pe, .int .u64 pl, .int .u64 ph], .bool pk]) rfl (by kernel_rfl) (by kernel_rfl) (by kernel_rfl) (fun _ _ _ h => h) (Or.inl ⟨by rfl, fun w' hSw => by obtain ⟨zz0, zz1, zz2, zz3, zr0, zr1, zr2⟩ := hSw; go_simp⟩) hH ?_
      simp only [Act.put, List.getElem_toArray, List.getElem_cons_zero, List.getElem_cons_succ, List.setIfInBounds_toArray, List.set_cons_zero, List.set_cons_succ]
      refine wpAnyH_take (i := 9) (oi := _) (v := .agg #[.bool pe, .int .u64 pl, .int .u64 ph]) rfl (by kernel_rfl) (by kernel_rfl) (by kernel_rfl) (fun _ _ _ h => h) (Or.inl ⟨by rfl, fun w' hSw => by obtain ⟨zz0, zz1, zz2, zz3, zr0, zr1, zr2⟩ := hSw; go_simp⟩) hH ?_
      simp only [Act.put, List.getElem_toArray, List.getElem_cons_zero, List.getElem_cons_succ, List.setIfInBounds_toArray, List.set_cons_zero, List.set_cons_succ]
      refine wpAnyH_take (i := 10) (oi := _) (v := .bool pk) rfl (by kernel_rfl) (by kernel_rfl) (by kernel_rfl) (fun _ _ _ h => h) (Or.inl ⟨by rfl, fun w' hSw => by obtain ⟨zz0, zz1, zz2, zz3, zr0, zr1, zr2⟩ := hSw; go_simp⟩) hH ?_
      simp only [Act.put, List.getElem_toArray, List.getElem_cons_zero, List.getElem_cons_succ, List.setIfInBounds_toArray, List.set_cons_zero, List.set_cons_succ]
      refine wpAnyH_ready (rs := [11]) (by kernel_rfl) (by simp) (AllReadyH.cons (o := _) rfl (fun K hK => ?_) AllReadyH.nil)
      go_simp
      have q9 := World.alloc_heap_new Y1 (.cells #[.bool false, .int .u64 0, .int .u64 0] 24)
      have ne6 : b6 ≠ Y1.heap.size := Nat.ne_of_lt (Array.getElem?_eq_some_iff.1 q6).1
      have ne1 : p + 1 ≠ Y1.heap.size := Nat.ne_of_lt (Array.getElem?_eq_some_iff.1 q).1
      have z9 : w.heap.size ≤ Y1.heap.size := bV.size
      have y9 : Z.heap.size ≤ Y1.heap.size := cc.size
      replace q := lj_old q (.cells #[.bool false, .int .u64 0, .int .u64 0] 24)
      replace q6 := lj_old q6 (.cells #[.bool false, .int .u64 0, .int .u64 0] 24)
      replace bV := sp_new bV (.cells #[.bool false, .int .u64 0, .int .u64 0] 24)
      replace cc := sp_new cc (.cells #[.bool false, .int .u64 0, .int .u64 0] 24)
      generalize hB : Y1.heap.size = b9 at *
      generalize hY : Y1.alloc (.cells #[.bool false, .int .u64 0, .int .u64 0] 24) = Y2 at *
      clear hY hB
      refine hK.out _ _ (hall _ cc) (fun hH => ?_)
      clear hK K
      try simp only [Act.put, List.getElem_toArray, List.getElem_cons_zero, List.getElem_cons_succ, List.setIfInBounds_toArray, List.set_cons_zero, List.set_cons_succ]
      rotate_left
      go_simp
      have q9 := World.alloc_heap_new Y0 (.cells #[.bool false, .int .u64 0, .int .u64 0] 24)
      have ne6 : b6 ≠ Y0.heap.size := Nat.ne_of_lt (Array.getElem?_eq_some_iff.1 q6).1
      have ne1 : p + 1 ≠ Y0.heap.size := Nat.ne_of_lt (Array.getElem?_eq_some_iff.1 q).1
      have z9 : w.heap.size ≤ Y0.heap.size := bV.size
      have y9 : Z.heap.size ≤ Y0.heap.size := cc.size
      replace q := lj_old q (.cells #[.bool false, .int .u64 0, .int .u64 0] 24)
      replace q6 := lj_old q6 (.cells #[.bool false, .int .u64 0, .int .u64 0] 24)
      replace bV := sp_new bV (.cells #[.bool false, .int .u64 0, .int .u64 0] 24)
      replace cc := sp_new cc (.cells #[.bool false, .int .u64 0, .int .u64 0] 24)
      generalize hB : Y0.heap.size = b9 at *
      generalize hY : Y0.alloc (.cells #[.bool false, .int .u64 0, .int .u64 0] 24) = Y1 at *
      clear hY hB
      refine hK.out _ _ (hall _ cc) (fun hH => ?_)
      clear hK K
      try simp only [Act.put, List.getElem_toArray, List.getElem_cons_zero, List.getElem_cons_succ, List.setIfInBounds_toArray, List.set_cons_zero, List.set_cons_succ]
      refine wpAnyH_ready (rs := [7]) (by kernel_rfl) (by simp) (AllReadyH.cons (o := _) rfl (fun K hK => ?_) AllReadyH.nil)
      go_simp
      refine (kp _).mono ?_
      rintro e Y2 ⟨rfl, g⟩
      replace q9 := carryF g q9
      replace cc := sp_call cc g
      replace q := carryF g q; replace q6 := carryF g q6; replace bV := sp_call bV g
      clear g
      go_wp2_with fail
      refine hK.out _ _ (hall _ cc) (fun hH => ?_)
      clear hK K
      try simp only [Act.put, List.getElem_toArray, List.getElem_cons_zero, List.getElem_cons_succ, List.setIfInBounds_toArray, List.set_cons_zero, List.set_cons_succ]
      refine wpAnyH_take (i := 8) (oi := _) (v := .tuple #[.agg #[.bool pe, .int .u64 pl, .int .u64 ph], .bool pk]) rfl (by kernel_rfl) (by kernel_rfl) (by kernel_rfl) (fun _ _ _ h => h) (Or.inl ⟨by rfl, fun w' hSw => by obtain ⟨zz0, zz1, zz2, zz3, zr0, zr1, zr2⟩ := hSw; go_simp⟩) hH ?_
      simp only [Act.put, List.getElem_toArray, List.getElem_cons_zero, List.getElem_cons_succ, List.setIfInBounds_toArray, List.set_cons_zero, List.set_cons_succ]
      refine wpAnyH_take (i := 9) (oi := _) (v := .agg #[.bool pe, .int .u64 pl, .int .u64 ph]) rfl (by kernel_rfl) (by kernel_rfl) (by kernel_rfl) (fun _ _ _ h => h) (Or.inl ⟨by rfl, fun w' hSw => by obtain ⟨zz0, zz1, zz2, zz3, zr0, zr1, zr2⟩ := hSw; go_simp⟩) hH ?_
      simp only [Act.put, List.getElem_toArray, List.getElem_cons_zero, List.getElem_cons_succ, List.setIfInBounds_toArray, List.set_cons_zero, List.set_cons_succ]
      refine wpAnyH_take (i := 10) (oi := _) (v := .bool pk) rfl (by kernel_rfl) (by kernel_rfl) (by kernel_rfl) (fun _ _ _ h => h) (Or.inl ⟨by rfl, fun w' hSw => by obtain ⟨zz0, zz1, zz2, zz3, zr0, zr1, zr2⟩ := hSw; go_simp⟩) hH ?_
      simp only [Act.put, List.getElem_toArray, List.getElem_cons_zero, List.getElem_cons_succ, List.setIfInBounds_toArray, List.set_cons_zero, List.set_cons_succ]
      all_goals
        refine wpAnyH_ready (rs := [12]) (by kernel_rfl) (by simp) (AllReadyH.cons (o := _) rfl (fun K hK => ?_) AllReadyH.nil)
        obtain ⟨u0, u1, u2, uf⟩ := lj_cells3 q9
        go_simp
        clear u0 u1 u2 uf
        replace q := lj_far3 (b := b9) q (.bool pe) (.int .u64 pl) (.int .u64 ph) (Ne.symm ne1)
        replace q6 := lj_far3 (b := b9) q6 (.bool pe) (.int .u64 pl) (.int .u64 ph) (Ne.symm ne6)
        replace q9 := lj_set3 q9 (.bool pe) (.int .u64 pl) (.int .u64 ph)
        replace bV := sp_set3 (b := b9) bV z9 (.bool pe) (.int .u64 pl) (.int .u64 ph)
        replace cc := sp_set3 (b := b9) cc y9 (.bool pe) (.int .u64 pl) (.int .u64 ph)
        generalize hY : (((Y2.setCell ⟨b9, 0, none⟩ (.bool pe)).setCell ⟨b9, 1, none⟩ (.int .u64 pl)).setCell ⟨b9, 2, none⟩ (.int .u64 ph)) = Y3 at *
        clear hY
        refine hK.out _ _ (hall _ cc) (fun hH => ?_)
        clear hK K
        try simp only [Act.put, List.getElem_toArray, List.getElem_cons_zero, List.getElem_cons_succ, List.setIfInBounds_toArray, List.set_cons_zero, List.set_cons_succ]
        refine wpAnyH_take (i := 13) (oi := _) (v := .bool pk) rfl (by kernel_rfl) (by kernel_rfl) (by kernel_rfl) (fun _ _ _ h => h) (Or.inl ⟨by rfl, fun w' hSw => by obtain ⟨zz0, zz1, zz2, zz3, zr0, zr1, zr2⟩ := hSw; go_simp⟩) hH ?_
        simp only [Act.put, List.getElem_toArray, List.getElem_cons_zero, List.getElem_cons_succ, List.setIfInBounds_toArray, List.set_cons_zero, List.set_cons_succ]
        refine wpAnyH_done (by kernel_rfl) ?_ _
        clear cc hall hH z0 z1 z2 z3 r0 r1 r2
        cases pk
        case false =>
          replace stp := stp.1 rfl
          go_upto_region 11 with fail
          obtain ⟨q0, q1, q2, qf⟩ := lj_cells3 q
          go_wp2_with fail
          exact bodyPost_ret (v := .tuple #[.agg #[.bool false, .int .u64 0, .int .u64 0], .bool false]) (by simp [results, Tryz.results35, go_sem, q0, q1, q2]) rfl ⟨by rw [stp], by first | exact sp_set3 bV (by omega) _ _ _ | (rw [← hp]; exact sp_set3 bV (by omega) _ _ _)⟩
        case true =>
          replace stp := stp.2 rfl
          replace kS := kS rfl
          obtain ⟨g0, g1, g2, gf⟩ := lj_cells3 q6
          obtain ⟨h0, h1, h2, hf⟩ := lj_cells3 q9
          go_upto_region 13 with (first | (go_at_call 13; refine (kS _).mono ?_; rintro e v9 ⟨rfl, g⟩; replace q := carryF g q; replace q6 := carryF g q6; replace bV := sp_call bV g; clear g kS g0 g1 g2 gf h0 h1 h2 hf; obtain ⟨g0, g1, g2, gf⟩ := lj_cells3 q6) | fail)
          replace q := lj_far3 (b := b6) q (.bool ne) (.int .u64 nl) (.int .u64 nh) n61
          replace q6 := lj_set3 q6 (.bool ne) (.int .u64 nl) (.int .u64 nh)
          replace bV := sp_set3 (b := b6) bV z6 (.bool ne) (.int .u64 nl) (.int .u64 nh)
          generalize hY : (((v9.setCell ⟨b6, 0, none⟩ (.bool ne)).setCell ⟨b6, 1, none⟩ (.int .u64 nl)).setCell ⟨b6, 2, none⟩ (.int .u64 nh)) = Y9 at *
          clear hY g0 g1 g2 gf
          cases nk
          case false =>
            replace stp := stp.1 rfl
            go_upto_region 14 with fail
            obtain ⟨q0, q1, q2, qf⟩ := lj_cells3 q
            go_wp2_with fail
            exact bodyPost_ret (v := .tuple #[.agg #[.bool false, .int .u64 0, .int .u64 0], .bool false]) (by simp [results, Tryz.results35, go_sem, q0, q1, q2]) rfl ⟨by rw [stp], by first | exact sp_set3 bV (by omega) _ _ _ | (rw [← hp]; exact sp_set3 bV (by omega) _ _ _)⟩
          case true =>
            replace stp := stp.2 rfl
            go_wp2_with fail
            exact ⟨⟨_, j + 1, (ne, nl, nh), rfl, by omega, by first | rfl | go_num | simp, q, q6, bV, nwd.out, stp⟩, by simp [intOf]; omega⟩

def evaP (A : Frm) (rs : List (Bool × Int × Int)) : (Bool × Int × Int) × Bool := if (frB A && A.2.2.all (arP rs)) = false then ((false, 0, 0), false) else if A.2.2.any (seP rs) = true then ((true, 0, 0), true) else evL rs A.2.1 A.2.2
theorem rT_ge : ∀ (ls : List (Int × Bool × Int × Int)) (q : Int), rT liN liZ q ls = true → ∀ t ∈ ls, q < t.1
  | [], q, _, t, ht => by simp at ht
  | u :: ls, q, h, t, ht => by
    rw [rT_cons] at h
    simp only [Bool.and_eq_true, Bool.not_eq_true', decide_eq_false_iff_not] at h
    rcases List.mem_cons.1 ht with rfl | ht
    · omega
    · have := rT_ge ls u.1 h.2 t ht
      omega
theorem frB_ge {A : Frm} (h : frB A = true) : ∀ t ∈ A.2.2, 0 ≤ t.1 := by
  have h1 : frR A = true ∧ A.1 = false := by simpa [frB] using h
  have h2 := h1.1
  unfold frR fR at h2
  rw [if_neg (by rw [h1.2]; simp)] at h2
  simp only [Bool.and_eq_true] at h2
  intro t ht
  have := rT_ge _ _ h2.2.2 t ht
  omega
theorem form_eval (A : Frm) (hA : fOk A) (rs : List (Bool × Int × Int)) (hr : ∀ r ∈ rs, wdR r) (va vr : Value) (w : World) (ta : TAt w va A.2.2) (tr : RAt w vr rs) :
    Calls Tryz.prog 35 #[.agg #[.bool A.1, .bool A.2.1.1, .int .u64 A.2.1.2.1, .int .u64 A.2.1.2.2, va], vr] w fun e w' => e = .returned (.tuple #[.agg #[.bool (evaP A rs).1.1, .int .u64 (evaP A rs).1.2.1, .int .u64 (evaP A rs).1.2.2], .bool (evaP A rs).2]) ∧ Below w.heap.size w w' := by
  by_cases hb : frB A = true
  case neg =>
    have hb' : frB A = false := by revert hb; cases frB A <;> simp
    have e : evaP A rs = ((false, 0, 0), false) := if_pos (by rw [hb']; rfl)
    rw [e]
    have k := fun V (h : TAt V va A.2.2) => form_bound A hA va V h
    rw [hb'] at k
    exact lieval_no A.1 A.2.1.1 A.2.1.2.1 A.2.1.2.2 va ta.sl vr (fun V => TAt V va A.2.2) (fun W V h g => h.on g) k w ta
  case pos =>
    have k := fun V (h : TAt V va A.2.2) => form_bound A hA va V h
    rw [hb] at k
    have k2 := fun V (h : TAt V va A.2.2) (h2 : RAt V vr rs) => allright_any A.2.2 rs hA.2.2 (frB_ge hb) hr va vr V h h2
    have ta0 := ta
    have tr0 := tr
    obtain ⟨pa, ca, rfl⟩ := ta.len
    obtain ⟨pr, cr, rfl⟩ := tr.len
    cases hq : A.2.2.all (arP rs)
    case false =>
      have e : evaP A rs = ((false, 0, 0), false) := if_pos (by rw [hb, hq]; rfl)
      rw [e]
      rw [hq] at k2
      exact lieval_ar A.1 A.2.1.1 A.2.1.2.1 A.2.1.2.2 A.2.2 rs pa pr _ ca _ cr k k2 w ta0 tr0
    case true =>
      rw [hq] at k2
      have bd : ∀ t ∈ A.2.2, 0 ≤ t.1 ∧ t.1 < (rs.length : Int) := fun t ht => ⟨frB_ge hb t ht, by
        have := List.all_eq_true.1 hq t ht
        simp only [arP, Bool.and_eq_true, decide_eq_true_eq] at this
        exact this.1⟩
      have k3 := fun V (h : TAt V (.slice pa A.2.2.length ca) A.2.2) (h2 : RAt V (.slice pr rs.length cr) rs) => someempty_any A.2.2 rs hA.2.2 bd _ _ V h h2
      cases hs : A.2.2.any (seP rs)
      case true =>
        have e : evaP A rs = ((true, 0, 0), true) := (if_neg (by rw [hb, hq]; simp)).trans (if_pos hs)
        rw [e]
        rw [hs] at k3
        exact lieval_em A.1 A.2.1.1 A.2.1.2.1 A.2.1.2.2 A.2.2 rs pa pr _ ca _ cr k k2 k3 w ta0 tr0
      case false =>
        have e : evaP A rs = evL rs A.2.1 A.2.2 := (if_neg (by rw [hb, hq]; simp)).trans (if_neg (by rw [hs]; simp))
        rw [e]
        rw [hs] at k3
        exact lieval_go A.1 A.2.1.1 A.2.1.2.1 A.2.1.2.2 A.2.2 rs pa pr _ ca _ cr rfl rfl hA.2.2 bd (fun t ht => (hA.2.1 t ht).2) hr hA.1 k k2 k3 w ta0 tr0
end Go.Proofs.YteafnkimcidkhaaGreat


namespace Go.Proofs.YteafnkimcidkhaaGreat
open Go.RowKit
set_option linter.unusedVariables false
set_option linter.unusedSimpArgs false
theorem frB_mk {c : Bool × Int × Int} {ls : List (Int × Bool × Int × Int)} (h1 : liN c = true) (h2 : ls.length ≤ 16) (h3 : rT liN liZ (-1) ls = true) : frB (false, c, ls) = true := by
  simp [frB, frR, fR, h1, h2, h3]
end Go.Proofs.YteafnkimcidkhaaGreat


