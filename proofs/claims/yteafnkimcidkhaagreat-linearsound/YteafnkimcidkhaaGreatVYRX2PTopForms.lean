/- Texts of the proof, put together. -/
import Derived.Test.YteafnkimcidkhaaGreatYRXPTopForms
import Derived.Test.YteafnkimcidkhaaGreatYRX1PTopForms
import Derived.Test.YteafnkimcidkhaaGreatYRG1
import Derived.Test.YteafnkimcidkhaaGreatYRG2
import Derived.Test.YteafnkimcidkhaaGreatYRSpWf
import Derived.Test.YteafnkimcidkhaaGreatShelf
import Derived.Test.YteafnkimcidkhaaGreatYRMB1
import Derived.Test.YteafnkimcidkhaaGreatYRMB2
import Derived.Test.YteafnkimcidkhaaGreatYRMB3
import Derived.Test.YteafnkimcidkhaaGreatYRSpF
import Derived.Test.YteafnkimcidkhaaGreatYRSpFl
import Derived.Test.YteafnkimcidkhaaGreatYRLjF
import Derived.Test.YteafnkimcidkhaaGreatYRLjH
import Derived.Test.YteafnkimcidkhaaGreatYRG3
import Derived.Test.YteafnkimcidkhaaGreatYRLiF
import Derived.Test.YteafnkimcidkhaaGreatYRLiG
import Derived.Test.YteafnkimcidkhaaGreatYRLiH
import Derived.Test.YteafnkimcidkhaaGreatYRLiI
import Derived.Test.YteafnkimcidkhaaGreatYRLiJ
import Derived.Test.YteafnkimcidkhaaGreatYRLiK
import Derived.Test.YteafnkimcidkhaaGreatYRLiL
import Derived.Test.YteafnkimcidkhaaGreatYRLiB
import Derived.Test.YteafnkimcidkhaaGreatYRMB4
import Derived.Test.YteafnkimcidkhaaGreatYRMB5
import Derived.Test.YteafnkimcidkhaaGreatYRLiO
import Derived.Test.YteafnkimcidkhaaGreatYRG5
import Derived.Test.YteafnkimcidkhaaGreatYRG4
import Derived.Test.YteafnkimcidkhaaGreatYRG6
import Derived.Test.YteafnkimcidkhaaGreatYRG7
import Derived.Test.YteafnkimcidkhaaGreatYRG8
import Derived.Test.YteafnkimcidkhaaGreatYRG9
import Derived.RangeFuncNested
import Derived.RangeFuncCalls
import Derived.Below
import Derived.WalkKit
import Derived.WalkSpells
import Derived.StillTactics
import Derived.Laws.Pointers
import Derived.Laws.Externs
import Derived.Deep.RegionHeld3
import Derived.RowKit
import Derived.Laws.EntriesVeiled
import Derived.Shelf.Abstract
import Derived.RangeFuncBound
import Derived.RangeFuncLeaves
import Derived.Shelf.RegionOpen
import Derived.OwnWalkIn
import Derived.TacticsInMore
import Derived.LoopNIn
import Derived.LoopIn
import Derived.Laws.Bits64
import Derived.Laws.Bits64b
import Derived.Lib.Mul64
import Derived.Lib.BitFns
import Derived.Shelf.Spec.BitsCarry
import Derived.BigQuiet
import Derived.Deep.QuietTactic
import Derived.Deep.DeepCutAuto
import Derived.ScopeJumps
import Derived.Deep.CutBlock
import Derived.Laws.BitsAllLaws
import Derived.Deep.Draws
import Derived.Deep.DrawnRows
import Derived.Laws.Append
import Derived.Deep.Upon
import Derived.ProofKit
import Derived.OpenShut
import Derived.ChangeOld
import Derived.Lib.SmallJoins
import Derived.Deep.Strs
import Derived.Maps.AppendAt
import Derived.OwnWalk
import Derived.Laws.AppendOwn
import Derived.Deep.RegionWith
namespace Go.Proofs.YteafnkimcidkhaaGreat
set_option linter.unusedVariables false
set_option linter.unusedSimpArgs false
end Go.Proofs.YteafnkimcidkhaaGreat
namespace Go.Proofs.YteafnkimcidkhaaGreat
open Go.RowKit
set_option linter.unusedVariables false
set_option linter.unusedSimpArgs false
end Go.Proofs.YteafnkimcidkhaaGreat


namespace Go.Proofs.YteafnkimcidkhaaGreat
open Go.RowKit
set_option linter.unusedVariables false
set_option linter.unusedSimpArgs false
theorem ofP_wd {x y : Int} (hx : Word x) (hy : Word y) : wdR (ofP (WyF false) x y) := by
  unfold ofP
  split
  · exact ⟨n_plainw _ _ hx, n_plainw _ _ hy⟩
  · exact ⟨word_0, word_0⟩
theorem outP_wd {g : Int → Int → Int → Int} (gw : ∀ m x y, Word x → Word y → Word (g m x y)) {x y : Bool × Int × Int} (hx : wdR x) (hy : wdR y) : wdR (outP g x y).1 := by
  unfold outP
  split
  · exact ⟨word_0, word_0⟩
  · split
    · exact ⟨word_0, word_0⟩
    · split
      · exact ⟨word_0, word_0⟩
      · obtain ⟨ha, hb⟩ := hx
        obtain ⟨hc, hd⟩ := hy
        exact ofP_wd (lesP_word (lesP_word (lesP_word (lesP_word (gw _ _ _ ha hc) (gw _ _ _ ha hc)) (gw _ _ _ ha hd)) (gw _ _ _ hb hc)) (gw _ _ _ hb hd)) (greP_word (greP_word (greP_word (greP_word (gw _ _ _ hb hd) (gw _ _ _ ha hc)) (gw _ _ _ ha hd)) (gw _ _ _ hb hc)) (gw _ _ _ hb hd))
end Go.Proofs.YteafnkimcidkhaaGreat


namespace Go.Proofs.YteafnkimcidkhaaGreat
open Go.RowKit Go.Shelf
set_option linter.unusedVariables false
set_option linter.unusedSimpArgs false
theorem sumP_wd (x y : Bool × Int × Int) (hx : wdR x) (hy : wdR y) : wdR (sumP x y).1 := outP_wd (fun m x y h1 h2 => addF_word false m x y h1 h2) hx hy
theorem prodP_wd (x y : Bool × Int × Int) (hx : wdR x) (hy : wdR y) : wdR (prodP x y).1 := outP_wd (fun m x y h1 h2 => mulF_word false m x y) hx hy
end Go.Proofs.YteafnkimcidkhaaGreat


namespace Go.Proofs.YteafnkimcidkhaaGreat
open Go.RowKit
set_option linter.unusedVariables false
set_option linter.unusedSimpArgs false
theorem sumP_right {x y : Bool × Int × Int} (hx : wdR x) (hy : wdR y) (nx : liN x = true) (ny : liN y = true) (h : (sumP x y).2 = true) : liN (sumP x y).1 = true := by
  obtain ⟨a, b, a1, ab, b1, rfl⟩ := right_is hx nx
  obtain ⟨c, d, c1, cd, d1, rfl⟩ := right_is hy ny
  rw [sumP_mk a1 ab b1 c1 cd d1] at h ⊢
  split at h
  · rename_i hh
    rw [if_pos hh]
    exact mk_right hh.1 hh.2.1 hh.2.2
  · cases h
theorem prodP_right {x y : Bool × Int × Int} (hx : wdR x) (hy : wdR y) (nx : liN x = true) (ny : liN y = true) (h : (prodP x y).2 = true) : liN (prodP x y).1 = true := by
  obtain ⟨a, b, a1, ab, b1, rfl⟩ := right_is hx nx
  obtain ⟨c, d, c1, cd, d1, rfl⟩ := right_is hy ny
  rw [prodP_mk a1 ab b1 c1 cd d1] at h ⊢
  split at h
  · rename_i hh
    rw [if_pos hh]
    exact mk_right hh.1 hh.2.1 hh.2.2
  · cases h
end Go.Proofs.YteafnkimcidkhaaGreat


namespace Go.Proofs.YteafnkimcidkhaaGreat
open Go.RowKit
set_option linter.unusedVariables false
set_option linter.unusedSimpArgs false
def RowFl (w : World) (v : Value) (xs : List Int) : Prop := (v = .slice none 0 0 ∧ xs = []) ∨ ∃ b : Nat, v = .slice (some ⟨b, 0, none⟩) xs.length xs.length ∧ 0 < xs.length ∧ ∀ j x, xs[j]? = some x → w.cell? ⟨b, j, none⟩ = some (.int .u64 x)
theorem RowFl.on {w V : World} {v : Value} {xs : List Int} (h : RowFl w v xs) (g : Below w.heap.size w V) : RowFl V v xs := by
  rcases h with h | ⟨b, h1, h2, h3⟩
  · exact Or.inl h
  · exact Or.inr ⟨b, h1, h2, fun j x hx => sO g (h3 j x hx)⟩
def RowGl (w : World) (v : Value) (xs : List Int) : Prop := (v = .slice none 0 0 ∧ xs = []) ∨ ∃ b cap : Nat, v = .slice (some ⟨b, 0, none⟩) xs.length cap ∧ 0 < xs.length ∧ ∀ j x, xs[j]? = some x → w.cell? ⟨b, j, none⟩ = some (.int .u64 x)
theorem RowFl.r {w : World} {v : Value} {xs : List Int} (h : RowFl w v xs) : RowGl w v xs := by
  rcases h with h | ⟨b, h1, h2, h3⟩
  · exact Or.inl h
  · exact Or.inr ⟨b, _, h1, h2, h3⟩
end Go.Proofs.YteafnkimcidkhaaGreat


namespace Go.Proofs.YteafnkimcidkhaaGreat
open Go.RowKit
set_option linter.unusedVariables false
set_option linter.unusedSimpArgs false
def zI (n : Nat) : Nat := if n = 0 then 0 else (1074 - (53 - blen n)) * 2 ^ 52 + n * 2 ^ (53 - blen n)
theorem zI_parts {n : Nat} (n0 : n ≠ 0) (h : n < 2 ^ 53) : n * 2 ^ (53 - blen n) < 2 ^ 53 ∧ 2 ^ 52 ≤ n * 2 ^ (53 - blen n) ∧ blen n ≤ 53 ∧ 1 ≤ blen n := by
  have b1 := blen_le_of h
  obtain ⟨b2, b3⟩ := blen_le n0
  have b4 := lt_blen n
  refine ⟨?_, ?_, b1, b3⟩
  · have : n * 2 ^ (53 - blen n) < 2 ^ blen n * 2 ^ (53 - blen n) := Nat.mul_lt_mul_of_pos_right b4 (Nat.two_pow_pos _)
    rw [← Nat.pow_add, show blen n + (53 - blen n) = 53 by omega] at this
    exact this
  · have : 2 ^ (blen n - 1) * 2 ^ (53 - blen n) ≤ n * 2 ^ (53 - blen n) := Nat.mul_le_mul_right _ b2
    rw [← Nat.pow_add, show blen n - 1 + (53 - blen n) = 52 by omega] at this
    exact this
theorem zI_lt {n : Nat} (h : n < 2 ^ 53) : ((zI n : Nat) : Int) < fI false := by
  have e : fI false = 9218868437227405312 := rfl
  rw [e]
  unfold zI
  by_cases n0 : n = 0
  · rw [if_pos n0]; decide
  · rw [if_neg n0]
    obtain ⟨a, b, c, d⟩ := zI_parts n0 h
    rw [show (2 : Nat) ^ 53 = 9007199254740992 from rfl] at a
    rw [show (2 : Nat) ^ 52 = 4503599627370496 from rfl]
    generalize n * 2 ^ (53 - blen n) = q at *
    have x1 : 1074 - (53 - blen n) ≤ 1074 := by omega
    generalize 1074 - (53 - blen n) = x at *
    omega
theorem zI_zero {n : Nat} (h : n < 2 ^ 53) : zI n = 0 ↔ n = 0 := by
  unfold zI
  by_cases n0 : n = 0
  · rw [if_pos n0]; simp [n0]
  · rw [if_neg n0]
    obtain ⟨a, b, c, d⟩ := zI_parts n0 h
    generalize n * 2 ^ (53 - blen n) = q at *
    generalize (1074 - (53 - blen n)) * 2 ^ 52 = x at *
    omega
theorem rnd_int (m : Int) (g : Bool) {n : Nat} (h : n < 2 ^ 53) : rnd false m g n 0 = sgnd false g (zI n) := by
  by_cases n0 : n = 0
  · subst n0
    rw [rnd_zero]
    rfl
  · obtain ⟨a, b, c, d⟩ := zI_parts n0 h
    have t := rnd_scale false m g n (53 - blen n) 0
    rw [← t]
    have lt := zI_lt h
    unfold zI at *
    rw [if_neg n0] at *
    generalize hq : n * 2 ^ (53 - blen n) = q at *
    have q0 : q ≠ 0 := by omega
    have e := mag_exact false m g (1074 - (53 - blen n)) q q0 a (Or.inr b) lt
    have e2 : fL false + ((1074 - (53 - blen n) : Nat) : Int) = 0 - ((53 - blen n : Nat) : Int) := by
      have : fL false = -1074 := rfl
      omega
    rw [e2] at e
    unfold rnd
    rw [if_neg q0, e]
    rfl
structure Rep (v : Int) (g : Bool) (n : Nat) : Prop where
  word : Word v
  nan : (cls false v == 0 || cls false v == 5) = false
  inf : (cls false v == 4) = false
  zero : (cls false v == 1) = decide (n = 0)
  sg : sgn false v = g
  val : ∃ K : Nat, K ≤ 1074 ∧ (whl false v).toNat = n * 2 ^ K ∧ pwr false v = -(K : Int)
theorem rep_int (g : Bool) {n : Nat} (h : n < 2 ^ 53) : Rep (sgnd false g (zI n)) g n := by
  have lt := zI_lt h
  have l := fI_lt false
  have md := made false g (zI n) (by omega) (by omega)
  obtain ⟨x, q, e, h1, h2, w, p⟩ := size_parts false g (zI n) lt
  by_cases n0 : n = 0
  · have z0 : zI n = 0 := (zI_zero h).2 n0
    have c1 : cls false (sgnd false g (zI n)) = 1 := by rw [z0]; cases g <;> decide +kernel
    rw [z0] at e
    refine ⟨md.1, by rw [c1]; rfl, by rw [c1]; rfl, by rw [c1]; simp [n0], md.2.2.2, ?_⟩
    have hx : x = 0 ∧ q = 0 := by
      have p52 : (2 : Nat) ^ fP false = 4503599627370496 := rfl
      rw [p52] at e h2
      omega
    obtain ⟨rfl, rfl⟩ := hx
    obtain ⟨K, hK⟩ : ∃ K : Nat, K = 1074 := ⟨_, rfl⟩
    refine ⟨K, by omega, ?_, by rw [p, hK]; rfl⟩
    rw [w, n0, Nat.zero_mul]
  · have z0 : zI n ≠ 0 := fun c => n0 ((zI_zero h).1 c)
    obtain ⟨s1, s2, s3⟩ := self_cls false g (zI n) z0 lt
    obtain ⟨a, b, c, d⟩ := zI_parts n0 h
    refine ⟨md.1, s1, s2, by rw [s3]; simp [n0], md.2.2.2, 53 - blen n, by omega, ?_, ?_⟩
    all_goals
      have ez : zI n = (1074 - (53 - blen n)) * 2 ^ 52 + n * 2 ^ (53 - blen n) := by unfold zI; rw [if_neg n0]
      rw [ez] at e
      have p52 : (2 : Nat) ^ fP false = 4503599627370496 := rfl
      have p53 : (2 : Nat) ^ (fP false + 1) = 9007199254740992 := rfl
      rw [p52] at e h2
      rw [p53] at h1
      generalize n * 2 ^ (53 - blen n) = Q at *
      have uq : x = 1074 - (53 - blen n) ∧ q = Q := by omega
    · rw [w, uq.2]
    · rw [p, uq.1]
      have : fL false = -1074 := rfl
      omega
def FF (n : Int) : Int := rnd false 0 (decide (n < 0)) n.natAbs 0
end Go.Proofs.YteafnkimcidkhaaGreat


namespace Go.Proofs.YteafnkimcidkhaaGreat
set_option linter.unusedVariables false
set_option linter.unusedSimpArgs false
def cv (s t : Bool) (r : Int) : Int := rk t (vl s r) (fL s)
end Go.Proofs.YteafnkimcidkhaaGreat


namespace Go.Proofs.YteafnkimcidkhaaGreat
open Go.RowKit
set_option linter.unusedVariables false
set_option linter.unusedSimpArgs false
set_option maxRecDepth 100000 in
set_option maxHeartbeats 6400000 in
theorem lieval_no (wa ae : Bool) (al ah : Int) (va : Value) (hva : ∃ o n c, va = .slice o n c) (vl : Value) (ok : World → Prop) (hok : ∀ W V, ok W → Below W.heap.size W V → ok V) (kb : ∀ V, ok V → Calls Tryz.prog 73 #[.agg #[.bool wa, .bool ae, .int .u64 al, .int .u64 ah, va]] V fun e w' => e = .returned (.bool false) ∧ Below V.heap.size V w') (w : World) (h0 : ok w) :
    Calls Tryz.prog 35 #[.agg #[.bool wa, .bool ae, .int .u64 al, .int .u64 ah, va], vl] w fun e w' => e = .returned (.tuple #[.agg #[.bool false, .int .u64 0, .int .u64 0], .bool false]) ∧ Below w.heap.size w w' := by
  obtain ⟨pa, na, ca, rfl⟩ := hva
  go_enter Tryz.func35, Tryz.ntmps35
  go_upto_region 1 with fail
  obtain ⟨W, hW⟩ : ∃ W, ((w.alloc (.cells #[.bool wa, .bool ae, .int .u64 al, .int .u64 ah, .slice pa na ca] 31)).alloc (.cells #[.bool false, .int .u64 0, .int .u64 0] 24)) = W := ⟨_, rfl⟩
  have a0 : W.cell? ⟨w.heap.size, 0, none⟩ = some (.bool wa) := by rw [← hW]; simp [go_sem]
  have a1 : W.cell? ⟨w.heap.size, 1, none⟩ = some (.bool ae) := by rw [← hW]; simp [go_sem]
  have a2 : W.cell? ⟨w.heap.size, 2, none⟩ = some (.int .u64 al) := by rw [← hW]; simp [go_sem]
  have a3 : W.cell? ⟨w.heap.size, 3, none⟩ = some (.int .u64 ah) := by rw [← hW]; simp [go_sem]
  have a4 : W.cell? ⟨w.heap.size, 4, none⟩ = some (.slice pa na ca) := by rw [← hW]; simp [go_sem]
  have r0 : W.cell? ⟨w.heap.size + 1, 0, none⟩ = some (.bool false) := by rw [← hW]; simp [go_sem]
  have r1 : W.cell? ⟨w.heap.size + 1, 1, none⟩ = some (.int .u64 0) := by rw [← hW]; simp [go_sem]
  have r2 : W.cell? ⟨w.heap.size + 1, 2, none⟩ = some (.int .u64 0) := by rw [← hW]; simp [go_sem]
  have bW : Below w.heap.size w W := by rw [← hW]; exact (sp_new (sp_new (Below.refl _ _) _) _)
  have zW : W.heap.size = w.heap.size + 2 := by rw [← hW]; simp
  have fz : ∀ j, W.frozen? ⟨w.heap.size + 1, j, none⟩ = false := by intro j; rw [← hW]; simp [go_sem]
  rw [hW]
  clear hW
  replace zW := Nat.le_of_eq zW.symm
  have oW := hok _ _ h0 bW
  go_wp2_with (first
    | (go_at_call 73; (with_reducible refine (kb _ oW).mono ?_); rintro e v1 ⟨rfl, g⟩; replace fz : ∀ j, v1.frozen? ⟨w.heap.size + 1, j, none⟩ = false := fun j => (g.frozen (p := ⟨w.heap.size + 1, j, none⟩) (by first | (simp; done) | (simp; omega))).trans (fz j); replace bW := sp_call bW g; replace zW := Nat.le_trans zW g.size; replace a0 := sO g a0; replace a1 := sO g a1; replace a2 := sO g a2; replace a3 := sO g a3; replace a4 := sO g a4; replace r0 := sO g r0; replace r1 := sO g r1; replace r2 := sO g r2; clear g)
    | fail)
  exact bodyPost_ret (v := .tuple #[.agg #[.bool false, .int .u64 0, .int .u64 0], .bool false]) (by simp [results, Tryz.results35, go_sem, r0, r1, r2]) rfl ⟨rfl, (by (repeat (first | with_reducible assumption | with_reducible refine li_set1 ?_ (by omega) _ | with_reducible refine sp_new ?_ _)))⟩
end Go.Proofs.YteafnkimcidkhaaGreat

namespace Go.Proofs.YteafnkimcidkhaaGreat
open Go.ChangeShapes Go.WideShapes Go.ChangeAt Go.RowKit Go.Joins Go.Deep
set_option linter.unusedVariables false
set_option linter.unusedSimpArgs false
section
variable {H : Type} {enc : TypeId × Value → H} {w : World} {base : Nat} {spare : Nat → Bool} {held : Bool}
theorem sp_okarr {P : Program} {t e : TypeId} {k : Nat} {r : Reach} {b0 : Nat} {v : Value} (ht : P.underlying t = some (.array k e)) (h : Value.okWide P w r b0 t v) : ∃ cs, v = .agg cs ∧ cs.size = P.cellsOf t := by
  simp only [Value.okWide, ht] at h
  obtain ⟨cs, h1, h2, _⟩ := h
  exact ⟨cs, h1, h2⟩
end
end Go.Proofs.YteafnkimcidkhaaGreat


namespace Go.Proofs.YteafnkimcidkhaaGreat
open Go.RowKit
set_option linter.unusedVariables false
set_option linter.unusedSimpArgs false
set_option maxRecDepth 100000 in
theorem tixT (b o m c j : Nat) (hj : j < m) (w : World) : (Instr.indexAt 29 (.slice (some ⟨b, o, none⟩) m c) (.int .i64 j)).run Tryz.prog w = .ok (.pointer (some ⟨b, o + j * 4, none⟩)) w := by
  have e2 : ∀ w, (sizeOf (Tryz.prog.elem 29)).run Tryz.prog w = .ok 4 w := fun w => by kernel_rfl
  rw [run_indexAt_slice (h := by first | exact Tryz.underlying29 | rfl), if_pos ⟨by omega, by omega⟩, e2]
  simp [go_sem]
structure RefI (w : World) (p : Nat) (x0 x1 : Bool) (x2 x3 : Int) (ls : List (Int × Bool × Int × Int)) (va : Value) (j : Nat) (v : Value) (V : World) : Prop where
  a4 : V.cell? ⟨p, 4, none⟩ = some va
  q : V.heap[p + 1 + 1]? = some (.cells #[.bool x0, .bool x1, .int .u64 x2, .int .u64 x3, v] 38 (0, 0))
  r : V.heap[p + 1]? = some (.cells #[.bool false, .bool false, .int .u64 0, .int .u64 0, .slice none 0 0] 38 (0, 0))
  own : V.ownsRow (p + 3) 100 4 v j (tcs (ls.take j))
  bel : Below w.heap.size w V
  siz : p + 3 ≤ V.heap.size
theorem RefI.on {w : World} {p : Nat} {x0 x1 : Bool} {x2 x3 : Int} {ls : List (Int × Bool × Int × Int)} {va : Value} {j : Nat} {v : Value} {V V' : World} (h : RefI w p x0 x1 x2 x3 ls va j v V) (g : Below V.heap.size V V') : RefI w p x0 x1 x2 x3 ls va j v V' :=
  ⟨sO g h.a4, carryF g h.q, carryF g h.r, lo_on g h.own, sp_call h.bel g, Nat.le_trans h.siz g.size⟩
end Go.Proofs.YteafnkimcidkhaaGreat


namespace Go.Proofs.YteafnkimcidkhaaGreat
open Go.RowKit
set_option linter.unusedVariables false
set_option linter.unusedSimpArgs false
def rg (rs : List (Bool × Int × Int)) (q : Int) : Bool × Int × Int := rs.getD q.toNat (false, 0, 0)
def arP (rs : List (Bool × Int × Int)) (t : Int × Bool × Int × Int) : Bool := decide (t.1 < (rs.length : Int)) && liR (rg rs t.1)
def seP (rs : List (Bool × Int × Int)) (t : Int × Bool × Int × Int) : Bool := (rg rs t.1).1
set_option maxRecDepth 100000 in
theorem tixF (b o m c j : Nat) (hj : j < m) (w : World) : (Instr.indexAt 51 (.slice (some ⟨b, o, none⟩) m c) (.int .i64 j)).run Tryz.prog w = .ok (.pointer (some ⟨b, o + j * 3, none⟩)) w := by
  have e2 : ∀ w, (sizeOf (Tryz.prog.elem 51)).run Tryz.prog w = .ok 3 w := fun w => by kernel_rfl
  rw [run_indexAt_slice (h := by first | exact Tryz.underlying51 | rfl), if_pos ⟨by omega, by omega⟩, e2]
  simp [go_sem]
theorem TAt.get {W : World} {pa : Option Addr} {n ca : Nat} {ls : List (Int × Bool × Int × Int)} (h : TAt W (.slice pa n ca) ls) {j : Nat} {t : Int × Bool × Int × Int} (hj : ls[j]? = some t) : ∃ b o : Nat, pa = some ⟨b, o, none⟩ ∧ (W.cell? ⟨b, o + j * 4, none⟩ = some (.int .i64 t.1) ∧ W.cell? ⟨b, o + j * 4 + 1, none⟩ = some (.bool t.2.1) ∧ W.cell? ⟨b, o + j * 4 + 2, none⟩ = some (.int .u64 t.2.2.1) ∧ W.cell? ⟨b, o + j * 4 + 3, none⟩ = some (.int .u64 t.2.2.2)) := by
  rcases h with ⟨_, h⟩ | ⟨b, o, cap, h1, h2, h3⟩
  · rw [h] at hj; simp at hj
  · cases h1
    exact ⟨b, o, rfl, h3 j t hj⟩
theorem RAt.get {W : World} {pa : Option Addr} {n ca : Nat} {rs : List (Bool × Int × Int)} (h : RAt W (.slice pa n ca) rs) {q : Int} (h0 : 0 ≤ q) (hq : q < (rs.length : Int)) : ∃ b o : Nat, pa = some ⟨b, o, none⟩ ∧ W.cell? ⟨b, o + q.toNat * 3, none⟩ = some (.bool (rg rs q).1) ∧ W.cell? ⟨b, o + q.toNat * 3 + 1, none⟩ = some (.int .u64 (rg rs q).2.1) ∧ W.cell? ⟨b, o + q.toNat * 3 + 2, none⟩ = some (.int .u64 (rg rs q).2.2) := by
  have hj : rs[q.toNat]? = some (rg rs q) := by
    rw [List.getElem?_eq_getElem (show q.toNat < rs.length by omega)]
    simp [rg, List.getD, List.getElem?_eq_getElem (show q.toNat < rs.length by omega)]
  rcases h with ⟨_, h⟩ | ⟨b, o, cap, h1, h2, h3⟩
  · rw [h] at hj; simp at hj
  · cases h1
    exact ⟨b, o, rfl, h3 _ _ hj⟩
theorem rg_wd {rs : List (Bool × Int × Int)} (hw : ∀ r ∈ rs, wdR r) (q : Int) : wdR (rg rs q) := by
  unfold rg
  by_cases h : q.toNat < rs.length
  · have : rs.getD q.toNat (false, 0, 0) = rs[q.toNat] := by simp [List.getD, List.getElem?_eq_getElem h]
    rw [this]
    exact hw _ (List.getElem_mem h)
  · have : rs.getD q.toNat (false, 0, 0) = (false, 0, 0) := by simp [List.getD, List.getElem?_eq_none (show rs.length ≤ q.toNat by omega)]
    rw [this]
    exact wd0
theorem all_step {α : Type} {f : α → Bool} {l : List α} {j : Nat} {t : α} (h : l[j]? = some t) : (l.drop j).all f = (f t && (l.drop (j + 1)).all f) := by
  have hj := (List.getElem?_eq_some_iff.1 h)
  rw [List.drop_eq_getElem_cons hj.1, hj.2]
  rfl
theorem any_step {α : Type} {f : α → Bool} {l : List α} {j : Nat} {t : α} (h : l[j]? = some t) : (l.drop j).any f = (f t || (l.drop (j + 1)).any f) := by
  have hj := (List.getElem?_eq_some_iff.1 h)
  rw [List.drop_eq_getElem_cons hj.1, hj.2]
  rfl
set_option maxRecDepth 100000 in
set_option maxHeartbeats 6400000 in
theorem allright_any (ls : List (Int × Bool × Int × Int)) (rs : List (Bool × Int × Int)) (hl : ls.length ≤ 400) (hn : ∀ t ∈ ls, 0 ≤ t.1) (hw : ∀ r ∈ rs, wdR r) (va vr : Value) (w : World) (ta : TAt w va ls) (tr : RAt w vr rs) :
    Calls Tryz.prog 74 #[va, vr] w fun e w' => e = .returned (.bool (ls.all (arP rs))) ∧ Below w.heap.size w w' := by
  obtain ⟨pa, ca, rfl⟩ := ta.len
  obtain ⟨pr, cr, rfl⟩ := tr.len
  obtain ⟨len, hlen⟩ : ∃ n, ls.length = n := ⟨_, rfl⟩
  obtain ⟨m, hm⟩ : ∃ n, rs.length = n := ⟨_, rfl⟩
  have ta' : Hid (TAt w (.slice pa len ca) ls) := by rw [← hlen]; exact ta
  have tr' : Hid (RAt w (.slice pr m cr) rs) := by rw [← hm]; exact tr
  have hlen' : Hid (ls.length = len) := hlen
  have hm' : Hid (rs.length = m) := hm
  rw [hlen, hm]
  have l4 : len ≤ 400 := by omega
  clear ta tr hlen hm hl
  go_enter Tryz.func74, Tryz.ntmps74
  go_wp2_with fail
  go_loopw [9] (fun i wr => ∃ (V : World) (j : Nat), V = wr ∧ j ≤ len ∧ i = .int .i64 j ∧ Below w.heap.size w wr ∧ (ls.all (arP rs) = (ls.drop j).all (arP rs))) (fun i _ => len - (intOf i).toNat)
  case atStart => exact ⟨_, 0, rfl, by omega, rfl, Below.refl _ _, rfl⟩
  case round =>
    obtain ⟨V, j, rfl, hj, rfl, bV, heq⟩ := hrel
    by_cases cj : j < len
    case neg =>
      have ej : j = len := by omega
      subst ej
      have fin : Hid (ls.all (arP rs) = true) := (show ls.all (arP rs) = true by rw [heq, List.drop_of_length_le (by rw [hlen'.out]; exact Nat.le_refl _)]; rfl)
      clear heq
      go_wp2_with fail
      go_ret
      exact ⟨by rw [fin.out]; rfl, bV⟩
    case pos =>
      have cj' : (j : Int) < (len : Int) := by omega
      have wj : IntKind.i64.wrap ((j : Int) + 1) = ((j + 1 : Nat) : Int) := by rw [IntKind.wrap_i64]; omega
      obtain ⟨t, ht⟩ : ∃ t, ls[j]? = some t := ⟨_, List.getElem?_eq_getElem (by rw [hlen'.out]; exact cj)⟩
      have st := all_step (f := arP rs) ht
      rw [← heq] at st
      have n0 := hn t (List.mem_of_getElem? ht)
      obtain ⟨b, o, rfl, y0, y1, y2, y3⟩ := (ta'.out.on bV).get ht
      have ix := tixT b o len ca j cj
      have wr := rg_wd hw t.1
      have trV := tr'.out.on bV
      clear ht heq
      obtain ⟨t0, t1, t2, t3⟩ := t
      dsimp only at *
      by_cases c1 : t0 < (m : Int)
      case neg =>
        have c1' : (m : Int) ≤ t0 := by omega
        have ff : Hid (ls.all (arP rs) = false) := (show ls.all (arP rs) = false by rw [st]; simp [arP, hm'.out, c1])
        clear st
        go_wp2_with fail
        go_ret
        exact ⟨by rw [ff.out]; rfl, sp_call bV (sp_new (Below.refl _ _) _)⟩
      case pos =>
        have c1' : ¬ (m : Int) ≤ t0 := by omega
        obtain ⟨br, ro, rfl, r0, r1, r2⟩ := trV.get n0 (by rw [hm'.out]; exact c1)
        obtain ⟨k, rfl⟩ : ∃ k : Nat, t0 = (k : Int) := ⟨t0.toNat, by omega⟩
        simp only [Int.toNat_natCast] at r0 r1 r2
        have ix2 := tixF br ro m cr k (by omega)
        have kr := isrange_any (rg rs (k : Int)) wr
        have av : arP rs ((k : Int), t1, t2, t3) = liR (rg rs (k : Int)) := by simp [arP, hm'.out]; omega
        rw [av] at st
        cases hR : liR (rg rs (k : Int))
        case false =>
          rw [hR] at kr st
          have ff : Hid (ls.all (arP rs) = false) := (show ls.all (arP rs) = false by rw [st]; rfl)
          clear st av trV
          go_upto_region 4 with fail
          have gZ := sp_new (Below.refl _ V) (.cells #[.int .i64 (k : Int), .bool t1, .int .u64 t2, .int .u64 t3] 99)
          have bZ := sp_call bV gZ
          have z0 : (V.alloc (.cells #[.int .i64 (k : Int), .bool t1, .int .u64 t2, .int .u64 t3] 99)).cell? ⟨V.heap.size, 0, none⟩ = some (.int .i64 (k : Int)) := by simp [go_sem]
          replace r0 := sO gZ r0; replace r1 := sO gZ r1; replace r2 := sO gZ r2
          generalize V.alloc (.cells #[.int .i64 (k : Int), .bool t1, .int .u64 t2, .int .u64 t3] 99) = Z at *
          clear gZ
          go_wp2_with (first | (go_at_call 77; refine (kr _).mono ?_; rintro e v1 ⟨rfl, g⟩; replace bZ := sp_call bZ g; clear g kr) | fail)
          go_ret
          exact ⟨by rw [ff.out]; rfl, bZ⟩
        case true =>
          rw [hR] at kr st
          have nx : Hid (ls.all (arP rs) = (ls.drop (j + 1)).all (arP rs)) := (show ls.all (arP rs) = (ls.drop (j + 1)).all (arP rs) by rw [st, Bool.true_and])
          clear st av trV
          go_upto_region 4 with fail
          have gZ := sp_new (Below.refl _ V) (.cells #[.int .i64 (k : Int), .bool t1, .int .u64 t2, .int .u64 t3] 99)
          have bZ := sp_call bV gZ
          have z0 : (V.alloc (.cells #[.int .i64 (k : Int), .bool t1, .int .u64 t2, .int .u64 t3] 99)).cell? ⟨V.heap.size, 0, none⟩ = some (.int .i64 (k : Int)) := by simp [go_sem]
          replace r0 := sO gZ r0; replace r1 := sO gZ r1; replace r2 := sO gZ r2
          generalize V.alloc (.cells #[.int .i64 (k : Int), .bool t1, .int .u64 t2, .int .u64 t3] 99) = Z at *
          clear gZ
          go_wp2_with (first | (go_at_call 77; refine (kr _).mono ?_; rintro e v1 ⟨rfl, g⟩; replace bZ := sp_call bZ g; clear g kr) | fail)
          exact ⟨⟨_, j + 1, rfl, by omega, by first | rfl | go_num | simp, bZ, nx.out⟩, by simp [intOf]; omega⟩
set_option maxRecDepth 100000 in
set_option maxHeartbeats 6400000 in
theorem someempty_any (ls : List (Int × Bool × Int × Int)) (rs : List (Bool × Int × Int)) (hl : ls.length ≤ 400) (hn : ∀ t ∈ ls, 0 ≤ t.1 ∧ t.1 < (rs.length : Int)) (va vr : Value) (w : World) (ta : TAt w va ls) (tr : RAt w vr rs) :
    Calls Tryz.prog 75 #[va, vr] w fun e w' => e = .returned (.bool (ls.any (seP rs))) ∧ Below w.heap.size w w' := by
  obtain ⟨pa, ca, rfl⟩ := ta.len
  obtain ⟨pr, cr, rfl⟩ := tr.len
  obtain ⟨len, hlen⟩ : ∃ n, ls.length = n := ⟨_, rfl⟩
  obtain ⟨m, hm⟩ : ∃ n, rs.length = n := ⟨_, rfl⟩
  have ta' : Hid (TAt w (.slice pa len ca) ls) := by rw [← hlen]; exact ta
  have tr' : Hid (RAt w (.slice pr m cr) rs) := by rw [← hm]; exact tr
  have hlen' : Hid (ls.length = len) := hlen
  have hm' : Hid (rs.length = m) := hm
  rw [hlen, hm]
  have l4 : len ≤ 400 := by omega
  clear ta tr hlen hm hl
  go_enter Tryz.func75, Tryz.ntmps75
  go_wp2_with fail
  go_loopw [9] (fun i wr => ∃ (V : World) (j : Nat), V = wr ∧ j ≤ len ∧ i = .int .i64 j ∧ Below w.heap.size w wr ∧ (ls.any (seP rs) = (ls.drop j).any (seP rs))) (fun i _ => len - (intOf i).toNat)
  case atStart => exact ⟨_, 0, rfl, by omega, rfl, Below.refl _ _, rfl⟩
  case round =>
    obtain ⟨V, j, rfl, hj, rfl, bV, heq⟩ := hrel
    by_cases cj : j < len
    case neg =>
      have ej : j = len := by omega
      subst ej
      have fin : Hid (ls.any (seP rs) = false) := (show ls.any (seP rs) = false by rw [heq, List.drop_of_length_le (by rw [hlen'.out]; exact Nat.le_refl _)]; rfl)
      clear heq
      go_wp2_with fail
      go_ret
      exact ⟨by rw [fin.out]; rfl, bV⟩
    case pos =>
      have cj' : (j : Int) < (len : Int) := by omega
      have wj : IntKind.i64.wrap ((j : Int) + 1) = ((j + 1 : Nat) : Int) := by rw [IntKind.wrap_i64]; omega
      obtain ⟨t, ht⟩ : ∃ t, ls[j]? = some t := ⟨_, List.getElem?_eq_getElem (by rw [hlen'.out]; exact cj)⟩
      have st := any_step (f := seP rs) ht
      rw [← heq] at st
      obtain ⟨n0, n1⟩ := hn t (List.mem_of_getElem? ht)
      obtain ⟨b, o, rfl, y0, y1, y2, y3⟩ := (ta'.out.on bV).get ht
      have ix := tixT b o len ca j cj
      have trV := tr'.out.on bV
      clear ht heq
      obtain ⟨t0, t1, t2, t3⟩ := t
      dsimp only at *
      obtain ⟨br, ro, rfl, r0, r1, r2⟩ := trV.get n0 n1
      obtain ⟨k, rfl⟩ : ∃ k : Nat, t0 = (k : Int) := ⟨t0.toNat, by omega⟩
      simp only [Int.toNat_natCast] at r0 r1 r2
      have ix2 := tixF br ro m cr k (by rw [hm'.out] at n1; omega)
      have av : seP rs ((k : Int), t1, t2, t3) = (rg rs (k : Int)).1 := rfl
      rw [av] at st
      generalize (rg rs (k : Int)).1 = R0 at *
      cases R0
      case true =>
        have ff : Hid (ls.any (seP rs) = true) := (show ls.any (seP rs) = true by rw [st]; rfl)
        clear st av trV
        go_upto_region 4 with fail
        have gZ := sp_new (Below.refl _ V) (.cells #[.int .i64 (k : Int), .bool t1, .int .u64 t2, .int .u64 t3] 99)
        have bZ := sp_call bV gZ
        have z0 : (V.alloc (.cells #[.int .i64 (k : Int), .bool t1, .int .u64 t2, .int .u64 t3] 99)).cell? ⟨V.heap.size, 0, none⟩ = some (.int .i64 (k : Int)) := by simp [go_sem]
        replace r0 := sO gZ r0; replace r1 := sO gZ r1; replace r2 := sO gZ r2
        generalize V.alloc (.cells #[.int .i64 (k : Int), .bool t1, .int .u64 t2, .int .u64 t3] 99) = Z at *
        clear gZ
        go_wp2_with fail
        go_ret
        exact ⟨by rw [ff.out]; rfl, bZ⟩
      case false =>
        have nx : Hid (ls.any (seP rs) = (ls.drop (j + 1)).any (seP rs)) := (show ls.any (seP rs) = (ls.drop (j + 1)).any (seP rs) by rw [st, Bool.false_or])
        clear st av trV
        go_upto_region 4 with fail
        have gZ := sp_new (Below.refl _ V) (.cells #[.int .i64 (k : Int), .bool t1, .int .u64 t2, .int .u64 t3] 99)
        have bZ := sp_call bV gZ
        have z0 : (V.alloc (.cells #[.int .i64 (k : Int), .bool t1, .int .u64 t2, .int .u64 t3] 99)).cell? ⟨V.heap.size, 0, none⟩ = some (.int .i64 (k : Int)) := by simp [go_sem]
        replace r0 := sO gZ r0; replace r1 := sO gZ r1; replace r2 := sO gZ r2
        generalize V.alloc (.cells #[.int .i64 (k : Int), .bool t1, .int .u64 t2, .int .u64 t3] 99) = Z at *
        clear gZ
        go_wp2_with fail
        exact ⟨⟨_, j + 1, rfl, by omega, by first | rfl | go_num | simp, bZ, nx.out⟩, by simp [intOf]; omega⟩
end Go.Proofs.YteafnkimcidkhaaGreat


namespace Go.Proofs.YteafnkimcidkhaaGreat
open Go.RowKit
set_option linter.unusedVariables false
set_option linter.unusedSimpArgs false
theorem lj_old {W : World} {c : Nat} {o : Obj} (q : W.heap[c]? = some o) (o' : Obj) : (W.alloc o').heap[c]? = some o := (Below.heap_alloc W o' c (Array.getElem?_eq_some_iff.1 q).1).trans q
theorem lj_set3 {W : World} {b : Nat} {t : TypeId} {z : Nat × Nat} {y0 y1 y2 : Value} (q : W.heap[b]? = some (.cells #[y0, y1, y2] t z)) (x0 x1 x2 : Value) : (((W.setCell ⟨b, 0, none⟩ x0).setCell ⟨b, 1, none⟩ x1).setCell ⟨b, 2, none⟩ x2).heap[b]? = some (.cells #[x0, x1, x2] t z) := by
  have h := (at_set (at_set (at_set q 0 x0) 1 x1) 2 x2)
  simpa using h
theorem lj_far3 {W : World} {b c : Nat} {o : Obj} (q : W.heap[c]? = some o) (x0 x1 x2 : Value) (h : b ≠ c) : (((W.setCell ⟨b, 0, none⟩ x0).setCell ⟨b, 1, none⟩ x1).setCell ⟨b, 2, none⟩ x2).heap[c]? = some o := by
  rw [at_far _ _ h, at_far _ _ h, at_far _ _ h, q]
set_option maxRecDepth 100000 in
set_option maxHeartbeats 6400000 in
theorem lieval_ar (x0 x1 : Bool) (x2 x3 : Int) (ls : List (Int × Bool × Int × Int)) (rs : List (Bool × Int × Int)) (pa pr : Option Addr) (len ca m cr : Nat) (kb : ∀ V, TAt V (.slice pa len ca) ls → Calls Tryz.prog 73 #[.agg #[.bool x0, .bool x1, .int .u64 x2, .int .u64 x3, .slice pa len ca]] V fun e w' => e = .returned (.bool true) ∧ Below V.heap.size V w') (ka : ∀ V, TAt V (.slice pa len ca) ls → RAt V (.slice pr m cr) rs → Calls Tryz.prog 74 #[.slice pa len ca, .slice pr m cr] V fun e w' => e = .returned (.bool false) ∧ Below V.heap.size V w') (w : World) (ta : TAt w (.slice pa len ca) ls) (tr : RAt w (.slice pr m cr) rs) :
    Calls Tryz.prog 35 #[.agg #[.bool x0, .bool x1, .int .u64 x2, .int .u64 x3, .slice pa len ca], .slice pr m cr] w fun e w' => e = .returned (.tuple #[.agg #[.bool false, .int .u64 0, .int .u64 0], .bool false]) ∧ Below w.heap.size w w' := by
  obtain ⟨p, hp⟩ : ∃ p, w.heap.size = p := ⟨_, rfl⟩
  obtain ⟨W, hW⟩ : ∃ W, (w.alloc (.cells #[.bool x0, .bool x1, .int .u64 x2, .int .u64 x3, .slice pa len ca] 31)).alloc (.cells #[.bool false, .int .u64 0, .int .u64 0] 24) = W := ⟨_, rfl⟩
  have bW : Below w.heap.size w W := by rw [← hW]; exact sp_new (sp_new (Below.refl _ _) _) _
  have a0 : W.cell? ⟨p, 0, none⟩ = some (.bool x0) := by rw [← hW, ← hp]; simp [go_sem]
  have a1 : W.cell? ⟨p, 1, none⟩ = some (.bool x1) := by rw [← hW, ← hp]; simp [go_sem]
  have a2 : W.cell? ⟨p, 2, none⟩ = some (.int .u64 x2) := by rw [← hW, ← hp]; simp [go_sem]
  have a3 : W.cell? ⟨p, 3, none⟩ = some (.int .u64 x3) := by rw [← hW, ← hp]; simp [go_sem]
  have a4 : W.cell? ⟨p, 4, none⟩ = some (.slice pa len ca) := by rw [← hW, ← hp]; simp [go_sem]
  have q : W.heap[p + 1]? = some (.cells #[.bool false, .int .u64 0, .int .u64 0] 24 (0, 0)) := by
    have := World.alloc_heap_new (w.alloc (.cells #[.bool x0, .bool x1, .int .u64 x2, .int .u64 x3, .slice pa len ca] 31)) (.cells #[.bool false, .int .u64 0, .int .u64 0] 24)
    rw [hW] at this
    rw [← hp]
    simpa using this
  go_enter Tryz.func35, Tryz.ntmps35
  go_upto_region 1 with fail
  (try rw [hW])
  (try rw [hp])
  clear hW
  have kb1 := fun V g => kb V (ta.on g)
  have ka1 := fun V g => ka V (ta.on g) (tr.on g)
  go_upto_region 2 with (first
    | (go_at_call 73; refine (kb1 _ bW).mono ?_; rintro e v1 ⟨rfl, g⟩; replace a0 := sO g a0; replace a1 := sO g a1; replace a2 := sO g a2; replace a3 := sO g a3; replace a4 := sO g a4; replace q := carryF g q; replace bW := sp_call bW g; clear g; clear kb1)
    | (go_at_call 74; refine (ka1 _ bW).mono ?_; rintro e v2 ⟨rfl, g⟩; replace a0 := sO g a0; replace a1 := sO g a1; replace a2 := sO g a2; replace a3 := sO g a3; replace a4 := sO g a4; replace q := carryF g q; replace bW := sp_call bW g; clear g; clear ka1)
    | fail)
  obtain ⟨q0, q1, q2, qf⟩ := lj_cells3 q
  go_wp2_with fail
  exact bodyPost_ret (v := .tuple #[.agg #[.bool false, .int .u64 0, .int .u64 0], .bool false]) (by simp [results, Tryz.results35, go_sem, q0, q1, q2]) rfl ⟨rfl, by first | exact sp_set3 bW (by omega) _ _ _ | (rw [← hp]; exact sp_set3 bW (by omega) _ _ _)⟩
set_option maxRecDepth 100000 in
set_option maxHeartbeats 6400000 in
theorem lieval_em (x0 x1 : Bool) (x2 x3 : Int) (ls : List (Int × Bool × Int × Int)) (rs : List (Bool × Int × Int)) (pa pr : Option Addr) (len ca m cr : Nat) (kb : ∀ V, TAt V (.slice pa len ca) ls → Calls Tryz.prog 73 #[.agg #[.bool x0, .bool x1, .int .u64 x2, .int .u64 x3, .slice pa len ca]] V fun e w' => e = .returned (.bool true) ∧ Below V.heap.size V w') (ka : ∀ V, TAt V (.slice pa len ca) ls → RAt V (.slice pr m cr) rs → Calls Tryz.prog 74 #[.slice pa len ca, .slice pr m cr] V fun e w' => e = .returned (.bool true) ∧ Below V.heap.size V w') (ks : ∀ V, TAt V (.slice pa len ca) ls → RAt V (.slice pr m cr) rs → Calls Tryz.prog 75 #[.slice pa len ca, .slice pr m cr] V fun e w' => e = .returned (.bool true) ∧ Below V.heap.size V w') (w : World) (ta : TAt w (.slice pa len ca) ls) (tr : RAt w (.slice pr m cr) rs) :
    Calls Tryz.prog 35 #[.agg #[.bool x0, .bool x1, .int .u64 x2, .int .u64 x3, .slice pa len ca], .slice pr m cr] w fun e w' => e = .returned (.tuple #[.agg #[.bool true, .int .u64 0, .int .u64 0], .bool true]) ∧ Below w.heap.size w w' := by
  obtain ⟨p, hp⟩ : ∃ p, w.heap.size = p := ⟨_, rfl⟩
  obtain ⟨W, hW⟩ : ∃ W, (w.alloc (.cells #[.bool x0, .bool x1, .int .u64 x2, .int .u64 x3, .slice pa len ca] 31)).alloc (.cells #[.bool false, .int .u64 0, .int .u64 0] 24) = W := ⟨_, rfl⟩
  have bW : Below w.heap.size w W := by rw [← hW]; exact sp_new (sp_new (Below.refl _ _) _) _
  have a0 : W.cell? ⟨p, 0, none⟩ = some (.bool x0) := by rw [← hW, ← hp]; simp [go_sem]
  have a1 : W.cell? ⟨p, 1, none⟩ = some (.bool x1) := by rw [← hW, ← hp]; simp [go_sem]
  have a2 : W.cell? ⟨p, 2, none⟩ = some (.int .u64 x2) := by rw [← hW, ← hp]; simp [go_sem]
  have a3 : W.cell? ⟨p, 3, none⟩ = some (.int .u64 x3) := by rw [← hW, ← hp]; simp [go_sem]
  have a4 : W.cell? ⟨p, 4, none⟩ = some (.slice pa len ca) := by rw [← hW, ← hp]; simp [go_sem]
  have q : W.heap[p + 1]? = some (.cells #[.bool false, .int .u64 0, .int .u64 0] 24 (0, 0)) := by
    have := World.alloc_heap_new (w.alloc (.cells #[.bool x0, .bool x1, .int .u64 x2, .int .u64 x3, .slice pa len ca] 31)) (.cells #[.bool false, .int .u64 0, .int .u64 0] 24)
    rw [hW] at this
    rw [← hp]
    simpa using this
  go_enter Tryz.func35, Tryz.ntmps35
  go_upto_region 1 with fail
  (try rw [hW])
  (try rw [hp])
  clear hW
  have kb1 := fun V g => kb V (ta.on g)
  have ka1 := fun V g => ka V (ta.on g) (tr.on g)
  go_upto_region 4 with (first
    | (go_at_call 73; refine (kb1 _ bW).mono ?_; rintro e v1 ⟨rfl, g⟩; replace a0 := sO g a0; replace a1 := sO g a1; replace a2 := sO g a2; replace a3 := sO g a3; replace a4 := sO g a4; replace q := carryF g q; replace bW := sp_call bW g; clear g; clear kb1)
    | (go_at_call 74; refine (ka1 _ bW).mono ?_; rintro e v2 ⟨rfl, g⟩; replace a0 := sO g a0; replace a1 := sO g a1; replace a2 := sO g a2; replace a3 := sO g a3; replace a4 := sO g a4; replace q := carryF g q; replace bW := sp_call bW g; clear g; clear ka1)
    | (go_at_call 75; refine (ks _ (ta.on bW) (tr.on bW)).mono ?_; rintro e v3 ⟨rfl, g⟩; replace a0 := sO g a0; replace a1 := sO g a1; replace a2 := sO g a2; replace a3 := sO g a3; replace a4 := sO g a4; replace q := carryF g q; replace bW := sp_call bW g; clear g)
    | fail)
  obtain ⟨q0, q1, q2, qf⟩ := lj_cells3 q
  go_wp2_with fail
  exact bodyPost_ret (v := .tuple #[.agg #[.bool true, .int .u64 0, .int .u64 0], .bool true]) (by simp [results, Tryz.results35, go_sem, q0, q1, q2]) rfl ⟨rfl, by first | exact sp_set3 bW (by omega) _ _ _ | (rw [← hp]; exact sp_set3 bW (by omega) _ _ _)⟩
def evL (rs : List (Bool × Int × Int)) : Bool × Int × Int → List (Int × Bool × Int × Int) → (Bool × Int × Int) × Bool
  | r, [] => (r, true)
  | r, t :: ls => if (prodP t.2 (rg rs t.1)).2 = false then ((false, 0, 0), false) else if (sumP r (prodP t.2 (rg rs t.1)).1).2 = false then ((false, 0, 0), false) else evL rs (sumP r (prodP t.2 (rg rs t.1)).1).1 ls
theorem evL_step {rs : List (Bool × Int × Int)} {r : Bool × Int × Int} {ls : List (Int × Bool × Int × Int)} {j : Nat} {t : Int × Bool × Int × Int} (h : ls[j]? = some t) : evL rs r (ls.drop j) = if (prodP t.2 (rg rs t.1)).2 = false then ((false, 0, 0), false) else if (sumP r (prodP t.2 (rg rs t.1)).1).2 = false then ((false, 0, 0), false) else evL rs (sumP r (prodP t.2 (rg rs t.1)).1).1 (ls.drop (j + 1)) := by
  have hj := (List.getElem?_eq_some_iff.1 h)
  rw [List.drop_eq_getElem_cons hj.1, hj.2]
  rfl
set_option maxRecDepth 100000 in
set_option maxHeartbeats 6400000 in
theorem lieval_go (x0 x1 : Bool) (x2 x3 : Int) (ls : List (Int × Bool × Int × Int)) (rs : List (Bool × Int × Int)) (pa pr : Option Addr) (len ca m cr : Nat) (hlen : ls.length = len) (hm : rs.length = m) (hl : len ≤ 400) (hn : ∀ t ∈ ls, 0 ≤ t.1 ∧ t.1 < (m : Int)) (wl : ∀ t ∈ ls, wdR t.2) (wr : ∀ r ∈ rs, wdR r) (wx : wdR (x1, x2, x3)) (kb : ∀ V, TAt V (.slice pa len ca) ls → Calls Tryz.prog 73 #[.agg #[.bool x0, .bool x1, .int .u64 x2, .int .u64 x3, .slice pa len ca]] V fun e w' => e = .returned (.bool true) ∧ Below V.heap.size V w') (ka : ∀ V, TAt V (.slice pa len ca) ls → RAt V (.slice pr m cr) rs → Calls Tryz.prog 74 #[.slice pa len ca, .slice pr m cr] V fun e w' => e = .returned (.bool true) ∧ Below V.heap.size V w') (ks : ∀ V, TAt V (.slice pa len ca) ls → RAt V (.slice pr m cr) rs → Calls Tryz.prog 75 #[.slice pa len ca, .slice pr m cr] V fun e w' => e = .returned (.bool false) ∧ Below V.heap.size V w') (w : World) (ta : TAt w (.slice pa len ca) ls) (tr : RAt w (.slice pr m cr) rs) :
    Calls Tryz.prog 35 #[.agg #[.bool x0, .bool x1, .int .u64 x2, .int .u64 x3, .slice pa len ca], .slice pr m cr] w fun e w' => e = .returned (.tuple #[.agg #[.bool (evL rs (x1, x2, x3) ls).1.1, .int .u64 (evL rs (x1, x2, x3) ls).1.2.1, .int .u64 (evL rs (x1, x2, x3) ls).1.2.2], .bool (evL rs (x1, x2, x3) ls).2]) ∧ Below w.heap.size w w' := by
  obtain ⟨p, hp⟩ : ∃ p, w.heap.size = p := ⟨_, rfl⟩
  obtain ⟨W, hW⟩ : ∃ W, (w.alloc (.cells #[.bool x0, .bool x1, .int .u64 x2, .int .u64 x3, .slice pa len ca] 31)).alloc (.cells #[.bool false, .int .u64 0, .int .u64 0] 24) = W := ⟨_, rfl⟩
  have bW : Below w.heap.size w W := by rw [← hW]; exact sp_new (sp_new (Below.refl _ _) _) _
  have a0 : W.cell? ⟨p, 0, none⟩ = some (.bool x0) := by rw [← hW, ← hp]; simp [go_sem]
  have a1 : W.cell? ⟨p, 1, none⟩ = some (.bool x1) := by rw [← hW, ← hp]; simp [go_sem]
  have a2 : W.cell? ⟨p, 2, none⟩ = some (.int .u64 x2) := by rw [← hW, ← hp]; simp [go_sem]
  have a3 : W.cell? ⟨p, 3, none⟩ = some (.int .u64 x3) := by rw [← hW, ← hp]; simp [go_sem]
  have a4 : W.cell? ⟨p, 4, none⟩ = some (.slice pa len ca) := by rw [← hW, ← hp]; simp [go_sem]
  have q : W.heap[p + 1]? = some (.cells #[.bool false, .int .u64 0, .int .u64 0] 24 (0, 0)) := by
    have := World.alloc_heap_new (w.alloc (.cells #[.bool x0, .bool x1, .int .u64 x2, .int .u64 x3, .slice pa len ca] 31)) (.cells #[.bool false, .int .u64 0, .int .u64 0] 24)
    rw [hW] at this
    rw [← hp]
    simpa using this
  go_enter Tryz.func35, Tryz.ntmps35
  go_upto_region 1 with fail
  (try rw [hW])
  (try rw [hp])
  clear hW
  have kb1 := fun V g => kb V (ta.on g)
  have ka1 := fun V g => ka V (ta.on g) (tr.on g)
  go_upto_region 5 with (first
    | (go_at_call 73; refine (kb1 _ bW).mono ?_; rintro e v1 ⟨rfl, g⟩; replace a0 := sO g a0; replace a1 := sO g a1; replace a2 := sO g a2; replace a3 := sO g a3; replace a4 := sO g a4; replace q := carryF g q; replace bW := sp_call bW g; clear g; clear kb1)
    | (go_at_call 74; refine (ka1 _ bW).mono ?_; rintro e v2 ⟨rfl, g⟩; replace a0 := sO g a0; replace a1 := sO g a1; replace a2 := sO g a2; replace a3 := sO g a3; replace a4 := sO g a4; replace q := carryF g q; replace bW := sp_call bW g; clear g; clear ka1)
    | (go_at_call 75; refine (ks _ (ta.on bW) (tr.on bW)).mono ?_; rintro e v3 ⟨rfl, g⟩; replace a0 := sO g a0; replace a1 := sO g a1; replace a2 := sO g a2; replace a3 := sO g a3; replace a4 := sO g a4; replace q := carryF g q; replace bW := sp_call bW g; clear g)
    | fail)
  clear ks kb ka
  go_upto_region 6 with fail
  obtain ⟨b6, hb6⟩ : ∃ b, v3.heap.size = b := ⟨_, rfl⟩
  have n61 : b6 ≠ p + 1 := by have := (Array.getElem?_eq_some_iff.1 q).1; omega
  have z6 : w.heap.size ≤ b6 := by have := bW.size; omega
  obtain ⟨V0, hV0⟩ : ∃ V, v3.alloc (.cells #[.bool x1, .int .u64 x2, .int .u64 x3] 24) = V := ⟨_, rfl⟩
  have gN : Below v3.heap.size v3 V0 := by rw [← hV0]; exact sp_new (Below.refl _ _) _
  have q6 : V0.heap[b6]? = some (.cells #[.bool x1, .int .u64 x2, .int .u64 x3] 24 (0, 0)) := by
    have := World.alloc_heap_new v3 (.cells #[.bool x1, .int .u64 x2, .int .u64 x3] 24)
    rw [hV0, hb6] at this
    exact this
  replace a4 := sO gN a4
  replace q := carryF gN q
  replace bW := sp_call bW gN
  rw [hV0]
  (try rw [hb6])
  clear gN hV0 hb6 a0 a1 a2 a3
  have ta' : Hid (TAt w (.slice pa len ca) ls) := ta
  have tr' : Hid (RAt w (.slice pr m cr) rs) := tr
  have hlen' : Hid (ls.length = len) := hlen
  have hm' : Hid (rs.length = m) := hm
  clear ta tr hlen hm
  have kPr := lprod_any
  have kSu := lsum_any
  go_upto_region 7 with fail
  clear a4
  go_loopw [32] (fun i wr => ∃ (V : World) (j : Nat) (R : Bool × Int × Int), V = wr ∧ j ≤ len ∧ i = .int .i64 j ∧ V.heap[p + 1]? = some (.cells #[.bool false, .int .u64 0, .int .u64 0] 24 (0, 0)) ∧ V.heap[b6]? = some (.cells #[.bool R.1, .int .u64 R.2.1, .int .u64 R.2.2] 24 (0, 0)) ∧ Below w.heap.size w V ∧ wdR R ∧ (evL rs (x1, x2, x3) ls = evL rs R (ls.drop j))) (fun i _ => len - (intOf i).toNat)
  case atStart => exact ⟨_, 0, (x1, x2, x3), rfl, by omega, rfl, q, q6, bW, wx, rfl⟩
  case round =>
    clear q q6 bW
    obtain ⟨V, j, ⟨R0, R1, R2⟩, rfl, hj, rfl, q, q6, bV, wR, heq⟩ := hrel
    dsimp only at q6
    by_cases cj : j < len
    case neg =>
      have ej : j = len := by omega
      subst ej
      have fin : evL rs (x1, x2, x3) ls = ((R0, R1, R2), true) := by rw [heq, List.drop_of_length_le (by rw [hlen'.out]; exact Nat.le_refl _)]; rfl
      clear heq
      obtain ⟨q0, q1, q2, qf⟩ := lj_cells3 q
      obtain ⟨g0, g1, g2, gf⟩ := lj_cells3 q6
      go_wp2_with fail
      exact bodyPost_ret (v := .tuple #[.agg #[.bool R0, .int .u64 R1, .int .u64 R2], .bool true]) (by simp [results, Tryz.results35, go_sem, q0, q1, q2]) rfl ⟨by rw [fin], by first | exact sp_set3 bV (by omega) _ _ _ | (rw [← hp]; exact sp_set3 bV (by omega) _ _ _)⟩
    case pos =>
      have cj' : (j : Int) < (len : Int) := by omega
      have wj : IntKind.i64.wrap ((j : Int) + 1) = ((j + 1 : Nat) : Int) := by rw [IntKind.wrap_i64]; omega
      obtain ⟨t, ht⟩ : ∃ t, ls[j]? = some t := ⟨_, List.getElem?_eq_getElem (by rw [hlen'.out]; exact cj)⟩
      have st := evL_step (rs := rs) (r := (R0, R1, R2)) ht
      rw [← heq] at st
      obtain ⟨n0, n1⟩ := hn t (List.mem_of_getElem? ht)
      have wt := wl t (List.mem_of_getElem? ht)
      obtain ⟨b, o, rfl, y0, y1, y2, y3⟩ := (ta'.out.on bV).get ht
      obtain ⟨br, ro, rfl, r0, r1, r2⟩ := (tr'.out.on bV).get n0 (by rw [hm'.out]; exact n1)
      have ix := tixT b o len ca j cj
      have wg := rg_wd wr t.1
      clear ht heq
      obtain ⟨t0, t1, t2, t3⟩ := t
      dsimp only at *
      obtain ⟨k, rfl⟩ : ∃ k : Nat, t0 = (k : Int) := ⟨t0.toNat, by omega⟩
      simp only [Int.toNat_natCast] at r0 r1 r2
      have ix2 := tixF br ro m cr k (by omega)
      have kp := kPr (t1, t2, t3) (rg rs (k : Int)) wt wg
      have wp := prodP_wd (t1, t2, t3) (rg rs (k : Int)) wt wg
      have kS := fun (_ : (prodP (t1, t2, t3) (rg rs (k : Int))).2 = true) => kSu (R0, R1, R2) (prodP (t1, t2, t3) (rg rs (k : Int))).1 wR wp
      have nwd : Hid (wdR (sumP (R0, R1, R2) (prodP (t1, t2, t3) (rg rs (k : Int))).1).1) := sumP_wd _ _ wR wp
      have stp : ((prodP (t1, t2, t3) (rg rs (k : Int))).2 = false → evL rs (x1, x2, x3) ls = ((false, 0, 0), false)) ∧ ((prodP (t1, t2, t3) (rg rs (k : Int))).2 = true → ((sumP (R0, R1, R2) (prodP (t1, t2, t3) (rg rs (k : Int))).1).2 = false → evL rs (x1, x2, x3) ls = ((false, 0, 0), false)) ∧ ((sumP (R0, R1, R2) (prodP (t1, t2, t3) (rg rs (k : Int))).1).2 = true → evL rs (x1, x2, x3) ls = evL rs (sumP (R0, R1, R2) (prodP (t1, t2, t3) (rg rs (k : Int))).1).1 (ls.drop (j + 1)))) :=
        ⟨fun h => by rw [st, if_pos h], fun h => ⟨fun h2 => by rw [st, if_neg (by rw [h]; simp), if_pos h2], fun h2 => by rw [st, if_neg (by rw [h]; simp), if_neg (by rw [h2]; simp)]⟩⟩
      clear st wp wt wg
      generalize sumP (R0, R1, R2) (prodP (t1, t2, t3) (rg rs (k : Int))).1 = NN at *
      generalize prodP (t1, t2, t3) (rg rs (k : Int)) = PP at *
      generalize rg rs (k : Int) = SS at *
      obtain ⟨⟨ne, nl, nh⟩, nk⟩ := NN
      obtain ⟨⟨pe, pl, ph⟩, pk⟩ := PP
      obtain ⟨s0, s1, s2⟩ := SS
      dsimp only at *
      go_upto_region 9 with fail
      obtain ⟨qq, hqq⟩ : ∃ b, V.heap.size = b := ⟨_, rfl⟩
      obtain ⟨Z, hZ⟩ : ∃ Z, V.alloc (.cells #[.int .i64 (k : Int), .bool t1, .int .u64 t2, .int .u64 t3] 99) = Z := ⟨_, rfl⟩
      have gZ : Below V.heap.size V Z := by rw [← hZ]; exact sp_new (Below.refl _ _) _
      have z0 : Z.cell? ⟨qq, 0, none⟩ = some (.int .i64 (k : Int)) := by rw [← hZ, ← hqq]; simp [go_sem]
      have z1 : Z.cell? ⟨qq, 1, none⟩ = some (.bool t1) := by rw [← hZ, ← hqq]; simp [go_sem]
      have z2 : Z.cell? ⟨qq, 2, none⟩ = some (.int .u64 t2) := by rw [← hZ, ← hqq]; simp [go_sem]
      have z3 : Z.cell? ⟨qq, 3, none⟩ = some (.int .u64 t3) := by rw [← hZ, ← hqq]; simp [go_sem]
      replace r0 := sO gZ r0; replace r1 := sO gZ r1; replace r2 := sO gZ r2
      replace q := carryF gZ q
      replace q6 := carryF gZ q6
      replace bV := sp_call bV gZ
      rw [hZ]
      (try rw [hqq])
      clear hZ gZ hqq y0 y1 y2 y3 ix kPr kSu
      have hall : ∀ X9, Below Z.heap.size Z X9 → (X9.cell? ⟨qq, 0, none⟩ = some (.int .i64 (k : Int)) ∧ X9.cell? ⟨qq, 1, none⟩ = some (.bool t1) ∧ X9.cell? ⟨qq, 2, none⟩ = some (.int .u64 t2) ∧ X9.cell? ⟨qq, 3, none⟩ = some (.int .u64 t3) ∧ X9.cell? ⟨br, ro + k * 3, none⟩ = some (.bool s0) ∧ X9.cell? ⟨br, ro + k * 3 + 1, none⟩ = some (.int .u64 s1) ∧ X9.cell? ⟨br, ro + k * 3 + 2, none⟩ = some (.int .u64 s2)) := fun X9 g9 => ⟨sO g9 z0, sO g9 z1, sO g9 z2, sO g9 z3, sO g9 r0, sO g9 r1, sO g9 r2⟩
      have cc : Below Z.heap.size Z Z.drew := (Below.refl _ _).drew
      refine wp_region_held_drew (S := (fun w' => w'.cell? ⟨qq, 0, none⟩ = some (.int .i64 (k : Int)) ∧ w'.cell? ⟨qq, 1, none⟩ = some (.bool t1) ∧ w'.cell? ⟨qq, 2, none⟩ = some (.int .u64 t2) ∧ w'.cell? ⟨qq, 3, none⟩ = some (.int .u64 t3) ∧ w'.cell? ⟨br, ro + k * 3, none⟩ = some (.bool s0) ∧ w'.cell? ⟨br, ro + k * 3 + 1, none⟩ = some (.int .u64 s1) ∧ w'.cell? ⟨br, ro + k * 3 + 2, none⟩ = some (.int .u64 s2))) (by kernel_rfl) (hall _ cc) (fun hH => ?_)
      refine wpAnyH_take (i := 0) (oi := _) (v := .pointer (some ⟨qq, 1, none⟩)) rfl (by kernel_rfl) (by kernel_rfl) (by kernel_rfl) (fun _ _ _ h => h) (Or.inl ⟨by rfl, fun w' hSw => by obtain ⟨zz0, zz1, zz2, zz3, zr0, zr1, zr2⟩ := hSw; go_simp⟩) hH ?_
      simp only [Act.put, List.getElem_toArray, List.getElem_cons_zero, List.getElem_cons_succ, List.setIfInBounds_toArray, List.set_cons_zero, List.set_cons_succ]
      refine wpAnyH_take (i := 1) (oi := _) (v := .agg #[.bool t1, .int .u64 t2, .int .u64 t3]) rfl (by kernel_rfl) (by kernel_rfl) (by kernel_rfl) (fun _ _ _ h => h) (Or.inl ⟨by rfl, fun w' hSw => by obtain ⟨zz0, zz1, zz2, zz3, zr0, zr1, zr2⟩ := hSw; go_simp⟩) hH ?_
      simp only [Act.put, List.getElem_toArray, List.getElem_cons_zero, List.getElem_cons_succ, List.setIfInBounds_toArray, List.set_cons_zero, List.set_cons_succ]
      refine wpAnyH_take (i := 2) (oi := _) (v := .slice (some ⟨br, ro, none⟩) m cr) rfl (by kernel_rfl) (by kernel_rfl) (by kernel_rfl) (fun _ _ _ h => h) (Or.inl ⟨by rfl, fun w' hSw => by obtain ⟨zz0, zz1, zz2, zz3, zr0, zr1, zr2⟩ := hSw; go_simp⟩) hH ?_
      simp only [Act.put, List.getElem_toArray, List.getElem_cons_zero, List.getElem_cons_succ, List.setIfInBounds_toArray, List.set_cons_zero, List.set_cons_succ]
      refine wpAnyH_take (i := 3) (oi := _) (v := .pointer (some ⟨qq, 0, none⟩)) rfl (by kernel_rfl) (by kernel_rfl) (by kernel_rfl) (fun _ _ _ h => h) (Or.inl ⟨by rfl, fun w' hSw => by obtain ⟨zz0, zz1, zz2, zz3, zr0, zr1, zr2⟩ := hSw; go_simp⟩) hH ?_
      simp only [Act.put, List.getElem_toArray, List.getElem_cons_zero, List.getElem_cons_succ, List.setIfInBounds_toArray, List.set_cons_zero, List.set_cons_succ]
      refine wpAnyH_take (i := 4) (oi := _) (v := .int .i64 (k : Int)) rfl (by kernel_rfl) (by kernel_rfl) (by kernel_rfl) (fun _ _ _ h => h) (Or.inl ⟨by rfl, fun w' hSw => by obtain ⟨zz0, zz1, zz2, zz3, zr0, zr1, zr2⟩ := hSw; go_simp⟩) hH ?_
      simp only [Act.put, List.getElem_toArray, List.getElem_cons_zero, List.getElem_cons_succ, List.setIfInBounds_toArray, List.set_cons_zero, List.set_cons_succ]
      refine wpAnyH_take (i := 5) (oi := _) (v := .pointer (some ⟨br, ro + k * 3, none⟩)) rfl (by kernel_rfl) (by kernel_rfl) (by kernel_rfl) (fun _ _ _ h => h) (Or.inl ⟨by rfl, fun w' hSw => by obtain ⟨zz0, zz1, zz2, zz3, zr0, zr1, zr2⟩ := hSw; go_simp⟩) hH ?_
      simp only [Act.put, List.getElem_toArray, List.getElem_cons_zero, List.getElem_cons_succ, List.setIfInBounds_toArray, List.set_cons_zero, List.set_cons_succ]
      refine wpAnyH_take (i := 6) (oi := _) (v := .agg #[.bool s0, .int .u64 s1, .int .u64 s2]) rfl (by kernel_rfl) (by kernel_rfl) (by kernel_rfl) (fun _ _ _ h => h) (Or.inl ⟨by rfl, fun w' hSw => by obtain ⟨zz0, zz1, zz2, zz3, zr0, zr1, zr2⟩ := hSw; go_simp⟩) hH ?_
      simp only [Act.put, List.getElem_toArray, List.getElem_cons_zero, List.getElem_cons_succ, List.setIfInBounds_toArray, List.set_cons_zero, List.set_cons_succ]
      replace q : Z.drew.heap[p + 1]? = _ := q
      replace q6 : Z.drew.heap[b6]? = _ := q6
      replace bV := bV.drew
      generalize hY : Z.drew = Y0 at *
      clear hY
      refine wpAnyH_ready (rs := [7, 11]) (by kernel_rfl) (by simp) (AllReadyH.cons (o := _) rfl (fun K hK => ?_) (AllReadyH.cons (o := _) rfl (fun K hK => ?_) AllReadyH.nil))
      go_simp
      refine (kp _).mono ?_
      rintro e Y1 ⟨rfl, g⟩
      replace cc := sp_call cc g
      replace q := carryF g q; replace q6 := carryF g q6; replace bV := sp_call bV g
      clear g
      go_wp2_with fail
      refine hK.out _ _ (hall _ cc) (fun hH => ?_)
      clear hK K
      try simp only [Act.put, List.getElem_toArray, List.getElem_cons_zero, List.getElem_cons_succ, List.setIfInBounds_toArray, List.set_cons_zero, List.set_cons_succ]
      refine wpAnyH_take (i := 8) (oi := _) (v := .tuple #[.agg #[.bool pe, .int .u64 pl, .int .u64 ph], .bool pk]) rfl (by kernel_rfl) (by kernel_rfl) (by kernel_rfl) (fun _ _ _ h => h) (Or.inl ⟨by rfl, fun w' hSw => by obtain ⟨zz0, zz1, zz2, zz3, zr0, zr1, zr2⟩ := hSw; go_simp⟩) hH ?_
      simp only [Act.put, List.getElem_toArray, List.getElem_cons_zero, List.getElem_cons_succ, List.setIfInBounds_toArray, List.set_cons_zero, List.set_cons_succ]
      refine wpAnyH_take (i := 9) (oi := _) (v := .agg #[.bool pe, .int .u64 pl, .int .u64 ph]) rfl (by kernel_rfl) (by kernel_rfl) (by kernel_rfl) (fun _ _ _ h => h) (Or.inl ⟨by rfl, fun w' hSw => by obtain ⟨zz0, zz1, zz2, zz3, zr0, zr1, zr2⟩ := hSw; go_simp⟩) hH ?_
      simp only [Act.put, List.getElem_toArray, List.getElem_cons_zero, List.getElem_cons_succ, List.setIfInBounds_toArray, List.set_cons_zero, List.set_cons_succ]
      refine wpAnyH_take (i := 10) (oi := _) (v := .bool pk) rfl (by kernel_rfl) (by kernel_rfl) (by kernel_rfl) (fun _ _ _ h => h) (Or.inl ⟨by rfl, fun w' hSw => by obtain ⟨zz0, zz1, zz2, zz3, zr0, zr1, zr2⟩ := hSw; go_simp⟩) hH ?_
      simp only [Act.put, List.getElem_toArray, List.getElem_cons_zero, List.getElem_cons_succ, List.setIfInBounds_toArray, List.set_cons_zero, List.set_cons_succ]
      refine wpAnyH_ready (rs := [11]) (by kernel_rfl) (by simp) (AllReadyH.cons (o := _) rfl (fun K hK => ?_) AllReadyH.nil)
      go_simp
      have q9 := World.alloc_heap_new Y1 (.cells #[.bool false, .int .u64 0, .int .u64 0] 24)
      have ne6 : b6 ≠ Y1.heap.size := Nat.ne_of_lt (Array.getElem?_eq_some_iff.1 q6).1
      have ne1 : p + 1 ≠ Y1.heap.size := Nat.ne_of_lt (Array.getElem?_eq_some_iff.1 q).1
      have z9 : w.heap.size ≤ Y1.heap.size := bV.size
      have y9 : Z.heap.size ≤ Y1.heap.size := cc.size
      replace q := lj_old q (.cells #[.bool false, .int .u64 0, .int .u64 0] 24)
      replace q6 := lj_old q6 (.cells #[.bool false, .int .u64 0, .int .u64 0] 24)
      replace bV := sp_new bV (.cells #[.bool false, .int .u64 0, .int .u64 0] 24)
      replace cc := sp_new cc (.cells #[.bool false, .int .u64 0, .int .u64 0] 24)
      generalize hB : Y1.heap.size = b9 at *
      generalize hY : Y1.alloc (.cells #[.bool false, .int .u64 0, .int .u64 0] 24) = Y2 at *
      clear hY hB
      refine hK.out _ _ (hall _ cc) (fun hH => ?_)
      clear hK K
      try simp only [Act.put, List.getElem_toArray, List.getElem_cons_zero, List.getElem_cons_succ, List.setIfInBounds_toArray, List.set_cons_zero, List.set_cons_succ]
      rotate_left
      go_simp
      have q9 := World.alloc_heap_new Y0 (.cells #[.bool false, .int .u64 0, .int .u64 0] 24)
      have ne6 : b6 ≠ Y0.heap.size := Nat.ne_of_lt (Array.getElem?_eq_some_iff.1 q6).1
      have ne1 : p + 1 ≠ Y0.heap.size := Nat.ne_of_lt (Array.getElem?_eq_some_iff.1 q).1
      have z9 : w.heap.size ≤ Y0.heap.size := bV.size
      have y9 : Z.heap.size ≤ Y0.heap.size := cc.size
      replace q := lj_old q (.cells #[.bool false, .int .u64 0, .int .u64 0] 24)
      replace q6 := lj_old q6 (.cells #[.bool false, .int .u64 0, .int .u64 0] 24)
      replace bV := sp_new bV (.cells #[.bool false, .int .u64 0, .int .u64 0] 24)
      replace cc := sp_new cc (.cells #[.bool false, .int .u64 0, .int .u64 0] 24)
      generalize hB : Y0.heap.size = b9 at *
      generalize hY : Y0.alloc (.cells #[.bool false, .int .u64 0, .int .u64 0] 24) = Y1 at *
      clear hY hB
      refine hK.out _ _ (hall _ cc) (fun hH => ?_)
      clear hK K
      try simp only [Act.put, List.getElem_toArray, List.getElem_cons_zero, List.getElem_cons_succ, List.setIfInBounds_toArray, List.set_cons_zero, List.set_cons_succ]
      refine wpAnyH_ready (rs := [7]) (by kernel_rfl) (by simp) (AllReadyH.cons (o := _) rfl (fun K hK => ?_) AllReadyH.nil)
      go_simp
      refine (kp _).mono ?_
      rintro e Y2 ⟨rfl, g⟩
      replace q9 := carryF g q9
      replace cc := sp_call cc g
      replace q := carryF g q; replace q6 := carryF g q6; replace bV := sp_call bV g
      clear g
      go_wp2_with fail
      refine hK.out _ _ (hall _ cc) (fun hH => ?_)
      clear hK K
      try simp only [Act.put, List.getElem_toArray, List.getElem_cons_zero, List.getElem_cons_succ, List.setIfInBounds_toArray, List.set_cons_zero, List.set_cons_succ]
      refine wpAnyH_take (i := 8) (oi := _) (v := .tuple #[.agg #[.bool pe, .int .u64 pl, .int .u64 ph], .bool pk]) rfl (by kernel_rfl) (by kernel_rfl) (by kernel_rfl) (fun _ _ _ h => h) (Or.inl ⟨by rfl, fun w' hSw => by obtain ⟨zz0, zz1, zz2, zz3, zr0, zr1, zr2⟩ := hSw; go_simp⟩) hH ?_
      simp only [Act.put, List.getElem_toArray, List.getElem_cons_zero, List.getElem_cons_succ, List.setIfInBounds_toArray, List.set_cons_zero, List.set_cons_succ]
      refine wpAnyH_take (i := 9) (oi := _) (v := .agg #[.bool pe, .int .u64 pl, .int .u64 ph]) rfl (by kernel_rfl) (by kernel_rfl) (by kernel_rfl) (fun _ _ _ h => h) (Or.inl ⟨by rfl, fun w' hSw => by obtain ⟨zz0, zz1, zz2, zz3, zr0, zr1, zr2⟩ := hSw; go_simp⟩) hH ?_
      simp only [Act.put, List.getElem_toArray, List.getElem_cons_zero, List.getElem_cons_succ, List.setIfInBounds_toArray, List.set_cons_zero, List.set_cons_succ]
      refine wpAnyH_take (i := 10) (oi := _) (v := .bool pk) rfl (by kernel_rfl) (by kernel_rfl) (by kernel_rfl) (fun _ _ _ h => h) (Or.inl ⟨by rfl, fun w' hSw => by obtain ⟨zz0, zz1, zz2, zz3, zr0, zr1, zr2⟩ := hSw; go_simp⟩) hH ?_
      simp only [Act.put, List.getElem_toArray, List.getElem_cons_zero, List.getElem_cons_succ, List.setIfInBounds_toArray, List.set_cons_zero, List.set_cons_succ]
      all_goals
        refine wpAnyH_ready (rs := [12]) (by kernel_rfl) (by simp) (AllReadyH.cons (o := _) rfl (fun K hK => ?_) AllReadyH.nil)
        obtain ⟨u0, u1, u2, uf⟩ := lj_cells3 q9
        go_simp
        clear u0 u1 u2 uf
        replace q := lj_far3 (b := b9) q (.bool pe) (.int .u64 pl) (.int .u64 ph) (Ne.symm ne1)
        replace q6 := lj_far3 (b := b9) q6 (.bool pe) (.int .u64 pl) (.int .u64 ph) (Ne.symm ne6)
        replace q9 := lj_set3 q9 (.bool pe) (.int .u64 pl) (.int .u64 ph)
        replace bV := sp_set3 (b := b9) bV z9 (.bool pe) (.int .u64 pl) (.int .u64 ph)
        replace cc := sp_set3 (b := b9) cc y9 (.bool pe) (.int .u64 pl) (.int .u64 ph)
        generalize hY : (((Y2.setCell ⟨b9, 0, none⟩ (.bool pe)).setCell ⟨b9, 1, none⟩ (.int .u64 pl)).setCell ⟨b9, 2, none⟩ (.int .u64 ph)) = Y3 at *
        clear hY
        refine hK.out _ _ (hall _ cc) (fun hH => ?_)
        clear hK K
        try simp only [Act.put, List.getElem_toArray, List.getElem_cons_zero, List.getElem_cons_succ, List.setIfInBounds_toArray, List.set_cons_zero, List.set_cons_succ]
        refine wpAnyH_take (i := 13) (oi := _) (v := .bool pk) rfl (by kernel_rfl) (by kernel_rfl) (by kernel_rfl) (fun _ _ _ h => h) (Or.inl ⟨by rfl, fun w' hSw => by obtain ⟨zz0, zz1, zz2, zz3, zr0, zr1, zr2⟩ := hSw; go_simp⟩) hH ?_
        simp only [Act.put, List.getElem_toArray, List.getElem_cons_zero, List.getElem_cons_succ, List.setIfInBounds_toArray, List.set_cons_zero, List.set_cons_succ]
        refine wpAnyH_done (by kernel_rfl) ?_ _
        clear cc hall hH z0 z1 z2 z3 r0 r1 r2
        cases pk
        case false =>
          replace stp := stp.1 rfl
          go_upto_region 11 with fail
          obtain ⟨q0, q1, q2, qf⟩ := lj_cells3 q
          go_wp2_with fail
          exact bodyPost_ret (v := .tuple #[.agg #[.bool false, .int .u64 0, .int .u64 0], .bool false]) (by simp [results, Tryz.results35, go_sem, q0, q1, q2]) rfl ⟨by rw [stp], by first | exact sp_set3 bV (by omega) _ _ _ | (rw [← hp]; exact sp_set3 bV (by omega) _ _ _)⟩
        case true =>
          replace stp := stp.2 rfl
          replace kS := kS rfl
          obtain ⟨g0, g1, g2, gf⟩ := lj_cells3 q6
          obtain ⟨h0, h1, h2, hf⟩ := lj_cells3 q9
          go_upto_region 13 with (first | (go_at_call 13; refine (kS _).mono ?_; rintro e v9 ⟨rfl, g⟩; replace q := carryF g q; replace q6 := carryF g q6; replace bV := sp_call bV g; clear g kS g0 g1 g2 gf h0 h1 h2 hf; obtain ⟨g0, g1, g2, gf⟩ := lj_cells3 q6) | fail)
          replace q := lj_far3 (b := b6) q (.bool ne) (.int .u64 nl) (.int .u64 nh) n61
          replace q6 := lj_set3 q6 (.bool ne) (.int .u64 nl) (.int .u64 nh)
          replace bV := sp_set3 (b := b6) bV z6 (.bool ne) (.int .u64 nl) (.int .u64 nh)
          generalize hY : (((v9.setCell ⟨b6, 0, none⟩ (.bool ne)).setCell ⟨b6, 1, none⟩ (.int .u64 nl)).setCell ⟨b6, 2, none⟩ (.int .u64 nh)) = Y9 at *
          clear hY g0 g1 g2 gf
          cases nk
          case false =>
            replace stp := stp.1 rfl
            go_upto_region 14 with fail
            obtain ⟨q0, q1, q2, qf⟩ := lj_cells3 q
            go_wp2_with fail
            exact bodyPost_ret (v := .tuple #[.agg #[.bool false, .int .u64 0, .int .u64 0], .bool false]) (by simp [results, Tryz.results35, go_sem, q0, q1, q2]) rfl ⟨by rw [stp], by first | exact sp_set3 bV (by omega) _ _ _ | (rw [← hp]; exact sp_set3 bV (by omega) _ _ _)⟩
          case true =>
            replace stp := stp.2 rfl
            go_wp2_with fail
            exact ⟨⟨_, j + 1, (ne, nl, nh), rfl, by omega, by first | rfl | go_num | simp, q, q6, bV, nwd.out, stp⟩, by simp [intOf]; omega⟩

def evaP (A : Frm) (rs : List (Bool × Int × Int)) : (Bool × Int × Int) × Bool := if (frB A && A.2.2.all (arP rs)) = false then ((false, 0, 0), false) else if A.2.2.any (seP rs) = true then ((true, 0, 0), true) else evL rs A.2.1 A.2.2
theorem rT_ge : ∀ (ls : List (Int × Bool × Int × Int)) (q : Int), rT liN liZ q ls = true → ∀ t ∈ ls, q < t.1
  | [], q, _, t, ht => by simp at ht
  | u :: ls, q, h, t, ht => by
    rw [rT_cons] at h
    simp only [Bool.and_eq_true, Bool.not_eq_true', decide_eq_false_iff_not] at h
    rcases List.mem_cons.1 ht with rfl | ht
    · omega
    · have := rT_ge ls u.1 h.2 t ht
      omega
theorem frB_ge {A : Frm} (h : frB A = true) : ∀ t ∈ A.2.2, 0 ≤ t.1 := by
  have h1 : frR A = true ∧ A.1 = false := by simpa [frB] using h
  have h2 := h1.1
  unfold frR fR at h2
  rw [if_neg (by rw [h1.2]; simp)] at h2
  simp only [Bool.and_eq_true] at h2
  intro t ht
  have := rT_ge _ _ h2.2.2 t ht
  omega
theorem form_eval (A : Frm) (hA : fOk A) (rs : List (Bool × Int × Int)) (hr : ∀ r ∈ rs, wdR r) (va vr : Value) (w : World) (ta : TAt w va A.2.2) (tr : RAt w vr rs) :
    Calls Tryz.prog 35 #[.agg #[.bool A.1, .bool A.2.1.1, .int .u64 A.2.1.2.1, .int .u64 A.2.1.2.2, va], vr] w fun e w' => e = .returned (.tuple #[.agg #[.bool (evaP A rs).1.1, .int .u64 (evaP A rs).1.2.1, .int .u64 (evaP A rs).1.2.2], .bool (evaP A rs).2]) ∧ Below w.heap.size w w' := by
  by_cases hb : frB A = true
  case neg =>
    have hb' : frB A = false := by revert hb; cases frB A <;> simp
    have e : evaP A rs = ((false, 0, 0), false) := if_pos (by rw [hb']; rfl)
    rw [e]
    have k := fun V (h : TAt V va A.2.2) => form_bound A hA va V h
    rw [hb'] at k
    exact lieval_no A.1 A.2.1.1 A.2.1.2.1 A.2.1.2.2 va ta.sl vr (fun V => TAt V va A.2.2) (fun W V h g => h.on g) k w ta
  case pos =>
    have k := fun V (h : TAt V va A.2.2) => form_bound A hA va V h
    rw [hb] at k
    have k2 := fun V (h : TAt V va A.2.2) (h2 : RAt V vr rs) => allright_any A.2.2 rs hA.2.2 (frB_ge hb) hr va vr V h h2
    have ta0 := ta
    have tr0 := tr
    obtain ⟨pa, ca, rfl⟩ := ta.len
    obtain ⟨pr, cr, rfl⟩ := tr.len
    cases hq : A.2.2.all (arP rs)
    case false =>
      have e : evaP A rs = ((false, 0, 0), false) := if_pos (by rw [hb, hq]; rfl)
      rw [e]
      rw [hq] at k2
      exact lieval_ar A.1 A.2.1.1 A.2.1.2.1 A.2.1.2.2 A.2.2 rs pa pr _ ca _ cr k k2 w ta0 tr0
    case true =>
      rw [hq] at k2
      have bd : ∀ t ∈ A.2.2, 0 ≤ t.1 ∧ t.1 < (rs.length : Int) := fun t ht => ⟨frB_ge hb t ht, by
        have := List.all_eq_true.1 hq t ht
        simp only [arP, Bool.and_eq_true, decide_eq_true_eq] at this
        exact this.1⟩
      have k3 := fun V (h : TAt V (.slice pa A.2.2.length ca) A.2.2) (h2 : RAt V (.slice pr rs.length cr) rs) => someempty_any A.2.2 rs hA.2.2 bd _ _ V h h2
      cases hs : A.2.2.any (seP rs)
      case true =>
        have e : evaP A rs = ((true, 0, 0), true) := (if_neg (by rw [hb, hq]; simp)).trans (if_pos hs)
        rw [e]
        rw [hs] at k3
        exact lieval_em A.1 A.2.1.1 A.2.1.2.1 A.2.1.2.2 A.2.2 rs pa pr _ ca _ cr k k2 k3 w ta0 tr0
      case false =>
        have e : evaP A rs = evL rs A.2.1 A.2.2 := (if_neg (by rw [hb, hq]; simp)).trans (if_neg (by rw [hs]; simp))
        rw [e]
        rw [hs] at k3
        exact lieval_go A.1 A.2.1.1 A.2.1.2.1 A.2.1.2.2 A.2.2 rs pa pr _ ca _ cr rfl rfl hA.2.2 bd (fun t ht => (hA.2.1 t ht).2) hr hA.1 k k2 k3 w ta0 tr0
end Go.Proofs.YteafnkimcidkhaaGreat


namespace Go.Proofs.YteafnkimcidkhaaGreat
open Go.RowKit
set_option linter.unusedVariables false
set_option linter.unusedSimpArgs false
theorem rT_iff {q : Int} {t : Int × Bool × Int × Int} {ls : List (Int × Bool × Int × Int)} : rT liN liZ q (t :: ls) = true ↔ q < t.1 ∧ liN t.2 = true ∧ liZ t.2 = false ∧ rT liN liZ t.1 ls = true := by
  rw [rT_cons]
  simp only [Bool.and_eq_true, Bool.not_eq_true', decide_eq_false_iff_not, Int.not_le]
  exact ⟨fun ⟨⟨⟨a, b⟩, c⟩, d⟩ => ⟨a, b, c, d⟩, fun ⟨a, b, c, d⟩ => ⟨⟨⟨a, b⟩, c⟩, d⟩⟩
theorem rT_le {q n : Int} {ls : List (Int × Bool × Int × Int)} (hq : q ≤ n) (h : rT liN liZ n ls = true) : rT liN liZ q ls = true := by
  cases ls with
  | nil => rfl
  | cons t ts =>
    obtain ⟨a, b, c, d⟩ := rT_iff.1 h
    exact rT_iff.2 ⟨by omega, b, c, d⟩
set_option maxRecDepth 100000 in
theorem liN_0 : liN (false, 0, 0) = true := by decide +kernel
theorem tk_rT {q n : Int} {ls : List (Int × Bool × Int × Int)} (h : rT liN liZ q ls = true) (hn : n ≤ fv ls) : rT liN liZ n (tk ls n).2 = true ∧ liN (tk ls n).1 = true := by
  cases ls with
  | nil => exact ⟨rfl, liN_0⟩
  | cons t ts =>
    rw [show tk (t :: ts) n = if t.1 = n then (t.2, ts) else ((false, 0, 0), t :: ts) from rfl]
    obtain ⟨a, b, c, d⟩ := rT_iff.1 h
    have hn' : n ≤ t.1 := hn
    split
    · rename_i e
      subst e
      exact ⟨d, b⟩
    · exact ⟨rT_iff.2 ⟨by omega, b, c, d⟩, liN_0⟩
theorem min_lt {q : Int} {az bz : List (Int × Bool × Int × Int)} (ha : rT liN liZ q az = true) (hb : rT liN liZ q bz = true) (oa : tOk az) (ob : tOk bz) (h : ¬ (az.length = 0 ∧ bz.length = 0)) : q < min (fv az) (fv bz) := by
  cases az with
  | nil =>
    cases bz with
    | nil => exact absurd ⟨rfl, rfl⟩ h
    | cons u us =>
      have := (rT_iff.1 hb).1
      have h2 : u.1 ≤ 9223372036854775807 := (ob u (by simp)).1
      show q < min 9223372036854775807 u.1
      omega
  | cons t ts =>
    have h1 := (rT_iff.1 ha).1
    cases bz with
    | nil =>
      have h2 : t.1 ≤ 9223372036854775807 := (oa t (by simp)).1
      show q < min t.1 9223372036854775807
      omega
    | cons u us =>
      have := (rT_iff.1 hb).1
      show q < min t.1 u.1
      omega
theorem mg_step (k : Nat) (az bz : List (Int × Bool × Int × Int)) (h : ¬ (az.length = 0 ∧ bz.length = 0)) : mg (k + 1) az bz = (min (fv az) (fv bz), (tk az (min (fv az) (fv bz))).1, (tk bz (min (fv az) (fv bz))).1) :: mg k (tk az (min (fv az) (fv bz))).2 (tk bz (min (fv az) (fv bz))).2 := by
  rw [mg, if_neg h]
theorem recL_rT {BY : Bool × Int × Int → Bool × Int × Int → (Bool × Int × Int) × Bool} (hBY : ∀ x y, wdR x → wdR y → liN x = true → liN y = true → (BY x y).2 = true → liN (BY x y).1 = true) : ∀ (k : Nat) (q : Int) (az bz : List (Int × Bool × Int × Int)), rT liN liZ q az = true → rT liN liZ q bz = true → tOk az → tOk bz → (∀ x ∈ mg k az bz, (BY x.2.1 x.2.2).2 = true) → rT liN liZ q (recL BY (mg k az bz)) = true
  | 0, _, _, _, _, _, _, _, _ => rfl
  | k + 1, q, az, bz, ha, hb, oa, ob, hall => by
    by_cases h : az.length = 0 ∧ bz.length = 0
    · rw [mg, if_pos h]
      rfl
    · have hq := min_lt ha hb oa ob h
      rw [mg_step k az bz h] at hall ⊢
      have a1 := tk_rT ha (show min (fv az) (fv bz) ≤ fv az by omega)
      have b1 := tk_rT hb (show min (fv az) (fv bz) ≤ fv bz by omega)
      have ih := recL_rT hBY k (min (fv az) (fv bz)) _ _ a1.1 b1.1 (tk_wd oa (min (fv az) (fv bz))).2 (tk_wd ob (min (fv az) (fv bz))).2 (fun x hx => hall x (List.mem_cons_of_mem _ hx))
      have h0 := hall _ (List.mem_cons_self ..)
      unfold recL
      split
      · exact rT_le (by omega) ih
      · rename_i hz
        refine rT_iff.2 ⟨hq, hBY _ _ (tk_wd oa _).1 (tk_wd ob _).1 a1.2 b1.2 h0, ?_, ih⟩
        cases hc : liZ (BY (tk az (min (fv az) (fv bz))).1 (tk bz (min (fv az) (fv bz))).1).1
        · rfl
        · exfalso
          apply hz
          simp only [liZ, decide_eq_true_eq] at hc
          exact Prod.ext hc.1 (Prod.ext hc.2.1 hc.2.2)
theorem frB_is {A : Frm} (h : frB A = true) : A.1 = false ∧ liN A.2.1 = true ∧ A.2.2.length ≤ 16 ∧ rT liN liZ (-1) A.2.2 = true := by
  simp only [frB, Bool.and_eq_true, Bool.not_eq_true'] at h
  obtain ⟨h1, h2⟩ := h
  unfold frR fR at h1
  rw [h2] at h1
  simp only [Bool.false_eq_true, if_false, Bool.and_eq_true, decide_eq_true_eq] at h1
  exact ⟨h2, h1.1, h1.2.1, h1.2.2⟩
theorem frB_mk {c : Bool × Int × Int} {ls : List (Int × Bool × Int × Int)} (h1 : liN c = true) (h2 : ls.length ≤ 16) (h3 : rT liN liZ (-1) ls = true) : frB (false, c, ls) = true := by
  simp [frB, frR, fR, h1, h2, h3]
theorem recP_right {BY : Bool × Int × Int → Bool × Int × Int → (Bool × Int × Int) × Bool} (hBY : ∀ x y, wdR x → wdR y → liN x = true → liN y = true → (BY x y).2 = true → liN (BY x y).1 = true) {A B : Frm} (hA : fOk A) (hB : fOk B) : recP BY A B = whF ∨ frB (recP BY A B) = true := by
  unfold recP
  split
  · rename_i h
    right
    obtain ⟨hg, h1, h2, h3⟩ := h
    simp only [Bool.and_eq_true] at hg
    obtain ⟨_, na, _, ra⟩ := frB_is hg.1
    obtain ⟨_, nb, _, rb⟩ := frB_is hg.2
    exact frB_mk (hBY _ _ hA.1 hB.1 na nb h1) h3 (recL_rT hBY _ _ _ _ ra rb hA.2.1 hB.2.1 h2)
  · exact Or.inl rfl
end Go.Proofs.YteafnkimcidkhaaGreat


namespace Go.Proofs.YteafnkimcidkhaaGreat
open Go.RowKit Go.Shelf
set_option linter.unusedVariables false
set_option linter.unusedSimpArgs false
def fi (n : Int) : Int := if n < 0 then -((zI n.natAbs : Nat) : Int) else ((zI n.natAbs : Nat) : Int)
def Sm (n : Int) : Prop := n.natAbs < 9007199254740992
theorem Sm.lt {n : Int} (h : Sm n) : n.natAbs < 2 ^ 53 := h
theorem fi_bd {n : Int} (h : Sm n) : -fI false < fi n ∧ fi n < fI false := by
  have l := zI_lt h.lt
  have p := fI_pos false
  unfold fi
  split <;> omega
theorem fi_inj {n : Int} (h : Sm n) (e : fi n = 0) : n = 0 := by
  have z := zI_zero h.lt
  unfold fi at e
  split at e
  · have : zI n.natAbs = 0 := by omega
    have := z.1 this
    omega
  · have : zI n.natAbs = 0 := by omega
    have := z.1 this
    omega
theorem sgn_fi {n : Int} (h : Sm n) : sgnd false (decide (n < 0)) (zI n.natAbs) = mk false (fi n) := by
  have z := zI_zero h.lt
  unfold mk fi
  by_cases c : n < 0
  · have : zI n.natAbs ≠ 0 := fun e => by have := z.1 e; omega
    rw [if_pos c, if_pos (by omega), decide_eq_true c, Int.neg_neg]
  · rw [if_neg c, if_neg (by omega), decide_eq_false c]
    rfl
theorem FF_fi {n : Int} (h : Sm n) : FF n = mk false (fi n) := by
  unfold FF
  rw [rnd_int 0 _ h.lt, sgn_fi h]
theorem rkM_fi (m : Int) {n : Int} (h : Sm n) : rkM false m n 0 = fi n := by
  have r1 := rnd_rkM false m (decide (n < 0)) n.natAbs 0
  rw [rnd_int m _ h.lt, sgn_fi h] at r1
  have e : (if decide (n < 0) = true then -((n.natAbs : Nat) : Int) else (n.natAbs : Nat)) = n := by
    by_cases c : n < 0
    · rw [if_pos (decide_eq_true c)]; omega
    · rw [if_neg (by simpa using c)]; omega
  rw [e] at r1
  have b := fi_bd h
  rw [← res_rnk r1, mk_rnk (by omega) (by omega)]
theorem val_zI {k : Nat} (h : k < 2 ^ 53) (M : Nat) (hM : M = 1074) : val false (zI k) = k * 2 ^ M := by
  obtain ⟨K, k1, k2, k3⟩ := (rep_int false h).val
  obtain ⟨x, p1, p2, p3⟩ := parts_val false false (zI k) (zI_lt h)
  have f : fL false = -1074 := rfl
  rw [p2, k2, Nat.mul_assoc, ← Nat.pow_add]
  have : K + x = M := by rw [k3, f] at p1; omega
  rw [this]
theorem vl_fi {n : Int} (h : Sm n) (M : Nat) (hM : M = 1074) : vl false (fi n) = n * 2 ^ M := by
  have z := zI_zero h.lt
  have v := val_zI h.lt M hM
  unfold vl fi
  by_cases c : n < 0
  · have : zI n.natAbs ≠ 0 := fun e => by have := z.1 e; omega
    rw [if_pos c, if_pos (by omega), show (-((zI n.natAbs : Nat) : Int)).natAbs = zI n.natAbs by omega, v, Int.natCast_mul, Int.natCast_pow]
    have e : ((n.natAbs : Nat) : Int) = -n := by omega
    rw [e, Int.neg_mul, Int.neg_neg]
    rfl
  · rw [if_neg c, if_neg (by omega), show (((zI n.natAbs : Nat) : Int)).natAbs = zI n.natAbs by omega, v, Int.natCast_mul, Int.natCast_pow]
    have e : ((n.natAbs : Nat) : Int) = n := by omega
    rw [e]
    rfl
theorem aR_fi (m : Int) {a b : Int} (ha : Sm a) (hb : Sm b) (hs : Sm (a + b)) : aR m (fi a) (fi b) = fi (a + b) := by
  obtain ⟨M, hM⟩ : ∃ M : Nat, M = 1074 := ⟨_, rfl⟩
  have a1 := fi_bd ha
  have b1 := fi_bd hb
  rw [aR_is a1.1 a1.2 b1.1 b1.2, vl_fi ha M hM, vl_fi hb M hM, ← Int.add_mul]
  have f : fL false = 0 - (M : Int) := by rw [hM]; rfl
  rw [f, rkM_scale, rkM_fi m hs]
theorem mR_fi (m : Int) {a b : Int} (ha : Sm a) (hb : Sm b) (hs : Sm (a * b)) : mR m (fi a) (fi b) = fi (a * b) := by
  obtain ⟨M, hM⟩ : ∃ M : Nat, M = 1074 := ⟨_, rfl⟩
  have a1 := fi_bd ha
  have b1 := fi_bd hb
  rw [mR_is a1.1 a1.2 b1.1 b1.2, vl_fi ha M hM, vl_fi hb M hM]
  have e : a * 2 ^ M * (b * 2 ^ M) = (a * b) * 2 ^ (M + M) := by
    rw [Int.pow_add, Int.mul_assoc a (2 ^ M) (b * 2 ^ M), Int.mul_left_comm (2 ^ M) b (2 ^ M), ← Int.mul_assoc a b]
  have f : fL false + fL false = 0 - ((M + M : Nat) : Int) := by rw [hM]; rfl
  rw [e, f, rkM_scale, rkM_fi m hs]
def pt (n : Int) : Bool × Int × Int := (false, mk false (fi n), mk false (fi n))
theorem pt_num {n : Int} (h : Sm n) : liN (pt n) = true := by
  have b := fi_bd h
  exact mk_right b.1 (Int.le_refl _) b.2
theorem pt_wd {n : Int} (h : Sm n) : wdR (pt n) := by
  have b := fi_bd h
  exact ⟨mk_word (by omega) (by omega), mk_word (by omega) (by omega)⟩
theorem pt_eq {n : Int} (h : Sm n) : pt n = (false, 0, 0) ↔ n = 0 := by
  constructor
  · intro e
    have b := fi_bd h
    have p := fI_pos false
    have e2 : mk false (fi n) = mk false 0 := congrArg (fun x => x.2.1) e
    exact fi_inj h (mk_inj (by omega) (by omega) (by omega) (by omega) e2)
  · rintro rfl; rfl
theorem sumP_pt {a b : Int} (ha : Sm a) (hb : Sm b) (hs : Sm (a + b)) : sumP (pt a) (pt b) = (pt (a + b), true) := by
  have a1 := fi_bd ha
  have b1 := fi_bd hb
  have s1 := fi_bd hs
  unfold pt
  rw [sumP_ends a1.1 (Int.le_refl _) a1.2 b1.1 (Int.le_refl _) b1.2, aR_fi 2 ha hb hs, aR_fi 1 ha hb hs, if_pos ⟨s1.1, Int.le_refl _, s1.2⟩]
theorem prodP_pt {a b : Int} (ha : Sm a) (hb : Sm b) (hs : Sm (a * b)) : prodP (pt a) (pt b) = (pt (a * b), true) := by
  have a1 := fi_bd ha
  have b1 := fi_bd hb
  have s1 := fi_bd hs
  have e1 : loR mR (fi a) (fi a) (fi b) (fi b) = fi (a * b) := by unfold loR; rw [mR_fi 2 ha hb hs]; simp
  have e2 : hiR mR (fi a) (fi a) (fi b) (fi b) = fi (a * b) := by unfold hiR; rw [mR_fi 1 ha hb hs]; simp
  unfold pt
  rw [prodP_mk a1.1 (Int.le_refl _) a1.2 b1.1 (Int.le_refl _) b1.2, e1, e2, if_pos ⟨s1.1, Int.le_refl _, s1.2⟩]
end Go.Proofs.YteafnkimcidkhaaGreat


namespace Go.Proofs.YteafnkimcidkhaaGreat
open Go.RowKit Go.Shelf
set_option linter.unusedVariables false
set_option linter.unusedSimpArgs false
def tI (l : List (Int × Int)) : List (Int × Bool × Int × Int) := l.map fun t => (t.1, pt t.2)
abbrev Zf := Int × List (Int × Int)
def ofZ (F : Zf) : Frm := (false, pt F.1, tI F.2)
def Bz (B : Nat) (F : Zf) : Prop := F.1.natAbs ≤ B ∧ ∀ t ∈ F.2, t.2.natAbs ≤ B ∧ 0 ≤ t.1 ∧ t.1 < 3
def vlL (at' : Int → Int) : List (Int × Int) → Int
  | [] => 0
  | t :: l => t.2 * at' t.1 + vlL at' l
def vlZ (at' : Int → Int) (F : Zf) : Int := F.1 + vlL at' F.2
def fvZ : List (Int × Int) → Int
  | [] => 9223372036854775807
  | t :: _ => t.1
def tkZ (l : List (Int × Int)) (q : Int) : Int × List (Int × Int) := match l with
  | [] => (0, [])
  | t :: ts => if t.1 = q then (t.2, ts) else (0, t :: ts)
def mgZ : Nat → List (Int × Int) → List (Int × Int) → List (Int × Int × Int)
  | 0, _, _ => []
  | k + 1, a, b => if a.length = 0 ∧ b.length = 0 then [] else (min (fvZ a) (fvZ b), (tkZ a (min (fvZ a) (fvZ b))).1, (tkZ b (min (fvZ a) (fvZ b))).1) :: mgZ k (tkZ a (min (fvZ a) (fvZ b))).2 (tkZ b (min (fvZ a) (fvZ b))).2
def recZ (g : Int → Int → Int) : List (Int × Int × Int) → List (Int × Int)
  | [] => []
  | x :: r => if g x.2.1 x.2.2 = 0 then recZ g r else (x.1, g x.2.1 x.2.2) :: recZ g r
def linZ (g : Int → Int → Int) (F G : Zf) : Zf := (g F.1 G.1, recZ g (mgZ (F.2.length + G.2.length) F.2 G.2))
theorem tkZ_cons (t : Int × Int) (ts : List (Int × Int)) (q : Int) : tkZ (t :: ts) q = if t.1 = q then (t.2, ts) else (0, t :: ts) := rfl
theorem tI_len (l : List (Int × Int)) : (tI l).length = l.length := by simp [tI]
theorem fv_tI (l : List (Int × Int)) : fv (tI l) = fvZ l := by cases l <;> rfl
theorem tk_tI (l : List (Int × Int)) (q : Int) : tk (tI l) q = (pt (tkZ l q).1, tI (tkZ l q).2) := by
  cases l with
  | nil => rfl
  | cons t ts =>
    show (if t.1 = q then (pt t.2, tI ts) else ((false, 0, 0), (t.1, pt t.2) :: tI ts)) = _
    rw [tkZ_cons]
    by_cases c : t.1 = q
    · rw [if_pos c, if_pos c]
    · rw [if_neg c, if_neg c]; rfl
theorem mg_tI : ∀ (k : Nat) (a b : List (Int × Int)), mg k (tI a) (tI b) = (mgZ k a b).map fun x => (x.1, pt x.2.1, pt x.2.2)
  | 0, a, b => rfl
  | k + 1, a, b => by
    unfold mg mgZ
    rw [tI_len, tI_len]
    by_cases c : a.length = 0 ∧ b.length = 0
    · rw [if_pos c, if_pos c]; rfl
    · rw [if_neg c, if_neg c, fv_tI, fv_tI, tk_tI, tk_tI]
      simp only [List.map_cons]
      rw [mg_tI k]
theorem tkZ_mem {l : List (Int × Int)} {q : Int} {P : Int × Int → Prop} (h : ∀ t ∈ l, P t) : ∀ t ∈ (tkZ l q).2, P t := by
  cases l with
  | nil => intro t ht; cases ht
  | cons t ts =>
    rw [tkZ_cons]
    split
    · intro x hx; exact h x (List.mem_cons_of_mem _ hx)
    · exact h
theorem tkZ_fst {l : List (Int × Int)} {q : Int} {B : Nat} (h : ∀ t ∈ l, t.2.natAbs ≤ B) : (tkZ l q).1.natAbs ≤ B := by
  cases l with
  | nil => simp [tkZ]
  | cons t ts =>
    rw [tkZ_cons]
    split
    · exact h t (by simp)
    · exact Nat.zero_le _
theorem mgZ_mem (B B' : Nat) : ∀ (k : Nat) (a b : List (Int × Int)), (∀ t ∈ a, t.2.natAbs ≤ B ∧ 0 ≤ t.1 ∧ t.1 < 3) → (∀ t ∈ b, t.2.natAbs ≤ B' ∧ 0 ≤ t.1 ∧ t.1 < 3) → ∀ x ∈ mgZ k a b, x.2.1.natAbs ≤ B ∧ x.2.2.natAbs ≤ B' ∧ 0 ≤ x.1 ∧ x.1 < 3
  | 0, a, b, ha, hb, x, hx => by cases hx
  | k + 1, a, b, ha, hb, x, hx => by
    unfold mgZ at hx
    split at hx
    · cases hx
    · rename_i c
      rcases List.mem_cons.1 hx with rfl | hx
      · refine ⟨tkZ_fst (fun t ht => (ha t ht).1), tkZ_fst (fun t ht => (hb t ht).1), ?_⟩
        show 0 ≤ min (fvZ a) (fvZ b) ∧ min (fvZ a) (fvZ b) < 3
        cases a with
        | nil =>
          cases b with
          | nil => exact absurd ⟨rfl, rfl⟩ c
          | cons t ts =>
            have := hb t (by simp)
            simp only [fvZ]; omega
        | cons t ts =>
          have h1 := ha t (by simp)
          cases b with
          | nil => simp only [fvZ]; omega
          | cons u us =>
            have h2 := hb u (by simp)
            simp only [fvZ]; omega
      · exact mgZ_mem B B' k _ _ (tkZ_mem ha) (tkZ_mem hb) x hx
theorem recZ_mem {g : Int → Int → Int} {l : List (Int × Int × Int)} {t : Int × Int} (h : t ∈ recZ g l) : ∃ x ∈ l, t = (x.1, g x.2.1 x.2.2) := by
  induction l with
  | nil => cases h
  | cons x r ih =>
    unfold recZ at h
    split at h
    · obtain ⟨y, hy, e⟩ := ih h; exact ⟨y, by simp [hy], e⟩
    · rcases List.mem_cons.1 h with rfl | h
      · exact ⟨x, by simp, rfl⟩
      · obtain ⟨y, hy, e⟩ := ih h; exact ⟨y, by simp [hy], e⟩
theorem recL_tI {BY : Bool × Int × Int → Bool × Int × Int → (Bool × Int × Int) × Bool} {g : Int → Int → Int} : ∀ (l : List (Int × Int × Int)), (∀ x ∈ l, BY (pt x.2.1) (pt x.2.2) = (pt (g x.2.1 x.2.2), true) ∧ Sm (g x.2.1 x.2.2)) →
    recL BY (l.map fun x => (x.1, pt x.2.1, pt x.2.2)) = tI (recZ g l)
  | [], _ => rfl
  | x :: r, h => by
    have h0 := h x (by simp)
    have ih := recL_tI r (fun y hy => h y (by simp [hy]))
    simp only [List.map_cons, recL, recZ, h0.1]
    by_cases c : g x.2.1 x.2.2 = 0
    · rw [if_pos ((pt_eq h0.2).2 c), if_pos c, ih]
    · rw [if_neg (fun e => c ((pt_eq h0.2).1 e)), if_neg c, ih]
      rfl
theorem vlL_tk (at' : Int → Int) (l : List (Int × Int)) (q : Int) : vlL at' l = (tkZ l q).1 * at' q + vlL at' (tkZ l q).2 := by
  cases l with
  | nil => simp [tkZ, vlL]
  | cons t ts =>
    rw [tkZ_cons]
    by_cases c : t.1 = q
    · rw [if_pos c, ← c]; rfl
    · rw [if_neg c, Int.zero_mul, Int.zero_add]
theorem tkZ_len (l : List (Int × Int)) (q : Int) : (tkZ l q).2.length ≤ l.length := by
  cases l with
  | nil => exact Nat.le_refl _
  | cons t ts => rw [tkZ_cons]; split <;> simp
theorem tkZ_less {l : List (Int × Int)} (h : l.length ≠ 0) : (tkZ l (fvZ l)).2.length + 1 = l.length := by
  cases l with
  | nil => exact absurd rfl h
  | cons t ts => rw [tkZ_cons, if_pos (show t.1 = fvZ (t :: ts) from rfl)]; rfl
theorem vlL_rec (at' : Int → Int) (g : Int → Int → Int) (α β : Int) (hg : ∀ x y, g x y = α * x + β * y) : ∀ (k : Nat) (a b : List (Int × Int)), a.length + b.length ≤ k → (∀ t ∈ a, t.1 < 9223372036854775807) → (∀ t ∈ b, t.1 < 9223372036854775807) → vlL at' (recZ g (mgZ k a b)) = α * vlL at' a + β * vlL at' b
  | 0, a, b, h, _, _ => by
    have ha : a = [] := List.length_eq_zero_iff.1 (by omega)
    have hb : b = [] := List.length_eq_zero_iff.1 (by omega)
    subst ha hb
    simp [mgZ, recZ, vlL]
  | k + 1, a, b, h, va, vb => by
    unfold mgZ
    by_cases c : a.length = 0 ∧ b.length = 0
    · have ha : a = [] := List.length_eq_zero_iff.1 c.1
      have hb : b = [] := List.length_eq_zero_iff.1 c.2
      subst ha hb
      rw [if_pos c]
      simp [recZ, vlL]
    · rw [if_neg c]
      obtain ⟨q, hq⟩ : ∃ q, min (fvZ a) (fvZ b) = q := ⟨_, rfl⟩
      have ea := vlL_tk at' a q
      have eb := vlL_tk at' b q
      have la := tkZ_len a q
      have lb := tkZ_len b q
      have ll : (tkZ a q).2.length + (tkZ b q).2.length ≤ k := by
        by_cases c1 : a.length ≠ 0 ∧ fvZ a = q
        · have := tkZ_less c1.1
          rw [c1.2] at this; omega
        · by_cases c2 : b.length ≠ 0 ∧ fvZ b = q
          · have := tkZ_less c2.1
            rw [c2.2] at this; omega
          · exfalso
            rcases (show fvZ a = q ∨ fvZ b = q by omega) with e | e
            · have a0 : a.length = 0 := Classical.not_not.1 (fun n => c1 ⟨n, e⟩)
              have ha : a = [] := List.length_eq_zero_iff.1 a0
              subst ha
              have b0 : b.length ≠ 0 := fun e => c ⟨rfl, e⟩
              have hb : fvZ b ≠ q := fun e => c2 ⟨b0, e⟩
              cases b with
              | nil => exact b0 rfl
              | cons u us =>
                have := vb u (by simp)
                simp only [fvZ] at e hb hq; omega
            · have b0 : b.length = 0 := Classical.not_not.1 (fun n => c2 ⟨n, e⟩)
              have hb : b = [] := List.length_eq_zero_iff.1 b0
              subst hb
              have a0 : a.length ≠ 0 := fun e => c ⟨e, rfl⟩
              have ha : fvZ a ≠ q := fun e => c1 ⟨a0, e⟩
              cases a with
              | nil => exact a0 rfl
              | cons u us =>
                have := va u (by simp)
                simp only [fvZ] at e ha hq; omega
      have ih := vlL_rec at' g α β hg k _ _ ll (tkZ_mem (q := q) va) (tkZ_mem (q := q) vb)
      rw [hq]
      have key : vlL at' (recZ g ((q, (tkZ a q).1, (tkZ b q).1) :: mgZ k (tkZ a q).2 (tkZ b q).2)) = g (tkZ a q).1 (tkZ b q).1 * at' q + vlL at' (recZ g (mgZ k (tkZ a q).2 (tkZ b q).2)) := by
        show vlL at' (if g (tkZ a q).1 (tkZ b q).1 = 0 then _ else _) = _
        by_cases z : g (tkZ a q).1 (tkZ b q).1 = 0
        · rw [if_pos z, z, Int.zero_mul, Int.zero_add]
        · rw [if_neg z]; rfl
      rw [key, ih, hg, ea, eb]
      simp only [Int.add_mul, Int.mul_add, Int.mul_assoc]
      omega
theorem recZ_len (g : Int → Int → Int) : ∀ l : List (Int × Int × Int), (recZ g l).length ≤ l.length
  | [] => Nat.le_refl _
  | x :: r => by
    have := recZ_len g r
    unfold recZ
    split
    · simp; omega
    · simp; omega
theorem mgZ_len : ∀ (k : Nat) (a b : List (Int × Int)), (mgZ k a b).length ≤ k
  | 0, _, _ => Nat.le_refl _
  | k + 1, a, b => by
    unfold mgZ
    split
    · simp
    · have := mgZ_len k (tkZ a (min (fvZ a) (fvZ b))).2 (tkZ b (min (fvZ a) (fvZ b))).2
      simp; omega
structure OkZ (B n : Nat) (F : Zf) : Prop where
  bz : Bz B F
  len : F.2.length ≤ n
  fr : frB (ofZ F) = true
theorem OkZ.fok {B n : Nat} {F : Zf} (h : OkZ B n F) (hB : B < 9007199254740992) (hn : n ≤ 16) : fOk (ofZ F) := by
  refine ⟨pt_wd (show F.1.natAbs < _ from by have := h.bz.1; omega), fun t ht => ?_, by show (tI F.2).length ≤ 400; rw [tI_len]; have := h.len; omega⟩
  obtain ⟨u, hu, rfl⟩ := List.mem_map.1 ht
  have := h.bz.2 u hu
  exact ⟨by show u.1 ≤ _; omega, pt_wd (show u.2.natAbs < _ by omega)⟩
theorem lin_pt {BY : Bool × Int × Int → Bool × Int × Int → (Bool × Int × Int) × Bool} {g : Int → Int → Int} {B B' C n n' : Nat} {F G : Zf} (hF : OkZ B n F) (hG : OkZ B' n' G) (hB : B < 9007199254740992) (hB' : B' < 9007199254740992) (hC : C < 9007199254740992) (hn : n + n' ≤ 16)
    (hR : ∀ x y, wdR x → wdR y → liN x = true → liN y = true → (BY x y).2 = true → liN (BY x y).1 = true) (hBY : ∀ x y : Int, x.natAbs ≤ B → y.natAbs ≤ B' → BY (pt x) (pt y) = (pt (g x y), true) ∧ (g x y).natAbs ≤ C) :
    recP BY (ofZ F) (ofZ G) = ofZ (linZ g F G) ∧ OkZ C (n + n') (linZ g F G) := by
  have hm := mgZ_mem B B' (F.2.length + G.2.length) F.2 G.2 hF.bz.2 hG.bz.2
  have e1 : mg ((ofZ F).2.2.length + (ofZ G).2.2.length) (ofZ F).2.2 (ofZ G).2.2 = (mgZ (F.2.length + G.2.length) F.2 G.2).map fun x => (x.1, pt x.2.1, pt x.2.2) := by
    show mg ((tI F.2).length + (tI G.2).length) (tI F.2) (tI G.2) = _
    rw [tI_len, tI_len]; exact mg_tI _ _ _
  have hsm : ∀ x ∈ mgZ (F.2.length + G.2.length) F.2 G.2, BY (pt x.2.1) (pt x.2.2) = (pt (g x.2.1 x.2.2), true) ∧ Sm (g x.2.1 x.2.2) := fun x hx => by
    obtain ⟨h1, h2, _⟩ := hm x hx
    obtain ⟨h3, h4⟩ := hBY _ _ h1 h2
    exact ⟨h3, by show _ < _; omega⟩
  have e2 := recL_tI (BY := BY) (g := g) _ hsm
  obtain ⟨c1, c2⟩ := hBY F.1 G.1 hF.bz.1 hG.bz.1
  have hl : (recZ g (mgZ (F.2.length + G.2.length) F.2 G.2)).length ≤ n + n' := by
    have a := recZ_len g (mgZ (F.2.length + G.2.length) F.2 G.2)
    have b := mgZ_len (F.2.length + G.2.length) F.2 G.2
    have := hF.len; have := hG.len
    omega
  have ok : (frB (ofZ F) && frB (ofZ G)) = true ∧ RecOk BY (ofZ F).2.1 (ofZ G).2.1 (ofZ F).2.2 (ofZ G).2.2 := by
    refine ⟨by rw [hF.fr, hG.fr]; rfl, ?_, ?_, ?_⟩
    · show (BY (pt F.1) (pt G.1)).2 = true
      rw [c1]
    · rw [e1]
      intro x hx
      obtain ⟨y, hy, rfl⟩ := List.mem_map.1 hx
      show (BY (pt y.2.1) (pt y.2.2)).2 = true
      rw [(hsm y hy).1]
    · rw [e1, e2, tI_len]; omega
  have eq : recP BY (ofZ F) (ofZ G) = ofZ (linZ g F G) := by
    rw [recP, if_pos ok, e1, e2]
    show (false, (BY (pt F.1) (pt G.1)).1, _) = _
    rw [c1]
    rfl
  refine ⟨eq, ⟨⟨c2, fun t ht => ?_⟩, hl, ?_⟩⟩
  · obtain ⟨x, hx, rfl⟩ := recZ_mem ht
    obtain ⟨h1, h2, h3⟩ := hm x hx
    exact ⟨(hBY _ _ h1 h2).2, h3⟩
  · have := recP_right hR (hF.fok hB (by omega)) (hG.fok hB' (by omega))
    rw [eq] at this
    rcases this with h | h
    · have : (ofZ (linZ g F G)).1 = true := by rw [h]; rfl
      cases this
    · exact h
theorem lin_val {g : Int → Int → Int} {α β : Int} (hg : ∀ x y, g x y = α * x + β * y) (at' : Int → Int) {B B' n n' : Nat} {F G : Zf} (hF : OkZ B n F) (hG : OkZ B' n' G) : vlZ at' (linZ g F G) = α * vlZ at' F + β * vlZ at' G := by
  unfold vlZ linZ
  simp only
  rw [vlL_rec at' g α β hg _ F.2 G.2 (Nat.le_refl _) (fun t ht => by have := hF.bz.2 t ht; omega) (fun t ht => by have := hG.bz.2 t ht; omega), hg]
  simp only [Int.mul_add]
  omega
end Go.Proofs.YteafnkimcidkhaaGreat


namespace Go.Proofs.YteafnkimcidkhaaGreat
open Go.RowKit Go.Shelf
set_option linter.unusedVariables false
set_option linter.unusedSimpArgs false
theorem evL_pt (rs : List (Bool × Int × Int)) (at' : Int → Int) (T : Nat) : ∀ (l : List (Int × Int)) (s : Int), (∀ t ∈ l, Sm t.2 ∧ Sm (at' t.1) ∧ rg rs t.1 = pt (at' t.1) ∧ (t.2 * at' t.1).natAbs ≤ T) → s.natAbs + l.length * T < 9007199254740992 → evL rs (pt s) (tI l) = (pt (s + vlL at' l), true)
  | [], s, h, hs => by simp [tI, evL, vlL]
  | t :: l, s, h, hs => by
    obtain ⟨h1, h2, h3, h4⟩ := h t (by simp)
    have e : (t :: l).length * T = l.length * T + T := by rw [List.length_cons, Nat.succ_mul]
    rw [e] at hs
    have p1 := prodP_pt h1 h2 (show (t.2 * at' t.1).natAbs < _ by omega)
    have s1 := sumP_pt (a := s) (b := t.2 * at' t.1) (show s.natAbs < _ by omega) (show (t.2 * at' t.1).natAbs < _ by omega) (show (s + t.2 * at' t.1).natAbs < _ by omega)
    show (if (prodP (pt t.2) (rg rs t.1)).2 = false then _ else if (sumP (pt s) (prodP (pt t.2) (rg rs t.1)).1).2 = false then _ else evL rs (sumP (pt s) (prodP (pt t.2) (rg rs t.1)).1).1 (tI l)) = _
    rw [h3, p1]
    simp only
    rw [s1, if_neg (by simp), if_neg (by simp), evL_pt rs at' T l _ (fun u hu => h u (by simp [hu])) (by omega)]
    simp only [vlL]
    rw [Int.add_assoc]
theorem pt_right {n : Int} (h : Sm n) : liR (pt n) = true ∧ (pt n).1 = false := liN_R (pt_num h)
theorem eva_pt {B n : Nat} {F : Zf} (hF : OkZ B n F) (hB : B < 9007199254740992) (hn : n ≤ 16) (a0 a1 a2 : Int) (C T : Nat) (h0 : a0.natAbs ≤ C) (h1 : a1.natAbs ≤ C) (h2 : a2.natAbs ≤ C) (hC : C < 9007199254740992) (hT : B * C ≤ T) (hs : B + 16 * T < 9007199254740992) :
    evaP (ofZ F) [pt a0, pt a1, pt a2] = (pt (vlZ (fun k => if k = 0 then a0 else if k = 1 then a1 else a2) F), true) := by
  obtain ⟨at', hat⟩ : ∃ f : Int → Int, (fun k : Int => if k = 0 then a0 else if k = 1 then a1 else a2) = f := ⟨_, rfl⟩
  have hr : ∀ q : Int, 0 ≤ q → q < 3 → rg [pt a0, pt a1, pt a2] q = pt (at' q) ∧ (at' q).natAbs ≤ C := fun q q0 q3 => by
    rw [← hat]
    rcases (show q = 0 ∨ q = 1 ∨ q = 2 by omega) with rfl | rfl | rfl
    · exact ⟨rfl, h0⟩
    · exact ⟨rfl, h1⟩
    · exact ⟨rfl, h2⟩
  rw [hat]
  have hm : ∀ t ∈ F.2, Sm t.2 ∧ Sm (at' t.1) ∧ rg [pt a0, pt a1, pt a2] t.1 = pt (at' t.1) ∧ (t.2 * at' t.1).natAbs ≤ T := fun t ht => by
    obtain ⟨b1, b2, b3⟩ := hF.bz.2 t ht
    obtain ⟨r1, r2⟩ := hr t.1 b2 b3
    refine ⟨show _ < _ by omega, show _ < _ by omega, r1, ?_⟩
    rw [Int.natAbs_mul]
    exact Nat.le_trans (Nat.mul_le_mul b1 r2) hT
  unfold evaP
  rw [if_neg, if_neg]
  · have hl := hF.len
    have := hF.bz.1
    have := Nat.mul_le_mul_right T (Nat.le_trans hl hn)
    exact evL_pt _ at' T F.2 F.1 hm (by omega)
  · intro e
    obtain ⟨x, hx, e⟩ := List.any_eq_true.1 e
    obtain ⟨t, ht, rfl⟩ := List.mem_map.1 hx
    obtain ⟨m1, m2, m3, m4⟩ := hm t ht
    unfold seP at e
    simp only at e
    rw [m3, (pt_right m2).2] at e
    cases e
  · rw [hF.fr, Bool.true_and]
    intro e
    have : (ofZ F).2.2.all (arP [pt a0, pt a1, pt a2]) = true := by
      rw [List.all_eq_true]
      intro x hx
      obtain ⟨t, ht, rfl⟩ := List.mem_map.1 hx
      obtain ⟨m1, m2, m3, m4⟩ := hm t ht
      obtain ⟨b1, b2, b3⟩ := hF.bz.2 t ht
      unfold arP
      simp only
      rw [m3, (pt_right m2).1, Bool.and_true]
      exact decide_eq_true b3
    rw [this] at e
    cases e
theorem pt_one : pt 1 = (false, 4607182418800017408, 4607182418800017408) := by decide +kernel
theorem okz_c {c : Int} {B : Nat} (h : c.natAbs ≤ B) (hB : B < 9007199254740992) : OkZ B 0 (c, []) :=
  ⟨⟨h, fun t ht => by cases ht⟩, Nat.le_refl _, frB_mk (pt_num (show c.natAbs < _ by omega)) (by simp [tI]) rfl⟩
theorem ofP_pt {c : Int} (h : Sm c) : ofP' (pt c) = ofZ (c, []) := by
  unfold ofP'
  rw [if_pos (pt_num h)]
  rfl
theorem zrF_is : zrF = ofZ (0, []) := rfl
theorem okz_v {k : Int} (h0 : 0 ≤ k) (h3 : k < 3) : OkZ 1 1 (0, [(k, 1)]) ∧ ovP k = ofZ (0, [(k, 1)]) := by
  refine ⟨⟨⟨Nat.zero_le _, fun t ht => ?_⟩, Nat.le_refl _, ?_⟩, ?_⟩
  · rw [List.mem_singleton] at ht
    subst ht
    exact ⟨Nat.le_refl _, h0, h3⟩
  · refine frB_mk (pt_num (show (0 : Int).natAbs < _ by decide)) (by simp [tI]) ?_
    refine rT_iff.2 ⟨by show -1 < k; omega, pt_num (show (1 : Int).natAbs < _ by decide), ?_, rfl⟩
    show liZ (pt 1) = false
    rw [pt_one]; decide
  · unfold ovP
    rw [if_neg (by omega)]
    show _ = (false, pt 0, [(k, pt 1)])
    rw [pt_one]
    rfl
theorem sca_z {B n C : Nat} {F : Zf} (hF : OkZ B n F) (hB : B < 9007199254740992) (hn : n ≤ 16) (x : Int) (D : Nat) (hx : x.natAbs ≤ D) (hD : D < 9007199254740992) (hC : B * D ≤ C) (hC2 : C < 9007199254740992) :
    ∃ Z, scaP (ofZ F) (pt x) = ofZ Z ∧ OkZ C n Z ∧ ∀ at', vlZ at' Z = x * vlZ at' F := by
  have hz := okz_c (c := 0) (B := 0) (by decide) (by decide)
  have k : ∀ y z : Int, y.natAbs ≤ B → z.natAbs ≤ 0 → (fun y _ => prodP y (pt x)) (pt y) (pt z) = (pt ((fun y _ => y * x) y z), true) ∧ ((fun y _ => y * x) y z : Int).natAbs ≤ C := fun y z hy _ => by
    have b : (y * x).natAbs ≤ C := by rw [Int.natAbs_mul]; exact Nat.le_trans (Nat.mul_le_mul hy hx) hC
    exact ⟨prodP_pt (show y.natAbs < _ by omega) (show x.natAbs < _ by omega) (show (y * x).natAbs < _ by omega), b⟩
  obtain ⟨e, ok⟩ := lin_pt (BY := fun y _ => prodP y (pt x)) (g := fun y _ => y * x) (C := C) hF hz hB (by decide) hC2 (by omega) (fun a b ha hb na nb h => prodP_right ha (pt_wd (show x.natAbs < _ by omega)) na (pt_num (show x.natAbs < _ by omega)) h) k
  refine ⟨_, ?_, ok, fun at' => ?_⟩
  · unfold scaP
    rw [if_pos (pt_num (show x.natAbs < _ by omega)), zrF_is]
    exact e
  · rw [lin_val (α := x) (β := 0) (fun y z => by show y * x = x * y + 0 * z; rw [Int.mul_comm, Int.zero_mul, Int.add_zero]) at' hF hz, Int.zero_mul, Int.add_zero]
theorem add_z {B B' n n' : Nat} {F G : Zf} (hF : OkZ B n F) (hG : OkZ B' n' G) (hB : B + B' < 9007199254740992) (hn : n + n' ≤ 16) : ∃ Z, addP (ofZ F) (ofZ G) = ofZ Z ∧ OkZ (B + B') (n + n') Z ∧ ∀ at', vlZ at' Z = vlZ at' F + vlZ at' G := by
  obtain ⟨e, ok⟩ := lin_pt (BY := sumP) (g := fun x y => x + y) (C := B + B') hF hG (by omega) (by omega) hB hn (fun a b ha hb na nb h => sumP_right ha hb na nb h) (fun x y hx hy => ⟨sumP_pt (show x.natAbs < _ by omega) (show y.natAbs < _ by omega) (show (x + y).natAbs < _ by omega), by show (x + y).natAbs ≤ B + B'; omega⟩)
  refine ⟨_, e, ok, fun at' => ?_⟩
  rw [lin_val (α := 1) (β := 1) (fun y z => by show y + z = 1 * y + 1 * z; omega) at' hF hG]
  omega
end Go.Proofs.YteafnkimcidkhaaGreat


namespace Go.Proofs.YteafnkimcidkhaaGreat
open Go.RowKit
set_option linter.unusedVariables false
set_option linter.unusedSimpArgs false
def rcs : List (Bool × Int × Int) → List Value
  | [] => []
  | r :: l => .bool r.1 :: .int .u64 r.2.1 :: .int .u64 r.2.2 :: rcs l
theorem rcs_app : ∀ (a b : List (Bool × Int × Int)), rcs (a ++ b) = rcs a ++ rcs b
  | [], b => rfl
  | r :: a, b => by simp [rcs, rcs_app a b]
theorem rcs_get : ∀ (l : List (Bool × Int × Int)) (j : Nat) (r : Bool × Int × Int), l[j]? = some r → (rcs l)[j * 3]? = some (.bool r.1) ∧ (rcs l)[j * 3 + 1]? = some (.int .u64 r.2.1) ∧ (rcs l)[j * 3 + 2]? = some (.int .u64 r.2.2)
  | r :: l, 0, r', h => by simp at h; subst h; simp [rcs]
  | r :: l, j + 1, r', h => by
    have := rcs_get l j r' (by simpa using h)
    rw [show (j + 1) * 3 = j * 3 + 1 + 1 + 1 by omega]
    simpa [rcs] using this
theorem lo_rat {w : World} {base : Nat} {e : TypeId} {v : Value} {ls : List (Bool × Int × Int)} (h : w.ownsRow base e 3 v ls.length (rcs ls)) : RAt w v ls := by
  rcases lo_cells h with ⟨h1, h2⟩ | ⟨g, cap, h1, _, h2, _, h3⟩
  · exact Or.inl ⟨h1, List.length_eq_zero_iff.1 h2⟩
  · refine Or.inr ⟨g, 0, cap, h1, h2, fun j r hj => ?_⟩
    have := rcs_get ls j r hj
    simp only [Nat.zero_add]
    exact ⟨h3 _ _ this.1, h3 _ _ this.2.1, h3 _ _ this.2.2⟩
set_option maxRecDepth 100000 in
theorem fr_info : (Tryz.prog.info? 24).map (fun i => (i.zero, i.size, i.bytes)) = some (some (.agg #[.bool false, .int .u64 0, .int .u64 0]), 3, 24) := by kernel_rfl
theorem fr_one (l h : Int) (e : Bool) : ∀ u ∈ [Value.bool e, .int .u64 l, .int .u64 h], u.oneCell' = true := by
  intro u hu; simp at hu; rcases hu with rfl | rfl | rfl <;> rfl
end Go.Proofs.YteafnkimcidkhaaGreat


namespace Go.Proofs.YteafnkimcidkhaaGreat
open Go.RowKit Go.Shelf
set_option linter.unusedVariables false
set_option linter.unusedSimpArgs false
def mI (n : Int) : Int := mk false (fi n)
theorem mI_word {n : Int} (h : Sm n) : Word (mI n) := (pt_wd h).1
theorem tf_lof (n : Int) (h : Sm n) (V : World) : Calls Tryz.prog 20 #[.agg #[.bool false, .int .u64 (mI n), .int .u64 (mI n)]] V fun e w' => e = .returned (.agg #[.bool false, .bool false, .int .u64 (mI n), .int .u64 (mI n), .slice none 0 0]) ∧ Below V.heap.size V w' := by
  have := form_of (pt n) (pt_wd h) V
  rw [ofP_pt h] at this
  exact this
def ToldZ (Z : Zf) (n : Nat) (e : Ending) (w' : World) : Prop := ∃ rv, e = .returned (.agg #[.bool false, .bool false, .int .u64 (mI Z.1), .int .u64 (mI Z.1), rv]) ∧ TAt w' rv (tI Z.2) ∧ Up n rv
theorem tf_var (k : Int) (h0 : 0 ≤ k) (h3 : k < 3) (V : World) : Calls Tryz.prog 22 #[.int .i64 k] V fun e w' => ToldZ (0, [(k, 1)]) V.heap.size e w' ∧ Below V.heap.size V w' := by
  have := form_var k V
  rw [(okz_v h0 h3).2] at this
  exact this
theorem tf_sca {B n : Nat} {F Y : Zf} (hF : OkZ B n F) (hB : B < 9007199254740992) (hn : n ≤ 16) (x : Int) (hx : Sm x) (e : scaP (ofZ F) (pt x) = ofZ Y) (v : Value) (V : World) (t : TAt V v (tI F.2)) :
    Calls Tryz.prog 37 #[.agg #[.bool false, .bool false, .int .u64 (mI F.1), .int .u64 (mI F.1), v], .agg #[.bool false, .int .u64 (mI x), .int .u64 (mI x)]] V fun e w' => ToldZ Y V.heap.size e w' ∧ Below V.heap.size V w' := by
  have := form_scale (ofZ F) (hF.fok hB hn) (pt x) (pt_wd hx) v V t
  rw [e] at this
  exact this
theorem tf_add {B B' n n' : Nat} {F G Y : Zf} (hF : OkZ B n F) (hG : OkZ B' n' G) (hB : B < 9007199254740992) (hB' : B' < 9007199254740992) (hn : n ≤ 16) (hn' : n' ≤ 16) (e : addP (ofZ F) (ofZ G) = ofZ Y) (v u : Value) (V : World) (t : TAt V v (tI F.2)) (t' : TAt V u (tI G.2)) :
    Calls Tryz.prog 29 #[.agg #[.bool false, .bool false, .int .u64 (mI F.1), .int .u64 (mI F.1), v], .agg #[.bool false, .bool false, .int .u64 (mI G.1), .int .u64 (mI G.1), u]] V fun e w' => ToldZ Y V.heap.size e w' ∧ Below V.heap.size V w' := by
  have := form_add (ofZ F) (ofZ G) (hF.fok hB hn) (hG.fok hB' hn') v u V t t'
  rw [e] at this
  exact this
theorem tf_eval {B n : Nat} {F : Zf} (hF : OkZ B n F) (hB : B < 9007199254740992) (hn : n ≤ 16) (rs : List (Bool × Int × Int)) (hr : ∀ r ∈ rs, wdR r) (z : Int) (e : evaP (ofZ F) rs = (pt z, true)) (v vr : Value) (V : World) (t : TAt V v (tI F.2)) (tr : RAt V vr rs) :
    Calls Tryz.prog 35 #[.agg #[.bool false, .bool false, .int .u64 (mI F.1), .int .u64 (mI F.1), v], vr] V fun e w' => e = .returned (.tuple #[.agg #[.bool false, .int .u64 (mI z), .int .u64 (mI z)], .bool true]) ∧ Below V.heap.size V w' := by
  have := form_eval (ofZ F) (hF.fok hB hn) rs hr v vr V t tr
  rw [e] at this
  exact this
end Go.Proofs.YteafnkimcidkhaaGreat


namespace Go.Proofs.YteafnkimcidkhaaGreat
open Go.RowKit
set_option linter.unusedVariables false
set_option linter.unusedSimpArgs false
def ptl (a : Nat → Int) (i : Nat) : List (Bool × Int × Int) := (List.range i).map fun j => pt (a j)
theorem ptl_succ (a : Nat → Int) (i : Nat) : ptl a (i + 1) = ptl a i ++ [pt (a i)] := by simp [ptl, List.range_succ]
theorem ptl_len (a : Nat → Int) (i : Nat) : (ptl a i).length = i := by simp [ptl]
structure TF (c a : Nat → Int) (bc ba B5 B8 base : Nat) (w V : World) (Z : Zf) (v vv : Value) (s : Int) (r : Nat) : Prop where
  bw : Below w.heap.size w V
  cc : ∀ j, j < 3 → V.cell? ⟨bc, j, none⟩ = some (.int .i8 (c j))
  aa : ∀ j, j < 3 → V.cell? ⟨ba, j, none⟩ = some (.int .i8 (a j))
  q5 : V.heap[B5]? = some (.cells #[.bool false, .bool false, .int .u64 (mI Z.1), .int .u64 (mI Z.1), v] 31 (0, 0))
  q8 : V.heap[B8]? = some (.cells #[.bool false, .int .u64 (mI s), .int .u64 (mI s)] 24 (0, 0))
  t : TAt V v (tI Z.2)
  fr : Z.2 = [] ∨ ∃ b o p, v = .slice (some ⟨b, o, none⟩) Z.2.length p ∧ b < V.heap.size ∧ b ≠ B5 ∧ b ≠ B8 ∧ vv.ownBlock ≠ some b
  own : V.ownsRow base 24 3 vv r (rcs (ptl a r))
  nb : bc < base ∧ ba < base ∧ B5 < base ∧ B8 < base ∧ base ≤ V.heap.size ∧ w.heap.size ≤ B5 ∧ w.heap.size ≤ B8 ∧ w.heap.size ≤ base ∧ B5 ≠ B8 ∧ B5 ≠ bc ∧ B5 ≠ ba ∧ B8 ≠ bc ∧ B8 ≠ ba
theorem TF.on {c a : Nat → Int} {bc ba B5 B8 base : Nat} {w V V' : World} {Z : Zf} {v vv : Value} {s : Int} {r : Nat} (h : TF c a bc ba B5 B8 base w V Z v vv s r) (g : Below V.heap.size V V') : TF c a bc ba B5 B8 base w V' Z v vv s r :=
  ⟨sp_call h.bw g, fun j k => sO g (h.cc j k), fun j k => sO g (h.aa j k), lw_on g h.q5, lw_on g h.q8, h.t.on g, h.fr.imp id (fun ⟨b, o, p, e, k, l⟩ => ⟨b, o, p, e, Nat.lt_of_lt_of_le k g.size, l⟩), lo_on g h.own, by have := h.nb; have := g.size; omega⟩
theorem TAt.emp {V V' : World} {v : Value} (h : TAt V v []) : TAt V' v [] := by
  rcases h with h | ⟨b, o, c, h1, h2, _⟩
  · exact Or.inl h
  · exact Or.inr ⟨b, o, c, h1, h2, fun j t k => by simp at k⟩
theorem TAt.blk {V V' : World} {v : Value} {ls : List (Int × Bool × Int × Int)} {b o n p : Nat} (h : TAt V v ls) (e : v = .slice (some ⟨b, o, none⟩) n p) (k : V'.heap[b]? = V.heap[b]?) : TAt V' v ls := by
  rcases h with h | ⟨b', o', c, h1, h2, h3⟩
  · exact Or.inl h
  · refine Or.inr ⟨b', o', c, h1, h2, fun j t hj => ?_⟩
    rw [h1] at e
    cases e
    have kc : ∀ x, V'.cell? ⟨b, x, none⟩ = V.cell? ⟨b, x, none⟩ := fun x => World.cell?_of_block (w := V) (w' := V') (a := ⟨b, x, none⟩) k
    rw [kc, kc, kc, kc]
    exact h3 j t hj
theorem TF.kept {c a : Nat → Int} {bc ba B5 B8 base : Nat} {w V V' : World} {Z : Zf} {v vv vv' : Value} {s : Int} {r r' : Nat} (h : TF c a bc ba B5 B8 base w V Z v vv s r) (bw : Below w.heap.size w V') (sz : V.heap.size ≤ V'.heap.size) (k : ∀ b, b < V.heap.size → vv.ownBlock ≠ some b → V'.heap[b]? = V.heap[b]?)
    (own : V'.ownsRow base 24 3 vv' r' (rcs (ptl a r'))) (hat : vv'.ownBlock = vv.ownBlock ∨ ∃ n, vv'.ownBlock = some n ∧ V.heap.size ≤ n) : TF c a bc ba B5 B8 base w V' Z v vv' s r' := by
  have lo : ∀ b, b < base → vv.ownBlock ≠ some b := fun b hb e => by have := (h.own.lt b e).1; omega
  have nb := h.nb
  have kb : ∀ b, b < base → V'.heap[b]? = V.heap[b]? := fun b hb => k b (by omega) (lo b hb)
  have kc : ∀ b x, b < base → V'.cell? ⟨b, x, none⟩ = V.cell? ⟨b, x, none⟩ := fun b x hb => World.cell?_of_block (w := V) (w' := V') (a := ⟨b, x, none⟩) (kb b hb)
  refine ⟨bw, fun j hj => (kc _ _ nb.1).trans (h.cc j hj), fun j hj => (kc _ _ nb.2.1).trans (h.aa j hj), (kb _ nb.2.2.1).trans h.q5, (kb _ nb.2.2.2.1).trans h.q8, ?_, ?_, own, by omega⟩
  · rcases h.fr with e | ⟨b, o, p, e, l, _, _, n⟩
    · have t := h.t
      rw [e] at t ⊢
      exact TAt.emp t
    · exact h.t.blk e (k b l n)
  · refine h.fr.imp id (fun ⟨b, o, p, e, l, n1, n2, n3⟩ => ⟨b, o, p, e, by omega, n1, n2, fun e2 => ?_⟩)
    rcases hat with h1 | ⟨n, h1, h2⟩
    · exact n3 (h1 ▸ e2)
    · rw [h1] at e2; cases e2; omega
theorem TF.form {c a : Nat → Int} {bc ba B5 B8 base : Nat} {w V : World} {Z Z' : Zf} {v rv vv : Value} {s : Int} {r n : Nat} (h : TF c a bc ba B5 B8 base w V Z v vv s r) (t : TAt V rv (tI Z'.2)) (u : Up n rv) (hn : base ≤ n) (hv : ∀ k, vv.ownBlock = some k → k < n) :
    TF c a bc ba B5 B8 base w (set5 V B5 (.bool false) (.bool false) (.int .u64 (mI Z'.1)) (.int .u64 (mI Z'.1)) rv) Z' rv vv s r := by
  have nb := h.nb
  have lo : ∀ b, b < base → vv.ownBlock ≠ some b := fun b hb e => by have := (h.own.lt b e).1; omega
  have kb : ∀ b, b ≠ B5 → (set5 V B5 (.bool false) (.bool false) (.int .u64 (mI Z'.1)) (.int .u64 (mI Z'.1)) rv).heap[b]? = V.heap[b]? := fun b hb => by
    unfold set5
    rw [Below.heap_setCell _ _ _ _ hb, Below.heap_setCell _ _ _ _ hb, Below.heap_setCell _ _ _ _ hb, Below.heap_setCell _ _ _ _ hb, Below.heap_setCell _ _ _ _ hb]
  have ks : (set5 V B5 (.bool false) (.bool false) (.int .u64 (mI Z'.1)) (.int .u64 (mI Z'.1)) rv).heap.size = V.heap.size := by unfold set5; simp [go_sem]
  have q5 := lw_set5 h.q5 (.bool false) (.bool false) (.int .u64 (mI Z'.1)) (.int .u64 (mI Z'.1)) rv
  have bw := lw_sp5 h.bw nb.2.2.2.2.2.1 (.bool false) (.bool false) (.int .u64 (mI Z'.1)) (.int .u64 (mI Z'.1)) rv
  generalize set5 V B5 (.bool false) (.bool false) (.int .u64 (mI Z'.1)) (.int .u64 (mI Z'.1)) rv = V' at *
  have kc : ∀ b x, b ≠ B5 → V'.cell? ⟨b, x, none⟩ = V.cell? ⟨b, x, none⟩ := fun b x hb => World.cell?_of_block (w := V) (w' := V') (a := ⟨b, x, none⟩) (kb b hb)
  refine ⟨bw, fun j hj => (kc _ _ (by omega)).trans (h.cc j hj), fun j hj => (kc _ _ (by omega)).trans (h.aa j hj), q5, (kb _ (by omega)).trans h.q8, ?_, ?_, ?_, by omega⟩
  · rcases t with t | ⟨b, o, p, e, l, k⟩
    · exact Or.inl t
    · exact (show TAt V rv (tI Z'.2) from Or.inr ⟨b, o, p, e, l, k⟩).blk e (kb b (by have := u b o _ _ e; omega))
  · by_cases e0 : Z'.2 = []
    · exact Or.inl e0
    · right
      rcases t with ⟨_, t⟩ | ⟨b, o, p, e, l, k⟩
      · exfalso
        cases hz : Z'.2 with
        | nil => exact e0 hz
        | cons x xs => rw [hz] at t; cases t
      · rw [tI_len] at e
        have ub := u b o _ _ e
        refine ⟨b, o, p, e, ?_, by omega, by omega, fun e2 => by have := hv b e2; omega⟩
        cases hz : Z'.2 with
        | nil => exact absurd hz e0
        | cons x xs =>
          have := (k 0 (x.1, pt x.2) (by rw [hz]; rfl)).1
          rw [ks]
          exact World.block_lt_of_cell? V _ this
  · obtain ⟨h1, h2⟩ := h.own
    refine ⟨h1, h2.imp id ?_⟩
    rintro ⟨g, cap, cur, rfl, e2, e3, e4⟩
    exact ⟨g, cap, cur, rfl, e2, by rw [kb g (by omega)]; exact e3, e4⟩
end Go.Proofs.YteafnkimcidkhaaGreat


namespace Go.Proofs.YteafnkimcidkhaaGreat
open Go.ChangeShapes Go.WideShapes Go.ChangeAt Go.RowKit Go.Joins Go.Deep
set_option linter.unusedVariables false
set_option linter.unusedSimpArgs false
theorem pick_lt {α : Type} [Inhabited α] {m : Nat} {P : Nat → α → Prop} (h : ∀ i, i < m → ∃ t, P i t) : ∃ q : Nat → α, ∀ i, i < m → P i (q i) :=
  ⟨fun i => if hi : i < m then Classical.choose (h i hi) else default, fun i hi => by simp only [dif_pos hi]; exact Classical.choose_spec (h i hi)⟩
set_option maxRecDepth 100000 in
theorem open_row {H : Type} {enc : TypeId × Value → H} {W : World} {base m : Nat} {t e : TypeId} {K : IntKind} {v : Value} {d : DataW H} {p : List MemPlace} (ht : Tryz.prog.underlying t = some (.array m e)) (he : Tryz.prog.underlying e = some (.int K)) (hce : Tryz.prog.cellsOf e = 1) (hct : Tryz.prog.cellsOf t = m)
    (hv : Value.okWide Tryz.prog W .any base t v) (h : DataW.Trod enc Tryz.prog W 0 (fun _ => true) true t v d p) :
    ∃ (A : Array Value) (z : Nat → Int), v = .agg A ∧ (∀ j, j < m → (Lit.int K (z j)).wf = true ∧ A[j]? = some (.int K (z j))) ∧ ∀ x ∈ p, x.block < W.heap.size := by
  obtain ⟨cs, rfl, hsz⟩ := sp_okarr ht hv
  rw [hct] at hsz
  obtain ⟨fuel, hf⟩ := h
  simp only [Value.cells] at hf
  obtain ⟨xs, k, rfl, hx, hlen, hxl, hall⟩ := DataW.trod_array ht hf
  have each : ∀ i, i < m → ∃ t : Int, ((Lit.int K t).wf = true ∧ cs[i]? = some (.int K t)) ∧ ∀ y, xs[i]? = some y → y.2 = [] := by
    intro i hi
    obtain ⟨y, hy⟩ : ∃ y, xs[i]? = some y := ⟨_, List.getElem?_eq_getElem (by omega)⟩
    have h1 := hall i hi
    rw [hce, hy, Nat.mul_one] at h1
    obtain ⟨c, hc⟩ : ∃ c, cs[i]? = some c := ⟨_, Array.getElem?_eq_getElem (by omega)⟩
    have hd : (cs.toList.drop i).take 1 = [c] := by
      have hi' : i < cs.toList.length := by simp; omega
      rw [List.drop_eq_getElem_cons hi', List.take_succ_cons, List.take_zero]
      have : cs.toList[i]? = some c := by simpa using hc
      rw [List.getElem?_eq_getElem hi'] at this
      simpa using this
    rw [hd] at h1
    obtain ⟨x, ex, rfl, wx⟩ := DataW.trod_int he h1
    simp at ex
    subst ex
    exact ⟨x, ⟨wx, hc⟩, fun y' hy' => by rw [hy] at hy'; cases hy'; rfl⟩
  obtain ⟨q, hq⟩ := pick_lt each
  simp only [Prod.mk.injEq] at hx
  refine ⟨cs, q, rfl, fun j hj => (hq j hj).1, fun x hxp => ?_⟩
  rw [hx.2] at hxp
  obtain ⟨y, hy, hxy⟩ := List.mem_flatMap.1 hxp
  obtain ⟨i, hi, rfl⟩ := List.getElem_of_mem hy
  rw [(hq i (by omega)).2 _ (List.getElem?_eq_getElem hi)] at hxy
  simp at hxy
end Go.Proofs.YteafnkimcidkhaaGreat


namespace Go.Proofs.YteafnkimcidkhaaGreat
open Go.ChangeShapes Go.WideShapes Go.ChangeAt Go.RowKit Go.Joins Go.Deep
set_option linter.unusedVariables false
set_option linter.unusedSimpArgs false
end Go.Proofs.YteafnkimcidkhaaGreat




