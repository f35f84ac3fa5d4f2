/- Texts of the proof, put together. -/
import Derived.Test.YteafnkimcidkhaaGreatRows
import Derived.Test.YteafnkimcidkhaaGreatYRG1
import Derived.RangeFuncBound
import Derived.RangeFuncLeaves
import Derived.Shelf.Abstract
import Derived.Shelf.RegionOpen
import Derived.WalkKit
import Derived.OwnWalkIn
import Derived.TacticsInMore
import Derived.LoopNIn
import Derived.LoopIn
import Derived.Test.YteafnkimcidkhaaGreatYRG2
import Derived.Deep.DrawnRows
import Derived.Deep.DeepCutAuto
import Derived.Test.YteafnkimcidkhaaGreatYRSpF
import Derived.Test.YteafnkimcidkhaaGreatYRMB3
import Derived.Test.YteafnkimcidkhaaGreatYRSpFl
import Derived.Test.YteafnkimcidkhaaGreatYRSpWf
namespace Go.Proofs.YteafnkimcidkhaaGreat
open Go.RowKit Go.Shelf
set_option linter.unusedVariables false
set_option linter.unusedSimpArgs false
attribute [local go_sem] Oper.semAt_some
def SRowi (W : World) (b : Nat) (ls : List (Bool × Int × Int)) : Prop := ∀ j s, ls[j]? = some s → W.cell? ⟨b, j * 3, none⟩ = some (.bool s.1) ∧ W.cell? ⟨b, j * 3 + 1, none⟩ = some (.int .i64 s.2.1) ∧ W.cell? ⟨b, j * 3 + 2, none⟩ = some (.int .i64 s.2.2)
theorem SRowi.but {S : Nat → Prop} {A B : World} {b : Nat} {ls : List (Bool × Int × Int)} (h : SRowi A b ls) (hb : But S A B) (hs : ¬ S b) : SRowi B b ls := fun j s hj => by
 obtain ⟨h1, h2, h3⟩ := h j s hj
 exact ⟨hb.cell hs h1, hb.cell hs h2, hb.cell hs h3⟩
end Go.Proofs.YteafnkimcidkhaaGreat



namespace Go.Proofs.YteafnkimcidkhaaGreat
open Go.RowKit
set_option linter.unusedVariables false
set_option linter.unusedSimpArgs false
end Go.Proofs.YteafnkimcidkhaaGreat



namespace Go.Proofs.YteafnkimcidkhaaGreat
open Go.RowKit
set_option linter.unusedVariables false
set_option linter.unusedSimpArgs false
end Go.Proofs.YteafnkimcidkhaaGreat



namespace Go.Proofs.YteafnkimcidkhaaGreat
open Go.RowKit
set_option linter.unusedVariables false
set_option linter.unusedSimpArgs false
end Go.Proofs.YteafnkimcidkhaaGreat



namespace Go.Proofs.YteafnkimcidkhaaGreat
open Go.RowKit Go.Shelf
set_option linter.unusedVariables false
set_option linter.unusedSimpArgs false
attribute [local go_sem] Oper.semAt_some
structure TIi (A : Ways) (L : Ln) (T : Int) (p : Nat) (W0 : World) (pre : List Int) (V : World) : Prop where
 c0 : V.cell? ⟨p, 0, none⟩ = some (.bool (hullP A pre).1)
 c1 : V.cell? ⟨p, 1, none⟩ = some (.int .i64 (hullP A pre).2.1)
 c2 : V.cell? ⟨p, 2, none⟩ = some (.int .i64 (hullP A pre).2.2)
 ct : V.cell? ⟨p + 1, 0, none⟩ = some (.int .i64 (trapP A L T pre))
 fp : ∀ j, V.frozen? ⟨p, j, none⟩ = false
 ft : V.frozen? ⟨p + 1, 0, none⟩ = false
 but : But (fun k => k = p ∨ k = p + 1) W0 V
theorem TIi.next {A : Ways} {L : Ln} {T : Int} {p : Nat} {W0 V : World} {pre : List Int} {u0 u1 u2 : Value} {t : Int} {je : Bool} {jl jh : Int} (h0 : V.cell? ⟨p, 0, none⟩ = some u0) (h1 : V.cell? ⟨p, 1, none⟩ = some u1) (h2 : V.cell? ⟨p, 2, none⟩ = some u2)
  (ht : V.cell? ⟨p + 1, 0, none⟩ = some (.int .i64 t)) (fp : ∀ j, V.frozen? ⟨p, j, none⟩ = false) (ft : V.frozen? ⟨p + 1, 0, none⟩ = false) (hb : But (fun k => k = p ∨ k = p + 1) W0 V) (e1 : hullP A pre = (je, jl, jh)) (e2 : trapP A L T pre = t) :
  TIi A L T p W0 pre (((V.setCell ⟨p, 0, none⟩ (.bool je)).setCell ⟨p, 1, none⟩ (.int .i64 jl)).setCell ⟨p, 2, none⟩ (.int .i64 jh)) := by
 refine ⟨?_, ?_, ?_, ?_, ?_, ?_, ((hb.set (.inl rfl) _).set (.inl rfl) _).set (.inl rfl) _⟩
 ·rw [e1]; simp [go_sem, h0, h1, h2]
 ·rw [e1]; simp [go_sem, h0, h1, h2]
 ·rw [e1]; simp [go_sem, h0, h1, h2]
 ·rw [e2]; exact sp_keep3 ht (by omega) _ _ _
 ·intro j; simp [go_sem, fp]
 ·simp [go_sem, ft]
end Go.Proofs.YteafnkimcidkhaaGreat



namespace Go.Proofs.YteafnkimcidkhaaGreat
open Go.RowKit Go.Shelf
set_option linter.unusedVariables false
set_option linter.unusedSimpArgs false
attribute [local go_sem] Oper.semAt_some
def Box3i (W : World) (b : Nat) (s : Bool × Int × Int) : Prop := W.cell? ⟨b, 0, none⟩ = some (.bool s.1) ∧ W.cell? ⟨b, 1, none⟩ = some (.int .i64 s.2.1) ∧ W.cell? ⟨b, 2, none⟩ = some (.int .i64 s.2.2)
theorem Box3i.but {S : Nat → Prop} {A B : World} {b : Nat} {s : Bool × Int × Int} (h : Box3i A b s) (hb : But S A B) (hs : ¬ S b) : Box3i B b s := ⟨hb.cell hs h.1, hb.cell hs h.2.1, hb.cell hs h.2.2⟩
end Go.Proofs.YteafnkimcidkhaaGreat



namespace Go.Proofs.YteafnkimcidkhaaGreat
open Go.RowKit Go.Shelf
set_option linter.unusedVariables false
set_option linter.unusedSimpArgs false
attribute [local go_sem] Oper.semAt_some
end Go.Proofs.YteafnkimcidkhaaGreat



namespace Go.Proofs.YteafnkimcidkhaaGreat
open Go.RowKit
set_option linter.unusedVariables false
set_option linter.unusedSimpArgs false
end Go.Proofs.YteafnkimcidkhaaGreat



namespace Go.Proofs.YteafnkimcidkhaaGreat
open Go.RowKit
set_option linter.unusedVariables false
set_option linter.unusedSimpArgs false
end Go.Proofs.YteafnkimcidkhaaGreat



namespace Go.Proofs.YteafnkimcidkhaaGreat
open Go.RowKit
set_option linter.unusedVariables false
set_option linter.unusedSimpArgs false
end Go.Proofs.YteafnkimcidkhaaGreat



namespace Go.Proofs.YteafnkimcidkhaaGreat
open Go.RowKit
set_option linter.unusedVariables false
set_option linter.unusedSimpArgs false
end Go.Proofs.YteafnkimcidkhaaGreat



namespace Go.Proofs.YteafnkimcidkhaaGreat
open Go.RowKit
set_option linter.unusedVariables false
set_option linter.unusedSimpArgs false
end Go.Proofs.YteafnkimcidkhaaGreat



namespace Go.Proofs.YteafnkimcidkhaaGreat
open Go.RowKit
set_option linter.unusedVariables false
set_option linter.unusedSimpArgs false
def cmpI (x y : Int) : Int := if x < y then -1 else if x > y then 1 else 0
def in32 (x : Int) : Bool := decide (-2147483648 ≤ x ∧ x ≤ 2147483647)
def WyI : Ways := { dom := fun x => -9223372036854775808 ≤ x ∧ x ≤ 9223372036854775807, ord := cmpI, pl := fun x => x, one := in32, prv := fun x => x - 1, nxt := fun x => x + 1 }
end Go.Proofs.YteafnkimcidkhaaGreat



namespace Go.Proofs.YteafnkimcidkhaaGreat
end Go.Proofs.YteafnkimcidkhaaGreat



namespace Go.Proofs.YteafnkimcidkhaaGreat
set_option linter.unusedVariables false
set_option linter.unusedSimpArgs false
def mk (s : Bool) (r : Int) : Int := if r < 0 then sgnd s true (-r) else r
theorem fI_two (s : Bool) : 2 < fI s := by cases s <;> decide
theorem mk_made (s : Bool) (r : Int) : ∃ b : Bool, mk s r = sgnd s b (if r < 0 then -r else r) ∧ (b = true ↔ r < 0) := by
 unfold mk
 by_cases h : r < 0
 ·exact ⟨true, by simp [h], by simp [h]⟩
 ·exact ⟨false, by simp [h, sgnd], by simp [h]⟩
theorem mk_rnk {s : Bool} {r : Int} (h1 : -fI s ≤ r) (h2 : r ≤ fI s) : rnk s (mk s r) = r := by
 obtain ⟨b, e, hb⟩ := mk_made s r
 rw [e, rnk_made s b _ (by split <;> omega) (by split <;> omega)]
 cases b
 ·have : ¬ r < 0 := fun h => by simpa using hb.2 h
  simp [this]
 ·have := hb.1 rfl
  simp [this]
theorem mk_inj {s : Bool} {r q : Int} (h1 : -fI s ≤ r) (h2 : r ≤ fI s) (h3 : -fI s ≤ q) (h4 : q ≤ fI s) (e : mk s r = mk s q) : r = q := by
 rw [← mk_rnk h1 h2, ← mk_rnk h3 h4, e]
theorem cmp_mk {s : Bool} {r q : Int} (h1 : -fI s ≤ r) (h2 : r ≤ fI s) (h3 : -fI s ≤ q) (h4 : q ≤ fI s) : cmpF s (mk s r) (mk s q) = (cmpI r q, true) := by
 obtain ⟨b, e, hb⟩ := mk_made s r
 obtain ⟨c, k, hc⟩ := mk_made s q
 rw [e, k, cmp_made s b c _ _ (by split <;> omega) (by split <;> omega) (by split <;> omega) (by split <;> omega)]
 have f1 : (if b then -(if r < 0 then -r else r) else (if r < 0 then -r else r)) = r := by
  cases b
  ·have : ¬ r < 0 := fun h => by simpa using hb.2 h
   simp [this]
  ·have := hb.1 rfl
   simp [this]
 have f2 : (if c then -(if q < 0 then -q else q) else (if q < 0 then -q else q)) = q := by
  cases c
  ·have : ¬ q < 0 := fun h => by simpa using hc.2 h
   simp [this]
  ·have := hc.1 rfl
   simp [this]
 rw [f1, f2]
 rfl
theorem fin_mk {s : Bool} {r : Int} (h1 : -fI s ≤ r) (h2 : r ≤ fI s) : finF s (mk s r) = decide (-fI s < r ∧ r < fI s) := by
 obtain ⟨b, e, hb⟩ := mk_made s r
 rw [e]
 obtain ⟨z, hz⟩ := Int.eq_ofNat_of_zero_le (show 0 ≤ (if r < 0 then -r else r) by split <;> omega)
 by_cases c : -fI s < r ∧ r < fI s
 ·rw [decide_eq_true c, hz, n_fin s b z (by rw [← hz]; split <;> omega)]
 ·rw [decide_eq_false c]
  have k : cls s (sgnd s b (if r < 0 then -r else r)) = 4 := by
   have l := fI_lt s
   rw [cls_made s b _ (by split <;> omega) (by split <;> omega), if_neg (by split <;> omega), if_pos (by split <;> omega)]
  unfold finF
  rw [k]
  rfl
theorem plain_mk {s : Bool} {r : Int} (h1 : -fI s ≤ r) (h2 : r ≤ fI s) : plainF s (mk s r) = mk s r := by
 obtain ⟨b, e, hb⟩ := mk_made s r
 have l := fI_lt s
 have k := cls_made s b (if r < 0 then -r else r) (by split <;> omega) (by split <;> omega)
 rw [e]
 unfold plainF
 rw [k]
 by_cases z : r = 0
 ·subst z
  have : b = false := by
   cases b
   ·rfl
   ·exact absurd (hb.1 rfl) (by decide)
  subst this
  simp [sgnd]
  have := fI_two s
  split <;> (try split) <;> (try split) <;> simp_all <;> omega
 ·have n0 : ¬ (if r < 0 then -r else r) = 0 := by split <;> omega
  have n1 : ¬ fI s < (if r < 0 then -r else r) := by split <;> omega
  rw [if_neg n1, if_neg n0]
  by_cases c : (if r < 0 then -r else r) = fI s
  ·rw [if_pos c]; rfl
  ·rw [if_neg c]
   by_cases d : (if r < 0 then -r else r) / 2 ^ fP s = 0
   ·rw [if_pos d]; rfl
   ·rw [if_neg d]; rfl
theorem num_mk (s : Bool) (a : Int) (h : Word a) (n : (cls s a == 0 || cls s a == 5) = false) : ∃ r, -fI s ≤ r ∧ r ≤ fI s ∧ plainF s a = mk s r := by
 rcases num_or s a h with c | ⟨b, z, rfl, z0, z1⟩
 ·rw [n] at c; exact absurd c (by decide)
 ·by_cases e : z = 0
  ·subst e
   refine ⟨0, by have := fI_two s; omega, by have := fI_two s; omega, ?_⟩
   rw [show (0 : Int) = ((0 : Nat) : Int) from rfl, n_plain s b 0 (by have := fI_two s; omega)]
   rfl
  ·refine ⟨if b then -z else z, by split <;> omega, by split <;> omega, ?_⟩
   have m : mk s (if b then -z else z) = sgnd s b z := by
    unfold mk
    cases b
    ·have : ¬ z < 0 := by omega
     simp [this, sgnd]
    ·have : -z < 0 := by omega
     rw [if_pos rfl, if_pos this, Int.neg_neg]
   rw [← m]
   exact plain_mk (by split <;> omega) (by split <;> omega)
theorem one_mk {s : Bool} {r : Int} (h1 : -fI s < r) (h2 : r < fI s) : (WyF s).one (mk s r) = true := by
 show (finF s (mk s r) && (plainF s (mk s r) == mk s r)) = true
 rw [fin_mk (by omega) (by omega), plain_mk (by omega) (by omega), decide_eq_true ⟨h1, h2⟩]
 simp
theorem one_is {s : Bool} {a : Int} (h : Word a) (o : (WyF s).one a = true) : ∃ r, -fI s < r ∧ r < fI s ∧ a = mk s r := by
 have o' : (finF s a && (plainF s a == a)) = true := o
 simp only [Bool.and_eq_true, beq_iff_eq] at o'
 obtain ⟨r, r1, r2, e⟩ := num_mk s a h (n_num o'.1).1
 rw [o'.2] at e
 subst e
 have f := o'.1
 rw [fin_mk r1 r2] at f
 have := of_decide_eq_true f
 exact ⟨r, this.1, this.2, rfl⟩
theorem ord_mk {s : Bool} {r q : Int} (h1 : -fI s ≤ r) (h2 : r ≤ fI s) (h3 : -fI s ≤ q) (h4 : q ≤ fI s) : (WyF s).ord (mk s r) (mk s q) = WyI.ord r q := by
 show (cmpF s (mk s r) (mk s q)).1 = cmpI r q
 rw [cmp_mk h1 h2 h3 h4]
end Go.Proofs.YteafnkimcidkhaaGreat



namespace Go.Proofs.YteafnkimcidkhaaGreat
open Go.RowKit
set_option linter.unusedVariables false
set_option linter.unusedSimpArgs false
def FlAt (f : Int) (L : Ln) (B : Nat) (w0 : World) : Prop := ∃ p q, L = LnF (f == 1) p q ∧ B ≤ w0.heap.size ∧ p < B ∧ q < B ∧ w0.cell? ⟨p, 0, none⟩ = some (.int .i64 f) ∧ LineAt w0 q L
theorem floats_at (f : Int) (w : World) : Calls Tryz.prog 100 #[.int .i64 f] w fun e w' => ∃ L, e = .returned (.agg (lvf L)) ∧ FlAt f L w'.heap.size w' ∧ Below w.heap.size w w' := by
 refine (floats_any f w).mono ?_
 rintro e w' ⟨q, rfl, h1, h2, h3, h4, h5, h6⟩
 exact ⟨_, rfl, ⟨w.heap.size, q, rfl, Nat.le_refl _, h4, h5, h1, h2⟩, h6⟩
theorem fl_acts {f : Int} {L : Ln} {B : Nat} {w0 : World} (h : FlAt f L B w0) : Actsf L (WyF (f == 1)) B w0 := by
 obtain ⟨p, q, rfl, h1, h2, h3, h4, h5⟩ := h
 exact acts_f f p q B w0 h1 h2 h4
set_option maxRecDepth 100000 in
set_option maxHeartbeats 6400000 in
theorem ofFloats_any (e1 : Bool) (a b : Int) (w : World) : Calls Tryz.prog 104 #[.agg #[.bool e1, .int .u64 a, .int .u64 b]] w fun e w' => e = .returned (.agg #[.bool e1, .int .u64 a, .int .u64 b]) ∧ Below w.heap.size w w' := by
 go_enter Tryz.func104, Tryz.ntmps104
 go_wp2_with fail
 exact bodyPost_ret (v := .agg #[.bool e1, .int .u64 a, .int .u64 b]) (by simp [results, Tryz.results104, go_sem]) rfl ⟨rfl, sp_new (sp_new (Below.refl _ _) _) _⟩
set_option maxRecDepth 100000 in
set_option maxHeartbeats 6400000 in
theorem floatRange_any (e1 : Bool) (a b : Int) (w : World) : Calls Tryz.prog 99 #[.agg #[.bool e1, .int .u64 a, .int .u64 b]] w fun e w' => e = .returned (.agg #[.bool e1, .int .u64 a, .int .u64 b]) ∧ Below w.heap.size w w' := by
 go_enter Tryz.func99, Tryz.ntmps99
 go_wp2_with fail
 exact bodyPost_ret (v := .agg #[.bool e1, .int .u64 a, .int .u64 b]) (by simp [results, Tryz.results99, go_sem]) rfl ⟨rfl, sp_new (sp_new (Below.refl _ _) _) _⟩
set_option maxRecDepth 100000 in
set_option maxHeartbeats 6400000 in
theorem right_of (f : Int) (e1 : Bool) (a b : Int) (r : Bool) (h : ∀ L B w0, FlAt f L B w0 → ∀ V, Below B w0 V → Calls Tryz.prog 149 #[.agg (lvf L), .agg #[.bool e1, .int .u64 a, .int .u64 b]] V fun e w' => e = .returned (.bool r) ∧ Below V.heap.size V w') (w : World) :
  Calls Tryz.prog 123 #[.int .i64 f, .agg #[.bool e1, .int .u64 a, .int .u64 b]] w fun e w' => e = .returned (.bool r) ∧ Below w.heap.size w w' := by
 have h1 := floats_at f
 have ho1 := ofFloats_any
 have ho2 := ofFloats_any
 go_enter Tryz.func123, Tryz.ntmps123
 go_wp2_with fail
 obtain ⟨W, hW⟩ : ∃ W, (w.alloc (.cells #[.bool e1, .int .u64 a, .int .u64 b] 24)) = W := ⟨_, rfl⟩
 have a0 : W.cell? ⟨w.heap.size, 0, none⟩ = some (.bool e1) := by rw [← hW]; simp [go_sem]
 have a1 : W.cell? ⟨w.heap.size, 1, none⟩ = some (.int .u64 a) := by rw [← hW]; simp [go_sem]
 have a2 : W.cell? ⟨w.heap.size, 2, none⟩ = some (.int .u64 b) := by rw [← hW]; simp [go_sem]
 have bW : Below w.heap.size w W := by rw [← hW]; exact (sp_new (Below.refl _ _) _)
 have zW : W.heap.size = w.heap.size + 1 := by rw [← hW]; simp
 rw [hW]
 clear hW
 go_region_held3 (fun w' => w'.cell? ⟨w.heap.size, 0, none⟩ = some (.bool e1) ∧ w'.cell? ⟨w.heap.size, 1, none⟩ = some (.int .u64 a) ∧ w'.cell? ⟨w.heap.size, 2, none⟩ = some (.int .u64 b)) (exact ⟨a0, a1, a2⟩)
  (first
   | (go_at_call 100; refine (h1 _).mono ?_; rintro e v1 ⟨L, rfl, hL, g⟩; replace g : Below W.heap.size W v1 := ⟨g.os, g.tape, g.output, g.size, g.block⟩; replace bW := sp_call bW g; replace a0 := sO g a0; replace a1 := sO g a1; replace a2 := sO g a2; have oL : Below v1.heap.size v1 v1 := Below.refl _ _; clear g)
   | (go_at_call 104; refine (ho1 _ _ _ _).mono ?_; rintro e v2 ⟨rfl, g⟩; replace g : Below v1.heap.size v1 v2 := ⟨g.os, g.tape, g.output, g.size, g.block⟩; replace bW := sp_call bW g; replace a0 := sO g a0; replace a1 := sO g a1; replace a2 := sO g a2; replace oL := sp_call oL g; clear g; clear ho1)
   | (go_at_call 149; refine (h L _ _ hL _ (by first | exact oL | exact oL.drew)).mono ?_; rintro e v9 ⟨rfl, g⟩; replace g : Below v2.heap.size v2 v9 := ⟨g.os, g.tape, g.output, g.size, g.block⟩; replace bW := sp_call bW g; replace a0 := sO g a0; replace a1 := sO g a1; replace a2 := sO g a2; clear g)
   | fail)
 all_goals go_wp2
 all_goals go_ret
 all_goals exact ⟨rfl, bW⟩
theorem right_any (f : Int) (e1 : Bool) (a b : Int) (ha : Word a) (hb : Word b) (w : World) : Calls Tryz.prog 123 #[.int .i64 f, .agg #[.bool e1, .int .u64 a, .int .u64 b]] w fun e w' => e = .returned (.bool (rightP (WyF (f == 1)) (e1, a, b))) ∧ Below w.heap.size w w' :=
 right_of f e1 a b _ (fun L B w0 hL V ok => right_f (fl_acts hL) e1 a b ha hb V ok) w
end Go.Proofs.YteafnkimcidkhaaGreat



namespace Go.Proofs.YteafnkimcidkhaaGreat
open Go.RowKit
set_option linter.unusedVariables false
set_option linter.unusedSimpArgs false
end Go.Proofs.YteafnkimcidkhaaGreat


namespace Go.Proofs.YteafnkimcidkhaaGreat
open Go.RowKit Go.Shelf
set_option linter.unusedVariables false
set_option linter.unusedSimpArgs false
attribute [local go_sem] Oper.semAt_some
structure TIf (A : Ways) (L : Ln) (T : Int) (p : Nat) (W0 : World) (pre : List Int) (V : World) : Prop where
 c0 : V.cell? ⟨p, 0, none⟩ = some (.bool (hullP A pre).1)
 c1 : V.cell? ⟨p, 1, none⟩ = some (.int .u64 (hullP A pre).2.1)
 c2 : V.cell? ⟨p, 2, none⟩ = some (.int .u64 (hullP A pre).2.2)
 ct : V.cell? ⟨p + 1, 0, none⟩ = some (.int .i64 (trapP A L T pre))
 fp : ∀ j, V.frozen? ⟨p, j, none⟩ = false
 ft : V.frozen? ⟨p + 1, 0, none⟩ = false
 but : But (fun k => k = p ∨ k = p + 1) W0 V
theorem TIf.next {A : Ways} {L : Ln} {T : Int} {p : Nat} {W0 V : World} {pre : List Int} {u0 u1 u2 : Value} {t : Int} {je : Bool} {jl jh : Int} (h0 : V.cell? ⟨p, 0, none⟩ = some u0) (h1 : V.cell? ⟨p, 1, none⟩ = some u1) (h2 : V.cell? ⟨p, 2, none⟩ = some u2)
  (ht : V.cell? ⟨p + 1, 0, none⟩ = some (.int .i64 t)) (fp : ∀ j, V.frozen? ⟨p, j, none⟩ = false) (ft : V.frozen? ⟨p + 1, 0, none⟩ = false) (hb : But (fun k => k = p ∨ k = p + 1) W0 V) (e1 : hullP A pre = (je, jl, jh)) (e2 : trapP A L T pre = t) :
  TIf A L T p W0 pre (((V.setCell ⟨p, 0, none⟩ (.bool je)).setCell ⟨p, 1, none⟩ (.int .u64 jl)).setCell ⟨p, 2, none⟩ (.int .u64 jh)) := by
 refine ⟨?_, ?_, ?_, ?_, ?_, ?_, ((hb.set (.inl rfl) _).set (.inl rfl) _).set (.inl rfl) _⟩
 ·rw [e1]; simp [go_sem, h0, h1, h2]
 ·rw [e1]; simp [go_sem, h0, h1, h2]
 ·rw [e1]; simp [go_sem, h0, h1, h2]
 ·rw [e2]; exact sp_keep3 ht (by omega) _ _ _
 ·intro j; simp [go_sem, fp]
 ·simp [go_sem, ft]
end Go.Proofs.YteafnkimcidkhaaGreat


namespace Go.Proofs.YteafnkimcidkhaaGreat
open Go.RowKit Go.Shelf
set_option linter.unusedVariables false
set_option linter.unusedSimpArgs false
attribute [local go_sem] Oper.semAt_some
def Box3f (W : World) (b : Nat) (s : Bool × Int × Int) : Prop := W.cell? ⟨b, 0, none⟩ = some (.bool s.1) ∧ W.cell? ⟨b, 1, none⟩ = some (.int .u64 s.2.1) ∧ W.cell? ⟨b, 2, none⟩ = some (.int .u64 s.2.2)
theorem Box3f.but {S : Nat → Prop} {A B : World} {b : Nat} {s : Bool × Int × Int} (h : Box3f A b s) (hb : But S A B) (hs : ¬ S b) : Box3f B b s := ⟨hb.cell hs h.1, hb.cell hs h.2.1, hb.cell hs h.2.2⟩
end Go.Proofs.YteafnkimcidkhaaGreat


namespace Go.Proofs.YteafnkimcidkhaaGreat
open Go.RowKit Go.Shelf
set_option linter.unusedVariables false
set_option linter.unusedSimpArgs false
attribute [local go_sem] Oper.semAt_some
end Go.Proofs.YteafnkimcidkhaaGreat


namespace Go.Proofs.YteafnkimcidkhaaGreat
open Go.RowKit
set_option linter.unusedVariables false
set_option linter.unusedSimpArgs false
end Go.Proofs.YteafnkimcidkhaaGreat


namespace Go.Proofs.YteafnkimcidkhaaGreat
open Go.RowKit
set_option linter.unusedVariables false
set_option linter.unusedSimpArgs false
end Go.Proofs.YteafnkimcidkhaaGreat


namespace Go.Proofs.YteafnkimcidkhaaGreat
open Go.RowKit
set_option linter.unusedVariables false
set_option linter.unusedSimpArgs false
theorem carry1f {X v : World} {b : Nat} {o : Obj} (g : Below X.heap.size X v) (q : X.heap[b]? = some o) : v.heap[b]? = some o := (g.block b (Array.getElem?_eq_some_iff.1 q).1).trans q
theorem carry2f {X v : World} {b : Nat} {o o' : Obj} (g : Below (X.alloc o').heap.size (X.alloc o') v) (q : X.heap[b]? = some o) : v.heap[b]? = some o := carry1f g ((Below.heap_alloc X o' b (Array.getElem?_eq_some_iff.1 q).1).trans q)
theorem carry3f {X v : World} {b : Nat} {o o' : Obj} (g : Below (X.alloc o').drew.heap.size (X.alloc o').drew v) (q : X.heap[b]? = some o) : v.heap[b]? = some o := carry2f (X := X) (o' := o') ⟨g.os, g.tape, g.output, g.size, g.block⟩ q
theorem zcellsf {v : World} {b : Nat} {t : TypeId} (q : v.heap[b]? = some (.cells #[.bool false, .int .u64 0, .int .u64 0] t (0, 0))) : v.cell? ⟨b, 0, none⟩ = some (.bool false) ∧ v.cell? ⟨b, 1, none⟩ = some (.int .u64 0) ∧ v.cell? ⟨b, 2, none⟩ = some (.int .u64 0) ∧ ∀ j, v.frozen? ⟨b, j, none⟩ = false := by
 refine ⟨by simp [World.cell?, q], by simp [World.cell?, q], by simp [World.cell?, q], fun j => by simp [World.frozen?, q]⟩
end Go.Proofs.YteafnkimcidkhaaGreat



namespace Go.Proofs.YteafnkimcidkhaaGreat
open Go.RowKit
set_option linter.unusedVariables false
set_option linter.unusedSimpArgs false
end Go.Proofs.YteafnkimcidkhaaGreat



namespace Go.Proofs.YteafnkimcidkhaaGreat
open Go.RowKit
set_option linter.unusedVariables false
set_option linter.unusedSimpArgs false
set_option maxRecDepth 100000 in
set_option maxHeartbeats 6400000 in
theorem of_f {L : Ln} {A : Ways} {B : Nat} {w0 : World} (H : Actsf L A B w0) (x y : Int) (dx : A.dom x) (dy : A.dom y) (dpx : A.dom (A.pl x)) (dpy : A.dom (A.pl y)) (w : World) (ok : Below B w0 w) :
   Calls Tryz.prog 101 #[.agg (lvf L), .int .u64 x, .int .u64 y] w fun e w' => e = .returned (sVf (ofP A x y)) ∧ Below w.heap.size w w' := by
 have h1 := fun V ok => H.pl x V dx ok
 have h2 := fun V ok => H.pl y V dy ok
 have h3 := fun V ok => right_f H false (A.pl x) (A.pl y) dpx dpy V ok
 have h4 := none_f
 have hB := H.hB
 have ep := H.ep
 obtain ⟨R, HR⟩ : ∃ R, Hid (R = sVf (ofP A x y)) := ⟨_, rfl⟩
 rw [← HR.out]
 replace HR := HR.out
 unfold sVf ofP at HR
 unfold lvf at *
 clear H
 generalize rightP A (false, A.pl x, A.pl y) = rt at *
 generalize A.pl x = px at *
 generalize A.pl y = py at *
 replace HR : Hid _ := HR
 go_enter Tryz.func101, Tryz.ntmps101
 go_upto_region 1 with fail
 obtain ⟨W, hW⟩ : ∃ W, ((w.alloc (.cells #[.int .u64 L.least, .int .u64 L.most, .int .i64 L.past, .func (.func L.ko) #[] L.co, .func (.func L.kp) #[] L.cp, .func (.func L.k1) #[] L.c1, .func (.func L.kv) #[] L.cv, .func (.func L.kn) #[] L.cn, .func (.func L.ku) #[] L.cu, .func (.func L.kt) #[] L.ct, .func (.func L.kz) #[] L.cz] 134)).alloc (.cells #[.bool false, .int .u64 0, .int .u64 0] 126)) = W := ⟨_, rfl⟩
 have l0 : W.cell? ⟨w.heap.size, 0, none⟩ = some (.int .u64 L.least) := by rw [← hW]; simp [go_sem]
 have l1 : W.cell? ⟨w.heap.size, 1, none⟩ = some (.int .u64 L.most) := by rw [← hW]; simp [go_sem]
 have l2 : W.cell? ⟨w.heap.size, 2, none⟩ = some (.int .i64 L.past) := by rw [← hW]; simp [go_sem]
 have l3 : W.cell? ⟨w.heap.size, 3, none⟩ = some (.func (.func L.ko) #[] L.co) := by rw [← hW]; simp [go_sem]
 have l4 : W.cell? ⟨w.heap.size, 4, none⟩ = some (.func (.func L.kp) #[] L.cp) := by rw [← hW]; simp [go_sem]
 have l5 : W.cell? ⟨w.heap.size, 5, none⟩ = some (.func (.func L.k1) #[] L.c1) := by rw [← hW]; simp [go_sem]
 have l6 : W.cell? ⟨w.heap.size, 6, none⟩ = some (.func (.func L.kv) #[] L.cv) := by rw [← hW]; simp [go_sem]
 have l7 : W.cell? ⟨w.heap.size, 7, none⟩ = some (.func (.func L.kn) #[] L.cn) := by rw [← hW]; simp [go_sem]
 have l8 : W.cell? ⟨w.heap.size, 8, none⟩ = some (.func (.func L.ku) #[] L.cu) := by rw [← hW]; simp [go_sem]
 have l9 : W.cell? ⟨w.heap.size, 9, none⟩ = some (.func (.func L.kt) #[] L.ct) := by rw [← hW]; simp [go_sem]
 have l10 : W.cell? ⟨w.heap.size, 10, none⟩ = some (.func (.func L.kz) #[] L.cz) := by rw [← hW]; simp [go_sem]
 have r0 : W.cell? ⟨w.heap.size + 1, 0, none⟩ = some (.bool false) := by rw [← hW]; simp [go_sem]
 have r1 : W.cell? ⟨w.heap.size + 1, 1, none⟩ = some (.int .u64 0) := by rw [← hW]; simp [go_sem]
 have r2 : W.cell? ⟨w.heap.size + 1, 2, none⟩ = some (.int .u64 0) := by rw [← hW]; simp [go_sem]
 have okW : Below B w0 W := by rw [← hW]; exact (ok_new hB (ok_new hB ok _) _)
 have bW : Below w.heap.size w W := by rw [← hW]; exact (sp_new (sp_new (Below.refl _ _) _) _)
 have zW : W.heap.size = w.heap.size + 2 := by rw [← hW]; simp
 have fz : ∀ j, W.frozen? ⟨w.heap.size + 1, j, none⟩ = false := by intro j; rw [← hW]; simp [go_sem]
 rw [hW]
 clear hW
 have okc : ∀ X, Below W.heap.size W X → Below B w0 X := fun X cc => ok_call hB okW cc
 have hall : ∀ X, Below W.heap.size W X → (X.cell? ⟨w.heap.size, 0, none⟩ = some (.int .u64 L.least) ∧ X.cell? ⟨w.heap.size, 1, none⟩ = some (.int .u64 L.most) ∧ X.cell? ⟨w.heap.size, 2, none⟩ = some (.int .i64 L.past) ∧ X.cell? ⟨w.heap.size, 3, none⟩ = some (.func (.func L.ko) #[] L.co) ∧ X.cell? ⟨w.heap.size, 4, none⟩ = some (.func (.func L.kp) #[] L.cp) ∧ X.cell? ⟨w.heap.size, 5, none⟩ = some (.func (.func L.k1) #[] L.c1) ∧ X.cell? ⟨w.heap.size, 6, none⟩ = some (.func (.func L.kv) #[] L.cv) ∧ X.cell? ⟨w.heap.size, 7, none⟩ = some (.func (.func L.kn) #[] L.cn) ∧ X.cell? ⟨w.heap.size, 8, none⟩ = some (.func (.func L.ku) #[] L.cu) ∧ X.cell? ⟨w.heap.size, 9, none⟩ = some (.func (.func L.kt) #[] L.ct) ∧ X.cell? ⟨w.heap.size, 10, none⟩ = some (.func (.func L.kz) #[] L.cz)) := fun X cc => ⟨sO cc l0, sO cc l1, sO cc l2, sO cc l3, sO cc l4, sO cc l5, sO cc l6, sO cc l7, sO cc l8, sO cc l9, sO cc l10⟩
 have cc : Below W.heap.size W W := Below.refl _ _
 replace zW := Nat.le_of_eq zW.symm
 go_cut [7] from 8 to 16 (fun s X => ∃ b : Nat, s = .pointer (some ⟨b, 0, none⟩) ∧ W.heap.size ≤ b ∧ X.cell? ⟨b, 0, none⟩ = some (.bool false) ∧ X.cell? ⟨b, 1, none⟩ = some (.int .u64 px) ∧ X.cell? ⟨b, 2, none⟩ = some (.int .u64 py) ∧ Below W.heap.size W X)
 case first =>
  go_region_held3 (fun w' => w'.cell? ⟨w.heap.size, 0, none⟩ = some (.int .u64 L.least) ∧ w'.cell? ⟨w.heap.size, 1, none⟩ = some (.int .u64 L.most) ∧ w'.cell? ⟨w.heap.size, 2, none⟩ = some (.int .i64 L.past) ∧ w'.cell? ⟨w.heap.size, 3, none⟩ = some (.func (.func L.ko) #[] L.co) ∧ w'.cell? ⟨w.heap.size, 4, none⟩ = some (.func (.func L.kp) #[] L.cp) ∧ w'.cell? ⟨w.heap.size, 5, none⟩ = some (.func (.func L.k1) #[] L.c1) ∧ w'.cell? ⟨w.heap.size, 6, none⟩ = some (.func (.func L.kv) #[] L.cv) ∧ w'.cell? ⟨w.heap.size, 7, none⟩ = some (.func (.func L.kn) #[] L.cn) ∧ w'.cell? ⟨w.heap.size, 8, none⟩ = some (.func (.func L.ku) #[] L.cu) ∧ w'.cell? ⟨w.heap.size, 9, none⟩ = some (.func (.func L.kt) #[] L.ct) ∧ w'.cell? ⟨w.heap.size, 10, none⟩ = some (.func (.func L.kz) #[] L.cz)) (first | exact hall _ (by first | exact cc | exact cc.drew | exact sp_new cc _ | exact (sp_new cc _).drew | exact sp_new cc.drew _ | exact sp_new (sp_new cc _) _ | exact sp_set3 cc (by omega) _ _ _ | exact (sp_set3 cc (by omega) _ _ _).drew) | trivial)
    (first
     | (go_at_fn L.kp; refine (h1 _ (okc _ (by first | exact cc | exact cc.drew | exact sp_new cc _ | exact (sp_new cc _).drew | exact sp_new cc.drew _ | exact sp_new (sp_new cc _) _))).mono ?_; rintro e v1 ⟨rfl, g⟩; replace cc := sp_call (show Below W.heap.size W _ by first | exact cc | exact cc.drew | exact sp_new cc _ | exact (sp_new cc _).drew | exact sp_new cc.drew _ | exact sp_new (sp_new cc _) _) g; have zcv1 := cc.size; (try first | (have qb := carry1f (o := (Obj.cells #[.bool false, .int .u64 0, .int .u64 0] 126 (0, 0))) g (by assumption)) | (have qb := carry2f (o := (Obj.cells #[.bool false, .int .u64 0, .int .u64 0] 126 (0, 0))) g (by assumption)) | (have qb := carry3f (o := (Obj.cells #[.bool false, .int .u64 0, .int .u64 0] 126 (0, 0))) g (by assumption)) | skip); (try first | (have qb : v1.heap[W.heap.size]? = some (Obj.cells #[.bool false, .int .u64 0, .int .u64 0] 126 (0, 0)) := carry1f g (World.alloc_heap_new W (Obj.cells #[.bool false, .int .u64 0, .int .u64 0] 126 (0, 0)))) | (have qb : v1.heap[W.heap.size]? = some (Obj.cells #[.bool false, .int .u64 0, .int .u64 0] 126 (0, 0)) := carry1f g (World.alloc_heap_new W.drew (Obj.cells #[.bool false, .int .u64 0, .int .u64 0] 126 (0, 0)))) | (have qb : v1.heap[W.heap.size]? = some (Obj.cells #[.bool false, .int .u64 0, .int .u64 0] 126 (0, 0)) := carry1f g (show (World.drew (World.alloc W (Obj.cells #[.bool false, .int .u64 0, .int .u64 0] 126 (0, 0)))).heap[W.heap.size]? = some (Obj.cells #[.bool false, .int .u64 0, .int .u64 0] 126 (0, 0)) from World.alloc_heap_new W (Obj.cells #[.bool false, .int .u64 0, .int .u64 0] 126 (0, 0)))) | skip); skip)
     | (go_at_fn L.kp; refine (h2 _ (okc _ (by first | exact cc | exact cc.drew | exact sp_new cc _ | exact (sp_new cc _).drew | exact sp_new cc.drew _ | exact sp_new (sp_new cc _) _))).mono ?_; rintro e v2 ⟨rfl, g⟩; replace cc := sp_call (show Below W.heap.size W _ by first | exact cc | exact cc.drew | exact sp_new cc _ | exact (sp_new cc _).drew | exact sp_new cc.drew _ | exact sp_new (sp_new cc _) _) g; have zcv2 := cc.size; (try first | (have qb := carry1f (o := (Obj.cells #[.bool false, .int .u64 0, .int .u64 0] 126 (0, 0))) g (by assumption)) | (have qb := carry2f (o := (Obj.cells #[.bool false, .int .u64 0, .int .u64 0] 126 (0, 0))) g (by assumption)) | (have qb := carry3f (o := (Obj.cells #[.bool false, .int .u64 0, .int .u64 0] 126 (0, 0))) g (by assumption)) | skip); (try first | (have qb : v2.heap[v1.heap.size]? = some (Obj.cells #[.bool false, .int .u64 0, .int .u64 0] 126 (0, 0)) := carry1f g (World.alloc_heap_new v1 (Obj.cells #[.bool false, .int .u64 0, .int .u64 0] 126 (0, 0)))) | (have qb : v2.heap[v1.heap.size]? = some (Obj.cells #[.bool false, .int .u64 0, .int .u64 0] 126 (0, 0)) := carry1f g (World.alloc_heap_new v1.drew (Obj.cells #[.bool false, .int .u64 0, .int .u64 0] 126 (0, 0)))) | (have qb : v2.heap[v1.heap.size]? = some (Obj.cells #[.bool false, .int .u64 0, .int .u64 0] 126 (0, 0)) := carry1f g (show (World.drew (World.alloc v1 (Obj.cells #[.bool false, .int .u64 0, .int .u64 0] 126 (0, 0)))).heap[v1.heap.size]? = some (Obj.cells #[.bool false, .int .u64 0, .int .u64 0] 126 (0, 0)) from World.alloc_heap_new v1 (Obj.cells #[.bool false, .int .u64 0, .int .u64 0] 126 (0, 0)))) | skip); (try first | (have hq := zcellsf (v := v2) (by assumption); obtain ⟨q0, q1, q2, qf⟩ := hq) | skip); skip)
     | fail)
  all_goals go_wp2_with fail
  all_goals go_meet
  all_goals exact ⟨_, rfl, by omega, by first | (simp [go_sem]; done) | (simp [go_sem, q0, q1, q2]; done), by first | (simp [go_sem]; done) | (simp [go_sem, q0, q1, q2]; done), by first | (simp [go_sem]; done) | (simp [go_sem, q0, q1, q2]; done), by first | exact sp_new cc _ | exact sp_set3 cc (by omega) _ _ _⟩
 case rest =>
  obtain ⟨bq, rfl, hbq, t0, t1, t2, cX⟩ := hcut
  have hl := hall _ cX
  clear l0 l1 l2 l3 l4 l5 l6 l7 l8 l9 l10
  obtain ⟨l0, l1, l2, l3, l4, l5, l6, l7, l8, l9, l10⟩ := hl
  replace r0 := sO cX r0
  replace r1 := sO cX r1
  replace r2 := sO cX r2
  replace fz := fun j => (cX.frozen (p := ⟨w.heap.size + 1, j, none⟩) (by simp; omega)).trans (fz j)
  have zX := cX.size
  have bX := sp_call bW cX
  clear hall cc
  cases rt
  · go_wp2_with (first
     | (go_at_call 149; refine (h3 _ (okc _ cX)).mono ?_; rintro e v3 ⟨rfl, g⟩; replace fz := fun j => (g.frozen (p := ⟨w.heap.size + 1, j, none⟩) (by simp; omega)).trans (fz j); have z3 := g.size; replace bX := sp_call bX g; replace t0 := sO g t0; replace t1 := sO g t1; replace t2 := sO g t2; replace r0 := sO g r0; replace r1 := sO g r1; replace r2 := sO g r2; clear g)
     | (go_at_call 150; refine (h4 _).mono ?_; rintro e v4 ⟨rfl, g⟩; replace fz := fun j => (g.frozen (p := ⟨w.heap.size + 1, j, none⟩) (by simp; omega)).trans (fz j); replace bX := sp_call bX g; replace r0 := sO g r0; replace r1 := sO g r1; replace r2 := sO g r2; clear g)
     | fail)
    exact bodyPost_ret (v := .agg #[.bool true, .int .u64 0, .int .u64 0]) (by simp [results, Tryz.results101, go_sem, r0, r1, r2]) rfl ⟨by rw [HR.out]; simp, sp_set3 bX (by omega) _ _ _⟩
  · go_wp2_with (first
     | (go_at_call 149; refine (h3 _ (okc _ cX)).mono ?_; rintro e v3 ⟨rfl, g⟩; replace fz := fun j => (g.frozen (p := ⟨w.heap.size + 1, j, none⟩) (by simp; omega)).trans (fz j); have z3 := g.size; replace bX := sp_call bX g; replace t0 := sO g t0; replace t1 := sO g t1; replace t2 := sO g t2; replace r0 := sO g r0; replace r1 := sO g r1; replace r2 := sO g r2; clear g)
     | fail)
    exact bodyPost_ret (v := .agg #[.bool false, .int .u64 px, .int .u64 py]) (by simp [results, Tryz.results101, go_sem, r0, r1, r2]) rfl ⟨by rw [HR.out]; simp, sp_set3 bX (by omega) _ _ _⟩
end Go.Proofs.YteafnkimcidkhaaGreat



namespace Go.Proofs.YteafnkimcidkhaaGreat
open Go.RowKit
set_option linter.unusedVariables false
set_option linter.unusedSimpArgs false
set_option maxRecDepth 100000 in
set_option maxHeartbeats 6400000 in
theorem fof_of (f : Int) (x y : Int) (me : Bool) (mlo mhi : Int) (h : ∀ L B w0, FlAt f L B w0 → ∀ V, Below B w0 V → Calls Tryz.prog 101 #[.agg (lvf L), .int .u64 x, .int .u64 y] V fun e w' => e = .returned (.agg #[.bool me, .int .u64 mlo, .int .u64 mhi]) ∧ Below V.heap.size V w') (w : World) :
  Calls Tryz.prog 50 #[.int .i64 f, .int .u64 x, .int .u64 y] w fun e w' => e = .returned (.agg #[.bool me, .int .u64 mlo, .int .u64 mhi]) ∧ Below w.heap.size w w' := by
 have h1 := floats_at f
 have h5 := floatRange_any me mlo mhi
 go_enter Tryz.func50, Tryz.ntmps50
 go_wp2_with fail
 obtain ⟨W, hW⟩ : ∃ W, w.alloc (.cells #[.bool false, .int .u64 0, .int .u64 0] 24) = W := ⟨_, rfl⟩
 have r0 : W.cell? ⟨w.heap.size, 0, none⟩ = some (.bool false) := by rw [← hW]; simp [go_sem]
 have r1 : W.cell? ⟨w.heap.size, 1, none⟩ = some (.int .u64 0) := by rw [← hW]; simp [go_sem]
 have r2 : W.cell? ⟨w.heap.size, 2, none⟩ = some (.int .u64 0) := by rw [← hW]; simp [go_sem]
 have fz : ∀ j, W.frozen? ⟨w.heap.size, j, none⟩ = false := by intro j; rw [← hW]; simp [go_sem]
 have bW : Below w.heap.size w W := by rw [← hW]; exact sp_new (Below.refl _ _) _
 have zW : w.heap.size < W.heap.size := by rw [← hW]; simp
 rw [hW]
 clear hW
 refine (h1 _).mono ?_
 rintro e v1 ⟨L, rfl, hL, g1⟩
 go_wp2_with fail
 refine (h L _ _ hL _ (Below.refl _ _)).mono ?_
 rintro e v2 ⟨rfl, g2⟩
 go_wp2_with fail
 refine (h5 _).mono ?_
 rintro e v3 ⟨rfl, g3⟩
 have g := sp_call (sp_call g1 g2) g3
 replace fz := fun j => (g.frozen (p := ⟨w.heap.size, j, none⟩) zW).trans (fz j)
 replace bW := sp_call bW g
 replace r0 := sO g r0; replace r1 := sO g r1; replace r2 := sO g r2
 go_wp2_with fail
 exact bodyPost_ret (v := .agg #[.bool me, .int .u64 mlo, .int .u64 mhi]) (by simp [results, Tryz.results50, go_sem, r0, r1, r2]) rfl ⟨rfl, sp_set3 bW (by omega) _ _ _⟩
end Go.Proofs.YteafnkimcidkhaaGreat




