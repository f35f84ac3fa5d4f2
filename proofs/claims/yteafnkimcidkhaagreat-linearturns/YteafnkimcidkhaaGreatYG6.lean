/- Texts of the proof, put together. -/
import Derived.Test.YteafnkimcidkhaaGreatYSpWf
import Derived.Test.YteafnkimcidkhaaGreatYG5
import Derived.Test.YteafnkimcidkhaaGreatYMB3
import Derived.Test.YteafnkimcidkhaaGreatYMB2
import Derived.Test.YteafnkimcidkhaaGreatRows
import Derived.Test.YteafnkimcidkhaaGreatYG1
import Derived.RangeFuncBound
import Derived.RangeFuncLeaves
import Derived.Shelf.Abstract
import Derived.Shelf.RegionOpen
import Derived.WalkKit
import Derived.OwnWalkIn
import Derived.TacticsInMore
import Derived.LoopNIn
import Derived.LoopIn
import Derived.Deep.DrawnRows
import Derived.Deep.DeepCutAuto
namespace Go.Proofs.YteafnkimcidkhaaGreat
open Go.RowKit
set_option linter.unusedVariables false
set_option linter.unusedSimpArgs false
def LnF (s : Bool) (p q : Nat) : Ln := { least := negF s (fI s - 1), most := fI s - 1, past := 2, ko := 144, kp := 132, k1 := 134, kv := 136, kn := 138, ku := 140, kt := 142, kz := 146, co := #[.pointer (some ⟨p, 0, none⟩)], cp := #[.pointer (some ⟨p, 0, none⟩)], c1 := #[.pointer (some ⟨p, 0, none⟩)], cv := #[.pointer (some ⟨p, 0, none⟩)], cn := #[.pointer (some ⟨p, 0, none⟩)], cu := #[.pointer (some ⟨p, 0, none⟩)], ct := #[.pointer (some ⟨p, 0, none⟩)], cz := #[.pointer (some ⟨q, 0, none⟩)] }
def WyF (s : Bool) : Ways := { dom := Word, ord := fun x y => (cmpF s x y).1, pl := plainF s, one := fun x => finF s x && (plainF s x == x), prv := prevF s, nxt := nextF s }
set_option maxRecDepth 100000 in
theorem order_f (f x y : Int) (h1 : Word x) (h2 : Word y) (p : Nat) (w : World) (hf : w.cell? ⟨p, 0, none⟩ = some (.int .i64 f)) : Calls Tryz.prog 144 #[.int .u64 x, .int .u64 y, .pointer (some ⟨p, 0, none⟩)] w fun e w' => e = .returned (.int .i64 (cmpF (f == 1) x y).1) ∧ Below w.heap.size w w' := by
 have hc := compare_fl f x y h1 h2
 generalize cmpF (f == 1) x y = c at *
 obtain ⟨c1, c2⟩ := c
 go_enter Tryz.func144, Tryz.ntmps144
 go_wp2_with (go_at_call 145; refine (hc _).mono ?_; rintro e w1 ⟨rfl, b1⟩)
 go_ret
 exact ⟨rfl, b1⟩
set_option maxRecDepth 100000 in
theorem plain_f (f x : Int) (h1 : Word x) (p : Nat) (w : World) (hf : w.cell? ⟨p, 0, none⟩ = some (.int .i64 f)) : Calls Tryz.prog 132 #[.int .u64 x, .pointer (some ⟨p, 0, none⟩)] w fun e w' => e = .returned (.int .u64 (plainF (f == 1) x)) ∧ Below w.heap.size w w' := by
 have hc := plain_any f x h1
 generalize plainF (f == 1) x = c at *
 go_enter Tryz.func132, Tryz.ntmps132
 go_wp2_with (go_at_call 133; refine (hc _).mono ?_; rintro e w1 ⟨rfl, b1⟩)
 go_ret
 exact ⟨rfl, b1⟩
set_option maxRecDepth 100000 in
theorem prev_f (f x : Int) (h1 : Word x) (p : Nat) (w : World) (hf : w.cell? ⟨p, 0, none⟩ = some (.int .i64 f)) : Calls Tryz.prog 136 #[.int .u64 x, .pointer (some ⟨p, 0, none⟩)] w fun e w' => e = .returned (.int .u64 (prevF (f == 1) x)) ∧ Below w.heap.size w w' := by
 have hc := prev_any f x h1
 generalize prevF (f == 1) x = c at *
 go_enter Tryz.func136, Tryz.ntmps136
 go_wp2_with (go_at_call 137; refine (hc _).mono ?_; rintro e w1 ⟨rfl, b1⟩)
 go_ret
 exact ⟨rfl, b1⟩
set_option maxRecDepth 100000 in
theorem next_f (f x : Int) (h1 : Word x) (p : Nat) (w : World) (hf : w.cell? ⟨p, 0, none⟩ = some (.int .i64 f)) : Calls Tryz.prog 138 #[.int .u64 x, .pointer (some ⟨p, 0, none⟩)] w fun e w' => e = .returned (.int .u64 (nextF (f == 1) x)) ∧ Below w.heap.size w w' := by
 have hc := next_any f x h1
 generalize nextF (f == 1) x = c at *
 go_enter Tryz.func138, Tryz.ntmps138
 go_wp2_with (go_at_call 139; refine (hc _).mono ?_; rintro e w1 ⟨rfl, b1⟩)
 go_ret
 exact ⟨rfl, b1⟩
set_option maxRecDepth 100000 in
theorem one_f (f x : Int) (h1 : Word x) (p : Nat) (w : World) (hf : w.cell? ⟨p, 0, none⟩ = some (.int .i64 f)) : Calls Tryz.prog 134 #[.int .u64 x, .pointer (some ⟨p, 0, none⟩)] w fun e w' => e = .returned (.bool (finF (f == 1) x && (plainF (f == 1) x == x))) ∧ Below w.heap.size w w' := by
 have hc := plain_any f x h1
 have hn := finite_fl f x h1
 generalize plainF (f == 1) x = c at *
 generalize finF (f == 1) x = d at *
 cases d
 ·go_enter Tryz.func134, Tryz.ntmps134
  go_wp2_with (first
   | (go_at_call 135; refine (hn _).mono ?_; rintro e w1 ⟨rfl, b1⟩; replace hf := sO b1 hf)
   | fail)
  go_ret
  exact ⟨rfl, b1⟩
 ·go_enter Tryz.func134, Tryz.ntmps134
  go_wp2_with (first
   | (go_at_call 135; refine (hn _).mono ?_; rintro e w1 ⟨rfl, b1⟩; replace hf := sO b1 hf)
   | (go_at_call 133; refine (hc _).mono ?_; rintro e w2 ⟨rfl, b2⟩)
   | fail)
  go_ret
  exact ⟨by simp, sp_call b1 b2⟩
theorem acts_f (f : Int) (p q B : Nat) (w0 : World) (hB : B ≤ w0.heap.size) (hp : p < B) (hf : w0.cell? ⟨p, 0, none⟩ = some (.int .i64 f)) : Actsf (LnF (f == 1) p q) (WyF (f == 1)) B w0 := by
 have hV : ∀ V, Below B w0 V → V.cell? ⟨p, 0, none⟩ = some (.int .i64 f) := fun V ok => (ok.cell (p := ⟨p, 0, none⟩) hp).trans hf
 exact {
  hB := hB
  ord := fun x y V dx dy ok => order_f f x y dx dy p V (hV V ok)
  pl := fun x V dx ok => plain_f f x dx p V (hV V ok)
  one := fun x V dx ok => one_f f x dx p V (hV V ok)
  prv := fun x V dx _ ok => prev_f f x dx p V (hV V ok)
  nxt := fun x V dx _ ok => next_f f x dx p V (hV V ok)
  eo := enters_of Tryz.func144 (by kernel_rfl) rfl
  ep := enters_of Tryz.func132 (by kernel_rfl) rfl
  e1 := enters_of Tryz.func134 (by kernel_rfl) rfl
  ev := enters_of Tryz.func136 (by kernel_rfl) rfl
  en := enters_of Tryz.func138 (by kernel_rfl) rfl }
end Go.Proofs.YteafnkimcidkhaaGreat



namespace Go.Proofs.YteafnkimcidkhaaGreat
open Go.RowKit Go.Shelf
set_option linter.unusedVariables false
set_option linter.unusedSimpArgs false
attribute [local go_sem] Oper.semAt_some
def SRowi (W : World) (b : Nat) (ls : List (Bool × Int × Int)) : Prop := ∀ j s, ls[j]? = some s → W.cell? ⟨b, j * 3, none⟩ = some (.bool s.1) ∧ W.cell? ⟨b, j * 3 + 1, none⟩ = some (.int .i64 s.2.1) ∧ W.cell? ⟨b, j * 3 + 2, none⟩ = some (.int .i64 s.2.2)
theorem SRowi.but {S : Nat → Prop} {A B : World} {b : Nat} {ls : List (Bool × Int × Int)} (h : SRowi A b ls) (hb : But S A B) (hs : ¬ S b) : SRowi B b ls := fun j s hj => by
 obtain ⟨h1, h2, h3⟩ := h j s hj
 exact ⟨hb.cell hs h1, hb.cell hs h2, hb.cell hs h3⟩
end Go.Proofs.YteafnkimcidkhaaGreat



namespace Go.Proofs.YteafnkimcidkhaaGreat
open Go.RowKit
set_option linter.unusedVariables false
set_option linter.unusedSimpArgs false
end Go.Proofs.YteafnkimcidkhaaGreat



namespace Go.Proofs.YteafnkimcidkhaaGreat
open Go.RowKit
set_option linter.unusedVariables false
set_option linter.unusedSimpArgs false
end Go.Proofs.YteafnkimcidkhaaGreat



namespace Go.Proofs.YteafnkimcidkhaaGreat
open Go.RowKit
set_option linter.unusedVariables false
set_option linter.unusedSimpArgs false
end Go.Proofs.YteafnkimcidkhaaGreat



namespace Go.Proofs.YteafnkimcidkhaaGreat
open Go.RowKit Go.Shelf
set_option linter.unusedVariables false
set_option linter.unusedSimpArgs false
attribute [local go_sem] Oper.semAt_some
structure TIi (A : Ways) (L : Ln) (T : Int) (p : Nat) (W0 : World) (pre : List Int) (V : World) : Prop where
 c0 : V.cell? ⟨p, 0, none⟩ = some (.bool (hullP A pre).1)
 c1 : V.cell? ⟨p, 1, none⟩ = some (.int .i64 (hullP A pre).2.1)
 c2 : V.cell? ⟨p, 2, none⟩ = some (.int .i64 (hullP A pre).2.2)
 ct : V.cell? ⟨p + 1, 0, none⟩ = some (.int .i64 (trapP A L T pre))
 fp : ∀ j, V.frozen? ⟨p, j, none⟩ = false
 ft : V.frozen? ⟨p + 1, 0, none⟩ = false
 but : But (fun k => k = p ∨ k = p + 1) W0 V
theorem TIi.next {A : Ways} {L : Ln} {T : Int} {p : Nat} {W0 V : World} {pre : List Int} {u0 u1 u2 : Value} {t : Int} {je : Bool} {jl jh : Int} (h0 : V.cell? ⟨p, 0, none⟩ = some u0) (h1 : V.cell? ⟨p, 1, none⟩ = some u1) (h2 : V.cell? ⟨p, 2, none⟩ = some u2)
  (ht : V.cell? ⟨p + 1, 0, none⟩ = some (.int .i64 t)) (fp : ∀ j, V.frozen? ⟨p, j, none⟩ = false) (ft : V.frozen? ⟨p + 1, 0, none⟩ = false) (hb : But (fun k => k = p ∨ k = p + 1) W0 V) (e1 : hullP A pre = (je, jl, jh)) (e2 : trapP A L T pre = t) :
  TIi A L T p W0 pre (((V.setCell ⟨p, 0, none⟩ (.bool je)).setCell ⟨p, 1, none⟩ (.int .i64 jl)).setCell ⟨p, 2, none⟩ (.int .i64 jh)) := by
 refine ⟨?_, ?_, ?_, ?_, ?_, ?_, ((hb.set (.inl rfl) _).set (.inl rfl) _).set (.inl rfl) _⟩
 ·rw [e1]; simp [go_sem, h0, h1, h2]
 ·rw [e1]; simp [go_sem, h0, h1, h2]
 ·rw [e1]; simp [go_sem, h0, h1, h2]
 ·rw [e2]; exact sp_keep3 ht (by omega) _ _ _
 ·intro j; simp [go_sem, fp]
 ·simp [go_sem, ft]
end Go.Proofs.YteafnkimcidkhaaGreat



namespace Go.Proofs.YteafnkimcidkhaaGreat
open Go.RowKit Go.Shelf
set_option linter.unusedVariables false
set_option linter.unusedSimpArgs false
attribute [local go_sem] Oper.semAt_some
def Box3i (W : World) (b : Nat) (s : Bool × Int × Int) : Prop := W.cell? ⟨b, 0, none⟩ = some (.bool s.1) ∧ W.cell? ⟨b, 1, none⟩ = some (.int .i64 s.2.1) ∧ W.cell? ⟨b, 2, none⟩ = some (.int .i64 s.2.2)
theorem Box3i.but {S : Nat → Prop} {A B : World} {b : Nat} {s : Bool × Int × Int} (h : Box3i A b s) (hb : But S A B) (hs : ¬ S b) : Box3i B b s := ⟨hb.cell hs h.1, hb.cell hs h.2.1, hb.cell hs h.2.2⟩
end Go.Proofs.YteafnkimcidkhaaGreat



namespace Go.Proofs.YteafnkimcidkhaaGreat
open Go.RowKit Go.Shelf
set_option linter.unusedVariables false
set_option linter.unusedSimpArgs false
attribute [local go_sem] Oper.semAt_some
end Go.Proofs.YteafnkimcidkhaaGreat



namespace Go.Proofs.YteafnkimcidkhaaGreat
open Go.RowKit
set_option linter.unusedVariables false
set_option linter.unusedSimpArgs false
end Go.Proofs.YteafnkimcidkhaaGreat



namespace Go.Proofs.YteafnkimcidkhaaGreat
open Go.RowKit
set_option linter.unusedVariables false
set_option linter.unusedSimpArgs false
end Go.Proofs.YteafnkimcidkhaaGreat



namespace Go.Proofs.YteafnkimcidkhaaGreat
open Go.RowKit
set_option linter.unusedVariables false
set_option linter.unusedSimpArgs false
end Go.Proofs.YteafnkimcidkhaaGreat



namespace Go.Proofs.YteafnkimcidkhaaGreat
open Go.RowKit
set_option linter.unusedVariables false
set_option linter.unusedSimpArgs false
end Go.Proofs.YteafnkimcidkhaaGreat



namespace Go.Proofs.YteafnkimcidkhaaGreat
open Go.RowKit
set_option linter.unusedVariables false
set_option linter.unusedSimpArgs false
end Go.Proofs.YteafnkimcidkhaaGreat



namespace Go.Proofs.YteafnkimcidkhaaGreat
open Go.RowKit
set_option linter.unusedVariables false
set_option linter.unusedSimpArgs false
def cmpI (x y : Int) : Int := if x < y then -1 else if x > y then 1 else 0
def in32 (x : Int) : Bool := decide (-2147483648 ≤ x ∧ x ≤ 2147483647)
def WyI : Ways := { dom := fun x => -9223372036854775808 ≤ x ∧ x ≤ 9223372036854775807, ord := cmpI, pl := fun x => x, one := in32, prv := fun x => x - 1, nxt := fun x => x + 1 }
end Go.Proofs.YteafnkimcidkhaaGreat



namespace Go.Proofs.YteafnkimcidkhaaGreat
end Go.Proofs.YteafnkimcidkhaaGreat



namespace Go.Proofs.YteafnkimcidkhaaGreat
set_option linter.unusedVariables false
set_option linter.unusedSimpArgs false
def mk (s : Bool) (r : Int) : Int := if r < 0 then sgnd s true (-r) else r
theorem fI_two (s : Bool) : 2 < fI s := by cases s <;> decide
theorem mk_made (s : Bool) (r : Int) : ∃ b : Bool, mk s r = sgnd s b (if r < 0 then -r else r) ∧ (b = true ↔ r < 0) := by
 unfold mk
 by_cases h : r < 0
 ·exact ⟨true, by simp [h], by simp [h]⟩
 ·exact ⟨false, by simp [h, sgnd], by simp [h]⟩
theorem mk_word {s : Bool} {r : Int} (h1 : -fI s ≤ r) (h2 : r ≤ fI s) : Word (mk s r) := by
 obtain ⟨b, e, _⟩ := mk_made s r
 rw [e]
 exact sgnd_word s b _ (by split <;> omega) (by split <;> omega)
theorem mk_rnk {s : Bool} {r : Int} (h1 : -fI s ≤ r) (h2 : r ≤ fI s) : rnk s (mk s r) = r := by
 obtain ⟨b, e, hb⟩ := mk_made s r
 rw [e, rnk_made s b _ (by split <;> omega) (by split <;> omega)]
 cases b
 ·have : ¬ r < 0 := fun h => by simpa using hb.2 h
  simp [this]
 ·have := hb.1 rfl
  simp [this]
theorem mk_inj {s : Bool} {r q : Int} (h1 : -fI s ≤ r) (h2 : r ≤ fI s) (h3 : -fI s ≤ q) (h4 : q ≤ fI s) (e : mk s r = mk s q) : r = q := by
 rw [← mk_rnk h1 h2, ← mk_rnk h3 h4, e]
theorem cmp_mk {s : Bool} {r q : Int} (h1 : -fI s ≤ r) (h2 : r ≤ fI s) (h3 : -fI s ≤ q) (h4 : q ≤ fI s) : cmpF s (mk s r) (mk s q) = (cmpI r q, true) := by
 obtain ⟨b, e, hb⟩ := mk_made s r
 obtain ⟨c, k, hc⟩ := mk_made s q
 rw [e, k, cmp_made s b c _ _ (by split <;> omega) (by split <;> omega) (by split <;> omega) (by split <;> omega)]
 have f1 : (if b then -(if r < 0 then -r else r) else (if r < 0 then -r else r)) = r := by
  cases b
  ·have : ¬ r < 0 := fun h => by simpa using hb.2 h
   simp [this]
  ·have := hb.1 rfl
   simp [this]
 have f2 : (if c then -(if q < 0 then -q else q) else (if q < 0 then -q else q)) = q := by
  cases c
  ·have : ¬ q < 0 := fun h => by simpa using hc.2 h
   simp [this]
  ·have := hc.1 rfl
   simp [this]
 rw [f1, f2]
 rfl
theorem fin_mk {s : Bool} {r : Int} (h1 : -fI s ≤ r) (h2 : r ≤ fI s) : finF s (mk s r) = decide (-fI s < r ∧ r < fI s) := by
 obtain ⟨b, e, hb⟩ := mk_made s r
 rw [e]
 obtain ⟨z, hz⟩ := Int.eq_ofNat_of_zero_le (show 0 ≤ (if r < 0 then -r else r) by split <;> omega)
 by_cases c : -fI s < r ∧ r < fI s
 ·rw [decide_eq_true c, hz, n_fin s b z (by rw [← hz]; split <;> omega)]
 ·rw [decide_eq_false c]
  have k : cls s (sgnd s b (if r < 0 then -r else r)) = 4 := by
   have l := fI_lt s
   rw [cls_made s b _ (by split <;> omega) (by split <;> omega), if_neg (by split <;> omega), if_pos (by split <;> omega)]
  unfold finF
  rw [k]
  rfl
theorem plain_mk {s : Bool} {r : Int} (h1 : -fI s ≤ r) (h2 : r ≤ fI s) : plainF s (mk s r) = mk s r := by
 obtain ⟨b, e, hb⟩ := mk_made s r
 have l := fI_lt s
 have k := cls_made s b (if r < 0 then -r else r) (by split <;> omega) (by split <;> omega)
 rw [e]
 unfold plainF
 rw [k]
 by_cases z : r = 0
 ·subst z
  have : b = false := by
   cases b
   ·rfl
   ·exact absurd (hb.1 rfl) (by decide)
  subst this
  simp [sgnd]
  have := fI_two s
  split <;> (try split) <;> (try split) <;> simp_all <;> omega
 ·have n0 : ¬ (if r < 0 then -r else r) = 0 := by split <;> omega
  have n1 : ¬ fI s < (if r < 0 then -r else r) := by split <;> omega
  rw [if_neg n1, if_neg n0]
  by_cases c : (if r < 0 then -r else r) = fI s
  ·rw [if_pos c]; rfl
  ·rw [if_neg c]
   by_cases d : (if r < 0 then -r else r) / 2 ^ fP s = 0
   ·rw [if_pos d]; rfl
   ·rw [if_neg d]; rfl
theorem num_mk (s : Bool) (a : Int) (h : Word a) (n : (cls s a == 0 || cls s a == 5) = false) : ∃ r, -fI s ≤ r ∧ r ≤ fI s ∧ plainF s a = mk s r := by
 rcases num_or s a h with c | ⟨b, z, rfl, z0, z1⟩
 ·rw [n] at c; exact absurd c (by decide)
 ·by_cases e : z = 0
  ·subst e
   refine ⟨0, by have := fI_two s; omega, by have := fI_two s; omega, ?_⟩
   rw [show (0 : Int) = ((0 : Nat) : Int) from rfl, n_plain s b 0 (by have := fI_two s; omega)]
   rfl
  ·refine ⟨if b then -z else z, by split <;> omega, by split <;> omega, ?_⟩
   have m : mk s (if b then -z else z) = sgnd s b z := by
    unfold mk
    cases b
    ·have : ¬ z < 0 := by omega
     simp [this, sgnd]
    ·have : -z < 0 := by omega
     rw [if_pos rfl, if_pos this, Int.neg_neg]
   rw [← m]
   exact plain_mk (by split <;> omega) (by split <;> omega)
theorem one_mk {s : Bool} {r : Int} (h1 : -fI s < r) (h2 : r < fI s) : (WyF s).one (mk s r) = true := by
 show (finF s (mk s r) && (plainF s (mk s r) == mk s r)) = true
 rw [fin_mk (by omega) (by omega), plain_mk (by omega) (by omega), decide_eq_true ⟨h1, h2⟩]
 simp
theorem one_is {s : Bool} {a : Int} (h : Word a) (o : (WyF s).one a = true) : ∃ r, -fI s < r ∧ r < fI s ∧ a = mk s r := by
 have o' : (finF s a && (plainF s a == a)) = true := o
 simp only [Bool.and_eq_true, beq_iff_eq] at o'
 obtain ⟨r, r1, r2, e⟩ := num_mk s a h (n_num o'.1).1
 rw [o'.2] at e
 subst e
 have f := o'.1
 rw [fin_mk r1 r2] at f
 have := of_decide_eq_true f
 exact ⟨r, this.1, this.2, rfl⟩
theorem ord_mk {s : Bool} {r q : Int} (h1 : -fI s ≤ r) (h2 : r ≤ fI s) (h3 : -fI s ≤ q) (h4 : q ≤ fI s) : (WyF s).ord (mk s r) (mk s q) = WyI.ord r q := by
 show (cmpF s (mk s r) (mk s q)).1 = cmpI r q
 rw [cmp_mk h1 h2 h3 h4]
theorem neg_mk {s : Bool} {r : Int} (h1 : -fI s ≤ r) (h2 : r ≤ fI s) : plainF s (negF s (mk s r)) = mk s (-r) := by
 obtain ⟨b, e, hb⟩ := mk_made s r
 by_cases z : r = 0
 ·subst z
  cases s <;> decide +kernel
 ·rw [e, neg_made s b _ (by split <;> omega) (by split <;> omega)]
  have m : sgnd s (!b) (if r < 0 then -r else r) = mk s (-r) := by
   unfold mk
   cases b
   ·have : ¬ r < 0 := fun h => by simpa using hb.2 h
    have t : -r < 0 := by omega
    rw [if_pos t, if_neg this, Int.neg_neg]
    rfl
   ·have := hb.1 rfl
    have t : ¬ -r < 0 := by omega
    rw [if_neg t, if_pos this]
    rfl
  rw [m]
  exact plain_mk (by omega) (by omega)
end Go.Proofs.YteafnkimcidkhaaGreat



