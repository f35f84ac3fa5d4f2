/- Texts of the proof, put together. -/
import Derived.Test.YtpcbammncaeimaaZG4
import Derived.Test.YtpcbammncaeimaaRows
import Derived.RangeFuncBound
import Derived.RangeFuncLeaves
import Derived.Shelf.Abstract
import Derived.Shelf.RegionOpen
import Derived.WalkKit
import Derived.OwnWalkIn
import Derived.TacticsInMore
import Derived.LoopNIn
import Derived.LoopIn
import Derived.Deep.DrawnRows
namespace Go.Proofs.Ytpcbammncaeimaa
set_option linter.unusedVariables false
set_option linter.unusedSimpArgs false
theorem ot_div (a : Nat) : ot a / 2 = a / 2 := by unfold ot; split <;> omega
def fre (i : Nat) (M : Mx) : Mx := fun a b => if a / 2 = i then (if b / 2 = i then bx a b else 8589934592 + fh (M b b)) else if b / 2 = i then 8589934592 + fh (M a a) else M a b
def fgt (i : Nat) (M : Mx) : Mx := fun a b => if a / 2 = i ∨ b / 2 = i then bx a b else M a b
theorem half_via {n : Nat} {T : Mx} (t : Tt n T) {b k : Nat} (hb : b < 2 * n) (hk : k < 2 * n) : fh (T b b) ≤ T (ot k) b + fh (T k k) := by
  have h1 := t.cl.clo (ot k) (ot_lt hk) b b hb hb
  have h2 := t.cl.clo k hk k b hk hb
  rw [ot_ot] at h1
  rw [t.sym b (ot k) hb (ot_lt hk)] at h1
  unfold fh
  omega
theorem fh_bd {n : Nat} {T : Mx} (t : Tt n T) {a : Nat} (ha : a < 2 * n) : -8589934592 ≤ fh (T a a) ∧ fh (T a a) ≤ 8589934592 := by
  have h1 := t.up a a ha ha
  have h2 := t.low ha ha
  unfold fh
  omega
theorem fh_opp {n : Nat} {T : Mx} (t : Tt n T) {a : Nat} (ha : a < 2 * n) : 0 ≤ fh (T a a) + fh (T (ot a) (ot a)) := by
  have h1 := t.cl.hal a (ot a) ha (ot_lt ha)
  have h2 := t.cl.pos a ha
  omega
theorem bx_le (a b : Nat) : 0 ≤ bx a b ∧ bx a b ≤ 17179869184 := by unfold bx; split <;> omega
theorem bx_self (a : Nat) : bx a a = 17179869184 := by
  unfold bx
  rw [if_neg (by unfold ot; split <;> omega)]
theorem bx_ot (a : Nat) : bx a (ot a) = 0 := by
  unfold bx
  rw [ot_ot, if_pos rfl]
theorem bx_to (a : Nat) : bx (ot a) a = 0 := by
  unfold bx
  rw [if_pos rfl]
theorem two_of {a b : Nat} (h : a / 2 = b / 2) : b = a ∨ b = ot a := by unfold ot; split <;> omega
theorem fre_cl {n i : Nat} {T : Mx} (t : Tt n T) : Cl n (fre i T) where
  clo := fun k hk a b ha hb => by
    have od := ot_div k
    have h1 := t.cl.clo k hk a b ha hb
    have h2 := t.cl.hal a b ha hb
    have h3 := half_via t hb hk
    have h4 := half_via t ha (ot_lt hk)
    rw [ot_ot, t.sym k a hk ha] at h4
    have h5 := fh_opp t hk
    have q1 := fh_bd t ha
    have q2 := fh_bd t hb
    have q3 := fh_bd t hk
    unfold fre
    rw [od]
    by_cases ca : a / 2 = i
    · by_cases cb : b / 2 = i
      · by_cases ck : k / 2 = i
        · simp only [ca, cb, ck, if_true]
          have e1 := bx_self a
          have e2 := bx_ot a
          have e3 := bx_to a
          have e4 := bx_self (ot a)
          rcases two_of (ca.trans cb.symm) with rfl | rfl <;> rcases two_of (ca.trans ck.symm) with rfl | rfl <;> (try rw [ot_ot]) <;> omega
        · simp only [ca, cb, ck, if_true, if_false]
          have := (bx_le a b).2
          omega
      · by_cases ck : k / 2 = i
        · simp only [ca, cb, ck, if_true, if_false]
          have := (bx_le a k).1
          omega
        · simp only [ca, cb, ck, if_true, if_false]
          omega
    · by_cases cb : b / 2 = i
      · by_cases ck : k / 2 = i
        · simp only [ca, cb, ck, if_true, if_false]
          have := (bx_le (ot k) b).1
          omega
        · simp only [ca, cb, ck, if_true, if_false]
          omega
      · by_cases ck : k / 2 = i
        · simp only [ca, cb, ck, if_true, if_false]
          omega
        · simp only [ca, cb, ck, if_true, if_false]
          omega
  hal := fun a b ha hb => by
    have h2 := t.cl.hal a b ha hb
    have e1 := bx_self a
    have e2 := bx_self b
    have e3 := (bx_le a b).2
    have ea := t.even ha
    have eb := t.even hb
    unfold fre
    by_cases ca : a / 2 = i <;> by_cases cb : b / 2 = i <;> simp only [ca, cb, if_true, if_false] <;> unfold fh at * <;> omega
  pos := fun a ha => by
    unfold fre
    rw [ot_div]
    by_cases ca : a / 2 = i
    · simp only [ca, if_true]; exact (bx_le _ _).1
    · simp only [ca, if_false]; exact t.cl.pos a ha
theorem fre_le {n i : Nat} {T : Mx} (t : Tt n T) : Le n (fre i T) (fgt i T) := fun a b ha hb => by
  have q1 := fh_bd t ha
  have q2 := fh_bd t hb
  unfold fre fgt
  by_cases ca : a / 2 = i
  · by_cases cb : b / 2 = i
    · simp only [ca, cb, if_true, true_or]; omega
    · simp only [ca, cb, if_true, if_false, true_or]
      unfold bx
      rw [if_neg (fun q => cb (by rw [q, ot_div] at ca; exact ca))]
      omega
  · by_cases cb : b / 2 = i
    · simp only [ca, cb, if_true, if_false, or_true]
      unfold bx
      rw [if_neg (fun q => ca (by rw [q, ot_div]; exact cb))]
      omega
    · simp only [ca, cb, if_false, or_self]; omega
theorem fre_bst {n i : Nat} {T : Mx} (t : Tt n T) : Bst n (fgt i T) (fre i T) where
  cl := fre_cl t
  le := fre_le t
  top := fun X c l a b ha hb => by
    have h1 := c.hal a b ha hb
    have h2 := l a a ha ha
    have h3 := l b b hb hb
    have h4 := l a b ha hb
    have e1 := bx_self a
    have e2 := bx_self b
    unfold fgt at h2 h3 h4
    unfold fre
    by_cases ca : a / 2 = i <;> by_cases cb : b / 2 = i <;> simp only [ca, cb, if_true, if_false, or_self, true_or, or_true] at h2 h3 h4 ⊢ <;> unfold fh at * <;> omega
theorem fgt_sym {n i : Nat} {T : Mx} (t : Tt n T) (a b : Nat) (ha : a < 2 * n) (hb : b < 2 * n) : fgt i T a b = fgt i T b a := by
  have h := t.sym a b ha hb
  have e : bx a b = bx b a := by
    unfold bx
    by_cases q : a = ot b
    · rw [if_pos q, if_pos (by rw [q, ot_ot])]
    · rw [if_neg q, if_neg (fun r => q (by rw [r, ot_ot]))]
  unfold fgt
  by_cases ca : a / 2 = i <;> by_cases cb : b / 2 = i <;> simp [ca, cb, e, h]
theorem fgt_tt {n i : Nat} {T X : Mx} (t : Tt n T) (h : Bst n (fgt i T) X) : Tt n X := h.tt (fgt_sym t) (fun a ha => by
    unfold fgt
    split
    · exact Int.le_of_eq (bx_ot a)
    · exact Int.le_of_eq (t.opp a ha)) (fun a b ha hb => Int.le_trans (h.le a b ha hb) (by
    unfold fgt
    split
    · exact (bx_le a b).2
    · exact t.up a b ha hb))
def clp (M : Mx) : Mx := fun a b => min (M a b) 17179869184
theorem gn_out {i : Nat} {c : Int} {a : Nat} (h : a / 2 ≠ i) : gn i c a = 0 := by
  unfold gn
  rw [if_neg (by omega), if_neg (by omega)]
theorem fr_out {g : Bool} {i a : Nat} (h : a / 2 ≠ i) : fr g i a = a := by
  unfold fr
  rw [if_neg (fun q => h q.2)]
theorem low_self {M : Mx} {x : Nat} {v : Int} (a b : Nat) : low M x x v a b = if a = x ∧ b = x then min (M x x) v else M a b := by
  unfold low low1 up1
  by_cases q : a = x ∧ b = x
  · simp only [q, and_self, if_true]; omega
  · simp only [q, if_false]
def shS (g : Bool) (i : Nat) (c : Int) (M : Mx) : Mx := low (low (mv g i c M) (2 * i) (2 * i) 17179869184) (2 * i + 1) (2 * i + 1) 17179869184
theorem shS_at (g : Bool) (i : Nat) (c : Int) (M : Mx) (a b : Nat) : shS g i c M a b = if a = b ∧ a / 2 = i then min (mv g i c M a a) 17179869184 else mv g i c M a b := by
  unfold shS
  rw [low_self, low_self, low_self]
  by_cases q : a = b ∧ a / 2 = i
  · obtain ⟨rfl, q⟩ := q
    rw [if_pos (c := a = a ∧ a / 2 = i) ⟨rfl, q⟩]
    by_cases p : a = 2 * i
    · rw [if_neg (by omega), if_pos ⟨p, p⟩, p]
    · have p2 : a = 2 * i + 1 := by omega
      rw [if_pos ⟨p2, p2⟩, if_neg (by omega), p2]
  · rw [if_neg (c := a = b ∧ a / 2 = i) q, if_neg (by omega), if_neg (by omega)]
theorem shS_clp {n i : Nat} {T : Mx} (t : Tt n T) (g : Bool) (c : Int) (X : Mx) (cx : Cl n X) : Le n X (shS g i c T) ↔ Le n X (clp (mv g i c T)) := by
  constructor
  · intro l
    have dg : ∀ a, a < 2 * n → X a a ≤ 17179869184 := fun a ha => by
      have h1 := l a a ha ha
      rw [shS_at] at h1
      by_cases q : a / 2 = i
      · rw [if_pos ⟨rfl, q⟩] at h1; omega
      · rw [if_neg (fun p => q p.2)] at h1
        unfold mv at h1
        rw [gn_out q, fr_out q] at h1
        have := t.up a a ha ha
        omega
    intro a b ha hb
    have h1 := l a b ha hb
    have h2 := dg a ha
    have h3 := dg b hb
    have h4 := cx.hal a b ha hb
    rw [shS_at] at h1
    unfold clp
    have h5 : X a b ≤ mv g i c T a b := by
      by_cases q : a = b ∧ a / 2 = i
      · rw [if_pos q] at h1
        obtain ⟨rfl, _⟩ := q
        omega
      · rw [if_neg q] at h1; exact h1
    unfold fh at h4
    omega
  · intro l a b ha hb
    have h1 := l a b ha hb
    unfold clp at h1
    rw [shS_at]
    split
    · rename_i q
      obtain ⟨rfl, _⟩ := q
      exact h1
    · omega
theorem gn_bd2 {i : Nat} {c B : Int} (h1 : -B ≤ c) (h2 : c ≤ B) (a : Nat) : -B ≤ gn i c a ∧ gn i c a ≤ B := by unfold gn; split <;> (try split) <;> omega
theorem mv_bd {n i : Nat} {T : Mx} (t : Tt n T) (g : Bool) {c : Int} (h1 : -8589934592 ≤ c) (h2 : c ≤ 8589934592) {a b : Nat} (ha : a < 2 * n) (hb : b < 2 * n) : -34359738368 ≤ mv g i c T a b ∧ mv g i c T a b ≤ 34359738368 := by
  have q1 := gn_bd2 (i := i) (c := c) (B := 8589934592) h1 h2 a
  have q2 := gn_bd2 (i := i) (c := c) (B := 8589934592) h1 h2 b
  have q3 := t.up _ _ (fr_lt2 (g := g) (i := i) ha) (fr_lt2 (g := g) (i := i) hb)
  have q4 := t.low (fr_lt2 (g := g) (i := i) ha) (fr_lt2 (g := g) (i := i) hb)
  unfold mv
  omega
theorem shS_bd {n i : Nat} {T : Mx} (t : Tt n T) (g : Bool) {c : Int} (h1 : -8589934592 ≤ c) (h2 : c ≤ 8589934592) {a b : Nat} (ha : a < 2 * n) (hb : b < 2 * n) : -68719476736 ≤ shS g i c T a b ∧ shS g i c T a b ≤ 68719476736 := by
  have q1 := mv_bd (i := i) t g h1 h2 ha hb
  have q2 := mv_bd (i := i) t g h1 h2 ha ha
  rw [shS_at]
  split <;> omega
end Go.Proofs.Ytpcbammncaeimaa

namespace Go.Proofs.Ytpcbammncaeimaa
open Go.RowKit Go.Shelf
set_option linter.unusedVariables false
set_option linter.unusedSimpArgs false
attribute [local go_sem] Oper.semAt_some
def sVi (s : Bool × Int × Int) : Value := .agg #[.bool s.1, .int .i64 s.2.1, .int .i64 s.2.2]
def SRowi (W : World) (b : Nat) (ls : List (Bool × Int × Int)) : Prop := ∀ j s, ls[j]? = some s → W.cell? ⟨b, j * 3, none⟩ = some (.bool s.1) ∧ W.cell? ⟨b, j * 3 + 1, none⟩ = some (.int .i64 s.2.1) ∧ W.cell? ⟨b, j * 3 + 2, none⟩ = some (.int .i64 s.2.2)
theorem SRowi.but {S : Nat → Prop} {A B : World} {b : Nat} {ls : List (Bool × Int × Int)} (h : SRowi A b ls) (hb : But S A B) (hs : ¬ S b) : SRowi B b ls := fun j s hj => by
  obtain ⟨h1, h2, h3⟩ := h j s hj
  exact ⟨hb.cell hs h1, hb.cell hs h2, hb.cell hs h3⟩
end Go.Proofs.Ytpcbammncaeimaa


namespace Go.Proofs.Ytpcbammncaeimaa
open Go.RowKit
set_option linter.unusedVariables false
set_option linter.unusedSimpArgs false
def lvi (L : Ln) : Array Value := #[.int .i64 L.least, .int .i64 L.most, .int .i64 L.past, .func (.func L.ko) #[] L.co, .func (.func L.kp) #[] L.cp, .func (.func L.k1) #[] L.c1, .func (.func L.kv) #[] L.cv, .func (.func L.kn) #[] L.cn, .func (.func L.ku) #[] L.cu, .func (.func L.kt) #[] L.ct, .func (.func L.kz) #[] L.cz]
structure Actsi (L : Ln) (A : Ways) (B : Nat) (w0 : World) : Prop where
  hB : B ≤ w0.heap.size
  ord : ∀ x y V, A.dom x → A.dom y → Below B w0 V → Calls Try.prog L.ko (#[.int .i64 x, .int .i64 y] ++ L.co) V fun e V' => e = .returned (.int .i64 (A.ord x y)) ∧ Below V.heap.size V V'
  pl : ∀ x V, A.dom x → Below B w0 V → Calls Try.prog L.kp (#[.int .i64 x] ++ L.cp) V fun e V' => e = .returned (.int .i64 (A.pl x)) ∧ Below V.heap.size V V'
  one : ∀ x V, A.dom x → Below B w0 V → Calls Try.prog L.k1 (#[.int .i64 x] ++ L.c1) V fun e V' => e = .returned (.bool (A.one x)) ∧ Below V.heap.size V V'
  prv : ∀ x V, A.dom x → A.one x = true → Below B w0 V → Calls Try.prog L.kv (#[.int .i64 x] ++ L.cv) V fun e V' => e = .returned (.int .i64 (A.prv x)) ∧ Below V.heap.size V V'
  nxt : ∀ x V, A.dom x → A.one x = true → Below B w0 V → Calls Try.prog L.kn (#[.int .i64 x] ++ L.cn) V fun e V' => e = .returned (.int .i64 (A.nxt x)) ∧ Below V.heap.size V V'
  eo : ∀ args w, (callFunc L.ko args).run Try.prog w = .ok (.enter L.ko args) w
  ep : ∀ args w, (callFunc L.kp args).run Try.prog w = .ok (.enter L.kp args) w
  e1 : ∀ args w, (callFunc L.k1 args).run Try.prog w = .ok (.enter L.k1 args) w
  ev : ∀ args w, (callFunc L.kv args).run Try.prog w = .ok (.enter L.kv args) w
  en : ∀ args w, (callFunc L.kn args).run Try.prog w = .ok (.enter L.kn args) w
end Go.Proofs.Ytpcbammncaeimaa


namespace Go.Proofs.Ytpcbammncaeimaa
open Go.RowKit
set_option linter.unusedVariables false
set_option linter.unusedSimpArgs false
set_option maxRecDepth 100000 in
set_option maxHeartbeats 800000 in
theorem none_i (w : World) : Calls Try.prog 111 #[] w fun e w' => e = .returned (.agg #[.bool true, .int .i64 0, .int .i64 0]) ∧ Below w.heap.size w w' := by
  go_enter Try.func111, Try.ntmps111
  go_wp2_with fail
  refine bodyPost_ret (v := .agg #[.bool true, .int .i64 0, .int .i64 0]) (by simp [results, Try.results111, go_sem]) rfl ?_
  exact ⟨rfl, sp_new (Below.refl _ _) _⟩
end Go.Proofs.Ytpcbammncaeimaa


namespace Go.Proofs.Ytpcbammncaeimaa
open Go.RowKit
set_option linter.unusedVariables false
set_option linter.unusedSimpArgs false
end Go.Proofs.Ytpcbammncaeimaa


namespace Go.Proofs.Ytpcbammncaeimaa
def pastP (A : Ways) (L : Ln) (x : Int) : Bool := decide (A.ord (A.pl x) L.least < 0) || decide (0 < A.ord (A.pl x) L.most)
def hullP (A : Ways) (xs : List Int) : Bool × Int × Int := xs.foldl (fun acc x => joinP A acc (false, A.pl x, A.pl x)) (true, 0, 0)
def trapP (A : Ways) (L : Ln) (t : Int) (xs : List Int) : Int := xs.foldl (fun acc x => if pastP A L x then t else acc) 0
end Go.Proofs.Ytpcbammncaeimaa

namespace Go.Proofs.Ytpcbammncaeimaa
open Go.RowKit Go.Shelf
set_option linter.unusedVariables false
set_option linter.unusedSimpArgs false
attribute [local go_sem] Oper.semAt_some
structure TIi (A : Ways) (L : Ln) (T : Int) (p : Nat) (W0 : World) (pre : List Int) (V : World) : Prop where
  c0 : V.cell? ⟨p, 0, none⟩ = some (.bool (hullP A pre).1)
  c1 : V.cell? ⟨p, 1, none⟩ = some (.int .i64 (hullP A pre).2.1)
  c2 : V.cell? ⟨p, 2, none⟩ = some (.int .i64 (hullP A pre).2.2)
  ct : V.cell? ⟨p + 1, 0, none⟩ = some (.int .i64 (trapP A L T pre))
  fp : ∀ j, V.frozen? ⟨p, j, none⟩ = false
  ft : V.frozen? ⟨p + 1, 0, none⟩ = false
  but : But (fun k => k = p ∨ k = p + 1) W0 V
theorem TIi.next {A : Ways} {L : Ln} {T : Int} {p : Nat} {W0 V : World} {pre : List Int} {u0 u1 u2 : Value} {t : Int} {je : Bool} {jl jh : Int} (h0 : V.cell? ⟨p, 0, none⟩ = some u0) (h1 : V.cell? ⟨p, 1, none⟩ = some u1) (h2 : V.cell? ⟨p, 2, none⟩ = some u2)
    (ht : V.cell? ⟨p + 1, 0, none⟩ = some (.int .i64 t)) (fp : ∀ j, V.frozen? ⟨p, j, none⟩ = false) (ft : V.frozen? ⟨p + 1, 0, none⟩ = false) (hb : But (fun k => k = p ∨ k = p + 1) W0 V) (e1 : hullP A pre = (je, jl, jh)) (e2 : trapP A L T pre = t) :
    TIi A L T p W0 pre (((V.setCell ⟨p, 0, none⟩ (.bool je)).setCell ⟨p, 1, none⟩ (.int .i64 jl)).setCell ⟨p, 2, none⟩ (.int .i64 jh)) := by
  refine ⟨?_, ?_, ?_, ?_, ?_, ?_, ((hb.set (.inl rfl) _).set (.inl rfl) _).set (.inl rfl) _⟩
  · rw [e1]; simp [go_sem, h0, h1, h2]
  · rw [e1]; simp [go_sem, h0, h1, h2]
  · rw [e1]; simp [go_sem, h0, h1, h2]
  · rw [e2]; exact sp_keep3 ht (by omega) _ _ _
  · intro j; simp [go_sem, fp]
  · simp [go_sem, ft]
end Go.Proofs.Ytpcbammncaeimaa


namespace Go.Proofs.Ytpcbammncaeimaa
open Go.RowKit Go.Shelf
set_option linter.unusedVariables false
set_option linter.unusedSimpArgs false
attribute [local go_sem] Oper.semAt_some
def Box3i (W : World) (b : Nat) (s : Bool × Int × Int) : Prop := W.cell? ⟨b, 0, none⟩ = some (.bool s.1) ∧ W.cell? ⟨b, 1, none⟩ = some (.int .i64 s.2.1) ∧ W.cell? ⟨b, 2, none⟩ = some (.int .i64 s.2.2)
theorem Box3i.but {S : Nat → Prop} {A B : World} {b : Nat} {s : Bool × Int × Int} (h : Box3i A b s) (hb : But S A B) (hs : ¬ S b) : Box3i B b s := ⟨hb.cell hs h.1, hb.cell hs h.2.1, hb.cell hs h.2.2⟩
end Go.Proofs.Ytpcbammncaeimaa


namespace Go.Proofs.Ytpcbammncaeimaa
open Go.RowKit Go.Shelf
set_option linter.unusedVariables false
set_option linter.unusedSimpArgs false
attribute [local go_sem] Oper.semAt_some
end Go.Proofs.Ytpcbammncaeimaa


namespace Go.Proofs.Ytpcbammncaeimaa
def rightP (A : Ways) (p : Bool × Int × Int) : Bool := if p.1 then (p.2.1 == 0 && p.2.2 == 0) else A.one p.2.1 && (A.one p.2.2 && decide (A.ord p.2.1 p.2.2 ≤ 0))
def ofP (A : Ways) (lo hi : Int) : Bool × Int × Int := if rightP A (false, A.pl lo, A.pl hi) then (false, A.pl lo, A.pl hi) else (true, 0, 0)
end Go.Proofs.Ytpcbammncaeimaa

namespace Go.Proofs.Ytpcbammncaeimaa
open Go.RowKit
set_option linter.unusedVariables false
set_option linter.unusedSimpArgs false
end Go.Proofs.Ytpcbammncaeimaa


