/- Texts of the proof, put together. -/
import Derived.Test.YtpcbammncaeimaaZG3
import Derived.Test.YtpcbammncaeimaaZG2
import Derived.RangeFuncNested
import Derived.RangeFuncCalls
import Derived.Below
import Derived.Test.YtpcbammncaeimaaRows
import Derived.WalkKit
import Derived.WalkSpells
import Derived.StillTactics
import Derived.Laws.Pointers
import Derived.Laws.Externs
import Derived.Deep.RegionHeld3
import Derived.RowKit
import Derived.Laws.EntriesVeiled
import Derived.Shelf.Abstract
namespace Go.Proofs.Ytpcbammncaeimaa
open Go.RowKit
set_option linter.unusedVariables false
set_option linter.unusedSimpArgs false
def RsE (n : Nat) (e : Bool) (S : Mx) (e' : Bool) (T : Mx) : Prop := (e = true ∧ e' = true) ∨ (e = false ∧ Res n S e' T)
theorem otightZ (b n : Nat) (hn : n ≤ 8) (e : Bool) (S : Mx) (hS : e = false → ∀ a c, a < 2 * n → c < 2 * n → -68719476736 ≤ S a c ∧ S a c ≤ 68719476736) (w : World) (h : OctAt w b n e S) :
    Calls Try.prog 59 #[.pointer (some ⟨b, 0, none⟩)] w fun r w' => r = .returned (.tuple #[]) ∧ (∃ e' T, OctAt w' b n e' T ∧ RsE n e S e' T) ∧ Onl b w w' := by
  cases e
  · exact (otightE b n hn S (fun a c ha hc => (hS rfl a c ha hc).2) (fun a c ha hc => (hS rfl a c ha hc).1) w h).mono fun r w' q => ⟨q.1, (let ⟨e', T, hO, hr⟩ := q.2.1; ⟨e', T, hO, Or.inr ⟨rfl, hr⟩⟩), q.2.2⟩
  · exact (otightX b n S w h).mono fun r w' q => ⟨q.1, ⟨true, S, q.2.1, Or.inl ⟨rfl, rfl⟩⟩, q.2.2⟩
set_option maxRecDepth 100000 in
theorem olowerX (b n : Nat) (M : Mx) (x y v : Int) (w : World) (h : OctAt w b n true M) :
    Calls Try.prog 58 #[.pointer (some ⟨b, 0, none⟩), .int .i64 x, .int .i64 y, .int .i64 v] w fun r w' => r = .returned (.tuple #[]) ∧ w' = w := by
  have he := h.he
  go_enter Try.func58, Try.ntmps58
  go_wp2_with fail
  exact bodyPost_ret (results_none rfl _ _ _) rfl ⟨rfl, rfl⟩
theorem olowerZ (b n : Nat) (e : Bool) (M : Mx) (x y : Nat) (hx : x < 16) (hy : y < 16) (v : Int) (w : World) (h : OctAt w b n e M) :
    Calls Try.prog 58 #[.pointer (some ⟨b, 0, none⟩), .int .i64 x, .int .i64 y, .int .i64 v] w fun r w' => r = .returned (.tuple #[]) ∧ (∃ M1, OctAt w' b n e M1 ∧ (e = false → M1 = low M x y v)) ∧ Onl b w w' := by
  cases e
  · exact (olower b n M x y hx hy v w h).mono fun r w' q => ⟨q.1, ⟨_, q.2.1, fun _ => rfl⟩, q.2.2⟩
  · exact (olowerX b n M x y v w h).mono fun r w' q => ⟨q.1, ⟨M, q.2 ▸ h, fun k => by cases k⟩, q.2 ▸ Onl.refl _ _⟩
set_option maxRecDepth 100000 in
theorem oisvarN (b n : Nat) (e : Bool) (M : Mx) (i : Int) (hi : i < 0 ∨ (n : Int) ≤ i) (w : World) (h : OctAt w b n e M) : Calls Try.prog 51 #[.pointer (some ⟨b, 0, none⟩), .int .i64 i] w fun r w' => r = .returned (.bool false) ∧ w' = w := by
  have hv := h.hv
  by_cases g1 : 0 ≤ i
  · have g2 : ¬ i < (n : Int) := by omega
    clear hi
    go_enter Try.func51, Try.ntmps51
    go_wp2_with fail
    go_ret
    exact ⟨rfl, rfl⟩
  · clear hi
    go_enter Try.func51, Try.ntmps51
    go_wp2_with fail
    go_ret
    exact ⟨rfl, rfl⟩
def Isv (n : Nat) (i : Int) : Prop := 0 ≤ i ∧ i < n
theorem oisvarZ (b n : Nat) (e : Bool) (M : Mx) (i : Int) (w : World) (h : OctAt w b n e M) : Calls Try.prog 51 #[.pointer (some ⟨b, 0, none⟩), .int .i64 i] w fun r w' => (∃ q, r = .returned (.bool q) ∧ (q = true → Isv n i) ∧ (q = false → ¬ Isv n i)) ∧ w' = w := by
  by_cases hi : Isv n i
  · have hi' := hi
    obtain ⟨j, rfl⟩ : ∃ j : Nat, i = j := ⟨i.toNat, by unfold Isv at hi; omega⟩
    exact (oisvar b n e M j (by unfold Isv at hi; omega) w h).mono fun r w' q => ⟨⟨true, q.1, fun _ => hi', fun k => by cases k⟩, q.2⟩
  · exact (oisvarN b n e M i (by unfold Isv at hi; omega) w h).mono fun r w' q => ⟨⟨false, q.1, (fun k => by cases k), fun _ => hi⟩, q.2⟩
def FltR (n m : Nat) (l : Nat → Int) (c far v : Int) : Prop := (v = 0 ∧ (∀ j, j < m → Isv n (l j)) ∧ -far ≤ c ∧ c ≤ far) ∨ (v = 2 ∧ ¬ ((∀ j, j < m → Isv n (l j)) ∧ -far ≤ c ∧ c ≤ far))
set_option maxRecDepth 100000 in
set_option maxHeartbeats 800000 in
theorem ofaultZ (b n : Nat) (e : Bool) (M : Mx) (c far : Int) (h3 : 0 ≤ far) (h4 : far ≤ 34359738368) (p m : Nat) (hm : m ≤ 2) (l : Nat → Int) (w : World) (h : OctAt w b n e M) (hc : ∀ j, j < m → w.cell? ⟨p, j, none⟩ = some (.int .i64 (l j))) :
    Calls Try.prog 55 #[.pointer (some ⟨b, 0, none⟩), .int .i64 c, .int .i64 far, .slice (some ⟨p, 0, none⟩) m m] w fun r w' => (∃ v, r = .returned (.int .i64 v) ∧ FltR n m l c far v) ∧ w' = w := by
  have k1 := fun i => oisvarZ b n e M i w h
  have wf : IntKind.i64.wrap (-far) = -far := by rw [IntKind.wrap_i64]; omega
  clear h3 h4
  go_enter Try.func55, Try.ntmps55
  go_wp2_with fail
  go_loopw [15] (fun i wr => ∃ (j : Nat), j ≤ m ∧ i = .int .i64 j ∧ wr = w ∧ Hid (∀ x, x < j → Isv n (l x))) (fun i _ => m - (intOf i).toNat)
  case atStart => exact ⟨0, by omega, rfl, rfl, fun x hx => by omega⟩
  case round =>
    obtain ⟨j, hj, rfl, rfl, hP⟩ := hrel
    by_cases cj : j < m
    · have cj' : (j : Int) < (m : Int) := by omega
      have x1 : ∀ w : World, (Instr.indexAt 112 (.slice (some ⟨p, 0, none⟩) m m) (.int .i64 j)).run Try.prog w = .ok (.pointer (some ⟨p, j, none⟩)) w := oij p m j cj
      have y1 := hc j cj
      have k1j := k1 (l j)
      have hP2 : Isv n (l j) → Hid (∀ x, x < j + 1 → Isv n (l x)) := fun q x hx => by
        by_cases r : x = j
        · rw [r]; exact q
        · exact hP.out x (by omega)
      have hP3 : ¬ Isv n (l j) → Hid (¬ ((∀ j, j < m → Isv n (l j)) ∧ -far ≤ c ∧ c ≤ far)) := fun q r => q (r.1 j cj)
      have wc : IntKind.i64.wrap ((j : Int) + 1) = ((j + 1 : Nat) : Int) := by rw [IntKind.wrap_i64]; omega
      generalize l j = z at *
      clear k1 hc
      go_wp2_with (first
        | (go_at_call 51; refine k1j.mono ?_; rintro r w2 ⟨⟨q, rfl, q1, q0⟩, hw2⟩; subst w2; cases q)
        | fail)
      · go_ret
        exact ⟨⟨2, rfl, Or.inr ⟨rfl, (hP3 (q0 (by first | rfl | trivial))).out⟩⟩, rfl⟩
      · exact ⟨⟨j + 1, by omega, by simp, by first | rfl | trivial, hP2 (q1 (by first | rfl | trivial))⟩, by simp [intOf]; omega⟩
    · have ej : j = m := by omega
      subst ej
      clear cj k1
      by_cases g1 : c < -far
      · go_wp2_with fail
        go_ret
        exact ⟨⟨2, rfl, Or.inr ⟨rfl, fun q => by have := q.2.1; omega⟩⟩, rfl⟩
      · by_cases g2 : far < c
        · go_wp2_with fail
          go_ret
          exact ⟨⟨2, rfl, Or.inr ⟨rfl, fun q => by have := q.2.2; omega⟩⟩, rfl⟩
        · go_wp2_with fail
          go_ret
          exact ⟨⟨0, rfl, Or.inl ⟨rfl, hP.out, by omega, by omega⟩⟩, rfl⟩
def Act5 (n : Nat) (bad : Prop) (go : Mx → Bool → Mx → Prop) (e : Bool) (T : Mx) (er : Int) (e' : Bool) (T' : Mx) : Prop :=
  (bad ∧ er = 2 ∧ e' = e ∧ (e = false → Agr n T' T)) ∨ (¬ bad ∧ er = 0 ∧ ((e = true ∧ e' = true) ∨ (e = false ∧ go T e' T')))
def sdn (i : Int) (g : Bool) : Nat := 2 * i.toNat + g.toNat
def LimBad (n : Nat) (i k c : Int) : Prop := ¬ (Isv n i ∧ Isv n k ∧ -34359738368 ≤ c ∧ c ≤ 34359738368)
def LimGo (n : Nat) (i : Int) (gi : Bool) (k : Int) (gk : Bool) (c : Int) (T : Mx) (e' : Bool) (T' : Mx) : Prop := Res n (low T (sdn i gi) (sdn k gk) c) e' T'
theorem low1_gen {n : Nat} {M : Mx} {x y : Nat} {v L : Int} (h : ∀ a c, a < 2 * n → c < 2 * n → L ≤ M a c) (hv : L ≤ v) {a c : Nat} (ha : a < 2 * n) (hc : c < 2 * n) : L ≤ low1 M x y v a c := by
  unfold low1 up1
  have h1 := h a c ha hc
  split
  · rename_i q
    rw [← q.1, ← q.2]
    omega
  · omega
theorem low_ge {n : Nat} {M : Mx} {x y : Nat} {v L : Int} (h : ∀ a c, a < 2 * n → c < 2 * n → L ≤ M a c) (hv : L ≤ v) {a c : Nat} (ha : a < 2 * n) (hc : c < 2 * n) : L ≤ low M x y v a c :=
  low1_gen (fun a c ha hc => low1_gen h hv ha hc) hv ha hc
set_option maxRecDepth 100000 in
set_option maxHeartbeats 800000 in
theorem olimitZ (b n : Nat) (hn : n ≤ 8) (e : Bool) (M : Mx) (i k : Int) (gi gk : Bool) (c : Int) (hT : e = false → Tt n M) (w : World) (h : OctAt w b n e M) :
    Calls Try.prog 30 #[.pointer (some ⟨b, 0, none⟩), .int .i64 i, .bool gi, .int .i64 k, .bool gk, .int .i64 c] w fun r w' => (∃ er e' T', r = .returned (.int .i64 er) ∧ OctAt w' b n e' T' ∧ Act5 n (LimBad n i k c) (LimGo n i gi k gk c) e M er e' T') ∧ Onl b w w' := by
  have hO := ob_new h (.cells #[.int .i64 i, .int .i64 k] 3)
  have cc : Onl b w (w.alloc (.cells #[.int .i64 i, .int .i64 k] 3)) := Onl.of ((Below.refl _ _).alloc (Nat.le_refl _) _)
  have kf := ofaultZ b n e M c 34359738368 (by omega) (by omega) w.heap.size 2 (by omega) (fun j => if j = 0 then i else k) _ hO (fun j hj => by
    have : j = 0 ∨ j = 1 := by omega
    rcases this with rfl | rfl <;> simp [go_sem])
  by_cases bad : LimBad n i k c
  · have kf2 : Calls Try.prog 55 #[.pointer (some ⟨b, 0, none⟩), .int .i64 c, .int .i64 34359738368, .slice (some ⟨w.heap.size, 0, none⟩) 2 2] (w.alloc (.cells #[.int .i64 i, .int .i64 k] 3)) fun r w' => r = .returned (.int .i64 2) ∧ w' = w.alloc (.cells #[.int .i64 i, .int .i64 k] 3) := kf.mono fun r w' q => by
      obtain ⟨⟨v, rfl, hv⟩, hw⟩ := q
      rcases hv with ⟨rfl, h1, h2⟩ | ⟨rfl, _⟩
      · exact absurd ⟨h1 0 (by omega), h1 1 (by omega), h2⟩ bad
      · exact ⟨rfl, hw⟩
    have hA : Hid (Act5 n (LimBad n i k c) (LimGo n i gi k gk c) e M 2 e M) := Or.inl ⟨bad, rfl, rfl, fun _ _ _ _ _ => rfl⟩
    clear kf hT h bad
    go_enter Try.func30, Try.ntmps30
    go_wp2_with (first
      | (go_at_call 55; refine kf2.mono ?_; rintro r w2 ⟨rfl, hw2⟩; subst w2)
      | fail)
    go_ret
    exact ⟨⟨2, e, M, rfl, hO, hA.out⟩, cc⟩
  · have good : Isv n i ∧ Isv n k ∧ -34359738368 ≤ c ∧ c ≤ 34359738368 := Classical.not_not.1 bad
    have kf2 : Calls Try.prog 55 #[.pointer (some ⟨b, 0, none⟩), .int .i64 c, .int .i64 34359738368, .slice (some ⟨w.heap.size, 0, none⟩) 2 2] (w.alloc (.cells #[.int .i64 i, .int .i64 k] 3)) fun r w' => r = .returned (.int .i64 0) ∧ w' = w.alloc (.cells #[.int .i64 i, .int .i64 k] 3) := kf.mono fun r w' q => by
      obtain ⟨⟨v, rfl, hv⟩, hw⟩ := q
      rcases hv with ⟨rfl, h1, h2⟩ | ⟨rfl, q⟩
      · exact ⟨rfl, hw⟩
      · exact absurd ⟨fun j hj => by have : j = 0 ∨ j = 1 := by omega
                                     rcases this with rfl | rfl
                                     · exact good.1
                                     · exact good.2.1, good.2.2⟩ q
    have hA : ∀ e' T', RsE n e (low M (sdn i gi) (sdn k gk) c) e' T' → Hid (Act5 n (LimBad n i k c) (LimGo n i gi k gk c) e M 0 e' T') := fun e' T' q => Or.inr ⟨bad, rfl, q⟩
    have bi := Bool.toNat_le gi
    have bk := Bool.toNat_le gk
    obtain ⟨⟨i0, i1⟩, ⟨k0, k1⟩, c1, c2⟩ := good
    have s1 := oside i.toNat (by omega) gi
    have s2 := oside k.toNat (by omega) gk
    rw [show ((i.toNat : Nat) : Int) = i by omega] at s1
    rw [show ((k.toNat : Nat) : Int) = k by omega] at s2
    have kl := fun V hV => olowerZ b n e M (sdn i gi) (sdn k gk) (by unfold sdn; omega) (by unfold sdn; omega) c V hV
    have kt := fun V M1 (q : e = false → M1 = low M (sdn i gi) (sdn k gk) c) hV => otightZ b n hn e M1 (fun he a d ha hd => by
      rw [q he]
      have t := hT he
      refine ⟨low_ge (L := -68719476736) (fun a d ha hd => by have := t.low ha hd; omega) (by omega) ha hd, ?_⟩
      have := low_le M (sdn i gi) (sdn k gk) c a d
      have := t.up a d ha hd
      omega) V hV
    have hA2 : ∀ M1 e' T', (e = false → M1 = low M (sdn i gi) (sdn k gk) c) → RsE n e M1 e' T' → Hid (Act5 n (LimBad n i k c) (LimGo n i gi k gk c) e M 0 e' T') := fun M1 e' T' q r => hA e' T' (by
      rcases r with r | ⟨he, r⟩
      · exact Or.inl r
      · exact Or.inr ⟨he, q he ▸ r⟩)
    change ∀ w : World, Calls Try.prog _ _ w fun r w' => r = .returned (.int .i64 (sdn i gi : Int)) ∧ w' = w at s1
    change ∀ w : World, Calls Try.prog _ _ w fun r w' => r = .returned (.int .i64 (sdn k gk : Int)) ∧ w' = w at s2
    clear hT bi bk h kf hA bad i0 i1 k0 k1 c1 c2
    generalize low M (sdn i gi) (sdn k gk) c = L at *
    generalize sdn i gi = x at *
    generalize sdn k gk = y at *
    go_enter Try.func30, Try.ntmps30
    go_wp2_with (first
      | (go_at_call 55; refine kf2.mono ?_; rintro r w2 ⟨rfl, hw2⟩; subst w2)
      | (go_at_call 53; with_reducible refine (s1 _).mono ?_; rintro r w3 ⟨rfl, hw3⟩; subst w3; clear s1)
      | (go_at_call 53; with_reducible refine (s2 _).mono ?_; rintro r w3 ⟨rfl, hw3⟩; subst w3; clear s2)
      | (go_at_call 58; refine (kl _ hO).mono ?_; rintro r w4 ⟨rfl, ⟨M1, hO2, hM1⟩, c4⟩; replace cc := cc.trans c4; clear c4)
      | (go_at_call 59; refine (kt _ _ hM1 hO2).mono ?_; rintro r w5 ⟨rfl, ⟨e5, T5, hO3, r5⟩, c5⟩; replace cc := cc.trans c5; clear c5)
      | fail)
    go_ret
    exact ⟨⟨0, e5, T5, rfl, hO3, (hA2 M1 e5 T5 hM1 r5).out⟩, cc⟩
end Go.Proofs.Ytpcbammncaeimaa

namespace Go.Proofs.Ytpcbammncaeimaa
open Go.RowKit
set_option linter.unusedVariables false
set_option linter.unusedSimpArgs false
def fr (g : Bool) (i a : Nat) : Nat := if g = true ∧ a / 2 = i then ot a else a
def gn (i : Nat) (c : Int) (a : Nat) : Int := if a = 2 * i then c else if a = 2 * i + 1 then -c else 0
theorem fr_lt {g : Bool} {i a : Nat} (h : a < 16) : fr g i a < 16 := by unfold fr ot; split <;> (try split) <;> omega
set_option maxRecDepth 100000 in
theorem ofrom (bn bi : Nat) (g : Bool) (i a : Nat) (ha : a < 16) (w : World) (h1 : w.cell? ⟨bn, 0, none⟩ = some (.bool g)) (h2 : w.cell? ⟨bi, 0, none⟩ = some (.int .i64 i)) :
    Calls Try.prog 98 #[.int .i64 a, .pointer (some ⟨bn, 0, none⟩), .pointer (some ⟨bi, 0, none⟩)] w fun r w' => r = .returned (.int .i64 (fr g i a)) ∧ w' = w := by
  have k := oother a ha
  have q1 : wrap64 ((a : Int).tdiv 2) = ((a / 2 : Nat) : Int) := by
    rw [Int.tdiv_eq_ediv_of_nonneg (by omega)]
    unfold wrap64
    omega
  unfold fr
  cases g
  · simp only [Bool.false_eq_true, false_and, if_false]
    go_enter Try.func98, Try.ntmps98
    go_wp2_with fail
    go_ret
    exact ⟨rfl, rfl⟩
  · by_cases hi : a / 2 = i
    · have hi' : ((a : Int) / 2 == (i : Int)) = true := by
        rw [beq_iff_eq]
        omega
      rw [if_pos ⟨rfl, hi⟩]
      generalize ot a = q at *
      clear hi q1
      go_enter Try.func98, Try.ntmps98
      go_wp2_with (first
        | (go_at_call 80; refine (k _).mono ?_; rintro r w2 ⟨rfl, hw2⟩; subst w2)
        | fail)
      go_ret
      exact ⟨rfl, rfl⟩
    · have hi' : ((a : Int) / 2 == (i : Int)) = false := by
        rw [beq_eq_false_iff_ne]
        omega
      rw [if_neg (fun q => hi q.2)]
      clear hi q1
      go_enter Try.func98, Try.ntmps98
      go_wp2_with fail
      go_ret
      exact ⟨rfl, rfl⟩
set_option maxRecDepth 100000 in
theorem ogain (bi bc : Nat) (c : Int) (hc : -8589934592 ≤ c ∧ c ≤ 8589934592) (i a : Nat) (hi : i < 8) (w : World) (h1 : w.cell? ⟨bi, 0, none⟩ = some (.int .i64 i)) (h2 : w.cell? ⟨bc, 0, none⟩ = some (.int .i64 c)) :
    Calls Try.prog 99 #[.int .i64 a, .pointer (some ⟨bi, 0, none⟩), .pointer (some ⟨bc, 0, none⟩)] w fun r w' => r = .returned (.int .i64 (gn i c a)) ∧ w' = w := by
  have s1 := oside i hi false
  have s2 := oside i hi true
  have e1 : 2 * i + false.toNat = 2 * i := rfl
  have e2 : 2 * i + true.toNat = 2 * i + 1 := rfl
  rw [e1] at s1
  rw [e2] at s2
  have wn : IntKind.i64.wrap (-c) = -c := by rw [IntKind.wrap_i64]; omega
  clear e1 e2 hc
  unfold gn
  by_cases q1 : a = 2 * i
  · rw [if_pos q1]
    have q1' : (a : Int) = ((2 * i : Nat) : Int) := by omega
    generalize 2 * i + 1 = y at *
    generalize 2 * i = x at *
    subst q1
    clear q1'
    go_enter Try.func99, Try.ntmps99
    go_wp2_with (first
      | (go_at_call 53; refine (s1 _).mono ?_; rintro r w2 ⟨rfl, hw2⟩; subst w2; clear s1)
      | fail)
    go_ret
    exact ⟨rfl, rfl⟩
  · rw [if_neg q1]
    have q1' : ¬ (a : Int) = ((2 * i : Nat) : Int) := by omega
    by_cases q2 : a = 2 * i + 1
    · rw [if_pos q2]
      generalize 2 * i = x at *
      generalize x + 1 = y at *
      subst q2
      clear q1
      go_enter Try.func99, Try.ntmps99
      go_wp2_with (first
        | (go_at_call 53; refine (s1 _).mono ?_; rintro r w2 ⟨rfl, hw2⟩; subst w2; clear s1)
        | (go_at_call 53; refine (s2 _).mono ?_; rintro r w2 ⟨rfl, hw2⟩; subst w2; clear s2)
        | fail)
      go_ret
      exact ⟨rfl, rfl⟩
    · rw [if_neg q2]
      have q2' : ¬ (a : Int) = ((2 * i + 1 : Nat) : Int) := by omega
      generalize 2 * i + 1 = y at *
      generalize 2 * i = x at *
      clear q1 q2
      go_enter Try.func99, Try.ntmps99
      go_wp2_with (first
        | (go_at_call 53; refine (s1 _).mono ?_; rintro r w2 ⟨rfl, hw2⟩; subst w2; clear s1)
        | (go_at_call 53; refine (s2 _).mono ?_; rintro r w2 ⟨rfl, hw2⟩; subst w2; clear s2)
        | fail)
      go_ret
      exact ⟨rfl, rfl⟩
structure Mv (w : World) (bo bi bn bc bf bg n : Nat) (e : Bool) (M : Mx) (i : Nat) (g : Bool) (c : Int) : Prop where
  o : OctAt w bo n e M
  i : w.cell? ⟨bi, 0, none⟩ = some (.int .i64 i)
  n : w.cell? ⟨bn, 0, none⟩ = some (.bool g)
  c : w.cell? ⟨bc, 0, none⟩ = some (.int .i64 c)
  f : w.cell? ⟨bf, 0, none⟩ = some (.func (.func 98) #[] #[.pointer (some ⟨bn, 0, none⟩), .pointer (some ⟨bi, 0, none⟩)])
  g : w.cell? ⟨bg, 0, none⟩ = some (.func (.func 99) #[] #[.pointer (some ⟨bi, 0, none⟩), .pointer (some ⟨bc, 0, none⟩)])
theorem Mv.drewN {w : World} {bo bi bn bc bf bg n : Nat} {e : Bool} {M : Mx} {i : Nat} {g : Bool} {c : Int} (h : Mv w bo bi bn bc bf bg n e M i g c) (k : Nat) : Mv (w.drewN k) bo bi bn bc bf bg n e M i g c := ⟨h.o.drewN k, h.i, h.n, h.c, h.f, h.g⟩
def mv (g : Bool) (i : Nat) (c : Int) (M : Mx) : Mx := fun a b => M (fr g i a) (fr g i b) + gn i c a + gn i c b
set_option maxRecDepth 100000 in
set_option maxHeartbeats 1600000 in
theorem omv3 (bo bi bn bc bf bg n : Nat) (e : Bool) (M : Mx) (i : Nat) (hi : i < 8) (g : Bool) (c : Int) (hc : -8589934592 ≤ c ∧ c ≤ 8589934592) (x y : Nat) (hx : x < 16) (hy : y < 16) (hM : -4611686018427387904 ≤ M (fr g i x) (fr g i y) ∧ M (fr g i x) (fr g i y) ≤ 4611686018427387903) (w : World) (h : Mv w bo bi bn bc bf bg n e M i g c) :
    Calls Try.prog 100 #[.int .i64 x, .int .i64 y, .pointer (some ⟨bo, 0, none⟩), .pointer (some ⟨bf, 0, none⟩), .pointer (some ⟨bg, 0, none⟩)] w fun r w' => r = .returned (.int .i64 (mv g i c M x y)) ∧ ∃ k, w' = w.drewN k := by
  have k1 := fun k => ofrom bn bi g i x hx (w.drewN k) h.n h.i
  have k2 := fun k => ofrom bn bi g i y hy (w.drewN k) h.n h.i
  have k3 := fun k => ogain bi bc c hc i x hi (w.drewN k) h.i h.c
  have k4 := fun k => ogain bi bc c hc i y hi (w.drewN k) h.i h.c
  have x1 := oix bo (fr g i x) (fr_lt hx)
  have x2 := oiy bo (2 + fr g i x * 16) (fr g i y) (fr_lt hy)
  have y1 := h.o.hm (fr g i x) (fr g i y) (fr_lt hx) (fr_lt hy)
  have hf := h.f
  have hg := h.g
  have g1 : -8589934592 ≤ gn i c x ∧ gn i c x ≤ 8589934592 := by unfold gn; split <;> (try split) <;> omega
  have g2 : -8589934592 ≤ gn i c y ∧ gn i c y ≤ 8589934592 := by unfold gn; split <;> (try split) <;> omega
  unfold mv
  generalize M (fr g i x) (fr g i y) = z at *
  generalize fr g i x = p at *
  generalize fr g i y = q at *
  generalize gn i c x = s at *
  generalize gn i c y = t at *
  have w1 : IntKind.i64.wrap (z + s) = z + s := by rw [IntKind.wrap_i64]; omega
  have w2 : IntKind.i64.wrap (z + s + t) = z + s + t := by rw [IntKind.wrap_i64]; omega
  have ef : ∀ args W, (callFunc 98 args).run Try.prog W = .ok (.enter 98 args) W := fun a v => enters_of Try.func98 (by kernel_rfl) rfl a v
  have eg : ∀ args W, (callFunc 99 args).run Try.prog W = .ok (.enter 99 args) W := fun a v => enters_of Try.func99 (by kernel_rfl) rfl a v
  clear hM hc g1 g2 h
  go_enter Try.func100, Try.ntmps100
  go_upto_region 1 with fail
  go_quiet (first
    | (go_at_call_of 98 x; exact Calls.quiet_of ((k1 _).mono fun r w' q => ⟨q.1, 0, q.2⟩))
    | (go_at_call_of 98 y; exact Calls.quiet_of ((k2 _).mono fun r w' q => ⟨q.1, 0, q.2⟩))
    | (go_at_call_of 99 x; exact Calls.quiet_of ((k3 _).mono fun r w' q => ⟨q.1, 0, q.2⟩))
    | (go_at_call_of 99 y; exact Calls.quiet_of ((k4 _).mono fun r w' q => ⟨q.1, 0, q.2⟩))
    | fail)
  go_wp2_with fail
  go_ret
  exact ⟨rfl, _, rfl⟩
end Go.Proofs.Ytpcbammncaeimaa

namespace Go.Proofs.Ytpcbammncaeimaa
open Go.RowKit
set_option linter.unusedVariables false
structure But (S : Nat → Prop) (W W' : World) : Prop where
  os : W'.os = W.os
  tape : W'.tape = W.tape
  output : W'.output = W.output
  size : W.heap.size ≤ W'.heap.size
  block : ∀ k, k < W.heap.size → ¬ S k → W'.heap[k]? = W.heap[k]?
theorem But.refl (S : Nat → Prop) (W : World) : But S W W := ⟨rfl, rfl, rfl, Nat.le_refl _, fun _ _ _ => rfl⟩
theorem But.trans {S : Nat → Prop} {A B C : World} (h : But S A B) (k : But S B C) : But S A C :=
  ⟨k.os.trans h.os, k.tape.trans h.tape, k.output.trans h.output, Nat.le_trans h.size k.size, fun i hi hs => (k.block i (Nat.lt_of_lt_of_le hi h.size) hs).trans (h.block i hi hs)⟩
theorem But.of {S : Nat → Prop} {A B : World} (h : Below A.heap.size A B) : But S A B := ⟨h.os, h.tape, h.output, h.size, fun k hk _ => h.block k hk⟩
theorem But.below {S : Nat → Prop} {A B : World} {n : Nat} (h : But S A B) (hn : n ≤ A.heap.size) (hS : ∀ k, S k → n ≤ k) : Below n A B :=
  ⟨h.os, h.tape, h.output, h.size, fun k hk => h.block k (Nat.lt_of_lt_of_le hk hn) (fun hs => absurd (hS k hs) (by omega))⟩
theorem But.cell {S : Nat → Prop} {A B : World} (h : But S A B) {a : Addr} {v : Value} (hs : ¬ S a.block) (hv : A.cell? a = some v) : B.cell? a = some v :=
  (World.cell?_of_block (h.block a.block (World.block_lt_of_cell? A a hv) hs)).trans hv
theorem But.frozen {S : Nat → Prop} {A B : World} (h : But S A B) {a : Addr} (hs : ¬ S a.block) (hl : a.block < A.heap.size) : B.frozen? a = A.frozen? a :=
  World.frozen?_of_block (h.block a.block hl hs)
theorem But.call {S : Nat → Prop} {A B C : World} (h : But S A B) (k : Below B.heap.size B C) : But S A C := h.trans (But.of k)
theorem But.alloc {S : Nat → Prop} {A B : World} (h : But S A B) (o : Obj) : But S A (B.alloc o) := h.call ((Below.refl _ _).alloc (Nat.le_refl _) o)
theorem But.drew {S : Nat → Prop} {A B : World} (h : But S A B) : But S A B.drew := ⟨h.os, h.tape, h.output, h.size, h.block⟩
theorem But.set {S : Nat → Prop} {A B : World} (h : But S A B) {a : Addr} (hs : S a.block) (v : Value) : But S A (B.setCell a v) :=
  h.trans ⟨rfl, rfl, rfl, ((Below.refl 0 B).setCell (Nat.zero_le _) v).size, fun k _ hk => Below.heap_setCell B a v k (fun e => hk (by rw [e]; exact hs))⟩
def Stable {β : Type} (B : Nat) (J : β → World → Prop) : Prop := ∀ s W W', J s W → Below B W W' → J s W'
theorem Stable.and {β : Type} {B : Nat} {I J : β → World → Prop} (h : Stable B I) (k : Stable B J) : Stable B (fun s W => I s W ∧ J s W) := fun s W W' hs hb => ⟨h s W W' hs.1 hb, k s W W' hs.2 hb⟩
theorem Stable.mono {β : Type} {B B' : Nat} {J : β → World → Prop} (h : Stable B J) (hB : B ≤ B') : Stable B' J := fun s W W' hs hb => h s W W' hs (hb.mono hB)
structure OnlyAt (l : Nat) (W W' : World) : Prop where
  os : W'.os = W.os
  tape : W'.tape = W.tape
  output : W'.output = W.output
  size : W'.heap.size = W.heap.size
  block : ∀ k, k ≠ l → W'.heap[k]? = W.heap[k]?
theorem OnlyAt.put (W : World) (l : Nat) (o : Obj) : OnlyAt l W (W.putObj l o) := ⟨rfl, rfl, rfl, by simp, fun k hk => World.putObj_heap_other (fun e => hk e)⟩
theorem OnlyAt.below {l B : Nat} {W W' : World} (h : OnlyAt l W W') (hB : B ≤ l) : Below B W W' := ⟨h.os, h.tape, h.output, Nat.le_of_eq h.size.symm, fun k hk => h.block k (by omega)⟩
end Go.Proofs.Ytpcbammncaeimaa

namespace Go.Proofs.Ytpcbammncaeimaa
end Go.Proofs.Ytpcbammncaeimaa

namespace Go.Proofs.Ytpcbammncaeimaa
open Go.RowKit
set_option linter.unusedVariables false
set_option linter.unusedSimpArgs false
theorem gA {α : Type _} {xs : List α} {i : Nat} (h : i < xs.toArray.size) : xs.toArray[i] = xs[i]'(by simpa using h) := List.getElem_toArray h
theorem gB {α : Type _} {a : α} {ys : List α} (h : 0 < (a :: ys).length) : (a :: ys)[0] = a := rfl
theorem gC {α : Type _} {a : α} {ys : List α} {i : Nat} (h : i + 1 < (a :: ys).length) : (a :: ys)[i + 1] = ys[i]'(Nat.lt_of_succ_lt_succ h) := rfl
theorem gD {α : Type _} {xs : List α} {i : Nat} {a : α} : xs.toArray.setIfInBounds i a = (xs.set i a).toArray := List.setIfInBounds_toArray ..
theorem gE {α : Type _} {x a : α} {ys : List α} : (x :: ys).set 0 a = a :: ys := rfl
theorem gG {α : Type _} {x a : α} {ys : List α} {n : Nat} : (x :: ys).set (n + 1) a = x :: ys.set n a := rfl
theorem sO {W w1 : World} (hb : Below W.heap.size W w1) {a : Addr} {v : Value} (h : W.cell? a = some v) : w1.cell? a = some v := by
  rw [hb.cell (World.block_lt_of_cell? W a h)]; exact h
theorem sp_new {w W : World} (h : Below w.heap.size w W) (o : Obj) : Below w.heap.size w (W.alloc o) := h.alloc h.size o
theorem sp_call {w W w1 : World} (h : Below w.heap.size w W) (hb : Below W.heap.size W w1) : Below w.heap.size w w1 := h.trans (hb.mono h.size)
structure Ln where
  least : Int
  most : Int
  past : Int
  ko : Nat
  kp : Nat
  k1 : Nat
  kv : Nat
  kn : Nat
  ku : Nat
  kt : Nat
  kz : Nat
  co : Array Value
  cp : Array Value
  c1 : Array Value
  cv : Array Value
  cn : Array Value
  cu : Array Value
  ct : Array Value
  cz : Array Value
structure Ways where
  dom : Int → Prop
  ord : Int → Int → Int
  pl : Int → Int
  one : Int → Bool
  prv : Int → Int
  nxt : Int → Int
theorem ok_call {B : Nat} {w0 V V' : World} (hB : B ≤ w0.heap.size) (h : Below B w0 V) (h' : Below V.heap.size V V') : Below B w0 V' := h.trans (h'.mono (Nat.le_trans hB h.size))
theorem ok_new {B : Nat} {w0 V : World} (hB : B ≤ w0.heap.size) (h : Below B w0 V) (o : Obj) : Below B w0 (V.alloc o) := h.alloc (Nat.le_trans hB h.size) o
theorem sp_set3 {w W : World} (h : Below w.heap.size w W) {b : Nat} (hb : w.heap.size ≤ b) (x y z : Value) : Below w.heap.size w (((W.setCell ⟨b, 0, none⟩ x).setCell ⟨b, 1, none⟩ y).setCell ⟨b, 2, none⟩ z) :=
  ((h.setCell (p := ⟨b, 0, none⟩) hb x).setCell (p := ⟨b, 1, none⟩) hb y).setCell (p := ⟨b, 2, none⟩) hb z
def grt (A : Ways) (x y : Int) : Int := if 0 < A.ord y x then y else x
def sml (A : Ways) (x y : Int) : Int := if A.ord y x < 0 then y else x
theorem sp_keep1 {W : World} {b b' j k : Nat} {v : Value} (h : W.cell? ⟨b', j, none⟩ = some v) (hne : b' ≠ b) (x : Value) : (W.setCell ⟨b, k, none⟩ x).cell? ⟨b', j, none⟩ = some v :=
  (World.cell?_setCell_far W ⟨b, k, none⟩ ⟨b', j, none⟩ x (Ne.symm hne)).trans h
theorem sp_keep3 {W : World} {b b' j : Nat} {v : Value} (h : W.cell? ⟨b', j, none⟩ = some v) (hne : b' ≠ b) (x y z : Value) : (((W.setCell ⟨b, 0, none⟩ x).setCell ⟨b, 1, none⟩ y).setCell ⟨b, 2, none⟩ z).cell? ⟨b', j, none⟩ = some v :=
  sp_keep1 (sp_keep1 (sp_keep1 h hne x) hne y) hne z
def joinP (A : Ways) (p q : Bool × Int × Int) : Bool × Int × Int := if p.1 then q else if q.1 then p else (false, sml A p.2.1 q.2.1, grt A p.2.2 q.2.2)
end Go.Proofs.Ytpcbammncaeimaa

namespace Go.Proofs.Ytpcbammncaeimaa
open Go.RowKit
set_option linter.unusedVariables false
set_option linter.unusedSimpArgs false
theorem OctAt.onl {b bo n : Nat} {e : Bool} {M : Mx} {V V' : World} (h : OctAt V bo n e M) (g : Onl b V V') (hb : bo ≠ b) : OctAt V' bo n e M :=
  ⟨g.cell hb h.hv, g.cell hb h.he, fun i j hi hj => g.cell hb (h.hm i j hi hj), fun k => (World.frozen?_of_block (g.block bo (World.block_lt_of_cell? V _ h.hv) hb)).trans (h.hf k)⟩
theorem Mv.onl {V V' : World} {b bo bi bn bc bf bg n : Nat} {e : Bool} {M : Mx} {i : Nat} {g : Bool} {c : Int} (h : Mv V bo bi bn bc bf bg n e M i g c) (q : Onl b V V') (ho : b < bo) (hi : b < bi) (hn : b < bn) (hc : b < bc) (hf : b < bf) (hg : b < bg) : Mv V' bo bi bn bc bf bg n e M i g c :=
  ⟨h.o.onl q (by omega), q.cell (by omega) h.i, q.cell (by omega) h.n, q.cell (by omega) h.c, q.cell (by omega) h.f, q.cell (by omega) h.g⟩
theorem fr_lt2 {g : Bool} {n i a : Nat} (h : a < 2 * n) : fr g i a < 2 * n := by
  unfold fr
  split
  · exact ot_lt h
  · exact h
set_option maxRecDepth 100000 in
set_option maxHeartbeats 1600000 in
theorem omove (b n : Nat) (hn : n ≤ 8) (M : Mx) (i : Nat) (hi : i < n) (g : Bool) (c : Int) (hc : -8589934592 ≤ c ∧ c ≤ 8589934592) (hM : ∀ a d, a < 2 * n → d < 2 * n → -4611686018427387904 ≤ M a d ∧ M a d ≤ 4611686018427387903) (w : World) (h : OctAt w b n false M) :
    Calls Try.prog 81 #[.pointer (some ⟨b, 0, none⟩), .int .i64 i, .bool g, .int .i64 c] w fun r w' => r = .returned (.tuple #[]) ∧ OctAt w' b n false (pm (2 * n) (2 * n) 0 (mv g i c M) M) ∧ Onl b w w' := by
  have hb : b < w.heap.size := World.block_lt_of_cell? w _ h.hv
  obtain ⟨W, hW⟩ : ∃ W, ((w.alloc (.cells #[.int .i64 i] 3)).alloc (.cells #[.bool g] 4)).alloc (.cells #[.int .i64 c] 2) = W := ⟨_, rfl⟩
  have gW : Below w.heap.size w W := by rw [← hW]; exact (((Below.refl _ _).alloc (Nat.le_refl _) _).alloc (by simp) _).alloc (by simp; omega) _
  have zW : W.heap.size = w.heap.size + 3 := by rw [← hW]; simp
  have a0 : W.cell? ⟨w.heap.size, 0, none⟩ = some (.int .i64 i) := by rw [← hW]; simp [go_sem]
  have a1 : W.cell? ⟨w.heap.size + 1, 0, none⟩ = some (.bool g) := by rw [← hW]; simp [go_sem]
  have a2 : W.cell? ⟨w.heap.size + 1 + 1, 0, none⟩ = some (.int .i64 c) := by rw [← hW]; simp [go_sem]
  have hO := h.on gW
  have he := hO.he
  have h1 := oload b n false M W hO
  have h2 := oalloc W
  have h3 := ostore n false M W
  have h4 := OctAt.made n false M W
  have h5 : Below W.heap.size W (W.alloc (.cells (octC n false M).toArray 70)) := (Below.refl _ _).alloc (Nat.le_refl _) _
  have h6 : W.heap.size < (W.alloc (.cells (octC n false M).toArray 70)).heap.size := by simp
  generalize (octC n false M).toArray = C at *
  generalize zC = Z at *
  go_enter Try.func81, Try.ntmps81
  go_upto_region 1 with fail
  (try rw [hW])
  clear hW
  have HZ : Hid (W.heap.size = w.heap.size + 3) := zW
  clear zW
  go_wp2_with fail
  refine wp_load_by 70 (.tmp 16) rfl _ _ rfl h1 ?_
  go_step
  go_step
  refine wp_alloc_by 70 rfl _ h2 ?_
  go_step
  go_step
  refine wp_store_by 70 (.tmp 8) (.tmp 17) rfl _ _ rfl rfl h3 ?_
  clear h1 h2 h3
  replace a0 := sO h5 a0
  replace a1 := sO h5 a1
  replace a2 := sO h5 a2
  replace hO := hO.on h5
  have gV := sp_call gW h5
  obtain ⟨o, ho⟩ : ∃ o, W.heap.size = o := ⟨_, rfl⟩
  have HO : Hid (o = w.heap.size + 3) := by rw [← ho]; exact HZ.out
  rw [ho] at h4 h6 ⊢
  clear h5 gW HZ ho he
  generalize W.alloc (.cells C 70) = V at *
  go_upto_region 5 with fail
  obtain ⟨U, hU⟩ : ∃ U, (V.alloc (.cells #[.func (.func 98) #[] #[.pointer (some ⟨w.heap.size + 1, 0, none⟩), .pointer (some ⟨w.heap.size, 0, none⟩)]] 97)).alloc (.cells #[.func (.func 99) #[] #[.pointer (some ⟨w.heap.size, 0, none⟩), .pointer (some ⟨w.heap.size + 1 + 1, 0, none⟩)]] 84) = U := ⟨_, rfl⟩
  have gU : Below V.heap.size V U := by rw [← hU]; exact ((Below.refl _ _).alloc (Nat.le_refl _) _).alloc (by simp) _
  have f1 : U.cell? ⟨V.heap.size, 0, none⟩ = some (.func (.func 98) #[] #[.pointer (some ⟨w.heap.size + 1, 0, none⟩), .pointer (some ⟨w.heap.size, 0, none⟩)]) := by rw [← hU]; simp [go_sem]
  have f2 : U.cell? ⟨V.heap.size + 1, 0, none⟩ = some (.func (.func 99) #[] #[.pointer (some ⟨w.heap.size, 0, none⟩), .pointer (some ⟨w.heap.size + 1 + 1, 0, none⟩)]) := by rw [← hU]; simp [go_sem]
  have hm : Mv U o w.heap.size (w.heap.size + 1) (w.heap.size + 1 + 1) V.heap.size (V.heap.size + 1) n false M i g c := ⟨h4.on gU, sO gU a0, sO gU a1, sO gU a2, f1, f2⟩
  have zV : w.heap.size ≤ V.heap.size := gV.size
  have kf := ofill b n (2 * n) false M rfl (by omega) 100 #[.pointer (some ⟨o, 0, none⟩), .pointer (some ⟨V.heap.size, 0, none⟩), .pointer (some ⟨V.heap.size + 1, 0, none⟩)] (fun a v => enters_of Try.func100 (by kernel_rfl) rfl a v) (mv g i c M)
    (fun X => Mv X o w.heap.size (w.heap.size + 1) (w.heap.size + 1 + 1) V.heap.size (V.heap.size + 1) n false M i g c) (fun X X' a q => a.onl q (by have := HO.out; omega) hb (by omega) (by omega) (by omega) (by omega))
    (fun a d X ha hd hX => omv3 o w.heap.size (w.heap.size + 1) (w.heap.size + 1 + 1) V.heap.size (V.heap.size + 1) n false M i (by omega) g c hc a d (by omega) (by omega) (hM _ _ (fr_lt2 ha) (fr_lt2 hd)) X hX) U (hO.on gU) hm
  have cU : Onl b w U := Onl.of (sp_call gV gU)
  clear hm f1 f2 gU gV h4 h6 a0 a1 a2 hO h HO hM
  rw [hU]
  clear hU
  go_wp2_with (first
    | (go_at_call 64; refine kf.mono ?_; rintro r w9 ⟨rfl, hO9, c9⟩)
    | fail)
  exact bodyPost_end (results_none rfl _ _ _) rfl ⟨rfl, hO9, cU.trans c9⟩
end Go.Proofs.Ytpcbammncaeimaa

