/- octagon: Limit of whatever comes. -/
import Derived.Test.YtpcbammncaeimaaOdT
namespace Go.Proofs.Ytpcbammncaeimaa
open Go.RowKit
set_option linter.unusedVariables false
set_option linter.unusedSimpArgs false
/-- What becomes of bounds that are tightened, if it was not empty. -/
def RsE (n : Nat) (e : Bool) (S : Mx) (e' : Bool) (T : Mx) : Prop := (e = true ∧ e' = true) ∨ (e = false ∧ Res n S e' T)
theorem otightZ (b n : Nat) (hn : n ≤ 8) (e : Bool) (S : Mx) (hS : e = false → ∀ a c, a < 2 * n → c < 2 * n → -68719476736 ≤ S a c ∧ S a c ≤ 68719476736) (w : World) (h : OctAt w b n e S) :
    Calls Try.prog 59 #[.pointer (some ⟨b, 0, none⟩)] w fun r w' => r = .returned (.tuple #[]) ∧ (∃ e' T, OctAt w' b n e' T ∧ RsE n e S e' T) ∧ Onl b w w' := by
  cases e
  · exact (otightE b n hn S (fun a c ha hc => (hS rfl a c ha hc).2) (fun a c ha hc => (hS rfl a c ha hc).1) w h).mono fun r w' q => ⟨q.1, (let ⟨e', T, hO, hr⟩ := q.2.1; ⟨e', T, hO, Or.inr ⟨rfl, hr⟩⟩), q.2.2⟩
  · exact (otightX b n S w h).mono fun r w' q => ⟨q.1, ⟨true, S, q.2.1, Or.inl ⟨rfl, rfl⟩⟩, q.2.2⟩
set_option maxRecDepth 100000 in
theorem olowerX (b n : Nat) (M : Mx) (x y v : Int) (w : World) (h : OctAt w b n true M) :
    Calls Try.prog 58 #[.pointer (some ⟨b, 0, none⟩), .int .i64 x, .int .i64 y, .int .i64 v] w fun r w' => r = .returned (.tuple #[]) ∧ w' = w := by
  have he := h.he
  go_enter Try.func58, Try.ntmps58
  go_wp2_with fail
  exact bodyPost_ret (results_none rfl _ _ _) rfl ⟨rfl, rfl⟩
theorem olowerZ (b n : Nat) (e : Bool) (M : Mx) (x y : Nat) (hx : x < 16) (hy : y < 16) (v : Int) (w : World) (h : OctAt w b n e M) :
    Calls Try.prog 58 #[.pointer (some ⟨b, 0, none⟩), .int .i64 x, .int .i64 y, .int .i64 v] w fun r w' => r = .returned (.tuple #[]) ∧ (∃ M1, OctAt w' b n e M1 ∧ (e = false → M1 = low M x y v)) ∧ Onl b w w' := by
  cases e
  · exact (olower b n M x y hx hy v w h).mono fun r w' q => ⟨q.1, ⟨_, q.2.1, fun _ => rfl⟩, q.2.2⟩
  · exact (olowerX b n M x y v w h).mono fun r w' q => ⟨q.1, ⟨M, q.2 ▸ h, fun k => by cases k⟩, q.2 ▸ Onl.refl _ _⟩
set_option maxRecDepth 100000 in
theorem oisvarN (b n : Nat) (e : Bool) (M : Mx) (i : Int) (hi : i < 0 ∨ (n : Int) ≤ i) (w : World) (h : OctAt w b n e M) : Calls Try.prog 51 #[.pointer (some ⟨b, 0, none⟩), .int .i64 i] w fun r w' => r = .returned (.bool false) ∧ w' = w := by
  have hv := h.hv
  by_cases g1 : 0 ≤ i
  · have g2 : ¬ i < (n : Int) := by omega
    clear hi
    go_enter Try.func51, Try.ntmps51
    go_wp2_with fail
    go_ret
    exact ⟨rfl, rfl⟩
  · clear hi
    go_enter Try.func51, Try.ntmps51
    go_wp2_with fail
    go_ret
    exact ⟨rfl, rfl⟩
/-- A number is one of a variable's. -/
def Isv (n : Nat) (i : Int) : Prop := 0 ≤ i ∧ i < n
theorem oisvarZ (b n : Nat) (e : Bool) (M : Mx) (i : Int) (w : World) (h : OctAt w b n e M) : Calls Try.prog 51 #[.pointer (some ⟨b, 0, none⟩), .int .i64 i] w fun r w' => (∃ q, r = .returned (.bool q) ∧ (q = true → Isv n i) ∧ (q = false → ¬ Isv n i)) ∧ w' = w := by
  by_cases hi : Isv n i
  · have hi' := hi
    obtain ⟨j, rfl⟩ : ∃ j : Nat, i = j := ⟨i.toNat, by unfold Isv at hi; omega⟩
    exact (oisvar b n e M j (by unfold Isv at hi; omega) w h).mono fun r w' q => ⟨⟨true, q.1, fun _ => hi', fun k => by cases k⟩, q.2⟩
  · exact (oisvarN b n e M i (by unfold Isv at hi; omega) w h).mono fun r w' q => ⟨⟨false, q.1, (fun k => by cases k), fun _ => hi⟩, q.2⟩
/-- What fault tells. -/
def FltR (n m : Nat) (l : Nat → Int) (c far v : Int) : Prop := (v = 0 ∧ (∀ j, j < m → Isv n (l j)) ∧ -far ≤ c ∧ c ≤ far) ∨ (v = 2 ∧ ¬ ((∀ j, j < m → Isv n (l j)) ∧ -far ≤ c ∧ c ≤ far))
set_option maxRecDepth 100000 in
set_option maxHeartbeats 800000 in
theorem ofaultZ (b n : Nat) (e : Bool) (M : Mx) (c far : Int) (h3 : 0 ≤ far) (h4 : far ≤ 34359738368) (p m : Nat) (hm : m ≤ 2) (l : Nat → Int) (w : World) (h : OctAt w b n e M) (hc : ∀ j, j < m → w.cell? ⟨p, j, none⟩ = some (.int .i64 (l j))) :
    Calls Try.prog 55 #[.pointer (some ⟨b, 0, none⟩), .int .i64 c, .int .i64 far, .slice (some ⟨p, 0, none⟩) m m] w fun r w' => (∃ v, r = .returned (.int .i64 v) ∧ FltR n m l c far v) ∧ w' = w := by
  have k1 := fun i => oisvarZ b n e M i w h
  have wf : IntKind.i64.wrap (-far) = -far := by rw [IntKind.wrap_i64]; omega
  clear h3 h4
  go_enter Try.func55, Try.ntmps55
  go_wp2_with fail
  go_loopw [15] (fun i wr => ∃ (j : Nat), j ≤ m ∧ i = .int .i64 j ∧ wr = w ∧ Hid (∀ x, x < j → Isv n (l x))) (fun i _ => m - (intOf i).toNat)
  case atStart => exact ⟨0, by omega, rfl, rfl, fun x hx => by omega⟩
  case round =>
    obtain ⟨j, hj, rfl, rfl, hP⟩ := hrel
    by_cases cj : j < m
    · have cj' : (j : Int) < (m : Int) := by omega
      have x1 : ∀ w : World, (Instr.indexAt 112 (.slice (some ⟨p, 0, none⟩) m m) (.int .i64 j)).run Try.prog w = .ok (.pointer (some ⟨p, j, none⟩)) w := oij p m j cj
      have y1 := hc j cj
      have k1j := k1 (l j)
      have hP2 : Isv n (l j) → Hid (∀ x, x < j + 1 → Isv n (l x)) := fun q x hx => by
        by_cases r : x = j
        · rw [r]; exact q
        · exact hP.out x (by omega)
      have hP3 : ¬ Isv n (l j) → Hid (¬ ((∀ j, j < m → Isv n (l j)) ∧ -far ≤ c ∧ c ≤ far)) := fun q r => q (r.1 j cj)
      have wc : IntKind.i64.wrap ((j : Int) + 1) = ((j + 1 : Nat) : Int) := by rw [IntKind.wrap_i64]; omega
      generalize l j = z at *
      clear k1 hc
      go_wp2_with (first
        | (go_at_call 51; refine k1j.mono ?_; rintro r w2 ⟨⟨q, rfl, q1, q0⟩, hw2⟩; subst w2; cases q)
        | fail)
      · go_ret
        exact ⟨⟨2, rfl, Or.inr ⟨rfl, (hP3 (q0 (by first | rfl | trivial))).out⟩⟩, rfl⟩
      · exact ⟨⟨j + 1, by omega, by simp, by first | rfl | trivial, hP2 (q1 (by first | rfl | trivial))⟩, by simp [intOf]; omega⟩
    · have ej : j = m := by omega
      subst ej
      clear cj k1
      by_cases g1 : c < -far
      · go_wp2_with fail
        go_ret
        exact ⟨⟨2, rfl, Or.inr ⟨rfl, fun q => by have := q.2.1; omega⟩⟩, rfl⟩
      · by_cases g2 : far < c
        · go_wp2_with fail
          go_ret
          exact ⟨⟨2, rfl, Or.inr ⟨rfl, fun q => by have := q.2.2; omega⟩⟩, rfl⟩
        · go_wp2_with fail
          go_ret
          exact ⟨⟨0, rfl, Or.inl ⟨rfl, hP.out, by omega, by omega⟩⟩, rfl⟩
/-- What a call answers that changes one in place. -/
def Act5 (n : Nat) (bad : Prop) (go : Mx → Bool → Mx → Prop) (e : Bool) (T : Mx) (er : Int) (e' : Bool) (T' : Mx) : Prop :=
  (bad ∧ er = 2 ∧ e' = e ∧ (e = false → Agr n T' T)) ∨ (¬ bad ∧ er = 0 ∧ ((e = true ∧ e' = true) ∨ (e = false ∧ go T e' T')))
def sdn (i : Int) (g : Bool) : Nat := 2 * i.toNat + g.toNat
def LimBad (n : Nat) (i k c : Int) : Prop := ¬ (Isv n i ∧ Isv n k ∧ -34359738368 ≤ c ∧ c ≤ 34359738368)
def LimGo (n : Nat) (i : Int) (gi : Bool) (k : Int) (gk : Bool) (c : Int) (T : Mx) (e' : Bool) (T' : Mx) : Prop := Res n (low T (sdn i gi) (sdn k gk) c) e' T'
theorem low1_ge {M : Mx} {x y : Nat} {v L : Int} (h : ∀ a c, L ≤ M a c) (hv : L ≤ v) (a c : Nat) : L ≤ low1 M x y v a c := by
  unfold low1 up1
  have := h x y
  have := h a c
  split <;> omega
theorem low1_gen {n : Nat} {M : Mx} {x y : Nat} {v L : Int} (h : ∀ a c, a < 2 * n → c < 2 * n → L ≤ M a c) (hv : L ≤ v) {a c : Nat} (ha : a < 2 * n) (hc : c < 2 * n) : L ≤ low1 M x y v a c := by
  unfold low1 up1
  have h1 := h a c ha hc
  split
  · rename_i q
    rw [← q.1, ← q.2]
    omega
  · omega
theorem low_ge {n : Nat} {M : Mx} {x y : Nat} {v L : Int} (h : ∀ a c, a < 2 * n → c < 2 * n → L ≤ M a c) (hv : L ≤ v) {a c : Nat} (ha : a < 2 * n) (hc : c < 2 * n) : L ≤ low M x y v a c :=
  low1_gen (fun a c ha hc => low1_gen h hv ha hc) hv ha hc
set_option maxRecDepth 100000 in
set_option maxHeartbeats 800000 in
theorem olimitZ (b n : Nat) (hn : n ≤ 8) (e : Bool) (M : Mx) (i k : Int) (gi gk : Bool) (c : Int) (hT : e = false → Tt n M) (w : World) (h : OctAt w b n e M) :
    Calls Try.prog 30 #[.pointer (some ⟨b, 0, none⟩), .int .i64 i, .bool gi, .int .i64 k, .bool gk, .int .i64 c] w fun r w' => (∃ er e' T', r = .returned (.int .i64 er) ∧ OctAt w' b n e' T' ∧ Act5 n (LimBad n i k c) (LimGo n i gi k gk c) e M er e' T') ∧ Onl b w w' := by
  have hO := ob_new h (.cells #[.int .i64 i, .int .i64 k] 3)
  have cc : Onl b w (w.alloc (.cells #[.int .i64 i, .int .i64 k] 3)) := Onl.of ((Below.refl _ _).alloc (Nat.le_refl _) _)
  have kf := ofaultZ b n e M c 34359738368 (by omega) (by omega) w.heap.size 2 (by omega) (fun j => if j = 0 then i else k) _ hO (fun j hj => by
    have : j = 0 ∨ j = 1 := by omega
    rcases this with rfl | rfl <;> simp [go_sem])
  by_cases bad : LimBad n i k c
  · have kf2 : Calls Try.prog 55 #[.pointer (some ⟨b, 0, none⟩), .int .i64 c, .int .i64 34359738368, .slice (some ⟨w.heap.size, 0, none⟩) 2 2] (w.alloc (.cells #[.int .i64 i, .int .i64 k] 3)) fun r w' => r = .returned (.int .i64 2) ∧ w' = w.alloc (.cells #[.int .i64 i, .int .i64 k] 3) := kf.mono fun r w' q => by
      obtain ⟨⟨v, rfl, hv⟩, hw⟩ := q
      rcases hv with ⟨rfl, h1, h2⟩ | ⟨rfl, _⟩
      · exact absurd ⟨h1 0 (by omega), h1 1 (by omega), h2⟩ bad
      · exact ⟨rfl, hw⟩
    have hA : Hid (Act5 n (LimBad n i k c) (LimGo n i gi k gk c) e M 2 e M) := Or.inl ⟨bad, rfl, rfl, fun _ _ _ _ _ => rfl⟩
    clear kf hT h bad
    go_enter Try.func30, Try.ntmps30
    go_wp2_with (first
      | (go_at_call 55; refine kf2.mono ?_; rintro r w2 ⟨rfl, hw2⟩; subst w2)
      | fail)
    go_ret
    exact ⟨⟨2, e, M, rfl, hO, hA.out⟩, cc⟩
  · have good : Isv n i ∧ Isv n k ∧ -34359738368 ≤ c ∧ c ≤ 34359738368 := Classical.not_not.1 bad
    have kf2 : Calls Try.prog 55 #[.pointer (some ⟨b, 0, none⟩), .int .i64 c, .int .i64 34359738368, .slice (some ⟨w.heap.size, 0, none⟩) 2 2] (w.alloc (.cells #[.int .i64 i, .int .i64 k] 3)) fun r w' => r = .returned (.int .i64 0) ∧ w' = w.alloc (.cells #[.int .i64 i, .int .i64 k] 3) := kf.mono fun r w' q => by
      obtain ⟨⟨v, rfl, hv⟩, hw⟩ := q
      rcases hv with ⟨rfl, h1, h2⟩ | ⟨rfl, q⟩
      · exact ⟨rfl, hw⟩
      · exact absurd ⟨fun j hj => by have : j = 0 ∨ j = 1 := by omega
                                     rcases this with rfl | rfl
                                     · exact good.1
                                     · exact good.2.1, good.2.2⟩ q
    have hA : ∀ e' T', RsE n e (low M (sdn i gi) (sdn k gk) c) e' T' → Hid (Act5 n (LimBad n i k c) (LimGo n i gi k gk c) e M 0 e' T') := fun e' T' q => Or.inr ⟨bad, rfl, q⟩
    have bi := Bool.toNat_le gi
    have bk := Bool.toNat_le gk
    obtain ⟨⟨i0, i1⟩, ⟨k0, k1⟩, c1, c2⟩ := good
    have s1 := oside i.toNat (by omega) gi
    have s2 := oside k.toNat (by omega) gk
    rw [show ((i.toNat : Nat) : Int) = i by omega] at s1
    rw [show ((k.toNat : Nat) : Int) = k by omega] at s2
    have kl := fun V hV => olowerZ b n e M (sdn i gi) (sdn k gk) (by unfold sdn; omega) (by unfold sdn; omega) c V hV
    have kt := fun V M1 (q : e = false → M1 = low M (sdn i gi) (sdn k gk) c) hV => otightZ b n hn e M1 (fun he a d ha hd => by
      rw [q he]
      have t := hT he
      refine ⟨low_ge (L := -68719476736) (fun a d ha hd => by have := t.low ha hd; omega) (by omega) ha hd, ?_⟩
      have := low_le M (sdn i gi) (sdn k gk) c a d
      have := t.up a d ha hd
      omega) V hV
    have hA2 : ∀ M1 e' T', (e = false → M1 = low M (sdn i gi) (sdn k gk) c) → RsE n e M1 e' T' → Hid (Act5 n (LimBad n i k c) (LimGo n i gi k gk c) e M 0 e' T') := fun M1 e' T' q r => hA e' T' (by
      rcases r with r | ⟨he, r⟩
      · exact Or.inl r
      · exact Or.inr ⟨he, q he ▸ r⟩)
    change ∀ w : World, Calls Try.prog _ _ w fun r w' => r = .returned (.int .i64 (sdn i gi : Int)) ∧ w' = w at s1
    change ∀ w : World, Calls Try.prog _ _ w fun r w' => r = .returned (.int .i64 (sdn k gk : Int)) ∧ w' = w at s2
    clear hT bi bk h kf hA bad i0 i1 k0 k1 c1 c2
    generalize low M (sdn i gi) (sdn k gk) c = L at *
    generalize sdn i gi = x at *
    generalize sdn k gk = y at *
    go_enter Try.func30, Try.ntmps30
    go_wp2_with (first
      | (go_at_call 55; refine kf2.mono ?_; rintro r w2 ⟨rfl, hw2⟩; subst w2)
      | (go_at_call 53; with_reducible refine (s1 _).mono ?_; rintro r w3 ⟨rfl, hw3⟩; subst w3; clear s1)
      | (go_at_call 53; with_reducible refine (s2 _).mono ?_; rintro r w3 ⟨rfl, hw3⟩; subst w3; clear s2)
      | (go_at_call 58; refine (kl _ hO).mono ?_; rintro r w4 ⟨rfl, ⟨M1, hO2, hM1⟩, c4⟩; replace cc := cc.trans c4; clear c4)
      | (go_at_call 59; refine (kt _ _ hM1 hO2).mono ?_; rintro r w5 ⟨rfl, ⟨e5, T5, hO3, r5⟩, c5⟩; replace cc := cc.trans c5; clear c5)
      | fail)
    go_ret
    exact ⟨⟨0, e5, T5, rfl, hO3, (hA2 M1 e5 T5 hM1 r5).out⟩, cc⟩
end Go.Proofs.Ytpcbammncaeimaa
