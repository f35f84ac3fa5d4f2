/- The reference's small calls, Limit, Set. -/
import Derived.Test.YtpcbammncaeimaaOdV
namespace Go.Proofs.Ytpcbammncaeimaa
open Go.RowKit
set_option linter.unusedVariables false
set_option linter.unusedSimpArgs false
set_option maxRecDepth 100000 in
theorem rhasT (R : Rf) (n : Nat) (e : Bool) (M : Mx) (i : Int) (hi : Isv n i) (w : World) (h : RefAt w R n e M) : Calls Try.prog 74 #[.pointer (some ⟨R.b, 0, none⟩), .int .i64 i] w fun r w' => r = .returned (.bool true) ∧ w' = w := by
  have hv := h.hn
  obtain ⟨g1, g2⟩ := hi
  go_enter Try.func74, Try.ntmps74
  go_wp2_with fail
  go_ret
  exact ⟨rfl, rfl⟩
set_option maxRecDepth 100000 in
theorem rhasF (R : Rf) (n : Nat) (e : Bool) (M : Mx) (i : Int) (hi : ¬ Isv n i) (w : World) (h : RefAt w R n e M) : Calls Try.prog 74 #[.pointer (some ⟨R.b, 0, none⟩), .int .i64 i] w fun r w' => r = .returned (.bool false) ∧ w' = w := by
  have hv := h.hn
  by_cases g1 : 0 ≤ i
  · have g2 : ¬ i < (n : Int) := fun q => hi ⟨g1, q⟩
    clear hi
    go_enter Try.func74, Try.ntmps74
    go_wp2_with fail
    go_ret
    exact ⟨rfl, rfl⟩
  · clear hi
    go_enter Try.func74, Try.ntmps74
    go_wp2_with fail
    go_ret
    exact ⟨rfl, rfl⟩
set_option maxRecDepth 100000 in
theorem rnode (i : Nat) (hi : i < 8) (g : Bool) (w : World) : Calls Try.prog 78 #[.int .i64 i, .bool g] w fun r w' => r = .returned (.int .i64 ((2 * i + g.toNat : Nat) : Int)) ∧ w' = w := by
  have hw : IntKind.i64.wrap (2 * (i : Int)) = ((2 * i : Nat) : Int) := by rw [IntKind.wrap_i64]; omega
  have hx : IntKind.i64.wrap (((2 * i : Nat) : Int) + 1) = ((2 * i + 1 : Nat) : Int) := by rw [IntKind.wrap_i64]; omega
  cases g
  · go_enter Try.func78, Try.ntmps78
    go_wp2_with fail
    go_ret
    exact ⟨rfl, rfl⟩
  · go_enter Try.func78, Try.ntmps78
    go_wp2_with fail
    go_ret
    exact ⟨rfl, rfl⟩
theorem rnodeZ (n : Nat) (hn : n ≤ 8) (i : Int) (hi : Isv n i) (g : Bool) (w : World) : Calls Try.prog 78 #[.int .i64 i, .bool g] w fun r w' => r = .returned (.int .i64 (sdn i g : Int)) ∧ w' = w := by
  have := rnode i.toNat (by unfold Isv at hi; omega) g w
  rw [show ((i.toNat : Nat) : Int) = i by unfold Isv at hi; omega] at this
  exact this
theorem sdn_lt {n : Nat} {i : Int} (hi : Isv n i) (g : Bool) : sdn i g < 2 * n := by
  have := Bool.toNat_le g
  unfold Isv at hi
  unfold sdn
  omega
def bnd (M : Mx) (p q : Nat) (c : Int) : Mx := if c < M p q then ux (ux M p q c) q p c else M
theorem bnd_low {M : Mx} {p q : Nat} (h : M p q = M q p) (c : Int) (a b : Nat) : bnd M p q c a b = low M p q c a b := by
  unfold bnd low low1 up1
  by_cases l : c < M p q
  · rw [if_pos l]
    unfold ux
    by_cases k1 : a = q ∧ b = p
    · rw [if_pos k1, if_pos k1]
      by_cases k2 : q = p ∧ p = q
      · rw [if_pos k2]; omega
      · rw [if_neg k2]; omega
    · rw [if_neg k1, if_neg k1]
      by_cases k2 : a = p ∧ b = q
      · rw [if_pos k2, if_pos k2]; omega
      · rw [if_neg k2, if_neg k2]
  · rw [if_neg l]
    by_cases k1 : a = q ∧ b = p
    · rw [if_pos k1]
      by_cases k2 : q = p ∧ p = q
      · rw [if_pos k2, k1.1, k1.2]; omega
      · rw [if_neg k2, k1.1, k1.2]; omega
    · rw [if_neg k1]
      by_cases k2 : a = p ∧ b = q
      · rw [if_pos k2, k2.1, k2.2]; omega
      · rw [if_neg k2]
set_option maxRecDepth 100000 in
set_option maxHeartbeats 800000 in
theorem rbound (R : Rf) (n : Nat) (e : Bool) (M : Mx) (p q : Nat) (hp : p < 2 * n) (hq : q < 2 * n) (c : Int) (w : World) (h : RefAt w R n e M) : Calls Try.prog 91 #[.pointer (some ⟨R.b, 0, none⟩), .int .i64 p, .int .i64 q, .int .i64 c] w fun r w' => r = .returned (.tuple #[]) ∧ RefAt w' R n e (bnd M p q c) ∧ Rgn R.lo R.hi w w' := by
  have hs := h.hs
  have r1 := h.hr p hp
  have r2 := h.hr q hq
  have m1 := h.hm p q hp hq
  have f1 := h.fm p q hp
  have x1 := rix2 R.pb (2 * n) R.pc p hp
  have x2 := rix (R.rb p) (2 * n) (R.rc p) q hq
  have x3 := rix2 R.pb (2 * n) R.pc q hq
  have x4 := rix (R.rb q) (2 * n) (R.rc q) p hp
  unfold bnd
  by_cases l : c < M p q
  · rw [if_pos l]
    have h1 := h.set hp hq c
    have h2 := h1.set hq hp c
    have g1 := (Rgn.refl R.lo R.hi w).set (b := R.rb p) (j := q) (h.ir p hp).1 (h.ir p hp).2 (.int .i64 c)
    have g2 := g1.set (b := R.rb q) (j := p) (h.ir q hq).1 (h.ir q hq).2 (.int .i64 c)
    have hs' := h1.hs
    have r2' := h1.hr q hq
    have m2 := h1.hm q p hq hp
    have f2 := h1.fm q p hq
    obtain ⟨z, hz⟩ : ∃ z, ux M p q c q p = z := ⟨_, rfl⟩
    rw [hz] at m2
    clear hz h h1 g1
    generalize M p q = y at *
    generalize ux (ux M p q c) q p c = L at *
    generalize 2 * n = m at *
    go_enter Try.func91, Try.ntmps91
    go_upto_region 2 with fail
    generalize w.setCell ⟨R.rb p, q, none⟩ (.int .i64 c) = W at *
    clear hs r1 r2 m1 f1
    go_wp2_with fail
    exact bodyPost_end (results_none rfl _ _ _) rfl ⟨rfl, h2, g2⟩
  · rw [if_neg l]
    generalize M p q = y at *
    generalize 2 * n = m at *
    go_enter Try.func91, Try.ntmps91
    go_wp2_with fail
    exact bodyPost_end (results_none rfl _ _ _) rfl ⟨rfl, h, Rgn.refl _ _ _⟩
set_option maxRecDepth 100000 in
theorem rtightX (R : Rf) (n : Nat) (M : Mx) (w : World) (h : RefAt w R n true M) : Calls Try.prog 92 #[.pointer (some ⟨R.b, 0, none⟩)] w fun r w' => r = .returned (.tuple #[]) ∧ w' = w := by
  have he := h.he
  go_enter Try.func92, Try.ntmps92
  go_wp2_with fail
  go_loopw [2] (fun g wr => g = .bool true ∧ wr = w) (fun _ _ => 0)
  case atStart => exact ⟨rfl, rfl⟩
  case round =>
    obtain ⟨rfl, rfl⟩ := hrel
    go_wp2_with fail
    exact bodyPost_end (results_none rfl _ _ _) rfl ⟨rfl, rfl⟩
/-- What tighten makes, of an empty one, too. -/
def RefRsE (W : World) (R : Rf) (n : Nat) (e : Bool) (S : Mx) : Prop := ∃ e' T, RefAt W R n e' T ∧ RsE n e S e' T
theorem rtightZ (R : Rf) (n : Nat) (hn : n ≤ 4) (e : Bool) (S : Mx) (hS : e = false → ∀ a c, a < 2 * n → c < 2 * n → -34359738368 ≤ S a c ∧ S a c ≤ 34359738368) (w : World) (h : RefAt w R n e S) :
    Calls Try.prog 92 #[.pointer (some ⟨R.b, 0, none⟩)] w fun r w' => r = .returned (.tuple #[]) ∧ RefRsE w' R n e S ∧ Rgn R.lo R.hi w w' := by
  cases e
  · exact (rtight R n hn S (hS rfl) w h).mono fun r w' q => ⟨q.1, (let ⟨e', T, hO, hr⟩ := q.2.1; ⟨e', T, hO, Or.inr ⟨rfl, hr⟩⟩), q.2.2⟩
  · exact (rtightX R n S w h).mono fun r w' q => ⟨q.1, ⟨true, S, q.2 ▸ h, Or.inl ⟨rfl, rfl⟩⟩, q.2 ▸ Rgn.refl _ _ _⟩
/-- What a call of the reference answers that changes one in place. -/
def RefAct (W : World) (R : Rf) (n : Nat) (bad : Prop) (go : Mx → Bool → Mx → Prop) (e : Bool) (M : Mx) (er : Int) : Prop := ∃ e' T', RefAt W R n e' T' ∧ Act5 n bad go e M er e' T'
theorem low_bd {n : Nat} {M : Mx} (t : Tt n M) {x y : Nat} {c : Int} (h1 : -34359738368 ≤ c) {a d : Nat} (ha : a < 2 * n) (hd : d < 2 * n) : -34359738368 ≤ low M x y c a d ∧ low M x y c a d ≤ 34359738368 := by
  refine ⟨low_ge (fun a d ha hd => by have := t.low ha hd; omega) h1 ha hd, ?_⟩
  have q2 := low_le M x y c a d
  have q3 := t.up a d ha hd
  omega
set_option maxRecDepth 100000 in
set_option maxHeartbeats 1600000 in
theorem rlimit (R : Rf) (n : Nat) (hn : n ≤ 4) (e : Bool) (M : Mx) (i k : Int) (gi gk : Bool) (c : Int) (hT : e = false → Tt n M) (w : World) (h : RefAt w R n e M) :
    Calls Try.prog 66 #[.pointer (some ⟨R.b, 0, none⟩), .int .i64 i, .bool gi, .int .i64 k, .bool gk, .int .i64 c] w fun r w' => (∃ er, r = .returned (.int .i64 er) ∧ RefAct w' R n (LimBad n i k c) (LimGo n i gi k gk c) e M er) ∧ Rgn R.lo R.hi w w' := by
  have A1 : LimBad n i k c → Hid (RefAct w R n (LimBad n i k c) (LimGo n i gi k gk c) e M 2) := fun q => ⟨e, M, h, Or.inl ⟨q, rfl, rfl, fun _ _ _ _ _ => rfl⟩⟩
  by_cases ii : Isv n i
  · have k1 := fun V hV => rhasT R n e M i ii V hV
    by_cases kk : Isv n k
    · have k2 := fun V hV => rhasT R n e M k kk V hV
      by_cases c1 : c < -34359738368
      · have hA := A1 (fun q => by have := q.2.2.1; omega)
        clear A1 hT ii kk
        go_enter Try.func66, Try.ntmps66
        go_wp2_with (first
          | (go_at_call 74; with_reducible refine (k1 _ h).mono ?_; rintro r w2 ⟨rfl, hw2⟩; subst w2; clear k1)
          | (go_at_call 74; with_reducible refine (k2 _ h).mono ?_; rintro r w2 ⟨rfl, hw2⟩; subst w2; clear k2)
          | fail)
        go_ret
        exact ⟨⟨2, rfl, hA.out⟩, Rgn.refl _ _ _⟩
      · by_cases c2 : 34359738368 < c
        · have hA := A1 (fun q => by have := q.2.2.2; omega)
          clear A1 hT ii kk
          go_enter Try.func66, Try.ntmps66
          go_wp2_with (first
            | (go_at_call 74; with_reducible refine (k1 _ h).mono ?_; rintro r w2 ⟨rfl, hw2⟩; subst w2; clear k1)
            | (go_at_call 74; with_reducible refine (k2 _ h).mono ?_; rintro r w2 ⟨rfl, hw2⟩; subst w2; clear k2)
            | fail)
          go_ret
          exact ⟨⟨2, rfl, hA.out⟩, Rgn.refl _ _ _⟩
        · have nbad : ¬ LimBad n i k c := fun q => q ⟨ii, kk, by omega, by omega⟩
          have hx := sdn_lt ii gi
          have hy := sdn_lt kk gk
          have s1 := rnodeZ n (by omega) i ii gi
          have s2 := rnodeZ n (by omega) k kk gk
          have kb := fun V hV => rbound R n e M (sdn i gi) (sdn k gk) hx hy c V hV
          have ag : e = false → Agr n (bnd M (sdn i gi) (sdn k gk) c) (low M (sdn i gi) (sdn k gk) c) := fun he a b _ _ => bnd_low ((hT he).sym _ _ hx hy) c a b
          have kt := fun V hV => rtightZ R n hn e (bnd M (sdn i gi) (sdn k gk) c) (fun he a b ha hb => by rw [ag he a b ha hb]; exact low_bd (hT he) (by omega) ha hb) V hV
          have hA : ∀ W, RefRsE W R n e (bnd M (sdn i gi) (sdn k gk) c) → Hid (RefAct W R n (LimBad n i k c) (LimGo n i gi k gk c) e M 0) := fun W ⟨e', T', hO, r⟩ => ⟨e', T', hO, Or.inr ⟨nbad, rfl, by
            rcases r with r | ⟨he, r⟩
            · exact Or.inl r
            · exact Or.inr ⟨he, Res.at (e := e') r fun X _ => (ag he).le_iff X⟩⟩⟩
          clear A1 hT ii kk nbad ag hx hy
          generalize bnd M (sdn i gi) (sdn k gk) c = B at *
          generalize sdn i gi = x at *
          generalize sdn k gk = y at *
          go_enter Try.func66, Try.ntmps66
          go_wp2_with (first
            | (go_at_call 74; with_reducible refine (k1 _ h).mono ?_; rintro r w2 ⟨rfl, hw2⟩; subst w2; clear k1)
            | (go_at_call 74; with_reducible refine (k2 _ h).mono ?_; rintro r w2 ⟨rfl, hw2⟩; subst w2; clear k2)
            | (go_at_call 78; with_reducible refine (s1 _).mono ?_; rintro r w3 ⟨rfl, hw3⟩; subst w3; clear s1)
            | (go_at_call 78; with_reducible refine (s2 _).mono ?_; rintro r w3 ⟨rfl, hw3⟩; subst w3; clear s2)
            | (go_at_call 91; refine (kb _ h).mono ?_; rintro r w4 ⟨rfl, hO, c4⟩)
            | (go_at_call 92; refine (kt _ hO).mono ?_; rintro r w5 ⟨rfl, hR, c5⟩; replace c4 := c4.trans c5)
            | fail)
          go_ret
          exact ⟨⟨0, rfl, (hA _ hR).out⟩, c4⟩
    · have k2 := fun V hV => rhasF R n e M k kk V hV
      have hA := A1 (fun q => kk q.2.1)
      clear A1 hT ii kk
      go_enter Try.func66, Try.ntmps66
      go_wp2_with (first
        | (go_at_call 74; with_reducible refine (k1 _ h).mono ?_; rintro r w2 ⟨rfl, hw2⟩; subst w2; clear k1)
        | (go_at_call 74; with_reducible refine (k2 _ h).mono ?_; rintro r w2 ⟨rfl, hw2⟩; subst w2; clear k2)
        | fail)
      go_ret
      exact ⟨⟨2, rfl, hA.out⟩, Rgn.refl _ _ _⟩
  · have k1 := fun V hV => rhasF R n e M i ii V hV
    have hA := A1 (fun q => ii q.1)
    clear A1 hT ii
    go_enter Try.func66, Try.ntmps66
    go_wp2_with (first
      | (go_at_call 74; with_reducible refine (k1 _ h).mono ?_; rintro r w2 ⟨rfl, hw2⟩; subst w2; clear k1)
      | fail)
    go_ret
    exact ⟨⟨2, rfl, hA.out⟩, Rgn.refl _ _ _⟩
end Go.Proofs.Ytpcbammncaeimaa

