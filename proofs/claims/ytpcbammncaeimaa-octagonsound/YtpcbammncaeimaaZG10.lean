/- Texts of the proof, put together. -/
import Derived.Test.YtpcbammncaeimaaZOdV
namespace Go.Proofs.Ytpcbammncaeimaa
open Go.RowKit
set_option linter.unusedVariables false
set_option linter.unusedSimpArgs false
set_option maxRecDepth 100000 in
theorem rhasT (R : Rf) (n : Nat) (e : Bool) (M : Mx) (i : Int) (hi : Isv n i) (w : World) (h : RefAt w R n e M) : Calls Try.prog 74 #[.pointer (some ⟨R.b, 0, none⟩), .int .i64 i] w fun r w' => r = .returned (.bool true) ∧ w' = w := by
  have hv := h.hn
  obtain ⟨g1, g2⟩ := hi
  go_enter Try.func74, Try.ntmps74
  go_wp2_with fail
  go_ret
  exact ⟨rfl, rfl⟩
set_option maxRecDepth 100000 in
theorem rhasF (R : Rf) (n : Nat) (e : Bool) (M : Mx) (i : Int) (hi : ¬ Isv n i) (w : World) (h : RefAt w R n e M) : Calls Try.prog 74 #[.pointer (some ⟨R.b, 0, none⟩), .int .i64 i] w fun r w' => r = .returned (.bool false) ∧ w' = w := by
  have hv := h.hn
  by_cases g1 : 0 ≤ i
  · have g2 : ¬ i < (n : Int) := fun q => hi ⟨g1, q⟩
    clear hi
    go_enter Try.func74, Try.ntmps74
    go_wp2_with fail
    go_ret
    exact ⟨rfl, rfl⟩
  · clear hi
    go_enter Try.func74, Try.ntmps74
    go_wp2_with fail
    go_ret
    exact ⟨rfl, rfl⟩
set_option maxRecDepth 100000 in
theorem rnode (i : Nat) (hi : i < 8) (g : Bool) (w : World) : Calls Try.prog 78 #[.int .i64 i, .bool g] w fun r w' => r = .returned (.int .i64 ((2 * i + g.toNat : Nat) : Int)) ∧ w' = w := by
  have hw : IntKind.i64.wrap (2 * (i : Int)) = ((2 * i : Nat) : Int) := by rw [IntKind.wrap_i64]; omega
  have hx : IntKind.i64.wrap (((2 * i : Nat) : Int) + 1) = ((2 * i + 1 : Nat) : Int) := by rw [IntKind.wrap_i64]; omega
  cases g
  · go_enter Try.func78, Try.ntmps78
    go_wp2_with fail
    go_ret
    exact ⟨rfl, rfl⟩
  · go_enter Try.func78, Try.ntmps78
    go_wp2_with fail
    go_ret
    exact ⟨rfl, rfl⟩
theorem rnodeZ (n : Nat) (hn : n ≤ 8) (i : Int) (hi : Isv n i) (g : Bool) (w : World) : Calls Try.prog 78 #[.int .i64 i, .bool g] w fun r w' => r = .returned (.int .i64 (sdn i g : Int)) ∧ w' = w := by
  have := rnode i.toNat (by unfold Isv at hi; omega) g w
  rw [show ((i.toNat : Nat) : Int) = i by unfold Isv at hi; omega] at this
  exact this
theorem sdn_lt {n : Nat} {i : Int} (hi : Isv n i) (g : Bool) : sdn i g < 2 * n := by
  have := Bool.toNat_le g
  unfold Isv at hi
  unfold sdn
  omega
def bnd (M : Mx) (p q : Nat) (c : Int) : Mx := if c < M p q then ux (ux M p q c) q p c else M
theorem bnd_low {M : Mx} {p q : Nat} (h : M p q = M q p) (c : Int) (a b : Nat) : bnd M p q c a b = low M p q c a b := by
  unfold bnd low low1 up1
  by_cases l : c < M p q
  · rw [if_pos l]
    unfold ux
    by_cases k1 : a = q ∧ b = p
    · rw [if_pos k1, if_pos k1]
      by_cases k2 : q = p ∧ p = q
      · rw [if_pos k2]; omega
      · rw [if_neg k2]; omega
    · rw [if_neg k1, if_neg k1]
      by_cases k2 : a = p ∧ b = q
      · rw [if_pos k2, if_pos k2]; omega
      · rw [if_neg k2, if_neg k2]
  · rw [if_neg l]
    by_cases k1 : a = q ∧ b = p
    · rw [if_pos k1]
      by_cases k2 : q = p ∧ p = q
      · rw [if_pos k2, k1.1, k1.2]; omega
      · rw [if_neg k2, k1.1, k1.2]; omega
    · rw [if_neg k1]
      by_cases k2 : a = p ∧ b = q
      · rw [if_pos k2, k2.1, k2.2]; omega
      · rw [if_neg k2]
set_option maxRecDepth 100000 in
set_option maxHeartbeats 800000 in
theorem rbound (R : Rf) (n : Nat) (e : Bool) (M : Mx) (p q : Nat) (hp : p < 2 * n) (hq : q < 2 * n) (c : Int) (w : World) (h : RefAt w R n e M) : Calls Try.prog 91 #[.pointer (some ⟨R.b, 0, none⟩), .int .i64 p, .int .i64 q, .int .i64 c] w fun r w' => r = .returned (.tuple #[]) ∧ RefAt w' R n e (bnd M p q c) ∧ Rgn R.lo R.hi w w' := by
  have hs := h.hs
  have r1 := h.hr p hp
  have r2 := h.hr q hq
  have m1 := h.hm p q hp hq
  have f1 := h.fm p q hp
  have x1 := rix2 R.pb (2 * n) R.pc p hp
  have x2 := rix (R.rb p) (2 * n) (R.rc p) q hq
  have x3 := rix2 R.pb (2 * n) R.pc q hq
  have x4 := rix (R.rb q) (2 * n) (R.rc q) p hp
  unfold bnd
  by_cases l : c < M p q
  · rw [if_pos l]
    have h1 := h.set hp hq c
    have h2 := h1.set hq hp c
    have g1 := (Rgn.refl R.lo R.hi w).set (b := R.rb p) (j := q) (h.ir p hp).1 (h.ir p hp).2 (.int .i64 c)
    have g2 := g1.set (b := R.rb q) (j := p) (h.ir q hq).1 (h.ir q hq).2 (.int .i64 c)
    have hs' := h1.hs
    have r2' := h1.hr q hq
    have m2 := h1.hm q p hq hp
    have f2 := h1.fm q p hq
    obtain ⟨z, hz⟩ : ∃ z, ux M p q c q p = z := ⟨_, rfl⟩
    rw [hz] at m2
    clear hz h h1 g1
    generalize M p q = y at *
    generalize ux (ux M p q c) q p c = L at *
    generalize 2 * n = m at *
    go_enter Try.func91, Try.ntmps91
    go_upto_region 2 with fail
    generalize w.setCell ⟨R.rb p, q, none⟩ (.int .i64 c) = W at *
    clear hs r1 r2 m1 f1
    go_wp2_with fail
    exact bodyPost_end (results_none rfl _ _ _) rfl ⟨rfl, h2, g2⟩
  · rw [if_neg l]
    generalize M p q = y at *
    generalize 2 * n = m at *
    go_enter Try.func91, Try.ntmps91
    go_wp2_with fail
    exact bodyPost_end (results_none rfl _ _ _) rfl ⟨rfl, h, Rgn.refl _ _ _⟩
set_option maxRecDepth 100000 in
theorem rtightX (R : Rf) (n : Nat) (M : Mx) (w : World) (h : RefAt w R n true M) : Calls Try.prog 92 #[.pointer (some ⟨R.b, 0, none⟩)] w fun r w' => r = .returned (.tuple #[]) ∧ w' = w := by
  have he := h.he
  go_enter Try.func92, Try.ntmps92
  go_wp2_with fail
  go_loopw [2] (fun g wr => g = .bool true ∧ wr = w) (fun _ _ => 0)
  case atStart => exact ⟨rfl, rfl⟩
  case round =>
    obtain ⟨rfl, rfl⟩ := hrel
    go_wp2_with fail
    exact bodyPost_end (results_none rfl _ _ _) rfl ⟨rfl, rfl⟩
def RefRsE (W : World) (R : Rf) (n : Nat) (e : Bool) (S : Mx) : Prop := ∃ e' T, RefAt W R n e' T ∧ RsE n e S e' T
theorem rtightZ (R : Rf) (n : Nat) (hn : n ≤ 4) (e : Bool) (S : Mx) (hS : e = false → ∀ a c, a < 2 * n → c < 2 * n → -34359738368 ≤ S a c ∧ S a c ≤ 34359738368) (w : World) (h : RefAt w R n e S) :
    Calls Try.prog 92 #[.pointer (some ⟨R.b, 0, none⟩)] w fun r w' => r = .returned (.tuple #[]) ∧ RefRsE w' R n e S ∧ Rgn R.lo R.hi w w' := by
  cases e
  · exact (rtight R n hn S (hS rfl) w h).mono fun r w' q => ⟨q.1, (let ⟨e', T, hO, hr⟩ := q.2.1; ⟨e', T, hO, Or.inr ⟨rfl, hr⟩⟩), q.2.2⟩
  · exact (rtightX R n S w h).mono fun r w' q => ⟨q.1, ⟨true, S, q.2 ▸ h, Or.inl ⟨rfl, rfl⟩⟩, q.2 ▸ Rgn.refl _ _ _⟩
def RefAct (W : World) (R : Rf) (n : Nat) (bad : Prop) (go : Mx → Bool → Mx → Prop) (e : Bool) (M : Mx) (er : Int) : Prop := ∃ e' T', RefAt W R n e' T' ∧ Act5 n bad go e M er e' T'
theorem low_bd {n : Nat} {M : Mx} (t : Tt n M) {x y : Nat} {c : Int} (h1 : -34359738368 ≤ c) {a d : Nat} (ha : a < 2 * n) (hd : d < 2 * n) : -34359738368 ≤ low M x y c a d ∧ low M x y c a d ≤ 34359738368 := by
  refine ⟨low_ge (fun a d ha hd => by have := t.low ha hd; omega) h1 ha hd, ?_⟩
  have q2 := low_le M x y c a d
  have q3 := t.up a d ha hd
  omega
set_option maxRecDepth 100000 in
set_option maxHeartbeats 1600000 in
theorem rlimit (R : Rf) (n : Nat) (hn : n ≤ 4) (e : Bool) (M : Mx) (i k : Int) (gi gk : Bool) (c : Int) (hT : e = false → Tt n M) (w : World) (h : RefAt w R n e M) :
    Calls Try.prog 66 #[.pointer (some ⟨R.b, 0, none⟩), .int .i64 i, .bool gi, .int .i64 k, .bool gk, .int .i64 c] w fun r w' => (∃ er, r = .returned (.int .i64 er) ∧ RefAct w' R n (LimBad n i k c) (LimGo n i gi k gk c) e M er) ∧ Rgn R.lo R.hi w w' := by
  have A1 : LimBad n i k c → Hid (RefAct w R n (LimBad n i k c) (LimGo n i gi k gk c) e M 2) := fun q => ⟨e, M, h, Or.inl ⟨q, rfl, rfl, fun _ _ _ _ _ => rfl⟩⟩
  by_cases ii : Isv n i
  · have k1 := fun V hV => rhasT R n e M i ii V hV
    by_cases kk : Isv n k
    · have k2 := fun V hV => rhasT R n e M k kk V hV
      by_cases c1 : c < -34359738368
      · have hA := A1 (fun q => by have := q.2.2.1; omega)
        clear A1 hT ii kk
        go_enter Try.func66, Try.ntmps66
        go_wp2_with (first
          | (go_at_call 74; with_reducible refine (k1 _ h).mono ?_; rintro r w2 ⟨rfl, hw2⟩; subst w2; clear k1)
          | (go_at_call 74; with_reducible refine (k2 _ h).mono ?_; rintro r w2 ⟨rfl, hw2⟩; subst w2; clear k2)
          | fail)
        go_ret
        exact ⟨⟨2, rfl, hA.out⟩, Rgn.refl _ _ _⟩
      · by_cases c2 : 34359738368 < c
        · have hA := A1 (fun q => by have := q.2.2.2; omega)
          clear A1 hT ii kk
          go_enter Try.func66, Try.ntmps66
          go_wp2_with (first
            | (go_at_call 74; with_reducible refine (k1 _ h).mono ?_; rintro r w2 ⟨rfl, hw2⟩; subst w2; clear k1)
            | (go_at_call 74; with_reducible refine (k2 _ h).mono ?_; rintro r w2 ⟨rfl, hw2⟩; subst w2; clear k2)
            | fail)
          go_ret
          exact ⟨⟨2, rfl, hA.out⟩, Rgn.refl _ _ _⟩
        · have nbad : ¬ LimBad n i k c := fun q => q ⟨ii, kk, by omega, by omega⟩
          have hx := sdn_lt ii gi
          have hy := sdn_lt kk gk
          have s1 := rnodeZ n (by omega) i ii gi
          have s2 := rnodeZ n (by omega) k kk gk
          have kb := fun V hV => rbound R n e M (sdn i gi) (sdn k gk) hx hy c V hV
          have ag : e = false → Agr n (bnd M (sdn i gi) (sdn k gk) c) (low M (sdn i gi) (sdn k gk) c) := fun he a b _ _ => bnd_low ((hT he).sym _ _ hx hy) c a b
          have kt := fun V hV => rtightZ R n hn e (bnd M (sdn i gi) (sdn k gk) c) (fun he a b ha hb => by rw [ag he a b ha hb]; exact low_bd (hT he) (by omega) ha hb) V hV
          have hA : ∀ W, RefRsE W R n e (bnd M (sdn i gi) (sdn k gk) c) → Hid (RefAct W R n (LimBad n i k c) (LimGo n i gi k gk c) e M 0) := fun W ⟨e', T', hO, r⟩ => ⟨e', T', hO, Or.inr ⟨nbad, rfl, by
            rcases r with r | ⟨he, r⟩
            · exact Or.inl r
            · exact Or.inr ⟨he, Res.at (e := e') r fun X _ => (ag he).le_iff X⟩⟩⟩
          clear A1 hT ii kk nbad ag hx hy
          generalize bnd M (sdn i gi) (sdn k gk) c = B at *
          generalize sdn i gi = x at *
          generalize sdn k gk = y at *
          go_enter Try.func66, Try.ntmps66
          go_wp2_with (first
            | (go_at_call 74; with_reducible refine (k1 _ h).mono ?_; rintro r w2 ⟨rfl, hw2⟩; subst w2; clear k1)
            | (go_at_call 74; with_reducible refine (k2 _ h).mono ?_; rintro r w2 ⟨rfl, hw2⟩; subst w2; clear k2)
            | (go_at_call 78; with_reducible refine (s1 _).mono ?_; rintro r w3 ⟨rfl, hw3⟩; subst w3; clear s1)
            | (go_at_call 78; with_reducible refine (s2 _).mono ?_; rintro r w3 ⟨rfl, hw3⟩; subst w3; clear s2)
            | (go_at_call 91; refine (kb _ h).mono ?_; rintro r w4 ⟨rfl, hO, c4⟩)
            | (go_at_call 92; refine (kt _ hO).mono ?_; rintro r w5 ⟨rfl, hR, c5⟩; replace c4 := c4.trans c5)
            | fail)
          go_ret
          exact ⟨⟨0, rfl, (hA _ hR).out⟩, c4⟩
    · have k2 := fun V hV => rhasF R n e M k kk V hV
      have hA := A1 (fun q => kk q.2.1)
      clear A1 hT ii kk
      go_enter Try.func66, Try.ntmps66
      go_wp2_with (first
        | (go_at_call 74; with_reducible refine (k1 _ h).mono ?_; rintro r w2 ⟨rfl, hw2⟩; subst w2; clear k1)
        | (go_at_call 74; with_reducible refine (k2 _ h).mono ?_; rintro r w2 ⟨rfl, hw2⟩; subst w2; clear k2)
        | fail)
      go_ret
      exact ⟨⟨2, rfl, hA.out⟩, Rgn.refl _ _ _⟩
  · have k1 := fun V hV => rhasF R n e M i ii V hV
    have hA := A1 (fun q => ii q.1)
    clear A1 hT ii
    go_enter Try.func66, Try.ntmps66
    go_wp2_with (first
      | (go_at_call 74; with_reducible refine (k1 _ h).mono ?_; rintro r w2 ⟨rfl, hw2⟩; subst w2; clear k1)
      | fail)
    go_ret
    exact ⟨⟨2, rfl, hA.out⟩, Rgn.refl _ _ _⟩
end Go.Proofs.Ytpcbammncaeimaa


namespace Go.Proofs.Ytpcbammncaeimaa
open Go.RowKit
set_option linter.unusedVariables false
set_option linter.unusedSimpArgs false
structure Fgp (n i : Nat) (M X : Mx) (p k : Nat) : Prop where
  one : ∀ a b, a < 2 * n → b < 2 * n → X a b = M a b ∨ X a b = fgt i M a b
  row : ∀ a b, a < p → a < 2 * n → b < 2 * n → b / 2 = i → X a b = fgt i M a b ∧ X b a = fgt i M b a
  now : ∀ b, b < k → b < 2 * n → p < 2 * n → b / 2 = i → X p b = fgt i M p b ∧ X b p = fgt i M b p
theorem Fgp.ux {n i : Nat} {M X : Mx} {p k : Nat} (h : Fgp n i M X p k) (x y : Nat) : Fgp n i M (ux X x y (fgt i M x y)) p k where
  one := fun a b ha hb => by
    unfold Go.Proofs.Ytpcbammncaeimaa.ux
    split
    · rename_i q; rw [q.1, q.2]; exact Or.inr rfl
    · exact h.one a b ha hb
  row := fun a b h1 ha hb hi => by
    have := h.row a b h1 ha hb hi
    unfold Go.Proofs.Ytpcbammncaeimaa.ux
    refine ⟨?_, ?_⟩ <;> split
    · rename_i q; rw [q.1, q.2]
    · exact this.1
    · rename_i q; rw [q.1, q.2]
    · exact this.2
  now := fun b h1 hb hp hi => by
    have := h.now b h1 hb hp hi
    unfold Go.Proofs.Ytpcbammncaeimaa.ux
    refine ⟨?_, ?_⟩ <;> split
    · rename_i q; rw [q.1, q.2]
    · exact this.1
    · rename_i q; rw [q.1, q.2]
    · exact this.2
theorem Fgp.step {n i : Nat} {M X : Mx} {p k : Nat} (h : Fgp n i M X p k) (h1 : X p k = fgt i M p k) (h2 : X k p = fgt i M k p) : Fgp n i M X p (k + 1) where
  one := h.one
  row := h.row
  now := fun b hk hb hp hi => by
    by_cases e : b = k
    · subst e; exact ⟨h1, h2⟩
    · exact h.now b (by omega) hb hp hi
theorem Fgp.next {n i : Nat} {M X : Mx} {p : Nat} (h : Fgp n i M X p (2 * i + 2)) : Fgp n i M X (p + 1) (2 * i) where
  one := h.one
  row := fun a b h1 ha hb hi => by
    by_cases e : a = p
    · subst e; exact h.now b (by omega) hb ha hi
    · exact h.row a b (by omega) ha hb hi
  now := fun b hk hb hp hi => by omega
theorem Fgp.all {n i : Nat} {M X : Mx} {k : Nat} (h : Fgp n i M X (2 * n) k) : Agr n X (fgt i M) := fun a b ha hb => by
  by_cases cb : b / 2 = i
  · exact (h.row a b ha ha hb cb).1
  · by_cases ca : a / 2 = i
    · exact (h.row b a hb hb ha ca).2
    · rcases h.one a b ha hb with q | q
      · rw [q]; unfold fgt; rw [if_neg (by omega)]
      · exact q
theorem bst_res {n : Nat} {S T T' : Mx} {e : Bool} (b : Bst n S T') (r : Res n S e T) : e = false ∧ Bst n S T := by
  rcases r with ⟨h1, h2⟩ | ⟨_, h2⟩
  · exact ⟨h1, h2⟩
  · exact absurd b.le (h2 _ b.cl)
set_option maxRecDepth 100000 in
set_option maxHeartbeats 1600000 in
theorem rforget (R : Rf) (n : Nat) (hn : n ≤ 4) (M : Mx) (i : Nat) (hi : i < n) (t : Tt n M) (w : World) (h : RefAt w R n false M) :
    Calls Try.prog 94 #[.pointer (some ⟨R.b, 0, none⟩), .int .i64 i] w fun r w' => r = .returned (.tuple #[]) ∧ (∃ M1, RefAt w' R n false M1 ∧ Bst n (fgt i M) M1) ∧ Rgn R.lo R.hi w w' := by
  obtain ⟨m, hm⟩ : ∃ m, 2 * n = m := ⟨_, rfl⟩
  have h8 : m ≤ 8 := by omega
  have wm : IntKind.i64.wrap (2 * (n : Int)) = (m : Int) := by rw [IntKind.wrap_i64]; omega
  obtain ⟨xi, hxi⟩ : ∃ xi, 2 * i = xi := ⟨_, rfl⟩
  obtain ⟨yi, hyi⟩ : ∃ yi, xi + 1 = yi := ⟨_, rfl⟩
  have w2i : IntKind.i64.wrap (2 * (i : Int)) = (xi : Int) := by rw [IntKind.wrap_i64]; omega
  have w2i1 : IntKind.i64.wrap ((xi : Int) + 1) = (yi : Int) := by rw [IntKind.wrap_i64]; omega
  have hm' : Hid (2 * n = m) := hm
  have hi' : Hid (2 * i = xi ∧ xi + 1 = yi ∧ yi < m) := ⟨hxi, hyi, by omega⟩
  have kt := fun V X (a : Agr n X (fgt i M)) hV => rtight R n hn X (fun x y hx hy => by
    rw [a x y hx hy]
    have := t.up x y hx hy
    have := t.low hx hy
    have := bx_le x y
    unfold fgt
    split <;> omega) V hV
  have hF0 : Fgp n i M M 0 (2 * i) := ⟨fun _ _ _ _ => Or.inl rfl, fun a b h1 => by omega, fun b hk hb hp hi => by omega⟩
  have t' : Hid (Tt n M) := t
  have he := h.he
  rw [hxi] at hF0
  clear hm hn t hi hxi hyi
  go_enter Try.func94, Try.ntmps94
  go_wp2_with fail
  clear he
  go_loopw [4] (fun j wr => ∃ (WR : World) (p : Nat) (X : Mx), WR = wr ∧ p ≤ m ∧ j = .int .i64 p ∧ RefAt wr R n false X ∧ Hid (Fgp n i M X p xi) ∧ Rgn R.lo R.hi w wr) (fun j _ => m - (intOf j).toNat)
  case atStart => exact ⟨_, 0, M, rfl, by omega, rfl, h, hF0, Rgn.refl _ _ _⟩
  case round =>
    clear h hF0
    obtain ⟨WR, p, X, rfl, hp, rfl, hO, hF, cc⟩ := hrel
    have h0 := hO.hn
    by_cases cp : p < m
    · have cp' : (p : Int) < (m : Int) := by omega
      go_wp2_with fail
      clear h0
      go_loopw [5] (fun j wr => ∃ (WS : World) (k : Nat) (Y : Mx), WS = wr ∧ xi ≤ k ∧ k ≤ yi + 1 ∧ j = .int .i64 k ∧ RefAt wr R n false Y ∧ Hid (Fgp n i M Y p k) ∧ Rgn R.lo R.hi w wr) (fun j _ => yi + 1 - (intOf j).toNat)
      case atStart => exact ⟨_, xi, X, rfl, by omega, by have := hi'.out; omega, rfl, hO, hF, cc⟩
      case round =>
        clear hO hF cc
        obtain ⟨WS, k, Y, rfl, k1, k2, rfl, hO, hF, cc⟩ := hrel
        by_cases ck : k < yi + 1
        · have ck' : (k : Int) ≤ (yi : Int) := by omega
          have km : k < m := by have := hi'.out; omega
          have hx := oxor k (by omega)
          have wk : IntKind.i64.wrap ((k : Int) + 1) = ((k + 1 : Nat) : Int) := by rw [IntKind.wrap_i64]; omega
          have hs := hO.hs
          have r1 := hO.hr p (by have := hm'.out; omega)
          have m1 := hO.hm p k (by have := hm'.out; omega) (by have := hm'.out; omega)
          have f1 := hO.fm p k (by have := hm'.out; omega)
          rw [hm'.out] at hs r1
          have x1 := rix2 R.pb m R.pc p cp
          have x2 := rix (R.rb p) m (R.rc p) k km
          have x3 := rix2 R.pb m R.pc k km
          have x4 := rix (R.rb k) m (R.rc k) p cp
          have pn : p < 2 * n := by have := hm'.out; omega
          have kn : k < 2 * n := by have := hm'.out; omega
          have ki : k / 2 = i := by have := hi'.out; omega
          by_cases e : p = ot k
          · have e' : (p : Int) = (ot k : Int) := by omega
            have v1 : Y p k = fgt i M p k := by
              rcases hF.out.one p k pn kn with q | q
              · rw [q]
                have := t'.out.opp p pn
                rw [show ot p = k by rw [e, ot_ot]] at this
                unfold fgt
                rw [if_pos (Or.inr ki), this, e]
                exact (bx_to k).symm
              · exact q
            have v2 : Y k p = fgt i M k p := by
              rcases hF.out.one k p kn pn with q | q
              · rw [q]
                have := t'.out.opp k kn
                rw [← e] at this
                unfold fgt
                rw [if_pos (Or.inl ki), this, e]
                exact (bx_ot k).symm
              · exact q
            have hF2 : Hid (Fgp n i M Y p (k + 1)) := hF.out.step v1 v2
            rw [← e] at hx
            clear v1 v2 e' e hF m1 f1 hs r1 x1 x2 x3 x4 ki pn kn
            go_wp2_with fail
            exact ⟨⟨_, k + 1, Y, rfl, by omega, by omega, by simp, hO, hF2, cc⟩, by simp [intOf]; omega⟩
          · have e' : ¬ (p : Int) = (ot k : Int) := by omega
            have b1 : fgt i M p k = 17179869184 := by unfold fgt bx; rw [if_pos (Or.inr ki), if_neg e]
            have b2 : fgt i M k p = 17179869184 := by unfold fgt bx; rw [if_pos (Or.inl ki), if_neg (fun q => e (by rw [q, ot_ot]))]
            have h1 := hO.set pn kn 17179869184
            have h2 := h1.set kn pn 17179869184
            have hF2 : Hid (Fgp n i M (ux (ux Y p k 17179869184) k p 17179869184) p (k + 1)) := by
              have q1 := hF.out.ux p k
              rw [b1] at q1
              have q2 := q1.ux k p
              rw [b2] at q2
              refine q2.step ?_ ?_
              · rw [b1]; unfold ux; split
                · rfl
                · rw [if_pos ⟨rfl, rfl⟩]
              · rw [b2]; unfold ux; rw [if_pos ⟨rfl, rfl⟩]
            have g1 := cc.set (b := R.rb p) (j := k) (hO.ir p pn).1 (hO.ir p pn).2 (.int .i64 17179869184)
            have g2 := g1.set (b := R.rb k) (j := p) (hO.ir k kn).1 (hO.ir k kn).2 (.int .i64 17179869184)
            have hs' := h1.hs
            have r2' := h1.hr k kn
            have m2 := h1.hm k p kn pn
            have f2 := h1.fm k p kn
            rw [hm'.out] at hs' r2'
            obtain ⟨z, hz⟩ : ∃ z, ux Y p k 17179869184 k p = z := ⟨_, rfl⟩
            obtain ⟨y, hy⟩ : ∃ y, Y p k = y := ⟨_, rfl⟩
            rw [hz] at m2
            rw [hy] at m1
            clear hz hy hO h1 g1 b1 b2 hF ki pn kn e
            generalize ux (ux Y p k 17179869184) k p 17179869184 = L at *
            generalize ot k = q at *
            go_upto_region 9 with fail
            generalize WS.setCell ⟨R.rb p, k, none⟩ (.int .i64 17179869184) = W at *
            clear hs r1 m1 f1
            go_wp2_with fail
            exact ⟨⟨_, k + 1, L, rfl, by omega, by omega, by simp, h2, hF2, g2⟩, by simp [intOf]; omega⟩
        · have ck' : ¬ (k : Int) ≤ (yi : Int) := by omega
          have wp1 : IntKind.i64.wrap ((p : Int) + 1) = ((p + 1 : Nat) : Int) := by rw [IntKind.wrap_i64]; omega
          have hF2 : Hid (Fgp n i M Y (p + 1) xi) := by
            have q := hF.out
            obtain ⟨q1, q2, _⟩ := hi'.out
            rw [show k = 2 * i + 2 by omega] at q
            rw [← q1]
            exact q.next
          clear hF ck k1 k2
          go_wp2_with fail
          go_roundw
          case rel => exact ⟨_, p + 1, Y, rfl, by omega, by first | rfl | go_num, hO, hF2, cc⟩
          case measure => simp [intOf]; omega
    · have ep : p = m := by omega
      subst ep
      clear cp hp
      have ag : Agr n X (fgt i M) := by
        have q := hF.out
        rw [← hm'.out] at q
        exact q.all
      have kt2 := kt WR X ag hO
      have hfin : ∀ W, RefRes W R n X → Hid (∃ M1, RefAt W R n false M1 ∧ Bst n (fgt i M) M1) := fun W ⟨e, T, hO, r⟩ => by
        obtain ⟨rfl, b⟩ := bst_res (fre_bst (i := i) t'.out) (Res.at (e := e) r fun X _ => ag.le_iff X)
        exact ⟨T, hO, b⟩
      clear kt ag hF
      go_wp2_with (first
        | (go_at_call 92; refine kt2.mono ?_; rintro r w5 ⟨rfl, hR, c5⟩; replace cc := cc.trans c5)
        | fail)
      exact bodyPost_end (results_none rfl _ _ _) rfl ⟨rfl, (hfin _ hR).out, cc⟩
set_option maxRecDepth 100000 in
theorem rforgetX (R : Rf) (n : Nat) (M : Mx) (i : Int) (w : World) (h : RefAt w R n true M) :
    Calls Try.prog 94 #[.pointer (some ⟨R.b, 0, none⟩), .int .i64 i] w fun r w' => r = .returned (.tuple #[]) ∧ w' = w := by
  have he := h.he
  go_enter Try.func94, Try.ntmps94
  go_wp2_with fail
  exact bodyPost_ret (results_none rfl _ _ _) rfl ⟨rfl, rfl⟩
theorem rforgetZ (R : Rf) (n : Nat) (hn : n ≤ 4) (e : Bool) (M : Mx) (i : Int) (hi : Isv n i) (hT : e = false → Tt n M) (w : World) (h : RefAt w R n e M) :
    Calls Try.prog 94 #[.pointer (some ⟨R.b, 0, none⟩), .int .i64 i] w fun r w' => r = .returned (.tuple #[]) ∧ (∃ M1, RefAt w' R n e M1 ∧ (e = false → Bst n (fgt i.toNat M) M1)) ∧ Rgn R.lo R.hi w w' := by
  obtain ⟨j, rfl⟩ : ∃ j : Nat, i = j := ⟨i.toNat, by unfold Isv at hi; omega⟩
  cases e
  · exact (rforget R n hn M j (by unfold Isv at hi; omega) (hT rfl) w h).mono fun r w' q => ⟨q.1, (let ⟨M1, h1, h2⟩ := q.2.1; ⟨M1, h1, fun _ => h2⟩), q.2.2⟩
  · exact (rforgetX R n M j w h).mono fun r w' q => ⟨q.1, ⟨M, q.2 ▸ h, fun k => by cases k⟩, q.2 ▸ Rgn.refl _ _ _⟩
set_option maxRecDepth 100000 in
set_option maxHeartbeats 800000 in
theorem rForget (R : Rf) (n : Nat) (hn : n ≤ 4) (e : Bool) (M : Mx) (i : Int) (hT : e = false → Tt n M) (w : World) (h : RefAt w R n e M) :
    Calls Try.prog 68 #[.pointer (some ⟨R.b, 0, none⟩), .int .i64 i] w fun r w' => (∃ er, r = .returned (.int .i64 er) ∧ RefAct w' R n (FgtBad n i) (FgtGo n i) e M er) ∧ Rgn R.lo R.hi w w' := by
  by_cases ii : Isv n i
  · have k1 := fun V hV => rhasT R n e M i ii V hV
    have k2 := fun V hV => rforgetZ R n hn e M i ii hT V hV
    have hA : ∀ W M1, RefAt W R n e M1 → (e = false → Bst n (fgt i.toNat M) M1) → Hid (RefAct W R n (FgtBad n i) (FgtGo n i) e M 0) := fun W M1 hO r => ⟨e, M1, hO, Or.inr ⟨fun q => q ii, rfl, by
      cases e
      · exact Or.inr ⟨rfl, rfl, r rfl⟩
      · exact Or.inl ⟨rfl, rfl⟩⟩⟩
    clear ii hT
    go_enter Try.func68, Try.ntmps68
    go_wp2_with (first
      | (go_at_call 74; refine (k1 _ h).mono ?_; rintro r w2 ⟨rfl, hw2⟩; subst w2)
      | (go_at_call 94; refine (k2 _ h).mono ?_; rintro r w3 ⟨rfl, ⟨M1, hO, hM⟩, c3⟩)
      | fail)
    go_ret
    exact ⟨⟨0, rfl, (hA _ M1 hO hM).out⟩, c3⟩
  · have k1 := fun V hV => rhasF R n e M i ii V hV
    have hA : Hid (RefAct w R n (FgtBad n i) (FgtGo n i) e M 2) := ⟨e, M, h, Or.inl ⟨ii, rfl, rfl, fun _ _ _ _ _ => rfl⟩⟩
    clear ii hT
    go_enter Try.func68, Try.ntmps68
    go_wp2_with (first
      | (go_at_call 74; refine (k1 _ h).mono ?_; rintro r w2 ⟨rfl, hw2⟩; subst w2)
      | fail)
    go_ret
    exact ⟨⟨2, rfl, hA.out⟩, Rgn.refl _ _ _⟩
end Go.Proofs.Ytpcbammncaeimaa


