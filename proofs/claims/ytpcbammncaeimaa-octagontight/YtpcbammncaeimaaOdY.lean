/- The reference's Copy and Set. -/
import Derived.Test.YtpcbammncaeimaaOdX
namespace Go.Proofs.Ytpcbammncaeimaa
open Go.RowKit
set_option linter.unusedVariables false
set_option linter.unusedSimpArgs false
theorem sdn_not (k : Int) (g : Bool) : sdn k (!g) = ot (sdn k g) := by
  unfold sdn ot
  cases g <;> simp <;> split <;> omega
theorem low_sym {n : Nat} {M : Mx} (h : ∀ a b, a < 2 * n → b < 2 * n → M a b = M b a) (x y : Nat) (c : Int) {a b : Nat} (ha : a < 2 * n) (hb : b < 2 * n) : low M x y c a b = low M x y c b a := by
  unfold low low1 up1
  have h1 := h a b ha hb
  by_cases q1 : a = y ∧ b = x
  · obtain ⟨rfl, rfl⟩ := q1
    rw [if_pos ⟨rfl, rfl⟩]
    by_cases q2 : a = b
    · subst q2; simp
    · rw [if_neg (by omega), if_neg (by omega), if_pos ⟨rfl, rfl⟩]; omega
  · rw [if_neg q1]
    by_cases q2 : a = x ∧ b = y
    · obtain ⟨rfl, rfl⟩ := q2
      rw [if_pos ⟨rfl, rfl⟩, if_pos ⟨rfl, rfl⟩, if_neg (by omega)]; omega
    · rw [if_neg q2, if_neg (by omega), if_neg (by omega)]; exact h1
theorem bnd2_agr {n : Nat} {M : Mx} (h : ∀ a b, a < 2 * n → b < 2 * n → M a b = M b a) {x y u v : Nat} (hx : x < 2 * n) (hy : y < 2 * n) (hu : u < 2 * n) (hv : v < 2 * n) (c d : Int) : Agr n (bnd (bnd M x y c) u v d) (low (low M x y c) u v d) := by
  have e1 : bnd M x y c = low M x y c := by funext a b; exact bnd_low (h x y hx hy) c a b
  rw [e1]
  exact fun a b _ _ => bnd_low (low_sym h x y c hu hv) d a b
set_option maxRecDepth 100000 in
set_option maxHeartbeats 1600000 in
theorem rcopy (R : Rf) (n : Nat) (hn : n ≤ 4) (e : Bool) (M : Mx) (i k : Int) (g : Bool) (c : Int) (hT : e = false → Tt n M) (w : World) (h : RefAt w R n e M) :
    Calls Try.prog 69 #[.pointer (some ⟨R.b, 0, none⟩), .int .i64 i, .int .i64 k, .bool g, .int .i64 c] w fun r w' => (∃ er, r = .returned (.int .i64 er) ∧ RefAct w' R n (CpyBad n i k c) (CpyGo n i k g c) e M er) ∧ Rgn R.lo R.hi w w' := by
  have A1 : CpyBad n i k c → Hid (RefAct w R n (CpyBad n i k c) (CpyGo n i k g c) e M 2) := fun q => ⟨e, M, h, Or.inl ⟨q, rfl, rfl, fun _ _ _ _ _ => rfl⟩⟩
  by_cases ii : Isv n i
  · have k1 := fun V hV => rhasT R n e M i ii V hV
    by_cases kk : Isv n k
    · have k2 := fun V hV => rhasT R n e M k kk V hV
      by_cases ik : i = k
      · have hA := A1 (Or.inr ik)
        subst ik
        clear A1 hT ii kk
        go_enter Try.func69, Try.ntmps69
        go_wp2_with (first
          | (go_at_call 74; with_reducible refine (k1 _ h).mono ?_; rintro r w2 ⟨rfl, hw2⟩; subst w2)
          | fail)
        go_ret
        exact ⟨⟨2, rfl, hA.out⟩, Rgn.refl _ _ _⟩
      · by_cases c1 : c < -8589934592
        · have hA := A1 (Or.inl fun q => by have := q.2.2.1; omega)
          clear A1 hT ii kk
          go_enter Try.func69, Try.ntmps69
          go_wp2_with (first
            | (go_at_call 74; with_reducible refine (k1 _ h).mono ?_; rintro r w2 ⟨rfl, hw2⟩; subst w2; clear k1)
            | (go_at_call 74; with_reducible refine (k2 _ h).mono ?_; rintro r w2 ⟨rfl, hw2⟩; subst w2; clear k2)
            | fail)
          go_ret
          exact ⟨⟨2, rfl, hA.out⟩, Rgn.refl _ _ _⟩
        · by_cases c2 : 8589934592 < c
          · have hA := A1 (Or.inl fun q => by have := q.2.2.2; omega)
            clear A1 hT ii kk
            go_enter Try.func69, Try.ntmps69
            go_wp2_with (first
              | (go_at_call 74; with_reducible refine (k1 _ h).mono ?_; rintro r w2 ⟨rfl, hw2⟩; subst w2; clear k1)
              | (go_at_call 74; with_reducible refine (k2 _ h).mono ?_; rintro r w2 ⟨rfl, hw2⟩; subst w2; clear k2)
              | fail)
            go_ret
            exact ⟨⟨2, rfl, hA.out⟩, Rgn.refl _ _ _⟩
          · have nbad : ¬ CpyBad n i k c := fun q => q.elim (fun q => q ⟨ii, kk, by omega, by omega⟩) ik
            have hx := sdn_lt ii false
            have hx2 := ot_lt hx
            have hy := sdn_lt kk g
            have hy2 := ot_lt hy
            have s1 := rnodeZ n (by omega) k kk (!g)
            have s2 := rnodeZ n (by omega) k kk g
            rw [sdn_not] at s1
            have kr := fun V hV => rforgetZ R n hn e M i ii hT V hV
            have kb1 := fun V M1 hV => rbound R n e M1 (sdn i false) (ot (sdn k g)) hx hy2 c V hV
            have kb2 := fun V M1 hV => rbound R n e M1 (ot (sdn i false)) (sdn k g) hx2 hy (-c) V hV
            have ag : ∀ M1, (e = false → Bst n (fgt i.toNat M) M1) → e = false → Agr n (bnd (bnd M1 (sdn i false) (ot (sdn k g)) c) (ot (sdn i false)) (sdn k g) (-c)) (cpS i k g c M1) := fun M1 q he => bnd2_agr (fgt_tt (hT he) (q he)).sym hx hy2 hx2 hy c (-c)
            have kt := fun V M1 (q : e = false → Bst n (fgt i.toNat M) M1) hV => rtightZ R n hn e (bnd (bnd M1 (sdn i false) (ot (sdn k g)) c) (ot (sdn i false)) (sdn k g) (-c)) (fun he a b ha hb => by
              rw [ag M1 q he a b ha hb]
              have t1 := fgt_tt (hT he) (q he)
              refine ⟨low_ge (fun a d ha hd => low_ge (fun a d ha hd => by have := t1.low ha hd; omega) (by omega) ha hd) (by omega) ha hb, ?_⟩
              have q1 := low_le (low M1 (sdn i false) (ot (sdn k g)) c) (ot (sdn i false)) (sdn k g) (-c) a b
              have q2 := low_le M1 (sdn i false) (ot (sdn k g)) c a b
              have q3 := t1.up a b ha hb
              unfold cpS
              omega) V hV
            have hA : ∀ W M1, (e = false → Bst n (fgt i.toNat M) M1) → RefRsE W R n e (bnd (bnd M1 (sdn i false) (ot (sdn k g)) c) (ot (sdn i false)) (sdn k g) (-c)) → Hid (RefAct W R n (CpyBad n i k c) (CpyGo n i k g c) e M 0) := fun W M1 q ⟨e', T', hO, r⟩ => ⟨e', T', hO, Or.inr ⟨nbad, rfl, by
              rcases r with r | ⟨he, r⟩
              · exact Or.inl r
              · exact Or.inr ⟨he, M1, q he, Res.at (e := e') r fun X _ => (ag M1 q he).le_iff X⟩⟩⟩
            have wx : IntKind.i64.wrap (2 * i) = (sdn i false : Int) := by unfold Isv at ii; unfold sdn; rw [IntKind.wrap_i64]; simp; omega
            have wx2 : IntKind.i64.wrap ((sdn i false : Int) + 1) = (ot (sdn i false) : Int) := by
              unfold Isv at ii
              unfold sdn ot
              rw [IntKind.wrap_i64]
              simp
              omega
            have wn : IntKind.i64.wrap (-c) = -c := by rw [IntKind.wrap_i64]; omega
            clear A1 hT nbad ag hx hy hx2 hy2
            have ik' : (i == k) = false := by rw [beq_eq_false_iff_ne]; exact ik
            have d1 : decide (c < -8589934592) = false := by simp; omega
            have d2 : decide (8589934592 < c) = false := by simp; omega
            clear ii kk ik c1 c2
            generalize fgt i.toNat M = F at *
            generalize ot (sdn i false) = x2 at *
            generalize ot (sdn k g) = y2 at *
            generalize sdn i false = x at *
            generalize sdn k g = y at *
            go_enter Try.func69, Try.ntmps69
            go_wp2_with (first
              | (go_at_call 74; with_reducible refine (k1 _ h).mono ?_; rintro r w2 ⟨rfl, hw2⟩; subst w2; clear k1)
              | (go_at_call 74; with_reducible refine (k2 _ h).mono ?_; rintro r w2 ⟨rfl, hw2⟩; subst w2; clear k2)
              | (go_at_call 94; refine (kr _ h).mono ?_; rintro r w3 ⟨rfl, ⟨M1, hO1, q1⟩, cc⟩)
              | (go_at_call 78; with_reducible refine (s1 _).mono ?_; rintro r v3 ⟨rfl, hw3⟩; subst v3; clear s1)
              | (go_at_call 78; with_reducible refine (s2 _).mono ?_; rintro r v3 ⟨rfl, hw3⟩; subst v3; clear s2)
              | (go_at_call 91; with_reducible refine (kb1 _ _ hO1).mono ?_; rintro r w4 ⟨rfl, hO2, c4⟩; replace cc := cc.trans c4; clear c4 kb1)
              | (go_at_call 91; with_reducible refine (kb2 _ _ hO2).mono ?_; rintro r w5 ⟨rfl, hO3, c5⟩; replace cc := cc.trans c5; clear c5 kb2)
              | (go_at_call 92; refine (kt _ M1 q1 hO3).mono ?_; rintro r w6 ⟨rfl, hR, c6⟩; replace cc := cc.trans c6; clear c6)
              | fail)
            go_ret
            exact ⟨⟨0, rfl, (hA _ M1 q1 hR).out⟩, cc⟩
    · have k2 := fun V hV => rhasF R n e M k kk V hV
      have hA := A1 (Or.inl fun q => kk q.2.1)
      clear A1 hT ii kk
      go_enter Try.func69, Try.ntmps69
      go_wp2_with (first
        | (go_at_call 74; with_reducible refine (k1 _ h).mono ?_; rintro r w2 ⟨rfl, hw2⟩; subst w2; clear k1)
        | (go_at_call 74; with_reducible refine (k2 _ h).mono ?_; rintro r w2 ⟨rfl, hw2⟩; subst w2; clear k2)
        | fail)
      go_ret
      exact ⟨⟨2, rfl, hA.out⟩, Rgn.refl _ _ _⟩
  · have k1 := fun V hV => rhasF R n e M i ii V hV
    have hA := A1 (Or.inl fun q => ii q.1)
    clear A1 hT ii
    go_enter Try.func69, Try.ntmps69
    go_wp2_with (first
      | (go_at_call 74; with_reducible refine (k1 _ h).mono ?_; rintro r w2 ⟨rfl, hw2⟩; subst w2; clear k1)
      | fail)
    go_ret
    exact ⟨⟨2, rfl, hA.out⟩, Rgn.refl _ _ _⟩
theorem Rgn.cell {lo hi c j : Nat} {w w' : World} (h : Rgn lo hi w w') (hc : hi ≤ c ∨ c < lo) {v : Value} (q : w.cell? ⟨c, j, none⟩ = some v) : w'.cell? ⟨c, j, none⟩ = some v :=
  (World.cell?_of_block (h.block c (World.block_lt_of_cell? w _ q) (by omega))).trans q
set_option maxRecDepth 100000 in
set_option maxHeartbeats 1600000 in
theorem rset (R : Rf) (n : Nat) (hn : n ≤ 4) (e : Bool) (M : Mx) (i : Int) (ea : Bool) (lo hh : Int) (hT : e = false → Tt n M) (w : World) (hR : R.hi ≤ w.heap.size) (h : RefAt w R n e M) :
    Calls Try.prog 67 #[.pointer (some ⟨R.b, 0, none⟩), .int .i64 i, .agg #[.bool ea, .int .i64 lo, .int .i64 hh]] w fun r w' => (∃ er, r = .returned (.int .i64 er) ∧ RefAct w' R n (SetBad n i ea lo hh) (SetGo n i ea lo hh) e M er) ∧ Rgn R.lo R.hi w w' := by
  obtain ⟨W, hW⟩ : ∃ W, w.alloc (.cells #[.bool ea, .int .i64 lo, .int .i64 hh] 39) = W := ⟨_, rfl⟩
  have gW : Below w.heap.size w W := by rw [← hW]; exact (Below.refl _ _).alloc (Nat.le_refl _) _
  have a0 : W.cell? ⟨w.heap.size, 0, none⟩ = some (.bool ea) := by rw [← hW]; simp [go_sem]
  have a1 : W.cell? ⟨w.heap.size, 1, none⟩ = some (.int .i64 lo) := by rw [← hW]; simp [go_sem]
  have a2 : W.cell? ⟨w.heap.size, 2, none⟩ = some (.int .i64 hh) := by rw [← hW]; simp [go_sem]
  have hO := h.on gW
  have cc : Rgn R.lo R.hi w W := Rgn.of gW
  have A1 : ∀ V, RefAt V R n e M → SetBad n i ea lo hh → Hid (RefAct V R n (SetBad n i ea lo hh) (SetGo n i ea lo hh) e M 2) := fun V hV q => ⟨e, M, hV, Or.inl ⟨q, rfl, rfl, fun _ _ _ _ _ => rfl⟩⟩
  have kr := fun V => rright_i ea lo hh V
  by_cases ii : Isv n i
  · have k1 := fun V hV => rhasT R n e M i ii V hV
    cases hr : rI ea lo hh
    · replace A1 := fun V hV => A1 V hV (fun q => by rw [hr] at q; exact absurd q.2 (by simp))
      rw [hr] at kr
      clear hT ii h hr
      go_enter Try.func67, Try.ntmps67
      go_upto_region 1 with fail
      (try rw [hW])
      clear hW gW
      go_wp2_with (first
        | (go_at_call 74; refine (k1 _ hO).mono ?_; rintro r w2 ⟨rfl, hw2⟩; subst w2)
        | (go_at_call 93; refine (kr _).mono ?_; rintro r w3 ⟨rfl, g⟩; replace hO := hO.on g; replace cc := cc.trans (Rgn.of g))
        | fail)
      go_ret
      exact ⟨⟨2, rfl, (A1 _ hO).out⟩, cc⟩
    · have nbad : ¬ SetBad n i ea lo hh := fun q => q ⟨ii, hr⟩
      cases ea
      · have hx := sdn_lt ii false
        have hx2 := ot_lt hx
        have nm := rI_num hr
        have wx : IntKind.i64.wrap (2 * i) = (sdn i false : Int) := by unfold Isv at ii; unfold sdn; rw [IntKind.wrap_i64]; simp; omega
        have wx2 : IntKind.i64.wrap ((sdn i false : Int) + 1) = (ot (sdn i false) : Int) := by
          unfold Isv at ii
          unfold sdn ot
          rw [IntKind.wrap_i64]
          simp
          omega
        have w1 : IntKind.i64.wrap (2 * hh) = 2 * hh := by rw [IntKind.wrap_i64]; omega
        have w2 : IntKind.i64.wrap (-2 * lo) = -2 * lo := by rw [IntKind.wrap_i64]; omega
        have es : stS i.toNat lo hh M = low (low M (sdn i false) (sdn i false) (2 * hh)) (ot (sdn i false)) (ot (sdn i false)) (-2 * lo) := by
          unfold stS
          have e1 : sdn i false = 2 * i.toNat := by unfold sdn; simp
          have e2 : ot (sdn i false) = 2 * i.toNat + 1 := by rw [e1]; unfold ot; rw [if_pos (by omega)]
          rw [e2, e1]
        have kb1 := fun V M1 hV => rbound R n e M1 (sdn i false) (sdn i false) hx hx (2 * hh) V hV
        have kb2 := fun V M1 hV => rbound R n e M1 (ot (sdn i false)) (ot (sdn i false)) hx2 hx2 (-2 * lo) V hV
        have ag : e = false → Agr n (bnd (bnd M (sdn i false) (sdn i false) (2 * hh)) (ot (sdn i false)) (ot (sdn i false)) (-2 * lo)) (stS i.toNat lo hh M) := fun he => by rw [es]; exact bnd2_agr (hT he).sym hx hx hx2 hx2 _ _
        have kt := fun V hV => rtightZ R n hn e (bnd (bnd M (sdn i false) (sdn i false) (2 * hh)) (ot (sdn i false)) (ot (sdn i false)) (-2 * lo)) (fun he a b ha hb => by
          rw [ag he a b ha hb, es]
          refine ⟨low_ge (fun a d ha hd => low_ge (fun a d ha hd => by have := (hT he).low ha hd; omega) (by omega) ha hd) (by omega) ha hb, ?_⟩
          have q1 := low_le (low M (sdn i false) (sdn i false) (2 * hh)) (ot (sdn i false)) (ot (sdn i false)) (-2 * lo) a b
          have q2 := low_le M (sdn i false) (sdn i false) (2 * hh) a b
          have q3 := (hT he).up a b ha hb
          omega) V hV
        have hA : ∀ W, RefRsE W R n e (bnd (bnd M (sdn i false) (sdn i false) (2 * hh)) (ot (sdn i false)) (ot (sdn i false)) (-2 * lo)) → Hid (RefAct W R n (SetBad n i false lo hh) (SetGo n i false lo hh) e M 0) := fun W ⟨e', T', hO, r⟩ => ⟨e', T', hO, Or.inr ⟨nbad, rfl, by
          rcases r with r | ⟨he, r⟩
          · exact Or.inl r
          · exact Or.inr ⟨he, Or.inr ⟨rfl, Res.at (e := e') r fun X _ => (ag he).le_iff X⟩⟩⟩⟩
        have nb1 : Hid (R.hi ≤ w.heap.size) := hR
        clear hR
        rw [hr] at kr
        clear A1 hT nbad ag hx hx2 ii hr nm es h
        generalize ot (sdn i false) = x2 at *
        generalize sdn i false = x at *
        go_enter Try.func67, Try.ntmps67
        go_upto_region 1 with fail
        (try rw [hW])
        clear hW gW
        go_wp2_with (first
          | (go_at_call 74; refine (k1 _ hO).mono ?_; rintro r w2 ⟨rfl, hw2⟩; subst w2; clear k1)
          | (go_at_call 93; refine (kr _).mono ?_; rintro r w3 ⟨rfl, g⟩; replace hO := hO.on g; replace cc := cc.trans (Rgn.of g); replace a0 := sp_cell_on g a0; replace a1 := sp_cell_on g a1; replace a2 := sp_cell_on g a2; clear g kr)
          | (go_at_call 91; with_reducible refine (kb1 _ _ hO).mono ?_; rintro r w4 ⟨rfl, hO2, c4⟩; replace cc := cc.trans c4; replace a1 := c4.cell (Or.inl nb1.out) a1; clear c4 kb1)
          | (go_at_call 91; with_reducible refine (kb2 _ _ hO2).mono ?_; rintro r w5 ⟨rfl, hO3, c5⟩; replace cc := cc.trans c5; clear c5 kb2)
          | (go_at_call 92; refine (kt _ hO3).mono ?_; rintro r w6 ⟨rfl, hR6, c6⟩; replace cc := cc.trans c6; clear c6)
          | fail)
        go_ret
        exact ⟨⟨0, rfl, (hA _ hR6).out⟩, cc⟩
      · have hA : ∀ V M1, RefAt V R n true M1 → Hid (RefAct V R n (SetBad n i true lo hh) (SetGo n i true lo hh) e M 0) := fun V M1 hV => ⟨true, M1, hV, Or.inr ⟨nbad, rfl, by
          cases e
          · exact Or.inr ⟨rfl, Or.inl ⟨rfl, rfl⟩⟩
          · exact Or.inl ⟨rfl, rfl⟩⟩⟩
        rw [hr] at kr
        clear A1 hT nbad ii hr h
        go_enter Try.func67, Try.ntmps67
        go_upto_region 6 with (first
          | (go_at_call 74; (try rw [hW]); refine (k1 _ hO).mono ?_; rintro r w2 ⟨rfl, hw2⟩; subst w2; clear hW gW)
          | (go_at_call 93; refine (kr _).mono ?_; rintro r w3 ⟨rfl, g⟩; replace hO := hO.on g; replace cc := cc.trans (Rgn.of g); replace a0 := sp_cell_on g a0; replace a1 := sp_cell_on g a1; replace a2 := sp_cell_on g a2)
          | fail)
        have f2 := hO.fe 2
        have e2 := hO.he
        have hO2 := hO.setE true
        have cc2 := cc.set (b := R.b) (j := 2) hO.ib.1 hO.ib.2 (.bool true)
        go_wp2_with fail
        go_ret
        exact ⟨⟨0, rfl, (hA _ _ hO2).out⟩, cc2⟩
  · have k1 := fun V hV => rhasF R n e M i ii V hV
    replace A1 := fun V hV => A1 V hV (fun q => ii q.1)
    clear hT ii h kr
    go_enter Try.func67, Try.ntmps67
    go_upto_region 1 with fail
    (try rw [hW])
    clear hW gW
    go_wp2_with (first
      | (go_at_call 74; refine (k1 _ hO).mono ?_; rintro r w2 ⟨rfl, hw2⟩; subst w2)
      | fail)
    go_ret
    exact ⟨⟨2, rfl, (A1 _ hO).out⟩, cc⟩
end Go.Proofs.Ytpcbammncaeimaa

