/- Texts of the proof, put together. -/
import Derived.Test.YtpcbammncaeimaaZG10
import Derived.Test.YtpcbammncaeimaaZG2
namespace Go.Proofs.Ytpcbammncaeimaa
open Go.RowKit
set_option linter.unusedVariables false
set_option linter.unusedSimpArgs false
theorem sdn_not (k : Int) (g : Bool) : sdn k (!g) = ot (sdn k g) := by
  unfold sdn ot
  cases g <;> simp <;> split <;> omega
theorem low_sym {n : Nat} {M : Mx} (h : ∀ a b, a < 2 * n → b < 2 * n → M a b = M b a) (x y : Nat) (c : Int) {a b : Nat} (ha : a < 2 * n) (hb : b < 2 * n) : low M x y c a b = low M x y c b a := by
  unfold low low1 up1
  have h1 := h a b ha hb
  by_cases q1 : a = y ∧ b = x
  · obtain ⟨rfl, rfl⟩ := q1
    rw [if_pos ⟨rfl, rfl⟩]
    by_cases q2 : a = b
    · subst q2; simp
    · rw [if_neg (by omega), if_neg (by omega), if_pos ⟨rfl, rfl⟩]; omega
  · rw [if_neg q1]
    by_cases q2 : a = x ∧ b = y
    · obtain ⟨rfl, rfl⟩ := q2
      rw [if_pos ⟨rfl, rfl⟩, if_pos ⟨rfl, rfl⟩, if_neg (by omega)]; omega
    · rw [if_neg q2, if_neg (by omega), if_neg (by omega)]; exact h1
theorem bnd2_agr {n : Nat} {M : Mx} (h : ∀ a b, a < 2 * n → b < 2 * n → M a b = M b a) {x y u v : Nat} (hx : x < 2 * n) (hy : y < 2 * n) (hu : u < 2 * n) (hv : v < 2 * n) (c d : Int) : Agr n (bnd (bnd M x y c) u v d) (low (low M x y c) u v d) := by
  have e1 : bnd M x y c = low M x y c := by funext a b; exact bnd_low (h x y hx hy) c a b
  rw [e1]
  exact fun a b _ _ => bnd_low (low_sym h x y c hu hv) d a b
set_option maxRecDepth 100000 in
set_option maxHeartbeats 1600000 in
theorem rcopy (R : Rf) (n : Nat) (hn : n ≤ 4) (e : Bool) (M : Mx) (i k : Int) (g : Bool) (c : Int) (hT : e = false → Tt n M) (w : World) (h : RefAt w R n e M) :
    Calls Try.prog 69 #[.pointer (some ⟨R.b, 0, none⟩), .int .i64 i, .int .i64 k, .bool g, .int .i64 c] w fun r w' => (∃ er, r = .returned (.int .i64 er) ∧ RefAct w' R n (CpyBad n i k c) (CpyGo n i k g c) e M er) ∧ Rgn R.lo R.hi w w' := by
  have A1 : CpyBad n i k c → Hid (RefAct w R n (CpyBad n i k c) (CpyGo n i k g c) e M 2) := fun q => ⟨e, M, h, Or.inl ⟨q, rfl, rfl, fun _ _ _ _ _ => rfl⟩⟩
  by_cases ii : Isv n i
  · have k1 := fun V hV => rhasT R n e M i ii V hV
    by_cases kk : Isv n k
    · have k2 := fun V hV => rhasT R n e M k kk V hV
      by_cases ik : i = k
      · have hA := A1 (Or.inr ik)
        subst ik
        clear A1 hT ii kk
        go_enter Try.func69, Try.ntmps69
        go_wp2_with (first
          | (go_at_call 74; with_reducible refine (k1 _ h).mono ?_; rintro r w2 ⟨rfl, hw2⟩; subst w2)
          | fail)
        go_ret
        exact ⟨⟨2, rfl, hA.out⟩, Rgn.refl _ _ _⟩
      · by_cases c1 : c < -8589934592
        · have hA := A1 (Or.inl fun q => by have := q.2.2.1; omega)
          clear A1 hT ii kk
          go_enter Try.func69, Try.ntmps69
          go_wp2_with (first
            | (go_at_call 74; with_reducible refine (k1 _ h).mono ?_; rintro r w2 ⟨rfl, hw2⟩; subst w2; clear k1)
            | (go_at_call 74; with_reducible refine (k2 _ h).mono ?_; rintro r w2 ⟨rfl, hw2⟩; subst w2; clear k2)
            | fail)
          go_ret
          exact ⟨⟨2, rfl, hA.out⟩, Rgn.refl _ _ _⟩
        · by_cases c2 : 8589934592 < c
          · have hA := A1 (Or.inl fun q => by have := q.2.2.2; omega)
            clear A1 hT ii kk
            go_enter Try.func69, Try.ntmps69
            go_wp2_with (first
              | (go_at_call 74; with_reducible refine (k1 _ h).mono ?_; rintro r w2 ⟨rfl, hw2⟩; subst w2; clear k1)
              | (go_at_call 74; with_reducible refine (k2 _ h).mono ?_; rintro r w2 ⟨rfl, hw2⟩; subst w2; clear k2)
              | fail)
            go_ret
            exact ⟨⟨2, rfl, hA.out⟩, Rgn.refl _ _ _⟩
          · have nbad : ¬ CpyBad n i k c := fun q => q.elim (fun q => q ⟨ii, kk, by omega, by omega⟩) ik
            have hx := sdn_lt ii false
            have hx2 := ot_lt hx
            have hy := sdn_lt kk g
            have hy2 := ot_lt hy
            have s1 := rnodeZ n (by omega) k kk (!g)
            have s2 := rnodeZ n (by omega) k kk g
            rw [sdn_not] at s1
            have kr := fun V hV => rforgetZ R n hn e M i ii hT V hV
            have kb1 := fun V M1 hV => rbound R n e M1 (sdn i false) (ot (sdn k g)) hx hy2 c V hV
            have kb2 := fun V M1 hV => rbound R n e M1 (ot (sdn i false)) (sdn k g) hx2 hy (-c) V hV
            have ag : ∀ M1, (e = false → Bst n (fgt i.toNat M) M1) → e = false → Agr n (bnd (bnd M1 (sdn i false) (ot (sdn k g)) c) (ot (sdn i false)) (sdn k g) (-c)) (cpS i k g c M1) := fun M1 q he => bnd2_agr (fgt_tt (hT he) (q he)).sym hx hy2 hx2 hy c (-c)
            have kt := fun V M1 (q : e = false → Bst n (fgt i.toNat M) M1) hV => rtightZ R n hn e (bnd (bnd M1 (sdn i false) (ot (sdn k g)) c) (ot (sdn i false)) (sdn k g) (-c)) (fun he a b ha hb => by
              rw [ag M1 q he a b ha hb]
              have t1 := fgt_tt (hT he) (q he)
              refine ⟨low_ge (fun a d ha hd => low_ge (fun a d ha hd => by have := t1.low ha hd; omega) (by omega) ha hd) (by omega) ha hb, ?_⟩
              have q1 := low_le (low M1 (sdn i false) (ot (sdn k g)) c) (ot (sdn i false)) (sdn k g) (-c) a b
              have q2 := low_le M1 (sdn i false) (ot (sdn k g)) c a b
              have q3 := t1.up a b ha hb
              unfold cpS
              omega) V hV
            have hA : ∀ W M1, (e = false → Bst n (fgt i.toNat M) M1) → RefRsE W R n e (bnd (bnd M1 (sdn i false) (ot (sdn k g)) c) (ot (sdn i false)) (sdn k g) (-c)) → Hid (RefAct W R n (CpyBad n i k c) (CpyGo n i k g c) e M 0) := fun W M1 q ⟨e', T', hO, r⟩ => ⟨e', T', hO, Or.inr ⟨nbad, rfl, by
              rcases r with r | ⟨he, r⟩
              · exact Or.inl r
              · exact Or.inr ⟨he, M1, q he, Res.at (e := e') r fun X _ => (ag M1 q he).le_iff X⟩⟩⟩
            have wx : IntKind.i64.wrap (2 * i) = (sdn i false : Int) := by unfold Isv at ii; unfold sdn; rw [IntKind.wrap_i64]; simp; omega
            have wx2 : IntKind.i64.wrap ((sdn i false : Int) + 1) = (ot (sdn i false) : Int) := by
              unfold Isv at ii
              unfold sdn ot
              rw [IntKind.wrap_i64]
              simp
              omega
            have wn : IntKind.i64.wrap (-c) = -c := by rw [IntKind.wrap_i64]; omega
            clear A1 hT nbad ag hx hy hx2 hy2
            have ik' : (i == k) = false := by rw [beq_eq_false_iff_ne]; exact ik
            have d1 : decide (c < -8589934592) = false := by simp; omega
            have d2 : decide (8589934592 < c) = false := by simp; omega
            clear ii kk ik c1 c2
            generalize fgt i.toNat M = F at *
            generalize ot (sdn i false) = x2 at *
            generalize ot (sdn k g) = y2 at *
            generalize sdn i false = x at *
            generalize sdn k g = y at *
            go_enter Try.func69, Try.ntmps69
            go_wp2_with (first
              | (go_at_call 74; with_reducible refine (k1 _ h).mono ?_; rintro r w2 ⟨rfl, hw2⟩; subst w2; clear k1)
              | (go_at_call 74; with_reducible refine (k2 _ h).mono ?_; rintro r w2 ⟨rfl, hw2⟩; subst w2; clear k2)
              | (go_at_call 94; refine (kr _ h).mono ?_; rintro r w3 ⟨rfl, ⟨M1, hO1, q1⟩, cc⟩)
              | (go_at_call 78; with_reducible refine (s1 _).mono ?_; rintro r v3 ⟨rfl, hw3⟩; subst v3; clear s1)
              | (go_at_call 78; with_reducible refine (s2 _).mono ?_; rintro r v3 ⟨rfl, hw3⟩; subst v3; clear s2)
              | (go_at_call 91; with_reducible refine (kb1 _ _ hO1).mono ?_; rintro r w4 ⟨rfl, hO2, c4⟩; replace cc := cc.trans c4; clear c4 kb1)
              | (go_at_call 91; with_reducible refine (kb2 _ _ hO2).mono ?_; rintro r w5 ⟨rfl, hO3, c5⟩; replace cc := cc.trans c5; clear c5 kb2)
              | (go_at_call 92; refine (kt _ M1 q1 hO3).mono ?_; rintro r w6 ⟨rfl, hR, c6⟩; replace cc := cc.trans c6; clear c6)
              | fail)
            go_ret
            exact ⟨⟨0, rfl, (hA _ M1 q1 hR).out⟩, cc⟩
    · have k2 := fun V hV => rhasF R n e M k kk V hV
      have hA := A1 (Or.inl fun q => kk q.2.1)
      clear A1 hT ii kk
      go_enter Try.func69, Try.ntmps69
      go_wp2_with (first
        | (go_at_call 74; with_reducible refine (k1 _ h).mono ?_; rintro r w2 ⟨rfl, hw2⟩; subst w2; clear k1)
        | (go_at_call 74; with_reducible refine (k2 _ h).mono ?_; rintro r w2 ⟨rfl, hw2⟩; subst w2; clear k2)
        | fail)
      go_ret
      exact ⟨⟨2, rfl, hA.out⟩, Rgn.refl _ _ _⟩
  · have k1 := fun V hV => rhasF R n e M i ii V hV
    have hA := A1 (Or.inl fun q => ii q.1)
    clear A1 hT ii
    go_enter Try.func69, Try.ntmps69
    go_wp2_with (first
      | (go_at_call 74; with_reducible refine (k1 _ h).mono ?_; rintro r w2 ⟨rfl, hw2⟩; subst w2; clear k1)
      | fail)
    go_ret
    exact ⟨⟨2, rfl, hA.out⟩, Rgn.refl _ _ _⟩
theorem Rgn.cell {lo hi c j : Nat} {w w' : World} (h : Rgn lo hi w w') (hc : hi ≤ c ∨ c < lo) {v : Value} (q : w.cell? ⟨c, j, none⟩ = some v) : w'.cell? ⟨c, j, none⟩ = some v :=
  (World.cell?_of_block (h.block c (World.block_lt_of_cell? w _ q) (by omega))).trans q
set_option maxRecDepth 100000 in
set_option maxHeartbeats 1600000 in
theorem rset (R : Rf) (n : Nat) (hn : n ≤ 4) (e : Bool) (M : Mx) (i : Int) (ea : Bool) (lo hh : Int) (hT : e = false → Tt n M) (w : World) (hR : R.hi ≤ w.heap.size) (h : RefAt w R n e M) :
    Calls Try.prog 67 #[.pointer (some ⟨R.b, 0, none⟩), .int .i64 i, .agg #[.bool ea, .int .i64 lo, .int .i64 hh]] w fun r w' => (∃ er, r = .returned (.int .i64 er) ∧ RefAct w' R n (SetBad n i ea lo hh) (SetGo n i ea lo hh) e M er) ∧ Rgn R.lo R.hi w w' := by
  obtain ⟨W, hW⟩ : ∃ W, w.alloc (.cells #[.bool ea, .int .i64 lo, .int .i64 hh] 39) = W := ⟨_, rfl⟩
  have gW : Below w.heap.size w W := by rw [← hW]; exact (Below.refl _ _).alloc (Nat.le_refl _) _
  have a0 : W.cell? ⟨w.heap.size, 0, none⟩ = some (.bool ea) := by rw [← hW]; simp [go_sem]
  have a1 : W.cell? ⟨w.heap.size, 1, none⟩ = some (.int .i64 lo) := by rw [← hW]; simp [go_sem]
  have a2 : W.cell? ⟨w.heap.size, 2, none⟩ = some (.int .i64 hh) := by rw [← hW]; simp [go_sem]
  have hO := h.on gW
  have cc : Rgn R.lo R.hi w W := Rgn.of gW
  have A1 : ∀ V, RefAt V R n e M → SetBad n i ea lo hh → Hid (RefAct V R n (SetBad n i ea lo hh) (SetGo n i ea lo hh) e M 2) := fun V hV q => ⟨e, M, hV, Or.inl ⟨q, rfl, rfl, fun _ _ _ _ _ => rfl⟩⟩
  have kr := fun V => rright_i ea lo hh V
  by_cases ii : Isv n i
  · have k1 := fun V hV => rhasT R n e M i ii V hV
    cases hr : rI ea lo hh
    · replace A1 := fun V hV => A1 V hV (fun q => by rw [hr] at q; exact absurd q.2 (by simp))
      rw [hr] at kr
      clear hT ii h hr
      go_enter Try.func67, Try.ntmps67
      go_upto_region 1 with fail
      (try rw [hW])
      clear hW gW
      go_wp2_with (first
        | (go_at_call 74; refine (k1 _ hO).mono ?_; rintro r w2 ⟨rfl, hw2⟩; subst w2)
        | (go_at_call 93; refine (kr _).mono ?_; rintro r w3 ⟨rfl, g⟩; replace hO := hO.on g; replace cc := cc.trans (Rgn.of g))
        | fail)
      go_ret
      exact ⟨⟨2, rfl, (A1 _ hO).out⟩, cc⟩
    · have nbad : ¬ SetBad n i ea lo hh := fun q => q ⟨ii, hr⟩
      cases ea
      · have hx := sdn_lt ii false
        have hx2 := ot_lt hx
        have nm := rI_num hr
        have wx : IntKind.i64.wrap (2 * i) = (sdn i false : Int) := by unfold Isv at ii; unfold sdn; rw [IntKind.wrap_i64]; simp; omega
        have wx2 : IntKind.i64.wrap ((sdn i false : Int) + 1) = (ot (sdn i false) : Int) := by
          unfold Isv at ii
          unfold sdn ot
          rw [IntKind.wrap_i64]
          simp
          omega
        have w1 : IntKind.i64.wrap (2 * hh) = 2 * hh := by rw [IntKind.wrap_i64]; omega
        have w2 : IntKind.i64.wrap (-2 * lo) = -2 * lo := by rw [IntKind.wrap_i64]; omega
        have es : stS i.toNat lo hh M = low (low M (sdn i false) (sdn i false) (2 * hh)) (ot (sdn i false)) (ot (sdn i false)) (-2 * lo) := by
          unfold stS
          have e1 : sdn i false = 2 * i.toNat := by unfold sdn; simp
          have e2 : ot (sdn i false) = 2 * i.toNat + 1 := by rw [e1]; unfold ot; rw [if_pos (by omega)]
          rw [e2, e1]
        have kb1 := fun V M1 hV => rbound R n e M1 (sdn i false) (sdn i false) hx hx (2 * hh) V hV
        have kb2 := fun V M1 hV => rbound R n e M1 (ot (sdn i false)) (ot (sdn i false)) hx2 hx2 (-2 * lo) V hV
        have ag : e = false → Agr n (bnd (bnd M (sdn i false) (sdn i false) (2 * hh)) (ot (sdn i false)) (ot (sdn i false)) (-2 * lo)) (stS i.toNat lo hh M) := fun he => by rw [es]; exact bnd2_agr (hT he).sym hx hx hx2 hx2 _ _
        have kt := fun V hV => rtightZ R n hn e (bnd (bnd M (sdn i false) (sdn i false) (2 * hh)) (ot (sdn i false)) (ot (sdn i false)) (-2 * lo)) (fun he a b ha hb => by
          rw [ag he a b ha hb, es]
          refine ⟨low_ge (fun a d ha hd => low_ge (fun a d ha hd => by have := (hT he).low ha hd; omega) (by omega) ha hd) (by omega) ha hb, ?_⟩
          have q1 := low_le (low M (sdn i false) (sdn i false) (2 * hh)) (ot (sdn i false)) (ot (sdn i false)) (-2 * lo) a b
          have q2 := low_le M (sdn i false) (sdn i false) (2 * hh) a b
          have q3 := (hT he).up a b ha hb
          omega) V hV
        have hA : ∀ W, RefRsE W R n e (bnd (bnd M (sdn i false) (sdn i false) (2 * hh)) (ot (sdn i false)) (ot (sdn i false)) (-2 * lo)) → Hid (RefAct W R n (SetBad n i false lo hh) (SetGo n i false lo hh) e M 0) := fun W ⟨e', T', hO, r⟩ => ⟨e', T', hO, Or.inr ⟨nbad, rfl, by
          rcases r with r | ⟨he, r⟩
          · exact Or.inl r
          · exact Or.inr ⟨he, Or.inr ⟨rfl, Res.at (e := e') r fun X _ => (ag he).le_iff X⟩⟩⟩⟩
        have nb1 : Hid (R.hi ≤ w.heap.size) := hR
        clear hR
        rw [hr] at kr
        clear A1 hT nbad ag hx hx2 ii hr nm es h
        generalize ot (sdn i false) = x2 at *
        generalize sdn i false = x at *
        go_enter Try.func67, Try.ntmps67
        go_upto_region 1 with fail
        (try rw [hW])
        clear hW gW
        go_wp2_with (first
          | (go_at_call 74; refine (k1 _ hO).mono ?_; rintro r w2 ⟨rfl, hw2⟩; subst w2; clear k1)
          | (go_at_call 93; refine (kr _).mono ?_; rintro r w3 ⟨rfl, g⟩; replace hO := hO.on g; replace cc := cc.trans (Rgn.of g); replace a0 := sO g a0; replace a1 := sO g a1; replace a2 := sO g a2; clear g kr)
          | (go_at_call 91; with_reducible refine (kb1 _ _ hO).mono ?_; rintro r w4 ⟨rfl, hO2, c4⟩; replace cc := cc.trans c4; replace a1 := c4.cell (Or.inl nb1.out) a1; clear c4 kb1)
          | (go_at_call 91; with_reducible refine (kb2 _ _ hO2).mono ?_; rintro r w5 ⟨rfl, hO3, c5⟩; replace cc := cc.trans c5; clear c5 kb2)
          | (go_at_call 92; refine (kt _ hO3).mono ?_; rintro r w6 ⟨rfl, hR6, c6⟩; replace cc := cc.trans c6; clear c6)
          | fail)
        go_ret
        exact ⟨⟨0, rfl, (hA _ hR6).out⟩, cc⟩
      · have hA : ∀ V M1, RefAt V R n true M1 → Hid (RefAct V R n (SetBad n i true lo hh) (SetGo n i true lo hh) e M 0) := fun V M1 hV => ⟨true, M1, hV, Or.inr ⟨nbad, rfl, by
          cases e
          · exact Or.inr ⟨rfl, Or.inl ⟨rfl, rfl⟩⟩
          · exact Or.inl ⟨rfl, rfl⟩⟩⟩
        rw [hr] at kr
        clear A1 hT nbad ii hr h
        go_enter Try.func67, Try.ntmps67
        go_upto_region 6 with (first
          | (go_at_call 74; (try rw [hW]); refine (k1 _ hO).mono ?_; rintro r w2 ⟨rfl, hw2⟩; subst w2; clear hW gW)
          | (go_at_call 93; refine (kr _).mono ?_; rintro r w3 ⟨rfl, g⟩; replace hO := hO.on g; replace cc := cc.trans (Rgn.of g); replace a0 := sO g a0; replace a1 := sO g a1; replace a2 := sO g a2)
          | fail)
        have f2 := hO.fe 2
        have e2 := hO.he
        have hO2 := hO.setE true
        have cc2 := cc.set (b := R.b) (j := 2) hO.ib.1 hO.ib.2 (.bool true)
        go_wp2_with fail
        go_ret
        exact ⟨⟨0, rfl, (hA _ _ hO2).out⟩, cc2⟩
  · have k1 := fun V hV => rhasF R n e M i ii V hV
    replace A1 := fun V hV => A1 V hV (fun q => ii q.1)
    clear hT ii h kr
    go_enter Try.func67, Try.ntmps67
    go_upto_region 1 with fail
    (try rw [hW])
    clear hW gW
    go_wp2_with (first
      | (go_at_call 74; refine (k1 _ hO).mono ?_; rintro r w2 ⟨rfl, hw2⟩; subst w2)
      | fail)
    go_ret
    exact ⟨⟨2, rfl, (A1 _ hO).out⟩, cc⟩
end Go.Proofs.Ytpcbammncaeimaa


namespace Go.Proofs.Ytpcbammncaeimaa
open Go.RowKit
set_option linter.unusedVariables false
set_option linter.unusedSimpArgs false
set_option maxRecDepth 100000 in
theorem rwas (i : Nat) (g : Bool) (c : Int) (p : Nat) (hp : p < 16) (w : World) : Calls Try.prog 95 #[.agg #[.int .i64 i, .bool g, .int .i64 c], .int .i64 p] w fun r w' => r = .returned (.int .i64 (fr g i p)) ∧ Below w.heap.size w w' := by
  have q1 : wrap64 ((p : Int).tdiv 2) = ((p / 2 : Nat) : Int) := by
    rw [Int.tdiv_eq_ediv_of_nonneg (by omega)]
    unfold wrap64
    omega
  have hx := oxor p hp
  unfold fr
  cases g
  · simp only [Bool.false_eq_true, false_and, if_false]
    go_enter Try.func95, Try.ntmps95
    go_wp2_with fail
    go_ret
    exact ⟨rfl, sp_new (Below.refl _ _) _⟩
  · by_cases hi : p / 2 = i
    · have hi' : ((p : Int) / 2 == (i : Int)) = true := by rw [beq_iff_eq]; omega
      rw [if_pos ⟨rfl, hi⟩]
      generalize ot p = q at *
      clear hi q1
      go_enter Try.func95, Try.ntmps95
      go_wp2_with fail
      go_ret
      exact ⟨rfl, sp_new (Below.refl _ _) _⟩
    · have hi' : ((p : Int) / 2 == (i : Int)) = false := by rw [beq_eq_false_iff_ne]; omega
      rw [if_neg (fun q => hi q.2)]
      clear hi q1
      go_enter Try.func95, Try.ntmps95
      go_wp2_with fail
      go_ret
      exact ⟨rfl, sp_new (Below.refl _ _) _⟩
set_option maxRecDepth 100000 in
theorem rmore (i : Nat) (hi : i < 8) (g : Bool) (c : Int) (hc : -8589934592 ≤ c ∧ c ≤ 8589934592) (p : Nat) (w : World) : Calls Try.prog 96 #[.agg #[.int .i64 i, .bool g, .int .i64 c], .int .i64 p] w fun r w' => r = .returned (.int .i64 (gn i c p)) ∧ Below w.heap.size w w' := by
  obtain ⟨x, hx⟩ : ∃ x, 2 * i = x := ⟨_, rfl⟩
  obtain ⟨y, hy⟩ : ∃ y, x + 1 = y := ⟨_, rfl⟩
  have wx : IntKind.i64.wrap (2 * (i : Int)) = (x : Int) := by rw [IntKind.wrap_i64]; omega
  have wy : IntKind.i64.wrap ((x : Int) + 1) = (y : Int) := by rw [IntKind.wrap_i64]; omega
  have wn : IntKind.i64.wrap (-c) = -c := by rw [IntKind.wrap_i64]; omega
  unfold gn
  rw [hx, hy]
  by_cases q1 : p = x
  · rw [if_pos q1]
    subst q1
    clear hx hy hc hi
    go_enter Try.func96, Try.ntmps96
    go_wp2_with fail
    go_ret
    exact ⟨rfl, sp_new (Below.refl _ _) _⟩
  · have q1' : ¬ (p : Int) = (x : Int) := by omega
    rw [if_neg q1]
    by_cases q2 : p = y
    · rw [if_pos q2]
      subst q2
      clear hx hy hc hi q1
      go_enter Try.func96, Try.ntmps96
      go_wp2_with fail
      go_ret
      exact ⟨rfl, sp_new (Below.refl _ _) _⟩
    · have q2' : ¬ (p : Int) = (y : Int) := by omega
      rw [if_neg q2]
      clear hx hy hc hi q1 q2
      go_enter Try.func96, Try.ntmps96
      go_wp2_with fail
      go_ret
      exact ⟨rfl, sp_new (Below.refl _ _) _⟩
def pq (m p q : Nat) (G M : Mx) : Mx := fun a b => if (a < p ∧ b < m) ∨ (a = p ∧ b < q) then G a b else M a b
theorem pq_step {m p q : Nat} (G M : Mx) (hq : q < m) : Agm m (ux (pq m p q G M) p q (G p q)) (pq m p (q + 1) G M) := fun a b ha hb => by
  unfold ux pq
  by_cases k : a = p ∧ b = q
  · rw [if_pos k, if_pos (by omega), k.1, k.2]
  · rw [if_neg k]
    by_cases r : (a < p ∧ b < m) ∨ (a = p ∧ b < q)
    · rw [if_pos r, if_pos (by omega)]
    · rw [if_neg r, if_neg (by omega)]
theorem pq_row {m p : Nat} (G M : Mx) : Agm m (pq m p m G M) (pq m (p + 1) 0 G M) := fun a b ha hb => by
  unfold pq
  by_cases r : (a < p ∧ b < m) ∨ (a = p ∧ b < m)
  · rw [if_pos r, if_pos (by omega)]
  · rw [if_neg r, if_neg (by omega)]
theorem pq_0 (m : Nat) (G M : Mx) : Agm m M (pq m 0 0 G M) := fun a b _ _ => by unfold pq; rw [if_neg (by omega)]
theorem pq_all (m : Nat) (G M : Mx) : Agm m (pq m m 0 G M) G := fun a b ha hb => by unfold pq; rw [if_pos (by omega)]
theorem Agm.trans {m : Nat} {A B C : Mx} (h : Agm m A B) (k : Agm m B C) : Agm m A C := fun a b ha hb => (h a b ha hb).trans (k a b ha hb)
def shv (g : Bool) (i : Nat) (c : Int) (M : Mx) (p q : Nat) : Int := IntKind.i64.wrap (IntKind.i64.wrap (M (fr g i p) (fr g i q) + gn i c p) + gn i c q)
def shG (g : Bool) (i : Nat) (c : Int) (M : Mx) : Mx := fun p q => if 17179869184 < shv g i c M p q then 17179869184 else shv g i c M p q
theorem shG_clp {n i : Nat} {T : Mx} (t : Tt n T) (g : Bool) {c : Int} (h1 : -8589934592 ≤ c) (h2 : c ≤ 8589934592) : Agr n (shG g i c T) (clp (mv g i c T)) := fun a b ha hb => by
  have q := mv_bd (i := i) t g h1 h2 ha hb
  have q1 := gn_bd2 (i := i) (c := c) (B := 8589934592) h1 h2 a
  have q3 := t.up _ _ (fr_lt2 (g := g) (i := i) ha) (fr_lt2 (g := g) (i := i) hb)
  have q4 := t.low (fr_lt2 (g := g) (i := i) ha) (fr_lt2 (g := g) (i := i) hb)
  have e : shv g i c T a b = mv g i c T a b := by
    unfold shv
    unfold mv at q ⊢
    have e1 : IntKind.i64.wrap (T (fr g i a) (fr g i b) + gn i c a) = T (fr g i a) (fr g i b) + gn i c a := by rw [IntKind.wrap_i64]; omega
    rw [e1, IntKind.wrap_i64]
    omega
  unfold shG clp
  rw [e]
  split <;> omega
set_option maxRecDepth 100000 in
set_option maxHeartbeats 3200000 in
theorem rshiftG (R : Rf) (n : Nat) (hn1 : 1 ≤ n) (hn : n ≤ 4) (e : Bool) (M : Mx) (i : Nat) (hi : i < n) (g : Bool) (c : Int) (hc : -8589934592 ≤ c ∧ c ≤ 8589934592) (kt : ∀ V X, Agr n X (shG g i c M) → RefAt V R n e X → Calls Try.prog 92 #[.pointer (some ⟨R.b, 0, none⟩)] V fun r w' => r = .returned (.tuple #[]) ∧ RefRsE w' R n e X ∧ Rgn R.lo R.hi V w') (w : World) (hR : R.hi ≤ w.heap.size) (h : RefAt w R n e M) :
    Calls Try.prog 70 #[.pointer (some ⟨R.b, 0, none⟩), .int .i64 i, .bool g, .int .i64 c] w fun r w' => r = .returned (.int .i64 0) ∧ (∃ X, Agr n X (shG g i c M) ∧ RefRsE w' R n e X) ∧ Rgn R.lo R.hi w w' := by
  obtain ⟨m, hm⟩ : ∃ m, 2 * n = m := ⟨_, rfl⟩
  have h8 : m ≤ 8 := by omega
  have wm : IntKind.i64.wrap (2 * (n : Int)) = (m : Int) := by rw [IntKind.wrap_i64]; omega
  have hm' : Hid (2 * n = m) := hm
  have hR' : Hid (R.hi ≤ w.heap.size) := hR
  have k1 := fun V hV => rhasT R n e M i (show Isv n i from ⟨by omega, by omega⟩) V hV
  have kf := fun V hV => rfork R n hn1 hn e M V hV
  have kw := fun p (hp : p < m) V => rwas i g c p (by omega) V
  have km := fun p V => rmore i (by omega) g c hc p V
  have d1 : decide (c < -8589934592) = false := by simp; omega
  have d2 : decide (8589934592 < c) = false := by simp; omega
  have frl : Hid (∀ a, a < m → fr g i a < m) := fun a ha => by have := fr_lt2 (g := g) (n := n) (i := i) (a := a) (by omega); omega
  clear hm hn1 hn hi hc hR
  go_enter Try.func70, Try.ntmps70
  go_upto_region 6 with (first
    | (go_at_call 74; refine (k1 _ h).mono ?_; rintro r w2 ⟨rfl, hw2⟩; subst w2)
    | (go_at_call 33; refine (kf _ h).mono ?_; rintro r w3 ⟨⟨F, rfl, f1, f2, hF⟩, g3⟩)
    | fail)
  replace h := h.on g3
  obtain ⟨W, hW⟩ : ∃ W, w3.alloc (.cells #[.int .i64 i, .bool g, .int .i64 c] 116) = W := ⟨_, rfl⟩
  have gW : Below w3.heap.size w3 W := by rw [← hW]; exact (Below.refl _ _).alloc (Nat.le_refl _) _
  have a0 : W.cell? ⟨w3.heap.size, 0, none⟩ = some (.int .i64 i) := by rw [← hW]; simp [go_sem]
  have a1 : W.cell? ⟨w3.heap.size, 1, none⟩ = some (.bool g) := by rw [← hW]; simp [go_sem]
  have a2 : W.cell? ⟨w3.heap.size, 2, none⟩ = some (.int .i64 c) := by rw [← hW]; simp [go_sem]
  replace h := h.on gW
  replace hF := hF.on gW
  have cc : Rgn R.lo R.hi w W := Rgn.of (sp_call g3 gW)
  have dF : Hid (R.hi ≤ F.lo ∧ F.hi ≤ w3.heap.size ∧ R.hi ≤ w3.heap.size) := ⟨by rw [f1]; exact hR'.out, f2, Nat.le_trans hR'.out g3.size⟩
  go_upto_region 7 with fail
  (try rw [hW])
  clear hW gW g3 f1 f2 kf k1 d1 d2
  go_wp2_with fail
  obtain ⟨G, hG⟩ : ∃ G, Hid (shG g i c M = G) := ⟨_, rfl⟩
  go_loopw [11] (fun j wr => ∃ (WR : World) (p : Nat) (X : Mx), WR = wr ∧ p ≤ m ∧ j = .int .i64 p ∧ RefAt wr R n e X ∧ Hid (Agm m X (pq m p 0 G M)) ∧ RefAt wr F n e M ∧ wr.cell? ⟨w3.heap.size, 0, none⟩ = some (.int .i64 i) ∧ wr.cell? ⟨w3.heap.size, 1, none⟩ = some (.bool g) ∧ wr.cell? ⟨w3.heap.size, 2, none⟩ = some (.int .i64 c) ∧ Rgn R.lo R.hi w wr) (fun j _ => m - (intOf j).toNat)
  case atStart => exact ⟨_, 0, M, rfl, by omega, rfl, h, pq_0 m G M, hF, a0, a1, a2, cc⟩
  case round =>
    clear h hF a0 a1 a2 cc
    obtain ⟨WR, p, X, rfl, hp, rfl, h, hX, hF, a0, a1, a2, cc⟩ := hrel
    have h0 := h.hn
    by_cases cp : p < m
    · have cp' : (p : Int) < (m : Int) := by omega
      go_wp2_with fail
      clear h0
      go_loopw [12] (fun j wr => ∃ (WS : World) (q : Nat) (Y : Mx), WS = wr ∧ q ≤ m ∧ j = .int .i64 q ∧ RefAt wr R n e Y ∧ Hid (Agm m Y (pq m p q G M)) ∧ RefAt wr F n e M ∧ wr.cell? ⟨w3.heap.size, 0, none⟩ = some (.int .i64 i) ∧ wr.cell? ⟨w3.heap.size, 1, none⟩ = some (.bool g) ∧ wr.cell? ⟨w3.heap.size, 2, none⟩ = some (.int .i64 c) ∧ Rgn R.lo R.hi w wr) (fun j _ => m - (intOf j).toNat)
      case atStart => exact ⟨_, 0, X, rfl, by omega, rfl, h, hX, hF, a0, a1, a2, cc⟩
      case round =>
        clear h hX hF a0 a1 a2 cc
        obtain ⟨WS, q, Y, rfl, hq, rfl, h, hY, hF, a0, a1, a2, cc⟩ := hrel
        have h0 := h.hn
        by_cases cq : q < m
        · have cq' : (q : Int) < (m : Int) := by omega
          have kwp := kw p cp
          have kwq := kw q cq
          have kmp := km p
          have kmq := km q
          have wq : IntKind.i64.wrap ((q : Int) + 1) = ((q + 1 : Nat) : Int) := by rw [IntKind.wrap_i64]; omega
          have lp := frl.out p cp
          have lq := frl.out q cq
          have eG : Hid ((if 17179869184 < shv g i c M p q then 17179869184 else shv g i c M p q) = G p q) := by rw [← hG.out]; rfl
          have ev : Hid (IntKind.i64.wrap (IntKind.i64.wrap (M (fr g i p) (fr g i q) + gn i c p) + gn i c q) = shv g i c M p q) := rfl
          generalize fr g i p = x at *
          generalize fr g i q = y at *
          generalize gn i c p = s1 at *
          generalize gn i c q = s2 at *
          generalize shv g i c M p q = vv at *
          clear kw km kt
          go_upto_region 13 with fail
          have hall : ∀ X9, Below WS.heap.size WS X9 → (X9.cell? ⟨w3.heap.size, 0, none⟩ = some (.int .i64 i) ∧ X9.cell? ⟨w3.heap.size, 1, none⟩ = some (.bool g) ∧ X9.cell? ⟨w3.heap.size, 2, none⟩ = some (.int .i64 c)) := fun X9 cc => ⟨sO cc a0, sO cc a1, sO cc a2⟩
          have bb : Below WS.heap.size WS WS := Below.refl _ _
          go_cut [13, 14] from 56 to 61 (fun s u X => ∃ W4 : World, W4 = X ∧ s = .int .i64 x ∧ u = .int .i64 y ∧ Below WS.heap.size WS X)
          case first =>
            go_region_held3 (fun w' => w'.cell? ⟨w3.heap.size, 0, none⟩ = some (.int .i64 i) ∧ w'.cell? ⟨w3.heap.size, 1, none⟩ = some (.bool g) ∧ w'.cell? ⟨w3.heap.size, 2, none⟩ = some (.int .i64 c)) (exact hall _ (by first | with_reducible exact bb | with_reducible exact bb.drew))
              (first
                | (go_at_call 95; (with_reducible refine (kwp _).mono ?_); rintro r X1 ⟨rfl, g9⟩; replace bb := sp_call (show Below WS.heap.size WS _ by first | with_reducible exact bb | with_reducible exact bb.drew) g9; clear g9)
                | (go_at_call 95; (with_reducible refine (kwq _).mono ?_); rintro r X2 ⟨rfl, g9⟩; replace bb := sp_call (show Below WS.heap.size WS _ by first | with_reducible exact bb | with_reducible exact bb.drew) g9; clear g9)
                | fail)
            all_goals go_wp2_with fail
            all_goals go_meet
            all_goals exact ⟨_, rfl, rfl, rfl, by first | exact bb | exact bb.drew⟩
          case rest =>
            obtain ⟨W4, rfl, rfl, rfl, c4⟩ := hcut
            replace a0 := sO c4 a0; replace a1 := sO c4 a1; replace a2 := sO c4 a2
            replace h := h.on c4
            replace hF := hF.on c4
            replace cc := cc.trans (Rgn.of c4)
            clear c4 bb hall kwp kwq h0
            have fs := hF.hs
            have fr1 := hF.hr x (by have := hm'.out; omega)
            have fm1 := hF.hm x y (by have := hm'.out; omega) (by have := hm'.out; omega)
            rw [hm'.out] at fs fr1
            have x1 := rix2 F.pb m F.pc x lp
            have x2 := rix (F.rb x) m (F.rc x) y lq
            generalize M x y = z at *
            have hall : ∀ X9, Below W4.heap.size W4 X9 → (X9.cell? ⟨w3.heap.size, 0, none⟩ = some (.int .i64 i) ∧ X9.cell? ⟨w3.heap.size, 1, none⟩ = some (.bool g) ∧ X9.cell? ⟨w3.heap.size, 2, none⟩ = some (.int .i64 c) ∧ X9.cell? ⟨F.b, 1, none⟩ = some (.slice (some ⟨F.pb, 0, none⟩) m F.pc) ∧ X9.cell? ⟨F.pb, x, none⟩ = some (.slice (some ⟨F.rb x, 0, none⟩) m (F.rc x)) ∧ X9.cell? ⟨F.rb x, y, none⟩ = some (.int .i64 z)) := fun X9 cc => ⟨sO cc a0, sO cc a1, sO cc a2, sO cc fs, sO cc fr1, sO cc fm1⟩
            have bb : Below W4.heap.size W4 W4 := Below.refl _ _
            have ev2 := ev.out
            clear ev
            go_upto_region 14 with fail
            go_cut [15] from 62 to 79 (fun s X => ∃ W5 : World, W5 = X ∧ s = .int .i64 vv ∧ Below W4.heap.size W4 X)
            case first =>
              go_region_held3 (fun w' => w'.cell? ⟨w3.heap.size, 0, none⟩ = some (.int .i64 i) ∧ w'.cell? ⟨w3.heap.size, 1, none⟩ = some (.bool g) ∧ w'.cell? ⟨w3.heap.size, 2, none⟩ = some (.int .i64 c) ∧ w'.cell? ⟨F.b, 1, none⟩ = some (.slice (some ⟨F.pb, 0, none⟩) m F.pc) ∧ w'.cell? ⟨F.pb, x, none⟩ = some (.slice (some ⟨F.rb x, 0, none⟩) m (F.rc x)) ∧ w'.cell? ⟨F.rb x, y, none⟩ = some (.int .i64 z)) (exact hall _ (by first | with_reducible exact bb | with_reducible exact bb.drew))
                (first
                  | (go_at_call 96; (with_reducible refine (kmp _).mono ?_); rintro r X1 ⟨rfl, g9⟩; replace bb := sp_call (show Below W4.heap.size W4 _ by first | with_reducible exact bb | with_reducible exact bb.drew) g9; clear g9)
                  | (go_at_call 96; (with_reducible refine (kmq _).mono ?_); rintro r X2 ⟨rfl, g9⟩; replace bb := sp_call (show Below W4.heap.size W4 _ by first | with_reducible exact bb | with_reducible exact bb.drew) g9; clear g9)
                  | fail)
              all_goals go_wp2_with fail
              all_goals go_meet
              all_goals exact ⟨_, rfl, by first | rfl | (rw [← ev2]), by first | exact bb | exact bb.drew⟩
            case rest =>
              obtain ⟨W5, rfl, rfl, c5⟩ := hcut
              replace a0 := sO c5 a0; replace a1 := sO c5 a1; replace a2 := sO c5 a2
              replace h := h.on c5
              replace hF := hF.on c5
              replace cc := cc.trans (Rgn.of c5)
              clear c5 bb hall kmp kmq fs fr1 fm1 x1 x2 ev2
              have pn : p < 2 * n := by have := hm'.out; omega
              have qn : q < 2 * n := by have := hm'.out; omega
              have hs := h.hs
              have r1 := h.hr p pn
              have m1 := h.hm p q pn qn
              have f1 := h.fm p q pn
              rw [hm'.out] at hs r1
              have x1 := rix2 R.pb m R.pc p cp
              have x2 := rix (R.rb p) m (R.rc p) q cq
              have hset := h.set pn qn (G p q)
              have c6 := cc.set (b := R.rb p) (j := q) (h.ir p pn).1 (h.ir p pn).2 (.int .i64 (G p q))
              have o1 := (Rgn.refl R.lo R.hi W5).set (b := R.rb p) (j := q) (h.ir p pn).1 (h.ir p pn).2 (.int .i64 (G p q))
              have hF2 := hF.rgn o1 (Or.inl dF.out.1)
              have b0 := o1.cell (Or.inl dF.out.2.2) a0
              have b1 := o1.cell (Or.inl dF.out.2.2) a1
              have b2 := o1.cell (Or.inl dF.out.2.2) a2
              have hY2 : Hid (Agm m (ux Y p q (G p q)) (pq m p (q + 1) G M)) := (ux_agm hY.out p q (G p q)).trans (pq_step G M cq)
              have eG2 := eG.out
              generalize ux Y p q (G p q) = Y2 at *
              generalize G p q = gv at *
              generalize Y p q = yv at *
              clear h hF hY a0 a1 a2 cc o1 pn qn eG hG lp lq
              by_cases lt : 17179869184 < vv
              · rw [if_pos lt] at eG2
                subst eG2
                go_wp2_with fail
                exact ⟨⟨_, q + 1, Y2, rfl, by omega, by simp, hset, hY2, hF2, b0, b1, b2, c6⟩, by simp [intOf]; omega⟩
              · rw [if_neg lt] at eG2
                subst eG2
                go_wp2_with fail
                exact ⟨⟨_, q + 1, Y2, rfl, by omega, by simp, hset, hY2, hF2, b0, b1, b2, c6⟩, by simp [intOf]; omega⟩
        · have eq : q = m := by omega
          subst eq
          clear cq hq
          have wp1 : IntKind.i64.wrap ((p : Int) + 1) = ((p + 1 : Nat) : Int) := by rw [IntKind.wrap_i64]; omega
          have hY2 : Hid (Agm q Y (pq q (p + 1) 0 G M)) := hY.out.trans (pq_row G M)
          clear hY
          go_wp2_with fail
          go_roundw
          case rel => exact ⟨_, p + 1, Y, rfl, by omega, by first | rfl | go_num, h, hY2, hF, a0, a1, a2, cc⟩
          case measure => simp [intOf]; omega
    · have ep : p = m := by omega
      subst ep
      clear cp hp
      have ag : Agr n X (shG g i c M) := fun a b ha hb => by
        have e1 := hm'.out
        rw [hG.out]
        exact (hX.out.trans (pq_all p G M)) a b (by omega) (by omega)
      have kt2 := kt WR X ag h
      have ag' : Hid (Agr n X (shG g i c M)) := ag
      clear kt ag hX hF a0 a1 a2 kw km
      go_wp2_with (first
        | (go_at_call 92; refine kt2.mono ?_; rintro r w5 ⟨rfl, hR5, c5⟩; replace cc := cc.trans c5)
        | fail)
      go_ret
      exact ⟨rfl, ⟨X, ag'.out, hR5⟩, cc⟩
end Go.Proofs.Ytpcbammncaeimaa


namespace Go.Proofs.Ytpcbammncaeimaa
open Go.RowKit
set_option linter.unusedVariables false
set_option linter.unusedSimpArgs false
set_option maxRecDepth 100000 in
theorem oalike (b1 b2 n : Nat) (e1 e2 : Bool) (A B : Mx) (w : World) (h1 : OctAt w b1 n e1 A) (h2 : OctAt w b2 n e2 B) : Calls Try.prog 45 #[.pointer (some ⟨b1, 0, none⟩), .pointer (some ⟨b2, 0, none⟩)] w fun r w' => r = .returned (.bool true) ∧ ∃ k, w' = w.drewN k := by
  have v1 := h1.hv
  have v2 := h2.hv
  clear h1 h2
  go_enter Try.func45, Try.ntmps45
  go_upto_region 1 with fail
  go_quiet (fail)
  go_wp2_with fail
  go_ret
  exact ⟨rfl, _, rfl⟩
end Go.Proofs.Ytpcbammncaeimaa

