/- octagon: Set of whatever comes. -/
import Derived.Test.YtpcbammncaeimaaOdG
namespace Go.Proofs.Ytpcbammncaeimaa
open Go.RowKit
set_option linter.unusedVariables false
set_option linter.unusedSimpArgs false
theorem right_rI (e : Bool) (x y : Int) : rightP WyI (e, x, y) = rI e x y := by
  unfold rightP rI
  cases e
  · simp only [Bool.false_eq_true, if_false]
    show (in32 x && (in32 y && decide (cmpI x y ≤ 0))) = _
    have c : decide (cmpI x y ≤ 0) = decide (x ≤ y) := by
      unfold cmpI
      split
      · simp; omega
      · split <;> simp <;> omega
    rw [c]
    unfold in32
    rw [Bool.eq_iff_iff]
    simp
    omega
  · rfl
def SetBad (n : Nat) (i : Int) (ea : Bool) (lo hh : Int) : Prop := ¬ (Isv n i ∧ rI ea lo hh = true)
def stS (i : Nat) (lo hh : Int) (M : Mx) : Mx := low (low M (2 * i) (2 * i) (2 * hh)) (2 * i + 1) (2 * i + 1) (-2 * lo)
def SetGo (n : Nat) (i : Int) (ea : Bool) (lo hh : Int) (T : Mx) (e' : Bool) (T' : Mx) : Prop := (ea = true ∧ e' = true) ∨ (ea = false ∧ Res n (stS i.toNat lo hh T) e' T')
theorem rI_num {lo hh : Int} (h : rI false lo hh = true) : -2147483648 ≤ lo ∧ lo ≤ hh ∧ hh ≤ 2147483647 := by
  unfold rI at h
  simp at h
  omega
theorem stS_bd {n : Nat} {M : Mx} (t : Tt n M) {i : Nat} {lo hh : Int} (h : rI false lo hh = true) {a d : Nat} (ha : a < 2 * n) (hd : d < 2 * n) : -68719476736 ≤ stS i lo hh M a d ∧ stS i lo hh M a d ≤ 68719476736 := by
  have h := rI_num h
  refine ⟨low_ge (fun a d ha hd => low_ge (fun a d ha hd => by have := t.low ha hd; omega) (by omega) ha hd) (by omega) ha hd, ?_⟩
  have q1 := low_le (low M (2 * i) (2 * i) (2 * hh)) (2 * i + 1) (2 * i + 1) (-2 * lo) a d
  have q2 := low_le M (2 * i) (2 * i) (2 * hh) a d
  have q3 := t.up a d ha hd
  unfold stS
  omega
set_option maxRecDepth 100000 in
set_option maxHeartbeats 3200000 in
theorem osetZ (b n : Nat) (hn : n ≤ 8) (e : Bool) (M : Mx) (i : Int) (ea : Bool) (lo hh : Int) (l1 : -9223372036854775808 ≤ lo ∧ lo ≤ 9223372036854775807) (l2 : -9223372036854775808 ≤ hh ∧ hh ≤ 9223372036854775807) (hT : e = false → Tt n M) (w : World) (h : OctAt w b n e M) :
    Calls Try.prog 26 #[.pointer (some ⟨b, 0, none⟩), .int .i64 i, .agg #[.bool ea, .int .i64 lo, .int .i64 hh]] w fun r w' => (∃ er e' T', r = .returned (.int .i64 er) ∧ OctAt w' b n e' T' ∧ Act5 n (SetBad n i ea lo hh) (SetGo n i ea lo hh) e M er e' T') ∧ Onl b w w' := by
  have hb : b < w.heap.size := World.block_lt_of_cell? w _ h.hv
  obtain ⟨W, hW⟩ : ∃ W, (w.alloc (.cells #[.bool ea, .int .i64 lo, .int .i64 hh] 39)).alloc (.cells #[.int .i64 i] 3) = W := ⟨_, rfl⟩
  have gW : Below w.heap.size w W := by rw [← hW]; exact ((Below.refl _ _).alloc (Nat.le_refl _) _).alloc (by simp) _
  have a0 : W.cell? ⟨w.heap.size, 0, none⟩ = some (.bool ea) := by rw [← hW]; simp [go_sem]
  have a1 : W.cell? ⟨w.heap.size, 1, none⟩ = some (.int .i64 lo) := by rw [← hW]; simp [go_sem]
  have a2 : W.cell? ⟨w.heap.size, 2, none⟩ = some (.int .i64 hh) := by rw [← hW]; simp [go_sem]
  have p0 : W.cell? ⟨w.heap.size + 1, 0, none⟩ = some (.int .i64 i) := by rw [← hW]; simp [go_sem]
  have hO := h.on gW
  have cc : Onl b w W := Onl.of gW
  have nb : w.heap.size ≠ b := by omega
  have kf := fault1 b n e M 0 0 (by omega) (by omega) i (w.heap.size + 1) W hO p0
  have kr := intRight_of ea lo hh _ (fun V => right_i (acts_i V) ea lo hh (domI_of (by omega) (by omega)) (domI_of (by omega) (by omega)) V (Below.refl _ _))
  rw [right_rI] at kr
  have A1 : SetBad n i ea lo hh → Hid (Act5 n (SetBad n i ea lo hh) (SetGo n i ea lo hh) e M 2 e M) := fun q => Or.inl ⟨q, rfl, rfl, fun _ _ _ _ _ => rfl⟩
  by_cases q : Isv n i
  · have kf2 : Calls Try.prog 55 #[.pointer (some ⟨b, 0, none⟩), .int .i64 0, .int .i64 0, .slice (some ⟨w.heap.size + 1, 0, none⟩) 1 1] W fun r w' => r = .returned (.int .i64 0) ∧ w' = W := kf.mono fun r w' p => by
      obtain ⟨⟨v, rfl, hv⟩, hw⟩ := p
      rcases hv with ⟨rfl, _⟩ | ⟨rfl, p⟩
      · exact ⟨rfl, hw⟩
      · exact absurd ⟨q, by omega, by omega⟩ p
    cases hr : rI ea lo hh
    · have hA := A1 (fun p => by rw [hr] at p; exact absurd p.2 (by simp))
      rw [hr] at kr
      clear kf A1 hT h hr q
      go_enter Try.func26, Try.ntmps26
      go_wp2_with (first
        | (go_at_call 55; (try rw [hW]); refine kf2.mono ?_; rintro r v2 ⟨rfl, hw2⟩; subst v2; clear kf2 hW gW)
        | (go_at_call 56; refine (kr _).mono ?_; rintro r v3 ⟨rfl, g⟩; replace a0 := sp_cell_on g a0; replace a1 := sp_cell_on g a1; replace a2 := sp_cell_on g a2; replace hO := hO.on g; replace cc := cc.on g; clear g kr)
        | fail)
      go_ret
      exact ⟨⟨2, e, M, rfl, hO, hA.out⟩, cc⟩
    · have nbad : ¬ SetBad n i ea lo hh := fun p => p ⟨q, hr⟩
      cases ea
      · obtain ⟨j, rfl⟩ : ∃ j : Nat, i = j := ⟨i.toNat, by unfold Isv at q; omega⟩
        have hj : j < n := by unfold Isv at q; omega
        have hA : ∀ M1 M2 e' T', (e = false → M1 = low M (2 * j) (2 * j) (2 * hh)) → (e = false → M2 = low M1 (2 * j + 1) (2 * j + 1) (-2 * lo)) → RsE n e M2 e' T' → Hid (Act5 n (SetBad n j false lo hh) (SetGo n j false lo hh) e M 0 e' T') := fun M1 M2 e' T' q1 q2 r => Or.inr ⟨nbad, rfl, by
          rcases r with r | ⟨he, r⟩
          · exact Or.inl r
          · rw [q2 he, q1 he] at r
            exact Or.inr ⟨he, Or.inr ⟨rfl, r⟩⟩⟩
        have kt := fun V M1 M2 (q1 : e = false → M1 = low M (2 * j) (2 * j) (2 * hh)) (q2 : e = false → M2 = low M1 (2 * j + 1) (2 * j + 1) (-2 * lo)) hV => otightZ b n hn e M2 (fun he a d ha hd => by
          rw [q2 he, q1 he]
          exact stS_bd (hT he) hr ha hd) V hV
        have s1 := oside j (by omega) false
        have s2 := oside j (by omega) true
        have kl1 := fun V M1 hV => olowerZ b n e M1 (2 * j) (2 * j) (by omega) (by omega) (2 * hh) V hV
        have kl2 := fun V M1 hV => olowerZ b n e M1 (2 * j + 1) (2 * j + 1) (by omega) (by omega) (-2 * lo) V hV
        have hnum := rI_num hr
        have w1 : IntKind.i64.wrap (2 * hh) = 2 * hh := by rw [IntKind.wrap_i64]; omega
        have w2 : IntKind.i64.wrap (-2 * lo) = -2 * lo := by rw [IntKind.wrap_i64]; omega
        rw [hr] at kr
        have e1 : 2 * j + false.toNat = 2 * j := rfl
        have e2 : 2 * j + true.toNat = 2 * j + 1 := rfl
        rw [e1] at s1
        rw [e2] at s2
        clear e1 e2 kf A1 hT h hr q nbad hnum l1 l2
        generalize 2 * j + 1 = y at *
        generalize 2 * j = x at *
        go_enter Try.func26, Try.ntmps26
        go_upto_region 9 with (first
          | (go_at_call 55; (try rw [hW]); refine kf2.mono ?_; rintro r v2 ⟨rfl, hw2⟩; subst v2; clear kf2 hW gW)
          | (go_at_call 56; refine (kr _).mono ?_; rintro r v3 ⟨rfl, g⟩; replace a0 := sp_cell_on g a0; replace a1 := sp_cell_on g a1; replace a2 := sp_cell_on g a2; replace hO := hO.on g; replace cc := cc.on g; clear g kr)
          | fail)
        clear p0 a0
        go_cut [30] from 22 to 30 (fun s X => ∃ W1 M1, W1 = X ∧ s = .tuple #[] ∧ OctAt X b n e M1 ∧ Hid (e = false → M1 = low M x x (2 * hh)) ∧ X.cell? ⟨w.heap.size, 1, none⟩ = some (.int .i64 lo) ∧ Onl b w X)
        case first =>
          go_region_with
            (first
              | (go_at_call 53; refine (s1 _).mono ?_; rintro r v4 ⟨rfl, hw4⟩; subst v4)
              | (go_at_call 58; refine (kl1 _ _ (by first | exact hO | exact hO.drew | exact hO.drewN _)).mono ?_; rintro r v5 ⟨rfl, ⟨M1, hO2, hM1⟩, c5⟩; replace cc := (show Onl b w _ by first | exact cc | exact cc.drew | exact cc.drewN _).trans c5; replace a1 := c5.cell nb (show World.cell? _ ⟨w.heap.size, 1, none⟩ = _ from a1); clear c5)
              | fail)
          all_goals go_wp2_with fail
          all_goals go_meet
          all_goals exact ⟨_, M1, rfl, rfl, hO2, hM1, a1, cc⟩
        case rest =>
          obtain ⟨W1, M1, rfl, rfl, hO2, hM1, b1, c2⟩ := hcut
          clear hO cc a1 a2 s1 kl1
          go_upto_region 10 with fail
          go_cut [39] from 31 to 39 (fun s X => ∃ W2 M2, W2 = X ∧ s = .tuple #[] ∧ OctAt X b n e M2 ∧ Hid (e = false → M2 = low M1 y y (-2 * lo)) ∧ Onl b w X)
          case first =>
            go_region_with
              (first
                | (go_at_call 53; refine (s2 _).mono ?_; rintro r v4 ⟨rfl, hw4⟩; subst v4)
                | (go_at_call 58; refine (kl2 _ _ (by first | exact hO2 | exact hO2.drew | exact hO2.drewN _)).mono ?_; rintro r v5 ⟨rfl, ⟨M2, hO3, hM2⟩, c5⟩; replace c2 := (show Onl b w _ by first | exact c2 | exact c2.drew | exact c2.drewN _).trans c5; clear c5)
                | fail)
            all_goals go_wp2_with fail
            all_goals go_meet
            all_goals exact ⟨_, M2, rfl, rfl, hO3, hM2, c2⟩
          case rest =>
            obtain ⟨W2, M2, rfl, rfl, hO3, hM2, c3⟩ := hcut
            clear hO2 c2 b1 s2 kl2
            go_wp2_with (first
              | (go_at_call 59; refine (kt _ M1 M2 hM1.out hM2.out hO3).mono ?_; rintro r v6 ⟨rfl, ⟨e6, T6, hO4, r6⟩, c6⟩; replace c3 := c3.trans c6; clear c6)
              | fail)
            go_ret
            exact ⟨⟨0, e6, T6, rfl, hO4, (hA M1 M2 e6 T6 hM1.out hM2.out r6).out⟩, c3⟩
      · have hA : ∀ M1, Hid (Act5 n (SetBad n i true lo hh) (SetGo n i true lo hh) e M 0 true M1) := fun M1 => Or.inr ⟨nbad, rfl, by
          cases e
          · exact Or.inr ⟨rfl, Or.inl ⟨rfl, rfl⟩⟩
          · exact Or.inl ⟨rfl, rfl⟩⟩
        have kd := fun V hV => odrain b n e M V hV
        rw [hr] at kr
        clear kf A1 hT h hr q nbad
        go_enter Try.func26, Try.ntmps26
        go_wp2_with (first
          | (go_at_call 55; (try rw [hW]); refine kf2.mono ?_; rintro r v2 ⟨rfl, hw2⟩; subst v2; clear kf2 hW gW)
          | (go_at_call 56; refine (kr _).mono ?_; rintro r v3 ⟨rfl, g⟩; replace a0 := sp_cell_on g a0; replace a1 := sp_cell_on g a1; replace a2 := sp_cell_on g a2; replace hO := hO.on g; replace cc := cc.on g; clear g kr)
          | (go_at_call 57; refine (kd _ hO).mono ?_; rintro r v4 ⟨rfl, hO4, c4⟩; replace cc := cc.trans c4; clear c4)
          | fail)
        go_ret
        exact ⟨⟨0, true, _, rfl, hO4, (hA _).out⟩, cc⟩
  · have kf2 : Calls Try.prog 55 #[.pointer (some ⟨b, 0, none⟩), .int .i64 0, .int .i64 0, .slice (some ⟨w.heap.size + 1, 0, none⟩) 1 1] W fun r w' => r = .returned (.int .i64 2) ∧ w' = W := kf.mono fun r w' p => by
      obtain ⟨⟨v, rfl, hv⟩, hw⟩ := p
      rcases hv with ⟨rfl, p, _⟩ | ⟨rfl, p⟩
      · exact absurd p q
      · exact ⟨rfl, hw⟩
    have hA := A1 (fun p => q p.1)
    clear kf A1 hT h q kr
    go_enter Try.func26, Try.ntmps26
    go_wp2_with (first
      | (go_at_call 55; (try rw [hW]); refine kf2.mono ?_; rintro r v2 ⟨rfl, hw2⟩; subst v2; clear kf2 hW gW)
      | fail)
    go_ret
    exact ⟨⟨2, e, M, rfl, hO, hA.out⟩, cc⟩
end Go.Proofs.Ytpcbammncaeimaa

