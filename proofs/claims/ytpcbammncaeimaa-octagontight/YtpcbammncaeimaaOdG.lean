/- octagon: Copy, Shift, Set of whatever comes. -/
import Derived.Test.YtpcbammncaeimaaOdF
namespace Go.Proofs.Ytpcbammncaeimaa
open Go.RowKit
set_option linter.unusedVariables false
set_option linter.unusedSimpArgs false
def CpyBad (n : Nat) (i k c : Int) : Prop := ¬ (Isv n i ∧ Isv n k ∧ -8589934592 ≤ c ∧ c ≤ 8589934592) ∨ i = k
/-- The bounds that Copy tightens, behind Forget. -/
def cpS (i k : Int) (g : Bool) (c : Int) (M : Mx) : Mx := low (low M (sdn i false) (ot (sdn k g)) c) (ot (sdn i false)) (sdn k g) (-c)
def CpyGo (n : Nat) (i k : Int) (g : Bool) (c : Int) (T : Mx) (e' : Bool) (T' : Mx) : Prop := ∃ T1, Bst n (fgt i.toNat T) T1 ∧ Res n (cpS i k g c T1) e' T'
theorem cpS_bd {n : Nat} {M : Mx} (t : Tt n M) {i k : Int} {g : Bool} {c : Int} (h1 : -8589934592 ≤ c) (h2 : c ≤ 8589934592) {a d : Nat} (ha : a < 2 * n) (hd : d < 2 * n) : -68719476736 ≤ cpS i k g c M a d ∧ cpS i k g c M a d ≤ 68719476736 := by
  refine ⟨low_ge (fun a d ha hd => low_ge (fun a d ha hd => by have := t.low ha hd; omega) (by omega) ha hd) (by omega) ha hd, ?_⟩
  have q1 := low_le (low M (sdn i false) (ot (sdn k g)) c) (ot (sdn i false)) (sdn k g) (-c) a d
  have q2 := low_le M (sdn i false) (ot (sdn k g)) c a d
  have q3 := t.up a d ha hd
  unfold cpS
  omega
set_option maxRecDepth 100000 in
set_option maxHeartbeats 1600000 in
theorem ocopyZ (b n : Nat) (hn : n ≤ 8) (e : Bool) (M : Mx) (i k : Int) (g : Bool) (c : Int) (hT : e = false → Tt n M) (w : World) (h : OctAt w b n e M) :
    Calls Try.prog 49 #[.pointer (some ⟨b, 0, none⟩), .int .i64 i, .int .i64 k, .bool g, .int .i64 c] w fun r w' => (∃ er e' T', r = .returned (.int .i64 er) ∧ OctAt w' b n e' T' ∧ Act5 n (CpyBad n i k c) (CpyGo n i k g c) e M er e' T') ∧ Onl b w w' := by
  have hO := ob_new h (.cells #[.int .i64 i, .int .i64 k] 3)
  have cc : Onl b w (w.alloc (.cells #[.int .i64 i, .int .i64 k] 3)) := Onl.of ((Below.refl _ _).alloc (Nat.le_refl _) _)
  have kf := fault2 b n e M c 8589934592 (by omega) (by omega) i k w.heap.size _ hO (by simp [go_sem]) (by simp [go_sem])
  by_cases good : Isv n i ∧ Isv n k ∧ -8589934592 ≤ c ∧ c ≤ 8589934592
  · have kf2 : Calls Try.prog 55 #[.pointer (some ⟨b, 0, none⟩), .int .i64 c, .int .i64 8589934592, .slice (some ⟨w.heap.size, 0, none⟩) 2 2] (w.alloc (.cells #[.int .i64 i, .int .i64 k] 3)) fun r w' => r = .returned (.int .i64 0) ∧ w' = w.alloc (.cells #[.int .i64 i, .int .i64 k] 3) := kf.mono fun r w' p => by
      obtain ⟨⟨v, rfl, hv⟩, hw⟩ := p
      rcases hv with ⟨rfl, _⟩ | ⟨rfl, p⟩
      · exact ⟨rfl, hw⟩
      · exact absurd good p
    by_cases ik : i = k
    · have hA : Hid (Act5 n (CpyBad n i k c) (CpyGo n i k g c) e M 2 e M) := Or.inl ⟨Or.inr ik, rfl, rfl, fun _ _ _ _ _ => rfl⟩
      clear kf hT h good
      subst ik
      go_enter Try.func49, Try.ntmps49
      go_wp2_with (first
        | (go_at_call 55; refine kf2.mono ?_; rintro r w2 ⟨rfl, hw2⟩; subst w2)
        | fail)
      go_ret
      exact ⟨⟨2, e, M, rfl, hO, hA.out⟩, cc⟩
    · have hA : ∀ M1 M2 M3 e' T', (e = false → Bst n (fgt i.toNat M) M1) → (e = false → M2 = low M1 (sdn i false) (ot (sdn k g)) c) → (e = false → M3 = low M2 (ot (sdn i false)) (sdn k g) (-c)) → RsE n e M3 e' T' → Hid (Act5 n (CpyBad n i k c) (CpyGo n i k g c) e M 0 e' T') := fun M1 M2 M3 e' T' q1 q2 q3 r => Or.inr ⟨fun p => p.elim (fun p => p good) ik, rfl, by
        rcases r with r | ⟨he, r⟩
        · exact Or.inl r
        · exact Or.inr ⟨he, M1, q1 he, by rw [q3 he, q2 he] at r; exact r⟩⟩
      have kt := fun V M1 M2 M3 (q1 : e = false → Bst n (fgt i.toNat M) M1) (q2 : e = false → M2 = low M1 (sdn i false) (ot (sdn k g)) c) (q3 : e = false → M3 = low M2 (ot (sdn i false)) (sdn k g) (-c)) hV => otightZ b n hn e M3 (fun he a d ha hd => by
        rw [q3 he, q2 he]
        exact cpS_bd (fgt_tt (hT he) (q1 he)) good.2.2.1 good.2.2.2 ha hd) V hV
      have kr := fun V hV => ofreeZ b n hn e M i good.1 hT V hV
      obtain ⟨⟨i0, i1⟩, ⟨k0, k1⟩, c1, c2⟩ := good
      have bg := Bool.toNat_le g
      have s1 := oside i.toNat (by omega) false
      have s2 := oside k.toNat (by omega) g
      rw [show ((i.toNat : Nat) : Int) = i by omega] at s1
      rw [show ((k.toNat : Nat) : Int) = k by omega] at s2
      change ∀ w : World, Calls Try.prog _ _ w fun r w' => r = .returned (.int .i64 (sdn i false : Int)) ∧ w' = w at s1
      change ∀ w : World, Calls Try.prog _ _ w fun r w' => r = .returned (.int .i64 (sdn k g : Int)) ∧ w' = w at s2
      have x16 : sdn i false < 16 := by unfold sdn; simp; omega
      have y16 : sdn k g < 16 := by unfold sdn; omega
      have ox : ot (sdn i false) < 16 := ot_lt (n := 8) x16
      have oy : ot (sdn k g) < 16 := ot_lt (n := 8) y16
      have t1 := oother (sdn i false) x16
      have t2 := oother (sdn k g) y16
      have kl1 := fun V M1 hV => olowerZ b n e M1 (sdn i false) (ot (sdn k g)) x16 oy c V hV
      have kl2 := fun V M1 hV => olowerZ b n e M1 (ot (sdn i false)) (sdn k g) ox y16 (-c) V hV
      have wn : IntKind.i64.wrap (-c) = -c := by rw [IntKind.wrap_i64]; omega
      have neq : sdn i false ≠ ot (sdn i false) := by unfold ot; split <;> omega
      have nexy : sdn i false ≠ sdn k g := by unfold sdn; simp; omega
      clear hT bg h kf i0 i1 k0 k1 c1 c2 x16 y16 ox oy
      generalize fgt i.toNat M = F at *
      generalize ot (sdn i false) = x2 at *
      generalize ot (sdn k g) = y2 at *
      generalize sdn i false = x at *
      generalize sdn k g = y at *
      go_enter Try.func49, Try.ntmps49
      go_wp2_with (first
        | (go_at_call 55; refine kf2.mono ?_; rintro r w2 ⟨rfl, hw2⟩; subst w2)
        | (go_at_call 79; refine (kr _ hO).mono ?_; rintro r w3 ⟨rfl, ⟨M1, hO1, q1⟩, c3⟩; replace cc := cc.trans c3; clear c3)
        | (go_at_call 53; with_reducible refine (s1 _).mono ?_; rintro r v3 ⟨rfl, hw3⟩; subst v3; clear s1)
        | (go_at_call 53; with_reducible refine (s2 _).mono ?_; rintro r v3 ⟨rfl, hw3⟩; subst v3; clear s2)
        | (go_at_call_of 80 y; refine (t2 _).mono ?_; rintro r v4 ⟨rfl, hw4⟩; subst v4; clear t2)
        | (go_at_call_of 80 x; refine (t1 _).mono ?_; rintro r v4 ⟨rfl, hw4⟩; subst v4; clear t1)
        | (go_at_call 58; with_reducible refine (kl1 _ _ hO1).mono ?_; rintro r w4 ⟨rfl, ⟨M2, hO2, q2⟩, c4⟩; replace cc := cc.trans c4; clear c4 kl1)
        | (go_at_call 58; with_reducible refine (kl2 _ _ hO2).mono ?_; rintro r w5 ⟨rfl, ⟨M3, hO3, q3⟩, c5⟩; replace cc := cc.trans c5; clear c5 kl2)
        | (go_at_call 59; refine (kt _ M1 M2 M3 q1 q2 q3 hO3).mono ?_; rintro r w6 ⟨rfl, ⟨e6, T6, hO4, r6⟩, c6⟩; replace cc := cc.trans c6; clear c6)
        | fail)
      go_ret
      exact ⟨⟨0, e6, T6, rfl, hO4, (hA M1 M2 M3 e6 T6 q1 q2 q3 r6).out⟩, cc⟩
  · have kf2 : Calls Try.prog 55 #[.pointer (some ⟨b, 0, none⟩), .int .i64 c, .int .i64 8589934592, .slice (some ⟨w.heap.size, 0, none⟩) 2 2] (w.alloc (.cells #[.int .i64 i, .int .i64 k] 3)) fun r w' => r = .returned (.int .i64 2) ∧ w' = w.alloc (.cells #[.int .i64 i, .int .i64 k] 3) := kf.mono fun r w' p => by
      obtain ⟨⟨v, rfl, hv⟩, hw⟩ := p
      rcases hv with ⟨rfl, p⟩ | ⟨rfl, p⟩
      · exact absurd p good
      · exact ⟨rfl, hw⟩
    have hA : Hid (Act5 n (CpyBad n i k c) (CpyGo n i k g c) e M 2 e M) := Or.inl ⟨Or.inl good, rfl, rfl, fun _ _ _ _ _ => rfl⟩
    clear kf hT h good
    go_enter Try.func49, Try.ntmps49
    go_wp2_with (first
      | (go_at_call 55; refine kf2.mono ?_; rintro r w2 ⟨rfl, hw2⟩; subst w2)
      | fail)
    go_ret
    exact ⟨⟨2, e, M, rfl, hO, hA.out⟩, cc⟩
def ShfBad (n : Nat) (i c : Int) : Prop := ¬ (Isv n i ∧ -8589934592 ≤ c ∧ c ≤ 8589934592)
def ShfGo (n : Nat) (i : Int) (g : Bool) (c : Int) (T : Mx) (e' : Bool) (T' : Mx) : Prop := Res n (clp (mv g i.toNat c T)) e' T'
set_option maxRecDepth 100000 in
theorem omoveX (b n : Nat) (M : Mx) (i : Int) (g : Bool) (c : Int) (w : World) (h : OctAt w b n true M) :
    Calls Try.prog 81 #[.pointer (some ⟨b, 0, none⟩), .int .i64 i, .bool g, .int .i64 c] w fun r w' => r = .returned (.tuple #[]) ∧ OctAt w' b n true M ∧ Onl b w w' := by
  have hO := ob_new (ob_new (ob_new h (.cells #[.int .i64 i] 3)) (.cells #[.bool g] 4)) (.cells #[.int .i64 c] 2)
  have cc : Onl b w (((w.alloc (.cells #[.int .i64 i] 3)).alloc (.cells #[.bool g] 4)).alloc (.cells #[.int .i64 c] 2)) := Onl.of (((Below.refl _ _).alloc (Nat.le_refl _) _).alloc (by simp) _ |>.alloc (by simp; omega) _)
  have he := hO.he
  generalize hW : ((w.alloc (.cells #[.int .i64 i] 3)).alloc (.cells #[.bool g] 4)).alloc (.cells #[.int .i64 c] 2) = W at *
  go_enter Try.func81, Try.ntmps81
  go_upto_region 1 with fail
  (try rw [hW])
  clear hW h
  go_wp2_with fail
  exact bodyPost_ret (results_none rfl _ _ _) rfl ⟨rfl, hO, cc⟩
theorem omoveZ (b n : Nat) (hn : n ≤ 8) (e : Bool) (M : Mx) (i : Nat) (hi : i < n) (g : Bool) (c : Int) (hc : -8589934592 ≤ c ∧ c ≤ 8589934592) (hT : e = false → Tt n M) (w : World) (h : OctAt w b n e M) :
    Calls Try.prog 81 #[.pointer (some ⟨b, 0, none⟩), .int .i64 i, .bool g, .int .i64 c] w fun r w' => r = .returned (.tuple #[]) ∧ (∃ M1, OctAt w' b n e M1 ∧ (e = false → Agr n M1 (mv g i c M))) ∧ Onl b w w' := by
  cases e
  · exact (omove b n hn M i hi g c hc (fun a d ha hd => by have := (hT rfl).up a d ha hd; have := (hT rfl).low ha hd; omega) w h).mono fun r w' q => ⟨q.1, ⟨_, q.2.1, fun _ => pm_agr n _ _⟩, q.2.2⟩
  · exact (omoveX b n M i g c w h).mono fun r w' q => ⟨q.1, ⟨M, q.2.1, fun k => by cases k⟩, q.2.2⟩
theorem Agr.low1 {n : Nat} {A B : Mx} (h : Agr n A B) {x y : Nat} (hx : x < 2 * n) (hy : y < 2 * n) (v : Int) : Agr n (low1 A x y v) (low1 B x y v) := fun a c ha hc => by
  show up1 A x y (min (A x y) v) a c = up1 B x y (min (B x y) v) a c
  unfold up1
  rw [h x y hx hy, h a c ha hc]
theorem Agr.low {n : Nat} {A B : Mx} (h : Agr n A B) {x y : Nat} (hx : x < 2 * n) (hy : y < 2 * n) (v : Int) : Agr n (low A x y v) (low B x y v) := (h.low1 hx hy v).low1 hy hx v
theorem Agr.le_iff {n : Nat} {A B : Mx} (h : Agr n A B) (X : Mx) : Le n X A ↔ Le n X B := ⟨fun l a b ha hb => by rw [← h a b ha hb]; exact l a b ha hb, fun l a b ha hb => by rw [h a b ha hb]; exact l a b ha hb⟩
set_option maxRecDepth 100000 in
set_option maxHeartbeats 1600000 in
theorem oshiftZ (b n : Nat) (hn : n ≤ 8) (e : Bool) (M : Mx) (i : Int) (g : Bool) (c : Int) (hT : e = false → Tt n M) (w : World) (h : OctAt w b n e M) :
    Calls Try.prog 50 #[.pointer (some ⟨b, 0, none⟩), .int .i64 i, .bool g, .int .i64 c] w fun r w' => (∃ er e' T', r = .returned (.int .i64 er) ∧ OctAt w' b n e' T' ∧ Act5 n (ShfBad n i c) (ShfGo n i g c) e M er e' T') ∧ Onl b w w' := by
  have hO := ob_new h (.cells #[.int .i64 i] 3)
  have cc : Onl b w (w.alloc (.cells #[.int .i64 i] 3)) := Onl.of ((Below.refl _ _).alloc (Nat.le_refl _) _)
  have kf := fault1 b n e M c 8589934592 (by omega) (by omega) i w.heap.size _ hO (by simp [go_sem])
  by_cases good : Isv n i ∧ -8589934592 ≤ c ∧ c ≤ 8589934592
  · have kf2 : Calls Try.prog 55 #[.pointer (some ⟨b, 0, none⟩), .int .i64 c, .int .i64 8589934592, .slice (some ⟨w.heap.size, 0, none⟩) 1 1] (w.alloc (.cells #[.int .i64 i] 3)) fun r w' => r = .returned (.int .i64 0) ∧ w' = w.alloc (.cells #[.int .i64 i] 3) := kf.mono fun r w' p => by
      obtain ⟨⟨v, rfl, hv⟩, hw⟩ := p
      rcases hv with ⟨rfl, _⟩ | ⟨rfl, p⟩
      · exact ⟨rfl, hw⟩
      · exact absurd good p
    obtain ⟨j, rfl⟩ : ∃ j : Nat, i = j := ⟨i.toNat, by unfold Isv at good; omega⟩
    have hj : j < n := by unfold Isv at good; omega
    have agS : ∀ M1 M2 M3, (e = false → Agr n M1 (mv g j c M)) → (e = false → M2 = low M1 (2 * j) (2 * j) 17179869184) → (e = false → M3 = low M2 (2 * j + 1) (2 * j + 1) 17179869184) → e = false → Agr n M3 (shS g j c M) := fun M1 M2 M3 q1 q2 q3 he => by
      rw [q3 he, q2 he]
      exact ((q1 he).low (by omega) (by omega) _).low (by omega) (by omega) _
    have hA : ∀ M1 M2 M3 e' T', (e = false → Agr n M1 (mv g j c M)) → (e = false → M2 = low M1 (2 * j) (2 * j) 17179869184) → (e = false → M3 = low M2 (2 * j + 1) (2 * j + 1) 17179869184) → RsE n e M3 e' T' → Hid (Act5 n (ShfBad n j c) (ShfGo n j g c) e M 0 e' T') := fun M1 M2 M3 e' T' q1 q2 q3 r => Or.inr ⟨fun p => p good, rfl, by
      rcases r with r | ⟨he, r⟩
      · exact Or.inl r
      · exact Or.inr ⟨he, r.at fun X cX => ((agS M1 M2 M3 q1 q2 q3 he).le_iff X).trans (shS_clp (hT he) g c X cX)⟩⟩
    have kt := fun V M1 M2 M3 (q1 : e = false → Agr n M1 (mv g j c M)) (q2 : e = false → M2 = low M1 (2 * j) (2 * j) 17179869184) (q3 : e = false → M3 = low M2 (2 * j + 1) (2 * j + 1) 17179869184) hV => otightZ b n hn e M3 (fun he a d ha hd => by
      rw [agS M1 M2 M3 q1 q2 q3 he a d ha hd]
      exact shS_bd (hT he) g good.2.1 good.2.2 ha hd) V hV
    have km := fun V hV => omoveZ b n hn e M j hj g c good.2 hT V hV
    have s1 := oside j (by omega) false
    have s2 := oside j (by omega) true
    have e1 : 2 * j + false.toNat = 2 * j := rfl
    have e2 : 2 * j + true.toNat = 2 * j + 1 := rfl
    rw [e1] at s1
    rw [e2] at s2
    have kl1 := fun V M1 hV => olowerZ b n e M1 (2 * j) (2 * j) (by omega) (by omega) 17179869184 V hV
    have kl2 := fun V M1 hV => olowerZ b n e M1 (2 * j + 1) (2 * j + 1) (by omega) (by omega) 17179869184 V hV
    clear e1 e2 hT h kf agS good
    generalize 2 * j + 1 = y at *
    generalize 2 * j = x at *
    go_enter Try.func50, Try.ntmps50
    go_wp2_with (first
      | (go_at_call 55; refine kf2.mono ?_; rintro r w2 ⟨rfl, hw2⟩; subst w2)
      | (go_at_call 81; refine (km _ hO).mono ?_; rintro r w3 ⟨rfl, ⟨M1, hO1, q1⟩, c3⟩; replace cc := cc.trans c3; clear c3)
      | (go_at_call_of 53 false; refine (s1 _).mono ?_; rintro r v4 ⟨rfl, hw4⟩; subst v4)
      | (go_at_call_of 53 true; refine (s2 _).mono ?_; rintro r v4 ⟨rfl, hw4⟩; subst v4)
      | (go_at_call 58; with_reducible refine (kl1 _ _ hO1).mono ?_; rintro r w4 ⟨rfl, ⟨M2, hO2, q2⟩, c4⟩; replace cc := cc.trans c4; clear c4 kl1)
      | (go_at_call 58; with_reducible refine (kl2 _ _ hO2).mono ?_; rintro r w5 ⟨rfl, ⟨M3, hO3, q3⟩, c5⟩; replace cc := cc.trans c5; clear c5 kl2)
      | (go_at_call 59; refine (kt _ M1 M2 M3 q1 q2 q3 hO3).mono ?_; rintro r w6 ⟨rfl, ⟨e6, T6, hO4, r6⟩, c6⟩; replace cc := cc.trans c6; clear c6)
      | fail)
    go_ret
    exact ⟨⟨0, e6, T6, rfl, hO4, (hA M1 M2 M3 e6 T6 q1 q2 q3 r6).out⟩, cc⟩
  · have kf2 : Calls Try.prog 55 #[.pointer (some ⟨b, 0, none⟩), .int .i64 c, .int .i64 8589934592, .slice (some ⟨w.heap.size, 0, none⟩) 1 1] (w.alloc (.cells #[.int .i64 i] 3)) fun r w' => r = .returned (.int .i64 2) ∧ w' = w.alloc (.cells #[.int .i64 i] 3) := kf.mono fun r w' p => by
      obtain ⟨⟨v, rfl, hv⟩, hw⟩ := p
      rcases hv with ⟨rfl, p⟩ | ⟨rfl, p⟩
      · exact absurd p good
      · exact ⟨rfl, hw⟩
    have hA : Hid (Act5 n (ShfBad n i c) (ShfGo n i g c) e M 2 e M) := Or.inl ⟨good, rfl, rfl, fun _ _ _ _ _ => rfl⟩
    clear kf hT h good
    go_enter Try.func50, Try.ntmps50
    go_wp2_with (first
      | (go_at_call 55; refine kf2.mono ?_; rintro r w2 ⟨rfl, hw2⟩; subst w2)
      | fail)
    go_ret
    exact ⟨⟨2, e, M, rfl, hO, hA.out⟩, cc⟩
end Go.Proofs.Ytpcbammncaeimaa

