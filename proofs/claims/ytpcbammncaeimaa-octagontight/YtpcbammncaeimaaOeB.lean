/- The reference's Meet and Widen. -/
import Derived.Test.YtpcbammncaeimaaOeA
namespace Go.Proofs.Ytpcbammncaeimaa
open Go.RowKit
set_option linter.unusedVariables false
set_option linter.unusedSimpArgs false
/-- Some of the bounds are new, all ahead of (p, q) are. -/
structure Tw (m : Nat) (S G X : Mx) (p q : Nat) : Prop where
  one : ∀ a b, a < m → b < m → X a b = S a b ∨ X a b = G a b
  now : ∀ a b, a < m → b < m → (a < p ∨ (a = p ∧ b < q)) → X a b = G a b
theorem Tw.keep {m : Nat} {S G X : Mx} {p q : Nat} (h : Tw m S G X p q) (e : X p q = G p q) : Tw m S G X p (q + 1) where
  one := h.one
  now := fun a b ha hb k => by
    by_cases r : a = p ∧ b = q
    · rw [r.1, r.2]; exact e
    · exact h.now a b ha hb (by omega)
theorem Tw.step {m : Nat} {S G X : Mx} {p q : Nat} (h : Tw m S G X p q) {v : Int} (h1 : v < X p q → v = G p q ∧ v = G q p) (h2 : ¬ v < X p q → X p q = G p q) : Tw m S G (bnd X p q v) p (q + 1) := by
  unfold bnd
  by_cases l : v < X p q
  · rw [if_pos l]
    obtain ⟨e1, e2⟩ := h1 l
    have key : ∀ a b, ux (ux X p q v) q p v a b = if a = q ∧ b = p then G q p else if a = p ∧ b = q then G p q else X a b := fun a b => by
      unfold ux
      rw [← e1, ← e2]
    refine ⟨fun a b ha hb => ?_, fun a b ha hb k => ?_⟩ <;> rw [key]
    · split
      · rename_i r; rw [r.1, r.2]; exact Or.inr rfl
      · split
        · rename_i r; rw [r.1, r.2]; exact Or.inr rfl
        · exact h.one a b ha hb
    · split
      · rename_i r; rw [r.1, r.2]
      · split
        · rename_i r; rw [r.1, r.2]
        · exact h.now a b ha hb (by omega)
  · rw [if_neg l]
    exact h.keep (h2 l)
theorem Tw.next {m : Nat} {S G X : Mx} {p : Nat} (h : Tw m S G X p m) : Tw m S G X (p + 1) 0 where
  one := h.one
  now := fun a b ha hb k => h.now a b ha hb (by omega)
theorem Tw.first (m : Nat) (S G : Mx) : Tw m S G S 0 0 := ⟨fun _ _ _ _ => Or.inl rfl, fun a b _ _ k => by omega⟩
theorem Tw.all {n : Nat} {S G X : Mx} {q : Nat} (h : Tw (2 * n) S G X (2 * n) q) : Agr n X G := fun a b ha hb => h.now a b ha hb (Or.inl ha)
theorem meet_step {n : Nat} {A B X : Mx} (a : Tt n A) (b : Tt n B) {p q : Nat} (hp : p < 2 * n) (hq : q < 2 * n) (h : Tw (2 * n) A (mnS A B) X p q) : Tw (2 * n) A (mnS A B) (bnd X p q (B p q)) p (q + 1) := by
  have s1 := a.sym p q hp hq
  have s2 := b.sym p q hp hq
  refine h.step (fun l => ?_) (fun l => ?_)
  · rcases h.one p q hp hq with e | e
    · rw [e] at l
      unfold mnS
      rw [← s1, ← s2, if_pos l]
      exact ⟨rfl, rfl⟩
    · rw [e] at l
      unfold mnS at l
      exfalso
      split at l <;> omega
  · rcases h.one p q hp hq with e | e
    · rw [e] at l ⊢; unfold mnS; rw [if_neg l]
    · exact e
theorem wide_step {n : Nat} {A B X : Mx} (a : Tt n A) (b : Tt n B) {p q : Nat} (hp : p < 2 * n) (hq : q < 2 * n) (l : B p q ≤ A p q) (h : Tw (2 * n) bx (wdS A B) X p q) : Tw (2 * n) bx (wdS A B) (bnd X p q (A p q)) p (q + 1) := by
  have s1 := a.sym p q hp hq
  have s2 := b.sym p q hp hq
  have g1 : wdS A B p q = A p q := by unfold wdS kep; rw [if_neg (by omega)]
  have g2 : wdS A B q p = A p q := by unfold wdS kep; rw [if_neg (by omega), s1]
  refine h.step (fun k => ⟨g1.symm, g2.symm⟩) (fun k => ?_)
  rcases h.one p q hp hq with e | e
  · rw [e] at k ⊢
    rw [g1]
    have u := a.up p q hp hq
    unfold bx at k ⊢
    split at k
    · rename_i r
      rw [if_pos r]
      have := a.opp p hp
      rw [r, ot_ot] at this
      rw [r]
      omega
    · rename_i r
      rw [if_neg r]
      omega
  · exact e
theorem wide_keep {n : Nat} {A B X : Mx} (a : Tt n A) (b : Tt n B) {p q : Nat} (hp : p < 2 * n) (hq : q < 2 * n) (l : ¬ B p q ≤ A p q) (h : Tw (2 * n) bx (wdS A B) X p q) : Tw (2 * n) bx (wdS A B) X p (q + 1) := by
  have g1 : wdS A B p q = 17179869184 := by unfold wdS kep; rw [if_pos (by omega)]
  refine h.keep ?_
  rcases h.one p q hp hq with e | e
  · rw [e, g1]
    unfold bx
    rw [if_neg]
    intro r
    have q1 := a.opp p hp
    have q2 := b.opp p hp
    rw [r, ot_ot, ← r] at q1 q2
    omega
  · exact e
set_option maxRecDepth 100000 in
set_option maxHeartbeats 3200000 in
theorem rmeetF (R1 R2 : Rf) (n : Nat) (hn1 : 1 ≤ n) (hn : n ≤ 4) (A B : Mx) (t1 : Tt n A) (t2 : Tt n B) (w : World) (hR1 : R1.hi ≤ w.heap.size) (hR2 : R2.hi ≤ w.heap.size) (h1 : RefAt w R1 n false A) (h2 : RefAt w R2 n false B) :
    Calls Try.prog 72 #[.pointer (some ⟨R1.b, 0, none⟩), .pointer (some ⟨R2.b, 0, none⟩)] w fun r w' => RefNew w w' r n (MeetR n false A false B) ∧ Below w.heap.size w w' := by
  have ka := rfits R1 R2 n false false A B w h1 h2
  obtain ⟨m, hm⟩ : ∃ m, 2 * n = m := ⟨_, rfl⟩
  have h8 : m ≤ 8 := by omega
  have wm : IntKind.i64.wrap (2 * (n : Int)) = (m : Int) := by rw [IntKind.wrap_i64]; omega
  have hm' : Hid (2 * n = m) := hm
  have hR1' : Hid (R1.hi ≤ w.heap.size) := hR1
  have hR2' : Hid (R2.hi ≤ w.heap.size) := hR2
  have tt : Hid (Tt n A ∧ Tt n B) := ⟨t1, t2⟩
  have kf := fun V h1 => rfork R1 n hn1 hn false A V h1
  have kt := fun V R X (a : Agr n X (mnS A B)) hV => rtight R n hn X (fun x y hx hy => by
    rw [a x y hx hy]
    have := t1.up x y hx hy
    have := t2.up x y hx hy
    have := t1.low hx hy
    have := t2.low hx hy
    unfold mnS
    split <;> omega) V hV
  have hJ : ∀ X e' T, Agr n X (mnS A B) → Res n X e' T → Hid (MeetR n false A false B e' T) := fun X e' T q r => Or.inr ⟨rfl, rfl, r.agr q⟩
  clear hm hn1 hn t1 t2 hR1 hR2
  have x1 := h1.he
  have x2 := h2.he
  go_enter Try.func72, Try.ntmps72
  go_upto_region 4 with (first
    | (go_at_call 46; refine ka.mono ?_; rintro r v1 ⟨rfl, k, rfl⟩; replace h1 := h1.drewN k; replace h2 := h2.drewN k; replace x1 := h1.he; replace x2 := h2.he)
    | (go_at_call 33; refine (kf _ h1).mono ?_; rintro r v2 ⟨⟨F, rfl, f1, f2, hF⟩, g⟩)
    | fail)
  replace h1 := h1.on g
  replace h2 := h2.on g
  have cc : Below w.heap.size w v2 := ⟨g.os, g.tape, g.output, g.size, g.block⟩
  have dF : Hid (F.lo = w.heap.size ∧ F.hi ≤ v2.heap.size) := ⟨f1, f2⟩
  replace x1 := h1.he
  replace x2 := h2.he
  have x3 := hF.he
  have x4 := hF.fe 2
  have hF2 := hF.setE false
  have o1 := (Rgn.refl F.lo F.hi v2).set (b := F.b) (j := 2) hF.ib.1 hF.ib.2 (.bool false)
  replace h1 := h1.rgn o1 (Or.inr (by have := dF.out.1; have := hR1'.out; omega))
  replace h2 := h2.rgn o1 (Or.inr (by have := dF.out.1; have := hR2'.out; omega))
  clear kf ka f1 f2 g hF
  go_wp2_with fail
  clear x1 x2 x3 x4
  generalize v2.setCell ⟨F.b, 2, none⟩ (.bool false) = V0 at *
  go_loopw [6] (fun j wr => ∃ (WR : World) (p : Nat) (X : Mx), WR = wr ∧ p ≤ m ∧ j = .int .i64 p ∧ RefAt wr F n false X ∧ Hid (Tw m A (mnS A B) X p 0) ∧ RefAt wr R1 n false A ∧ RefAt wr R2 n false B ∧ Hid (Rgn F.lo F.hi v2 wr)) (fun j _ => m - (intOf j).toNat)
  case atStart => exact ⟨_, 0, A, rfl, by omega, rfl, hF2, Tw.first _ _ _, h1, h2, o1⟩
  case round =>
    clear hF2 h1 h2 o1
    obtain ⟨WR, p, X, rfl, hp, rfl, hF, hX, h1, h2, cg⟩ := hrel
    have h0 := h1.hn
    have he := hF.he
    by_cases cp : p < m
    · have cp' : (p : Int) < (m : Int) := by omega
      go_wp2_with fail
      clear h0 he
      go_loopw [7] (fun j wr => ∃ (WS : World) (q : Nat) (Y : Mx), WS = wr ∧ q ≤ m ∧ j = .int .i64 q ∧ RefAt wr F n false Y ∧ Hid (Tw m A (mnS A B) Y p q) ∧ RefAt wr R1 n false A ∧ RefAt wr R2 n false B ∧ Hid (Rgn F.lo F.hi v2 wr)) (fun j _ => m - (intOf j).toNat)
      case atStart => exact ⟨_, 0, X, rfl, by omega, rfl, hF, hX, h1, h2, cg⟩
      case round =>
        clear hF hX h1 h2 cg
        obtain ⟨WS, q, Y, rfl, hq, rfl, hF, hY, h1, h2, cg⟩ := hrel
        have h0 := h1.hn
        by_cases cq : q < m
        · have cq' : (q : Int) < (m : Int) := by omega
          have wq : IntKind.i64.wrap ((q : Int) + 1) = ((q + 1 : Nat) : Int) := by rw [IntKind.wrap_i64]; omega
          have pn : p < 2 * n := by have := hm'.out; omega
          have qn : q < 2 * n := by have := hm'.out; omega
          have gs := h2.hs
          have gr1 := h2.hr p pn
          have gm1 := h2.hm p q pn qn
          rw [hm'.out] at gs gr1
          have x3 := rix2 R2.pb m R2.pc p cp
          have x4 := rix (R2.rb p) m (R2.rc p) q cq
          have kb := rbound F n false Y p q pn qn (B p q) WS hF
          have hY2 : Hid (Tw m A (mnS A B) (bnd Y p q (B p q)) p (q + 1)) := by
            have e1 := hm'.out
            have := meet_step tt.out.1 tt.out.2 pn qn (by rw [e1]; exact hY.out)
            rw [e1] at this
            exact this
          generalize bnd Y p q (B p q) = Y2 at *
          generalize B p q = yb at *
          clear hY pn qn hF
          go_wp2_with (first
            | (go_at_call 91; refine kb.mono ?_; rintro r w5 ⟨rfl, hF, c5⟩)
            | fail)
          exact ⟨⟨_, q + 1, Y2, rfl, by omega, by simp, hF, hY2, h1.rgn c5 (Or.inr (by have := dF.out.1; have := hR1'.out; omega)), h2.rgn c5 (Or.inr (by have := dF.out.1; have := hR2'.out; omega)), cg.out.trans c5⟩, by simp [intOf]; omega⟩
        · have eq : q = m := by omega
          subst eq
          clear cq hq
          have wp1 : IntKind.i64.wrap ((p : Int) + 1) = ((p + 1 : Nat) : Int) := by rw [IntKind.wrap_i64]; omega
          have hY2 : Hid (Tw q A (mnS A B) Y (p + 1) 0) := hY.out.next
          clear hY
          go_wp2_with fail
          go_roundw
          case rel => exact ⟨_, p + 1, Y, rfl, by omega, by first | rfl | go_num, hF, hY2, h1, h2, cg⟩
          case measure => simp [intOf]; omega
    · have ep : p = m := by omega
      subst ep
      clear cp hp
      have ag : Agr n X (mnS A B) := by
        have q := hX.out
        rw [← hm'.out] at q
        exact q.all
      have kt2 := kt WR F X ag hF
      have ag' : Hid (Agr n X (mnS A B)) := ag
      clear kt ag hX hF
      go_wp2_with (first
        | (go_at_call 92; refine kt2.mono ?_; rintro r w5 ⟨rfl, ⟨e5, T5, hO5, r5⟩, c5⟩)
        | fail)
      go_ret
      have cz := cg.out.trans c5
      have z5 := cz.size
      exact ⟨⟨F, e5, T5, rfl, by rw [dF.out.1]; exact Nat.le_refl _, by have := dF.out.2; omega, hO5, (hJ X e5 T5 ag'.out r5).out⟩, below_rgn cc cz (by rw [dF.out.1]; exact Nat.le_refl _)⟩
set_option maxRecDepth 100000 in
set_option maxHeartbeats 1600000 in
theorem rmeetX (R1 R2 : Rf) (n : Nat) (hn1 : 1 ≤ n) (hn : n ≤ 4) (e1 e2 : Bool) (he : e1 = true ∨ e2 = true) (A B : Mx) (w : World) (hR1 : R1.hi ≤ w.heap.size) (hR2 : R2.hi ≤ w.heap.size) (h1 : RefAt w R1 n e1 A) (h2 : RefAt w R2 n e2 B) :
    Calls Try.prog 72 #[.pointer (some ⟨R1.b, 0, none⟩), .pointer (some ⟨R2.b, 0, none⟩)] w fun r w' => RefNew w w' r n (MeetR n e1 A e2 B) ∧ Below w.heap.size w w' := by
  have ka := rfits R1 R2 n e1 e2 A B w h1 h2
  have kf := fun V h1 => rfork R1 n hn1 hn e1 A V h1
  have hJ : ∀ T, Hid (MeetR n e1 A e2 B true T) := fun T => Or.inl ⟨he, rfl⟩
  have eo : (e1 || e2) = true := by simpa using he
  have wm : IntKind.i64.wrap (2 * (n : Int)) = 2 * (n : Int) := by rw [IntKind.wrap_i64]; omega
  have lt0 : (0 : Int) < 2 * (n : Int) := by omega
  have hn1' : Hid (1 ≤ n) := hn1
  clear hn1 hn hR1 hR2
  have x1 := h1.he
  have x2 := h2.he
  go_enter Try.func72, Try.ntmps72
  go_upto_region 4 with (first
    | (go_at_call 46; refine ka.mono ?_; rintro r v1 ⟨rfl, k, rfl⟩; replace h1 := h1.drewN k; replace h2 := h2.drewN k; replace x1 := h1.he; replace x2 := h2.he)
    | (go_at_call 33; refine (kf _ h1).mono ?_; rintro r v2 ⟨⟨F, rfl, f1, f2, hF⟩, g⟩)
    | fail)
  replace h1 := h1.on g
  replace h2 := h2.on g
  have cc : Below w.heap.size w v2 := ⟨g.os, g.tape, g.output, g.size, g.block⟩
  have dF : Hid (F.lo = w.heap.size ∧ F.hi ≤ v2.heap.size) := ⟨f1, f2⟩
  replace x1 := h1.he
  replace x2 := h2.he
  have x3 := hF.he
  have x4 := hF.fe 2
  have hF2 := hF.setE true
  have o1 := (Rgn.refl F.lo F.hi v2).set (b := F.b) (j := 2) hF.ib.1 hF.ib.2 (.bool true)
  have y2 := hF2.he
  have y3 := World.cell?_setCell_other v2 ⟨F.b, 2, none⟩ ⟨R1.b, 0, none⟩ (.bool true) (by simp)
  rw [h1.hn] at y3
  have z2 := o1.size
  have kt := rtightX F n A _ hF2
  clear kf ka f1 f2 g
  rcases he with rfl | rfl
  · go_upto_region 5 with fail
    generalize v2.setCell ⟨F.b, 2, none⟩ (.bool true) = V0 at *
    clear x1 x2 x3 x4 h1 h2
    go_wp2_with fail
    go_loopw [6] (fun j wr => j = .int .i64 0 ∧ wr = V0) (fun _ _ => 0)
    case atStart => exact ⟨rfl, rfl⟩
    case round =>
      obtain ⟨rfl, rfl⟩ := hrel
      go_wp2_with (first
        | (go_at_call 92; refine kt.mono ?_; rintro r w5 ⟨rfl, hw5⟩; subst w5)
        | fail)
      go_ret
      exact ⟨⟨F, true, A, rfl, by rw [dF.out.1]; exact Nat.le_refl _, by have := dF.out.2; omega, hF2, (hJ A).out⟩, below_rgn cc o1 (by rw [dF.out.1]; exact Nat.le_refl _)⟩
  · cases e1
    all_goals
      go_upto_region 5 with fail
      generalize v2.setCell ⟨F.b, 2, none⟩ (.bool true) = V0 at *
      clear x1 x2 x3 x4 h1 h2
      go_wp2_with fail
      go_loopw [6] (fun j wr => j = .int .i64 0 ∧ wr = V0) (fun _ _ => 0)
      case atStart => exact ⟨rfl, rfl⟩
      case round =>
        obtain ⟨rfl, rfl⟩ := hrel
        go_wp2_with (first
          | (go_at_call 92; refine kt.mono ?_; rintro r w5 ⟨rfl, hw5⟩; subst w5)
          | fail)
        go_ret
        exact ⟨⟨F, true, A, rfl, by rw [dF.out.1]; exact Nat.le_refl _, by have := dF.out.2; omega, hF2, (hJ A).out⟩, below_rgn cc o1 (by rw [dF.out.1]; exact Nat.le_refl _)⟩
theorem rmeet (R1 R2 : Rf) (n : Nat) (hn1 : 1 ≤ n) (hn : n ≤ 4) (e1 e2 : Bool) (A B : Mx) (t1 : e1 = false → Tt n A) (t2 : e2 = false → Tt n B) (w : World) (hR1 : R1.hi ≤ w.heap.size) (hR2 : R2.hi ≤ w.heap.size) (h1 : RefAt w R1 n e1 A) (h2 : RefAt w R2 n e2 B) :
    Calls Try.prog 72 #[.pointer (some ⟨R1.b, 0, none⟩), .pointer (some ⟨R2.b, 0, none⟩)] w fun r w' => RefNew w w' r n (MeetR n e1 A e2 B) ∧ Below w.heap.size w w' := by
  cases e1
  · cases e2
    · exact rmeetF R1 R2 n hn1 hn A B (t1 rfl) (t2 rfl) w hR1 hR2 h1 h2
    · exact rmeetX R1 R2 n hn1 hn false true (Or.inr rfl) A B w hR1 hR2 h1 h2
  · exact rmeetX R1 R2 n hn1 hn true e2 (Or.inl rfl) A B w hR1 hR2 h1 h2
end Go.Proofs.Ytpcbammncaeimaa

