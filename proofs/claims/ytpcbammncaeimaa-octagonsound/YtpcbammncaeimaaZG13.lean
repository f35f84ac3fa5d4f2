/- Texts of the proof, put together. -/
import Derived.Test.YtpcbammncaeimaaZG12
namespace Go.Proofs.Ytpcbammncaeimaa
open Go.RowKit
set_option linter.unusedVariables false
set_option linter.unusedSimpArgs false
structure Tw (m : Nat) (S G X : Mx) (p q : Nat) : Prop where
  one : ∀ a b, a < m → b < m → X a b = S a b ∨ X a b = G a b
  now : ∀ a b, a < m → b < m → (a < p ∨ (a = p ∧ b < q)) → X a b = G a b
theorem Tw.keep {m : Nat} {S G X : Mx} {p q : Nat} (h : Tw m S G X p q) (e : X p q = G p q) : Tw m S G X p (q + 1) where
  one := h.one
  now := fun a b ha hb k => by
    by_cases r : a = p ∧ b = q
    · rw [r.1, r.2]; exact e
    · exact h.now a b ha hb (by omega)
theorem Tw.step {m : Nat} {S G X : Mx} {p q : Nat} (h : Tw m S G X p q) {v : Int} (h1 : v < X p q → v = G p q ∧ v = G q p) (h2 : ¬ v < X p q → X p q = G p q) : Tw m S G (bnd X p q v) p (q + 1) := by
  unfold bnd
  by_cases l : v < X p q
  · rw [if_pos l]
    obtain ⟨e1, e2⟩ := h1 l
    have key : ∀ a b, ux (ux X p q v) q p v a b = if a = q ∧ b = p then G q p else if a = p ∧ b = q then G p q else X a b := fun a b => by
      unfold ux
      rw [← e1, ← e2]
    refine ⟨fun a b ha hb => ?_, fun a b ha hb k => ?_⟩ <;> rw [key]
    · split
      · rename_i r; rw [r.1, r.2]; exact Or.inr rfl
      · split
        · rename_i r; rw [r.1, r.2]; exact Or.inr rfl
        · exact h.one a b ha hb
    · split
      · rename_i r; rw [r.1, r.2]
      · split
        · rename_i r; rw [r.1, r.2]
        · exact h.now a b ha hb (by omega)
  · rw [if_neg l]
    exact h.keep (h2 l)
theorem Tw.next {m : Nat} {S G X : Mx} {p : Nat} (h : Tw m S G X p m) : Tw m S G X (p + 1) 0 where
  one := h.one
  now := fun a b ha hb k => h.now a b ha hb (by omega)
theorem Tw.first (m : Nat) (S G : Mx) : Tw m S G S 0 0 := ⟨fun _ _ _ _ => Or.inl rfl, fun a b _ _ k => by omega⟩
theorem Tw.all {n : Nat} {S G X : Mx} {q : Nat} (h : Tw (2 * n) S G X (2 * n) q) : Agr n X G := fun a b ha hb => h.now a b ha hb (Or.inl ha)
theorem meet_step {n : Nat} {A B X : Mx} (a : Tt n A) (b : Tt n B) {p q : Nat} (hp : p < 2 * n) (hq : q < 2 * n) (h : Tw (2 * n) A (mnS A B) X p q) : Tw (2 * n) A (mnS A B) (bnd X p q (B p q)) p (q + 1) := by
  have s1 := a.sym p q hp hq
  have s2 := b.sym p q hp hq
  refine h.step (fun l => ?_) (fun l => ?_)
  · rcases h.one p q hp hq with e | e
    · rw [e] at l
      unfold mnS
      rw [← s1, ← s2, if_pos l]
      exact ⟨rfl, rfl⟩
    · rw [e] at l
      unfold mnS at l
      exfalso
      split at l <;> omega
  · rcases h.one p q hp hq with e | e
    · rw [e] at l ⊢; unfold mnS; rw [if_neg l]
    · exact e
theorem wide_step {n : Nat} {A B X : Mx} (a : Tt n A) (b : Tt n B) {p q : Nat} (hp : p < 2 * n) (hq : q < 2 * n) (l : B p q ≤ A p q) (h : Tw (2 * n) bx (wdS A B) X p q) : Tw (2 * n) bx (wdS A B) (bnd X p q (A p q)) p (q + 1) := by
  have s1 := a.sym p q hp hq
  have s2 := b.sym p q hp hq
  have g1 : wdS A B p q = A p q := by unfold wdS kep; rw [if_neg (by omega)]
  have g2 : wdS A B q p = A p q := by unfold wdS kep; rw [if_neg (by omega), s1]
  refine h.step (fun k => ⟨g1.symm, g2.symm⟩) (fun k => ?_)
  rcases h.one p q hp hq with e | e
  · rw [e] at k ⊢
    rw [g1]
    have u := a.up p q hp hq
    unfold bx at k ⊢
    split at k
    · rename_i r
      rw [if_pos r]
      have := a.opp p hp
      rw [r, ot_ot] at this
      rw [r]
      omega
    · rename_i r
      rw [if_neg r]
      omega
  · exact e
theorem wide_keep {n : Nat} {A B X : Mx} (a : Tt n A) (b : Tt n B) {p q : Nat} (hp : p < 2 * n) (hq : q < 2 * n) (l : ¬ B p q ≤ A p q) (h : Tw (2 * n) bx (wdS A B) X p q) : Tw (2 * n) bx (wdS A B) X p (q + 1) := by
  have g1 : wdS A B p q = 17179869184 := by unfold wdS kep; rw [if_pos (by omega)]
  refine h.keep ?_
  rcases h.one p q hp hq with e | e
  · rw [e, g1]
    unfold bx
    rw [if_neg]
    intro r
    have q1 := a.opp p hp
    have q2 := b.opp p hp
    rw [r, ot_ot, ← r] at q1 q2
    omega
  · exact e
set_option maxRecDepth 100000 in
set_option maxHeartbeats 3200000 in
theorem rmeetF (R1 R2 : Rf) (n : Nat) (hn1 : 1 ≤ n) (hn : n ≤ 4) (A B : Mx) (t1 : Tt n A) (t2 : Tt n B) (w : World) (hR1 : R1.hi ≤ w.heap.size) (hR2 : R2.hi ≤ w.heap.size) (h1 : RefAt w R1 n false A) (h2 : RefAt w R2 n false B) :
    Calls Try.prog 72 #[.pointer (some ⟨R1.b, 0, none⟩), .pointer (some ⟨R2.b, 0, none⟩)] w fun r w' => RefNew w w' r n (MeetR n false A false B) ∧ Below w.heap.size w w' := by
  have ka := rfits R1 R2 n false false A B w h1 h2
  obtain ⟨m, hm⟩ : ∃ m, 2 * n = m := ⟨_, rfl⟩
  have h8 : m ≤ 8 := by omega
  have wm : IntKind.i64.wrap (2 * (n : Int)) = (m : Int) := by rw [IntKind.wrap_i64]; omega
  have hm' : Hid (2 * n = m) := hm
  have hR1' : Hid (R1.hi ≤ w.heap.size) := hR1
  have hR2' : Hid (R2.hi ≤ w.heap.size) := hR2
  have tt : Hid (Tt n A ∧ Tt n B) := ⟨t1, t2⟩
  have kf := fun V h1 => rfork R1 n hn1 hn false A V h1
  have kt := fun V R X (a : Agr n X (mnS A B)) hV => rtight R n hn X (fun x y hx hy => by
    rw [a x y hx hy]
    have := t1.up x y hx hy
    have := t2.up x y hx hy
    have := t1.low hx hy
    have := t2.low hx hy
    unfold mnS
    split <;> omega) V hV
  have hJ : ∀ X e' T, Agr n X (mnS A B) → Res n X e' T → Hid (MeetR n false A false B e' T) := fun X e' T q r => Or.inr ⟨rfl, rfl, r.agr q⟩
  clear hm hn1 hn t1 t2 hR1 hR2
  have x1 := h1.he
  have x2 := h2.he
  go_enter Try.func72, Try.ntmps72
  go_upto_region 4 with (first
    | (go_at_call 46; refine ka.mono ?_; rintro r v1 ⟨rfl, k, rfl⟩; replace h1 := h1.drewN k; replace h2 := h2.drewN k; replace x1 := h1.he; replace x2 := h2.he)
    | (go_at_call 33; refine (kf _ h1).mono ?_; rintro r v2 ⟨⟨F, rfl, f1, f2, hF⟩, g⟩)
    | fail)
  replace h1 := h1.on g
  replace h2 := h2.on g
  have cc : Below w.heap.size w v2 := ⟨g.os, g.tape, g.output, g.size, g.block⟩
  have dF : Hid (F.lo = w.heap.size ∧ F.hi ≤ v2.heap.size) := ⟨f1, f2⟩
  replace x1 := h1.he
  replace x2 := h2.he
  have x3 := hF.he
  have x4 := hF.fe 2
  have hF2 := hF.setE false
  have o1 := (Rgn.refl F.lo F.hi v2).set (b := F.b) (j := 2) hF.ib.1 hF.ib.2 (.bool false)
  replace h1 := h1.rgn o1 (Or.inr (by have := dF.out.1; have := hR1'.out; omega))
  replace h2 := h2.rgn o1 (Or.inr (by have := dF.out.1; have := hR2'.out; omega))
  clear kf ka f1 f2 g hF
  go_wp2_with fail
  clear x1 x2 x3 x4
  generalize v2.setCell ⟨F.b, 2, none⟩ (.bool false) = V0 at *
  go_loopw [6] (fun j wr => ∃ (WR : World) (p : Nat) (X : Mx), WR = wr ∧ p ≤ m ∧ j = .int .i64 p ∧ RefAt wr F n false X ∧ Hid (Tw m A (mnS A B) X p 0) ∧ RefAt wr R1 n false A ∧ RefAt wr R2 n false B ∧ Hid (Rgn F.lo F.hi v2 wr)) (fun j _ => m - (intOf j).toNat)
  case atStart => exact ⟨_, 0, A, rfl, by omega, rfl, hF2, Tw.first _ _ _, h1, h2, o1⟩
  case round =>
    clear hF2 h1 h2 o1
    obtain ⟨WR, p, X, rfl, hp, rfl, hF, hX, h1, h2, cg⟩ := hrel
    have h0 := h1.hn
    have he := hF.he
    by_cases cp : p < m
    · have cp' : (p : Int) < (m : Int) := by omega
      go_wp2_with fail
      clear h0 he
      go_loopw [7] (fun j wr => ∃ (WS : World) (q : Nat) (Y : Mx), WS = wr ∧ q ≤ m ∧ j = .int .i64 q ∧ RefAt wr F n false Y ∧ Hid (Tw m A (mnS A B) Y p q) ∧ RefAt wr R1 n false A ∧ RefAt wr R2 n false B ∧ Hid (Rgn F.lo F.hi v2 wr)) (fun j _ => m - (intOf j).toNat)
      case atStart => exact ⟨_, 0, X, rfl, by omega, rfl, hF, hX, h1, h2, cg⟩
      case round =>
        clear hF hX h1 h2 cg
        obtain ⟨WS, q, Y, rfl, hq, rfl, hF, hY, h1, h2, cg⟩ := hrel
        have h0 := h1.hn
        by_cases cq : q < m
        · have cq' : (q : Int) < (m : Int) := by omega
          have wq : IntKind.i64.wrap ((q : Int) + 1) = ((q + 1 : Nat) : Int) := by rw [IntKind.wrap_i64]; omega
          have pn : p < 2 * n := by have := hm'.out; omega
          have qn : q < 2 * n := by have := hm'.out; omega
          have gs := h2.hs
          have gr1 := h2.hr p pn
          have gm1 := h2.hm p q pn qn
          rw [hm'.out] at gs gr1
          have x3 := rix2 R2.pb m R2.pc p cp
          have x4 := rix (R2.rb p) m (R2.rc p) q cq
          have kb := rbound F n false Y p q pn qn (B p q) WS hF
          have hY2 : Hid (Tw m A (mnS A B) (bnd Y p q (B p q)) p (q + 1)) := by
            have e1 := hm'.out
            have := meet_step tt.out.1 tt.out.2 pn qn (by rw [e1]; exact hY.out)
            rw [e1] at this
            exact this
          generalize bnd Y p q (B p q) = Y2 at *
          generalize B p q = yb at *
          clear hY pn qn hF
          go_wp2_with (first
            | (go_at_call 91; refine kb.mono ?_; rintro r w5 ⟨rfl, hF, c5⟩)
            | fail)
          exact ⟨⟨_, q + 1, Y2, rfl, by omega, by simp, hF, hY2, h1.rgn c5 (Or.inr (by have := dF.out.1; have := hR1'.out; omega)), h2.rgn c5 (Or.inr (by have := dF.out.1; have := hR2'.out; omega)), cg.out.trans c5⟩, by simp [intOf]; omega⟩
        · have eq : q = m := by omega
          subst eq
          clear cq hq
          have wp1 : IntKind.i64.wrap ((p : Int) + 1) = ((p + 1 : Nat) : Int) := by rw [IntKind.wrap_i64]; omega
          have hY2 : Hid (Tw q A (mnS A B) Y (p + 1) 0) := hY.out.next
          clear hY
          go_wp2_with fail
          go_roundw
          case rel => exact ⟨_, p + 1, Y, rfl, by omega, by first | rfl | go_num, hF, hY2, h1, h2, cg⟩
          case measure => simp [intOf]; omega
    · have ep : p = m := by omega
      subst ep
      clear cp hp
      have ag : Agr n X (mnS A B) := by
        have q := hX.out
        rw [← hm'.out] at q
        exact q.all
      have kt2 := kt WR F X ag hF
      have ag' : Hid (Agr n X (mnS A B)) := ag
      clear kt ag hX hF
      go_wp2_with (first
        | (go_at_call 92; refine kt2.mono ?_; rintro r w5 ⟨rfl, ⟨e5, T5, hO5, r5⟩, c5⟩)
        | fail)
      go_ret
      have cz := cg.out.trans c5
      have z5 := cz.size
      exact ⟨⟨F, e5, T5, rfl, by rw [dF.out.1]; exact Nat.le_refl _, by have := dF.out.2; omega, hO5, (hJ X e5 T5 ag'.out r5).out⟩, below_rgn cc cz (by rw [dF.out.1]; exact Nat.le_refl _)⟩
set_option maxRecDepth 100000 in
set_option maxHeartbeats 1600000 in
theorem rmeetX (R1 R2 : Rf) (n : Nat) (hn1 : 1 ≤ n) (hn : n ≤ 4) (e1 e2 : Bool) (he : e1 = true ∨ e2 = true) (A B : Mx) (w : World) (hR1 : R1.hi ≤ w.heap.size) (hR2 : R2.hi ≤ w.heap.size) (h1 : RefAt w R1 n e1 A) (h2 : RefAt w R2 n e2 B) :
    Calls Try.prog 72 #[.pointer (some ⟨R1.b, 0, none⟩), .pointer (some ⟨R2.b, 0, none⟩)] w fun r w' => RefNew w w' r n (MeetR n e1 A e2 B) ∧ Below w.heap.size w w' := by
  have ka := rfits R1 R2 n e1 e2 A B w h1 h2
  have kf := fun V h1 => rfork R1 n hn1 hn e1 A V h1
  have hJ : ∀ T, Hid (MeetR n e1 A e2 B true T) := fun T => Or.inl ⟨he, rfl⟩
  have eo : (e1 || e2) = true := by simpa using he
  have wm : IntKind.i64.wrap (2 * (n : Int)) = 2 * (n : Int) := by rw [IntKind.wrap_i64]; omega
  have lt0 : (0 : Int) < 2 * (n : Int) := by omega
  have hn1' : Hid (1 ≤ n) := hn1
  clear hn1 hn hR1 hR2
  have x1 := h1.he
  have x2 := h2.he
  go_enter Try.func72, Try.ntmps72
  go_upto_region 4 with (first
    | (go_at_call 46; refine ka.mono ?_; rintro r v1 ⟨rfl, k, rfl⟩; replace h1 := h1.drewN k; replace h2 := h2.drewN k; replace x1 := h1.he; replace x2 := h2.he)
    | (go_at_call 33; refine (kf _ h1).mono ?_; rintro r v2 ⟨⟨F, rfl, f1, f2, hF⟩, g⟩)
    | fail)
  replace h1 := h1.on g
  replace h2 := h2.on g
  have cc : Below w.heap.size w v2 := ⟨g.os, g.tape, g.output, g.size, g.block⟩
  have dF : Hid (F.lo = w.heap.size ∧ F.hi ≤ v2.heap.size) := ⟨f1, f2⟩
  replace x1 := h1.he
  replace x2 := h2.he
  have x3 := hF.he
  have x4 := hF.fe 2
  have hF2 := hF.setE true
  have o1 := (Rgn.refl F.lo F.hi v2).set (b := F.b) (j := 2) hF.ib.1 hF.ib.2 (.bool true)
  have y2 := hF2.he
  have y3 := World.cell?_setCell_other v2 ⟨F.b, 2, none⟩ ⟨R1.b, 0, none⟩ (.bool true) (by simp)
  rw [h1.hn] at y3
  have z2 := o1.size
  have kt := rtightX F n A _ hF2
  clear kf ka f1 f2 g
  rcases he with rfl | rfl
  · go_upto_region 5 with fail
    generalize v2.setCell ⟨F.b, 2, none⟩ (.bool true) = V0 at *
    clear x1 x2 x3 x4 h1 h2
    go_wp2_with fail
    go_loopw [6] (fun j wr => j = .int .i64 0 ∧ wr = V0) (fun _ _ => 0)
    case atStart => exact ⟨rfl, rfl⟩
    case round =>
      obtain ⟨rfl, rfl⟩ := hrel
      go_wp2_with (first
        | (go_at_call 92; refine kt.mono ?_; rintro r w5 ⟨rfl, hw5⟩; subst w5)
        | fail)
      go_ret
      exact ⟨⟨F, true, A, rfl, by rw [dF.out.1]; exact Nat.le_refl _, by have := dF.out.2; omega, hF2, (hJ A).out⟩, below_rgn cc o1 (by rw [dF.out.1]; exact Nat.le_refl _)⟩
  · cases e1
    all_goals
      go_upto_region 5 with fail
      generalize v2.setCell ⟨F.b, 2, none⟩ (.bool true) = V0 at *
      clear x1 x2 x3 x4 h1 h2
      go_wp2_with fail
      go_loopw [6] (fun j wr => j = .int .i64 0 ∧ wr = V0) (fun _ _ => 0)
      case atStart => exact ⟨rfl, rfl⟩
      case round =>
        obtain ⟨rfl, rfl⟩ := hrel
        go_wp2_with (first
          | (go_at_call 92; refine kt.mono ?_; rintro r w5 ⟨rfl, hw5⟩; subst w5)
          | fail)
        go_ret
        exact ⟨⟨F, true, A, rfl, by rw [dF.out.1]; exact Nat.le_refl _, by have := dF.out.2; omega, hF2, (hJ A).out⟩, below_rgn cc o1 (by rw [dF.out.1]; exact Nat.le_refl _)⟩
theorem rmeet (R1 R2 : Rf) (n : Nat) (hn1 : 1 ≤ n) (hn : n ≤ 4) (e1 e2 : Bool) (A B : Mx) (t1 : e1 = false → Tt n A) (t2 : e2 = false → Tt n B) (w : World) (hR1 : R1.hi ≤ w.heap.size) (hR2 : R2.hi ≤ w.heap.size) (h1 : RefAt w R1 n e1 A) (h2 : RefAt w R2 n e2 B) :
    Calls Try.prog 72 #[.pointer (some ⟨R1.b, 0, none⟩), .pointer (some ⟨R2.b, 0, none⟩)] w fun r w' => RefNew w w' r n (MeetR n e1 A e2 B) ∧ Below w.heap.size w w' := by
  cases e1
  · cases e2
    · exact rmeetF R1 R2 n hn1 hn A B (t1 rfl) (t2 rfl) w hR1 hR2 h1 h2
    · exact rmeetX R1 R2 n hn1 hn false true (Or.inr rfl) A B w hR1 hR2 h1 h2
  · exact rmeetX R1 R2 n hn1 hn true e2 (Or.inl rfl) A B w hR1 hR2 h1 h2
end Go.Proofs.Ytpcbammncaeimaa


namespace Go.Proofs.Ytpcbammncaeimaa
open Go.RowKit
set_option linter.unusedVariables false
set_option linter.unusedSimpArgs false
set_option maxRecDepth 100000 in
set_option maxHeartbeats 3200000 in
theorem rwidenF (R1 R2 : Rf) (n : Nat) (hn1 : 1 ≤ n) (hn : n ≤ 4) (A B : Mx) (t1 : Tt n A) (t2 : Tt n B) (w : World) (hR1 : R1.hi ≤ w.heap.size) (hR2 : R2.hi ≤ w.heap.size) (h1 : RefAt w R1 n false A) (h2 : RefAt w R2 n false B) :
    Calls Try.prog 73 #[.pointer (some ⟨R1.b, 0, none⟩), .pointer (some ⟨R2.b, 0, none⟩)] w fun r w' => RefNew w w' r n (WidenR n false A false B) ∧ Below w.heap.size w w' := by
  have ka := rfits R1 R2 n false false A B w h1 h2
  obtain ⟨m, hm⟩ : ∃ m, 2 * n = m := ⟨_, rfl⟩
  have h8 : m ≤ 8 := by omega
  have wm : IntKind.i64.wrap (2 * (n : Int)) = (m : Int) := by rw [IntKind.wrap_i64]; omega
  have hm' : Hid (2 * n = m) := hm
  have hR1' : Hid (R1.hi ≤ w.heap.size) := hR1
  have hR2' : Hid (R2.hi ≤ w.heap.size) := hR2
  have tt : Hid (Tt n A ∧ Tt n B) := ⟨t1, t2⟩
  have kf := fun V => rnew n hn1 hn V
  have kt := fun V R X (a : Agr n X (wdS A B)) hV => rtight R n hn X (fun x y hx hy => by
    rw [a x y hx hy]
    have := t1.up x y hx hy
    have := t2.up x y hx hy
    have := t1.low hx hy
    have := t2.low hx hy
    unfold wdS kep
    split <;> omega) V hV
  have hJ : ∀ X e' T, Agr n X (wdS A B) → Res n X e' T → Hid (WidenR n false A false B e' T) := fun X e' T q r => Or.inr (Or.inr ⟨rfl, rfl, r.agr q⟩)
  clear hm hn1 hn t1 t2 hR1 hR2
  have x1 := h1.he
  have x2 := h2.he
  go_enter Try.func73, Try.ntmps73
  go_upto_region 8 with (first
    | (go_at_call 46; refine ka.mono ?_; rintro r v1 ⟨rfl, k, rfl⟩; replace h1 := h1.drewN k; replace h2 := h2.drewN k; replace x1 := h1.he; replace x2 := h2.he; have x0 := h1.hn)
    | (go_at_call 32; refine (kf _).mono ?_; rintro r v2 ⟨⟨F, rfl, f1, f2, hF⟩, g⟩)
    | fail)
  replace h1 := h1.on g
  replace h2 := h2.on g
  have cc : Below w.heap.size w v2 := ⟨g.os, g.tape, g.output, g.size, g.block⟩
  have dF : Hid (F.lo = w.heap.size ∧ F.hi ≤ v2.heap.size) := ⟨f1, f2⟩
  clear kf ka f1 f2 g x0 x1 x2
  go_wp2_with fail
  go_loopw [6] (fun j wr => ∃ (WR : World) (p : Nat) (X : Mx), WR = wr ∧ p ≤ m ∧ j = .int .i64 p ∧ RefAt wr F n false X ∧ Hid (Tw m bx (wdS A B) X p 0) ∧ RefAt wr R1 n false A ∧ RefAt wr R2 n false B ∧ Hid (Rgn F.lo F.hi v2 wr)) (fun j _ => m - (intOf j).toNat)
  case atStart => exact ⟨_, 0, bx, rfl, by omega, rfl, hF, Tw.first _ _ _, h1, h2, Rgn.refl _ _ _⟩
  case round =>
    clear hF h1 h2
    obtain ⟨WR, p, X, rfl, hp, rfl, hF, hX, h1, h2, cg⟩ := hrel
    have h0 := h1.hn
    by_cases cp : p < m
    · have cp' : (p : Int) < (m : Int) := by omega
      go_wp2_with fail
      clear h0
      go_loopw [7] (fun j wr => ∃ (WS : World) (q : Nat) (Y : Mx), WS = wr ∧ q ≤ m ∧ j = .int .i64 q ∧ RefAt wr F n false Y ∧ Hid (Tw m bx (wdS A B) Y p q) ∧ RefAt wr R1 n false A ∧ RefAt wr R2 n false B ∧ Hid (Rgn F.lo F.hi v2 wr)) (fun j _ => m - (intOf j).toNat)
      case atStart => exact ⟨_, 0, X, rfl, by omega, rfl, hF, hX, h1, h2, cg⟩
      case round =>
        clear hF hX h1 h2 cg
        obtain ⟨WS, q, Y, rfl, hq, rfl, hF, hY, h1, h2, cg⟩ := hrel
        have h0 := h1.hn
        by_cases cq : q < m
        · have cq' : (q : Int) < (m : Int) := by omega
          have wq : IntKind.i64.wrap ((q : Int) + 1) = ((q + 1 : Nat) : Int) := by rw [IntKind.wrap_i64]; omega
          have pn : p < 2 * n := by have := hm'.out; omega
          have qn : q < 2 * n := by have := hm'.out; omega
          have gs := h2.hs
          have gr1 := h2.hr p pn
          have gm1 := h2.hm p q pn qn
          have as1 := h1.hs
          have ar1 := h1.hr p pn
          have am1 := h1.hm p q pn qn
          rw [hm'.out] at gs gr1 as1 ar1
          have x1 := rix2 R1.pb m R1.pc p cp
          have x2 := rix (R1.rb p) m (R1.rc p) q cq
          have x3 := rix2 R2.pb m R2.pc p cp
          have x4 := rix (R2.rb p) m (R2.rc p) q cq
          by_cases lt : B p q ≤ A p q
          · have kb := fun V hV => rbound F n false Y p q pn qn (A p q) V hV
            have hY2 : Hid (Tw m bx (wdS A B) (bnd Y p q (A p q)) p (q + 1)) := by
              have e1 := hm'.out
              have := wide_step tt.out.1 tt.out.2 pn qn lt (by rw [e1]; exact hY.out)
              rw [e1] at this
              exact this
            generalize bnd Y p q (A p q) = Y2 at *
            generalize hyb : B p q = yb at *
            generalize hya : A p q = ya at *
            clear hY
            go_upto_region 14 with fail
            go_quiet (fail)
            replace hF := hF.drewN nq
            replace h1 := h1.drewN nq
            replace h2 := h2.drewN nq
            replace cg : Hid (Rgn F.lo F.hi v2 (WS.drewN nq)) := cg.out.drewN nq
            clear gs gr1 gm1 as1 ar1 am1 h0
            generalize WS.drewN nq = W0 at *
            have as1 := h1.hs
            have ar1 := h1.hr p pn
            have am1 := h1.hm p q pn qn
            rw [hm'.out] at as1 ar1
            rw [hya] at am1
            clear hya hyb pn qn
            go_wp2_with (first
              | (go_at_call 91; refine (kb _ hF).mono ?_; rintro r w5 ⟨rfl, hF, c5⟩)
              | fail)
            exact ⟨⟨_, q + 1, Y2, rfl, by omega, by simp, hF, hY2, h1.rgn c5 (Or.inr (by have := dF.out.1; have := hR1'.out; omega)), h2.rgn c5 (Or.inr (by have := dF.out.1; have := hR2'.out; omega)), cg.out.trans c5⟩, by simp [intOf]; omega⟩
          · have hY2 : Hid (Tw m bx (wdS A B) Y p (q + 1)) := by
              have e1 := hm'.out
              have := wide_keep tt.out.1 tt.out.2 pn qn lt (by rw [e1]; exact hY.out)
              rw [e1] at this
              exact this
            generalize B p q = yb at *
            generalize A p q = ya at *
            clear hY pn qn
            go_upto_region 14 with fail
            go_quiet (fail)
            go_wp2_with fail
            exact ⟨⟨_, q + 1, Y, rfl, by omega, by simp, hF.drewN _, hY2, h1.drewN _, h2.drewN _, cg.out.drewN _⟩, by simp [intOf]; omega⟩
        · have eq : q = m := by omega
          subst eq
          clear cq hq
          have wp1 : IntKind.i64.wrap ((p : Int) + 1) = ((p + 1 : Nat) : Int) := by rw [IntKind.wrap_i64]; omega
          have hY2 : Hid (Tw q bx (wdS A B) Y (p + 1) 0) := hY.out.next
          clear hY
          go_wp2_with fail
          go_roundw
          case rel => exact ⟨_, p + 1, Y, rfl, by omega, by first | rfl | go_num, hF, hY2, h1, h2, cg⟩
          case measure => simp [intOf]; omega
    · have ep : p = m := by omega
      subst ep
      clear cp hp
      have ag : Agr n X (wdS A B) := by
        have q := hX.out
        rw [← hm'.out] at q
        exact q.all
      have kt2 := kt WR F X ag hF
      have ag' : Hid (Agr n X (wdS A B)) := ag
      clear kt ag hX hF
      go_wp2_with (first
        | (go_at_call 92; refine kt2.mono ?_; rintro r w5 ⟨rfl, ⟨e5, T5, hO5, r5⟩, c5⟩)
        | fail)
      go_ret
      have cz := cg.out.trans c5
      have z5 := cz.size
      exact ⟨⟨F, e5, T5, rfl, by rw [dF.out.1]; exact Nat.le_refl _, by have := dF.out.2; omega, hO5, (hJ X e5 T5 ag'.out r5).out⟩, below_rgn cc cz (by rw [dF.out.1]; exact Nat.le_refl _)⟩
set_option maxRecDepth 100000 in
set_option maxHeartbeats 1600000 in
theorem rwiden (R1 R2 : Rf) (n : Nat) (hn1 : 1 ≤ n) (hn : n ≤ 4) (e1 e2 : Bool) (A B : Mx) (t1 : e1 = false → Tt n A) (t2 : e2 = false → Tt n B) (w : World) (hR1 : R1.hi ≤ w.heap.size) (hR2 : R2.hi ≤ w.heap.size) (h1 : RefAt w R1 n e1 A) (h2 : RefAt w R2 n e2 B) :
    Calls Try.prog 73 #[.pointer (some ⟨R1.b, 0, none⟩), .pointer (some ⟨R2.b, 0, none⟩)] w fun r w' => RefNew w w' r n (WidenR n e1 A e2 B) ∧ Below w.heap.size w w' := by
  have ka := rfits R1 R2 n e1 e2 A B w h1 h2
  cases e1
  · cases e2
    · exact rwidenF R1 R2 n hn1 hn A B (t1 rfl) (t2 rfl) w hR1 hR2 h1 h2
    · have kt := fun V h1 => rfork R1 n hn1 hn false A V h1
      have hA : Hid (WidenR n false A true B false A) := Or.inr (Or.inl ⟨rfl, rfl, rfl, fun _ _ _ _ => rfl⟩)
      clear t1 t2
      go_enter Try.func73, Try.ntmps73
      have x1 := h1.he
      have x2 := h2.he
      go_wp2_with (first
        | (go_at_call 46; refine ka.mono ?_; rintro r v1 ⟨rfl, k, rfl⟩; replace h1 := h1.drewN k; replace h2 := h2.drewN k; replace x1 := h1.he; replace x2 := h2.he)
        | (go_at_call 33; refine (kt _ h1).mono ?_; rintro r v2 ⟨⟨F, rfl, f1, f2, hF⟩, g⟩)
        | fail)
      go_ret
      exact ⟨⟨F, false, A, rfl, by rw [f1]; exact Nat.le_refl _, f2, hF, hA.out⟩, ⟨g.os, g.tape, g.output, g.size, g.block⟩⟩
  · have kt := fun V h2 => rfork R2 n hn1 hn e2 B V h2
    have hA : Hid (WidenR n true A e2 B e2 B) := Or.inl ⟨rfl, rfl, fun _ _ _ _ _ => rfl⟩
    clear t1 t2
    go_enter Try.func73, Try.ntmps73
    have x1 := h1.he
    have x2 := h2.he
    go_wp2_with (first
      | (go_at_call 46; refine ka.mono ?_; rintro r v1 ⟨rfl, k, rfl⟩; replace h1 := h1.drewN k; replace h2 := h2.drewN k; replace x1 := h1.he; replace x2 := h2.he)
      | (go_at_call 33; refine (kt _ h2).mono ?_; rintro r v2 ⟨⟨F, rfl, f1, f2, hF⟩, g⟩)
      | fail)
    go_ret
    exact ⟨⟨F, e2, B, rfl, by rw [f1]; exact Nat.le_refl _, f2, hF, hA.out⟩, ⟨g.os, g.tape, g.output, g.size, g.block⟩⟩
end Go.Proofs.Ytpcbammncaeimaa


namespace Go.Proofs.Ytpcbammncaeimaa
set_option linter.unusedVariables false
set_option linter.unusedSimpArgs false
structure Dd where
  kd : Int
  i : Int
  k : Int
  ni : Bool
  nk : Bool
  c : Int
  ea : Bool
  lo : Int
  hh : Int
def Dd.v (d : Dd) : Value := .agg #[.int .i64 d.kd, .int .i64 d.i, .int .i64 d.k, .bool d.ni, .bool d.nk, .int .i64 d.c, .bool d.ea, .int .i64 d.lo, .int .i64 d.hh]
def StpR (n : Nat) (d : Dd) (e1 : Bool) (A : Mx) (e2 : Bool) (B : Mx) (er : Int) (e' : Bool) (T' : Mx) : Prop :=
  if d.kd = 0 then Act5 n (LimBad n d.i d.k d.c) (LimGo n d.i d.ni d.k d.nk d.c) e1 A er e' T'
  else if d.kd = 1 then Act5 n (SetBad n d.i d.ea d.lo d.hh) (SetGo n d.i d.ea d.lo d.hh) e1 A er e' T'
  else if d.kd = 2 then Act5 n (FgtBad n d.i) (FgtGo n d.i) e1 A er e' T'
  else if d.kd = 3 then Act5 n (CpyBad n d.i d.k d.c) (CpyGo n d.i d.k d.ni d.c) e1 A er e' T'
  else if d.kd = 4 then Act5 n (ShfBad n d.i d.c) (ShfGo n d.i d.ni d.c) e1 A er e' T'
  else if d.kd = 5 then er = 0 ∧ JoinR n e1 A e2 B e' T'
  else if d.kd = 6 then er = 0 ∧ MeetR n e1 A e2 B e' T'
  else er = 0 ∧ WidenR n e1 A e2 B e' T'
theorem agr_of {n : Nat} {A B : Mx} (h : Le n A B ∧ Le n B A) : Agr n A B := fun a b ha hb => by have := h.1 a b ha hb; have := h.2 a b ha hb; omega
def Sm (n : Nat) (e : Bool) (T : Mx) (e' : Bool) (T' : Mx) : Prop := e = e' ∧ (e = false → Agr n T T' ∧ Tt n T)
theorem Act5.one {n : Nat} {bad : Prop} {go : Mx → Bool → Mx → Prop} {e : Bool} {A A2 T T2 : Mx} {er er2 : Int} {e' e2' : Bool} (ag : e = false → Agr n A A2) (t : e = false → Tt n A) (h1 : Act5 n bad go e A er e' T) (h2 : Act5 n bad go e A2 er2 e2' T2)
    (hg : e = false → ¬ bad → go A e' T → go A2 e2' T2 → Sm n e' T e2' T2) : er = er2 ∧ Sm n e' T e2' T2 := by
  rcases h1 with ⟨b1, r1, q1, a1⟩ | ⟨b1, r1, q1⟩ <;> rcases h2 with ⟨b2, r2, q2, a2⟩ | ⟨b2, r2, q2⟩
  · refine ⟨by rw [r1, r2], by rw [q1, q2], fun he => ?_⟩
    rw [q1] at he
    have a1 := a1 he
    exact ⟨(a1.trans (ag he)).trans (a2 he).symm, (t he).to a1.symm⟩
  · exact absurd b1 b2
  · exact absurd b2 b1
  · refine ⟨by rw [r1, r2], ?_⟩
    rcases q1 with ⟨he, e1⟩ | ⟨he, g1⟩ <;> rcases q2 with ⟨he2, e2⟩ | ⟨he2, g2⟩
    · exact ⟨by rw [e1, e2], fun q => by rw [e1] at q; cases q⟩
    · rw [he] at he2; cases he2
    · rw [he] at he2; cases he2
    · exact hg he b1 g1 g2
theorem Res.sm {n : Nat} {S S' T T' : Mx} {e e' : Bool} (h : Res n S e T) (h' : Res n S' e' T') (a : Agr n S S') (tt : Bst n S T → Tt n T) : Sm n e T e' T' := by
  obtain ⟨h1, h2⟩ := h.one h' fun X _ => a.le_iff X
  refine ⟨h1, fun q => ⟨agr_of (h2 q), ?_⟩⟩
  rcases h with ⟨_, b⟩ | ⟨r, _⟩
  · exact tt b
  · rw [r] at q; cases q
theorem low_tt {n : Nat} {M S T : Mx} (t : Tt n M) (l : Le n S M) (sy : ∀ a b, a < 2 * n → b < 2 * n → S a b = S b a) (b : Bst n S T) : Tt n T :=
  b.tt sy (fun a ha => Int.le_trans (l a _ ha (ot_lt ha)) (Int.le_of_eq (t.opp a ha))) (fun a c ha hc => Int.le_trans (b.le a c ha hc) (Int.le_trans (l a c ha hc) (t.up a c ha hc)))
theorem isv_sd {n : Nat} {i : Int} (h : Isv n i) : 2 * i.toNat < 2 * n ∧ 2 * i.toNat + 1 < 2 * n := by unfold Isv at h; omega
theorem fgt_agr {n i : Nat} {A B : Mx} (h : Agr n A B) : Agr n (fgt i A) (fgt i B) := fun a b ha hb => by
  unfold fgt
  rw [h a b ha hb]
theorem mv_agr {n i : Nat} {g : Bool} {c : Int} {A B : Mx} (h : Agr n A B) : Agr n (clp (mv g i c A)) (clp (mv g i c B)) := fun a b ha hb => by
  unfold clp mv
  rw [h _ _ (fr_lt2 ha) (fr_lt2 hb)]
theorem gn_ot (i : Nat) (c : Int) (a : Nat) : gn i c (ot a) = - gn i c a := by
  unfold gn ot
  split <;> split <;> (try split) <;> (try split) <;> (try split) <;> omega
theorem fr_ot (g : Bool) (i a : Nat) : fr g i (ot a) = ot (fr g i a) := by
  unfold fr
  rw [ot_div]
  split
  · rfl
  · rfl
theorem shf_tt {n i : Nat} {g : Bool} {c : Int} {M T : Mx} (t : Tt n M) (b : Bst n (clp (mv g i c M)) T) : Tt n T :=
  b.tt (fun x y hx hy => by
    unfold clp mv
    rw [t.sym _ _ (fr_lt2 hx) (fr_lt2 hy)]
    omega) (fun a ha => by
    unfold clp mv
    have := t.opp _ (fr_lt2 (g := g) (i := i) ha)
    rw [fr_ot, gn_ot, this]
    omega) (fun x y hx hy => Int.le_trans (b.le x y hx hy) (by unfold clp; omega))
theorem mx_tt {n : Nat} {A B T : Mx} (a : Tt n A) (b : Tt n B) (h : Bst n (mxS A B) T) : Tt n T :=
  h.tt (fun x y hx hy => by unfold mxS; rw [a.sym x y hx hy, b.sym x y hx hy]) (fun x hx => by unfold mxS; rw [a.opp x hx, b.opp x hx]; simp) (fun x y hx hy => Int.le_trans (h.le x y hx hy) (by have := a.up x y hx hy; have := b.up x y hx hy; unfold mxS; split <;> omega))
theorem mn_tt {n : Nat} {A B T : Mx} (a : Tt n A) (b : Tt n B) (h : Bst n (mnS A B) T) : Tt n T :=
  h.tt (fun x y hx hy => by unfold mnS; rw [a.sym x y hx hy, b.sym x y hx hy]) (fun x hx => by unfold mnS; rw [a.opp x hx, b.opp x hx]; simp) (fun x y hx hy => Int.le_trans (h.le x y hx hy) (by have := a.up x y hx hy; have := b.up x y hx hy; unfold mnS; split <;> omega))
theorem wd_tt {n : Nat} {A B T : Mx} (a : Tt n A) (b : Tt n B) (h : Bst n (wdS A B) T) : Tt n T :=
  h.tt (fun x y hx hy => by unfold wdS; rw [a.sym x y hx hy, b.sym x y hx hy]) (fun x hx => by unfold wdS kep; rw [a.opp x hx, b.opp x hx]; simp) (fun x y hx hy => Int.le_trans (h.le x y hx hy) (by have := a.up x y hx hy; unfold wdS kep; split <;> omega))
theorem Bin.one {n : Nat} {go : Mx → Mx → Bool → Mx → Prop} {e1 e2 : Bool} {A A2 B B2 T T2 : Mx} {e' e2' : Bool} (aa : e1 = false → Agr n A A2) (ta : e1 = false → Tt n A) (ab : e2 = false → Agr n B B2) (tb : e2 = false → Tt n B) (h1 : Bin n go e1 A e2 B e' T) (h2 : Bin n go e1 A2 e2 B2 e2' T2)
    (hg : e1 = false → e2 = false → go A B e' T → go A2 B2 e2' T2 → Sm n e' T e2' T2) : Sm n e' T e2' T2 := by
  rcases h1 with ⟨p1, p2, p3⟩ | ⟨p1, p2, p3, p4⟩ | ⟨p1, p2, p3⟩ <;> rcases h2 with ⟨q1, q2, q3⟩ | ⟨q1, q2, q3, q4⟩ | ⟨q1, q2, q3⟩
  · refine ⟨by rw [p2, q2], fun he => ?_⟩
    rw [p2] at he
    exact ⟨((p3 he).trans (ab he)).trans (q3 he).symm, (tb he).to (p3 he).symm⟩
  · rw [p1] at q1; cases q1
  · rw [p1] at q1; cases q1
  · rw [p1] at q1; cases q1
  · exact ⟨by rw [p3, q3], fun _ => ⟨(p4.trans (aa p1)).trans q4.symm, (ta p1).to p4.symm⟩⟩
  · rw [p2] at q2; cases q2
  · rw [p1] at q1; cases q1
  · rw [p2] at q2; cases q2
  · exact hg p1 p2 p3 q3
theorem stp_one {n : Nat} {d : Dd} {e1 e2 : Bool} {A A2 B B2 T T2 : Mx} {er er2 : Int} {e' e2' : Bool} (aa : e1 = false → Agr n A A2) (ta : e1 = false → Tt n A) (ab : e2 = false → Agr n B B2) (tb : e2 = false → Tt n B) (h1 : StpR n d e1 A e2 B er e' T) (h2 : StpR n d e1 A2 e2 B2 er2 e2' T2) : er = er2 ∧ Sm n e' T e2' T2 := by
  unfold StpR at h1 h2
  by_cases k0 : d.kd = 0
  · rw [if_pos k0] at h1 h2
    refine h1.one aa ta h2 fun he nb g1 g2 => ?_
    have good := Classical.not_not.1 nb
    exact Res.sm g1 g2 ((aa he).low (sdn_lt good.1 _) (sdn_lt good.2.1 _) _) (low_tt (ta he) (fun a b _ _ => low_le _ _ _ _ _ _) (fun a b ha hb => low_sym (ta he).sym _ _ _ ha hb))
  · rw [if_neg k0] at h1 h2
    by_cases k1 : d.kd = 1
    · rw [if_pos k1] at h1 h2
      refine h1.one aa ta h2 fun he nb g1 g2 => ?_
      have good := Classical.not_not.1 nb
      have sd := isv_sd good.1
      rcases g1 with ⟨p1, p2⟩ | ⟨p1, p2⟩ <;> rcases g2 with ⟨q1, q2⟩ | ⟨q1, q2⟩
      · exact ⟨by rw [p2, q2], fun q => by rw [p2] at q; cases q⟩
      · rw [p1] at q1; cases q1
      · rw [p1] at q1; cases q1
      · exact Res.sm p2 q2 (((aa he).low sd.1 sd.1 _).low sd.2 sd.2 _) (low_tt (ta he) (fun a b _ _ => Int.le_trans (low_le _ _ _ _ _ _) (low_le _ _ _ _ _ _)) (fun a b ha hb => low_sym (fun a b ha hb => low_sym (ta he).sym _ _ _ ha hb) _ _ _ ha hb))
    · rw [if_neg k1] at h1 h2
      by_cases k2 : d.kd = 2
      · rw [if_pos k2] at h1 h2
        refine h1.one aa ta h2 fun he nb g1 g2 => ?_
        exact Res.sm (Or.inl g1) (Or.inl g2) (fgt_agr (aa he)) (fgt_tt (ta he))
      · rw [if_neg k2] at h1 h2
        by_cases k3 : d.kd = 3
        · rw [if_pos k3] at h1 h2
          refine h1.one aa ta h2 fun he nb g1 g2 => ?_
          obtain ⟨T1, b1, r1⟩ := g1
          obtain ⟨T3, b3, r3⟩ := g2
          have good : Isv n d.i ∧ Isv n d.k := by
            refine Classical.byContradiction fun q => nb (Or.inl fun r => q ⟨r.1, r.2.1⟩)
          have tt1 := fgt_tt (ta he) b1
          have a1 : Agr n T1 T3 := ((Res.sm (Or.inl ⟨rfl, b1⟩) (Or.inl ⟨rfl, b3⟩) (fgt_agr (aa he)) (fun _ => tt1)).2 rfl).1
          have x1 := sdn_lt good.1 false
          have y1 := sdn_lt good.2 d.ni
          exact Res.sm r1 r3 ((a1.low x1 (ot_lt y1) _).low (ot_lt x1) y1 _) (low_tt tt1 (fun a b _ _ => Int.le_trans (low_le _ _ _ _ _ _) (low_le _ _ _ _ _ _)) (fun a b ha hb => low_sym (fun a b ha hb => low_sym tt1.sym _ _ _ ha hb) _ _ _ ha hb))
        · rw [if_neg k3] at h1 h2
          by_cases k4 : d.kd = 4
          · rw [if_pos k4] at h1 h2
            refine h1.one aa ta h2 fun he nb g1 g2 => ?_
            exact Res.sm g1 g2 (mv_agr (aa he)) (shf_tt (ta he))
          · rw [if_neg k4] at h1 h2
            by_cases k5 : d.kd = 5
            · rw [if_pos k5] at h1 h2
              refine ⟨by rw [h1.1, h2.1], Bin.one aa ta ab tb h1.2 h2.2 fun p q g1 g2 => ?_⟩
              exact Res.sm (Or.inl g1) (Or.inl g2) (fun a b ha hb => by unfold mxS; rw [aa p a b ha hb, ab q a b ha hb]) (mx_tt (ta p) (tb q))
            · rw [if_neg k5] at h1 h2
              by_cases k6 : d.kd = 6
              · rw [if_pos k6] at h1 h2
                refine ⟨by rw [h1.1, h2.1], ?_⟩
                rcases h1.2 with ⟨p1, p2⟩ | ⟨p1, p2, p3⟩ <;> rcases h2.2 with ⟨q1, q2⟩ | ⟨q1, q2, q3⟩
                · exact ⟨by rw [p2, q2], fun q => by rw [p2] at q; cases q⟩
                · rw [q1, q2] at p1; simp at p1
                · rw [p1, p2] at q1; simp at q1
                · exact Res.sm p3 q3 (fun a b ha hb => by unfold mnS; rw [aa p1 a b ha hb, ab p2 a b ha hb]) (mn_tt (ta p1) (tb p2))
              · rw [if_neg k6] at h1 h2
                refine ⟨by rw [h1.1, h2.1], Bin.one aa ta ab tb h1.2 h2.2 fun p q g1 g2 => ?_⟩
                exact Res.sm g1 g2 (fun a b ha hb => by unfold wdS; rw [aa p a b ha hb, ab q a b ha hb]) (wd_tt (ta p) (tb q))
end Go.Proofs.Ytpcbammncaeimaa


