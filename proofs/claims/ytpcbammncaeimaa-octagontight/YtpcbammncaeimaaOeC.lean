/- The reference's Widen. -/
import Derived.Test.YtpcbammncaeimaaOeB
namespace Go.Proofs.Ytpcbammncaeimaa
open Go.RowKit
set_option linter.unusedVariables false
set_option linter.unusedSimpArgs false
set_option maxRecDepth 100000 in
set_option maxHeartbeats 3200000 in
theorem rwidenF (R1 R2 : Rf) (n : Nat) (hn1 : 1 ≤ n) (hn : n ≤ 4) (A B : Mx) (t1 : Tt n A) (t2 : Tt n B) (w : World) (hR1 : R1.hi ≤ w.heap.size) (hR2 : R2.hi ≤ w.heap.size) (h1 : RefAt w R1 n false A) (h2 : RefAt w R2 n false B) :
    Calls Try.prog 73 #[.pointer (some ⟨R1.b, 0, none⟩), .pointer (some ⟨R2.b, 0, none⟩)] w fun r w' => RefNew w w' r n (WidenR n false A false B) ∧ Below w.heap.size w w' := by
  have ka := rfits R1 R2 n false false A B w h1 h2
  obtain ⟨m, hm⟩ : ∃ m, 2 * n = m := ⟨_, rfl⟩
  have h8 : m ≤ 8 := by omega
  have wm : IntKind.i64.wrap (2 * (n : Int)) = (m : Int) := by rw [IntKind.wrap_i64]; omega
  have hm' : Hid (2 * n = m) := hm
  have hR1' : Hid (R1.hi ≤ w.heap.size) := hR1
  have hR2' : Hid (R2.hi ≤ w.heap.size) := hR2
  have tt : Hid (Tt n A ∧ Tt n B) := ⟨t1, t2⟩
  have kf := fun V => rnew n hn1 hn V
  have kt := fun V R X (a : Agr n X (wdS A B)) hV => rtight R n hn X (fun x y hx hy => by
    rw [a x y hx hy]
    have := t1.up x y hx hy
    have := t2.up x y hx hy
    have := t1.low hx hy
    have := t2.low hx hy
    unfold wdS kep
    split <;> omega) V hV
  have hJ : ∀ X e' T, Agr n X (wdS A B) → Res n X e' T → Hid (WidenR n false A false B e' T) := fun X e' T q r => Or.inr (Or.inr ⟨rfl, rfl, r.agr q⟩)
  clear hm hn1 hn t1 t2 hR1 hR2
  have x1 := h1.he
  have x2 := h2.he
  go_enter Try.func73, Try.ntmps73
  go_upto_region 8 with (first
    | (go_at_call 46; refine ka.mono ?_; rintro r v1 ⟨rfl, k, rfl⟩; replace h1 := h1.drewN k; replace h2 := h2.drewN k; replace x1 := h1.he; replace x2 := h2.he; have x0 := h1.hn)
    | (go_at_call 32; refine (kf _).mono ?_; rintro r v2 ⟨⟨F, rfl, f1, f2, hF⟩, g⟩)
    | fail)
  replace h1 := h1.on g
  replace h2 := h2.on g
  have cc : Below w.heap.size w v2 := ⟨g.os, g.tape, g.output, g.size, g.block⟩
  have dF : Hid (F.lo = w.heap.size ∧ F.hi ≤ v2.heap.size) := ⟨f1, f2⟩
  clear kf ka f1 f2 g x0 x1 x2
  go_wp2_with fail
  go_loopw [6] (fun j wr => ∃ (WR : World) (p : Nat) (X : Mx), WR = wr ∧ p ≤ m ∧ j = .int .i64 p ∧ RefAt wr F n false X ∧ Hid (Tw m bx (wdS A B) X p 0) ∧ RefAt wr R1 n false A ∧ RefAt wr R2 n false B ∧ Hid (Rgn F.lo F.hi v2 wr)) (fun j _ => m - (intOf j).toNat)
  case atStart => exact ⟨_, 0, bx, rfl, by omega, rfl, hF, Tw.first _ _ _, h1, h2, Rgn.refl _ _ _⟩
  case round =>
    clear hF h1 h2
    obtain ⟨WR, p, X, rfl, hp, rfl, hF, hX, h1, h2, cg⟩ := hrel
    have h0 := h1.hn
    by_cases cp : p < m
    · have cp' : (p : Int) < (m : Int) := by omega
      go_wp2_with fail
      clear h0
      go_loopw [7] (fun j wr => ∃ (WS : World) (q : Nat) (Y : Mx), WS = wr ∧ q ≤ m ∧ j = .int .i64 q ∧ RefAt wr F n false Y ∧ Hid (Tw m bx (wdS A B) Y p q) ∧ RefAt wr R1 n false A ∧ RefAt wr R2 n false B ∧ Hid (Rgn F.lo F.hi v2 wr)) (fun j _ => m - (intOf j).toNat)
      case atStart => exact ⟨_, 0, X, rfl, by omega, rfl, hF, hX, h1, h2, cg⟩
      case round =>
        clear hF hX h1 h2 cg
        obtain ⟨WS, q, Y, rfl, hq, rfl, hF, hY, h1, h2, cg⟩ := hrel
        have h0 := h1.hn
        by_cases cq : q < m
        · have cq' : (q : Int) < (m : Int) := by omega
          have wq : IntKind.i64.wrap ((q : Int) + 1) = ((q + 1 : Nat) : Int) := by rw [IntKind.wrap_i64]; omega
          have pn : p < 2 * n := by have := hm'.out; omega
          have qn : q < 2 * n := by have := hm'.out; omega
          have gs := h2.hs
          have gr1 := h2.hr p pn
          have gm1 := h2.hm p q pn qn
          have as1 := h1.hs
          have ar1 := h1.hr p pn
          have am1 := h1.hm p q pn qn
          rw [hm'.out] at gs gr1 as1 ar1
          have x1 := rix2 R1.pb m R1.pc p cp
          have x2 := rix (R1.rb p) m (R1.rc p) q cq
          have x3 := rix2 R2.pb m R2.pc p cp
          have x4 := rix (R2.rb p) m (R2.rc p) q cq
          by_cases lt : B p q ≤ A p q
          · have kb := fun V hV => rbound F n false Y p q pn qn (A p q) V hV
            have hY2 : Hid (Tw m bx (wdS A B) (bnd Y p q (A p q)) p (q + 1)) := by
              have e1 := hm'.out
              have := wide_step tt.out.1 tt.out.2 pn qn lt (by rw [e1]; exact hY.out)
              rw [e1] at this
              exact this
            generalize bnd Y p q (A p q) = Y2 at *
            generalize hyb : B p q = yb at *
            generalize hya : A p q = ya at *
            clear hY
            go_upto_region 14 with fail
            go_quiet (fail)
            replace hF := hF.drewN nq
            replace h1 := h1.drewN nq
            replace h2 := h2.drewN nq
            replace cg : Hid (Rgn F.lo F.hi v2 (WS.drewN nq)) := cg.out.drewN nq
            clear gs gr1 gm1 as1 ar1 am1 h0
            generalize WS.drewN nq = W0 at *
            have as1 := h1.hs
            have ar1 := h1.hr p pn
            have am1 := h1.hm p q pn qn
            rw [hm'.out] at as1 ar1
            rw [hya] at am1
            clear hya hyb pn qn
            go_wp2_with (first
              | (go_at_call 91; refine (kb _ hF).mono ?_; rintro r w5 ⟨rfl, hF, c5⟩)
              | fail)
            exact ⟨⟨_, q + 1, Y2, rfl, by omega, by simp, hF, hY2, h1.rgn c5 (Or.inr (by have := dF.out.1; have := hR1'.out; omega)), h2.rgn c5 (Or.inr (by have := dF.out.1; have := hR2'.out; omega)), cg.out.trans c5⟩, by simp [intOf]; omega⟩
          · have hY2 : Hid (Tw m bx (wdS A B) Y p (q + 1)) := by
              have e1 := hm'.out
              have := wide_keep tt.out.1 tt.out.2 pn qn lt (by rw [e1]; exact hY.out)
              rw [e1] at this
              exact this
            generalize B p q = yb at *
            generalize A p q = ya at *
            clear hY pn qn
            go_upto_region 14 with fail
            go_quiet (fail)
            go_wp2_with fail
            exact ⟨⟨_, q + 1, Y, rfl, by omega, by simp, hF.drewN _, hY2, h1.drewN _, h2.drewN _, cg.out.drewN _⟩, by simp [intOf]; omega⟩
        · have eq : q = m := by omega
          subst eq
          clear cq hq
          have wp1 : IntKind.i64.wrap ((p : Int) + 1) = ((p + 1 : Nat) : Int) := by rw [IntKind.wrap_i64]; omega
          have hY2 : Hid (Tw q bx (wdS A B) Y (p + 1) 0) := hY.out.next
          clear hY
          go_wp2_with fail
          go_roundw
          case rel => exact ⟨_, p + 1, Y, rfl, by omega, by first | rfl | go_num, hF, hY2, h1, h2, cg⟩
          case measure => simp [intOf]; omega
    · have ep : p = m := by omega
      subst ep
      clear cp hp
      have ag : Agr n X (wdS A B) := by
        have q := hX.out
        rw [← hm'.out] at q
        exact q.all
      have kt2 := kt WR F X ag hF
      have ag' : Hid (Agr n X (wdS A B)) := ag
      clear kt ag hX hF
      go_wp2_with (first
        | (go_at_call 92; refine kt2.mono ?_; rintro r w5 ⟨rfl, ⟨e5, T5, hO5, r5⟩, c5⟩)
        | fail)
      go_ret
      have cz := cg.out.trans c5
      have z5 := cz.size
      exact ⟨⟨F, e5, T5, rfl, by rw [dF.out.1]; exact Nat.le_refl _, by have := dF.out.2; omega, hO5, (hJ X e5 T5 ag'.out r5).out⟩, below_rgn cc cz (by rw [dF.out.1]; exact Nat.le_refl _)⟩
set_option maxRecDepth 100000 in
set_option maxHeartbeats 1600000 in
theorem rwiden (R1 R2 : Rf) (n : Nat) (hn1 : 1 ≤ n) (hn : n ≤ 4) (e1 e2 : Bool) (A B : Mx) (t1 : e1 = false → Tt n A) (t2 : e2 = false → Tt n B) (w : World) (hR1 : R1.hi ≤ w.heap.size) (hR2 : R2.hi ≤ w.heap.size) (h1 : RefAt w R1 n e1 A) (h2 : RefAt w R2 n e2 B) :
    Calls Try.prog 73 #[.pointer (some ⟨R1.b, 0, none⟩), .pointer (some ⟨R2.b, 0, none⟩)] w fun r w' => RefNew w w' r n (WidenR n e1 A e2 B) ∧ Below w.heap.size w w' := by
  have ka := rfits R1 R2 n e1 e2 A B w h1 h2
  cases e1
  · cases e2
    · exact rwidenF R1 R2 n hn1 hn A B (t1 rfl) (t2 rfl) w hR1 hR2 h1 h2
    · have kt := fun V h1 => rfork R1 n hn1 hn false A V h1
      have hA : Hid (WidenR n false A true B false A) := Or.inr (Or.inl ⟨rfl, rfl, rfl, fun _ _ _ _ => rfl⟩)
      clear t1 t2
      go_enter Try.func73, Try.ntmps73
      have x1 := h1.he
      have x2 := h2.he
      go_wp2_with (first
        | (go_at_call 46; refine ka.mono ?_; rintro r v1 ⟨rfl, k, rfl⟩; replace h1 := h1.drewN k; replace h2 := h2.drewN k; replace x1 := h1.he; replace x2 := h2.he)
        | (go_at_call 33; refine (kt _ h1).mono ?_; rintro r v2 ⟨⟨F, rfl, f1, f2, hF⟩, g⟩)
        | fail)
      go_ret
      exact ⟨⟨F, false, A, rfl, by rw [f1]; exact Nat.le_refl _, f2, hF, hA.out⟩, ⟨g.os, g.tape, g.output, g.size, g.block⟩⟩
  · have kt := fun V h2 => rfork R2 n hn1 hn e2 B V h2
    have hA : Hid (WidenR n true A e2 B e2 B) := Or.inl ⟨rfl, rfl, fun _ _ _ _ _ => rfl⟩
    clear t1 t2
    go_enter Try.func73, Try.ntmps73
    have x1 := h1.he
    have x2 := h2.he
    go_wp2_with (first
      | (go_at_call 46; refine ka.mono ?_; rintro r v1 ⟨rfl, k, rfl⟩; replace h1 := h1.drewN k; replace h2 := h2.drewN k; replace x1 := h1.he; replace x2 := h2.he)
      | (go_at_call 33; refine (kt _ h2).mono ?_; rintro r v2 ⟨⟨F, rfl, f1, f2, hF⟩, g⟩)
      | fail)
    go_ret
    exact ⟨⟨F, e2, B, rfl, by rw [f1]; exact Nat.le_refl _, f2, hF, hA.out⟩, ⟨g.os, g.tape, g.output, g.size, g.block⟩⟩
end Go.Proofs.Ytpcbammncaeimaa

