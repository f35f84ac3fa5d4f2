/- The reference's tighten. -/
import Derived.Test.YtpcbammncaeimaaOdR
namespace Go.Proofs.Ytpcbammncaeimaa
open Go.RowKit
set_option linter.unusedVariables false
set_option linter.unusedSimpArgs false
/-- Two bounds' tables that are the same. -/
def Agm (m : Nat) (A B : Mx) : Prop := ∀ a b, a < m → b < m → A a b = B a b
theorem mnr_agm {m : Nat} {X Y : Mx} (h : Agm m X Y) (ho : ∀ r, r < m → ot r < m) {p q : Nat} (hp : p < m) (hq : q < m) : ∀ k, k ≤ m → mnr X p q k = mnr Y p q k
  | 0, _ => h p q hp hq
  | k + 1, hk => by
    show min _ _ = min _ _
    rw [mnr_agm h ho hp hq k (by omega), h p k hp (by omega), h (ot k) q (ho k (by omega)) hq]
theorem nv_agm {m : Nat} {X Y : Mx} (h : Agm m X Y) (ho : ∀ r, r < m → ot r < m) {p q : Nat} (hp : p < m) (hq : q < m) : nv m X p q = nv m Y p q := by
  unfold nv
  rw [mnr_agm h ho hp hq m (Nat.le_refl _), h p p hp hp, h q q hq hq]
theorem ux_agm {m : Nat} {X Y : Mx} (h : Agm m X Y) (p q : Nat) (v : Int) : Agm m (ux X p q v) (ux Y p q v) := fun a b ha hb => by
  unfold ux
  split
  · rfl
  · exact h a b ha hb
/-- What becomes of one that is tightened. -/
def RefRes (W : World) (R : Rf) (n : Nat) (S : Mx) : Prop := ∃ e T, RefAt W R n e T ∧ Res n S e T
/-- The measure of a round. -/
def msrR (n : Nat) (W : World) (R : Rf) (g : Value) : Nat := gap n (rdR W R) (fun _ => -43825846288384) + (match g with | .bool true => 1 | _ => 0)
theorem msrR_is {n : Nat} {W : World} {R : Rf} {M : Mx} (h : RefAt W R n false M) (g : Value) : msrR n W R g = gap n M (fun _ => -43825846288384) + (match g with | .bool true => 1 | _ => 0) := by
  unfold msrR
  rw [gap_agr h.rd]
set_option maxRecDepth 100000 in
set_option maxHeartbeats 6400000 in
theorem rtight (R : Rf) (n : Nat) (hn : n ≤ 4) (S : Mx) (hS : ∀ a c, a < 2 * n → c < 2 * n → -34359738368 ≤ S a c ∧ S a c ≤ 34359738368) (w : World) (h : RefAt w R n false S) :
    Calls Try.prog 92 #[.pointer (some ⟨R.b, 0, none⟩)] w fun r w' => r = .returned (.tuple #[]) ∧ RefRes w' R n S ∧ Rgn R.lo R.hi w w' := by
  obtain ⟨m, hm⟩ : ∃ m, 2 * n = m := ⟨_, rfl⟩
  have h8 : m ≤ 8 := by omega
  have wm : IntKind.i64.wrap (2 * (n : Int)) = (m : Int) := by rw [IntKind.wrap_i64]; omega
  have hom : ∀ r, r < m → ot r < m := fun r hr => by have := ot_lt (n := n) (a := r) (by omega); omega
  have hm' : Hid (2 * n = m) := hm
  have hn' : Hid (n ≤ 4) := hn
  have hR0 : Rw n S S := Rw.first hS
  clear hS hn
  clear hm
  go_enter Try.func92, Try.ntmps92
  go_wp2_with fail
  go_loopw [2] (fun g wr => ∃ (WR : World) (A : Mx) (ag : Bool), WR = wr ∧ g = .bool ag ∧ RefAt wr R n false A ∧ Hid (Rw n S A) ∧ Hid (ag = false → Bst n S A) ∧ Rgn R.lo R.hi w wr) (fun g wr => msrR n wr R g)
  case atStart => exact ⟨_, S, true, rfl, rfl, h, hR0, (fun q => by cases q), Rgn.refl _ _ _⟩
  case round =>
    clear h hR0
    obtain ⟨WR, A, ag, rfl, rfl, hO, hA, hB, cc⟩ := hrel
    cases ag
    · go_wp2_with fail
      exact bodyPost_end (results_none rfl _ _ _) rfl ⟨rfl, ⟨false, A, hO, Or.inl ⟨rfl, hB.out (by first | rfl | trivial)⟩⟩, cc⟩
    · have he := hO.he
      have h0 := hO.hn
      have hms : Hid (msrR n WR R (.bool true) = gap n A (fun _ => -43825846288384) + 1) := msrR_is hO _
      go_wp2_with fail
      clear hB he h0
      go_loopw [2, 3] (fun g i wr => ∃ (WS : World) (p : Nat) (Z : Mx) (ag : Bool), WS = wr ∧ g = .bool ag ∧ p ≤ m ∧ i = .int .i64 p ∧ RefAt wr R n false Z ∧ Hid (Agm m Z (rows m A p)) ∧ Hid (∀ a, a < p → 0 ≤ rows m A (a + 1) a (ot a)) ∧ Hid (ag = false → Agm m Z A) ∧ Hid (ag = true → ∃ a b, a < m ∧ b < m ∧ Z a b < A a b) ∧ Rgn R.lo R.hi w wr) (fun _ i _ => m - (intOf i).toNat)
      case atStart => exact ⟨_, 0, A, false, rfl, rfl, by omega, rfl, hO, (fun _ _ _ _ => rfl), (fun a ha => by omega), (fun _ _ _ _ _ => rfl), (fun q => by cases q), cc⟩
      case round =>
        clear hO cc
        obtain ⟨WS, p, Z, ag, rfl, rfl, hp, rfl, hO, hZ, hC, hF, hT, cc⟩ := hrel
        have h0 := hO.hn
        by_cases cp : p < m
        · have cp' : (p : Int) < (m : Int) := by omega
          go_wp2_with fail
          clear h0
          go_loopw [2, 4] (fun g i wr => ∃ (WT : World) (q : Nat) (Y : Mx) (ag : Bool), WT = wr ∧ g = .bool ag ∧ q ≤ m ∧ i = .int .i64 q ∧ RefAt wr R n false Y ∧ Hid (Agm m Y (rowx m (rows m A p) p q)) ∧ Hid (ag = false → Agm m Y A) ∧ Hid (ag = true → ∃ a b, a < m ∧ b < m ∧ Y a b < A a b) ∧ Rgn R.lo R.hi w wr) (fun _ i _ => m - (intOf i).toNat)
          case atStart => exact ⟨_, 0, Z, ag, rfl, rfl, by omega, rfl, hO, hZ, hF, hT, cc⟩
          case round =>
            clear hO cc hF hT hZ
            obtain ⟨WT, q, Y, ag, rfl, rfl, hq, rfl, hO, hY, hF, hT, cc⟩ := hrel
            have h0 := hO.hn
            by_cases cq : q < m
            · have cq' : (q : Int) < (m : Int) := by omega
              have hs := hO.hs
              have hr1 := hO.hr p (by have := hm'.out; omega)
              have hm1 := hO.hm p q (by have := hm'.out; omega) (by have := hm'.out; omega)
              rw [hm'.out] at hs hr1
              have x1 := rix2 R.pb m R.pc p cp
              have x2 := rix (R.rb p) m (R.rc p) q cq
              have bd : ∀ a b, a < m → b < m → -2012395209870016512 ≤ Y a b ∧ Y a b ≤ 34359738368 := fun a b ha hb => by
                have e1 := hm'.out
                rw [hY.out a b ha hb]
                have l1 := hA.out.rowx hn'.out (p := p) (by omega) (by rw [e1]; exact hC.out) (q := q) (by omega) (a := a) (b := b) (by omega) (by omega)
                rw [e1] at l1
                have l2 := rowx_le (m := m) (rows m A p) p q a b
                have l3 := rows_le (m := m) A p a b
                have l4 := hA.out.up a b (by omega) (by omega)
                omega
              have bd' : Hid (∀ a b, a < m → b < m → -2012395209870016512 ≤ Y a b ∧ Y a b ≤ 34359738368) := bd
              clear bd
              go_wp2_with fail
              clear h0 hs hr1 hm1 x1 x2
              go_loopw [5, 6] (fun bv i wr => ∃ (WU : World) (r : Nat), WU = wr ∧ r ≤ m ∧ bv = .int .i64 (mnr Y p q r) ∧ i = .int .i64 r ∧ RefAt wr R n false Y ∧ Rgn R.lo R.hi w wr) (fun _ i _ => m - (intOf i).toNat)
              case atStart => exact ⟨_, 0, rfl, by omega, rfl, rfl, hO, cc⟩
              case round =>
                clear hO cc
                obtain ⟨WU, r, rfl, hr, rfl, rfl, hO, cc⟩ := hrel
                have h0 := hO.hn
                by_cases cr : r < m
                · have cr' : (r : Int) < (m : Int) := by omega
                  have cor := hom r cr
                  have hs := hO.hs
                  have hr1 := hO.hr p (by have := hm'.out; omega)
                  have hr2 := hO.hr (ot r) (by have := hm'.out; omega)
                  have hm1 := hO.hm p r (by have := hm'.out; omega) (by have := hm'.out; omega)
                  have hm2 := hO.hm (ot r) q (by have := hm'.out; omega) (by have := hm'.out; omega)
                  rw [hm'.out] at hs hr1 hr2
                  have x1 := rix2 R.pb m R.pc p cp
                  have x2 := rix (R.rb p) m (R.rc p) r cr
                  have x3 := rix2 R.pb m R.pc (ot r) cor
                  have x4 := rix (R.rb (ot r)) m (R.rc (ot r)) q cq
                  have hx := oxor r (by omega)
                  have b1 := bd'.out p r cp cr
                  have b2 := bd'.out (ot r) q cor cq
                  have ws : IntKind.i64.wrap (Y p r + Y (ot r) q) = Y p r + Y (ot r) q := by rw [IntKind.wrap_i64]; omega
                  have wr1 : IntKind.i64.wrap ((r : Int) + 1) = ((r + 1 : Nat) : Int) := by rw [IntKind.wrap_i64]; omega
                  have eb : Hid (mnr Y p q (r + 1) = min (mnr Y p q r) (Y p r + Y (ot r) q)) := rfl
                  clear b1 b2 hF hT hY
                  obtain ⟨b1, hb1⟩ : ∃ b1, Hid (mnr Y p q (r + 1) = b1) := ⟨_, rfl⟩
                  rw [show mnr Y p q (r + 1) = b1 from hb1.out] at eb
                  generalize mnr Y p q r = b0 at *
                  generalize Y p r = z1 at *
                  generalize Y (ot r) q = z2 at *
                  generalize ot r = k at *
                  by_cases lt : z1 + z2 < b0
                  · have e1 : b1 = z1 + z2 := by rw [eb.out]; omega
                    subst e1
                    go_upto_region 13 with fail
                    go_quiet (fail)
                    go_wp2_with fail
                    exact ⟨⟨_, r + 1, rfl, by omega, by rw [show mnr Y p q (r + 1) = _ from hb1.out], by simp, hO.drewN _, cc.drewN _⟩, by simp [intOf]; omega⟩
                  · have e1 : b1 = b0 := by rw [eb.out]; omega
                    subst e1
                    go_upto_region 13 with fail
                    go_quiet (fail)
                    go_wp2_with fail
                    exact ⟨⟨_, r + 1, rfl, by omega, by rw [show mnr Y p q (r + 1) = _ from hb1.out], by simp, hO.drewN _, cc.drewN _⟩, by simp [intOf]; omega⟩
                · have er : r = m := by omega
                  subst er
                  clear cr hr
                  have hs := hO.hs
                  have hr1 := hO.hr p (by have := hm'.out; omega)
                  have hr2 := hO.hr q (by have := hm'.out; omega)
                  have hm1 := hO.hm p p (by have := hm'.out; omega) (by have := hm'.out; omega)
                  have hm2 := hO.hm q q (by have := hm'.out; omega) (by have := hm'.out; omega)
                  have hm3 := hO.hm p q (by have := hm'.out; omega) (by have := hm'.out; omega)
                  have hfz := hO.fm p q (by have := hm'.out; omega)
                  rw [hm'.out] at hs hr1 hr2
                  have x1 := rix2 R.pb r R.pc p cp
                  have x2 := rix (R.rb p) r (R.rc p) p cp
                  have x3 := rix2 R.pb r R.pc q cq
                  have x4 := rix (R.rb q) r (R.rc q) q cq
                  have x5 := rix (R.rb p) r (R.rc p) q cq
                  have b1 := bd'.out p p cp cp
                  have b2 := bd'.out q q cq cq
                  have k1 := rhalf (Y p p) (by omega) (by omega)
                  have k2 := rhalf (Y q q) (by omega) (by omega)
                  have ws : IntKind.i64.wrap (fh (Y p p) + fh (Y q q)) = fh (Y p p) + fh (Y q q) := by unfold fh; rw [IntKind.wrap_i64]; omega
                  have wq : IntKind.i64.wrap ((q : Int) + 1) = ((q + 1 : Nat) : Int) := by rw [IntKind.wrap_i64]; omega
                  have eN : Hid (nv r Y p q = min (mnr Y p q r) (fh (Y p p) + fh (Y q q))) := rfl
                  have hlN := nv_le r Y p q
                  have hY2 : Hid (Agm r (ux Y p q (nv r Y p q)) (rowx r (rows r A p) p (q + 1))) := fun a b ha hb => by
                    rw [nv_agm hY.out hom cp cq]
                    exact ux_agm hY.out p q _ a b ha hb
                  have hset := fun k0 => ((hO.drewN k0).set (x := p) (y := q) (by have := hm'.out; omega) (by have := hm'.out; omega) (nv r Y p q))
                  have hon := fun k0 => (cc.drewN k0).set (b := R.rb p) (j := q) (hO.ir p (by have := hm'.out; omega)).1 (hO.ir p (by have := hm'.out; omega)).2 (.int .i64 (nv r Y p q))
                  have hT2 : nv r Y p q < Y p q → Hid (∃ a b, a < r ∧ b < r ∧ ux Y p q (nv r Y p q) a b < A a b) := fun l => ⟨p, q, cp, cq, by
                    have l2 := rowx_le (m := r) (rows r A p) p q p q
                    have l3 := rows_le (m := r) A p p q
                    have l4 := hY.out p q cp cq
                    unfold ux
                    rw [if_pos ⟨rfl, rfl⟩]
                    omega⟩
                  have hsk : nv r Y p q = Y p q → Hid (Agm r Y (rowx r (rows r A p) p (q + 1))) := fun e a b ha hb => by
                    rw [← hY2.out a b ha hb]
                    unfold ux
                    split
                    · rename_i k; rw [e, k.1, k.2]
                    · rfl
                  clear b1 b2 hY bd'
                  generalize ux Y p q (nv r Y p q) = Y2 at *
                  generalize nv r Y p q = vN at *
                  generalize mnr Y p q r = b0 at *
                  generalize fh (Y p p) = f1 at *
                  generalize fh (Y q q) = f2 at *
                  generalize Y p p = y1 at *
                  generalize Y q q = y2 at *
                  generalize hy3 : Y p q = y3 at *
                  clear hy3
                  by_cases lt : f1 + f2 < b0
                  · have e1 : vN = f1 + f2 := by rw [eN.out]; omega
                    subst e1
                    by_cases l2 : f1 + f2 < y3
                    · replace hT2 := hT2 l2
                      clear hsk hlN eN hF hT
                      go_upto_region 16 with fail
                      go_quiet (first
                        | (go_at_call_of 76 y1; exact Calls.quiet_of ((k1 _).mono fun r w' q => ⟨q.1, 0, q.2⟩))
                        | (go_at_call_of 76 y2; exact Calls.quiet_of ((k2 _).mono fun r w' q => ⟨q.1, 0, q.2⟩))
                        | fail)
                      go_wp2_with fail
                      exact ⟨⟨_, q + 1, Y2, true, rfl, rfl, by omega, by simp, hset _, hY2, (fun k => by cases k), (fun _ => hT2.out), hon _⟩, by simp [intOf]; omega⟩
                    · replace hsk := hsk (by omega)
                      clear hT2 hlN eN hset hon hY2
                      go_upto_region 16 with fail
                      go_quiet (first
                        | (go_at_call_of 76 y1; exact Calls.quiet_of ((k1 _).mono fun r w' q => ⟨q.1, 0, q.2⟩))
                        | (go_at_call_of 76 y2; exact Calls.quiet_of ((k2 _).mono fun r w' q => ⟨q.1, 0, q.2⟩))
                        | fail)
                      go_wp2_with fail
                      exact ⟨⟨_, q + 1, Y, ag, rfl, rfl, by omega, by simp, hO.drewN _, hsk, hF, hT, cc.drewN _⟩, by simp [intOf]; omega⟩
                  · have e1 : vN = b0 := by rw [eN.out]; omega
                    subst e1
                    by_cases l2 : vN < y3
                    · replace hT2 := hT2 l2
                      clear hsk hlN eN hF hT
                      go_upto_region 16 with fail
                      go_quiet (first
                        | (go_at_call_of 76 y1; exact Calls.quiet_of ((k1 _).mono fun r w' q => ⟨q.1, 0, q.2⟩))
                        | (go_at_call_of 76 y2; exact Calls.quiet_of ((k2 _).mono fun r w' q => ⟨q.1, 0, q.2⟩))
                        | fail)
                      go_wp2_with fail
                      exact ⟨⟨_, q + 1, Y2, true, rfl, rfl, by omega, by simp, hset _, hY2, (fun k => by cases k), (fun _ => hT2.out), hon _⟩, by simp [intOf]; omega⟩
                    · replace hsk := hsk (by omega)
                      clear hT2 hlN eN hset hon hY2
                      go_upto_region 16 with fail
                      go_quiet (first
                        | (go_at_call_of 76 y1; exact Calls.quiet_of ((k1 _).mono fun r w' q => ⟨q.1, 0, q.2⟩))
                        | (go_at_call_of 76 y2; exact Calls.quiet_of ((k2 _).mono fun r w' q => ⟨q.1, 0, q.2⟩))
                        | fail)
                      go_wp2_with fail
                      exact ⟨⟨_, q + 1, Y, ag, rfl, rfl, by omega, by simp, hO.drewN _, hsk, hF, hT, cc.drewN _⟩, by simp [intOf]; omega⟩
            · have eq : q = m := by omega
              subst eq
              clear cq hq
              have cop := hom p cp
              have hs := hO.hs
              have hr1 := hO.hr p (by have := hm'.out; omega)
              have hm1 := hO.hm p (ot p) (by have := hm'.out; omega) (by have := hm'.out; omega)
              rw [hm'.out] at hs hr1
              have x1 := rix2 R.pb q R.pc p cp
              have x2 := rix (R.rb p) q (R.rc p) (ot p) cop
              have hx := oxor p (by omega)
              have hfe := hO.fe 2
              have he := hO.he
              have eC : Hid (Y p (ot p) = rows q A (p + 1) p (ot p)) := hY.out p (ot p) cp cop
              have wp1 : IntKind.i64.wrap ((p : Int) + 1) = ((p + 1 : Nat) : Int) := by rw [IntKind.wrap_i64]; omega
              by_cases lt : Y p (ot p) < 0
              · have hN : Hid (Non n S) := by
                  have e1 := hm'.out
                  refine non_of (X := rows q A (p + 1)) (fun T c l => ?_) (a := p) (by omega) (by rw [← eC.out]; exact lt)
                  have := rows_abv c (hA.out.ab T c l) (p + 1) (by omega)
                  rw [e1] at this
                  exact this
                have hset := hO.setE true
                have hon := cc.set (b := R.b) (j := 2) hO.ib.1 hO.ib.2 (.bool true)
                clear hY hF hT eC
                generalize Y p (ot p) = y at *
                generalize ot p = k at *
                go_wp2_with fail
                exact bodyPost_ret (results_none rfl _ _ _) rfl ⟨rfl, ⟨true, Y, hset, Or.inr ⟨rfl, hN.out⟩⟩, hon⟩
              · have hC2 : Hid (∀ a, a < p + 1 → 0 ≤ rows q A (a + 1) a (ot a)) := fun a ha => by
                  by_cases e : a = p
                  · rw [e, ← eC.out]; omega
                  · exact hC.out a (by omega)
                clear eC
                generalize Y p (ot p) = y at *
                generalize ot p = k at *
                go_wp2_with fail
                go_roundw
                case rel => exact ⟨_, p + 1, Y, ag, rfl, rfl, by omega, by first | rfl | go_num, hO, hY, hC2, hF, hT, cc⟩
                case measure => simp [intOf]; omega
        · have ep : p = m := by omega
          subst ep
          clear cp hp
          have e1 := hm'.out
          have hRw : Hid (Rw n S Z) := hA.out.next hn'.out (by rw [e1]; exact hC.out) (fun a b ha hb => by rw [e1]; exact hZ.out a b (by omega) (by omega))
          have hBs : Hid (ag = false → Bst n S Z) := fun q => by
            have hZA := hF.out q
            refine (ref_last hA.out (by rw [e1]; exact hC.out) (fun a b ha hb => ?_)).to (fun a b ha hb => (hZA a b (by omega) (by omega)).symm)
            rw [e1, ← hZ.out a b (by omega) (by omega)]
            exact hZA a b (by omega) (by omega)
          have hme : Hid (msrR n WS R (.bool ag) < msrR n WR R (.bool true)) := by
            show msrR n WS R (.bool ag) < msrR n WR R (.bool true)
            rw [hms.out, msrR_is hO]
            cases ag
            · have hZA := hF.out rfl
              rw [gap_agr (show Agr n Z A from fun a b ha hb => hZA a b (by omega) (by omega))]
              simp
            · obtain ⟨a, b, ha, hb, l⟩ := hT.out rfl
              have := gap_lt2 (n := n) (K := 43825846288384) (M := A) (M' := Z) (fun a b ha hb => by rw [hZ.out a b (by omega) (by omega)]; exact rows_le _ _ _ _) (by omega) (by omega) l (by have := hRw.out.lo a b (by omega) (by omega); omega)
              simp only
              omega
          clear hZ hF hT hC e1
          go_wp2_with fail
          exact ⟨⟨_, Z, ag, rfl, rfl, hO, hRw, hBs, cc⟩, hme.out⟩
end Go.Proofs.Ytpcbammncaeimaa

