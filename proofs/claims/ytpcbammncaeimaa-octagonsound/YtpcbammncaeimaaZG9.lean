/- Texts of the proof, put together. -/
import Derived.Test.YtpcbammncaeimaaZG8
import Derived.Maps.AppendAt
import Derived.Deep.OwnRows
namespace Go.Proofs.Ytpcbammncaeimaa
open Go.RowKit
set_option linter.unusedVariables false
set_option linter.unusedSimpArgs false
def Agm (m : Nat) (A B : Mx) : Prop := ∀ a b, a < m → b < m → A a b = B a b
theorem mnr_agm {m : Nat} {X Y : Mx} (h : Agm m X Y) (ho : ∀ r, r < m → ot r < m) {p q : Nat} (hp : p < m) (hq : q < m) : ∀ k, k ≤ m → mnr X p q k = mnr Y p q k
  | 0, _ => h p q hp hq
  | k + 1, hk => by
    show min _ _ = min _ _
    rw [mnr_agm h ho hp hq k (by omega), h p k hp (by omega), h (ot k) q (ho k (by omega)) hq]
theorem nv_agm {m : Nat} {X Y : Mx} (h : Agm m X Y) (ho : ∀ r, r < m → ot r < m) {p q : Nat} (hp : p < m) (hq : q < m) : nv m X p q = nv m Y p q := by
  unfold nv
  rw [mnr_agm h ho hp hq m (Nat.le_refl _), h p p hp hp, h q q hq hq]
theorem ux_agm {m : Nat} {X Y : Mx} (h : Agm m X Y) (p q : Nat) (v : Int) : Agm m (ux X p q v) (ux Y p q v) := fun a b ha hb => by
  unfold ux
  split
  · rfl
  · exact h a b ha hb
def RefRes (W : World) (R : Rf) (n : Nat) (S : Mx) : Prop := ∃ e T, RefAt W R n e T ∧ Res n S e T
def msrR (n : Nat) (W : World) (R : Rf) (g : Value) : Nat := gap n (rdR W R) (fun _ => -43825846288384) + (match g with | .bool true => 1 | _ => 0)
theorem msrR_is {n : Nat} {W : World} {R : Rf} {M : Mx} (h : RefAt W R n false M) (g : Value) : msrR n W R g = gap n M (fun _ => -43825846288384) + (match g with | .bool true => 1 | _ => 0) := by
  unfold msrR
  rw [gap_agr h.rd]
set_option maxRecDepth 100000 in
set_option maxHeartbeats 6400000 in
theorem rtight (R : Rf) (n : Nat) (hn : n ≤ 4) (S : Mx) (hS : ∀ a c, a < 2 * n → c < 2 * n → -34359738368 ≤ S a c ∧ S a c ≤ 34359738368) (w : World) (h : RefAt w R n false S) :
    Calls Try.prog 92 #[.pointer (some ⟨R.b, 0, none⟩)] w fun r w' => r = .returned (.tuple #[]) ∧ RefRes w' R n S ∧ Rgn R.lo R.hi w w' := by
  obtain ⟨m, hm⟩ : ∃ m, 2 * n = m := ⟨_, rfl⟩
  have h8 : m ≤ 8 := by omega
  have wm : IntKind.i64.wrap (2 * (n : Int)) = (m : Int) := by rw [IntKind.wrap_i64]; omega
  have hom : ∀ r, r < m → ot r < m := fun r hr => by have := ot_lt (n := n) (a := r) (by omega); omega
  have hm' : Hid (2 * n = m) := hm
  have hn' : Hid (n ≤ 4) := hn
  have hR0 : Rw n S S := Rw.first hS
  clear hS hn
  clear hm
  go_enter Try.func92, Try.ntmps92
  go_wp2_with fail
  go_loopw [2] (fun g wr => ∃ (WR : World) (A : Mx) (ag : Bool), WR = wr ∧ g = .bool ag ∧ RefAt wr R n false A ∧ Hid (Rw n S A) ∧ Hid (ag = false → Bst n S A) ∧ Rgn R.lo R.hi w wr) (fun g wr => msrR n wr R g)
  case atStart => exact ⟨_, S, true, rfl, rfl, h, hR0, (fun q => by cases q), Rgn.refl _ _ _⟩
  case round =>
    clear h hR0
    obtain ⟨WR, A, ag, rfl, rfl, hO, hA, hB, cc⟩ := hrel
    cases ag
    · go_wp2_with fail
      exact bodyPost_end (results_none rfl _ _ _) rfl ⟨rfl, ⟨false, A, hO, Or.inl ⟨rfl, hB.out (by first | rfl | trivial)⟩⟩, cc⟩
    · have he := hO.he
      have h0 := hO.hn
      have hms : Hid (msrR n WR R (.bool true) = gap n A (fun _ => -43825846288384) + 1) := msrR_is hO _
      go_wp2_with fail
      clear hB he h0
      go_loopw [2, 3] (fun g i wr => ∃ (WS : World) (p : Nat) (Z : Mx) (ag : Bool), WS = wr ∧ g = .bool ag ∧ p ≤ m ∧ i = .int .i64 p ∧ RefAt wr R n false Z ∧ Hid (Agm m Z (rows m A p)) ∧ Hid (∀ a, a < p → 0 ≤ rows m A (a + 1) a (ot a)) ∧ Hid (ag = false → Agm m Z A) ∧ Hid (ag = true → ∃ a b, a < m ∧ b < m ∧ Z a b < A a b) ∧ Rgn R.lo R.hi w wr) (fun _ i _ => m - (intOf i).toNat)
      case atStart => exact ⟨_, 0, A, false, rfl, rfl, by omega, rfl, hO, (fun _ _ _ _ => rfl), (fun a ha => by omega), (fun _ _ _ _ _ => rfl), (fun q => by cases q), cc⟩
      case round =>
        clear hO cc
        obtain ⟨WS, p, Z, ag, rfl, rfl, hp, rfl, hO, hZ, hC, hF, hT, cc⟩ := hrel
        have h0 := hO.hn
        by_cases cp : p < m
        · have cp' : (p : Int) < (m : Int) := by omega
          go_wp2_with fail
          clear h0
          go_loopw [2, 4] (fun g i wr => ∃ (WT : World) (q : Nat) (Y : Mx) (ag : Bool), WT = wr ∧ g = .bool ag ∧ q ≤ m ∧ i = .int .i64 q ∧ RefAt wr R n false Y ∧ Hid (Agm m Y (rowx m (rows m A p) p q)) ∧ Hid (ag = false → Agm m Y A) ∧ Hid (ag = true → ∃ a b, a < m ∧ b < m ∧ Y a b < A a b) ∧ Rgn R.lo R.hi w wr) (fun _ i _ => m - (intOf i).toNat)
          case atStart => exact ⟨_, 0, Z, ag, rfl, rfl, by omega, rfl, hO, hZ, hF, hT, cc⟩
          case round =>
            clear hO cc hF hT hZ
            obtain ⟨WT, q, Y, ag, rfl, rfl, hq, rfl, hO, hY, hF, hT, cc⟩ := hrel
            have h0 := hO.hn
            by_cases cq : q < m
            · have cq' : (q : Int) < (m : Int) := by omega
              have hs := hO.hs
              have hr1 := hO.hr p (by have := hm'.out; omega)
              have hm1 := hO.hm p q (by have := hm'.out; omega) (by have := hm'.out; omega)
              rw [hm'.out] at hs hr1
              have x1 := rix2 R.pb m R.pc p cp
              have x2 := rix (R.rb p) m (R.rc p) q cq
              have bd : ∀ a b, a < m → b < m → -2012395209870016512 ≤ Y a b ∧ Y a b ≤ 34359738368 := fun a b ha hb => by
                have e1 := hm'.out
                rw [hY.out a b ha hb]
                have l1 := hA.out.rowx hn'.out (p := p) (by omega) (by rw [e1]; exact hC.out) (q := q) (by omega) (a := a) (b := b) (by omega) (by omega)
                rw [e1] at l1
                have l2 := rowx_le (m := m) (rows m A p) p q a b
                have l3 := rows_le (m := m) A p a b
                have l4 := hA.out.up a b (by omega) (by omega)
                omega
              have bd' : Hid (∀ a b, a < m → b < m → -2012395209870016512 ≤ Y a b ∧ Y a b ≤ 34359738368) := bd
              clear bd
              go_wp2_with fail
              clear h0 hs hr1 hm1 x1 x2
              go_loopw [5, 6] (fun bv i wr => ∃ (WU : World) (r : Nat), WU = wr ∧ r ≤ m ∧ bv = .int .i64 (mnr Y p q r) ∧ i = .int .i64 r ∧ RefAt wr R n false Y ∧ Rgn R.lo R.hi w wr) (fun _ i _ => m - (intOf i).toNat)
              case atStart => exact ⟨_, 0, rfl, by omega, rfl, rfl, hO, cc⟩
              case round =>
                clear hO cc
                obtain ⟨WU, r, rfl, hr, rfl, rfl, hO, cc⟩ := hrel
                have h0 := hO.hn
                by_cases cr : r < m
                · have cr' : (r : Int) < (m : Int) := by omega
                  have cor := hom r cr
                  have hs := hO.hs
                  have hr1 := hO.hr p (by have := hm'.out; omega)
                  have hr2 := hO.hr (ot r) (by have := hm'.out; omega)
                  have hm1 := hO.hm p r (by have := hm'.out; omega) (by have := hm'.out; omega)
                  have hm2 := hO.hm (ot r) q (by have := hm'.out; omega) (by have := hm'.out; omega)
                  rw [hm'.out] at hs hr1 hr2
                  have x1 := rix2 R.pb m R.pc p cp
                  have x2 := rix (R.rb p) m (R.rc p) r cr
                  have x3 := rix2 R.pb m R.pc (ot r) cor
                  have x4 := rix (R.rb (ot r)) m (R.rc (ot r)) q cq
                  have hx := oxor r (by omega)
                  have b1 := bd'.out p r cp cr
                  have b2 := bd'.out (ot r) q cor cq
                  have ws : IntKind.i64.wrap (Y p r + Y (ot r) q) = Y p r + Y (ot r) q := by rw [IntKind.wrap_i64]; omega
                  have wr1 : IntKind.i64.wrap ((r : Int) + 1) = ((r + 1 : Nat) : Int) := by rw [IntKind.wrap_i64]; omega
                  have eb : Hid (mnr Y p q (r + 1) = min (mnr Y p q r) (Y p r + Y (ot r) q)) := rfl
                  clear b1 b2 hF hT hY
                  obtain ⟨b1, hb1⟩ : ∃ b1, Hid (mnr Y p q (r + 1) = b1) := ⟨_, rfl⟩
                  rw [show mnr Y p q (r + 1) = b1 from hb1.out] at eb
                  generalize mnr Y p q r = b0 at *
                  generalize Y p r = z1 at *
                  generalize Y (ot r) q = z2 at *
                  generalize ot r = k at *
                  by_cases lt : z1 + z2 < b0
                  · have e1 : b1 = z1 + z2 := by rw [eb.out]; omega
                    subst e1
                    go_upto_region 13 with fail
                    go_quiet (fail)
                    go_wp2_with fail
                    exact ⟨⟨_, r + 1, rfl, by omega, by rw [show mnr Y p q (r + 1) = _ from hb1.out], by simp, hO.drewN _, cc.drewN _⟩, by simp [intOf]; omega⟩
                  · have e1 : b1 = b0 := by rw [eb.out]; omega
                    subst e1
                    go_upto_region 13 with fail
                    go_quiet (fail)
                    go_wp2_with fail
                    exact ⟨⟨_, r + 1, rfl, by omega, by rw [show mnr Y p q (r + 1) = _ from hb1.out], by simp, hO.drewN _, cc.drewN _⟩, by simp [intOf]; omega⟩
                · have er : r = m := by omega
                  subst er
                  clear cr hr
                  have hs := hO.hs
                  have hr1 := hO.hr p (by have := hm'.out; omega)
                  have hr2 := hO.hr q (by have := hm'.out; omega)
                  have hm1 := hO.hm p p (by have := hm'.out; omega) (by have := hm'.out; omega)
                  have hm2 := hO.hm q q (by have := hm'.out; omega) (by have := hm'.out; omega)
                  have hm3 := hO.hm p q (by have := hm'.out; omega) (by have := hm'.out; omega)
                  have hfz := hO.fm p q (by have := hm'.out; omega)
                  rw [hm'.out] at hs hr1 hr2
                  have x1 := rix2 R.pb r R.pc p cp
                  have x2 := rix (R.rb p) r (R.rc p) p cp
                  have x3 := rix2 R.pb r R.pc q cq
                  have x4 := rix (R.rb q) r (R.rc q) q cq
                  have x5 := rix (R.rb p) r (R.rc p) q cq
                  have b1 := bd'.out p p cp cp
                  have b2 := bd'.out q q cq cq
                  have k1 := rhalf (Y p p) (by omega) (by omega)
                  have k2 := rhalf (Y q q) (by omega) (by omega)
                  have ws : IntKind.i64.wrap (fh (Y p p) + fh (Y q q)) = fh (Y p p) + fh (Y q q) := by unfold fh; rw [IntKind.wrap_i64]; omega
                  have wq : IntKind.i64.wrap ((q : Int) + 1) = ((q + 1 : Nat) : Int) := by rw [IntKind.wrap_i64]; omega
                  have eN : Hid (nv r Y p q = min (mnr Y p q r) (fh (Y p p) + fh (Y q q))) := rfl
                  have hlN := nv_le r Y p q
                  have hY2 : Hid (Agm r (ux Y p q (nv r Y p q)) (rowx r (rows r A p) p (q + 1))) := fun a b ha hb => by
                    rw [nv_agm hY.out hom cp cq]
                    exact ux_agm hY.out p q _ a b ha hb
                  have hset := fun k0 => ((hO.drewN k0).set (x := p) (y := q) (by have := hm'.out; omega) (by have := hm'.out; omega) (nv r Y p q))
                  have hon := fun k0 => (cc.drewN k0).set (b := R.rb p) (j := q) (hO.ir p (by have := hm'.out; omega)).1 (hO.ir p (by have := hm'.out; omega)).2 (.int .i64 (nv r Y p q))
                  have hT2 : nv r Y p q < Y p q → Hid (∃ a b, a < r ∧ b < r ∧ ux Y p q (nv r Y p q) a b < A a b) := fun l => ⟨p, q, cp, cq, by
                    have l2 := rowx_le (m := r) (rows r A p) p q p q
                    have l3 := rows_le (m := r) A p p q
                    have l4 := hY.out p q cp cq
                    unfold ux
                    rw [if_pos ⟨rfl, rfl⟩]
                    omega⟩
                  have hsk : nv r Y p q = Y p q → Hid (Agm r Y (rowx r (rows r A p) p (q + 1))) := fun e a b ha hb => by
                    rw [← hY2.out a b ha hb]
                    unfold ux
                    split
                    · rename_i k; rw [e, k.1, k.2]
                    · rfl
                  clear b1 b2 hY bd'
                  generalize ux Y p q (nv r Y p q) = Y2 at *
                  generalize nv r Y p q = vN at *
                  generalize mnr Y p q r = b0 at *
                  generalize fh (Y p p) = f1 at *
                  generalize fh (Y q q) = f2 at *
                  generalize Y p p = y1 at *
                  generalize Y q q = y2 at *
                  generalize hy3 : Y p q = y3 at *
                  clear hy3
                  by_cases lt : f1 + f2 < b0
                  · have e1 : vN = f1 + f2 := by rw [eN.out]; omega
                    subst e1
                    by_cases l2 : f1 + f2 < y3
                    · replace hT2 := hT2 l2
                      clear hsk hlN eN hF hT
                      go_upto_region 16 with fail
                      go_quiet (first
                        | (go_at_call_of 76 y1; exact Calls.quiet_of ((k1 _).mono fun r w' q => ⟨q.1, 0, q.2⟩))
                        | (go_at_call_of 76 y2; exact Calls.quiet_of ((k2 _).mono fun r w' q => ⟨q.1, 0, q.2⟩))
                        | fail)
                      go_wp2_with fail
                      exact ⟨⟨_, q + 1, Y2, true, rfl, rfl, by omega, by simp, hset _, hY2, (fun k => by cases k), (fun _ => hT2.out), hon _⟩, by simp [intOf]; omega⟩
                    · replace hsk := hsk (by omega)
                      clear hT2 hlN eN hset hon hY2
                      go_upto_region 16 with fail
                      go_quiet (first
                        | (go_at_call_of 76 y1; exact Calls.quiet_of ((k1 _).mono fun r w' q => ⟨q.1, 0, q.2⟩))
                        | (go_at_call_of 76 y2; exact Calls.quiet_of ((k2 _).mono fun r w' q => ⟨q.1, 0, q.2⟩))
                        | fail)
                      go_wp2_with fail
                      exact ⟨⟨_, q + 1, Y, ag, rfl, rfl, by omega, by simp, hO.drewN _, hsk, hF, hT, cc.drewN _⟩, by simp [intOf]; omega⟩
                  · have e1 : vN = b0 := by rw [eN.out]; omega
                    subst e1
                    by_cases l2 : vN < y3
                    · replace hT2 := hT2 l2
                      clear hsk hlN eN hF hT
                      go_upto_region 16 with fail
                      go_quiet (first
                        | (go_at_call_of 76 y1; exact Calls.quiet_of ((k1 _).mono fun r w' q => ⟨q.1, 0, q.2⟩))
                        | (go_at_call_of 76 y2; exact Calls.quiet_of ((k2 _).mono fun r w' q => ⟨q.1, 0, q.2⟩))
                        | fail)
                      go_wp2_with fail
                      exact ⟨⟨_, q + 1, Y2, true, rfl, rfl, by omega, by simp, hset _, hY2, (fun k => by cases k), (fun _ => hT2.out), hon _⟩, by simp [intOf]; omega⟩
                    · replace hsk := hsk (by omega)
                      clear hT2 hlN eN hset hon hY2
                      go_upto_region 16 with fail
                      go_quiet (first
                        | (go_at_call_of 76 y1; exact Calls.quiet_of ((k1 _).mono fun r w' q => ⟨q.1, 0, q.2⟩))
                        | (go_at_call_of 76 y2; exact Calls.quiet_of ((k2 _).mono fun r w' q => ⟨q.1, 0, q.2⟩))
                        | fail)
                      go_wp2_with fail
                      exact ⟨⟨_, q + 1, Y, ag, rfl, rfl, by omega, by simp, hO.drewN _, hsk, hF, hT, cc.drewN _⟩, by simp [intOf]; omega⟩
            · have eq : q = m := by omega
              subst eq
              clear cq hq
              have cop := hom p cp
              have hs := hO.hs
              have hr1 := hO.hr p (by have := hm'.out; omega)
              have hm1 := hO.hm p (ot p) (by have := hm'.out; omega) (by have := hm'.out; omega)
              rw [hm'.out] at hs hr1
              have x1 := rix2 R.pb q R.pc p cp
              have x2 := rix (R.rb p) q (R.rc p) (ot p) cop
              have hx := oxor p (by omega)
              have hfe := hO.fe 2
              have he := hO.he
              have eC : Hid (Y p (ot p) = rows q A (p + 1) p (ot p)) := hY.out p (ot p) cp cop
              have wp1 : IntKind.i64.wrap ((p : Int) + 1) = ((p + 1 : Nat) : Int) := by rw [IntKind.wrap_i64]; omega
              by_cases lt : Y p (ot p) < 0
              · have hN : Hid (Non n S) := by
                  have e1 := hm'.out
                  refine non_of (X := rows q A (p + 1)) (fun T c l => ?_) (a := p) (by omega) (by rw [← eC.out]; exact lt)
                  have := rows_abv c (hA.out.ab T c l) (p + 1) (by omega)
                  rw [e1] at this
                  exact this
                have hset := hO.setE true
                have hon := cc.set (b := R.b) (j := 2) hO.ib.1 hO.ib.2 (.bool true)
                clear hY hF hT eC
                generalize Y p (ot p) = y at *
                generalize ot p = k at *
                go_wp2_with fail
                exact bodyPost_ret (results_none rfl _ _ _) rfl ⟨rfl, ⟨true, Y, hset, Or.inr ⟨rfl, hN.out⟩⟩, hon⟩
              · have hC2 : Hid (∀ a, a < p + 1 → 0 ≤ rows q A (a + 1) a (ot a)) := fun a ha => by
                  by_cases e : a = p
                  · rw [e, ← eC.out]; omega
                  · exact hC.out a (by omega)
                clear eC
                generalize Y p (ot p) = y at *
                generalize ot p = k at *
                go_wp2_with fail
                go_roundw
                case rel => exact ⟨_, p + 1, Y, ag, rfl, rfl, by omega, by first | rfl | go_num, hO, hY, hC2, hF, hT, cc⟩
                case measure => simp [intOf]; omega
        · have ep : p = m := by omega
          subst ep
          clear cp hp
          have e1 := hm'.out
          have hRw : Hid (Rw n S Z) := hA.out.next hn'.out (by rw [e1]; exact hC.out) (fun a b ha hb => by rw [e1]; exact hZ.out a b (by omega) (by omega))
          have hBs : Hid (ag = false → Bst n S Z) := fun q => by
            have hZA := hF.out q
            refine (ref_last hA.out (by rw [e1]; exact hC.out) (fun a b ha hb => ?_)).to (fun a b ha hb => (hZA a b (by omega) (by omega)).symm)
            rw [e1, ← hZ.out a b (by omega) (by omega)]
            exact hZA a b (by omega) (by omega)
          have hme : Hid (msrR n WS R (.bool ag) < msrR n WR R (.bool true)) := by
            show msrR n WS R (.bool ag) < msrR n WR R (.bool true)
            rw [hms.out, msrR_is hO]
            cases ag
            · have hZA := hF.out rfl
              rw [gap_agr (show Agr n Z A from fun a b ha hb => hZA a b (by omega) (by omega))]
              simp
            · obtain ⟨a, b, ha, hb, l⟩ := hT.out rfl
              have := gap_lt2 (n := n) (K := 43825846288384) (M := A) (M' := Z) (fun a b ha hb => by rw [hZ.out a b (by omega) (by omega)]; exact rows_le _ _ _ _) (by omega) (by omega) l (by have := hRw.out.lo a b (by omega) (by omega); omega)
              simp only
              omega
          clear hZ hF hT hC e1
          go_wp2_with fail
          exact ⟨⟨_, Z, ag, rfl, rfl, hO, hRw, hBs, cc⟩, hme.out⟩
end Go.Proofs.Ytpcbammncaeimaa


namespace Go.Proofs.Ytpcbammncaeimaa
open Go.RowKit
set_option linter.unusedVariables false
set_option linter.unusedSimpArgs false
structure RefPart (W : World) (b base n p : Nat) (e : Bool) (v : Value) (rb rc : Nat → Nat) (M : Mx) : Prop where
  hn : W.cell? ⟨b, 0, none⟩ = some (.int .i64 n)
  hs : W.cell? ⟨b, 1, none⟩ = some v
  he : W.cell? ⟨b, 2, none⟩ = some (.bool e)
  fe : ∀ k, W.frozen? ⟨b, k, none⟩ = false
  bb : base ≤ b
  ow : W.ownsRow base 31 1 v p ((List.range p).map fun a => Value.slice (some ⟨rb a, 0, none⟩) (2 * n) (rc a))
  vb : v.ownBlock ≠ some b
  vr : ∀ a, a < p → v.ownBlock ≠ some (rb a)
  rr : ∀ a, a < p → base ≤ rb a ∧ rb a ≠ b ∧ rb a < W.heap.size
  hm : ∀ a c, a < p → c < 2 * n → W.cell? ⟨rb a, c, none⟩ = some (.int .i64 (M a c))
  fm : ∀ a k, a < p → W.frozen? ⟨rb a, k, none⟩ = false
  d4 : ∀ a c, a < p → c < p → rb a = rb c → a = c
theorem RefPart.on {W W' : World} {b base n p : Nat} {e : Bool} {v : Value} {rb rc : Nat → Nat} {M : Mx} (h : RefPart W b base n p e v rb rc M) (g : Below W.heap.size W W') : RefPart W' b base n p e v rb rc M := by
  have hb : b < W.heap.size := World.block_lt_of_cell? W _ h.hn
  refine ⟨?_, ?_, ?_, fun k => ?_, h.bb, ?_, h.vb, h.vr, fun a ha => ⟨(h.rr a ha).1, (h.rr a ha).2.1, Nat.lt_of_lt_of_le (h.rr a ha).2.2 g.size⟩, fun a c ha hc => ?_, fun a k ha => ?_, h.d4⟩
  · rw [g.cell (by exact hb)]; exact h.hn
  · rw [g.cell (by exact hb)]; exact h.hs
  · rw [g.cell (by exact hb)]; exact h.he
  · rw [g.frozen (by exact hb)]; exact h.fe k
  · exact h.ow.kept (row := none) ⟨g.os, g.tape, g.output, g.size, fun k hk _ => g.block k hk⟩ (by cases hv : v.ownBlock <;> simp)
  · rw [g.cell (by exact (h.rr a ha).2.2)]; exact h.hm a c ha hc
  · rw [g.frozen (by exact (h.rr a ha).2.2)]; exact h.fm a k ha
theorem grown_set (W : World) (b j : Nat) (v : Value) : W.grownBy (W.setCell ⟨b, j, none⟩ v) (some b) := ⟨rfl, rfl, rfl, by simp [World.setCell], fun k _ hk => Below.heap_setCell W _ v k (fun q => hk (by rw [q]))⟩
theorem RefPart.add {W W2 : World} {b base n p : Nat} {e : Bool} {v v' : Value} {rb rc : Nat → Nat} {M : Mx} (h : RefPart W b base n p e v rb rc M) (rp cp : Nat)
    (r0 : base ≤ rp ∧ rp ≠ b ∧ rp < W.heap.size) (r1 : ∀ a, a < p → rb a ≠ rp) (r2 : v.ownBlock ≠ some rp) (r3 : ∀ c, c < 2 * n → W.cell? ⟨rp, c, none⟩ = some (.int .i64 (M p c))) (r4 : ∀ k, W.frozen? ⟨rp, k, none⟩ = false)
    (ow : W2.ownsRow base 31 1 v' (p + 1) (((List.range p).map fun a => Value.slice (some ⟨rb a, 0, none⟩) (2 * n) (rc a)) ++ [Value.slice (some ⟨rp, 0, none⟩) (2 * n) cp])) (gr : W.grownBy W2 v.ownBlock) (at_ : v'.ownBlock = v.ownBlock ∨ v'.ownBlock = some W.heap.size) :
    RefPart (W2.setCell ⟨b, 1, none⟩ v') b base n (p + 1) e v' (fun a => if a = p then rp else rb a) (fun a => if a = p then cp else rc a) M := by
  have hb : b < W.heap.size := World.block_lt_of_cell? W _ h.hn
  have nb : some b ≠ v.ownBlock := fun q => h.vb q.symm
  have c0 := gr.cell h.hn nb
  have c1 := gr.cell h.hs nb
  have c2 := gr.cell h.he nb
  have vb' : v'.ownBlock ≠ some b := by
    rcases at_ with q | q
    · rw [q]; exact h.vb
    · rw [q]; intro r; have := Option.some.inj r; omega
  have gs := grown_set W2 b 1 v'
  have z2 := gr.size
  refine ⟨?_, World.cell?_setCell_same _ _ _ c1, ?_, fun k => ?_, h.bb, ?_, vb', fun a ha => ?_, fun a ha => ?_, fun a c ha hc => ?_, fun a k ha => ?_, fun a c ha hc q => ?_⟩
  · rw [World.cell?_setCell_other _ _ _ _ (by simp)]; exact c0
  · rw [World.cell?_setCell_other _ _ _ _ (by simp)]; exact c2
  · rw [World.frozen?_setCell]; exact (World.frozen?_of_block (gr.block b hb nb)).trans (h.fe k)
  · have := ow.kept gs (Or.inr (by rw [Ne]; exact vb'))
    have e1 : ((List.range (p + 1)).map fun a => Value.slice (some ⟨if a = p then rp else rb a, 0, none⟩) (2 * n) (if a = p then cp else rc a)) = ((List.range p).map fun a => Value.slice (some ⟨rb a, 0, none⟩) (2 * n) (rc a)) ++ [Value.slice (some ⟨rp, 0, none⟩) (2 * n) cp] := by
      rw [List.range_succ, List.map_append]
      congr 1
      · refine List.map_congr_left fun a ha => ?_
        have : a ≠ p := by have := List.mem_range.1 ha; omega
        simp [this]
      · simp
    rw [e1]
    exact this
  · show v'.ownBlock ≠ some (if a = p then rp else rb a)
    split
    · rcases at_ with q | q
      · rw [q]; exact r2
      · rw [q]; intro r; have := Option.some.inj r; omega
    · rcases at_ with q | q
      · rw [q]; exact h.vr a (by omega)
      · rw [q]; intro r; have := (h.rr a (by omega)).2.2; have := Option.some.inj r; omega
  · show base ≤ (if a = p then rp else rb a) ∧ (if a = p then rp else rb a) ≠ b ∧ (if a = p then rp else rb a) < _
    have z3 := gs.size
    split
    · exact ⟨r0.1, r0.2.1, by omega⟩
    · have := h.rr a (by omega)
      exact ⟨this.1, this.2.1, by omega⟩
  · show World.cell? _ ⟨if a = p then rp else rb a, c, none⟩ = _
    split
    · rename_i q
      subst q
      exact gs.cell (gr.cell (r3 c hc) (fun q => r2 q.symm)) (by intro q; cases q; exact r0.2.1 rfl)
    · have := h.rr a (by omega)
      exact gs.cell (gr.cell (h.hm a c (by omega) hc) (fun q => h.vr a (by omega) q.symm)) (by intro q; cases q; exact this.2.1 rfl)
  · show World.frozen? _ ⟨if a = p then rp else rb a, k, none⟩ = _
    rw [World.frozen?_setCell]
    split
    · exact (World.frozen?_of_block (gr.block rp r0.2.2 (fun q => r2 q.symm))).trans (r4 k)
    · exact (World.frozen?_of_block (gr.block (rb a) (h.rr a (by omega)).2.2 (fun q => h.vr a (by omega) q.symm))).trans (h.fm a k (by omega))
  · replace q : (if a = p then rp else rb a) = (if c = p then rp else rb c) := q
    by_cases ea : a = p <;> by_cases ec : c = p
    · omega
    · rw [if_pos ea, if_neg ec] at q; exact absurd q.symm (r1 c (by omega))
    · rw [if_neg ea, if_pos ec] at q; exact absurd q (r1 a (by omega))
    · rw [if_neg ea, if_neg ec] at q; exact h.d4 a c (by omega) (by omega) q
theorem RefPart.whole {W : World} {b base n : Nat} {e : Bool} {v : Value} {rb rc : Nat → Nat} {M : Mx} (hn1 : 1 ≤ n) (h : RefPart W b base n (2 * n) e v rb rc M) : ∃ R, R.b = b ∧ R.lo = base ∧ R.hi = W.heap.size ∧ RefAt W R n e M := by
  rcases h.ow.2 with ⟨_, q⟩ | ⟨g, cap, cur, rfl, hg, hh, hc, hm, hs, ht⟩
  · omega
  · have hgs : g < W.heap.size := (Array.getElem?_eq_some_iff.1 hh).1
    refine ⟨⟨b, g, cap, rb, rc, base, W.heap.size⟩, rfl, rfl, rfl, ⟨h.hn, h.hs, h.he, fun a ha => ?_, h.hm, h.fe, h.fm, ⟨h.bb, World.block_lt_of_cell? W _ h.hn⟩, ⟨hg, hgs⟩, fun a ha => ⟨(h.rr a ha).1, (h.rr a ha).2.2⟩, fun q => h.vb (by show some g = some b; exact congrArg some q.symm), fun a ha => (h.rr a ha).2.1, fun a ha q => h.vr a ha (by show some g = some (rb a); exact congrArg some q.symm), h.d4⟩⟩
    have := h.ow.cellAt a (by omega)
    rw [this]
    simp [ha]
def freshI (w : World) (n : Nat) : World := w.alloc (.cells (madeCells #[.int .i64 0] n) 2)
theorem make_i64 (n : Nat) (hn : n ≤ 1000000) (w : World) : (Instr.makeSlice 31 (.int .i64 n) (.int .i64 n)).run Try.prog w = .ok (.slice (some ⟨w.heap.size, 0, none⟩) n n) (freshI w n) := by
  exact run_make_row' (P := Try.prog) 31 2 (.int .i64 0) 8 Try.underlying31 (by kernel_rfl) rfl .i64 .i64 n (by omega) (by omega) w
theorem freshI_cell (w : World) (n c : Nat) (hc : c < n) : (freshI w n).cell? ⟨w.heap.size, c, none⟩ = some (.int .i64 0) := by
  have : (freshI w n).cell? ⟨w.heap.size, c, none⟩ = (madeCells #[.int .i64 0] n)[c]? := by unfold freshI; simp [go_sem]
  rw [this]
  simp [madeCells, hc, Nat.mod_one]
set_option maxRecDepth 100000 in
theorem sl_info : (Try.prog.info? 31).map (fun i => (i.zero, i.size, i.bytes)) = some (some (.slice none 0 0), 1, 24) := by kernel_rfl
theorem info_p3 {o : Option TypeInfo} {z : Value} {a b : Nat} (h : o.map (fun i => (i.zero, i.size, i.bytes)) = some (some z, a, b)) : ∃ i, o = some i ∧ i.zero = some z ∧ i.size = a ∧ i.bytes = b := by
  cases o with
  | none => simp at h
  | some i => simp at h; exact ⟨i, rfl, h.1, h.2.1, h.2.2⟩
set_option maxRecDepth 100000 in
set_option maxHeartbeats 3200000 in
theorem rnew (n : Nat) (hn1 : 1 ≤ n) (hn : n ≤ 4) (w : World) : Calls Try.prog 32 #[.int .i64 n] w fun r w' => (∃ R, r = .returned (.pointer (some ⟨R.b, 0, none⟩)) ∧ R.lo = w.heap.size ∧ R.hi ≤ w'.heap.size ∧ RefAt w' R n false bx) ∧ Below w.heap.size w w' := by
  obtain ⟨m, hm⟩ : ∃ m, 2 * n = m := ⟨_, rfl⟩
  have h8 : m ≤ 8 := by omega
  have wm : IntKind.i64.wrap (2 * (n : Int)) = (m : Int) := by rw [IntKind.wrap_i64]; omega
  have hom : ∀ r, r < m → ot r < m := fun r hr => by have := ot_lt (n := n) (a := r) (by omega); omega
  have hm' : Hid (2 * n = m) := hm
  have hn1' : Hid (1 ≤ n) := hn1
  have g1 : ¬ (n : Int) < 1 := by omega
  have g2 : ¬ (8 : Int) < (n : Int) := by omega
  have hmk : ∀ w : World, (Instr.makeSlice 31 (.int .i64 m) (.int .i64 m)).run Try.prog w = .ok (.slice (some ⟨w.heap.size, 0, none⟩) m m) (freshI w m) := fun w => make_i64 m (by omega) w
  obtain ⟨i0, hi, hz0, hz1, hz2⟩ := info_p3 sl_info
  obtain ⟨W, hW⟩ : ∃ W, w.alloc (.cells #[.int .i64 n, .slice none 0 0, .bool false] 75) = W := ⟨_, rfl⟩
  have hP : RefPart W w.heap.size w.heap.size n 0 false (.slice none 0 0) (fun _ => 0) (fun _ => 0) bx := by
    rw [← hW]
    exact ⟨by simp [go_sem], by simp [go_sem], by simp [go_sem], fun k => by simp [go_sem], Nat.le_refl _, World.ownsRow_nil _ _ _ _, by simp [Value.ownBlock], fun a ha => by omega, fun a ha => by omega, fun a c ha => by omega, fun a k ha => by omega, fun a c ha => by omega⟩
  have cc : Below w.heap.size w W := by rw [← hW]; exact (Below.refl _ _).alloc (Nat.le_refl _) _
  clear hm hn1 hn
  go_enter Try.func32, Try.ntmps32
  go_upto_region 4 with fail
  (try rw [hW])
  clear hW g1 g2
  go_wp2_with fail
  go_loopw [4] (fun i wr => ∃ (WR : World) (p : Nat) (v : Value) (rb rc : Nat → Nat), WR = wr ∧ p ≤ m ∧ i = .int .i64 p ∧ RefPart wr w.heap.size w.heap.size n p false v rb rc bx ∧ Below w.heap.size w wr) (fun i _ => m - (intOf i).toNat)
  case atStart => exact ⟨_, 0, _, _, _, rfl, by omega, rfl, hP, cc⟩
  case round =>
    clear hP cc
    obtain ⟨WR, p, v, rb, rc, rfl, hp, rfl, hP, cc⟩ := hrel
    by_cases cp : p < m
    · have cp' : (p : Int) < (m : Int) := by omega
      obtain ⟨W0, hW0⟩ : ∃ W0, freshI WR m = W0 := ⟨_, rfl⟩
      have gf : Below WR.heap.size WR W0 := by rw [← hW0]; exact (Below.refl _ _).alloc (Nat.le_refl _) _
      have hx : ∀ c, c < m → W0.cell? ⟨WR.heap.size, c, none⟩ = some (.int .i64 0) := fun c hc => by rw [← hW0]; exact freshI_cell WR m c hc
      have hf : ∀ k, W0.frozen? ⟨WR.heap.size, k, none⟩ = false := fun k => by rw [← hW0]; unfold freshI; simp [go_sem]
      have zf : WR.heap.size < W0.heap.size := by rw [← hW0]; unfold freshI; simp
      have zW := Hid.out (p := w.heap.size ≤ WR.heap.size) cc.size
      go_upto_region 8 with fail
      (try rw [hW0])
      clear hW0 hmk
      go_wp2_with fail
      have zf' : Hid (WR.heap.size < W0.heap.size) := zf
      have zW' : Hid (w.heap.size ≤ WR.heap.size) := zW
      clear zf zW
      go_loopw [6] (fun i wr => ∃ (WS : World) (q : Nat), WS = wr ∧ q ≤ m ∧ i = .int .i64 q ∧ Below WR.heap.size WR wr ∧ (∀ k, wr.frozen? ⟨WR.heap.size, k, none⟩ = false) ∧ Hid (WR.heap.size < wr.heap.size) ∧ Hid (∀ c, c < q → wr.cell? ⟨WR.heap.size, c, none⟩ = some (.int .i64 (bx p c))) ∧ Hid (∀ c, c < m → ∃ x, wr.cell? ⟨WR.heap.size, c, none⟩ = some (.int .i64 x))) (fun i _ => m - (intOf i).toNat)
      case atStart => exact ⟨_, 0, rfl, by omega, rfl, gf, hf, zf', (fun c hc => by omega), (fun c hc => ⟨0, hx c hc⟩)⟩
      case round =>
        clear gf hx hf zf'
        obtain ⟨WS, q, rfl, hq, rfl, gf, hf, zf', hd, hx⟩ := hrel
        by_cases cq : q < m
        · have cq' : (q : Int) < (m : Int) := by omega
          have x1 := rix WR.heap.size m m q cq
          obtain ⟨x, hx0⟩ := hx.out q cq
          have hxo := oxor p (by omega)
          have wq : IntKind.i64.wrap ((q : Int) + 1) = ((q + 1 : Nat) : Int) := by rw [IntKind.wrap_i64]; omega
          have hfq := hf q
          have hset : ∀ (V : World) (y : Int), Below WR.heap.size WR V → (∀ k, V.frozen? ⟨WR.heap.size, k, none⟩ = false) → WR.heap.size < V.heap.size → (∀ c, c < q → V.cell? ⟨WR.heap.size, c, none⟩ = some (.int .i64 (bx p c))) → (∀ c, c < m → ∃ x, V.cell? ⟨WR.heap.size, c, none⟩ = some (.int .i64 x)) → Below WR.heap.size WR (V.setCell ⟨WR.heap.size, q, none⟩ (.int .i64 y)) ∧ (∀ k, (V.setCell ⟨WR.heap.size, q, none⟩ (.int .i64 y)).frozen? ⟨WR.heap.size, k, none⟩ = false) ∧ WR.heap.size < (V.setCell ⟨WR.heap.size, q, none⟩ (.int .i64 y)).heap.size ∧ (∀ c, c < q → (V.setCell ⟨WR.heap.size, q, none⟩ (.int .i64 y)).cell? ⟨WR.heap.size, c, none⟩ = some (.int .i64 (bx p c))) ∧ (∀ c, c < m → ∃ x, (V.setCell ⟨WR.heap.size, q, none⟩ (.int .i64 y)).cell? ⟨WR.heap.size, c, none⟩ = some (.int .i64 x)) ∧ (V.setCell ⟨WR.heap.size, q, none⟩ (.int .i64 y)).cell? ⟨WR.heap.size, q, none⟩ = some (.int .i64 y) := fun V y a1 a2 a3 a4 a5 => by
            obtain ⟨x9, h9⟩ := a5 q cq
            have same := World.cell?_setCell_same V ⟨WR.heap.size, q, none⟩ (.int .i64 y) h9
            refine ⟨a1.setCell (Nat.le_refl _) _, fun k => by rw [World.frozen?_setCell]; exact a2 k, by simpa [World.setCell] using a3, fun c hc => ?_, fun c hc => ?_, same⟩
            · rw [World.cell?_setCell_other _ _ _ _ (by first | (simp; done) | (simp; omega))]; exact a4 c hc
            · by_cases e : c = q
              · subst e; exact ⟨y, same⟩
              · rw [World.cell?_setCell_other _ _ _ _ (by first | (simp; done) | (simp; omega))]; exact a5 c hc
          have fin : ∀ (V : World), (∀ c, c < q → V.cell? ⟨WR.heap.size, c, none⟩ = some (.int .i64 (bx p c))) → V.cell? ⟨WR.heap.size, q, none⟩ = some (.int .i64 (bx p q)) → Hid (∀ c, c < q + 1 → V.cell? ⟨WR.heap.size, c, none⟩ = some (.int .i64 (bx p c))) := fun V a1 a2 c hc => by
            by_cases e : c = q
            · subst e; exact a2
            · exact a1 c (by omega)
          obtain ⟨s1, s2, s3, s4, s5, s6⟩ := hset WS 17179869184 gf hf zf'.out hd.out hx.out
          clear hP hom
          by_cases e : q = ot p
          · have eb : bx p q = 0 := by rw [e]; exact bx_ot p
            obtain ⟨u1, u2, u3, u4, u5, u6⟩ := hset _ 0 s1 s2 s3 s4 s5
            have fin2 := fin _ u4 (by rw [eb]; exact u6)
            have e' : (q : Int) = (ot p : Int) := by omega
            have s6' := s6
            have s2' := s2 q
            have U3 : Hid (WR.heap.size < _) := u3
            have U5 : Hid (∀ c, c < m → ∃ x, _) := u5
            clear hset fin eb gf hf hd hx s1 s2 s3 s4 s5 u3 u4 u5 u6 zf'
            rw [← e] at hxo
            clear e e'
            go_wp2_with fail
            exact ⟨⟨_, q + 1, rfl, by omega, by simp, u1, u2, U3, fin2, U5⟩, by simp [intOf]; omega⟩
          · have eb : bx p q = 17179869184 := by
              unfold bx
              rw [if_neg (fun k => e (by rw [k, ot_ot]))]
            have fin2 := fin _ s4 (by rw [eb]; exact s6)
            have e' : ¬ (q : Int) = (ot p : Int) := by omega
            have S3 : Hid (WR.heap.size < _) := s3
            have S5 : Hid (∀ c, c < m → ∃ x, _) := s5
            clear hset fin eb gf hf hd hx s3 s4 s5 s6 zf' e
            generalize ot p = k at *
            go_wp2_with fail
            exact ⟨⟨_, q + 1, rfl, by omega, by simp, s1, s2, S3, fin2, S5⟩, by simp [intOf]; omega⟩
        · have eq : q = m := by omega
          subst eq
          clear cq hq hx
          have hP2 := hP.on gf
          have hbk : w.heap.size < WR.heap.size := World.block_lt_of_cell? WR _ hP.hn
          have own := hP.ow.lt
          have hs := hP2.hs
          have wp1 : IntKind.i64.wrap ((p : Int) + 1) = ((p + 1 : Nat) : Int) := by rw [IntKind.wrap_i64]; omega
          obtain ⟨WX, hWX⟩ : ∃ WX, WS.alloc (.cells #[.slice (some ⟨WR.heap.size, 0, none⟩) q q] 31) = WX := ⟨_, rfl⟩
          have gx : Below WS.heap.size WS WX := by rw [← hWX]; exact (Below.refl _ _).alloc (Nat.le_refl _) _
          have hP3 := hP2.on gx
          have hc1 : ∀ j u, [Value.slice (some ⟨WR.heap.size, 0, none⟩) q q][j]? = some u → WX.cell? ((⟨WS.heap.size, 0, none⟩ : Addr).add j) = some u := by rw [← hWX]; exact cell_one_new _ _ _
          have hd3 : ∀ c, c < q → WX.cell? ⟨WR.heap.size, c, none⟩ = some (.int .i64 (bx p c)) := fun c hc => by rw [gx.cell (by exact zf'.out)]; exact hd.out c hc
          have hf3 : ∀ k, WX.frozen? ⟨WR.heap.size, k, none⟩ = false := fun k => by rw [gx.frozen (by exact zf'.out)]; exact hf k
          have zx := gx.size
          have zs := gf.size
          go_upto_region 14 with fail
          iterate 22 go_step
          (try rw [hWX])
          clear hWX
          refine wpList_append_own_at WX rfl (.tmp 45) (.tmp 47) 73 rfl w.heap.size 31 i0 (.slice none 0 0) 1 24 Try.underlying73 hi hz0 hz1 hz2 (by rfl) (by omega) v p _ rfl hP3.ow ⟨WS.heap.size, 0, none⟩ 1 1 [.slice (some ⟨WR.heap.size, 0, none⟩) q q] rfl (by simp) hc1 (fun u hu => by simp at hu; subst hu; rfl) (by unfold maxLen; omega) (by omega) (by omega) ?_
          intro v' w1 ow gr nil at_
          have hq2 : q = 2 * n := hm'.out.symm
          have hA := hP3.add WR.heap.size q ⟨Nat.le_of_lt hbk, by omega, by have := zf'.out; omega⟩ (fun a ha => by have := (hP.rr a ha).2.2; omega) (fun k => by have := (own _ k).2; omega) (fun c hc => hd3 c (by omega)) hf3 (by rw [← hq2]; rw [← hq2] at ow; exact ow) gr at_
          have nb : some w.heap.size ≠ v.ownBlock := fun k => hP.vb k.symm
          have cs := gr.cell hP3.hs nb
          have cf : w1.frozen? ⟨w.heap.size, 1, none⟩ = false := (World.frozen?_of_block (gr.block w.heap.size (by omega) nb)).trans (hP3.fe 1)
          have cc2 : Below w.heap.size w (w1.setCell ⟨w.heap.size, 1, none⟩ v') := by
            have c1 : Below w.heap.size w WX := cc.trans ((gf.mono (Nat.le_of_lt hbk)).trans (gx.mono (by omega)))
            have c2 : Below w.heap.size w w1 := ⟨gr.os.trans c1.os, gr.tape.trans c1.tape, gr.output.trans c1.output, Nat.le_trans c1.size gr.size, fun k hk => (gr.block k (Nat.lt_of_lt_of_le hk c1.size) (fun e => by have := (own k e.symm).1; omega)).trans (c1.block k hk)⟩
            exact c2.setCell (Nat.le_refl _) _
          obtain ⟨g, cap, rfl⟩ : ∃ g cap, v' = .slice (some ⟨g, 0, none⟩) (p + 1) cap := by
            rcases ow.2 with ⟨_, k⟩ | ⟨g, cap, cur, rfl, _⟩
            · omega
            · exact ⟨g, cap, rfl⟩
          clear ow gr nil at_ hP3 hc1 hd3 hf3 hP2 own hP cc gf gx hs hd hf zf' zx zs hbk nb
          go_wp2_with fail
          go_roundw
          case rel => exact ⟨_, p + 1, _, _, _, rfl, by omega, by first | rfl | go_num, hA, cc2⟩
          case measure => simp [intOf]; omega
    · have ep : p = m := by omega
      subst ep
      clear cp hp
      rw [← hm'.out] at hP
      obtain ⟨R, e1, e2, e3, hR⟩ := hP.whole hn1'.out
      clear hmk hP
      go_wp2_with fail
      go_ret
      exact ⟨⟨R, by rw [e1]; rfl, e2, by omega, hR⟩, cc⟩
end Go.Proofs.Ytpcbammncaeimaa


