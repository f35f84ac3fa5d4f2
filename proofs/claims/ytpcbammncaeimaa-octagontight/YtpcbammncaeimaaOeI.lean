/- OctagonTight: the law. -/
import Derived.Test.YtpcbammncaeimaaOeH
namespace Go.Proofs.Ytpcbammncaeimaa
open Go.RowKit
set_option linter.unusedVariables false
set_option linter.unusedSimpArgs false
theorem bel_drewN {w W : World} (h : Below w.heap.size w W) (k : Nat) : Below w.heap.size w (W.drewN k) := ⟨h.os, h.tape, h.output, h.size, h.block⟩
theorem OctAt.dr {W V : World} {b n k : Nat} {e : Bool} {M : Mx} (h : OctAt W b n e M) (hv : V = W.drewN k) : OctAt V b n e M := hv ▸ h.drewN k
theorem bel_dr {w W V : World} {k : Nat} (h : Hid (Below w.heap.size w W)) (hv : V = W.drewN k) : Hid (Below w.heap.size w V) := hv ▸ bel_drewN h.out k
theorem bel_drewH {w W : World} (h : Hid (Below w.heap.size w W)) (k : Nat) : Hid (Below w.heap.size w (W.drewN k)) := bel_drewN h.out k
set_option maxRecDepth 100000 in
set_option maxHeartbeats 6400000 in
theorem law_tight (nn : Int) (h0 : 0 ≤ nn) (h1 : nn ≤ 255) (sv : Value) (ds : List Dd) (w : World) (hs : SlDd w sv ds) :
    Calls Try.prog 6 #[.int .u8 nn, sv] w fun r w' => r = .returned (.bool true) ∧ Below w.heap.size w w' := by
  obtain ⟨n, hn⟩ : ∃ n : Nat, (n : Int) = nn % 4 + 1 := ⟨(nn % 4 + 1).toNat, by omega⟩
  have kp := oplay nn h0 h1 sv ds w hs n hn
  have hn4 : n ≤ 4 := by omega
  have kl := olive
  obtain ⟨m, hm⟩ : ∃ m, 2 * n = m := ⟨_, rfl⟩
  have wm : IntKind.i64.wrap (2 * (n : Int)) = (m : Int) := by rw [IntKind.wrap_i64]; omega
  have h8 : m ≤ 8 := by omega
  have hm' : Hid (2 * n = m) := hm
  have hn' : Hid (n ≤ 4) := hn4
  clear h0 h1 hs hn hn4 hm
  go_enter Try.func6, Try.ntmps6
  go_upto_region 4 with (first
    | (go_at_call 11; refine kp.mono ?_; rintro r w1 ⟨bo, Ro, ba, Ra, e, T, T2, f, U, U2, rfl, hB⟩)
    | (go_at_call 12; refine (kl _).mono ?_; rintro r w2 ⟨rfl, g2⟩)
    | fail)
  have hO := hB.o.on g2
  have cc : Below w.heap.size w w2 := sp_call hB.bl g2
  have tt : Hid (e = false → Tt n T) := fun q => (hB.s.2 q).2
  clear hB g2 kp kl
  have ke := fun V hV => oempty bo n e T V hV
  cases e
  · have tt := tt.out rfl
    have tt' : Hid (Tt n T) := tt
    have kv := fun V hV => ovars bo n false T V hV
    go_wp2_with (first
      | (go_at_call 21; refine (ke _ hO).mono ?_; rintro r v2 ⟨rfl, hw⟩; subst v2)
      | (go_at_call 22; refine (kv _ hO).mono ?_; rintro r v2 ⟨rfl, hw⟩; subst v2)
      | fail)
    have kb := fun p q (hp : p < m) (hq : q < m) V hV => olbound bo n (by have := hn'.out; omega) T p q (by have := hm'.out; omega) (by have := hm'.out; omega) V hV
    have hom : ∀ r, r < m → ot r < m := fun r hr => by have := hm'.out; have := ot_lt (n := n) (a := r) (by omega); omega
    clear ke kv tt
    go_loopw [9] (fun j wr => ∃ (WR : World) (p : Nat), WR = wr ∧ p ≤ m ∧ j = .int .i64 p ∧ OctAt wr bo n false T ∧ Hid (Below w.heap.size w wr)) (fun j _ => m - (intOf j).toNat)
    case atStart => exact ⟨_, 0, rfl, by omega, rfl, hO, cc⟩
    case round =>
      clear hO cc
      obtain ⟨WR, p, rfl, hp, rfl, hO, cc⟩ := hrel
      by_cases cp : p < m
      · have cp' : (p : Int) < (m : Int) := by omega
        go_wp2_with fail
        go_loopw [10] (fun j wr => ∃ (WS : World) (q : Nat), WS = wr ∧ q ≤ m ∧ j = .int .i64 q ∧ OctAt wr bo n false T ∧ Hid (Below w.heap.size w wr)) (fun j _ => m - (intOf j).toNat)
        case atStart => exact ⟨_, 0, rfl, by omega, rfl, hO, cc⟩
        case round =>
          clear hO cc
          obtain ⟨WS, q, rfl, hq, rfl, hO, cc⟩ := hrel
          by_cases cq : q < m
          · have cq' : (q : Int) < (m : Int) := by omega
            have k1 := kb p q cp cq
            have k2 := kb q p cq cp
            have k3 := kb p p cp cp
            have k4 := kb q q cq cq
            have e1 := hm'.out
            have pn : p < 2 * n := by omega
            have qn : q < 2 * n := by omega
            have sy := tt'.out.sym q p qn pn
            have up1 := tt'.out.up p p pn pn
            have lo1 := tt'.out.low pn pn
            have up2 := tt'.out.up q q qn qn
            have lo2 := tt'.out.low qn qn
            have up3 := tt'.out.up p q pn qn
            have lo3 := tt'.out.low pn qn
            have hal := tt'.out.cl.hal p q pn qn
            rw [sy] at k2
            have v3 := oleven (T p p) (by omega) (by omega)
            have v4 := oleven (T q q) (by omega) (by omega)
            have w2 : IntKind.i64.wrap (2 * T p q) = 2 * T p q := by rw [IntKind.wrap_i64]; omega
            have w3 : IntKind.i64.wrap (evn (T p p) + evn (T q q)) = evn (T p p) + evn (T q q) := by unfold evn fh; rw [IntKind.wrap_i64]; omega
            have g1 : ¬ evn (T p p) + evn (T q q) < 2 * T p q := by unfold evn; omega
            obtain ⟨z, hz⟩ : ∃ z, Hid (T p q = z) := ⟨_, rfl⟩
            rw [show T p q = z from hz.out] at k1 k2 w2 g1
            clear sy up1 lo1 up2 lo2 up3 lo3 hal e1
            generalize evn (T p p) = y1 at *
            generalize evn (T q q) = y2 at *
            generalize T p p = x1 at *
            generalize T q q = x2 at *
            go_wp2_with (first
              | (go_at_call 23; with_reducible refine (k1 _ hO).mono ?_; rintro r v2 ⟨rfl, kk, hv⟩; replace hO := hO.dr hv; replace cc := bel_dr cc hv; clear hv; clear k1)
              | (go_at_call 23; with_reducible refine (k2 _ hO).mono ?_; rintro r v2 ⟨rfl, kk, hv⟩; replace hO := hO.dr hv; replace cc := bel_dr cc hv; clear hv; clear k2)
              | (go_at_call 23; with_reducible refine (k3 _ hO).mono ?_; rintro r v2 ⟨rfl, kk, hv⟩; replace hO := hO.dr hv; replace cc := bel_dr cc hv; clear hv; clear k3)
              | (go_at_call 23; with_reducible refine (k4 _ hO).mono ?_; rintro r v2 ⟨rfl, kk, hv⟩; replace hO := hO.dr hv; replace cc := bel_dr cc hv; clear hv; clear k4)
              | (go_at_call 24; with_reducible refine (v3 _).mono ?_; rintro r v2 ⟨rfl, hw⟩; subst v2; clear v3)
              | (go_at_call 24; with_reducible refine (v4 _).mono ?_; rintro r v2 ⟨rfl, hw⟩; subst v2; clear v4)
              | fail)
            clear w2 w3 g1
            go_loopw [12] (fun j wr => ∃ (WU : World) (r : Nat), WU = wr ∧ r ≤ m ∧ j = .int .i64 r ∧ OctAt wr bo n false T ∧ Hid (Below w.heap.size w wr)) (fun j _ => m - (intOf j).toNat)
            case atStart => exact ⟨_, 0, rfl, by omega, rfl, hO, cc⟩
            case round =>
              clear hO cc
              obtain ⟨WU, r, rfl, hr, rfl, hO, cc⟩ := hrel
              by_cases cr : r < m
              · have cr' : (r : Int) < (m : Int) := by omega
                have cor := hom r cr
                have k1 := kb p r cp cr
                have k2 := kb (ot r) q cor cq
                have e1 := hm'.out
                have hx := oxor r (by omega)
                have wr1 : IntKind.i64.wrap ((r : Int) + 1) = ((r + 1 : Nat) : Int) := by rw [IntKind.wrap_i64]; omega
                have cl := tt'.out.cl.clo r (by omega) p q (by omega) (by omega)
                rw [show T p q = z from hz.out] at cl
                have up1 := tt'.out.up p r (by omega) (by omega)
                have lo1 := tt'.out.low (a := p) (b := r) (by omega) (by omega)
                have up2 := tt'.out.up (ot r) q (by omega) (by omega)
                have lo2 := tt'.out.low (a := ot r) (b := q) (by omega) (by omega)
                have ws : IntKind.i64.wrap (T p r + T (ot r) q) = T p r + T (ot r) q := by rw [IntKind.wrap_i64]; omega
                have g1 : ¬ T p r + T (ot r) q < z := by omega
                clear up1 lo1 up2 lo2 cl e1 kb
                generalize T p r = y1 at *
                generalize T (ot r) q = y2 at *
                generalize ot r = x1 at *
                go_wp2_with (first
                  | (go_at_call 23; with_reducible refine (k1 _ hO).mono ?_; rintro r9 v2 ⟨rfl, kk, hv⟩; replace hO := hO.dr hv; replace cc := bel_dr cc hv; clear hv; clear k1)
                  | (go_at_call 23; with_reducible refine (k2 _ hO).mono ?_; rintro r9 v2 ⟨rfl, kk, hv⟩; replace hO := hO.dr hv; replace cc := bel_dr cc hv; clear hv; clear k2)
                  | fail)
                exact ⟨⟨_, r + 1, rfl, by omega, by simp, hO, cc⟩, by simp [intOf]; omega⟩
              · have er : r = m := by omega
                subst er
                clear cr hr
                have wq1 : IntKind.i64.wrap ((q : Int) + 1) = ((q + 1 : Nat) : Int) := by rw [IntKind.wrap_i64]; omega
                go_wp2_with fail
                go_roundw
                case rel => exact ⟨_, q + 1, rfl, by omega, by first | rfl | go_num, hO, cc⟩
                case measure => simp [intOf]; omega
          · have eq : q = m := by omega
            subst eq
            clear cq hq
            have wp1 : IntKind.i64.wrap ((p : Int) + 1) = ((p + 1 : Nat) : Int) := by rw [IntKind.wrap_i64]; omega
            go_wp2_with fail
            go_roundw
            case rel => exact ⟨_, p + 1, rfl, by omega, by first | rfl | go_num, hO, cc⟩
            case measure => simp [intOf]; omega
      · have ep : p = m := by omega
        subst ep
        go_wp2_with fail
        go_ret
        exact ⟨rfl, cc.out⟩
  · go_wp2_with (first
      | (go_at_call 21; refine (ke _ hO).mono ?_; rintro r v2 ⟨rfl, hw⟩; subst v2)
      | fail)
    go_ret
    exact ⟨rfl, cc⟩
end Go.Proofs.Ytpcbammncaeimaa

