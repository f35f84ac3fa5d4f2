/- Texts of the proof, put together. -/
import Derived.Test.YtpcbammncaeimaaYG14
import Derived.Test.YtpcbammncaeimaaRows
import Derived.ProofKit
import Derived.OpenShut
import Derived.ChangeOld
import Derived.Lib.SmallJoins
import Derived.Deep.Strs
import Derived.Deep.Slices
import Derived.Carry
namespace Go.Proofs.Ytpcbammncaeimaa
open Go.RowKit
set_option linter.unusedVariables false
set_option linter.unusedSimpArgs false
theorem bel_drewN {w W : World} (h : Below w.heap.size w W) (k : Nat) : Below w.heap.size w (W.drewN k) := ⟨h.os, h.tape, h.output, h.size, h.block⟩
theorem OctAt.dr {W V : World} {b n k : Nat} {e : Bool} {M : Mx} (h : OctAt W b n e M) (hv : V = W.drewN k) : OctAt V b n e M := hv ▸ h.drewN k
theorem bel_dr {w W V : World} {k : Nat} (h : Hid (Below w.heap.size w W)) (hv : V = W.drewN k) : Hid (Below w.heap.size w V) := hv ▸ bel_drewN h.out k
set_option maxRecDepth 100000 in
set_option maxHeartbeats 6400000 in
theorem law_tight (nn : Int) (h0 : 0 ≤ nn) (h1 : nn ≤ 255) (sv : Value) (ds : List Dd) (w : World) (hs : SlDd w sv ds) :
    Calls Try.prog 6 #[.int .u8 nn, sv] w fun r w' => r = .returned (.bool true) ∧ Below w.heap.size w w' := by
  obtain ⟨n, hn⟩ : ∃ n : Nat, (n : Int) = nn % 4 + 1 := ⟨(nn % 4 + 1).toNat, by omega⟩
  have kp := oplay nn h0 h1 sv ds w hs n hn
  have hn4 : n ≤ 4 := by omega
  have kl := olive
  obtain ⟨m, hm⟩ : ∃ m, 2 * n = m := ⟨_, rfl⟩
  have wm : IntKind.i64.wrap (2 * (n : Int)) = (m : Int) := by rw [IntKind.wrap_i64]; omega
  have h8 : m ≤ 8 := by omega
  have hm' : Hid (2 * n = m) := hm
  have hn' : Hid (n ≤ 4) := hn4
  clear h0 h1 hs hn hn4 hm
  go_enter Try.func6, Try.ntmps6
  go_upto_region 4 with (first
    | (go_at_call 11; refine kp.mono ?_; rintro r w1 ⟨bo, Ro, ba, Ra, e, T, T2, f, U, U2, rfl, hB⟩)
    | (go_at_call 12; refine (kl _).mono ?_; rintro r w2 ⟨rfl, g2⟩)
    | fail)
  have hO := hB.o.on g2
  have cc : Below w.heap.size w w2 := sp_call hB.bl g2
  have tt : Hid (e = false → Tt n T) := fun q => (hB.s.2 q).2
  clear hB g2 kp kl
  have ke := fun V hV => oempty bo n e T V hV
  cases e
  · have tt := tt.out rfl
    have tt' : Hid (Tt n T) := tt
    have kv := fun V hV => ovars bo n false T V hV
    go_wp2_with (first
      | (go_at_call 21; refine (ke _ hO).mono ?_; rintro r v2 ⟨rfl, hw⟩; subst v2)
      | (go_at_call 22; refine (kv _ hO).mono ?_; rintro r v2 ⟨rfl, hw⟩; subst v2)
      | fail)
    have kb := fun p q (hp : p < m) (hq : q < m) V hV => olbound bo n (by have := hn'.out; omega) T p q (by have := hm'.out; omega) (by have := hm'.out; omega) V hV
    have hom : ∀ r, r < m → ot r < m := fun r hr => by have := hm'.out; have := ot_lt (n := n) (a := r) (by omega); omega
    clear ke kv tt
    go_loopw [9] (fun j wr => ∃ (WR : World) (p : Nat), WR = wr ∧ p ≤ m ∧ j = .int .i64 p ∧ OctAt wr bo n false T ∧ Hid (Below w.heap.size w wr)) (fun j _ => m - (intOf j).toNat)
    case atStart => exact ⟨_, 0, rfl, by omega, rfl, hO, cc⟩
    case round =>
      clear hO cc
      obtain ⟨WR, p, rfl, hp, rfl, hO, cc⟩ := hrel
      by_cases cp : p < m
      · have cp' : (p : Int) < (m : Int) := by omega
        go_wp2_with fail
        go_loopw [10] (fun j wr => ∃ (WS : World) (q : Nat), WS = wr ∧ q ≤ m ∧ j = .int .i64 q ∧ OctAt wr bo n false T ∧ Hid (Below w.heap.size w wr)) (fun j _ => m - (intOf j).toNat)
        case atStart => exact ⟨_, 0, rfl, by omega, rfl, hO, cc⟩
        case round =>
          clear hO cc
          obtain ⟨WS, q, rfl, hq, rfl, hO, cc⟩ := hrel
          by_cases cq : q < m
          · have cq' : (q : Int) < (m : Int) := by omega
            have k1 := kb p q cp cq
            have k2 := kb q p cq cp
            have k3 := kb p p cp cp
            have k4 := kb q q cq cq
            have e1 := hm'.out
            have pn : p < 2 * n := by omega
            have qn : q < 2 * n := by omega
            have sy := tt'.out.sym q p qn pn
            have up1 := tt'.out.up p p pn pn
            have lo1 := tt'.out.low pn pn
            have up2 := tt'.out.up q q qn qn
            have lo2 := tt'.out.low qn qn
            have up3 := tt'.out.up p q pn qn
            have lo3 := tt'.out.low pn qn
            have hal := tt'.out.cl.hal p q pn qn
            rw [sy] at k2
            have v3 := oleven (T p p) (by omega) (by omega)
            have v4 := oleven (T q q) (by omega) (by omega)
            have w2 : IntKind.i64.wrap (2 * T p q) = 2 * T p q := by rw [IntKind.wrap_i64]; omega
            have w3 : IntKind.i64.wrap (evn (T p p) + evn (T q q)) = evn (T p p) + evn (T q q) := by unfold evn fh; rw [IntKind.wrap_i64]; omega
            have g1 : ¬ evn (T p p) + evn (T q q) < 2 * T p q := by unfold evn; omega
            obtain ⟨z, hz⟩ : ∃ z, Hid (T p q = z) := ⟨_, rfl⟩
            rw [show T p q = z from hz.out] at k1 k2 w2 g1
            clear sy up1 lo1 up2 lo2 up3 lo3 hal e1
            generalize evn (T p p) = y1 at *
            generalize evn (T q q) = y2 at *
            generalize T p p = x1 at *
            generalize T q q = x2 at *
            go_wp2_with (first
              | (go_at_call 23; with_reducible refine (k1 _ hO).mono ?_; rintro r v2 ⟨rfl, kk, hv⟩; replace hO := hO.dr hv; replace cc := bel_dr cc hv; clear hv; clear k1)
              | (go_at_call 23; with_reducible refine (k2 _ hO).mono ?_; rintro r v2 ⟨rfl, kk, hv⟩; replace hO := hO.dr hv; replace cc := bel_dr cc hv; clear hv; clear k2)
              | (go_at_call 23; with_reducible refine (k3 _ hO).mono ?_; rintro r v2 ⟨rfl, kk, hv⟩; replace hO := hO.dr hv; replace cc := bel_dr cc hv; clear hv; clear k3)
              | (go_at_call 23; with_reducible refine (k4 _ hO).mono ?_; rintro r v2 ⟨rfl, kk, hv⟩; replace hO := hO.dr hv; replace cc := bel_dr cc hv; clear hv; clear k4)
              | (go_at_call 24; with_reducible refine (v3 _).mono ?_; rintro r v2 ⟨rfl, hw⟩; subst v2; clear v3)
              | (go_at_call 24; with_reducible refine (v4 _).mono ?_; rintro r v2 ⟨rfl, hw⟩; subst v2; clear v4)
              | fail)
            clear w2 w3 g1
            go_loopw [12] (fun j wr => ∃ (WU : World) (r : Nat), WU = wr ∧ r ≤ m ∧ j = .int .i64 r ∧ OctAt wr bo n false T ∧ Hid (Below w.heap.size w wr)) (fun j _ => m - (intOf j).toNat)
            case atStart => exact ⟨_, 0, rfl, by omega, rfl, hO, cc⟩
            case round =>
              clear hO cc
              obtain ⟨WU, r, rfl, hr, rfl, hO, cc⟩ := hrel
              by_cases cr : r < m
              · have cr' : (r : Int) < (m : Int) := by omega
                have cor := hom r cr
                have k1 := kb p r cp cr
                have k2 := kb (ot r) q cor cq
                have e1 := hm'.out
                have hx := oxor r (by omega)
                have wr1 : IntKind.i64.wrap ((r : Int) + 1) = ((r + 1 : Nat) : Int) := by rw [IntKind.wrap_i64]; omega
                have cl := tt'.out.cl.clo r (by omega) p q (by omega) (by omega)
                rw [show T p q = z from hz.out] at cl
                have up1 := tt'.out.up p r (by omega) (by omega)
                have lo1 := tt'.out.low (a := p) (b := r) (by omega) (by omega)
                have up2 := tt'.out.up (ot r) q (by omega) (by omega)
                have lo2 := tt'.out.low (a := ot r) (b := q) (by omega) (by omega)
                have ws : IntKind.i64.wrap (T p r + T (ot r) q) = T p r + T (ot r) q := by rw [IntKind.wrap_i64]; omega
                have g1 : ¬ T p r + T (ot r) q < z := by omega
                clear up1 lo1 up2 lo2 cl e1 kb
                generalize T p r = y1 at *
                generalize T (ot r) q = y2 at *
                generalize ot r = x1 at *
                go_wp2_with (first
                  | (go_at_call 23; with_reducible refine (k1 _ hO).mono ?_; rintro r9 v2 ⟨rfl, kk, hv⟩; replace hO := hO.dr hv; replace cc := bel_dr cc hv; clear hv; clear k1)
                  | (go_at_call 23; with_reducible refine (k2 _ hO).mono ?_; rintro r9 v2 ⟨rfl, kk, hv⟩; replace hO := hO.dr hv; replace cc := bel_dr cc hv; clear hv; clear k2)
                  | fail)
                exact ⟨⟨_, r + 1, rfl, by omega, by simp, hO, cc⟩, by simp [intOf]; omega⟩
              · have er : r = m := by omega
                subst er
                clear cr hr
                have wq1 : IntKind.i64.wrap ((q : Int) + 1) = ((q + 1 : Nat) : Int) := by rw [IntKind.wrap_i64]; omega
                go_wp2_with fail
                go_roundw
                case rel => exact ⟨_, q + 1, rfl, by omega, by first | rfl | go_num, hO, cc⟩
                case measure => simp [intOf]; omega
          · have eq : q = m := by omega
            subst eq
            clear cq hq
            have wp1 : IntKind.i64.wrap ((p : Int) + 1) = ((p + 1 : Nat) : Int) := by rw [IntKind.wrap_i64]; omega
            go_wp2_with fail
            go_roundw
            case rel => exact ⟨_, p + 1, rfl, by omega, by first | rfl | go_num, hO, cc⟩
            case measure => simp [intOf]; omega
      · have ep : p = m := by omega
        subst ep
        go_wp2_with fail
        go_ret
        exact ⟨rfl, cc.out⟩
  · go_wp2_with (first
      | (go_at_call 21; refine (ke _ hO).mono ?_; rintro r v2 ⟨rfl, hw⟩; subst v2)
      | fail)
    go_ret
    exact ⟨rfl, cc⟩
end Go.Proofs.Ytpcbammncaeimaa


namespace Go.Proofs.Ytpcbammncaeimaa
open Go.ChangeShapes Go.WideShapes Go.ChangeAt Go.RowKit Go.Joins Go.Deep
set_option linter.unusedVariables false
set_option linter.unusedSimpArgs false
set_option maxRecDepth 100000 in
theorem sc39 : Try.prog.cellsOf 39 = 3 := by kernel_rfl
set_option maxRecDepth 100000 in
theorem sc4 : Try.prog.cellsOf 4 = 1 := by kernel_rfl
set_option maxRecDepth 100000 in
theorem sc2 : Try.prog.cellsOf 2 = 1 := by kernel_rfl
section
variable {H : Type} {enc : TypeId × Value → H} {w : World} {base : Nat} {spare : Nat → Bool} {held : Bool}
set_option maxRecDepth 100000 in
theorem sp_bool {n : Nat} {c : Value} {y : DataW H × List MemPlace} (h : DataW.trod enc Try.prog w base spare held n 4 [c] = some y) : ∃ b : Bool, c = .bool b ∧ y = (.lit (.bool b), []) := by
  cases n with
  | zero => simp [DataW.trod] at h
  | succ n =>
    unfold DataW.trod at h
    rw [Try.underlying4] at h
    cases c <;> simp at h
    exact ⟨_, rfl, h.symm⟩
end
end Go.Proofs.Ytpcbammncaeimaa


namespace Go.Proofs.Ytpcbammncaeimaa
open Go.ChangeShapes Go.WideShapes Go.ChangeAt Go.RowKit Go.Joins Go.Deep
set_option linter.unusedVariables false
set_option linter.unusedSimpArgs false
theorem trod_struct7 {H : Type} {enc : TypeId × Value → H} {P : Program} {w : World} {base : Nat} {spare : Nat → Bool} {held : Bool} {t : TypeId} {f0 f1 f2 f3 f4 f5 f6 : Field} {fuel : Nat} {cs : List Value} {x : DataW H × List MemPlace} (ht : P.underlying t = some (.struct #[f0, f1, f2, f3, f4, f5, f6])) (h : DataW.trod enc P w base spare held fuel t cs = some x) :
    ∃ y0 y1 y2 y3 y4 y5 y6 n, x.2 = y0.2 ++ (y1.2 ++ (y2.2 ++ (y3.2 ++ (y4.2 ++ (y5.2 ++ y6.2))))) ∧ DataW.trod enc P w base spare held n f0.type ((cs.drop f0.offset).take (P.cellsOf f0.type)) = some y0 ∧ DataW.trod enc P w base spare held n f1.type ((cs.drop f1.offset).take (P.cellsOf f1.type)) = some y1 ∧ DataW.trod enc P w base spare held n f2.type ((cs.drop f2.offset).take (P.cellsOf f2.type)) = some y2 ∧ DataW.trod enc P w base spare held n f3.type ((cs.drop f3.offset).take (P.cellsOf f3.type)) = some y3 ∧ DataW.trod enc P w base spare held n f4.type ((cs.drop f4.offset).take (P.cellsOf f4.type)) = some y4 ∧ DataW.trod enc P w base spare held n f5.type ((cs.drop f5.offset).take (P.cellsOf f5.type)) = some y5 ∧ DataW.trod enc P w base spare held n f6.type ((cs.drop f6.offset).take (P.cellsOf f6.type)) = some y6 := by
  obtain ⟨xs, n, _, rfl, hl, hlen, hf⟩ := DataW.trod_struct ht h
  match xs, hlen with
  | [y0, y1, y2, y3, y4, y5, y6], _ => exact ⟨y0, y1, y2, y3, y4, y5, y6, n, by simp, by simpa using hf 0 f0 rfl, by simpa using hf 1 f1 rfl, by simpa using hf 2 f2 rfl, by simpa using hf 3 f3 rfl, by simpa using hf 4 f4 rfl, by simpa using hf 5 f5 rfl, by simpa using hf 6 f6 rfl⟩
set_option maxRecDepth 100000 in
theorem sc_deed : Try.prog.cellsOf 41 = 9 := by kernel_rfl
set_option maxRecDepth 100000 in
theorem sc_int : Try.prog.cellsOf 3 = 1 := by kernel_rfl
end Go.Proofs.Ytpcbammncaeimaa


namespace Go.Proofs.Ytpcbammncaeimaa
open Go.ChangeShapes Go.WideShapes Go.ChangeAt Go.RowKit Go.Joins Go.Deep
set_option linter.unusedVariables false
set_option linter.unusedSimpArgs false
theorem od_int {x : Int} (h : (Lit.int .i64 x).wf = true) : -9223372036854775808 ≤ x ∧ x ≤ 9223372036854775807 := by
  simp [Lit.wf, IntKind.min, IntKind.max, IntKind.signed, IntKind.bits] at h
  exact ⟨by omega, by omega⟩
theorem u8_of {x : Int} (h : (Lit.int .u8 x).wf = true) : 0 ≤ x ∧ x ≤ 255 := by
  simp [Lit.wf, IntKind.min, IntKind.max, IntKind.signed, IntKind.bits] at h
  exact ⟨by omega, by omega⟩
theorem pick_d {m : Nat} {P : Nat → Dd → Prop} (h : ∀ i, i < m → ∃ t, P i t) : ∃ q : Nat → Dd, ∀ i, i < m → P i (q i) :=
  ⟨fun i => if hi : i < m then Classical.choose (h i hi) else ⟨0, 0, 0, false, false, 0, false, 0, 0⟩, fun i hi => by simp only [dif_pos hi]; exact Classical.choose_spec (h i hi)⟩
section
variable {H : Type} {enc : TypeId × Value → H} {W : World}
set_option maxRecDepth 100000 in
theorem tr_deed {base : Nat} {sp : Nat → Bool} {hd : Bool} {n : Nat} {cs : List Value} {y : DataW H × List MemPlace} (hl : cs.length = 9) (h : DataW.trod enc Try.prog W base sp hd n 41 cs = some y) : ∃ d : Dd, cs = d.cell ∧ y.2 = [] ∧ d.ok := by
  match cs, hl with
  | [q0, q1, q2, q3, q4, q5, q6, q7, q8], _ =>
    obtain ⟨y0, y1, y2, y3, y4, y5, y6, n, hp, h0, h1, h2, h3, h4, h5, h6⟩ := trod_struct7 Try.underlying41 h
    simp only [Value.cells, sc_int, sc4, sc2, sc39] at h0 h1 h2 h3 h4 h5 h6
    obtain ⟨kd, e0, rfl, _⟩ := DataW.trod_int Try.underlying3 h0
    obtain ⟨i, e1, rfl, _⟩ := DataW.trod_int Try.underlying3 h1
    obtain ⟨k, e2, rfl, _⟩ := DataW.trod_int Try.underlying3 h2
    obtain ⟨ni, rfl, rfl⟩ := sp_bool h3
    obtain ⟨nk, rfl, rfl⟩ := sp_bool h4
    obtain ⟨c, e5, rfl, _⟩ := DataW.trod_int Try.underlying2 h5
    obtain ⟨z0, z1, z2, m, rfl, _, g0, g1, g2⟩ := trod_struct3 Try.underlying39 h6
    simp only [Value.cells, sc4, sc2] at g0 g1 g2
    obtain ⟨e, rfl, rfl⟩ := sp_bool g0
    obtain ⟨lo, e7, rfl, w7⟩ := DataW.trod_int Try.underlying2 g1
    obtain ⟨hh, e8, rfl, w8⟩ := DataW.trod_int Try.underlying2 g2
    simp at e0 e1 e2 e5 e7 e8
    subst e0 e1 e2 e5 e7 e8
    refine ⟨⟨kd, i, k, ni, nk, c, e, lo, hh⟩, rfl, ?_, od_int w7, od_int w8⟩
    simp at hp
    exact hp
set_option maxRecDepth 100000 in
theorem tr_deeds {n : Nat} {v : Value} {y : DataW H × List MemPlace} (hs : ∀ a l c, v = .slice (some a) l c → a.spot = none) (h : DataW.trod enc Try.prog W 0 (fun _ => true) true n 22 [v] = some y) : ∃ ds, SlDd W v ds ∧ ∀ x ∈ y.2, x.block < W.heap.size := by
  rcases open_slice Try.underlying22 h with ⟨hc, hx⟩ | ⟨a, len, cap, m, k, D, Pl, hc, _, hl, hm, hmm, hx, he⟩
  · simp at hc
    refine ⟨[], Or.inl ⟨hc, rfl⟩, ?_⟩
    rw [hx]
    simp
  · simp only [List.cons.injEq, and_true] at hc
    subst hc
    have spn := hs a len cap rfl
    obtain ⟨bk, off, spot⟩ := a
    simp only at spn
    subst spn
    rw [if_pos rfl] at hmm
    subst hmm
    rw [sc_deed] at he
    have each : ∀ i, i < m → ∃ d : Dd, (∀ t v, d.cell[t]? = some v → W.cell? ⟨bk, off + i * 9 + t, none⟩ = some v) ∧ d.ok ∧ Pl i = [] := by
      intro i hi
      obtain ⟨cs', h1, h2⟩ := he i hi
      obtain ⟨_, hlen, hcell⟩ := World.cells?_some h1
      obtain ⟨d, rfl, hp, ht⟩ := tr_deed hlen h2
      refine ⟨d, fun t v hv => ?_, ht, hp⟩
      have ht : t < 9 := by have := (List.getElem?_eq_some_iff.1 hv).1; rwa [hlen] at this
      have e0 := hcell t (by omega)
      rw [Go.Deep.add_add, Go.WideShapes.add_plain, hv] at e0
      rw [Nat.add_assoc]
      exact e0
    obtain ⟨q, hq⟩ := pick_d each
    refine ⟨(List.range len).map q, Or.inr ⟨bk, off, m, by simp, by simp; unfold maxLen at hm; omega, fun d hd => ?_, fun j d hj => ?_⟩, ?_⟩
    · obtain ⟨i, hi, rfl⟩ := List.mem_map.1 hd
      exact (hq i (by have := List.mem_range.1 hi; omega)).2.1
    · simp only [List.getElem?_map] at hj
      by_cases hjl : j < len
      · rw [List.getElem?_range hjl] at hj
        simp at hj
        subst hj
        exact (hq j (by omega)).1
      · rw [List.getElem?_eq_none (by simpa using hjl)] at hj
        simp at hj
    · rw [hx]
      intro x hx'
      simp only [List.mem_append] at hx'
      rcases hx' with hx' | hx'
      · obtain ⟨i, hi, rfl⟩ := MemPlace.mem_row.1 hx'
        rw [sc_deed] at hi
        have hm0 : 0 < m := by omega
        have := World.block_lt_of_cell? W _ ((hq 0 hm0).1 0 _ rfl)
        exact this
      · obtain ⟨i, hi, hx'⟩ := List.mem_flatMap.1 hx'
        rw [(hq i (List.mem_range.1 hi)).2.2] at hx'
        simp at hx'
set_option maxRecDepth 100000 in
theorem open_slds {base : Nat} {v : Value} {d : DataW H} {p : List MemPlace} (hv : Value.okWide Try.prog W .any base 22 v) (h : DataW.Trod enc Try.prog W 0 (fun _ => true) true 22 v d p) : ∃ ds, SlDd W v ds ∧ ∀ x ∈ p, x.block < W.heap.size := by
  have key : ∃ p l c, v = .slice p l c := by
    cases v <;> first | exact ⟨_, _, _, rfl⟩ | (exfalso; simp [Value.okWide, Cell.okWide, Cell.ok, Try.underlying22] at hv)
  obtain ⟨q, l, c, rfl⟩ := key
  obtain ⟨fuel, h⟩ := h
  obtain ⟨ds, h1, h2⟩ := tr_deeds (v := .slice q l c) (fun a l' c' e => by
    cases e
    simp [Value.okWide, Cell.okWide, Cell.ok, World.has, Try.underlying22] at hv
    exact hv.2.2.2.1) h
  exact ⟨ds, h1, h2⟩
end
end Go.Proofs.Ytpcbammncaeimaa


