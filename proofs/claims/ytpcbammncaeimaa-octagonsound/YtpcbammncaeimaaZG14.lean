/- Texts of the proof, put together. -/
import Derived.Test.YtpcbammncaeimaaZOeE
import Derived.Test.YtpcbammncaeimaaZG2
import Derived.Test.YtpcbammncaeimaaZG6
namespace Go.Proofs.Ytpcbammncaeimaa
open Go.RowKit
set_option linter.unusedVariables false
set_option linter.unusedSimpArgs false
def Dd.cell (d : Dd) : List Value := [.int .i64 d.kd, .int .i64 d.i, .int .i64 d.k, .bool d.ni, .bool d.nk, .int .i64 d.c, .bool d.ea, .int .i64 d.lo, .int .i64 d.hh]
def Dd.ok (d : Dd) : Prop := (-9223372036854775808 ≤ d.lo ∧ d.lo ≤ 9223372036854775807) ∧ (-9223372036854775808 ≤ d.hh ∧ d.hh ≤ 9223372036854775807)
def SlDd (W : World) (sv : Value) (ds : List Dd) : Prop := (sv = .slice none 0 0 ∧ ds = []) ∨ ∃ bk off cap : Nat, sv = .slice (some ⟨bk, off, none⟩) ds.length cap ∧ ds.length ≤ 9223372036854775807 ∧ (∀ d ∈ ds, d.ok) ∧ ∀ j d, ds[j]? = some d → ∀ t v, d.cell[t]? = some v → W.cell? ⟨bk, off + j * 9 + t, none⟩ = some v
theorem SlDd.on {W W' : World} {sv : Value} {ds : List Dd} (h : SlDd W sv ds) (g : Below W.heap.size W W') : SlDd W' sv ds := by
  rcases h with h | ⟨bk, off, cap, h1, h2, h3, h4⟩
  · exact Or.inl h
  · exact Or.inr ⟨bk, off, cap, h1, h2, h3, fun j d hd t v hv => sO g (h4 j d hd t v hv)⟩
set_option maxRecDepth 100000 in
theorem dix (bk off len cap j : Nat) (hj : j < len) (w : World) : (Instr.indexAt 22 (.slice (some ⟨bk, off, none⟩) len cap) (.int .i64 j)).run Try.prog w = .ok (.pointer (some ⟨bk, off + j * 9, none⟩)) w := by
  have e2 : ∀ w, (sizeOf (Try.prog.elem 22)).run Try.prog w = .ok 9 w := fun w => by kernel_rfl
  rw [run_indexAt_slice (h := by first | exact Try.underlying22 | rfl), if_pos ⟨by omega, by omega⟩, e2]
  show Result.ok (Value.pointer (some (Addr.add ⟨bk, off, none⟩ ((j : Int).toNat * 9)))) w = _
  rw [Go.WideShapes.add_plain, Int.toNat_natCast]
structure Bth (w0 W : World) (n bo ba : Nat) (Ro Ra : Rf) (e : Bool) (T T2 : Mx) (f : Bool) (U U2 : Mx) : Prop where
  o : OctAt W bo n e T
  r : RefAt W Ro n e T2
  a : OctAt W ba n f U
  b : RefAt W Ra n f U2
  s : Sm n e T e T2
  u : Sm n f U f U2
  n1 : bo ≠ ba
  n2 : bo < Ro.lo ∨ Ro.hi ≤ bo
  n3 : bo < Ra.lo ∨ Ra.hi ≤ bo
  n4 : ba < Ro.lo ∨ Ro.hi ≤ ba
  n5 : ba < Ra.lo ∨ Ra.hi ≤ ba
  n6 : Ro.hi ≤ Ra.lo ∨ Ra.hi ≤ Ro.lo
  z1 : w0.heap.size ≤ bo ∧ bo < W.heap.size
  z2 : w0.heap.size ≤ ba ∧ ba < W.heap.size
  z3 : w0.heap.size ≤ Ro.lo ∧ Ro.hi ≤ W.heap.size
  z4 : w0.heap.size ≤ Ra.lo ∧ Ra.hi ≤ W.heap.size
  bl : Below w0.heap.size w0 W
def PlayR (w w' : World) (r : Ending) (n : Nat) : Prop := ∃ bo Ro ba Ra e T T2 f U U2, r = .returned (.tuple #[.pointer (some ⟨bo, 0, none⟩), .pointer (some ⟨Ro.b, 0, none⟩), .bool true]) ∧ Bth w w' n bo ba Ro Ra e T T2 f U U2
theorem onl_rgn {b : Nat} {w w' : World} (h : Onl b w w') : Rgn b (b + 1) w w' := ⟨h.os, h.tape, h.output, h.size, fun k hk q => h.block k hk (by omega)⟩
theorem below_rg {w0 W W' : World} {lo hi : Nat} (h : Below w0.heap.size w0 W) (g : Rgn lo hi W W') (hb : w0.heap.size ≤ lo) : Below w0.heap.size w0 W' := below_rgn h g hb
theorem Bth.stepped {w0 W W1 W2 : World} {n bo ba b1 : Nat} {Ro Ra R1 : Rf} {e f e' : Bool} {T T2 U U2 T' T2' : Mx} (h : Bth w0 W n bo ba Ro Ra e T T2 f U U2) (g1 : Onl bo W W1) (o1 : OctAt W1 b1 n e' T') (k1 : b1 = bo ∨ W.heap.size ≤ b1) (g2 : Rgn Ro.lo Ro.hi W1 W2) (r1 : RefAt W2 R1 n e' T2') (k2 : R1 = Ro ∨ W1.heap.size ≤ R1.lo) (k3 : R1.hi ≤ W2.heap.size) (s : Sm n e' T' e' T2') : Bth w0 W2 n b1 ba R1 Ra e' T' T2' f U U2 := by
  have l1 : b1 < W1.heap.size := World.block_lt_of_cell? W1 _ o1.hv
  have q1 := g1.size
  have q2 := g2.size
  have p1 := h.n1
  have p2 := h.n2
  have p3 := h.n3
  have p4 := h.n4
  have p5 := h.n5
  have p6 := h.n6
  have y1 := h.z1
  have y2 := h.z2
  have y3 := h.z3
  have y4 := h.z4
  have d1 : b1 < Ro.lo ∨ Ro.hi ≤ b1 := by omega
  have ib := r1.ib
  refine ⟨o1.rgn g2 d1, r1, (h.a.onl g1 (Ne.symm p1)).rgn g2 p4, (h.b.onl g1 p3).rgn g2 (by omega), s, h.u, by omega, ?_, by omega, ?_, p5, ?_, by omega, by omega, ?_, by omega, below_rg (below_rg h.bl (onl_rgn g1) y1.1) g2 y3.1⟩
  · rcases k2 with rfl | k2
    · exact d1
    · omega
  · rcases k2 with rfl | k2
    · exact p4
    · omega
  · rcases k2 with rfl | k2
    · exact p6
    · omega
  · rcases k2 with rfl | k2
    · omega
    · omega
theorem Bth.forked {w0 W W1 W2 : World} {n bo ba : Nat} {Ro Ra R1 : Rf} {e f : Bool} {T T2 U U2 : Mx} (h : Bth w0 W n bo ba Ro Ra e T T2 f U U2) (o1 : OctAt W1 W.heap.size n e T) (g1 : Below W.heap.size W W1) (r1 : RefAt W2 R1 n e T2) (k1 : R1.lo = W1.heap.size) (k2 : R1.hi ≤ W2.heap.size) (g2 : Below W1.heap.size W1 W2) : Bth w0 W2 n bo W.heap.size Ro R1 e T T2 e T T2 := by
  have l1 : W.heap.size < W1.heap.size := World.block_lt_of_cell? W1 _ o1.hv
  have q2 := g2.size
  have y1 := h.z1
  have y3 := h.z3
  refine ⟨(h.o.on g1).on g2, (h.r.on g1).on g2, o1.on g2, r1, h.s, h.s, by omega, h.n2, by omega, by omega, by omega, by omega, by omega, by omega, by omega, by omega, ?_⟩
  exact (h.bl.trans (g1.mono (by omega))).trans (g2.mono (by omega))
theorem bx_sym (a b : Nat) : bx a b = bx b a := by
  unfold bx
  by_cases q : a = ot b
  · rw [if_pos q, if_pos (by rw [q, ot_ot])]
  · rw [if_neg q, if_neg (fun r => q (by rw [r, ot_ot]))]
theorem tt_bx (n : Nat) : Tt n bx where
  cl := {
    clo := fun k hk a b ha hb => by
      have h1 := bx_le a k
      have h2 := bx_le (ot k) b
      unfold bx at *
      split
      · split <;> split <;> omega
      · rename_i q
        split
        · rename_i r
          rw [if_neg (fun k => q (by rw [r, k]))]
          omega
        · split <;> omega
    hal := fun a b ha hb => by
      rw [bx_self, bx_self]
      have := (bx_le a b).2
      unfold fh
      omega
    pos := fun a ha => by rw [bx_ot]; exact Int.le_refl _ }
  sym := fun a b _ _ => bx_sym a b
  opp := fun a _ => bx_ot a
  up := fun a b _ _ => (bx_le a b).2
set_option maxRecDepth 100000 in
set_option maxHeartbeats 6400000 in
theorem oplay (nn : Int) (h0 : 0 ≤ nn) (h1 : nn ≤ 255) (sv : Value) (ds : List Dd) (w : World) (hs : SlDd w sv ds) (n : Nat) (hn : (n : Int) = nn % 4 + 1) :
    Calls Try.prog 11 #[.int .u8 nn, sv] w fun r w' => PlayR w w' r n := by
  have hn1 : 1 ≤ n := by omega
  have hn4 : n ≤ 4 := by omega
  have w0 : IntKind.i64.wrap nn = nn := by rw [IntKind.wrap_i64]; omega
  have t4 : nn.tmod 4 = nn % 4 := Int.tmod_eq_emod_of_nonneg h0
  have w1 : IntKind.i64.wrap (nn % 4 + 1) = (n : Int) := by rw [IntKind.wrap_i64]; omega
  have w2 : IntKind.i64.wrap (nn.tmod 4 + 1) = (n : Int) := by rw [t4]; exact w1
  have k1 := fun V => onew n hn1 (by omega) V
  have k2 := fun V => rnew n hn1 hn4 V
  have k3 := fun V b e M hV => ofork b n e M V hV
  have k4 := fun V R e M hV => rfork R n hn1 hn4 e M V hV
  have hn1' : Hid (1 ≤ n ∧ n ≤ 4) := ⟨hn1, hn4⟩
  clear h0 h1 hn hn1 hn4
  go_enter Try.func11, Try.ntmps11
  go_upto_region 4 with (first
    | (go_at_call 31; refine (k1 _).mono ?_; rintro r v1 ⟨rfl, ⟨M0, hO, hM0⟩, g1⟩)
    | (go_at_call 32; refine (k2 _).mono ?_; rintro r v2 ⟨⟨R0, rfl, f1, f2, hR⟩, g2⟩)
    | (go_at_call 19; refine (k3 _ _ _ _ (hO.on g2)).mono ?_; rintro r v3 ⟨rfl, hP, g3⟩)
    | (go_at_call 33; refine (k4 _ _ _ _ (hR.on g3)).mono ?_; rintro r v4 ⟨⟨R1, rfl, f3, f4, hS⟩, g4⟩)
    | fail)
  have hB : Bth w v4 n w.heap.size v2.heap.size R0 R1 false M0 bx false M0 bx := by
    have z1 : w.heap.size < v1.heap.size := World.block_lt_of_cell? v1 _ hO.hv
    have z2 := g2.size
    have z3 : v2.heap.size < v3.heap.size := World.block_lt_of_cell? v3 _ hP.hv
    have z4 := g4.size
    have s0 : Sm n false M0 false bx := ⟨rfl, fun _ => ⟨hM0, (tt_bx n).to fun a b ha hb => (hM0 a b ha hb).symm⟩⟩
    refine ⟨((hO.on g2).on g3).on g4, (hR.on g3).on g4, hP.on g4, hS, s0, s0, by omega, by omega, by omega, by omega, by omega, by omega, by omega, by omega, by omega, by omega, ?_⟩
    exact ((g1.trans (g2.mono (by omega))).trans (g3.mono (by omega))).trans (g4.mono (by omega))
  clear k1 k2 hO hM0 g1 hR g2 hP g3 hS g4 f1 f2 f3 f4 w0 t4 w1 w2
  rcases hs with ⟨rfl, rfl⟩ | ⟨bk, off, cap, rfl, hlen, hok, hcell⟩
  · go_wp2_with fail
    go_loopw [8, 9, 12] (fun v8 v9 j wr => v8 = .pointer (some ⟨w.heap.size, 0, none⟩) ∧ v9 = .pointer (some ⟨R0.b, 0, none⟩) ∧ j = .int .i64 0 ∧ wr = v4) (fun _ _ _ _ => 0)
    case atStart => exact ⟨rfl, rfl, rfl, rfl⟩
    case round =>
      obtain ⟨rfl, rfl, rfl, rfl⟩ := hrel
      go_wp2_with fail
      refine bodyPost_ret (v := .tuple #[.pointer (some ⟨w.heap.size, 0, none⟩), .pointer (some ⟨R0.b, 0, none⟩), .bool true]) (by simp [results, Try.results11, go_sem]) rfl ?_
      exact ⟨_, R0, _, R1, _, _, _, _, _, _, rfl, hB⟩
  · obtain ⟨len, hl⟩ : ∃ len, ds.length = len := ⟨_, rfl⟩
    rw [hl] at hlen ⊢
    have hl' : Hid (ds.length = len) := hl
    have ho : Hid (∀ d ∈ ds, d.ok) := hok
    have hc : Hid (∀ j d, ds[j]? = some d → ∀ t v, d.cell[t]? = some v → w.cell? ⟨bk, off + j * 9 + t, none⟩ = some v) := hcell
    have hlen' : Hid (len ≤ 9223372036854775807) := hlen
    clear hok hcell hl hlen
    go_wp2_with fail
    go_loopw [8, 9, 10, 11, 12] (fun v8 v9 v10 v11 v12 wr => ∃ (WR : World) (i bo ba : Nat) (Ro Ra : Rf) (e : Bool) (T T2 : Mx) (f : Bool) (U U2 : Mx), WR = wr ∧ i ≤ len ∧ i ≤ 14 ∧ v8 = .pointer (some ⟨bo, 0, none⟩) ∧ v9 = .pointer (some ⟨Ro.b, 0, none⟩) ∧ v10 = .pointer (some ⟨ba, 0, none⟩) ∧ v11 = .pointer (some ⟨Ra.b, 0, none⟩) ∧ v12 = .int .i64 i ∧ Hid (Bth w wr n bo ba Ro Ra e T T2 f U U2)) (fun _ _ _ _ i _ => 14 - (intOf i).toNat)
    case atStart => exact ⟨_, 0, _, _, R0, R1, _, _, _, _, _, _, rfl, by omega, by omega, rfl, rfl, rfl, rfl, rfl, hB⟩
    case round =>
      clear hB
      obtain ⟨WR, i, bo, ba, Ro, Ra, e, T, T2, f, U, U2, rfl, i1, i2, rfl, rfl, rfl, rfl, rfl, hB⟩ := hrel
      by_cases c1 : i < len
      · have c1' : (i : Int) < (len : Int) := by omega
        by_cases c2 : i < 14
        · have c2' : (i : Int) < 14 := by omega
          obtain ⟨d, hd⟩ : ∃ d, ds[i]? = some d := ⟨_, List.getElem?_eq_getElem (by rw [hl'.out]; exact c1)⟩
          have dok := ho.out d (List.mem_of_getElem? hd)
          have x1 := dix bk off len cap i c1
          have dl := fun t v (hv : d.cell[t]? = some v) => hc.out i d hd t v hv
          have st := ostep bo ba n (by have := hn1'.out; omega) d dok.1 dok.2 e f T U (fun q => (hB.out.s.2 q).2) (fun q => (hB.out.u.2 q).2) WR hB.out.o hB.out.a
          have rt := fun V (g : Onl bo WR V) => rstep Ro Ra n hn1'.out.1 hn1'.out.2 d e f T2 U2 (fun q => ((hB.out.s.2 q).2).to (hB.out.s.2 q).1) (fun q => ((hB.out.u.2 q).2).to (hB.out.u.2 q).1) V (Nat.le_trans hB.out.z3.2 g.size) (Nat.le_trans hB.out.z4.2 g.size) (hB.out.r.onl g hB.out.n2) (hB.out.b.onl g hB.out.n3)
          have bl2 := fun V (g : Onl bo WR V) => below_rg hB.out.bl (onl_rgn g) hB.out.z1.1
          have one := fun er e' T' er2 e2' T2' (q1 : StpR n d e T f U er e' T') (q2 : StpR n d e T2 f U2 er2 e2' T2') => stp_one (fun q => (hB.out.s.2 q).1) (fun q => (hB.out.s.2 q).2) (fun q => (hB.out.u.2 q).1) (fun q => (hB.out.u.2 q).2) q1 q2
          have wi : IntKind.i64.wrap ((i : Int) + 1) = ((i + 1 : Nat) : Int) := by rw [IntKind.wrap_i64]; omega
          have t3 : (i : Int).tmod 3 = (i : Int) % 3 := Int.tmod_eq_emod_of_nonneg (by omega)
          obtain ⟨kd, di, dk, ni, nk, c, ea, lo, hh⟩ := d
          simp only [Dd.v] at st rt
          have b0 := sO hB.out.bl (dl 0 _ rfl)
          have b1 := sO hB.out.bl (dl 1 _ rfl)
          have b2 := sO hB.out.bl (dl 2 _ rfl)
          have b3 := sO hB.out.bl (dl 3 _ rfl)
          have b4 := sO hB.out.bl (dl 4 _ rfl)
          have b5 := sO hB.out.bl (dl 5 _ rfl)
          have b6 := sO hB.out.bl (dl 6 _ rfl)
          have b7 := sO hB.out.bl (dl 7 _ rfl)
          have b8 := sO hB.out.bl (dl 8 _ rfl)
          have dl' := Hid.out (p := ∀ t v, (Dd.cell ⟨kd, di, dk, ni, nk, c, ea, lo, hh⟩)[t]? = some v → w.cell? ⟨bk, off + i * 9 + t, none⟩ = some v) dl
          rw [Nat.add_zero] at b0
          clear dl dok
          have dlh : Hid (∀ t v, (Dd.cell ⟨kd, di, dk, ni, nk, c, ea, lo, hh⟩)[t]? = some v → w.cell? ⟨bk, off + i * 9 + t, none⟩ = some v) := dl'
          clear dl'
          generalize off + i * 9 = o9 at *
          go_upto_region 9 with (first
            | (go_at_call 20; refine st.mono ?_; rintro r w1 ⟨⟨bb, er, e1, T1, rfl, hO1, q1, kb1⟩, g1⟩; replace b0 := sO (bl2 _ g1) (dlh.out 0 _ rfl); replace b1 := sO (bl2 _ g1) (dlh.out 1 _ rfl); replace b2 := sO (bl2 _ g1) (dlh.out 2 _ rfl); replace b3 := sO (bl2 _ g1) (dlh.out 3 _ rfl); replace b4 := sO (bl2 _ g1) (dlh.out 4 _ rfl); replace b5 := sO (bl2 _ g1) (dlh.out 5 _ rfl); replace b6 := sO (bl2 _ g1) (dlh.out 6 _ rfl); replace b7 := sO (bl2 _ g1) (dlh.out 7 _ rfl); replace b8 := sO (bl2 _ g1) (dlh.out 8 _ rfl); rw [Nat.add_zero] at b0)
            | (go_at_call 34; refine (rt _ g1).mono ?_; rintro r w2 ⟨⟨R1', er2, e2, T2', rfl, hR2, q2, kb2, kb3⟩, g2⟩)
            | fail)
          obtain ⟨eer, eeb, sm⟩ := one er e1 T1 er2 e2 T2' q1 q2
          subst eer
          subst eeb
          have hB2 := hB.out.stepped g1 hO1 kb1 g2 hR2 kb2 kb3 ⟨rfl, sm⟩
          have hB2' : Hid (Bth w w2 n bb ba R1' Ra e1 T1 T2' f U U2) := hB2
          have fk1 := k3 w2 bb e1 T1 hB2.o
          have fk2 := fun V (g : Below w2.heap.size w2 V) => k4 V R1' e1 T2' (hB2.r.on g)
          clear hB2 one q1 q2 kb1 kb2 kb3 hO1 hR2 g2 st rt bl2 dlh b0 b1 b2 b3 b4 b5 b6 b7 b8 sm g1 hB x1 hd
          by_cases c3 : (i : Int) % 3 = 0
          · go_wp2_with (first
              | (go_at_call 19; refine fk1.mono ?_; rintro r w3 ⟨rfl, hP, g3⟩)
              | (go_at_call 33; refine (fk2 _ g3).mono ?_; rintro r w4 ⟨⟨R5, rfl, f5, f6, hS⟩, g4⟩)
              | fail)
            have hB3 := hB2'.out.forked hP g3 hS f5 f6 g4
            exact ⟨⟨_, i + 1, bb, w2.heap.size, R1', R5, e1, T1, T2', e1, T1, T2', rfl, by omega, by omega, rfl, rfl, rfl, rfl, by simp, hB3⟩, by simp [intOf]; omega⟩
          · go_wp2_with fail
            exact ⟨⟨_, i + 1, bb, ba, R1', Ra, e1, T1, T2', f, U, U2, rfl, by omega, by omega, rfl, rfl, rfl, rfl, by simp, hB2'⟩, by simp [intOf]; omega⟩
        · have e14 : i = 14 := by omega
          subst e14
          go_wp2_with fail
          refine bodyPost_ret (v := .tuple #[.pointer (some ⟨bo, 0, none⟩), .pointer (some ⟨Ro.b, 0, none⟩), .bool true]) (by simp [results, Try.results11, go_sem]) rfl ?_
          exact ⟨_, Ro, _, Ra, _, _, _, _, _, _, rfl, hB.out⟩
      · have c1' : ¬ (i : Int) < (len : Int) := by omega
        go_wp2_with fail
        refine bodyPost_ret (v := .tuple #[.pointer (some ⟨bo, 0, none⟩), .pointer (some ⟨Ro.b, 0, none⟩), .bool true]) (by simp [results, Try.results11, go_sem]) rfl ?_
        exact ⟨_, Ro, _, Ra, _, _, _, _, _, _, rfl, hB.out⟩
end Go.Proofs.Ytpcbammncaeimaa


namespace Go.Proofs.Ytpcbammncaeimaa
open Go.RowKit
set_option linter.unusedVariables false
set_option linter.unusedSimpArgs false
theorem iright_num2 {x y : Int} (h1 : -2147483648 ≤ x) (h2 : x ≤ y) (h3 : y ≤ 2147483647) : rightP WyI (false, x, y) = true := by
  have c : cmpI x y ≤ 0 := by unfold cmpI; split <;> (try split) <;> omega
  simp only [rightP, Bool.false_eq_true, if_false, Bool.and_eq_true, decide_eq_true_eq]
  refine ⟨?_, ?_, c⟩
  · show in32 x = true
    simp [in32]; omega
  · show in32 y = true
    simp [in32]; omega
theorem iof_num2 {x y : Int} (h1 : -2147483648 ≤ x) (h2 : x ≤ y) (h3 : y ≤ 2147483647) : ofP WyI x y = (false, x, y) := by
  show (if rightP WyI (false, x, y) = true then (false, x, y) else (true, 0, 0)) = _
  rw [if_pos (iright_num2 h1 h2 h3)]
set_option maxRecDepth 100000 in
set_option maxHeartbeats 800000 in
theorem orange (b n : Nat) (hn : n ≤ 8) (M : Mx) (i : Nat) (hi : i < n) (lo hh L H : Int) (eL : (M (2 * i + 1) (2 * i + 1)).tdiv 2 = L) (eH : (M (2 * i) (2 * i)).tdiv 2 = H) (el : max (-L) (-2147483648) = lo) (eh : min H 2147483647 = hh) (hlh : lo ≤ hh)
    (b1 : -4611686018427387904 ≤ M (2 * i + 1) (2 * i + 1)) (b2 : M (2 * i + 1) (2 * i + 1) ≤ 4611686018427387904) (b3 : -4611686018427387904 ≤ M (2 * i) (2 * i)) (b4 : M (2 * i) (2 * i) ≤ 4611686018427387904) (w : World) (h : OctAt w b n false M) :
    Calls Try.prog 25 #[.pointer (some ⟨b, 0, none⟩), .int .i64 i] w fun r w' => r = .returned (.agg #[.bool false, .int .i64 lo, .int .i64 hh]) ∧ Below w.heap.size w w' := by
  have s1 := oside i (by omega) true
  have s2 := oside i (by omega) false
  obtain ⟨W, hW⟩ : ∃ W, w.alloc (.cells #[.bool false, .int .i64 0, .int .i64 0] 39) = W := ⟨_, rfl⟩
  have gW : Below w.heap.size w W := by rw [← hW]; exact (Below.refl _ _).alloc (Nat.le_refl _) _
  have zW : w.heap.size + 1 ≤ W.heap.size := by rw [← hW]; simp
  have r0 : W.cell? ⟨w.heap.size, 0, none⟩ = some (.bool false) := by rw [← hW]; simp [go_sem]
  have r1 : W.cell? ⟨w.heap.size, 1, none⟩ = some (.int .i64 0) := by rw [← hW]; simp [go_sem]
  have r2 : W.cell? ⟨w.heap.size, 2, none⟩ = some (.int .i64 0) := by rw [← hW]; simp [go_sem]
  have fz : ∀ j, W.frozen? ⟨w.heap.size, j, none⟩ = false := by intro j; rw [← hW]; simp [go_sem]
  have hO := h.on gW
  have v1 := oisvar b n false M i hi W hO
  have he := hO.he
  have k1 := ogreat b n false M (2 * i + 1) (by omega) b1 b2 W hO
  have k2 := ogreat b n false M (2 * i) (by omega) b3 b4 W hO
  have lb : -4611686018427387904 ≤ L ∧ L ≤ 4611686018427387904 := by rw [← eL, td2]; split <;> omega
  have wn : IntKind.i64.wrap (-L) = -L := by rw [IntKind.wrap_i64]; omega
  have ki := intOf_any lo hh (by omega) (by omega)
  rw [iof_num2 (by omega) hlh (by omega)] at ki
  have kj : ∀ p q, p = lo → q = hh → ∀ V, Calls Try.prog 54 #[.int .i64 p, .int .i64 q] V fun r w' => r = .returned (.agg #[.bool false, .int .i64 lo, .int .i64 hh]) ∧ Below V.heap.size V w' := fun p q hp hq V => by rw [hp, hq]; exact ki V
  clear ki
  rw [eL] at k1
  rw [eH] at k2
  have e1 : 2 * i + false.toNat = 2 * i := rfl
  have e2 : 2 * i + true.toNat = 2 * i + 1 := rfl
  rw [e1] at s2
  rw [e2] at s1
  clear e1 e2 eL eH b1 b2 b3 b4 lb h hlh
  generalize 2 * i + 1 = y at *
  generalize 2 * i = x at *
  go_enter Try.func25, Try.ntmps25
  go_upto_region 1 with fail
  (try rw [hW])
  clear hW
  go_wp2_with (first
    | (go_at_call 51; refine v1.mono ?_; rintro r v2 ⟨rfl, hw2⟩; subst v2; clear v1)
    | (go_at_call 53; refine (s1 _).mono ?_; rintro r v3 ⟨rfl, hw3⟩; subst v3; clear s1)
    | (go_at_call 53; refine (s2 _).mono ?_; rintro r v3 ⟨rfl, hw3⟩; subst v3; clear s2)
    | (go_at_call_of 52 y; refine k1.mono ?_; rintro r v4 ⟨rfl, hw4⟩; subst v4; clear k1)
    | (go_at_call_of 52 x; refine k2.mono ?_; rintro r v4 ⟨rfl, hw4⟩; subst v4; clear k2)
    | (go_at_call 54; refine (kj _ _ (by omega) (by omega) _).mono ?_; rintro r v5 ⟨rfl, g⟩; replace fz : ∀ j, v5.frozen? ⟨w.heap.size, j, none⟩ = false := fun j => (g.frozen (p := ⟨w.heap.size, j, none⟩) (by first | (simp; done) | (simp; omega))).trans (fz j); replace r0 := sO g r0; replace r1 := sO g r1; replace r2 := sO g r2; replace gW := sp_call gW g; clear g)
    | fail)
  all_goals exact bodyPost_ret (v := .agg #[.bool false, .int .i64 lo, .int .i64 hh]) (by simp [results, Try.results25, go_sem, r0, r1, r2]) rfl ⟨rfl, ((gW.setCell (p := ⟨w.heap.size, 0, none⟩) (Nat.le_refl _) _).setCell (p := ⟨w.heap.size, 1, none⟩) (Nat.le_refl _) _).setCell (p := ⟨w.heap.size, 2, none⟩) (Nat.le_refl _) _⟩
end Go.Proofs.Ytpcbammncaeimaa


namespace Go.Proofs.Ytpcbammncaeimaa
open Go.RowKit
set_option linter.unusedVariables false
set_option linter.unusedSimpArgs false
def sdv (v : Nat → Int) (a : Nat) : Int := if a % 2 = 0 then v (a / 2) else -v (a / 2)
theorem sdv_ot (v : Nat → Int) (a : Nat) : sdv v (ot a) = - sdv v a := by
  unfold sdv ot
  split
  · rename_i h
    rw [if_neg (by omega), show (a + 1) / 2 = a / 2 by omega]
  · rename_i h
    rw [if_pos (by omega), show (a - 1) / 2 = a / 2 by omega]
    omega
theorem sdv_bd {v : Nat → Int} {B : Int} (h : ∀ j, -B ≤ v j ∧ v j ≤ B) (a : Nat) : -B ≤ sdv v a ∧ sdv v a ≤ B := by
  have := h (a / 2)
  unfold sdv
  split <;> omega
def vx (x y : Int) (j : Nat) : Int := if j = 0 then x else if j = 1 then y else 0
theorem vx_bd {x y : Int} (h1 : 0 ≤ x) (h2 : x ≤ 9) (h3 : 0 ≤ y) (h4 : y ≤ 9) (j : Nat) : -9 ≤ vx x y j ∧ vx x y j ≤ 9 := by
  unfold vx
  split
  · omega
  · split <;> omega
theorem bx_fit2 {n : Nat} {M : Mx} (h : ∀ a c, a < 2 * n → c < 2 * n → M a c = bx a c) {v : Nat → Int} (hv : ∀ j, -9 ≤ v j ∧ v j ≤ 9) : Fit n M (sdv v) := by
  refine ⟨sdv_ot v, fun a b ha hb => ?_⟩
  rw [h a b ha hb]
  unfold bx
  split
  · rename_i e
    rw [e, sdv_ot]
    omega
  · have := sdv_bd hv a
    have := sdv_bd hv b
    omega
end Go.Proofs.Ytpcbammncaeimaa


namespace Go.Proofs.Ytpcbammncaeimaa
open Go.RowKit
set_option linter.unusedVariables false
set_option linter.unusedSimpArgs false
theorem below_onl {n b : Nat} {w W W' : World} (h : Below n w W) (g : Onl b W W') (hb : n ≤ b) (hs : n ≤ W.heap.size) : Below n w W' :=
  ⟨g.os.trans h.os, g.tape.trans h.tape, g.output.trans h.output, Nat.le_trans h.size g.size, fun k hk => (g.block k (by omega) (by omega)).trans (h.block k hk)⟩
theorem u_0 (x y : Int) : sdv (vx x y) 0 = x := rfl
theorem u_1 (x y : Int) : sdv (vx x y) 1 = -x := rfl
theorem u_2 (x y : Int) : sdv (vx x y) 2 = y := rfl
theorem u_3 (x y : Int) : sdv (vx x y) 3 = -y := rfl
structure Lv (M0 M1 M2 M3 : Mx) : Prop where
  h0 : ∀ a c, a < 2 * 2 → c < 2 * 2 → M0 a c = bx a c
  t1 : Tgt 2 (low M0 0 3 0) M1
  t2 : Tgt 2 (low (low M1 2 2 10) 3 3 0) M2
  t3 : Tgt 2 (low (low M2 0 0 18) 1 1 (-6)) M3
theorem lf_1 {M0 : Mx} (h0 : ∀ a c, a < 2 * 2 → c < 2 * 2 → M0 a c = bx a c) {x y : Int} (h1 : 3 ≤ x) (h2 : x ≤ y) (h3 : y ≤ 5) : Fit 2 (low M0 0 3 0) (sdv (vx x y)) :=
  low_fit (bx_fit2 h0 (vx_bd (by omega) (by omega) (by omega) (by omega))) (by rw [u_0, u_3]; omega)
theorem lf_2 {M1 : Mx} {x y : Int} (f : Fit 2 M1 (sdv (vx x y))) (h1 : 3 ≤ x) (h2 : x ≤ y) (h3 : y ≤ 5) : Fit 2 (low (low M1 2 2 10) 3 3 0) (sdv (vx x y)) :=
  low_fit (low_fit f (by rw [u_2]; omega)) (by rw [u_3]; omega)
theorem lf_3 {M2 : Mx} {x y : Int} (f : Fit 2 M2 (sdv (vx x y))) (h1 : 3 ≤ x) (h2 : x ≤ y) (h3 : y ≤ 5) : Fit 2 (low (low M2 0 0 18) 1 1 (-6)) (sdv (vx x y)) :=
  low_fit (low_fit f (by rw [u_0]; omega)) (by rw [u_1]; omega)
theorem lv_all {M0 M1 M2 M3 : Mx} (h : Lv M0 M1 M2 M3) : M3 0 0 = 10 ∧ M3 1 1 = -6 ∧ M3 2 2 = 10 ∧ M3 3 3 = -6 := by
  obtain ⟨h0, t1, t2, t3⟩ := h
  have f : ∀ x y : Int, 3 ≤ x → x ≤ y → y ≤ 5 → Fit 2 M3 (sdv (vx x y)) := fun x y h1 h2 h3 => t3.fit _ (lf_3 (t2.fit _ (lf_2 (t1.fit _ (lf_1 h0 h1 h2 h3)) h1 h2 h3)) h1 h2 h3)
  have f3 := f 3 3 (by omega) (by omega) (by omega)
  have f5 := f 5 5 (by omega) (by omega) (by omega)
  have a0 := f5.2 0 0 (by omega) (by omega)
  have a1 := f3.2 1 1 (by omega) (by omega)
  have a2 := f5.2 2 2 (by omega) (by omega)
  have a3 := f3.2 3 3 (by omega) (by omega)
  rw [u_0] at a0
  rw [u_1] at a1
  rw [u_2] at a2
  rw [u_3] at a3
  have L3 : ∀ a c, a < 4 → c < 4 → M3 a c ≤ M2 a c := fun a c ha hc => Int.le_trans (t3.le a c ha hc) (Int.le_trans (low_le _ _ _ _ _ _) (low_le _ _ _ _ _ _))
  have L2 : ∀ a c, a < 4 → c < 4 → M2 a c ≤ M1 a c := fun a c ha hc => Int.le_trans (t2.le a c ha hc) (Int.le_trans (low_le _ _ _ _ _ _) (low_le _ _ _ _ _ _))
  have b1 : M3 0 3 ≤ 0 := Int.le_trans (L3 0 3 (by omega) (by omega)) (Int.le_trans (L2 0 3 (by omega) (by omega)) (Int.le_trans (t1.le 0 3 (by omega) (by omega)) (low_1 _ _ _ _)))
  have b2 : M3 3 0 ≤ 0 := Int.le_trans (L3 3 0 (by omega) (by omega)) (Int.le_trans (L2 3 0 (by omega) (by omega)) (Int.le_trans (t1.le 3 0 (by omega) (by omega)) (low_2 _ _ _ _)))
  have b3 : M3 2 2 ≤ 10 := Int.le_trans (L3 2 2 (by omega) (by omega)) (Int.le_trans (t2.le 2 2 (by omega) (by omega)) (Int.le_trans (low_le _ _ _ _ _ _) (low_1 _ _ _ _)))
  have b4 : M3 1 1 ≤ -6 := Int.le_trans (t3.le 1 1 (by omega) (by omega)) (low_1 _ _ _ _)
  have c1 : M3 0 0 ≤ M3 0 3 + M3 2 0 := t3.clo 3 (by omega) 0 0 (by omega) (by omega)
  have c2 : M3 2 0 ≤ M3 2 2 + M3 3 0 := t3.clo 2 (by omega) 2 0 (by omega) (by omega)
  have c3 : M3 3 3 ≤ M3 3 0 + M3 1 3 := t3.clo 0 (by omega) 3 3 (by omega) (by omega)
  have c4 : M3 1 3 ≤ M3 1 1 + M3 0 3 := t3.clo 1 (by omega) 1 3 (by omega) (by omega)
  refine ⟨?_, ?_, ?_, ?_⟩ <;> omega
theorem su_3 (a : Nat) : -1099511627776 ≤ sdv (vx 3 3) a ∧ sdv (vx 3 3) a ≤ 1099511627776 := by
  have := sdv_bd (vx_bd (x := 3) (y := 3) (by omega) (by omega) (by omega) (by omega)) a
  omega
set_option maxRecDepth 100000 in
set_option maxHeartbeats 1600000 in
theorem olive (w : World) : Calls Try.prog 12 #[] w fun r w' => r = .returned (.bool true) ∧ Below w.heap.size w w' := by
  have kn := onew 2 (by omega) (by omega) w
  obtain ⟨b, hb⟩ : ∃ b, w.heap.size = b := ⟨_, rfl⟩
  have hb' : Hid (w.heap.size = b) := hb
  rw [hb] at kn ⊢
  clear hb
  have kl : ∀ M0 V, (∀ a c, a < 2 * 2 → c < 2 * 2 → M0 a c = bx a c) → OctAt V b 2 false M0 → Calls Try.prog 30 #[.pointer (some ⟨b, 0, none⟩), .int .i64 0, .bool false, .int .i64 1, .bool true, .int .i64 0] V fun r w' => r = .returned (.int .i64 0) ∧ (∃ M', OctAt w' b 2 false M' ∧ Hid (Tgt 2 (low M0 0 3 0) M')) ∧ Onl b V w' := fun M0 V h0 hV =>
    olimit b 2 (by omega) M0 0 1 (by omega) (by omega) false true 0 (by omega) (by omega) (sdv (vx 3 3)) (lf_1 h0 (by omega) (by omega) (by omega)) su_3 (fun a c ha hc => by rw [h0 a c ha hc]; unfold bx; split <;> omega) V hV
  have ks : ∀ M0 M1 V, (∀ a c, a < 2 * 2 → c < 2 * 2 → M0 a c = bx a c) → Hid (Tgt 2 (low M0 0 3 0) M1) → OctAt V b 2 false M1 → Calls Try.prog 26 #[.pointer (some ⟨b, 0, none⟩), .int .i64 1, .agg #[.bool false, .int .i64 0, .int .i64 5]] V fun r w' => r = .returned (.int .i64 0) ∧ (∃ M', OctAt w' b 2 false M' ∧ Hid (Tgt 2 (low (low M1 2 2 10) 3 3 0) M')) ∧ Onl b V w' := fun M0 M1 V h0 t hV =>
    oset b 2 (by omega) M1 1 (by omega) 0 5 (by omega) (by omega) (by omega) (sdv (vx 3 3)) (lf_2 (t.out.fit _ (lf_1 h0 (by omega) (by omega) (by omega))) (by omega) (by omega) (by omega)) su_3 (fun a c ha hc => Int.le_trans (t.out.le a c ha hc) (Int.le_trans (low_le _ _ _ _ _ _) (by rw [h0 a c ha hc]; unfold bx; split <;> omega))) V hV
  have kt : ∀ M0 M1 M2 V, (∀ a c, a < 2 * 2 → c < 2 * 2 → M0 a c = bx a c) → Hid (Tgt 2 (low M0 0 3 0) M1) → Hid (Tgt 2 (low (low M1 2 2 10) 3 3 0) M2) → OctAt V b 2 false M2 → Calls Try.prog 26 #[.pointer (some ⟨b, 0, none⟩), .int .i64 0, .agg #[.bool false, .int .i64 3, .int .i64 9]] V fun r w' => r = .returned (.int .i64 0) ∧ (∃ M', OctAt w' b 2 false M' ∧ Hid (Tgt 2 (low (low M2 0 0 18) 1 1 (-6)) M')) ∧ Onl b V w' := fun M0 M1 M2 V h0 t t2 hV =>
    oset b 2 (by omega) M2 0 (by omega) 3 9 (by omega) (by omega) (by omega) (sdv (vx 3 3)) (lf_3 (t2.out.fit _ (lf_2 (t.out.fit _ (lf_1 h0 (by omega) (by omega) (by omega))) (by omega) (by omega) (by omega))) (by omega) (by omega) (by omega)) su_3 (fun a c ha hc => Int.le_trans (t2.out.le a c ha hc) (Int.le_trans (low_le _ _ _ _ _ _) (Int.le_trans (low_le _ _ _ _ _ _) (Int.le_trans (t.out.le a c ha hc) (Int.le_trans (low_le _ _ _ _ _ _) (by rw [h0 a c ha hc]; unfold bx; split <;> omega)))))) V hV
  have kr : ∀ M0 M1 M2 M3 V, Hid (Lv M0 M1 M2 M3) → OctAt V b 2 false M3 → ∀ i : Nat, i < 2 → Calls Try.prog 25 #[.pointer (some ⟨b, 0, none⟩), .int .i64 i] V fun r w' => r = .returned (.agg #[.bool false, .int .i64 3, .int .i64 5]) ∧ Below V.heap.size V w' := fun M0 M1 M2 M3 V hl hV i hi => by
    obtain ⟨q0, q1, q2, q3⟩ := lv_all hl.out
    have : i = 0 ∨ i = 1 := by omega
    rcases this with rfl | rfl
    · exact orange b 2 (by omega) M3 0 (by omega) 3 5 (-3) 5 (by show (M3 1 1).tdiv 2 = -3; rw [q1]; rfl) (by show (M3 0 0).tdiv 2 = 5; rw [q0]; rfl) (by decide) (by decide) (by decide) (by show _ ≤ M3 1 1; omega) (by show M3 1 1 ≤ _; omega) (by show _ ≤ M3 0 0; omega) (by show M3 0 0 ≤ _; omega) V hV
    · exact orange b 2 (by omega) M3 1 (by omega) 3 5 (-3) 5 (by show (M3 3 3).tdiv 2 = -3; rw [q3]; rfl) (by show (M3 2 2).tdiv 2 = 5; rw [q2]; rfl) (by decide) (by decide) (by decide) (by show _ ≤ M3 3 3; omega) (by show M3 3 3 ≤ _; omega) (by show _ ≤ M3 2 2; omega) (by show M3 2 2 ≤ _; omega) V hV
  go_enter Try.func12, Try.ntmps12
  go_upto_region 5 with (first
    | (go_at_call 31; refine kn.mono ?_; rintro r w1 ⟨rfl, ⟨M0, hO, hM0⟩, g1⟩; clear kn)
    | (go_at_call 30; refine (kl _ _ hM0 hO).mono ?_; rintro r w2 ⟨rfl, ⟨M1, hO1, t1⟩, c1⟩; clear kl)
    | (go_at_call 26; refine (ks _ _ _ hM0 t1 hO1).mono ?_; rintro r w3 ⟨rfl, ⟨M2, hO2, t2⟩, c2⟩; clear ks)
    | (go_at_call 26; refine (kt _ _ _ _ hM0 t1 t2 hO2).mono ?_; rintro r w4 ⟨rfl, ⟨M3, hO3, t3⟩, c3⟩; clear kt)
    | fail)
  have hL : Hid (Lv M0 M1 M2 M3) := ⟨hM0, t1.out, t2.out, t3.out⟩
  have zb : b ≤ w1.heap.size := Nat.le_of_lt (World.block_lt_of_cell? w1 _ hO.hv)
  have gg : Below b w w4 := below_onl (below_onl (below_onl g1 c1 (Nat.le_refl _) zb) c2 (Nat.le_refl _) (Nat.le_trans zb c1.size)) c3 (Nat.le_refl _) (Nat.le_trans zb (Nat.le_trans c1.size c2.size))
  have z4 : b ≤ w4.heap.size := Nat.le_of_lt (World.block_lt_of_cell? w4 _ hO3.hv)
  have r0 := kr _ _ _ _ _ hL hO3 0 (by omega)
  have r1 := fun V (g : Below w4.heap.size w4 V) => kr _ _ _ _ _ hL (hO3.on g) 1 (by omega)
  clear kr hL t1 t2 t3 c1 c2 c3 g1 hO hO1 hO2 hM0
  go_wp2_with (first
    | (go_at_call 25; refine r0.mono ?_; rintro r w5 ⟨rfl, g5⟩; clear r0)
    | (go_at_call 25; refine (r1 _ g5).mono ?_; rintro r w6 ⟨rfl, g6⟩; clear r1)
    | fail)
  go_ret
  exact ⟨rfl, gg.trans ((g5.mono z4).trans (g6.mono (Nat.le_trans z4 g5.size)))⟩
end Go.Proofs.Ytpcbammncaeimaa


namespace Go.Proofs.Ytpcbammncaeimaa
open Go.RowKit
set_option linter.unusedVariables false
set_option linter.unusedSimpArgs false
set_option maxRecDepth 100000 in
theorem ovars (b n : Nat) (e : Bool) (M : Mx) (w : World) (h : OctAt w b n e M) : Calls Try.prog 22 #[.pointer (some ⟨b, 0, none⟩)] w fun r w' => r = .returned (.int .i64 n) ∧ w' = w := by
  have hv := h.hv
  go_enter Try.func22, Try.ntmps22
  go_wp2_with fail
  go_ret
  exact ⟨rfl, rfl⟩
end Go.Proofs.Ytpcbammncaeimaa


namespace Go.Proofs.Ytpcbammncaeimaa
open Go.RowKit
set_option linter.unusedVariables false
set_option linter.unusedSimpArgs false
theorem sp_set1i {w W : World} (h : Below w.heap.size w W) {b j : Nat} (hb : w.heap.size ≤ b) (x : Value) : Below w.heap.size w (W.setCell ⟨b, j, none⟩ x) := h.setCell (p := ⟨b, j, none⟩) hb x
set_option maxRecDepth 100000 in
set_option maxHeartbeats 6400000 in
theorem rnoneI (w : World) : Calls Try.prog 75 #[] w fun e w' => e = .returned (.agg #[.bool true, .int .i64 0, .int .i64 0]) ∧ w' = w.alloc (.cells #[.bool true, .int .i64 0, .int .i64 0] 39) := by
  go_enter Try.func75, Try.ntmps75
  go_wp2_with fail
  exact bodyPost_ret (v := .agg #[.bool true, .int .i64 0, .int .i64 0]) (by simp [results, Try.results75, go_sem]) rfl ⟨rfl, rfl⟩
end Go.Proofs.Ytpcbammncaeimaa


namespace Go.Proofs.Ytpcbammncaeimaa
open Go.RowKit
set_option linter.unusedVariables false
set_option linter.unusedSimpArgs false
def rOfI (x y : Int) : Bool × Int × Int := if rI false x y then (false, x, y) else (true, 0, 0)
set_option maxRecDepth 100000 in
set_option maxHeartbeats 6400000 in
theorem rofI_any (x y : Int) (w : World) : Calls Try.prog 77 #[.int .i64 x, .int .i64 y] w fun e w' => e = .returned (.agg #[.bool (rOfI x y).1, .int .i64 (rOfI x y).2.1, .int .i64 (rOfI x y).2.2]) ∧ Below w.heap.size w w' := by
  have nb : ∀ V, Calls Try.prog 75 #[] V fun e w' => e = .returned (.agg #[.bool true, .int .i64 0, .int .i64 0]) ∧ Below V.heap.size V w' := fun V => (rnoneI V).mono fun e w' h => ⟨h.1, by rw [h.2]; exact sp_new (Below.refl _ _) _⟩
  have hr := rright_i false x y
  unfold rOfI
  generalize rI false x y = R at *
  cases R
  · simp only [Bool.false_eq_true, if_false]
    go_enter Try.func77, Try.ntmps77
    go_wp2_with (first
      | (go_at_call 93; refine (hr _).mono ?_; rintro e w3 ⟨rfl, g⟩; have hc := fun b j h => g.cell (p := ⟨b, j, none⟩) h; have hf := fun b j h => g.frozen (p := ⟨b, j, none⟩) h; have r0 : w3.cell? ⟨w.heap.size, 0, none⟩ = some (.bool false) := (hc _ _ (by simp; omega)).trans (by simp [go_sem]); have r1 : w3.cell? ⟨w.heap.size, 1, none⟩ = some (.int .i64 0) := (hc _ _ (by simp; omega)).trans (by simp [go_sem]); have r2 : w3.cell? ⟨w.heap.size, 2, none⟩ = some (.int .i64 0) := (hc _ _ (by simp; omega)).trans (by simp [go_sem]); have t0 : w3.cell? ⟨w.heap.size + 1, 0, none⟩ = some (.bool false) := (hc _ _ (by simp)).trans (by simp [go_sem]); have t1 : w3.cell? ⟨w.heap.size + 1, 1, none⟩ = some (.int .i64 x) := (hc _ _ (by simp)).trans (by simp [go_sem]); have t2 : w3.cell? ⟨w.heap.size + 1, 2, none⟩ = some (.int .i64 y) := (hc _ _ (by simp)).trans (by simp [go_sem]); have fz : ∀ j, w3.frozen? ⟨w.heap.size, j, none⟩ = false := fun j => (hf _ _ (by simp; omega)).trans (by simp [go_sem]); have zg : w.heap.size + 1 < w3.heap.size := (by have := g.size; simp at this; omega); have zh : w.heap.size < w3.heap.size := (by omega); have b1 := sp_call (show Below w.heap.size w _ by (repeat (first | with_reducible exact Below.refl _ _ | with_reducible assumption | with_reducible refine sp_new ?_ _ | with_reducible refine sp_set1i ?_ (by omega) _))) g; clear hc hf g)
      | (go_at_call 75; refine (nb _).mono ?_; rintro e w9 ⟨rfl, g⟩; replace fz := fun j => (g.frozen (p := ⟨w.heap.size, j, none⟩) zh).trans (fz j); replace r0 := sO g r0; replace r1 := sO g r1; replace r2 := sO g r2; replace b1 := sp_call b1 g; clear g)
      | fail)
    exact bodyPost_ret (v := .agg #[.bool true, .int .i64 0, .int .i64 0]) (by simp [results, Try.results77, go_sem, r0, r1, r2]) rfl ⟨by simp, by (repeat (first | with_reducible exact Below.refl _ _ | with_reducible assumption | with_reducible refine sp_new ?_ _ | with_reducible refine sp_set1i ?_ (by omega) _))⟩
  · simp only [if_true]
    go_enter Try.func77, Try.ntmps77
    go_wp2_with (first
      | (go_at_call 93; refine (hr _).mono ?_; rintro e w3 ⟨rfl, g⟩; have hc := fun b j h => g.cell (p := ⟨b, j, none⟩) h; have hf := fun b j h => g.frozen (p := ⟨b, j, none⟩) h; have r0 : w3.cell? ⟨w.heap.size, 0, none⟩ = some (.bool false) := (hc _ _ (by simp; omega)).trans (by simp [go_sem]); have r1 : w3.cell? ⟨w.heap.size, 1, none⟩ = some (.int .i64 0) := (hc _ _ (by simp; omega)).trans (by simp [go_sem]); have r2 : w3.cell? ⟨w.heap.size, 2, none⟩ = some (.int .i64 0) := (hc _ _ (by simp; omega)).trans (by simp [go_sem]); have t0 : w3.cell? ⟨w.heap.size + 1, 0, none⟩ = some (.bool false) := (hc _ _ (by simp)).trans (by simp [go_sem]); have t1 : w3.cell? ⟨w.heap.size + 1, 1, none⟩ = some (.int .i64 x) := (hc _ _ (by simp)).trans (by simp [go_sem]); have t2 : w3.cell? ⟨w.heap.size + 1, 2, none⟩ = some (.int .i64 y) := (hc _ _ (by simp)).trans (by simp [go_sem]); have fz : ∀ j, w3.frozen? ⟨w.heap.size, j, none⟩ = false := fun j => (hf _ _ (by simp; omega)).trans (by simp [go_sem]); have zg : w.heap.size + 1 < w3.heap.size := (by have := g.size; simp at this; omega); have zh : w.heap.size < w3.heap.size := (by omega); have b1 := sp_call (show Below w.heap.size w _ by (repeat (first | with_reducible exact Below.refl _ _ | with_reducible assumption | with_reducible refine sp_new ?_ _ | with_reducible refine sp_set1i ?_ (by omega) _))) g; clear hc hf g)
      | fail)
    exact bodyPost_ret (v := .agg #[.bool false, .int .i64 x, .int .i64 y]) (by simp [results, Try.results77, go_sem, r0, r1, r2]) rfl ⟨by simp, by (repeat (first | with_reducible exact Below.refl _ _ | with_reducible assumption | with_reducible refine sp_new ?_ _ | with_reducible refine sp_set1i ?_ (by omega) _))⟩
end Go.Proofs.Ytpcbammncaeimaa


