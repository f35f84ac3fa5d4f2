/- play: deeds on both, one behind the other. -/
import Derived.Test.YtpcbammncaeimaaOeE
namespace Go.Proofs.Ytpcbammncaeimaa
open Go.RowKit
set_option linter.unusedVariables false
set_option linter.unusedSimpArgs false
def Dd.cell (d : Dd) : List Value := [.int .i64 d.kd, .int .i64 d.i, .int .i64 d.k, .bool d.ni, .bool d.nk, .int .i64 d.c, .bool d.ea, .int .i64 d.lo, .int .i64 d.hh]
def Dd.ok (d : Dd) : Prop := (-9223372036854775808 ≤ d.lo ∧ d.lo ≤ 9223372036854775807) ∧ (-9223372036854775808 ≤ d.hh ∧ d.hh ≤ 9223372036854775807)
/-- Deeds that lie in memory. -/
def SlDd (W : World) (sv : Value) (ds : List Dd) : Prop := (sv = .slice none 0 0 ∧ ds = []) ∨ ∃ bk off cap : Nat, sv = .slice (some ⟨bk, off, none⟩) ds.length cap ∧ ds.length ≤ 9223372036854775807 ∧ (∀ d ∈ ds, d.ok) ∧ ∀ j d, ds[j]? = some d → ∀ t v, d.cell[t]? = some v → W.cell? ⟨bk, off + j * 9 + t, none⟩ = some v
theorem SlDd.on {W W' : World} {sv : Value} {ds : List Dd} (h : SlDd W sv ds) (g : Below W.heap.size W W') : SlDd W' sv ds := by
  rcases h with h | ⟨bk, off, cap, h1, h2, h3, h4⟩
  · exact Or.inl h
  · exact Or.inr ⟨bk, off, cap, h1, h2, h3, fun j d hd t v hv => sp_cell_on g (h4 j d hd t v hv)⟩
set_option maxRecDepth 100000 in
theorem dix (bk off len cap j : Nat) (hj : j < len) (w : World) : (Instr.indexAt 22 (.slice (some ⟨bk, off, none⟩) len cap) (.int .i64 j)).run Try.prog w = .ok (.pointer (some ⟨bk, off + j * 9, none⟩)) w := by
  have e2 : ∀ w, (sizeOf (Try.prog.elem 22)).run Try.prog w = .ok 9 w := fun w => by kernel_rfl
  rw [run_indexAt_slice (h := by first | exact Try.underlying22 | rfl), if_pos ⟨by omega, by omega⟩, e2]
  show Result.ok (Value.pointer (some (Addr.add ⟨bk, off, none⟩ ((j : Int).toNat * 9)))) w = _
  rw [Go.WideShapes.add_plain, Int.toNat_natCast]
set_option maxRecDepth 100000 in
theorem dload (bk o : Nat) (d : Dd) (w : World) (h : ∀ t v, d.cell[t]? = some v → w.cell? ⟨bk, o + t, none⟩ = some v) : (Instr.loadAt 41 (.pointer (some ⟨bk, o, none⟩))).run Try.prog w = .ok d.v w := by
  have := run_loadAt_mid (P := Try.prog) w bk o 41 d.cell _ h Try.underlying41 rfl (by kernel_rfl)
  exact this
/-- Both of one number of variables, and all that is known of them. -/
structure Bth (w0 W : World) (n bo ba : Nat) (Ro Ra : Rf) (e : Bool) (T T2 : Mx) (f : Bool) (U U2 : Mx) : Prop where
  o : OctAt W bo n e T
  r : RefAt W Ro n e T2
  a : OctAt W ba n f U
  b : RefAt W Ra n f U2
  s : Sm n e T e T2
  u : Sm n f U f U2
  n1 : bo ≠ ba
  n2 : bo < Ro.lo ∨ Ro.hi ≤ bo
  n3 : bo < Ra.lo ∨ Ra.hi ≤ bo
  n4 : ba < Ro.lo ∨ Ro.hi ≤ ba
  n5 : ba < Ra.lo ∨ Ra.hi ≤ ba
  n6 : Ro.hi ≤ Ra.lo ∨ Ra.hi ≤ Ro.lo
  z1 : w0.heap.size ≤ bo ∧ bo < W.heap.size
  z2 : w0.heap.size ≤ ba ∧ ba < W.heap.size
  z3 : w0.heap.size ≤ Ro.lo ∧ Ro.hi ≤ W.heap.size
  z4 : w0.heap.size ≤ Ra.lo ∧ Ra.hi ≤ W.heap.size
  bl : Below w0.heap.size w0 W
/-- What play tells. -/
def PlayR (w w' : World) (r : Ending) (n : Nat) : Prop := ∃ bo Ro ba Ra e T T2 f U U2, r = .returned (.tuple #[.pointer (some ⟨bo, 0, none⟩), .pointer (some ⟨Ro.b, 0, none⟩), .bool true]) ∧ Bth w w' n bo ba Ro Ra e T T2 f U U2
theorem onl_rgn {b : Nat} {w w' : World} (h : Onl b w w') : Rgn b (b + 1) w w' := ⟨h.os, h.tape, h.output, h.size, fun k hk q => h.block k hk (by omega)⟩
theorem below_rg {w0 W W' : World} {lo hi : Nat} (h : Below w0.heap.size w0 W) (g : Rgn lo hi W W') (hb : w0.heap.size ≤ lo) : Below w0.heap.size w0 W' := below_rgn h g hb
/-- Behind both steps. -/
theorem Bth.stepped {w0 W W1 W2 : World} {n bo ba b1 : Nat} {Ro Ra R1 : Rf} {e f e' : Bool} {T T2 U U2 T' T2' : Mx} (h : Bth w0 W n bo ba Ro Ra e T T2 f U U2) (g1 : Onl bo W W1) (o1 : OctAt W1 b1 n e' T') (k1 : b1 = bo ∨ W.heap.size ≤ b1) (g2 : Rgn Ro.lo Ro.hi W1 W2) (r1 : RefAt W2 R1 n e' T2') (k2 : R1 = Ro ∨ W1.heap.size ≤ R1.lo) (k3 : R1.hi ≤ W2.heap.size) (s : Sm n e' T' e' T2') : Bth w0 W2 n b1 ba R1 Ra e' T' T2' f U U2 := by
  have l1 : b1 < W1.heap.size := World.block_lt_of_cell? W1 _ o1.hv
  have q1 := g1.size
  have q2 := g2.size
  have p1 := h.n1
  have p2 := h.n2
  have p3 := h.n3
  have p4 := h.n4
  have p5 := h.n5
  have p6 := h.n6
  have y1 := h.z1
  have y2 := h.z2
  have y3 := h.z3
  have y4 := h.z4
  have d1 : b1 < Ro.lo ∨ Ro.hi ≤ b1 := by omega
  have ib := r1.ib
  refine ⟨o1.rgn g2 d1, r1, (h.a.onl g1 (Ne.symm p1)).rgn g2 p4, (h.b.onl g1 p3).rgn g2 (by omega), s, h.u, by omega, ?_, by omega, ?_, p5, ?_, by omega, by omega, ?_, by omega, below_rg (below_rg h.bl (onl_rgn g1) y1.1) g2 y3.1⟩
  · rcases k2 with rfl | k2
    · exact d1
    · omega
  · rcases k2 with rfl | k2
    · exact p4
    · omega
  · rcases k2 with rfl | k2
    · exact p6
    · omega
  · rcases k2 with rfl | k2
    · omega
    · omega
theorem Bth.forked {w0 W W1 W2 : World} {n bo ba : Nat} {Ro Ra R1 : Rf} {e f : Bool} {T T2 U U2 : Mx} (h : Bth w0 W n bo ba Ro Ra e T T2 f U U2) (o1 : OctAt W1 W.heap.size n e T) (g1 : Below W.heap.size W W1) (r1 : RefAt W2 R1 n e T2) (k1 : R1.lo = W1.heap.size) (k2 : R1.hi ≤ W2.heap.size) (g2 : Below W1.heap.size W1 W2) : Bth w0 W2 n bo W.heap.size Ro R1 e T T2 e T T2 := by
  have l1 : W.heap.size < W1.heap.size := World.block_lt_of_cell? W1 _ o1.hv
  have q2 := g2.size
  have y1 := h.z1
  have y3 := h.z3
  refine ⟨(h.o.on g1).on g2, (h.r.on g1).on g2, o1.on g2, r1, h.s, h.s, by omega, h.n2, by omega, by omega, by omega, by omega, by omega, by omega, by omega, by omega, ?_⟩
  exact (h.bl.trans (g1.mono (by omega))).trans (g2.mono (by omega))
theorem bx_sym (a b : Nat) : bx a b = bx b a := by
  unfold bx
  by_cases q : a = ot b
  · rw [if_pos q, if_pos (by rw [q, ot_ot])]
  · rw [if_neg q, if_neg (fun r => q (by rw [r, ot_ot]))]
theorem tt_bx (n : Nat) : Tt n bx where
  cl := {
    clo := fun k hk a b ha hb => by
      have h1 := bx_le a k
      have h2 := bx_le (ot k) b
      unfold bx at *
      split
      · split <;> split <;> omega
      · rename_i q
        split
        · rename_i r
          rw [if_neg (fun k => q (by rw [r, k]))]
          omega
        · split <;> omega
    hal := fun a b ha hb => by
      rw [bx_self, bx_self]
      have := (bx_le a b).2
      unfold fh
      omega
    pos := fun a ha => by rw [bx_ot]; exact Int.le_refl _ }
  sym := fun a b _ _ => bx_sym a b
  opp := fun a _ => bx_ot a
  up := fun a b _ _ => (bx_le a b).2
set_option maxRecDepth 100000 in
set_option maxHeartbeats 6400000 in
theorem oplay (nn : Int) (h0 : 0 ≤ nn) (h1 : nn ≤ 255) (sv : Value) (ds : List Dd) (w : World) (hs : SlDd w sv ds) (n : Nat) (hn : (n : Int) = nn % 4 + 1) :
    Calls Try.prog 11 #[.int .u8 nn, sv] w fun r w' => PlayR w w' r n := by
  have hn1 : 1 ≤ n := by omega
  have hn4 : n ≤ 4 := by omega
  have w0 : IntKind.i64.wrap nn = nn := by rw [IntKind.wrap_i64]; omega
  have t4 : nn.tmod 4 = nn % 4 := Int.tmod_eq_emod_of_nonneg h0
  have w1 : IntKind.i64.wrap (nn % 4 + 1) = (n : Int) := by rw [IntKind.wrap_i64]; omega
  have w2 : IntKind.i64.wrap (nn.tmod 4 + 1) = (n : Int) := by rw [t4]; exact w1
  have k1 := fun V => onew n hn1 (by omega) V
  have k2 := fun V => rnew n hn1 hn4 V
  have k3 := fun V b e M hV => ofork b n e M V hV
  have k4 := fun V R e M hV => rfork R n hn1 hn4 e M V hV
  have hn1' : Hid (1 ≤ n ∧ n ≤ 4) := ⟨hn1, hn4⟩
  clear h0 h1 hn hn1 hn4
  go_enter Try.func11, Try.ntmps11
  go_upto_region 4 with (first
    | (go_at_call 31; refine (k1 _).mono ?_; rintro r v1 ⟨rfl, ⟨M0, hO, hM0⟩, g1⟩)
    | (go_at_call 32; refine (k2 _).mono ?_; rintro r v2 ⟨⟨R0, rfl, f1, f2, hR⟩, g2⟩)
    | (go_at_call 19; refine (k3 _ _ _ _ (hO.on g2)).mono ?_; rintro r v3 ⟨rfl, hP, g3⟩)
    | (go_at_call 33; refine (k4 _ _ _ _ (hR.on g3)).mono ?_; rintro r v4 ⟨⟨R1, rfl, f3, f4, hS⟩, g4⟩)
    | fail)
  have hB : Bth w v4 n w.heap.size v2.heap.size R0 R1 false M0 bx false M0 bx := by
    have z1 : w.heap.size < v1.heap.size := World.block_lt_of_cell? v1 _ hO.hv
    have z2 := g2.size
    have z3 : v2.heap.size < v3.heap.size := World.block_lt_of_cell? v3 _ hP.hv
    have z4 := g4.size
    have s0 : Sm n false M0 false bx := ⟨rfl, fun _ => ⟨hM0, (tt_bx n).to fun a b ha hb => (hM0 a b ha hb).symm⟩⟩
    refine ⟨((hO.on g2).on g3).on g4, (hR.on g3).on g4, hP.on g4, hS, s0, s0, by omega, by omega, by omega, by omega, by omega, by omega, by omega, by omega, by omega, by omega, ?_⟩
    exact ((g1.trans (g2.mono (by omega))).trans (g3.mono (by omega))).trans (g4.mono (by omega))
  clear k1 k2 hO hM0 g1 hR g2 hP g3 hS g4 f1 f2 f3 f4 w0 t4 w1 w2
  rcases hs with ⟨rfl, rfl⟩ | ⟨bk, off, cap, rfl, hlen, hok, hcell⟩
  · go_wp2_with fail
    go_loopw [8, 9, 12] (fun v8 v9 j wr => v8 = .pointer (some ⟨w.heap.size, 0, none⟩) ∧ v9 = .pointer (some ⟨R0.b, 0, none⟩) ∧ j = .int .i64 0 ∧ wr = v4) (fun _ _ _ _ => 0)
    case atStart => exact ⟨rfl, rfl, rfl, rfl⟩
    case round =>
      obtain ⟨rfl, rfl, rfl, rfl⟩ := hrel
      go_wp2_with fail
      refine bodyPost_ret (v := .tuple #[.pointer (some ⟨w.heap.size, 0, none⟩), .pointer (some ⟨R0.b, 0, none⟩), .bool true]) (by simp [results, Try.results11, go_sem]) rfl ?_
      exact ⟨_, R0, _, R1, _, _, _, _, _, _, rfl, hB⟩
  · obtain ⟨len, hl⟩ : ∃ len, ds.length = len := ⟨_, rfl⟩
    rw [hl] at hlen ⊢
    have hl' : Hid (ds.length = len) := hl
    have ho : Hid (∀ d ∈ ds, d.ok) := hok
    have hc : Hid (∀ j d, ds[j]? = some d → ∀ t v, d.cell[t]? = some v → w.cell? ⟨bk, off + j * 9 + t, none⟩ = some v) := hcell
    have hlen' : Hid (len ≤ 9223372036854775807) := hlen
    clear hok hcell hl hlen
    go_wp2_with fail
    go_loopw [8, 9, 10, 11, 12] (fun v8 v9 v10 v11 v12 wr => ∃ (WR : World) (i bo ba : Nat) (Ro Ra : Rf) (e : Bool) (T T2 : Mx) (f : Bool) (U U2 : Mx), WR = wr ∧ i ≤ len ∧ i ≤ 14 ∧ v8 = .pointer (some ⟨bo, 0, none⟩) ∧ v9 = .pointer (some ⟨Ro.b, 0, none⟩) ∧ v10 = .pointer (some ⟨ba, 0, none⟩) ∧ v11 = .pointer (some ⟨Ra.b, 0, none⟩) ∧ v12 = .int .i64 i ∧ Hid (Bth w wr n bo ba Ro Ra e T T2 f U U2)) (fun _ _ _ _ i _ => 14 - (intOf i).toNat)
    case atStart => exact ⟨_, 0, _, _, R0, R1, _, _, _, _, _, _, rfl, by omega, by omega, rfl, rfl, rfl, rfl, rfl, hB⟩
    case round =>
      clear hB
      obtain ⟨WR, i, bo, ba, Ro, Ra, e, T, T2, f, U, U2, rfl, i1, i2, rfl, rfl, rfl, rfl, rfl, hB⟩ := hrel
      by_cases c1 : i < len
      · have c1' : (i : Int) < (len : Int) := by omega
        by_cases c2 : i < 14
        · have c2' : (i : Int) < 14 := by omega
          obtain ⟨d, hd⟩ : ∃ d, ds[i]? = some d := ⟨_, List.getElem?_eq_getElem (by rw [hl'.out]; exact c1)⟩
          have dok := ho.out d (List.mem_of_getElem? hd)
          have x1 := dix bk off len cap i c1
          have dl := fun t v (hv : d.cell[t]? = some v) => hc.out i d hd t v hv
          have st := ostep bo ba n (by have := hn1'.out; omega) d dok.1 dok.2 e f T U (fun q => (hB.out.s.2 q).2) (fun q => (hB.out.u.2 q).2) WR hB.out.o hB.out.a
          have rt := fun V (g : Onl bo WR V) => rstep Ro Ra n hn1'.out.1 hn1'.out.2 d e f T2 U2 (fun q => ((hB.out.s.2 q).2).to (hB.out.s.2 q).1) (fun q => ((hB.out.u.2 q).2).to (hB.out.u.2 q).1) V (Nat.le_trans hB.out.z3.2 g.size) (Nat.le_trans hB.out.z4.2 g.size) (hB.out.r.onl g hB.out.n2) (hB.out.b.onl g hB.out.n3)
          have bl2 := fun V (g : Onl bo WR V) => below_rg hB.out.bl (onl_rgn g) hB.out.z1.1
          have one := fun er e' T' er2 e2' T2' (q1 : StpR n d e T f U er e' T') (q2 : StpR n d e T2 f U2 er2 e2' T2') => stp_one (fun q => (hB.out.s.2 q).1) (fun q => (hB.out.s.2 q).2) (fun q => (hB.out.u.2 q).1) (fun q => (hB.out.u.2 q).2) q1 q2
          have wi : IntKind.i64.wrap ((i : Int) + 1) = ((i + 1 : Nat) : Int) := by rw [IntKind.wrap_i64]; omega
          have t3 : (i : Int).tmod 3 = (i : Int) % 3 := Int.tmod_eq_emod_of_nonneg (by omega)
          obtain ⟨kd, di, dk, ni, nk, c, ea, lo, hh⟩ := d
          simp only [Dd.v] at st rt
          have b0 := sp_cell_on hB.out.bl (dl 0 _ rfl)
          have b1 := sp_cell_on hB.out.bl (dl 1 _ rfl)
          have b2 := sp_cell_on hB.out.bl (dl 2 _ rfl)
          have b3 := sp_cell_on hB.out.bl (dl 3 _ rfl)
          have b4 := sp_cell_on hB.out.bl (dl 4 _ rfl)
          have b5 := sp_cell_on hB.out.bl (dl 5 _ rfl)
          have b6 := sp_cell_on hB.out.bl (dl 6 _ rfl)
          have b7 := sp_cell_on hB.out.bl (dl 7 _ rfl)
          have b8 := sp_cell_on hB.out.bl (dl 8 _ rfl)
          have dl' := Hid.out (p := ∀ t v, (Dd.cell ⟨kd, di, dk, ni, nk, c, ea, lo, hh⟩)[t]? = some v → w.cell? ⟨bk, off + i * 9 + t, none⟩ = some v) dl
          rw [Nat.add_zero] at b0
          clear dl dok
          have dlh : Hid (∀ t v, (Dd.cell ⟨kd, di, dk, ni, nk, c, ea, lo, hh⟩)[t]? = some v → w.cell? ⟨bk, off + i * 9 + t, none⟩ = some v) := dl'
          clear dl'
          generalize off + i * 9 = o9 at *
          go_upto_region 9 with (first
            | (go_at_call 20; refine st.mono ?_; rintro r w1 ⟨⟨bb, er, e1, T1, rfl, hO1, q1, kb1⟩, g1⟩; replace b0 := sp_cell_on (bl2 _ g1) (dlh.out 0 _ rfl); replace b1 := sp_cell_on (bl2 _ g1) (dlh.out 1 _ rfl); replace b2 := sp_cell_on (bl2 _ g1) (dlh.out 2 _ rfl); replace b3 := sp_cell_on (bl2 _ g1) (dlh.out 3 _ rfl); replace b4 := sp_cell_on (bl2 _ g1) (dlh.out 4 _ rfl); replace b5 := sp_cell_on (bl2 _ g1) (dlh.out 5 _ rfl); replace b6 := sp_cell_on (bl2 _ g1) (dlh.out 6 _ rfl); replace b7 := sp_cell_on (bl2 _ g1) (dlh.out 7 _ rfl); replace b8 := sp_cell_on (bl2 _ g1) (dlh.out 8 _ rfl); rw [Nat.add_zero] at b0)
            | (go_at_call 34; refine (rt _ g1).mono ?_; rintro r w2 ⟨⟨R1', er2, e2, T2', rfl, hR2, q2, kb2, kb3⟩, g2⟩)
            | fail)
          obtain ⟨eer, eeb, sm⟩ := one er e1 T1 er2 e2 T2' q1 q2
          subst eer
          subst eeb
          have hB2 := hB.out.stepped g1 hO1 kb1 g2 hR2 kb2 kb3 ⟨rfl, sm⟩
          have hB2' : Hid (Bth w w2 n bb ba R1' Ra e1 T1 T2' f U U2) := hB2
          have fk1 := k3 w2 bb e1 T1 hB2.o
          have fk2 := fun V (g : Below w2.heap.size w2 V) => k4 V R1' e1 T2' (hB2.r.on g)
          clear hB2 one q1 q2 kb1 kb2 kb3 hO1 hR2 g2 st rt bl2 dlh b0 b1 b2 b3 b4 b5 b6 b7 b8 sm g1 hB x1 hd
          by_cases c3 : (i : Int) % 3 = 0
          · go_wp2_with (first
              | (go_at_call 19; refine fk1.mono ?_; rintro r w3 ⟨rfl, hP, g3⟩)
              | (go_at_call 33; refine (fk2 _ g3).mono ?_; rintro r w4 ⟨⟨R5, rfl, f5, f6, hS⟩, g4⟩)
              | fail)
            have hB3 := hB2'.out.forked hP g3 hS f5 f6 g4
            exact ⟨⟨_, i + 1, bb, w2.heap.size, R1', R5, e1, T1, T2', e1, T1, T2', rfl, by omega, by omega, rfl, rfl, rfl, rfl, by simp, hB3⟩, by simp [intOf]; omega⟩
          · go_wp2_with fail
            exact ⟨⟨_, i + 1, bb, ba, R1', Ra, e1, T1, T2', f, U, U2, rfl, by omega, by omega, rfl, rfl, rfl, rfl, by simp, hB2'⟩, by simp [intOf]; omega⟩
        · have e14 : i = 14 := by omega
          subst e14
          go_wp2_with fail
          refine bodyPost_ret (v := .tuple #[.pointer (some ⟨bo, 0, none⟩), .pointer (some ⟨Ro.b, 0, none⟩), .bool true]) (by simp [results, Try.results11, go_sem]) rfl ?_
          exact ⟨_, Ro, _, Ra, _, _, _, _, _, _, rfl, hB.out⟩
      · have c1' : ¬ (i : Int) < (len : Int) := by omega
        go_wp2_with fail
        refine bodyPost_ret (v := .tuple #[.pointer (some ⟨bo, 0, none⟩), .pointer (some ⟨Ro.b, 0, none⟩), .bool true]) (by simp [results, Try.results11, go_sem]) rfl ?_
        exact ⟨_, Ro, _, Ra, _, _, _, _, _, _, rfl, hB.out⟩
end Go.Proofs.Ytpcbammncaeimaa

