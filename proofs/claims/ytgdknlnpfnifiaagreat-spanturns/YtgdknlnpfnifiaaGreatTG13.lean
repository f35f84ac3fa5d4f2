/- Texts of the proof, put together. -/
import Derived.Test.YtgdknlnpfnifiaaGreatTG12
import Derived.Test.YtgdknlnpfnifiaaGreatTG6
import Derived.Test.YtgdknlnpfnifiaaGreatTRgEi
import Derived.Deep.DrawnRows
namespace Go.Proofs.YtgdknlnpfnifiaaGreat
open Go.RowKit Go.Shelf
set_option linter.unusedVariables false
set_option linter.unusedSimpArgs false
attribute [local go_sem] Oper.semAt_some
structure TIi (A : Ways) (L : Ln) (T : Int) (p : Nat) (W0 : World) (pre : List Int) (V : World) : Prop where
  c0 : V.cell? ⟨p, 0, none⟩ = some (.bool (hullP A pre).1)
  c1 : V.cell? ⟨p, 1, none⟩ = some (.int .i64 (hullP A pre).2.1)
  c2 : V.cell? ⟨p, 2, none⟩ = some (.int .i64 (hullP A pre).2.2)
  ct : V.cell? ⟨p + 1, 0, none⟩ = some (.int .i64 (trapP A L T pre))
  fp : ∀ j, V.frozen? ⟨p, j, none⟩ = false
  ft : V.frozen? ⟨p + 1, 0, none⟩ = false
  but : But (fun k => k = p ∨ k = p + 1) W0 V
theorem TIi.stable {A : Ways} {L : Ln} {T : Int} {p : Nat} {W0 : World} {n : Nat} (hp : p + 1 < n) (hn : W0.heap.size ≤ n) : Stable n (TIi A L T p W0) := fun pre V V' h hb =>
  ⟨(hb.cell (p := ⟨p, 0, none⟩) (by simp; omega)).trans h.c0, (hb.cell (p := ⟨p, 1, none⟩) (by simp; omega)).trans h.c1, (hb.cell (p := ⟨p, 2, none⟩) (by simp; omega)).trans h.c2, (hb.cell (p := ⟨p + 1, 0, none⟩) (by simp; omega)).trans h.ct,
    fun j => (hb.frozen (p := ⟨p, j, none⟩) (by simp; omega)).trans (h.fp j), (hb.frozen (p := ⟨p + 1, 0, none⟩) (by simp; omega)).trans h.ft, stable_but (β := Unit) hn () V V' h.but hb⟩
theorem TIi.next {A : Ways} {L : Ln} {T : Int} {p : Nat} {W0 V : World} {pre : List Int} {u0 u1 u2 : Value} {t : Int} {je : Bool} {jl jh : Int} (h0 : V.cell? ⟨p, 0, none⟩ = some u0) (h1 : V.cell? ⟨p, 1, none⟩ = some u1) (h2 : V.cell? ⟨p, 2, none⟩ = some u2)
    (ht : V.cell? ⟨p + 1, 0, none⟩ = some (.int .i64 t)) (fp : ∀ j, V.frozen? ⟨p, j, none⟩ = false) (ft : V.frozen? ⟨p + 1, 0, none⟩ = false) (hb : But (fun k => k = p ∨ k = p + 1) W0 V) (e1 : hullP A pre = (je, jl, jh)) (e2 : trapP A L T pre = t) :
    TIi A L T p W0 pre (((V.setCell ⟨p, 0, none⟩ (.bool je)).setCell ⟨p, 1, none⟩ (.int .i64 jl)).setCell ⟨p, 2, none⟩ (.int .i64 jh)) := by
  refine ⟨?_, ?_, ?_, ?_, ?_, ?_, ((hb.set (.inl rfl) _).set (.inl rfl) _).set (.inl rfl) _⟩
  · rw [e1]; simp [go_sem, h0, h1, h2]
  · rw [e1]; simp [go_sem, h0, h1, h2]
  · rw [e1]; simp [go_sem, h0, h1, h2]
  · rw [e2]; exact sp_keep3 ht (by omega) _ _ _
  · intro j; simp [go_sem, fp]
  · simp [go_sem, ft]
set_option maxRecDepth 100000 in
set_option maxHeartbeats 4000000 in
theorem told_i {L : Ln} {A : Ways} {B : Nat} {w0 : World} (H : Actsi L A B w0) (T : Int) (hT : ∀ w, Calls Tryz.prog 86 #[.int .i64 L.past] w fun e w' => e = .returned (.int .i64 T) ∧ w' = w) (gf : Nat) (lb : Array Value) (xs : List Int) (d0 : A.dom 0) (dl : A.dom L.least) (dm : A.dom L.most) (hx : ∀ x ∈ xs, A.dom x ∧ A.dom (A.pl x)) (w : World) (ok : Below B w0 w)
    (eg : ∀ args w, (callFunc gf args).run Tryz.prog w = .ok (.enter gf args) w)
    (hseq : ∀ S W0, Below w.heap.size w W0 → (∀ k, S k → w.heap.size ≤ k ∧ k < W0.heap.size) → Feeds Tryz.prog gf lb (fun x : Int => #[Value.int .i64 x]) S xs W0) :
    Calls Tryz.prog 53 #[.agg (lvi L), .func (.func gf) #[] lb] w fun e w' => e = .returned (.tuple #[sVi (meetP A (hullP A xs) (false, L.least, L.most)), .int .i64 (trapP A L T xs)]) ∧ Below w.heap.size w w' := by
  have hB := H.hB
  have hnone := none_i
  obtain ⟨R, HR⟩ : ∃ R, Hid (R = sVi (meetP A (hullP A xs) (false, L.least, L.most))) := ⟨_, rfl⟩
  obtain ⟨TR, HTR⟩ : ∃ t, Hid (t = trapP A L T xs) := ⟨_, rfl⟩
  rw [← HR.out, ← HTR.out]
  refine (callsIn_wide (n := 3)).1 ?_
  refine callsIn_of_wp_marks Tryz.func53 rfl trivial ?_ rfl
  unfold lvi
  simp only [Tryz.ntmps53, List.size_toArray, List.length_cons, List.length_nil, Nat.reduceAdd, Nat.reduceSub, Array.replicate_succ, Array.replicate_zero, List.push_toArray, List.append_toArray, List.nil_append, List.cons_append]
  gi_wp2_with (refine ⟨trivial, ?_⟩; gi_at_call 126; refine (callsIn_wide.2 (hnone _)).mono ?_; rintro e w1 ⟨rfl, g1⟩)
  obtain ⟨W0, hW0⟩ : ∃ W0, (w1.alloc (.cells #[.bool true, .int .i64 0, .int .i64 0] 96)).alloc (.cells #[.int .i64 0] 31) = W0 := ⟨_, rfl⟩
  have z1 := g1.size
  simp only [World.size_alloc] at z1
  have gW : Below w1.heap.size w1 W0 := by rw [← hW0]; exact sp_new (sp_new (Below.refl _ _) _) _
  have z0 : W0.heap.size = w1.heap.size + 2 := by rw [← hW0]; simp
  have l0 := sO gW (sO g1 (show World.cell? _ ⟨w.heap.size, 0, none⟩ = some (.int .i64 L.least) by simp [go_sem]))
  have l1 := sO gW (sO g1 (show World.cell? _ ⟨w.heap.size, 1, none⟩ = some (.int .i64 L.most) by simp [go_sem]))
  have l2 := sO gW (sO g1 (show World.cell? _ ⟨w.heap.size, 2, none⟩ = some (.int .i64 L.past) by simp [go_sem]))
  have l3 := sO gW (sO g1 (show World.cell? _ ⟨w.heap.size, 3, none⟩ = some (.func (.func L.ko) #[] L.co) by simp [go_sem]))
  have l4 := sO gW (sO g1 (show World.cell? _ ⟨w.heap.size, 4, none⟩ = some (.func (.func L.kp) #[] L.cp) by simp [go_sem]))
  have l5 := sO gW (sO g1 (show World.cell? _ ⟨w.heap.size, 5, none⟩ = some (.func (.func L.k1) #[] L.c1) by simp [go_sem]))
  have l6 := sO gW (sO g1 (show World.cell? _ ⟨w.heap.size, 6, none⟩ = some (.func (.func L.kv) #[] L.cv) by simp [go_sem]))
  have l7 := sO gW (sO g1 (show World.cell? _ ⟨w.heap.size, 7, none⟩ = some (.func (.func L.kn) #[] L.cn) by simp [go_sem]))
  have l8 := sO gW (sO g1 (show World.cell? _ ⟨w.heap.size, 8, none⟩ = some (.func (.func L.ku) #[] L.cu) by simp [go_sem]))
  have l9 := sO gW (sO g1 (show World.cell? _ ⟨w.heap.size, 9, none⟩ = some (.func (.func L.kt) #[] L.ct) by simp [go_sem]))
  have l10 := sO gW (sO g1 (show World.cell? _ ⟨w.heap.size, 10, none⟩ = some (.func (.func L.kz) #[] L.cz) by simp [go_sem]))
  have r0 := sO gW (sO g1 (show World.cell? _ ⟨w.heap.size + 1, 0, none⟩ = some (.bool false) by simp [go_sem]))
  have r1 := sO gW (sO g1 (show World.cell? _ ⟨w.heap.size + 1, 1, none⟩ = some (.int .i64 0) by simp [go_sem]))
  have r2 := sO gW (sO g1 (show World.cell? _ ⟨w.heap.size + 1, 2, none⟩ = some (.int .i64 0) by simp [go_sem]))
  have rz : ∀ j, W0.frozen? ⟨w.heap.size + 1, j, none⟩ = false := fun j => (gW.frozen (p := ⟨w.heap.size + 1, j, none⟩) (by simp; omega)).trans ((g1.frozen (p := ⟨w.heap.size + 1, j, none⟩) (by simp)).trans (by simp [go_sem]))
  have hI0 : TIi A L T w1.heap.size W0 [] W0 := by
    refine ⟨?_, ?_, ?_, ?_, ?_, ?_, But.refl _ _⟩
    · rw [← hW0]; simp [go_sem, hullP]
    · rw [← hW0]; simp [go_sem, hullP]
    · rw [← hW0]; simp [go_sem, hullP]
    · rw [← hW0]; simp [go_sem, trapP]
    · intro j; rw [← hW0]; simp [go_sem]
    · rw [← hW0]; simp [go_sem]
  have bW : Below w.heap.size w W0 := sp_call (sp_call (sp_new (sp_new (Below.refl _ _) _) _) g1) gW
  have okW : Below B w0 W0 := ok_call hB (ok_call hB (ok_new hB (ok_new hB ok _) _) g1) gW
  rw [hW0]
  clear hW0 g1 gW
  have pz : w.heap.size + 1 < w1.heap.size := by omega
  generalize w1.heap.size = p at *
  have hS : ∀ k, (k = p ∨ k = p + 1) → w.heap.size ≤ k ∧ k < W0.heap.size := fun k hk => by omega
  refine feed_out (n := 3) rfl eg (hseq (fun k => k = p ∨ k = p + 1) W0 bW hS) (fun _ => rfl) (fun k hk => (hS k hk).2) (TIi A L T p W0) (TIi.stable (by omega) (Nat.le_refl _)) hI0
    (fun l0 x a' V => a' = { tmps := #[.agg #[.int .i64 L.least, .int .i64 L.most, .int .i64 L.past, .func (.func L.ko) #[] L.co, .func (.func L.kp) #[] L.cp, .func (.func L.k1) #[] L.c1, .func (.func L.kv) #[] L.cv, .func (.func L.kn) #[] L.cn, .func (.func L.ku) #[] L.cu, .func (.func L.kt) #[] L.ct, .func (.func L.kz) #[] L.cz], .func (.func gf) #[] lb, .pointer (some ⟨w.heap.size, 0, none⟩), undef, .pointer (some ⟨w.heap.size + 1, 0, none⟩), .int .i64 0, .pointer (some ⟨p, 0, none⟩), .pointer (some ⟨p + 1, 0, none⟩), .int .i64 x, .agg #[.bool true, .int .i64 0, .int .i64 0], .func (.func gf) #[] lb, .int .i64 x, undef, undef, undef, undef, undef, undef, undef, undef, undef, undef, undef, undef, undef, undef, undef, undef, undef, undef, undef, undef, undef, undef, undef, undef, undef, undef, undef, undef, undef, undef, undef, undef, undef, undef, undef], defers := [] })
    (fun l0 x a' X Y h ho => h) ?assign ?body ?done
  case assign =>
    rintro m li pre x V K hl0 ll0 hpre hI hK
    gi_wp2
    exact hK _ _ (But.refl _ _) hI rfl
  case body =>
    rintro m li pre x a' V hl0 hrec hpre hI rfl
    obtain ⟨c0, c1, c2, ct, fp, ft, hb⟩ := hI
    have mem : x ∈ xs := List.IsPrefix.subset hpre (by simp)
    obtain ⟨dx, dpx⟩ := hx x mem
    have hd := hullP_dom d0 pre (fun y hy => (hx y (List.IsPrefix.subset hpre (by simp [hy]))).2)
    have hj := fun V ok => join_i H (hullP A pre).1 false (hullP A pre).2.1 (hullP A pre).2.2 (A.pl x) (A.pl x) hd.1 hd.2 dpx dpx V ok
    have hpl := fun V ok => H.pl x V dx ok
    have ho1 := fun V ok => H.ord (A.pl x) L.least V dpx dl ok
    have ho2 := fun V ok => H.ord (A.pl x) L.most V dpx dm ok
    have eo := H.eo
    have ep := H.ep
    have okV : Below B w0 V := okW.trans (hb.below (Nat.le_trans hB okW.size) (fun k hk => Nat.le_trans (Nat.le_trans hB ok.size) (hS k hk).1))
    have nSl : ∀ k, k < p → ¬ (k = p ∨ k = p + 1) := fun k hk => by omega
    replace l0 := hb.cell (nSl _ (by simp; omega)) l0
    replace l1 := hb.cell (nSl _ (by simp; omega)) l1
    replace l2 := hb.cell (nSl _ (by simp; omega)) l2
    replace l3 := hb.cell (nSl _ (by simp; omega)) l3
    replace l4 := hb.cell (nSl _ (by simp; omega)) l4
    replace l5 := hb.cell (nSl _ (by simp; omega)) l5
    replace l6 := hb.cell (nSl _ (by simp; omega)) l6
    replace l7 := hb.cell (nSl _ (by simp; omega)) l7
    replace l8 := hb.cell (nSl _ (by simp; omega)) l8
    replace l9 := hb.cell (nSl _ (by simp; omega)) l9
    replace l10 := hb.cell (nSl _ (by simp; omega)) l10
    have bs : But (fun k => k = p ∨ k = p + 1) V V := But.refl _ _
    have E1 := hullP_snoc A pre x
    have E2 := trapP_snoc A L T pre x
    clear hd hpre mem hI0 hseq hrec
    generalize hullP A pre = hh at *
    obtain ⟨he, hlo, hhi⟩ := hh
    generalize trapP A L T pre = tr at *
    generalize joinP A (he, hlo, hhi) (false, A.pl x, A.pl x) = jr at *
    obtain ⟨je, jlo, jhi⟩ := jr
    unfold pastP at E2
    generalize A.pl x = px at *
    generalize A.ord px L.least = o1 at *
    generalize A.ord px L.most = o2 at *
    unfold sVi lvi at hj
    dsimp only at hj c0 c1 c2
    replace E1 : Hid _ := E1
    replace E2 : Hid _ := E2
    have Bp : B ≤ p := Nat.le_trans (Nat.le_trans hB ok.size) (by omega)
    by_cases q1 : o1 < 0
    · gi_wp2_with (first
      | (refine ⟨trivial, (fun h => by cases h), ?_⟩; with_reducible refine (CallsIn.inRound li (callsIn_wide.2 (hpl _ okV))).mono ?_; rintro e V1 ⟨rfl, g⟩; replace fp := fun j => (g.frozen (p := ⟨p, j, none⟩) (World.block_lt_of_cell? _ ⟨p, 0, none⟩ c0)).trans (fp j); replace ft := (g.frozen (p := ⟨p + 1, 0, none⟩) (World.block_lt_of_cell? _ ⟨p + 1, 0, none⟩ ct)).trans ft; replace l0 := sO g l0; replace l1 := sO g l1; replace l2 := sO g l2; replace l3 := sO g l3; replace l4 := sO g l4; replace l5 := sO g l5; replace l6 := sO g l6; replace l7 := sO g l7; replace l8 := sO g l8; replace l9 := sO g l9; replace l10 := sO g l10; replace c0 := sO g c0; replace c1 := sO g c1; replace c2 := sO g c2; replace ct := sO g ct; replace hb := hb.call g; replace bs := bs.call g; replace okV := ok_call hB okV g; clear g; clear hpl)
      | (refine ⟨trivial, (fun h => by cases h), ?_⟩; with_reducible refine (CallsIn.inRound li (callsIn_wide.2 (ho1 _ okV))).mono ?_; rintro e V2 ⟨rfl, g⟩; replace fp := fun j => (g.frozen (p := ⟨p, j, none⟩) (World.block_lt_of_cell? _ ⟨p, 0, none⟩ c0)).trans (fp j); replace ft := (g.frozen (p := ⟨p + 1, 0, none⟩) (World.block_lt_of_cell? _ ⟨p + 1, 0, none⟩ ct)).trans ft; replace l0 := sO g l0; replace l1 := sO g l1; replace l2 := sO g l2; replace l3 := sO g l3; replace l4 := sO g l4; replace l5 := sO g l5; replace l6 := sO g l6; replace l7 := sO g l7; replace l8 := sO g l8; replace l9 := sO g l9; replace l10 := sO g l10; replace c0 := sO g c0; replace c1 := sO g c1; replace c2 := sO g c2; replace ct := sO g ct; replace hb := hb.call g; replace bs := bs.call g; replace okV := ok_call hB okV g; clear g; clear ho1)
      | (refine ⟨trivial, (fun h => by cases h), ?_⟩; with_reducible refine (CallsIn.inRound li (callsIn_wide.2 (ho2 _ okV))).mono ?_; rintro e V3 ⟨rfl, g⟩; replace fp := fun j => (g.frozen (p := ⟨p, j, none⟩) (World.block_lt_of_cell? _ ⟨p, 0, none⟩ c0)).trans (fp j); replace ft := (g.frozen (p := ⟨p + 1, 0, none⟩) (World.block_lt_of_cell? _ ⟨p + 1, 0, none⟩ ct)).trans ft; replace l0 := sO g l0; replace l1 := sO g l1; replace l2 := sO g l2; replace l3 := sO g l3; replace l4 := sO g l4; replace l5 := sO g l5; replace l6 := sO g l6; replace l7 := sO g l7; replace l8 := sO g l8; replace l9 := sO g l9; replace l10 := sO g l10; replace c0 := sO g c0; replace c1 := sO g c1; replace c2 := sO g c2; replace ct := sO g ct; replace hb := hb.call g; replace bs := bs.call g; replace okV := ok_call hB okV g; clear g; clear ho2)
      | (refine ⟨trivial, (fun h => by cases h), ?_⟩; gi_at_call 86; refine (CallsIn.inRound li (callsIn_wide.2 (hT _))).mono ?_; rintro e V4 ⟨rfl, hv⟩; rw [hv]; clear hv V4)
      | (refine ⟨trivial, (fun h => by cases h), ?_⟩; gi_at_call 127; refine (CallsIn.inRound li (callsIn_wide.2 (hj _ (okV.setCell (p := ⟨p + 1, 0, none⟩) (show B ≤ p + 1 by omega) _)))).mono ?_; rintro e V5 ⟨rfl, g⟩; have k0 := sp_keep1 (k := 0) c0 (show p ≠ p + 1 by omega) (.int .i64 T); have k1 := sp_keep1 (k := 0) c1 (show p ≠ p + 1 by omega) (.int .i64 T); have k2 := sp_keep1 (k := 0) c2 (show p ≠ p + 1 by omega) (.int .i64 T); have kt := World.cell?_setCell_same _ _ (.int .i64 T) ct; have kp := fun j => (World.frozen?_setCell _ ⟨p + 1, 0, none⟩ ⟨p, j, none⟩ (.int .i64 T)).trans (fp j); have kq := (World.frozen?_setCell _ ⟨p + 1, 0, none⟩ ⟨p + 1, 0, none⟩ (.int .i64 T)).trans ft; replace fp := fun j => (g.frozen (p := ⟨p, j, none⟩) (World.block_lt_of_cell? _ ⟨p, 0, none⟩ k0)).trans (kp j); replace ft := (g.frozen (p := ⟨p + 1, 0, none⟩) (World.block_lt_of_cell? _ ⟨p + 1, 0, none⟩ kt)).trans kq; clear kp kq; replace k0 := sO g k0; replace k1 := sO g k1; replace k2 := sO g k2; replace kt := sO g kt; replace hb := (hb.set (a := ⟨p + 1, 0, none⟩) (.inr rfl) (.int .i64 T)).call g; replace bs := (bs.set (a := ⟨p + 1, 0, none⟩) (.inr rfl) (.int .i64 T)).call g; clear g)
      | fail)
      refine ⟨fun _ h => (by cases h), ?_⟩
      gi_wp2_with (first
      | (refine ⟨trivial, (fun h => by cases h), ?_⟩; with_reducible refine (CallsIn.inRound li (callsIn_wide.2 (hpl _ okV))).mono ?_; rintro e V1 ⟨rfl, g⟩; replace fp := fun j => (g.frozen (p := ⟨p, j, none⟩) (World.block_lt_of_cell? _ ⟨p, 0, none⟩ c0)).trans (fp j); replace ft := (g.frozen (p := ⟨p + 1, 0, none⟩) (World.block_lt_of_cell? _ ⟨p + 1, 0, none⟩ ct)).trans ft; replace l0 := sO g l0; replace l1 := sO g l1; replace l2 := sO g l2; replace l3 := sO g l3; replace l4 := sO g l4; replace l5 := sO g l5; replace l6 := sO g l6; replace l7 := sO g l7; replace l8 := sO g l8; replace l9 := sO g l9; replace l10 := sO g l10; replace c0 := sO g c0; replace c1 := sO g c1; replace c2 := sO g c2; replace ct := sO g ct; replace hb := hb.call g; replace bs := bs.call g; replace okV := ok_call hB okV g; clear g; clear hpl)
      | (refine ⟨trivial, (fun h => by cases h), ?_⟩; with_reducible refine (CallsIn.inRound li (callsIn_wide.2 (ho1 _ okV))).mono ?_; rintro e V2 ⟨rfl, g⟩; replace fp := fun j => (g.frozen (p := ⟨p, j, none⟩) (World.block_lt_of_cell? _ ⟨p, 0, none⟩ c0)).trans (fp j); replace ft := (g.frozen (p := ⟨p + 1, 0, none⟩) (World.block_lt_of_cell? _ ⟨p + 1, 0, none⟩ ct)).trans ft; replace l0 := sO g l0; replace l1 := sO g l1; replace l2 := sO g l2; replace l3 := sO g l3; replace l4 := sO g l4; replace l5 := sO g l5; replace l6 := sO g l6; replace l7 := sO g l7; replace l8 := sO g l8; replace l9 := sO g l9; replace l10 := sO g l10; replace c0 := sO g c0; replace c1 := sO g c1; replace c2 := sO g c2; replace ct := sO g ct; replace hb := hb.call g; replace bs := bs.call g; replace okV := ok_call hB okV g; clear g; clear ho1)
      | (refine ⟨trivial, (fun h => by cases h), ?_⟩; with_reducible refine (CallsIn.inRound li (callsIn_wide.2 (ho2 _ okV))).mono ?_; rintro e V3 ⟨rfl, g⟩; replace fp := fun j => (g.frozen (p := ⟨p, j, none⟩) (World.block_lt_of_cell? _ ⟨p, 0, none⟩ c0)).trans (fp j); replace ft := (g.frozen (p := ⟨p + 1, 0, none⟩) (World.block_lt_of_cell? _ ⟨p + 1, 0, none⟩ ct)).trans ft; replace l0 := sO g l0; replace l1 := sO g l1; replace l2 := sO g l2; replace l3 := sO g l3; replace l4 := sO g l4; replace l5 := sO g l5; replace l6 := sO g l6; replace l7 := sO g l7; replace l8 := sO g l8; replace l9 := sO g l9; replace l10 := sO g l10; replace c0 := sO g c0; replace c1 := sO g c1; replace c2 := sO g c2; replace ct := sO g ct; replace hb := hb.call g; replace bs := bs.call g; replace okV := ok_call hB okV g; clear g; clear ho2)
      | (refine ⟨trivial, (fun h => by cases h), ?_⟩; gi_at_call 86; refine (CallsIn.inRound li (callsIn_wide.2 (hT _))).mono ?_; rintro e V4 ⟨rfl, hv⟩; rw [hv]; clear hv V4)
      | (refine ⟨trivial, (fun h => by cases h), ?_⟩; gi_at_call 127; refine (CallsIn.inRound li (callsIn_wide.2 (hj _ (okV.setCell (p := ⟨p + 1, 0, none⟩) (show B ≤ p + 1 by omega) _)))).mono ?_; rintro e V5 ⟨rfl, g⟩; have k0 := sp_keep1 (k := 0) c0 (show p ≠ p + 1 by omega) (.int .i64 T); have k1 := sp_keep1 (k := 0) c1 (show p ≠ p + 1 by omega) (.int .i64 T); have k2 := sp_keep1 (k := 0) c2 (show p ≠ p + 1 by omega) (.int .i64 T); have kt := World.cell?_setCell_same _ _ (.int .i64 T) ct; have kp := fun j => (World.frozen?_setCell _ ⟨p + 1, 0, none⟩ ⟨p, j, none⟩ (.int .i64 T)).trans (fp j); have kq := (World.frozen?_setCell _ ⟨p + 1, 0, none⟩ ⟨p + 1, 0, none⟩ (.int .i64 T)).trans ft; replace fp := fun j => (g.frozen (p := ⟨p, j, none⟩) (World.block_lt_of_cell? _ ⟨p, 0, none⟩ k0)).trans (kp j); replace ft := (g.frozen (p := ⟨p + 1, 0, none⟩) (World.block_lt_of_cell? _ ⟨p + 1, 0, none⟩ kt)).trans kq; clear kp kq; replace k0 := sO g k0; replace k1 := sO g k1; replace k2 := sO g k2; replace kt := sO g kt; replace hb := (hb.set (a := ⟨p + 1, 0, none⟩) (.inr rfl) (.int .i64 T)).call g; replace bs := (bs.set (a := ⟨p + 1, 0, none⟩) (.inr rfl) (.int .i64 T)).call g; clear g)
      | fail)
      exact ⟨((bs.set (a := ⟨p, 0, none⟩) (.inl rfl) _).set (a := ⟨p, 1, none⟩) (.inl rfl) _).set (a := ⟨p, 2, none⟩) (.inl rfl) _, TIi.next k0 k1 k2 kt fp ft hb E1.out (by rw [E2.out]; simp [q1])⟩
    · by_cases q2 : 0 < o2
      · gi_wp2_with (first
      | (refine ⟨trivial, (fun h => by cases h), ?_⟩; with_reducible refine (CallsIn.inRound li (callsIn_wide.2 (hpl _ okV))).mono ?_; rintro e V1 ⟨rfl, g⟩; replace fp := fun j => (g.frozen (p := ⟨p, j, none⟩) (World.block_lt_of_cell? _ ⟨p, 0, none⟩ c0)).trans (fp j); replace ft := (g.frozen (p := ⟨p + 1, 0, none⟩) (World.block_lt_of_cell? _ ⟨p + 1, 0, none⟩ ct)).trans ft; replace l0 := sO g l0; replace l1 := sO g l1; replace l2 := sO g l2; replace l3 := sO g l3; replace l4 := sO g l4; replace l5 := sO g l5; replace l6 := sO g l6; replace l7 := sO g l7; replace l8 := sO g l8; replace l9 := sO g l9; replace l10 := sO g l10; replace c0 := sO g c0; replace c1 := sO g c1; replace c2 := sO g c2; replace ct := sO g ct; replace hb := hb.call g; replace bs := bs.call g; replace okV := ok_call hB okV g; clear g; clear hpl)
      | (refine ⟨trivial, (fun h => by cases h), ?_⟩; with_reducible refine (CallsIn.inRound li (callsIn_wide.2 (ho1 _ okV))).mono ?_; rintro e V2 ⟨rfl, g⟩; replace fp := fun j => (g.frozen (p := ⟨p, j, none⟩) (World.block_lt_of_cell? _ ⟨p, 0, none⟩ c0)).trans (fp j); replace ft := (g.frozen (p := ⟨p + 1, 0, none⟩) (World.block_lt_of_cell? _ ⟨p + 1, 0, none⟩ ct)).trans ft; replace l0 := sO g l0; replace l1 := sO g l1; replace l2 := sO g l2; replace l3 := sO g l3; replace l4 := sO g l4; replace l5 := sO g l5; replace l6 := sO g l6; replace l7 := sO g l7; replace l8 := sO g l8; replace l9 := sO g l9; replace l10 := sO g l10; replace c0 := sO g c0; replace c1 := sO g c1; replace c2 := sO g c2; replace ct := sO g ct; replace hb := hb.call g; replace bs := bs.call g; replace okV := ok_call hB okV g; clear g; clear ho1)
      | (refine ⟨trivial, (fun h => by cases h), ?_⟩; with_reducible refine (CallsIn.inRound li (callsIn_wide.2 (ho2 _ okV))).mono ?_; rintro e V3 ⟨rfl, g⟩; replace fp := fun j => (g.frozen (p := ⟨p, j, none⟩) (World.block_lt_of_cell? _ ⟨p, 0, none⟩ c0)).trans (fp j); replace ft := (g.frozen (p := ⟨p + 1, 0, none⟩) (World.block_lt_of_cell? _ ⟨p + 1, 0, none⟩ ct)).trans ft; replace l0 := sO g l0; replace l1 := sO g l1; replace l2 := sO g l2; replace l3 := sO g l3; replace l4 := sO g l4; replace l5 := sO g l5; replace l6 := sO g l6; replace l7 := sO g l7; replace l8 := sO g l8; replace l9 := sO g l9; replace l10 := sO g l10; replace c0 := sO g c0; replace c1 := sO g c1; replace c2 := sO g c2; replace ct := sO g ct; replace hb := hb.call g; replace bs := bs.call g; replace okV := ok_call hB okV g; clear g; clear ho2)
      | (refine ⟨trivial, (fun h => by cases h), ?_⟩; gi_at_call 86; refine (CallsIn.inRound li (callsIn_wide.2 (hT _))).mono ?_; rintro e V4 ⟨rfl, hv⟩; rw [hv]; clear hv V4)
      | (refine ⟨trivial, (fun h => by cases h), ?_⟩; gi_at_call 127; refine (CallsIn.inRound li (callsIn_wide.2 (hj _ (okV.setCell (p := ⟨p + 1, 0, none⟩) (show B ≤ p + 1 by omega) _)))).mono ?_; rintro e V5 ⟨rfl, g⟩; have k0 := sp_keep1 (k := 0) c0 (show p ≠ p + 1 by omega) (.int .i64 T); have k1 := sp_keep1 (k := 0) c1 (show p ≠ p + 1 by omega) (.int .i64 T); have k2 := sp_keep1 (k := 0) c2 (show p ≠ p + 1 by omega) (.int .i64 T); have kt := World.cell?_setCell_same _ _ (.int .i64 T) ct; have kp := fun j => (World.frozen?_setCell _ ⟨p + 1, 0, none⟩ ⟨p, j, none⟩ (.int .i64 T)).trans (fp j); have kq := (World.frozen?_setCell _ ⟨p + 1, 0, none⟩ ⟨p + 1, 0, none⟩ (.int .i64 T)).trans ft; replace fp := fun j => (g.frozen (p := ⟨p, j, none⟩) (World.block_lt_of_cell? _ ⟨p, 0, none⟩ k0)).trans (kp j); replace ft := (g.frozen (p := ⟨p + 1, 0, none⟩) (World.block_lt_of_cell? _ ⟨p + 1, 0, none⟩ kt)).trans kq; clear kp kq; replace k0 := sO g k0; replace k1 := sO g k1; replace k2 := sO g k2; replace kt := sO g kt; replace hb := (hb.set (a := ⟨p + 1, 0, none⟩) (.inr rfl) (.int .i64 T)).call g; replace bs := (bs.set (a := ⟨p + 1, 0, none⟩) (.inr rfl) (.int .i64 T)).call g; clear g)
      | fail)
        exact ⟨((bs.set (a := ⟨p, 0, none⟩) (.inl rfl) _).set (a := ⟨p, 1, none⟩) (.inl rfl) _).set (a := ⟨p, 2, none⟩) (.inl rfl) _, TIi.next k0 k1 k2 kt fp ft hb E1.out (by rw [E2.out]; simp [q2])⟩
      · gi_wp2_with (first
      | (refine ⟨trivial, (fun h => by cases h), ?_⟩; with_reducible refine (CallsIn.inRound li (callsIn_wide.2 (hpl _ okV))).mono ?_; rintro e V1 ⟨rfl, g⟩; replace fp := fun j => (g.frozen (p := ⟨p, j, none⟩) (World.block_lt_of_cell? _ ⟨p, 0, none⟩ c0)).trans (fp j); replace ft := (g.frozen (p := ⟨p + 1, 0, none⟩) (World.block_lt_of_cell? _ ⟨p + 1, 0, none⟩ ct)).trans ft; replace l0 := sO g l0; replace l1 := sO g l1; replace l2 := sO g l2; replace l3 := sO g l3; replace l4 := sO g l4; replace l5 := sO g l5; replace l6 := sO g l6; replace l7 := sO g l7; replace l8 := sO g l8; replace l9 := sO g l9; replace l10 := sO g l10; replace c0 := sO g c0; replace c1 := sO g c1; replace c2 := sO g c2; replace ct := sO g ct; replace hb := hb.call g; replace bs := bs.call g; replace okV := ok_call hB okV g; clear g; clear hpl)
      | (refine ⟨trivial, (fun h => by cases h), ?_⟩; with_reducible refine (CallsIn.inRound li (callsIn_wide.2 (ho1 _ okV))).mono ?_; rintro e V2 ⟨rfl, g⟩; replace fp := fun j => (g.frozen (p := ⟨p, j, none⟩) (World.block_lt_of_cell? _ ⟨p, 0, none⟩ c0)).trans (fp j); replace ft := (g.frozen (p := ⟨p + 1, 0, none⟩) (World.block_lt_of_cell? _ ⟨p + 1, 0, none⟩ ct)).trans ft; replace l0 := sO g l0; replace l1 := sO g l1; replace l2 := sO g l2; replace l3 := sO g l3; replace l4 := sO g l4; replace l5 := sO g l5; replace l6 := sO g l6; replace l7 := sO g l7; replace l8 := sO g l8; replace l9 := sO g l9; replace l10 := sO g l10; replace c0 := sO g c0; replace c1 := sO g c1; replace c2 := sO g c2; replace ct := sO g ct; replace hb := hb.call g; replace bs := bs.call g; replace okV := ok_call hB okV g; clear g; clear ho1)
      | (refine ⟨trivial, (fun h => by cases h), ?_⟩; with_reducible refine (CallsIn.inRound li (callsIn_wide.2 (ho2 _ okV))).mono ?_; rintro e V3 ⟨rfl, g⟩; replace fp := fun j => (g.frozen (p := ⟨p, j, none⟩) (World.block_lt_of_cell? _ ⟨p, 0, none⟩ c0)).trans (fp j); replace ft := (g.frozen (p := ⟨p + 1, 0, none⟩) (World.block_lt_of_cell? _ ⟨p + 1, 0, none⟩ ct)).trans ft; replace l0 := sO g l0; replace l1 := sO g l1; replace l2 := sO g l2; replace l3 := sO g l3; replace l4 := sO g l4; replace l5 := sO g l5; replace l6 := sO g l6; replace l7 := sO g l7; replace l8 := sO g l8; replace l9 := sO g l9; replace l10 := sO g l10; replace c0 := sO g c0; replace c1 := sO g c1; replace c2 := sO g c2; replace ct := sO g ct; replace hb := hb.call g; replace bs := bs.call g; replace okV := ok_call hB okV g; clear g; clear ho2)
      | (refine ⟨trivial, (fun h => by cases h), ?_⟩; gi_at_call 86; refine (CallsIn.inRound li (callsIn_wide.2 (hT _))).mono ?_; rintro e V4 ⟨rfl, hv⟩; rw [hv]; clear hv V4)
      | (refine ⟨trivial, (fun h => by cases h), ?_⟩; gi_at_call 127; refine (CallsIn.inRound li (callsIn_wide.2 (hj _ okV))).mono ?_; rintro e V5 ⟨rfl, g⟩; replace fp := fun j => (g.frozen (p := ⟨p, j, none⟩) (World.block_lt_of_cell? _ ⟨p, 0, none⟩ c0)).trans (fp j); replace ft := (g.frozen (p := ⟨p + 1, 0, none⟩) (World.block_lt_of_cell? _ ⟨p + 1, 0, none⟩ ct)).trans ft; replace c0 := sO g c0; replace c1 := sO g c1; replace c2 := sO g c2; replace ct := sO g ct; replace hb := hb.call g; replace bs := bs.call g; clear g)
      | fail)
        exact ⟨((bs.set (a := ⟨p, 0, none⟩) (.inl rfl) _).set (a := ⟨p, 1, none⟩) (.inl rfl) _).set (a := ⟨p, 2, none⟩) (.inl rfl) _, TIi.next c0 c1 c2 ct fp ft hb E1.out (by rw [E2.out]; simp [show ¬ o1 < 0 by omega, show ¬ 0 < o2 by omega])⟩
  case done =>
    rintro D V hD hI hK
    obtain ⟨c0, c1, c2, ct, fp, ft, hb⟩ := hI
    have hd := hullP_dom d0 xs (fun y hy => (hx y hy).2)
    have hm := fun V ok => meet_i H (hullP A xs).1 false (hullP A xs).2.1 (hullP A xs).2.2 L.least L.most hd.1 hd.2 dl dm V ok
    have ha := all_i L
    have okV : Below B w0 V := okW.trans (hb.below (Nat.le_trans hB okW.size) (fun k hk => Nat.le_trans (Nat.le_trans hB ok.size) (hS k hk).1))
    have nSl : ∀ k, k < p → ¬ (k = p ∨ k = p + 1) := fun k hk => by omega
    replace l0 := hb.cell (nSl _ (by simp; omega)) l0
    replace l1 := hb.cell (nSl _ (by simp; omega)) l1
    replace l2 := hb.cell (nSl _ (by simp; omega)) l2
    replace l3 := hb.cell (nSl _ (by simp; omega)) l3
    replace l4 := hb.cell (nSl _ (by simp; omega)) l4
    replace l5 := hb.cell (nSl _ (by simp; omega)) l5
    replace l6 := hb.cell (nSl _ (by simp; omega)) l6
    replace l7 := hb.cell (nSl _ (by simp; omega)) l7
    replace l8 := hb.cell (nSl _ (by simp; omega)) l8
    replace l9 := hb.cell (nSl _ (by simp; omega)) l9
    replace l10 := hb.cell (nSl _ (by simp; omega)) l10
    replace r0 := hb.cell (nSl _ (by simp; omega)) r0
    replace r1 := hb.cell (nSl _ (by simp; omega)) r1
    replace r2 := hb.cell (nSl _ (by simp; omega)) r2
    replace rz := fun j => (hb.frozen (a := ⟨w.heap.size + 1, j, none⟩) (nSl _ (by simp; omega)) (by simp; omega)).trans (rz j)
    have bV : Below w.heap.size w V := bW.trans (hb.below (by omega) (fun k hk => (hS k hk).1))
    have zV := hb.size
    unfold mVi lvi at hm
    unfold lvi at ha
    rw [← HTR.out] at ct
    clear HTR
    replace HR := HR.out
    unfold sVi at HR
    clear hI0 hseq hd hx
    generalize hullP A xs = hh at *
    obtain ⟨he, hlo, hhi⟩ := hh
    dsimp only at hm c0 c1 c2
    generalize meetP A (he, hlo, hhi) (false, L.least, L.most) = mr at *
    obtain ⟨me, mlo, mhi⟩ := mr
    dsimp only at hm HR
    subst HR
    gi_wp2
    refine wpIn_wide.2 ?_
    go_region_held3 (fun w' => w'.cell? ⟨w.heap.size, 0, none⟩ = some (.int .i64 L.least) ∧ w'.cell? ⟨w.heap.size, 1, none⟩ = some (.int .i64 L.most) ∧ w'.cell? ⟨w.heap.size, 2, none⟩ = some (.int .i64 L.past) ∧ w'.cell? ⟨w.heap.size, 3, none⟩ = some (.func (.func L.ko) #[] L.co) ∧ w'.cell? ⟨w.heap.size, 4, none⟩ = some (.func (.func L.kp) #[] L.cp) ∧ w'.cell? ⟨w.heap.size, 5, none⟩ = some (.func (.func L.k1) #[] L.c1) ∧ w'.cell? ⟨w.heap.size, 6, none⟩ = some (.func (.func L.kv) #[] L.cv) ∧ w'.cell? ⟨w.heap.size, 7, none⟩ = some (.func (.func L.kn) #[] L.cn) ∧ w'.cell? ⟨w.heap.size, 8, none⟩ = some (.func (.func L.ku) #[] L.cu) ∧ w'.cell? ⟨w.heap.size, 9, none⟩ = some (.func (.func L.kt) #[] L.ct) ∧ w'.cell? ⟨w.heap.size, 10, none⟩ = some (.func (.func L.kz) #[] L.cz) ∧ w'.cell? ⟨p, 0, none⟩ = some (.bool he) ∧ w'.cell? ⟨p, 1, none⟩ = some (.int .i64 hlo) ∧ w'.cell? ⟨p, 2, none⟩ = some (.int .i64 hhi) ∧ w'.cell? ⟨p + 1, 0, none⟩ = some (.int .i64 TR)) (first | exact ⟨l0, l1, l2, l3, l4, l5, l6, l7, l8, l9, l10, c0, c1, c2, ct⟩ | exact ⟨sp_keep3 l0 (by omega) _ _ _, sp_keep3 l1 (by omega) _ _ _, sp_keep3 l2 (by omega) _ _ _, sp_keep3 l3 (by omega) _ _ _, sp_keep3 l4 (by omega) _ _ _, sp_keep3 l5 (by omega) _ _ _, sp_keep3 l6 (by omega) _ _ _, sp_keep3 l7 (by omega) _ _ _, sp_keep3 l8 (by omega) _ _ _, sp_keep3 l9 (by omega) _ _ _, sp_keep3 l10 (by omega) _ _ _, sp_keep3 c0 (by omega) _ _ _, sp_keep3 c1 (by omega) _ _ _, sp_keep3 c2 (by omega) _ _ _, sp_keep3 ct (by omega) _ _ _⟩)
      (first
        | (go_at_call 129; refine (ha _).mono ?_; rintro e V1 ⟨rfl, g1⟩; replace g1 : Below V.heap.size V V1 := ⟨g1.os, g1.tape, g1.output, g1.size, g1.block⟩; replace l0 := sO g1 l0; replace l1 := sO g1 l1; replace l2 := sO g1 l2; replace l3 := sO g1 l3; replace l4 := sO g1 l4; replace l5 := sO g1 l5; replace l6 := sO g1 l6; replace l7 := sO g1 l7; replace l8 := sO g1 l8; replace l9 := sO g1 l9; replace l10 := sO g1 l10; replace c0 := sO g1 c0; replace c1 := sO g1 c1; replace c2 := sO g1 c2; replace ct := sO g1 ct; replace r0 := sO g1 r0; replace r1 := sO g1 r1; replace r2 := sO g1 r2; replace okV := ok_call hB okV g1; replace bV := sp_call bV g1; replace rz := fun j => (g1.frozen (p := ⟨w.heap.size + 1, j, none⟩) (by simp; omega)).trans (rz j); have z1 := g1.size)
        | (go_at_call 128; refine (hm _ (by first | exact okV | exact okV.drew)).mono ?_; rintro e V2 ⟨rfl, g2⟩; replace g2 : Below V1.heap.size V1 V2 := ⟨g2.os, g2.tape, g2.output, g2.size, g2.block⟩; replace l0 := sO g2 l0; replace l1 := sO g2 l1; replace l2 := sO g2 l2; replace l3 := sO g2 l3; replace l4 := sO g2 l4; replace l5 := sO g2 l5; replace l6 := sO g2 l6; replace l7 := sO g2 l7; replace l8 := sO g2 l8; replace l9 := sO g2 l9; replace l10 := sO g2 l10; replace c0 := sO g2 c0; replace c1 := sO g2 c1; replace c2 := sO g2 c2; replace ct := sO g2 ct; replace r0 := sO g2 r0; replace r1 := sO g2 r1; replace r2 := sO g2 r2; replace bV := sp_call bV g2; replace rz := fun j => (g2.frozen (p := ⟨w.heap.size + 1, j, none⟩) (by simp; omega)).trans (rz j); have z2 := g2.size)
        | fail)
    all_goals gi_wp2
    have hDV : D < V.heap.size := (Array.getElem?_eq_some_iff.1 hK).1
    have hK2 : V2.heap[D]? = some (.deferred (some [])) := (g2.block D (by omega)).trans ((g1.block D hDV).trans hK)
    obtain ⟨X, hX⟩ : ∃ X, ((V2.setCell ⟨w.heap.size + 1, 0, none⟩ (.bool me)).setCell ⟨w.heap.size + 1, 1, none⟩ (.int .i64 mlo)).setCell ⟨w.heap.size + 1, 2, none⟩ (.int .i64 mhi) = X := ⟨_, rfl⟩
    have x0 : X.cell? ⟨w.heap.size + 1, 0, none⟩ = some (.bool me) := by rw [← hX]; simp [go_sem, r0, r1, r2]
    have x1 : X.cell? ⟨w.heap.size + 1, 1, none⟩ = some (.int .i64 mlo) := by rw [← hX]; simp [go_sem, r0, r1, r2]
    have x2 : X.cell? ⟨w.heap.size + 1, 2, none⟩ = some (.int .i64 mhi) := by rw [← hX]; simp [go_sem, r0, r1, r2]
    have hKX : X.heap[D]? = some (.deferred (some [])) := by
      rw [← hX]
      exact (Below.heap_setCell _ _ _ D (by simp; omega)).trans ((Below.heap_setCell _ _ _ D (by simp; omega)).trans ((Below.heap_setCell _ _ _ D (by simp; omega)).trans hK2))
    have bX : Below w.heap.size w X := by rw [← hX]; exact sp_set3 bV (by omega) _ _ _
    rw [hX]
    clear hX
    refine ⟨by simp, .inl ⟨_, _, rfl, run_takeDeferred hKX, ?_⟩⟩
    have y : ∀ j, (X.putObj D (.deferred none)).cell? ⟨w.heap.size + 1, j, none⟩ = X.cell? ⟨w.heap.size + 1, j, none⟩ := fun j => World.cell?_of_block (World.putObj_heap_other (by simp; omega))
    refine ⟨.tuple #[.agg #[.bool me, .int .i64 mlo, .int .i64 mhi], .int .i64 TR], by simp [results, Tryz.results53, go_sem, y, x0, x1, x2], rfl, bX.trans ((OnlyAt.put _ _ _).below (by omega))⟩
end Go.Proofs.YtgdknlnpfnifiaaGreat

namespace Go.Proofs.YtgdknlnpfnifiaaGreat
open Go.RowKit Go.Shelf
set_option linter.unusedVariables false
set_option linter.unusedSimpArgs false
attribute [local go_sem] Oper.semAt_some
def Box3i (W : World) (b : Nat) (s : Bool × Int × Int) : Prop := W.cell? ⟨b, 0, none⟩ = some (.bool s.1) ∧ W.cell? ⟨b, 1, none⟩ = some (.int .i64 s.2.1) ∧ W.cell? ⟨b, 2, none⟩ = some (.int .i64 s.2.2)
theorem Box3i.but {S : Nat → Prop} {A B : World} {b : Nat} {s : Bool × Int × Int} (h : Box3i A b s) (hb : But S A B) (hs : ¬ S b) : Box3i B b s := ⟨hb.cell hs h.1, hb.cell hs h.2.1, hb.cell hs h.2.2⟩
set_option maxRecDepth 100000 in
set_option maxHeartbeats 4000000 in
theorem both1_i (l Ba Bb b cap : Nat) (em : Bool) (lo hi : Int) (ls : List (Bool × Int × Int)) (hlen : ls.length ≤ 1000) (S : Nat → Prop) (W : World) (hBa : ¬ S Ba) (hBb : ¬ S Bb) (hb : ¬ S b) (hS : ∀ k, S k → k < W.heap.size) (J : List (Int × Int) → World → Prop)
    (hY : ∀ pre (x : Int × Int) W1, pre ++ [x] <+: pairsL (em, lo, hi) ls → J pre W1 → ∀ m, YieldAt Fence.wide m Tryz.prog l #[.int .i64 x.1, .int .i64 x.2] W1 fun e W' => e = .returned (.bool true) ∧ J (pre ++ [x]) W' ∧ But S W1 W')
    (st : Stable W.heap.size J) (ha : Box3i W Ba (em, lo, hi)) (hc : W.cell? ⟨Bb, 0, none⟩ = some (.slice (some ⟨b, 0, none⟩) ls.length cap)) (hr : SRowi W b ls) (h0 : J [] W) :
    Calls Tryz.prog 227 #[.func (.yield l) #[] #[], .pointer (some ⟨Ba, 0, none⟩), .pointer (some ⟨Bb, 0, none⟩)] W fun e W' => (∃ v, e = .returned v) ∧ J (pairsL (em, lo, hi) ls) W' := by
  obtain ⟨a1, a2, a3⟩ := ha
  have lBa : Ba < W.heap.size := World.block_lt_of_cell? W _ a1
  have lBb : Bb < W.heap.size := World.block_lt_of_cell? W _ hc
  have hends := ends_i
  refine (callsIn_wide (n := 3)).1 ?_
  refine callsIn_of_wp_marks Tryz.func227 rfl trivial ?_ rfl
  simp only [Tryz.ntmps227, List.size_toArray, List.length_cons, List.length_nil, Nat.reduceAdd, Nat.reduceSub, Array.replicate_succ, Array.replicate_zero, List.push_toArray, List.append_toArray, List.nil_append, List.cons_append]
  gi_wp2_with (refine ⟨trivial, ?_⟩; gi_at_call 135; refine (callsIn_wide.2 (hends _ ⟨_, _, _, rfl⟩ _)).mono ?_; rintro e w' ⟨rfl, rfl⟩)
  obtain ⟨W0, hW0⟩ : ∃ W0, ((W.alloc (.cells #[.func (.yield l) #[] #[]] 215)).alloc (.cells #[.bool em, .int .i64 lo, .int .i64 hi] 96)).alloc (.cells #[.slice (some ⟨W.heap.size + 1, 0, none⟩) 1 1] 148) = W0 := ⟨_, rfl⟩
  have z0 : W0.heap.size = W.heap.size + 3 := by rw [← hW0]; simp
  have q0 : W0.cell? ⟨W.heap.size, 0, none⟩ = some (.func (.yield l) #[] #[]) := by rw [← hW0]; simp [go_sem]
  have q1 : SRowi W0 (W.heap.size + 1) [(em, lo, hi)] := fun j s hj => by
    cases j with
    | zero => simp at hj; subst hj; rw [← hW0]; simp [go_sem]
    | succ n => simp at hj
  have q2 : W0.cell? ⟨W.heap.size + 1 + 1, 0, none⟩ = some (.slice (some ⟨W.heap.size + 1, 0, none⟩) [(em, lo, hi)].length 1) := by rw [← hW0]; simp [go_sem]
  have Bw : Below W.heap.size W W0 := by rw [← hW0]; exact (((Below.refl _ W).alloc (Nat.le_refl _) _).alloc (by simp) _).alloc (by simp; omega) _
  have B0 : But S W W0 := But.of Bw
  have qc := B0.cell hBb hc
  have qr := hr.but B0 hb
  have nS : ∀ k, W.heap.size ≤ k → ¬ S k := fun k hk h => absurd (hS k h) (by omega)
  rw [hW0]
  clear hW0 a1 a2 a3 hc hr
  refine feed_out (n := 3) rfl (enters_of Tryz.func196 (by kernel_rfl) rfl) (ends_feeds_i (W.heap.size + 1 + 1) (W.heap.size + 1) 1 [(em, lo, hi)] (by simp) S W0 (nS _ (by omega)) (nS _ (by omega)) (fun k hk => by have := hS k hk; omega) q2 q1) (fun _ => rfl) (fun k hk => by have := hS k hk; omega)
    (fun pre W' => J (withL ls pre) W' ∧ But S W0 W') (Stable.and (fun s A B h hb => st _ _ _ h (hb.mono (by omega))) (stable_but (Nat.le_refl _))) ⟨st _ _ _ h0 Bw, But.refl _ _⟩
    (fun l0 x a' W' => ∃ Bx, l0 < Bx ∧ W.heap.size ≤ Bx ∧ W'.cell? ⟨Bx, 0, none⟩ = some (.int .i64 x) ∧ a' = { tmps := #[.func (.yield l) #[] #[], .pointer (some ⟨Ba, 0, none⟩), .pointer (some ⟨Bb, 0, none⟩), .pointer (some ⟨W.heap.size, 0, none⟩), .pointer (some ⟨Bx, 0, none⟩), undef, .agg #[.bool em, .int .i64 lo, .int .i64 hi], .slice (some ⟨W.heap.size + 1, 0, none⟩) 1 1, .func (.func 196) #[] #[.pointer (some ⟨W.heap.size + 1 + 1, 0, none⟩)], .int .i64 x, undef, undef, undef, undef, undef, undef, undef, undef], defers := [] })
    (fun l0 x a' A B h ho => by obtain ⟨Bx, h1, h2, h3, h4⟩ := h; exact ⟨Bx, h1, h2, (World.cell?_of_block (ho.block Bx (by omega))).trans h3, h4⟩) ?assign ?body ?done
  case assign =>
    rintro m l0 pre x W' K hl0 ll0 hp ⟨hJ, hB⟩ hK
    have z := hB.size
    gi_wp2
    exact hK _ _ ((But.refl _ _).alloc _) ⟨st _ _ _ hJ ((Below.refl _ _).alloc (by omega) _), hB.alloc _⟩ ⟨W'.heap.size, by omega, by omega, by simp [go_sem], rfl⟩
  case body =>
    rintro m l0 pre x a' W' hl0 hrec hp ⟨hJ, hB⟩ ⟨Bx, hBx, hBx2, cx, rfl⟩
    have z := hB.size
    have c0 := hB.cell (nS _ (Nat.le_refl _)) q0
    have c1 := hB.cell hBb qc
    have c2 := qr.but hB hb
    gi_wp2_with (refine ⟨trivial, (fun h => by cases h), ?_⟩; gi_at_call 135; refine (CallsIn.inRound l0 (callsIn_wide.2 (hends _ ⟨_, _, _, rfl⟩ _))).mono ?_; rintro e w' ⟨rfl, rfl⟩)
    obtain ⟨W2, hW2⟩ : ∃ W2, W'.alloc (.cells #[.slice (some ⟨b, 0, none⟩) ls.length cap] 148) = W2 := ⟨_, rfl⟩
    have z2 : W2.heap.size = W'.heap.size + 1 := by rw [← hW2]; simp
    have Bw2 : Below W'.heap.size W' W2 := by rw [← hW2]; exact (Below.refl _ _).alloc (Nat.le_refl _) _
    have B2 : But S W' W2 := But.of Bw2
    have d0 := B2.cell (nS _ (Nat.le_refl _)) c0
    have d1 : W2.cell? ⟨W'.heap.size, 0, none⟩ = some (.slice (some ⟨b, 0, none⟩) ls.length cap) := by rw [← hW2]; simp [go_sem]
    have d2 := c2.but B2 hb
    have dx := B2.cell (nS _ hBx2) cx
    have hrec2 : ∃ r, W2.heap[l0]? = some (.loop r) := by
      obtain ⟨r, hr⟩ := hrec
      exact ⟨r, (Bw2.block l0 (Array.getElem?_eq_some_iff.1 hr).1).trans hr⟩
    rw [hW2]
    clear hW2 c0 c1 c2 cx
    refine feed_in hrec2 rfl (enters_of Tryz.func196 (by kernel_rfl) rfl) (ends_feeds_i W'.heap.size b cap ls hlen S W2 (nS _ (by omega)) hb (fun k hk => by have := hS k hk; omega) d1 d2) (fun _ => rfl) (fun k hk => by have := hS k hk; omega)
      (fun pre' V => J (withL ls pre ++ pre'.map fun y => (x, y)) V ∧ But S W2 V) (Stable.and (fun s A B h hb => st _ _ _ h (hb.mono (by omega))) (stable_but (Nat.le_refl _))) ⟨by simpa using st _ _ _ hJ (Bw2.mono (by omega)), But.refl _ _⟩
      (fun l2 y a'' V => a'' = { tmps := #[.func (.yield l) #[] #[], .pointer (some ⟨Ba, 0, none⟩), .pointer (some ⟨Bb, 0, none⟩), .pointer (some ⟨W.heap.size, 0, none⟩), .pointer (some ⟨Bx, 0, none⟩), .int .i64 y, .agg #[.bool em, .int .i64 lo, .int .i64 hi], .slice (some ⟨W.heap.size + 1, 0, none⟩) 1 1, .func (.func 196) #[] #[.pointer (some ⟨W.heap.size + 1 + 1, 0, none⟩)], .int .i64 x, .slice (some ⟨b, 0, none⟩) ls.length cap, .func (.func 196) #[] #[.pointer (some ⟨W'.heap.size, 0, none⟩)], .int .i64 y, undef, undef, undef, undef, undef], defers := [] })
      (fun l2 y a'' A B h ho => h) ?assign2 ?body2 ?done2
    case assign2 =>
      rintro m2 l2 pre' y V K hl2 ll2 hp' hI hK
      gi_wp2
      exact hK _ _ (But.refl _ _) hI rfl
    case body2 =>
      rintro m2 l2 pre' y a'' V hl2 hrec3 hp' ⟨hJ2, hB2⟩ rfl
      have f0 := hB2.cell (nS _ (Nat.le_refl _)) d0
      have fx := hB2.cell (nS _ hBx2) dx
      obtain ⟨fn1, t1, as1, bo1, hy1, hR1⟩ := hY _ (x, y) V (withL_mid ls hp hp') hJ2 (m2 - 1)
      dsimp only at hy1
      gi_wp2
      refine ⟨(fun h => by cases h), ?_⟩
      have hR2 : RoundIn (Fence.wide.inRound l2) (m2 - 1) Tryz.prog l fn1 t1 as1 bo1 V _ := hR1
      refine hR2.mono ?_
      rintro e V2 ⟨rfl, hJ3, hB3⟩
      gi_wp2
      exact ⟨by simpa using hJ3, hB2.trans hB3⟩
    case done2 =>
      rintro V ⟨hJ2, hB2⟩
      gi_wp2
      exact ⟨B2.trans hB2, by rw [withL_snoc]; exact hJ2, (hB.trans B2).trans hB2⟩
  case done =>
    rintro D W' hD ⟨hJ, hB⟩ hK
    gi_wp2
    refine ⟨by simp, .inl ⟨_, _, rfl, run_takeDeferred hK, ?_⟩⟩
    exact ⟨_, results_none rfl _ _ _, ⟨_, rfl⟩, st _ _ _ hJ ((OnlyAt.put _ _ _).below (by omega))⟩
set_option maxHeartbeats 1000000 in
theorem both_i (e : Bool) (lo hi : Int) (v : Value) (hv : ∃ b n cap, v = .slice (some ⟨b, 0, none⟩) n cap) (w : World) : Calls Tryz.prog 201 #[.agg #[.bool e, .int .i64 lo, .int .i64 hi], v] w fun r w' => r = .returned (.func (.func 227) #[] #[.pointer (some ⟨w.heap.size, 0, none⟩), .pointer (some ⟨w.heap.size + 1, 0, none⟩)]) ∧ w' = (w.alloc (.cells #[.bool e, .int .i64 lo, .int .i64 hi] 96)).alloc (.cells #[v] 148) := by
  obtain ⟨b, n, cap, rfl⟩ := hv
  go_enter Tryz.func201, Tryz.ntmps201
  go_wp2_with fail
  go_ret
  exact ⟨rfl, rfl⟩
theorem both_feeds_i (Ba Bb b cap : Nat) (em : Bool) (lo hi : Int) (ls : List (Bool × Int × Int)) (hlen : ls.length ≤ 1000) (S : Nat → Prop) (w : World) (hBa : ¬ S Ba) (hBb : ¬ S Bb) (hb : ¬ S b) (hS : ∀ k, S k → k < w.heap.size)
    (ha : Box3i w Ba (em, lo, hi)) (hc : w.cell? ⟨Bb, 0, none⟩ = some (.slice (some ⟨b, 0, none⟩) ls.length cap)) (hr : SRowi w b ls) :
    Feeds Tryz.prog 227 #[.pointer (some ⟨Ba, 0, none⟩), .pointer (some ⟨Bb, 0, none⟩)] (fun x : Int × Int => #[Value.int .i64 x.1, Value.int .i64 x.2]) S (pairsL (em, lo, hi) ls) w := fun l J W hW st hY h0 =>
  both1_i l Ba Bb b cap em lo hi ls hlen S W hBa hBb hb (fun k hk => Nat.lt_of_lt_of_le (hS k hk) hW.size) J hY st (ha.but (But.of (S := S) hW) hBa) ((But.of (S := S) hW).cell hBb hc) (hr.but (But.of (S := S) hW) hb) h0
end Go.Proofs.YtgdknlnpfnifiaaGreat

namespace Go.Proofs.YtgdknlnpfnifiaaGreat
open Go.RowKit Go.Shelf
set_option linter.unusedVariables false
set_option linter.unusedSimpArgs false
attribute [local go_sem] Oper.semAt_some
set_option maxRecDepth 100000 in
set_option maxHeartbeats 4000000 in
theorem each21_i (l Ba Bb By b cap kb : Nat) (caps : Array Value) (g : Int → Int → Int) (em : Bool) (lo hi : Int) (ls : List (Bool × Int × Int)) (hlen : ls.length ≤ 1000) (S : Nat → Prop) (W : World) (hBa : ¬ S Ba) (hBb : ¬ S Bb) (hBy : ¬ S By) (hb : ¬ S b) (hS : ∀ k, S k → k < W.heap.size) (J : List Int → World → Prop)
    (hY : ∀ pre (x : Int) W1, pre ++ [x] <+: (pairsL (em, lo, hi) ls).map (fun p => g p.1 p.2) → J pre W1 → ∀ m, YieldAt Fence.wide m Tryz.prog l #[.int .i64 x] W1 fun e W' => e = .returned (.bool true) ∧ J (pre ++ [x]) W' ∧ But S W1 W')
    (hby : ∀ x y V, (x, y) ∈ pairsL (em, lo, hi) ls → But S W V → Calls Tryz.prog kb (#[.int .i64 x, .int .i64 y] ++ caps) V fun e V' => e = .returned (.int .i64 (g x y)) ∧ Below V.heap.size V V')
    (eby : ∀ args w, (callFunc kb args).run Tryz.prog w = .ok (.enter kb args) w)
    (st : Stable W.heap.size J) (ha : Box3i W Ba (em, lo, hi)) (hc : W.cell? ⟨Bb, 0, none⟩ = some (.slice (some ⟨b, 0, none⟩) ls.length cap)) (hf : W.cell? ⟨By, 0, none⟩ = some (.func (.func kb) #[] caps)) (hr : SRowi W b ls) (h0 : J [] W) :
    Calls Tryz.prog 200 #[.func (.yield l) #[] #[], .pointer (some ⟨Ba, 0, none⟩), .pointer (some ⟨Bb, 0, none⟩), .pointer (some ⟨By, 0, none⟩)] W fun e W' => (∃ v, e = .returned v) ∧ J ((pairsL (em, lo, hi) ls).map (fun p => g p.1 p.2)) W' := by
  obtain ⟨a1, a2, a3⟩ := ha
  have lBa : Ba < W.heap.size := World.block_lt_of_cell? W _ a1
  have lBb : Bb < W.heap.size := World.block_lt_of_cell? W _ hc
  have lBy : By < W.heap.size := World.block_lt_of_cell? W _ hf
  have hboth := both_i
  refine (callsIn_wide (n := 3)).1 ?_
  refine callsIn_of_wp_marks Tryz.func200 rfl trivial ?_ rfl
  simp only [Tryz.ntmps200, List.size_toArray, List.length_cons, List.length_nil, Nat.reduceAdd, Nat.reduceSub, Array.replicate_succ, Array.replicate_zero, List.push_toArray, List.append_toArray, List.nil_append, List.cons_append]
  gi_wp2_with (refine ⟨trivial, ?_⟩; gi_at_call 201; refine (callsIn_wide.2 (hboth _ _ _ _ ⟨_, _, _, rfl⟩ _)).mono ?_; rintro e w' ⟨rfl, rfl⟩)
  obtain ⟨W0, hW0⟩ : ∃ W0, ((W.alloc (.cells #[.func (.yield l) #[] #[]] 88)).alloc (.cells #[.bool em, .int .i64 lo, .int .i64 hi] 96)).alloc (.cells #[.slice (some ⟨b, 0, none⟩) ls.length cap] 148) = W0 := ⟨_, rfl⟩
  have z0 : W0.heap.size = W.heap.size + 3 := by rw [← hW0]; simp
  have q0 : W0.cell? ⟨W.heap.size, 0, none⟩ = some (.func (.yield l) #[] #[]) := by rw [← hW0]; simp [go_sem]
  have q1 : Box3i W0 (W.heap.size + 1) (em, lo, hi) := by unfold Box3i; rw [← hW0]; simp [go_sem]
  have q2 : W0.cell? ⟨W.heap.size + 1 + 1, 0, none⟩ = some (.slice (some ⟨b, 0, none⟩) ls.length cap) := by rw [← hW0]; simp [go_sem]
  have Bw : Below W.heap.size W W0 := by rw [← hW0]; exact (((Below.refl _ W).alloc (Nat.le_refl _) _).alloc (by simp) _).alloc (by simp; omega) _
  have B0 : But S W W0 := But.of Bw
  have qf := B0.cell hBy hf
  have qr := hr.but B0 hb
  have nS : ∀ k, W.heap.size ≤ k → ¬ S k := fun k hk h => absurd (hS k h) (by omega)
  rw [hW0]
  clear hW0 a1 a2 a3 hc hr hf
  refine feed_out (n := 3) rfl (enters_of Tryz.func227 (by kernel_rfl) rfl) (both_feeds_i (W.heap.size + 1) (W.heap.size + 1 + 1) b cap em lo hi ls hlen S W0 (nS _ (by omega)) (nS _ (by omega)) hb (fun k hk => by have := hS k hk; omega) q1 q2 qr) (fun _ => rfl) (fun k hk => by have := hS k hk; omega)
    (fun (pre : List (Int × Int)) W' => J (pre.map fun p : Int × Int => g p.1 p.2) W' ∧ But S W0 W') (Stable.and (fun s A B h hb => st _ A B h (hb.mono (by omega))) (stable_but (Nat.le_refl _))) ⟨by simpa using st _ _ _ h0 Bw, But.refl _ _⟩
    (fun l0 x a' W' => a' = { tmps := #[.func (.yield l) #[] #[], .pointer (some ⟨Ba, 0, none⟩), .pointer (some ⟨Bb, 0, none⟩), .pointer (some ⟨By, 0, none⟩), .pointer (some ⟨W.heap.size, 0, none⟩), .int .i64 x.1, .int .i64 x.2, .agg #[.bool em, .int .i64 lo, .int .i64 hi], .slice (some ⟨b, 0, none⟩) ls.length cap, .func (.func 227) #[] #[.pointer (some ⟨W.heap.size + 1, 0, none⟩), .pointer (some ⟨W.heap.size + 1 + 1, 0, none⟩)], .int .i64 x.1, .int .i64 x.2, undef, undef, undef, undef, undef, undef, undef], defers := [] })
    (fun l0 x a' A B h ho => h) ?assign ?body ?done
  case assign =>
    rintro m l0 pre ⟨x, y⟩ W' K hl0 ll0 hp hI hK
    gi_wp2
    exact hK _ _ (But.refl _ _) hI rfl
  case body =>
    rintro m l0 pre ⟨x, y⟩ a' W' hl0 hrec hp ⟨hJ, hB⟩ rfl
    have z := hB.size
    have c0 := hB.cell (nS _ (Nat.le_refl _)) q0
    have c1 := hB.cell hBy qf
    have mem : (x, y) ∈ pairsL (em, lo, hi) ls := List.IsPrefix.subset hp (by simp)
    have hb1 := fun V (hV : Below W'.heap.size W' V) => hby x y V mem ((B0.trans hB).call hV)
    have hpm : (pre.map fun p : Int × Int => g p.1 p.2) ++ [g x y] <+: (pairsL (em, lo, hi) ls).map (fun p => g p.1 p.2) := by
      obtain ⟨t, ht⟩ := hp
      exact ⟨t.map fun p => g p.1 p.2, by rw [← ht]; simp⟩
    have hgo := fun V (hV : Below W'.heap.size W' V) => hY _ (g x y) V hpm (st _ W' V hJ (hV.mono (by omega))) (m - 1)
    have hend : ∀ V, J ((pre.map fun p : Int × Int => g p.1 p.2) ++ [g x y]) V → J ((pre ++ [(x, y)]).map fun p : Int × Int => g p.1 p.2) V := fun V h => by simpa using h
    clear hY hpm
    clear hend
    have hmix : Tryz.prog.follows .mixedOrders = true := by kernel_rfl
    gi_wp2
    gi_region_with_o (first
      | (refine ⟨trivial, (fun h => by cases h), ?_⟩; refine (CallsIn.inRound l0 (callsIn_wide.2 (hb1 _ (by first | exact Below.refl _ _ | exact (Below.refl _ _).drew | exact (Below.refl _ _).drew.drew)))).mono ?_; rintro e V ⟨rfl, bV⟩; have bV' : Below W'.heap.size W' V := ⟨bV.os, bV.tape, bV.output, bV.size, bV.block⟩; have c0' := (But.of (S := S) bV').cell (nS _ (Nat.le_refl _)) c0; obtain ⟨fn1, t1, as1, bo1, hy1, hR1⟩ := hgo V bV')
      | (refine ⟨(fun h => by cases h), ?_⟩; have hR2 : RoundIn (Fence.wide.inRound l0) (m - 1) Tryz.prog l fn1 t1 as1 bo1 V _ := hR1; refine hR2.mono ?_; rintro e V2 ⟨rfl, hJ3, hB3⟩)
      | fail)
    all_goals gi_wp2
    all_goals exact ⟨(But.of bV').trans hB3, by simpa using hJ3, hB.trans ((But.of bV').trans hB3)⟩
  case done =>
    rintro D W' hD ⟨hJ, hB⟩ hK
    gi_wp2
    refine ⟨by simp, .inl ⟨_, _, rfl, run_takeDeferred hK, ?_⟩⟩
    exact ⟨_, results_none rfl _ _ _, ⟨_, rfl⟩, st _ _ _ hJ ((OnlyAt.put _ _ _).below (by omega))⟩
set_option maxHeartbeats 1000000 in
theorem each2_i (fv : Value) (hfv : ∃ kb caps, fv = .func (.func kb) #[] caps) (e : Bool) (lo hi : Int) (v : Value) (hv : ∃ b n cap, v = .slice (some ⟨b, 0, none⟩) n cap) (w : World) : Calls Tryz.prog 138 #[fv, .agg #[.bool e, .int .i64 lo, .int .i64 hi], v] w fun r w' => r = .returned (.func (.func 200) #[] #[.pointer (some ⟨w.heap.size + 1, 0, none⟩), .pointer (some ⟨w.heap.size + 1 + 1, 0, none⟩), .pointer (some ⟨w.heap.size, 0, none⟩)]) ∧ w' = ((w.alloc (.cells #[fv] 150)).alloc (.cells #[.bool e, .int .i64 lo, .int .i64 hi] 96)).alloc (.cells #[v] 148) := by
  obtain ⟨b, n, cap, rfl⟩ := hv
  obtain ⟨kb, caps, rfl⟩ := hfv
  go_enter Tryz.func138, Tryz.ntmps138
  go_wp2_with fail
  go_ret
  exact ⟨rfl, rfl⟩
theorem each2_feeds_i (Ba Bb By b cap kb : Nat) (caps : Array Value) (g : Int → Int → Int) (em : Bool) (lo hi : Int) (ls : List (Bool × Int × Int)) (hlen : ls.length ≤ 1000) (S : Nat → Prop) (w : World) (hBa : ¬ S Ba) (hBb : ¬ S Bb) (hBy : ¬ S By) (hb : ¬ S b) (hS : ∀ k, S k → k < w.heap.size)
    (hby : ∀ x y V, (x, y) ∈ pairsL (em, lo, hi) ls → But S w V → Calls Tryz.prog kb (#[.int .i64 x, .int .i64 y] ++ caps) V fun e V' => e = .returned (.int .i64 (g x y)) ∧ Below V.heap.size V V')
    (eby : ∀ args w, (callFunc kb args).run Tryz.prog w = .ok (.enter kb args) w)
    (ha : Box3i w Ba (em, lo, hi)) (hc : w.cell? ⟨Bb, 0, none⟩ = some (.slice (some ⟨b, 0, none⟩) ls.length cap)) (hf : w.cell? ⟨By, 0, none⟩ = some (.func (.func kb) #[] caps)) (hr : SRowi w b ls) :
    Feeds Tryz.prog 200 #[.pointer (some ⟨Ba, 0, none⟩), .pointer (some ⟨Bb, 0, none⟩), .pointer (some ⟨By, 0, none⟩)] (fun x : Int => #[Value.int .i64 x]) S ((pairsL (em, lo, hi) ls).map fun p => g p.1 p.2) w := fun l J W hW st hY h0 =>
  each21_i l Ba Bb By b cap kb caps g em lo hi ls hlen S W hBa hBb hBy hb (fun k hk => Nat.lt_of_lt_of_le (hS k hk) hW.size) J hY (fun x y V hm hV => hby x y V hm ((But.of hW).trans hV)) eby st (ha.but (But.of (S := S) hW) hBa) ((But.of (S := S) hW).cell hBb hc) ((But.of (S := S) hW).cell hBy hf) (hr.but (But.of (S := S) hW) hb) h0
end Go.Proofs.YtgdknlnpfnifiaaGreat

namespace Go.Proofs.YtgdknlnpfnifiaaGreat
open Go.RowKit
set_option linter.unusedVariables false
set_option linter.unusedSimpArgs false
theorem below_overi {W w2 : World} {o : Obj} (g : Below (W.alloc o).drew.heap.size (W.alloc o).drew w2) : Below W.heap.size W w2 :=
  ⟨g.os, g.tape, g.output, Nat.le_trans (Nat.le_trans (Nat.le_succ _) (by simp)) g.size, fun k hk => (g.block k (by show k < (W.alloc o).heap.size; simp; omega)).trans (Below.heap_alloc W o k hk)⟩
theorem lt_overi {W w2 : World} {o : Obj} (g : Below (W.alloc o).drew.heap.size (W.alloc o).drew w2) : W.heap.size < w2.heap.size := Nat.lt_of_lt_of_le (show W.heap.size < (W.alloc o).heap.size by simp) g.size
theorem srow_oni {W w2 : World} {e : Bool} {a b : Int} {t : TypeId} (g : Below (W.alloc (.cells #[.bool e, .int .i64 a, .int .i64 b] t)).drew.heap.size (W.alloc (.cells #[.bool e, .int .i64 a, .int .i64 b] t)).drew w2) : SRowi w2 W.heap.size [(e, a, b)] := fun j s hj => by
  cases j with
  | zero =>
    simp at hj; subst hj
    exact ⟨sO g (show (W.alloc _).cell? _ = some _ by simp [go_sem]), sO g (show (W.alloc _).cell? _ = some _ by simp [go_sem]), sO g (show (W.alloc _).cell? _ = some _ by simp [go_sem])⟩
  | succ n => simp at hj
theorem each2x_i (kb : Nat) (caps : Array Value) (e : Bool) (lo hi : Int) (b n cap : Nat) (w : World) : Calls Tryz.prog 138 #[.func (.func kb) #[] caps, .agg #[.bool e, .int .i64 lo, .int .i64 hi], .slice (some ⟨b, 0, none⟩) n cap] w fun r w' =>
    ∃ p : Nat, r = .returned (.func (.func 200) #[] #[.pointer (some ⟨p + 1, 0, none⟩), .pointer (some ⟨p + 1 + 1, 0, none⟩), .pointer (some ⟨p, 0, none⟩)]) ∧ w'.cell? ⟨p, 0, none⟩ = some (.func (.func kb) #[] caps) ∧ Box3i w' (p + 1) (e, lo, hi) ∧ w'.cell? ⟨p + 1 + 1, 0, none⟩ = some (.slice (some ⟨b, 0, none⟩) n cap) ∧ p + 1 + 1 < w'.heap.size ∧ Below w.heap.size w w' := by
  refine (each2_i (.func (.func kb) #[] caps) ⟨_, _, rfl⟩ e lo hi (.slice (some ⟨b, 0, none⟩) n cap) ⟨_, _, _, rfl⟩ w).mono ?_
  rintro r w' ⟨rfl, rfl⟩
  exact ⟨w.heap.size, rfl, by simp [go_sem], by unfold Box3i; simp [go_sem], by simp [go_sem], by simp, (sp_new (sp_new (sp_new (Below.refl _ _) _) _) _)⟩
theorem feeds2_i {p b cap kb : Nat} {caps : Array Value} {g : Int → Int → Int} {em : Bool} {lo hi : Int} {ls : List (Bool × Int × Int)} {okp : Int → Int → Prop} {v1 v2 W0 : World} {S : Nat → Prop} (f0 : v2.cell? ⟨p, 0, none⟩ = some (.func (.func kb) #[] caps)) (f1 : Box3i v2 (p + 1) (em, lo, hi)) (f2 : v2.cell? ⟨p + 1 + 1, 0, none⟩ = some (.slice (some ⟨b, 0, none⟩) ls.length cap)) (srow : SRowi v2 b ls) (hlen : ls.length ≤ 1000) (hp : p + 1 + 1 < v2.heap.size) (hb : b < v2.heap.size)
    (eby : ∀ args w, (callFunc kb args).run Tryz.prog w = .ok (.enter kb args) w) (hby : ∀ x y X, okp x y → Below v1.heap.size v1 X → Calls Tryz.prog kb (#[.int .i64 x, .int .i64 y] ++ caps) X fun e X' => e = .returned (.int .i64 (g x y)) ∧ Below X.heap.size X X') (hok : ∀ q ∈ pairsL (em, lo, hi) ls, okp q.1 q.2)
    (b12 : Below v1.heap.size v1 v2) (hW : Below v2.heap.size v2 W0) (hSS : ∀ k, S k → v2.heap.size ≤ k ∧ k < W0.heap.size) :
    Feeds Tryz.prog 200 #[.pointer (some ⟨p + 1, 0, none⟩), .pointer (some ⟨p + 1 + 1, 0, none⟩), .pointer (some ⟨p, 0, none⟩)] (fun x : Int => #[Value.int .i64 x]) S ((pairsL (em, lo, hi) ls).map fun p => g p.1 p.2) W0 := by
  have nS : ∀ k, k < v2.heap.size → ¬ S k := fun k hk h => absurd (hSS k h).1 (by omega)
  have z := b12.size
  have bu : But S v2 W0 := But.of hW
  refine each2_feeds_i (p + 1) (p + 1 + 1) p b cap kb caps g em lo hi ls hlen S W0 (nS _ (by omega)) (nS _ hp) (nS _ (by omega)) (nS _ hb) (fun k hk => (hSS k hk).2) (fun x y V hm hV => hby x y V (hok (x, y) hm) ?_) eby (f1.but bu (nS _ (by omega))) (bu.cell (nS _ hp) f2) (bu.cell (nS _ (by simp; omega)) f0) (srow.but bu (nS _ hb))
  exact (b12.trans (hW.mono z)).trans (hV.below (Nat.le_trans z hW.size) (fun k hk => Nat.le_trans z (hSS k hk).1))
theorem fn_nil_i (kb : Nat) (caps : Array Value) (w : World) : (binOp BinOp.eql 150 (.func (.func kb) #[] caps) .nilFunc).run Tryz.prog w = .ok (.bool false) w := by kernel_rfl
def By2i (L : Ln) (A : Ways) (B : Nat) (w0 : World) (op : Int) (ok : Int → Int → Prop) (g : Int → Int → Int) : Prop :=
  ∀ V, Below B w0 V → Calls Tryz.prog L.kt (#[.int .i64 op] ++ L.ct) V fun e V' => Below V.heap.size V V' ∧ ∃ kb caps, e = .returned (.func (.func kb) #[] caps) ∧ (∀ args w, (callFunc kb args).run Tryz.prog w = .ok (.enter kb args) w)
    ∧ ∀ x y X, ok x y → Below V'.heap.size V' X → Calls Tryz.prog kb (#[.int .i64 x, .int .i64 y] ++ caps) X fun e X' => e = .returned (.int .i64 (g x y)) ∧ Below X.heap.size X X'
set_option maxRecDepth 100000 in
set_option maxHeartbeats 6400000 in
theorem two_i {L : Ln} {A : Ways} {B : Nat} {w0 : World} (H : Actsi L A B w0) (et : ∀ args w, (callFunc L.kt args).run Tryz.prog w = .ok (.enter L.kt args) w) (T : Int) (hT : ∀ w, Calls Tryz.prog 86 #[.int .i64 L.past] w fun e w' => e = .returned (.int .i64 T) ∧ w' = w) (op : Int) (hop : (op == 11) = false) (okp : Int → Int → Prop) (g : Int → Int → Int) (h2 : By2i L A B w0 op okp g)
    (a b c d : Int) (d0 : A.dom 0) (dl : A.dom L.least) (dm : A.dom L.most) (hx : ∀ p ∈ pairsL (false, a, b) [(false, c, d)], okp p.1 p.2 ∧ A.dom (g p.1 p.2) ∧ A.dom (A.pl (g p.1 p.2))) (w : World) (ok : Below B w0 w) :
    Calls Tryz.prog 64 #[.agg (lvi L), .int .i64 op, .agg #[.bool false, .int .i64 a, .int .i64 b], .agg #[.bool false, .int .i64 c, .int .i64 d]] w fun e w' =>
      e = .returned (.tuple #[sVi (meetP A (hullP A ((pairsL (false, a, b) [(false, c, d)]).map fun p => g p.1 p.2)) (false, L.least, L.most)), .int .i64 (trapP A L T ((pairsL (false, a, b) [(false, c, d)]).map fun p => g p.1 p.2))]) ∧ Below w.heap.size w w' := by
  have hB := H.hB
  have htold := fun gf lb w ok eg hseq => told_i H T hT gf lb ((pairsL (false, a, b) [(false, c, d)]).map fun p => g p.1 p.2) d0 dl dm (fun x hxm => by
    obtain ⟨p, hp, rfl⟩ := List.mem_map.1 hxm
    exact (hx p hp).2) w ok eg hseq
  have he2 := each2x_i
  have hok : ∀ q ∈ pairsL (false, a, b) [(false, c, d)], okp q.1 q.2 := fun q hq => (hx q hq).1
  clear hx
  generalize meetP A (hullP A ((pairsL (false, a, b) [(false, c, d)]).map fun p => g p.1 p.2)) (false, L.least, L.most) = R at *
  obtain ⟨me, mlo, mhi⟩ := R
  generalize trapP A L T ((pairsL (false, a, b) [(false, c, d)]).map fun p => g p.1 p.2) = TR at *
  unfold sVi lvi at *
  dsimp only at *
  have hq := h2
  unfold By2i at hq
  go_enter Tryz.func64, Tryz.ntmps64
  go_wp2_with fail
  obtain ⟨W, hW⟩ : ∃ W, ((((w.alloc (.cells #[.int .i64 L.least, .int .i64 L.most, .int .i64 L.past, .func (.func L.ko) #[] L.co, .func (.func L.kp) #[] L.cp, .func (.func L.k1) #[] L.c1, .func (.func L.kv) #[] L.cv, .func (.func L.kn) #[] L.cn, .func (.func L.ku) #[] L.cu, .func (.func L.kt) #[] L.ct, .func (.func L.kz) #[] L.cz] 93)).alloc (.cells #[.bool false, .int .i64 a, .int .i64 b] 96)).alloc (.cells #[.bool false, .int .i64 c, .int .i64 d] 96)).alloc (.cells #[.bool false, .int .i64 0, .int .i64 0] 96)) = W := ⟨_, rfl⟩
  have l0 : W.cell? ⟨w.heap.size, 0, none⟩ = some (.int .i64 L.least) := by rw [← hW]; simp [go_sem]
  have l1 : W.cell? ⟨w.heap.size, 1, none⟩ = some (.int .i64 L.most) := by rw [← hW]; simp [go_sem]
  have l2 : W.cell? ⟨w.heap.size, 2, none⟩ = some (.int .i64 L.past) := by rw [← hW]; simp [go_sem]
  have l3 : W.cell? ⟨w.heap.size, 3, none⟩ = some (.func (.func L.ko) #[] L.co) := by rw [← hW]; simp [go_sem]
  have l4 : W.cell? ⟨w.heap.size, 4, none⟩ = some (.func (.func L.kp) #[] L.cp) := by rw [← hW]; simp [go_sem]
  have l5 : W.cell? ⟨w.heap.size, 5, none⟩ = some (.func (.func L.k1) #[] L.c1) := by rw [← hW]; simp [go_sem]
  have l6 : W.cell? ⟨w.heap.size, 6, none⟩ = some (.func (.func L.kv) #[] L.cv) := by rw [← hW]; simp [go_sem]
  have l7 : W.cell? ⟨w.heap.size, 7, none⟩ = some (.func (.func L.kn) #[] L.cn) := by rw [← hW]; simp [go_sem]
  have l8 : W.cell? ⟨w.heap.size, 8, none⟩ = some (.func (.func L.ku) #[] L.cu) := by rw [← hW]; simp [go_sem]
  have l9 : W.cell? ⟨w.heap.size, 9, none⟩ = some (.func (.func L.kt) #[] L.ct) := by rw [← hW]; simp [go_sem]
  have l10 : W.cell? ⟨w.heap.size, 10, none⟩ = some (.func (.func L.kz) #[] L.cz) := by rw [← hW]; simp [go_sem]
  have a0 : W.cell? ⟨w.heap.size + 1, 0, none⟩ = some (.bool false) := by rw [← hW]; simp [go_sem]
  have a1 : W.cell? ⟨w.heap.size + 1, 1, none⟩ = some (.int .i64 a) := by rw [← hW]; simp [go_sem]
  have a2 : W.cell? ⟨w.heap.size + 1, 2, none⟩ = some (.int .i64 b) := by rw [← hW]; simp [go_sem]
  have b0 : W.cell? ⟨w.heap.size + 1 + 1, 0, none⟩ = some (.bool false) := by rw [← hW]; simp [go_sem]
  have b1 : W.cell? ⟨w.heap.size + 1 + 1, 1, none⟩ = some (.int .i64 c) := by rw [← hW]; simp [go_sem]
  have b2 : W.cell? ⟨w.heap.size + 1 + 1, 2, none⟩ = some (.int .i64 d) := by rw [← hW]; simp [go_sem]
  have r0 : W.cell? ⟨w.heap.size + 1 + 1 + 1, 0, none⟩ = some (.bool false) := by rw [← hW]; simp [go_sem]
  have r1 : W.cell? ⟨w.heap.size + 1 + 1 + 1, 1, none⟩ = some (.int .i64 0) := by rw [← hW]; simp [go_sem]
  have r2 : W.cell? ⟨w.heap.size + 1 + 1 + 1, 2, none⟩ = some (.int .i64 0) := by rw [← hW]; simp [go_sem]
  have okW : Below B w0 W := by rw [← hW]; exact (ok_new hB (ok_new hB (ok_new hB (ok_new hB ok _) _) _) _)
  have bW : Below w.heap.size w W := by rw [← hW]; exact (sp_new (sp_new (sp_new (sp_new (Below.refl _ _) _) _) _) _)
  have zW : W.heap.size = w.heap.size + 4 := by rw [← hW]; simp
  have fz : ∀ j, W.frozen? ⟨w.heap.size + 1 + 1 + 1, j, none⟩ = false := by intro j; rw [← hW]; simp [go_sem]
  rw [hW]
  clear hW
  with_reducible refine (hq _ okW).mono ?_
  rintro e v1 ⟨g1, kb, caps, rfl, eby, hby⟩
  replace fz := fun j => (g1.frozen (p := ⟨w.heap.size + 1 + 1 + 1, j, none⟩) (by simp; omega)).trans (fz j)
  have z1 := g1.size
  replace okW := ok_call hB okW g1
  replace bW := sp_call bW g1
  replace l0 := sO g1 l0; replace l1 := sO g1 l1; replace l2 := sO g1 l2; replace l3 := sO g1 l3; replace l4 := sO g1 l4; replace l5 := sO g1 l5; replace l6 := sO g1 l6; replace l7 := sO g1 l7; replace l8 := sO g1 l8; replace l9 := sO g1 l9; replace l10 := sO g1 l10; replace a0 := sO g1 a0; replace a1 := sO g1 a1; replace a2 := sO g1 a2; replace b0 := sO g1 b0; replace b1 := sO g1 b1; replace b2 := sO g1 b2; replace r0 := sO g1 r0; replace r1 := sO g1 r1; replace r2 := sO g1 r2
  have hn := fn_nil_i kb caps
  go_wp2_with fail
  go_region_held3 (fun w' => w'.cell? ⟨w.heap.size, 0, none⟩ = some (.int .i64 L.least) ∧ w'.cell? ⟨w.heap.size, 1, none⟩ = some (.int .i64 L.most) ∧ w'.cell? ⟨w.heap.size, 2, none⟩ = some (.int .i64 L.past) ∧ w'.cell? ⟨w.heap.size, 3, none⟩ = some (.func (.func L.ko) #[] L.co) ∧ w'.cell? ⟨w.heap.size, 4, none⟩ = some (.func (.func L.kp) #[] L.cp) ∧ w'.cell? ⟨w.heap.size, 5, none⟩ = some (.func (.func L.k1) #[] L.c1) ∧ w'.cell? ⟨w.heap.size, 6, none⟩ = some (.func (.func L.kv) #[] L.cv) ∧ w'.cell? ⟨w.heap.size, 7, none⟩ = some (.func (.func L.kn) #[] L.cn) ∧ w'.cell? ⟨w.heap.size, 8, none⟩ = some (.func (.func L.ku) #[] L.cu) ∧ w'.cell? ⟨w.heap.size, 9, none⟩ = some (.func (.func L.kt) #[] L.ct) ∧ w'.cell? ⟨w.heap.size, 10, none⟩ = some (.func (.func L.kz) #[] L.cz) ∧ w'.cell? ⟨w.heap.size + 1, 0, none⟩ = some (.bool false) ∧ w'.cell? ⟨w.heap.size + 1, 1, none⟩ = some (.int .i64 a) ∧ w'.cell? ⟨w.heap.size + 1, 2, none⟩ = some (.int .i64 b) ∧ w'.cell? ⟨w.heap.size + 1 + 1, 0, none⟩ = some (.bool false) ∧ w'.cell? ⟨w.heap.size + 1 + 1, 1, none⟩ = some (.int .i64 c) ∧ w'.cell? ⟨w.heap.size + 1 + 1, 2, none⟩ = some (.int .i64 d)) (first | exact ⟨l0, l1, l2, l3, l4, l5, l6, l7, l8, l9, l10, a0, a1, a2, b0, b1, b2⟩ | exact ⟨sO (sp_new (Below.refl _ _) _) l0, sO (sp_new (Below.refl _ _) _) l1, sO (sp_new (Below.refl _ _) _) l2, sO (sp_new (Below.refl _ _) _) l3, sO (sp_new (Below.refl _ _) _) l4, sO (sp_new (Below.refl _ _) _) l5, sO (sp_new (Below.refl _ _) _) l6, sO (sp_new (Below.refl _ _) _) l7, sO (sp_new (Below.refl _ _) _) l8, sO (sp_new (Below.refl _ _) _) l9, sO (sp_new (Below.refl _ _) _) l10, sO (sp_new (Below.refl _ _) _) a0, sO (sp_new (Below.refl _ _) _) a1, sO (sp_new (Below.refl _ _) _) a2, sO (sp_new (Below.refl _ _) _) b0, sO (sp_new (Below.refl _ _) _) b1, sO (sp_new (Below.refl _ _) _) b2⟩ | exact ⟨sp_keep3 l0 (by omega) _ _ _, sp_keep3 l1 (by omega) _ _ _, sp_keep3 l2 (by omega) _ _ _, sp_keep3 l3 (by omega) _ _ _, sp_keep3 l4 (by omega) _ _ _, sp_keep3 l5 (by omega) _ _ _, sp_keep3 l6 (by omega) _ _ _, sp_keep3 l7 (by omega) _ _ _, sp_keep3 l8 (by omega) _ _ _, sp_keep3 l9 (by omega) _ _ _, sp_keep3 l10 (by omega) _ _ _, sp_keep3 a0 (by omega) _ _ _, sp_keep3 a1 (by omega) _ _ _, sp_keep3 a2 (by omega) _ _ _, sp_keep3 b0 (by omega) _ _ _, sp_keep3 b1 (by omega) _ _ _, sp_keep3 b2 (by omega) _ _ _⟩)
    (first
      | (go_at_call 138; refine (he2 _ _ _ _ _ _ _ _ _).mono ?_; rintro e v2 ⟨p, rfl, f0, f1, f2, hp, g2⟩; have srow : SRowi v2 v1.heap.size [(false, c, d)] := srow_oni g2; have zb : v1.heap.size < v2.heap.size := lt_overi g2; replace g2 : Below v1.heap.size v1 v2 := below_overi g2; replace fz := fun j => (g2.frozen (p := ⟨w.heap.size + 1 + 1 + 1, j, none⟩) (by simp; omega)).trans (fz j); have z2 := g2.size; replace okW := ok_call hB okW g2; replace bW := sp_call bW g2; replace l0 := sO g2 l0; replace l1 := sO g2 l1; replace l2 := sO g2 l2; replace l3 := sO g2 l3; replace l4 := sO g2 l4; replace l5 := sO g2 l5; replace l6 := sO g2 l6; replace l7 := sO g2 l7; replace l8 := sO g2 l8; replace l9 := sO g2 l9; replace l10 := sO g2 l10; replace a0 := sO g2 a0; replace a1 := sO g2 a1; replace a2 := sO g2 a2; replace b0 := sO g2 b0; replace b1 := sO g2 b1; replace b2 := sO g2 b2; replace r0 := sO g2 r0; replace r1 := sO g2 r1; replace r2 := sO g2 r2)
      | (go_at_call 53; refine (htold _ _ _ (by first | exact okW | exact okW.drew) (enters_of Tryz.func200 (by kernel_rfl) rfl) (fun S W0 hW hSS => feeds2_i (ls := [(false, c, d)]) f0 f1 f2 srow (by simp) hp zb eby hby hok g2 ⟨hW.os, hW.tape, hW.output, hW.size, hW.block⟩ hSS)).mono ?_; rintro e v3 ⟨rfl, g3⟩; replace g3 : Below v2.heap.size v2 v3 := ⟨g3.os, g3.tape, g3.output, g3.size, g3.block⟩; replace fz := fun j => (g3.frozen (p := ⟨w.heap.size + 1 + 1 + 1, j, none⟩) (by simp; omega)).trans (fz j); have z3 := g3.size; replace bW := sp_call bW g3; replace l0 := sO g3 l0; replace l1 := sO g3 l1; replace l2 := sO g3 l2; replace l3 := sO g3 l3; replace l4 := sO g3 l4; replace l5 := sO g3 l5; replace l6 := sO g3 l6; replace l7 := sO g3 l7; replace l8 := sO g3 l8; replace l9 := sO g3 l9; replace l10 := sO g3 l10; replace a0 := sO g3 a0; replace a1 := sO g3 a1; replace a2 := sO g3 a2; replace b0 := sO g3 b0; replace b1 := sO g3 b1; replace b2 := sO g3 b2; replace r0 := sO g3 r0; replace r1 := sO g3 r1; replace r2 := sO g3 r2)
      | fail)
  all_goals go_wp2
  all_goals exact bodyPost_ret (v := .tuple #[.agg #[.bool me, .int .i64 mlo, .int .i64 mhi], .int .i64 TR]) (by simp [results, Tryz.results64, go_sem, r0, r1, r2]) rfl ⟨rfl, sp_set3 bW (by omega) _ _ _⟩
end Go.Proofs.YtgdknlnpfnifiaaGreat

