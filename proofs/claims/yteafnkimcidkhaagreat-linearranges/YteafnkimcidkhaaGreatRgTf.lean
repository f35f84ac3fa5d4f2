/- span's told on a line: of what an iterator hands out, from the least to the greatest, clipped, and the trap. -/
import Derived.Test.YteafnkimcidkhaaGreatSpJf
import Derived.Test.YteafnkimcidkhaaGreatSpP
namespace Go.Proofs.YteafnkimcidkhaaGreat
open Go.RowKit Go.Shelf
set_option linter.unusedVariables false
set_option linter.unusedSimpArgs false
attribute [local go_sem] Oper.semAt_some
/-- Between two rounds: what has come so far. -/
structure TIf (A : Ways) (L : Ln) (T : Int) (p : Nat) (W0 : World) (pre : List Int) (V : World) : Prop where
  c0 : V.cell? ⟨p, 0, none⟩ = some (.bool (hullP A pre).1)
  c1 : V.cell? ⟨p, 1, none⟩ = some (.int .u64 (hullP A pre).2.1)
  c2 : V.cell? ⟨p, 2, none⟩ = some (.int .u64 (hullP A pre).2.2)
  ct : V.cell? ⟨p + 1, 0, none⟩ = some (.int .i64 (trapP A L T pre))
  fp : ∀ j, V.frozen? ⟨p, j, none⟩ = false
  ft : V.frozen? ⟨p + 1, 0, none⟩ = false
  but : But (fun k => k = p ∨ k = p + 1) W0 V
theorem TIf.stable {A : Ways} {L : Ln} {T : Int} {p : Nat} {W0 : World} {n : Nat} (hp : p + 1 < n) (hn : W0.heap.size ≤ n) : Stable n (TIf A L T p W0) := fun pre V V' h hb =>
  ⟨(hb.cell (p := ⟨p, 0, none⟩) (by simp; omega)).trans h.c0, (hb.cell (p := ⟨p, 1, none⟩) (by simp; omega)).trans h.c1, (hb.cell (p := ⟨p, 2, none⟩) (by simp; omega)).trans h.c2, (hb.cell (p := ⟨p + 1, 0, none⟩) (by simp; omega)).trans h.ct,
    fun j => (hb.frozen (p := ⟨p, j, none⟩) (by simp; omega)).trans (h.fp j), (hb.frozen (p := ⟨p + 1, 0, none⟩) (by simp; omega)).trans h.ft, stable_but (β := Unit) hn () V V' h.but hb⟩
theorem TIf.next {A : Ways} {L : Ln} {T : Int} {p : Nat} {W0 V : World} {pre : List Int} {u0 u1 u2 : Value} {t : Int} {je : Bool} {jl jh : Int} (h0 : V.cell? ⟨p, 0, none⟩ = some u0) (h1 : V.cell? ⟨p, 1, none⟩ = some u1) (h2 : V.cell? ⟨p, 2, none⟩ = some u2)
    (ht : V.cell? ⟨p + 1, 0, none⟩ = some (.int .i64 t)) (fp : ∀ j, V.frozen? ⟨p, j, none⟩ = false) (ft : V.frozen? ⟨p + 1, 0, none⟩ = false) (hb : But (fun k => k = p ∨ k = p + 1) W0 V) (e1 : hullP A pre = (je, jl, jh)) (e2 : trapP A L T pre = t) :
    TIf A L T p W0 pre (((V.setCell ⟨p, 0, none⟩ (.bool je)).setCell ⟨p, 1, none⟩ (.int .u64 jl)).setCell ⟨p, 2, none⟩ (.int .u64 jh)) := by
  refine ⟨?_, ?_, ?_, ?_, ?_, ?_, ((hb.set (.inl rfl) _).set (.inl rfl) _).set (.inl rfl) _⟩
  · rw [e1]; simp [go_sem, h0, h1, h2]
  · rw [e1]; simp [go_sem, h0, h1, h2]
  · rw [e1]; simp [go_sem, h0, h1, h2]
  · rw [e2]; exact sp_keep3 ht (by omega) _ _ _
  · intro j; simp [go_sem, fp]
  · simp [go_sem, ft]
set_option maxRecDepth 100000 in
set_option maxHeartbeats 4000000 in
theorem told_f {L : Ln} {A : Ways} {B : Nat} {w0 : World} (H : Actsf L A B w0) (T : Int) (hT : ∀ w, Calls Tryz.prog 148 #[.int .i64 L.past] w fun e w' => e = .returned (.int .i64 T) ∧ w' = w) (gf : Nat) (lb : Array Value) (xs : List Int) (d0 : A.dom 0) (dl : A.dom L.least) (dm : A.dom L.most) (hx : ∀ x ∈ xs, A.dom x ∧ A.dom (A.pl x)) (w : World) (ok : Below B w0 w)
    (eg : ∀ args w, (callFunc gf args).run Tryz.prog w = .ok (.enter gf args) w)
    (hseq : ∀ S W0, Below w.heap.size w W0 → (∀ k, S k → w.heap.size ≤ k ∧ k < W0.heap.size) → Feeds Tryz.prog gf lb (fun x : Int => #[Value.int .u64 x]) S xs W0) :
    Calls Tryz.prog 155 #[.agg (lvf L), .func (.func gf) #[] lb] w fun e w' => e = .returned (.tuple #[sVf (meetP A (hullP A xs) (false, L.least, L.most)), .int .i64 (trapP A L T xs)]) ∧ Below w.heap.size w w' := by
  have hB := H.hB
  have hnone := none_f
  obtain ⟨R, HR⟩ : ∃ R, Hid (R = sVf (meetP A (hullP A xs) (false, L.least, L.most))) := ⟨_, rfl⟩
  obtain ⟨TR, HTR⟩ : ∃ t, Hid (t = trapP A L T xs) := ⟨_, rfl⟩
  rw [← HR.out, ← HTR.out]
  refine (callsIn_wide (n := 3)).1 ?_
  refine callsIn_of_wp_marks Tryz.func155 rfl trivial ?_ rfl
  unfold lvf
  simp only [Tryz.ntmps155, List.size_toArray, List.length_cons, List.length_nil, Nat.reduceAdd, Nat.reduceSub, Array.replicate_succ, Array.replicate_zero, List.push_toArray, List.append_toArray, List.nil_append, List.cons_append]
  gi_wp2_with (refine ⟨trivial, ?_⟩; gi_at_call 150; refine (callsIn_wide.2 (hnone _)).mono ?_; rintro e w1 ⟨rfl, g1⟩)
  obtain ⟨W0, hW0⟩ : ∃ W0, (w1.alloc (.cells #[.bool true, .int .u64 0, .int .u64 0] 126)).alloc (.cells #[.int .i64 0] 84) = W0 := ⟨_, rfl⟩
  have z1 := g1.size
  simp only [World.size_alloc] at z1
  have gW : Below w1.heap.size w1 W0 := by rw [← hW0]; exact sp_new (sp_new (Below.refl _ _) _) _
  have z0 : W0.heap.size = w1.heap.size + 2 := by rw [← hW0]; simp
  have l0 := sp_cell_on gW (sp_cell_on g1 (show World.cell? _ ⟨w.heap.size, 0, none⟩ = some (.int .u64 L.least) by simp [go_sem]))
  have l1 := sp_cell_on gW (sp_cell_on g1 (show World.cell? _ ⟨w.heap.size, 1, none⟩ = some (.int .u64 L.most) by simp [go_sem]))
  have l2 := sp_cell_on gW (sp_cell_on g1 (show World.cell? _ ⟨w.heap.size, 2, none⟩ = some (.int .i64 L.past) by simp [go_sem]))
  have l3 := sp_cell_on gW (sp_cell_on g1 (show World.cell? _ ⟨w.heap.size, 3, none⟩ = some (.func (.func L.ko) #[] L.co) by simp [go_sem]))
  have l4 := sp_cell_on gW (sp_cell_on g1 (show World.cell? _ ⟨w.heap.size, 4, none⟩ = some (.func (.func L.kp) #[] L.cp) by simp [go_sem]))
  have l5 := sp_cell_on gW (sp_cell_on g1 (show World.cell? _ ⟨w.heap.size, 5, none⟩ = some (.func (.func L.k1) #[] L.c1) by simp [go_sem]))
  have l6 := sp_cell_on gW (sp_cell_on g1 (show World.cell? _ ⟨w.heap.size, 6, none⟩ = some (.func (.func L.kv) #[] L.cv) by simp [go_sem]))
  have l7 := sp_cell_on gW (sp_cell_on g1 (show World.cell? _ ⟨w.heap.size, 7, none⟩ = some (.func (.func L.kn) #[] L.cn) by simp [go_sem]))
  have l8 := sp_cell_on gW (sp_cell_on g1 (show World.cell? _ ⟨w.heap.size, 8, none⟩ = some (.func (.func L.ku) #[] L.cu) by simp [go_sem]))
  have l9 := sp_cell_on gW (sp_cell_on g1 (show World.cell? _ ⟨w.heap.size, 9, none⟩ = some (.func (.func L.kt) #[] L.ct) by simp [go_sem]))
  have l10 := sp_cell_on gW (sp_cell_on g1 (show World.cell? _ ⟨w.heap.size, 10, none⟩ = some (.func (.func L.kz) #[] L.cz) by simp [go_sem]))
  have r0 := sp_cell_on gW (sp_cell_on g1 (show World.cell? _ ⟨w.heap.size + 1, 0, none⟩ = some (.bool false) by simp [go_sem]))
  have r1 := sp_cell_on gW (sp_cell_on g1 (show World.cell? _ ⟨w.heap.size + 1, 1, none⟩ = some (.int .u64 0) by simp [go_sem]))
  have r2 := sp_cell_on gW (sp_cell_on g1 (show World.cell? _ ⟨w.heap.size + 1, 2, none⟩ = some (.int .u64 0) by simp [go_sem]))
  have rz : ∀ j, W0.frozen? ⟨w.heap.size + 1, j, none⟩ = false := fun j => (gW.frozen (p := ⟨w.heap.size + 1, j, none⟩) (by simp; omega)).trans ((g1.frozen (p := ⟨w.heap.size + 1, j, none⟩) (by simp)).trans (by simp [go_sem]))
  have hI0 : TIf A L T w1.heap.size W0 [] W0 := by
    refine ⟨?_, ?_, ?_, ?_, ?_, ?_, But.refl _ _⟩
    · rw [← hW0]; simp [go_sem, hullP]
    · rw [← hW0]; simp [go_sem, hullP]
    · rw [← hW0]; simp [go_sem, hullP]
    · rw [← hW0]; simp [go_sem, trapP]
    · intro j; rw [← hW0]; simp [go_sem]
    · rw [← hW0]; simp [go_sem]
  have bW : Below w.heap.size w W0 := sp_call (sp_call (sp_new (sp_new (Below.refl _ _) _) _) g1) gW
  have okW : Below B w0 W0 := ok_call hB (ok_call hB (ok_new hB (ok_new hB ok _) _) g1) gW
  rw [hW0]
  clear hW0 g1 gW
  have pz : w.heap.size + 1 < w1.heap.size := by omega
  generalize w1.heap.size = p at *
  have hS : ∀ k, (k = p ∨ k = p + 1) → w.heap.size ≤ k ∧ k < W0.heap.size := fun k hk => by omega
  refine feed_out (n := 3) rfl eg (hseq (fun k => k = p ∨ k = p + 1) W0 bW hS) (fun _ => rfl) (fun k hk => (hS k hk).2) (TIf A L T p W0) (TIf.stable (by omega) (Nat.le_refl _)) hI0
    (fun l0 x a' V => a' = { tmps := #[.agg #[.int .u64 L.least, .int .u64 L.most, .int .i64 L.past, .func (.func L.ko) #[] L.co, .func (.func L.kp) #[] L.cp, .func (.func L.k1) #[] L.c1, .func (.func L.kv) #[] L.cv, .func (.func L.kn) #[] L.cn, .func (.func L.ku) #[] L.cu, .func (.func L.kt) #[] L.ct, .func (.func L.kz) #[] L.cz], .func (.func gf) #[] lb, .pointer (some ⟨w.heap.size, 0, none⟩), undef, .pointer (some ⟨w.heap.size + 1, 0, none⟩), .int .i64 0, .pointer (some ⟨p, 0, none⟩), .pointer (some ⟨p + 1, 0, none⟩), .int .u64 x, .agg #[.bool true, .int .u64 0, .int .u64 0], .func (.func gf) #[] lb, .int .u64 x, undef, undef, undef, undef, undef, undef, undef, undef, undef, undef, undef, undef, undef, undef, undef, undef, undef, undef, undef, undef, undef, undef, undef, undef, undef, undef, undef, undef, undef, undef, undef, undef, undef, undef, undef], defers := [] })
    (fun l0 x a' X Y h ho => h) ?assign ?body ?done
  case assign =>
    rintro m li pre x V K hl0 ll0 hpre hI hK
    gi_wp2
    exact hK _ _ (But.refl _ _) hI rfl
  case body =>
    rintro m li pre x a' V hl0 hrec hpre hI rfl
    obtain ⟨c0, c1, c2, ct, fp, ft, hb⟩ := hI
    have mem : x ∈ xs := List.IsPrefix.subset hpre (by simp)
    obtain ⟨dx, dpx⟩ := hx x mem
    have hd := hullP_dom d0 pre (fun y hy => (hx y (List.IsPrefix.subset hpre (by simp [hy]))).2)
    have hj := fun V ok => join_f H (hullP A pre).1 false (hullP A pre).2.1 (hullP A pre).2.2 (A.pl x) (A.pl x) hd.1 hd.2 dpx dpx V ok
    have hpl := fun V ok => H.pl x V dx ok
    have ho1 := fun V ok => H.ord (A.pl x) L.least V dpx dl ok
    have ho2 := fun V ok => H.ord (A.pl x) L.most V dpx dm ok
    have eo := H.eo
    have ep := H.ep
    have okV : Below B w0 V := okW.trans (hb.below (Nat.le_trans hB okW.size) (fun k hk => Nat.le_trans (Nat.le_trans hB ok.size) (hS k hk).1))
    have nSl : ∀ k, k < p → ¬ (k = p ∨ k = p + 1) := fun k hk => by omega
    replace l0 := hb.cell (nSl _ (by simp; omega)) l0
    replace l1 := hb.cell (nSl _ (by simp; omega)) l1
    replace l2 := hb.cell (nSl _ (by simp; omega)) l2
    replace l3 := hb.cell (nSl _ (by simp; omega)) l3
    replace l4 := hb.cell (nSl _ (by simp; omega)) l4
    replace l5 := hb.cell (nSl _ (by simp; omega)) l5
    replace l6 := hb.cell (nSl _ (by simp; omega)) l6
    replace l7 := hb.cell (nSl _ (by simp; omega)) l7
    replace l8 := hb.cell (nSl _ (by simp; omega)) l8
    replace l9 := hb.cell (nSl _ (by simp; omega)) l9
    replace l10 := hb.cell (nSl _ (by simp; omega)) l10
    have bs : But (fun k => k = p ∨ k = p + 1) V V := But.refl _ _
    have E1 := hullP_snoc A pre x
    have E2 := trapP_snoc A L T pre x
    clear hd hpre mem hI0 hseq hrec
    generalize hullP A pre = hh at *
    obtain ⟨he, hlo, hhi⟩ := hh
    generalize trapP A L T pre = tr at *
    generalize joinP A (he, hlo, hhi) (false, A.pl x, A.pl x) = jr at *
    obtain ⟨je, jlo, jhi⟩ := jr
    unfold pastP at E2
    generalize A.pl x = px at *
    generalize A.ord px L.least = o1 at *
    generalize A.ord px L.most = o2 at *
    unfold sVf lvf at hj
    dsimp only at hj c0 c1 c2
    replace E1 : Hid _ := E1
    replace E2 : Hid _ := E2
    have Bp : B ≤ p := Nat.le_trans (Nat.le_trans hB ok.size) (by omega)
    by_cases q1 : o1 < 0
    · gi_wp2_with (first
      | (refine ⟨trivial, (fun h => by cases h), ?_⟩; with_reducible refine (CallsIn.inRound li (callsIn_wide.2 (hpl _ okV))).mono ?_; rintro e V1 ⟨rfl, g⟩; replace fp := fun j => (g.frozen (p := ⟨p, j, none⟩) (World.block_lt_of_cell? _ ⟨p, 0, none⟩ c0)).trans (fp j); replace ft := (g.frozen (p := ⟨p + 1, 0, none⟩) (World.block_lt_of_cell? _ ⟨p + 1, 0, none⟩ ct)).trans ft; replace l0 := sp_cell_on g l0; replace l1 := sp_cell_on g l1; replace l2 := sp_cell_on g l2; replace l3 := sp_cell_on g l3; replace l4 := sp_cell_on g l4; replace l5 := sp_cell_on g l5; replace l6 := sp_cell_on g l6; replace l7 := sp_cell_on g l7; replace l8 := sp_cell_on g l8; replace l9 := sp_cell_on g l9; replace l10 := sp_cell_on g l10; replace c0 := sp_cell_on g c0; replace c1 := sp_cell_on g c1; replace c2 := sp_cell_on g c2; replace ct := sp_cell_on g ct; replace hb := hb.call g; replace bs := bs.call g; replace okV := ok_call hB okV g; clear g; clear hpl)
      | (refine ⟨trivial, (fun h => by cases h), ?_⟩; with_reducible refine (CallsIn.inRound li (callsIn_wide.2 (ho1 _ okV))).mono ?_; rintro e V2 ⟨rfl, g⟩; replace fp := fun j => (g.frozen (p := ⟨p, j, none⟩) (World.block_lt_of_cell? _ ⟨p, 0, none⟩ c0)).trans (fp j); replace ft := (g.frozen (p := ⟨p + 1, 0, none⟩) (World.block_lt_of_cell? _ ⟨p + 1, 0, none⟩ ct)).trans ft; replace l0 := sp_cell_on g l0; replace l1 := sp_cell_on g l1; replace l2 := sp_cell_on g l2; replace l3 := sp_cell_on g l3; replace l4 := sp_cell_on g l4; replace l5 := sp_cell_on g l5; replace l6 := sp_cell_on g l6; replace l7 := sp_cell_on g l7; replace l8 := sp_cell_on g l8; replace l9 := sp_cell_on g l9; replace l10 := sp_cell_on g l10; replace c0 := sp_cell_on g c0; replace c1 := sp_cell_on g c1; replace c2 := sp_cell_on g c2; replace ct := sp_cell_on g ct; replace hb := hb.call g; replace bs := bs.call g; replace okV := ok_call hB okV g; clear g; clear ho1)
      | (refine ⟨trivial, (fun h => by cases h), ?_⟩; with_reducible refine (CallsIn.inRound li (callsIn_wide.2 (ho2 _ okV))).mono ?_; rintro e V3 ⟨rfl, g⟩; replace fp := fun j => (g.frozen (p := ⟨p, j, none⟩) (World.block_lt_of_cell? _ ⟨p, 0, none⟩ c0)).trans (fp j); replace ft := (g.frozen (p := ⟨p + 1, 0, none⟩) (World.block_lt_of_cell? _ ⟨p + 1, 0, none⟩ ct)).trans ft; replace l0 := sp_cell_on g l0; replace l1 := sp_cell_on g l1; replace l2 := sp_cell_on g l2; replace l3 := sp_cell_on g l3; replace l4 := sp_cell_on g l4; replace l5 := sp_cell_on g l5; replace l6 := sp_cell_on g l6; replace l7 := sp_cell_on g l7; replace l8 := sp_cell_on g l8; replace l9 := sp_cell_on g l9; replace l10 := sp_cell_on g l10; replace c0 := sp_cell_on g c0; replace c1 := sp_cell_on g c1; replace c2 := sp_cell_on g c2; replace ct := sp_cell_on g ct; replace hb := hb.call g; replace bs := bs.call g; replace okV := ok_call hB okV g; clear g; clear ho2)
      | (refine ⟨trivial, (fun h => by cases h), ?_⟩; gi_at_call 148; refine (CallsIn.inRound li (callsIn_wide.2 (hT _))).mono ?_; rintro e V4 ⟨rfl, hv⟩; rw [hv]; clear hv V4)
      | (refine ⟨trivial, (fun h => by cases h), ?_⟩; gi_at_call 192; refine (CallsIn.inRound li (callsIn_wide.2 (hj _ (okV.setCell (p := ⟨p + 1, 0, none⟩) (show B ≤ p + 1 by omega) _)))).mono ?_; rintro e V5 ⟨rfl, g⟩; have k0 := sp_keep1 (k := 0) c0 (show p ≠ p + 1 by omega) (.int .i64 T); have k1 := sp_keep1 (k := 0) c1 (show p ≠ p + 1 by omega) (.int .i64 T); have k2 := sp_keep1 (k := 0) c2 (show p ≠ p + 1 by omega) (.int .i64 T); have kt := World.cell?_setCell_same _ _ (.int .i64 T) ct; have kp := fun j => (World.frozen?_setCell _ ⟨p + 1, 0, none⟩ ⟨p, j, none⟩ (.int .i64 T)).trans (fp j); have kq := (World.frozen?_setCell _ ⟨p + 1, 0, none⟩ ⟨p + 1, 0, none⟩ (.int .i64 T)).trans ft; replace fp := fun j => (g.frozen (p := ⟨p, j, none⟩) (World.block_lt_of_cell? _ ⟨p, 0, none⟩ k0)).trans (kp j); replace ft := (g.frozen (p := ⟨p + 1, 0, none⟩) (World.block_lt_of_cell? _ ⟨p + 1, 0, none⟩ kt)).trans kq; clear kp kq; replace k0 := sp_cell_on g k0; replace k1 := sp_cell_on g k1; replace k2 := sp_cell_on g k2; replace kt := sp_cell_on g kt; replace hb := (hb.set (a := ⟨p + 1, 0, none⟩) (.inr rfl) (.int .i64 T)).call g; replace bs := (bs.set (a := ⟨p + 1, 0, none⟩) (.inr rfl) (.int .i64 T)).call g; clear g)
      | fail)
      refine ⟨fun _ h => (by cases h), ?_⟩
      gi_wp2_with (first
      | (refine ⟨trivial, (fun h => by cases h), ?_⟩; with_reducible refine (CallsIn.inRound li (callsIn_wide.2 (hpl _ okV))).mono ?_; rintro e V1 ⟨rfl, g⟩; replace fp := fun j => (g.frozen (p := ⟨p, j, none⟩) (World.block_lt_of_cell? _ ⟨p, 0, none⟩ c0)).trans (fp j); replace ft := (g.frozen (p := ⟨p + 1, 0, none⟩) (World.block_lt_of_cell? _ ⟨p + 1, 0, none⟩ ct)).trans ft; replace l0 := sp_cell_on g l0; replace l1 := sp_cell_on g l1; replace l2 := sp_cell_on g l2; replace l3 := sp_cell_on g l3; replace l4 := sp_cell_on g l4; replace l5 := sp_cell_on g l5; replace l6 := sp_cell_on g l6; replace l7 := sp_cell_on g l7; replace l8 := sp_cell_on g l8; replace l9 := sp_cell_on g l9; replace l10 := sp_cell_on g l10; replace c0 := sp_cell_on g c0; replace c1 := sp_cell_on g c1; replace c2 := sp_cell_on g c2; replace ct := sp_cell_on g ct; replace hb := hb.call g; replace bs := bs.call g; replace okV := ok_call hB okV g; clear g; clear hpl)
      | (refine ⟨trivial, (fun h => by cases h), ?_⟩; with_reducible refine (CallsIn.inRound li (callsIn_wide.2 (ho1 _ okV))).mono ?_; rintro e V2 ⟨rfl, g⟩; replace fp := fun j => (g.frozen (p := ⟨p, j, none⟩) (World.block_lt_of_cell? _ ⟨p, 0, none⟩ c0)).trans (fp j); replace ft := (g.frozen (p := ⟨p + 1, 0, none⟩) (World.block_lt_of_cell? _ ⟨p + 1, 0, none⟩ ct)).trans ft; replace l0 := sp_cell_on g l0; replace l1 := sp_cell_on g l1; replace l2 := sp_cell_on g l2; replace l3 := sp_cell_on g l3; replace l4 := sp_cell_on g l4; replace l5 := sp_cell_on g l5; replace l6 := sp_cell_on g l6; replace l7 := sp_cell_on g l7; replace l8 := sp_cell_on g l8; replace l9 := sp_cell_on g l9; replace l10 := sp_cell_on g l10; replace c0 := sp_cell_on g c0; replace c1 := sp_cell_on g c1; replace c2 := sp_cell_on g c2; replace ct := sp_cell_on g ct; replace hb := hb.call g; replace bs := bs.call g; replace okV := ok_call hB okV g; clear g; clear ho1)
      | (refine ⟨trivial, (fun h => by cases h), ?_⟩; with_reducible refine (CallsIn.inRound li (callsIn_wide.2 (ho2 _ okV))).mono ?_; rintro e V3 ⟨rfl, g⟩; replace fp := fun j => (g.frozen (p := ⟨p, j, none⟩) (World.block_lt_of_cell? _ ⟨p, 0, none⟩ c0)).trans (fp j); replace ft := (g.frozen (p := ⟨p + 1, 0, none⟩) (World.block_lt_of_cell? _ ⟨p + 1, 0, none⟩ ct)).trans ft; replace l0 := sp_cell_on g l0; replace l1 := sp_cell_on g l1; replace l2 := sp_cell_on g l2; replace l3 := sp_cell_on g l3; replace l4 := sp_cell_on g l4; replace l5 := sp_cell_on g l5; replace l6 := sp_cell_on g l6; replace l7 := sp_cell_on g l7; replace l8 := sp_cell_on g l8; replace l9 := sp_cell_on g l9; replace l10 := sp_cell_on g l10; replace c0 := sp_cell_on g c0; replace c1 := sp_cell_on g c1; replace c2 := sp_cell_on g c2; replace ct := sp_cell_on g ct; replace hb := hb.call g; replace bs := bs.call g; replace okV := ok_call hB okV g; clear g; clear ho2)
      | (refine ⟨trivial, (fun h => by cases h), ?_⟩; gi_at_call 148; refine (CallsIn.inRound li (callsIn_wide.2 (hT _))).mono ?_; rintro e V4 ⟨rfl, hv⟩; rw [hv]; clear hv V4)
      | (refine ⟨trivial, (fun h => by cases h), ?_⟩; gi_at_call 192; refine (CallsIn.inRound li (callsIn_wide.2 (hj _ (okV.setCell (p := ⟨p + 1, 0, none⟩) (show B ≤ p + 1 by omega) _)))).mono ?_; rintro e V5 ⟨rfl, g⟩; have k0 := sp_keep1 (k := 0) c0 (show p ≠ p + 1 by omega) (.int .i64 T); have k1 := sp_keep1 (k := 0) c1 (show p ≠ p + 1 by omega) (.int .i64 T); have k2 := sp_keep1 (k := 0) c2 (show p ≠ p + 1 by omega) (.int .i64 T); have kt := World.cell?_setCell_same _ _ (.int .i64 T) ct; have kp := fun j => (World.frozen?_setCell _ ⟨p + 1, 0, none⟩ ⟨p, j, none⟩ (.int .i64 T)).trans (fp j); have kq := (World.frozen?_setCell _ ⟨p + 1, 0, none⟩ ⟨p + 1, 0, none⟩ (.int .i64 T)).trans ft; replace fp := fun j => (g.frozen (p := ⟨p, j, none⟩) (World.block_lt_of_cell? _ ⟨p, 0, none⟩ k0)).trans (kp j); replace ft := (g.frozen (p := ⟨p + 1, 0, none⟩) (World.block_lt_of_cell? _ ⟨p + 1, 0, none⟩ kt)).trans kq; clear kp kq; replace k0 := sp_cell_on g k0; replace k1 := sp_cell_on g k1; replace k2 := sp_cell_on g k2; replace kt := sp_cell_on g kt; replace hb := (hb.set (a := ⟨p + 1, 0, none⟩) (.inr rfl) (.int .i64 T)).call g; replace bs := (bs.set (a := ⟨p + 1, 0, none⟩) (.inr rfl) (.int .i64 T)).call g; clear g)
      | fail)
      exact ⟨((bs.set (a := ⟨p, 0, none⟩) (.inl rfl) _).set (a := ⟨p, 1, none⟩) (.inl rfl) _).set (a := ⟨p, 2, none⟩) (.inl rfl) _, TIf.next k0 k1 k2 kt fp ft hb E1.out (by rw [E2.out]; simp [q1])⟩
    · by_cases q2 : 0 < o2
      · gi_wp2_with (first
      | (refine ⟨trivial, (fun h => by cases h), ?_⟩; with_reducible refine (CallsIn.inRound li (callsIn_wide.2 (hpl _ okV))).mono ?_; rintro e V1 ⟨rfl, g⟩; replace fp := fun j => (g.frozen (p := ⟨p, j, none⟩) (World.block_lt_of_cell? _ ⟨p, 0, none⟩ c0)).trans (fp j); replace ft := (g.frozen (p := ⟨p + 1, 0, none⟩) (World.block_lt_of_cell? _ ⟨p + 1, 0, none⟩ ct)).trans ft; replace l0 := sp_cell_on g l0; replace l1 := sp_cell_on g l1; replace l2 := sp_cell_on g l2; replace l3 := sp_cell_on g l3; replace l4 := sp_cell_on g l4; replace l5 := sp_cell_on g l5; replace l6 := sp_cell_on g l6; replace l7 := sp_cell_on g l7; replace l8 := sp_cell_on g l8; replace l9 := sp_cell_on g l9; replace l10 := sp_cell_on g l10; replace c0 := sp_cell_on g c0; replace c1 := sp_cell_on g c1; replace c2 := sp_cell_on g c2; replace ct := sp_cell_on g ct; replace hb := hb.call g; replace bs := bs.call g; replace okV := ok_call hB okV g; clear g; clear hpl)
      | (refine ⟨trivial, (fun h => by cases h), ?_⟩; with_reducible refine (CallsIn.inRound li (callsIn_wide.2 (ho1 _ okV))).mono ?_; rintro e V2 ⟨rfl, g⟩; replace fp := fun j => (g.frozen (p := ⟨p, j, none⟩) (World.block_lt_of_cell? _ ⟨p, 0, none⟩ c0)).trans (fp j); replace ft := (g.frozen (p := ⟨p + 1, 0, none⟩) (World.block_lt_of_cell? _ ⟨p + 1, 0, none⟩ ct)).trans ft; replace l0 := sp_cell_on g l0; replace l1 := sp_cell_on g l1; replace l2 := sp_cell_on g l2; replace l3 := sp_cell_on g l3; replace l4 := sp_cell_on g l4; replace l5 := sp_cell_on g l5; replace l6 := sp_cell_on g l6; replace l7 := sp_cell_on g l7; replace l8 := sp_cell_on g l8; replace l9 := sp_cell_on g l9; replace l10 := sp_cell_on g l10; replace c0 := sp_cell_on g c0; replace c1 := sp_cell_on g c1; replace c2 := sp_cell_on g c2; replace ct := sp_cell_on g ct; replace hb := hb.call g; replace bs := bs.call g; replace okV := ok_call hB okV g; clear g; clear ho1)
      | (refine ⟨trivial, (fun h => by cases h), ?_⟩; with_reducible refine (CallsIn.inRound li (callsIn_wide.2 (ho2 _ okV))).mono ?_; rintro e V3 ⟨rfl, g⟩; replace fp := fun j => (g.frozen (p := ⟨p, j, none⟩) (World.block_lt_of_cell? _ ⟨p, 0, none⟩ c0)).trans (fp j); replace ft := (g.frozen (p := ⟨p + 1, 0, none⟩) (World.block_lt_of_cell? _ ⟨p + 1, 0, none⟩ ct)).trans ft; replace l0 := sp_cell_on g l0; replace l1 := sp_cell_on g l1; replace l2 := sp_cell_on g l2; replace l3 := sp_cell_on g l3; replace l4 := sp_cell_on g l4; replace l5 := sp_cell_on g l5; replace l6 := sp_cell_on g l6; replace l7 := sp_cell_on g l7; replace l8 := sp_cell_on g l8; replace l9 := sp_cell_on g l9; replace l10 := sp_cell_on g l10; replace c0 := sp_cell_on g c0; replace c1 := sp_cell_on g c1; replace c2 := sp_cell_on g c2; replace ct := sp_cell_on g ct; replace hb := hb.call g; replace bs := bs.call g; replace okV := ok_call hB okV g; clear g; clear ho2)
      | (refine ⟨trivial, (fun h => by cases h), ?_⟩; gi_at_call 148; refine (CallsIn.inRound li (callsIn_wide.2 (hT _))).mono ?_; rintro e V4 ⟨rfl, hv⟩; rw [hv]; clear hv V4)
      | (refine ⟨trivial, (fun h => by cases h), ?_⟩; gi_at_call 192; refine (CallsIn.inRound li (callsIn_wide.2 (hj _ (okV.setCell (p := ⟨p + 1, 0, none⟩) (show B ≤ p + 1 by omega) _)))).mono ?_; rintro e V5 ⟨rfl, g⟩; have k0 := sp_keep1 (k := 0) c0 (show p ≠ p + 1 by omega) (.int .i64 T); have k1 := sp_keep1 (k := 0) c1 (show p ≠ p + 1 by omega) (.int .i64 T); have k2 := sp_keep1 (k := 0) c2 (show p ≠ p + 1 by omega) (.int .i64 T); have kt := World.cell?_setCell_same _ _ (.int .i64 T) ct; have kp := fun j => (World.frozen?_setCell _ ⟨p + 1, 0, none⟩ ⟨p, j, none⟩ (.int .i64 T)).trans (fp j); have kq := (World.frozen?_setCell _ ⟨p + 1, 0, none⟩ ⟨p + 1, 0, none⟩ (.int .i64 T)).trans ft; replace fp := fun j => (g.frozen (p := ⟨p, j, none⟩) (World.block_lt_of_cell? _ ⟨p, 0, none⟩ k0)).trans (kp j); replace ft := (g.frozen (p := ⟨p + 1, 0, none⟩) (World.block_lt_of_cell? _ ⟨p + 1, 0, none⟩ kt)).trans kq; clear kp kq; replace k0 := sp_cell_on g k0; replace k1 := sp_cell_on g k1; replace k2 := sp_cell_on g k2; replace kt := sp_cell_on g kt; replace hb := (hb.set (a := ⟨p + 1, 0, none⟩) (.inr rfl) (.int .i64 T)).call g; replace bs := (bs.set (a := ⟨p + 1, 0, none⟩) (.inr rfl) (.int .i64 T)).call g; clear g)
      | fail)
        exact ⟨((bs.set (a := ⟨p, 0, none⟩) (.inl rfl) _).set (a := ⟨p, 1, none⟩) (.inl rfl) _).set (a := ⟨p, 2, none⟩) (.inl rfl) _, TIf.next k0 k1 k2 kt fp ft hb E1.out (by rw [E2.out]; simp [q2])⟩
      · gi_wp2_with (first
      | (refine ⟨trivial, (fun h => by cases h), ?_⟩; with_reducible refine (CallsIn.inRound li (callsIn_wide.2 (hpl _ okV))).mono ?_; rintro e V1 ⟨rfl, g⟩; replace fp := fun j => (g.frozen (p := ⟨p, j, none⟩) (World.block_lt_of_cell? _ ⟨p, 0, none⟩ c0)).trans (fp j); replace ft := (g.frozen (p := ⟨p + 1, 0, none⟩) (World.block_lt_of_cell? _ ⟨p + 1, 0, none⟩ ct)).trans ft; replace l0 := sp_cell_on g l0; replace l1 := sp_cell_on g l1; replace l2 := sp_cell_on g l2; replace l3 := sp_cell_on g l3; replace l4 := sp_cell_on g l4; replace l5 := sp_cell_on g l5; replace l6 := sp_cell_on g l6; replace l7 := sp_cell_on g l7; replace l8 := sp_cell_on g l8; replace l9 := sp_cell_on g l9; replace l10 := sp_cell_on g l10; replace c0 := sp_cell_on g c0; replace c1 := sp_cell_on g c1; replace c2 := sp_cell_on g c2; replace ct := sp_cell_on g ct; replace hb := hb.call g; replace bs := bs.call g; replace okV := ok_call hB okV g; clear g; clear hpl)
      | (refine ⟨trivial, (fun h => by cases h), ?_⟩; with_reducible refine (CallsIn.inRound li (callsIn_wide.2 (ho1 _ okV))).mono ?_; rintro e V2 ⟨rfl, g⟩; replace fp := fun j => (g.frozen (p := ⟨p, j, none⟩) (World.block_lt_of_cell? _ ⟨p, 0, none⟩ c0)).trans (fp j); replace ft := (g.frozen (p := ⟨p + 1, 0, none⟩) (World.block_lt_of_cell? _ ⟨p + 1, 0, none⟩ ct)).trans ft; replace l0 := sp_cell_on g l0; replace l1 := sp_cell_on g l1; replace l2 := sp_cell_on g l2; replace l3 := sp_cell_on g l3; replace l4 := sp_cell_on g l4; replace l5 := sp_cell_on g l5; replace l6 := sp_cell_on g l6; replace l7 := sp_cell_on g l7; replace l8 := sp_cell_on g l8; replace l9 := sp_cell_on g l9; replace l10 := sp_cell_on g l10; replace c0 := sp_cell_on g c0; replace c1 := sp_cell_on g c1; replace c2 := sp_cell_on g c2; replace ct := sp_cell_on g ct; replace hb := hb.call g; replace bs := bs.call g; replace okV := ok_call hB okV g; clear g; clear ho1)
      | (refine ⟨trivial, (fun h => by cases h), ?_⟩; with_reducible refine (CallsIn.inRound li (callsIn_wide.2 (ho2 _ okV))).mono ?_; rintro e V3 ⟨rfl, g⟩; replace fp := fun j => (g.frozen (p := ⟨p, j, none⟩) (World.block_lt_of_cell? _ ⟨p, 0, none⟩ c0)).trans (fp j); replace ft := (g.frozen (p := ⟨p + 1, 0, none⟩) (World.block_lt_of_cell? _ ⟨p + 1, 0, none⟩ ct)).trans ft; replace l0 := sp_cell_on g l0; replace l1 := sp_cell_on g l1; replace l2 := sp_cell_on g l2; replace l3 := sp_cell_on g l3; replace l4 := sp_cell_on g l4; replace l5 := sp_cell_on g l5; replace l6 := sp_cell_on g l6; replace l7 := sp_cell_on g l7; replace l8 := sp_cell_on g l8; replace l9 := sp_cell_on g l9; replace l10 := sp_cell_on g l10; replace c0 := sp_cell_on g c0; replace c1 := sp_cell_on g c1; replace c2 := sp_cell_on g c2; replace ct := sp_cell_on g ct; replace hb := hb.call g; replace bs := bs.call g; replace okV := ok_call hB okV g; clear g; clear ho2)
      | (refine ⟨trivial, (fun h => by cases h), ?_⟩; gi_at_call 148; refine (CallsIn.inRound li (callsIn_wide.2 (hT _))).mono ?_; rintro e V4 ⟨rfl, hv⟩; rw [hv]; clear hv V4)
      | (refine ⟨trivial, (fun h => by cases h), ?_⟩; gi_at_call 192; refine (CallsIn.inRound li (callsIn_wide.2 (hj _ okV))).mono ?_; rintro e V5 ⟨rfl, g⟩; replace fp := fun j => (g.frozen (p := ⟨p, j, none⟩) (World.block_lt_of_cell? _ ⟨p, 0, none⟩ c0)).trans (fp j); replace ft := (g.frozen (p := ⟨p + 1, 0, none⟩) (World.block_lt_of_cell? _ ⟨p + 1, 0, none⟩ ct)).trans ft; replace c0 := sp_cell_on g c0; replace c1 := sp_cell_on g c1; replace c2 := sp_cell_on g c2; replace ct := sp_cell_on g ct; replace hb := hb.call g; replace bs := bs.call g; clear g)
      | fail)
        exact ⟨((bs.set (a := ⟨p, 0, none⟩) (.inl rfl) _).set (a := ⟨p, 1, none⟩) (.inl rfl) _).set (a := ⟨p, 2, none⟩) (.inl rfl) _, TIf.next c0 c1 c2 ct fp ft hb E1.out (by rw [E2.out]; simp [show ¬ o1 < 0 by omega, show ¬ 0 < o2 by omega])⟩
  case done =>
    rintro D V hD hI hK
    obtain ⟨c0, c1, c2, ct, fp, ft, hb⟩ := hI
    have hd := hullP_dom d0 xs (fun y hy => (hx y hy).2)
    have hm := fun V ok => meet_f H (hullP A xs).1 false (hullP A xs).2.1 (hullP A xs).2.2 L.least L.most hd.1 hd.2 dl dm V ok
    have ha := all_f L
    have okV : Below B w0 V := okW.trans (hb.below (Nat.le_trans hB okW.size) (fun k hk => Nat.le_trans (Nat.le_trans hB ok.size) (hS k hk).1))
    have nSl : ∀ k, k < p → ¬ (k = p ∨ k = p + 1) := fun k hk => by omega
    replace l0 := hb.cell (nSl _ (by simp; omega)) l0
    replace l1 := hb.cell (nSl _ (by simp; omega)) l1
    replace l2 := hb.cell (nSl _ (by simp; omega)) l2
    replace l3 := hb.cell (nSl _ (by simp; omega)) l3
    replace l4 := hb.cell (nSl _ (by simp; omega)) l4
    replace l5 := hb.cell (nSl _ (by simp; omega)) l5
    replace l6 := hb.cell (nSl _ (by simp; omega)) l6
    replace l7 := hb.cell (nSl _ (by simp; omega)) l7
    replace l8 := hb.cell (nSl _ (by simp; omega)) l8
    replace l9 := hb.cell (nSl _ (by simp; omega)) l9
    replace l10 := hb.cell (nSl _ (by simp; omega)) l10
    replace r0 := hb.cell (nSl _ (by simp; omega)) r0
    replace r1 := hb.cell (nSl _ (by simp; omega)) r1
    replace r2 := hb.cell (nSl _ (by simp; omega)) r2
    replace rz := fun j => (hb.frozen (a := ⟨w.heap.size + 1, j, none⟩) (nSl _ (by simp; omega)) (by simp; omega)).trans (rz j)
    have bV : Below w.heap.size w V := bW.trans (hb.below (by omega) (fun k hk => (hS k hk).1))
    have zV := hb.size
    unfold mVf lvf at hm
    unfold lvf at ha
    rw [← HTR.out] at ct
    clear HTR
    replace HR := HR.out
    unfold sVf at HR
    clear hI0 hseq hd hx
    generalize hullP A xs = hh at *
    obtain ⟨he, hlo, hhi⟩ := hh
    dsimp only at hm c0 c1 c2
    generalize meetP A (he, hlo, hhi) (false, L.least, L.most) = mr at *
    obtain ⟨me, mlo, mhi⟩ := mr
    dsimp only at hm HR
    subst HR
    gi_wp2
    refine wpIn_wide.2 ?_
    go_region_held3 (fun w' => w'.cell? ⟨w.heap.size, 0, none⟩ = some (.int .u64 L.least) ∧ w'.cell? ⟨w.heap.size, 1, none⟩ = some (.int .u64 L.most) ∧ w'.cell? ⟨w.heap.size, 2, none⟩ = some (.int .i64 L.past) ∧ w'.cell? ⟨w.heap.size, 3, none⟩ = some (.func (.func L.ko) #[] L.co) ∧ w'.cell? ⟨w.heap.size, 4, none⟩ = some (.func (.func L.kp) #[] L.cp) ∧ w'.cell? ⟨w.heap.size, 5, none⟩ = some (.func (.func L.k1) #[] L.c1) ∧ w'.cell? ⟨w.heap.size, 6, none⟩ = some (.func (.func L.kv) #[] L.cv) ∧ w'.cell? ⟨w.heap.size, 7, none⟩ = some (.func (.func L.kn) #[] L.cn) ∧ w'.cell? ⟨w.heap.size, 8, none⟩ = some (.func (.func L.ku) #[] L.cu) ∧ w'.cell? ⟨w.heap.size, 9, none⟩ = some (.func (.func L.kt) #[] L.ct) ∧ w'.cell? ⟨w.heap.size, 10, none⟩ = some (.func (.func L.kz) #[] L.cz) ∧ w'.cell? ⟨p, 0, none⟩ = some (.bool he) ∧ w'.cell? ⟨p, 1, none⟩ = some (.int .u64 hlo) ∧ w'.cell? ⟨p, 2, none⟩ = some (.int .u64 hhi) ∧ w'.cell? ⟨p + 1, 0, none⟩ = some (.int .i64 TR)) (first | exact ⟨l0, l1, l2, l3, l4, l5, l6, l7, l8, l9, l10, c0, c1, c2, ct⟩ | exact ⟨sp_keep3 l0 (by omega) _ _ _, sp_keep3 l1 (by omega) _ _ _, sp_keep3 l2 (by omega) _ _ _, sp_keep3 l3 (by omega) _ _ _, sp_keep3 l4 (by omega) _ _ _, sp_keep3 l5 (by omega) _ _ _, sp_keep3 l6 (by omega) _ _ _, sp_keep3 l7 (by omega) _ _ _, sp_keep3 l8 (by omega) _ _ _, sp_keep3 l9 (by omega) _ _ _, sp_keep3 l10 (by omega) _ _ _, sp_keep3 c0 (by omega) _ _ _, sp_keep3 c1 (by omega) _ _ _, sp_keep3 c2 (by omega) _ _ _, sp_keep3 ct (by omega) _ _ _⟩)
      (first
        | (go_at_call 193; refine (ha _).mono ?_; rintro e V1 ⟨rfl, g1⟩; replace g1 : Below V.heap.size V V1 := ⟨g1.os, g1.tape, g1.output, g1.size, g1.block⟩; replace l0 := sp_cell_on g1 l0; replace l1 := sp_cell_on g1 l1; replace l2 := sp_cell_on g1 l2; replace l3 := sp_cell_on g1 l3; replace l4 := sp_cell_on g1 l4; replace l5 := sp_cell_on g1 l5; replace l6 := sp_cell_on g1 l6; replace l7 := sp_cell_on g1 l7; replace l8 := sp_cell_on g1 l8; replace l9 := sp_cell_on g1 l9; replace l10 := sp_cell_on g1 l10; replace c0 := sp_cell_on g1 c0; replace c1 := sp_cell_on g1 c1; replace c2 := sp_cell_on g1 c2; replace ct := sp_cell_on g1 ct; replace r0 := sp_cell_on g1 r0; replace r1 := sp_cell_on g1 r1; replace r2 := sp_cell_on g1 r2; replace okV := ok_call hB okV g1; replace bV := sp_call bV g1; replace rz := fun j => (g1.frozen (p := ⟨w.heap.size + 1, j, none⟩) (by simp; omega)).trans (rz j); have z1 := g1.size)
        | (go_at_call 189; refine (hm _ (by first | exact okV | exact okV.drew)).mono ?_; rintro e V2 ⟨rfl, g2⟩; replace g2 : Below V1.heap.size V1 V2 := ⟨g2.os, g2.tape, g2.output, g2.size, g2.block⟩; replace l0 := sp_cell_on g2 l0; replace l1 := sp_cell_on g2 l1; replace l2 := sp_cell_on g2 l2; replace l3 := sp_cell_on g2 l3; replace l4 := sp_cell_on g2 l4; replace l5 := sp_cell_on g2 l5; replace l6 := sp_cell_on g2 l6; replace l7 := sp_cell_on g2 l7; replace l8 := sp_cell_on g2 l8; replace l9 := sp_cell_on g2 l9; replace l10 := sp_cell_on g2 l10; replace c0 := sp_cell_on g2 c0; replace c1 := sp_cell_on g2 c1; replace c2 := sp_cell_on g2 c2; replace ct := sp_cell_on g2 ct; replace r0 := sp_cell_on g2 r0; replace r1 := sp_cell_on g2 r1; replace r2 := sp_cell_on g2 r2; replace bV := sp_call bV g2; replace rz := fun j => (g2.frozen (p := ⟨w.heap.size + 1, j, none⟩) (by simp; omega)).trans (rz j); have z2 := g2.size)
        | fail)
    all_goals gi_wp2
    have hDV : D < V.heap.size := (Array.getElem?_eq_some_iff.1 hK).1
    have hK2 : V2.heap[D]? = some (.deferred (some [])) := (g2.block D (by omega)).trans ((g1.block D hDV).trans hK)
    obtain ⟨X, hX⟩ : ∃ X, ((V2.setCell ⟨w.heap.size + 1, 0, none⟩ (.bool me)).setCell ⟨w.heap.size + 1, 1, none⟩ (.int .u64 mlo)).setCell ⟨w.heap.size + 1, 2, none⟩ (.int .u64 mhi) = X := ⟨_, rfl⟩
    have x0 : X.cell? ⟨w.heap.size + 1, 0, none⟩ = some (.bool me) := by rw [← hX]; simp [go_sem, r0, r1, r2]
    have x1 : X.cell? ⟨w.heap.size + 1, 1, none⟩ = some (.int .u64 mlo) := by rw [← hX]; simp [go_sem, r0, r1, r2]
    have x2 : X.cell? ⟨w.heap.size + 1, 2, none⟩ = some (.int .u64 mhi) := by rw [← hX]; simp [go_sem, r0, r1, r2]
    have hKX : X.heap[D]? = some (.deferred (some [])) := by
      rw [← hX]
      exact (Below.heap_setCell _ _ _ D (by simp; omega)).trans ((Below.heap_setCell _ _ _ D (by simp; omega)).trans ((Below.heap_setCell _ _ _ D (by simp; omega)).trans hK2))
    have bX : Below w.heap.size w X := by rw [← hX]; exact sp_set3 bV (by omega) _ _ _
    rw [hX]
    clear hX
    refine ⟨by simp, .inl ⟨_, _, rfl, run_takeDeferred hKX, ?_⟩⟩
    have y : ∀ j, (X.putObj D (.deferred none)).cell? ⟨w.heap.size + 1, j, none⟩ = X.cell? ⟨w.heap.size + 1, j, none⟩ := fun j => World.cell?_of_block (World.putObj_heap_other (by simp; omega))
    refine ⟨.tuple #[.agg #[.bool me, .int .u64 mlo, .int .u64 mhi], .int .i64 TR], by simp [results, Tryz.results155, go_sem, y, x0, x1, x2], rfl, bX.trans ((OnlyAt.put _ _ _).below (by omega))⟩
end Go.Proofs.YteafnkimcidkhaaGreat
