/- span.one on a line. -/
import Derived.Test.YthjoigkckgdcaaaGreatUG2
import Derived.Test.YthjoigkckgdcaaaGreatURgNii
import Derived.Deep.DeepCutAuto
namespace Go.Proofs.YthjoigkckgdcaaaGreat
open Go.RowKit
set_option linter.unusedVariables false
set_option linter.unusedSimpArgs false
theorem on_carryi {X v : World} {b : Nat} {o : Obj} (g : Below X.heap.size X v) (q : X.heap[b]? = some o) : v.heap[b]? = some o := (g.block b (Array.getElem?_eq_some_iff.1 q).1).trans q
theorem on_ati {W : World} {b : Nat} {t : TypeId} {z : Nat × Nat} {c : Array Value} (q : W.heap[b]? = some (.cells c t z)) (j : Nat) (v : Value) : (W.setCell ⟨b, j, none⟩ v).heap[b]? = some (.cells (c.setIfInBounds j v) t z) := by
  simp [World.setCell, Array.getElem?_modify, q]
theorem on_afi {W : World} {b c : Nat} (j : Nat) (v : Value) (h : b ≠ c) : (W.setCell ⟨b, j, none⟩ v).heap[c]? = W.heap[c]? := by
  simp [World.setCell, Array.getElem?_modify, h]
theorem on_set3i {W : World} {b : Nat} {t : TypeId} {z : Nat × Nat} {y0 y1 y2 : Value} (q : W.heap[b]? = some (.cells #[y0, y1, y2] t z)) (x0 x1 x2 : Value) : (((W.setCell ⟨b, 0, none⟩ x0).setCell ⟨b, 1, none⟩ x1).setCell ⟨b, 2, none⟩ x2).heap[b]? = some (.cells #[x0, x1, x2] t z) := by
  have h := (on_ati (on_ati (on_ati q 0 x0) 1 x1) 2 x2)
  simpa using h
theorem on_far3i {W : World} {b c : Nat} {o : Obj} (q : W.heap[c]? = some o) (x0 x1 x2 : Value) (h : b ≠ c) : (((W.setCell ⟨b, 0, none⟩ x0).setCell ⟨b, 1, none⟩ x1).setCell ⟨b, 2, none⟩ x2).heap[c]? = some o := by
  rw [on_afi _ _ h, on_afi _ _ h, on_afi _ _ h, q]
theorem on_oldi {W : World} {c : Nat} {o : Obj} (q : W.heap[c]? = some o) (o' : Obj) : (W.alloc o').heap[c]? = some o := (Below.heap_alloc W o' c (Array.getElem?_eq_some_iff.1 q).1).trans q
theorem on_lti {W : World} {c : Nat} {o : Obj} (q : W.heap[c]? = some o) : c < W.heap.size := (Array.getElem?_eq_some_iff.1 q).1
theorem on_cells3i {v : World} {b : Nat} {t : TypeId} {x0 x1 x2 : Value} (q : v.heap[b]? = some (.cells #[x0, x1, x2] t (0, 0))) : v.cell? ⟨b, 0, none⟩ = some x0 ∧ v.cell? ⟨b, 1, none⟩ = some x1 ∧ v.cell? ⟨b, 2, none⟩ = some x2 ∧ ∀ j, v.frozen? ⟨b, j, none⟩ = false :=
  ⟨by simp [World.cell?, q], by simp [World.cell?, q], by simp [World.cell?, q], fun j => by simp [World.frozen?, q]⟩
theorem onfn_nil_i (kb : Nat) (caps : Array Value) (w : World) : (binOp BinOp.eql 130 (.func (.func kb) #[] caps) .nilFunc).run Tryz.prog w = .ok (.bool false) w := by kernel_rfl
theorem onnil_nil_i (w : World) : (binOp BinOp.eql 130 .nilFunc .nilFunc).run Tryz.prog w = .ok (.bool true) w := by kernel_rfl
def By1i (L : Ln) (A : Ways) (B : Nat) (w0 : World) (op : Int) (ok : Int → Prop) (g : Int → Int) : Prop :=
  ∀ V, Below B w0 V → Calls Tryz.prog L.ku (#[.int .i64 op] ++ L.cu) V fun e V' => Below V.heap.size V V' ∧ ∃ kb caps, e = .returned (.func (.func kb) #[] caps) ∧ (∀ args w, (callFunc kb args).run Tryz.prog w = .ok (.enter kb args) w)
    ∧ ∀ x X, ok x → Below V'.heap.size V' X → Calls Tryz.prog kb (#[.int .i64 x] ++ caps) X fun e X' => e = .returned (.int .i64 (g x)) ∧ Below X.heap.size X X'
theorem each1x_i (kb : Nat) (caps : Array Value) (b n cap : Nat) (w : World) : Calls Tryz.prog 215 #[.func (.func kb) #[] caps, .slice (some ⟨b, 0, none⟩) n cap] w fun r w' =>
    ∃ p : Nat, r = .returned (.func (.func 274) #[] #[.pointer (some ⟨p + 1, 0, none⟩), .pointer (some ⟨p, 0, none⟩)]) ∧ w'.cell? ⟨p, 0, none⟩ = some (.func (.func kb) #[] caps) ∧ w'.cell? ⟨p + 1, 0, none⟩ = some (.slice (some ⟨b, 0, none⟩) n cap) ∧ p + 1 < w'.heap.size ∧ Below w.heap.size w w' := by
  refine (each1_ii (.func (.func kb) #[] caps) ⟨_, _, rfl⟩ (.slice (some ⟨b, 0, none⟩) n cap) ⟨_, _, _, rfl⟩ w).mono ?_
  rintro r w' ⟨rfl, rfl⟩
  exact ⟨w.heap.size, rfl, by simp [go_sem], by simp [go_sem], by simp, (sp_new (sp_new (Below.refl _ _) _) _)⟩
theorem feeds1_i {p b cap kb : Nat} {caps : Array Value} {g : Int → Int} {ls : List (Bool × Int × Int)} {okp : Int → Prop} {v1 v2 W0 : World} {S : Nat → Prop} (f0 : v2.cell? ⟨p, 0, none⟩ = some (.func (.func kb) #[] caps)) (f2 : v2.cell? ⟨p + 1, 0, none⟩ = some (.slice (some ⟨b, 0, none⟩) ls.length cap)) (srow : SRowi v2 b ls) (hlen : ls.length ≤ 1000) (hp : p + 1 < v2.heap.size) (hb : b < v2.heap.size)
    (eby : ∀ args w, (callFunc kb args).run Tryz.prog w = .ok (.enter kb args) w) (hby : ∀ x X, okp x → Below v1.heap.size v1 X → Calls Tryz.prog kb (#[.int .i64 x] ++ caps) X fun e X' => e = .returned (.int .i64 (g x)) ∧ Below X.heap.size X X') (hok : ∀ q ∈ endsL ls, okp q)
    (b12 : Below v1.heap.size v1 v2) (hW : Below v2.heap.size v2 W0) (hSS : ∀ k, S k → v2.heap.size ≤ k ∧ k < W0.heap.size) :
    Feeds Tryz.prog 274 #[.pointer (some ⟨p + 1, 0, none⟩), .pointer (some ⟨p, 0, none⟩)] (fun x : Int => #[Value.int .i64 x]) S ((endsL ls).map g) W0 := by
  have nS : ∀ k, k < v2.heap.size → ¬ S k := fun k hk h => absurd (hSS k h).1 (by omega)
  have z := b12.size
  have bu : But S v2 W0 := But.of hW
  refine each1_feeds_ii (p + 1) p b cap kb caps g ls hlen S W0 (nS _ hp) (nS _ (by omega)) (nS _ hb) (fun k hk => (hSS k hk).2) (fun x V hm hV => hby x V (hok x hm) ?_) eby (bu.cell (nS _ hp) f2) (bu.cell (nS _ (by simp; omega)) f0) (srow.but bu (nS _ hb))
  exact (b12.trans (hW.mono z)).trans (hV.below (Nat.le_trans z hW.size) (fun k hk => Nat.le_trans z (hSS k hk).1))
theorem onrow2_i {X v5 : World} {b p n cap : Nat} {e e' : Bool} {a0 b0 a' b' : Int} (g : Below X.heap.size X v5) (f2 : v5.cell? ⟨p + 1, 0, none⟩ = some (.slice (some ⟨b, 0, none⟩) n cap)) (h : X.cell? ⟨b, 0, none⟩ = some (.bool e) ∧ X.cell? ⟨b, 1, none⟩ = some (.int .i64 a0) ∧ X.cell? ⟨b, 2, none⟩ = some (.int .i64 b0) ∧ X.cell? ⟨b, 3, none⟩ = some (.bool e') ∧ X.cell? ⟨b, 4, none⟩ = some (.int .i64 a') ∧ X.cell? ⟨b, 5, none⟩ = some (.int .i64 b')) :
    SRowi v5 b [(e, a0, b0), (e', a', b')] ∧ b < v5.heap.size := by
  obtain ⟨s0, s1, s2, s3, s4, s5⟩ := h
  refine ⟨fun j s hj => ?_, Nat.lt_of_lt_of_le (World.block_lt_of_cell? X ⟨b, 0, none⟩ s0) g.size⟩
  rcases j with _ | _ | n
  · simp at hj; subst hj
    exact ⟨sO g s0, sO g s1, sO g s2⟩
  · simp at hj; subst hj
    exact ⟨sO g s3, sO g s4, sO g s5⟩
  · simp at hj
set_option maxRecDepth 100000 in
set_option maxHeartbeats 6400000 in
theorem onetwo_i {L : Ln} {A : Ways} {B : Nat} {w0 : World} (H : Actsi L A B w0) (eu : ∀ args w, (callFunc L.ku args).run Tryz.prog w = .ok (.enter L.ku args) w) (T : Int) (hT : ∀ w, Calls Tryz.prog 161 #[.int .i64 L.past] w fun e w' => e = .returned (.int .i64 T) ∧ w' = w) (op : Int) (hop : (op == 6) = false) (okp : Int → Prop) (g : Int → Int) (h2 : By1i L A B w0 op okp g)
    (a b : Int) (d0 : A.dom 0) (o0 : A.one 0 = true) (dl : A.dom L.least) (dm : A.dom L.most) (dp : A.dom (A.prv 0)) (da : A.dom a) (db : A.dom b) (hx : ∀ x ∈ endsL [meetP A (false, a, b) (belowP A L 0), meetP A (false, a, b) (false, 0, L.most)], okp x ∧ A.dom (g x) ∧ A.dom (A.pl (g x))) (w : World) (ok : Below B w0 w) :
    Calls Tryz.prog 131 #[.agg (lvi L), .int .i64 op, .agg #[.bool false, .int .i64 a, .int .i64 b]] w fun e w' =>
      e = .returned (.tuple #[sVi (meetP A (hullP A ((endsL [meetP A (false, a, b) (belowP A L 0), meetP A (false, a, b) (false, 0, L.most)]).map g)) (false, L.least, L.most)), .int .i64 (trapP A L T ((endsL [meetP A (false, a, b) (belowP A L 0), meetP A (false, a, b) (false, 0, L.most)]).map g))]) ∧ Below w.heap.size w w' := by
  have hB := H.hB
  have hbe : A.dom (belowP A L 0).2.1 ∧ A.dom (belowP A L 0).2.2 := by unfold belowP; split; exact ⟨d0, d0⟩; exact ⟨dl, dp⟩
  have h1 := fun V ok => below_i H 0 d0 o0 dl V ok
  have h3 := fun V ok => meet_i H false (belowP A L 0).1 a b (belowP A L 0).2.1 (belowP A L 0).2.2 da db hbe.1 hbe.2 V ok
  have h4 := from_i L 0
  have h5 := fun V ok => meet_i H false false a b 0 L.most da db d0 dm V ok
  clear hbe
  have htold := fun gf lb w ok eg hseq => told_i H T hT gf lb ((endsL [meetP A (false, a, b) (belowP A L 0), meetP A (false, a, b) (false, 0, L.most)]).map g) d0 dl dm (fun x hxm => by
    obtain ⟨p, hp, rfl⟩ := List.mem_map.1 hxm
    exact (hx p hp).2) w ok eg hseq
  have he2 := each1x_i
  have hok : ∀ q ∈ endsL [meetP A (false, a, b) (belowP A L 0), meetP A (false, a, b) (false, 0, L.most)], okp q := fun q hq => (hx q hq).1
  clear hx H
  unfold mVi at h3 h5
  generalize meetP A (false, a, b) (belowP A L 0) = m1 at *
  generalize meetP A (false, a, b) (false, 0, L.most) = m2 at *
  generalize belowP A L 0 = be at *
  obtain ⟨pe, pl, ph⟩ := m1
  obtain ⟨qe, ql, qh⟩ := m2
  obtain ⟨bee, bel, beh⟩ := be
  generalize meetP A (hullP A ((endsL [(pe, pl, ph), (qe, ql, qh)]).map g)) (false, L.least, L.most) = R at *
  obtain ⟨me, mlo, mhi⟩ := R
  generalize trapP A L T ((endsL [(pe, pl, ph), (qe, ql, qh)]).map g) = TR at *
  unfold sVi lvi at *
  dsimp only at *
  have hq := h2
  unfold By1i at hq
  go_enter Tryz.func131, Tryz.ntmps131
  go_wp2_with fail
  obtain ⟨W, hW⟩ : ∃ W, (((w.alloc (.cells #[.int .i64 L.least, .int .i64 L.most, .int .i64 L.past, .func (.func L.ko) #[] L.co, .func (.func L.kp) #[] L.cp, .func (.func L.k1) #[] L.c1, .func (.func L.kv) #[] L.cv, .func (.func L.kn) #[] L.cn, .func (.func L.ku) #[] L.cu, .func (.func L.kt) #[] L.ct, .func (.func L.kz) #[] L.cz] 136)).alloc (.cells #[.bool false, .int .i64 a, .int .i64 b] 139)).alloc (.cells #[.bool false, .int .i64 0, .int .i64 0] 139)) = W := ⟨_, rfl⟩
  have l0 : W.cell? ⟨w.heap.size, 0, none⟩ = some (.int .i64 L.least) := by rw [← hW]; simp [go_sem]
  have l1 : W.cell? ⟨w.heap.size, 1, none⟩ = some (.int .i64 L.most) := by rw [← hW]; simp [go_sem]
  have l2 : W.cell? ⟨w.heap.size, 2, none⟩ = some (.int .i64 L.past) := by rw [← hW]; simp [go_sem]
  have l3 : W.cell? ⟨w.heap.size, 3, none⟩ = some (.func (.func L.ko) #[] L.co) := by rw [← hW]; simp [go_sem]
  have l4 : W.cell? ⟨w.heap.size, 4, none⟩ = some (.func (.func L.kp) #[] L.cp) := by rw [← hW]; simp [go_sem]
  have l5 : W.cell? ⟨w.heap.size, 5, none⟩ = some (.func (.func L.k1) #[] L.c1) := by rw [← hW]; simp [go_sem]
  have l6 : W.cell? ⟨w.heap.size, 6, none⟩ = some (.func (.func L.kv) #[] L.cv) := by rw [← hW]; simp [go_sem]
  have l7 : W.cell? ⟨w.heap.size, 7, none⟩ = some (.func (.func L.kn) #[] L.cn) := by rw [← hW]; simp [go_sem]
  have l8 : W.cell? ⟨w.heap.size, 8, none⟩ = some (.func (.func L.ku) #[] L.cu) := by rw [← hW]; simp [go_sem]
  have l9 : W.cell? ⟨w.heap.size, 9, none⟩ = some (.func (.func L.kt) #[] L.ct) := by rw [← hW]; simp [go_sem]
  have l10 : W.cell? ⟨w.heap.size, 10, none⟩ = some (.func (.func L.kz) #[] L.cz) := by rw [← hW]; simp [go_sem]
  have a0 : W.cell? ⟨w.heap.size + 1, 0, none⟩ = some (.bool false) := by rw [← hW]; simp [go_sem]
  have a1 : W.cell? ⟨w.heap.size + 1, 1, none⟩ = some (.int .i64 a) := by rw [← hW]; simp [go_sem]
  have a2 : W.cell? ⟨w.heap.size + 1, 2, none⟩ = some (.int .i64 b) := by rw [← hW]; simp [go_sem]
  have r0 : W.cell? ⟨w.heap.size + 1 + 1, 0, none⟩ = some (.bool false) := by rw [← hW]; simp [go_sem]
  have r1 : W.cell? ⟨w.heap.size + 1 + 1, 1, none⟩ = some (.int .i64 0) := by rw [← hW]; simp [go_sem]
  have r2 : W.cell? ⟨w.heap.size + 1 + 1, 2, none⟩ = some (.int .i64 0) := by rw [← hW]; simp [go_sem]
  have okW : Below B w0 W := by rw [← hW]; exact (ok_new hB (ok_new hB (ok_new hB ok _) _) _)
  have bW : Below w.heap.size w W := by rw [← hW]; exact (sp_new (sp_new (sp_new (Below.refl _ _) _) _) _)
  have zW : W.heap.size = w.heap.size + 3 := by rw [← hW]; simp
  have fz : ∀ j, W.frozen? ⟨w.heap.size + 1 + 1, j, none⟩ = false := by intro j; rw [← hW]; simp [go_sem]
  rw [hW]
  clear hW
  with_reducible refine (hq _ okW).mono ?_
  rintro e v1 ⟨g1, kb, caps, rfl, eby, hby⟩
  replace fz := fun j => (g1.frozen (p := ⟨w.heap.size + 1 + 1, j, none⟩) (by simp; omega)).trans (fz j)
  have z1 := g1.size
  replace okW := ok_call hB okW g1
  replace bW := sp_call bW g1
  replace l0 := sO g1 l0; replace l1 := sO g1 l1; replace l2 := sO g1 l2; replace l3 := sO g1 l3; replace l4 := sO g1 l4; replace l5 := sO g1 l5; replace l6 := sO g1 l6; replace l7 := sO g1 l7; replace l8 := sO g1 l8; replace l9 := sO g1 l9; replace l10 := sO g1 l10; replace a0 := sO g1 a0; replace a1 := sO g1 a1; replace a2 := sO g1 a2; replace r0 := sO g1 r0; replace r1 := sO g1 r1; replace r2 := sO g1 r2
  have hn := onfn_nil_i kb caps
  clear hq h2
  replace zW : w.heap.size + 3 ≤ v1.heap.size := by omega
  clear z1 g1
  generalize hWv : v1 = W at *
  clear hWv
  have okc : ∀ X, Below W.heap.size W X → Below B w0 X := fun X cc => ok_call hB okW cc
  go_upto_region 4 with fail
  have hall : ∀ X9, Below W.heap.size W X9 → (X9.cell? ⟨w.heap.size, 0, none⟩ = some (.int .i64 L.least) ∧ X9.cell? ⟨w.heap.size, 1, none⟩ = some (.int .i64 L.most) ∧ X9.cell? ⟨w.heap.size, 2, none⟩ = some (.int .i64 L.past) ∧ X9.cell? ⟨w.heap.size, 3, none⟩ = some (.func (.func L.ko) #[] L.co) ∧ X9.cell? ⟨w.heap.size, 4, none⟩ = some (.func (.func L.kp) #[] L.cp) ∧ X9.cell? ⟨w.heap.size, 5, none⟩ = some (.func (.func L.k1) #[] L.c1) ∧ X9.cell? ⟨w.heap.size, 6, none⟩ = some (.func (.func L.kv) #[] L.cv) ∧ X9.cell? ⟨w.heap.size, 7, none⟩ = some (.func (.func L.kn) #[] L.cn) ∧ X9.cell? ⟨w.heap.size, 8, none⟩ = some (.func (.func L.ku) #[] L.cu) ∧ X9.cell? ⟨w.heap.size, 9, none⟩ = some (.func (.func L.kt) #[] L.ct) ∧ X9.cell? ⟨w.heap.size, 10, none⟩ = some (.func (.func L.kz) #[] L.cz) ∧ X9.cell? ⟨w.heap.size + 1, 0, none⟩ = some (.bool false) ∧ X9.cell? ⟨w.heap.size + 1, 1, none⟩ = some (.int .i64 a) ∧ X9.cell? ⟨w.heap.size + 1, 2, none⟩ = some (.int .i64 b)) := fun X9 cc => ⟨sO cc l0, sO cc l1, sO cc l2, sO cc l3, sO cc l4, sO cc l5, sO cc l6, sO cc l7, sO cc l8, sO cc l9, sO cc l10, sO cc a0, sO cc a1, sO cc a2⟩
  have cc : Below W.heap.size W W.drew := (Below.refl _ _).drew
  go_cut [9, 10] from 24 to 33 (fun s u X => ∃ (W3 : World) (b8 b9 : Nat), W3 = X ∧ s = .pointer (some ⟨b8, 0, none⟩) ∧ u = .pointer (some ⟨b9, 0, none⟩) ∧ X.heap[b8]? = some (Obj.cells #[.bool pe, .int .i64 pl, .int .i64 ph] 139 (0, 0)) ∧ X.heap[b9]? = some (Obj.cells #[.bool qe, .int .i64 ql, .int .i64 qh] 139 (0, 0)) ∧ W.heap.size ≤ b8 ∧ W.heap.size ≤ b9 ∧ Below W.heap.size W X)
  case first =>
   refine wp_region_held_drew (S := (fun w' => w'.cell? ⟨w.heap.size, 0, none⟩ = some (.int .i64 L.least) ∧ w'.cell? ⟨w.heap.size, 1, none⟩ = some (.int .i64 L.most) ∧ w'.cell? ⟨w.heap.size, 2, none⟩ = some (.int .i64 L.past) ∧ w'.cell? ⟨w.heap.size, 3, none⟩ = some (.func (.func L.ko) #[] L.co) ∧ w'.cell? ⟨w.heap.size, 4, none⟩ = some (.func (.func L.kp) #[] L.cp) ∧ w'.cell? ⟨w.heap.size, 5, none⟩ = some (.func (.func L.k1) #[] L.c1) ∧ w'.cell? ⟨w.heap.size, 6, none⟩ = some (.func (.func L.kv) #[] L.cv) ∧ w'.cell? ⟨w.heap.size, 7, none⟩ = some (.func (.func L.kn) #[] L.cn) ∧ w'.cell? ⟨w.heap.size, 8, none⟩ = some (.func (.func L.ku) #[] L.cu) ∧ w'.cell? ⟨w.heap.size, 9, none⟩ = some (.func (.func L.kt) #[] L.ct) ∧ w'.cell? ⟨w.heap.size, 10, none⟩ = some (.func (.func L.kz) #[] L.cz) ∧ w'.cell? ⟨w.heap.size + 1, 0, none⟩ = some (.bool false) ∧ w'.cell? ⟨w.heap.size + 1, 1, none⟩ = some (.int .i64 a) ∧ w'.cell? ⟨w.heap.size + 1, 2, none⟩ = some (.int .i64 b))) (by kernel_rfl) (hall _ cc) (fun hH => ?_)
   refine wpAnyH_take (i := 0) (oi := _) (v := .agg #[.int .i64 L.least, .int .i64 L.most, .int .i64 L.past, .func (.func L.ko) #[] L.co, .func (.func L.kp) #[] L.cp, .func (.func L.k1) #[] L.c1, .func (.func L.kv) #[] L.cv, .func (.func L.kn) #[] L.cn, .func (.func L.ku) #[] L.cu, .func (.func L.kt) #[] L.ct, .func (.func L.kz) #[] L.cz]) rfl (by kernel_rfl) (by kernel_rfl) (by kernel_rfl) (fun _ _ _ h => h) (Or.inl ⟨by rfl, fun w' hSw => by obtain ⟨zl0, zl1, zl2, zl3, zl4, zl5, zl6, zl7, zl8, zl9, zl10, za0, za1, za2⟩ := hSw; go_simp⟩) hH ?_
   simp only [Act.put, gA, gB, gC, gD, gE, gG]
   refine wpAnyH_take (i := 1) (oi := _) (v := .agg #[.bool false, .int .i64 a, .int .i64 b]) rfl (by kernel_rfl) (by kernel_rfl) (by kernel_rfl) (fun _ _ _ h => h) (Or.inl ⟨by rfl, fun w' hSw => by obtain ⟨zl0, zl1, zl2, zl3, zl4, zl5, zl6, zl7, zl8, zl9, zl10, za0, za1, za2⟩ := hSw; go_simp⟩) hH ?_
   simp only [Act.put, gA, gB, gC, gD, gE, gG]
   refine wpAnyH_take (i := 2) (oi := _) (v := .agg #[.int .i64 L.least, .int .i64 L.most, .int .i64 L.past, .func (.func L.ko) #[] L.co, .func (.func L.kp) #[] L.cp, .func (.func L.k1) #[] L.c1, .func (.func L.kv) #[] L.cv, .func (.func L.kn) #[] L.cn, .func (.func L.ku) #[] L.cu, .func (.func L.kt) #[] L.ct, .func (.func L.kz) #[] L.cz]) rfl (by kernel_rfl) (by kernel_rfl) (by kernel_rfl) (fun _ _ _ h => h) (Or.inl ⟨by rfl, fun w' hSw => by obtain ⟨zl0, zl1, zl2, zl3, zl4, zl5, zl6, zl7, zl8, zl9, zl10, za0, za1, za2⟩ := hSw; go_simp⟩) hH ?_
   simp only [Act.put, gA, gB, gC, gD, gE, gG]
   refine wpAnyH_take (i := 5) (oi := _) (v := .agg #[.int .i64 L.least, .int .i64 L.most, .int .i64 L.past, .func (.func L.ko) #[] L.co, .func (.func L.kp) #[] L.cp, .func (.func L.k1) #[] L.c1, .func (.func L.kv) #[] L.cv, .func (.func L.kn) #[] L.cn, .func (.func L.ku) #[] L.cu, .func (.func L.kt) #[] L.ct, .func (.func L.kz) #[] L.cz]) rfl (by kernel_rfl) (by kernel_rfl) (by kernel_rfl) (fun _ _ _ h => h) (Or.inl ⟨by rfl, fun w' hSw => by obtain ⟨zl0, zl1, zl2, zl3, zl4, zl5, zl6, zl7, zl8, zl9, zl10, za0, za1, za2⟩ := hSw; go_simp⟩) hH ?_
   simp only [Act.put, gA, gB, gC, gD, gE, gG]
   refine wpAnyH_take (i := 6) (oi := _) (v := .agg #[.bool false, .int .i64 a, .int .i64 b]) rfl (by kernel_rfl) (by kernel_rfl) (by kernel_rfl) (fun _ _ _ h => h) (Or.inl ⟨by rfl, fun w' hSw => by obtain ⟨zl0, zl1, zl2, zl3, zl4, zl5, zl6, zl7, zl8, zl9, zl10, za0, za1, za2⟩ := hSw; go_simp⟩) hH ?_
   simp only [Act.put, gA, gB, gC, gD, gE, gG]
   refine wpAnyH_take (i := 7) (oi := _) (v := .agg #[.int .i64 L.least, .int .i64 L.most, .int .i64 L.past, .func (.func L.ko) #[] L.co, .func (.func L.kp) #[] L.cp, .func (.func L.k1) #[] L.c1, .func (.func L.kv) #[] L.cv, .func (.func L.kn) #[] L.cn, .func (.func L.ku) #[] L.cu, .func (.func L.kt) #[] L.ct, .func (.func L.kz) #[] L.cz]) rfl (by kernel_rfl) (by kernel_rfl) (by kernel_rfl) (fun _ _ _ h => h) (Or.inl ⟨by rfl, fun w' hSw => by obtain ⟨zl0, zl1, zl2, zl3, zl4, zl5, zl6, zl7, zl8, zl9, zl10, za0, za1, za2⟩ := hSw; go_simp⟩) hH ?_
   simp only [Act.put, gA, gB, gC, gD, gE, gG]
   generalize hY : W.drew = Y0 at *
   clear hY
   refine wpAnyH_ready (rs := [3, 10, 11]) (by kernel_rfl) (by simp) (AllReadyH.cons (o := _) rfl (fun K hK => ?_) (AllReadyH.cons (o := _) rfl (fun K hK => ?_) (AllReadyH.cons (o := _) rfl (fun K hK => ?_) AllReadyH.nil)))
   ·skip
    go_simp
    refine (h1 _ (okc _ cc)).mono ?_
    rintro e Y1 ⟨rfl, g⟩
    replace cc := sp_call cc g
    clear g
    go_wp2_with fail
    refine hK.out _ _ (hall _ cc) (fun hH => ?_)
    clear hK K
    try simp only [Act.put, gA, gB, gC, gD, gE, gG]
    refine wpAnyH_ready (rs := [4, 10, 11]) (by kernel_rfl) (by simp) (AllReadyH.cons (o := _) rfl (fun K hK => ?_) (AllReadyH.cons (o := _) rfl (fun K hK => ?_) (AllReadyH.cons (o := _) rfl (fun K hK => ?_) AllReadyH.nil)))
    ·skip
     go_simp
     refine (h3 _ (okc _ cc)).mono ?_
     rintro e Y2 ⟨rfl, g⟩
     replace cc := sp_call cc g
     clear g
     go_wp2_with fail
     refine hK.out _ _ (hall _ cc) (fun hH => ?_)
     clear hK K
     try simp only [Act.put, gA, gB, gC, gD, gE, gG]
     refine wpAnyH_ready (rs := [8, 10, 11]) (by kernel_rfl) (by simp) (AllReadyH.cons (o := _) rfl (fun K hK => ?_) (AllReadyH.cons (o := _) rfl (fun K hK => ?_) (AllReadyH.cons (o := _) rfl (fun K hK => ?_) AllReadyH.nil)))
     ·skip
      go_simp
      refine (h4 _).mono ?_
      rintro e Y3 ⟨rfl, g⟩
      replace cc := sp_call cc g
      clear g
      go_wp2_with fail
      refine hK.out _ _ (hall _ cc) (fun hH => ?_)
      clear hK K
      try simp only [Act.put, gA, gB, gC, gD, gE, gG]
      refine wpAnyH_ready (rs := [9, 10, 11]) (by kernel_rfl) (by simp) (AllReadyH.cons (o := _) rfl (fun K hK => ?_) (AllReadyH.cons (o := _) rfl (fun K hK => ?_) (AllReadyH.cons (o := _) rfl (fun K hK => ?_) AllReadyH.nil)))
      ·skip
       go_simp
       refine (h5 _ (okc _ cc)).mono ?_
       rintro e Y4 ⟨rfl, g⟩
       replace cc := sp_call cc g
       clear g
       go_wp2_with fail
       refine hK.out _ _ (hall _ cc) (fun hH => ?_)
       clear hK K
       try simp only [Act.put, gA, gB, gC, gD, gE, gG]
       refine wpAnyH_ready (rs := [10, 11]) (by kernel_rfl) (by simp) (AllReadyH.cons (o := _) rfl (fun K hK => ?_) (AllReadyH.cons (o := _) rfl (fun K hK => ?_) AllReadyH.nil))
       ·skip
        go_simp
        have zzY4 := cc.size
        have qa := World.alloc_heap_new Y4 (Obj.cells #[.bool false, .int .i64 0, .int .i64 0] 139 (0, 0))
        replace cc := sp_new cc (Obj.cells #[.bool false, .int .i64 0, .int .i64 0] 139 (0, 0))
        generalize hY : Y4.alloc (Obj.cells #[.bool false, .int .i64 0, .int .i64 0] 139 (0, 0)) = Y5 at *
        clear hY
        refine hK.out _ _ (hall _ cc) (fun hH => ?_)
        clear hK K
        try simp only [Act.put, gA, gB, gC, gD, gE, gG]
        refine wpAnyH_ready (rs := [11]) (by kernel_rfl) (by simp) (AllReadyH.cons (o := _) rfl (fun K hK => ?_) AllReadyH.nil)
        go_simp
        have zzY5 := cc.size
        have ne1_0 : Y4.heap.size ≠ Y5.heap.size := Nat.ne_of_lt (on_lti qa)
        replace qa := on_oldi qa (Obj.cells #[.bool false, .int .i64 0, .int .i64 0] 139 (0, 0))
        have qb := World.alloc_heap_new Y5 (Obj.cells #[.bool false, .int .i64 0, .int .i64 0] 139 (0, 0))
        replace cc := sp_new cc (Obj.cells #[.bool false, .int .i64 0, .int .i64 0] 139 (0, 0))
        generalize hY : Y5.alloc (Obj.cells #[.bool false, .int .i64 0, .int .i64 0] 139 (0, 0)) = Y6 at *
        clear hY
        refine hK.out _ _ (hall _ cc) (fun hH => ?_)
        clear hK K
        try simp only [Act.put, gA, gB, gC, gD, gE, gG]
        refine wpAnyH_ready (rs := [12]) (by kernel_rfl) (by simp) (AllReadyH.cons (o := _) rfl (fun K hK => ?_) AllReadyH.nil)
        obtain ⟨q0, q1, q2, qf⟩ := on_cells3i qa
        go_simp
        clear q0 q1 q2 qf
        replace qb := on_far3i (b := Y4.heap.size) qb (.bool pe) (.int .i64 pl) (.int .i64 ph) (by first | assumption | exact Ne.symm (by assumption))
        replace qa := on_set3i qa (.bool pe) (.int .i64 pl) (.int .i64 ph)
        replace cc := sp_set3 (b := Y4.heap.size) cc zzY4 (.bool pe) (.int .i64 pl) (.int .i64 ph)
        generalize hY : (((Y6.setCell ⟨Y4.heap.size, 0, none⟩ (.bool pe)).setCell ⟨Y4.heap.size, 1, none⟩ (.int .i64 pl)).setCell ⟨Y4.heap.size, 2, none⟩ (.int .i64 ph)) = Y7 at *
        clear hY
        refine hK.out _ _ (hall _ cc) (fun hH => ?_)
        clear hK K
        try simp only [Act.put, gA, gB, gC, gD, gE, gG]
        refine wpAnyH_ready (rs := [13]) (by kernel_rfl) (by simp) (AllReadyH.cons (o := _) rfl (fun K hK => ?_) AllReadyH.nil)
        obtain ⟨q0, q1, q2, qf⟩ := on_cells3i qb
        go_simp
        clear q0 q1 q2 qf
        replace qa := on_far3i (b := Y5.heap.size) qa (.bool qe) (.int .i64 ql) (.int .i64 qh) (by first | assumption | exact Ne.symm (by assumption))
        replace qb := on_set3i qb (.bool qe) (.int .i64 ql) (.int .i64 qh)
        replace cc := sp_set3 (b := Y5.heap.size) cc zzY5 (.bool qe) (.int .i64 ql) (.int .i64 qh)
        generalize hY : (((Y7.setCell ⟨Y5.heap.size, 0, none⟩ (.bool qe)).setCell ⟨Y5.heap.size, 1, none⟩ (.int .i64 ql)).setCell ⟨Y5.heap.size, 2, none⟩ (.int .i64 qh)) = Y8 at *
        clear hY
        refine hK.out _ _ (hall _ cc) (fun hH => ?_)
        clear hK K
        try simp only [Act.put, gA, gB, gC, gD, gE, gG]
        refine wpAnyH_done (by kernel_rfl) ?_ _
        go_wp2_with fail
        go_meet
        exact ⟨_, _, _, rfl, rfl, rfl, qa, qb, zzY4, zzY5, cc⟩
       ·skip
        go_simp
        have zzY4 := cc.size
        have qb := World.alloc_heap_new Y4 (Obj.cells #[.bool false, .int .i64 0, .int .i64 0] 139 (0, 0))
        replace cc := sp_new cc (Obj.cells #[.bool false, .int .i64 0, .int .i64 0] 139 (0, 0))
        generalize hY : Y4.alloc (Obj.cells #[.bool false, .int .i64 0, .int .i64 0] 139 (0, 0)) = Y9 at *
        clear hY
        refine hK.out _ _ (hall _ cc) (fun hH => ?_)
        clear hK K
        try simp only [Act.put, gA, gB, gC, gD, gE, gG]
        refine wpAnyH_ready (rs := [10]) (by kernel_rfl) (by simp) (AllReadyH.cons (o := _) rfl (fun K hK => ?_) AllReadyH.nil)
        go_simp
        have zzY9 := cc.size
        have ne0_1 : Y4.heap.size ≠ Y9.heap.size := Nat.ne_of_lt (on_lti qb)
        replace qb := on_oldi qb (Obj.cells #[.bool false, .int .i64 0, .int .i64 0] 139 (0, 0))
        have qa := World.alloc_heap_new Y9 (Obj.cells #[.bool false, .int .i64 0, .int .i64 0] 139 (0, 0))
        replace cc := sp_new cc (Obj.cells #[.bool false, .int .i64 0, .int .i64 0] 139 (0, 0))
        generalize hY : Y9.alloc (Obj.cells #[.bool false, .int .i64 0, .int .i64 0] 139 (0, 0)) = Y10 at *
        clear hY
        refine hK.out _ _ (hall _ cc) (fun hH => ?_)
        clear hK K
        try simp only [Act.put, gA, gB, gC, gD, gE, gG]
        refine wpAnyH_ready (rs := [12]) (by kernel_rfl) (by simp) (AllReadyH.cons (o := _) rfl (fun K hK => ?_) AllReadyH.nil)
        obtain ⟨q0, q1, q2, qf⟩ := on_cells3i qa
        go_simp
        clear q0 q1 q2 qf
        replace qb := on_far3i (b := Y9.heap.size) qb (.bool pe) (.int .i64 pl) (.int .i64 ph) (by first | assumption | exact Ne.symm (by assumption))
        replace qa := on_set3i qa (.bool pe) (.int .i64 pl) (.int .i64 ph)
        replace cc := sp_set3 (b := Y9.heap.size) cc zzY9 (.bool pe) (.int .i64 pl) (.int .i64 ph)
        generalize hY : (((Y10.setCell ⟨Y9.heap.size, 0, none⟩ (.bool pe)).setCell ⟨Y9.heap.size, 1, none⟩ (.int .i64 pl)).setCell ⟨Y9.heap.size, 2, none⟩ (.int .i64 ph)) = Y11 at *
        clear hY
        refine hK.out _ _ (hall _ cc) (fun hH => ?_)
        clear hK K
        try simp only [Act.put, gA, gB, gC, gD, gE, gG]
        refine wpAnyH_ready (rs := [13]) (by kernel_rfl) (by simp) (AllReadyH.cons (o := _) rfl (fun K hK => ?_) AllReadyH.nil)
        obtain ⟨q0, q1, q2, qf⟩ := on_cells3i qb
        go_simp
        clear q0 q1 q2 qf
        replace qa := on_far3i (b := Y4.heap.size) qa (.bool qe) (.int .i64 ql) (.int .i64 qh) (by first | assumption | exact Ne.symm (by assumption))
        replace qb := on_set3i qb (.bool qe) (.int .i64 ql) (.int .i64 qh)
        replace cc := sp_set3 (b := Y4.heap.size) cc zzY4 (.bool qe) (.int .i64 ql) (.int .i64 qh)
        generalize hY : (((Y11.setCell ⟨Y4.heap.size, 0, none⟩ (.bool qe)).setCell ⟨Y4.heap.size, 1, none⟩ (.int .i64 ql)).setCell ⟨Y4.heap.size, 2, none⟩ (.int .i64 qh)) = Y12 at *
        clear hY
        refine hK.out _ _ (hall _ cc) (fun hH => ?_)
        clear hK K
        try simp only [Act.put, gA, gB, gC, gD, gE, gG]
        refine wpAnyH_done (by kernel_rfl) ?_ _
        go_wp2_with fail
        go_meet
        exact ⟨_, _, _, rfl, rfl, rfl, qa, qb, zzY9, zzY4, cc⟩
      ·skip
       go_simp
       have zzY3 := cc.size
       have qa := World.alloc_heap_new Y3 (Obj.cells #[.bool false, .int .i64 0, .int .i64 0] 139 (0, 0))
       replace cc := sp_new cc (Obj.cells #[.bool false, .int .i64 0, .int .i64 0] 139 (0, 0))
       generalize hY : Y3.alloc (Obj.cells #[.bool false, .int .i64 0, .int .i64 0] 139 (0, 0)) = Y13 at *
       clear hY
       refine hK.out _ _ (hall _ cc) (fun hH => ?_)
       clear hK K
       try simp only [Act.put, gA, gB, gC, gD, gE, gG]
       refine wpAnyH_ready (rs := [9, 11]) (by kernel_rfl) (by simp) (AllReadyH.cons (o := _) rfl (fun K hK => ?_) (AllReadyH.cons (o := _) rfl (fun K hK => ?_) AllReadyH.nil))
       ·skip
        go_simp
        refine (h5 _ (okc _ cc)).mono ?_
        rintro e Y14 ⟨rfl, g⟩
        replace cc := sp_call cc g
        replace qa := on_carryi g qa
        clear g
        go_wp2_with fail
        refine hK.out _ _ (hall _ cc) (fun hH => ?_)
        clear hK K
        try simp only [Act.put, gA, gB, gC, gD, gE, gG]
        refine wpAnyH_ready (rs := [11]) (by kernel_rfl) (by simp) (AllReadyH.cons (o := _) rfl (fun K hK => ?_) AllReadyH.nil)
        go_simp
        have zzY14 := cc.size
        have ne1_0 : Y3.heap.size ≠ Y14.heap.size := Nat.ne_of_lt (on_lti qa)
        replace qa := on_oldi qa (Obj.cells #[.bool false, .int .i64 0, .int .i64 0] 139 (0, 0))
        have qb := World.alloc_heap_new Y14 (Obj.cells #[.bool false, .int .i64 0, .int .i64 0] 139 (0, 0))
        replace cc := sp_new cc (Obj.cells #[.bool false, .int .i64 0, .int .i64 0] 139 (0, 0))
        generalize hY : Y14.alloc (Obj.cells #[.bool false, .int .i64 0, .int .i64 0] 139 (0, 0)) = Y15 at *
        clear hY
        refine hK.out _ _ (hall _ cc) (fun hH => ?_)
        clear hK K
        try simp only [Act.put, gA, gB, gC, gD, gE, gG]
        refine wpAnyH_ready (rs := [12]) (by kernel_rfl) (by simp) (AllReadyH.cons (o := _) rfl (fun K hK => ?_) AllReadyH.nil)
        obtain ⟨q0, q1, q2, qf⟩ := on_cells3i qa
        go_simp
        clear q0 q1 q2 qf
        replace qb := on_far3i (b := Y3.heap.size) qb (.bool pe) (.int .i64 pl) (.int .i64 ph) (by first | assumption | exact Ne.symm (by assumption))
        replace qa := on_set3i qa (.bool pe) (.int .i64 pl) (.int .i64 ph)
        replace cc := sp_set3 (b := Y3.heap.size) cc zzY3 (.bool pe) (.int .i64 pl) (.int .i64 ph)
        generalize hY : (((Y15.setCell ⟨Y3.heap.size, 0, none⟩ (.bool pe)).setCell ⟨Y3.heap.size, 1, none⟩ (.int .i64 pl)).setCell ⟨Y3.heap.size, 2, none⟩ (.int .i64 ph)) = Y16 at *
        clear hY
        refine hK.out _ _ (hall _ cc) (fun hH => ?_)
        clear hK K
        try simp only [Act.put, gA, gB, gC, gD, gE, gG]
        refine wpAnyH_ready (rs := [13]) (by kernel_rfl) (by simp) (AllReadyH.cons (o := _) rfl (fun K hK => ?_) AllReadyH.nil)
        obtain ⟨q0, q1, q2, qf⟩ := on_cells3i qb
        go_simp
        clear q0 q1 q2 qf
        replace qa := on_far3i (b := Y14.heap.size) qa (.bool qe) (.int .i64 ql) (.int .i64 qh) (by first | assumption | exact Ne.symm (by assumption))
        replace qb := on_set3i qb (.bool qe) (.int .i64 ql) (.int .i64 qh)
        replace cc := sp_set3 (b := Y14.heap.size) cc zzY14 (.bool qe) (.int .i64 ql) (.int .i64 qh)
        generalize hY : (((Y16.setCell ⟨Y14.heap.size, 0, none⟩ (.bool qe)).setCell ⟨Y14.heap.size, 1, none⟩ (.int .i64 ql)).setCell ⟨Y14.heap.size, 2, none⟩ (.int .i64 qh)) = Y17 at *
        clear hY
        refine hK.out _ _ (hall _ cc) (fun hH => ?_)
        clear hK K
        try simp only [Act.put, gA, gB, gC, gD, gE, gG]
        refine wpAnyH_done (by kernel_rfl) ?_ _
        go_wp2_with fail
        go_meet
        exact ⟨_, _, _, rfl, rfl, rfl, qa, qb, zzY3, zzY14, cc⟩
       ·skip
        go_simp
        have zzY13 := cc.size
        have ne1_0 : Y3.heap.size ≠ Y13.heap.size := Nat.ne_of_lt (on_lti qa)
        replace qa := on_oldi qa (Obj.cells #[.bool false, .int .i64 0, .int .i64 0] 139 (0, 0))
        have qb := World.alloc_heap_new Y13 (Obj.cells #[.bool false, .int .i64 0, .int .i64 0] 139 (0, 0))
        replace cc := sp_new cc (Obj.cells #[.bool false, .int .i64 0, .int .i64 0] 139 (0, 0))
        generalize hY : Y13.alloc (Obj.cells #[.bool false, .int .i64 0, .int .i64 0] 139 (0, 0)) = Y18 at *
        clear hY
        refine hK.out _ _ (hall _ cc) (fun hH => ?_)
        clear hK K
        try simp only [Act.put, gA, gB, gC, gD, gE, gG]
        refine wpAnyH_ready (rs := [9]) (by kernel_rfl) (by simp) (AllReadyH.cons (o := _) rfl (fun K hK => ?_) AllReadyH.nil)
        go_simp
        refine (h5 _ (okc _ cc)).mono ?_
        rintro e Y19 ⟨rfl, g⟩
        replace cc := sp_call cc g
        replace qa := on_carryi g qa
        replace qb := on_carryi g qb
        clear g
        go_wp2_with fail
        refine hK.out _ _ (hall _ cc) (fun hH => ?_)
        clear hK K
        try simp only [Act.put, gA, gB, gC, gD, gE, gG]
        refine wpAnyH_ready (rs := [12]) (by kernel_rfl) (by simp) (AllReadyH.cons (o := _) rfl (fun K hK => ?_) AllReadyH.nil)
        obtain ⟨q0, q1, q2, qf⟩ := on_cells3i qa
        go_simp
        clear q0 q1 q2 qf
        replace qb := on_far3i (b := Y3.heap.size) qb (.bool pe) (.int .i64 pl) (.int .i64 ph) (by first | assumption | exact Ne.symm (by assumption))
        replace qa := on_set3i qa (.bool pe) (.int .i64 pl) (.int .i64 ph)
        replace cc := sp_set3 (b := Y3.heap.size) cc zzY3 (.bool pe) (.int .i64 pl) (.int .i64 ph)
        generalize hY : (((Y19.setCell ⟨Y3.heap.size, 0, none⟩ (.bool pe)).setCell ⟨Y3.heap.size, 1, none⟩ (.int .i64 pl)).setCell ⟨Y3.heap.size, 2, none⟩ (.int .i64 ph)) = Y20 at *
        clear hY
        refine hK.out _ _ (hall _ cc) (fun hH => ?_)
        clear hK K
        try simp only [Act.put, gA, gB, gC, gD, gE, gG]
        refine wpAnyH_ready (rs := [13]) (by kernel_rfl) (by simp) (AllReadyH.cons (o := _) rfl (fun K hK => ?_) AllReadyH.nil)
        obtain ⟨q0, q1, q2, qf⟩ := on_cells3i qb
        go_simp
        clear q0 q1 q2 qf
        replace qa := on_far3i (b := Y13.heap.size) qa (.bool qe) (.int .i64 ql) (.int .i64 qh) (by first | assumption | exact Ne.symm (by assumption))
        replace qb := on_set3i qb (.bool qe) (.int .i64 ql) (.int .i64 qh)
        replace cc := sp_set3 (b := Y13.heap.size) cc zzY13 (.bool qe) (.int .i64 ql) (.int .i64 qh)
        generalize hY : (((Y20.setCell ⟨Y13.heap.size, 0, none⟩ (.bool qe)).setCell ⟨Y13.heap.size, 1, none⟩ (.int .i64 ql)).setCell ⟨Y13.heap.size, 2, none⟩ (.int .i64 qh)) = Y21 at *
        clear hY
        refine hK.out _ _ (hall _ cc) (fun hH => ?_)
        clear hK K
        try simp only [Act.put, gA, gB, gC, gD, gE, gG]
        refine wpAnyH_done (by kernel_rfl) ?_ _
        go_wp2_with fail
        go_meet
        exact ⟨_, _, _, rfl, rfl, rfl, qa, qb, zzY3, zzY13, cc⟩
      ·skip
       go_simp
       have zzY3 := cc.size
       have qb := World.alloc_heap_new Y3 (Obj.cells #[.bool false, .int .i64 0, .int .i64 0] 139 (0, 0))
       replace cc := sp_new cc (Obj.cells #[.bool false, .int .i64 0, .int .i64 0] 139 (0, 0))
       generalize hY : Y3.alloc (Obj.cells #[.bool false, .int .i64 0, .int .i64 0] 139 (0, 0)) = Y22 at *
       clear hY
       refine hK.out _ _ (hall _ cc) (fun hH => ?_)
       clear hK K
       try simp only [Act.put, gA, gB, gC, gD, gE, gG]
       refine wpAnyH_ready (rs := [9, 10]) (by kernel_rfl) (by simp) (AllReadyH.cons (o := _) rfl (fun K hK => ?_) (AllReadyH.cons (o := _) rfl (fun K hK => ?_) AllReadyH.nil))
       ·skip
        go_simp
        refine (h5 _ (okc _ cc)).mono ?_
        rintro e Y23 ⟨rfl, g⟩
        replace cc := sp_call cc g
        replace qb := on_carryi g qb
        clear g
        go_wp2_with fail
        refine hK.out _ _ (hall _ cc) (fun hH => ?_)
        clear hK K
        try simp only [Act.put, gA, gB, gC, gD, gE, gG]
        refine wpAnyH_ready (rs := [10]) (by kernel_rfl) (by simp) (AllReadyH.cons (o := _) rfl (fun K hK => ?_) AllReadyH.nil)
        go_simp
        have zzY23 := cc.size
        have ne0_1 : Y3.heap.size ≠ Y23.heap.size := Nat.ne_of_lt (on_lti qb)
        replace qb := on_oldi qb (Obj.cells #[.bool false, .int .i64 0, .int .i64 0] 139 (0, 0))
        have qa := World.alloc_heap_new Y23 (Obj.cells #[.bool false, .int .i64 0, .int .i64 0] 139 (0, 0))
        replace cc := sp_new cc (Obj.cells #[.bool false, .int .i64 0, .int .i64 0] 139 (0, 0))
        generalize hY : Y23.alloc (Obj.cells #[.bool false, .int .i64 0, .int .i64 0] 139 (0, 0)) = Y24 at *
        clear hY
        refine hK.out _ _ (hall _ cc) (fun hH => ?_)
        clear hK K
        try simp only [Act.put, gA, gB, gC, gD, gE, gG]
        refine wpAnyH_ready (rs := [12]) (by kernel_rfl) (by simp) (AllReadyH.cons (o := _) rfl (fun K hK => ?_) AllReadyH.nil)
        obtain ⟨q0, q1, q2, qf⟩ := on_cells3i qa
        go_simp
        clear q0 q1 q2 qf
        replace qb := on_far3i (b := Y23.heap.size) qb (.bool pe) (.int .i64 pl) (.int .i64 ph) (by first | assumption | exact Ne.symm (by assumption))
        replace qa := on_set3i qa (.bool pe) (.int .i64 pl) (.int .i64 ph)
        replace cc := sp_set3 (b := Y23.heap.size) cc zzY23 (.bool pe) (.int .i64 pl) (.int .i64 ph)
        generalize hY : (((Y24.setCell ⟨Y23.heap.size, 0, none⟩ (.bool pe)).setCell ⟨Y23.heap.size, 1, none⟩ (.int .i64 pl)).setCell ⟨Y23.heap.size, 2, none⟩ (.int .i64 ph)) = Y25 at *
        clear hY
        refine hK.out _ _ (hall _ cc) (fun hH => ?_)
        clear hK K
        try simp only [Act.put, gA, gB, gC, gD, gE, gG]
        refine wpAnyH_ready (rs := [13]) (by kernel_rfl) (by simp) (AllReadyH.cons (o := _) rfl (fun K hK => ?_) AllReadyH.nil)
        obtain ⟨q0, q1, q2, qf⟩ := on_cells3i qb
        go_simp
        clear q0 q1 q2 qf
        replace qa := on_far3i (b := Y3.heap.size) qa (.bool qe) (.int .i64 ql) (.int .i64 qh) (by first | assumption | exact Ne.symm (by assumption))
        replace qb := on_set3i qb (.bool qe) (.int .i64 ql) (.int .i64 qh)
        replace cc := sp_set3 (b := Y3.heap.size) cc zzY3 (.bool qe) (.int .i64 ql) (.int .i64 qh)
        generalize hY : (((Y25.setCell ⟨Y3.heap.size, 0, none⟩ (.bool qe)).setCell ⟨Y3.heap.size, 1, none⟩ (.int .i64 ql)).setCell ⟨Y3.heap.size, 2, none⟩ (.int .i64 qh)) = Y26 at *
        clear hY
        refine hK.out _ _ (hall _ cc) (fun hH => ?_)
        clear hK K
        try simp only [Act.put, gA, gB, gC, gD, gE, gG]
        refine wpAnyH_done (by kernel_rfl) ?_ _
        go_wp2_with fail
        go_meet
        exact ⟨_, _, _, rfl, rfl, rfl, qa, qb, zzY23, zzY3, cc⟩
       ·skip
        go_simp
        have zzY22 := cc.size
        have ne0_1 : Y3.heap.size ≠ Y22.heap.size := Nat.ne_of_lt (on_lti qb)
        replace qb := on_oldi qb (Obj.cells #[.bool false, .int .i64 0, .int .i64 0] 139 (0, 0))
        have qa := World.alloc_heap_new Y22 (Obj.cells #[.bool false, .int .i64 0, .int .i64 0] 139 (0, 0))
        replace cc := sp_new cc (Obj.cells #[.bool false, .int .i64 0, .int .i64 0] 139 (0, 0))
        generalize hY : Y22.alloc (Obj.cells #[.bool false, .int .i64 0, .int .i64 0] 139 (0, 0)) = Y27 at *
        clear hY
        refine hK.out _ _ (hall _ cc) (fun hH => ?_)
        clear hK K
        try simp only [Act.put, gA, gB, gC, gD, gE, gG]
        refine wpAnyH_ready (rs := [9]) (by kernel_rfl) (by simp) (AllReadyH.cons (o := _) rfl (fun K hK => ?_) AllReadyH.nil)
        go_simp
        refine (h5 _ (okc _ cc)).mono ?_
        rintro e Y28 ⟨rfl, g⟩
        replace cc := sp_call cc g
        replace qa := on_carryi g qa
        replace qb := on_carryi g qb
        clear g
        go_wp2_with fail
        refine hK.out _ _ (hall _ cc) (fun hH => ?_)
        clear hK K
        try simp only [Act.put, gA, gB, gC, gD, gE, gG]
        refine wpAnyH_ready (rs := [12]) (by kernel_rfl) (by simp) (AllReadyH.cons (o := _) rfl (fun K hK => ?_) AllReadyH.nil)
        obtain ⟨q0, q1, q2, qf⟩ := on_cells3i qa
        go_simp
        clear q0 q1 q2 qf
        replace qb := on_far3i (b := Y22.heap.size) qb (.bool pe) (.int .i64 pl) (.int .i64 ph) (by first | assumption | exact Ne.symm (by assumption))
        replace qa := on_set3i qa (.bool pe) (.int .i64 pl) (.int .i64 ph)
        replace cc := sp_set3 (b := Y22.heap.size) cc zzY22 (.bool pe) (.int .i64 pl) (.int .i64 ph)
        generalize hY : (((Y28.setCell ⟨Y22.heap.size, 0, none⟩ (.bool pe)).setCell ⟨Y22.heap.size, 1, none⟩ (.int .i64 pl)).setCell ⟨Y22.heap.size, 2, none⟩ (.int .i64 ph)) = Y29 at *
        clear hY
        refine hK.out _ _ (hall _ cc) (fun hH => ?_)
        clear hK K
        try simp only [Act.put, gA, gB, gC, gD, gE, gG]
        refine wpAnyH_ready (rs := [13]) (by kernel_rfl) (by simp) (AllReadyH.cons (o := _) rfl (fun K hK => ?_) AllReadyH.nil)
        obtain ⟨q0, q1, q2, qf⟩ := on_cells3i qb
        go_simp
        clear q0 q1 q2 qf
        replace qa := on_far3i (b := Y3.heap.size) qa (.bool qe) (.int .i64 ql) (.int .i64 qh) (by first | assumption | exact Ne.symm (by assumption))
        replace qb := on_set3i qb (.bool qe) (.int .i64 ql) (.int .i64 qh)
        replace cc := sp_set3 (b := Y3.heap.size) cc zzY3 (.bool qe) (.int .i64 ql) (.int .i64 qh)
        generalize hY : (((Y29.setCell ⟨Y3.heap.size, 0, none⟩ (.bool qe)).setCell ⟨Y3.heap.size, 1, none⟩ (.int .i64 ql)).setCell ⟨Y3.heap.size, 2, none⟩ (.int .i64 qh)) = Y30 at *
        clear hY
        refine hK.out _ _ (hall _ cc) (fun hH => ?_)
        clear hK K
        try simp only [Act.put, gA, gB, gC, gD, gE, gG]
        refine wpAnyH_done (by kernel_rfl) ?_ _
        go_wp2_with fail
        go_meet
        exact ⟨_, _, _, rfl, rfl, rfl, qa, qb, zzY22, zzY3, cc⟩
     ·skip
      go_simp
      have zzY2 := cc.size
      have qa := World.alloc_heap_new Y2 (Obj.cells #[.bool false, .int .i64 0, .int .i64 0] 139 (0, 0))
      replace cc := sp_new cc (Obj.cells #[.bool false, .int .i64 0, .int .i64 0] 139 (0, 0))
      generalize hY : Y2.alloc (Obj.cells #[.bool false, .int .i64 0, .int .i64 0] 139 (0, 0)) = Y31 at *
      clear hY
      refine hK.out _ _ (hall _ cc) (fun hH => ?_)
      clear hK K
      try simp only [Act.put, gA, gB, gC, gD, gE, gG]
      refine wpAnyH_ready (rs := [8, 11]) (by kernel_rfl) (by simp) (AllReadyH.cons (o := _) rfl (fun K hK => ?_) (AllReadyH.cons (o := _) rfl (fun K hK => ?_) AllReadyH.nil))
      ·skip
       go_simp
       refine (h4 _).mono ?_
       rintro e Y32 ⟨rfl, g⟩
       replace cc := sp_call cc g
       replace qa := on_carryi g qa
       clear g
       go_wp2_with fail
       refine hK.out _ _ (hall _ cc) (fun hH => ?_)
       clear hK K
       try simp only [Act.put, gA, gB, gC, gD, gE, gG]
       refine wpAnyH_ready (rs := [9, 11]) (by kernel_rfl) (by simp) (AllReadyH.cons (o := _) rfl (fun K hK => ?_) (AllReadyH.cons (o := _) rfl (fun K hK => ?_) AllReadyH.nil))
       ·skip
        go_simp
        refine (h5 _ (okc _ cc)).mono ?_
        rintro e Y33 ⟨rfl, g⟩
        replace cc := sp_call cc g
        replace qa := on_carryi g qa
        clear g
        go_wp2_with fail
        refine hK.out _ _ (hall _ cc) (fun hH => ?_)
        clear hK K
        try simp only [Act.put, gA, gB, gC, gD, gE, gG]
        refine wpAnyH_ready (rs := [11]) (by kernel_rfl) (by simp) (AllReadyH.cons (o := _) rfl (fun K hK => ?_) AllReadyH.nil)
        go_simp
        have zzY33 := cc.size
        have ne1_0 : Y2.heap.size ≠ Y33.heap.size := Nat.ne_of_lt (on_lti qa)
        replace qa := on_oldi qa (Obj.cells #[.bool false, .int .i64 0, .int .i64 0] 139 (0, 0))
        have qb := World.alloc_heap_new Y33 (Obj.cells #[.bool false, .int .i64 0, .int .i64 0] 139 (0, 0))
        replace cc := sp_new cc (Obj.cells #[.bool false, .int .i64 0, .int .i64 0] 139 (0, 0))
        generalize hY : Y33.alloc (Obj.cells #[.bool false, .int .i64 0, .int .i64 0] 139 (0, 0)) = Y34 at *
        clear hY
        refine hK.out _ _ (hall _ cc) (fun hH => ?_)
        clear hK K
        try simp only [Act.put, gA, gB, gC, gD, gE, gG]
        refine wpAnyH_ready (rs := [12]) (by kernel_rfl) (by simp) (AllReadyH.cons (o := _) rfl (fun K hK => ?_) AllReadyH.nil)
        obtain ⟨q0, q1, q2, qf⟩ := on_cells3i qa
        go_simp
        clear q0 q1 q2 qf
        replace qb := on_far3i (b := Y2.heap.size) qb (.bool pe) (.int .i64 pl) (.int .i64 ph) (by first | assumption | exact Ne.symm (by assumption))
        replace qa := on_set3i qa (.bool pe) (.int .i64 pl) (.int .i64 ph)
        replace cc := sp_set3 (b := Y2.heap.size) cc zzY2 (.bool pe) (.int .i64 pl) (.int .i64 ph)
        generalize hY : (((Y34.setCell ⟨Y2.heap.size, 0, none⟩ (.bool pe)).setCell ⟨Y2.heap.size, 1, none⟩ (.int .i64 pl)).setCell ⟨Y2.heap.size, 2, none⟩ (.int .i64 ph)) = Y35 at *
        clear hY
        refine hK.out _ _ (hall _ cc) (fun hH => ?_)
        clear hK K
        try simp only [Act.put, gA, gB, gC, gD, gE, gG]
        refine wpAnyH_ready (rs := [13]) (by kernel_rfl) (by simp) (AllReadyH.cons (o := _) rfl (fun K hK => ?_) AllReadyH.nil)
        obtain ⟨q0, q1, q2, qf⟩ := on_cells3i qb
        go_simp
        clear q0 q1 q2 qf
        replace qa := on_far3i (b := Y33.heap.size) qa (.bool qe) (.int .i64 ql) (.int .i64 qh) (by first | assumption | exact Ne.symm (by assumption))
        replace qb := on_set3i qb (.bool qe) (.int .i64 ql) (.int .i64 qh)
        replace cc := sp_set3 (b := Y33.heap.size) cc zzY33 (.bool qe) (.int .i64 ql) (.int .i64 qh)
        generalize hY : (((Y35.setCell ⟨Y33.heap.size, 0, none⟩ (.bool qe)).setCell ⟨Y33.heap.size, 1, none⟩ (.int .i64 ql)).setCell ⟨Y33.heap.size, 2, none⟩ (.int .i64 qh)) = Y36 at *
        clear hY
        refine hK.out _ _ (hall _ cc) (fun hH => ?_)
        clear hK K
        try simp only [Act.put, gA, gB, gC, gD, gE, gG]
        refine wpAnyH_done (by kernel_rfl) ?_ _
        go_wp2_with fail
        go_meet
        exact ⟨_, _, _, rfl, rfl, rfl, qa, qb, zzY2, zzY33, cc⟩
       ·skip
        go_simp
        have zzY32 := cc.size
        have ne1_0 : Y2.heap.size ≠ Y32.heap.size := Nat.ne_of_lt (on_lti qa)
        replace qa := on_oldi qa (Obj.cells #[.bool false, .int .i64 0, .int .i64 0] 139 (0, 0))
        have qb := World.alloc_heap_new Y32 (Obj.cells #[.bool false, .int .i64 0, .int .i64 0] 139 (0, 0))
        replace cc := sp_new cc (Obj.cells #[.bool false, .int .i64 0, .int .i64 0] 139 (0, 0))
        generalize hY : Y32.alloc (Obj.cells #[.bool false, .int .i64 0, .int .i64 0] 139 (0, 0)) = Y37 at *
        clear hY
        refine hK.out _ _ (hall _ cc) (fun hH => ?_)
        clear hK K
        try simp only [Act.put, gA, gB, gC, gD, gE, gG]
        refine wpAnyH_ready (rs := [9]) (by kernel_rfl) (by simp) (AllReadyH.cons (o := _) rfl (fun K hK => ?_) AllReadyH.nil)
        go_simp
        refine (h5 _ (okc _ cc)).mono ?_
        rintro e Y38 ⟨rfl, g⟩
        replace cc := sp_call cc g
        replace qa := on_carryi g qa
        replace qb := on_carryi g qb
        clear g
        go_wp2_with fail
        refine hK.out _ _ (hall _ cc) (fun hH => ?_)
        clear hK K
        try simp only [Act.put, gA, gB, gC, gD, gE, gG]
        refine wpAnyH_ready (rs := [12]) (by kernel_rfl) (by simp) (AllReadyH.cons (o := _) rfl (fun K hK => ?_) AllReadyH.nil)
        obtain ⟨q0, q1, q2, qf⟩ := on_cells3i qa
        go_simp
        clear q0 q1 q2 qf
        replace qb := on_far3i (b := Y2.heap.size) qb (.bool pe) (.int .i64 pl) (.int .i64 ph) (by first | assumption | exact Ne.symm (by assumption))
        replace qa := on_set3i qa (.bool pe) (.int .i64 pl) (.int .i64 ph)
        replace cc := sp_set3 (b := Y2.heap.size) cc zzY2 (.bool pe) (.int .i64 pl) (.int .i64 ph)
        generalize hY : (((Y38.setCell ⟨Y2.heap.size, 0, none⟩ (.bool pe)).setCell ⟨Y2.heap.size, 1, none⟩ (.int .i64 pl)).setCell ⟨Y2.heap.size, 2, none⟩ (.int .i64 ph)) = Y39 at *
        clear hY
        refine hK.out _ _ (hall _ cc) (fun hH => ?_)
        clear hK K
        try simp only [Act.put, gA, gB, gC, gD, gE, gG]
        refine wpAnyH_ready (rs := [13]) (by kernel_rfl) (by simp) (AllReadyH.cons (o := _) rfl (fun K hK => ?_) AllReadyH.nil)
        obtain ⟨q0, q1, q2, qf⟩ := on_cells3i qb
        go_simp
        clear q0 q1 q2 qf
        replace qa := on_far3i (b := Y32.heap.size) qa (.bool qe) (.int .i64 ql) (.int .i64 qh) (by first | assumption | exact Ne.symm (by assumption))
        replace qb := on_set3i qb (.bool qe) (.int .i64 ql) (.int .i64 qh)
        replace cc := sp_set3 (b := Y32.heap.size) cc zzY32 (.bool qe) (.int .i64 ql) (.int .i64 qh)
        generalize hY : (((Y39.setCell ⟨Y32.heap.size, 0, none⟩ (.bool qe)).setCell ⟨Y32.heap.size, 1, none⟩ (.int .i64 ql)).setCell ⟨Y32.heap.size, 2, none⟩ (.int .i64 qh)) = Y40 at *
        clear hY
        refine hK.out _ _ (hall _ cc) (fun hH => ?_)
        clear hK K
        try simp only [Act.put, gA, gB, gC, gD, gE, gG]
        refine wpAnyH_done (by kernel_rfl) ?_ _
        go_wp2_with fail
        go_meet
        exact ⟨_, _, _, rfl, rfl, rfl, qa, qb, zzY2, zzY32, cc⟩
      ·skip
       go_simp
       have zzY31 := cc.size
       have ne1_0 : Y2.heap.size ≠ Y31.heap.size := Nat.ne_of_lt (on_lti qa)
       replace qa := on_oldi qa (Obj.cells #[.bool false, .int .i64 0, .int .i64 0] 139 (0, 0))
       have qb := World.alloc_heap_new Y31 (Obj.cells #[.bool false, .int .i64 0, .int .i64 0] 139 (0, 0))
       replace cc := sp_new cc (Obj.cells #[.bool false, .int .i64 0, .int .i64 0] 139 (0, 0))
       generalize hY : Y31.alloc (Obj.cells #[.bool false, .int .i64 0, .int .i64 0] 139 (0, 0)) = Y41 at *
       clear hY
       refine hK.out _ _ (hall _ cc) (fun hH => ?_)
       clear hK K
       try simp only [Act.put, gA, gB, gC, gD, gE, gG]
       refine wpAnyH_ready (rs := [8]) (by kernel_rfl) (by simp) (AllReadyH.cons (o := _) rfl (fun K hK => ?_) AllReadyH.nil)
       go_simp
       refine (h4 _).mono ?_
       rintro e Y42 ⟨rfl, g⟩
       replace cc := sp_call cc g
       replace qa := on_carryi g qa
       replace qb := on_carryi g qb
       clear g
       go_wp2_with fail
       refine hK.out _ _ (hall _ cc) (fun hH => ?_)
       clear hK K
       try simp only [Act.put, gA, gB, gC, gD, gE, gG]
       refine wpAnyH_ready (rs := [9]) (by kernel_rfl) (by simp) (AllReadyH.cons (o := _) rfl (fun K hK => ?_) AllReadyH.nil)
       go_simp
       refine (h5 _ (okc _ cc)).mono ?_
       rintro e Y43 ⟨rfl, g⟩
       replace cc := sp_call cc g
       replace qa := on_carryi g qa
       replace qb := on_carryi g qb
       clear g
       go_wp2_with fail
       refine hK.out _ _ (hall _ cc) (fun hH => ?_)
       clear hK K
       try simp only [Act.put, gA, gB, gC, gD, gE, gG]
       refine wpAnyH_ready (rs := [12]) (by kernel_rfl) (by simp) (AllReadyH.cons (o := _) rfl (fun K hK => ?_) AllReadyH.nil)
       obtain ⟨q0, q1, q2, qf⟩ := on_cells3i qa
       go_simp
       clear q0 q1 q2 qf
       replace qb := on_far3i (b := Y2.heap.size) qb (.bool pe) (.int .i64 pl) (.int .i64 ph) (by first | assumption | exact Ne.symm (by assumption))
       replace qa := on_set3i qa (.bool pe) (.int .i64 pl) (.int .i64 ph)
       replace cc := sp_set3 (b := Y2.heap.size) cc zzY2 (.bool pe) (.int .i64 pl) (.int .i64 ph)
       generalize hY : (((Y43.setCell ⟨Y2.heap.size, 0, none⟩ (.bool pe)).setCell ⟨Y2.heap.size, 1, none⟩ (.int .i64 pl)).setCell ⟨Y2.heap.size, 2, none⟩ (.int .i64 ph)) = Y44 at *
       clear hY
       refine hK.out _ _ (hall _ cc) (fun hH => ?_)
       clear hK K
       try simp only [Act.put, gA, gB, gC, gD, gE, gG]
       refine wpAnyH_ready (rs := [13]) (by kernel_rfl) (by simp) (AllReadyH.cons (o := _) rfl (fun K hK => ?_) AllReadyH.nil)
       obtain ⟨q0, q1, q2, qf⟩ := on_cells3i qb
       go_simp
       clear q0 q1 q2 qf
       replace qa := on_far3i (b := Y31.heap.size) qa (.bool qe) (.int .i64 ql) (.int .i64 qh) (by first | assumption | exact Ne.symm (by assumption))
       replace qb := on_set3i qb (.bool qe) (.int .i64 ql) (.int .i64 qh)
       replace cc := sp_set3 (b := Y31.heap.size) cc zzY31 (.bool qe) (.int .i64 ql) (.int .i64 qh)
       generalize hY : (((Y44.setCell ⟨Y31.heap.size, 0, none⟩ (.bool qe)).setCell ⟨Y31.heap.size, 1, none⟩ (.int .i64 ql)).setCell ⟨Y31.heap.size, 2, none⟩ (.int .i64 qh)) = Y45 at *
       clear hY
       refine hK.out _ _ (hall _ cc) (fun hH => ?_)
       clear hK K
       try simp only [Act.put, gA, gB, gC, gD, gE, gG]
       refine wpAnyH_done (by kernel_rfl) ?_ _
       go_wp2_with fail
       go_meet
       exact ⟨_, _, _, rfl, rfl, rfl, qa, qb, zzY2, zzY31, cc⟩
     ·skip
      go_simp
      have zzY2 := cc.size
      have qb := World.alloc_heap_new Y2 (Obj.cells #[.bool false, .int .i64 0, .int .i64 0] 139 (0, 0))
      replace cc := sp_new cc (Obj.cells #[.bool false, .int .i64 0, .int .i64 0] 139 (0, 0))
      generalize hY : Y2.alloc (Obj.cells #[.bool false, .int .i64 0, .int .i64 0] 139 (0, 0)) = Y46 at *
      clear hY
      refine hK.out _ _ (hall _ cc) (fun hH => ?_)
      clear hK K
      try simp only [Act.put, gA, gB, gC, gD, gE, gG]
      refine wpAnyH_ready (rs := [8, 10]) (by kernel_rfl) (by simp) (AllReadyH.cons (o := _) rfl (fun K hK => ?_) (AllReadyH.cons (o := _) rfl (fun K hK => ?_) AllReadyH.nil))
      ·skip
       go_simp
       refine (h4 _).mono ?_
       rintro e Y47 ⟨rfl, g⟩
       replace cc := sp_call cc g
       replace qb := on_carryi g qb
       clear g
       go_wp2_with fail
       refine hK.out _ _ (hall _ cc) (fun hH => ?_)
       clear hK K
       try simp only [Act.put, gA, gB, gC, gD, gE, gG]
       refine wpAnyH_ready (rs := [9, 10]) (by kernel_rfl) (by simp) (AllReadyH.cons (o := _) rfl (fun K hK => ?_) (AllReadyH.cons (o := _) rfl (fun K hK => ?_) AllReadyH.nil))
       ·skip
        go_simp
        refine (h5 _ (okc _ cc)).mono ?_
        rintro e Y48 ⟨rfl, g⟩
        replace cc := sp_call cc g
        replace qb := on_carryi g qb
        clear g
        go_wp2_with fail
        refine hK.out _ _ (hall _ cc) (fun hH => ?_)
        clear hK K
        try simp only [Act.put, gA, gB, gC, gD, gE, gG]
        refine wpAnyH_ready (rs := [10]) (by kernel_rfl) (by simp) (AllReadyH.cons (o := _) rfl (fun K hK => ?_) AllReadyH.nil)
        go_simp
        have zzY48 := cc.size
        have ne0_1 : Y2.heap.size ≠ Y48.heap.size := Nat.ne_of_lt (on_lti qb)
        replace qb := on_oldi qb (Obj.cells #[.bool false, .int .i64 0, .int .i64 0] 139 (0, 0))
        have qa := World.alloc_heap_new Y48 (Obj.cells #[.bool false, .int .i64 0, .int .i64 0] 139 (0, 0))
        replace cc := sp_new cc (Obj.cells #[.bool false, .int .i64 0, .int .i64 0] 139 (0, 0))
        generalize hY : Y48.alloc (Obj.cells #[.bool false, .int .i64 0, .int .i64 0] 139 (0, 0)) = Y49 at *
        clear hY
        refine hK.out _ _ (hall _ cc) (fun hH => ?_)
        clear hK K
        try simp only [Act.put, gA, gB, gC, gD, gE, gG]
        refine wpAnyH_ready (rs := [12]) (by kernel_rfl) (by simp) (AllReadyH.cons (o := _) rfl (fun K hK => ?_) AllReadyH.nil)
        obtain ⟨q0, q1, q2, qf⟩ := on_cells3i qa
        go_simp
        clear q0 q1 q2 qf
        replace qb := on_far3i (b := Y48.heap.size) qb (.bool pe) (.int .i64 pl) (.int .i64 ph) (by first | assumption | exact Ne.symm (by assumption))
        replace qa := on_set3i qa (.bool pe) (.int .i64 pl) (.int .i64 ph)
        replace cc := sp_set3 (b := Y48.heap.size) cc zzY48 (.bool pe) (.int .i64 pl) (.int .i64 ph)
        generalize hY : (((Y49.setCell ⟨Y48.heap.size, 0, none⟩ (.bool pe)).setCell ⟨Y48.heap.size, 1, none⟩ (.int .i64 pl)).setCell ⟨Y48.heap.size, 2, none⟩ (.int .i64 ph)) = Y50 at *
        clear hY
        refine hK.out _ _ (hall _ cc) (fun hH => ?_)
        clear hK K
        try simp only [Act.put, gA, gB, gC, gD, gE, gG]
        refine wpAnyH_ready (rs := [13]) (by kernel_rfl) (by simp) (AllReadyH.cons (o := _) rfl (fun K hK => ?_) AllReadyH.nil)
        obtain ⟨q0, q1, q2, qf⟩ := on_cells3i qb
        go_simp
        clear q0 q1 q2 qf
        replace qa := on_far3i (b := Y2.heap.size) qa (.bool qe) (.int .i64 ql) (.int .i64 qh) (by first | assumption | exact Ne.symm (by assumption))
        replace qb := on_set3i qb (.bool qe) (.int .i64 ql) (.int .i64 qh)
        replace cc := sp_set3 (b := Y2.heap.size) cc zzY2 (.bool qe) (.int .i64 ql) (.int .i64 qh)
        generalize hY : (((Y50.setCell ⟨Y2.heap.size, 0, none⟩ (.bool qe)).setCell ⟨Y2.heap.size, 1, none⟩ (.int .i64 ql)).setCell ⟨Y2.heap.size, 2, none⟩ (.int .i64 qh)) = Y51 at *
        clear hY
        refine hK.out _ _ (hall _ cc) (fun hH => ?_)
        clear hK K
        try simp only [Act.put, gA, gB, gC, gD, gE, gG]
        refine wpAnyH_done (by kernel_rfl) ?_ _
        go_wp2_with fail
        go_meet
        exact ⟨_, _, _, rfl, rfl, rfl, qa, qb, zzY48, zzY2, cc⟩
       ·skip
        go_simp
        have zzY47 := cc.size
        have ne0_1 : Y2.heap.size ≠ Y47.heap.size := Nat.ne_of_lt (on_lti qb)
        replace qb := on_oldi qb (Obj.cells #[.bool false, .int .i64 0, .int .i64 0] 139 (0, 0))
        have qa := World.alloc_heap_new Y47 (Obj.cells #[.bool false, .int .i64 0, .int .i64 0] 139 (0, 0))
        replace cc := sp_new cc (Obj.cells #[.bool false, .int .i64 0, .int .i64 0] 139 (0, 0))
        generalize hY : Y47.alloc (Obj.cells #[.bool false, .int .i64 0, .int .i64 0] 139 (0, 0)) = Y52 at *
        clear hY
        refine hK.out _ _ (hall _ cc) (fun hH => ?_)
        clear hK K
        try simp only [Act.put, gA, gB, gC, gD, gE, gG]
        refine wpAnyH_ready (rs := [9]) (by kernel_rfl) (by simp) (AllReadyH.cons (o := _) rfl (fun K hK => ?_) AllReadyH.nil)
        go_simp
        refine (h5 _ (okc _ cc)).mono ?_
        rintro e Y53 ⟨rfl, g⟩
        replace cc := sp_call cc g
        replace qa := on_carryi g qa
        replace qb := on_carryi g qb
        clear g
        go_wp2_with fail
        refine hK.out _ _ (hall _ cc) (fun hH => ?_)
        clear hK K
        try simp only [Act.put, gA, gB, gC, gD, gE, gG]
        refine wpAnyH_ready (rs := [12]) (by kernel_rfl) (by simp) (AllReadyH.cons (o := _) rfl (fun K hK => ?_) AllReadyH.nil)
        obtain ⟨q0, q1, q2, qf⟩ := on_cells3i qa
        go_simp
        clear q0 q1 q2 qf
        replace qb := on_far3i (b := Y47.heap.size) qb (.bool pe) (.int .i64 pl) (.int .i64 ph) (by first | assumption | exact Ne.symm (by assumption))
        replace qa := on_set3i qa (.bool pe) (.int .i64 pl) (.int .i64 ph)
        replace cc := sp_set3 (b := Y47.heap.size) cc zzY47 (.bool pe) (.int .i64 pl) (.int .i64 ph)
        generalize hY : (((Y53.setCell ⟨Y47.heap.size, 0, none⟩ (.bool pe)).setCell ⟨Y47.heap.size, 1, none⟩ (.int .i64 pl)).setCell ⟨Y47.heap.size, 2, none⟩ (.int .i64 ph)) = Y54 at *
        clear hY
        refine hK.out _ _ (hall _ cc) (fun hH => ?_)
        clear hK K
        try simp only [Act.put, gA, gB, gC, gD, gE, gG]
        refine wpAnyH_ready (rs := [13]) (by kernel_rfl) (by simp) (AllReadyH.cons (o := _) rfl (fun K hK => ?_) AllReadyH.nil)
        obtain ⟨q0, q1, q2, qf⟩ := on_cells3i qb
        go_simp
        clear q0 q1 q2 qf
        replace qa := on_far3i (b := Y2.heap.size) qa (.bool qe) (.int .i64 ql) (.int .i64 qh) (by first | assumption | exact Ne.symm (by assumption))
        replace qb := on_set3i qb (.bool qe) (.int .i64 ql) (.int .i64 qh)
        replace cc := sp_set3 (b := Y2.heap.size) cc zzY2 (.bool qe) (.int .i64 ql) (.int .i64 qh)
        generalize hY : (((Y54.setCell ⟨Y2.heap.size, 0, none⟩ (.bool qe)).setCell ⟨Y2.heap.size, 1, none⟩ (.int .i64 ql)).setCell ⟨Y2.heap.size, 2, none⟩ (.int .i64 qh)) = Y55 at *
        clear hY
        refine hK.out _ _ (hall _ cc) (fun hH => ?_)
        clear hK K
        try simp only [Act.put, gA, gB, gC, gD, gE, gG]
        refine wpAnyH_done (by kernel_rfl) ?_ _
        go_wp2_with fail
        go_meet
        exact ⟨_, _, _, rfl, rfl, rfl, qa, qb, zzY47, zzY2, cc⟩
      ·skip
       go_simp
       have zzY46 := cc.size
       have ne0_1 : Y2.heap.size ≠ Y46.heap.size := Nat.ne_of_lt (on_lti qb)
       replace qb := on_oldi qb (Obj.cells #[.bool false, .int .i64 0, .int .i64 0] 139 (0, 0))
       have qa := World.alloc_heap_new Y46 (Obj.cells #[.bool false, .int .i64 0, .int .i64 0] 139 (0, 0))
       replace cc := sp_new cc (Obj.cells #[.bool false, .int .i64 0, .int .i64 0] 139 (0, 0))
       generalize hY : Y46.alloc (Obj.cells #[.bool false, .int .i64 0, .int .i64 0] 139 (0, 0)) = Y56 at *
       clear hY
       refine hK.out _ _ (hall _ cc) (fun hH => ?_)
       clear hK K
       try simp only [Act.put, gA, gB, gC, gD, gE, gG]
       refine wpAnyH_ready (rs := [8]) (by kernel_rfl) (by simp) (AllReadyH.cons (o := _) rfl (fun K hK => ?_) AllReadyH.nil)
       go_simp
       refine (h4 _).mono ?_
       rintro e Y57 ⟨rfl, g⟩
       replace cc := sp_call cc g
       replace qa := on_carryi g qa
       replace qb := on_carryi g qb
       clear g
       go_wp2_with fail
       refine hK.out _ _ (hall _ cc) (fun hH => ?_)
       clear hK K
       try simp only [Act.put, gA, gB, gC, gD, gE, gG]
       refine wpAnyH_ready (rs := [9]) (by kernel_rfl) (by simp) (AllReadyH.cons (o := _) rfl (fun K hK => ?_) AllReadyH.nil)
       go_simp
       refine (h5 _ (okc _ cc)).mono ?_
       rintro e Y58 ⟨rfl, g⟩
       replace cc := sp_call cc g
       replace qa := on_carryi g qa
       replace qb := on_carryi g qb
       clear g
       go_wp2_with fail
       refine hK.out _ _ (hall _ cc) (fun hH => ?_)
       clear hK K
       try simp only [Act.put, gA, gB, gC, gD, gE, gG]
       refine wpAnyH_ready (rs := [12]) (by kernel_rfl) (by simp) (AllReadyH.cons (o := _) rfl (fun K hK => ?_) AllReadyH.nil)
       obtain ⟨q0, q1, q2, qf⟩ := on_cells3i qa
       go_simp
       clear q0 q1 q2 qf
       replace qb := on_far3i (b := Y46.heap.size) qb (.bool pe) (.int .i64 pl) (.int .i64 ph) (by first | assumption | exact Ne.symm (by assumption))
       replace qa := on_set3i qa (.bool pe) (.int .i64 pl) (.int .i64 ph)
       replace cc := sp_set3 (b := Y46.heap.size) cc zzY46 (.bool pe) (.int .i64 pl) (.int .i64 ph)
       generalize hY : (((Y58.setCell ⟨Y46.heap.size, 0, none⟩ (.bool pe)).setCell ⟨Y46.heap.size, 1, none⟩ (.int .i64 pl)).setCell ⟨Y46.heap.size, 2, none⟩ (.int .i64 ph)) = Y59 at *
       clear hY
       refine hK.out _ _ (hall _ cc) (fun hH => ?_)
       clear hK K
       try simp only [Act.put, gA, gB, gC, gD, gE, gG]
       refine wpAnyH_ready (rs := [13]) (by kernel_rfl) (by simp) (AllReadyH.cons (o := _) rfl (fun K hK => ?_) AllReadyH.nil)
       obtain ⟨q0, q1, q2, qf⟩ := on_cells3i qb
       go_simp
       clear q0 q1 q2 qf
       replace qa := on_far3i (b := Y2.heap.size) qa (.bool qe) (.int .i64 ql) (.int .i64 qh) (by first | assumption | exact Ne.symm (by assumption))
       replace qb := on_set3i qb (.bool qe) (.int .i64 ql) (.int .i64 qh)
       replace cc := sp_set3 (b := Y2.heap.size) cc zzY2 (.bool qe) (.int .i64 ql) (.int .i64 qh)
       generalize hY : (((Y59.setCell ⟨Y2.heap.size, 0, none⟩ (.bool qe)).setCell ⟨Y2.heap.size, 1, none⟩ (.int .i64 ql)).setCell ⟨Y2.heap.size, 2, none⟩ (.int .i64 qh)) = Y60 at *
       clear hY
       refine hK.out _ _ (hall _ cc) (fun hH => ?_)
       clear hK K
       try simp only [Act.put, gA, gB, gC, gD, gE, gG]
       refine wpAnyH_done (by kernel_rfl) ?_ _
       go_wp2_with fail
       go_meet
       exact ⟨_, _, _, rfl, rfl, rfl, qa, qb, zzY46, zzY2, cc⟩
    ·skip
     go_simp
     have zzY1 := cc.size
     have qa := World.alloc_heap_new Y1 (Obj.cells #[.bool false, .int .i64 0, .int .i64 0] 139 (0, 0))
     replace cc := sp_new cc (Obj.cells #[.bool false, .int .i64 0, .int .i64 0] 139 (0, 0))
     generalize hY : Y1.alloc (Obj.cells #[.bool false, .int .i64 0, .int .i64 0] 139 (0, 0)) = Y61 at *
     clear hY
     refine hK.out _ _ (hall _ cc) (fun hH => ?_)
     clear hK K
     try simp only [Act.put, gA, gB, gC, gD, gE, gG]
     refine wpAnyH_ready (rs := [4, 11]) (by kernel_rfl) (by simp) (AllReadyH.cons (o := _) rfl (fun K hK => ?_) (AllReadyH.cons (o := _) rfl (fun K hK => ?_) AllReadyH.nil))
     ·skip
      go_simp
      refine (h3 _ (okc _ cc)).mono ?_
      rintro e Y62 ⟨rfl, g⟩
      replace cc := sp_call cc g
      replace qa := on_carryi g qa
      clear g
      go_wp2_with fail
      refine hK.out _ _ (hall _ cc) (fun hH => ?_)
      clear hK K
      try simp only [Act.put, gA, gB, gC, gD, gE, gG]
      refine wpAnyH_ready (rs := [8, 11]) (by kernel_rfl) (by simp) (AllReadyH.cons (o := _) rfl (fun K hK => ?_) (AllReadyH.cons (o := _) rfl (fun K hK => ?_) AllReadyH.nil))
      ·skip
       go_simp
       refine (h4 _).mono ?_
       rintro e Y63 ⟨rfl, g⟩
       replace cc := sp_call cc g
       replace qa := on_carryi g qa
       clear g
       go_wp2_with fail
       refine hK.out _ _ (hall _ cc) (fun hH => ?_)
       clear hK K
       try simp only [Act.put, gA, gB, gC, gD, gE, gG]
       refine wpAnyH_ready (rs := [9, 11]) (by kernel_rfl) (by simp) (AllReadyH.cons (o := _) rfl (fun K hK => ?_) (AllReadyH.cons (o := _) rfl (fun K hK => ?_) AllReadyH.nil))
       ·skip
        go_simp
        refine (h5 _ (okc _ cc)).mono ?_
        rintro e Y64 ⟨rfl, g⟩
        replace cc := sp_call cc g
        replace qa := on_carryi g qa
        clear g
        go_wp2_with fail
        refine hK.out _ _ (hall _ cc) (fun hH => ?_)
        clear hK K
        try simp only [Act.put, gA, gB, gC, gD, gE, gG]
        refine wpAnyH_ready (rs := [11]) (by kernel_rfl) (by simp) (AllReadyH.cons (o := _) rfl (fun K hK => ?_) AllReadyH.nil)
        go_simp
        have zzY64 := cc.size
        have ne1_0 : Y1.heap.size ≠ Y64.heap.size := Nat.ne_of_lt (on_lti qa)
        replace qa := on_oldi qa (Obj.cells #[.bool false, .int .i64 0, .int .i64 0] 139 (0, 0))
        have qb := World.alloc_heap_new Y64 (Obj.cells #[.bool false, .int .i64 0, .int .i64 0] 139 (0, 0))
        replace cc := sp_new cc (Obj.cells #[.bool false, .int .i64 0, .int .i64 0] 139 (0, 0))
        generalize hY : Y64.alloc (Obj.cells #[.bool false, .int .i64 0, .int .i64 0] 139 (0, 0)) = Y65 at *
        clear hY
        refine hK.out _ _ (hall _ cc) (fun hH => ?_)
        clear hK K
        try simp only [Act.put, gA, gB, gC, gD, gE, gG]
        refine wpAnyH_ready (rs := [12]) (by kernel_rfl) (by simp) (AllReadyH.cons (o := _) rfl (fun K hK => ?_) AllReadyH.nil)
        obtain ⟨q0, q1, q2, qf⟩ := on_cells3i qa
        go_simp
        clear q0 q1 q2 qf
        replace qb := on_far3i (b := Y1.heap.size) qb (.bool pe) (.int .i64 pl) (.int .i64 ph) (by first | assumption | exact Ne.symm (by assumption))
        replace qa := on_set3i qa (.bool pe) (.int .i64 pl) (.int .i64 ph)
        replace cc := sp_set3 (b := Y1.heap.size) cc zzY1 (.bool pe) (.int .i64 pl) (.int .i64 ph)
        generalize hY : (((Y65.setCell ⟨Y1.heap.size, 0, none⟩ (.bool pe)).setCell ⟨Y1.heap.size, 1, none⟩ (.int .i64 pl)).setCell ⟨Y1.heap.size, 2, none⟩ (.int .i64 ph)) = Y66 at *
        clear hY
        refine hK.out _ _ (hall _ cc) (fun hH => ?_)
        clear hK K
        try simp only [Act.put, gA, gB, gC, gD, gE, gG]
        refine wpAnyH_ready (rs := [13]) (by kernel_rfl) (by simp) (AllReadyH.cons (o := _) rfl (fun K hK => ?_) AllReadyH.nil)
        obtain ⟨q0, q1, q2, qf⟩ := on_cells3i qb
        go_simp
        clear q0 q1 q2 qf
        replace qa := on_far3i (b := Y64.heap.size) qa (.bool qe) (.int .i64 ql) (.int .i64 qh) (by first | assumption | exact Ne.symm (by assumption))
        replace qb := on_set3i qb (.bool qe) (.int .i64 ql) (.int .i64 qh)
        replace cc := sp_set3 (b := Y64.heap.size) cc zzY64 (.bool qe) (.int .i64 ql) (.int .i64 qh)
        generalize hY : (((Y66.setCell ⟨Y64.heap.size, 0, none⟩ (.bool qe)).setCell ⟨Y64.heap.size, 1, none⟩ (.int .i64 ql)).setCell ⟨Y64.heap.size, 2, none⟩ (.int .i64 qh)) = Y67 at *
        clear hY
        refine hK.out _ _ (hall _ cc) (fun hH => ?_)
        clear hK K
        try simp only [Act.put, gA, gB, gC, gD, gE, gG]
        refine wpAnyH_done (by kernel_rfl) ?_ _
        go_wp2_with fail
        go_meet
        exact ⟨_, _, _, rfl, rfl, rfl, qa, qb, zzY1, zzY64, cc⟩
       ·skip
        go_simp
        have zzY63 := cc.size
        have ne1_0 : Y1.heap.size ≠ Y63.heap.size := Nat.ne_of_lt (on_lti qa)
        replace qa := on_oldi qa (Obj.cells #[.bool false, .int .i64 0, .int .i64 0] 139 (0, 0))
        have qb := World.alloc_heap_new Y63 (Obj.cells #[.bool false, .int .i64 0, .int .i64 0] 139 (0, 0))
        replace cc := sp_new cc (Obj.cells #[.bool false, .int .i64 0, .int .i64 0] 139 (0, 0))
        generalize hY : Y63.alloc (Obj.cells #[.bool false, .int .i64 0, .int .i64 0] 139 (0, 0)) = Y68 at *
        clear hY
        refine hK.out _ _ (hall _ cc) (fun hH => ?_)
        clear hK K
        try simp only [Act.put, gA, gB, gC, gD, gE, gG]
        refine wpAnyH_ready (rs := [9]) (by kernel_rfl) (by simp) (AllReadyH.cons (o := _) rfl (fun K hK => ?_) AllReadyH.nil)
        go_simp
        refine (h5 _ (okc _ cc)).mono ?_
        rintro e Y69 ⟨rfl, g⟩
        replace cc := sp_call cc g
        replace qa := on_carryi g qa
        replace qb := on_carryi g qb
        clear g
        go_wp2_with fail
        refine hK.out _ _ (hall _ cc) (fun hH => ?_)
        clear hK K
        try simp only [Act.put, gA, gB, gC, gD, gE, gG]
        refine wpAnyH_ready (rs := [12]) (by kernel_rfl) (by simp) (AllReadyH.cons (o := _) rfl (fun K hK => ?_) AllReadyH.nil)
        obtain ⟨q0, q1, q2, qf⟩ := on_cells3i qa
        go_simp
        clear q0 q1 q2 qf
        replace qb := on_far3i (b := Y1.heap.size) qb (.bool pe) (.int .i64 pl) (.int .i64 ph) (by first | assumption | exact Ne.symm (by assumption))
        replace qa := on_set3i qa (.bool pe) (.int .i64 pl) (.int .i64 ph)
        replace cc := sp_set3 (b := Y1.heap.size) cc zzY1 (.bool pe) (.int .i64 pl) (.int .i64 ph)
        generalize hY : (((Y69.setCell ⟨Y1.heap.size, 0, none⟩ (.bool pe)).setCell ⟨Y1.heap.size, 1, none⟩ (.int .i64 pl)).setCell ⟨Y1.heap.size, 2, none⟩ (.int .i64 ph)) = Y70 at *
        clear hY
        refine hK.out _ _ (hall _ cc) (fun hH => ?_)
        clear hK K
        try simp only [Act.put, gA, gB, gC, gD, gE, gG]
        refine wpAnyH_ready (rs := [13]) (by kernel_rfl) (by simp) (AllReadyH.cons (o := _) rfl (fun K hK => ?_) AllReadyH.nil)
        obtain ⟨q0, q1, q2, qf⟩ := on_cells3i qb
        go_simp
        clear q0 q1 q2 qf
        replace qa := on_far3i (b := Y63.heap.size) qa (.bool qe) (.int .i64 ql) (.int .i64 qh) (by first | assumption | exact Ne.symm (by assumption))
        replace qb := on_set3i qb (.bool qe) (.int .i64 ql) (.int .i64 qh)
        replace cc := sp_set3 (b := Y63.heap.size) cc zzY63 (.bool qe) (.int .i64 ql) (.int .i64 qh)
        generalize hY : (((Y70.setCell ⟨Y63.heap.size, 0, none⟩ (.bool qe)).setCell ⟨Y63.heap.size, 1, none⟩ (.int .i64 ql)).setCell ⟨Y63.heap.size, 2, none⟩ (.int .i64 qh)) = Y71 at *
        clear hY
        refine hK.out _ _ (hall _ cc) (fun hH => ?_)
        clear hK K
        try simp only [Act.put, gA, gB, gC, gD, gE, gG]
        refine wpAnyH_done (by kernel_rfl) ?_ _
        go_wp2_with fail
        go_meet
        exact ⟨_, _, _, rfl, rfl, rfl, qa, qb, zzY1, zzY63, cc⟩
      ·skip
       go_simp
       have zzY62 := cc.size
       have ne1_0 : Y1.heap.size ≠ Y62.heap.size := Nat.ne_of_lt (on_lti qa)
       replace qa := on_oldi qa (Obj.cells #[.bool false, .int .i64 0, .int .i64 0] 139 (0, 0))
       have qb := World.alloc_heap_new Y62 (Obj.cells #[.bool false, .int .i64 0, .int .i64 0] 139 (0, 0))
       replace cc := sp_new cc (Obj.cells #[.bool false, .int .i64 0, .int .i64 0] 139 (0, 0))
       generalize hY : Y62.alloc (Obj.cells #[.bool false, .int .i64 0, .int .i64 0] 139 (0, 0)) = Y72 at *
       clear hY
       refine hK.out _ _ (hall _ cc) (fun hH => ?_)
       clear hK K
       try simp only [Act.put, gA, gB, gC, gD, gE, gG]
       refine wpAnyH_ready (rs := [8]) (by kernel_rfl) (by simp) (AllReadyH.cons (o := _) rfl (fun K hK => ?_) AllReadyH.nil)
       go_simp
       refine (h4 _).mono ?_
       rintro e Y73 ⟨rfl, g⟩
       replace cc := sp_call cc g
       replace qa := on_carryi g qa
       replace qb := on_carryi g qb
       clear g
       go_wp2_with fail
       refine hK.out _ _ (hall _ cc) (fun hH => ?_)
       clear hK K
       try simp only [Act.put, gA, gB, gC, gD, gE, gG]
       refine wpAnyH_ready (rs := [9]) (by kernel_rfl) (by simp) (AllReadyH.cons (o := _) rfl (fun K hK => ?_) AllReadyH.nil)
       go_simp
       refine (h5 _ (okc _ cc)).mono ?_
       rintro e Y74 ⟨rfl, g⟩
       replace cc := sp_call cc g
       replace qa := on_carryi g qa
       replace qb := on_carryi g qb
       clear g
       go_wp2_with fail
       refine hK.out _ _ (hall _ cc) (fun hH => ?_)
       clear hK K
       try simp only [Act.put, gA, gB, gC, gD, gE, gG]
       refine wpAnyH_ready (rs := [12]) (by kernel_rfl) (by simp) (AllReadyH.cons (o := _) rfl (fun K hK => ?_) AllReadyH.nil)
       obtain ⟨q0, q1, q2, qf⟩ := on_cells3i qa
       go_simp
       clear q0 q1 q2 qf
       replace qb := on_far3i (b := Y1.heap.size) qb (.bool pe) (.int .i64 pl) (.int .i64 ph) (by first | assumption | exact Ne.symm (by assumption))
       replace qa := on_set3i qa (.bool pe) (.int .i64 pl) (.int .i64 ph)
       replace cc := sp_set3 (b := Y1.heap.size) cc zzY1 (.bool pe) (.int .i64 pl) (.int .i64 ph)
       generalize hY : (((Y74.setCell ⟨Y1.heap.size, 0, none⟩ (.bool pe)).setCell ⟨Y1.heap.size, 1, none⟩ (.int .i64 pl)).setCell ⟨Y1.heap.size, 2, none⟩ (.int .i64 ph)) = Y75 at *
       clear hY
       refine hK.out _ _ (hall _ cc) (fun hH => ?_)
       clear hK K
       try simp only [Act.put, gA, gB, gC, gD, gE, gG]
       refine wpAnyH_ready (rs := [13]) (by kernel_rfl) (by simp) (AllReadyH.cons (o := _) rfl (fun K hK => ?_) AllReadyH.nil)
       obtain ⟨q0, q1, q2, qf⟩ := on_cells3i qb
       go_simp
       clear q0 q1 q2 qf
       replace qa := on_far3i (b := Y62.heap.size) qa (.bool qe) (.int .i64 ql) (.int .i64 qh) (by first | assumption | exact Ne.symm (by assumption))
       replace qb := on_set3i qb (.bool qe) (.int .i64 ql) (.int .i64 qh)
       replace cc := sp_set3 (b := Y62.heap.size) cc zzY62 (.bool qe) (.int .i64 ql) (.int .i64 qh)
       generalize hY : (((Y75.setCell ⟨Y62.heap.size, 0, none⟩ (.bool qe)).setCell ⟨Y62.heap.size, 1, none⟩ (.int .i64 ql)).setCell ⟨Y62.heap.size, 2, none⟩ (.int .i64 qh)) = Y76 at *
       clear hY
       refine hK.out _ _ (hall _ cc) (fun hH => ?_)
       clear hK K
       try simp only [Act.put, gA, gB, gC, gD, gE, gG]
       refine wpAnyH_done (by kernel_rfl) ?_ _
       go_wp2_with fail
       go_meet
       exact ⟨_, _, _, rfl, rfl, rfl, qa, qb, zzY1, zzY62, cc⟩
     ·skip
      go_simp
      have zzY61 := cc.size
      have ne1_0 : Y1.heap.size ≠ Y61.heap.size := Nat.ne_of_lt (on_lti qa)
      replace qa := on_oldi qa (Obj.cells #[.bool false, .int .i64 0, .int .i64 0] 139 (0, 0))
      have qb := World.alloc_heap_new Y61 (Obj.cells #[.bool false, .int .i64 0, .int .i64 0] 139 (0, 0))
      replace cc := sp_new cc (Obj.cells #[.bool false, .int .i64 0, .int .i64 0] 139 (0, 0))
      generalize hY : Y61.alloc (Obj.cells #[.bool false, .int .i64 0, .int .i64 0] 139 (0, 0)) = Y77 at *
      clear hY
      refine hK.out _ _ (hall _ cc) (fun hH => ?_)
      clear hK K
      try simp only [Act.put, gA, gB, gC, gD, gE, gG]
      refine wpAnyH_ready (rs := [4]) (by kernel_rfl) (by simp) (AllReadyH.cons (o := _) rfl (fun K hK => ?_) AllReadyH.nil)
      go_simp
      refine (h3 _ (okc _ cc)).mono ?_
      rintro e Y78 ⟨rfl, g⟩
      replace cc := sp_call cc g
      replace qa := on_carryi g qa
      replace qb := on_carryi g qb
      clear g
      go_wp2_with fail
      refine hK.out _ _ (hall _ cc) (fun hH => ?_)
      clear hK K
      try simp only [Act.put, gA, gB, gC, gD, gE, gG]
      refine wpAnyH_ready (rs := [8]) (by kernel_rfl) (by simp) (AllReadyH.cons (o := _) rfl (fun K hK => ?_) AllReadyH.nil)
      go_simp
      refine (h4 _).mono ?_
      rintro e Y79 ⟨rfl, g⟩
      replace cc := sp_call cc g
      replace qa := on_carryi g qa
      replace qb := on_carryi g qb
      clear g
      go_wp2_with fail
      refine hK.out _ _ (hall _ cc) (fun hH => ?_)
      clear hK K
      try simp only [Act.put, gA, gB, gC, gD, gE, gG]
      refine wpAnyH_ready (rs := [9]) (by kernel_rfl) (by simp) (AllReadyH.cons (o := _) rfl (fun K hK => ?_) AllReadyH.nil)
      go_simp
      refine (h5 _ (okc _ cc)).mono ?_
      rintro e Y80 ⟨rfl, g⟩
      replace cc := sp_call cc g
      replace qa := on_carryi g qa
      replace qb := on_carryi g qb
      clear g
      go_wp2_with fail
      refine hK.out _ _ (hall _ cc) (fun hH => ?_)
      clear hK K
      try simp only [Act.put, gA, gB, gC, gD, gE, gG]
      refine wpAnyH_ready (rs := [12]) (by kernel_rfl) (by simp) (AllReadyH.cons (o := _) rfl (fun K hK => ?_) AllReadyH.nil)
      obtain ⟨q0, q1, q2, qf⟩ := on_cells3i qa
      go_simp
      clear q0 q1 q2 qf
      replace qb := on_far3i (b := Y1.heap.size) qb (.bool pe) (.int .i64 pl) (.int .i64 ph) (by first | assumption | exact Ne.symm (by assumption))
      replace qa := on_set3i qa (.bool pe) (.int .i64 pl) (.int .i64 ph)
      replace cc := sp_set3 (b := Y1.heap.size) cc zzY1 (.bool pe) (.int .i64 pl) (.int .i64 ph)
      generalize hY : (((Y80.setCell ⟨Y1.heap.size, 0, none⟩ (.bool pe)).setCell ⟨Y1.heap.size, 1, none⟩ (.int .i64 pl)).setCell ⟨Y1.heap.size, 2, none⟩ (.int .i64 ph)) = Y81 at *
      clear hY
      refine hK.out _ _ (hall _ cc) (fun hH => ?_)
      clear hK K
      try simp only [Act.put, gA, gB, gC, gD, gE, gG]
      refine wpAnyH_ready (rs := [13]) (by kernel_rfl) (by simp) (AllReadyH.cons (o := _) rfl (fun K hK => ?_) AllReadyH.nil)
      obtain ⟨q0, q1, q2, qf⟩ := on_cells3i qb
      go_simp
      clear q0 q1 q2 qf
      replace qa := on_far3i (b := Y61.heap.size) qa (.bool qe) (.int .i64 ql) (.int .i64 qh) (by first | assumption | exact Ne.symm (by assumption))
      replace qb := on_set3i qb (.bool qe) (.int .i64 ql) (.int .i64 qh)
      replace cc := sp_set3 (b := Y61.heap.size) cc zzY61 (.bool qe) (.int .i64 ql) (.int .i64 qh)
      generalize hY : (((Y81.setCell ⟨Y61.heap.size, 0, none⟩ (.bool qe)).setCell ⟨Y61.heap.size, 1, none⟩ (.int .i64 ql)).setCell ⟨Y61.heap.size, 2, none⟩ (.int .i64 qh)) = Y82 at *
      clear hY
      refine hK.out _ _ (hall _ cc) (fun hH => ?_)
      clear hK K
      try simp only [Act.put, gA, gB, gC, gD, gE, gG]
      refine wpAnyH_done (by kernel_rfl) ?_ _
      go_wp2_with fail
      go_meet
      exact ⟨_, _, _, rfl, rfl, rfl, qa, qb, zzY1, zzY61, cc⟩
    ·skip
     go_simp
     have zzY1 := cc.size
     have qb := World.alloc_heap_new Y1 (Obj.cells #[.bool false, .int .i64 0, .int .i64 0] 139 (0, 0))
     replace cc := sp_new cc (Obj.cells #[.bool false, .int .i64 0, .int .i64 0] 139 (0, 0))
     generalize hY : Y1.alloc (Obj.cells #[.bool false, .int .i64 0, .int .i64 0] 139 (0, 0)) = Y83 at *
     clear hY
     refine hK.out _ _ (hall _ cc) (fun hH => ?_)
     clear hK K
     try simp only [Act.put, gA, gB, gC, gD, gE, gG]
     refine wpAnyH_ready (rs := [4, 10]) (by kernel_rfl) (by simp) (AllReadyH.cons (o := _) rfl (fun K hK => ?_) (AllReadyH.cons (o := _) rfl (fun K hK => ?_) AllReadyH.nil))
     ·skip
      go_simp
      refine (h3 _ (okc _ cc)).mono ?_
      rintro e Y84 ⟨rfl, g⟩
      replace cc := sp_call cc g
      replace qb := on_carryi g qb
      clear g
      go_wp2_with fail
      refine hK.out _ _ (hall _ cc) (fun hH => ?_)
      clear hK K
      try simp only [Act.put, gA, gB, gC, gD, gE, gG]
      refine wpAnyH_ready (rs := [8, 10]) (by kernel_rfl) (by simp) (AllReadyH.cons (o := _) rfl (fun K hK => ?_) (AllReadyH.cons (o := _) rfl (fun K hK => ?_) AllReadyH.nil))
      ·skip
       go_simp
       refine (h4 _).mono ?_
       rintro e Y85 ⟨rfl, g⟩
       replace cc := sp_call cc g
       replace qb := on_carryi g qb
       clear g
       go_wp2_with fail
       refine hK.out _ _ (hall _ cc) (fun hH => ?_)
       clear hK K
       try simp only [Act.put, gA, gB, gC, gD, gE, gG]
       refine wpAnyH_ready (rs := [9, 10]) (by kernel_rfl) (by simp) (AllReadyH.cons (o := _) rfl (fun K hK => ?_) (AllReadyH.cons (o := _) rfl (fun K hK => ?_) AllReadyH.nil))
       ·skip
        go_simp
        refine (h5 _ (okc _ cc)).mono ?_
        rintro e Y86 ⟨rfl, g⟩
        replace cc := sp_call cc g
        replace qb := on_carryi g qb
        clear g
        go_wp2_with fail
        refine hK.out _ _ (hall _ cc) (fun hH => ?_)
        clear hK K
        try simp only [Act.put, gA, gB, gC, gD, gE, gG]
        refine wpAnyH_ready (rs := [10]) (by kernel_rfl) (by simp) (AllReadyH.cons (o := _) rfl (fun K hK => ?_) AllReadyH.nil)
        go_simp
        have zzY86 := cc.size
        have ne0_1 : Y1.heap.size ≠ Y86.heap.size := Nat.ne_of_lt (on_lti qb)
        replace qb := on_oldi qb (Obj.cells #[.bool false, .int .i64 0, .int .i64 0] 139 (0, 0))
        have qa := World.alloc_heap_new Y86 (Obj.cells #[.bool false, .int .i64 0, .int .i64 0] 139 (0, 0))
        replace cc := sp_new cc (Obj.cells #[.bool false, .int .i64 0, .int .i64 0] 139 (0, 0))
        generalize hY : Y86.alloc (Obj.cells #[.bool false, .int .i64 0, .int .i64 0] 139 (0, 0)) = Y87 at *
        clear hY
        refine hK.out _ _ (hall _ cc) (fun hH => ?_)
        clear hK K
        try simp only [Act.put, gA, gB, gC, gD, gE, gG]
        refine wpAnyH_ready (rs := [12]) (by kernel_rfl) (by simp) (AllReadyH.cons (o := _) rfl (fun K hK => ?_) AllReadyH.nil)
        obtain ⟨q0, q1, q2, qf⟩ := on_cells3i qa
        go_simp
        clear q0 q1 q2 qf
        replace qb := on_far3i (b := Y86.heap.size) qb (.bool pe) (.int .i64 pl) (.int .i64 ph) (by first | assumption | exact Ne.symm (by assumption))
        replace qa := on_set3i qa (.bool pe) (.int .i64 pl) (.int .i64 ph)
        replace cc := sp_set3 (b := Y86.heap.size) cc zzY86 (.bool pe) (.int .i64 pl) (.int .i64 ph)
        generalize hY : (((Y87.setCell ⟨Y86.heap.size, 0, none⟩ (.bool pe)).setCell ⟨Y86.heap.size, 1, none⟩ (.int .i64 pl)).setCell ⟨Y86.heap.size, 2, none⟩ (.int .i64 ph)) = Y88 at *
        clear hY
        refine hK.out _ _ (hall _ cc) (fun hH => ?_)
        clear hK K
        try simp only [Act.put, gA, gB, gC, gD, gE, gG]
        refine wpAnyH_ready (rs := [13]) (by kernel_rfl) (by simp) (AllReadyH.cons (o := _) rfl (fun K hK => ?_) AllReadyH.nil)
        obtain ⟨q0, q1, q2, qf⟩ := on_cells3i qb
        go_simp
        clear q0 q1 q2 qf
        replace qa := on_far3i (b := Y1.heap.size) qa (.bool qe) (.int .i64 ql) (.int .i64 qh) (by first | assumption | exact Ne.symm (by assumption))
        replace qb := on_set3i qb (.bool qe) (.int .i64 ql) (.int .i64 qh)
        replace cc := sp_set3 (b := Y1.heap.size) cc zzY1 (.bool qe) (.int .i64 ql) (.int .i64 qh)
        generalize hY : (((Y88.setCell ⟨Y1.heap.size, 0, none⟩ (.bool qe)).setCell ⟨Y1.heap.size, 1, none⟩ (.int .i64 ql)).setCell ⟨Y1.heap.size, 2, none⟩ (.int .i64 qh)) = Y89 at *
        clear hY
        refine hK.out _ _ (hall _ cc) (fun hH => ?_)
        clear hK K
        try simp only [Act.put, gA, gB, gC, gD, gE, gG]
        refine wpAnyH_done (by kernel_rfl) ?_ _
        go_wp2_with fail
        go_meet
        exact ⟨_, _, _, rfl, rfl, rfl, qa, qb, zzY86, zzY1, cc⟩
       ·skip
        go_simp
        have zzY85 := cc.size
        have ne0_1 : Y1.heap.size ≠ Y85.heap.size := Nat.ne_of_lt (on_lti qb)
        replace qb := on_oldi qb (Obj.cells #[.bool false, .int .i64 0, .int .i64 0] 139 (0, 0))
        have qa := World.alloc_heap_new Y85 (Obj.cells #[.bool false, .int .i64 0, .int .i64 0] 139 (0, 0))
        replace cc := sp_new cc (Obj.cells #[.bool false, .int .i64 0, .int .i64 0] 139 (0, 0))
        generalize hY : Y85.alloc (Obj.cells #[.bool false, .int .i64 0, .int .i64 0] 139 (0, 0)) = Y90 at *
        clear hY
        refine hK.out _ _ (hall _ cc) (fun hH => ?_)
        clear hK K
        try simp only [Act.put, gA, gB, gC, gD, gE, gG]
        refine wpAnyH_ready (rs := [9]) (by kernel_rfl) (by simp) (AllReadyH.cons (o := _) rfl (fun K hK => ?_) AllReadyH.nil)
        go_simp
        refine (h5 _ (okc _ cc)).mono ?_
        rintro e Y91 ⟨rfl, g⟩
        replace cc := sp_call cc g
        replace qa := on_carryi g qa
        replace qb := on_carryi g qb
        clear g
        go_wp2_with fail
        refine hK.out _ _ (hall _ cc) (fun hH => ?_)
        clear hK K
        try simp only [Act.put, gA, gB, gC, gD, gE, gG]
        refine wpAnyH_ready (rs := [12]) (by kernel_rfl) (by simp) (AllReadyH.cons (o := _) rfl (fun K hK => ?_) AllReadyH.nil)
        obtain ⟨q0, q1, q2, qf⟩ := on_cells3i qa
        go_simp
        clear q0 q1 q2 qf
        replace qb := on_far3i (b := Y85.heap.size) qb (.bool pe) (.int .i64 pl) (.int .i64 ph) (by first | assumption | exact Ne.symm (by assumption))
        replace qa := on_set3i qa (.bool pe) (.int .i64 pl) (.int .i64 ph)
        replace cc := sp_set3 (b := Y85.heap.size) cc zzY85 (.bool pe) (.int .i64 pl) (.int .i64 ph)
        generalize hY : (((Y91.setCell ⟨Y85.heap.size, 0, none⟩ (.bool pe)).setCell ⟨Y85.heap.size, 1, none⟩ (.int .i64 pl)).setCell ⟨Y85.heap.size, 2, none⟩ (.int .i64 ph)) = Y92 at *
        clear hY
        refine hK.out _ _ (hall _ cc) (fun hH => ?_)
        clear hK K
        try simp only [Act.put, gA, gB, gC, gD, gE, gG]
        refine wpAnyH_ready (rs := [13]) (by kernel_rfl) (by simp) (AllReadyH.cons (o := _) rfl (fun K hK => ?_) AllReadyH.nil)
        obtain ⟨q0, q1, q2, qf⟩ := on_cells3i qb
        go_simp
        clear q0 q1 q2 qf
        replace qa := on_far3i (b := Y1.heap.size) qa (.bool qe) (.int .i64 ql) (.int .i64 qh) (by first | assumption | exact Ne.symm (by assumption))
        replace qb := on_set3i qb (.bool qe) (.int .i64 ql) (.int .i64 qh)
        replace cc := sp_set3 (b := Y1.heap.size) cc zzY1 (.bool qe) (.int .i64 ql) (.int .i64 qh)
        generalize hY : (((Y92.setCell ⟨Y1.heap.size, 0, none⟩ (.bool qe)).setCell ⟨Y1.heap.size, 1, none⟩ (.int .i64 ql)).setCell ⟨Y1.heap.size, 2, none⟩ (.int .i64 qh)) = Y93 at *
        clear hY
        refine hK.out _ _ (hall _ cc) (fun hH => ?_)
        clear hK K
        try simp only [Act.put, gA, gB, gC, gD, gE, gG]
        refine wpAnyH_done (by kernel_rfl) ?_ _
        go_wp2_with fail
        go_meet
        exact ⟨_, _, _, rfl, rfl, rfl, qa, qb, zzY85, zzY1, cc⟩
      ·skip
       go_simp
       have zzY84 := cc.size
       have ne0_1 : Y1.heap.size ≠ Y84.heap.size := Nat.ne_of_lt (on_lti qb)
       replace qb := on_oldi qb (Obj.cells #[.bool false, .int .i64 0, .int .i64 0] 139 (0, 0))
       have qa := World.alloc_heap_new Y84 (Obj.cells #[.bool false, .int .i64 0, .int .i64 0] 139 (0, 0))
       replace cc := sp_new cc (Obj.cells #[.bool false, .int .i64 0, .int .i64 0] 139 (0, 0))
       generalize hY : Y84.alloc (Obj.cells #[.bool false, .int .i64 0, .int .i64 0] 139 (0, 0)) = Y94 at *
       clear hY
       refine hK.out _ _ (hall _ cc) (fun hH => ?_)
       clear hK K
       try simp only [Act.put, gA, gB, gC, gD, gE, gG]
       refine wpAnyH_ready (rs := [8]) (by kernel_rfl) (by simp) (AllReadyH.cons (o := _) rfl (fun K hK => ?_) AllReadyH.nil)
       go_simp
       refine (h4 _).mono ?_
       rintro e Y95 ⟨rfl, g⟩
       replace cc := sp_call cc g
       replace qa := on_carryi g qa
       replace qb := on_carryi g qb
       clear g
       go_wp2_with fail
       refine hK.out _ _ (hall _ cc) (fun hH => ?_)
       clear hK K
       try simp only [Act.put, gA, gB, gC, gD, gE, gG]
       refine wpAnyH_ready (rs := [9]) (by kernel_rfl) (by simp) (AllReadyH.cons (o := _) rfl (fun K hK => ?_) AllReadyH.nil)
       go_simp
       refine (h5 _ (okc _ cc)).mono ?_
       rintro e Y96 ⟨rfl, g⟩
       replace cc := sp_call cc g
       replace qa := on_carryi g qa
       replace qb := on_carryi g qb
       clear g
       go_wp2_with fail
       refine hK.out _ _ (hall _ cc) (fun hH => ?_)
       clear hK K
       try simp only [Act.put, gA, gB, gC, gD, gE, gG]
       refine wpAnyH_ready (rs := [12]) (by kernel_rfl) (by simp) (AllReadyH.cons (o := _) rfl (fun K hK => ?_) AllReadyH.nil)
       obtain ⟨q0, q1, q2, qf⟩ := on_cells3i qa
       go_simp
       clear q0 q1 q2 qf
       replace qb := on_far3i (b := Y84.heap.size) qb (.bool pe) (.int .i64 pl) (.int .i64 ph) (by first | assumption | exact Ne.symm (by assumption))
       replace qa := on_set3i qa (.bool pe) (.int .i64 pl) (.int .i64 ph)
       replace cc := sp_set3 (b := Y84.heap.size) cc zzY84 (.bool pe) (.int .i64 pl) (.int .i64 ph)
       generalize hY : (((Y96.setCell ⟨Y84.heap.size, 0, none⟩ (.bool pe)).setCell ⟨Y84.heap.size, 1, none⟩ (.int .i64 pl)).setCell ⟨Y84.heap.size, 2, none⟩ (.int .i64 ph)) = Y97 at *
       clear hY
       refine hK.out _ _ (hall _ cc) (fun hH => ?_)
       clear hK K
       try simp only [Act.put, gA, gB, gC, gD, gE, gG]
       refine wpAnyH_ready (rs := [13]) (by kernel_rfl) (by simp) (AllReadyH.cons (o := _) rfl (fun K hK => ?_) AllReadyH.nil)
       obtain ⟨q0, q1, q2, qf⟩ := on_cells3i qb
       go_simp
       clear q0 q1 q2 qf
       replace qa := on_far3i (b := Y1.heap.size) qa (.bool qe) (.int .i64 ql) (.int .i64 qh) (by first | assumption | exact Ne.symm (by assumption))
       replace qb := on_set3i qb (.bool qe) (.int .i64 ql) (.int .i64 qh)
       replace cc := sp_set3 (b := Y1.heap.size) cc zzY1 (.bool qe) (.int .i64 ql) (.int .i64 qh)
       generalize hY : (((Y97.setCell ⟨Y1.heap.size, 0, none⟩ (.bool qe)).setCell ⟨Y1.heap.size, 1, none⟩ (.int .i64 ql)).setCell ⟨Y1.heap.size, 2, none⟩ (.int .i64 qh)) = Y98 at *
       clear hY
       refine hK.out _ _ (hall _ cc) (fun hH => ?_)
       clear hK K
       try simp only [Act.put, gA, gB, gC, gD, gE, gG]
       refine wpAnyH_done (by kernel_rfl) ?_ _
       go_wp2_with fail
       go_meet
       exact ⟨_, _, _, rfl, rfl, rfl, qa, qb, zzY84, zzY1, cc⟩
     ·skip
      go_simp
      have zzY83 := cc.size
      have ne0_1 : Y1.heap.size ≠ Y83.heap.size := Nat.ne_of_lt (on_lti qb)
      replace qb := on_oldi qb (Obj.cells #[.bool false, .int .i64 0, .int .i64 0] 139 (0, 0))
      have qa := World.alloc_heap_new Y83 (Obj.cells #[.bool false, .int .i64 0, .int .i64 0] 139 (0, 0))
      replace cc := sp_new cc (Obj.cells #[.bool false, .int .i64 0, .int .i64 0] 139 (0, 0))
      generalize hY : Y83.alloc (Obj.cells #[.bool false, .int .i64 0, .int .i64 0] 139 (0, 0)) = Y99 at *
      clear hY
      refine hK.out _ _ (hall _ cc) (fun hH => ?_)
      clear hK K
      try simp only [Act.put, gA, gB, gC, gD, gE, gG]
      refine wpAnyH_ready (rs := [4]) (by kernel_rfl) (by simp) (AllReadyH.cons (o := _) rfl (fun K hK => ?_) AllReadyH.nil)
      go_simp
      refine (h3 _ (okc _ cc)).mono ?_
      rintro e Y100 ⟨rfl, g⟩
      replace cc := sp_call cc g
      replace qa := on_carryi g qa
      replace qb := on_carryi g qb
      clear g
      go_wp2_with fail
      refine hK.out _ _ (hall _ cc) (fun hH => ?_)
      clear hK K
      try simp only [Act.put, gA, gB, gC, gD, gE, gG]
      refine wpAnyH_ready (rs := [8]) (by kernel_rfl) (by simp) (AllReadyH.cons (o := _) rfl (fun K hK => ?_) AllReadyH.nil)
      go_simp
      refine (h4 _).mono ?_
      rintro e Y101 ⟨rfl, g⟩
      replace cc := sp_call cc g
      replace qa := on_carryi g qa
      replace qb := on_carryi g qb
      clear g
      go_wp2_with fail
      refine hK.out _ _ (hall _ cc) (fun hH => ?_)
      clear hK K
      try simp only [Act.put, gA, gB, gC, gD, gE, gG]
      refine wpAnyH_ready (rs := [9]) (by kernel_rfl) (by simp) (AllReadyH.cons (o := _) rfl (fun K hK => ?_) AllReadyH.nil)
      go_simp
      refine (h5 _ (okc _ cc)).mono ?_
      rintro e Y102 ⟨rfl, g⟩
      replace cc := sp_call cc g
      replace qa := on_carryi g qa
      replace qb := on_carryi g qb
      clear g
      go_wp2_with fail
      refine hK.out _ _ (hall _ cc) (fun hH => ?_)
      clear hK K
      try simp only [Act.put, gA, gB, gC, gD, gE, gG]
      refine wpAnyH_ready (rs := [12]) (by kernel_rfl) (by simp) (AllReadyH.cons (o := _) rfl (fun K hK => ?_) AllReadyH.nil)
      obtain ⟨q0, q1, q2, qf⟩ := on_cells3i qa
      go_simp
      clear q0 q1 q2 qf
      replace qb := on_far3i (b := Y83.heap.size) qb (.bool pe) (.int .i64 pl) (.int .i64 ph) (by first | assumption | exact Ne.symm (by assumption))
      replace qa := on_set3i qa (.bool pe) (.int .i64 pl) (.int .i64 ph)
      replace cc := sp_set3 (b := Y83.heap.size) cc zzY83 (.bool pe) (.int .i64 pl) (.int .i64 ph)
      generalize hY : (((Y102.setCell ⟨Y83.heap.size, 0, none⟩ (.bool pe)).setCell ⟨Y83.heap.size, 1, none⟩ (.int .i64 pl)).setCell ⟨Y83.heap.size, 2, none⟩ (.int .i64 ph)) = Y103 at *
      clear hY
      refine hK.out _ _ (hall _ cc) (fun hH => ?_)
      clear hK K
      try simp only [Act.put, gA, gB, gC, gD, gE, gG]
      refine wpAnyH_ready (rs := [13]) (by kernel_rfl) (by simp) (AllReadyH.cons (o := _) rfl (fun K hK => ?_) AllReadyH.nil)
      obtain ⟨q0, q1, q2, qf⟩ := on_cells3i qb
      go_simp
      clear q0 q1 q2 qf
      replace qa := on_far3i (b := Y1.heap.size) qa (.bool qe) (.int .i64 ql) (.int .i64 qh) (by first | assumption | exact Ne.symm (by assumption))
      replace qb := on_set3i qb (.bool qe) (.int .i64 ql) (.int .i64 qh)
      replace cc := sp_set3 (b := Y1.heap.size) cc zzY1 (.bool qe) (.int .i64 ql) (.int .i64 qh)
      generalize hY : (((Y103.setCell ⟨Y1.heap.size, 0, none⟩ (.bool qe)).setCell ⟨Y1.heap.size, 1, none⟩ (.int .i64 ql)).setCell ⟨Y1.heap.size, 2, none⟩ (.int .i64 qh)) = Y104 at *
      clear hY
      refine hK.out _ _ (hall _ cc) (fun hH => ?_)
      clear hK K
      try simp only [Act.put, gA, gB, gC, gD, gE, gG]
      refine wpAnyH_done (by kernel_rfl) ?_ _
      go_wp2_with fail
      go_meet
      exact ⟨_, _, _, rfl, rfl, rfl, qa, qb, zzY83, zzY1, cc⟩
   ·skip
    go_simp
    have zzY0 := cc.size
    have qa := World.alloc_heap_new Y0 (Obj.cells #[.bool false, .int .i64 0, .int .i64 0] 139 (0, 0))
    replace cc := sp_new cc (Obj.cells #[.bool false, .int .i64 0, .int .i64 0] 139 (0, 0))
    generalize hY : Y0.alloc (Obj.cells #[.bool false, .int .i64 0, .int .i64 0] 139 (0, 0)) = Y105 at *
    clear hY
    refine hK.out _ _ (hall _ cc) (fun hH => ?_)
    clear hK K
    try simp only [Act.put, gA, gB, gC, gD, gE, gG]
    refine wpAnyH_ready (rs := [3, 11]) (by kernel_rfl) (by simp) (AllReadyH.cons (o := _) rfl (fun K hK => ?_) (AllReadyH.cons (o := _) rfl (fun K hK => ?_) AllReadyH.nil))
    ·skip
     go_simp
     refine (h1 _ (okc _ cc)).mono ?_
     rintro e Y106 ⟨rfl, g⟩
     replace cc := sp_call cc g
     replace qa := on_carryi g qa
     clear g
     go_wp2_with fail
     refine hK.out _ _ (hall _ cc) (fun hH => ?_)
     clear hK K
     try simp only [Act.put, gA, gB, gC, gD, gE, gG]
     refine wpAnyH_ready (rs := [4, 11]) (by kernel_rfl) (by simp) (AllReadyH.cons (o := _) rfl (fun K hK => ?_) (AllReadyH.cons (o := _) rfl (fun K hK => ?_) AllReadyH.nil))
     ·skip
      go_simp
      refine (h3 _ (okc _ cc)).mono ?_
      rintro e Y107 ⟨rfl, g⟩
      replace cc := sp_call cc g
      replace qa := on_carryi g qa
      clear g
      go_wp2_with fail
      refine hK.out _ _ (hall _ cc) (fun hH => ?_)
      clear hK K
      try simp only [Act.put, gA, gB, gC, gD, gE, gG]
      refine wpAnyH_ready (rs := [8, 11]) (by kernel_rfl) (by simp) (AllReadyH.cons (o := _) rfl (fun K hK => ?_) (AllReadyH.cons (o := _) rfl (fun K hK => ?_) AllReadyH.nil))
      ·skip
       go_simp
       refine (h4 _).mono ?_
       rintro e Y108 ⟨rfl, g⟩
       replace cc := sp_call cc g
       replace qa := on_carryi g qa
       clear g
       go_wp2_with fail
       refine hK.out _ _ (hall _ cc) (fun hH => ?_)
       clear hK K
       try simp only [Act.put, gA, gB, gC, gD, gE, gG]
       refine wpAnyH_ready (rs := [9, 11]) (by kernel_rfl) (by simp) (AllReadyH.cons (o := _) rfl (fun K hK => ?_) (AllReadyH.cons (o := _) rfl (fun K hK => ?_) AllReadyH.nil))
       ·skip
        go_simp
        refine (h5 _ (okc _ cc)).mono ?_
        rintro e Y109 ⟨rfl, g⟩
        replace cc := sp_call cc g
        replace qa := on_carryi g qa
        clear g
        go_wp2_with fail
        refine hK.out _ _ (hall _ cc) (fun hH => ?_)
        clear hK K
        try simp only [Act.put, gA, gB, gC, gD, gE, gG]
        refine wpAnyH_ready (rs := [11]) (by kernel_rfl) (by simp) (AllReadyH.cons (o := _) rfl (fun K hK => ?_) AllReadyH.nil)
        go_simp
        have zzY109 := cc.size
        have ne1_0 : Y0.heap.size ≠ Y109.heap.size := Nat.ne_of_lt (on_lti qa)
        replace qa := on_oldi qa (Obj.cells #[.bool false, .int .i64 0, .int .i64 0] 139 (0, 0))
        have qb := World.alloc_heap_new Y109 (Obj.cells #[.bool false, .int .i64 0, .int .i64 0] 139 (0, 0))
        replace cc := sp_new cc (Obj.cells #[.bool false, .int .i64 0, .int .i64 0] 139 (0, 0))
        generalize hY : Y109.alloc (Obj.cells #[.bool false, .int .i64 0, .int .i64 0] 139 (0, 0)) = Y110 at *
        clear hY
        refine hK.out _ _ (hall _ cc) (fun hH => ?_)
        clear hK K
        try simp only [Act.put, gA, gB, gC, gD, gE, gG]
        refine wpAnyH_ready (rs := [12]) (by kernel_rfl) (by simp) (AllReadyH.cons (o := _) rfl (fun K hK => ?_) AllReadyH.nil)
        obtain ⟨q0, q1, q2, qf⟩ := on_cells3i qa
        go_simp
        clear q0 q1 q2 qf
        replace qb := on_far3i (b := Y0.heap.size) qb (.bool pe) (.int .i64 pl) (.int .i64 ph) (by first | assumption | exact Ne.symm (by assumption))
        replace qa := on_set3i qa (.bool pe) (.int .i64 pl) (.int .i64 ph)
        replace cc := sp_set3 (b := Y0.heap.size) cc zzY0 (.bool pe) (.int .i64 pl) (.int .i64 ph)
        generalize hY : (((Y110.setCell ⟨Y0.heap.size, 0, none⟩ (.bool pe)).setCell ⟨Y0.heap.size, 1, none⟩ (.int .i64 pl)).setCell ⟨Y0.heap.size, 2, none⟩ (.int .i64 ph)) = Y111 at *
        clear hY
        refine hK.out _ _ (hall _ cc) (fun hH => ?_)
        clear hK K
        try simp only [Act.put, gA, gB, gC, gD, gE, gG]
        refine wpAnyH_ready (rs := [13]) (by kernel_rfl) (by simp) (AllReadyH.cons (o := _) rfl (fun K hK => ?_) AllReadyH.nil)
        obtain ⟨q0, q1, q2, qf⟩ := on_cells3i qb
        go_simp
        clear q0 q1 q2 qf
        replace qa := on_far3i (b := Y109.heap.size) qa (.bool qe) (.int .i64 ql) (.int .i64 qh) (by first | assumption | exact Ne.symm (by assumption))
        replace qb := on_set3i qb (.bool qe) (.int .i64 ql) (.int .i64 qh)
        replace cc := sp_set3 (b := Y109.heap.size) cc zzY109 (.bool qe) (.int .i64 ql) (.int .i64 qh)
        generalize hY : (((Y111.setCell ⟨Y109.heap.size, 0, none⟩ (.bool qe)).setCell ⟨Y109.heap.size, 1, none⟩ (.int .i64 ql)).setCell ⟨Y109.heap.size, 2, none⟩ (.int .i64 qh)) = Y112 at *
        clear hY
        refine hK.out _ _ (hall _ cc) (fun hH => ?_)
        clear hK K
        try simp only [Act.put, gA, gB, gC, gD, gE, gG]
        refine wpAnyH_done (by kernel_rfl) ?_ _
        go_wp2_with fail
        go_meet
        exact ⟨_, _, _, rfl, rfl, rfl, qa, qb, zzY0, zzY109, cc⟩
       ·skip
        go_simp
        have zzY108 := cc.size
        have ne1_0 : Y0.heap.size ≠ Y108.heap.size := Nat.ne_of_lt (on_lti qa)
        replace qa := on_oldi qa (Obj.cells #[.bool false, .int .i64 0, .int .i64 0] 139 (0, 0))
        have qb := World.alloc_heap_new Y108 (Obj.cells #[.bool false, .int .i64 0, .int .i64 0] 139 (0, 0))
        replace cc := sp_new cc (Obj.cells #[.bool false, .int .i64 0, .int .i64 0] 139 (0, 0))
        generalize hY : Y108.alloc (Obj.cells #[.bool false, .int .i64 0, .int .i64 0] 139 (0, 0)) = Y113 at *
        clear hY
        refine hK.out _ _ (hall _ cc) (fun hH => ?_)
        clear hK K
        try simp only [Act.put, gA, gB, gC, gD, gE, gG]
        refine wpAnyH_ready (rs := [9]) (by kernel_rfl) (by simp) (AllReadyH.cons (o := _) rfl (fun K hK => ?_) AllReadyH.nil)
        go_simp
        refine (h5 _ (okc _ cc)).mono ?_
        rintro e Y114 ⟨rfl, g⟩
        replace cc := sp_call cc g
        replace qa := on_carryi g qa
        replace qb := on_carryi g qb
        clear g
        go_wp2_with fail
        refine hK.out _ _ (hall _ cc) (fun hH => ?_)
        clear hK K
        try simp only [Act.put, gA, gB, gC, gD, gE, gG]
        refine wpAnyH_ready (rs := [12]) (by kernel_rfl) (by simp) (AllReadyH.cons (o := _) rfl (fun K hK => ?_) AllReadyH.nil)
        obtain ⟨q0, q1, q2, qf⟩ := on_cells3i qa
        go_simp
        clear q0 q1 q2 qf
        replace qb := on_far3i (b := Y0.heap.size) qb (.bool pe) (.int .i64 pl) (.int .i64 ph) (by first | assumption | exact Ne.symm (by assumption))
        replace qa := on_set3i qa (.bool pe) (.int .i64 pl) (.int .i64 ph)
        replace cc := sp_set3 (b := Y0.heap.size) cc zzY0 (.bool pe) (.int .i64 pl) (.int .i64 ph)
        generalize hY : (((Y114.setCell ⟨Y0.heap.size, 0, none⟩ (.bool pe)).setCell ⟨Y0.heap.size, 1, none⟩ (.int .i64 pl)).setCell ⟨Y0.heap.size, 2, none⟩ (.int .i64 ph)) = Y115 at *
        clear hY
        refine hK.out _ _ (hall _ cc) (fun hH => ?_)
        clear hK K
        try simp only [Act.put, gA, gB, gC, gD, gE, gG]
        refine wpAnyH_ready (rs := [13]) (by kernel_rfl) (by simp) (AllReadyH.cons (o := _) rfl (fun K hK => ?_) AllReadyH.nil)
        obtain ⟨q0, q1, q2, qf⟩ := on_cells3i qb
        go_simp
        clear q0 q1 q2 qf
        replace qa := on_far3i (b := Y108.heap.size) qa (.bool qe) (.int .i64 ql) (.int .i64 qh) (by first | assumption | exact Ne.symm (by assumption))
        replace qb := on_set3i qb (.bool qe) (.int .i64 ql) (.int .i64 qh)
        replace cc := sp_set3 (b := Y108.heap.size) cc zzY108 (.bool qe) (.int .i64 ql) (.int .i64 qh)
        generalize hY : (((Y115.setCell ⟨Y108.heap.size, 0, none⟩ (.bool qe)).setCell ⟨Y108.heap.size, 1, none⟩ (.int .i64 ql)).setCell ⟨Y108.heap.size, 2, none⟩ (.int .i64 qh)) = Y116 at *
        clear hY
        refine hK.out _ _ (hall _ cc) (fun hH => ?_)
        clear hK K
        try simp only [Act.put, gA, gB, gC, gD, gE, gG]
        refine wpAnyH_done (by kernel_rfl) ?_ _
        go_wp2_with fail
        go_meet
        exact ⟨_, _, _, rfl, rfl, rfl, qa, qb, zzY0, zzY108, cc⟩
      ·skip
       go_simp
       have zzY107 := cc.size
       have ne1_0 : Y0.heap.size ≠ Y107.heap.size := Nat.ne_of_lt (on_lti qa)
       replace qa := on_oldi qa (Obj.cells #[.bool false, .int .i64 0, .int .i64 0] 139 (0, 0))
       have qb := World.alloc_heap_new Y107 (Obj.cells #[.bool false, .int .i64 0, .int .i64 0] 139 (0, 0))
       replace cc := sp_new cc (Obj.cells #[.bool false, .int .i64 0, .int .i64 0] 139 (0, 0))
       generalize hY : Y107.alloc (Obj.cells #[.bool false, .int .i64 0, .int .i64 0] 139 (0, 0)) = Y117 at *
       clear hY
       refine hK.out _ _ (hall _ cc) (fun hH => ?_)
       clear hK K
       try simp only [Act.put, gA, gB, gC, gD, gE, gG]
       refine wpAnyH_ready (rs := [8]) (by kernel_rfl) (by simp) (AllReadyH.cons (o := _) rfl (fun K hK => ?_) AllReadyH.nil)
       go_simp
       refine (h4 _).mono ?_
       rintro e Y118 ⟨rfl, g⟩
       replace cc := sp_call cc g
       replace qa := on_carryi g qa
       replace qb := on_carryi g qb
       clear g
       go_wp2_with fail
       refine hK.out _ _ (hall _ cc) (fun hH => ?_)
       clear hK K
       try simp only [Act.put, gA, gB, gC, gD, gE, gG]
       refine wpAnyH_ready (rs := [9]) (by kernel_rfl) (by simp) (AllReadyH.cons (o := _) rfl (fun K hK => ?_) AllReadyH.nil)
       go_simp
       refine (h5 _ (okc _ cc)).mono ?_
       rintro e Y119 ⟨rfl, g⟩
       replace cc := sp_call cc g
       replace qa := on_carryi g qa
       replace qb := on_carryi g qb
       clear g
       go_wp2_with fail
       refine hK.out _ _ (hall _ cc) (fun hH => ?_)
       clear hK K
       try simp only [Act.put, gA, gB, gC, gD, gE, gG]
       refine wpAnyH_ready (rs := [12]) (by kernel_rfl) (by simp) (AllReadyH.cons (o := _) rfl (fun K hK => ?_) AllReadyH.nil)
       obtain ⟨q0, q1, q2, qf⟩ := on_cells3i qa
       go_simp
       clear q0 q1 q2 qf
       replace qb := on_far3i (b := Y0.heap.size) qb (.bool pe) (.int .i64 pl) (.int .i64 ph) (by first | assumption | exact Ne.symm (by assumption))
       replace qa := on_set3i qa (.bool pe) (.int .i64 pl) (.int .i64 ph)
       replace cc := sp_set3 (b := Y0.heap.size) cc zzY0 (.bool pe) (.int .i64 pl) (.int .i64 ph)
       generalize hY : (((Y119.setCell ⟨Y0.heap.size, 0, none⟩ (.bool pe)).setCell ⟨Y0.heap.size, 1, none⟩ (.int .i64 pl)).setCell ⟨Y0.heap.size, 2, none⟩ (.int .i64 ph)) = Y120 at *
       clear hY
       refine hK.out _ _ (hall _ cc) (fun hH => ?_)
       clear hK K
       try simp only [Act.put, gA, gB, gC, gD, gE, gG]
       refine wpAnyH_ready (rs := [13]) (by kernel_rfl) (by simp) (AllReadyH.cons (o := _) rfl (fun K hK => ?_) AllReadyH.nil)
       obtain ⟨q0, q1, q2, qf⟩ := on_cells3i qb
       go_simp
       clear q0 q1 q2 qf
       replace qa := on_far3i (b := Y107.heap.size) qa (.bool qe) (.int .i64 ql) (.int .i64 qh) (by first | assumption | exact Ne.symm (by assumption))
       replace qb := on_set3i qb (.bool qe) (.int .i64 ql) (.int .i64 qh)
       replace cc := sp_set3 (b := Y107.heap.size) cc zzY107 (.bool qe) (.int .i64 ql) (.int .i64 qh)
       generalize hY : (((Y120.setCell ⟨Y107.heap.size, 0, none⟩ (.bool qe)).setCell ⟨Y107.heap.size, 1, none⟩ (.int .i64 ql)).setCell ⟨Y107.heap.size, 2, none⟩ (.int .i64 qh)) = Y121 at *
       clear hY
       refine hK.out _ _ (hall _ cc) (fun hH => ?_)
       clear hK K
       try simp only [Act.put, gA, gB, gC, gD, gE, gG]
       refine wpAnyH_done (by kernel_rfl) ?_ _
       go_wp2_with fail
       go_meet
       exact ⟨_, _, _, rfl, rfl, rfl, qa, qb, zzY0, zzY107, cc⟩
     ·skip
      go_simp
      have zzY106 := cc.size
      have ne1_0 : Y0.heap.size ≠ Y106.heap.size := Nat.ne_of_lt (on_lti qa)
      replace qa := on_oldi qa (Obj.cells #[.bool false, .int .i64 0, .int .i64 0] 139 (0, 0))
      have qb := World.alloc_heap_new Y106 (Obj.cells #[.bool false, .int .i64 0, .int .i64 0] 139 (0, 0))
      replace cc := sp_new cc (Obj.cells #[.bool false, .int .i64 0, .int .i64 0] 139 (0, 0))
      generalize hY : Y106.alloc (Obj.cells #[.bool false, .int .i64 0, .int .i64 0] 139 (0, 0)) = Y122 at *
      clear hY
      refine hK.out _ _ (hall _ cc) (fun hH => ?_)
      clear hK K
      try simp only [Act.put, gA, gB, gC, gD, gE, gG]
      refine wpAnyH_ready (rs := [4]) (by kernel_rfl) (by simp) (AllReadyH.cons (o := _) rfl (fun K hK => ?_) AllReadyH.nil)
      go_simp
      refine (h3 _ (okc _ cc)).mono ?_
      rintro e Y123 ⟨rfl, g⟩
      replace cc := sp_call cc g
      replace qa := on_carryi g qa
      replace qb := on_carryi g qb
      clear g
      go_wp2_with fail
      refine hK.out _ _ (hall _ cc) (fun hH => ?_)
      clear hK K
      try simp only [Act.put, gA, gB, gC, gD, gE, gG]
      refine wpAnyH_ready (rs := [8]) (by kernel_rfl) (by simp) (AllReadyH.cons (o := _) rfl (fun K hK => ?_) AllReadyH.nil)
      go_simp
      refine (h4 _).mono ?_
      rintro e Y124 ⟨rfl, g⟩
      replace cc := sp_call cc g
      replace qa := on_carryi g qa
      replace qb := on_carryi g qb
      clear g
      go_wp2_with fail
      refine hK.out _ _ (hall _ cc) (fun hH => ?_)
      clear hK K
      try simp only [Act.put, gA, gB, gC, gD, gE, gG]
      refine wpAnyH_ready (rs := [9]) (by kernel_rfl) (by simp) (AllReadyH.cons (o := _) rfl (fun K hK => ?_) AllReadyH.nil)
      go_simp
      refine (h5 _ (okc _ cc)).mono ?_
      rintro e Y125 ⟨rfl, g⟩
      replace cc := sp_call cc g
      replace qa := on_carryi g qa
      replace qb := on_carryi g qb
      clear g
      go_wp2_with fail
      refine hK.out _ _ (hall _ cc) (fun hH => ?_)
      clear hK K
      try simp only [Act.put, gA, gB, gC, gD, gE, gG]
      refine wpAnyH_ready (rs := [12]) (by kernel_rfl) (by simp) (AllReadyH.cons (o := _) rfl (fun K hK => ?_) AllReadyH.nil)
      obtain ⟨q0, q1, q2, qf⟩ := on_cells3i qa
      go_simp
      clear q0 q1 q2 qf
      replace qb := on_far3i (b := Y0.heap.size) qb (.bool pe) (.int .i64 pl) (.int .i64 ph) (by first | assumption | exact Ne.symm (by assumption))
      replace qa := on_set3i qa (.bool pe) (.int .i64 pl) (.int .i64 ph)
      replace cc := sp_set3 (b := Y0.heap.size) cc zzY0 (.bool pe) (.int .i64 pl) (.int .i64 ph)
      generalize hY : (((Y125.setCell ⟨Y0.heap.size, 0, none⟩ (.bool pe)).setCell ⟨Y0.heap.size, 1, none⟩ (.int .i64 pl)).setCell ⟨Y0.heap.size, 2, none⟩ (.int .i64 ph)) = Y126 at *
      clear hY
      refine hK.out _ _ (hall _ cc) (fun hH => ?_)
      clear hK K
      try simp only [Act.put, gA, gB, gC, gD, gE, gG]
      refine wpAnyH_ready (rs := [13]) (by kernel_rfl) (by simp) (AllReadyH.cons (o := _) rfl (fun K hK => ?_) AllReadyH.nil)
      obtain ⟨q0, q1, q2, qf⟩ := on_cells3i qb
      go_simp
      clear q0 q1 q2 qf
      replace qa := on_far3i (b := Y106.heap.size) qa (.bool qe) (.int .i64 ql) (.int .i64 qh) (by first | assumption | exact Ne.symm (by assumption))
      replace qb := on_set3i qb (.bool qe) (.int .i64 ql) (.int .i64 qh)
      replace cc := sp_set3 (b := Y106.heap.size) cc zzY106 (.bool qe) (.int .i64 ql) (.int .i64 qh)
      generalize hY : (((Y126.setCell ⟨Y106.heap.size, 0, none⟩ (.bool qe)).setCell ⟨Y106.heap.size, 1, none⟩ (.int .i64 ql)).setCell ⟨Y106.heap.size, 2, none⟩ (.int .i64 qh)) = Y127 at *
      clear hY
      refine hK.out _ _ (hall _ cc) (fun hH => ?_)
      clear hK K
      try simp only [Act.put, gA, gB, gC, gD, gE, gG]
      refine wpAnyH_done (by kernel_rfl) ?_ _
      go_wp2_with fail
      go_meet
      exact ⟨_, _, _, rfl, rfl, rfl, qa, qb, zzY0, zzY106, cc⟩
    ·skip
     go_simp
     have zzY105 := cc.size
     have ne1_0 : Y0.heap.size ≠ Y105.heap.size := Nat.ne_of_lt (on_lti qa)
     replace qa := on_oldi qa (Obj.cells #[.bool false, .int .i64 0, .int .i64 0] 139 (0, 0))
     have qb := World.alloc_heap_new Y105 (Obj.cells #[.bool false, .int .i64 0, .int .i64 0] 139 (0, 0))
     replace cc := sp_new cc (Obj.cells #[.bool false, .int .i64 0, .int .i64 0] 139 (0, 0))
     generalize hY : Y105.alloc (Obj.cells #[.bool false, .int .i64 0, .int .i64 0] 139 (0, 0)) = Y128 at *
     clear hY
     refine hK.out _ _ (hall _ cc) (fun hH => ?_)
     clear hK K
     try simp only [Act.put, gA, gB, gC, gD, gE, gG]
     refine wpAnyH_ready (rs := [3]) (by kernel_rfl) (by simp) (AllReadyH.cons (o := _) rfl (fun K hK => ?_) AllReadyH.nil)
     go_simp
     refine (h1 _ (okc _ cc)).mono ?_
     rintro e Y129 ⟨rfl, g⟩
     replace cc := sp_call cc g
     replace qa := on_carryi g qa
     replace qb := on_carryi g qb
     clear g
     go_wp2_with fail
     refine hK.out _ _ (hall _ cc) (fun hH => ?_)
     clear hK K
     try simp only [Act.put, gA, gB, gC, gD, gE, gG]
     refine wpAnyH_ready (rs := [4]) (by kernel_rfl) (by simp) (AllReadyH.cons (o := _) rfl (fun K hK => ?_) AllReadyH.nil)
     go_simp
     refine (h3 _ (okc _ cc)).mono ?_
     rintro e Y130 ⟨rfl, g⟩
     replace cc := sp_call cc g
     replace qa := on_carryi g qa
     replace qb := on_carryi g qb
     clear g
     go_wp2_with fail
     refine hK.out _ _ (hall _ cc) (fun hH => ?_)
     clear hK K
     try simp only [Act.put, gA, gB, gC, gD, gE, gG]
     refine wpAnyH_ready (rs := [8]) (by kernel_rfl) (by simp) (AllReadyH.cons (o := _) rfl (fun K hK => ?_) AllReadyH.nil)
     go_simp
     refine (h4 _).mono ?_
     rintro e Y131 ⟨rfl, g⟩
     replace cc := sp_call cc g
     replace qa := on_carryi g qa
     replace qb := on_carryi g qb
     clear g
     go_wp2_with fail
     refine hK.out _ _ (hall _ cc) (fun hH => ?_)
     clear hK K
     try simp only [Act.put, gA, gB, gC, gD, gE, gG]
     refine wpAnyH_ready (rs := [9]) (by kernel_rfl) (by simp) (AllReadyH.cons (o := _) rfl (fun K hK => ?_) AllReadyH.nil)
     go_simp
     refine (h5 _ (okc _ cc)).mono ?_
     rintro e Y132 ⟨rfl, g⟩
     replace cc := sp_call cc g
     replace qa := on_carryi g qa
     replace qb := on_carryi g qb
     clear g
     go_wp2_with fail
     refine hK.out _ _ (hall _ cc) (fun hH => ?_)
     clear hK K
     try simp only [Act.put, gA, gB, gC, gD, gE, gG]
     refine wpAnyH_ready (rs := [12]) (by kernel_rfl) (by simp) (AllReadyH.cons (o := _) rfl (fun K hK => ?_) AllReadyH.nil)
     obtain ⟨q0, q1, q2, qf⟩ := on_cells3i qa
     go_simp
     clear q0 q1 q2 qf
     replace qb := on_far3i (b := Y0.heap.size) qb (.bool pe) (.int .i64 pl) (.int .i64 ph) (by first | assumption | exact Ne.symm (by assumption))
     replace qa := on_set3i qa (.bool pe) (.int .i64 pl) (.int .i64 ph)
     replace cc := sp_set3 (b := Y0.heap.size) cc zzY0 (.bool pe) (.int .i64 pl) (.int .i64 ph)
     generalize hY : (((Y132.setCell ⟨Y0.heap.size, 0, none⟩ (.bool pe)).setCell ⟨Y0.heap.size, 1, none⟩ (.int .i64 pl)).setCell ⟨Y0.heap.size, 2, none⟩ (.int .i64 ph)) = Y133 at *
     clear hY
     refine hK.out _ _ (hall _ cc) (fun hH => ?_)
     clear hK K
     try simp only [Act.put, gA, gB, gC, gD, gE, gG]
     refine wpAnyH_ready (rs := [13]) (by kernel_rfl) (by simp) (AllReadyH.cons (o := _) rfl (fun K hK => ?_) AllReadyH.nil)
     obtain ⟨q0, q1, q2, qf⟩ := on_cells3i qb
     go_simp
     clear q0 q1 q2 qf
     replace qa := on_far3i (b := Y105.heap.size) qa (.bool qe) (.int .i64 ql) (.int .i64 qh) (by first | assumption | exact Ne.symm (by assumption))
     replace qb := on_set3i qb (.bool qe) (.int .i64 ql) (.int .i64 qh)
     replace cc := sp_set3 (b := Y105.heap.size) cc zzY105 (.bool qe) (.int .i64 ql) (.int .i64 qh)
     generalize hY : (((Y133.setCell ⟨Y105.heap.size, 0, none⟩ (.bool qe)).setCell ⟨Y105.heap.size, 1, none⟩ (.int .i64 ql)).setCell ⟨Y105.heap.size, 2, none⟩ (.int .i64 qh)) = Y134 at *
     clear hY
     refine hK.out _ _ (hall _ cc) (fun hH => ?_)
     clear hK K
     try simp only [Act.put, gA, gB, gC, gD, gE, gG]
     refine wpAnyH_done (by kernel_rfl) ?_ _
     go_wp2_with fail
     go_meet
     exact ⟨_, _, _, rfl, rfl, rfl, qa, qb, zzY0, zzY105, cc⟩
   ·skip
    go_simp
    have zzY0 := cc.size
    have qb := World.alloc_heap_new Y0 (Obj.cells #[.bool false, .int .i64 0, .int .i64 0] 139 (0, 0))
    replace cc := sp_new cc (Obj.cells #[.bool false, .int .i64 0, .int .i64 0] 139 (0, 0))
    generalize hY : Y0.alloc (Obj.cells #[.bool false, .int .i64 0, .int .i64 0] 139 (0, 0)) = Y135 at *
    clear hY
    refine hK.out _ _ (hall _ cc) (fun hH => ?_)
    clear hK K
    try simp only [Act.put, gA, gB, gC, gD, gE, gG]
    refine wpAnyH_ready (rs := [3, 10]) (by kernel_rfl) (by simp) (AllReadyH.cons (o := _) rfl (fun K hK => ?_) (AllReadyH.cons (o := _) rfl (fun K hK => ?_) AllReadyH.nil))
    ·skip
     go_simp
     refine (h1 _ (okc _ cc)).mono ?_
     rintro e Y136 ⟨rfl, g⟩
     replace cc := sp_call cc g
     replace qb := on_carryi g qb
     clear g
     go_wp2_with fail
     refine hK.out _ _ (hall _ cc) (fun hH => ?_)
     clear hK K
     try simp only [Act.put, gA, gB, gC, gD, gE, gG]
     refine wpAnyH_ready (rs := [4, 10]) (by kernel_rfl) (by simp) (AllReadyH.cons (o := _) rfl (fun K hK => ?_) (AllReadyH.cons (o := _) rfl (fun K hK => ?_) AllReadyH.nil))
     ·skip
      go_simp
      refine (h3 _ (okc _ cc)).mono ?_
      rintro e Y137 ⟨rfl, g⟩
      replace cc := sp_call cc g
      replace qb := on_carryi g qb
      clear g
      go_wp2_with fail
      refine hK.out _ _ (hall _ cc) (fun hH => ?_)
      clear hK K
      try simp only [Act.put, gA, gB, gC, gD, gE, gG]
      refine wpAnyH_ready (rs := [8, 10]) (by kernel_rfl) (by simp) (AllReadyH.cons (o := _) rfl (fun K hK => ?_) (AllReadyH.cons (o := _) rfl (fun K hK => ?_) AllReadyH.nil))
      ·skip
       go_simp
       refine (h4 _).mono ?_
       rintro e Y138 ⟨rfl, g⟩
       replace cc := sp_call cc g
       replace qb := on_carryi g qb
       clear g
       go_wp2_with fail
       refine hK.out _ _ (hall _ cc) (fun hH => ?_)
       clear hK K
       try simp only [Act.put, gA, gB, gC, gD, gE, gG]
       refine wpAnyH_ready (rs := [9, 10]) (by kernel_rfl) (by simp) (AllReadyH.cons (o := _) rfl (fun K hK => ?_) (AllReadyH.cons (o := _) rfl (fun K hK => ?_) AllReadyH.nil))
       ·skip
        go_simp
        refine (h5 _ (okc _ cc)).mono ?_
        rintro e Y139 ⟨rfl, g⟩
        replace cc := sp_call cc g
        replace qb := on_carryi g qb
        clear g
        go_wp2_with fail
        refine hK.out _ _ (hall _ cc) (fun hH => ?_)
        clear hK K
        try simp only [Act.put, gA, gB, gC, gD, gE, gG]
        refine wpAnyH_ready (rs := [10]) (by kernel_rfl) (by simp) (AllReadyH.cons (o := _) rfl (fun K hK => ?_) AllReadyH.nil)
        go_simp
        have zzY139 := cc.size
        have ne0_1 : Y0.heap.size ≠ Y139.heap.size := Nat.ne_of_lt (on_lti qb)
        replace qb := on_oldi qb (Obj.cells #[.bool false, .int .i64 0, .int .i64 0] 139 (0, 0))
        have qa := World.alloc_heap_new Y139 (Obj.cells #[.bool false, .int .i64 0, .int .i64 0] 139 (0, 0))
        replace cc := sp_new cc (Obj.cells #[.bool false, .int .i64 0, .int .i64 0] 139 (0, 0))
        generalize hY : Y139.alloc (Obj.cells #[.bool false, .int .i64 0, .int .i64 0] 139 (0, 0)) = Y140 at *
        clear hY
        refine hK.out _ _ (hall _ cc) (fun hH => ?_)
        clear hK K
        try simp only [Act.put, gA, gB, gC, gD, gE, gG]
        refine wpAnyH_ready (rs := [12]) (by kernel_rfl) (by simp) (AllReadyH.cons (o := _) rfl (fun K hK => ?_) AllReadyH.nil)
        obtain ⟨q0, q1, q2, qf⟩ := on_cells3i qa
        go_simp
        clear q0 q1 q2 qf
        replace qb := on_far3i (b := Y139.heap.size) qb (.bool pe) (.int .i64 pl) (.int .i64 ph) (by first | assumption | exact Ne.symm (by assumption))
        replace qa := on_set3i qa (.bool pe) (.int .i64 pl) (.int .i64 ph)
        replace cc := sp_set3 (b := Y139.heap.size) cc zzY139 (.bool pe) (.int .i64 pl) (.int .i64 ph)
        generalize hY : (((Y140.setCell ⟨Y139.heap.size, 0, none⟩ (.bool pe)).setCell ⟨Y139.heap.size, 1, none⟩ (.int .i64 pl)).setCell ⟨Y139.heap.size, 2, none⟩ (.int .i64 ph)) = Y141 at *
        clear hY
        refine hK.out _ _ (hall _ cc) (fun hH => ?_)
        clear hK K
        try simp only [Act.put, gA, gB, gC, gD, gE, gG]
        refine wpAnyH_ready (rs := [13]) (by kernel_rfl) (by simp) (AllReadyH.cons (o := _) rfl (fun K hK => ?_) AllReadyH.nil)
        obtain ⟨q0, q1, q2, qf⟩ := on_cells3i qb
        go_simp
        clear q0 q1 q2 qf
        replace qa := on_far3i (b := Y0.heap.size) qa (.bool qe) (.int .i64 ql) (.int .i64 qh) (by first | assumption | exact Ne.symm (by assumption))
        replace qb := on_set3i qb (.bool qe) (.int .i64 ql) (.int .i64 qh)
        replace cc := sp_set3 (b := Y0.heap.size) cc zzY0 (.bool qe) (.int .i64 ql) (.int .i64 qh)
        generalize hY : (((Y141.setCell ⟨Y0.heap.size, 0, none⟩ (.bool qe)).setCell ⟨Y0.heap.size, 1, none⟩ (.int .i64 ql)).setCell ⟨Y0.heap.size, 2, none⟩ (.int .i64 qh)) = Y142 at *
        clear hY
        refine hK.out _ _ (hall _ cc) (fun hH => ?_)
        clear hK K
        try simp only [Act.put, gA, gB, gC, gD, gE, gG]
        refine wpAnyH_done (by kernel_rfl) ?_ _
        go_wp2_with fail
        go_meet
        exact ⟨_, _, _, rfl, rfl, rfl, qa, qb, zzY139, zzY0, cc⟩
       ·skip
        go_simp
        have zzY138 := cc.size
        have ne0_1 : Y0.heap.size ≠ Y138.heap.size := Nat.ne_of_lt (on_lti qb)
        replace qb := on_oldi qb (Obj.cells #[.bool false, .int .i64 0, .int .i64 0] 139 (0, 0))
        have qa := World.alloc_heap_new Y138 (Obj.cells #[.bool false, .int .i64 0, .int .i64 0] 139 (0, 0))
        replace cc := sp_new cc (Obj.cells #[.bool false, .int .i64 0, .int .i64 0] 139 (0, 0))
        generalize hY : Y138.alloc (Obj.cells #[.bool false, .int .i64 0, .int .i64 0] 139 (0, 0)) = Y143 at *
        clear hY
        refine hK.out _ _ (hall _ cc) (fun hH => ?_)
        clear hK K
        try simp only [Act.put, gA, gB, gC, gD, gE, gG]
        refine wpAnyH_ready (rs := [9]) (by kernel_rfl) (by simp) (AllReadyH.cons (o := _) rfl (fun K hK => ?_) AllReadyH.nil)
        go_simp
        refine (h5 _ (okc _ cc)).mono ?_
        rintro e Y144 ⟨rfl, g⟩
        replace cc := sp_call cc g
        replace qa := on_carryi g qa
        replace qb := on_carryi g qb
        clear g
        go_wp2_with fail
        refine hK.out _ _ (hall _ cc) (fun hH => ?_)
        clear hK K
        try simp only [Act.put, gA, gB, gC, gD, gE, gG]
        refine wpAnyH_ready (rs := [12]) (by kernel_rfl) (by simp) (AllReadyH.cons (o := _) rfl (fun K hK => ?_) AllReadyH.nil)
        obtain ⟨q0, q1, q2, qf⟩ := on_cells3i qa
        go_simp
        clear q0 q1 q2 qf
        replace qb := on_far3i (b := Y138.heap.size) qb (.bool pe) (.int .i64 pl) (.int .i64 ph) (by first | assumption | exact Ne.symm (by assumption))
        replace qa := on_set3i qa (.bool pe) (.int .i64 pl) (.int .i64 ph)
        replace cc := sp_set3 (b := Y138.heap.size) cc zzY138 (.bool pe) (.int .i64 pl) (.int .i64 ph)
        generalize hY : (((Y144.setCell ⟨Y138.heap.size, 0, none⟩ (.bool pe)).setCell ⟨Y138.heap.size, 1, none⟩ (.int .i64 pl)).setCell ⟨Y138.heap.size, 2, none⟩ (.int .i64 ph)) = Y145 at *
        clear hY
        refine hK.out _ _ (hall _ cc) (fun hH => ?_)
        clear hK K
        try simp only [Act.put, gA, gB, gC, gD, gE, gG]
        refine wpAnyH_ready (rs := [13]) (by kernel_rfl) (by simp) (AllReadyH.cons (o := _) rfl (fun K hK => ?_) AllReadyH.nil)
        obtain ⟨q0, q1, q2, qf⟩ := on_cells3i qb
        go_simp
        clear q0 q1 q2 qf
        replace qa := on_far3i (b := Y0.heap.size) qa (.bool qe) (.int .i64 ql) (.int .i64 qh) (by first | assumption | exact Ne.symm (by assumption))
        replace qb := on_set3i qb (.bool qe) (.int .i64 ql) (.int .i64 qh)
        replace cc := sp_set3 (b := Y0.heap.size) cc zzY0 (.bool qe) (.int .i64 ql) (.int .i64 qh)
        generalize hY : (((Y145.setCell ⟨Y0.heap.size, 0, none⟩ (.bool qe)).setCell ⟨Y0.heap.size, 1, none⟩ (.int .i64 ql)).setCell ⟨Y0.heap.size, 2, none⟩ (.int .i64 qh)) = Y146 at *
        clear hY
        refine hK.out _ _ (hall _ cc) (fun hH => ?_)
        clear hK K
        try simp only [Act.put, gA, gB, gC, gD, gE, gG]
        refine wpAnyH_done (by kernel_rfl) ?_ _
        go_wp2_with fail
        go_meet
        exact ⟨_, _, _, rfl, rfl, rfl, qa, qb, zzY138, zzY0, cc⟩
      ·skip
       go_simp
       have zzY137 := cc.size
       have ne0_1 : Y0.heap.size ≠ Y137.heap.size := Nat.ne_of_lt (on_lti qb)
       replace qb := on_oldi qb (Obj.cells #[.bool false, .int .i64 0, .int .i64 0] 139 (0, 0))
       have qa := World.alloc_heap_new Y137 (Obj.cells #[.bool false, .int .i64 0, .int .i64 0] 139 (0, 0))
       replace cc := sp_new cc (Obj.cells #[.bool false, .int .i64 0, .int .i64 0] 139 (0, 0))
       generalize hY : Y137.alloc (Obj.cells #[.bool false, .int .i64 0, .int .i64 0] 139 (0, 0)) = Y147 at *
       clear hY
       refine hK.out _ _ (hall _ cc) (fun hH => ?_)
       clear hK K
       try simp only [Act.put, gA, gB, gC, gD, gE, gG]
       refine wpAnyH_ready (rs := [8]) (by kernel_rfl) (by simp) (AllReadyH.cons (o := _) rfl (fun K hK => ?_) AllReadyH.nil)
       go_simp
       refine (h4 _).mono ?_
       rintro e Y148 ⟨rfl, g⟩
       replace cc := sp_call cc g
       replace qa := on_carryi g qa
       replace qb := on_carryi g qb
       clear g
       go_wp2_with fail
       refine hK.out _ _ (hall _ cc) (fun hH => ?_)
       clear hK K
       try simp only [Act.put, gA, gB, gC, gD, gE, gG]
       refine wpAnyH_ready (rs := [9]) (by kernel_rfl) (by simp) (AllReadyH.cons (o := _) rfl (fun K hK => ?_) AllReadyH.nil)
       go_simp
       refine (h5 _ (okc _ cc)).mono ?_
       rintro e Y149 ⟨rfl, g⟩
       replace cc := sp_call cc g
       replace qa := on_carryi g qa
       replace qb := on_carryi g qb
       clear g
       go_wp2_with fail
       refine hK.out _ _ (hall _ cc) (fun hH => ?_)
       clear hK K
       try simp only [Act.put, gA, gB, gC, gD, gE, gG]
       refine wpAnyH_ready (rs := [12]) (by kernel_rfl) (by simp) (AllReadyH.cons (o := _) rfl (fun K hK => ?_) AllReadyH.nil)
       obtain ⟨q0, q1, q2, qf⟩ := on_cells3i qa
       go_simp
       clear q0 q1 q2 qf
       replace qb := on_far3i (b := Y137.heap.size) qb (.bool pe) (.int .i64 pl) (.int .i64 ph) (by first | assumption | exact Ne.symm (by assumption))
       replace qa := on_set3i qa (.bool pe) (.int .i64 pl) (.int .i64 ph)
       replace cc := sp_set3 (b := Y137.heap.size) cc zzY137 (.bool pe) (.int .i64 pl) (.int .i64 ph)
       generalize hY : (((Y149.setCell ⟨Y137.heap.size, 0, none⟩ (.bool pe)).setCell ⟨Y137.heap.size, 1, none⟩ (.int .i64 pl)).setCell ⟨Y137.heap.size, 2, none⟩ (.int .i64 ph)) = Y150 at *
       clear hY
       refine hK.out _ _ (hall _ cc) (fun hH => ?_)
       clear hK K
       try simp only [Act.put, gA, gB, gC, gD, gE, gG]
       refine wpAnyH_ready (rs := [13]) (by kernel_rfl) (by simp) (AllReadyH.cons (o := _) rfl (fun K hK => ?_) AllReadyH.nil)
       obtain ⟨q0, q1, q2, qf⟩ := on_cells3i qb
       go_simp
       clear q0 q1 q2 qf
       replace qa := on_far3i (b := Y0.heap.size) qa (.bool qe) (.int .i64 ql) (.int .i64 qh) (by first | assumption | exact Ne.symm (by assumption))
       replace qb := on_set3i qb (.bool qe) (.int .i64 ql) (.int .i64 qh)
       replace cc := sp_set3 (b := Y0.heap.size) cc zzY0 (.bool qe) (.int .i64 ql) (.int .i64 qh)
       generalize hY : (((Y150.setCell ⟨Y0.heap.size, 0, none⟩ (.bool qe)).setCell ⟨Y0.heap.size, 1, none⟩ (.int .i64 ql)).setCell ⟨Y0.heap.size, 2, none⟩ (.int .i64 qh)) = Y151 at *
       clear hY
       refine hK.out _ _ (hall _ cc) (fun hH => ?_)
       clear hK K
       try simp only [Act.put, gA, gB, gC, gD, gE, gG]
       refine wpAnyH_done (by kernel_rfl) ?_ _
       go_wp2_with fail
       go_meet
       exact ⟨_, _, _, rfl, rfl, rfl, qa, qb, zzY137, zzY0, cc⟩
     ·skip
      go_simp
      have zzY136 := cc.size
      have ne0_1 : Y0.heap.size ≠ Y136.heap.size := Nat.ne_of_lt (on_lti qb)
      replace qb := on_oldi qb (Obj.cells #[.bool false, .int .i64 0, .int .i64 0] 139 (0, 0))
      have qa := World.alloc_heap_new Y136 (Obj.cells #[.bool false, .int .i64 0, .int .i64 0] 139 (0, 0))
      replace cc := sp_new cc (Obj.cells #[.bool false, .int .i64 0, .int .i64 0] 139 (0, 0))
      generalize hY : Y136.alloc (Obj.cells #[.bool false, .int .i64 0, .int .i64 0] 139 (0, 0)) = Y152 at *
      clear hY
      refine hK.out _ _ (hall _ cc) (fun hH => ?_)
      clear hK K
      try simp only [Act.put, gA, gB, gC, gD, gE, gG]
      refine wpAnyH_ready (rs := [4]) (by kernel_rfl) (by simp) (AllReadyH.cons (o := _) rfl (fun K hK => ?_) AllReadyH.nil)
      go_simp
      refine (h3 _ (okc _ cc)).mono ?_
      rintro e Y153 ⟨rfl, g⟩
      replace cc := sp_call cc g
      replace qa := on_carryi g qa
      replace qb := on_carryi g qb
      clear g
      go_wp2_with fail
      refine hK.out _ _ (hall _ cc) (fun hH => ?_)
      clear hK K
      try simp only [Act.put, gA, gB, gC, gD, gE, gG]
      refine wpAnyH_ready (rs := [8]) (by kernel_rfl) (by simp) (AllReadyH.cons (o := _) rfl (fun K hK => ?_) AllReadyH.nil)
      go_simp
      refine (h4 _).mono ?_
      rintro e Y154 ⟨rfl, g⟩
      replace cc := sp_call cc g
      replace qa := on_carryi g qa
      replace qb := on_carryi g qb
      clear g
      go_wp2_with fail
      refine hK.out _ _ (hall _ cc) (fun hH => ?_)
      clear hK K
      try simp only [Act.put, gA, gB, gC, gD, gE, gG]
      refine wpAnyH_ready (rs := [9]) (by kernel_rfl) (by simp) (AllReadyH.cons (o := _) rfl (fun K hK => ?_) AllReadyH.nil)
      go_simp
      refine (h5 _ (okc _ cc)).mono ?_
      rintro e Y155 ⟨rfl, g⟩
      replace cc := sp_call cc g
      replace qa := on_carryi g qa
      replace qb := on_carryi g qb
      clear g
      go_wp2_with fail
      refine hK.out _ _ (hall _ cc) (fun hH => ?_)
      clear hK K
      try simp only [Act.put, gA, gB, gC, gD, gE, gG]
      refine wpAnyH_ready (rs := [12]) (by kernel_rfl) (by simp) (AllReadyH.cons (o := _) rfl (fun K hK => ?_) AllReadyH.nil)
      obtain ⟨q0, q1, q2, qf⟩ := on_cells3i qa
      go_simp
      clear q0 q1 q2 qf
      replace qb := on_far3i (b := Y136.heap.size) qb (.bool pe) (.int .i64 pl) (.int .i64 ph) (by first | assumption | exact Ne.symm (by assumption))
      replace qa := on_set3i qa (.bool pe) (.int .i64 pl) (.int .i64 ph)
      replace cc := sp_set3 (b := Y136.heap.size) cc zzY136 (.bool pe) (.int .i64 pl) (.int .i64 ph)
      generalize hY : (((Y155.setCell ⟨Y136.heap.size, 0, none⟩ (.bool pe)).setCell ⟨Y136.heap.size, 1, none⟩ (.int .i64 pl)).setCell ⟨Y136.heap.size, 2, none⟩ (.int .i64 ph)) = Y156 at *
      clear hY
      refine hK.out _ _ (hall _ cc) (fun hH => ?_)
      clear hK K
      try simp only [Act.put, gA, gB, gC, gD, gE, gG]
      refine wpAnyH_ready (rs := [13]) (by kernel_rfl) (by simp) (AllReadyH.cons (o := _) rfl (fun K hK => ?_) AllReadyH.nil)
      obtain ⟨q0, q1, q2, qf⟩ := on_cells3i qb
      go_simp
      clear q0 q1 q2 qf
      replace qa := on_far3i (b := Y0.heap.size) qa (.bool qe) (.int .i64 ql) (.int .i64 qh) (by first | assumption | exact Ne.symm (by assumption))
      replace qb := on_set3i qb (.bool qe) (.int .i64 ql) (.int .i64 qh)
      replace cc := sp_set3 (b := Y0.heap.size) cc zzY0 (.bool qe) (.int .i64 ql) (.int .i64 qh)
      generalize hY : (((Y156.setCell ⟨Y0.heap.size, 0, none⟩ (.bool qe)).setCell ⟨Y0.heap.size, 1, none⟩ (.int .i64 ql)).setCell ⟨Y0.heap.size, 2, none⟩ (.int .i64 qh)) = Y157 at *
      clear hY
      refine hK.out _ _ (hall _ cc) (fun hH => ?_)
      clear hK K
      try simp only [Act.put, gA, gB, gC, gD, gE, gG]
      refine wpAnyH_done (by kernel_rfl) ?_ _
      go_wp2_with fail
      go_meet
      exact ⟨_, _, _, rfl, rfl, rfl, qa, qb, zzY136, zzY0, cc⟩
    ·skip
     go_simp
     have zzY135 := cc.size
     have ne0_1 : Y0.heap.size ≠ Y135.heap.size := Nat.ne_of_lt (on_lti qb)
     replace qb := on_oldi qb (Obj.cells #[.bool false, .int .i64 0, .int .i64 0] 139 (0, 0))
     have qa := World.alloc_heap_new Y135 (Obj.cells #[.bool false, .int .i64 0, .int .i64 0] 139 (0, 0))
     replace cc := sp_new cc (Obj.cells #[.bool false, .int .i64 0, .int .i64 0] 139 (0, 0))
     generalize hY : Y135.alloc (Obj.cells #[.bool false, .int .i64 0, .int .i64 0] 139 (0, 0)) = Y158 at *
     clear hY
     refine hK.out _ _ (hall _ cc) (fun hH => ?_)
     clear hK K
     try simp only [Act.put, gA, gB, gC, gD, gE, gG]
     refine wpAnyH_ready (rs := [3]) (by kernel_rfl) (by simp) (AllReadyH.cons (o := _) rfl (fun K hK => ?_) AllReadyH.nil)
     go_simp
     refine (h1 _ (okc _ cc)).mono ?_
     rintro e Y159 ⟨rfl, g⟩
     replace cc := sp_call cc g
     replace qa := on_carryi g qa
     replace qb := on_carryi g qb
     clear g
     go_wp2_with fail
     refine hK.out _ _ (hall _ cc) (fun hH => ?_)
     clear hK K
     try simp only [Act.put, gA, gB, gC, gD, gE, gG]
     refine wpAnyH_ready (rs := [4]) (by kernel_rfl) (by simp) (AllReadyH.cons (o := _) rfl (fun K hK => ?_) AllReadyH.nil)
     go_simp
     refine (h3 _ (okc _ cc)).mono ?_
     rintro e Y160 ⟨rfl, g⟩
     replace cc := sp_call cc g
     replace qa := on_carryi g qa
     replace qb := on_carryi g qb
     clear g
     go_wp2_with fail
     refine hK.out _ _ (hall _ cc) (fun hH => ?_)
     clear hK K
     try simp only [Act.put, gA, gB, gC, gD, gE, gG]
     refine wpAnyH_ready (rs := [8]) (by kernel_rfl) (by simp) (AllReadyH.cons (o := _) rfl (fun K hK => ?_) AllReadyH.nil)
     go_simp
     refine (h4 _).mono ?_
     rintro e Y161 ⟨rfl, g⟩
     replace cc := sp_call cc g
     replace qa := on_carryi g qa
     replace qb := on_carryi g qb
     clear g
     go_wp2_with fail
     refine hK.out _ _ (hall _ cc) (fun hH => ?_)
     clear hK K
     try simp only [Act.put, gA, gB, gC, gD, gE, gG]
     refine wpAnyH_ready (rs := [9]) (by kernel_rfl) (by simp) (AllReadyH.cons (o := _) rfl (fun K hK => ?_) AllReadyH.nil)
     go_simp
     refine (h5 _ (okc _ cc)).mono ?_
     rintro e Y162 ⟨rfl, g⟩
     replace cc := sp_call cc g
     replace qa := on_carryi g qa
     replace qb := on_carryi g qb
     clear g
     go_wp2_with fail
     refine hK.out _ _ (hall _ cc) (fun hH => ?_)
     clear hK K
     try simp only [Act.put, gA, gB, gC, gD, gE, gG]
     refine wpAnyH_ready (rs := [12]) (by kernel_rfl) (by simp) (AllReadyH.cons (o := _) rfl (fun K hK => ?_) AllReadyH.nil)
     obtain ⟨q0, q1, q2, qf⟩ := on_cells3i qa
     go_simp
     clear q0 q1 q2 qf
     replace qb := on_far3i (b := Y135.heap.size) qb (.bool pe) (.int .i64 pl) (.int .i64 ph) (by first | assumption | exact Ne.symm (by assumption))
     replace qa := on_set3i qa (.bool pe) (.int .i64 pl) (.int .i64 ph)
     replace cc := sp_set3 (b := Y135.heap.size) cc zzY135 (.bool pe) (.int .i64 pl) (.int .i64 ph)
     generalize hY : (((Y162.setCell ⟨Y135.heap.size, 0, none⟩ (.bool pe)).setCell ⟨Y135.heap.size, 1, none⟩ (.int .i64 pl)).setCell ⟨Y135.heap.size, 2, none⟩ (.int .i64 ph)) = Y163 at *
     clear hY
     refine hK.out _ _ (hall _ cc) (fun hH => ?_)
     clear hK K
     try simp only [Act.put, gA, gB, gC, gD, gE, gG]
     refine wpAnyH_ready (rs := [13]) (by kernel_rfl) (by simp) (AllReadyH.cons (o := _) rfl (fun K hK => ?_) AllReadyH.nil)
     obtain ⟨q0, q1, q2, qf⟩ := on_cells3i qb
     go_simp
     clear q0 q1 q2 qf
     replace qa := on_far3i (b := Y0.heap.size) qa (.bool qe) (.int .i64 ql) (.int .i64 qh) (by first | assumption | exact Ne.symm (by assumption))
     replace qb := on_set3i qb (.bool qe) (.int .i64 ql) (.int .i64 qh)
     replace cc := sp_set3 (b := Y0.heap.size) cc zzY0 (.bool qe) (.int .i64 ql) (.int .i64 qh)
     generalize hY : (((Y163.setCell ⟨Y0.heap.size, 0, none⟩ (.bool qe)).setCell ⟨Y0.heap.size, 1, none⟩ (.int .i64 ql)).setCell ⟨Y0.heap.size, 2, none⟩ (.int .i64 qh)) = Y164 at *
     clear hY
     refine hK.out _ _ (hall _ cc) (fun hH => ?_)
     clear hK K
     try simp only [Act.put, gA, gB, gC, gD, gE, gG]
     refine wpAnyH_done (by kernel_rfl) ?_ _
     go_wp2_with fail
     go_meet
     exact ⟨_, _, _, rfl, rfl, rfl, qa, qb, zzY135, zzY0, cc⟩
  case rest =>
   obtain ⟨X, b8, b9, rfl, rfl, rfl, qa, qb, z8, z9, cX⟩ := hcut
   obtain ⟨t0, t1, t2, _⟩ := on_cells3i qa
   obtain ⟨u0, u1, u2, _⟩ := on_cells3i qb
   replace l0 := sO cX l0; replace l1 := sO cX l1; replace l2 := sO cX l2; replace l3 := sO cX l3; replace l4 := sO cX l4; replace l5 := sO cX l5; replace l6 := sO cX l6; replace l7 := sO cX l7; replace l8 := sO cX l8; replace l9 := sO cX l9; replace l10 := sO cX l10; replace a0 := sO cX a0; replace a1 := sO cX a1; replace a2 := sO cX a2; replace r0 := sO cX r0; replace r1 := sO cX r1; replace r2 := sO cX r2
   replace fz : ∀ j, X.frozen? ⟨w.heap.size + 1 + 1, j, none⟩ = false := fun j => (cX.frozen (p := ⟨w.heap.size + 1 + 1, j, none⟩) (by simp; omega)).trans (fz j)
   have zX := cX.size
   have bX := sp_call bW cX
   have hbyX := fun x V k (h : Below X.heap.size X V) => hby x V k (sp_call cX h)
   have okX := okc _ cX
   replace okc : ∀ V, Below X.heap.size X V → Below B w0 V := fun V h => ok_call hB okX h
   clear hall cc cX qa qb hby bW okW h1 h3 h4 h5
   have cc : Below X.heap.size X X := Below.refl _ _
   have hne : (op != 6) = true := by simp [bne, hop]
   have hop' : ¬ op = 6 := by simpa using hop
   have hall : ∀ X9, Below X.heap.size X X9 → (X9.cell? ⟨w.heap.size, 0, none⟩ = some (.int .i64 L.least) ∧ X9.cell? ⟨w.heap.size, 1, none⟩ = some (.int .i64 L.most) ∧ X9.cell? ⟨w.heap.size, 2, none⟩ = some (.int .i64 L.past) ∧ X9.cell? ⟨w.heap.size, 3, none⟩ = some (.func (.func L.ko) #[] L.co) ∧ X9.cell? ⟨w.heap.size, 4, none⟩ = some (.func (.func L.kp) #[] L.cp) ∧ X9.cell? ⟨w.heap.size, 5, none⟩ = some (.func (.func L.k1) #[] L.c1) ∧ X9.cell? ⟨w.heap.size, 6, none⟩ = some (.func (.func L.kv) #[] L.cv) ∧ X9.cell? ⟨w.heap.size, 7, none⟩ = some (.func (.func L.kn) #[] L.cn) ∧ X9.cell? ⟨w.heap.size, 8, none⟩ = some (.func (.func L.ku) #[] L.cu) ∧ X9.cell? ⟨w.heap.size, 9, none⟩ = some (.func (.func L.kt) #[] L.ct) ∧ X9.cell? ⟨w.heap.size, 10, none⟩ = some (.func (.func L.kz) #[] L.cz) ∧ X9.cell? ⟨b8, 0, none⟩ = some (.bool pe) ∧ X9.cell? ⟨b8, 1, none⟩ = some (.int .i64 pl) ∧ X9.cell? ⟨b8, 2, none⟩ = some (.int .i64 ph) ∧ X9.cell? ⟨b9, 0, none⟩ = some (.bool qe) ∧ X9.cell? ⟨b9, 1, none⟩ = some (.int .i64 ql) ∧ X9.cell? ⟨b9, 2, none⟩ = some (.int .i64 qh)) := fun X9 cc => ⟨sO cc l0, sO cc l1, sO cc l2, sO cc l3, sO cc l4, sO cc l5, sO cc l6, sO cc l7, sO cc l8, sO cc l9, sO cc l10, sO cc t0, sO cc t1, sO cc t2, sO cc u0, sO cc u1, sO cc u2⟩
   have hst : ∀ X9 x9 y9 z9, Below X.heap.size X X9 → ((((X9.setCell ⟨w.heap.size + 1 + 1, 0, none⟩ x9).setCell ⟨w.heap.size + 1 + 1, 1, none⟩ y9).setCell ⟨w.heap.size + 1 + 1, 2, none⟩ z9).cell? ⟨w.heap.size, 0, none⟩ = some (.int .i64 L.least) ∧ (((X9.setCell ⟨w.heap.size + 1 + 1, 0, none⟩ x9).setCell ⟨w.heap.size + 1 + 1, 1, none⟩ y9).setCell ⟨w.heap.size + 1 + 1, 2, none⟩ z9).cell? ⟨w.heap.size, 1, none⟩ = some (.int .i64 L.most) ∧ (((X9.setCell ⟨w.heap.size + 1 + 1, 0, none⟩ x9).setCell ⟨w.heap.size + 1 + 1, 1, none⟩ y9).setCell ⟨w.heap.size + 1 + 1, 2, none⟩ z9).cell? ⟨w.heap.size, 2, none⟩ = some (.int .i64 L.past) ∧ (((X9.setCell ⟨w.heap.size + 1 + 1, 0, none⟩ x9).setCell ⟨w.heap.size + 1 + 1, 1, none⟩ y9).setCell ⟨w.heap.size + 1 + 1, 2, none⟩ z9).cell? ⟨w.heap.size, 3, none⟩ = some (.func (.func L.ko) #[] L.co) ∧ (((X9.setCell ⟨w.heap.size + 1 + 1, 0, none⟩ x9).setCell ⟨w.heap.size + 1 + 1, 1, none⟩ y9).setCell ⟨w.heap.size + 1 + 1, 2, none⟩ z9).cell? ⟨w.heap.size, 4, none⟩ = some (.func (.func L.kp) #[] L.cp) ∧ (((X9.setCell ⟨w.heap.size + 1 + 1, 0, none⟩ x9).setCell ⟨w.heap.size + 1 + 1, 1, none⟩ y9).setCell ⟨w.heap.size + 1 + 1, 2, none⟩ z9).cell? ⟨w.heap.size, 5, none⟩ = some (.func (.func L.k1) #[] L.c1) ∧ (((X9.setCell ⟨w.heap.size + 1 + 1, 0, none⟩ x9).setCell ⟨w.heap.size + 1 + 1, 1, none⟩ y9).setCell ⟨w.heap.size + 1 + 1, 2, none⟩ z9).cell? ⟨w.heap.size, 6, none⟩ = some (.func (.func L.kv) #[] L.cv) ∧ (((X9.setCell ⟨w.heap.size + 1 + 1, 0, none⟩ x9).setCell ⟨w.heap.size + 1 + 1, 1, none⟩ y9).setCell ⟨w.heap.size + 1 + 1, 2, none⟩ z9).cell? ⟨w.heap.size, 7, none⟩ = some (.func (.func L.kn) #[] L.cn) ∧ (((X9.setCell ⟨w.heap.size + 1 + 1, 0, none⟩ x9).setCell ⟨w.heap.size + 1 + 1, 1, none⟩ y9).setCell ⟨w.heap.size + 1 + 1, 2, none⟩ z9).cell? ⟨w.heap.size, 8, none⟩ = some (.func (.func L.ku) #[] L.cu) ∧ (((X9.setCell ⟨w.heap.size + 1 + 1, 0, none⟩ x9).setCell ⟨w.heap.size + 1 + 1, 1, none⟩ y9).setCell ⟨w.heap.size + 1 + 1, 2, none⟩ z9).cell? ⟨w.heap.size, 9, none⟩ = some (.func (.func L.kt) #[] L.ct) ∧ (((X9.setCell ⟨w.heap.size + 1 + 1, 0, none⟩ x9).setCell ⟨w.heap.size + 1 + 1, 1, none⟩ y9).setCell ⟨w.heap.size + 1 + 1, 2, none⟩ z9).cell? ⟨w.heap.size, 10, none⟩ = some (.func (.func L.kz) #[] L.cz) ∧ (((X9.setCell ⟨w.heap.size + 1 + 1, 0, none⟩ x9).setCell ⟨w.heap.size + 1 + 1, 1, none⟩ y9).setCell ⟨w.heap.size + 1 + 1, 2, none⟩ z9).cell? ⟨b8, 0, none⟩ = some (.bool pe) ∧ (((X9.setCell ⟨w.heap.size + 1 + 1, 0, none⟩ x9).setCell ⟨w.heap.size + 1 + 1, 1, none⟩ y9).setCell ⟨w.heap.size + 1 + 1, 2, none⟩ z9).cell? ⟨b8, 1, none⟩ = some (.int .i64 pl) ∧ (((X9.setCell ⟨w.heap.size + 1 + 1, 0, none⟩ x9).setCell ⟨w.heap.size + 1 + 1, 1, none⟩ y9).setCell ⟨w.heap.size + 1 + 1, 2, none⟩ z9).cell? ⟨b8, 2, none⟩ = some (.int .i64 ph) ∧ (((X9.setCell ⟨w.heap.size + 1 + 1, 0, none⟩ x9).setCell ⟨w.heap.size + 1 + 1, 1, none⟩ y9).setCell ⟨w.heap.size + 1 + 1, 2, none⟩ z9).cell? ⟨b9, 0, none⟩ = some (.bool qe) ∧ (((X9.setCell ⟨w.heap.size + 1 + 1, 0, none⟩ x9).setCell ⟨w.heap.size + 1 + 1, 1, none⟩ y9).setCell ⟨w.heap.size + 1 + 1, 2, none⟩ z9).cell? ⟨b9, 1, none⟩ = some (.int .i64 ql) ∧ (((X9.setCell ⟨w.heap.size + 1 + 1, 0, none⟩ x9).setCell ⟨w.heap.size + 1 + 1, 1, none⟩ y9).setCell ⟨w.heap.size + 1 + 1, 2, none⟩ z9).cell? ⟨b9, 2, none⟩ = some (.int .i64 qh)) := fun X9 x9 y9 z9 cc => ⟨sp_keep3 (sO cc l0) (by omega) _ _ _, sp_keep3 (sO cc l1) (by omega) _ _ _, sp_keep3 (sO cc l2) (by omega) _ _ _, sp_keep3 (sO cc l3) (by omega) _ _ _, sp_keep3 (sO cc l4) (by omega) _ _ _, sp_keep3 (sO cc l5) (by omega) _ _ _, sp_keep3 (sO cc l6) (by omega) _ _ _, sp_keep3 (sO cc l7) (by omega) _ _ _, sp_keep3 (sO cc l8) (by omega) _ _ _, sp_keep3 (sO cc l9) (by omega) _ _ _, sp_keep3 (sO cc l10) (by omega) _ _ _, sp_keep3 (sO cc t0) (by omega) _ _ _, sp_keep3 (sO cc t1) (by omega) _ _ _, sp_keep3 (sO cc t2) (by omega) _ _ _, sp_keep3 (sO cc u0) (by omega) _ _ _, sp_keep3 (sO cc u1) (by omega) _ _ _, sp_keep3 (sO cc u2) (by omega) _ _ _⟩
   go_upto_region 6 with fail
   go_region_held3 (fun w' => w'.cell? ⟨w.heap.size, 0, none⟩ = some (.int .i64 L.least) ∧ w'.cell? ⟨w.heap.size, 1, none⟩ = some (.int .i64 L.most) ∧ w'.cell? ⟨w.heap.size, 2, none⟩ = some (.int .i64 L.past) ∧ w'.cell? ⟨w.heap.size, 3, none⟩ = some (.func (.func L.ko) #[] L.co) ∧ w'.cell? ⟨w.heap.size, 4, none⟩ = some (.func (.func L.kp) #[] L.cp) ∧ w'.cell? ⟨w.heap.size, 5, none⟩ = some (.func (.func L.k1) #[] L.c1) ∧ w'.cell? ⟨w.heap.size, 6, none⟩ = some (.func (.func L.kv) #[] L.cv) ∧ w'.cell? ⟨w.heap.size, 7, none⟩ = some (.func (.func L.kn) #[] L.cn) ∧ w'.cell? ⟨w.heap.size, 8, none⟩ = some (.func (.func L.ku) #[] L.cu) ∧ w'.cell? ⟨w.heap.size, 9, none⟩ = some (.func (.func L.kt) #[] L.ct) ∧ w'.cell? ⟨w.heap.size, 10, none⟩ = some (.func (.func L.kz) #[] L.cz) ∧ w'.cell? ⟨b8, 0, none⟩ = some (.bool pe) ∧ w'.cell? ⟨b8, 1, none⟩ = some (.int .i64 pl) ∧ w'.cell? ⟨b8, 2, none⟩ = some (.int .i64 ph) ∧ w'.cell? ⟨b9, 0, none⟩ = some (.bool qe) ∧ w'.cell? ⟨b9, 1, none⟩ = some (.int .i64 ql) ∧ w'.cell? ⟨b9, 2, none⟩ = some (.int .i64 qh)) (first | exact hall _ (by first | with_reducible exact cc | with_reducible exact cc.drew | with_reducible exact sp_new cc _ | with_reducible exact (sp_new cc _).drew | with_reducible exact sp_new cc.drew _) | exact hst _ _ _ _ (by first | with_reducible exact cc | with_reducible exact cc.drew | with_reducible exact sp_new cc _ | with_reducible exact (sp_new cc _).drew | with_reducible exact sp_new cc.drew _))
    (first
      | (go_at_call 215; refine (he2 _ _ _ _ _ _).mono ?_; rintro e v5 ⟨p, rfl, f0, f2, hp, g⟩; have srow := onrow2_i g f2 (by simp [go_sem]; exact ⟨rfl, rfl, rfl, rfl, rfl, rfl⟩); replace cc := sp_call (show Below X.heap.size X _ by first | with_reducible exact cc | with_reducible exact cc.drew | with_reducible exact sp_new cc _ | with_reducible exact (sp_new cc _).drew | with_reducible exact sp_new cc.drew _) g; have zv5 := cc.size)
      | (go_at_call 110; refine (htold _ _ _ (okc _ (show Below X.heap.size X _ by first | with_reducible exact cc | with_reducible exact cc.drew | with_reducible exact sp_new cc _ | with_reducible exact (sp_new cc _).drew | with_reducible exact sp_new cc.drew _)) (enters_of Tryz.func274 (by kernel_rfl) rfl) (fun S W0 hW hSS => feeds1_i (ls := [(pe, pl, ph), (qe, ql, qh)]) f0 f2 srow.1 (by simp) hp srow.2 eby hbyX hok cc (sp_call (show Below v5.heap.size v5 _ by first | with_reducible exact Below.refl _ _ | with_reducible exact (Below.refl _ _).drew) hW) (fun k hk => ⟨Nat.le_trans (show Below v5.heap.size v5 _ by first | with_reducible exact Below.refl _ _ | with_reducible exact (Below.refl _ _).drew).size (hSS k hk).1, (hSS k hk).2⟩))).mono ?_; rintro e v6 ⟨rfl, g⟩; replace cc := sp_call (show Below X.heap.size X _ by first | with_reducible exact cc | with_reducible exact cc.drew | with_reducible exact sp_new cc _ | with_reducible exact (sp_new cc _).drew | with_reducible exact sp_new cc.drew _) g; have zv6 := cc.size; replace r0 := sO cc r0; replace r1 := sO cc r1; replace r2 := sO cc r2; replace fz : ∀ j, v6.frozen? ⟨w.heap.size + 1 + 1, j, none⟩ = false := fun j => (cc.frozen (p := ⟨w.heap.size + 1 + 1, j, none⟩) (by simp; omega)).trans (fz j); replace bX := sp_call bX cc)
      | fail)
   all_goals go_wp2
   all_goals exact bodyPost_ret (v := .tuple #[.agg #[.bool me, .int .i64 mlo, .int .i64 mhi], .int .i64 TR]) (by simp [results, Tryz.results131, go_sem, r0, r1, r2]) rfl ⟨rfl, sp_set3 bX (by omega) _ _ _⟩
end Go.Proofs.YthjoigkckgdcaaaGreat

