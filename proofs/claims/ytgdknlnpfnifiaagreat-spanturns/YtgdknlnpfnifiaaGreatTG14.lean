/- Texts of the proof, put together. -/
import Derived.Test.YtgdknlnpfnifiaaGreatTG13
import Derived.Test.YtgdknlnpfnifiaaGreatTSpWi
import Derived.Test.YtgdknlnpfnifiaaGreatTSpHi
import Derived.Deep.DeepCutAuto
namespace Go.Proofs.YtgdknlnpfnifiaaGreat
open Go.RowKit
set_option linter.unusedVariables false
set_option linter.unusedSimpArgs false
theorem carry1i {X v : World} {b : Nat} {o : Obj} (g : Below X.heap.size X v) (q : X.heap[b]? = some o) : v.heap[b]? = some o := (g.block b (Array.getElem?_eq_some_iff.1 q).1).trans q
theorem carry2i {X v : World} {b : Nat} {o o' : Obj} (g : Below (X.alloc o').heap.size (X.alloc o') v) (q : X.heap[b]? = some o) : v.heap[b]? = some o := carry1i g ((Below.heap_alloc X o' b (Array.getElem?_eq_some_iff.1 q).1).trans q)
theorem carry3i {X v : World} {b : Nat} {o o' : Obj} (g : Below (X.alloc o').drew.heap.size (X.alloc o').drew v) (q : X.heap[b]? = some o) : v.heap[b]? = some o := carry2i (X := X) (o' := o') ⟨g.os, g.tape, g.output, g.size, g.block⟩ q
theorem neweri {X v : World} {o o' : Obj} (g : Below ((X.alloc o').alloc o).heap.size ((X.alloc o').alloc o) v) : v.heap[X.heap.size + 1]? = some o := carry1i g (by have := World.alloc_heap_new (X.alloc o') o; rwa [World.size_alloc] at this)
theorem elderi {X v : World} {o o' : Obj} (g : Below ((X.alloc o).alloc o').heap.size ((X.alloc o).alloc o') v) : v.heap[X.heap.size]? = some o := carry2i g (World.alloc_heap_new X o)
theorem blti {v : World} {b : Nat} {o : Obj} (q : v.heap[b]? = some o) : b < v.heap.size := (Array.getElem?_eq_some_iff.1 q).1
theorem zcellsi {v : World} {b : Nat} {t : TypeId} (q : v.heap[b]? = some (.cells #[.bool false, .int .i64 0, .int .i64 0] t (0, 0))) : v.cell? ⟨b, 0, none⟩ = some (.bool false) ∧ v.cell? ⟨b, 1, none⟩ = some (.int .i64 0) ∧ v.cell? ⟨b, 2, none⟩ = some (.int .i64 0) ∧ ∀ j, v.frozen? ⟨b, j, none⟩ = false := by
  refine ⟨by simp [World.cell?, q], by simp [World.cell?, q], by simp [World.cell?, q], fun j => by simp [World.frozen?, q]⟩
theorem srow2_xi {X v5 : World} {b p : Nat} {e e' : Bool} {a0 b0 a' b' : Int} (g : Below X.heap.size X v5) (f2 : v5.cell? ⟨p + 1 + 1, 0, none⟩ = some (.slice (some ⟨b, 0, none⟩) 2 2)) (h : X.cell? ⟨b, 0, none⟩ = some (.bool e) ∧ X.cell? ⟨b, 1, none⟩ = some (.int .i64 a0) ∧ X.cell? ⟨b, 2, none⟩ = some (.int .i64 b0) ∧ X.cell? ⟨b, 3, none⟩ = some (.bool e') ∧ X.cell? ⟨b, 4, none⟩ = some (.int .i64 a') ∧ X.cell? ⟨b, 5, none⟩ = some (.int .i64 b')) :
    SRowi v5 b [(e, a0, b0), (e', a', b')] ∧ b < v5.heap.size := by
  obtain ⟨s0, s1, s2, s3, s4, s5⟩ := h
  refine ⟨fun j s hj => ?_, Nat.lt_of_lt_of_le (World.block_lt_of_cell? X ⟨b, 0, none⟩ s0) g.size⟩
  rcases j with _ | _ | n
  · simp at hj; subst hj
    exact ⟨sO g s0, sO g s1, sO g s2⟩
  · simp at hj; subst hj
    exact ⟨sO g s3, sO g s4, sO g s5⟩
  · simp at hj
set_option maxRecDepth 100000 in
set_option maxHeartbeats 6400000 in
theorem quot_i {L : Ln} {A : Ways} {B : Nat} {w0 : World} (H : Actsi L A B w0) (ez : ∀ args w, (callFunc L.kz args).run Tryz.prog w = .ok (.enter L.kz args) w) (T : Int) (hT : ∀ w, Calls Tryz.prog 86 #[.int .i64 L.past] w fun e w' => e = .returned (.int .i64 T) ∧ w' = w) (okp : Int → Int → Prop) (g : Int → Int → Int) (kb : Nat) (caps : Array Value) (eby : ∀ args w, (callFunc kb args).run Tryz.prog w = .ok (.enter kb args) w)
    (a b c d : Int) (z : Int) (d0 : A.dom 0) (d0' : A.dom (A.pl 0)) (o0 : A.one 0 = true) (dl : A.dom L.least) (dm : A.dom L.most) (dp : A.dom (A.prv 0)) (dn : A.dom (A.nxt 0)) (dc : A.dom c) (dd : A.dom d)
    (hx : ∀ p ∈ pairsL (false, a, b) [meetP A (false, c, d) (belowP A L 0), meetP A (false, c, d) (aboveP A L 0)], okp p.1 p.2 ∧ A.dom (g p.1 p.2) ∧ A.dom (A.pl (g p.1 p.2))) (w : World) (ok : Below B w0 w)
    (hby : ∀ x y X, okp x y → Below w.heap.size w X → Calls Tryz.prog kb (#[.int .i64 x, .int .i64 y] ++ caps) X fun e X' => e = .returned (.int .i64 (g x y)) ∧ Below X.heap.size X X')
    (hz : ∀ V, Below B w0 V → Calls Tryz.prog L.kz (#[.agg #[.bool false, .int .i64 a, .int .i64 b]] ++ L.cz) V fun e V' => e = .returned (.int .i64 z) ∧ Below V.heap.size V V') :
    Calls Tryz.prog 137 #[.agg (lvi L), .func (.func kb) #[] caps, .agg #[.bool false, .int .i64 a, .int .i64 b], .agg #[.bool false, .int .i64 c, .int .i64 d]] w fun e w' =>
      e = .returned (.tuple #[sVi (meetP A (hullP A ((pairsL (false, a, b) [meetP A (false, c, d) (belowP A L 0), meetP A (false, c, d) (aboveP A L 0)]).map fun p => g p.1 p.2)) (false, L.least, L.most)),
        .int .i64 (if hasP A (false, c, d) 0 then bits BinOp.or IntKind.i64 (trapP A L T ((pairsL (false, a, b) [meetP A (false, c, d) (belowP A L 0), meetP A (false, c, d) (aboveP A L 0)]).map fun p => g p.1 p.2)) z else trapP A L T ((pairsL (false, a, b) [meetP A (false, c, d) (belowP A L 0), meetP A (false, c, d) (aboveP A L 0)]).map fun p => g p.1 p.2))]) ∧ Below w.heap.size w w' := by
  have hB := H.hB
  have hbe : A.dom (belowP A L 0).2.1 ∧ A.dom (belowP A L 0).2.2 := by unfold belowP; split; exact ⟨d0, d0⟩; exact ⟨dl, dp⟩
  have hab : A.dom (aboveP A L 0).2.1 ∧ A.dom (aboveP A L 0).2.2 := by unfold aboveP; split; exact ⟨d0, d0⟩; exact ⟨dn, dm⟩
  have h1 := fun V ok => below_i H 0 d0 o0 dl V ok
  have h2 := fun V ok => meet_i H false (belowP A L 0).1 c d (belowP A L 0).2.1 (belowP A L 0).2.2 dc dd hbe.1 hbe.2 V ok
  have h3 := fun V ok => above_i H 0 d0 o0 dm V ok
  have h4 := fun V ok => meet_i H false (aboveP A L 0).1 c d (aboveP A L 0).2.1 (aboveP A L 0).2.2 dc dd hab.1 hab.2 V ok
  have h5 := fun V ok => has_i H false c d 0 dc dd d0 d0' V ok
  clear hbe hab
  have htold := fun gf lb w ok eg hseq => told_i H T hT gf lb ((pairsL (false, a, b) [meetP A (false, c, d) (belowP A L 0), meetP A (false, c, d) (aboveP A L 0)]).map fun p => g p.1 p.2) d0 dl dm (fun x hxm => by
    obtain ⟨p, hp, rfl⟩ := List.mem_map.1 hxm
    exact (hx p hp).2) w ok eg hseq
  have he2 := each2x_i
  have hok : ∀ q ∈ pairsL (false, a, b) [meetP A (false, c, d) (belowP A L 0), meetP A (false, c, d) (aboveP A L 0)], okp q.1 q.2 := fun q hq => (hx q hq).1
  clear hx H
  unfold mVi at h2 h4
  generalize meetP A (false, c, d) (belowP A L 0) = m1 at *
  generalize meetP A (false, c, d) (aboveP A L 0) = m2 at *
  generalize belowP A L 0 = be at *
  generalize aboveP A L 0 = ab at *
  generalize hasP A (false, c, d) 0 = hs at *
  obtain ⟨m1e, m1l, m1h⟩ := m1
  obtain ⟨m2e, m2l, m2h⟩ := m2
  obtain ⟨bee, bel, beh⟩ := be
  obtain ⟨abe, abl, abh⟩ := ab
  generalize meetP A (hullP A ((pairsL (false, a, b) [(m1e, m1l, m1h), (m2e, m2l, m2h)]).map fun p => g p.1 p.2)) (false, L.least, L.most) = R at *
  obtain ⟨me, mlo, mhi⟩ := R
  generalize trapP A L T ((pairsL (false, a, b) [(m1e, m1l, m1h), (m2e, m2l, m2h)]).map fun p => g p.1 p.2) = TR at *
  obtain ⟨TT, HTT⟩ : ∃ t, Hid (t = if hs then bits BinOp.or IntKind.i64 TR z else TR) := ⟨_, rfl⟩
  rw [← HTT.out]
  unfold sVi lvi at *
  dsimp only at *
  go_enter Tryz.func137, Tryz.ntmps137
  go_upto_region 1 with fail
  obtain ⟨W, hW⟩ : ∃ W, ((((w.alloc (.cells #[.int .i64 L.least, .int .i64 L.most, .int .i64 L.past, .func (.func L.ko) #[] L.co, .func (.func L.kp) #[] L.cp, .func (.func L.k1) #[] L.c1, .func (.func L.kv) #[] L.cv, .func (.func L.kn) #[] L.cn, .func (.func L.ku) #[] L.cu, .func (.func L.kt) #[] L.ct, .func (.func L.kz) #[] L.cz] 93)).alloc (.cells #[.bool false, .int .i64 a, .int .i64 b] 96)).alloc (.cells #[.bool false, .int .i64 c, .int .i64 d] 96)).alloc (.cells #[.bool false, .int .i64 0, .int .i64 0] 96)) = W := ⟨_, rfl⟩
  have l0 : W.cell? ⟨w.heap.size, 0, none⟩ = some (.int .i64 L.least) := by rw [← hW]; simp [go_sem]
  have l1 : W.cell? ⟨w.heap.size, 1, none⟩ = some (.int .i64 L.most) := by rw [← hW]; simp [go_sem]
  have l2 : W.cell? ⟨w.heap.size, 2, none⟩ = some (.int .i64 L.past) := by rw [← hW]; simp [go_sem]
  have l3 : W.cell? ⟨w.heap.size, 3, none⟩ = some (.func (.func L.ko) #[] L.co) := by rw [← hW]; simp [go_sem]
  have l4 : W.cell? ⟨w.heap.size, 4, none⟩ = some (.func (.func L.kp) #[] L.cp) := by rw [← hW]; simp [go_sem]
  have l5 : W.cell? ⟨w.heap.size, 5, none⟩ = some (.func (.func L.k1) #[] L.c1) := by rw [← hW]; simp [go_sem]
  have l6 : W.cell? ⟨w.heap.size, 6, none⟩ = some (.func (.func L.kv) #[] L.cv) := by rw [← hW]; simp [go_sem]
  have l7 : W.cell? ⟨w.heap.size, 7, none⟩ = some (.func (.func L.kn) #[] L.cn) := by rw [← hW]; simp [go_sem]
  have l8 : W.cell? ⟨w.heap.size, 8, none⟩ = some (.func (.func L.ku) #[] L.cu) := by rw [← hW]; simp [go_sem]
  have l9 : W.cell? ⟨w.heap.size, 9, none⟩ = some (.func (.func L.kt) #[] L.ct) := by rw [← hW]; simp [go_sem]
  have l10 : W.cell? ⟨w.heap.size, 10, none⟩ = some (.func (.func L.kz) #[] L.cz) := by rw [← hW]; simp [go_sem]
  have a0 : W.cell? ⟨w.heap.size + 1, 0, none⟩ = some (.bool false) := by rw [← hW]; simp [go_sem]
  have a1 : W.cell? ⟨w.heap.size + 1, 1, none⟩ = some (.int .i64 a) := by rw [← hW]; simp [go_sem]
  have a2 : W.cell? ⟨w.heap.size + 1, 2, none⟩ = some (.int .i64 b) := by rw [← hW]; simp [go_sem]
  have b0 : W.cell? ⟨w.heap.size + 1 + 1, 0, none⟩ = some (.bool false) := by rw [← hW]; simp [go_sem]
  have b1 : W.cell? ⟨w.heap.size + 1 + 1, 1, none⟩ = some (.int .i64 c) := by rw [← hW]; simp [go_sem]
  have b2 : W.cell? ⟨w.heap.size + 1 + 1, 2, none⟩ = some (.int .i64 d) := by rw [← hW]; simp [go_sem]
  have r0 : W.cell? ⟨w.heap.size + 1 + 1 + 1, 0, none⟩ = some (.bool false) := by rw [← hW]; simp [go_sem]
  have r1 : W.cell? ⟨w.heap.size + 1 + 1 + 1, 1, none⟩ = some (.int .i64 0) := by rw [← hW]; simp [go_sem]
  have r2 : W.cell? ⟨w.heap.size + 1 + 1 + 1, 2, none⟩ = some (.int .i64 0) := by rw [← hW]; simp [go_sem]
  have okW : Below B w0 W := by rw [← hW]; exact (ok_new hB (ok_new hB (ok_new hB (ok_new hB ok _) _) _) _)
  have bW : Below w.heap.size w W := by rw [← hW]; exact (sp_new (sp_new (sp_new (sp_new (Below.refl _ _) _) _) _) _)
  have zW : W.heap.size = w.heap.size + 4 := by rw [← hW]; simp
  have fz : ∀ j, W.frozen? ⟨w.heap.size + 1 + 1 + 1, j, none⟩ = false := by intro j; rw [← hW]; simp [go_sem]
  rw [hW]
  clear hW
  have hall : ∀ X, Below W.heap.size W X → (X.cell? ⟨w.heap.size, 0, none⟩ = some (.int .i64 L.least) ∧ X.cell? ⟨w.heap.size, 1, none⟩ = some (.int .i64 L.most) ∧ X.cell? ⟨w.heap.size, 2, none⟩ = some (.int .i64 L.past) ∧ X.cell? ⟨w.heap.size, 3, none⟩ = some (.func (.func L.ko) #[] L.co) ∧ X.cell? ⟨w.heap.size, 4, none⟩ = some (.func (.func L.kp) #[] L.cp) ∧ X.cell? ⟨w.heap.size, 5, none⟩ = some (.func (.func L.k1) #[] L.c1) ∧ X.cell? ⟨w.heap.size, 6, none⟩ = some (.func (.func L.kv) #[] L.cv) ∧ X.cell? ⟨w.heap.size, 7, none⟩ = some (.func (.func L.kn) #[] L.cn) ∧ X.cell? ⟨w.heap.size, 8, none⟩ = some (.func (.func L.ku) #[] L.cu) ∧ X.cell? ⟨w.heap.size, 9, none⟩ = some (.func (.func L.kt) #[] L.ct) ∧ X.cell? ⟨w.heap.size, 10, none⟩ = some (.func (.func L.kz) #[] L.cz) ∧ X.cell? ⟨w.heap.size + 1, 0, none⟩ = some (.bool false) ∧ X.cell? ⟨w.heap.size + 1, 1, none⟩ = some (.int .i64 a) ∧ X.cell? ⟨w.heap.size + 1, 2, none⟩ = some (.int .i64 b) ∧ X.cell? ⟨w.heap.size + 1 + 1, 0, none⟩ = some (.bool false) ∧ X.cell? ⟨w.heap.size + 1 + 1, 1, none⟩ = some (.int .i64 c) ∧ X.cell? ⟨w.heap.size + 1 + 1, 2, none⟩ = some (.int .i64 d)) := fun X cc => ⟨sO cc l0, sO cc l1, sO cc l2, sO cc l3, sO cc l4, sO cc l5, sO cc l6, sO cc l7, sO cc l8, sO cc l9, sO cc l10, sO cc a0, sO cc a1, sO cc a2, sO cc b0, sO cc b1, sO cc b2⟩
  have okc : ∀ X, Below W.heap.size W X → Below B w0 X := fun X cc => ok_call hB okW cc
  have cc : Below W.heap.size W W := Below.refl _ _
  clear okW
  replace zW := Nat.le_of_eq zW.symm
  go_cut [10, 11] from 12 to 30 (fun s t X => ∃ b : Nat, s = .pointer (some ⟨b, 0, none⟩) ∧ t = .int .i64 TR ∧ W.heap.size ≤ b ∧ X.cell? ⟨b, 0, none⟩ = some (.bool me) ∧ X.cell? ⟨b, 1, none⟩ = some (.int .i64 mlo) ∧ X.cell? ⟨b, 2, none⟩ = some (.int .i64 mhi) ∧ Below W.heap.size W X)
  case first =>
   go_region_held3 (fun w' => w'.cell? ⟨w.heap.size, 0, none⟩ = some (.int .i64 L.least) ∧ w'.cell? ⟨w.heap.size, 1, none⟩ = some (.int .i64 L.most) ∧ w'.cell? ⟨w.heap.size, 2, none⟩ = some (.int .i64 L.past) ∧ w'.cell? ⟨w.heap.size, 3, none⟩ = some (.func (.func L.ko) #[] L.co) ∧ w'.cell? ⟨w.heap.size, 4, none⟩ = some (.func (.func L.kp) #[] L.cp) ∧ w'.cell? ⟨w.heap.size, 5, none⟩ = some (.func (.func L.k1) #[] L.c1) ∧ w'.cell? ⟨w.heap.size, 6, none⟩ = some (.func (.func L.kv) #[] L.cv) ∧ w'.cell? ⟨w.heap.size, 7, none⟩ = some (.func (.func L.kn) #[] L.cn) ∧ w'.cell? ⟨w.heap.size, 8, none⟩ = some (.func (.func L.ku) #[] L.cu) ∧ w'.cell? ⟨w.heap.size, 9, none⟩ = some (.func (.func L.kt) #[] L.ct) ∧ w'.cell? ⟨w.heap.size, 10, none⟩ = some (.func (.func L.kz) #[] L.cz) ∧ w'.cell? ⟨w.heap.size + 1, 0, none⟩ = some (.bool false) ∧ w'.cell? ⟨w.heap.size + 1, 1, none⟩ = some (.int .i64 a) ∧ w'.cell? ⟨w.heap.size + 1, 2, none⟩ = some (.int .i64 b) ∧ w'.cell? ⟨w.heap.size + 1 + 1, 0, none⟩ = some (.bool false) ∧ w'.cell? ⟨w.heap.size + 1 + 1, 1, none⟩ = some (.int .i64 c) ∧ w'.cell? ⟨w.heap.size + 1 + 1, 2, none⟩ = some (.int .i64 d)) (exact hall _ (by first | exact cc | exact cc.drew | exact sp_new cc _ | exact (sp_new cc _).drew | exact sp_new cc.drew _ | exact sp_new (sp_new cc _) _ | exact sp_set3 cc (by omega) _ _ _ | exact (sp_set3 cc (by omega) _ _ _).drew))
    (first
      | (go_at_call 197; refine (h1 _ (okc _ (by first | exact cc | exact cc.drew | exact sp_new cc _ | exact (sp_new cc _).drew | exact sp_new cc.drew _ | exact sp_new (sp_new cc _) _))).mono ?_; rintro e v1 ⟨rfl, g⟩; replace cc := sp_call (show Below W.heap.size W _ by first | exact cc | exact cc.drew | exact sp_new cc _ | exact (sp_new cc _).drew | exact sp_new cc.drew _ | exact sp_new (sp_new cc _) _) g; have zcv1 := cc.size; (try first | (have qb := carry1i (o := Obj.cells #[.bool false, .int .i64 0, .int .i64 0] 96 (0, 0)) g (by assumption)) | (have qb := carry2i (o := Obj.cells #[.bool false, .int .i64 0, .int .i64 0] 96 (0, 0)) g (by assumption)) | (have qb := carry3i (o := Obj.cells #[.bool false, .int .i64 0, .int .i64 0] 96 (0, 0)) g (by assumption))); (try have qb : v1.heap[W.heap.size]? = some (Obj.cells #[.bool false, .int .i64 0, .int .i64 0] 96 (0, 0)) := (g.block _ (show W.heap.size < (World.alloc W _).heap.size by simp)).trans (World.alloc_heap_new W (Obj.cells #[.bool false, .int .i64 0, .int .i64 0] 96 (0, 0)))); (try first | (have qb : v1.heap[W.heap.size]? = some (Obj.cells #[.bool false, .int .i64 0, .int .i64 0] 96 (0, 0)) := carry1i g (World.alloc_heap_new W.drew (Obj.cells #[.bool false, .int .i64 0, .int .i64 0] 96 (0, 0)))) | (have qb : v1.heap[W.heap.size]? = some (Obj.cells #[.bool false, .int .i64 0, .int .i64 0] 96 (0, 0)) := carry1i g (show (World.drew (World.alloc W (Obj.cells #[.bool false, .int .i64 0, .int .i64 0] 96 (0, 0)))).heap[W.heap.size]? = some (Obj.cells #[.bool false, .int .i64 0, .int .i64 0] 96 (0, 0)) from World.alloc_heap_new W (Obj.cells #[.bool false, .int .i64 0, .int .i64 0] 96 (0, 0)))) | skip); skip; clear h1)
      | (go_at_call 128; refine (h2 _ (okc _ (by first | exact cc | exact cc.drew | exact sp_new cc _ | exact (sp_new cc _).drew | exact sp_new cc.drew _ | exact sp_new (sp_new cc _) _))).mono ?_; rintro e v2 ⟨rfl, g⟩; replace cc := sp_call (show Below W.heap.size W _ by first | exact cc | exact cc.drew | exact sp_new cc _ | exact (sp_new cc _).drew | exact sp_new cc.drew _ | exact sp_new (sp_new cc _) _) g; have zcv2 := cc.size; (try first | (have qb := carry1i (o := Obj.cells #[.bool false, .int .i64 0, .int .i64 0] 96 (0, 0)) g (by assumption)) | (have qb := carry2i (o := Obj.cells #[.bool false, .int .i64 0, .int .i64 0] 96 (0, 0)) g (by assumption)) | (have qb := carry3i (o := Obj.cells #[.bool false, .int .i64 0, .int .i64 0] 96 (0, 0)) g (by assumption))); (try have qb : v2.heap[v1.heap.size]? = some (Obj.cells #[.bool false, .int .i64 0, .int .i64 0] 96 (0, 0)) := (g.block _ (show v1.heap.size < (World.alloc v1 _).heap.size by simp)).trans (World.alloc_heap_new v1 (Obj.cells #[.bool false, .int .i64 0, .int .i64 0] 96 (0, 0)))); skip; clear h2)
      | (go_at_call 198; refine (h3 _ (okc _ (by first | exact cc | exact cc.drew | exact sp_new cc _ | exact (sp_new cc _).drew | exact sp_new cc.drew _ | exact sp_new (sp_new cc _) _))).mono ?_; rintro e v3 ⟨rfl, g⟩; replace cc := sp_call (show Below W.heap.size W _ by first | exact cc | exact cc.drew | exact sp_new cc _ | exact (sp_new cc _).drew | exact sp_new cc.drew _ | exact sp_new (sp_new cc _) _) g; have zcv3 := cc.size; (try first | (have qb := carry1i (o := Obj.cells #[.bool false, .int .i64 0, .int .i64 0] 96 (0, 0)) g (by assumption)) | (have qb := carry2i (o := Obj.cells #[.bool false, .int .i64 0, .int .i64 0] 96 (0, 0)) g (by assumption)) | (have qb := carry3i (o := Obj.cells #[.bool false, .int .i64 0, .int .i64 0] 96 (0, 0)) g (by assumption))); (try have qb : v3.heap[v2.heap.size]? = some (Obj.cells #[.bool false, .int .i64 0, .int .i64 0] 96 (0, 0)) := (g.block _ (show v2.heap.size < (World.alloc v2 _).heap.size by simp)).trans (World.alloc_heap_new v2 (Obj.cells #[.bool false, .int .i64 0, .int .i64 0] 96 (0, 0)))); skip; clear h3)
      | (go_at_call 128; refine (h4 _ (okc _ (by first | exact cc | exact cc.drew | exact sp_new cc _ | exact (sp_new cc _).drew | exact sp_new cc.drew _ | exact sp_new (sp_new cc _) _))).mono ?_; rintro e v4 ⟨rfl, g⟩; replace cc := sp_call (show Below W.heap.size W _ by first | exact cc | exact cc.drew | exact sp_new cc _ | exact (sp_new cc _).drew | exact sp_new cc.drew _ | exact sp_new (sp_new cc _) _) g; have zcv4 := cc.size; (try first | (have qb := carry1i (o := Obj.cells #[.bool false, .int .i64 0, .int .i64 0] 96 (0, 0)) g (by assumption)) | (have qb := carry2i (o := Obj.cells #[.bool false, .int .i64 0, .int .i64 0] 96 (0, 0)) g (by assumption)) | (have qb := carry3i (o := Obj.cells #[.bool false, .int .i64 0, .int .i64 0] 96 (0, 0)) g (by assumption))); (try have qb : v4.heap[v3.heap.size]? = some (Obj.cells #[.bool false, .int .i64 0, .int .i64 0] 96 (0, 0)) := (g.block _ (show v3.heap.size < (World.alloc v3 _).heap.size by simp)).trans (World.alloc_heap_new v3 (Obj.cells #[.bool false, .int .i64 0, .int .i64 0] 96 (0, 0)))); skip; clear h4)
      | (go_at_call 138; refine (he2 _ _ _ _ _ _ _ _ _).mono ?_; rintro e v5 ⟨p, rfl, f0, f1, f2, hp, g⟩; have srow := srow2_xi g f2 (by simp [go_sem]; exact ⟨rfl, rfl, rfl, rfl, rfl, rfl⟩); replace cc := sp_call (show Below W.heap.size W _ by first | exact cc | exact cc.drew | exact sp_new cc _ | exact (sp_new cc _).drew | exact sp_new cc.drew _ | exact sp_new (sp_new cc _) _) g; have zcv5 := cc.size; (try first | (have qb := carry1i (o := Obj.cells #[.bool false, .int .i64 0, .int .i64 0] 96 (0, 0)) g (by assumption)) | (have qb := carry2i (o := Obj.cells #[.bool false, .int .i64 0, .int .i64 0] 96 (0, 0)) g (by assumption)) | (have qb := carry3i (o := Obj.cells #[.bool false, .int .i64 0, .int .i64 0] 96 (0, 0)) g (by assumption))); (try have qb : v5.heap[v4.heap.size]? = some (Obj.cells #[.bool false, .int .i64 0, .int .i64 0] 96 (0, 0)) := (g.block _ (show v4.heap.size < (World.alloc v4 _).heap.size by simp)).trans (World.alloc_heap_new v4 (Obj.cells #[.bool false, .int .i64 0, .int .i64 0] 96 (0, 0)))); (try have qb : v5.heap[v4.heap.size + 1]? = some (Obj.cells #[.bool false, .int .i64 0, .int .i64 0] 96 (0, 0)) := neweri g); (try have qb : v5.heap[v4.heap.size]? = some (Obj.cells #[.bool false, .int .i64 0, .int .i64 0] 96 (0, 0)) := elderi g); skip)
      | (go_at_call 53; refine (htold _ _ _ (okc _ (show Below W.heap.size W _ by first | exact cc | exact cc.drew | exact sp_new cc _ | exact (sp_new cc _).drew | exact sp_new cc.drew _ | exact sp_new (sp_new cc _) _)) (enters_of Tryz.func200 (by kernel_rfl) rfl) (fun S W0 hW hSS => feeds2_i (ls := [(m1e, m1l, m1h), (m2e, m2l, m2h)]) f0 f1 f2 srow.1 (by simp) hp srow.2 eby hby hok (sp_call bW cc) (sp_call (show Below v5.heap.size v5 _ by first | exact Below.refl _ _ | exact (Below.refl _ _).drew | exact sp_new (Below.refl _ _) _ | exact (sp_new (Below.refl _ _) _).drew) hW) (fun k hk => ⟨Nat.le_trans (show Below v5.heap.size v5 _ by first | exact Below.refl _ _ | exact (Below.refl _ _).drew | exact sp_new (Below.refl _ _) _ | exact (sp_new (Below.refl _ _) _).drew).size (hSS k hk).1, (hSS k hk).2⟩))).mono ?_; rintro e v6 ⟨rfl, g⟩; replace cc := sp_call (show Below W.heap.size W _ by first | exact cc | exact cc.drew | exact sp_new cc _ | exact (sp_new cc _).drew | exact sp_new cc.drew _ | exact sp_new (sp_new cc _) _) g; have zcv6 := cc.size; (try first | (have qb := carry1i (o := Obj.cells #[.bool false, .int .i64 0, .int .i64 0] 96 (0, 0)) g (by assumption)) | (have qb := carry2i (o := Obj.cells #[.bool false, .int .i64 0, .int .i64 0] 96 (0, 0)) g (by assumption)) | (have qb := carry3i (o := Obj.cells #[.bool false, .int .i64 0, .int .i64 0] 96 (0, 0)) g (by assumption))); (try have qb : v6.heap[v5.heap.size]? = some (Obj.cells #[.bool false, .int .i64 0, .int .i64 0] 96 (0, 0)) := (g.block _ (show v5.heap.size < (World.alloc v5 _).heap.size by simp)).trans (World.alloc_heap_new v5 (Obj.cells #[.bool false, .int .i64 0, .int .i64 0] 96 (0, 0)))); (try first | (have hlt := blti (v := v6) (o := Obj.cells #[.bool false, .int .i64 0, .int .i64 0] 96 (0, 0)) (by assumption)) | skip); (try first | (have hq := zcellsi (v := v6) (t := 96) (by assumption); obtain ⟨q0, q1, q2, qf⟩ := hq) | skip); skip)
      | fail)
   all_goals go_wp2_with fail
   all_goals go_meet
   all_goals exact ⟨_, rfl, rfl, by omega, by first | (simp [go_sem]; done) | (simp [go_sem, q0, q1, q2]; done), by first | (simp [go_sem]; done) | (simp [go_sem, q0, q1, q2]; done), by first | (simp [go_sem]; done) | (simp [go_sem, q0, q1, q2]; done), by first | exact sp_new cc _ | exact sp_set3 cc (by omega) _ _ _⟩
  case rest =>
   obtain ⟨bq, rfl, rfl, hbq, t0, t1, t2, cX⟩ := hcut
   have hl := hall _ cX
   clear l0 l1 l2 l3 l4 l5 l6 l7 l8 l9 l10 a0 a1 a2 b0 b1 b2
   obtain ⟨l0, l1, l2, l3, l4, l5, l6, l7, l8, l9, l10, a0, a1, a2, b0, b1, b2⟩ := hl
   replace r0 := sO cX r0
   replace r1 := sO cX r1
   replace r2 := sO cX r2
   replace fz := fun j => (cX.frozen (p := ⟨w.heap.size + 1 + 1 + 1, j, none⟩) (by simp; omega)).trans (fz j)
   have zX := cX.size
   have bX := sp_call bW cX
   clear hall cc
   cases hs
   · go_wp2_with (first
       | (go_at_call 199; refine (h5 _ (okc _ cX)).mono ?_; rintro e v7 ⟨rfl, g⟩; replace fz := fun j => (g.frozen (p := ⟨w.heap.size + 1 + 1 + 1, j, none⟩) (by simp; omega)).trans (fz j); have zv7 := g.size; replace cX := sp_call cX g; replace bX := sp_call bX g; replace l0 := sO g l0; replace l1 := sO g l1; replace l2 := sO g l2; replace l3 := sO g l3; replace l4 := sO g l4; replace l5 := sO g l5; replace l6 := sO g l6; replace l7 := sO g l7; replace l8 := sO g l8; replace l9 := sO g l9; replace l10 := sO g l10; replace a0 := sO g a0; replace a1 := sO g a1; replace a2 := sO g a2; replace b0 := sO g b0; replace b1 := sO g b1; replace b2 := sO g b2; replace t0 := sO g t0; replace t1 := sO g t1; replace t2 := sO g t2; replace r0 := sO g r0; replace r1 := sO g r1; replace r2 := sO g r2; clear g)
       | fail)
     exact bodyPost_ret (v := .tuple #[.agg #[.bool me, .int .i64 mlo, .int .i64 mhi], .int .i64 TR]) (by simp [results, Tryz.results137, go_sem, r0, r1, r2]) rfl ⟨by rw [HTT.out]; simp, sp_set3 bX (by omega) _ _ _⟩
   · go_wp2_with (first
       | (go_at_call 199; refine (h5 _ (okc _ cX)).mono ?_; rintro e v7 ⟨rfl, g⟩; replace fz := fun j => (g.frozen (p := ⟨w.heap.size + 1 + 1 + 1, j, none⟩) (by simp; omega)).trans (fz j); have zv7 := g.size; replace cX := sp_call cX g; replace bX := sp_call bX g; replace l0 := sO g l0; replace l1 := sO g l1; replace l2 := sO g l2; replace l3 := sO g l3; replace l4 := sO g l4; replace l5 := sO g l5; replace l6 := sO g l6; replace l7 := sO g l7; replace l8 := sO g l8; replace l9 := sO g l9; replace l10 := sO g l10; replace a0 := sO g a0; replace a1 := sO g a1; replace a2 := sO g a2; replace b0 := sO g b0; replace b1 := sO g b1; replace b2 := sO g b2; replace t0 := sO g t0; replace t1 := sO g t1; replace t2 := sO g t2; replace r0 := sO g r0; replace r1 := sO g r1; replace r2 := sO g r2; clear g)
       | (go_at_fn L.kz; refine (hz _ (okc _ cX)).mono ?_; rintro e v8 ⟨rfl, g⟩; replace fz := fun j => (g.frozen (p := ⟨w.heap.size + 1 + 1 + 1, j, none⟩) (by simp; omega)).trans (fz j); have zv8 := g.size; replace cX := sp_call cX g; replace bX := sp_call bX g; replace l0 := sO g l0; replace l1 := sO g l1; replace l2 := sO g l2; replace l3 := sO g l3; replace l4 := sO g l4; replace l5 := sO g l5; replace l6 := sO g l6; replace l7 := sO g l7; replace l8 := sO g l8; replace l9 := sO g l9; replace l10 := sO g l10; replace a0 := sO g a0; replace a1 := sO g a1; replace a2 := sO g a2; replace b0 := sO g b0; replace b1 := sO g b1; replace b2 := sO g b2; replace t0 := sO g t0; replace t1 := sO g t1; replace t2 := sO g t2; replace r0 := sO g r0; replace r1 := sO g r1; replace r2 := sO g r2; clear g)
       | fail)
     exact bodyPost_ret (v := .tuple #[.agg #[.bool me, .int .i64 mlo, .int .i64 mhi], .int .i64 (bits BinOp.or IntKind.i64 TR z)]) (by simp [results, Tryz.results137, go_sem, r0, r1, r2]) rfl ⟨by rw [HTT.out]; simp, sp_set3 bX (by omega) _ _ _⟩
end Go.Proofs.YtgdknlnpfnifiaaGreat


namespace Go.Proofs.YtgdknlnpfnifiaaGreat
open Go.RowKit
set_option linter.unusedVariables false
set_option linter.unusedSimpArgs false
set_option maxRecDepth 100000 in
set_option maxHeartbeats 6400000 in
theorem twod_i {L : Ln} {A : Ways} {B : Nat} {w0 : World} (H : Actsi L A B w0) (et : ∀ args w, (callFunc L.kt args).run Tryz.prog w = .ok (.enter L.kt args) w) (ez : ∀ args w, (callFunc L.kz args).run Tryz.prog w = .ok (.enter L.kz args) w) (T : Int) (hT : ∀ w, Calls Tryz.prog 86 #[.int .i64 L.past] w fun e w' => e = .returned (.int .i64 T) ∧ w' = w) (okp : Int → Int → Prop) (g : Int → Int → Int) (h2 : By2i L A B w0 11 okp g)
    (a b c d : Int) (z : Int) (d0 : A.dom 0) (d0' : A.dom (A.pl 0)) (o0 : A.one 0 = true) (dl : A.dom L.least) (dm : A.dom L.most) (dp : A.dom (A.prv 0)) (dn : A.dom (A.nxt 0)) (dc : A.dom c) (dd : A.dom d)
    (hx : ∀ p ∈ pairsL (false, a, b) [meetP A (false, c, d) (belowP A L 0), meetP A (false, c, d) (aboveP A L 0)], okp p.1 p.2 ∧ A.dom (g p.1 p.2) ∧ A.dom (A.pl (g p.1 p.2))) (w : World) (ok : Below B w0 w)
    (hz : ∀ V, Below B w0 V → Calls Tryz.prog L.kz (#[.agg #[.bool false, .int .i64 a, .int .i64 b]] ++ L.cz) V fun e V' => e = .returned (.int .i64 z) ∧ Below V.heap.size V V') :
    Calls Tryz.prog 64 #[.agg (lvi L), .int .i64 11, .agg #[.bool false, .int .i64 a, .int .i64 b], .agg #[.bool false, .int .i64 c, .int .i64 d]] w fun e w' =>
      e = .returned (.tuple #[sVi (meetP A (hullP A ((pairsL (false, a, b) [meetP A (false, c, d) (belowP A L 0), meetP A (false, c, d) (aboveP A L 0)]).map fun p => g p.1 p.2)) (false, L.least, L.most)), .int .i64 (if hasP A (false, c, d) 0 then bits BinOp.or IntKind.i64 (trapP A L T ((pairsL (false, a, b) [meetP A (false, c, d) (belowP A L 0), meetP A (false, c, d) (aboveP A L 0)]).map fun p => g p.1 p.2)) z else trapP A L T ((pairsL (false, a, b) [meetP A (false, c, d) (belowP A L 0), meetP A (false, c, d) (aboveP A L 0)]).map fun p => g p.1 p.2))]) ∧ Below w.heap.size w w' := by
  have hB := H.hB
  have hq := fun kb caps eby w ok hby => quot_i H ez T hT okp g kb caps eby a b c d z d0 d0' o0 dl dm dp dn dc dd hx w ok hby hz
  clear hx
  generalize (if hasP A (false, c, d) 0 then bits BinOp.or IntKind.i64 (trapP A L T ((pairsL (false, a, b) [meetP A (false, c, d) (belowP A L 0), meetP A (false, c, d) (aboveP A L 0)]).map fun p => g p.1 p.2)) z else trapP A L T ((pairsL (false, a, b) [meetP A (false, c, d) (belowP A L 0), meetP A (false, c, d) (aboveP A L 0)]).map fun p => g p.1 p.2)) = TR at *
  generalize meetP A (hullP A ((pairsL (false, a, b) [meetP A (false, c, d) (belowP A L 0), meetP A (false, c, d) (aboveP A L 0)]).map fun p => g p.1 p.2)) (false, L.least, L.most) = R at *
  obtain ⟨me, mlo, mhi⟩ := R
  unfold sVi lvi at *
  dsimp only at *
  have hb := h2
  unfold By2i at hb
  go_enter Tryz.func64, Tryz.ntmps64
  go_wp2_with fail
  obtain ⟨W, hW⟩ : ∃ W, ((((w.alloc (.cells #[.int .i64 L.least, .int .i64 L.most, .int .i64 L.past, .func (.func L.ko) #[] L.co, .func (.func L.kp) #[] L.cp, .func (.func L.k1) #[] L.c1, .func (.func L.kv) #[] L.cv, .func (.func L.kn) #[] L.cn, .func (.func L.ku) #[] L.cu, .func (.func L.kt) #[] L.ct, .func (.func L.kz) #[] L.cz] 93)).alloc (.cells #[.bool false, .int .i64 a, .int .i64 b] 96)).alloc (.cells #[.bool false, .int .i64 c, .int .i64 d] 96)).alloc (.cells #[.bool false, .int .i64 0, .int .i64 0] 96)) = W := ⟨_, rfl⟩
  have l0 : W.cell? ⟨w.heap.size, 0, none⟩ = some (.int .i64 L.least) := by rw [← hW]; simp [go_sem]
  have l1 : W.cell? ⟨w.heap.size, 1, none⟩ = some (.int .i64 L.most) := by rw [← hW]; simp [go_sem]
  have l2 : W.cell? ⟨w.heap.size, 2, none⟩ = some (.int .i64 L.past) := by rw [← hW]; simp [go_sem]
  have l3 : W.cell? ⟨w.heap.size, 3, none⟩ = some (.func (.func L.ko) #[] L.co) := by rw [← hW]; simp [go_sem]
  have l4 : W.cell? ⟨w.heap.size, 4, none⟩ = some (.func (.func L.kp) #[] L.cp) := by rw [← hW]; simp [go_sem]
  have l5 : W.cell? ⟨w.heap.size, 5, none⟩ = some (.func (.func L.k1) #[] L.c1) := by rw [← hW]; simp [go_sem]
  have l6 : W.cell? ⟨w.heap.size, 6, none⟩ = some (.func (.func L.kv) #[] L.cv) := by rw [← hW]; simp [go_sem]
  have l7 : W.cell? ⟨w.heap.size, 7, none⟩ = some (.func (.func L.kn) #[] L.cn) := by rw [← hW]; simp [go_sem]
  have l8 : W.cell? ⟨w.heap.size, 8, none⟩ = some (.func (.func L.ku) #[] L.cu) := by rw [← hW]; simp [go_sem]
  have l9 : W.cell? ⟨w.heap.size, 9, none⟩ = some (.func (.func L.kt) #[] L.ct) := by rw [← hW]; simp [go_sem]
  have l10 : W.cell? ⟨w.heap.size, 10, none⟩ = some (.func (.func L.kz) #[] L.cz) := by rw [← hW]; simp [go_sem]
  have a0 : W.cell? ⟨w.heap.size + 1, 0, none⟩ = some (.bool false) := by rw [← hW]; simp [go_sem]
  have a1 : W.cell? ⟨w.heap.size + 1, 1, none⟩ = some (.int .i64 a) := by rw [← hW]; simp [go_sem]
  have a2 : W.cell? ⟨w.heap.size + 1, 2, none⟩ = some (.int .i64 b) := by rw [← hW]; simp [go_sem]
  have b0 : W.cell? ⟨w.heap.size + 1 + 1, 0, none⟩ = some (.bool false) := by rw [← hW]; simp [go_sem]
  have b1 : W.cell? ⟨w.heap.size + 1 + 1, 1, none⟩ = some (.int .i64 c) := by rw [← hW]; simp [go_sem]
  have b2 : W.cell? ⟨w.heap.size + 1 + 1, 2, none⟩ = some (.int .i64 d) := by rw [← hW]; simp [go_sem]
  have r0 : W.cell? ⟨w.heap.size + 1 + 1 + 1, 0, none⟩ = some (.bool false) := by rw [← hW]; simp [go_sem]
  have r1 : W.cell? ⟨w.heap.size + 1 + 1 + 1, 1, none⟩ = some (.int .i64 0) := by rw [← hW]; simp [go_sem]
  have r2 : W.cell? ⟨w.heap.size + 1 + 1 + 1, 2, none⟩ = some (.int .i64 0) := by rw [← hW]; simp [go_sem]
  have okW : Below B w0 W := by rw [← hW]; exact (ok_new hB (ok_new hB (ok_new hB (ok_new hB ok _) _) _) _)
  have bW : Below w.heap.size w W := by rw [← hW]; exact (sp_new (sp_new (sp_new (sp_new (Below.refl _ _) _) _) _) _)
  have zW : W.heap.size = w.heap.size + 4 := by rw [← hW]; simp
  have fz : ∀ j, W.frozen? ⟨w.heap.size + 1 + 1 + 1, j, none⟩ = false := by intro j; rw [← hW]; simp [go_sem]
  rw [hW]
  clear hW
  with_reducible refine (hb _ okW).mono ?_
  rintro e v1 ⟨g1, kb, caps, rfl, eby, hby⟩
  replace fz := fun j => (g1.frozen (p := ⟨w.heap.size + 1 + 1 + 1, j, none⟩) (by simp; omega)).trans (fz j)
  have z1 := g1.size
  replace okW := ok_call hB okW g1
  replace bW := sp_call bW g1
  replace l0 := sO g1 l0; replace l1 := sO g1 l1; replace l2 := sO g1 l2; replace l3 := sO g1 l3; replace l4 := sO g1 l4; replace l5 := sO g1 l5; replace l6 := sO g1 l6; replace l7 := sO g1 l7; replace l8 := sO g1 l8; replace l9 := sO g1 l9; replace l10 := sO g1 l10; replace a0 := sO g1 a0; replace a1 := sO g1 a1; replace a2 := sO g1 a2; replace b0 := sO g1 b0; replace b1 := sO g1 b1; replace b2 := sO g1 b2; replace r0 := sO g1 r0; replace r1 := sO g1 r1; replace r2 := sO g1 r2
  have hn := fn_nil_i kb caps
  go_wp2_with (first
    | (go_at_call 137; refine (hq kb caps eby _ okW hby).mono ?_; rintro e v2 ⟨rfl, g2⟩; replace fz := fun j => (g2.frozen (p := ⟨w.heap.size + 1 + 1 + 1, j, none⟩) (by simp; omega)).trans (fz j); have z2 := g2.size; replace bW := sp_call bW g2; replace l0 := sO g2 l0; replace l1 := sO g2 l1; replace l2 := sO g2 l2; replace l3 := sO g2 l3; replace l4 := sO g2 l4; replace l5 := sO g2 l5; replace l6 := sO g2 l6; replace l7 := sO g2 l7; replace l8 := sO g2 l8; replace l9 := sO g2 l9; replace l10 := sO g2 l10; replace a0 := sO g2 a0; replace a1 := sO g2 a1; replace a2 := sO g2 a2; replace b0 := sO g2 b0; replace b1 := sO g2 b1; replace b2 := sO g2 b2; replace r0 := sO g2 r0; replace r1 := sO g2 r1; replace r2 := sO g2 r2)
    | fail)
  exact bodyPost_ret (v := .tuple #[.agg #[.bool me, .int .i64 mlo, .int .i64 mhi], .int .i64 TR]) (by simp [results, Tryz.results64, go_sem, r0, r1, r2]) rfl ⟨rfl, sp_set3 bW (by omega) _ _ _⟩
end Go.Proofs.YtgdknlnpfnifiaaGreat


