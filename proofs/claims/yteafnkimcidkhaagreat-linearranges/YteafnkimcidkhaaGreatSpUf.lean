/- span.quotients on a line. -/
import Derived.Test.YteafnkimcidkhaaGreatSpTf
import Derived.Test.YteafnkimcidkhaaGreatSpWf
import Derived.Test.YteafnkimcidkhaaGreatSpHf
import Derived.Deep.DeepCutAuto
namespace Go.Proofs.YteafnkimcidkhaaGreat
open Go.RowKit
set_option linter.unusedVariables false
set_option linter.unusedSimpArgs false
theorem below_ovnf {W w2 : World} {o : Obj} (g : Below (W.alloc o).heap.size (W.alloc o) w2) : Below W.heap.size W w2 :=
  ⟨g.os, g.tape, g.output, Nat.le_trans (Nat.le_trans (Nat.le_succ _) (by simp)) g.size, fun k hk => (g.block k (by simp; omega)).trans (Below.heap_alloc W o k hk)⟩
theorem lt_ovnf {W w2 : World} {o : Obj} (g : Below (W.alloc o).heap.size (W.alloc o) w2) : W.heap.size < w2.heap.size := Nat.lt_of_lt_of_le (show W.heap.size < (W.alloc o).heap.size by simp) g.size
theorem carry1f {X v : World} {b : Nat} {o : Obj} (g : Below X.heap.size X v) (q : X.heap[b]? = some o) : v.heap[b]? = some o := (g.block b (Array.getElem?_eq_some_iff.1 q).1).trans q
theorem carry2f {X v : World} {b : Nat} {o o' : Obj} (g : Below (X.alloc o').heap.size (X.alloc o') v) (q : X.heap[b]? = some o) : v.heap[b]? = some o := carry1f g ((Below.heap_alloc X o' b (Array.getElem?_eq_some_iff.1 q).1).trans q)
theorem carry3f {X v : World} {b : Nat} {o o' : Obj} (g : Below (X.alloc o').drew.heap.size (X.alloc o').drew v) (q : X.heap[b]? = some o) : v.heap[b]? = some o := carry2f (X := X) (o' := o') ⟨g.os, g.tape, g.output, g.size, g.block⟩ q
theorem newerf {X v : World} {o o' : Obj} (g : Below ((X.alloc o').alloc o).heap.size ((X.alloc o').alloc o) v) : v.heap[X.heap.size + 1]? = some o := carry1f g (by have := World.alloc_heap_new (X.alloc o') o; rwa [World.size_alloc] at this)
theorem elderf {X v : World} {o o' : Obj} (g : Below ((X.alloc o).alloc o').heap.size ((X.alloc o).alloc o') v) : v.heap[X.heap.size]? = some o := carry2f g (World.alloc_heap_new X o)
theorem bltf {v : World} {b : Nat} {o : Obj} (q : v.heap[b]? = some o) : b < v.heap.size := (Array.getElem?_eq_some_iff.1 q).1
theorem zcellsf {v : World} {b : Nat} {t : TypeId} (q : v.heap[b]? = some (.cells #[.bool false, .int .u64 0, .int .u64 0] t (0, 0))) : v.cell? ⟨b, 0, none⟩ = some (.bool false) ∧ v.cell? ⟨b, 1, none⟩ = some (.int .u64 0) ∧ v.cell? ⟨b, 2, none⟩ = some (.int .u64 0) ∧ ∀ j, v.frozen? ⟨b, j, none⟩ = false := by
  refine ⟨by simp [World.cell?, q], by simp [World.cell?, q], by simp [World.cell?, q], fun j => by simp [World.frozen?, q]⟩
theorem srow2_xf {X v5 : World} {b p : Nat} {e e' : Bool} {a0 b0 a' b' : Int} (g : Below X.heap.size X v5) (f2 : v5.cell? ⟨p + 1 + 1, 0, none⟩ = some (.slice (some ⟨b, 0, none⟩) 2 2)) (h : X.cell? ⟨b, 0, none⟩ = some (.bool e) ∧ X.cell? ⟨b, 1, none⟩ = some (.int .u64 a0) ∧ X.cell? ⟨b, 2, none⟩ = some (.int .u64 b0) ∧ X.cell? ⟨b, 3, none⟩ = some (.bool e') ∧ X.cell? ⟨b, 4, none⟩ = some (.int .u64 a') ∧ X.cell? ⟨b, 5, none⟩ = some (.int .u64 b')) :
    SRowf v5 b [(e, a0, b0), (e', a', b')] ∧ b < v5.heap.size := by
  obtain ⟨s0, s1, s2, s3, s4, s5⟩ := h
  refine ⟨fun j s hj => ?_, Nat.lt_of_lt_of_le (World.block_lt_of_cell? X ⟨b, 0, none⟩ s0) g.size⟩
  rcases j with _ | _ | n
  · simp at hj; subst hj
    exact ⟨sp_cell_on g s0, sp_cell_on g s1, sp_cell_on g s2⟩
  · simp at hj; subst hj
    exact ⟨sp_cell_on g s3, sp_cell_on g s4, sp_cell_on g s5⟩
  · simp at hj
theorem srow2_onf {W w2 : World} {e e' : Bool} {a b a' b' : Int} {t : TypeId} (g : Below (W.alloc (.cells #[.bool e, .int .u64 a, .int .u64 b, .bool e', .int .u64 a', .int .u64 b'] t)).heap.size (W.alloc (.cells #[.bool e, .int .u64 a, .int .u64 b, .bool e', .int .u64 a', .int .u64 b'] t)) w2) : SRowf w2 W.heap.size [(e, a, b), (e', a', b')] := fun j s hj => by
  rcases j with _ | _ | n
  · simp at hj; subst hj
    exact ⟨sp_cell_on g (show (W.alloc _).cell? _ = some _ by simp [go_sem]), sp_cell_on g (show (W.alloc _).cell? _ = some _ by simp [go_sem]), sp_cell_on g (show (W.alloc _).cell? _ = some _ by simp [go_sem])⟩
  · simp at hj; subst hj
    exact ⟨sp_cell_on g (show (W.alloc _).cell? _ = some _ by simp [go_sem]), sp_cell_on g (show (W.alloc _).cell? _ = some _ by simp [go_sem]), sp_cell_on g (show (W.alloc _).cell? _ = some _ by simp [go_sem])⟩
  · simp at hj
set_option maxRecDepth 100000 in
set_option maxHeartbeats 6400000 in
theorem quot_f {L : Ln} {A : Ways} {B : Nat} {w0 : World} (H : Actsf L A B w0) (ez : ∀ args w, (callFunc L.kz args).run Tryz.prog w = .ok (.enter L.kz args) w) (T : Int) (hT : ∀ w, Calls Tryz.prog 148 #[.int .i64 L.past] w fun e w' => e = .returned (.int .i64 T) ∧ w' = w) (okp : Int → Int → Prop) (g : Int → Int → Int) (kb : Nat) (caps : Array Value) (eby : ∀ args w, (callFunc kb args).run Tryz.prog w = .ok (.enter kb args) w)
    (a b c d : Int) (z : Int) (d0 : A.dom 0) (d0' : A.dom (A.pl 0)) (o0 : A.one 0 = true) (dl : A.dom L.least) (dm : A.dom L.most) (dp : A.dom (A.prv 0)) (dn : A.dom (A.nxt 0)) (dc : A.dom c) (dd : A.dom d)
    (hx : ∀ p ∈ pairsL (false, a, b) [meetP A (false, c, d) (belowP A L 0), meetP A (false, c, d) (aboveP A L 0)], okp p.1 p.2 ∧ A.dom (g p.1 p.2) ∧ A.dom (A.pl (g p.1 p.2))) (w : World) (ok : Below B w0 w)
    (hby : ∀ x y X, okp x y → Below w.heap.size w X → Calls Tryz.prog kb (#[.int .u64 x, .int .u64 y] ++ caps) X fun e X' => e = .returned (.int .u64 (g x y)) ∧ Below X.heap.size X X')
    (hz : ∀ V, Below B w0 V → Calls Tryz.prog L.kz (#[.agg #[.bool false, .int .u64 a, .int .u64 b]] ++ L.cz) V fun e V' => e = .returned (.int .i64 z) ∧ Below V.heap.size V V') :
    Calls Tryz.prog 154 #[.agg (lvf L), .func (.func kb) #[] caps, .agg #[.bool false, .int .u64 a, .int .u64 b], .agg #[.bool false, .int .u64 c, .int .u64 d]] w fun e w' =>
      e = .returned (.tuple #[sVf (meetP A (hullP A ((pairsL (false, a, b) [meetP A (false, c, d) (belowP A L 0), meetP A (false, c, d) (aboveP A L 0)]).map fun p => g p.1 p.2)) (false, L.least, L.most)),
        .int .i64 (if hasP A (false, c, d) 0 then bits BinOp.or IntKind.i64 (trapP A L T ((pairsL (false, a, b) [meetP A (false, c, d) (belowP A L 0), meetP A (false, c, d) (aboveP A L 0)]).map fun p => g p.1 p.2)) z else trapP A L T ((pairsL (false, a, b) [meetP A (false, c, d) (belowP A L 0), meetP A (false, c, d) (aboveP A L 0)]).map fun p => g p.1 p.2))]) ∧ Below w.heap.size w w' := by
  have hB := H.hB
  have hbe : A.dom (belowP A L 0).2.1 ∧ A.dom (belowP A L 0).2.2 := by unfold belowP; split; exact ⟨d0, d0⟩; exact ⟨dl, dp⟩
  have hab : A.dom (aboveP A L 0).2.1 ∧ A.dom (aboveP A L 0).2.2 := by unfold aboveP; split; exact ⟨d0, d0⟩; exact ⟨dn, dm⟩
  have h1 := fun V ok => below_f H 0 d0 o0 dl V ok
  have h2 := fun V ok => meet_f H false (belowP A L 0).1 c d (belowP A L 0).2.1 (belowP A L 0).2.2 dc dd hbe.1 hbe.2 V ok
  have h3 := fun V ok => above_f H 0 d0 o0 dm V ok
  have h4 := fun V ok => meet_f H false (aboveP A L 0).1 c d (aboveP A L 0).2.1 (aboveP A L 0).2.2 dc dd hab.1 hab.2 V ok
  have h5 := fun V ok => has_f H false c d 0 dc dd d0 d0' V ok
  clear hbe hab
  have htold := fun gf lb w ok eg hseq => told_f H T hT gf lb ((pairsL (false, a, b) [meetP A (false, c, d) (belowP A L 0), meetP A (false, c, d) (aboveP A L 0)]).map fun p => g p.1 p.2) d0 dl dm (fun x hxm => by
    obtain ⟨p, hp, rfl⟩ := List.mem_map.1 hxm
    exact (hx p hp).2) w ok eg hseq
  have he2 := each2x_f
  have hok : ∀ q ∈ pairsL (false, a, b) [meetP A (false, c, d) (belowP A L 0), meetP A (false, c, d) (aboveP A L 0)], okp q.1 q.2 := fun q hq => (hx q hq).1
  clear hx H
  unfold mVf at h2 h4
  generalize meetP A (false, c, d) (belowP A L 0) = m1 at *
  generalize meetP A (false, c, d) (aboveP A L 0) = m2 at *
  generalize belowP A L 0 = be at *
  generalize aboveP A L 0 = ab at *
  generalize hasP A (false, c, d) 0 = hs at *
  obtain ⟨m1e, m1l, m1h⟩ := m1
  obtain ⟨m2e, m2l, m2h⟩ := m2
  obtain ⟨bee, bel, beh⟩ := be
  obtain ⟨abe, abl, abh⟩ := ab
  generalize meetP A (hullP A ((pairsL (false, a, b) [(m1e, m1l, m1h), (m2e, m2l, m2h)]).map fun p => g p.1 p.2)) (false, L.least, L.most) = R at *
  obtain ⟨me, mlo, mhi⟩ := R
  generalize trapP A L T ((pairsL (false, a, b) [(m1e, m1l, m1h), (m2e, m2l, m2h)]).map fun p => g p.1 p.2) = TR at *
  obtain ⟨TT, HTT⟩ : ∃ t, Hid (t = if hs then bits BinOp.or IntKind.i64 TR z else TR) := ⟨_, rfl⟩
  rw [← HTT.out]
  unfold sVf lvf at *
  dsimp only at *
  go_enter Tryz.func154, Tryz.ntmps154
  go_upto_region 1 with fail
  obtain ⟨W, hW⟩ : ∃ W, ((((w.alloc (.cells #[.int .u64 L.least, .int .u64 L.most, .int .i64 L.past, .func (.func L.ko) #[] L.co, .func (.func L.kp) #[] L.cp, .func (.func L.k1) #[] L.c1, .func (.func L.kv) #[] L.cv, .func (.func L.kn) #[] L.cn, .func (.func L.ku) #[] L.cu, .func (.func L.kt) #[] L.ct, .func (.func L.kz) #[] L.cz] 134)).alloc (.cells #[.bool false, .int .u64 a, .int .u64 b] 126)).alloc (.cells #[.bool false, .int .u64 c, .int .u64 d] 126)).alloc (.cells #[.bool false, .int .u64 0, .int .u64 0] 126)) = W := ⟨_, rfl⟩
  have l0 : W.cell? ⟨w.heap.size, 0, none⟩ = some (.int .u64 L.least) := by rw [← hW]; simp [go_sem]
  have l1 : W.cell? ⟨w.heap.size, 1, none⟩ = some (.int .u64 L.most) := by rw [← hW]; simp [go_sem]
  have l2 : W.cell? ⟨w.heap.size, 2, none⟩ = some (.int .i64 L.past) := by rw [← hW]; simp [go_sem]
  have l3 : W.cell? ⟨w.heap.size, 3, none⟩ = some (.func (.func L.ko) #[] L.co) := by rw [← hW]; simp [go_sem]
  have l4 : W.cell? ⟨w.heap.size, 4, none⟩ = some (.func (.func L.kp) #[] L.cp) := by rw [← hW]; simp [go_sem]
  have l5 : W.cell? ⟨w.heap.size, 5, none⟩ = some (.func (.func L.k1) #[] L.c1) := by rw [← hW]; simp [go_sem]
  have l6 : W.cell? ⟨w.heap.size, 6, none⟩ = some (.func (.func L.kv) #[] L.cv) := by rw [← hW]; simp [go_sem]
  have l7 : W.cell? ⟨w.heap.size, 7, none⟩ = some (.func (.func L.kn) #[] L.cn) := by rw [← hW]; simp [go_sem]
  have l8 : W.cell? ⟨w.heap.size, 8, none⟩ = some (.func (.func L.ku) #[] L.cu) := by rw [← hW]; simp [go_sem]
  have l9 : W.cell? ⟨w.heap.size, 9, none⟩ = some (.func (.func L.kt) #[] L.ct) := by rw [← hW]; simp [go_sem]
  have l10 : W.cell? ⟨w.heap.size, 10, none⟩ = some (.func (.func L.kz) #[] L.cz) := by rw [← hW]; simp [go_sem]
  have a0 : W.cell? ⟨w.heap.size + 1, 0, none⟩ = some (.bool false) := by rw [← hW]; simp [go_sem]
  have a1 : W.cell? ⟨w.heap.size + 1, 1, none⟩ = some (.int .u64 a) := by rw [← hW]; simp [go_sem]
  have a2 : W.cell? ⟨w.heap.size + 1, 2, none⟩ = some (.int .u64 b) := by rw [← hW]; simp [go_sem]
  have b0 : W.cell? ⟨w.heap.size + 1 + 1, 0, none⟩ = some (.bool false) := by rw [← hW]; simp [go_sem]
  have b1 : W.cell? ⟨w.heap.size + 1 + 1, 1, none⟩ = some (.int .u64 c) := by rw [← hW]; simp [go_sem]
  have b2 : W.cell? ⟨w.heap.size + 1 + 1, 2, none⟩ = some (.int .u64 d) := by rw [← hW]; simp [go_sem]
  have r0 : W.cell? ⟨w.heap.size + 1 + 1 + 1, 0, none⟩ = some (.bool false) := by rw [← hW]; simp [go_sem]
  have r1 : W.cell? ⟨w.heap.size + 1 + 1 + 1, 1, none⟩ = some (.int .u64 0) := by rw [← hW]; simp [go_sem]
  have r2 : W.cell? ⟨w.heap.size + 1 + 1 + 1, 2, none⟩ = some (.int .u64 0) := by rw [← hW]; simp [go_sem]
  have okW : Below B w0 W := by rw [← hW]; exact (ok_new hB (ok_new hB (ok_new hB (ok_new hB ok _) _) _) _)
  have bW : Below w.heap.size w W := by rw [← hW]; exact (sp_new (sp_new (sp_new (sp_new (Below.refl _ _) _) _) _) _)
  have zW : W.heap.size = w.heap.size + 4 := by rw [← hW]; simp
  have fz : ∀ j, W.frozen? ⟨w.heap.size + 1 + 1 + 1, j, none⟩ = false := by intro j; rw [← hW]; simp [go_sem]
  rw [hW]
  clear hW
  have hall : ∀ X, Below W.heap.size W X → (X.cell? ⟨w.heap.size, 0, none⟩ = some (.int .u64 L.least) ∧ X.cell? ⟨w.heap.size, 1, none⟩ = some (.int .u64 L.most) ∧ X.cell? ⟨w.heap.size, 2, none⟩ = some (.int .i64 L.past) ∧ X.cell? ⟨w.heap.size, 3, none⟩ = some (.func (.func L.ko) #[] L.co) ∧ X.cell? ⟨w.heap.size, 4, none⟩ = some (.func (.func L.kp) #[] L.cp) ∧ X.cell? ⟨w.heap.size, 5, none⟩ = some (.func (.func L.k1) #[] L.c1) ∧ X.cell? ⟨w.heap.size, 6, none⟩ = some (.func (.func L.kv) #[] L.cv) ∧ X.cell? ⟨w.heap.size, 7, none⟩ = some (.func (.func L.kn) #[] L.cn) ∧ X.cell? ⟨w.heap.size, 8, none⟩ = some (.func (.func L.ku) #[] L.cu) ∧ X.cell? ⟨w.heap.size, 9, none⟩ = some (.func (.func L.kt) #[] L.ct) ∧ X.cell? ⟨w.heap.size, 10, none⟩ = some (.func (.func L.kz) #[] L.cz) ∧ X.cell? ⟨w.heap.size + 1, 0, none⟩ = some (.bool false) ∧ X.cell? ⟨w.heap.size + 1, 1, none⟩ = some (.int .u64 a) ∧ X.cell? ⟨w.heap.size + 1, 2, none⟩ = some (.int .u64 b) ∧ X.cell? ⟨w.heap.size + 1 + 1, 0, none⟩ = some (.bool false) ∧ X.cell? ⟨w.heap.size + 1 + 1, 1, none⟩ = some (.int .u64 c) ∧ X.cell? ⟨w.heap.size + 1 + 1, 2, none⟩ = some (.int .u64 d)) := fun X cc => ⟨sp_cell_on cc l0, sp_cell_on cc l1, sp_cell_on cc l2, sp_cell_on cc l3, sp_cell_on cc l4, sp_cell_on cc l5, sp_cell_on cc l6, sp_cell_on cc l7, sp_cell_on cc l8, sp_cell_on cc l9, sp_cell_on cc l10, sp_cell_on cc a0, sp_cell_on cc a1, sp_cell_on cc a2, sp_cell_on cc b0, sp_cell_on cc b1, sp_cell_on cc b2⟩
  have okc : ∀ X, Below W.heap.size W X → Below B w0 X := fun X cc => ok_call hB okW cc
  have cc : Below W.heap.size W W := Below.refl _ _
  clear okW
  replace zW := Nat.le_of_eq zW.symm
  go_cut [10, 11] from 12 to 30 (fun s t X => ∃ b : Nat, s = .pointer (some ⟨b, 0, none⟩) ∧ t = .int .i64 TR ∧ W.heap.size ≤ b ∧ X.cell? ⟨b, 0, none⟩ = some (.bool me) ∧ X.cell? ⟨b, 1, none⟩ = some (.int .u64 mlo) ∧ X.cell? ⟨b, 2, none⟩ = some (.int .u64 mhi) ∧ Below W.heap.size W X)
  case first =>
   go_region_held3 (fun w' => w'.cell? ⟨w.heap.size, 0, none⟩ = some (.int .u64 L.least) ∧ w'.cell? ⟨w.heap.size, 1, none⟩ = some (.int .u64 L.most) ∧ w'.cell? ⟨w.heap.size, 2, none⟩ = some (.int .i64 L.past) ∧ w'.cell? ⟨w.heap.size, 3, none⟩ = some (.func (.func L.ko) #[] L.co) ∧ w'.cell? ⟨w.heap.size, 4, none⟩ = some (.func (.func L.kp) #[] L.cp) ∧ w'.cell? ⟨w.heap.size, 5, none⟩ = some (.func (.func L.k1) #[] L.c1) ∧ w'.cell? ⟨w.heap.size, 6, none⟩ = some (.func (.func L.kv) #[] L.cv) ∧ w'.cell? ⟨w.heap.size, 7, none⟩ = some (.func (.func L.kn) #[] L.cn) ∧ w'.cell? ⟨w.heap.size, 8, none⟩ = some (.func (.func L.ku) #[] L.cu) ∧ w'.cell? ⟨w.heap.size, 9, none⟩ = some (.func (.func L.kt) #[] L.ct) ∧ w'.cell? ⟨w.heap.size, 10, none⟩ = some (.func (.func L.kz) #[] L.cz) ∧ w'.cell? ⟨w.heap.size + 1, 0, none⟩ = some (.bool false) ∧ w'.cell? ⟨w.heap.size + 1, 1, none⟩ = some (.int .u64 a) ∧ w'.cell? ⟨w.heap.size + 1, 2, none⟩ = some (.int .u64 b) ∧ w'.cell? ⟨w.heap.size + 1 + 1, 0, none⟩ = some (.bool false) ∧ w'.cell? ⟨w.heap.size + 1 + 1, 1, none⟩ = some (.int .u64 c) ∧ w'.cell? ⟨w.heap.size + 1 + 1, 2, none⟩ = some (.int .u64 d)) (exact hall _ (by first | exact cc | exact cc.drew | exact sp_new cc _ | exact (sp_new cc _).drew | exact sp_new cc.drew _ | exact sp_new (sp_new cc _) _ | exact sp_set3 cc (by omega) _ _ _ | exact (sp_set3 cc (by omega) _ _ _).drew))
    (first
      | (go_at_call 190; refine (h1 _ (okc _ (by first | exact cc | exact cc.drew | exact sp_new cc _ | exact (sp_new cc _).drew | exact sp_new cc.drew _ | exact sp_new (sp_new cc _) _))).mono ?_; rintro e v1 ⟨rfl, g⟩; replace cc := sp_call (show Below W.heap.size W _ by first | exact cc | exact cc.drew | exact sp_new cc _ | exact (sp_new cc _).drew | exact sp_new cc.drew _ | exact sp_new (sp_new cc _) _) g; have zcv1 := cc.size; (try first | (have qb := carry1f (o := Obj.cells #[.bool false, .int .u64 0, .int .u64 0] 126 (0, 0)) g (by assumption)) | (have qb := carry2f (o := Obj.cells #[.bool false, .int .u64 0, .int .u64 0] 126 (0, 0)) g (by assumption)) | (have qb := carry3f (o := Obj.cells #[.bool false, .int .u64 0, .int .u64 0] 126 (0, 0)) g (by assumption))); (try have qb : v1.heap[W.heap.size]? = some (Obj.cells #[.bool false, .int .u64 0, .int .u64 0] 126 (0, 0)) := (g.block _ (show W.heap.size < (World.alloc W _).heap.size by simp)).trans (World.alloc_heap_new W (Obj.cells #[.bool false, .int .u64 0, .int .u64 0] 126 (0, 0)))); (try first | (have qb : v1.heap[W.heap.size]? = some (Obj.cells #[.bool false, .int .u64 0, .int .u64 0] 126 (0, 0)) := carry1f g (World.alloc_heap_new W.drew (Obj.cells #[.bool false, .int .u64 0, .int .u64 0] 126 (0, 0)))) | (have qb : v1.heap[W.heap.size]? = some (Obj.cells #[.bool false, .int .u64 0, .int .u64 0] 126 (0, 0)) := carry1f g (show (World.drew (World.alloc W (Obj.cells #[.bool false, .int .u64 0, .int .u64 0] 126 (0, 0)))).heap[W.heap.size]? = some (Obj.cells #[.bool false, .int .u64 0, .int .u64 0] 126 (0, 0)) from World.alloc_heap_new W (Obj.cells #[.bool false, .int .u64 0, .int .u64 0] 126 (0, 0)))) | skip); skip; clear h1)
      | (go_at_call 189; refine (h2 _ (okc _ (by first | exact cc | exact cc.drew | exact sp_new cc _ | exact (sp_new cc _).drew | exact sp_new cc.drew _ | exact sp_new (sp_new cc _) _))).mono ?_; rintro e v2 ⟨rfl, g⟩; replace cc := sp_call (show Below W.heap.size W _ by first | exact cc | exact cc.drew | exact sp_new cc _ | exact (sp_new cc _).drew | exact sp_new cc.drew _ | exact sp_new (sp_new cc _) _) g; have zcv2 := cc.size; (try first | (have qb := carry1f (o := Obj.cells #[.bool false, .int .u64 0, .int .u64 0] 126 (0, 0)) g (by assumption)) | (have qb := carry2f (o := Obj.cells #[.bool false, .int .u64 0, .int .u64 0] 126 (0, 0)) g (by assumption)) | (have qb := carry3f (o := Obj.cells #[.bool false, .int .u64 0, .int .u64 0] 126 (0, 0)) g (by assumption))); (try have qb : v2.heap[v1.heap.size]? = some (Obj.cells #[.bool false, .int .u64 0, .int .u64 0] 126 (0, 0)) := (g.block _ (show v1.heap.size < (World.alloc v1 _).heap.size by simp)).trans (World.alloc_heap_new v1 (Obj.cells #[.bool false, .int .u64 0, .int .u64 0] 126 (0, 0)))); skip; clear h2)
      | (go_at_call 191; refine (h3 _ (okc _ (by first | exact cc | exact cc.drew | exact sp_new cc _ | exact (sp_new cc _).drew | exact sp_new cc.drew _ | exact sp_new (sp_new cc _) _))).mono ?_; rintro e v3 ⟨rfl, g⟩; replace cc := sp_call (show Below W.heap.size W _ by first | exact cc | exact cc.drew | exact sp_new cc _ | exact (sp_new cc _).drew | exact sp_new cc.drew _ | exact sp_new (sp_new cc _) _) g; have zcv3 := cc.size; (try first | (have qb := carry1f (o := Obj.cells #[.bool false, .int .u64 0, .int .u64 0] 126 (0, 0)) g (by assumption)) | (have qb := carry2f (o := Obj.cells #[.bool false, .int .u64 0, .int .u64 0] 126 (0, 0)) g (by assumption)) | (have qb := carry3f (o := Obj.cells #[.bool false, .int .u64 0, .int .u64 0] 126 (0, 0)) g (by assumption))); (try have qb : v3.heap[v2.heap.size]? = some (Obj.cells #[.bool false, .int .u64 0, .int .u64 0] 126 (0, 0)) := (g.block _ (show v2.heap.size < (World.alloc v2 _).heap.size by simp)).trans (World.alloc_heap_new v2 (Obj.cells #[.bool false, .int .u64 0, .int .u64 0] 126 (0, 0)))); skip; clear h3)
      | (go_at_call 189; refine (h4 _ (okc _ (by first | exact cc | exact cc.drew | exact sp_new cc _ | exact (sp_new cc _).drew | exact sp_new cc.drew _ | exact sp_new (sp_new cc _) _))).mono ?_; rintro e v4 ⟨rfl, g⟩; replace cc := sp_call (show Below W.heap.size W _ by first | exact cc | exact cc.drew | exact sp_new cc _ | exact (sp_new cc _).drew | exact sp_new cc.drew _ | exact sp_new (sp_new cc _) _) g; have zcv4 := cc.size; (try first | (have qb := carry1f (o := Obj.cells #[.bool false, .int .u64 0, .int .u64 0] 126 (0, 0)) g (by assumption)) | (have qb := carry2f (o := Obj.cells #[.bool false, .int .u64 0, .int .u64 0] 126 (0, 0)) g (by assumption)) | (have qb := carry3f (o := Obj.cells #[.bool false, .int .u64 0, .int .u64 0] 126 (0, 0)) g (by assumption))); (try have qb : v4.heap[v3.heap.size]? = some (Obj.cells #[.bool false, .int .u64 0, .int .u64 0] 126 (0, 0)) := (g.block _ (show v3.heap.size < (World.alloc v3 _).heap.size by simp)).trans (World.alloc_heap_new v3 (Obj.cells #[.bool false, .int .u64 0, .int .u64 0] 126 (0, 0)))); skip; clear h4)
      | (go_at_call 156; refine (he2 _ _ _ _ _ _ _ _ _).mono ?_; rintro e v5 ⟨p, rfl, f0, f1, f2, hp, g⟩; have srow := srow2_xf g f2 (by simp [go_sem]; exact ⟨rfl, rfl, rfl, rfl, rfl, rfl⟩); replace cc := sp_call (show Below W.heap.size W _ by first | exact cc | exact cc.drew | exact sp_new cc _ | exact (sp_new cc _).drew | exact sp_new cc.drew _ | exact sp_new (sp_new cc _) _) g; have zcv5 := cc.size; (try first | (have qb := carry1f (o := Obj.cells #[.bool false, .int .u64 0, .int .u64 0] 126 (0, 0)) g (by assumption)) | (have qb := carry2f (o := Obj.cells #[.bool false, .int .u64 0, .int .u64 0] 126 (0, 0)) g (by assumption)) | (have qb := carry3f (o := Obj.cells #[.bool false, .int .u64 0, .int .u64 0] 126 (0, 0)) g (by assumption))); (try have qb : v5.heap[v4.heap.size]? = some (Obj.cells #[.bool false, .int .u64 0, .int .u64 0] 126 (0, 0)) := (g.block _ (show v4.heap.size < (World.alloc v4 _).heap.size by simp)).trans (World.alloc_heap_new v4 (Obj.cells #[.bool false, .int .u64 0, .int .u64 0] 126 (0, 0)))); (try have qb : v5.heap[v4.heap.size + 1]? = some (Obj.cells #[.bool false, .int .u64 0, .int .u64 0] 126 (0, 0)) := newerf g); (try have qb : v5.heap[v4.heap.size]? = some (Obj.cells #[.bool false, .int .u64 0, .int .u64 0] 126 (0, 0)) := elderf g); skip)
      | (go_at_call 155; refine (htold _ _ _ (okc _ (show Below W.heap.size W _ by first | exact cc | exact cc.drew | exact sp_new cc _ | exact (sp_new cc _).drew | exact sp_new cc.drew _ | exact sp_new (sp_new cc _) _)) (enters_of Tryz.func194 (by kernel_rfl) rfl) (fun S W0 hW hSS => feeds2_f (ls := [(m1e, m1l, m1h), (m2e, m2l, m2h)]) f0 f1 f2 srow.1 (by simp) hp srow.2 eby hby hok (sp_call bW cc) (sp_call (show Below v5.heap.size v5 _ by first | exact Below.refl _ _ | exact (Below.refl _ _).drew | exact sp_new (Below.refl _ _) _ | exact (sp_new (Below.refl _ _) _).drew) hW) (fun k hk => ⟨Nat.le_trans (show Below v5.heap.size v5 _ by first | exact Below.refl _ _ | exact (Below.refl _ _).drew | exact sp_new (Below.refl _ _) _ | exact (sp_new (Below.refl _ _) _).drew).size (hSS k hk).1, (hSS k hk).2⟩))).mono ?_; rintro e v6 ⟨rfl, g⟩; replace cc := sp_call (show Below W.heap.size W _ by first | exact cc | exact cc.drew | exact sp_new cc _ | exact (sp_new cc _).drew | exact sp_new cc.drew _ | exact sp_new (sp_new cc _) _) g; have zcv6 := cc.size; (try first | (have qb := carry1f (o := Obj.cells #[.bool false, .int .u64 0, .int .u64 0] 126 (0, 0)) g (by assumption)) | (have qb := carry2f (o := Obj.cells #[.bool false, .int .u64 0, .int .u64 0] 126 (0, 0)) g (by assumption)) | (have qb := carry3f (o := Obj.cells #[.bool false, .int .u64 0, .int .u64 0] 126 (0, 0)) g (by assumption))); (try have qb : v6.heap[v5.heap.size]? = some (Obj.cells #[.bool false, .int .u64 0, .int .u64 0] 126 (0, 0)) := (g.block _ (show v5.heap.size < (World.alloc v5 _).heap.size by simp)).trans (World.alloc_heap_new v5 (Obj.cells #[.bool false, .int .u64 0, .int .u64 0] 126 (0, 0)))); (try first | (have hlt := bltf (v := v6) (o := Obj.cells #[.bool false, .int .u64 0, .int .u64 0] 126 (0, 0)) (by assumption)) | skip); (try first | (have hq := zcellsf (v := v6) (t := 126) (by assumption); obtain ⟨q0, q1, q2, qf⟩ := hq) | skip); skip)
      | fail)
   all_goals go_wp2_with fail
   all_goals go_meet
   all_goals exact ⟨_, rfl, rfl, by omega, by first | (simp [go_sem]; done) | (simp [go_sem, q0, q1, q2]; done), by first | (simp [go_sem]; done) | (simp [go_sem, q0, q1, q2]; done), by first | (simp [go_sem]; done) | (simp [go_sem, q0, q1, q2]; done), by first | exact sp_new cc _ | exact sp_set3 cc (by omega) _ _ _⟩
  case rest =>
   obtain ⟨bq, rfl, rfl, hbq, t0, t1, t2, cX⟩ := hcut
   have hl := hall _ cX
   clear l0 l1 l2 l3 l4 l5 l6 l7 l8 l9 l10 a0 a1 a2 b0 b1 b2
   obtain ⟨l0, l1, l2, l3, l4, l5, l6, l7, l8, l9, l10, a0, a1, a2, b0, b1, b2⟩ := hl
   replace r0 := sp_cell_on cX r0
   replace r1 := sp_cell_on cX r1
   replace r2 := sp_cell_on cX r2
   replace fz := fun j => (cX.frozen (p := ⟨w.heap.size + 1 + 1 + 1, j, none⟩) (by simp; omega)).trans (fz j)
   have zX := cX.size
   have bX := sp_call bW cX
   clear hall cc
   cases hs
   · go_wp2_with (first
       | (go_at_call 147; refine (h5 _ (okc _ cX)).mono ?_; rintro e v7 ⟨rfl, g⟩; replace fz := fun j => (g.frozen (p := ⟨w.heap.size + 1 + 1 + 1, j, none⟩) (by simp; omega)).trans (fz j); have zv7 := g.size; replace cX := sp_call cX g; replace bX := sp_call bX g; replace l0 := sp_cell_on g l0; replace l1 := sp_cell_on g l1; replace l2 := sp_cell_on g l2; replace l3 := sp_cell_on g l3; replace l4 := sp_cell_on g l4; replace l5 := sp_cell_on g l5; replace l6 := sp_cell_on g l6; replace l7 := sp_cell_on g l7; replace l8 := sp_cell_on g l8; replace l9 := sp_cell_on g l9; replace l10 := sp_cell_on g l10; replace a0 := sp_cell_on g a0; replace a1 := sp_cell_on g a1; replace a2 := sp_cell_on g a2; replace b0 := sp_cell_on g b0; replace b1 := sp_cell_on g b1; replace b2 := sp_cell_on g b2; replace t0 := sp_cell_on g t0; replace t1 := sp_cell_on g t1; replace t2 := sp_cell_on g t2; replace r0 := sp_cell_on g r0; replace r1 := sp_cell_on g r1; replace r2 := sp_cell_on g r2; clear g)
       | fail)
     exact bodyPost_ret (v := .tuple #[.agg #[.bool me, .int .u64 mlo, .int .u64 mhi], .int .i64 TR]) (by simp [results, Tryz.results154, go_sem, r0, r1, r2]) rfl ⟨by rw [HTT.out]; simp, sp_set3 bX (by omega) _ _ _⟩
   · go_wp2_with (first
       | (go_at_call 147; refine (h5 _ (okc _ cX)).mono ?_; rintro e v7 ⟨rfl, g⟩; replace fz := fun j => (g.frozen (p := ⟨w.heap.size + 1 + 1 + 1, j, none⟩) (by simp; omega)).trans (fz j); have zv7 := g.size; replace cX := sp_call cX g; replace bX := sp_call bX g; replace l0 := sp_cell_on g l0; replace l1 := sp_cell_on g l1; replace l2 := sp_cell_on g l2; replace l3 := sp_cell_on g l3; replace l4 := sp_cell_on g l4; replace l5 := sp_cell_on g l5; replace l6 := sp_cell_on g l6; replace l7 := sp_cell_on g l7; replace l8 := sp_cell_on g l8; replace l9 := sp_cell_on g l9; replace l10 := sp_cell_on g l10; replace a0 := sp_cell_on g a0; replace a1 := sp_cell_on g a1; replace a2 := sp_cell_on g a2; replace b0 := sp_cell_on g b0; replace b1 := sp_cell_on g b1; replace b2 := sp_cell_on g b2; replace t0 := sp_cell_on g t0; replace t1 := sp_cell_on g t1; replace t2 := sp_cell_on g t2; replace r0 := sp_cell_on g r0; replace r1 := sp_cell_on g r1; replace r2 := sp_cell_on g r2; clear g)
       | (go_at_fn L.kz; refine (hz _ (okc _ cX)).mono ?_; rintro e v8 ⟨rfl, g⟩; replace fz := fun j => (g.frozen (p := ⟨w.heap.size + 1 + 1 + 1, j, none⟩) (by simp; omega)).trans (fz j); have zv8 := g.size; replace cX := sp_call cX g; replace bX := sp_call bX g; replace l0 := sp_cell_on g l0; replace l1 := sp_cell_on g l1; replace l2 := sp_cell_on g l2; replace l3 := sp_cell_on g l3; replace l4 := sp_cell_on g l4; replace l5 := sp_cell_on g l5; replace l6 := sp_cell_on g l6; replace l7 := sp_cell_on g l7; replace l8 := sp_cell_on g l8; replace l9 := sp_cell_on g l9; replace l10 := sp_cell_on g l10; replace a0 := sp_cell_on g a0; replace a1 := sp_cell_on g a1; replace a2 := sp_cell_on g a2; replace b0 := sp_cell_on g b0; replace b1 := sp_cell_on g b1; replace b2 := sp_cell_on g b2; replace t0 := sp_cell_on g t0; replace t1 := sp_cell_on g t1; replace t2 := sp_cell_on g t2; replace r0 := sp_cell_on g r0; replace r1 := sp_cell_on g r1; replace r2 := sp_cell_on g r2; clear g)
       | fail)
     exact bodyPost_ret (v := .tuple #[.agg #[.bool me, .int .u64 mlo, .int .u64 mhi], .int .i64 (bits BinOp.or IntKind.i64 TR z)]) (by simp [results, Tryz.results154, go_sem, r0, r1, r2]) rfl ⟨by rw [HTT.out]; simp, sp_set3 bX (by omega) _ _ _⟩
end Go.Proofs.YteafnkimcidkhaaGreat

