/- span.two by Div on a line. -/
import Derived.Test.YteafnkimcidkhaaGreatSpUf
namespace Go.Proofs.YteafnkimcidkhaaGreat
open Go.RowKit
set_option linter.unusedVariables false
set_option linter.unusedSimpArgs false
set_option maxRecDepth 100000 in
set_option maxHeartbeats 6400000 in
theorem twod_f {L : Ln} {A : Ways} {B : Nat} {w0 : World} (H : Actsf L A B w0) (et : ∀ args w, (callFunc L.kt args).run Tryz.prog w = .ok (.enter L.kt args) w) (ez : ∀ args w, (callFunc L.kz args).run Tryz.prog w = .ok (.enter L.kz args) w) (T : Int) (hT : ∀ w, Calls Tryz.prog 148 #[.int .i64 L.past] w fun e w' => e = .returned (.int .i64 T) ∧ w' = w) (okp : Int → Int → Prop) (g : Int → Int → Int) (h2 : By2f L A B w0 11 okp g)
    (a b c d : Int) (z : Int) (d0 : A.dom 0) (d0' : A.dom (A.pl 0)) (o0 : A.one 0 = true) (dl : A.dom L.least) (dm : A.dom L.most) (dp : A.dom (A.prv 0)) (dn : A.dom (A.nxt 0)) (dc : A.dom c) (dd : A.dom d)
    (hx : ∀ p ∈ pairsL (false, a, b) [meetP A (false, c, d) (belowP A L 0), meetP A (false, c, d) (aboveP A L 0)], okp p.1 p.2 ∧ A.dom (g p.1 p.2) ∧ A.dom (A.pl (g p.1 p.2))) (w : World) (ok : Below B w0 w)
    (hz : ∀ V, Below B w0 V → Calls Tryz.prog L.kz (#[.agg #[.bool false, .int .u64 a, .int .u64 b]] ++ L.cz) V fun e V' => e = .returned (.int .i64 z) ∧ Below V.heap.size V V') :
    Calls Tryz.prog 103 #[.agg (lvf L), .int .i64 11, .agg #[.bool false, .int .u64 a, .int .u64 b], .agg #[.bool false, .int .u64 c, .int .u64 d]] w fun e w' =>
      e = .returned (.tuple #[sVf (meetP A (hullP A ((pairsL (false, a, b) [meetP A (false, c, d) (belowP A L 0), meetP A (false, c, d) (aboveP A L 0)]).map fun p => g p.1 p.2)) (false, L.least, L.most)), .int .i64 (if hasP A (false, c, d) 0 then bits BinOp.or IntKind.i64 (trapP A L T ((pairsL (false, a, b) [meetP A (false, c, d) (belowP A L 0), meetP A (false, c, d) (aboveP A L 0)]).map fun p => g p.1 p.2)) z else trapP A L T ((pairsL (false, a, b) [meetP A (false, c, d) (belowP A L 0), meetP A (false, c, d) (aboveP A L 0)]).map fun p => g p.1 p.2))]) ∧ Below w.heap.size w w' := by
  have hB := H.hB
  have hq := fun kb caps eby w ok hby => quot_f H ez T hT okp g kb caps eby a b c d z d0 d0' o0 dl dm dp dn dc dd hx w ok hby hz
  clear hx
  generalize (if hasP A (false, c, d) 0 then bits BinOp.or IntKind.i64 (trapP A L T ((pairsL (false, a, b) [meetP A (false, c, d) (belowP A L 0), meetP A (false, c, d) (aboveP A L 0)]).map fun p => g p.1 p.2)) z else trapP A L T ((pairsL (false, a, b) [meetP A (false, c, d) (belowP A L 0), meetP A (false, c, d) (aboveP A L 0)]).map fun p => g p.1 p.2)) = TR at *
  generalize meetP A (hullP A ((pairsL (false, a, b) [meetP A (false, c, d) (belowP A L 0), meetP A (false, c, d) (aboveP A L 0)]).map fun p => g p.1 p.2)) (false, L.least, L.most) = R at *
  obtain ⟨me, mlo, mhi⟩ := R
  unfold sVf lvf at *
  dsimp only at *
  have hb := h2
  unfold By2f at hb
  go_enter Tryz.func103, Tryz.ntmps103
  go_wp2_with fail
  obtain ⟨W, hW⟩ : ∃ W, ((((w.alloc (.cells #[.int .u64 L.least, .int .u64 L.most, .int .i64 L.past, .func (.func L.ko) #[] L.co, .func (.func L.kp) #[] L.cp, .func (.func L.k1) #[] L.c1, .func (.func L.kv) #[] L.cv, .func (.func L.kn) #[] L.cn, .func (.func L.ku) #[] L.cu, .func (.func L.kt) #[] L.ct, .func (.func L.kz) #[] L.cz] 134)).alloc (.cells #[.bool false, .int .u64 a, .int .u64 b] 126)).alloc (.cells #[.bool false, .int .u64 c, .int .u64 d] 126)).alloc (.cells #[.bool false, .int .u64 0, .int .u64 0] 126)) = W := ⟨_, rfl⟩
  have l0 : W.cell? ⟨w.heap.size, 0, none⟩ = some (.int .u64 L.least) := by rw [← hW]; simp [go_sem]
  have l1 : W.cell? ⟨w.heap.size, 1, none⟩ = some (.int .u64 L.most) := by rw [← hW]; simp [go_sem]
  have l2 : W.cell? ⟨w.heap.size, 2, none⟩ = some (.int .i64 L.past) := by rw [← hW]; simp [go_sem]
  have l3 : W.cell? ⟨w.heap.size, 3, none⟩ = some (.func (.func L.ko) #[] L.co) := by rw [← hW]; simp [go_sem]
  have l4 : W.cell? ⟨w.heap.size, 4, none⟩ = some (.func (.func L.kp) #[] L.cp) := by rw [← hW]; simp [go_sem]
  have l5 : W.cell? ⟨w.heap.size, 5, none⟩ = some (.func (.func L.k1) #[] L.c1) := by rw [← hW]; simp [go_sem]
  have l6 : W.cell? ⟨w.heap.size, 6, none⟩ = some (.func (.func L.kv) #[] L.cv) := by rw [← hW]; simp [go_sem]
  have l7 : W.cell? ⟨w.heap.size, 7, none⟩ = some (.func (.func L.kn) #[] L.cn) := by rw [← hW]; simp [go_sem]
  have l8 : W.cell? ⟨w.heap.size, 8, none⟩ = some (.func (.func L.ku) #[] L.cu) := by rw [← hW]; simp [go_sem]
  have l9 : W.cell? ⟨w.heap.size, 9, none⟩ = some (.func (.func L.kt) #[] L.ct) := by rw [← hW]; simp [go_sem]
  have l10 : W.cell? ⟨w.heap.size, 10, none⟩ = some (.func (.func L.kz) #[] L.cz) := by rw [← hW]; simp [go_sem]
  have a0 : W.cell? ⟨w.heap.size + 1, 0, none⟩ = some (.bool false) := by rw [← hW]; simp [go_sem]
  have a1 : W.cell? ⟨w.heap.size + 1, 1, none⟩ = some (.int .u64 a) := by rw [← hW]; simp [go_sem]
  have a2 : W.cell? ⟨w.heap.size + 1, 2, none⟩ = some (.int .u64 b) := by rw [← hW]; simp [go_sem]
  have b0 : W.cell? ⟨w.heap.size + 1 + 1, 0, none⟩ = some (.bool false) := by rw [← hW]; simp [go_sem]
  have b1 : W.cell? ⟨w.heap.size + 1 + 1, 1, none⟩ = some (.int .u64 c) := by rw [← hW]; simp [go_sem]
  have b2 : W.cell? ⟨w.heap.size + 1 + 1, 2, none⟩ = some (.int .u64 d) := by rw [← hW]; simp [go_sem]
  have r0 : W.cell? ⟨w.heap.size + 1 + 1 + 1, 0, none⟩ = some (.bool false) := by rw [← hW]; simp [go_sem]
  have r1 : W.cell? ⟨w.heap.size + 1 + 1 + 1, 1, none⟩ = some (.int .u64 0) := by rw [← hW]; simp [go_sem]
  have r2 : W.cell? ⟨w.heap.size + 1 + 1 + 1, 2, none⟩ = some (.int .u64 0) := by rw [← hW]; simp [go_sem]
  have okW : Below B w0 W := by rw [← hW]; exact (ok_new hB (ok_new hB (ok_new hB (ok_new hB ok _) _) _) _)
  have bW : Below w.heap.size w W := by rw [← hW]; exact (sp_new (sp_new (sp_new (sp_new (Below.refl _ _) _) _) _) _)
  have zW : W.heap.size = w.heap.size + 4 := by rw [← hW]; simp
  have fz : ∀ j, W.frozen? ⟨w.heap.size + 1 + 1 + 1, j, none⟩ = false := by intro j; rw [← hW]; simp [go_sem]
  rw [hW]
  clear hW
  with_reducible refine (hb _ okW).mono ?_
  rintro e v1 ⟨g1, kb, caps, rfl, eby, hby⟩
  replace fz := fun j => (g1.frozen (p := ⟨w.heap.size + 1 + 1 + 1, j, none⟩) (by simp; omega)).trans (fz j)
  have z1 := g1.size
  replace okW := ok_call hB okW g1
  replace bW := sp_call bW g1
  replace l0 := sp_cell_on g1 l0; replace l1 := sp_cell_on g1 l1; replace l2 := sp_cell_on g1 l2; replace l3 := sp_cell_on g1 l3; replace l4 := sp_cell_on g1 l4; replace l5 := sp_cell_on g1 l5; replace l6 := sp_cell_on g1 l6; replace l7 := sp_cell_on g1 l7; replace l8 := sp_cell_on g1 l8; replace l9 := sp_cell_on g1 l9; replace l10 := sp_cell_on g1 l10; replace a0 := sp_cell_on g1 a0; replace a1 := sp_cell_on g1 a1; replace a2 := sp_cell_on g1 a2; replace b0 := sp_cell_on g1 b0; replace b1 := sp_cell_on g1 b1; replace b2 := sp_cell_on g1 b2; replace r0 := sp_cell_on g1 r0; replace r1 := sp_cell_on g1 r1; replace r2 := sp_cell_on g1 r2
  have hn := fn_nil_f kb caps
  go_wp2_with (first
    | (go_at_call 154; refine (hq kb caps eby _ okW hby).mono ?_; rintro e v2 ⟨rfl, g2⟩; replace fz := fun j => (g2.frozen (p := ⟨w.heap.size + 1 + 1 + 1, j, none⟩) (by simp; omega)).trans (fz j); have z2 := g2.size; replace bW := sp_call bW g2; replace l0 := sp_cell_on g2 l0; replace l1 := sp_cell_on g2 l1; replace l2 := sp_cell_on g2 l2; replace l3 := sp_cell_on g2 l3; replace l4 := sp_cell_on g2 l4; replace l5 := sp_cell_on g2 l5; replace l6 := sp_cell_on g2 l6; replace l7 := sp_cell_on g2 l7; replace l8 := sp_cell_on g2 l8; replace l9 := sp_cell_on g2 l9; replace l10 := sp_cell_on g2 l10; replace a0 := sp_cell_on g2 a0; replace a1 := sp_cell_on g2 a1; replace a2 := sp_cell_on g2 a2; replace b0 := sp_cell_on g2 b0; replace b1 := sp_cell_on g2 b1; replace b2 := sp_cell_on g2 b2; replace r0 := sp_cell_on g2 r0; replace r1 := sp_cell_on g2 r1; replace r2 := sp_cell_on g2 r2)
    | fail)
  exact bodyPost_ret (v := .tuple #[.agg #[.bool me, .int .u64 mlo, .int .u64 mhi], .int .i64 TR]) (by simp [results, Tryz.results103, go_sem, r0, r1, r2]) rfl ⟨rfl, sp_set3 bW (by omega) _ _ _⟩
end Go.Proofs.YteafnkimcidkhaaGreat

