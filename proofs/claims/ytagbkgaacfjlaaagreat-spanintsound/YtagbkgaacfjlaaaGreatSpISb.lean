/- SpanIntSound, walked: where a trap is told. -/
import Derived.Test.YtagbkgaacfjlaaaGreatSpISa
namespace Go.Proofs.YtagbkgaacfjlaaaGreat
open Go.RowKit
set_option linter.unusedVariables false
set_option linter.unusedSimpArgs false
set_option maxRecDepth 100000 in
set_option maxHeartbeats 6400000 in
theorem sis_trap (op : Int) (t v tr T1 l1 u1 T2 l2 u2 : Int) (m1 : Bool) (a b c d x y : Int) (h0 : ¬ op < 8) (h1 : ¬ 11 < op) (k1 : ∀ V, Calls Tryz.prog 47 #[.agg #[.bool false, .int .i64 a, .int .i64 b]] V fun e w' => e = .returned (.bool true) ∧ Below V.heap.size V w') (k2 : ∀ V, Calls Tryz.prog 47 #[.agg #[.bool false, .int .i64 c, .int .i64 d]] V fun e w' => e = .returned (.bool true) ∧ Below V.heap.size V w') (k3 : ∀ V, Calls Tryz.prog 53 #[.agg #[.bool false, .int .i64 a, .int .i64 b], .int .i64 x] V fun e w' => e = .returned (.bool true) ∧ Below V.heap.size V w') (k4 : ∀ V, Calls Tryz.prog 53 #[.agg #[.bool false, .int .i64 c, .int .i64 d], .int .i64 y] V fun e w' => e = .returned (.bool true) ∧ Below V.heap.size V w') (k5 : ∀ V, Calls Tryz.prog 69 #[.int .i64 op, .agg #[.int .i64 1, .int .i64 x, .int .u64 0], .agg #[.int .i64 1, .int .i64 y, .int .u64 0]] V fun e w' => e = .returned (.tuple #[.agg #[.int .i64 t, .int .i64 v, .int .u64 0], .int .i64 tr]) ∧ Below V.heap.size V w') (k6 : ∀ V, Calls Tryz.prog 62 #[.int .i64 op, .agg #[.bool false, .int .i64 a, .int .i64 b], .agg #[.bool false, .int .i64 c, .int .i64 d]] V fun e w' => e = .returned (.tuple #[.agg #[.bool m1, .int .i64 l1, .int .i64 u1], .int .i64 T1]) ∧ Below V.heap.size V w') (o1 : ∀ V, Calls Tryz.prog 48 #[.int .i64 x, .int .i64 x] V fun e w' => e = .returned (.agg #[.bool false, .int .i64 x, .int .i64 x]) ∧ Below V.heap.size V w') (o2 : ∀ V, Calls Tryz.prog 48 #[.int .i64 y, .int .i64 y] V fun e w' => e = .returned (.agg #[.bool false, .int .i64 y, .int .i64 y]) ∧ Below V.heap.size V w') (k7 : ∀ V, Calls Tryz.prog 62 #[.int .i64 op, .agg #[.bool false, .int .i64 x, .int .i64 x], .agg #[.bool false, .int .i64 y, .int .i64 y]] V fun e w' => e = .returned (.tuple #[.agg #[.bool true, .int .i64 l2, .int .i64 u2], .int .i64 T2]) ∧ Below V.heap.size V w') (hl : ∀ V, Calls Tryz.prog 23 #[] V fun e w' => e = .returned (.bool true) ∧ Below V.heap.size V w') (htr : (tr != 0) = true) (hb : ∀ V, Calls Tryz.prog 71 #[.int .i64 tr] V fun e w' => e = .returned (.int .i64 T2) ∧ Below V.heap.size V w') (hT : (bits BinOp.and IntKind.i64 T1 T2 != 0) = true) (hT2 : ¬ bits BinOp.and IntKind.i64 T1 T2 = 0) (w : World) :
    Calls Tryz.prog 12 #[.int .i64 op, .agg #[.bool false, .int .i64 a, .int .i64 b, .bool false, .int .i64 c, .int .i64 d], .agg #[.int .i64 x, .int .i64 y]] w fun e w' => e = .returned (.bool true) ∧ Below w.heap.size w w' := by
  go_enter Tryz.func12, Tryz.ntmps12
  go_upto_region 1 with fail
  obtain ⟨W, hW⟩ : ∃ W, ((w.alloc (.cells #[.bool false, .int .i64 a, .int .i64 b, .bool false, .int .i64 c, .int .i64 d] 81)).alloc (.cells #[.int .i64 x, .int .i64 y] 82)) = W := ⟨_, rfl⟩
  have r0 : W.cell? ⟨w.heap.size, 0, none⟩ = some (.bool false) := by rw [← hW]; simp [go_sem]
  have r1 : W.cell? ⟨w.heap.size, 1, none⟩ = some (.int .i64 a) := by rw [← hW]; simp [go_sem]
  have r2 : W.cell? ⟨w.heap.size, 2, none⟩ = some (.int .i64 b) := by rw [← hW]; simp [go_sem]
  have r3 : W.cell? ⟨w.heap.size, 3, none⟩ = some (.bool false) := by rw [← hW]; simp [go_sem]
  have r4 : W.cell? ⟨w.heap.size, 4, none⟩ = some (.int .i64 c) := by rw [← hW]; simp [go_sem]
  have r5 : W.cell? ⟨w.heap.size, 5, none⟩ = some (.int .i64 d) := by rw [← hW]; simp [go_sem]
  have n0 : W.cell? ⟨w.heap.size + 1, 0, none⟩ = some (.int .i64 x) := by rw [← hW]; simp [go_sem]
  have n1 : W.cell? ⟨w.heap.size + 1, 1, none⟩ = some (.int .i64 y) := by rw [← hW]; simp [go_sem]
  have bW : Below w.heap.size w W := by rw [← hW]; exact (sp_new (sp_new (Below.refl _ _) _) _)
  have zW : W.heap.size = w.heap.size + 2 := by rw [← hW]; simp
  rw [hW]
  clear hW
  replace zW := Nat.le_of_eq zW.symm
  go_cut [7, 8] from 15 to 18 (fun p q X => ∃ (W1 : World) (b7 b8 : Nat), W1 = X ∧ p = .pointer (some ⟨b7, 0, none⟩) ∧ q = .pointer (some ⟨b8, 0, none⟩) ∧ W.heap.size ≤ b7 ∧ W.heap.size ≤ b8 ∧ X.cell? ⟨b7, 0, none⟩ = some (.bool false) ∧ X.cell? ⟨b7, 1, none⟩ = some (.int .i64 a) ∧ X.cell? ⟨b7, 2, none⟩ = some (.int .i64 b) ∧ X.cell? ⟨b8, 0, none⟩ = some (.bool false) ∧ X.cell? ⟨b8, 1, none⟩ = some (.int .i64 c) ∧ X.cell? ⟨b8, 2, none⟩ = some (.int .i64 d) ∧ Below W.heap.size W X)
  case first =>
   have z0 : w.heap.size < W.heap.size := by omega
   have z1 : w.heap.size < W.heap.size + 1 := by omega
   go_region
   all_goals go_wp2_with fail
   all_goals go_meet
   all_goals exact ⟨_, _, _, rfl, rfl, rfl, by simp, by simp, by simp [go_sem], by simp [go_sem], by simp [go_sem], by simp [go_sem], by simp [go_sem], by simp [go_sem], by (repeat (first | exact Below.refl _ _ | assumption | with_reducible refine sp_new ?_ _ | with_reducible refine sp_set1 ?_ (by omega) _ | with_reducible refine sp_drew ?_))⟩
  case rest =>
   obtain ⟨W1, b7, b8, rfl, rfl, rfl, h7, h8, p0, p1, p2, q0, q1, q2, cX⟩ := hcut
   replace n0 := sp_cell_on cX n0
   replace n1 := sp_cell_on cX n1
   have bX := sp_call bW cX
   clear bW cX r0 r1 r2 r3 r4 r5
   go_upto_region 4 with (first
     | (go_at_call 47; refine (k1 _).mono ?_; rintro e v1 ⟨rfl, g⟩; replace bX := sp_call bX g; replace p0 := sp_cell_on g p0; replace p1 := sp_cell_on g p1; replace p2 := sp_cell_on g p2; replace q0 := sp_cell_on g q0; replace q1 := sp_cell_on g q1; replace q2 := sp_cell_on g q2; replace n0 := sp_cell_on g n0; replace n1 := sp_cell_on g n1; clear g; clear k1)
     | (go_at_call 47; refine (k2 _).mono ?_; rintro e v2 ⟨rfl, g⟩; replace bX := sp_call bX g; replace p0 := sp_cell_on g p0; replace p1 := sp_cell_on g p1; replace p2 := sp_cell_on g p2; replace q0 := sp_cell_on g q0; replace q1 := sp_cell_on g q1; replace q2 := sp_cell_on g q2; replace n0 := sp_cell_on g n0; replace n1 := sp_cell_on g n1; clear g)
     | (go_at_call 53; refine (k3 _).mono ?_; rintro e v3 ⟨rfl, g⟩; replace bX := sp_call bX g; replace p0 := sp_cell_on g p0; replace p1 := sp_cell_on g p1; replace p2 := sp_cell_on g p2; replace q0 := sp_cell_on g q0; replace q1 := sp_cell_on g q1; replace q2 := sp_cell_on g q2; replace n0 := sp_cell_on g n0; replace n1 := sp_cell_on g n1; clear g; clear k3)
     | (go_at_call 53; refine (k4 _).mono ?_; rintro e v4 ⟨rfl, g⟩; replace bX := sp_call bX g; replace p0 := sp_cell_on g p0; replace p1 := sp_cell_on g p1; replace p2 := sp_cell_on g p2; replace q0 := sp_cell_on g q0; replace q1 := sp_cell_on g q1; replace q2 := sp_cell_on g q2; replace n0 := sp_cell_on g n0; replace n1 := sp_cell_on g n1; clear g)
     | fail)
   go_cut [9, 10] from 50 to 60 (fun s u X => ∃ (W5 : World) (b9 : Nat), W5 = X ∧ s = .pointer (some ⟨b9, 0, none⟩) ∧ u = .int .i64 tr ∧ v4.heap.size ≤ b9 ∧ X.cell? ⟨b9, 0, none⟩ = some (.int .i64 t) ∧ X.cell? ⟨b9, 1, none⟩ = some (.int .i64 v) ∧ X.cell? ⟨b9, 2, none⟩ = some (.int .u64 0) ∧ Below v4.heap.size v4 X)
   case first =>
    go_wp2_with (first
      | (go_at_call 69; refine (k5 _).mono ?_; rintro e v9 ⟨rfl, g⟩)
      | fail)
    go_meet
    have zg := g.size
    exact ⟨_, _, rfl, rfl, rfl, by omega, by simp [go_sem], by simp [go_sem], by simp [go_sem], by (repeat (first | exact Below.refl _ _ | assumption | with_reducible refine sp_new ?_ _ | with_reducible refine sp_set1 ?_ (by omega) _ | with_reducible refine sp_drew ?_))⟩
   case rest =>
    obtain ⟨W5, b9, rfl, rfl, rfl, hb9, y0, y1, y2, cX⟩ := hcut
    replace p0 := sp_cell_on cX p0
    replace p1 := sp_cell_on cX p1
    replace p2 := sp_cell_on cX p2
    replace q0 := sp_cell_on cX q0
    replace q1 := sp_cell_on cX q1
    replace q2 := sp_cell_on cX q2
    replace n0 := sp_cell_on cX n0
    replace n1 := sp_cell_on cX n1
    replace bX := sp_call bX cX
    clear cX
    go_upto_region 5 with fail
    go_cut [11, 12] from 61 to 67 (fun s u X => ∃ (W6 : World) (b11 : Nat), W6 = X ∧ s = .pointer (some ⟨b11, 0, none⟩) ∧ u = .int .i64 T1 ∧ W5.heap.size ≤ b11 ∧ X.cell? ⟨b11, 0, none⟩ = some (.bool m1) ∧ X.cell? ⟨b11, 1, none⟩ = some (.int .i64 l1) ∧ X.cell? ⟨b11, 2, none⟩ = some (.int .i64 u1) ∧ Below W5.heap.size W5 X)
    case first =>
     go_wp2_with (first
       | (go_at_call 62; refine (k6 _).mono ?_; rintro e v9 ⟨rfl, g⟩)
       | fail)
     go_meet
     have zg := g.size
     exact ⟨_, _, rfl, rfl, rfl, by omega, by simp [go_sem], by simp [go_sem], by simp [go_sem], by (repeat (first | exact Below.refl _ _ | assumption | with_reducible refine sp_new ?_ _ | with_reducible refine sp_set1 ?_ (by omega) _ | with_reducible refine sp_drew ?_))⟩
    case rest =>
     obtain ⟨W6, b11, rfl, rfl, rfl, hb11, z0, z1, z2, cX⟩ := hcut
     replace p0 := sp_cell_on cX p0
     replace p1 := sp_cell_on cX p1
     replace p2 := sp_cell_on cX p2
     replace q0 := sp_cell_on cX q0
     replace q1 := sp_cell_on cX q1
     replace q2 := sp_cell_on cX q2
     replace n0 := sp_cell_on cX n0
     replace n1 := sp_cell_on cX n1
     replace y0 := sp_cell_on cX y0
     replace y1 := sp_cell_on cX y1
     replace y2 := sp_cell_on cX y2
     replace bX := sp_call bX cX
     clear cX
     go_upto_region 6 with fail
     have hall : ∀ X, Below W6.heap.size W6 X → (X.cell? ⟨w.heap.size + 1, 0, none⟩ = some (.int .i64 x) ∧ X.cell? ⟨w.heap.size + 1, 1, none⟩ = some (.int .i64 y)) := fun X cc => ⟨sp_cell_on cc n0, sp_cell_on cc n1⟩
     have cc : Below W6.heap.size W6 W6 := Below.refl _ _
     go_cut [13, 14] from 68 to 82 (fun s u X => ∃ (W7 : World) (b13 : Nat), W7 = X ∧ s = .pointer (some ⟨b13, 0, none⟩) ∧ u = .int .i64 T2 ∧ W6.heap.size ≤ b13 ∧ X.cell? ⟨b13, 0, none⟩ = some (.bool true) ∧ X.cell? ⟨b13, 1, none⟩ = some (.int .i64 l2) ∧ X.cell? ⟨b13, 2, none⟩ = some (.int .i64 u2) ∧ Below W6.heap.size W6 X)
     case first =>
      go_region_held3 (fun w' => w'.cell? ⟨w.heap.size + 1, 0, none⟩ = some (.int .i64 x) ∧ w'.cell? ⟨w.heap.size + 1, 1, none⟩ = some (.int .i64 y)) (first | exact hall _ (by first | exact cc | exact cc.drew | exact sp_new cc _ | exact (sp_new cc _).drew | exact sp_new cc.drew _ | exact sp_new (sp_new cc _) _ | exact sp_set3 cc (by omega) _ _ _ | exact (sp_set3 cc (by omega) _ _ _).drew) | trivial)
        (first
          | (go_at_call 48; refine (o1 _).mono ?_; rintro e v1_ ⟨rfl, g⟩; replace cc := sp_call (show Below W6.heap.size W6 _ by first | exact cc | exact cc.drew | exact sp_new cc _ | exact (sp_new cc _).drew | exact sp_new cc.drew _ | exact sp_new (sp_new cc _) _) g; have zcv1_ := cc.size; (try first | (have qb := carry1i (o := (Obj.cells #[.bool false, .int .i64 0, .int .i64 0] 47 (0, 0))) g (by assumption)) | (have qb := carry2i (o := (Obj.cells #[.bool false, .int .i64 0, .int .i64 0] 47 (0, 0))) g (by assumption)) | (have qb := carry3i (o := (Obj.cells #[.bool false, .int .i64 0, .int .i64 0] 47 (0, 0))) g (by assumption)) | skip); (try first | (have qb : v1_.heap[W6.heap.size]? = some (Obj.cells #[.bool false, .int .i64 0, .int .i64 0] 47 (0, 0)) := carry1i g (World.alloc_heap_new W6 (Obj.cells #[.bool false, .int .i64 0, .int .i64 0] 47 (0, 0)))) | (have qb : v1_.heap[W6.heap.size]? = some (Obj.cells #[.bool false, .int .i64 0, .int .i64 0] 47 (0, 0)) := carry1i g (World.alloc_heap_new W6.drew (Obj.cells #[.bool false, .int .i64 0, .int .i64 0] 47 (0, 0)))) | (have qb : v1_.heap[W6.heap.size]? = some (Obj.cells #[.bool false, .int .i64 0, .int .i64 0] 47 (0, 0)) := carry1i g (show (World.drew (World.alloc W6 (Obj.cells #[.bool false, .int .i64 0, .int .i64 0] 47 (0, 0)))).heap[W6.heap.size]? = some (Obj.cells #[.bool false, .int .i64 0, .int .i64 0] 47 (0, 0)) from World.alloc_heap_new W6 (Obj.cells #[.bool false, .int .i64 0, .int .i64 0] 47 (0, 0)))) | skip); skip)
          | (go_at_call 48; refine (o2 _).mono ?_; rintro e v2_ ⟨rfl, g⟩; replace cc := sp_call (show Below W6.heap.size W6 _ by first | exact cc | exact cc.drew | exact sp_new cc _ | exact (sp_new cc _).drew | exact sp_new cc.drew _ | exact sp_new (sp_new cc _) _) g; have zcv2_ := cc.size; (try first | (have qb := carry1i (o := (Obj.cells #[.bool false, .int .i64 0, .int .i64 0] 47 (0, 0))) g (by assumption)) | (have qb := carry2i (o := (Obj.cells #[.bool false, .int .i64 0, .int .i64 0] 47 (0, 0))) g (by assumption)) | (have qb := carry3i (o := (Obj.cells #[.bool false, .int .i64 0, .int .i64 0] 47 (0, 0))) g (by assumption)) | skip); (try first | (have qb : v2_.heap[v1_.heap.size]? = some (Obj.cells #[.bool false, .int .i64 0, .int .i64 0] 47 (0, 0)) := carry1i g (World.alloc_heap_new v1_ (Obj.cells #[.bool false, .int .i64 0, .int .i64 0] 47 (0, 0)))) | (have qb : v2_.heap[v1_.heap.size]? = some (Obj.cells #[.bool false, .int .i64 0, .int .i64 0] 47 (0, 0)) := carry1i g (World.alloc_heap_new v1_.drew (Obj.cells #[.bool false, .int .i64 0, .int .i64 0] 47 (0, 0)))) | (have qb : v2_.heap[v1_.heap.size]? = some (Obj.cells #[.bool false, .int .i64 0, .int .i64 0] 47 (0, 0)) := carry1i g (show (World.drew (World.alloc v1_ (Obj.cells #[.bool false, .int .i64 0, .int .i64 0] 47 (0, 0)))).heap[v1_.heap.size]? = some (Obj.cells #[.bool false, .int .i64 0, .int .i64 0] 47 (0, 0)) from World.alloc_heap_new v1_ (Obj.cells #[.bool false, .int .i64 0, .int .i64 0] 47 (0, 0)))) | skip); skip)
          | (go_at_call 62; refine (k7 _).mono ?_; rintro e v3_ ⟨rfl, g⟩; replace cc := sp_call (show Below W6.heap.size W6 _ by first | exact cc | exact cc.drew | exact sp_new cc _ | exact (sp_new cc _).drew | exact sp_new cc.drew _ | exact sp_new (sp_new cc _) _) g; have zcv3_ := cc.size; (try first | (have qb := carry1i (o := (Obj.cells #[.bool false, .int .i64 0, .int .i64 0] 47 (0, 0))) g (by assumption)) | (have qb := carry2i (o := (Obj.cells #[.bool false, .int .i64 0, .int .i64 0] 47 (0, 0))) g (by assumption)) | (have qb := carry3i (o := (Obj.cells #[.bool false, .int .i64 0, .int .i64 0] 47 (0, 0))) g (by assumption)) | skip); (try first | (have qb : v3_.heap[v2_.heap.size]? = some (Obj.cells #[.bool false, .int .i64 0, .int .i64 0] 47 (0, 0)) := carry1i g (World.alloc_heap_new v2_ (Obj.cells #[.bool false, .int .i64 0, .int .i64 0] 47 (0, 0)))) | (have qb : v3_.heap[v2_.heap.size]? = some (Obj.cells #[.bool false, .int .i64 0, .int .i64 0] 47 (0, 0)) := carry1i g (World.alloc_heap_new v2_.drew (Obj.cells #[.bool false, .int .i64 0, .int .i64 0] 47 (0, 0)))) | (have qb : v3_.heap[v2_.heap.size]? = some (Obj.cells #[.bool false, .int .i64 0, .int .i64 0] 47 (0, 0)) := carry1i g (show (World.drew (World.alloc v2_ (Obj.cells #[.bool false, .int .i64 0, .int .i64 0] 47 (0, 0)))).heap[v2_.heap.size]? = some (Obj.cells #[.bool false, .int .i64 0, .int .i64 0] 47 (0, 0)) from World.alloc_heap_new v2_ (Obj.cells #[.bool false, .int .i64 0, .int .i64 0] 47 (0, 0)))) | skip); (try first | (have hq := zcellsi (v := v3_) (by assumption); obtain ⟨q0_, q1_, q2_, qf⟩ := hq) | skip); skip)
          | fail)
      all_goals go_wp2_with fail
      all_goals go_meet
      all_goals exact ⟨_, _, rfl, rfl, rfl, by omega, by first | (simp [go_sem]; done) | (simp [go_sem, q0_, q1_, q2_]; done), by first | (simp [go_sem]; done) | (simp [go_sem, q0_, q1_, q2_]; done), by first | (simp [go_sem]; done) | (simp [go_sem, q0_, q1_, q2_]; done), by first | exact sp_new cc _ | exact sp_set3 cc (by omega) _ _ _⟩
     case rest =>
      obtain ⟨W7, b13, rfl, rfl, rfl, hb13, f0, f1, f2, cX⟩ := hcut
      replace p0 := sp_cell_on cX p0
      replace p1 := sp_cell_on cX p1
      replace p2 := sp_cell_on cX p2
      replace q0 := sp_cell_on cX q0
      replace q1 := sp_cell_on cX q1
      replace q2 := sp_cell_on cX q2
      replace n0 := sp_cell_on cX n0
      replace n1 := sp_cell_on cX n1
      replace y0 := sp_cell_on cX y0
      replace y1 := sp_cell_on cX y1
      replace y2 := sp_cell_on cX y2
      replace z0 := sp_cell_on cX z0
      replace z1 := sp_cell_on cX z1
      replace z2 := sp_cell_on cX z2
      replace bX := sp_call bX cX
      clear cX hall cc
      go_wp2_with (first
        | (go_at_call 23; refine (hl _).mono ?_; rintro e vl ⟨rfl, g⟩; replace bX := sp_call bX g; replace p0 := sp_cell_on g p0; replace p1 := sp_cell_on g p1; replace p2 := sp_cell_on g p2; replace q0 := sp_cell_on g q0; replace q1 := sp_cell_on g q1; replace q2 := sp_cell_on g q2; replace n0 := sp_cell_on g n0; replace n1 := sp_cell_on g n1; replace y0 := sp_cell_on g y0; replace y1 := sp_cell_on g y1; replace y2 := sp_cell_on g y2; replace z0 := sp_cell_on g z0; replace z1 := sp_cell_on g z1; replace z2 := sp_cell_on g z2; replace f0 := sp_cell_on g f0; replace f1 := sp_cell_on g f1; replace f2 := sp_cell_on g f2; clear g)
        | (go_at_call 71; refine (hb _).mono ?_; rintro e vb ⟨rfl, g⟩; replace bX := sp_call bX g; replace p0 := sp_cell_on g p0; replace p1 := sp_cell_on g p1; replace p2 := sp_cell_on g p2; replace q0 := sp_cell_on g q0; replace q1 := sp_cell_on g q1; replace q2 := sp_cell_on g q2; replace n0 := sp_cell_on g n0; replace n1 := sp_cell_on g n1; replace y0 := sp_cell_on g y0; replace y1 := sp_cell_on g y1; replace y2 := sp_cell_on g y2; replace z0 := sp_cell_on g z0; replace z1 := sp_cell_on g z1; replace z2 := sp_cell_on g z2; replace f0 := sp_cell_on g f0; replace f1 := sp_cell_on g f1; replace f2 := sp_cell_on g f2; clear g)
        | fail)
      go_ret
      exact ⟨rfl, bX⟩
end Go.Proofs.YtagbkgaacfjlaaaGreat
