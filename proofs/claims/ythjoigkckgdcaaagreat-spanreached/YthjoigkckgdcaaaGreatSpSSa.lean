/- SpanSingle, walked: the ways out. -/
import Derived.Test.YthjoigkckgdcaaaGreatSpFl
import Derived.Deep.DeepCutAuto
namespace Go.Proofs.YthjoigkckgdcaaaGreat
open Go.RowKit
set_option linter.unusedVariables false
set_option linter.unusedSimpArgs false
set_option maxRecDepth 100000 in
set_option maxHeartbeats 6400000 in
theorem ss_n1 (op p f x y : Int)  (kf : ∀ V, Calls Tryz.prog 15 #[.int .i64 p] V fun e w' => e = .returned (.int .i64 f) ∧ Below V.heap.size V w') (k1 : ∀ V, Calls Tryz.prog 73 #[.int .i64 f, .int .u64 x] V fun e w' => e = .returned (.bool false) ∧ Below V.heap.size V w') (hl : ∀ V, Calls Tryz.prog 23 #[] V fun e w' => e = .returned (.bool true) ∧ Below V.heap.size V w') (w : World) :
    Calls Tryz.prog 11 #[.int .i64 op, .int .i64 p, .agg #[.int .u64 x, .int .u64 y]] w fun e w' => e = .returned (.bool true) ∧ Below w.heap.size w w' := by
  go_enter Tryz.func11, Tryz.ntmps11
  go_upto_region 1 with fail
  obtain ⟨W, hW⟩ : ∃ W, (w.alloc (.cells #[.int .u64 x, .int .u64 y] 67)) = W := ⟨_, rfl⟩
  have n0 : W.cell? ⟨w.heap.size, 0, none⟩ = some (.int .u64 x) := by rw [← hW]; simp [go_sem]
  have n1 : W.cell? ⟨w.heap.size, 1, none⟩ = some (.int .u64 y) := by rw [← hW]; simp [go_sem]
  have bW : Below w.heap.size w W := by rw [← hW]; exact (sp_new (Below.refl _ _) _)
  have zW : W.heap.size = w.heap.size + 1 := by rw [← hW]; simp
  rw [hW]
  clear hW
  go_wp2_with (first
    | (go_at_call 15; refine (kf _).mono ?_; rintro e v0 ⟨rfl, g⟩; replace bW := sp_call bW g; replace n0 := sp_cell_on g n0; replace n1 := sp_cell_on g n1; clear g)
    | (go_at_call 73; refine (k1 _).mono ?_; rintro e v1 ⟨rfl, g⟩; replace bW := sp_call bW g; replace n0 := sp_cell_on g n0; replace n1 := sp_cell_on g n1; clear g; clear k1)
    | (go_at_call 23; refine (hl _).mono ?_; rintro e vl ⟨rfl, g⟩; replace bW := sp_call bW g; replace n0 := sp_cell_on g n0; replace n1 := sp_cell_on g n1; clear g)
    | fail)
  go_ret
  exact ⟨rfl, bW⟩
set_option maxRecDepth 100000 in
set_option maxHeartbeats 6400000 in
theorem ss_n2 (op p f x y : Int)  (kf : ∀ V, Calls Tryz.prog 15 #[.int .i64 p] V fun e w' => e = .returned (.int .i64 f) ∧ Below V.heap.size V w') (k1 : ∀ V, Calls Tryz.prog 73 #[.int .i64 f, .int .u64 x] V fun e w' => e = .returned (.bool true) ∧ Below V.heap.size V w') (k2 : ∀ V, Calls Tryz.prog 73 #[.int .i64 f, .int .u64 y] V fun e w' => e = .returned (.bool false) ∧ Below V.heap.size V w') (hl : ∀ V, Calls Tryz.prog 23 #[] V fun e w' => e = .returned (.bool true) ∧ Below V.heap.size V w') (w : World) :
    Calls Tryz.prog 11 #[.int .i64 op, .int .i64 p, .agg #[.int .u64 x, .int .u64 y]] w fun e w' => e = .returned (.bool true) ∧ Below w.heap.size w w' := by
  go_enter Tryz.func11, Tryz.ntmps11
  go_upto_region 1 with fail
  obtain ⟨W, hW⟩ : ∃ W, (w.alloc (.cells #[.int .u64 x, .int .u64 y] 67)) = W := ⟨_, rfl⟩
  have n0 : W.cell? ⟨w.heap.size, 0, none⟩ = some (.int .u64 x) := by rw [← hW]; simp [go_sem]
  have n1 : W.cell? ⟨w.heap.size, 1, none⟩ = some (.int .u64 y) := by rw [← hW]; simp [go_sem]
  have bW : Below w.heap.size w W := by rw [← hW]; exact (sp_new (Below.refl _ _) _)
  have zW : W.heap.size = w.heap.size + 1 := by rw [← hW]; simp
  rw [hW]
  clear hW
  go_wp2_with (first
    | (go_at_call 15; refine (kf _).mono ?_; rintro e v0 ⟨rfl, g⟩; replace bW := sp_call bW g; replace n0 := sp_cell_on g n0; replace n1 := sp_cell_on g n1; clear g)
    | (go_at_call 73; refine (k1 _).mono ?_; rintro e v1 ⟨rfl, g⟩; replace bW := sp_call bW g; replace n0 := sp_cell_on g n0; replace n1 := sp_cell_on g n1; clear g; clear k1)
    | (go_at_call 73; refine (k2 _).mono ?_; rintro e v2 ⟨rfl, g⟩; replace bW := sp_call bW g; replace n0 := sp_cell_on g n0; replace n1 := sp_cell_on g n1; clear g)
    | (go_at_call 23; refine (hl _).mono ?_; rintro e vl ⟨rfl, g⟩; replace bW := sp_call bW g; replace n0 := sp_cell_on g n0; replace n1 := sp_cell_on g n1; clear g)
    | fail)
  go_ret
  exact ⟨rfl, bW⟩
set_option maxRecDepth 100000 in
set_option maxHeartbeats 6400000 in
theorem ss_lo (op p f x y : Int)  (kf : ∀ V, Calls Tryz.prog 15 #[.int .i64 p] V fun e w' => e = .returned (.int .i64 f) ∧ Below V.heap.size V w') (k1 : ∀ V, Calls Tryz.prog 73 #[.int .i64 f, .int .u64 x] V fun e w' => e = .returned (.bool true) ∧ Below V.heap.size V w') (k2 : ∀ V, Calls Tryz.prog 73 #[.int .i64 f, .int .u64 y] V fun e w' => e = .returned (.bool true) ∧ Below V.heap.size V w') (ho : op < 8) (hl : ∀ V, Calls Tryz.prog 23 #[] V fun e w' => e = .returned (.bool true) ∧ Below V.heap.size V w') (w : World) :
    Calls Tryz.prog 11 #[.int .i64 op, .int .i64 p, .agg #[.int .u64 x, .int .u64 y]] w fun e w' => e = .returned (.bool true) ∧ Below w.heap.size w w' := by
  go_enter Tryz.func11, Tryz.ntmps11
  go_upto_region 1 with fail
  obtain ⟨W, hW⟩ : ∃ W, (w.alloc (.cells #[.int .u64 x, .int .u64 y] 67)) = W := ⟨_, rfl⟩
  have n0 : W.cell? ⟨w.heap.size, 0, none⟩ = some (.int .u64 x) := by rw [← hW]; simp [go_sem]
  have n1 : W.cell? ⟨w.heap.size, 1, none⟩ = some (.int .u64 y) := by rw [← hW]; simp [go_sem]
  have bW : Below w.heap.size w W := by rw [← hW]; exact (sp_new (Below.refl _ _) _)
  have zW : W.heap.size = w.heap.size + 1 := by rw [← hW]; simp
  rw [hW]
  clear hW
  go_wp2_with (first
    | (go_at_call 15; refine (kf _).mono ?_; rintro e v0 ⟨rfl, g⟩; replace bW := sp_call bW g; replace n0 := sp_cell_on g n0; replace n1 := sp_cell_on g n1; clear g)
    | (go_at_call 73; refine (k1 _).mono ?_; rintro e v1 ⟨rfl, g⟩; replace bW := sp_call bW g; replace n0 := sp_cell_on g n0; replace n1 := sp_cell_on g n1; clear g; clear k1)
    | (go_at_call 73; refine (k2 _).mono ?_; rintro e v2 ⟨rfl, g⟩; replace bW := sp_call bW g; replace n0 := sp_cell_on g n0; replace n1 := sp_cell_on g n1; clear g)
    | (go_at_call 23; refine (hl _).mono ?_; rintro e vl ⟨rfl, g⟩; replace bW := sp_call bW g; replace n0 := sp_cell_on g n0; replace n1 := sp_cell_on g n1; clear g)
    | fail)
  go_ret
  exact ⟨rfl, bW⟩
set_option maxRecDepth 100000 in
set_option maxHeartbeats 6400000 in
theorem ss_hi (op p f x y : Int)  (kf : ∀ V, Calls Tryz.prog 15 #[.int .i64 p] V fun e w' => e = .returned (.int .i64 f) ∧ Below V.heap.size V w') (k1 : ∀ V, Calls Tryz.prog 73 #[.int .i64 f, .int .u64 x] V fun e w' => e = .returned (.bool true) ∧ Below V.heap.size V w') (k2 : ∀ V, Calls Tryz.prog 73 #[.int .i64 f, .int .u64 y] V fun e w' => e = .returned (.bool true) ∧ Below V.heap.size V w') (h0 : ¬ op < 8) (ho : 11 < op) (hl : ∀ V, Calls Tryz.prog 23 #[] V fun e w' => e = .returned (.bool true) ∧ Below V.heap.size V w') (w : World) :
    Calls Tryz.prog 11 #[.int .i64 op, .int .i64 p, .agg #[.int .u64 x, .int .u64 y]] w fun e w' => e = .returned (.bool true) ∧ Below w.heap.size w w' := by
  go_enter Tryz.func11, Tryz.ntmps11
  go_upto_region 1 with fail
  obtain ⟨W, hW⟩ : ∃ W, (w.alloc (.cells #[.int .u64 x, .int .u64 y] 67)) = W := ⟨_, rfl⟩
  have n0 : W.cell? ⟨w.heap.size, 0, none⟩ = some (.int .u64 x) := by rw [← hW]; simp [go_sem]
  have n1 : W.cell? ⟨w.heap.size, 1, none⟩ = some (.int .u64 y) := by rw [← hW]; simp [go_sem]
  have bW : Below w.heap.size w W := by rw [← hW]; exact (sp_new (Below.refl _ _) _)
  have zW : W.heap.size = w.heap.size + 1 := by rw [← hW]; simp
  rw [hW]
  clear hW
  go_wp2_with (first
    | (go_at_call 15; refine (kf _).mono ?_; rintro e v0 ⟨rfl, g⟩; replace bW := sp_call bW g; replace n0 := sp_cell_on g n0; replace n1 := sp_cell_on g n1; clear g)
    | (go_at_call 73; refine (k1 _).mono ?_; rintro e v1 ⟨rfl, g⟩; replace bW := sp_call bW g; replace n0 := sp_cell_on g n0; replace n1 := sp_cell_on g n1; clear g; clear k1)
    | (go_at_call 73; refine (k2 _).mono ?_; rintro e v2 ⟨rfl, g⟩; replace bW := sp_call bW g; replace n0 := sp_cell_on g n0; replace n1 := sp_cell_on g n1; clear g)
    | (go_at_call 23; refine (hl _).mono ?_; rintro e vl ⟨rfl, g⟩; replace bW := sp_call bW g; replace n0 := sp_cell_on g n0; replace n1 := sp_cell_on g n1; clear g)
    | fail)
  go_ret
  exact ⟨rfl, bW⟩
set_option maxRecDepth 100000 in
set_option maxHeartbeats 6400000 in
theorem ss_trap (op p f x y : Int) (a b t m v tr l2 h2 T2 : Int) (kf : ∀ V, Calls Tryz.prog 15 #[.int .i64 p] V fun e w' => e = .returned (.int .i64 f) ∧ Below V.heap.size V w') (k1 : ∀ V, Calls Tryz.prog 73 #[.int .i64 f, .int .u64 x] V fun e w' => e = .returned (.bool true) ∧ Below V.heap.size V w') (k2 : ∀ V, Calls Tryz.prog 73 #[.int .i64 f, .int .u64 y] V fun e w' => e = .returned (.bool true) ∧ Below V.heap.size V w') (h0 : ¬ op < 8) (h1 : ¬ 11 < op) (p1 : ∀ V, Calls Tryz.prog 68 #[.int .i64 f, .int .u64 x] V fun e w' => e = .returned (.int .u64 a) ∧ Below V.heap.size V w') (p2 : ∀ V, Calls Tryz.prog 68 #[.int .i64 f, .int .u64 y] V fun e w' => e = .returned (.int .u64 b) ∧ Below V.heap.size V w') (kt : ∀ V, Calls Tryz.prog 70 #[.int .i64 f] V fun e w' => e = .returned (.int .i64 t) ∧ Below V.heap.size V w') (k5 : ∀ V, Calls Tryz.prog 69 #[.int .i64 op, .agg #[.int .i64 t, .int .i64 0, .int .u64 a], .agg #[.int .i64 t, .int .i64 0, .int .u64 b]] V fun e w' => e = .returned (.tuple #[.agg #[.int .i64 m, .int .i64 0, .int .u64 v], .int .i64 tr]) ∧ Below V.heap.size V w') (o1 : ∀ V, Calls Tryz.prog 18 #[.int .i64 f, .int .u64 a, .int .u64 a] V fun e w' => e = .returned (.agg #[.bool false, .int .u64 a, .int .u64 a]) ∧ Below V.heap.size V w') (o2 : ∀ V, Calls Tryz.prog 18 #[.int .i64 f, .int .u64 b, .int .u64 b] V fun e w' => e = .returned (.agg #[.bool false, .int .u64 b, .int .u64 b]) ∧ Below V.heap.size V w') (k6 : ∀ V, Calls Tryz.prog 34 #[.int .i64 f, .int .i64 op, .agg #[.bool false, .int .u64 a, .int .u64 a], .agg #[.bool false, .int .u64 b, .int .u64 b]] V fun e w' => e = .returned (.tuple #[.agg #[.bool true, .int .u64 l2, .int .u64 h2], .int .i64 T2]) ∧ Below V.heap.size V w') (hl : ∀ V, Calls Tryz.prog 23 #[] V fun e w' => e = .returned (.bool true) ∧ Below V.heap.size V w') (htr : (tr != 0) = true) (hb : ∀ V, Calls Tryz.prog 71 #[.int .i64 tr] V fun e w' => e = .returned (.int .i64 T2) ∧ Below V.heap.size V w') (w : World) :
    Calls Tryz.prog 11 #[.int .i64 op, .int .i64 p, .agg #[.int .u64 x, .int .u64 y]] w fun e w' => e = .returned (.bool true) ∧ Below w.heap.size w w' := by
  go_enter Tryz.func11, Tryz.ntmps11
  go_upto_region 1 with fail
  obtain ⟨W, hW⟩ : ∃ W, (w.alloc (.cells #[.int .u64 x, .int .u64 y] 67)) = W := ⟨_, rfl⟩
  have n0 : W.cell? ⟨w.heap.size, 0, none⟩ = some (.int .u64 x) := by rw [← hW]; simp [go_sem]
  have n1 : W.cell? ⟨w.heap.size, 1, none⟩ = some (.int .u64 y) := by rw [← hW]; simp [go_sem]
  have bW : Below w.heap.size w W := by rw [← hW]; exact (sp_new (Below.refl _ _) _)
  have zW : W.heap.size = w.heap.size + 1 := by rw [← hW]; simp
  rw [hW]
  clear hW
  go_upto_region 4 with (first
    | (go_at_call 15; refine (kf _).mono ?_; rintro e v0 ⟨rfl, g⟩; replace bW := sp_call bW g; replace n0 := sp_cell_on g n0; replace n1 := sp_cell_on g n1; clear g)
    | (go_at_call 73; refine (k1 _).mono ?_; rintro e v1 ⟨rfl, g⟩; replace bW := sp_call bW g; replace n0 := sp_cell_on g n0; replace n1 := sp_cell_on g n1; clear g; clear k1)
    | (go_at_call 73; refine (k2 _).mono ?_; rintro e v2 ⟨rfl, g⟩; replace bW := sp_call bW g; replace n0 := sp_cell_on g n0; replace n1 := sp_cell_on g n1; clear g)
    | fail)
  have hall : ∀ X, Below v2.heap.size v2 X → X.cell? ⟨w.heap.size, 0, none⟩ = some (.int .u64 x) ∧ X.cell? ⟨w.heap.size, 1, none⟩ = some (.int .u64 y) := fun X cc => ⟨sp_cell_on cc n0, sp_cell_on cc n1⟩
  have cc : Below v2.heap.size v2 v2 := Below.refl _ _
  go_cut [8, 9] from 37 to 44 (fun s u X => ∃ W4 : World, W4 = X ∧ s = .int .u64 a ∧ u = .int .u64 b ∧ Below v2.heap.size v2 X)
  case first =>
   go_region_held3 (fun w' => w'.cell? ⟨w.heap.size, 0, none⟩ = some (.int .u64 x) ∧ w'.cell? ⟨w.heap.size, 1, none⟩ = some (.int .u64 y)) (exact hall _ (by first | exact cc | exact cc.drew))
     (first
       | (go_at_call 68; refine (p1 _).mono ?_; rintro e u1 ⟨rfl, g⟩; replace cc := sp_call (show Below v2.heap.size v2 _ by first | exact cc | exact cc.drew) g; clear g; clear p1)
       | (go_at_call 68; refine (p2 _).mono ?_; rintro e u2 ⟨rfl, g⟩; replace cc := sp_call (show Below v2.heap.size v2 _ by first | exact cc | exact cc.drew) g; clear g)
       | fail)
   all_goals go_wp2_with fail
   all_goals go_meet
   all_goals exact ⟨_, rfl, rfl, rfl, by first | exact cc | exact cc.drew⟩
  case rest =>
   obtain ⟨W4, rfl, rfl, rfl, cX⟩ := hcut
   replace bW := sp_call bW cX
   clear cX hall cc n0 n1 kf p1 p2
   have cc : Below W4.heap.size W4 W4 := Below.refl _ _
   go_upto_region 5 with fail
   go_cut [10, 11] from 45 to 57 (fun s u X => ∃ (W5 : World) (b10 : Nat), W5 = X ∧ s = .pointer (some ⟨b10, 0, none⟩) ∧ u = .int .i64 tr ∧ W4.heap.size ≤ b10 ∧ X.cell? ⟨b10, 0, none⟩ = some (.int .i64 m) ∧ X.cell? ⟨b10, 1, none⟩ = some (.int .i64 0) ∧ X.cell? ⟨b10, 2, none⟩ = some (.int .u64 v) ∧ Below W4.heap.size W4 X)
   case first =>
    go_wp2_with (first
      | (go_at_call 70; refine (kt _).mono ?_; rintro e u1 ⟨rfl, g⟩; replace cc := sp_call cc g; clear g)
      | (go_at_call 69; refine (k5 _).mono ?_; rintro e u3 ⟨rfl, g⟩; replace cc := sp_call cc g; clear g)
      | fail)
    go_meet
    have zg := cc.size
    exact ⟨_, _, rfl, rfl, rfl, by omega, by simp [go_sem], by simp [go_sem], by simp [go_sem], by (repeat (first | exact Below.refl _ _ | assumption | with_reducible refine sp_new ?_ _ | with_reducible refine sp_set1f ?_ (by omega) _))⟩
   case rest =>
    obtain ⟨W5, b10, rfl, rfl, rfl, hb10, y0, y1, y2, cX⟩ := hcut
    replace bW := sp_call bW cX
    clear cX cc
    have cc : Below W5.heap.size W5 W5 := Below.refl _ _
    go_upto_region 6 with fail
    go_cut [12, 13] from 58 to 71 (fun s u X => ∃ (W6 : World) (b12 : Nat), W6 = X ∧ s = .pointer (some ⟨b12, 0, none⟩) ∧ u = .int .i64 T2 ∧ W5.heap.size ≤ b12 ∧ X.cell? ⟨b12, 0, none⟩ = some (.bool true) ∧ X.cell? ⟨b12, 1, none⟩ = some (.int .u64 l2) ∧ X.cell? ⟨b12, 2, none⟩ = some (.int .u64 h2) ∧ Below W5.heap.size W5 X)
    case first =>
     go_wp2_with (first
       | (go_at_call 18; refine (o1 _).mono ?_; rintro e u1 ⟨rfl, g⟩; replace cc := sp_call cc g; clear g; clear o1)
       | (go_at_call 18; refine (o2 _).mono ?_; rintro e u2 ⟨rfl, g⟩; replace cc := sp_call cc g; clear g)
       | (go_at_call 34; refine (k6 _).mono ?_; rintro e u3 ⟨rfl, g⟩; replace cc := sp_call cc g; clear g)
       | fail)
     go_meet
     have zg := cc.size
     exact ⟨_, _, rfl, rfl, rfl, by omega, by simp [go_sem], by simp [go_sem], by simp [go_sem], by (repeat (first | exact Below.refl _ _ | assumption | with_reducible refine sp_new ?_ _ | with_reducible refine sp_set1f ?_ (by omega) _))⟩
    case rest =>
     obtain ⟨W6, b12, rfl, rfl, rfl, hb12, z0, z1, z2, cX⟩ := hcut
     replace y0 := sp_cell_on cX y0
     replace y1 := sp_cell_on cX y1
     replace y2 := sp_cell_on cX y2
     replace bW := sp_call bW cX
     clear cX cc
     have cc : Below W6.heap.size W6 W6 := Below.refl _ _
     go_wp2_with (first
       | (go_at_call 23; refine (hl _).mono ?_; rintro e vl ⟨rfl, g⟩; replace bW := sp_call bW g; replace y0 := sp_cell_on g y0; replace y1 := sp_cell_on g y1; replace y2 := sp_cell_on g y2; replace z0 := sp_cell_on g z0; replace z1 := sp_cell_on g z1; replace z2 := sp_cell_on g z2; clear g)
       | (go_at_call 71; refine (hb _).mono ?_; rintro e vb ⟨rfl, g⟩; replace bW := sp_call bW g; replace y0 := sp_cell_on g y0; replace y1 := sp_cell_on g y1; replace y2 := sp_cell_on g y2; replace z0 := sp_cell_on g z0; replace z1 := sp_cell_on g z1; replace z2 := sp_cell_on g z2; clear g)
       | fail)
     go_ret
     exact ⟨rfl, bW⟩
set_option maxRecDepth 100000 in
set_option maxHeartbeats 6400000 in
theorem ss_ok (op p f x y : Int) (a b t m v : Int) (kf : ∀ V, Calls Tryz.prog 15 #[.int .i64 p] V fun e w' => e = .returned (.int .i64 f) ∧ Below V.heap.size V w') (k1 : ∀ V, Calls Tryz.prog 73 #[.int .i64 f, .int .u64 x] V fun e w' => e = .returned (.bool true) ∧ Below V.heap.size V w') (k2 : ∀ V, Calls Tryz.prog 73 #[.int .i64 f, .int .u64 y] V fun e w' => e = .returned (.bool true) ∧ Below V.heap.size V w') (h0 : ¬ op < 8) (h1 : ¬ 11 < op) (p1 : ∀ V, Calls Tryz.prog 68 #[.int .i64 f, .int .u64 x] V fun e w' => e = .returned (.int .u64 a) ∧ Below V.heap.size V w') (p2 : ∀ V, Calls Tryz.prog 68 #[.int .i64 f, .int .u64 y] V fun e w' => e = .returned (.int .u64 b) ∧ Below V.heap.size V w') (kt : ∀ V, Calls Tryz.prog 70 #[.int .i64 f] V fun e w' => e = .returned (.int .i64 t) ∧ Below V.heap.size V w') (k5 : ∀ V, Calls Tryz.prog 69 #[.int .i64 op, .agg #[.int .i64 t, .int .i64 0, .int .u64 a], .agg #[.int .i64 t, .int .i64 0, .int .u64 b]] V fun e w' => e = .returned (.tuple #[.agg #[.int .i64 m, .int .i64 0, .int .u64 v], .int .i64 0]) ∧ Below V.heap.size V w') (o1 : ∀ V, Calls Tryz.prog 18 #[.int .i64 f, .int .u64 a, .int .u64 a] V fun e w' => e = .returned (.agg #[.bool false, .int .u64 a, .int .u64 a]) ∧ Below V.heap.size V w') (o2 : ∀ V, Calls Tryz.prog 18 #[.int .i64 f, .int .u64 b, .int .u64 b] V fun e w' => e = .returned (.agg #[.bool false, .int .u64 b, .int .u64 b]) ∧ Below V.heap.size V w') (k6 : ∀ V, Calls Tryz.prog 34 #[.int .i64 f, .int .i64 op, .agg #[.bool false, .int .u64 a, .int .u64 a], .agg #[.bool false, .int .u64 b, .int .u64 b]] V fun e w' => e = .returned (.tuple #[.agg #[.bool false, .int .u64 v, .int .u64 v], .int .i64 0]) ∧ Below V.heap.size V w') (hl : ∀ V, Calls Tryz.prog 23 #[] V fun e w' => e = .returned (.bool true) ∧ Below V.heap.size V w') (o3 : ∀ V, Calls Tryz.prog 18 #[.int .i64 f, .int .u64 v, .int .u64 v] V fun e w' => e = .returned (.agg #[.bool false, .int .u64 v, .int .u64 v]) ∧ Below V.heap.size V w') (w : World) :
    Calls Tryz.prog 11 #[.int .i64 op, .int .i64 p, .agg #[.int .u64 x, .int .u64 y]] w fun e w' => e = .returned (.bool true) ∧ Below w.heap.size w w' := by
  go_enter Tryz.func11, Tryz.ntmps11
  go_upto_region 1 with fail
  obtain ⟨W, hW⟩ : ∃ W, (w.alloc (.cells #[.int .u64 x, .int .u64 y] 67)) = W := ⟨_, rfl⟩
  have n0 : W.cell? ⟨w.heap.size, 0, none⟩ = some (.int .u64 x) := by rw [← hW]; simp [go_sem]
  have n1 : W.cell? ⟨w.heap.size, 1, none⟩ = some (.int .u64 y) := by rw [← hW]; simp [go_sem]
  have bW : Below w.heap.size w W := by rw [← hW]; exact (sp_new (Below.refl _ _) _)
  have zW : W.heap.size = w.heap.size + 1 := by rw [← hW]; simp
  rw [hW]
  clear hW
  go_upto_region 4 with (first
    | (go_at_call 15; refine (kf _).mono ?_; rintro e v0 ⟨rfl, g⟩; replace bW := sp_call bW g; replace n0 := sp_cell_on g n0; replace n1 := sp_cell_on g n1; clear g)
    | (go_at_call 73; refine (k1 _).mono ?_; rintro e v1 ⟨rfl, g⟩; replace bW := sp_call bW g; replace n0 := sp_cell_on g n0; replace n1 := sp_cell_on g n1; clear g; clear k1)
    | (go_at_call 73; refine (k2 _).mono ?_; rintro e v2 ⟨rfl, g⟩; replace bW := sp_call bW g; replace n0 := sp_cell_on g n0; replace n1 := sp_cell_on g n1; clear g)
    | fail)
  have hall : ∀ X, Below v2.heap.size v2 X → X.cell? ⟨w.heap.size, 0, none⟩ = some (.int .u64 x) ∧ X.cell? ⟨w.heap.size, 1, none⟩ = some (.int .u64 y) := fun X cc => ⟨sp_cell_on cc n0, sp_cell_on cc n1⟩
  have cc : Below v2.heap.size v2 v2 := Below.refl _ _
  go_cut [8, 9] from 37 to 44 (fun s u X => ∃ W4 : World, W4 = X ∧ s = .int .u64 a ∧ u = .int .u64 b ∧ Below v2.heap.size v2 X)
  case first =>
   go_region_held3 (fun w' => w'.cell? ⟨w.heap.size, 0, none⟩ = some (.int .u64 x) ∧ w'.cell? ⟨w.heap.size, 1, none⟩ = some (.int .u64 y)) (exact hall _ (by first | exact cc | exact cc.drew))
     (first
       | (go_at_call 68; refine (p1 _).mono ?_; rintro e u1 ⟨rfl, g⟩; replace cc := sp_call (show Below v2.heap.size v2 _ by first | exact cc | exact cc.drew) g; clear g; clear p1)
       | (go_at_call 68; refine (p2 _).mono ?_; rintro e u2 ⟨rfl, g⟩; replace cc := sp_call (show Below v2.heap.size v2 _ by first | exact cc | exact cc.drew) g; clear g)
       | fail)
   all_goals go_wp2_with fail
   all_goals go_meet
   all_goals exact ⟨_, rfl, rfl, rfl, by first | exact cc | exact cc.drew⟩
  case rest =>
   obtain ⟨W4, rfl, rfl, rfl, cX⟩ := hcut
   replace bW := sp_call bW cX
   clear cX hall cc n0 n1 kf p1 p2
   have cc : Below W4.heap.size W4 W4 := Below.refl _ _
   go_upto_region 5 with fail
   go_cut [10, 11] from 45 to 57 (fun s u X => ∃ (W5 : World) (b10 : Nat), W5 = X ∧ s = .pointer (some ⟨b10, 0, none⟩) ∧ u = .int .i64 0 ∧ W4.heap.size ≤ b10 ∧ X.cell? ⟨b10, 0, none⟩ = some (.int .i64 m) ∧ X.cell? ⟨b10, 1, none⟩ = some (.int .i64 0) ∧ X.cell? ⟨b10, 2, none⟩ = some (.int .u64 v) ∧ Below W4.heap.size W4 X)
   case first =>
    go_wp2_with (first
      | (go_at_call 70; refine (kt _).mono ?_; rintro e u1 ⟨rfl, g⟩; replace cc := sp_call cc g; clear g)
      | (go_at_call 69; refine (k5 _).mono ?_; rintro e u3 ⟨rfl, g⟩; replace cc := sp_call cc g; clear g)
      | fail)
    go_meet
    have zg := cc.size
    exact ⟨_, _, rfl, rfl, rfl, by omega, by simp [go_sem], by simp [go_sem], by simp [go_sem], by (repeat (first | exact Below.refl _ _ | assumption | with_reducible refine sp_new ?_ _ | with_reducible refine sp_set1f ?_ (by omega) _))⟩
   case rest =>
    obtain ⟨W5, b10, rfl, rfl, rfl, hb10, y0, y1, y2, cX⟩ := hcut
    replace bW := sp_call bW cX
    clear cX cc
    have cc : Below W5.heap.size W5 W5 := Below.refl _ _
    go_upto_region 6 with fail
    go_cut [12, 13] from 58 to 71 (fun s u X => ∃ (W6 : World) (b12 : Nat), W6 = X ∧ s = .pointer (some ⟨b12, 0, none⟩) ∧ u = .int .i64 0 ∧ W5.heap.size ≤ b12 ∧ X.cell? ⟨b12, 0, none⟩ = some (.bool false) ∧ X.cell? ⟨b12, 1, none⟩ = some (.int .u64 v) ∧ X.cell? ⟨b12, 2, none⟩ = some (.int .u64 v) ∧ Below W5.heap.size W5 X)
    case first =>
     go_wp2_with (first
       | (go_at_call 18; refine (o1 _).mono ?_; rintro e u1 ⟨rfl, g⟩; replace cc := sp_call cc g; clear g; clear o1)
       | (go_at_call 18; refine (o2 _).mono ?_; rintro e u2 ⟨rfl, g⟩; replace cc := sp_call cc g; clear g)
       | (go_at_call 34; refine (k6 _).mono ?_; rintro e u3 ⟨rfl, g⟩; replace cc := sp_call cc g; clear g)
       | fail)
     go_meet
     have zg := cc.size
     exact ⟨_, _, rfl, rfl, rfl, by omega, by simp [go_sem], by simp [go_sem], by simp [go_sem], by (repeat (first | exact Below.refl _ _ | assumption | with_reducible refine sp_new ?_ _ | with_reducible refine sp_set1f ?_ (by omega) _))⟩
    case rest =>
     obtain ⟨W6, b12, rfl, rfl, rfl, hb12, z0, z1, z2, cX⟩ := hcut
     replace y0 := sp_cell_on cX y0
     replace y1 := sp_cell_on cX y1
     replace y2 := sp_cell_on cX y2
     replace bW := sp_call bW cX
     clear cX cc
     have cc : Below W6.heap.size W6 W6 := Below.refl _ _
     go_upto_region 9 with fail
     go_region_held3 (fun w' => w'.cell? ⟨b10, 0, none⟩ = some (.int .i64 m) ∧ w'.cell? ⟨b10, 1, none⟩ = some (.int .i64 0) ∧ w'.cell? ⟨b10, 2, none⟩ = some (.int .u64 v) ∧ w'.cell? ⟨b12, 0, none⟩ = some (.bool false) ∧ w'.cell? ⟨b12, 1, none⟩ = some (.int .u64 v) ∧ w'.cell? ⟨b12, 2, none⟩ = some (.int .u64 v)) (exact ⟨y0, y1, y2, z0, z1, z2⟩)
       (first
         | (go_at_call 23; refine (hl _).mono ?_; rintro e vl ⟨rfl, g⟩; replace g : Below W6.heap.size W6 vl := ⟨g.os, g.tape, g.output, g.size, g.block⟩; replace bW := sp_call bW g; replace y0 := sp_cell_on g y0; replace y1 := sp_cell_on g y1; replace y2 := sp_cell_on g y2; replace z0 := sp_cell_on g z0; replace z1 := sp_cell_on g z1; replace z2 := sp_cell_on g z2; clear g)
         | (go_at_call 18; refine (o3 _).mono ?_; rintro e vo ⟨rfl, g⟩; replace g : Below vl.heap.size vl vo := ⟨g.os, g.tape, g.output, g.size, g.block⟩; replace bW := sp_call bW g; replace y0 := sp_cell_on g y0; replace y1 := sp_cell_on g y1; replace y2 := sp_cell_on g y2; replace z0 := sp_cell_on g z0; replace z1 := sp_cell_on g z1; replace z2 := sp_cell_on g z2; clear g)
         | fail)
     all_goals go_wp2
     all_goals go_ret
     all_goals exact ⟨rfl, bW⟩
end Go.Proofs.YthjoigkckgdcaaaGreat

