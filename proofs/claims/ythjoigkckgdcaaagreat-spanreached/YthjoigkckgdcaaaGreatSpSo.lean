/- SpanSound, walked. -/
import Derived.Test.YthjoigkckgdcaaaGreatSpFl
import Derived.Deep.DeepCutAuto
namespace Go.Proofs.YthjoigkckgdcaaaGreat
open Go.RowKit
set_option linter.unusedVariables false
set_option linter.unusedSimpArgs false
/-- A call tells so, in every world. -/
def KC (F : Nat) (args : Array Value) (r : Value) : Prop := ∀ V, Calls Tryz.prog F args V fun e w' => e = .returned r ∧ Below V.heap.size V w'
/-- What is told of a trap, and of a number, of two numbers u and v of the ranges. -/
def SoTrap (op f : Int) (e1 : Bool) (a b : Int) (e2 : Bool) (c d u v : Int) : Prop := ∃ (t m z tr l2 h2 T2 B2 : Int) (E : Bool), KC 70 #[.int .i64 f] (.int .i64 t) ∧ KC 69 #[.int .i64 op, .agg #[.int .i64 t, .int .i64 0, .int .u64 u], .agg #[.int .i64 t, .int .i64 0, .int .u64 v]] (.tuple #[.agg #[.int .i64 m, .int .i64 0, .int .u64 z], .int .i64 tr]) ∧ KC 34 #[.int .i64 f, .int .i64 op, .agg #[.bool e1, .int .u64 a, .int .u64 b], .agg #[.bool e2, .int .u64 c, .int .u64 d]] (.tuple #[.agg #[.bool E, .int .u64 l2, .int .u64 h2], .int .i64 T2]) ∧ (tr != 0) = true ∧ KC 71 #[.int .i64 tr] (.int .i64 B2) ∧ (bits BinOp.and IntKind.i64 T2 B2 != 0) = true
def SoOk (op f : Int) (e1 : Bool) (a b : Int) (e2 : Bool) (c d u v : Int) : Prop := ∃ (t m z l2 h2 T2 : Int) (E : Bool), KC 70 #[.int .i64 f] (.int .i64 t) ∧ KC 69 #[.int .i64 op, .agg #[.int .i64 t, .int .i64 0, .int .u64 u], .agg #[.int .i64 t, .int .i64 0, .int .u64 v]] (.tuple #[.agg #[.int .i64 m, .int .i64 0, .int .u64 z], .int .i64 0]) ∧ KC 34 #[.int .i64 f, .int .i64 op, .agg #[.bool e1, .int .u64 a, .int .u64 b], .agg #[.bool e2, .int .u64 c, .int .u64 d]] (.tuple #[.agg #[.bool E, .int .u64 l2, .int .u64 h2], .int .i64 T2]) ∧ KC 24 #[.int .i64 f, .agg #[.bool E, .int .u64 l2, .int .u64 h2], .int .u64 z] (.bool true)
set_option maxRecDepth 100000 in
set_option maxHeartbeats 6400000 in
theorem so_all (op p f : Int) (e1 : Bool) (a b : Int) (e2 : Bool) (c d x y u v : Int) (RR H1 H2 : Bool) (kf : ∀ V, Calls Tryz.prog 15 #[.int .i64 p] V fun e w' => e = .returned (.int .i64 f) ∧ Below V.heap.size V w') (p1 : ∀ V, Calls Tryz.prog 68 #[.int .i64 f, .int .u64 x] V fun e w' => e = .returned (.int .u64 u) ∧ Below V.heap.size V w') (p2 : ∀ V, Calls Tryz.prog 68 #[.int .i64 f, .int .u64 y] V fun e w' => e = .returned (.int .u64 v) ∧ Below V.heap.size V w') (kr : ∀ V, Calls Tryz.prog 22 #[.agg #[.int .i64 p, .bool e1, .int .u64 a, .int .u64 b, .bool e2, .int .u64 c, .int .u64 d]] V fun e w' => e = .returned (.bool RR) ∧ Below V.heap.size V w') (k1 : ∀ V, Calls Tryz.prog 25 #[.int .i64 f, .agg #[.bool e1, .int .u64 a, .int .u64 b], .int .u64 u] V fun e w' => e = .returned (.bool H1) ∧ Below V.heap.size V w') (k2 : ∀ V, Calls Tryz.prog 25 #[.int .i64 f, .agg #[.bool e2, .int .u64 c, .int .u64 d], .int .u64 v] V fun e w' => e = .returned (.bool H2) ∧ Below V.heap.size V w') (hl : ∀ V, Calls Tryz.prog 23 #[] V fun e w' => e = .returned (.bool true) ∧ Below V.heap.size V w') (main : RR = true → 8 ≤ op → op ≤ 11 → H1 = true → H2 = true → SoTrap op f e1 a b e2 c d u v ∨ SoOk op f e1 a b e2 c d u v) (w : World) :
    Calls Tryz.prog 9 #[.int .i64 op, .agg #[.int .i64 p, .bool e1, .int .u64 a, .int .u64 b, .bool e2, .int .u64 c, .int .u64 d], .agg #[.int .u64 x, .int .u64 y]] w fun e w' => e = .returned (.bool true) ∧ Below w.heap.size w w' := by
  go_enter Tryz.func9, Tryz.ntmps9
  go_upto_region 1 with fail
  obtain ⟨W, hW⟩ : ∃ W, ((w.alloc (.cells #[.int .i64 p, .bool e1, .int .u64 a, .int .u64 b, .bool e2, .int .u64 c, .int .u64 d] 27)).alloc (.cells #[.int .u64 x, .int .u64 y] 67)) = W := ⟨_, rfl⟩
  have x0 : W.cell? ⟨w.heap.size, 0, none⟩ = some (.int .i64 p) := by rw [← hW]; simp [go_sem]
  have x1 : W.cell? ⟨w.heap.size, 1, none⟩ = some (.bool e1) := by rw [← hW]; simp [go_sem]
  have x2 : W.cell? ⟨w.heap.size, 2, none⟩ = some (.int .u64 a) := by rw [← hW]; simp [go_sem]
  have x3 : W.cell? ⟨w.heap.size, 3, none⟩ = some (.int .u64 b) := by rw [← hW]; simp [go_sem]
  have x4 : W.cell? ⟨w.heap.size, 4, none⟩ = some (.bool e2) := by rw [← hW]; simp [go_sem]
  have x5 : W.cell? ⟨w.heap.size, 5, none⟩ = some (.int .u64 c) := by rw [← hW]; simp [go_sem]
  have x6 : W.cell? ⟨w.heap.size, 6, none⟩ = some (.int .u64 d) := by rw [← hW]; simp [go_sem]
  have n0 : W.cell? ⟨w.heap.size + 1, 0, none⟩ = some (.int .u64 x) := by rw [← hW]; simp [go_sem]
  have n1 : W.cell? ⟨w.heap.size + 1, 1, none⟩ = some (.int .u64 y) := by rw [← hW]; simp [go_sem]
  have bW : Below w.heap.size w W := by rw [← hW]; exact (sp_new (sp_new (Below.refl _ _) _) _)
  have zW : W.heap.size = w.heap.size + 2 := by rw [← hW]; simp
  rw [hW]
  clear hW
  go_upto_region 2 with (first
    | (go_at_call 15; refine (kf _).mono ?_; rintro e v0 ⟨rfl, g⟩; replace bW := sp_call bW g; replace x0 := sp_cell_on g x0; replace x1 := sp_cell_on g x1; replace x2 := sp_cell_on g x2; replace x3 := sp_cell_on g x3; replace x4 := sp_cell_on g x4; replace x5 := sp_cell_on g x5; replace x6 := sp_cell_on g x6; replace n0 := sp_cell_on g n0; replace n1 := sp_cell_on g n1; clear g)
    | fail)
  have hall : ∀ X, Below v0.heap.size v0 X → X.cell? ⟨w.heap.size + 1, 0, none⟩ = some (.int .u64 x) ∧ X.cell? ⟨w.heap.size + 1, 1, none⟩ = some (.int .u64 y) := fun X cc => ⟨sp_cell_on cc n0, sp_cell_on cc n1⟩
  have cc : Below v0.heap.size v0 v0 := Below.refl _ _
  go_cut [8, 9] from 17 to 24 (fun s t X => ∃ W4 : World, W4 = X ∧ s = .int .u64 u ∧ t = .int .u64 v ∧ Below v0.heap.size v0 X)
  case first =>
   go_region_held3 (fun w' => w'.cell? ⟨w.heap.size + 1, 0, none⟩ = some (.int .u64 x) ∧ w'.cell? ⟨w.heap.size + 1, 1, none⟩ = some (.int .u64 y)) (exact hall _ (by first | exact cc | exact cc.drew))
     (first
       | (go_at_call 68; refine (p1 _).mono ?_; rintro e u1 ⟨rfl, g⟩; replace cc := sp_call (show Below v0.heap.size v0 _ by first | exact cc | exact cc.drew) g; clear g; clear p1)
       | (go_at_call 68; refine (p2 _).mono ?_; rintro e u2 ⟨rfl, g⟩; replace cc := sp_call (show Below v0.heap.size v0 _ by first | exact cc | exact cc.drew) g; clear g)
       | fail)
   all_goals go_wp2_with fail
   all_goals go_meet
   all_goals exact ⟨_, rfl, rfl, rfl, by first | exact cc | exact cc.drew⟩
  case rest =>
   obtain ⟨W4, rfl, rfl, rfl, cX⟩ := hcut
   replace bW := sp_call bW cX
   replace x0 := sp_cell_on cX x0; replace x1 := sp_cell_on cX x1; replace x2 := sp_cell_on cX x2; replace x3 := sp_cell_on cX x3; replace x4 := sp_cell_on cX x4; replace x5 := sp_cell_on cX x5; replace x6 := sp_cell_on cX x6
   clear cX hall cc n0 n1 kf p1 p2
   cases RR
   · clear main k1 k2
     go_wp2_with (first
       | (go_at_call 22; refine (kr _).mono ?_; rintro e v1 ⟨rfl, g⟩; replace bW := sp_call bW g; replace x0 := sp_cell_on g x0; replace x1 := sp_cell_on g x1; replace x2 := sp_cell_on g x2; replace x3 := sp_cell_on g x3; replace x4 := sp_cell_on g x4; replace x5 := sp_cell_on g x5; replace x6 := sp_cell_on g x6; clear g)
       | (go_at_call 23; refine (hl _).mono ?_; rintro e vl ⟨rfl, g⟩; replace bW := sp_call bW g; replace x0 := sp_cell_on g x0; replace x1 := sp_cell_on g x1; replace x2 := sp_cell_on g x2; replace x3 := sp_cell_on g x3; replace x4 := sp_cell_on g x4; replace x5 := sp_cell_on g x5; replace x6 := sp_cell_on g x6; clear g)
       | fail)
     go_ret
     exact ⟨rfl, bW⟩
   by_cases ho : op < 8
   · clear main k1 k2
     go_wp2_with (first
       | (go_at_call 22; refine (kr _).mono ?_; rintro e v1 ⟨rfl, g⟩; replace bW := sp_call bW g; replace x0 := sp_cell_on g x0; replace x1 := sp_cell_on g x1; replace x2 := sp_cell_on g x2; replace x3 := sp_cell_on g x3; replace x4 := sp_cell_on g x4; replace x5 := sp_cell_on g x5; replace x6 := sp_cell_on g x6; clear g)
       | (go_at_call 23; refine (hl _).mono ?_; rintro e vl ⟨rfl, g⟩; replace bW := sp_call bW g; replace x0 := sp_cell_on g x0; replace x1 := sp_cell_on g x1; replace x2 := sp_cell_on g x2; replace x3 := sp_cell_on g x3; replace x4 := sp_cell_on g x4; replace x5 := sp_cell_on g x5; replace x6 := sp_cell_on g x6; clear g)
       | fail)
     go_ret
     exact ⟨rfl, bW⟩
   by_cases hi : 11 < op
   · clear main k1 k2
     go_wp2_with (first
       | (go_at_call 22; refine (kr _).mono ?_; rintro e v1 ⟨rfl, g⟩; replace bW := sp_call bW g; replace x0 := sp_cell_on g x0; replace x1 := sp_cell_on g x1; replace x2 := sp_cell_on g x2; replace x3 := sp_cell_on g x3; replace x4 := sp_cell_on g x4; replace x5 := sp_cell_on g x5; replace x6 := sp_cell_on g x6; clear g)
       | (go_at_call 23; refine (hl _).mono ?_; rintro e vl ⟨rfl, g⟩; replace bW := sp_call bW g; replace x0 := sp_cell_on g x0; replace x1 := sp_cell_on g x1; replace x2 := sp_cell_on g x2; replace x3 := sp_cell_on g x3; replace x4 := sp_cell_on g x4; replace x5 := sp_cell_on g x5; replace x6 := sp_cell_on g x6; clear g)
       | fail)
     go_ret
     exact ⟨rfl, bW⟩
   cases H1
   · clear main k2
     go_wp2_with (first
       | (go_at_call 22; refine (kr _).mono ?_; rintro e v1 ⟨rfl, g⟩; replace bW := sp_call bW g; replace x0 := sp_cell_on g x0; replace x1 := sp_cell_on g x1; replace x2 := sp_cell_on g x2; replace x3 := sp_cell_on g x3; replace x4 := sp_cell_on g x4; replace x5 := sp_cell_on g x5; replace x6 := sp_cell_on g x6; clear g)
       | (go_at_call 25; refine (k1 _).mono ?_; rintro e v2 ⟨rfl, g⟩; replace bW := sp_call bW g; replace x0 := sp_cell_on g x0; replace x1 := sp_cell_on g x1; replace x2 := sp_cell_on g x2; replace x3 := sp_cell_on g x3; replace x4 := sp_cell_on g x4; replace x5 := sp_cell_on g x5; replace x6 := sp_cell_on g x6; clear g; clear k1)
       | (go_at_call 23; refine (hl _).mono ?_; rintro e vl ⟨rfl, g⟩; replace bW := sp_call bW g; replace x0 := sp_cell_on g x0; replace x1 := sp_cell_on g x1; replace x2 := sp_cell_on g x2; replace x3 := sp_cell_on g x3; replace x4 := sp_cell_on g x4; replace x5 := sp_cell_on g x5; replace x6 := sp_cell_on g x6; clear g)
       | fail)
     go_ret
     exact ⟨rfl, bW⟩
   cases H2
   · clear main
     go_wp2_with (first
       | (go_at_call 22; refine (kr _).mono ?_; rintro e v1 ⟨rfl, g⟩; replace bW := sp_call bW g; replace x0 := sp_cell_on g x0; replace x1 := sp_cell_on g x1; replace x2 := sp_cell_on g x2; replace x3 := sp_cell_on g x3; replace x4 := sp_cell_on g x4; replace x5 := sp_cell_on g x5; replace x6 := sp_cell_on g x6; clear g)
       | (go_at_call 25; refine (k1 _).mono ?_; rintro e v2 ⟨rfl, g⟩; replace bW := sp_call bW g; replace x0 := sp_cell_on g x0; replace x1 := sp_cell_on g x1; replace x2 := sp_cell_on g x2; replace x3 := sp_cell_on g x3; replace x4 := sp_cell_on g x4; replace x5 := sp_cell_on g x5; replace x6 := sp_cell_on g x6; clear g; clear k1)
       | (go_at_call 25; refine (k2 _).mono ?_; rintro e v3 ⟨rfl, g⟩; replace bW := sp_call bW g; replace x0 := sp_cell_on g x0; replace x1 := sp_cell_on g x1; replace x2 := sp_cell_on g x2; replace x3 := sp_cell_on g x3; replace x4 := sp_cell_on g x4; replace x5 := sp_cell_on g x5; replace x6 := sp_cell_on g x6; clear g)
       | (go_at_call 23; refine (hl _).mono ?_; rintro e vl ⟨rfl, g⟩; replace bW := sp_call bW g; replace x0 := sp_cell_on g x0; replace x1 := sp_cell_on g x1; replace x2 := sp_cell_on g x2; replace x3 := sp_cell_on g x3; replace x4 := sp_cell_on g x4; replace x5 := sp_cell_on g x5; replace x6 := sp_cell_on g x6; clear g)
       | fail)
     go_ret
     exact ⟨rfl, bW⟩
   rcases main rfl (by omega) (by omega) rfl rfl with ⟨t, m, z, tr, l2, h2, T2, B2, E, kt, k5, k6, htr, hb, hbit⟩ | ⟨t, m, z, l2, h2, T2, E, kt, k5, k6, k7⟩
   · clear main
     go_upto_region 5 with (first
       | (go_at_call 22; refine (kr _).mono ?_; rintro e v1 ⟨rfl, g⟩; replace bW := sp_call bW g; replace x0 := sp_cell_on g x0; replace x1 := sp_cell_on g x1; replace x2 := sp_cell_on g x2; replace x3 := sp_cell_on g x3; replace x4 := sp_cell_on g x4; replace x5 := sp_cell_on g x5; replace x6 := sp_cell_on g x6; clear g)
       | (go_at_call 25; refine (k1 _).mono ?_; rintro e v2 ⟨rfl, g⟩; replace bW := sp_call bW g; replace x0 := sp_cell_on g x0; replace x1 := sp_cell_on g x1; replace x2 := sp_cell_on g x2; replace x3 := sp_cell_on g x3; replace x4 := sp_cell_on g x4; replace x5 := sp_cell_on g x5; replace x6 := sp_cell_on g x6; clear g; clear k1)
       | (go_at_call 25; refine (k2 _).mono ?_; rintro e v3 ⟨rfl, g⟩; replace bW := sp_call bW g; replace x0 := sp_cell_on g x0; replace x1 := sp_cell_on g x1; replace x2 := sp_cell_on g x2; replace x3 := sp_cell_on g x3; replace x4 := sp_cell_on g x4; replace x5 := sp_cell_on g x5; replace x6 := sp_cell_on g x6; clear g)
       | fail)
     have cc : Below v3.heap.size v3 v3 := Below.refl _ _
     go_cut [10, 11] from 53 to 65 (fun s u X => ∃ (W5 : World) (b10 : Nat), W5 = X ∧ s = .pointer (some ⟨b10, 0, none⟩) ∧ u = .int .i64 tr ∧ v3.heap.size ≤ b10 ∧ X.cell? ⟨b10, 0, none⟩ = some (.int .i64 m) ∧ X.cell? ⟨b10, 1, none⟩ = some (.int .i64 0) ∧ X.cell? ⟨b10, 2, none⟩ = some (.int .u64 z) ∧ Below v3.heap.size v3 X)
     case first =>
      go_wp2_with (first
        | (go_at_call 70; refine (kt _).mono ?_; rintro e u1 ⟨rfl, g⟩; replace cc := sp_call cc g; clear g)
        | (go_at_call 69; refine (k5 _).mono ?_; rintro e u3 ⟨rfl, g⟩; replace cc := sp_call cc g; clear g)
        | fail)
      go_meet
      have zg := cc.size
      exact ⟨_, _, rfl, rfl, rfl, by omega, by simp [go_sem], by simp [go_sem], by simp [go_sem], by (repeat (first | exact Below.refl _ _ | assumption | with_reducible refine sp_new ?_ _ | with_reducible refine sp_set1f ?_ (by omega) _))⟩
     case rest =>
      obtain ⟨W5, b10, rfl, rfl, rfl, hb10, y0, y1, y2, cX⟩ := hcut
      replace x0 := sp_cell_on cX x0
      replace x1 := sp_cell_on cX x1
      replace x2 := sp_cell_on cX x2
      replace x3 := sp_cell_on cX x3
      replace x4 := sp_cell_on cX x4
      replace x5 := sp_cell_on cX x5
      replace x6 := sp_cell_on cX x6
      replace bW := sp_call bW cX
      clear cX cc
      have cc : Below W5.heap.size W5 W5 := Below.refl _ _
      go_upto_region 6 with fail
      go_cut [12, 13] from 66 to 75 (fun s u X => ∃ (W6 : World) (b12 : Nat), W6 = X ∧ s = .pointer (some ⟨b12, 0, none⟩) ∧ u = .int .i64 T2 ∧ W5.heap.size ≤ b12 ∧ X.cell? ⟨b12, 0, none⟩ = some (.bool E) ∧ X.cell? ⟨b12, 1, none⟩ = some (.int .u64 l2) ∧ X.cell? ⟨b12, 2, none⟩ = some (.int .u64 h2) ∧ Below W5.heap.size W5 X)
      case first =>
       go_wp2_with (first
         | (go_at_call 34; refine (k6 _).mono ?_; rintro e u3 ⟨rfl, g⟩; replace cc := sp_call cc g; clear g)
         | fail)
       go_meet
       have zg := cc.size
       exact ⟨_, _, rfl, rfl, rfl, by omega, by simp [go_sem], by simp [go_sem], by simp [go_sem], by (repeat (first | exact Below.refl _ _ | assumption | with_reducible refine sp_new ?_ _ | with_reducible refine sp_set1f ?_ (by omega) _))⟩
      case rest =>
       obtain ⟨W6, b12, rfl, rfl, rfl, hb12, z0, z1, z2, cX⟩ := hcut
       replace y0 := sp_cell_on cX y0
       replace y1 := sp_cell_on cX y1
       replace y2 := sp_cell_on cX y2
       replace bW := sp_call bW cX
       clear cX cc
       have cc : Below W6.heap.size W6 W6 := Below.refl _ _
       go_wp2_with (first
         | (go_at_call 23; refine (hl _).mono ?_; rintro e vl ⟨rfl, g⟩; replace bW := sp_call bW g; replace y0 := sp_cell_on g y0; replace y1 := sp_cell_on g y1; replace y2 := sp_cell_on g y2; replace z0 := sp_cell_on g z0; replace z1 := sp_cell_on g z1; replace z2 := sp_cell_on g z2; clear g)
         | (go_at_call 71; refine (hb _).mono ?_; rintro e vb ⟨rfl, g⟩; replace bW := sp_call bW g; replace y0 := sp_cell_on g y0; replace y1 := sp_cell_on g y1; replace y2 := sp_cell_on g y2; replace z0 := sp_cell_on g z0; replace z1 := sp_cell_on g z1; replace z2 := sp_cell_on g z2; clear g)
         | fail)
       go_ret
       exact ⟨rfl, bW⟩
   · clear main
     go_upto_region 5 with (first
       | (go_at_call 22; refine (kr _).mono ?_; rintro e v1 ⟨rfl, g⟩; replace bW := sp_call bW g; replace x0 := sp_cell_on g x0; replace x1 := sp_cell_on g x1; replace x2 := sp_cell_on g x2; replace x3 := sp_cell_on g x3; replace x4 := sp_cell_on g x4; replace x5 := sp_cell_on g x5; replace x6 := sp_cell_on g x6; clear g)
       | (go_at_call 25; refine (k1 _).mono ?_; rintro e v2 ⟨rfl, g⟩; replace bW := sp_call bW g; replace x0 := sp_cell_on g x0; replace x1 := sp_cell_on g x1; replace x2 := sp_cell_on g x2; replace x3 := sp_cell_on g x3; replace x4 := sp_cell_on g x4; replace x5 := sp_cell_on g x5; replace x6 := sp_cell_on g x6; clear g; clear k1)
       | (go_at_call 25; refine (k2 _).mono ?_; rintro e v3 ⟨rfl, g⟩; replace bW := sp_call bW g; replace x0 := sp_cell_on g x0; replace x1 := sp_cell_on g x1; replace x2 := sp_cell_on g x2; replace x3 := sp_cell_on g x3; replace x4 := sp_cell_on g x4; replace x5 := sp_cell_on g x5; replace x6 := sp_cell_on g x6; clear g)
       | fail)
     have cc : Below v3.heap.size v3 v3 := Below.refl _ _
     go_cut [10, 11] from 53 to 65 (fun s u X => ∃ (W5 : World) (b10 : Nat), W5 = X ∧ s = .pointer (some ⟨b10, 0, none⟩) ∧ u = .int .i64 0 ∧ v3.heap.size ≤ b10 ∧ X.cell? ⟨b10, 0, none⟩ = some (.int .i64 m) ∧ X.cell? ⟨b10, 1, none⟩ = some (.int .i64 0) ∧ X.cell? ⟨b10, 2, none⟩ = some (.int .u64 z) ∧ Below v3.heap.size v3 X)
     case first =>
      go_wp2_with (first
        | (go_at_call 70; refine (kt _).mono ?_; rintro e u1 ⟨rfl, g⟩; replace cc := sp_call cc g; clear g)
        | (go_at_call 69; refine (k5 _).mono ?_; rintro e u3 ⟨rfl, g⟩; replace cc := sp_call cc g; clear g)
        | fail)
      go_meet
      have zg := cc.size
      exact ⟨_, _, rfl, rfl, rfl, by omega, by simp [go_sem], by simp [go_sem], by simp [go_sem], by (repeat (first | exact Below.refl _ _ | assumption | with_reducible refine sp_new ?_ _ | with_reducible refine sp_set1f ?_ (by omega) _))⟩
     case rest =>
      obtain ⟨W5, b10, rfl, rfl, rfl, hb10, y0, y1, y2, cX⟩ := hcut
      replace x0 := sp_cell_on cX x0
      replace x1 := sp_cell_on cX x1
      replace x2 := sp_cell_on cX x2
      replace x3 := sp_cell_on cX x3
      replace x4 := sp_cell_on cX x4
      replace x5 := sp_cell_on cX x5
      replace x6 := sp_cell_on cX x6
      replace bW := sp_call bW cX
      clear cX cc
      have cc : Below W5.heap.size W5 W5 := Below.refl _ _
      go_upto_region 6 with fail
      go_cut [12, 13] from 66 to 75 (fun s u X => ∃ (W6 : World) (b12 : Nat), W6 = X ∧ s = .pointer (some ⟨b12, 0, none⟩) ∧ u = .int .i64 T2 ∧ W5.heap.size ≤ b12 ∧ X.cell? ⟨b12, 0, none⟩ = some (.bool E) ∧ X.cell? ⟨b12, 1, none⟩ = some (.int .u64 l2) ∧ X.cell? ⟨b12, 2, none⟩ = some (.int .u64 h2) ∧ Below W5.heap.size W5 X)
      case first =>
       go_wp2_with (first
         | (go_at_call 34; refine (k6 _).mono ?_; rintro e u3 ⟨rfl, g⟩; replace cc := sp_call cc g; clear g)
         | fail)
       go_meet
       have zg := cc.size
       exact ⟨_, _, rfl, rfl, rfl, by omega, by simp [go_sem], by simp [go_sem], by simp [go_sem], by (repeat (first | exact Below.refl _ _ | assumption | with_reducible refine sp_new ?_ _ | with_reducible refine sp_set1f ?_ (by omega) _))⟩
      case rest =>
       obtain ⟨W6, b12, rfl, rfl, rfl, hb12, z0, z1, z2, cX⟩ := hcut
       replace y0 := sp_cell_on cX y0
       replace y1 := sp_cell_on cX y1
       replace y2 := sp_cell_on cX y2
       replace bW := sp_call bW cX
       clear cX cc
       have cc : Below W6.heap.size W6 W6 := Below.refl _ _
       go_wp2_with (first
         | (go_at_call 23; refine (hl _).mono ?_; rintro e vl ⟨rfl, g⟩; replace bW := sp_call bW g; replace y0 := sp_cell_on g y0; replace y1 := sp_cell_on g y1; replace y2 := sp_cell_on g y2; replace z0 := sp_cell_on g z0; replace z1 := sp_cell_on g z1; replace z2 := sp_cell_on g z2; clear g)
         | (go_at_call 24; refine (k7 _).mono ?_; rintro e vb ⟨rfl, g⟩; replace bW := sp_call bW g; replace y0 := sp_cell_on g y0; replace y1 := sp_cell_on g y1; replace y2 := sp_cell_on g y2; replace z0 := sp_cell_on g z0; replace z1 := sp_cell_on g z1; replace z2 := sp_cell_on g z2; clear g)
         | fail)
       go_ret
       exact ⟨rfl, bW⟩
end Go.Proofs.YthjoigkckgdcaaaGreat

