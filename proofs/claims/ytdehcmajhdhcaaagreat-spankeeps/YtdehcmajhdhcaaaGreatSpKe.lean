/- SpanKeeps, walked. -/
import Derived.Test.YtdehcmajhdhcaaaGreatSpFl
import Derived.Deep.DeepCutAuto
namespace Go.Proofs.YtdehcmajhdhcaaaGreat
open Go.RowKit
set_option linter.unusedVariables false
set_option linter.unusedSimpArgs false
/-- A call tells so, in every world. -/
def KK8 (F : Nat) (args : Array Value) (r : Value) : Prop := ∀ V, Calls Tryz.prog F args V fun e w' => e = .returned r ∧ Below V.heap.size V w'
def KeOk (op f : Int) (e1 : Bool) (a b : Int) (e2 : Bool) (c d u v : Int) : Prop := ∃ (pe qe : Bool) (pl ph ql qh : Int), KK8 38 #[.int .i64 f, .int .i64 op, .agg #[.bool e1, .int .u64 a, .int .u64 b], .agg #[.bool e2, .int .u64 c, .int .u64 d]] (.tuple #[.agg #[.bool pe, .int .u64 pl, .int .u64 ph], .agg #[.bool qe, .int .u64 ql, .int .u64 qh]]) ∧ KK8 24 #[.int .i64 f, .agg #[.bool pe, .int .u64 pl, .int .u64 ph], .int .u64 u] (.bool true) ∧ KK8 24 #[.int .i64 f, .agg #[.bool qe, .int .u64 ql, .int .u64 qh], .int .u64 v] (.bool true) ∧ KK8 30 #[.int .i64 f, .agg #[.bool pe, .int .u64 pl, .int .u64 ph], .agg #[.bool e1, .int .u64 a, .int .u64 b]] (.bool true) ∧ KK8 30 #[.int .i64 f, .agg #[.bool qe, .int .u64 ql, .int .u64 qh], .agg #[.bool e2, .int .u64 c, .int .u64 d]] (.bool true)
set_option maxRecDepth 100000 in
set_option maxHeartbeats 6400000 in
theorem ke_all (op p f : Int) (e1 : Bool) (a b : Int) (e2 : Bool) (c d x y u v t : Int) (RR H1 H2 HH : Bool) (kf : KK8 15 #[.int .i64 p] (.int .i64 f)) (p1 : KK8 68 #[.int .i64 f, .int .u64 x] (.int .u64 u)) (p2 : KK8 68 #[.int .i64 f, .int .u64 y] (.int .u64 v)) (kr : KK8 22 #[.agg #[.int .i64 p, .bool e1, .int .u64 a, .int .u64 b, .bool e2, .int .u64 c, .int .u64 d]] (.bool RR)) (k1 : KK8 25 #[.int .i64 f, .agg #[.bool e1, .int .u64 a, .int .u64 b], .int .u64 u] (.bool H1)) (k2 : KK8 25 #[.int .i64 f, .agg #[.bool e2, .int .u64 c, .int .u64 d], .int .u64 v] (.bool H2)) (kt : KK8 70 #[.int .i64 f] (.int .i64 t)) (kh : 12 ≤ op → op ≤ 17 → KK8 72 #[.int .i64 op, .agg #[.int .i64 t, .int .i64 0, .int .u64 u], .agg #[.int .i64 t, .int .i64 0, .int .u64 v]] (.bool HH)) (hl : KK8 23 #[] (.bool true)) (main : RR = true → 12 ≤ op → op ≤ 17 → H1 = true → H2 = true → HH = true → KeOk op f e1 a b e2 c d u v) (w : World) :
    Calls Tryz.prog 10 #[.int .i64 op, .agg #[.int .i64 p, .bool e1, .int .u64 a, .int .u64 b, .bool e2, .int .u64 c, .int .u64 d], .agg #[.int .u64 x, .int .u64 y]] w fun e w' => e = .returned (.bool true) ∧ Below w.heap.size w w' := by
  go_enter Tryz.func10, Tryz.ntmps10
  go_upto_region 1 with fail
  obtain ⟨W, hW⟩ : ∃ W, ((w.alloc (.cells #[.int .i64 p, .bool e1, .int .u64 a, .int .u64 b, .bool e2, .int .u64 c, .int .u64 d] 27)).alloc (.cells #[.int .u64 x, .int .u64 y] 67)) = W := ⟨_, rfl⟩
  have x0 : W.cell? ⟨w.heap.size, 0, none⟩ = some (.int .i64 p) := by rw [← hW]; simp [go_sem]
  have x1 : W.cell? ⟨w.heap.size, 1, none⟩ = some (.bool e1) := by rw [← hW]; simp [go_sem]
  have x2 : W.cell? ⟨w.heap.size, 2, none⟩ = some (.int .u64 a) := by rw [← hW]; simp [go_sem]
  have x3 : W.cell? ⟨w.heap.size, 3, none⟩ = some (.int .u64 b) := by rw [← hW]; simp [go_sem]
  have x4 : W.cell? ⟨w.heap.size, 4, none⟩ = some (.bool e2) := by rw [← hW]; simp [go_sem]
  have x5 : W.cell? ⟨w.heap.size, 5, none⟩ = some (.int .u64 c) := by rw [← hW]; simp [go_sem]
  have x6 : W.cell? ⟨w.heap.size, 6, none⟩ = some (.int .u64 d) := by rw [← hW]; simp [go_sem]
  have n0 : W.cell? ⟨w.heap.size + 1, 0, none⟩ = some (.int .u64 x) := by rw [← hW]; simp [go_sem]
  have n1 : W.cell? ⟨w.heap.size + 1, 1, none⟩ = some (.int .u64 y) := by rw [← hW]; simp [go_sem]
  have bW : Below w.heap.size w W := by rw [← hW]; exact (sp_new (sp_new (Below.refl _ _) _) _)
  have zW : W.heap.size = w.heap.size + 2 := by rw [← hW]; simp
  rw [hW]
  clear hW
  go_upto_region 2 with (first
    | (go_at_call 15; refine (kf _).mono ?_; rintro e v0 ⟨rfl, g⟩; replace bW := sp_call bW g; replace x0 := sp_cell_on g x0; replace x1 := sp_cell_on g x1; replace x2 := sp_cell_on g x2; replace x3 := sp_cell_on g x3; replace x4 := sp_cell_on g x4; replace x5 := sp_cell_on g x5; replace x6 := sp_cell_on g x6; replace n0 := sp_cell_on g n0; replace n1 := sp_cell_on g n1; clear g)
    | fail)
  have hall : ∀ X, Below v0.heap.size v0 X → X.cell? ⟨w.heap.size + 1, 0, none⟩ = some (.int .u64 x) ∧ X.cell? ⟨w.heap.size + 1, 1, none⟩ = some (.int .u64 y) := fun X cc => ⟨sp_cell_on cc n0, sp_cell_on cc n1⟩
  have cc : Below v0.heap.size v0 v0 := Below.refl _ _
  go_cut [8, 9] from 15 to 22 (fun s t X => ∃ W4 : World, W4 = X ∧ s = .int .u64 u ∧ t = .int .u64 v ∧ Below v0.heap.size v0 X)
  case first =>
   go_region_held3 (fun w' => w'.cell? ⟨w.heap.size + 1, 0, none⟩ = some (.int .u64 x) ∧ w'.cell? ⟨w.heap.size + 1, 1, none⟩ = some (.int .u64 y)) (exact hall _ (by first | exact cc | exact cc.drew))
     (first
       | (go_at_call 68; refine (p1 _).mono ?_; rintro e u1 ⟨rfl, g⟩; replace cc := sp_call (show Below v0.heap.size v0 _ by first | exact cc | exact cc.drew) g; clear g; clear p1)
       | (go_at_call 68; refine (p2 _).mono ?_; rintro e u2 ⟨rfl, g⟩; replace cc := sp_call (show Below v0.heap.size v0 _ by first | exact cc | exact cc.drew) g; clear g)
       | fail)
   all_goals go_wp2_with fail
   all_goals go_meet
   all_goals exact ⟨_, rfl, rfl, rfl, by first | exact cc | exact cc.drew⟩
  case rest =>
   obtain ⟨W4, rfl, rfl, rfl, cX⟩ := hcut
   replace bW := sp_call bW cX
   replace x0 := sp_cell_on cX x0; replace x1 := sp_cell_on cX x1; replace x2 := sp_cell_on cX x2; replace x3 := sp_cell_on cX x3; replace x4 := sp_cell_on cX x4; replace x5 := sp_cell_on cX x5; replace x6 := sp_cell_on cX x6
   clear cX hall cc n0 n1 kf p1 p2
   cases RR
   · clear main kh k1 k2
     go_wp2_with (first
       | (go_at_call 22; refine (kr _).mono ?_; rintro e v1 ⟨rfl, g⟩; replace bW := sp_call bW g; replace x0 := sp_cell_on g x0; replace x1 := sp_cell_on g x1; replace x2 := sp_cell_on g x2; replace x3 := sp_cell_on g x3; replace x4 := sp_cell_on g x4; replace x5 := sp_cell_on g x5; replace x6 := sp_cell_on g x6; clear g)
       | (go_at_call 23; refine (hl _).mono ?_; rintro e vl ⟨rfl, g⟩; replace bW := sp_call bW g; clear g)
       | fail)
     go_ret
     exact ⟨rfl, bW⟩
   by_cases ho : op < 12
   · clear main kh k1 k2
     go_wp2_with (first
       | (go_at_call 22; refine (kr _).mono ?_; rintro e v1 ⟨rfl, g⟩; replace bW := sp_call bW g; replace x0 := sp_cell_on g x0; replace x1 := sp_cell_on g x1; replace x2 := sp_cell_on g x2; replace x3 := sp_cell_on g x3; replace x4 := sp_cell_on g x4; replace x5 := sp_cell_on g x5; replace x6 := sp_cell_on g x6; clear g)
       | (go_at_call 23; refine (hl _).mono ?_; rintro e vl ⟨rfl, g⟩; replace bW := sp_call bW g; clear g)
       | fail)
     go_ret
     exact ⟨rfl, bW⟩
   by_cases hi : 17 < op
   · clear main kh k1 k2
     go_wp2_with (first
       | (go_at_call 22; refine (kr _).mono ?_; rintro e v1 ⟨rfl, g⟩; replace bW := sp_call bW g; replace x0 := sp_cell_on g x0; replace x1 := sp_cell_on g x1; replace x2 := sp_cell_on g x2; replace x3 := sp_cell_on g x3; replace x4 := sp_cell_on g x4; replace x5 := sp_cell_on g x5; replace x6 := sp_cell_on g x6; clear g)
       | (go_at_call 23; refine (hl _).mono ?_; rintro e vl ⟨rfl, g⟩; replace bW := sp_call bW g; clear g)
       | fail)
     go_ret
     exact ⟨rfl, bW⟩
   replace kh := kh (by omega) (by omega)
   cases H1
   · clear main kh k2
     go_wp2_with (first
       | (go_at_call 22; refine (kr _).mono ?_; rintro e v1 ⟨rfl, g⟩; replace bW := sp_call bW g; replace x0 := sp_cell_on g x0; replace x1 := sp_cell_on g x1; replace x2 := sp_cell_on g x2; replace x3 := sp_cell_on g x3; replace x4 := sp_cell_on g x4; replace x5 := sp_cell_on g x5; replace x6 := sp_cell_on g x6; clear g)
       | (go_at_call 25; refine (k1 _).mono ?_; rintro e v2 ⟨rfl, g⟩; replace bW := sp_call bW g; replace x0 := sp_cell_on g x0; replace x1 := sp_cell_on g x1; replace x2 := sp_cell_on g x2; replace x3 := sp_cell_on g x3; replace x4 := sp_cell_on g x4; replace x5 := sp_cell_on g x5; replace x6 := sp_cell_on g x6; clear g; clear k1)
       | (go_at_call 23; refine (hl _).mono ?_; rintro e vl ⟨rfl, g⟩; replace bW := sp_call bW g; clear g)
       | fail)
     go_ret
     exact ⟨rfl, bW⟩
   cases H2
   · clear main kh
     go_wp2_with (first
       | (go_at_call 22; refine (kr _).mono ?_; rintro e v1 ⟨rfl, g⟩; replace bW := sp_call bW g; replace x0 := sp_cell_on g x0; replace x1 := sp_cell_on g x1; replace x2 := sp_cell_on g x2; replace x3 := sp_cell_on g x3; replace x4 := sp_cell_on g x4; replace x5 := sp_cell_on g x5; replace x6 := sp_cell_on g x6; clear g)
       | (go_at_call 25; refine (k1 _).mono ?_; rintro e v2 ⟨rfl, g⟩; replace bW := sp_call bW g; replace x0 := sp_cell_on g x0; replace x1 := sp_cell_on g x1; replace x2 := sp_cell_on g x2; replace x3 := sp_cell_on g x3; replace x4 := sp_cell_on g x4; replace x5 := sp_cell_on g x5; replace x6 := sp_cell_on g x6; clear g; clear k1)
       | (go_at_call 25; refine (k2 _).mono ?_; rintro e v3 ⟨rfl, g⟩; replace bW := sp_call bW g; replace x0 := sp_cell_on g x0; replace x1 := sp_cell_on g x1; replace x2 := sp_cell_on g x2; replace x3 := sp_cell_on g x3; replace x4 := sp_cell_on g x4; replace x5 := sp_cell_on g x5; replace x6 := sp_cell_on g x6; clear g)
       | (go_at_call 23; refine (hl _).mono ?_; rintro e vl ⟨rfl, g⟩; replace bW := sp_call bW g; clear g)
       | fail)
     go_ret
     exact ⟨rfl, bW⟩
   cases HH
   · clear main
     go_wp2_with (first
       | (go_at_call 22; refine (kr _).mono ?_; rintro e v1 ⟨rfl, g⟩; replace bW := sp_call bW g; replace x0 := sp_cell_on g x0; replace x1 := sp_cell_on g x1; replace x2 := sp_cell_on g x2; replace x3 := sp_cell_on g x3; replace x4 := sp_cell_on g x4; replace x5 := sp_cell_on g x5; replace x6 := sp_cell_on g x6; clear g)
       | (go_at_call 25; refine (k1 _).mono ?_; rintro e v2 ⟨rfl, g⟩; replace bW := sp_call bW g; replace x0 := sp_cell_on g x0; replace x1 := sp_cell_on g x1; replace x2 := sp_cell_on g x2; replace x3 := sp_cell_on g x3; replace x4 := sp_cell_on g x4; replace x5 := sp_cell_on g x5; replace x6 := sp_cell_on g x6; clear g; clear k1)
       | (go_at_call 25; refine (k2 _).mono ?_; rintro e v3 ⟨rfl, g⟩; replace bW := sp_call bW g; replace x0 := sp_cell_on g x0; replace x1 := sp_cell_on g x1; replace x2 := sp_cell_on g x2; replace x3 := sp_cell_on g x3; replace x4 := sp_cell_on g x4; replace x5 := sp_cell_on g x5; replace x6 := sp_cell_on g x6; clear g)
       | (go_at_call 70; refine (kt _).mono ?_; rintro e v4 ⟨rfl, g⟩; replace bW := sp_call bW g; replace x0 := sp_cell_on g x0; replace x1 := sp_cell_on g x1; replace x2 := sp_cell_on g x2; replace x3 := sp_cell_on g x3; replace x4 := sp_cell_on g x4; replace x5 := sp_cell_on g x5; replace x6 := sp_cell_on g x6; clear g)
       | (go_at_call 72; refine (kh _).mono ?_; rintro e v6 ⟨rfl, g⟩; replace bW := sp_call bW g; replace x0 := sp_cell_on g x0; replace x1 := sp_cell_on g x1; replace x2 := sp_cell_on g x2; replace x3 := sp_cell_on g x3; replace x4 := sp_cell_on g x4; replace x5 := sp_cell_on g x5; replace x6 := sp_cell_on g x6; clear g)
       | (go_at_call 23; refine (hl _).mono ?_; rintro e vl ⟨rfl, g⟩; replace bW := sp_call bW g; clear g)
       | fail)
     go_ret
     exact ⟨rfl, bW⟩
   obtain ⟨pe, qe, pl, ph, ql, qh, kq, s1, s2, w1, w2⟩ := main rfl (by omega) (by omega) rfl rfl rfl
   clear main
   go_upto_region 7 with (first
     | (go_at_call 22; refine (kr _).mono ?_; rintro e v1 ⟨rfl, g⟩; replace bW := sp_call bW g; replace x0 := sp_cell_on g x0; replace x1 := sp_cell_on g x1; replace x2 := sp_cell_on g x2; replace x3 := sp_cell_on g x3; replace x4 := sp_cell_on g x4; replace x5 := sp_cell_on g x5; replace x6 := sp_cell_on g x6; clear g)
     | (go_at_call 25; refine (k1 _).mono ?_; rintro e v2 ⟨rfl, g⟩; replace bW := sp_call bW g; replace x0 := sp_cell_on g x0; replace x1 := sp_cell_on g x1; replace x2 := sp_cell_on g x2; replace x3 := sp_cell_on g x3; replace x4 := sp_cell_on g x4; replace x5 := sp_cell_on g x5; replace x6 := sp_cell_on g x6; clear g; clear k1)
     | (go_at_call 25; refine (k2 _).mono ?_; rintro e v3 ⟨rfl, g⟩; replace bW := sp_call bW g; replace x0 := sp_cell_on g x0; replace x1 := sp_cell_on g x1; replace x2 := sp_cell_on g x2; replace x3 := sp_cell_on g x3; replace x4 := sp_cell_on g x4; replace x5 := sp_cell_on g x5; replace x6 := sp_cell_on g x6; clear g)
     | (go_at_call 70; refine (kt _).mono ?_; rintro e v4 ⟨rfl, g⟩; replace bW := sp_call bW g; replace x0 := sp_cell_on g x0; replace x1 := sp_cell_on g x1; replace x2 := sp_cell_on g x2; replace x3 := sp_cell_on g x3; replace x4 := sp_cell_on g x4; replace x5 := sp_cell_on g x5; replace x6 := sp_cell_on g x6; clear g)
     | (go_at_call 72; refine (kh _).mono ?_; rintro e v6 ⟨rfl, g⟩; replace bW := sp_call bW g; replace x0 := sp_cell_on g x0; replace x1 := sp_cell_on g x1; replace x2 := sp_cell_on g x2; replace x3 := sp_cell_on g x3; replace x4 := sp_cell_on g x4; replace x5 := sp_cell_on g x5; replace x6 := sp_cell_on g x6; clear g)
     | fail)
   have cc : Below v6.heap.size v6 v6 := Below.refl _ _
   go_cut [10, 11] from 63 to 72 (fun s u X => ∃ (W5 : World) (b10 b11 : Nat), W5 = X ∧ s = .pointer (some ⟨b10, 0, none⟩) ∧ u = .pointer (some ⟨b11, 0, none⟩) ∧ X.cell? ⟨b10, 0, none⟩ = some (.bool pe) ∧ X.cell? ⟨b10, 1, none⟩ = some (.int .u64 pl) ∧ X.cell? ⟨b10, 2, none⟩ = some (.int .u64 ph) ∧ X.cell? ⟨b11, 0, none⟩ = some (.bool qe) ∧ X.cell? ⟨b11, 1, none⟩ = some (.int .u64 ql) ∧ X.cell? ⟨b11, 2, none⟩ = some (.int .u64 qh) ∧ Below v6.heap.size v6 X)
   case first =>
    go_wp2_with (first
      | (go_at_call 38; refine (kq _).mono ?_; rintro e u3 ⟨rfl, g⟩; replace cc := sp_call cc g; clear g)
      | fail)
    go_meet
    have zg := cc.size
    exact ⟨_, _, _, rfl, rfl, rfl, by simp [go_sem], by simp [go_sem], by simp [go_sem], by simp [go_sem], by simp [go_sem], by simp [go_sem], by (repeat (first | exact Below.refl _ _ | assumption | with_reducible refine sp_new ?_ _ | with_reducible refine sp_set1f ?_ (by omega) _))⟩
   case rest =>
    obtain ⟨W5, b10, b11, rfl, rfl, rfl, y0, y1, y2, z0, z1, z2, cX⟩ := hcut
    replace x0 := sp_cell_on cX x0; replace x1 := sp_cell_on cX x1; replace x2 := sp_cell_on cX x2; replace x3 := sp_cell_on cX x3; replace x4 := sp_cell_on cX x4; replace x5 := sp_cell_on cX x5; replace x6 := sp_cell_on cX x6
    replace bW := sp_call bW cX
    clear cX cc
    go_wp2_with (first
      | (go_at_call 23; refine (hl _).mono ?_; rintro e vl ⟨rfl, g⟩; replace bW := sp_call bW g; replace x0 := sp_cell_on g x0; replace x1 := sp_cell_on g x1; replace x2 := sp_cell_on g x2; replace x3 := sp_cell_on g x3; replace x4 := sp_cell_on g x4; replace x5 := sp_cell_on g x5; replace x6 := sp_cell_on g x6; replace y0 := sp_cell_on g y0; replace y1 := sp_cell_on g y1; replace y2 := sp_cell_on g y2; replace z0 := sp_cell_on g z0; replace z1 := sp_cell_on g z1; replace z2 := sp_cell_on g z2; clear g)
      | (go_at_call 24; refine (s1 _).mono ?_; rintro e q1 ⟨rfl, g⟩; replace bW := sp_call bW g; replace x0 := sp_cell_on g x0; replace x1 := sp_cell_on g x1; replace x2 := sp_cell_on g x2; replace x3 := sp_cell_on g x3; replace x4 := sp_cell_on g x4; replace x5 := sp_cell_on g x5; replace x6 := sp_cell_on g x6; replace y0 := sp_cell_on g y0; replace y1 := sp_cell_on g y1; replace y2 := sp_cell_on g y2; replace z0 := sp_cell_on g z0; replace z1 := sp_cell_on g z1; replace z2 := sp_cell_on g z2; clear g; clear s1)
      | (go_at_call 24; refine (s2 _).mono ?_; rintro e q2 ⟨rfl, g⟩; replace bW := sp_call bW g; replace x0 := sp_cell_on g x0; replace x1 := sp_cell_on g x1; replace x2 := sp_cell_on g x2; replace x3 := sp_cell_on g x3; replace x4 := sp_cell_on g x4; replace x5 := sp_cell_on g x5; replace x6 := sp_cell_on g x6; replace y0 := sp_cell_on g y0; replace y1 := sp_cell_on g y1; replace y2 := sp_cell_on g y2; replace z0 := sp_cell_on g z0; replace z1 := sp_cell_on g z1; replace z2 := sp_cell_on g z2; clear g)
      | (go_at_call 30; refine (w1 _).mono ?_; rintro e q3 ⟨rfl, g⟩; replace bW := sp_call bW g; replace x0 := sp_cell_on g x0; replace x1 := sp_cell_on g x1; replace x2 := sp_cell_on g x2; replace x3 := sp_cell_on g x3; replace x4 := sp_cell_on g x4; replace x5 := sp_cell_on g x5; replace x6 := sp_cell_on g x6; replace y0 := sp_cell_on g y0; replace y1 := sp_cell_on g y1; replace y2 := sp_cell_on g y2; replace z0 := sp_cell_on g z0; replace z1 := sp_cell_on g z1; replace z2 := sp_cell_on g z2; clear g; clear w1)
      | (go_at_call 30; refine (w2 _).mono ?_; rintro e q4 ⟨rfl, g⟩; replace bW := sp_call bW g; replace x0 := sp_cell_on g x0; replace x1 := sp_cell_on g x1; replace x2 := sp_cell_on g x2; replace x3 := sp_cell_on g x3; replace x4 := sp_cell_on g x4; replace x5 := sp_cell_on g x5; replace x6 := sp_cell_on g x6; replace y0 := sp_cell_on g y0; replace y1 := sp_cell_on g y1; replace y2 := sp_cell_on g y2; replace z0 := sp_cell_on g z0; replace z1 := sp_cell_on g z1; replace z2 := sp_cell_on g z2; clear g)
      | fail)
    go_ret
    exact ⟨rfl, bW⟩
end Go.Proofs.YtdehcmajhdhcaaaGreat

