/- Texts of the proof, put together. -/
import Derived.Test.YtdehcmajhdhcaaaGreatYSpFl
import Derived.Deep.DeepCutAuto
import Derived.Test.YtdehcmajhdhcaaaGreatYG5
import Derived.Test.YtdehcmajhdhcaaaGreatYG2
import Derived.Test.YtdehcmajhdhcaaaGreatYSpCf
import Derived.Test.YtdehcmajhdhcaaaGreatYSpFr
import Derived.Test.YtdehcmajhdhcaaaGreatYG3
import Derived.Deep.QuietTactic
import Derived.Test.YtdehcmajhdhcaaaGreatYG8
import Derived.Test.YtdehcmajhdhcaaaGreatYSpLv
namespace Go.Proofs.YtdehcmajhdhcaaaGreat
open Go.RowKit
set_option linter.unusedVariables false
set_option linter.unusedSimpArgs false
def KK8 (F : Nat) (args : Array Value) (r : Value) : Prop := ∀ V, Calls Tryz.prog F args V fun e w' => e = .returned r ∧ Below V.heap.size V w'
def KeOk (op f : Int) (e1 : Bool) (a b : Int) (e2 : Bool) (c d u v : Int) : Prop := ∃ (pe qe : Bool) (pl ph ql qh : Int), KK8 38 #[.int .i64 f, .int .i64 op, .agg #[.bool e1, .int .u64 a, .int .u64 b], .agg #[.bool e2, .int .u64 c, .int .u64 d]] (.tuple #[.agg #[.bool pe, .int .u64 pl, .int .u64 ph], .agg #[.bool qe, .int .u64 ql, .int .u64 qh]]) ∧ KK8 24 #[.int .i64 f, .agg #[.bool pe, .int .u64 pl, .int .u64 ph], .int .u64 u] (.bool true) ∧ KK8 24 #[.int .i64 f, .agg #[.bool qe, .int .u64 ql, .int .u64 qh], .int .u64 v] (.bool true) ∧ KK8 30 #[.int .i64 f, .agg #[.bool pe, .int .u64 pl, .int .u64 ph], .agg #[.bool e1, .int .u64 a, .int .u64 b]] (.bool true) ∧ KK8 30 #[.int .i64 f, .agg #[.bool qe, .int .u64 ql, .int .u64 qh], .agg #[.bool e2, .int .u64 c, .int .u64 d]] (.bool true)
set_option maxRecDepth 100000 in
set_option maxHeartbeats 6400000 in
theorem ke_all (op p f : Int) (e1 : Bool) (a b : Int) (e2 : Bool) (c d x y u v t : Int) (RR H1 H2 HH : Bool) (kf : KK8 15 #[.int .i64 p] (.int .i64 f)) (p1 : KK8 68 #[.int .i64 f, .int .u64 x] (.int .u64 u)) (p2 : KK8 68 #[.int .i64 f, .int .u64 y] (.int .u64 v)) (kr : KK8 22 #[.agg #[.int .i64 p, .bool e1, .int .u64 a, .int .u64 b, .bool e2, .int .u64 c, .int .u64 d]] (.bool RR)) (k1 : KK8 25 #[.int .i64 f, .agg #[.bool e1, .int .u64 a, .int .u64 b], .int .u64 u] (.bool H1)) (k2 : KK8 25 #[.int .i64 f, .agg #[.bool e2, .int .u64 c, .int .u64 d], .int .u64 v] (.bool H2)) (kt : KK8 70 #[.int .i64 f] (.int .i64 t)) (kh : 12 ≤ op → op ≤ 17 → KK8 72 #[.int .i64 op, .agg #[.int .i64 t, .int .i64 0, .int .u64 u], .agg #[.int .i64 t, .int .i64 0, .int .u64 v]] (.bool HH)) (hl : KK8 23 #[] (.bool true)) (main : RR = true → 12 ≤ op → op ≤ 17 → H1 = true → H2 = true → HH = true → KeOk op f e1 a b e2 c d u v) (w : World) :
    Calls Tryz.prog 10 #[.int .i64 op, .agg #[.int .i64 p, .bool e1, .int .u64 a, .int .u64 b, .bool e2, .int .u64 c, .int .u64 d], .agg #[.int .u64 x, .int .u64 y]] w fun e w' => e = .returned (.bool true) ∧ Below w.heap.size w w' := by
  go_enter Tryz.func10, Tryz.ntmps10
  go_upto_region 1 with fail
  obtain ⟨W, hW⟩ : ∃ W, ((w.alloc (.cells #[.int .i64 p, .bool e1, .int .u64 a, .int .u64 b, .bool e2, .int .u64 c, .int .u64 d] 27)).alloc (.cells #[.int .u64 x, .int .u64 y] 67)) = W := ⟨_, rfl⟩
  have x0 : W.cell? ⟨w.heap.size, 0, none⟩ = some (.int .i64 p) := by rw [← hW]; simp [go_sem]
  have x1 : W.cell? ⟨w.heap.size, 1, none⟩ = some (.bool e1) := by rw [← hW]; simp [go_sem]
  have x2 : W.cell? ⟨w.heap.size, 2, none⟩ = some (.int .u64 a) := by rw [← hW]; simp [go_sem]
  have x3 : W.cell? ⟨w.heap.size, 3, none⟩ = some (.int .u64 b) := by rw [← hW]; simp [go_sem]
  have x4 : W.cell? ⟨w.heap.size, 4, none⟩ = some (.bool e2) := by rw [← hW]; simp [go_sem]
  have x5 : W.cell? ⟨w.heap.size, 5, none⟩ = some (.int .u64 c) := by rw [← hW]; simp [go_sem]
  have x6 : W.cell? ⟨w.heap.size, 6, none⟩ = some (.int .u64 d) := by rw [← hW]; simp [go_sem]
  have n0 : W.cell? ⟨w.heap.size + 1, 0, none⟩ = some (.int .u64 x) := by rw [← hW]; simp [go_sem]
  have n1 : W.cell? ⟨w.heap.size + 1, 1, none⟩ = some (.int .u64 y) := by rw [← hW]; simp [go_sem]
  have bW : Below w.heap.size w W := by rw [← hW]; exact (sp_new (sp_new (Below.refl _ _) _) _)
  have zW : W.heap.size = w.heap.size + 2 := by rw [← hW]; simp
  rw [hW]
  clear hW
  go_upto_region 2 with (first
    | (go_at_call 15; refine (kf _).mono ?_; rintro e v0 ⟨rfl, g⟩; replace bW := sp_call bW g; replace x0 := sO g x0; replace x1 := sO g x1; replace x2 := sO g x2; replace x3 := sO g x3; replace x4 := sO g x4; replace x5 := sO g x5; replace x6 := sO g x6; replace n0 := sO g n0; replace n1 := sO g n1; clear g)
    | fail)
  have hall : ∀ X, Below v0.heap.size v0 X → X.cell? ⟨w.heap.size + 1, 0, none⟩ = some (.int .u64 x) ∧ X.cell? ⟨w.heap.size + 1, 1, none⟩ = some (.int .u64 y) := fun X cc => ⟨sO cc n0, sO cc n1⟩
  have cc : Below v0.heap.size v0 v0 := Below.refl _ _
  go_cut [8, 9] from 15 to 22 (fun s t X => ∃ W4 : World, W4 = X ∧ s = .int .u64 u ∧ t = .int .u64 v ∧ Below v0.heap.size v0 X)
  case first =>
   go_region_held3 (fun w' => w'.cell? ⟨w.heap.size + 1, 0, none⟩ = some (.int .u64 x) ∧ w'.cell? ⟨w.heap.size + 1, 1, none⟩ = some (.int .u64 y)) (exact hall _ (by first | exact cc | exact cc.drew))
     (first
       | (go_at_call 68; refine (p1 _).mono ?_; rintro e u1 ⟨rfl, g⟩; replace cc := sp_call (show Below v0.heap.size v0 _ by first | exact cc | exact cc.drew) g; clear g; clear p1)
       | (go_at_call 68; refine (p2 _).mono ?_; rintro e u2 ⟨rfl, g⟩; replace cc := sp_call (show Below v0.heap.size v0 _ by first | exact cc | exact cc.drew) g; clear g)
       | fail)
   all_goals go_wp2_with fail
   all_goals go_meet
   all_goals exact ⟨_, rfl, rfl, rfl, by first | exact cc | exact cc.drew⟩
  case rest =>
   obtain ⟨W4, rfl, rfl, rfl, cX⟩ := hcut
   replace bW := sp_call bW cX
   replace x0 := sO cX x0; replace x1 := sO cX x1; replace x2 := sO cX x2; replace x3 := sO cX x3; replace x4 := sO cX x4; replace x5 := sO cX x5; replace x6 := sO cX x6
   clear cX hall cc n0 n1 kf p1 p2
   cases RR
   · clear main kh k1 k2
     go_wp2_with (first
       | (go_at_call 22; refine (kr _).mono ?_; rintro e v1 ⟨rfl, g⟩; replace bW := sp_call bW g; replace x0 := sO g x0; replace x1 := sO g x1; replace x2 := sO g x2; replace x3 := sO g x3; replace x4 := sO g x4; replace x5 := sO g x5; replace x6 := sO g x6; clear g)
       | (go_at_call 23; refine (hl _).mono ?_; rintro e vl ⟨rfl, g⟩; replace bW := sp_call bW g; clear g)
       | fail)
     go_ret
     exact ⟨rfl, bW⟩
   by_cases ho : op < 12
   · clear main kh k1 k2
     go_wp2_with (first
       | (go_at_call 22; refine (kr _).mono ?_; rintro e v1 ⟨rfl, g⟩; replace bW := sp_call bW g; replace x0 := sO g x0; replace x1 := sO g x1; replace x2 := sO g x2; replace x3 := sO g x3; replace x4 := sO g x4; replace x5 := sO g x5; replace x6 := sO g x6; clear g)
       | (go_at_call 23; refine (hl _).mono ?_; rintro e vl ⟨rfl, g⟩; replace bW := sp_call bW g; clear g)
       | fail)
     go_ret
     exact ⟨rfl, bW⟩
   by_cases hi : 17 < op
   · clear main kh k1 k2
     go_wp2_with (first
       | (go_at_call 22; refine (kr _).mono ?_; rintro e v1 ⟨rfl, g⟩; replace bW := sp_call bW g; replace x0 := sO g x0; replace x1 := sO g x1; replace x2 := sO g x2; replace x3 := sO g x3; replace x4 := sO g x4; replace x5 := sO g x5; replace x6 := sO g x6; clear g)
       | (go_at_call 23; refine (hl _).mono ?_; rintro e vl ⟨rfl, g⟩; replace bW := sp_call bW g; clear g)
       | fail)
     go_ret
     exact ⟨rfl, bW⟩
   replace kh := kh (by omega) (by omega)
   cases H1
   · clear main kh k2
     go_wp2_with (first
       | (go_at_call 22; refine (kr _).mono ?_; rintro e v1 ⟨rfl, g⟩; replace bW := sp_call bW g; replace x0 := sO g x0; replace x1 := sO g x1; replace x2 := sO g x2; replace x3 := sO g x3; replace x4 := sO g x4; replace x5 := sO g x5; replace x6 := sO g x6; clear g)
       | (go_at_call 25; refine (k1 _).mono ?_; rintro e v2 ⟨rfl, g⟩; replace bW := sp_call bW g; replace x0 := sO g x0; replace x1 := sO g x1; replace x2 := sO g x2; replace x3 := sO g x3; replace x4 := sO g x4; replace x5 := sO g x5; replace x6 := sO g x6; clear g; clear k1)
       | (go_at_call 23; refine (hl _).mono ?_; rintro e vl ⟨rfl, g⟩; replace bW := sp_call bW g; clear g)
       | fail)
     go_ret
     exact ⟨rfl, bW⟩
   cases H2
   · clear main kh
     go_wp2_with (first
       | (go_at_call 22; refine (kr _).mono ?_; rintro e v1 ⟨rfl, g⟩; replace bW := sp_call bW g; replace x0 := sO g x0; replace x1 := sO g x1; replace x2 := sO g x2; replace x3 := sO g x3; replace x4 := sO g x4; replace x5 := sO g x5; replace x6 := sO g x6; clear g)
       | (go_at_call 25; refine (k1 _).mono ?_; rintro e v2 ⟨rfl, g⟩; replace bW := sp_call bW g; replace x0 := sO g x0; replace x1 := sO g x1; replace x2 := sO g x2; replace x3 := sO g x3; replace x4 := sO g x4; replace x5 := sO g x5; replace x6 := sO g x6; clear g; clear k1)
       | (go_at_call 25; refine (k2 _).mono ?_; rintro e v3 ⟨rfl, g⟩; replace bW := sp_call bW g; replace x0 := sO g x0; replace x1 := sO g x1; replace x2 := sO g x2; replace x3 := sO g x3; replace x4 := sO g x4; replace x5 := sO g x5; replace x6 := sO g x6; clear g)
       | (go_at_call 23; refine (hl _).mono ?_; rintro e vl ⟨rfl, g⟩; replace bW := sp_call bW g; clear g)
       | fail)
     go_ret
     exact ⟨rfl, bW⟩
   cases HH
   · clear main
     go_wp2_with (first
       | (go_at_call 22; refine (kr _).mono ?_; rintro e v1 ⟨rfl, g⟩; replace bW := sp_call bW g; replace x0 := sO g x0; replace x1 := sO g x1; replace x2 := sO g x2; replace x3 := sO g x3; replace x4 := sO g x4; replace x5 := sO g x5; replace x6 := sO g x6; clear g)
       | (go_at_call 25; refine (k1 _).mono ?_; rintro e v2 ⟨rfl, g⟩; replace bW := sp_call bW g; replace x0 := sO g x0; replace x1 := sO g x1; replace x2 := sO g x2; replace x3 := sO g x3; replace x4 := sO g x4; replace x5 := sO g x5; replace x6 := sO g x6; clear g; clear k1)
       | (go_at_call 25; refine (k2 _).mono ?_; rintro e v3 ⟨rfl, g⟩; replace bW := sp_call bW g; replace x0 := sO g x0; replace x1 := sO g x1; replace x2 := sO g x2; replace x3 := sO g x3; replace x4 := sO g x4; replace x5 := sO g x5; replace x6 := sO g x6; clear g)
       | (go_at_call 70; refine (kt _).mono ?_; rintro e v4 ⟨rfl, g⟩; replace bW := sp_call bW g; replace x0 := sO g x0; replace x1 := sO g x1; replace x2 := sO g x2; replace x3 := sO g x3; replace x4 := sO g x4; replace x5 := sO g x5; replace x6 := sO g x6; clear g)
       | (go_at_call 72; refine (kh _).mono ?_; rintro e v6 ⟨rfl, g⟩; replace bW := sp_call bW g; replace x0 := sO g x0; replace x1 := sO g x1; replace x2 := sO g x2; replace x3 := sO g x3; replace x4 := sO g x4; replace x5 := sO g x5; replace x6 := sO g x6; clear g)
       | (go_at_call 23; refine (hl _).mono ?_; rintro e vl ⟨rfl, g⟩; replace bW := sp_call bW g; clear g)
       | fail)
     go_ret
     exact ⟨rfl, bW⟩
   obtain ⟨pe, qe, pl, ph, ql, qh, kq, s1, s2, w1, w2⟩ := main rfl (by omega) (by omega) rfl rfl rfl
   clear main
   go_upto_region 7 with (first
     | (go_at_call 22; refine (kr _).mono ?_; rintro e v1 ⟨rfl, g⟩; replace bW := sp_call bW g; replace x0 := sO g x0; replace x1 := sO g x1; replace x2 := sO g x2; replace x3 := sO g x3; replace x4 := sO g x4; replace x5 := sO g x5; replace x6 := sO g x6; clear g)
     | (go_at_call 25; refine (k1 _).mono ?_; rintro e v2 ⟨rfl, g⟩; replace bW := sp_call bW g; replace x0 := sO g x0; replace x1 := sO g x1; replace x2 := sO g x2; replace x3 := sO g x3; replace x4 := sO g x4; replace x5 := sO g x5; replace x6 := sO g x6; clear g; clear k1)
     | (go_at_call 25; refine (k2 _).mono ?_; rintro e v3 ⟨rfl, g⟩; replace bW := sp_call bW g; replace x0 := sO g x0; replace x1 := sO g x1; replace x2 := sO g x2; replace x3 := sO g x3; replace x4 := sO g x4; replace x5 := sO g x5; replace x6 := sO g x6; clear g)
     | (go_at_call 70; refine (kt _).mono ?_; rintro e v4 ⟨rfl, g⟩; replace bW := sp_call bW g; replace x0 := sO g x0; replace x1 := sO g x1; replace x2 := sO g x2; replace x3 := sO g x3; replace x4 := sO g x4; replace x5 := sO g x5; replace x6 := sO g x6; clear g)
     | (go_at_call 72; refine (kh _).mono ?_; rintro e v6 ⟨rfl, g⟩; replace bW := sp_call bW g; replace x0 := sO g x0; replace x1 := sO g x1; replace x2 := sO g x2; replace x3 := sO g x3; replace x4 := sO g x4; replace x5 := sO g x5; replace x6 := sO g x6; clear g)
     | fail)
   have cc : Below v6.heap.size v6 v6 := Below.refl _ _
   go_cut [10, 11] from 63 to 72 (fun s u X => ∃ (W5 : World) (b10 b11 : Nat), W5 = X ∧ s = .pointer (some ⟨b10, 0, none⟩) ∧ u = .pointer (some ⟨b11, 0, none⟩) ∧ X.cell? ⟨b10, 0, none⟩ = some (.bool pe) ∧ X.cell? ⟨b10, 1, none⟩ = some (.int .u64 pl) ∧ X.cell? ⟨b10, 2, none⟩ = some (.int .u64 ph) ∧ X.cell? ⟨b11, 0, none⟩ = some (.bool qe) ∧ X.cell? ⟨b11, 1, none⟩ = some (.int .u64 ql) ∧ X.cell? ⟨b11, 2, none⟩ = some (.int .u64 qh) ∧ Below v6.heap.size v6 X)
   case first =>
    go_wp2_with (first
      | (go_at_call 38; refine (kq _).mono ?_; rintro e u3 ⟨rfl, g⟩; replace cc := sp_call cc g; clear g)
      | fail)
    go_meet
    have zg := cc.size
    exact ⟨_, _, _, rfl, rfl, rfl, by simp [go_sem], by simp [go_sem], by simp [go_sem], by simp [go_sem], by simp [go_sem], by simp [go_sem], by (repeat (first | exact Below.refl _ _ | assumption | with_reducible refine sp_new ?_ _ | with_reducible refine sp_set1f ?_ (by omega) _))⟩
   case rest =>
    obtain ⟨W5, b10, b11, rfl, rfl, rfl, y0, y1, y2, z0, z1, z2, cX⟩ := hcut
    replace x0 := sO cX x0; replace x1 := sO cX x1; replace x2 := sO cX x2; replace x3 := sO cX x3; replace x4 := sO cX x4; replace x5 := sO cX x5; replace x6 := sO cX x6
    replace bW := sp_call bW cX
    clear cX cc
    go_wp2_with (first
      | (go_at_call 23; refine (hl _).mono ?_; rintro e vl ⟨rfl, g⟩; replace bW := sp_call bW g; replace x0 := sO g x0; replace x1 := sO g x1; replace x2 := sO g x2; replace x3 := sO g x3; replace x4 := sO g x4; replace x5 := sO g x5; replace x6 := sO g x6; replace y0 := sO g y0; replace y1 := sO g y1; replace y2 := sO g y2; replace z0 := sO g z0; replace z1 := sO g z1; replace z2 := sO g z2; clear g)
      | (go_at_call 24; refine (s1 _).mono ?_; rintro e q1 ⟨rfl, g⟩; replace bW := sp_call bW g; replace x0 := sO g x0; replace x1 := sO g x1; replace x2 := sO g x2; replace x3 := sO g x3; replace x4 := sO g x4; replace x5 := sO g x5; replace x6 := sO g x6; replace y0 := sO g y0; replace y1 := sO g y1; replace y2 := sO g y2; replace z0 := sO g z0; replace z1 := sO g z1; replace z2 := sO g z2; clear g; clear s1)
      | (go_at_call 24; refine (s2 _).mono ?_; rintro e q2 ⟨rfl, g⟩; replace bW := sp_call bW g; replace x0 := sO g x0; replace x1 := sO g x1; replace x2 := sO g x2; replace x3 := sO g x3; replace x4 := sO g x4; replace x5 := sO g x5; replace x6 := sO g x6; replace y0 := sO g y0; replace y1 := sO g y1; replace y2 := sO g y2; replace z0 := sO g z0; replace z1 := sO g z1; replace z2 := sO g z2; clear g)
      | (go_at_call 30; refine (w1 _).mono ?_; rintro e q3 ⟨rfl, g⟩; replace bW := sp_call bW g; replace x0 := sO g x0; replace x1 := sO g x1; replace x2 := sO g x2; replace x3 := sO g x3; replace x4 := sO g x4; replace x5 := sO g x5; replace x6 := sO g x6; replace y0 := sO g y0; replace y1 := sO g y1; replace y2 := sO g y2; replace z0 := sO g z0; replace z1 := sO g z1; replace z2 := sO g z2; clear g; clear w1)
      | (go_at_call 30; refine (w2 _).mono ?_; rintro e q4 ⟨rfl, g⟩; replace bW := sp_call bW g; replace x0 := sO g x0; replace x1 := sO g x1; replace x2 := sO g x2; replace x3 := sO g x3; replace x4 := sO g x4; replace x5 := sO g x5; replace x6 := sO g x6; replace y0 := sO g y0; replace y1 := sO g y1; replace y2 := sO g y2; replace z0 := sO g z0; replace z1 := sO g z1; replace z2 := sO g z2; clear g)
      | fail)
    go_ret
    exact ⟨rfl, bW⟩
end Go.Proofs.YtdehcmajhdhcaaaGreat


namespace Go.Proofs.YtdehcmajhdhcaaaGreat
open Go.RowKit
set_option linter.unusedVariables false
set_option linter.unusedSimpArgs false
def holdB (op n : Int) : Bool := if op = 12 then decide (n < 0) else if op = 13 then decide (n ≤ 0) else if op = 14 then decide (0 < n) else if op = 15 then decide (0 ≤ n) else if op = 16 then decide (n = 0) else decide (¬ n = 0)
set_option maxRecDepth 100000 in
set_option maxHeartbeats 6400000 in
theorem rholds_any (s : Bool) (op a b : Int) (h12 : 12 ≤ op) (h17 : op ≤ 17) (h1 : Word a) (h2 : Word b) (w : World) : Calls Tryz.prog 72 #[.int .i64 op, .agg #[.int .i64 (tOf s), .int .i64 0, .int .u64 a], .agg #[.int .i64 (tOf s), .int .i64 0, .int .u64 b]] w fun e w' => e = .returned (.bool (holdB op (cmpF s a b).1)) ∧ Below w.heap.size w w' := by
  have hc := rcompare_any s a b h1 h2
  have hf := rfmt s
  have ht : (tOf s != 1) = true := by cases s <;> rfl
  generalize cmpF s a b = c at *
  generalize fb s = f at *
  generalize tOf s = t at *
  obtain ⟨n, c2⟩ := c
  dsimp only at *
  clear h1 h2
  have e12 : holdB 12 n = decide (n < 0) := rfl
  have e13 : holdB 13 n = decide (n ≤ 0) := rfl
  have e14 : holdB 14 n = decide (0 < n) := rfl
  have e15 : holdB 15 n = decide (0 ≤ n) := rfl
  have e16 : holdB 16 n = decide (n = 0) := rfl
  have e17 : holdB 17 n = decide (¬ n = 0) := rfl
  rcases (show op = 12 ∨ op = 13 ∨ op = 14 ∨ op = 15 ∨ op = 16 ∨ op = 17 by omega) with rfl | rfl | rfl | rfl | rfl | rfl
  all_goals
    clear h12 h17
    first | rw [e12] | rw [e13] | rw [e14] | rw [e15] | rw [e16] | rw [e17]
    clear e12 e13 e14 e15 e16 e17
    go_enter Tryz.func72, Tryz.ntmps72
    go_wp2_with fail
    go_quiet (first | (go_at_call 136; exact Calls.quiet_of_same (hf _)) | (go_at_call 143; exact Calls.quiet_of (hc _)))
    go_wp2_with fail
    go_ret
    exact ⟨by first | (simp; done) | (simp; rfl), sp_dNr (sp_new (sp_new (Below.refl _ _) _) _) _⟩
theorem n_prevw (s : Bool) (a : Int) (h : Word a) : Word (prevF s a) := n_plainw s _ (negF_word s _ (n_nextw s _ (negF_word s a h)))
theorem refineF_any (f op : Int) (h12 : 12 ≤ op) (h17 : op ≤ 17) (e1 : Bool) (a b : Int) (e2 : Bool) (c d : Int) (ha : Word a) (hb : Word b) (hc : Word c) (hd : Word d) (oa : (WyF (f == 1)).one a = true) (ob : (WyF (f == 1)).one b = true) (oc : (WyF (f == 1)).one c = true) (od : (WyF (f == 1)).one d = true) (w : World) :
    Calls Tryz.prog 38 #[.int .i64 f, .int .i64 op, .agg #[.bool e1, .int .u64 a, .int .u64 b], .agg #[.bool e2, .int .u64 c, .int .u64 d]] w fun e w' => e = .returned (.tuple #[.agg #[.bool (refineP (WyF (f == 1)) (LF (f == 1)) op (e1, a, b) (e2, c, d)).1.1, .int .u64 (refineP (WyF (f == 1)) (LF (f == 1)) op (e1, a, b) (e2, c, d)).1.2.1, .int .u64 (refineP (WyF (f == 1)) (LF (f == 1)) op (e1, a, b) (e2, c, d)).1.2.2], .agg #[.bool (refineP (WyF (f == 1)) (LF (f == 1)) op (e1, a, b) (e2, c, d)).2.1, .int .u64 (refineP (WyF (f == 1)) (LF (f == 1)) op (e1, a, b) (e2, c, d)).2.2.1, .int .u64 (refineP (WyF (f == 1)) (LF (f == 1)) op (e1, a, b) (e2, c, d)).2.2.2]]) ∧ Below w.heap.size w w' := by
  refine frefine_of f op e1 a b e2 c d _ _ _ _ _ _ (fun L B w0 hL V ok => ?_) w
  have H := fl_acts hL
  have dl : (WyF (f == 1)).dom L.least := by rw [(fl_least hL).1]; exact word_least (f == 1)
  have dm : (WyF (f == 1)).dom L.most := by rw [(fl_least hL).2.1]; exact word_most (f == 1)
  obtain ⟨p, q, rfl, _⟩ := hL
  exact refine_f H op h12 h17 e1 e2 a b c d ha hb hc hd oa ob oc od word_0 (fun x hx => n_nextw _ x hx) (fun x hx => n_prevw _ x hx) dl dm V ok
end Go.Proofs.YtdehcmajhdhcaaaGreat


namespace Go.Proofs.YtdehcmajhdhcaaaGreat
open Go.RowKit
set_option linter.unusedVariables false
set_option linter.unusedSimpArgs false
theorem kright_any (p : Int) (s : Bool) (hs : (p == 1) = s) (e1 : Bool) (a b : Int) (e2 : Bool) (c d : Int) (ha : Word a) (hb : Word b) (hc : Word c) (hd : Word d) (w : World) :
    Calls Tryz.prog 22 #[.agg #[.int .i64 p, .bool e1, .int .u64 a, .int .u64 b, .bool e2, .int .u64 c, .int .u64 d]] w fun e w' => e = .returned (.bool (rRF s e1 a b && rRF s e2 c d)) ∧ Below w.heap.size w w' := by
  have KF : ∀ V, Calls Tryz.prog 15 #[.int .i64 p] V fun e w' => e = .returned (.int .i64 (fb s)) ∧ Below V.heap.size V w' := fun V => by
    have := format8 p V
    rw [hs] at this
    exact this.mono fun e w' h => b_eq h
  have R1 := rrightF_any s e1 a b ha hb
  have R2 := rrightF_any s e2 c d hc hd
  cases r1 : rRF s e1 a b
  · rw [r1] at R1
    exact tright_f p (fb s) e1 a b e2 c d KF R1 w
  · rw [r1] at R1
    exact tright_t p (fb s) e1 a b e2 c d _ KF R1 R2 w
theorem hold_rank {s : Bool} {op n m : Int} (n1 : -fI s < n) (n2 : n < fI s) (m1 : -fI s < m) (m2 : m < fI s) (h : holdB op (cmpF s (mk s n) (mk s m)).1 = true) : holdI op n m := by
  rw [cmp_mk (by omega) (by omega) (by omega) (by omega)] at h
  dsimp only at h
  have k : (n < m ∧ cmpI n m = -1) ∨ (m < n ∧ cmpI n m = 1) ∨ (n = m ∧ cmpI n m = 0) := by
    unfold cmpI
    split
    · left; exact ⟨by omega, rfl⟩
    · split
      · right; left; exact ⟨by omega, rfl⟩
      · right; right; exact ⟨by omega, rfl⟩
  refine ⟨?_, ?_, ?_, ?_, ?_, ?_⟩
  all_goals
    rintro rfl
    rcases k with ⟨q, e⟩ | ⟨q, e⟩ | ⟨q, e⟩ <;> rw [e] at h <;> first | omega | exact absurd h (by decide)
set_option maxRecDepth 100000 in
theorem law_keeps (op p : Int) (e1 : Bool) (a b : Int) (e2 : Bool) (c d x y : Int) (ha : Word a) (hb : Word b) (hc : Word c) (hd : Word d) (hx : Word x) (hy : Word y) (w : World) :
    Calls Tryz.prog 10 #[.int .i64 op, .agg #[.int .i64 p, .bool e1, .int .u64 a, .int .u64 b, .bool e2, .int .u64 c, .int .u64 d], .agg #[.int .u64 x, .int .u64 y]] w fun e w' => e = .returned (.bool true) ∧ Below w.heap.size w w' := by
  obtain ⟨s, hs⟩ : ∃ s, (p == 1) = s := ⟨_, rfl⟩
  have KF : ∀ V, Calls Tryz.prog 15 #[.int .i64 p] V fun e w' => e = .returned (.int .i64 (fb s)) ∧ Below V.heap.size V w' := fun V => by
    have := format8 p V
    rw [hs] at this
    exact this.mono fun e w' h => b_eq h
  have P1 := fun V => (rplain3_any s x hx V).mono fun e w' h => b_dN h
  have P2 := fun V => (rplain3_any s y hy V).mono fun e w' h => b_dN h
  have wx : Word (plainF s x) := n_plainw s x hx
  have wy : Word (plainF s y) := n_plainw s y hy
  have KT := fun V => (typeOf8 s V).mono fun e w' h => b_eq h
  refine ke_all op p (fb s) e1 a b e2 c d x y _ _ _ _ _ _ _ KF P1 P2 (kright_any p s hs e1 a b e2 c d ha hb hc hd) (rhasF_any s e1 a b (plainF s x) ha hb wx) (rhasF_any s e2 c d (plainF s y) hc hd wy) KT (fun h12 h17 V => rholds_any s op (plainF s x) (plainF s y) h12 h17 wx wy V) live_any (fun r h12 h17 q1 q2 hh => ?_) w
  have t := fI_two s
  rw [Bool.and_eq_true] at r
  obtain rfl : e1 = false := by cases e1 with | false => rfl | true => simp [hRF] at q1
  obtain rfl : e2 = false := by cases e2 with | false => rfl | true => simp [hRF] at q2
  obtain ⟨a', b', a1, ab, b2, rfl, rfl⟩ := right_mk ha hb r.1
  obtain ⟨c', d', c1, cd, d2, rfl, rfl⟩ := right_mk hc hd r.2
  obtain ⟨n, n1, n2, en, an, nb⟩ := has_mk hx a1 ab b2 q1
  obtain ⟨m, m1, m2, em, cm, md⟩ := has_mk hy c1 cd d2 q2
  rw [en, em] at hh
  obtain ⟨k1, k2⟩ := keeps (s := s) h12 h17 a1 b2 an nb c1 d2 cm md (hold_rank n1 n2 m1 m2 hh)
  have KR := refineF_any (fb s) op h12 h17 false (mk s a') (mk s b') false (mk s c') (mk s d') ha hb hc hd
  rw [fb_eq] at KR
  replace KR := KR (one_mk a1 (by omega)) (one_mk (by omega) b2) (one_mk c1 (by omega)) (one_mk (by omega) d2)
  have hk1 := has_kept a1 b2 k1
  have hk2 := has_kept c1 d2 k2
  have wk1 := within_kept a1 b2 k1
  have wk2 := within_kept c1 d2 k2
  obtain ⟨u1, u2⟩ := word_kept a1 b2 k1
  obtain ⟨v1, v2⟩ := word_kept c1 d2 k2
  generalize (refineP (WyF s) (LF s) op (false, mk s a', mk s b') (false, mk s c', mk s d')).1 = P at *
  generalize (refineP (WyF s) (LF s) op (false, mk s a', mk s b') (false, mk s c', mk s d')).2 = Q at *
  obtain ⟨pe, pl, ph⟩ := P
  obtain ⟨qe, ql, qh⟩ := Q
  dsimp only at *
  have H1 := hasF_any (fb s) pe pl ph (plainF s x) u1 u2 wx
  have H2 := hasF_any (fb s) qe ql qh (plainF s y) v1 v2 wy
  have W1 := withinF_any (fb s) pe pl ph false (mk s a') (mk s b') u1 u2 ha hb
  have W2 := withinF_any (fb s) qe ql qh false (mk s c') (mk s d') v1 v2 hc hd
  rw [fb_eq, en, hk1, ← en] at H1
  rw [fb_eq, em, hk2, ← em] at H2
  rw [fb_eq, wk1] at W1
  rw [fb_eq, wk2] at W2
  exact ⟨_, _, _, _, _, _, KR, H1, H2, W1, W2⟩
end Go.Proofs.YtdehcmajhdhcaaaGreat


