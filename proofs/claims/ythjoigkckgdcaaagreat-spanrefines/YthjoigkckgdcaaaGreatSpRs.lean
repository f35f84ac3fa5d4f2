/- SpanRefines, walked. -/
import Derived.Test.YthjoigkckgdcaaaGreatSpFl
import Derived.Deep.DeepCutAuto
namespace Go.Proofs.YthjoigkckgdcaaaGreat
open Go.RowKit
set_option linter.unusedVariables false
set_option linter.unusedSimpArgs false
/-- A call tells so, in every world. -/
def KR8 (F : Nat) (args : Array Value) (r : Value) : Prop := ∀ V, Calls Tryz.prog F args V fun e w' => e = .returned r ∧ Below V.heap.size V w'
/-- Both tell the same. -/
def RsOk (op f : Int) (e1 : Bool) (a b : Int) (e2 : Bool) (c d : Int) : Prop := ∃ (pe qe : Bool) (pl ph ql qh : Int), KR8 38 #[.int .i64 f, .int .i64 op, .agg #[.bool e1, .int .u64 a, .int .u64 b], .agg #[.bool e2, .int .u64 c, .int .u64 d]] (.tuple #[.agg #[.bool pe, .int .u64 pl, .int .u64 ph], .agg #[.bool qe, .int .u64 ql, .int .u64 qh]]) ∧ KR8 39 #[.int .i64 f, .int .i64 op, .agg #[.bool e1, .int .u64 a, .int .u64 b], .agg #[.bool e2, .int .u64 c, .int .u64 d]] (.tuple #[.agg #[.bool pe, .int .u64 pl, .int .u64 ph], .agg #[.bool qe, .int .u64 ql, .int .u64 qh]])
set_option maxRecDepth 100000 in
set_option maxHeartbeats 6400000 in
theorem rs_all (op p f : Int) (e1 : Bool) (a b : Int) (e2 : Bool) (c d : Int) (RT : Bool) (kf : KR8 15 #[.int .i64 p] (.int .i64 f)) (kr : KR8 22 #[.agg #[.int .i64 p, .bool e1, .int .u64 a, .int .u64 b, .bool e2, .int .u64 c, .int .u64 d]] (.bool RT)) (hl : KR8 23 #[] (.bool true)) (main : RT = true → RsOk op f e1 a b e2 c d) (w : World) :
    Calls Tryz.prog 5 #[.int .i64 op, .agg #[.int .i64 p, .bool e1, .int .u64 a, .int .u64 b, .bool e2, .int .u64 c, .int .u64 d]] w fun e w' => e = .returned (.bool true) ∧ Below w.heap.size w w' := by
  go_enter Tryz.func5, Tryz.ntmps5
  go_upto_region 1 with fail
  obtain ⟨W, hW⟩ : ∃ W, (w.alloc (.cells #[.int .i64 p, .bool e1, .int .u64 a, .int .u64 b, .bool e2, .int .u64 c, .int .u64 d] 27)) = W := ⟨_, rfl⟩
  have x0 : W.cell? ⟨w.heap.size, 0, none⟩ = some (.int .i64 p) := by rw [← hW]; simp [go_sem]
  have x1 : W.cell? ⟨w.heap.size, 1, none⟩ = some (.bool e1) := by rw [← hW]; simp [go_sem]
  have x2 : W.cell? ⟨w.heap.size, 2, none⟩ = some (.int .u64 a) := by rw [← hW]; simp [go_sem]
  have x3 : W.cell? ⟨w.heap.size, 3, none⟩ = some (.int .u64 b) := by rw [← hW]; simp [go_sem]
  have x4 : W.cell? ⟨w.heap.size, 4, none⟩ = some (.bool e2) := by rw [← hW]; simp [go_sem]
  have x5 : W.cell? ⟨w.heap.size, 5, none⟩ = some (.int .u64 c) := by rw [← hW]; simp [go_sem]
  have x6 : W.cell? ⟨w.heap.size, 6, none⟩ = some (.int .u64 d) := by rw [← hW]; simp [go_sem]
  have bW : Below w.heap.size w W := by rw [← hW]; exact (sp_new (Below.refl _ _) _)
  have zW : W.heap.size = w.heap.size + 1 := by rw [← hW]; simp
  rw [hW]
  clear hW
  cases RT
  · clear main
    go_wp2_with (first
      | (go_at_call 15; refine (kf _).mono ?_; rintro e v0 ⟨rfl, g⟩; replace bW := sp_call bW g; replace x0 := sp_cell_on g x0; replace x1 := sp_cell_on g x1; replace x2 := sp_cell_on g x2; replace x3 := sp_cell_on g x3; replace x4 := sp_cell_on g x4; replace x5 := sp_cell_on g x5; replace x6 := sp_cell_on g x6; clear g)
      | (go_at_call 22; refine (kr _).mono ?_; rintro e v1 ⟨rfl, g⟩; replace bW := sp_call bW g; replace x0 := sp_cell_on g x0; replace x1 := sp_cell_on g x1; replace x2 := sp_cell_on g x2; replace x3 := sp_cell_on g x3; replace x4 := sp_cell_on g x4; replace x5 := sp_cell_on g x5; replace x6 := sp_cell_on g x6; clear g)
      | (go_at_call 23; refine (hl _).mono ?_; rintro e vl ⟨rfl, g⟩; replace bW := sp_call bW g; clear g)
      | fail)
    go_ret
    exact ⟨rfl, bW⟩
  obtain ⟨pe, qe, pl, ph, ql, qh, k1, k2⟩ := main rfl
  clear main
  go_upto_region 4 with (first
    | (go_at_call 15; refine (kf _).mono ?_; rintro e v0 ⟨rfl, g⟩; replace bW := sp_call bW g; replace x0 := sp_cell_on g x0; replace x1 := sp_cell_on g x1; replace x2 := sp_cell_on g x2; replace x3 := sp_cell_on g x3; replace x4 := sp_cell_on g x4; replace x5 := sp_cell_on g x5; replace x6 := sp_cell_on g x6; clear g)
    | (go_at_call 22; refine (kr _).mono ?_; rintro e v1 ⟨rfl, g⟩; replace bW := sp_call bW g; replace x0 := sp_cell_on g x0; replace x1 := sp_cell_on g x1; replace x2 := sp_cell_on g x2; replace x3 := sp_cell_on g x3; replace x4 := sp_cell_on g x4; replace x5 := sp_cell_on g x5; replace x6 := sp_cell_on g x6; clear g)
    | fail)
  have cc : Below v1.heap.size v1 v1 := Below.refl _ _
  go_cut [6, 7] from 17 to 26 (fun s u X => ∃ (W5 : World) (b6 b7 : Nat), W5 = X ∧ s = .pointer (some ⟨b6, 0, none⟩) ∧ u = .pointer (some ⟨b7, 0, none⟩) ∧ X.cell? ⟨b6, 0, none⟩ = some (.bool pe) ∧ X.cell? ⟨b6, 1, none⟩ = some (.int .u64 pl) ∧ X.cell? ⟨b6, 2, none⟩ = some (.int .u64 ph) ∧ X.cell? ⟨b7, 0, none⟩ = some (.bool qe) ∧ X.cell? ⟨b7, 1, none⟩ = some (.int .u64 ql) ∧ X.cell? ⟨b7, 2, none⟩ = some (.int .u64 qh) ∧ Below v1.heap.size v1 X)
  case first =>
   go_wp2_with (first
     | (go_at_call 38; refine (k1 _).mono ?_; rintro e u3 ⟨rfl, g⟩; replace cc := sp_call cc g; clear g)
     | fail)
   go_meet
   have zg := cc.size
   exact ⟨_, _, _, rfl, rfl, rfl, by simp [go_sem], by simp [go_sem], by simp [go_sem], by simp [go_sem], by simp [go_sem], by simp [go_sem], by (repeat (first | exact Below.refl _ _ | assumption | with_reducible refine sp_new ?_ _ | with_reducible refine sp_set1f ?_ (by omega) _))⟩
  case rest =>
   obtain ⟨W5, b6, b7, rfl, rfl, rfl, m0, m1, m2, n0, n1, n2, cX⟩ := hcut
   replace x0 := sp_cell_on cX x0; replace x1 := sp_cell_on cX x1; replace x2 := sp_cell_on cX x2; replace x3 := sp_cell_on cX x3; replace x4 := sp_cell_on cX x4; replace x5 := sp_cell_on cX x5; replace x6 := sp_cell_on cX x6
   replace bW := sp_call bW cX
   clear cX cc
   have cc : Below W5.heap.size W5 W5 := Below.refl _ _
   go_upto_region 5 with fail
   go_cut [8, 9] from 27 to 36 (fun s u X => ∃ (W6 : World) (b8 b9 : Nat), W6 = X ∧ s = .pointer (some ⟨b8, 0, none⟩) ∧ u = .pointer (some ⟨b9, 0, none⟩) ∧ X.cell? ⟨b8, 0, none⟩ = some (.bool pe) ∧ X.cell? ⟨b8, 1, none⟩ = some (.int .u64 pl) ∧ X.cell? ⟨b8, 2, none⟩ = some (.int .u64 ph) ∧ X.cell? ⟨b9, 0, none⟩ = some (.bool qe) ∧ X.cell? ⟨b9, 1, none⟩ = some (.int .u64 ql) ∧ X.cell? ⟨b9, 2, none⟩ = some (.int .u64 qh) ∧ Below W5.heap.size W5 X)
   case first =>
    go_wp2_with (first
      | (go_at_call 39; refine (k2 _).mono ?_; rintro e u3 ⟨rfl, g⟩; replace cc := sp_call cc g; clear g)
      | fail)
    go_meet
    have zg := cc.size
    exact ⟨_, _, _, rfl, rfl, rfl, by simp [go_sem], by simp [go_sem], by simp [go_sem], by simp [go_sem], by simp [go_sem], by simp [go_sem], by (repeat (first | exact Below.refl _ _ | assumption | with_reducible refine sp_new ?_ _ | with_reducible refine sp_set1f ?_ (by omega) _))⟩
   case rest =>
    obtain ⟨W6, b8, b9, rfl, rfl, rfl, r0, r1, r2, s0, s1, s2, cX⟩ := hcut
    replace m0 := sp_cell_on cX m0; replace m1 := sp_cell_on cX m1; replace m2 := sp_cell_on cX m2; replace n0 := sp_cell_on cX n0; replace n1 := sp_cell_on cX n1; replace n2 := sp_cell_on cX n2
    replace bW := sp_call bW cX
    clear cX cc
    have cc : Below W6.heap.size W6 W6 := Below.refl _ _
    go_wp2_with (first
      | (go_at_call 23; refine (hl _).mono ?_; rintro e vl ⟨rfl, g⟩; replace bW := sp_call bW g; replace m0 := sp_cell_on g m0; replace m1 := sp_cell_on g m1; replace m2 := sp_cell_on g m2; replace n0 := sp_cell_on g n0; replace n1 := sp_cell_on g n1; replace n2 := sp_cell_on g n2; replace r0 := sp_cell_on g r0; replace r1 := sp_cell_on g r1; replace r2 := sp_cell_on g r2; replace s0 := sp_cell_on g s0; replace s1 := sp_cell_on g s1; replace s2 := sp_cell_on g s2; clear g)
      | fail)
    go_ret
    exact ⟨by first | rfl | simp, bW⟩
end Go.Proofs.YthjoigkckgdcaaaGreat

