/- Texts of the proof, put together. -/
import Derived.Test.YtdehcmajhdhcaaaGreatSpFl
import Derived.Deep.DeepCutAuto
import Derived.Test.YtdehcmajhdhcaaaGreatSpFw
import Derived.Test.YtdehcmajhdhcaaaGreatSpHf
import Derived.Test.YtdehcmajhdhcaaaGreatSpJf
import Derived.Test.YtdehcmajhdhcaaaGreatSpQ
import Derived.Test.YtdehcmajhdhcaaaGreatZSpTnf
import Derived.Test.YtdehcmajhdhcaaaGreatZG5
import Derived.Test.YtdehcmajhdhcaaaGreatZG3
namespace Go.Proofs.YtdehcmajhdhcaaaGreat
open Go.RowKit
set_option linter.unusedVariables false
set_option linter.unusedSimpArgs false
/-- A call tells so, in every world. -/
def KM (F : Nat) (args : Array Value) (r : Value) : Prop := ∀ V, Calls Tryz.prog F args V fun e w' => e = .returned r ∧ Below V.heap.size V w'
/-- What is told of both pairs of ranges. -/
def MoOk (op f : Int) (e1 : Bool) (a b : Int) (e2 : Bool) (c d : Int) (e3 : Bool) (a3 b3 : Int) (e4 : Bool) (c4 d4 : Int) : Prop := ∃ (je ke re se : Bool) (jl jh kl kh rl rh sl sh T U : Int), KM 28 #[.int .i64 f, .agg #[.bool e1, .int .u64 a, .int .u64 b], .agg #[.bool e3, .int .u64 a3, .int .u64 b3]] (.agg #[.bool je, .int .u64 jl, .int .u64 jh]) ∧ KM 28 #[.int .i64 f, .agg #[.bool e2, .int .u64 c, .int .u64 d], .agg #[.bool e4, .int .u64 c4, .int .u64 d4]] (.agg #[.bool ke, .int .u64 kl, .int .u64 kh]) ∧ KM 34 #[.int .i64 f, .int .i64 op, .agg #[.bool e1, .int .u64 a, .int .u64 b], .agg #[.bool e2, .int .u64 c, .int .u64 d]] (.tuple #[.agg #[.bool re, .int .u64 rl, .int .u64 rh], .int .i64 T]) ∧ KM 34 #[.int .i64 f, .int .i64 op, .agg #[.bool je, .int .u64 jl, .int .u64 jh], .agg #[.bool ke, .int .u64 kl, .int .u64 kh]] (.tuple #[.agg #[.bool se, .int .u64 sl, .int .u64 sh], .int .i64 U]) ∧ KM 30 #[.int .i64 f, .agg #[.bool re, .int .u64 rl, .int .u64 rh], .agg #[.bool se, .int .u64 sl, .int .u64 sh]] (.bool true) ∧ bits BinOp.and IntKind.i64 T U = T
theorem at_set3 {W : World} {b : Nat} {t : TypeId} {z : Nat × Nat} {y0 y1 y2 : Value} (q : W.heap[b]? = some (.cells #[y0, y1, y2] t z)) (x0 x1 x2 : Value) : (((W.setCell ⟨b, 0, none⟩ x0).setCell ⟨b, 1, none⟩ x1).setCell ⟨b, 2, none⟩ x2).heap[b]? = some (.cells #[x0, x1, x2] t z) := by
  have h := (at_set (at_set (at_set q 0 x0) 1 x1) 2 x2)
  simpa using h
theorem at_far3 {W : World} {b c : Nat} {o : Obj} (q : W.heap[c]? = some o) (x0 x1 x2 : Value) (h : b ≠ c) : (((W.setCell ⟨b, 0, none⟩ x0).setCell ⟨b, 1, none⟩ x1).setCell ⟨b, 2, none⟩ x2).heap[c]? = some o := by
  rw [at_far _ _ h, at_far _ _ h, at_far _ _ h, q]
theorem at_old {W : World} {c : Nat} {o : Obj} (q : W.heap[c]? = some o) (o' : Obj) : (W.alloc o').heap[c]? = some o := (Below.heap_alloc W o' c (Array.getElem?_eq_some_iff.1 q).1).trans q
theorem at_lt {W : World} {c : Nat} {o : Obj} (q : W.heap[c]? = some o) : c < W.heap.size := (Array.getElem?_eq_some_iff.1 q).1
theorem at_cells3 {v : World} {b : Nat} {t : TypeId} {x0 x1 x2 : Value} (q : v.heap[b]? = some (.cells #[x0, x1, x2] t (0, 0))) : v.cell? ⟨b, 0, none⟩ = some x0 ∧ v.cell? ⟨b, 1, none⟩ = some x1 ∧ v.cell? ⟨b, 2, none⟩ = some x2 ∧ ∀ j, v.frozen? ⟨b, j, none⟩ = false :=
  ⟨by simp [World.cell?, q], by simp [World.cell?, q], by simp [World.cell?, q], fun j => by simp [World.frozen?, q]⟩
set_option maxRecDepth 100000 in
set_option maxHeartbeats 6400000 in
theorem mo_all (op p f p2 : Int) (e1 : Bool) (a b : Int) (e2 : Bool) (c d : Int) (e3 : Bool) (a3 b3 : Int) (e4 : Bool) (c4 d4 : Int) (RX RY : Bool) (kf : KM 15 #[.int .i64 p] (.int .i64 f)) (kx : KM 22 #[.agg #[.int .i64 p, .bool e1, .int .u64 a, .int .u64 b, .bool e2, .int .u64 c, .int .u64 d]] (.bool RX)) (ky : KM 22 #[.agg #[.int .i64 p, .bool e3, .int .u64 a3, .int .u64 b3, .bool e4, .int .u64 c4, .int .u64 d4]] (.bool RY)) (hl : KM 23 #[] (.bool true)) (main : RX = true → RY = true → 8 ≤ op → op ≤ 11 → MoOk op f e1 a b e2 c d e3 a3 b3 e4 c4 d4) (w : World) :
    Calls Tryz.prog 13 #[.int .i64 op, .agg #[.int .i64 p, .bool e1, .int .u64 a, .int .u64 b, .bool e2, .int .u64 c, .int .u64 d], .agg #[.int .i64 p2, .bool e3, .int .u64 a3, .int .u64 b3, .bool e4, .int .u64 c4, .int .u64 d4]] w fun e w' => e = .returned (.bool true) ∧ Below w.heap.size w w' := by
  go_enter Tryz.func13, Tryz.ntmps13
  go_upto_region 1 with fail
  obtain ⟨W, hW⟩ : ∃ W, ((w.alloc (.cells #[.int .i64 p, .bool e1, .int .u64 a, .int .u64 b, .bool e2, .int .u64 c, .int .u64 d] 27)).alloc (.cells #[.int .i64 p2, .bool e3, .int .u64 a3, .int .u64 b3, .bool e4, .int .u64 c4, .int .u64 d4] 27)) = W := ⟨_, rfl⟩
  have x0 : W.cell? ⟨w.heap.size, 0, none⟩ = some (.int .i64 p) := by rw [← hW]; simp [go_sem]
  have x1 : W.cell? ⟨w.heap.size, 1, none⟩ = some (.bool e1) := by rw [← hW]; simp [go_sem]
  have x2 : W.cell? ⟨w.heap.size, 2, none⟩ = some (.int .u64 a) := by rw [← hW]; simp [go_sem]
  have x3 : W.cell? ⟨w.heap.size, 3, none⟩ = some (.int .u64 b) := by rw [← hW]; simp [go_sem]
  have x4 : W.cell? ⟨w.heap.size, 4, none⟩ = some (.bool e2) := by rw [← hW]; simp [go_sem]
  have x5 : W.cell? ⟨w.heap.size, 5, none⟩ = some (.int .u64 c) := by rw [← hW]; simp [go_sem]
  have x6 : W.cell? ⟨w.heap.size, 6, none⟩ = some (.int .u64 d) := by rw [← hW]; simp [go_sem]
  have y0 : W.cell? ⟨w.heap.size + 1, 0, none⟩ = some (.int .i64 p2) := by rw [← hW]; simp [go_sem]
  have y1 : W.cell? ⟨w.heap.size + 1, 1, none⟩ = some (.bool e3) := by rw [← hW]; simp [go_sem]
  have y2 : W.cell? ⟨w.heap.size + 1, 2, none⟩ = some (.int .u64 a3) := by rw [← hW]; simp [go_sem]
  have y3 : W.cell? ⟨w.heap.size + 1, 3, none⟩ = some (.int .u64 b3) := by rw [← hW]; simp [go_sem]
  have y4 : W.cell? ⟨w.heap.size + 1, 4, none⟩ = some (.bool e4) := by rw [← hW]; simp [go_sem]
  have y5 : W.cell? ⟨w.heap.size + 1, 5, none⟩ = some (.int .u64 c4) := by rw [← hW]; simp [go_sem]
  have y6 : W.cell? ⟨w.heap.size + 1, 6, none⟩ = some (.int .u64 d4) := by rw [← hW]; simp [go_sem]
  have bW : Below w.heap.size w W := by rw [← hW]; exact (sp_new (sp_new (Below.refl _ _) _) _)
  have zW : W.heap.size = w.heap.size + 2 := by rw [← hW]; simp
  have fy : ∀ j, W.frozen? ⟨w.heap.size + 1, j, none⟩ = false := by intro j; rw [← hW]; simp [go_sem]
  rw [hW]
  clear hW
  replace zW := Nat.le_of_eq zW.symm
  go_upto_region 2 with (first
    | (go_at_call 15; refine (kf _).mono ?_; rintro e v0 ⟨rfl, g⟩; replace bW := sp_call bW g; have z0 := g.size; replace fy : ∀ j, v0.frozen? ⟨w.heap.size + 1, j, none⟩ = false := fun j => (g.frozen (p := ⟨w.heap.size + 1, j, none⟩) (by simp; omega)).trans (fy j); replace x0 := sp_cell_on g x0; replace x1 := sp_cell_on g x1; replace x2 := sp_cell_on g x2; replace x3 := sp_cell_on g x3; replace x4 := sp_cell_on g x4; replace x5 := sp_cell_on g x5; replace x6 := sp_cell_on g x6; replace y0 := sp_cell_on g y0; replace y1 := sp_cell_on g y1; replace y2 := sp_cell_on g y2; replace y3 := sp_cell_on g y3; replace y4 := sp_cell_on g y4; replace y5 := sp_cell_on g y5; replace y6 := sp_cell_on g y6; clear g)
    | fail)
  go_upto_region 3 with fail
  obtain ⟨W1, hW1⟩ : ∃ W1, v0.setCell ⟨w.heap.size + 1, 0, none⟩ (.int .i64 p) = W1 := ⟨_, rfl⟩
  replace x0 : W1.cell? ⟨w.heap.size, 0, none⟩ = some (.int .i64 p) := by rw [← hW1]; exact sp_keep1 x0 (by omega) _
  replace x1 : W1.cell? ⟨w.heap.size, 1, none⟩ = some (.bool e1) := by rw [← hW1]; exact sp_keep1 x1 (by omega) _
  replace x2 : W1.cell? ⟨w.heap.size, 2, none⟩ = some (.int .u64 a) := by rw [← hW1]; exact sp_keep1 x2 (by omega) _
  replace x3 : W1.cell? ⟨w.heap.size, 3, none⟩ = some (.int .u64 b) := by rw [← hW1]; exact sp_keep1 x3 (by omega) _
  replace x4 : W1.cell? ⟨w.heap.size, 4, none⟩ = some (.bool e2) := by rw [← hW1]; exact sp_keep1 x4 (by omega) _
  replace x5 : W1.cell? ⟨w.heap.size, 5, none⟩ = some (.int .u64 c) := by rw [← hW1]; exact sp_keep1 x5 (by omega) _
  replace x6 : W1.cell? ⟨w.heap.size, 6, none⟩ = some (.int .u64 d) := by rw [← hW1]; exact sp_keep1 x6 (by omega) _
  replace y0 : W1.cell? ⟨w.heap.size + 1, 0, none⟩ = some (.int .i64 p) := by rw [← hW1]; simp [go_sem, y0]
  replace y1 : W1.cell? ⟨w.heap.size + 1, 1, none⟩ = some (.bool e3) := by rw [← hW1]; simp [go_sem, y1]
  replace y2 : W1.cell? ⟨w.heap.size + 1, 2, none⟩ = some (.int .u64 a3) := by rw [← hW1]; simp [go_sem, y2]
  replace y3 : W1.cell? ⟨w.heap.size + 1, 3, none⟩ = some (.int .u64 b3) := by rw [← hW1]; simp [go_sem, y3]
  replace y4 : W1.cell? ⟨w.heap.size + 1, 4, none⟩ = some (.bool e4) := by rw [← hW1]; simp [go_sem, y4]
  replace y5 : W1.cell? ⟨w.heap.size + 1, 5, none⟩ = some (.int .u64 c4) := by rw [← hW1]; simp [go_sem, y5]
  replace y6 : W1.cell? ⟨w.heap.size + 1, 6, none⟩ = some (.int .u64 d4) := by rw [← hW1]; simp [go_sem, y6]
  replace bW : Below w.heap.size w W1 := by rw [← hW1]; exact sp_set1f bW (by omega) _
  rw [hW1]
  clear hW1 fy
  cases RX
  · clear main ky
    go_wp2_with (first
      | (go_at_call 22; refine (kx _).mono ?_; rintro e v1 ⟨rfl, g⟩; replace bW := sp_call bW g; replace x0 := sp_cell_on g x0; replace x1 := sp_cell_on g x1; replace x2 := sp_cell_on g x2; replace x3 := sp_cell_on g x3; replace x4 := sp_cell_on g x4; replace x5 := sp_cell_on g x5; replace x6 := sp_cell_on g x6; replace y0 := sp_cell_on g y0; replace y1 := sp_cell_on g y1; replace y2 := sp_cell_on g y2; replace y3 := sp_cell_on g y3; replace y4 := sp_cell_on g y4; replace y5 := sp_cell_on g y5; replace y6 := sp_cell_on g y6; clear g; clear kx)
      | (go_at_call 23; refine (hl _).mono ?_; rintro e vl ⟨rfl, g⟩; replace bW := sp_call bW g; clear g)
      | fail)
    go_ret
    exact ⟨rfl, bW⟩
  cases RY
  · clear main
    go_wp2_with (first
      | (go_at_call 22; refine (kx _).mono ?_; rintro e v1 ⟨rfl, g⟩; replace bW := sp_call bW g; replace x0 := sp_cell_on g x0; replace x1 := sp_cell_on g x1; replace x2 := sp_cell_on g x2; replace x3 := sp_cell_on g x3; replace x4 := sp_cell_on g x4; replace x5 := sp_cell_on g x5; replace x6 := sp_cell_on g x6; replace y0 := sp_cell_on g y0; replace y1 := sp_cell_on g y1; replace y2 := sp_cell_on g y2; replace y3 := sp_cell_on g y3; replace y4 := sp_cell_on g y4; replace y5 := sp_cell_on g y5; replace y6 := sp_cell_on g y6; clear g; clear kx)
      | (go_at_call 22; refine (ky _).mono ?_; rintro e v2 ⟨rfl, g⟩; replace bW := sp_call bW g; replace x0 := sp_cell_on g x0; replace x1 := sp_cell_on g x1; replace x2 := sp_cell_on g x2; replace x3 := sp_cell_on g x3; replace x4 := sp_cell_on g x4; replace x5 := sp_cell_on g x5; replace x6 := sp_cell_on g x6; replace y0 := sp_cell_on g y0; replace y1 := sp_cell_on g y1; replace y2 := sp_cell_on g y2; replace y3 := sp_cell_on g y3; replace y4 := sp_cell_on g y4; replace y5 := sp_cell_on g y5; replace y6 := sp_cell_on g y6; clear g)
      | (go_at_call 23; refine (hl _).mono ?_; rintro e vl ⟨rfl, g⟩; replace bW := sp_call bW g; clear g)
      | fail)
    go_ret
    exact ⟨rfl, bW⟩
  by_cases ho : op < 8
  · clear main
    go_wp2_with (first
      | (go_at_call 22; refine (kx _).mono ?_; rintro e v1 ⟨rfl, g⟩; replace bW := sp_call bW g; replace x0 := sp_cell_on g x0; replace x1 := sp_cell_on g x1; replace x2 := sp_cell_on g x2; replace x3 := sp_cell_on g x3; replace x4 := sp_cell_on g x4; replace x5 := sp_cell_on g x5; replace x6 := sp_cell_on g x6; replace y0 := sp_cell_on g y0; replace y1 := sp_cell_on g y1; replace y2 := sp_cell_on g y2; replace y3 := sp_cell_on g y3; replace y4 := sp_cell_on g y4; replace y5 := sp_cell_on g y5; replace y6 := sp_cell_on g y6; clear g; clear kx)
      | (go_at_call 22; refine (ky _).mono ?_; rintro e v2 ⟨rfl, g⟩; replace bW := sp_call bW g; replace x0 := sp_cell_on g x0; replace x1 := sp_cell_on g x1; replace x2 := sp_cell_on g x2; replace x3 := sp_cell_on g x3; replace x4 := sp_cell_on g x4; replace x5 := sp_cell_on g x5; replace x6 := sp_cell_on g x6; replace y0 := sp_cell_on g y0; replace y1 := sp_cell_on g y1; replace y2 := sp_cell_on g y2; replace y3 := sp_cell_on g y3; replace y4 := sp_cell_on g y4; replace y5 := sp_cell_on g y5; replace y6 := sp_cell_on g y6; clear g)
      | (go_at_call 23; refine (hl _).mono ?_; rintro e vl ⟨rfl, g⟩; replace bW := sp_call bW g; clear g)
      | fail)
    go_ret
    exact ⟨rfl, bW⟩
  by_cases hi : 11 < op
  · clear main
    go_wp2_with (first
      | (go_at_call 22; refine (kx _).mono ?_; rintro e v1 ⟨rfl, g⟩; replace bW := sp_call bW g; replace x0 := sp_cell_on g x0; replace x1 := sp_cell_on g x1; replace x2 := sp_cell_on g x2; replace x3 := sp_cell_on g x3; replace x4 := sp_cell_on g x4; replace x5 := sp_cell_on g x5; replace x6 := sp_cell_on g x6; replace y0 := sp_cell_on g y0; replace y1 := sp_cell_on g y1; replace y2 := sp_cell_on g y2; replace y3 := sp_cell_on g y3; replace y4 := sp_cell_on g y4; replace y5 := sp_cell_on g y5; replace y6 := sp_cell_on g y6; clear g; clear kx)
      | (go_at_call 22; refine (ky _).mono ?_; rintro e v2 ⟨rfl, g⟩; replace bW := sp_call bW g; replace x0 := sp_cell_on g x0; replace x1 := sp_cell_on g x1; replace x2 := sp_cell_on g x2; replace x3 := sp_cell_on g x3; replace x4 := sp_cell_on g x4; replace x5 := sp_cell_on g x5; replace x6 := sp_cell_on g x6; replace y0 := sp_cell_on g y0; replace y1 := sp_cell_on g y1; replace y2 := sp_cell_on g y2; replace y3 := sp_cell_on g y3; replace y4 := sp_cell_on g y4; replace y5 := sp_cell_on g y5; replace y6 := sp_cell_on g y6; clear g)
      | (go_at_call 23; refine (hl _).mono ?_; rintro e vl ⟨rfl, g⟩; replace bW := sp_call bW g; clear g)
      | fail)
    go_ret
    exact ⟨rfl, bW⟩
  obtain ⟨je, ke, re, se, jl, jh, kl, kh, rl, rh, sl, sh, T, U, j1, j2, t1, t2, kw, hb⟩ := main rfl rfl (by omega) (by omega)
  clear main
  replace hb : Hid _ := hb
  go_upto_region 5 with (first
    | (go_at_call 22; refine (kx _).mono ?_; rintro e v1 ⟨rfl, g⟩; replace bW := sp_call bW g; replace x0 := sp_cell_on g x0; replace x1 := sp_cell_on g x1; replace x2 := sp_cell_on g x2; replace x3 := sp_cell_on g x3; replace x4 := sp_cell_on g x4; replace x5 := sp_cell_on g x5; replace x6 := sp_cell_on g x6; replace y0 := sp_cell_on g y0; replace y1 := sp_cell_on g y1; replace y2 := sp_cell_on g y2; replace y3 := sp_cell_on g y3; replace y4 := sp_cell_on g y4; replace y5 := sp_cell_on g y5; replace y6 := sp_cell_on g y6; clear g; clear kx)
    | (go_at_call 22; refine (ky _).mono ?_; rintro e v2 ⟨rfl, g⟩; replace bW := sp_call bW g; replace x0 := sp_cell_on g x0; replace x1 := sp_cell_on g x1; replace x2 := sp_cell_on g x2; replace x3 := sp_cell_on g x3; replace x4 := sp_cell_on g x4; replace x5 := sp_cell_on g x5; replace x6 := sp_cell_on g x6; replace y0 := sp_cell_on g y0; replace y1 := sp_cell_on g y1; replace y2 := sp_cell_on g y2; replace y3 := sp_cell_on g y3; replace y4 := sp_cell_on g y4; replace y5 := sp_cell_on g y5; replace y6 := sp_cell_on g y6; clear g)
    | fail)
  have hall : ∀ X, Below v2.heap.size v2 X → X.cell? ⟨w.heap.size, 0, none⟩ = some (.int .i64 p) ∧ X.cell? ⟨w.heap.size, 1, none⟩ = some (.bool e1) ∧ X.cell? ⟨w.heap.size, 2, none⟩ = some (.int .u64 a) ∧ X.cell? ⟨w.heap.size, 3, none⟩ = some (.int .u64 b) ∧ X.cell? ⟨w.heap.size, 4, none⟩ = some (.bool e2) ∧ X.cell? ⟨w.heap.size, 5, none⟩ = some (.int .u64 c) ∧ X.cell? ⟨w.heap.size, 6, none⟩ = some (.int .u64 d) ∧ X.cell? ⟨w.heap.size + 1, 0, none⟩ = some (.int .i64 p) ∧ X.cell? ⟨w.heap.size + 1, 1, none⟩ = some (.bool e3) ∧ X.cell? ⟨w.heap.size + 1, 2, none⟩ = some (.int .u64 a3) ∧ X.cell? ⟨w.heap.size + 1, 3, none⟩ = some (.int .u64 b3) ∧ X.cell? ⟨w.heap.size + 1, 4, none⟩ = some (.bool e4) ∧ X.cell? ⟨w.heap.size + 1, 5, none⟩ = some (.int .u64 c4) ∧ X.cell? ⟨w.heap.size + 1, 6, none⟩ = some (.int .u64 d4) := fun X cc => ⟨sp_cell_on cc x0, sp_cell_on cc x1, sp_cell_on cc x2, sp_cell_on cc x3, sp_cell_on cc x4, sp_cell_on cc x5, sp_cell_on cc x6, sp_cell_on cc y0, sp_cell_on cc y1, sp_cell_on cc y2, sp_cell_on cc y3, sp_cell_on cc y4, sp_cell_on cc y5, sp_cell_on cc y6⟩
  have cc : Below v2.heap.size v2 v2.drew := (Below.refl _ _).drew
  go_cut [8, 9] from 37 to 48 (fun s u X => ∃ (W3 : World) (b8 b9 : Nat), W3 = X ∧ s = .pointer (some ⟨b8, 0, none⟩) ∧ u = .pointer (some ⟨b9, 0, none⟩) ∧ X.heap[b8]? = some (Obj.cells #[.bool je, .int .u64 jl, .int .u64 jh] 25 (0, 0)) ∧ X.heap[b9]? = some (Obj.cells #[.bool ke, .int .u64 kl, .int .u64 kh] 25 (0, 0)) ∧ Below v2.heap.size v2 X)
  case first =>
   refine wp_region_held_drew (S := (fun w' => w'.cell? ⟨w.heap.size, 0, none⟩ = some (.int .i64 p) ∧ w'.cell? ⟨w.heap.size, 1, none⟩ = some (.bool e1) ∧ w'.cell? ⟨w.heap.size, 2, none⟩ = some (.int .u64 a) ∧ w'.cell? ⟨w.heap.size, 3, none⟩ = some (.int .u64 b) ∧ w'.cell? ⟨w.heap.size, 4, none⟩ = some (.bool e2) ∧ w'.cell? ⟨w.heap.size, 5, none⟩ = some (.int .u64 c) ∧ w'.cell? ⟨w.heap.size, 6, none⟩ = some (.int .u64 d) ∧ w'.cell? ⟨w.heap.size + 1, 0, none⟩ = some (.int .i64 p) ∧ w'.cell? ⟨w.heap.size + 1, 1, none⟩ = some (.bool e3) ∧ w'.cell? ⟨w.heap.size + 1, 2, none⟩ = some (.int .u64 a3) ∧ w'.cell? ⟨w.heap.size + 1, 3, none⟩ = some (.int .u64 b3) ∧ w'.cell? ⟨w.heap.size + 1, 4, none⟩ = some (.bool e4) ∧ w'.cell? ⟨w.heap.size + 1, 5, none⟩ = some (.int .u64 c4) ∧ w'.cell? ⟨w.heap.size + 1, 6, none⟩ = some (.int .u64 d4))) (by kernel_rfl) (hall _ cc) (fun hH => ?_)
   refine wpAnyH_take (i := 0) (oi := _) (v := .int .i64 f) rfl (by kernel_rfl) (by kernel_rfl) (by kernel_rfl) (fun _ _ _ h => h) (Or.inl ⟨by rfl, fun w' hSw => by obtain ⟨zx0, zx1, zx2, zx3, zx4, zx5, zx6, zy0, zy1, zy2, zy3, zy4, zy5, zy6⟩ := hSw; go_simp⟩) hH ?_
   simp only [Act.put, List.getElem_toArray, List.getElem_cons_zero, List.getElem_cons_succ, List.setIfInBounds_toArray, List.set_cons_zero, List.set_cons_succ]
   refine wpAnyH_take (i := 1) (oi := _) (v := .pointer (some ⟨w.heap.size, 1, none⟩)) rfl (by kernel_rfl) (by kernel_rfl) (by kernel_rfl) (fun _ _ _ h => h) (Or.inl ⟨by rfl, fun w' hSw => by obtain ⟨zx0, zx1, zx2, zx3, zx4, zx5, zx6, zy0, zy1, zy2, zy3, zy4, zy5, zy6⟩ := hSw; go_simp⟩) hH ?_
   simp only [Act.put, List.getElem_toArray, List.getElem_cons_zero, List.getElem_cons_succ, List.setIfInBounds_toArray, List.set_cons_zero, List.set_cons_succ]
   refine wpAnyH_take (i := 2) (oi := _) (v := .agg #[.bool e1, .int .u64 a, .int .u64 b]) rfl (by kernel_rfl) (by kernel_rfl) (by kernel_rfl) (fun _ _ _ h => h) (Or.inl ⟨by rfl, fun w' hSw => by obtain ⟨zx0, zx1, zx2, zx3, zx4, zx5, zx6, zy0, zy1, zy2, zy3, zy4, zy5, zy6⟩ := hSw; go_simp⟩) hH ?_
   simp only [Act.put, List.getElem_toArray, List.getElem_cons_zero, List.getElem_cons_succ, List.setIfInBounds_toArray, List.set_cons_zero, List.set_cons_succ]
   refine wpAnyH_take (i := 3) (oi := _) (v := .pointer (some ⟨w.heap.size + 1, 1, none⟩)) rfl (by kernel_rfl) (by kernel_rfl) (by kernel_rfl) (fun _ _ _ h => h) (Or.inl ⟨by rfl, fun w' hSw => by obtain ⟨zx0, zx1, zx2, zx3, zx4, zx5, zx6, zy0, zy1, zy2, zy3, zy4, zy5, zy6⟩ := hSw; go_simp⟩) hH ?_
   simp only [Act.put, List.getElem_toArray, List.getElem_cons_zero, List.getElem_cons_succ, List.setIfInBounds_toArray, List.set_cons_zero, List.set_cons_succ]
   refine wpAnyH_take (i := 4) (oi := _) (v := .agg #[.bool e3, .int .u64 a3, .int .u64 b3]) rfl (by kernel_rfl) (by kernel_rfl) (by kernel_rfl) (fun _ _ _ h => h) (Or.inl ⟨by rfl, fun w' hSw => by obtain ⟨zx0, zx1, zx2, zx3, zx4, zx5, zx6, zy0, zy1, zy2, zy3, zy4, zy5, zy6⟩ := hSw; go_simp⟩) hH ?_
   simp only [Act.put, List.getElem_toArray, List.getElem_cons_zero, List.getElem_cons_succ, List.setIfInBounds_toArray, List.set_cons_zero, List.set_cons_succ]
   refine wpAnyH_take (i := 6) (oi := _) (v := .int .i64 f) rfl (by kernel_rfl) (by kernel_rfl) (by kernel_rfl) (fun _ _ _ h => h) (Or.inl ⟨by rfl, fun w' hSw => by obtain ⟨zx0, zx1, zx2, zx3, zx4, zx5, zx6, zy0, zy1, zy2, zy3, zy4, zy5, zy6⟩ := hSw; go_simp⟩) hH ?_
   simp only [Act.put, List.getElem_toArray, List.getElem_cons_zero, List.getElem_cons_succ, List.setIfInBounds_toArray, List.set_cons_zero, List.set_cons_succ]
   refine wpAnyH_take (i := 7) (oi := _) (v := .pointer (some ⟨w.heap.size, 4, none⟩)) rfl (by kernel_rfl) (by kernel_rfl) (by kernel_rfl) (fun _ _ _ h => h) (Or.inl ⟨by rfl, fun w' hSw => by obtain ⟨zx0, zx1, zx2, zx3, zx4, zx5, zx6, zy0, zy1, zy2, zy3, zy4, zy5, zy6⟩ := hSw; go_simp⟩) hH ?_
   simp only [Act.put, List.getElem_toArray, List.getElem_cons_zero, List.getElem_cons_succ, List.setIfInBounds_toArray, List.set_cons_zero, List.set_cons_succ]
   refine wpAnyH_take (i := 8) (oi := _) (v := .agg #[.bool e2, .int .u64 c, .int .u64 d]) rfl (by kernel_rfl) (by kernel_rfl) (by kernel_rfl) (fun _ _ _ h => h) (Or.inl ⟨by rfl, fun w' hSw => by obtain ⟨zx0, zx1, zx2, zx3, zx4, zx5, zx6, zy0, zy1, zy2, zy3, zy4, zy5, zy6⟩ := hSw; go_simp⟩) hH ?_
   simp only [Act.put, List.getElem_toArray, List.getElem_cons_zero, List.getElem_cons_succ, List.setIfInBounds_toArray, List.set_cons_zero, List.set_cons_succ]
   refine wpAnyH_take (i := 9) (oi := _) (v := .pointer (some ⟨w.heap.size + 1, 4, none⟩)) rfl (by kernel_rfl) (by kernel_rfl) (by kernel_rfl) (fun _ _ _ h => h) (Or.inl ⟨by rfl, fun w' hSw => by obtain ⟨zx0, zx1, zx2, zx3, zx4, zx5, zx6, zy0, zy1, zy2, zy3, zy4, zy5, zy6⟩ := hSw; go_simp⟩) hH ?_
   simp only [Act.put, List.getElem_toArray, List.getElem_cons_zero, List.getElem_cons_succ, List.setIfInBounds_toArray, List.set_cons_zero, List.set_cons_succ]
   refine wpAnyH_take (i := 10) (oi := _) (v := .agg #[.bool e4, .int .u64 c4, .int .u64 d4]) rfl (by kernel_rfl) (by kernel_rfl) (by kernel_rfl) (fun _ _ _ h => h) (Or.inl ⟨by rfl, fun w' hSw => by obtain ⟨zx0, zx1, zx2, zx3, zx4, zx5, zx6, zy0, zy1, zy2, zy3, zy4, zy5, zy6⟩ := hSw; go_simp⟩) hH ?_
   simp only [Act.put, List.getElem_toArray, List.getElem_cons_zero, List.getElem_cons_succ, List.setIfInBounds_toArray, List.set_cons_zero, List.set_cons_succ]
   generalize hY : v2.drew = Y0 at *
   clear hY
   refine wpAnyH_ready (rs := [5, 12, 13]) (by kernel_rfl) (by simp) (AllReadyH.cons (o := _) rfl (fun K hK => ?_) (AllReadyH.cons (o := _) rfl (fun K hK => ?_) (AllReadyH.cons (o := _) rfl (fun K hK => ?_) AllReadyH.nil)))
   · skip
     go_simp
     refine (j1 _).mono ?_
     rintro e Y1 ⟨rfl, g⟩
     replace cc := sp_call cc g
     clear g
     go_wp2_with fail
     refine hK.out _ _ (hall _ cc) (fun hH => ?_)
     clear hK K
     try simp only [Act.put, List.getElem_toArray, List.getElem_cons_zero, List.getElem_cons_succ, List.setIfInBounds_toArray, List.set_cons_zero, List.set_cons_succ]
     refine wpAnyH_ready (rs := [11, 12, 13]) (by kernel_rfl) (by simp) (AllReadyH.cons (o := _) rfl (fun K hK => ?_) (AllReadyH.cons (o := _) rfl (fun K hK => ?_) (AllReadyH.cons (o := _) rfl (fun K hK => ?_) AllReadyH.nil)))
     · skip
       go_simp
       refine (j2 _).mono ?_
       rintro e Y2 ⟨rfl, g⟩
       replace cc := sp_call cc g
       clear g
       go_wp2_with fail
       refine hK.out _ _ (hall _ cc) (fun hH => ?_)
       clear hK K
       try simp only [Act.put, List.getElem_toArray, List.getElem_cons_zero, List.getElem_cons_succ, List.setIfInBounds_toArray, List.set_cons_zero, List.set_cons_succ]
       refine wpAnyH_ready (rs := [12, 13]) (by kernel_rfl) (by simp) (AllReadyH.cons (o := _) rfl (fun K hK => ?_) (AllReadyH.cons (o := _) rfl (fun K hK => ?_) AllReadyH.nil))
       · skip
         go_simp
         have qa := World.alloc_heap_new Y2 (Obj.cells #[.bool false, .int .u64 0, .int .u64 0] 25 (0, 0))
         have zzY2 := cc.size
         replace cc := sp_new cc (Obj.cells #[.bool false, .int .u64 0, .int .u64 0] 25 (0, 0))
         generalize hY : Y2.alloc (Obj.cells #[.bool false, .int .u64 0, .int .u64 0] 25 (0, 0)) = Y3 at *
         clear hY
         refine hK.out _ _ (hall _ cc) (fun hH => ?_)
         clear hK K
         try simp only [Act.put, List.getElem_toArray, List.getElem_cons_zero, List.getElem_cons_succ, List.setIfInBounds_toArray, List.set_cons_zero, List.set_cons_succ]
         refine wpAnyH_ready (rs := [13]) (by kernel_rfl) (by simp) (AllReadyH.cons (o := _) rfl (fun K hK => ?_) AllReadyH.nil)
         · skip
           go_simp
           have neqb : Y2.heap.size ≠ Y3.heap.size := Nat.ne_of_lt (at_lt qa)
           replace qa := at_old qa (Obj.cells #[.bool false, .int .u64 0, .int .u64 0] 25 (0, 0))
           have qb := World.alloc_heap_new Y3 (Obj.cells #[.bool false, .int .u64 0, .int .u64 0] 25 (0, 0))
           have zzY3 := cc.size
           replace cc := sp_new cc (Obj.cells #[.bool false, .int .u64 0, .int .u64 0] 25 (0, 0))
           generalize hY : Y3.alloc (Obj.cells #[.bool false, .int .u64 0, .int .u64 0] 25 (0, 0)) = Y4 at *
           clear hY
           refine hK.out _ _ (hall _ cc) (fun hH => ?_)
           clear hK K
           try simp only [Act.put, List.getElem_toArray, List.getElem_cons_zero, List.getElem_cons_succ, List.setIfInBounds_toArray, List.set_cons_zero, List.set_cons_succ]
           refine wpAnyH_ready (rs := [14]) (by kernel_rfl) (by simp) (AllReadyH.cons (o := _) rfl (fun K hK => ?_) AllReadyH.nil)
           · skip
             obtain ⟨q0, q1, q2, qf⟩ := at_cells3 qa
             go_simp
             clear q0 q1 q2 qf
             replace qb := at_far3 (b := Y2.heap.size) qb (.bool je) (.int .u64 jl) (.int .u64 jh) (by first | assumption | exact Ne.symm (by assumption))
             have zq := at_lt qa
             replace qa := at_set3 qa (.bool je) (.int .u64 jl) (.int .u64 jh)
             replace cc := sp_set3 (b := Y2.heap.size) cc (by first | exact zzY2 | omega) (.bool je) (.int .u64 jl) (.int .u64 jh)
             generalize hY : (((Y4.setCell ⟨Y2.heap.size, 0, none⟩ (.bool je)).setCell ⟨Y2.heap.size, 1, none⟩ (.int .u64 jl)).setCell ⟨Y2.heap.size, 2, none⟩ (.int .u64 jh)) = Y5 at *
             clear hY zq
             refine hK.out _ _ (hall _ cc) (fun hH => ?_)
             clear hK K
             try simp only [Act.put, List.getElem_toArray, List.getElem_cons_zero, List.getElem_cons_succ, List.setIfInBounds_toArray, List.set_cons_zero, List.set_cons_succ]
             refine wpAnyH_ready (rs := [15]) (by kernel_rfl) (by simp) (AllReadyH.cons (o := _) rfl (fun K hK => ?_) AllReadyH.nil)
             · skip
               obtain ⟨q0, q1, q2, qf⟩ := at_cells3 qb
               go_simp
               clear q0 q1 q2 qf
               replace qa := at_far3 (b := Y3.heap.size) qa (.bool ke) (.int .u64 kl) (.int .u64 kh) (by first | assumption | exact Ne.symm (by assumption))
               have zq := at_lt qb
               replace qb := at_set3 qb (.bool ke) (.int .u64 kl) (.int .u64 kh)
               replace cc := sp_set3 (b := Y3.heap.size) cc (by first | exact zzY3 | omega) (.bool ke) (.int .u64 kl) (.int .u64 kh)
               generalize hY : (((Y5.setCell ⟨Y3.heap.size, 0, none⟩ (.bool ke)).setCell ⟨Y3.heap.size, 1, none⟩ (.int .u64 kl)).setCell ⟨Y3.heap.size, 2, none⟩ (.int .u64 kh)) = Y6 at *
               clear hY zq
               refine hK.out _ _ (hall _ cc) (fun hH => ?_)
               clear hK K
               try simp only [Act.put, List.getElem_toArray, List.getElem_cons_zero, List.getElem_cons_succ, List.setIfInBounds_toArray, List.set_cons_zero, List.set_cons_succ]
               refine wpAnyH_done (by kernel_rfl) ?_ _
               go_wp2_with fail
               go_meet
               exact ⟨_, _, _, rfl, rfl, rfl, qa, qb, cc⟩
       · skip
         go_simp
         have qb := World.alloc_heap_new Y2 (Obj.cells #[.bool false, .int .u64 0, .int .u64 0] 25 (0, 0))
         have zzY2 := cc.size
         replace cc := sp_new cc (Obj.cells #[.bool false, .int .u64 0, .int .u64 0] 25 (0, 0))
         generalize hY : Y2.alloc (Obj.cells #[.bool false, .int .u64 0, .int .u64 0] 25 (0, 0)) = Y7 at *
         clear hY
         refine hK.out _ _ (hall _ cc) (fun hH => ?_)
         clear hK K
         try simp only [Act.put, List.getElem_toArray, List.getElem_cons_zero, List.getElem_cons_succ, List.setIfInBounds_toArray, List.set_cons_zero, List.set_cons_succ]
         refine wpAnyH_ready (rs := [12]) (by kernel_rfl) (by simp) (AllReadyH.cons (o := _) rfl (fun K hK => ?_) AllReadyH.nil)
         · skip
           go_simp
           have neqa : Y2.heap.size ≠ Y7.heap.size := Nat.ne_of_lt (at_lt qb)
           replace qb := at_old qb (Obj.cells #[.bool false, .int .u64 0, .int .u64 0] 25 (0, 0))
           have qa := World.alloc_heap_new Y7 (Obj.cells #[.bool false, .int .u64 0, .int .u64 0] 25 (0, 0))
           have zzY7 := cc.size
           replace cc := sp_new cc (Obj.cells #[.bool false, .int .u64 0, .int .u64 0] 25 (0, 0))
           generalize hY : Y7.alloc (Obj.cells #[.bool false, .int .u64 0, .int .u64 0] 25 (0, 0)) = Y8 at *
           clear hY
           refine hK.out _ _ (hall _ cc) (fun hH => ?_)
           clear hK K
           try simp only [Act.put, List.getElem_toArray, List.getElem_cons_zero, List.getElem_cons_succ, List.setIfInBounds_toArray, List.set_cons_zero, List.set_cons_succ]
           refine wpAnyH_ready (rs := [14]) (by kernel_rfl) (by simp) (AllReadyH.cons (o := _) rfl (fun K hK => ?_) AllReadyH.nil)
           · skip
             obtain ⟨q0, q1, q2, qf⟩ := at_cells3 qa
             go_simp
             clear q0 q1 q2 qf
             replace qb := at_far3 (b := Y7.heap.size) qb (.bool je) (.int .u64 jl) (.int .u64 jh) (by first | assumption | exact Ne.symm (by assumption))
             have zq := at_lt qa
             replace qa := at_set3 qa (.bool je) (.int .u64 jl) (.int .u64 jh)
             replace cc := sp_set3 (b := Y7.heap.size) cc (by first | exact zzY7 | omega) (.bool je) (.int .u64 jl) (.int .u64 jh)
             generalize hY : (((Y8.setCell ⟨Y7.heap.size, 0, none⟩ (.bool je)).setCell ⟨Y7.heap.size, 1, none⟩ (.int .u64 jl)).setCell ⟨Y7.heap.size, 2, none⟩ (.int .u64 jh)) = Y9 at *
             clear hY zq
             refine hK.out _ _ (hall _ cc) (fun hH => ?_)
             clear hK K
             try simp only [Act.put, List.getElem_toArray, List.getElem_cons_zero, List.getElem_cons_succ, List.setIfInBounds_toArray, List.set_cons_zero, List.set_cons_succ]
             refine wpAnyH_ready (rs := [15]) (by kernel_rfl) (by simp) (AllReadyH.cons (o := _) rfl (fun K hK => ?_) AllReadyH.nil)
             · skip
               obtain ⟨q0, q1, q2, qf⟩ := at_cells3 qb
               go_simp
               clear q0 q1 q2 qf
               replace qa := at_far3 (b := Y2.heap.size) qa (.bool ke) (.int .u64 kl) (.int .u64 kh) (by first | assumption | exact Ne.symm (by assumption))
               have zq := at_lt qb
               replace qb := at_set3 qb (.bool ke) (.int .u64 kl) (.int .u64 kh)
               replace cc := sp_set3 (b := Y2.heap.size) cc (by first | exact zzY2 | omega) (.bool ke) (.int .u64 kl) (.int .u64 kh)
               generalize hY : (((Y9.setCell ⟨Y2.heap.size, 0, none⟩ (.bool ke)).setCell ⟨Y2.heap.size, 1, none⟩ (.int .u64 kl)).setCell ⟨Y2.heap.size, 2, none⟩ (.int .u64 kh)) = Y10 at *
               clear hY zq
               refine hK.out _ _ (hall _ cc) (fun hH => ?_)
               clear hK K
               try simp only [Act.put, List.getElem_toArray, List.getElem_cons_zero, List.getElem_cons_succ, List.setIfInBounds_toArray, List.set_cons_zero, List.set_cons_succ]
               refine wpAnyH_done (by kernel_rfl) ?_ _
               go_wp2_with fail
               go_meet
               exact ⟨_, _, _, rfl, rfl, rfl, qa, qb, cc⟩
     · skip
       go_simp
       have qa := World.alloc_heap_new Y1 (Obj.cells #[.bool false, .int .u64 0, .int .u64 0] 25 (0, 0))
       have zzY1 := cc.size
       replace cc := sp_new cc (Obj.cells #[.bool false, .int .u64 0, .int .u64 0] 25 (0, 0))
       generalize hY : Y1.alloc (Obj.cells #[.bool false, .int .u64 0, .int .u64 0] 25 (0, 0)) = Y11 at *
       clear hY
       refine hK.out _ _ (hall _ cc) (fun hH => ?_)
       clear hK K
       try simp only [Act.put, List.getElem_toArray, List.getElem_cons_zero, List.getElem_cons_succ, List.setIfInBounds_toArray, List.set_cons_zero, List.set_cons_succ]
       refine wpAnyH_ready (rs := [11, 13]) (by kernel_rfl) (by simp) (AllReadyH.cons (o := _) rfl (fun K hK => ?_) (AllReadyH.cons (o := _) rfl (fun K hK => ?_) AllReadyH.nil))
       · skip
         go_simp
         refine (j2 _).mono ?_
         rintro e Y12 ⟨rfl, g⟩
         replace cc := sp_call cc g
         replace qa := carryF g qa
         clear g
         go_wp2_with fail
         refine hK.out _ _ (hall _ cc) (fun hH => ?_)
         clear hK K
         try simp only [Act.put, List.getElem_toArray, List.getElem_cons_zero, List.getElem_cons_succ, List.setIfInBounds_toArray, List.set_cons_zero, List.set_cons_succ]
         refine wpAnyH_ready (rs := [13]) (by kernel_rfl) (by simp) (AllReadyH.cons (o := _) rfl (fun K hK => ?_) AllReadyH.nil)
         · skip
           go_simp
           have neqb : Y1.heap.size ≠ Y12.heap.size := Nat.ne_of_lt (at_lt qa)
           replace qa := at_old qa (Obj.cells #[.bool false, .int .u64 0, .int .u64 0] 25 (0, 0))
           have qb := World.alloc_heap_new Y12 (Obj.cells #[.bool false, .int .u64 0, .int .u64 0] 25 (0, 0))
           have zzY12 := cc.size
           replace cc := sp_new cc (Obj.cells #[.bool false, .int .u64 0, .int .u64 0] 25 (0, 0))
           generalize hY : Y12.alloc (Obj.cells #[.bool false, .int .u64 0, .int .u64 0] 25 (0, 0)) = Y13 at *
           clear hY
           refine hK.out _ _ (hall _ cc) (fun hH => ?_)
           clear hK K
           try simp only [Act.put, List.getElem_toArray, List.getElem_cons_zero, List.getElem_cons_succ, List.setIfInBounds_toArray, List.set_cons_zero, List.set_cons_succ]
           refine wpAnyH_ready (rs := [14]) (by kernel_rfl) (by simp) (AllReadyH.cons (o := _) rfl (fun K hK => ?_) AllReadyH.nil)
           · skip
             obtain ⟨q0, q1, q2, qf⟩ := at_cells3 qa
             go_simp
             clear q0 q1 q2 qf
             replace qb := at_far3 (b := Y1.heap.size) qb (.bool je) (.int .u64 jl) (.int .u64 jh) (by first | assumption | exact Ne.symm (by assumption))
             have zq := at_lt qa
             replace qa := at_set3 qa (.bool je) (.int .u64 jl) (.int .u64 jh)
             replace cc := sp_set3 (b := Y1.heap.size) cc (by first | exact zzY1 | omega) (.bool je) (.int .u64 jl) (.int .u64 jh)
             generalize hY : (((Y13.setCell ⟨Y1.heap.size, 0, none⟩ (.bool je)).setCell ⟨Y1.heap.size, 1, none⟩ (.int .u64 jl)).setCell ⟨Y1.heap.size, 2, none⟩ (.int .u64 jh)) = Y14 at *
             clear hY zq
             refine hK.out _ _ (hall _ cc) (fun hH => ?_)
             clear hK K
             try simp only [Act.put, List.getElem_toArray, List.getElem_cons_zero, List.getElem_cons_succ, List.setIfInBounds_toArray, List.set_cons_zero, List.set_cons_succ]
             refine wpAnyH_ready (rs := [15]) (by kernel_rfl) (by simp) (AllReadyH.cons (o := _) rfl (fun K hK => ?_) AllReadyH.nil)
             · skip
               obtain ⟨q0, q1, q2, qf⟩ := at_cells3 qb
               go_simp
               clear q0 q1 q2 qf
               replace qa := at_far3 (b := Y12.heap.size) qa (.bool ke) (.int .u64 kl) (.int .u64 kh) (by first | assumption | exact Ne.symm (by assumption))
               have zq := at_lt qb
               replace qb := at_set3 qb (.bool ke) (.int .u64 kl) (.int .u64 kh)
               replace cc := sp_set3 (b := Y12.heap.size) cc (by first | exact zzY12 | omega) (.bool ke) (.int .u64 kl) (.int .u64 kh)
               generalize hY : (((Y14.setCell ⟨Y12.heap.size, 0, none⟩ (.bool ke)).setCell ⟨Y12.heap.size, 1, none⟩ (.int .u64 kl)).setCell ⟨Y12.heap.size, 2, none⟩ (.int .u64 kh)) = Y15 at *
               clear hY zq
               refine hK.out _ _ (hall _ cc) (fun hH => ?_)
               clear hK K
               try simp only [Act.put, List.getElem_toArray, List.getElem_cons_zero, List.getElem_cons_succ, List.setIfInBounds_toArray, List.set_cons_zero, List.set_cons_succ]
               refine wpAnyH_done (by kernel_rfl) ?_ _
               go_wp2_with fail
               go_meet
               exact ⟨_, _, _, rfl, rfl, rfl, qa, qb, cc⟩
       · skip
         go_simp
         have neqb : Y1.heap.size ≠ Y11.heap.size := Nat.ne_of_lt (at_lt qa)
         replace qa := at_old qa (Obj.cells #[.bool false, .int .u64 0, .int .u64 0] 25 (0, 0))
         have qb := World.alloc_heap_new Y11 (Obj.cells #[.bool false, .int .u64 0, .int .u64 0] 25 (0, 0))
         have zzY11 := cc.size
         replace cc := sp_new cc (Obj.cells #[.bool false, .int .u64 0, .int .u64 0] 25 (0, 0))
         generalize hY : Y11.alloc (Obj.cells #[.bool false, .int .u64 0, .int .u64 0] 25 (0, 0)) = Y16 at *
         clear hY
         refine hK.out _ _ (hall _ cc) (fun hH => ?_)
         clear hK K
         try simp only [Act.put, List.getElem_toArray, List.getElem_cons_zero, List.getElem_cons_succ, List.setIfInBounds_toArray, List.set_cons_zero, List.set_cons_succ]
         refine wpAnyH_ready (rs := [11]) (by kernel_rfl) (by simp) (AllReadyH.cons (o := _) rfl (fun K hK => ?_) AllReadyH.nil)
         · skip
           go_simp
           refine (j2 _).mono ?_
           rintro e Y17 ⟨rfl, g⟩
           replace cc := sp_call cc g
           replace qa := carryF g qa
           replace qb := carryF g qb
           clear g
           go_wp2_with fail
           refine hK.out _ _ (hall _ cc) (fun hH => ?_)
           clear hK K
           try simp only [Act.put, List.getElem_toArray, List.getElem_cons_zero, List.getElem_cons_succ, List.setIfInBounds_toArray, List.set_cons_zero, List.set_cons_succ]
           refine wpAnyH_ready (rs := [14]) (by kernel_rfl) (by simp) (AllReadyH.cons (o := _) rfl (fun K hK => ?_) AllReadyH.nil)
           · skip
             obtain ⟨q0, q1, q2, qf⟩ := at_cells3 qa
             go_simp
             clear q0 q1 q2 qf
             replace qb := at_far3 (b := Y1.heap.size) qb (.bool je) (.int .u64 jl) (.int .u64 jh) (by first | assumption | exact Ne.symm (by assumption))
             have zq := at_lt qa
             replace qa := at_set3 qa (.bool je) (.int .u64 jl) (.int .u64 jh)
             replace cc := sp_set3 (b := Y1.heap.size) cc (by first | exact zzY1 | omega) (.bool je) (.int .u64 jl) (.int .u64 jh)
             generalize hY : (((Y17.setCell ⟨Y1.heap.size, 0, none⟩ (.bool je)).setCell ⟨Y1.heap.size, 1, none⟩ (.int .u64 jl)).setCell ⟨Y1.heap.size, 2, none⟩ (.int .u64 jh)) = Y18 at *
             clear hY zq
             refine hK.out _ _ (hall _ cc) (fun hH => ?_)
             clear hK K
             try simp only [Act.put, List.getElem_toArray, List.getElem_cons_zero, List.getElem_cons_succ, List.setIfInBounds_toArray, List.set_cons_zero, List.set_cons_succ]
             refine wpAnyH_ready (rs := [15]) (by kernel_rfl) (by simp) (AllReadyH.cons (o := _) rfl (fun K hK => ?_) AllReadyH.nil)
             · skip
               obtain ⟨q0, q1, q2, qf⟩ := at_cells3 qb
               go_simp
               clear q0 q1 q2 qf
               replace qa := at_far3 (b := Y11.heap.size) qa (.bool ke) (.int .u64 kl) (.int .u64 kh) (by first | assumption | exact Ne.symm (by assumption))
               have zq := at_lt qb
               replace qb := at_set3 qb (.bool ke) (.int .u64 kl) (.int .u64 kh)
               replace cc := sp_set3 (b := Y11.heap.size) cc (by first | exact zzY11 | omega) (.bool ke) (.int .u64 kl) (.int .u64 kh)
               generalize hY : (((Y18.setCell ⟨Y11.heap.size, 0, none⟩ (.bool ke)).setCell ⟨Y11.heap.size, 1, none⟩ (.int .u64 kl)).setCell ⟨Y11.heap.size, 2, none⟩ (.int .u64 kh)) = Y19 at *
               clear hY zq
               refine hK.out _ _ (hall _ cc) (fun hH => ?_)
               clear hK K
               try simp only [Act.put, List.getElem_toArray, List.getElem_cons_zero, List.getElem_cons_succ, List.setIfInBounds_toArray, List.set_cons_zero, List.set_cons_succ]
               refine wpAnyH_done (by kernel_rfl) ?_ _
               go_wp2_with fail
               go_meet
               exact ⟨_, _, _, rfl, rfl, rfl, qa, qb, cc⟩
     · skip
       go_simp
       have qb := World.alloc_heap_new Y1 (Obj.cells #[.bool false, .int .u64 0, .int .u64 0] 25 (0, 0))
       have zzY1 := cc.size
       replace cc := sp_new cc (Obj.cells #[.bool false, .int .u64 0, .int .u64 0] 25 (0, 0))
       generalize hY : Y1.alloc (Obj.cells #[.bool false, .int .u64 0, .int .u64 0] 25 (0, 0)) = Y20 at *
       clear hY
       refine hK.out _ _ (hall _ cc) (fun hH => ?_)
       clear hK K
       try simp only [Act.put, List.getElem_toArray, List.getElem_cons_zero, List.getElem_cons_succ, List.setIfInBounds_toArray, List.set_cons_zero, List.set_cons_succ]
       refine wpAnyH_ready (rs := [11, 12]) (by kernel_rfl) (by simp) (AllReadyH.cons (o := _) rfl (fun K hK => ?_) (AllReadyH.cons (o := _) rfl (fun K hK => ?_) AllReadyH.nil))
       · skip
         go_simp
         refine (j2 _).mono ?_
         rintro e Y21 ⟨rfl, g⟩
         replace cc := sp_call cc g
         replace qb := carryF g qb
         clear g
         go_wp2_with fail
         refine hK.out _ _ (hall _ cc) (fun hH => ?_)
         clear hK K
         try simp only [Act.put, List.getElem_toArray, List.getElem_cons_zero, List.getElem_cons_succ, List.setIfInBounds_toArray, List.set_cons_zero, List.set_cons_succ]
         refine wpAnyH_ready (rs := [12]) (by kernel_rfl) (by simp) (AllReadyH.cons (o := _) rfl (fun K hK => ?_) AllReadyH.nil)
         · skip
           go_simp
           have neqa : Y1.heap.size ≠ Y21.heap.size := Nat.ne_of_lt (at_lt qb)
           replace qb := at_old qb (Obj.cells #[.bool false, .int .u64 0, .int .u64 0] 25 (0, 0))
           have qa := World.alloc_heap_new Y21 (Obj.cells #[.bool false, .int .u64 0, .int .u64 0] 25 (0, 0))
           have zzY21 := cc.size
           replace cc := sp_new cc (Obj.cells #[.bool false, .int .u64 0, .int .u64 0] 25 (0, 0))
           generalize hY : Y21.alloc (Obj.cells #[.bool false, .int .u64 0, .int .u64 0] 25 (0, 0)) = Y22 at *
           clear hY
           refine hK.out _ _ (hall _ cc) (fun hH => ?_)
           clear hK K
           try simp only [Act.put, List.getElem_toArray, List.getElem_cons_zero, List.getElem_cons_succ, List.setIfInBounds_toArray, List.set_cons_zero, List.set_cons_succ]
           refine wpAnyH_ready (rs := [14]) (by kernel_rfl) (by simp) (AllReadyH.cons (o := _) rfl (fun K hK => ?_) AllReadyH.nil)
           · skip
             obtain ⟨q0, q1, q2, qf⟩ := at_cells3 qa
             go_simp
             clear q0 q1 q2 qf
             replace qb := at_far3 (b := Y21.heap.size) qb (.bool je) (.int .u64 jl) (.int .u64 jh) (by first | assumption | exact Ne.symm (by assumption))
             have zq := at_lt qa
             replace qa := at_set3 qa (.bool je) (.int .u64 jl) (.int .u64 jh)
             replace cc := sp_set3 (b := Y21.heap.size) cc (by first | exact zzY21 | omega) (.bool je) (.int .u64 jl) (.int .u64 jh)
             generalize hY : (((Y22.setCell ⟨Y21.heap.size, 0, none⟩ (.bool je)).setCell ⟨Y21.heap.size, 1, none⟩ (.int .u64 jl)).setCell ⟨Y21.heap.size, 2, none⟩ (.int .u64 jh)) = Y23 at *
             clear hY zq
             refine hK.out _ _ (hall _ cc) (fun hH => ?_)
             clear hK K
             try simp only [Act.put, List.getElem_toArray, List.getElem_cons_zero, List.getElem_cons_succ, List.setIfInBounds_toArray, List.set_cons_zero, List.set_cons_succ]
             refine wpAnyH_ready (rs := [15]) (by kernel_rfl) (by simp) (AllReadyH.cons (o := _) rfl (fun K hK => ?_) AllReadyH.nil)
             · skip
               obtain ⟨q0, q1, q2, qf⟩ := at_cells3 qb
               go_simp
               clear q0 q1 q2 qf
               replace qa := at_far3 (b := Y1.heap.size) qa (.bool ke) (.int .u64 kl) (.int .u64 kh) (by first | assumption | exact Ne.symm (by assumption))
               have zq := at_lt qb
               replace qb := at_set3 qb (.bool ke) (.int .u64 kl) (.int .u64 kh)
               replace cc := sp_set3 (b := Y1.heap.size) cc (by first | exact zzY1 | omega) (.bool ke) (.int .u64 kl) (.int .u64 kh)
               generalize hY : (((Y23.setCell ⟨Y1.heap.size, 0, none⟩ (.bool ke)).setCell ⟨Y1.heap.size, 1, none⟩ (.int .u64 kl)).setCell ⟨Y1.heap.size, 2, none⟩ (.int .u64 kh)) = Y24 at *
               clear hY zq
               refine hK.out _ _ (hall _ cc) (fun hH => ?_)
               clear hK K
               try simp only [Act.put, List.getElem_toArray, List.getElem_cons_zero, List.getElem_cons_succ, List.setIfInBounds_toArray, List.set_cons_zero, List.set_cons_succ]
               refine wpAnyH_done (by kernel_rfl) ?_ _
               go_wp2_with fail
               go_meet
               exact ⟨_, _, _, rfl, rfl, rfl, qa, qb, cc⟩
       · skip
         go_simp
         have neqa : Y1.heap.size ≠ Y20.heap.size := Nat.ne_of_lt (at_lt qb)
         replace qb := at_old qb (Obj.cells #[.bool false, .int .u64 0, .int .u64 0] 25 (0, 0))
         have qa := World.alloc_heap_new Y20 (Obj.cells #[.bool false, .int .u64 0, .int .u64 0] 25 (0, 0))
         have zzY20 := cc.size
         replace cc := sp_new cc (Obj.cells #[.bool false, .int .u64 0, .int .u64 0] 25 (0, 0))
         generalize hY : Y20.alloc (Obj.cells #[.bool false, .int .u64 0, .int .u64 0] 25 (0, 0)) = Y25 at *
         clear hY
         refine hK.out _ _ (hall _ cc) (fun hH => ?_)
         clear hK K
         try simp only [Act.put, List.getElem_toArray, List.getElem_cons_zero, List.getElem_cons_succ, List.setIfInBounds_toArray, List.set_cons_zero, List.set_cons_succ]
         refine wpAnyH_ready (rs := [11]) (by kernel_rfl) (by simp) (AllReadyH.cons (o := _) rfl (fun K hK => ?_) AllReadyH.nil)
         · skip
           go_simp
           refine (j2 _).mono ?_
           rintro e Y26 ⟨rfl, g⟩
           replace cc := sp_call cc g
           replace qa := carryF g qa
           replace qb := carryF g qb
           clear g
           go_wp2_with fail
           refine hK.out _ _ (hall _ cc) (fun hH => ?_)
           clear hK K
           try simp only [Act.put, List.getElem_toArray, List.getElem_cons_zero, List.getElem_cons_succ, List.setIfInBounds_toArray, List.set_cons_zero, List.set_cons_succ]
           refine wpAnyH_ready (rs := [14]) (by kernel_rfl) (by simp) (AllReadyH.cons (o := _) rfl (fun K hK => ?_) AllReadyH.nil)
           · skip
             obtain ⟨q0, q1, q2, qf⟩ := at_cells3 qa
             go_simp
             clear q0 q1 q2 qf
             replace qb := at_far3 (b := Y20.heap.size) qb (.bool je) (.int .u64 jl) (.int .u64 jh) (by first | assumption | exact Ne.symm (by assumption))
             have zq := at_lt qa
             replace qa := at_set3 qa (.bool je) (.int .u64 jl) (.int .u64 jh)
             replace cc := sp_set3 (b := Y20.heap.size) cc (by first | exact zzY20 | omega) (.bool je) (.int .u64 jl) (.int .u64 jh)
             generalize hY : (((Y26.setCell ⟨Y20.heap.size, 0, none⟩ (.bool je)).setCell ⟨Y20.heap.size, 1, none⟩ (.int .u64 jl)).setCell ⟨Y20.heap.size, 2, none⟩ (.int .u64 jh)) = Y27 at *
             clear hY zq
             refine hK.out _ _ (hall _ cc) (fun hH => ?_)
             clear hK K
             try simp only [Act.put, List.getElem_toArray, List.getElem_cons_zero, List.getElem_cons_succ, List.setIfInBounds_toArray, List.set_cons_zero, List.set_cons_succ]
             refine wpAnyH_ready (rs := [15]) (by kernel_rfl) (by simp) (AllReadyH.cons (o := _) rfl (fun K hK => ?_) AllReadyH.nil)
             · skip
               obtain ⟨q0, q1, q2, qf⟩ := at_cells3 qb
               go_simp
               clear q0 q1 q2 qf
               replace qa := at_far3 (b := Y1.heap.size) qa (.bool ke) (.int .u64 kl) (.int .u64 kh) (by first | assumption | exact Ne.symm (by assumption))
               have zq := at_lt qb
               replace qb := at_set3 qb (.bool ke) (.int .u64 kl) (.int .u64 kh)
               replace cc := sp_set3 (b := Y1.heap.size) cc (by first | exact zzY1 | omega) (.bool ke) (.int .u64 kl) (.int .u64 kh)
               generalize hY : (((Y27.setCell ⟨Y1.heap.size, 0, none⟩ (.bool ke)).setCell ⟨Y1.heap.size, 1, none⟩ (.int .u64 kl)).setCell ⟨Y1.heap.size, 2, none⟩ (.int .u64 kh)) = Y28 at *
               clear hY zq
               refine hK.out _ _ (hall _ cc) (fun hH => ?_)
               clear hK K
               try simp only [Act.put, List.getElem_toArray, List.getElem_cons_zero, List.getElem_cons_succ, List.setIfInBounds_toArray, List.set_cons_zero, List.set_cons_succ]
               refine wpAnyH_done (by kernel_rfl) ?_ _
               go_wp2_with fail
               go_meet
               exact ⟨_, _, _, rfl, rfl, rfl, qa, qb, cc⟩
   · skip
     go_simp
     have qa := World.alloc_heap_new Y0 (Obj.cells #[.bool false, .int .u64 0, .int .u64 0] 25 (0, 0))
     have zzY0 := cc.size
     replace cc := sp_new cc (Obj.cells #[.bool false, .int .u64 0, .int .u64 0] 25 (0, 0))
     generalize hY : Y0.alloc (Obj.cells #[.bool false, .int .u64 0, .int .u64 0] 25 (0, 0)) = Y29 at *
     clear hY
     refine hK.out _ _ (hall _ cc) (fun hH => ?_)
     clear hK K
     try simp only [Act.put, List.getElem_toArray, List.getElem_cons_zero, List.getElem_cons_succ, List.setIfInBounds_toArray, List.set_cons_zero, List.set_cons_succ]
     refine wpAnyH_ready (rs := [5, 13]) (by kernel_rfl) (by simp) (AllReadyH.cons (o := _) rfl (fun K hK => ?_) (AllReadyH.cons (o := _) rfl (fun K hK => ?_) AllReadyH.nil))
     · skip
       go_simp
       refine (j1 _).mono ?_
       rintro e Y30 ⟨rfl, g⟩
       replace cc := sp_call cc g
       replace qa := carryF g qa
       clear g
       go_wp2_with fail
       refine hK.out _ _ (hall _ cc) (fun hH => ?_)
       clear hK K
       try simp only [Act.put, List.getElem_toArray, List.getElem_cons_zero, List.getElem_cons_succ, List.setIfInBounds_toArray, List.set_cons_zero, List.set_cons_succ]
       refine wpAnyH_ready (rs := [11, 13]) (by kernel_rfl) (by simp) (AllReadyH.cons (o := _) rfl (fun K hK => ?_) (AllReadyH.cons (o := _) rfl (fun K hK => ?_) AllReadyH.nil))
       · skip
         go_simp
         refine (j2 _).mono ?_
         rintro e Y31 ⟨rfl, g⟩
         replace cc := sp_call cc g
         replace qa := carryF g qa
         clear g
         go_wp2_with fail
         refine hK.out _ _ (hall _ cc) (fun hH => ?_)
         clear hK K
         try simp only [Act.put, List.getElem_toArray, List.getElem_cons_zero, List.getElem_cons_succ, List.setIfInBounds_toArray, List.set_cons_zero, List.set_cons_succ]
         refine wpAnyH_ready (rs := [13]) (by kernel_rfl) (by simp) (AllReadyH.cons (o := _) rfl (fun K hK => ?_) AllReadyH.nil)
         · skip
           go_simp
           have neqb : Y0.heap.size ≠ Y31.heap.size := Nat.ne_of_lt (at_lt qa)
           replace qa := at_old qa (Obj.cells #[.bool false, .int .u64 0, .int .u64 0] 25 (0, 0))
           have qb := World.alloc_heap_new Y31 (Obj.cells #[.bool false, .int .u64 0, .int .u64 0] 25 (0, 0))
           have zzY31 := cc.size
           replace cc := sp_new cc (Obj.cells #[.bool false, .int .u64 0, .int .u64 0] 25 (0, 0))
           generalize hY : Y31.alloc (Obj.cells #[.bool false, .int .u64 0, .int .u64 0] 25 (0, 0)) = Y32 at *
           clear hY
           refine hK.out _ _ (hall _ cc) (fun hH => ?_)
           clear hK K
           try simp only [Act.put, List.getElem_toArray, List.getElem_cons_zero, List.getElem_cons_succ, List.setIfInBounds_toArray, List.set_cons_zero, List.set_cons_succ]
           refine wpAnyH_ready (rs := [14]) (by kernel_rfl) (by simp) (AllReadyH.cons (o := _) rfl (fun K hK => ?_) AllReadyH.nil)
           · skip
             obtain ⟨q0, q1, q2, qf⟩ := at_cells3 qa
             go_simp
             clear q0 q1 q2 qf
             replace qb := at_far3 (b := Y0.heap.size) qb (.bool je) (.int .u64 jl) (.int .u64 jh) (by first | assumption | exact Ne.symm (by assumption))
             have zq := at_lt qa
             replace qa := at_set3 qa (.bool je) (.int .u64 jl) (.int .u64 jh)
             replace cc := sp_set3 (b := Y0.heap.size) cc (by first | exact zzY0 | omega) (.bool je) (.int .u64 jl) (.int .u64 jh)
             generalize hY : (((Y32.setCell ⟨Y0.heap.size, 0, none⟩ (.bool je)).setCell ⟨Y0.heap.size, 1, none⟩ (.int .u64 jl)).setCell ⟨Y0.heap.size, 2, none⟩ (.int .u64 jh)) = Y33 at *
             clear hY zq
             refine hK.out _ _ (hall _ cc) (fun hH => ?_)
             clear hK K
             try simp only [Act.put, List.getElem_toArray, List.getElem_cons_zero, List.getElem_cons_succ, List.setIfInBounds_toArray, List.set_cons_zero, List.set_cons_succ]
             refine wpAnyH_ready (rs := [15]) (by kernel_rfl) (by simp) (AllReadyH.cons (o := _) rfl (fun K hK => ?_) AllReadyH.nil)
             · skip
               obtain ⟨q0, q1, q2, qf⟩ := at_cells3 qb
               go_simp
               clear q0 q1 q2 qf
               replace qa := at_far3 (b := Y31.heap.size) qa (.bool ke) (.int .u64 kl) (.int .u64 kh) (by first | assumption | exact Ne.symm (by assumption))
               have zq := at_lt qb
               replace qb := at_set3 qb (.bool ke) (.int .u64 kl) (.int .u64 kh)
               replace cc := sp_set3 (b := Y31.heap.size) cc (by first | exact zzY31 | omega) (.bool ke) (.int .u64 kl) (.int .u64 kh)
               generalize hY : (((Y33.setCell ⟨Y31.heap.size, 0, none⟩ (.bool ke)).setCell ⟨Y31.heap.size, 1, none⟩ (.int .u64 kl)).setCell ⟨Y31.heap.size, 2, none⟩ (.int .u64 kh)) = Y34 at *
               clear hY zq
               refine hK.out _ _ (hall _ cc) (fun hH => ?_)
               clear hK K
               try simp only [Act.put, List.getElem_toArray, List.getElem_cons_zero, List.getElem_cons_succ, List.setIfInBounds_toArray, List.set_cons_zero, List.set_cons_succ]
               refine wpAnyH_done (by kernel_rfl) ?_ _
               go_wp2_with fail
               go_meet
               exact ⟨_, _, _, rfl, rfl, rfl, qa, qb, cc⟩
       · skip
         go_simp
         have neqb : Y0.heap.size ≠ Y30.heap.size := Nat.ne_of_lt (at_lt qa)
         replace qa := at_old qa (Obj.cells #[.bool false, .int .u64 0, .int .u64 0] 25 (0, 0))
         have qb := World.alloc_heap_new Y30 (Obj.cells #[.bool false, .int .u64 0, .int .u64 0] 25 (0, 0))
         have zzY30 := cc.size
         replace cc := sp_new cc (Obj.cells #[.bool false, .int .u64 0, .int .u64 0] 25 (0, 0))
         generalize hY : Y30.alloc (Obj.cells #[.bool false, .int .u64 0, .int .u64 0] 25 (0, 0)) = Y35 at *
         clear hY
         refine hK.out _ _ (hall _ cc) (fun hH => ?_)
         clear hK K
         try simp only [Act.put, List.getElem_toArray, List.getElem_cons_zero, List.getElem_cons_succ, List.setIfInBounds_toArray, List.set_cons_zero, List.set_cons_succ]
         refine wpAnyH_ready (rs := [11]) (by kernel_rfl) (by simp) (AllReadyH.cons (o := _) rfl (fun K hK => ?_) AllReadyH.nil)
         · skip
           go_simp
           refine (j2 _).mono ?_
           rintro e Y36 ⟨rfl, g⟩
           replace cc := sp_call cc g
           replace qa := carryF g qa
           replace qb := carryF g qb
           clear g
           go_wp2_with fail
           refine hK.out _ _ (hall _ cc) (fun hH => ?_)
           clear hK K
           try simp only [Act.put, List.getElem_toArray, List.getElem_cons_zero, List.getElem_cons_succ, List.setIfInBounds_toArray, List.set_cons_zero, List.set_cons_succ]
           refine wpAnyH_ready (rs := [14]) (by kernel_rfl) (by simp) (AllReadyH.cons (o := _) rfl (fun K hK => ?_) AllReadyH.nil)
           · skip
             obtain ⟨q0, q1, q2, qf⟩ := at_cells3 qa
             go_simp
             clear q0 q1 q2 qf
             replace qb := at_far3 (b := Y0.heap.size) qb (.bool je) (.int .u64 jl) (.int .u64 jh) (by first | assumption | exact Ne.symm (by assumption))
             have zq := at_lt qa
             replace qa := at_set3 qa (.bool je) (.int .u64 jl) (.int .u64 jh)
             replace cc := sp_set3 (b := Y0.heap.size) cc (by first | exact zzY0 | omega) (.bool je) (.int .u64 jl) (.int .u64 jh)
             generalize hY : (((Y36.setCell ⟨Y0.heap.size, 0, none⟩ (.bool je)).setCell ⟨Y0.heap.size, 1, none⟩ (.int .u64 jl)).setCell ⟨Y0.heap.size, 2, none⟩ (.int .u64 jh)) = Y37 at *
             clear hY zq
             refine hK.out _ _ (hall _ cc) (fun hH => ?_)
             clear hK K
             try simp only [Act.put, List.getElem_toArray, List.getElem_cons_zero, List.getElem_cons_succ, List.setIfInBounds_toArray, List.set_cons_zero, List.set_cons_succ]
             refine wpAnyH_ready (rs := [15]) (by kernel_rfl) (by simp) (AllReadyH.cons (o := _) rfl (fun K hK => ?_) AllReadyH.nil)
             · skip
               obtain ⟨q0, q1, q2, qf⟩ := at_cells3 qb
               go_simp
               clear q0 q1 q2 qf
               replace qa := at_far3 (b := Y30.heap.size) qa (.bool ke) (.int .u64 kl) (.int .u64 kh) (by first | assumption | exact Ne.symm (by assumption))
               have zq := at_lt qb
               replace qb := at_set3 qb (.bool ke) (.int .u64 kl) (.int .u64 kh)
               replace cc := sp_set3 (b := Y30.heap.size) cc (by first | exact zzY30 | omega) (.bool ke) (.int .u64 kl) (.int .u64 kh)
               generalize hY : (((Y37.setCell ⟨Y30.heap.size, 0, none⟩ (.bool ke)).setCell ⟨Y30.heap.size, 1, none⟩ (.int .u64 kl)).setCell ⟨Y30.heap.size, 2, none⟩ (.int .u64 kh)) = Y38 at *
               clear hY zq
               refine hK.out _ _ (hall _ cc) (fun hH => ?_)
               clear hK K
               try simp only [Act.put, List.getElem_toArray, List.getElem_cons_zero, List.getElem_cons_succ, List.setIfInBounds_toArray, List.set_cons_zero, List.set_cons_succ]
               refine wpAnyH_done (by kernel_rfl) ?_ _
               go_wp2_with fail
               go_meet
               exact ⟨_, _, _, rfl, rfl, rfl, qa, qb, cc⟩
     · skip
       go_simp
       have neqb : Y0.heap.size ≠ Y29.heap.size := Nat.ne_of_lt (at_lt qa)
       replace qa := at_old qa (Obj.cells #[.bool false, .int .u64 0, .int .u64 0] 25 (0, 0))
       have qb := World.alloc_heap_new Y29 (Obj.cells #[.bool false, .int .u64 0, .int .u64 0] 25 (0, 0))
       have zzY29 := cc.size
       replace cc := sp_new cc (Obj.cells #[.bool false, .int .u64 0, .int .u64 0] 25 (0, 0))
       generalize hY : Y29.alloc (Obj.cells #[.bool false, .int .u64 0, .int .u64 0] 25 (0, 0)) = Y39 at *
       clear hY
       refine hK.out _ _ (hall _ cc) (fun hH => ?_)
       clear hK K
       try simp only [Act.put, List.getElem_toArray, List.getElem_cons_zero, List.getElem_cons_succ, List.setIfInBounds_toArray, List.set_cons_zero, List.set_cons_succ]
       refine wpAnyH_ready (rs := [5]) (by kernel_rfl) (by simp) (AllReadyH.cons (o := _) rfl (fun K hK => ?_) AllReadyH.nil)
       · skip
         go_simp
         refine (j1 _).mono ?_
         rintro e Y40 ⟨rfl, g⟩
         replace cc := sp_call cc g
         replace qa := carryF g qa
         replace qb := carryF g qb
         clear g
         go_wp2_with fail
         refine hK.out _ _ (hall _ cc) (fun hH => ?_)
         clear hK K
         try simp only [Act.put, List.getElem_toArray, List.getElem_cons_zero, List.getElem_cons_succ, List.setIfInBounds_toArray, List.set_cons_zero, List.set_cons_succ]
         refine wpAnyH_ready (rs := [11]) (by kernel_rfl) (by simp) (AllReadyH.cons (o := _) rfl (fun K hK => ?_) AllReadyH.nil)
         · skip
           go_simp
           refine (j2 _).mono ?_
           rintro e Y41 ⟨rfl, g⟩
           replace cc := sp_call cc g
           replace qa := carryF g qa
           replace qb := carryF g qb
           clear g
           go_wp2_with fail
           refine hK.out _ _ (hall _ cc) (fun hH => ?_)
           clear hK K
           try simp only [Act.put, List.getElem_toArray, List.getElem_cons_zero, List.getElem_cons_succ, List.setIfInBounds_toArray, List.set_cons_zero, List.set_cons_succ]
           refine wpAnyH_ready (rs := [14]) (by kernel_rfl) (by simp) (AllReadyH.cons (o := _) rfl (fun K hK => ?_) AllReadyH.nil)
           · skip
             obtain ⟨q0, q1, q2, qf⟩ := at_cells3 qa
             go_simp
             clear q0 q1 q2 qf
             replace qb := at_far3 (b := Y0.heap.size) qb (.bool je) (.int .u64 jl) (.int .u64 jh) (by first | assumption | exact Ne.symm (by assumption))
             have zq := at_lt qa
             replace qa := at_set3 qa (.bool je) (.int .u64 jl) (.int .u64 jh)
             replace cc := sp_set3 (b := Y0.heap.size) cc (by first | exact zzY0 | omega) (.bool je) (.int .u64 jl) (.int .u64 jh)
             generalize hY : (((Y41.setCell ⟨Y0.heap.size, 0, none⟩ (.bool je)).setCell ⟨Y0.heap.size, 1, none⟩ (.int .u64 jl)).setCell ⟨Y0.heap.size, 2, none⟩ (.int .u64 jh)) = Y42 at *
             clear hY zq
             refine hK.out _ _ (hall _ cc) (fun hH => ?_)
             clear hK K
             try simp only [Act.put, List.getElem_toArray, List.getElem_cons_zero, List.getElem_cons_succ, List.setIfInBounds_toArray, List.set_cons_zero, List.set_cons_succ]
             refine wpAnyH_ready (rs := [15]) (by kernel_rfl) (by simp) (AllReadyH.cons (o := _) rfl (fun K hK => ?_) AllReadyH.nil)
             · skip
               obtain ⟨q0, q1, q2, qf⟩ := at_cells3 qb
               go_simp
               clear q0 q1 q2 qf
               replace qa := at_far3 (b := Y29.heap.size) qa (.bool ke) (.int .u64 kl) (.int .u64 kh) (by first | assumption | exact Ne.symm (by assumption))
               have zq := at_lt qb
               replace qb := at_set3 qb (.bool ke) (.int .u64 kl) (.int .u64 kh)
               replace cc := sp_set3 (b := Y29.heap.size) cc (by first | exact zzY29 | omega) (.bool ke) (.int .u64 kl) (.int .u64 kh)
               generalize hY : (((Y42.setCell ⟨Y29.heap.size, 0, none⟩ (.bool ke)).setCell ⟨Y29.heap.size, 1, none⟩ (.int .u64 kl)).setCell ⟨Y29.heap.size, 2, none⟩ (.int .u64 kh)) = Y43 at *
               clear hY zq
               refine hK.out _ _ (hall _ cc) (fun hH => ?_)
               clear hK K
               try simp only [Act.put, List.getElem_toArray, List.getElem_cons_zero, List.getElem_cons_succ, List.setIfInBounds_toArray, List.set_cons_zero, List.set_cons_succ]
               refine wpAnyH_done (by kernel_rfl) ?_ _
               go_wp2_with fail
               go_meet
               exact ⟨_, _, _, rfl, rfl, rfl, qa, qb, cc⟩
   · skip
     go_simp
     have qb := World.alloc_heap_new Y0 (Obj.cells #[.bool false, .int .u64 0, .int .u64 0] 25 (0, 0))
     have zzY0 := cc.size
     replace cc := sp_new cc (Obj.cells #[.bool false, .int .u64 0, .int .u64 0] 25 (0, 0))
     generalize hY : Y0.alloc (Obj.cells #[.bool false, .int .u64 0, .int .u64 0] 25 (0, 0)) = Y44 at *
     clear hY
     refine hK.out _ _ (hall _ cc) (fun hH => ?_)
     clear hK K
     try simp only [Act.put, List.getElem_toArray, List.getElem_cons_zero, List.getElem_cons_succ, List.setIfInBounds_toArray, List.set_cons_zero, List.set_cons_succ]
     refine wpAnyH_ready (rs := [5, 12]) (by kernel_rfl) (by simp) (AllReadyH.cons (o := _) rfl (fun K hK => ?_) (AllReadyH.cons (o := _) rfl (fun K hK => ?_) AllReadyH.nil))
     · skip
       go_simp
       refine (j1 _).mono ?_
       rintro e Y45 ⟨rfl, g⟩
       replace cc := sp_call cc g
       replace qb := carryF g qb
       clear g
       go_wp2_with fail
       refine hK.out _ _ (hall _ cc) (fun hH => ?_)
       clear hK K
       try simp only [Act.put, List.getElem_toArray, List.getElem_cons_zero, List.getElem_cons_succ, List.setIfInBounds_toArray, List.set_cons_zero, List.set_cons_succ]
       refine wpAnyH_ready (rs := [11, 12]) (by kernel_rfl) (by simp) (AllReadyH.cons (o := _) rfl (fun K hK => ?_) (AllReadyH.cons (o := _) rfl (fun K hK => ?_) AllReadyH.nil))
       · skip
         go_simp
         refine (j2 _).mono ?_
         rintro e Y46 ⟨rfl, g⟩
         replace cc := sp_call cc g
         replace qb := carryF g qb
         clear g
         go_wp2_with fail
         refine hK.out _ _ (hall _ cc) (fun hH => ?_)
         clear hK K
         try simp only [Act.put, List.getElem_toArray, List.getElem_cons_zero, List.getElem_cons_succ, List.setIfInBounds_toArray, List.set_cons_zero, List.set_cons_succ]
         refine wpAnyH_ready (rs := [12]) (by kernel_rfl) (by simp) (AllReadyH.cons (o := _) rfl (fun K hK => ?_) AllReadyH.nil)
         · skip
           go_simp
           have neqa : Y0.heap.size ≠ Y46.heap.size := Nat.ne_of_lt (at_lt qb)
           replace qb := at_old qb (Obj.cells #[.bool false, .int .u64 0, .int .u64 0] 25 (0, 0))
           have qa := World.alloc_heap_new Y46 (Obj.cells #[.bool false, .int .u64 0, .int .u64 0] 25 (0, 0))
           have zzY46 := cc.size
           replace cc := sp_new cc (Obj.cells #[.bool false, .int .u64 0, .int .u64 0] 25 (0, 0))
           generalize hY : Y46.alloc (Obj.cells #[.bool false, .int .u64 0, .int .u64 0] 25 (0, 0)) = Y47 at *
           clear hY
           refine hK.out _ _ (hall _ cc) (fun hH => ?_)
           clear hK K
           try simp only [Act.put, List.getElem_toArray, List.getElem_cons_zero, List.getElem_cons_succ, List.setIfInBounds_toArray, List.set_cons_zero, List.set_cons_succ]
           refine wpAnyH_ready (rs := [14]) (by kernel_rfl) (by simp) (AllReadyH.cons (o := _) rfl (fun K hK => ?_) AllReadyH.nil)
           · skip
             obtain ⟨q0, q1, q2, qf⟩ := at_cells3 qa
             go_simp
             clear q0 q1 q2 qf
             replace qb := at_far3 (b := Y46.heap.size) qb (.bool je) (.int .u64 jl) (.int .u64 jh) (by first | assumption | exact Ne.symm (by assumption))
             have zq := at_lt qa
             replace qa := at_set3 qa (.bool je) (.int .u64 jl) (.int .u64 jh)
             replace cc := sp_set3 (b := Y46.heap.size) cc (by first | exact zzY46 | omega) (.bool je) (.int .u64 jl) (.int .u64 jh)
             generalize hY : (((Y47.setCell ⟨Y46.heap.size, 0, none⟩ (.bool je)).setCell ⟨Y46.heap.size, 1, none⟩ (.int .u64 jl)).setCell ⟨Y46.heap.size, 2, none⟩ (.int .u64 jh)) = Y48 at *
             clear hY zq
             refine hK.out _ _ (hall _ cc) (fun hH => ?_)
             clear hK K
             try simp only [Act.put, List.getElem_toArray, List.getElem_cons_zero, List.getElem_cons_succ, List.setIfInBounds_toArray, List.set_cons_zero, List.set_cons_succ]
             refine wpAnyH_ready (rs := [15]) (by kernel_rfl) (by simp) (AllReadyH.cons (o := _) rfl (fun K hK => ?_) AllReadyH.nil)
             · skip
               obtain ⟨q0, q1, q2, qf⟩ := at_cells3 qb
               go_simp
               clear q0 q1 q2 qf
               replace qa := at_far3 (b := Y0.heap.size) qa (.bool ke) (.int .u64 kl) (.int .u64 kh) (by first | assumption | exact Ne.symm (by assumption))
               have zq := at_lt qb
               replace qb := at_set3 qb (.bool ke) (.int .u64 kl) (.int .u64 kh)
               replace cc := sp_set3 (b := Y0.heap.size) cc (by first | exact zzY0 | omega) (.bool ke) (.int .u64 kl) (.int .u64 kh)
               generalize hY : (((Y48.setCell ⟨Y0.heap.size, 0, none⟩ (.bool ke)).setCell ⟨Y0.heap.size, 1, none⟩ (.int .u64 kl)).setCell ⟨Y0.heap.size, 2, none⟩ (.int .u64 kh)) = Y49 at *
               clear hY zq
               refine hK.out _ _ (hall _ cc) (fun hH => ?_)
               clear hK K
               try simp only [Act.put, List.getElem_toArray, List.getElem_cons_zero, List.getElem_cons_succ, List.setIfInBounds_toArray, List.set_cons_zero, List.set_cons_succ]
               refine wpAnyH_done (by kernel_rfl) ?_ _
               go_wp2_with fail
               go_meet
               exact ⟨_, _, _, rfl, rfl, rfl, qa, qb, cc⟩
       · skip
         go_simp
         have neqa : Y0.heap.size ≠ Y45.heap.size := Nat.ne_of_lt (at_lt qb)
         replace qb := at_old qb (Obj.cells #[.bool false, .int .u64 0, .int .u64 0] 25 (0, 0))
         have qa := World.alloc_heap_new Y45 (Obj.cells #[.bool false, .int .u64 0, .int .u64 0] 25 (0, 0))
         have zzY45 := cc.size
         replace cc := sp_new cc (Obj.cells #[.bool false, .int .u64 0, .int .u64 0] 25 (0, 0))
         generalize hY : Y45.alloc (Obj.cells #[.bool false, .int .u64 0, .int .u64 0] 25 (0, 0)) = Y50 at *
         clear hY
         refine hK.out _ _ (hall _ cc) (fun hH => ?_)
         clear hK K
         try simp only [Act.put, List.getElem_toArray, List.getElem_cons_zero, List.getElem_cons_succ, List.setIfInBounds_toArray, List.set_cons_zero, List.set_cons_succ]
         refine wpAnyH_ready (rs := [11]) (by kernel_rfl) (by simp) (AllReadyH.cons (o := _) rfl (fun K hK => ?_) AllReadyH.nil)
         · skip
           go_simp
           refine (j2 _).mono ?_
           rintro e Y51 ⟨rfl, g⟩
           replace cc := sp_call cc g
           replace qa := carryF g qa
           replace qb := carryF g qb
           clear g
           go_wp2_with fail
           refine hK.out _ _ (hall _ cc) (fun hH => ?_)
           clear hK K
           try simp only [Act.put, List.getElem_toArray, List.getElem_cons_zero, List.getElem_cons_succ, List.setIfInBounds_toArray, List.set_cons_zero, List.set_cons_succ]
           refine wpAnyH_ready (rs := [14]) (by kernel_rfl) (by simp) (AllReadyH.cons (o := _) rfl (fun K hK => ?_) AllReadyH.nil)
           · skip
             obtain ⟨q0, q1, q2, qf⟩ := at_cells3 qa
             go_simp
             clear q0 q1 q2 qf
             replace qb := at_far3 (b := Y45.heap.size) qb (.bool je) (.int .u64 jl) (.int .u64 jh) (by first | assumption | exact Ne.symm (by assumption))
             have zq := at_lt qa
             replace qa := at_set3 qa (.bool je) (.int .u64 jl) (.int .u64 jh)
             replace cc := sp_set3 (b := Y45.heap.size) cc (by first | exact zzY45 | omega) (.bool je) (.int .u64 jl) (.int .u64 jh)
             generalize hY : (((Y51.setCell ⟨Y45.heap.size, 0, none⟩ (.bool je)).setCell ⟨Y45.heap.size, 1, none⟩ (.int .u64 jl)).setCell ⟨Y45.heap.size, 2, none⟩ (.int .u64 jh)) = Y52 at *
             clear hY zq
             refine hK.out _ _ (hall _ cc) (fun hH => ?_)
             clear hK K
             try simp only [Act.put, List.getElem_toArray, List.getElem_cons_zero, List.getElem_cons_succ, List.setIfInBounds_toArray, List.set_cons_zero, List.set_cons_succ]
             refine wpAnyH_ready (rs := [15]) (by kernel_rfl) (by simp) (AllReadyH.cons (o := _) rfl (fun K hK => ?_) AllReadyH.nil)
             · skip
               obtain ⟨q0, q1, q2, qf⟩ := at_cells3 qb
               go_simp
               clear q0 q1 q2 qf
               replace qa := at_far3 (b := Y0.heap.size) qa (.bool ke) (.int .u64 kl) (.int .u64 kh) (by first | assumption | exact Ne.symm (by assumption))
               have zq := at_lt qb
               replace qb := at_set3 qb (.bool ke) (.int .u64 kl) (.int .u64 kh)
               replace cc := sp_set3 (b := Y0.heap.size) cc (by first | exact zzY0 | omega) (.bool ke) (.int .u64 kl) (.int .u64 kh)
               generalize hY : (((Y52.setCell ⟨Y0.heap.size, 0, none⟩ (.bool ke)).setCell ⟨Y0.heap.size, 1, none⟩ (.int .u64 kl)).setCell ⟨Y0.heap.size, 2, none⟩ (.int .u64 kh)) = Y53 at *
               clear hY zq
               refine hK.out _ _ (hall _ cc) (fun hH => ?_)
               clear hK K
               try simp only [Act.put, List.getElem_toArray, List.getElem_cons_zero, List.getElem_cons_succ, List.setIfInBounds_toArray, List.set_cons_zero, List.set_cons_succ]
               refine wpAnyH_done (by kernel_rfl) ?_ _
               go_wp2_with fail
               go_meet
               exact ⟨_, _, _, rfl, rfl, rfl, qa, qb, cc⟩
     · skip
       go_simp
       have neqa : Y0.heap.size ≠ Y44.heap.size := Nat.ne_of_lt (at_lt qb)
       replace qb := at_old qb (Obj.cells #[.bool false, .int .u64 0, .int .u64 0] 25 (0, 0))
       have qa := World.alloc_heap_new Y44 (Obj.cells #[.bool false, .int .u64 0, .int .u64 0] 25 (0, 0))
       have zzY44 := cc.size
       replace cc := sp_new cc (Obj.cells #[.bool false, .int .u64 0, .int .u64 0] 25 (0, 0))
       generalize hY : Y44.alloc (Obj.cells #[.bool false, .int .u64 0, .int .u64 0] 25 (0, 0)) = Y54 at *
       clear hY
       refine hK.out _ _ (hall _ cc) (fun hH => ?_)
       clear hK K
       try simp only [Act.put, List.getElem_toArray, List.getElem_cons_zero, List.getElem_cons_succ, List.setIfInBounds_toArray, List.set_cons_zero, List.set_cons_succ]
       refine wpAnyH_ready (rs := [5]) (by kernel_rfl) (by simp) (AllReadyH.cons (o := _) rfl (fun K hK => ?_) AllReadyH.nil)
       · skip
         go_simp
         refine (j1 _).mono ?_
         rintro e Y55 ⟨rfl, g⟩
         replace cc := sp_call cc g
         replace qa := carryF g qa
         replace qb := carryF g qb
         clear g
         go_wp2_with fail
         refine hK.out _ _ (hall _ cc) (fun hH => ?_)
         clear hK K
         try simp only [Act.put, List.getElem_toArray, List.getElem_cons_zero, List.getElem_cons_succ, List.setIfInBounds_toArray, List.set_cons_zero, List.set_cons_succ]
         refine wpAnyH_ready (rs := [11]) (by kernel_rfl) (by simp) (AllReadyH.cons (o := _) rfl (fun K hK => ?_) AllReadyH.nil)
         · skip
           go_simp
           refine (j2 _).mono ?_
           rintro e Y56 ⟨rfl, g⟩
           replace cc := sp_call cc g
           replace qa := carryF g qa
           replace qb := carryF g qb
           clear g
           go_wp2_with fail
           refine hK.out _ _ (hall _ cc) (fun hH => ?_)
           clear hK K
           try simp only [Act.put, List.getElem_toArray, List.getElem_cons_zero, List.getElem_cons_succ, List.setIfInBounds_toArray, List.set_cons_zero, List.set_cons_succ]
           refine wpAnyH_ready (rs := [14]) (by kernel_rfl) (by simp) (AllReadyH.cons (o := _) rfl (fun K hK => ?_) AllReadyH.nil)
           · skip
             obtain ⟨q0, q1, q2, qf⟩ := at_cells3 qa
             go_simp
             clear q0 q1 q2 qf
             replace qb := at_far3 (b := Y44.heap.size) qb (.bool je) (.int .u64 jl) (.int .u64 jh) (by first | assumption | exact Ne.symm (by assumption))
             have zq := at_lt qa
             replace qa := at_set3 qa (.bool je) (.int .u64 jl) (.int .u64 jh)
             replace cc := sp_set3 (b := Y44.heap.size) cc (by first | exact zzY44 | omega) (.bool je) (.int .u64 jl) (.int .u64 jh)
             generalize hY : (((Y56.setCell ⟨Y44.heap.size, 0, none⟩ (.bool je)).setCell ⟨Y44.heap.size, 1, none⟩ (.int .u64 jl)).setCell ⟨Y44.heap.size, 2, none⟩ (.int .u64 jh)) = Y57 at *
             clear hY zq
             refine hK.out _ _ (hall _ cc) (fun hH => ?_)
             clear hK K
             try simp only [Act.put, List.getElem_toArray, List.getElem_cons_zero, List.getElem_cons_succ, List.setIfInBounds_toArray, List.set_cons_zero, List.set_cons_succ]
             refine wpAnyH_ready (rs := [15]) (by kernel_rfl) (by simp) (AllReadyH.cons (o := _) rfl (fun K hK => ?_) AllReadyH.nil)
             · skip
               obtain ⟨q0, q1, q2, qf⟩ := at_cells3 qb
               go_simp
               clear q0 q1 q2 qf
               replace qa := at_far3 (b := Y0.heap.size) qa (.bool ke) (.int .u64 kl) (.int .u64 kh) (by first | assumption | exact Ne.symm (by assumption))
               have zq := at_lt qb
               replace qb := at_set3 qb (.bool ke) (.int .u64 kl) (.int .u64 kh)
               replace cc := sp_set3 (b := Y0.heap.size) cc (by first | exact zzY0 | omega) (.bool ke) (.int .u64 kl) (.int .u64 kh)
               generalize hY : (((Y57.setCell ⟨Y0.heap.size, 0, none⟩ (.bool ke)).setCell ⟨Y0.heap.size, 1, none⟩ (.int .u64 kl)).setCell ⟨Y0.heap.size, 2, none⟩ (.int .u64 kh)) = Y58 at *
               clear hY zq
               refine hK.out _ _ (hall _ cc) (fun hH => ?_)
               clear hK K
               try simp only [Act.put, List.getElem_toArray, List.getElem_cons_zero, List.getElem_cons_succ, List.setIfInBounds_toArray, List.set_cons_zero, List.set_cons_succ]
               refine wpAnyH_done (by kernel_rfl) ?_ _
               go_wp2_with fail
               go_meet
               exact ⟨_, _, _, rfl, rfl, rfl, qa, qb, cc⟩
  case rest =>
   obtain ⟨W3, b8, b9, rfl, rfl, rfl, qa, qb, cX⟩ := hcut
   obtain ⟨m0, m1, m2, _⟩ := at_cells3 qa
   obtain ⟨n0, n1, n2, _⟩ := at_cells3 qb
   replace x0 := sp_cell_on cX x0; replace x1 := sp_cell_on cX x1; replace x2 := sp_cell_on cX x2; replace x3 := sp_cell_on cX x3; replace x4 := sp_cell_on cX x4; replace x5 := sp_cell_on cX x5; replace x6 := sp_cell_on cX x6
   replace bW := sp_call bW cX
   clear cX cc hall y0 y1 y2 y3 y4 y5 y6 qa qb
   have cc : Below W3.heap.size W3 W3 := Below.refl _ _
   go_upto_region 6 with fail
   go_cut [10, 11] from 49 to 58 (fun s u X => ∃ (W5 : World) (b10 : Nat), W5 = X ∧ s = .pointer (some ⟨b10, 0, none⟩) ∧ u = .int .i64 T ∧ W3.heap.size ≤ b10 ∧ X.cell? ⟨b10, 0, none⟩ = some (.bool re) ∧ X.cell? ⟨b10, 1, none⟩ = some (.int .u64 rl) ∧ X.cell? ⟨b10, 2, none⟩ = some (.int .u64 rh) ∧ Below W3.heap.size W3 X)
   case first =>
    go_wp2_with (first
      | (go_at_call 34; refine (t1 _).mono ?_; rintro e u3 ⟨rfl, g⟩; replace cc := sp_call cc g; clear g)
      | fail)
    go_meet
    have zg := cc.size
    exact ⟨_, _, rfl, rfl, rfl, by omega, by simp [go_sem], by simp [go_sem], by simp [go_sem], by (repeat (first | exact Below.refl _ _ | assumption | with_reducible refine sp_new ?_ _ | with_reducible refine sp_set1f ?_ (by omega) _))⟩
   case rest =>
    obtain ⟨W5, b10, rfl, rfl, rfl, hb10, r0, r1, r2, cX⟩ := hcut
    replace m0 := sp_cell_on cX m0
    replace m1 := sp_cell_on cX m1
    replace m2 := sp_cell_on cX m2
    replace n0 := sp_cell_on cX n0
    replace n1 := sp_cell_on cX n1
    replace n2 := sp_cell_on cX n2
    replace bW := sp_call bW cX
    clear cX cc
    have cc : Below W5.heap.size W5 W5 := Below.refl _ _
    go_upto_region 7 with fail
    go_cut [12, 13] from 59 to 66 (fun s u X => ∃ (W6 : World) (b12 : Nat), W6 = X ∧ s = .pointer (some ⟨b12, 0, none⟩) ∧ u = .int .i64 U ∧ W5.heap.size ≤ b12 ∧ X.cell? ⟨b12, 0, none⟩ = some (.bool se) ∧ X.cell? ⟨b12, 1, none⟩ = some (.int .u64 sl) ∧ X.cell? ⟨b12, 2, none⟩ = some (.int .u64 sh) ∧ Below W5.heap.size W5 X)
    case first =>
     go_wp2_with (first
       | (go_at_call 34; refine (t2 _).mono ?_; rintro e u3 ⟨rfl, g⟩; replace cc := sp_call cc g; clear g)
       | fail)
     go_meet
     have zg := cc.size
     exact ⟨_, _, rfl, rfl, rfl, by omega, by simp [go_sem], by simp [go_sem], by simp [go_sem], by (repeat (first | exact Below.refl _ _ | assumption | with_reducible refine sp_new ?_ _ | with_reducible refine sp_set1f ?_ (by omega) _))⟩
    case rest =>
     obtain ⟨W6, b12, rfl, rfl, rfl, hb12, s0, s1, s2, cX⟩ := hcut
     replace r0 := sp_cell_on cX r0
     replace r1 := sp_cell_on cX r1
     replace r2 := sp_cell_on cX r2
     replace bW := sp_call bW cX
     clear cX cc
     have cc : Below W6.heap.size W6 W6 := Below.refl _ _
     have hbb := hb.out
     go_wp2_with (first
       | (go_at_call 23; refine (hl _).mono ?_; rintro e vl ⟨rfl, g⟩; replace bW := sp_call bW g; replace r0 := sp_cell_on g r0; replace r1 := sp_cell_on g r1; replace r2 := sp_cell_on g r2; replace s0 := sp_cell_on g s0; replace s1 := sp_cell_on g s1; replace s2 := sp_cell_on g s2; clear g)
       | (go_at_call 30; refine (kw _).mono ?_; rintro e vb ⟨rfl, g⟩; replace bW := sp_call bW g; replace r0 := sp_cell_on g r0; replace r1 := sp_cell_on g r1; replace r2 := sp_cell_on g r2; replace s0 := sp_cell_on g s0; replace s1 := sp_cell_on g s1; replace s2 := sp_cell_on g s2; clear g)
       | fail)
     go_ret
     exact ⟨by first | rfl | simp [hbb], bW⟩
end Go.Proofs.YtdehcmajhdhcaaaGreat

namespace Go.Proofs.YtdehcmajhdhcaaaGreat
open Go.RowKit
set_option linter.unusedVariables false
set_option linter.unusedSimpArgs false
set_option maxRecDepth 100000 in
set_option maxHeartbeats 6400000 in
theorem tright_t (p f : Int) (e1 : Bool) (a b : Int) (e2 : Bool) (c d : Int) (R2 : Bool) (kf : ∀ V, Calls Tryz.prog 15 #[.int .i64 p] V fun e w' => e = .returned (.int .i64 f) ∧ Below V.heap.size V w') (k1 : ∀ V, Calls Tryz.prog 17 #[.int .i64 f, .agg #[.bool e1, .int .u64 a, .int .u64 b]] V fun e w' => e = .returned (.bool true) ∧ Below V.heap.size V w') (k2 : ∀ V, Calls Tryz.prog 17 #[.int .i64 f, .agg #[.bool e2, .int .u64 c, .int .u64 d]] V fun e w' => e = .returned (.bool R2) ∧ Below V.heap.size V w') (w : World) : Calls Tryz.prog 22 #[.agg #[.int .i64 p, .bool e1, .int .u64 a, .int .u64 b, .bool e2, .int .u64 c, .int .u64 d]] w fun e w' => e = .returned (.bool R2) ∧ Below w.heap.size w w' := by
  go_enter Tryz.func22, Tryz.ntmps22
  go_wp2_with fail
  obtain ⟨W, hW⟩ : ∃ W, (w.alloc (.cells #[.int .i64 p, .bool e1, .int .u64 a, .int .u64 b, .bool e2, .int .u64 c, .int .u64 d] 27)) = W := ⟨_, rfl⟩
  have x0 : W.cell? ⟨w.heap.size, 0, none⟩ = some (.int .i64 p) := by rw [← hW]; simp [go_sem]
  have x1 : W.cell? ⟨w.heap.size, 1, none⟩ = some (.bool e1) := by rw [← hW]; simp [go_sem]
  have x2 : W.cell? ⟨w.heap.size, 2, none⟩ = some (.int .u64 a) := by rw [← hW]; simp [go_sem]
  have x3 : W.cell? ⟨w.heap.size, 3, none⟩ = some (.int .u64 b) := by rw [← hW]; simp [go_sem]
  have x4 : W.cell? ⟨w.heap.size, 4, none⟩ = some (.bool e2) := by rw [← hW]; simp [go_sem]
  have x5 : W.cell? ⟨w.heap.size, 5, none⟩ = some (.int .u64 c) := by rw [← hW]; simp [go_sem]
  have x6 : W.cell? ⟨w.heap.size, 6, none⟩ = some (.int .u64 d) := by rw [← hW]; simp [go_sem]
  have bW : Below w.heap.size w W := by rw [← hW]; exact (sp_new (Below.refl _ _) _)
  have zW : W.heap.size = w.heap.size + 1 := by rw [← hW]; simp
  rw [hW]
  clear hW
  have kf2 := kf
  go_region_held3 (fun w' => w'.cell? ⟨w.heap.size, 0, none⟩ = some (.int .i64 p) ∧ w'.cell? ⟨w.heap.size, 1, none⟩ = some (.bool e1) ∧ w'.cell? ⟨w.heap.size, 2, none⟩ = some (.int .u64 a) ∧ w'.cell? ⟨w.heap.size, 3, none⟩ = some (.int .u64 b) ∧ w'.cell? ⟨w.heap.size, 4, none⟩ = some (.bool e2) ∧ w'.cell? ⟨w.heap.size, 5, none⟩ = some (.int .u64 c) ∧ w'.cell? ⟨w.heap.size, 6, none⟩ = some (.int .u64 d)) (exact ⟨x0, x1, x2, x3, x4, x5, x6⟩)
    (first
      | (go_at_call 15; refine (kf _).mono ?_; rintro e v1 ⟨rfl, g⟩; replace g : Below W.heap.size W v1 := ⟨g.os, g.tape, g.output, g.size, g.block⟩; replace bW := sp_call bW g; replace x0 := sp_cell_on g x0; replace x1 := sp_cell_on g x1; replace x2 := sp_cell_on g x2; replace x3 := sp_cell_on g x3; replace x4 := sp_cell_on g x4; replace x5 := sp_cell_on g x5; replace x6 := sp_cell_on g x6; clear g; clear kf)
      | (go_at_call 17; refine (k1 _).mono ?_; rintro e v2 ⟨rfl, g⟩; replace g : Below v1.heap.size v1 v2 := ⟨g.os, g.tape, g.output, g.size, g.block⟩; replace bW := sp_call bW g; replace x0 := sp_cell_on g x0; replace x1 := sp_cell_on g x1; replace x2 := sp_cell_on g x2; replace x3 := sp_cell_on g x3; replace x4 := sp_cell_on g x4; replace x5 := sp_cell_on g x5; replace x6 := sp_cell_on g x6; clear g; clear k1)
      | (go_at_call 15; refine (kf2 _).mono ?_; rintro e v3 ⟨rfl, g⟩; replace g : Below v2.heap.size v2 v3 := ⟨g.os, g.tape, g.output, g.size, g.block⟩; replace bW := sp_call bW g; replace x0 := sp_cell_on g x0; replace x1 := sp_cell_on g x1; replace x2 := sp_cell_on g x2; replace x3 := sp_cell_on g x3; replace x4 := sp_cell_on g x4; replace x5 := sp_cell_on g x5; replace x6 := sp_cell_on g x6; clear g)
      | (go_at_call 17; refine (k2 _).mono ?_; rintro e v4 ⟨rfl, g⟩; replace g : Below v3.heap.size v3 v4 := ⟨g.os, g.tape, g.output, g.size, g.block⟩; replace bW := sp_call bW g; replace x0 := sp_cell_on g x0; replace x1 := sp_cell_on g x1; replace x2 := sp_cell_on g x2; replace x3 := sp_cell_on g x3; replace x4 := sp_cell_on g x4; replace x5 := sp_cell_on g x5; replace x6 := sp_cell_on g x6; clear g)
      | fail)
  all_goals go_wp2
  all_goals go_ret
  all_goals exact ⟨rfl, bW⟩
set_option maxRecDepth 100000 in
set_option maxHeartbeats 6400000 in
theorem tright_f (p f : Int) (e1 : Bool) (a b : Int) (e2 : Bool) (c d : Int) (kf : ∀ V, Calls Tryz.prog 15 #[.int .i64 p] V fun e w' => e = .returned (.int .i64 f) ∧ Below V.heap.size V w') (k1 : ∀ V, Calls Tryz.prog 17 #[.int .i64 f, .agg #[.bool e1, .int .u64 a, .int .u64 b]] V fun e w' => e = .returned (.bool false) ∧ Below V.heap.size V w') (w : World) : Calls Tryz.prog 22 #[.agg #[.int .i64 p, .bool e1, .int .u64 a, .int .u64 b, .bool e2, .int .u64 c, .int .u64 d]] w fun e w' => e = .returned (.bool false) ∧ Below w.heap.size w w' := by
  go_enter Tryz.func22, Tryz.ntmps22
  go_wp2_with fail
  obtain ⟨W, hW⟩ : ∃ W, (w.alloc (.cells #[.int .i64 p, .bool e1, .int .u64 a, .int .u64 b, .bool e2, .int .u64 c, .int .u64 d] 27)) = W := ⟨_, rfl⟩
  have x0 : W.cell? ⟨w.heap.size, 0, none⟩ = some (.int .i64 p) := by rw [← hW]; simp [go_sem]
  have x1 : W.cell? ⟨w.heap.size, 1, none⟩ = some (.bool e1) := by rw [← hW]; simp [go_sem]
  have x2 : W.cell? ⟨w.heap.size, 2, none⟩ = some (.int .u64 a) := by rw [← hW]; simp [go_sem]
  have x3 : W.cell? ⟨w.heap.size, 3, none⟩ = some (.int .u64 b) := by rw [← hW]; simp [go_sem]
  have x4 : W.cell? ⟨w.heap.size, 4, none⟩ = some (.bool e2) := by rw [← hW]; simp [go_sem]
  have x5 : W.cell? ⟨w.heap.size, 5, none⟩ = some (.int .u64 c) := by rw [← hW]; simp [go_sem]
  have x6 : W.cell? ⟨w.heap.size, 6, none⟩ = some (.int .u64 d) := by rw [← hW]; simp [go_sem]
  have bW : Below w.heap.size w W := by rw [← hW]; exact (sp_new (Below.refl _ _) _)
  have zW : W.heap.size = w.heap.size + 1 := by rw [← hW]; simp
  rw [hW]
  clear hW
  refine wp_region_held_drew (S := (fun w' => w'.cell? ⟨w.heap.size, 0, none⟩ = some (.int .i64 p) ∧ w'.cell? ⟨w.heap.size, 1, none⟩ = some (.bool e1) ∧ w'.cell? ⟨w.heap.size, 2, none⟩ = some (.int .u64 a) ∧ w'.cell? ⟨w.heap.size, 3, none⟩ = some (.int .u64 b) ∧ w'.cell? ⟨w.heap.size, 4, none⟩ = some (.bool e2) ∧ w'.cell? ⟨w.heap.size, 5, none⟩ = some (.int .u64 c) ∧ w'.cell? ⟨w.heap.size, 6, none⟩ = some (.int .u64 d))) (by kernel_rfl) ⟨x0, x1, x2, x3, x4, x5, x6⟩ (fun hH0 => ?_)
  refine wpAnyH_take (i := 0) (oi := _) (v := .pointer (some ⟨w.heap.size, 0, none⟩)) rfl (by kernel_rfl) (by kernel_rfl) (by kernel_rfl) (fun _ _ _ h => h) (Or.inl ⟨by rfl, fun w' hSw => by obtain ⟨z0, z1, z2, z3, z4, z5, z6⟩ := hSw; go_simp⟩) hH0 ?_
  simp only [Act.put, List.getElem_toArray, List.getElem_cons_zero, List.getElem_cons_succ, List.setIfInBounds_toArray, List.set_cons_zero, List.set_cons_succ]
  refine wpAnyH_take (i := 1) (oi := _) (v := .int .i64 p) rfl (by kernel_rfl) (by kernel_rfl) (by kernel_rfl) (fun _ _ _ h => h) (Or.inl ⟨by rfl, fun w' hSw => by obtain ⟨z0, z1, z2, z3, z4, z5, z6⟩ := hSw; go_simp⟩) hH0 ?_
  simp only [Act.put, List.getElem_toArray, List.getElem_cons_zero, List.getElem_cons_succ, List.setIfInBounds_toArray, List.set_cons_zero, List.set_cons_succ]
  refine wpAnyH_take (i := 3) (oi := _) (v := .pointer (some ⟨w.heap.size, 1, none⟩)) rfl (by kernel_rfl) (by kernel_rfl) (by kernel_rfl) (fun _ _ _ h => h) (Or.inl ⟨by rfl, fun w' hSw => by obtain ⟨z0, z1, z2, z3, z4, z5, z6⟩ := hSw; go_simp⟩) hH0 ?_
  simp only [Act.put, List.getElem_toArray, List.getElem_cons_zero, List.getElem_cons_succ, List.setIfInBounds_toArray, List.set_cons_zero, List.set_cons_succ]
  refine wpAnyH_take (i := 4) (oi := _) (v := .agg #[.bool e1, .int .u64 a, .int .u64 b]) rfl (by kernel_rfl) (by kernel_rfl) (by kernel_rfl) (fun _ _ _ h => h) (Or.inl ⟨by rfl, fun w' hSw => by obtain ⟨z0, z1, z2, z3, z4, z5, z6⟩ := hSw; go_simp⟩) hH0 ?_
  simp only [Act.put, List.getElem_toArray, List.getElem_cons_zero, List.getElem_cons_succ, List.setIfInBounds_toArray, List.set_cons_zero, List.set_cons_succ]
  refine wpAnyH_ready (rs := [2]) (by kernel_rfl) (by simp) (AllReadyH.cons (o := _) rfl (fun K hK => ?_) AllReadyH.nil)
  go_simp
  refine (kf _).mono ?_
  rintro e v1 ⟨rfl, g1⟩
  replace g1 : Below W.heap.size W v1 := ⟨g1.os, g1.tape, g1.output, g1.size, g1.block⟩
  replace x0 := sp_cell_on g1 x0; replace x1 := sp_cell_on g1 x1; replace x2 := sp_cell_on g1 x2; replace x3 := sp_cell_on g1 x3; replace x4 := sp_cell_on g1 x4; replace x5 := sp_cell_on g1 x5; replace x6 := sp_cell_on g1 x6
  replace bW := sp_call bW g1
  go_wp2_with fail
  refine hK.out _ _ ⟨x0, x1, x2, x3, x4, x5, x6⟩ (fun hH1 => ?_)
  clear hK K hH0
  try simp only [Act.put, List.getElem_toArray, List.getElem_cons_zero, List.getElem_cons_succ, List.setIfInBounds_toArray, List.set_cons_zero, List.set_cons_succ]
  refine wpAnyH_ready (rs := [5]) (by kernel_rfl) (by simp) (AllReadyH.cons (o := _) rfl (fun K hK => ?_) AllReadyH.nil)
  go_simp
  refine (k1 _).mono ?_
  rintro e v2 ⟨rfl, g2⟩
  replace g2 : Below v1.heap.size v1 v2 := ⟨g2.os, g2.tape, g2.output, g2.size, g2.block⟩
  replace x0 := sp_cell_on g2 x0; replace x1 := sp_cell_on g2 x1; replace x2 := sp_cell_on g2 x2; replace x3 := sp_cell_on g2 x3; replace x4 := sp_cell_on g2 x4; replace x5 := sp_cell_on g2 x5; replace x6 := sp_cell_on g2 x6
  replace bW := sp_call bW g2
  go_wp2_with fail
  refine hK.out _ _ ⟨x0, x1, x2, x3, x4, x5, x6⟩ (fun hH2 => ?_)
  clear hK K hH1
  try simp only [Act.put, List.getElem_toArray, List.getElem_cons_zero, List.getElem_cons_succ, List.setIfInBounds_toArray, List.set_cons_zero, List.set_cons_succ]
  refine wpAnyH_take (i := 6) (oi := _) (v := .bool false) rfl (by kernel_rfl) (by kernel_rfl) (by kernel_rfl) (fun _ _ _ h => h) (Or.inl ⟨by rfl, fun w' hSw => by obtain ⟨z0, z1, z2, z3, z4, z5, z6⟩ := hSw; go_simp⟩) hH2 ?_
  simp only [Act.put, List.getElem_toArray, List.getElem_cons_zero, List.getElem_cons_succ, List.setIfInBounds_toArray, List.set_cons_zero, List.set_cons_succ]
  refine wpAnyH_take (i := 7) (oi := _) (v := undef) rfl (by kernel_rfl) (by kernel_rfl) (by kernel_rfl) (fun _ _ _ h => h) (Or.inr ⟨by rfl, rfl⟩) hH2 ?_
  simp only [Act.put, List.getElem_toArray, List.getElem_cons_zero, List.getElem_cons_succ, List.setIfInBounds_toArray, List.set_cons_zero, List.set_cons_succ]
  refine wpAnyH_take (i := 8) (oi := _) (v := undef) rfl (by kernel_rfl) (by kernel_rfl) (by kernel_rfl) (fun _ _ _ h => h) (Or.inr ⟨by rfl, rfl⟩) hH2 ?_
  simp only [Act.put, List.getElem_toArray, List.getElem_cons_zero, List.getElem_cons_succ, List.setIfInBounds_toArray, List.set_cons_zero, List.set_cons_succ]
  refine wpAnyH_take (i := 9) (oi := _) (v := undef) rfl (by kernel_rfl) (by kernel_rfl) (by kernel_rfl) (fun _ _ _ h => h) (Or.inr ⟨by rfl, rfl⟩) hH2 ?_
  simp only [Act.put, List.getElem_toArray, List.getElem_cons_zero, List.getElem_cons_succ, List.setIfInBounds_toArray, List.set_cons_zero, List.set_cons_succ]
  refine wpAnyH_take (i := 10) (oi := _) (v := undef) rfl (by kernel_rfl) (by kernel_rfl) (by kernel_rfl) (fun _ _ _ h => h) (Or.inr ⟨by rfl, rfl⟩) hH2 ?_
  simp only [Act.put, List.getElem_toArray, List.getElem_cons_zero, List.getElem_cons_succ, List.setIfInBounds_toArray, List.set_cons_zero, List.set_cons_succ]
  refine wpAnyH_take (i := 11) (oi := _) (v := undef) rfl (by kernel_rfl) (by kernel_rfl) (by kernel_rfl) (fun _ _ _ h => h) (Or.inr ⟨by rfl, rfl⟩) hH2 ?_
  simp only [Act.put, List.getElem_toArray, List.getElem_cons_zero, List.getElem_cons_succ, List.setIfInBounds_toArray, List.set_cons_zero, List.set_cons_succ]
  refine wpAnyH_take (i := 12) (oi := _) (v := undef) rfl (by kernel_rfl) (by kernel_rfl) (by kernel_rfl) (fun _ _ _ h => h) (Or.inr ⟨by rfl, rfl⟩) hH2 ?_
  simp only [Act.put, List.getElem_toArray, List.getElem_cons_zero, List.getElem_cons_succ, List.setIfInBounds_toArray, List.set_cons_zero, List.set_cons_succ]
  refine wpAnyH_take (i := 13) (oi := _) (v := .bool false) rfl (by kernel_rfl) (by kernel_rfl) (by kernel_rfl) (fun _ _ _ h => h) (Or.inl ⟨by rfl, fun w' hSw => by obtain ⟨z0, z1, z2, z3, z4, z5, z6⟩ := hSw; go_simp⟩) hH2 ?_
  simp only [Act.put, List.getElem_toArray, List.getElem_cons_zero, List.getElem_cons_succ, List.setIfInBounds_toArray, List.set_cons_zero, List.set_cons_succ]
  refine wpAnyH_take (i := 14) (oi := _) (v := .bool false) rfl (by kernel_rfl) (by kernel_rfl) (by kernel_rfl) (fun _ _ _ h => h) (Or.inl ⟨by rfl, fun w' hSw => by obtain ⟨z0, z1, z2, z3, z4, z5, z6⟩ := hSw; go_simp⟩) hH2 ?_
  simp only [Act.put, List.getElem_toArray, List.getElem_cons_zero, List.getElem_cons_succ, List.setIfInBounds_toArray, List.set_cons_zero, List.set_cons_succ]
  refine wpAnyH_done (by kernel_rfl) ?_ _
  go_wp2_with fail
  go_ret
  exact ⟨rfl, bW⟩
end Go.Proofs.YtdehcmajhdhcaaaGreat


namespace Go.Proofs.YtdehcmajhdhcaaaGreat
open Go.RowKit
set_option linter.unusedVariables false
set_option linter.unusedSimpArgs false
set_option maxRecDepth 100000 in
set_option maxHeartbeats 6400000 in
theorem fwithin_of (f : Int) (e1 : Bool) (a b : Int) (e2 : Bool) (c d : Int) (r : Bool) (h : ∀ L B w0, FlAt f L B w0 → ∀ V, Below B w0 V → Calls Tryz.prog 87 #[.agg (lvf L), .agg #[.bool e1, .int .u64 a, .int .u64 b], .agg #[.bool e2, .int .u64 c, .int .u64 d]] V fun e w' => e = .returned (.bool r) ∧ Below V.heap.size V w') (w : World) :
    Calls Tryz.prog 30 #[.int .i64 f, .agg #[.bool e1, .int .u64 a, .int .u64 b], .agg #[.bool e2, .int .u64 c, .int .u64 d]] w fun e w' => e = .returned (.bool r) ∧ Below w.heap.size w w' := by
  have h1 := floats_at f
  have ho1 := ofFloats_any
  have ho2 := ofFloats_any
  go_enter Tryz.func30, Tryz.ntmps30
  go_wp2_with fail
  obtain ⟨W, hW⟩ : ∃ W, ((w.alloc (.cells #[.bool e1, .int .u64 a, .int .u64 b] 25)).alloc (.cells #[.bool e2, .int .u64 c, .int .u64 d] 25)) = W := ⟨_, rfl⟩
  have a0 : W.cell? ⟨w.heap.size, 0, none⟩ = some (.bool e1) := by rw [← hW]; simp [go_sem]
  have a1 : W.cell? ⟨w.heap.size, 1, none⟩ = some (.int .u64 a) := by rw [← hW]; simp [go_sem]
  have a2 : W.cell? ⟨w.heap.size, 2, none⟩ = some (.int .u64 b) := by rw [← hW]; simp [go_sem]
  have b0 : W.cell? ⟨w.heap.size + 1, 0, none⟩ = some (.bool e2) := by rw [← hW]; simp [go_sem]
  have b1 : W.cell? ⟨w.heap.size + 1, 1, none⟩ = some (.int .u64 c) := by rw [← hW]; simp [go_sem]
  have b2 : W.cell? ⟨w.heap.size + 1, 2, none⟩ = some (.int .u64 d) := by rw [← hW]; simp [go_sem]
  have bW : Below w.heap.size w W := by rw [← hW]; exact (sp_new (sp_new (Below.refl _ _) _) _)
  have zW : W.heap.size = w.heap.size + 2 := by rw [← hW]; simp
  rw [hW]
  clear hW
  go_region_held3 (fun w' => w'.cell? ⟨w.heap.size, 0, none⟩ = some (.bool e1) ∧ w'.cell? ⟨w.heap.size, 1, none⟩ = some (.int .u64 a) ∧ w'.cell? ⟨w.heap.size, 2, none⟩ = some (.int .u64 b) ∧ w'.cell? ⟨w.heap.size + 1, 0, none⟩ = some (.bool e2) ∧ w'.cell? ⟨w.heap.size + 1, 1, none⟩ = some (.int .u64 c) ∧ w'.cell? ⟨w.heap.size + 1, 2, none⟩ = some (.int .u64 d)) (exact ⟨a0, a1, a2, b0, b1, b2⟩)
    (first
      | (go_at_call 74; refine (h1 _).mono ?_; rintro e v1 ⟨L, rfl, hL, g⟩; replace g : Below W.heap.size W v1 := ⟨g.os, g.tape, g.output, g.size, g.block⟩; replace bW := sp_call bW g; replace a0 := sp_cell_on g a0; replace a1 := sp_cell_on g a1; replace a2 := sp_cell_on g a2; replace b0 := sp_cell_on g b0; replace b1 := sp_cell_on g b1; replace b2 := sp_cell_on g b2; have oL : Below v1.heap.size v1 v1 := Below.refl _ _; clear g)
      | (go_at_call 76; refine (ho1 _ _ _ _).mono ?_; rintro e v2 ⟨rfl, g⟩; replace g : Below v1.heap.size v1 v2 := ⟨g.os, g.tape, g.output, g.size, g.block⟩; replace bW := sp_call bW g; replace a0 := sp_cell_on g a0; replace a1 := sp_cell_on g a1; replace a2 := sp_cell_on g a2; replace b0 := sp_cell_on g b0; replace b1 := sp_cell_on g b1; replace b2 := sp_cell_on g b2; replace oL := sp_call oL g; clear g; clear ho1)
      | (go_at_call 76; refine (ho2 _ _ _ _).mono ?_; rintro e v3 ⟨rfl, g⟩; replace g : Below v2.heap.size v2 v3 := ⟨g.os, g.tape, g.output, g.size, g.block⟩; replace bW := sp_call bW g; replace a0 := sp_cell_on g a0; replace a1 := sp_cell_on g a1; replace a2 := sp_cell_on g a2; replace b0 := sp_cell_on g b0; replace b1 := sp_cell_on g b1; replace b2 := sp_cell_on g b2; replace oL := sp_call oL g; clear g)
      | (go_at_call 87; refine (h L _ _ hL _ (by first | exact oL | exact oL.drew)).mono ?_; rintro e v9 ⟨rfl, g⟩; replace g : Below v3.heap.size v3 v9 := ⟨g.os, g.tape, g.output, g.size, g.block⟩; replace bW := sp_call bW g; replace a0 := sp_cell_on g a0; replace a1 := sp_cell_on g a1; replace a2 := sp_cell_on g a2; replace b0 := sp_cell_on g b0; replace b1 := sp_cell_on g b1; replace b2 := sp_cell_on g b2; clear g)
      | fail)
  all_goals go_wp2
  all_goals go_ret
  all_goals exact ⟨rfl, bW⟩
set_option maxRecDepth 100000 in
set_option maxHeartbeats 6400000 in
theorem joinF_of (f : Int) (e1 : Bool) (a b : Int) (e2 : Bool) (c d : Int) (me : Bool) (mlo mhi : Int) (h : ∀ L B w0, FlAt f L B w0 → ∀ V, Below B w0 V → Calls Tryz.prog 86 #[.agg (lvf L), .agg #[.bool e1, .int .u64 a, .int .u64 b], .agg #[.bool e2, .int .u64 c, .int .u64 d]] V fun e w' => e = .returned (.agg #[.bool me, .int .u64 mlo, .int .u64 mhi]) ∧ Below V.heap.size V w') (w : World) :
    Calls Tryz.prog 28 #[.int .i64 f, .agg #[.bool e1, .int .u64 a, .int .u64 b], .agg #[.bool e2, .int .u64 c, .int .u64 d]] w fun e w' => e = .returned (.agg #[.bool me, .int .u64 mlo, .int .u64 mhi]) ∧ Below w.heap.size w w' := by
  have h1 := floats_at f
  have h5 := floatRange_any me mlo mhi
  have ho1 := ofFloats_any
  have ho2 := ofFloats_any
  go_enter Tryz.func28, Tryz.ntmps28
  go_wp2_with fail
  obtain ⟨W, hW⟩ : ∃ W, (((w.alloc (.cells #[.bool e1, .int .u64 a, .int .u64 b] 25)).alloc (.cells #[.bool e2, .int .u64 c, .int .u64 d] 25)).alloc (.cells #[.bool false, .int .u64 0, .int .u64 0] 25)) = W := ⟨_, rfl⟩
  have a0 : W.cell? ⟨w.heap.size, 0, none⟩ = some (.bool e1) := by rw [← hW]; simp [go_sem]
  have a1 : W.cell? ⟨w.heap.size, 1, none⟩ = some (.int .u64 a) := by rw [← hW]; simp [go_sem]
  have a2 : W.cell? ⟨w.heap.size, 2, none⟩ = some (.int .u64 b) := by rw [← hW]; simp [go_sem]
  have b0 : W.cell? ⟨w.heap.size + 1, 0, none⟩ = some (.bool e2) := by rw [← hW]; simp [go_sem]
  have b1 : W.cell? ⟨w.heap.size + 1, 1, none⟩ = some (.int .u64 c) := by rw [← hW]; simp [go_sem]
  have b2 : W.cell? ⟨w.heap.size + 1, 2, none⟩ = some (.int .u64 d) := by rw [← hW]; simp [go_sem]
  have r0 : W.cell? ⟨w.heap.size + 1 + 1, 0, none⟩ = some (.bool false) := by rw [← hW]; simp [go_sem]
  have r1 : W.cell? ⟨w.heap.size + 1 + 1, 1, none⟩ = some (.int .u64 0) := by rw [← hW]; simp [go_sem]
  have r2 : W.cell? ⟨w.heap.size + 1 + 1, 2, none⟩ = some (.int .u64 0) := by rw [← hW]; simp [go_sem]
  have bW : Below w.heap.size w W := by rw [← hW]; exact (sp_new (sp_new (sp_new (Below.refl _ _) _) _) _)
  have zW : W.heap.size = w.heap.size + 3 := by rw [← hW]; simp
  have fz : ∀ j, W.frozen? ⟨w.heap.size + 1 + 1, j, none⟩ = false := by intro j; rw [← hW]; simp [go_sem]
  rw [hW]
  clear hW
  replace zW := Nat.le_of_eq zW.symm
  go_region_held3 (fun w' => w'.cell? ⟨w.heap.size, 0, none⟩ = some (.bool e1) ∧ w'.cell? ⟨w.heap.size, 1, none⟩ = some (.int .u64 a) ∧ w'.cell? ⟨w.heap.size, 2, none⟩ = some (.int .u64 b) ∧ w'.cell? ⟨w.heap.size + 1, 0, none⟩ = some (.bool e2) ∧ w'.cell? ⟨w.heap.size + 1, 1, none⟩ = some (.int .u64 c) ∧ w'.cell? ⟨w.heap.size + 1, 2, none⟩ = some (.int .u64 d)) (first | exact ⟨a0, a1, a2, b0, b1, b2⟩ | exact ⟨sp_keep3 a0 (by omega) _ _ _, sp_keep3 a1 (by omega) _ _ _, sp_keep3 a2 (by omega) _ _ _, sp_keep3 b0 (by omega) _ _ _, sp_keep3 b1 (by omega) _ _ _, sp_keep3 b2 (by omega) _ _ _⟩)
    (first
      | (go_at_call 74; refine (h1 _).mono ?_; rintro e v1 ⟨L, rfl, hL, g⟩; replace g : Below W.heap.size W v1 := ⟨g.os, g.tape, g.output, g.size, g.block⟩; replace a0 := sp_cell_on g a0; replace a1 := sp_cell_on g a1; replace a2 := sp_cell_on g a2; replace b0 := sp_cell_on g b0; replace b1 := sp_cell_on g b1; replace b2 := sp_cell_on g b2; replace r0 := sp_cell_on g r0; replace r1 := sp_cell_on g r1; replace r2 := sp_cell_on g r2; replace bW := sp_call bW g; replace fz : ∀ j, v1.frozen? ⟨w.heap.size + 1 + 1, j, none⟩ = false := fun j => (g.frozen (p := ⟨w.heap.size + 1 + 1, j, none⟩) (by simp; omega)).trans (fz j); have z_v1 := g.size; have oL : Below v1.heap.size v1 v1 := Below.refl _ _; clear g)
      | (go_at_call 76; refine (ho1 _ _ _ _).mono ?_; rintro e v2 ⟨rfl, g⟩; replace g : Below v1.heap.size v1 v2 := ⟨g.os, g.tape, g.output, g.size, g.block⟩; replace a0 := sp_cell_on g a0; replace a1 := sp_cell_on g a1; replace a2 := sp_cell_on g a2; replace b0 := sp_cell_on g b0; replace b1 := sp_cell_on g b1; replace b2 := sp_cell_on g b2; replace r0 := sp_cell_on g r0; replace r1 := sp_cell_on g r1; replace r2 := sp_cell_on g r2; replace bW := sp_call bW g; replace fz : ∀ j, v2.frozen? ⟨w.heap.size + 1 + 1, j, none⟩ = false := fun j => (g.frozen (p := ⟨w.heap.size + 1 + 1, j, none⟩) (by simp; omega)).trans (fz j); have z_v2 := g.size; replace oL := sp_call oL g; clear g; clear ho1)
      | (go_at_call 76; refine (ho2 _ _ _ _).mono ?_; rintro e v3 ⟨rfl, g⟩; replace g : Below v2.heap.size v2 v3 := ⟨g.os, g.tape, g.output, g.size, g.block⟩; replace a0 := sp_cell_on g a0; replace a1 := sp_cell_on g a1; replace a2 := sp_cell_on g a2; replace b0 := sp_cell_on g b0; replace b1 := sp_cell_on g b1; replace b2 := sp_cell_on g b2; replace r0 := sp_cell_on g r0; replace r1 := sp_cell_on g r1; replace r2 := sp_cell_on g r2; replace bW := sp_call bW g; replace fz : ∀ j, v3.frozen? ⟨w.heap.size + 1 + 1, j, none⟩ = false := fun j => (g.frozen (p := ⟨w.heap.size + 1 + 1, j, none⟩) (by simp; omega)).trans (fz j); have z_v3 := g.size; replace oL := sp_call oL g; clear g)
      | (go_at_call 86; refine (h L _ _ hL _ (by first | exact oL | exact oL.drew)).mono ?_; rintro e v4 ⟨rfl, g⟩; replace g : Below v3.heap.size v3 v4 := ⟨g.os, g.tape, g.output, g.size, g.block⟩; replace a0 := sp_cell_on g a0; replace a1 := sp_cell_on g a1; replace a2 := sp_cell_on g a2; replace b0 := sp_cell_on g b0; replace b1 := sp_cell_on g b1; replace b2 := sp_cell_on g b2; replace r0 := sp_cell_on g r0; replace r1 := sp_cell_on g r1; replace r2 := sp_cell_on g r2; replace bW := sp_call bW g; replace fz : ∀ j, v4.frozen? ⟨w.heap.size + 1 + 1, j, none⟩ = false := fun j => (g.frozen (p := ⟨w.heap.size + 1 + 1, j, none⟩) (by simp; omega)).trans (fz j); have z_v4 := g.size; clear g)
      | (go_at_call 78; refine (h5 _).mono ?_; rintro e v5 ⟨rfl, g⟩; replace g : Below v4.heap.size v4 v5 := ⟨g.os, g.tape, g.output, g.size, g.block⟩; replace a0 := sp_cell_on g a0; replace a1 := sp_cell_on g a1; replace a2 := sp_cell_on g a2; replace b0 := sp_cell_on g b0; replace b1 := sp_cell_on g b1; replace b2 := sp_cell_on g b2; replace r0 := sp_cell_on g r0; replace r1 := sp_cell_on g r1; replace r2 := sp_cell_on g r2; replace bW := sp_call bW g; replace fz : ∀ j, v5.frozen? ⟨w.heap.size + 1 + 1, j, none⟩ = false := fun j => (g.frozen (p := ⟨w.heap.size + 1 + 1, j, none⟩) (by simp; omega)).trans (fz j); have z_v5 := g.size; clear g)
      | fail)
  all_goals go_wp2
  all_goals exact bodyPost_ret (v := .agg #[.bool me, .int .u64 mlo, .int .u64 mhi]) (by simp [results, Tryz.results28, go_sem, r0, r1, r2]) rfl ⟨rfl, sp_set3 bW (by omega) _ _ _⟩
theorem joinF_any (f : Int) (e1 : Bool) (a b : Int) (e2 : Bool) (c d : Int) (ha : Word a) (hb : Word b) (hc : Word c) (hd : Word d) (w : World) :
    Calls Tryz.prog 28 #[.int .i64 f, .agg #[.bool e1, .int .u64 a, .int .u64 b], .agg #[.bool e2, .int .u64 c, .int .u64 d]] w fun e w' => e = .returned (.agg #[.bool (joinP (WyF (f == 1)) (e1, a, b) (e2, c, d)).1, .int .u64 (joinP (WyF (f == 1)) (e1, a, b) (e2, c, d)).2.1, .int .u64 (joinP (WyF (f == 1)) (e1, a, b) (e2, c, d)).2.2]) ∧ Below w.heap.size w w' :=
  joinF_of f e1 a b e2 c d _ _ _ (fun L B w0 hL V ok => join_f (fl_acts hL) e1 e2 a b c d ha hb hc hd V ok) w
theorem withinF_any (f : Int) (e1 : Bool) (a b : Int) (e2 : Bool) (c d : Int) (ha : Word a) (hb : Word b) (hc : Word c) (hd : Word d) (w : World) :
    Calls Tryz.prog 30 #[.int .i64 f, .agg #[.bool e1, .int .u64 a, .int .u64 b], .agg #[.bool e2, .int .u64 c, .int .u64 d]] w fun e w' => e = .returned (.bool (withinP (WyF (f == 1)) (e1, a, b) (e2, c, d))) ∧ Below w.heap.size w w' :=
  fwithin_of f e1 a b e2 c d _ (fun L B w0 hL V ok => within_f (fl_acts hL) e1 e2 a b c d ha hb hc hd V ok) w
end Go.Proofs.YtdehcmajhdhcaaaGreat


namespace Go.Proofs.YtdehcmajhdhcaaaGreat
open Go.RowKit
set_option linter.unusedVariables false
set_option linter.unusedSimpArgs false
/-- The pair is right just if both ranges are. -/
theorem mright_any (p : Int) (s : Bool) (hs : (p == 1) = s) (e1 : Bool) (a b : Int) (e2 : Bool) (c d : Int) (ha : Word a) (hb : Word b) (hc : Word c) (hd : Word d) (w : World) :
    Calls Tryz.prog 22 #[.agg #[.int .i64 p, .bool e1, .int .u64 a, .int .u64 b, .bool e2, .int .u64 c, .int .u64 d]] w fun e w' => e = .returned (.bool (rRF s e1 a b && rRF s e2 c d)) ∧ Below w.heap.size w w' := by
  have KF : ∀ V, Calls Tryz.prog 15 #[.int .i64 p] V fun e w' => e = .returned (.int .i64 (fb s)) ∧ Below V.heap.size V w' := fun V => by
    have := format8 p V
    rw [hs] at this
    exact this.mono fun e w' h => b_eq h
  have R1 := rrightF_any s e1 a b ha hb
  have R2 := rrightF_any s e2 c d hc hd
  cases r1 : rRF s e1 a b
  · rw [r1] at R1
    exact tright_f p (fb s) e1 a b e2 c d KF R1 w
  · rw [r1] at R1
    exact tright_t p (fb s) e1 a b e2 c d _ KF R1 R2 w
/-- Of an empty range nothing is told. -/
theorem twoN_any (f op : Int) (hop : op = 8 ∨ op = 9 ∨ op = 10 ∨ op = 11) (e1 e2 : Bool) (he : (e1 || e2) = true) (a b c d : Int) (w : World) :
    Calls Tryz.prog 34 #[.int .i64 f, .int .i64 op, .agg #[.bool e1, .int .u64 a, .int .u64 b], .agg #[.bool e2, .int .u64 c, .int .u64 d]] w fun e w' => e = .returned (.tuple #[.agg #[.bool true, .int .u64 0, .int .u64 0], .int .i64 0]) ∧ Below w.heap.size w w' :=
  ftwo_of f op e1 e2 a b c d _ _ _ _ (fun L B w0 hL V ok => twoN_f (fl_acts hL) (et_f hL) op _ _ (by2_f hL op hop) e1 e2 he a b c d V ok) w
/-- Of two right ranges a right range is told. -/
theorem two_some (s : Bool) (op : Int) (hop : op = 8 ∨ op = 9 ∨ op = 10 ∨ op = 11) (e1 e2 : Bool) (a b c d : Int) (ha : Word a) (hb : Word b) (hc : Word c) (hd : Word d) (r1 : rRF s e1 a b = true) (r2 : rRF s e2 c d = true) :
    ∃ (E : Bool) (l h T : Int), Word l ∧ Word h ∧ ∀ w, Calls Tryz.prog 34 #[.int .i64 (fb s), .int .i64 op, .agg #[.bool e1, .int .u64 a, .int .u64 b], .agg #[.bool e2, .int .u64 c, .int .u64 d]] w fun e w' => e = .returned (.tuple #[.agg #[.bool E, .int .u64 l, .int .u64 h], .int .i64 T]) ∧ Below w.heap.size w w' := by
  have t := fI_two s
  cases he : (e1 || e2)
  · obtain ⟨rfl, rfl⟩ : e1 = false ∧ e2 = false := by simpa using he
    obtain ⟨a', b', a1, ab, b2, rfl, rfl⟩ := right_mk ha hb r1
    obtain ⟨c', d', c1, cd, d2, rfl, rfl⟩ := right_mk hc hd r2
    have K := twoF_any (fb s) op hop (mk s a') (mk s b') (mk s c') (mk s d') ha hb hc hd
    rw [fb_eq] at K
    rcases more_range hop a1 (Int.le_refl _) ab (Int.le_refl _) b2 c1 (Int.le_refl _) cd (Int.le_refl _) d2 with e | ⟨l, h, l1, lh, h2, e, _⟩
    · rw [e] at K; exact ⟨_, _, _, _, word_0, word_0, K⟩
    · rw [e] at K; exact ⟨_, _, _, _, mk_word (by omega) (by omega), mk_word (by omega) (by omega), K⟩
  · exact ⟨_, _, _, _, word_0, word_0, twoN_any (fb s) op hop e1 e2 he a b c d⟩
theorem join_right {s e1 e2 : Bool} {a b c d : Int} (ha : Word a) (hb : Word b) (hc : Word c) (hd : Word d) (r1 : rRF s e1 a b = true) (r2 : rRF s e2 c d = true) :
    rRF s (joinP (WyF s) (e1, a, b) (e2, c, d)).1 (joinP (WyF s) (e1, a, b) (e2, c, d)).2.1 (joinP (WyF s) (e1, a, b) (e2, c, d)).2.2 = true ∧ Word (joinP (WyF s) (e1, a, b) (e2, c, d)).2.1 ∧ Word (joinP (WyF s) (e1, a, b) (e2, c, d)).2.2 := by
  have t := fI_two s
  cases e1
  · obtain ⟨a', b', a1, ab, b2, rfl, rfl⟩ := right_mk ha hb r1
    obtain ⟨r', q', e, h1, h2, h3, h4⟩ := join_mk hc hd a1 ab b2 r2
    rw [e]
    refine ⟨?_, mk_word (by omega) (by omega), mk_word (by omega) (by omega)⟩
    rw [← right_same]
    unfold rightP
    simp only [Bool.false_eq_true, if_false]
    rw [one_mk (by omega) (by omega), one_mk (by omega) (by omega), ord_mk (by omega) (by omega) (by omega) (by omega)]
    simp only [Bool.true_and]
    exact decide_eq_true ((ordI_le _ _).2 (by omega))
  · exact ⟨r2, hc, hd⟩
set_option maxRecDepth 100000 in
theorem law_more (op p : Int) (e1 : Bool) (a b : Int) (e2 : Bool) (c d p2 : Int) (e3 : Bool) (a3 b3 : Int) (e4 : Bool) (c4 d4 : Int) (ha : Word a) (hb : Word b) (hc : Word c) (hd : Word d) (ha3 : Word a3) (hb3 : Word b3) (hc4 : Word c4) (hd4 : Word d4) (w : World) :
    Calls Tryz.prog 13 #[.int .i64 op, .agg #[.int .i64 p, .bool e1, .int .u64 a, .int .u64 b, .bool e2, .int .u64 c, .int .u64 d], .agg #[.int .i64 p2, .bool e3, .int .u64 a3, .int .u64 b3, .bool e4, .int .u64 c4, .int .u64 d4]] w fun e w' => e = .returned (.bool true) ∧ Below w.heap.size w w' := by
  obtain ⟨s, hs⟩ : ∃ s, (p == 1) = s := ⟨_, rfl⟩
  have KF : ∀ V, Calls Tryz.prog 15 #[.int .i64 p] V fun e w' => e = .returned (.int .i64 (fb s)) ∧ Below V.heap.size V w' := fun V => by
    have := format8 p V
    rw [hs] at this
    exact this.mono fun e w' h => b_eq h
  refine mo_all op p (fb s) p2 e1 a b e2 c d e3 a3 b3 e4 c4 d4 _ _ KF (mright_any p s hs e1 a b e2 c d ha hb hc hd) (mright_any p s hs e3 a3 b3 e4 c4 d4 ha3 hb3 hc4 hd4) live_any (fun rx ry h0 h1 => ?_) w
  have hop : op = 8 ∨ op = 9 ∨ op = 10 ∨ op = 11 := by omega
  have t := fI_two s
  rw [Bool.and_eq_true] at rx ry
  have J1 := joinF_any (fb s) e1 a b e3 a3 b3 ha hb ha3 hb3
  have J2 := joinF_any (fb s) e2 c d e4 c4 d4 hc hd hc4 hd4
  rw [fb_eq] at J1 J2
  obtain ⟨ra, wa1, wa2⟩ := join_right ha hb ha3 hb3 rx.1 ry.1
  obtain ⟨rb, wb1, wb2⟩ := join_right hc hd hc4 hd4 rx.2 ry.2
  cases he : (e1 || e2)
  · obtain ⟨rfl, rfl⟩ : e1 = false ∧ e2 = false := by simpa using he
    obtain ⟨a', b', a1, ab, b2, rfl, rfl⟩ := right_mk ha hb rx.1
    obtain ⟨c', d', c1, cd, d2, rfl, rfl⟩ := right_mk hc hd rx.2
    obtain ⟨u, v, ej, u1, ua, bv, v2⟩ := join_mk ha3 hb3 a1 ab b2 ry.1
    obtain ⟨x, y, ek, x1, xc, dy, y2⟩ := join_mk hc4 hd4 c1 cd d2 ry.2
    rw [ej] at J1
    rw [ek] at J2
    have K1 := twoF_any (fb s) op hop (mk s a') (mk s b') (mk s c') (mk s d') ha hb hc hd
    have K2 := twoF_any (fb s) op hop (mk s u) (mk s v) (mk s x) (mk s y) (mk_word (by omega) (by omega)) (mk_word (by omega) (by omega)) (mk_word (by omega) (by omega)) (mk_word (by omega) (by omega))
    rw [fb_eq] at K1 K2
    have B := more_traps (s := s) hop u1 ua ab bv v2 x1 xc cd dy y2
    rcases more_range (s := s) hop u1 ua ab bv v2 x1 xc cd dy y2 with e | ⟨l, h, l1, lh, h2, e, l', h', m1, m2, m3, m4, e'⟩
    · rw [e] at K1
      obtain ⟨E, sl, sh, w1, w2, eS⟩ : ∃ (E : Bool) (sl sh : Int), Word sl ∧ Word sh ∧ rangeF s op (mk s u) (mk s v) (mk s x) (mk s y) = (E, sl, sh) := by
        rcases more_range (s := s) hop u1 (Int.le_refl u) (show u ≤ v by omega) (Int.le_refl v) v2 x1 (Int.le_refl x) (show x ≤ y by omega) (Int.le_refl y) y2 with q | ⟨l, h, l1, lh, h2, q, _⟩
        · exact ⟨_, _, _, word_0, word_0, q⟩
        · exact ⟨_, _, _, mk_word (by omega) (by omega), mk_word (by omega) (by omega), q⟩
      rw [eS] at K2
      have KW := withinF_any (fb s) true 0 0 E sl sh word_0 word_0 w1 w2
      exact ⟨_, _, _, _, _, _, _, _, _, _, _, _, _, _, J1, J2, K1, K2, KW, B⟩
    · rw [e] at K1
      rw [e'] at K2
      have KW := withinF_any (fb s) false (mk s l) (mk s h) false (mk s l') (mk s h') (mk_word (by omega) (by omega)) (mk_word (by omega) (by omega)) (mk_word (by omega) (by omega)) (mk_word (by omega) (by omega))
      rw [fb_eq, within_mk m1 m2 lh m3 m4] at KW
      exact ⟨_, _, _, _, _, _, _, _, _, _, _, _, _, _, J1, J2, K1, K2, KW, B⟩
  · have K1 := twoN_any (fb s) op hop e1 e2 he a b c d
    obtain ⟨E, l, h, T, w1, w2, K2⟩ := two_some s op hop _ _ _ _ _ _ wa1 wa2 wb1 wb2 ra rb
    have KW := withinF_any (fb s) true 0 0 E l h word_0 word_0 w1 w2
    exact ⟨_, _, _, _, _, _, _, _, _, _, _, _, _, _, J1, J2, K1, K2, KW, by
      show bits BinOp.and IntKind.i64 0 T = 0
      simp [bits]
      decide +kernel⟩
end Go.Proofs.YtdehcmajhdhcaaaGreat

