/- plumblineref08 of ints: intReckon, intCorners, what append makes of two rows, intWithout. -/
import Derived.Test.YthjoigkckgdcaaaGreatSpRo
import Derived.Laws.Append
import Derived.Deep.Upon
namespace Go.Proofs.YthjoigkckgdcaaaGreat
open Go.RowKit
set_option linter.unusedVariables false
set_option linter.unusedSimpArgs false
set_option maxRecDepth 100000 in
set_option maxHeartbeats 6400000 in
theorem rreck_add (x y : Int) (h : okI 8 x y) (w : World) : Calls Tryz.prog 212 #[.int .i64 8, .int .i64 x, .int .i64 y] w fun e w' => e = .returned (.int .i64 (gI 8 x y)) ∧ w' = w := by
  obtain ⟨h1, h2, h3, h4, h5⟩ := h
  clear h5
  go_enter Tryz.func212, Tryz.ntmps212
  go_wp2_with fail
  go_ret
  exact ⟨by simp [gI], rfl⟩
set_option maxRecDepth 100000 in
set_option maxHeartbeats 6400000 in
theorem rreck_sub (x y : Int) (h : okI 9 x y) (w : World) : Calls Tryz.prog 212 #[.int .i64 9, .int .i64 x, .int .i64 y] w fun e w' => e = .returned (.int .i64 (gI 9 x y)) ∧ w' = w := by
  obtain ⟨h1, h2, h3, h4, h5⟩ := h
  clear h5
  go_enter Tryz.func212, Tryz.ntmps212
  go_wp2_with fail
  go_ret
  exact ⟨by simp [gI], rfl⟩
set_option maxRecDepth 100000 in
set_option maxHeartbeats 6400000 in
theorem rreck_mul (x y : Int) (h : okI 10 x y) (w : World) : Calls Tryz.prog 212 #[.int .i64 10, .int .i64 x, .int .i64 y] w fun e w' => e = .returned (.int .i64 (gI 10 x y)) ∧ w' = w := by
  obtain ⟨h1, h2, h3, h4, h5⟩ := h
  obtain ⟨b1, b2⟩ := mulI_bound h1 h2 h3 h4
  clear h5
  go_enter Tryz.func212, Tryz.ntmps212
  go_wp2_with fail
  go_ret
  exact ⟨by simp [gI], rfl⟩
set_option maxRecDepth 100000 in
set_option maxHeartbeats 6400000 in
theorem rreck_div (x y : Int) (h : okI 11 x y) (w : World) : Calls Tryz.prog 212 #[.int .i64 11, .int .i64 x, .int .i64 y] w fun e w' => e = .returned (.int .i64 (gI 11 x y)) ∧ w' = w := by
  obtain ⟨h1, h2, h3, h4, h5⟩ := h
  have h6 : ¬ y = 0 := h5 rfl
  have h7 : (y == 0) = false := by simp [h6]
  have b : -2147483648 ≤ x.tdiv y ∧ x.tdiv y ≤ 2147483648 := by
    have a := Int.natAbs_tdiv_le_natAbs x y
    omega
  clear h5
  go_enter Tryz.func212, Tryz.ntmps212
  go_wp2_with fail
  go_ret
  exact ⟨by simp [gI], rfl⟩
theorem rreckI (op : Int) (hop : op = 8 ∨ op = 9 ∨ op = 10 ∨ op = 11) (x y : Int) (h : okI op x y) (w : World) : Calls Tryz.prog 212 #[.int .i64 op, .int .i64 x, .int .i64 y] w fun e w' => e = .returned (.int .i64 (gI op x y)) ∧ w' = w := by
  rcases hop with rfl | rfl | rfl | rfl
  · exact rreck_add x y h w
  · exact rreck_sub x y h w
  · exact rreck_mul x y h w
  · exact rreck_div x y h w
/-- A slice of ints without room: nil, or its numbers from a block's beginning on. -/
def RowI (w : World) (v : Value) (xs : List Int) : Prop := (v = .slice none 0 0 ∧ xs = []) ∨ ∃ b : Nat, v = .slice (some ⟨b, 0, none⟩) xs.length xs.length ∧ 0 < xs.length ∧ ∀ j x, xs[j]? = some x → w.cell? ⟨b, j, none⟩ = some (.int .i64 x)
theorem RowI.on {w V : World} {v : Value} {xs : List Int} (h : RowI w v xs) (g : Below w.heap.size w V) : RowI V v xs := by
  rcases h with h | ⟨b, h1, h2, h3⟩
  · exact Or.inl h
  · exact Or.inr ⟨b, h1, h2, fun j x hx => sp_cell_on g (h3 j x hx)⟩
/-- A slice of ints, with or without room. -/
def RowR (w : World) (v : Value) (xs : List Int) : Prop := (v = .slice none 0 0 ∧ xs = []) ∨ ∃ b cap : Nat, v = .slice (some ⟨b, 0, none⟩) xs.length cap ∧ 0 < xs.length ∧ ∀ j x, xs[j]? = some x → w.cell? ⟨b, j, none⟩ = some (.int .i64 x)
theorem RowI.r {w : World} {v : Value} {xs : List Int} (h : RowI w v xs) : RowR w v xs := by
  rcases h with h | ⟨b, h1, h2, h3⟩
  · exact Or.inl h
  · exact Or.inr ⟨b, _, h1, h2, h3⟩
set_option maxRecDepth 100000 in
set_option maxHeartbeats 6400000 in
theorem rcornI (op : Int) (hop : op = 8 ∨ op = 9 ∨ op = 10 ∨ op = 11) (a b c d : Int) (h : ∀ x y, x = a ∨ x = b → y = c ∨ y = d → okI op x y) (w : World) : Calls Tryz.prog 130 #[.int .i64 op, .agg #[.bool false, .int .i64 a, .int .i64 b], .agg #[.bool false, .int .i64 c, .int .i64 d]] w fun e w' => ∃ v, e = .returned v ∧ RowI w' v [gI op a c, gI op a d, gI op b c, gI op b d] ∧ Below w.heap.size w w' := by
  have k0 := rreckI op hop a c (h _ _ (by simp) (by simp))
  have k1 := rreckI op hop a d (h _ _ (by simp) (by simp))
  have k2 := rreckI op hop b c (h _ _ (by simp) (by simp))
  have k3 := rreckI op hop b d (h _ _ (by simp) (by simp))
  generalize gI op a c = r0 at *
  generalize gI op a d = r1 at *
  generalize gI op b c = r2 at *
  generalize gI op b d = r3 at *
  clear h
  go_enter Tryz.func130, Tryz.ntmps130
  go_upto_region 3 with fail
  obtain ⟨W, hW⟩ : ∃ W, (w.alloc (.cells #[.bool false, .int .i64 a, .int .i64 b] 47)).alloc (.cells #[.bool false, .int .i64 c, .int .i64 d] 47) = W := ⟨_, rfl⟩
  have a0 : W.cell? ⟨w.heap.size, 0, none⟩ = some (.bool false) := by rw [← hW]; simp [go_sem]
  have a1 : W.cell? ⟨w.heap.size, 1, none⟩ = some (.int .i64 a) := by rw [← hW]; simp [go_sem]
  have a2 : W.cell? ⟨w.heap.size, 2, none⟩ = some (.int .i64 b) := by rw [← hW]; simp [go_sem]
  have b0 : W.cell? ⟨w.heap.size + 1, 0, none⟩ = some (.bool false) := by rw [← hW]; simp [go_sem]
  have b1 : W.cell? ⟨w.heap.size + 1, 1, none⟩ = some (.int .i64 c) := by rw [← hW]; simp [go_sem]
  have b2 : W.cell? ⟨w.heap.size + 1, 2, none⟩ = some (.int .i64 d) := by rw [← hW]; simp [go_sem]
  have bW : Below w.heap.size w W := by rw [← hW]; exact sp_new (sp_new (Below.refl _ _) _) _
  rw [hW]
  clear hW
  go_region_held3 (fun w' => w'.cell? ⟨w.heap.size, 0, none⟩ = some (.bool false) ∧ w'.cell? ⟨w.heap.size, 1, none⟩ = some (.int .i64 a) ∧ w'.cell? ⟨w.heap.size, 2, none⟩ = some (.int .i64 b) ∧ w'.cell? ⟨w.heap.size + 1, 0, none⟩ = some (.bool false) ∧ w'.cell? ⟨w.heap.size + 1, 1, none⟩ = some (.int .i64 c) ∧ w'.cell? ⟨w.heap.size + 1, 2, none⟩ = some (.int .i64 d)) (first | exact ⟨a0, a1, a2, b0, b1, b2⟩ | exact ⟨sp_cell_on (sp_new (Below.refl _ _) _) a0, sp_cell_on (sp_new (Below.refl _ _) _) a1, sp_cell_on (sp_new (Below.refl _ _) _) a2, sp_cell_on (sp_new (Below.refl _ _) _) b0, sp_cell_on (sp_new (Below.refl _ _) _) b1, sp_cell_on (sp_new (Below.refl _ _) _) b2⟩)
    (first
      | (go_at_call 212; refine (k0 _).mono ?_; rintro e u0 ⟨rfl, rfl⟩; clear k0)
      | (go_at_call 212; refine (k1 _).mono ?_; rintro e u1 ⟨rfl, rfl⟩; clear k1)
      | (go_at_call 212; refine (k2 _).mono ?_; rintro e u2 ⟨rfl, rfl⟩; clear k2)
      | (go_at_call 212; refine (k3 _).mono ?_; rintro e u3 ⟨rfl, rfl⟩; clear k3)
      | fail)
  all_goals go_wp2
  all_goals go_ret
  all_goals refine ⟨_, rfl, Or.inr ⟨_, rfl, by simp, ?_⟩, ?_⟩
  · rintro j x hj
    rcases j with _ | _ | _ | _ | j
    all_goals simp at hj
    all_goals subst hj
    all_goals simp [go_sem]
  · exact sp_new (⟨bW.os, bW.tape, bW.output, bW.size, bW.block⟩ : Below w.heap.size w W.drew) _
theorem rcornN (op : Int) (a b c d : Int) (w : World) : Calls Tryz.prog 130 #[.int .i64 op, .agg #[.bool false, .int .i64 a, .int .i64 b], .agg #[.bool true, .int .i64 c, .int .i64 d]] w fun e w' => e = .returned (.slice none 0 0) ∧ Below w.heap.size w w' := by
  go_enter Tryz.func130, Tryz.ntmps130
  go_wp2_with fail
  go_ret
  exact ⟨rfl, sp_new (sp_new (Below.refl _ _) _) _⟩
end Go.Proofs.YthjoigkckgdcaaaGreat
