/- span's exported calls of floats: the line, Top, Right. -/
import Derived.Test.YteafnkimcidkhaaGreatSpFl
namespace Go.Proofs.YteafnkimcidkhaaGreat
open Go.RowKit
set_option linter.unusedVariables false
set_option linter.unusedSimpArgs false
/-- The line of f's floats stands, and lies in memory, as it was laid. -/
def FlAt (f : Int) (L : Ln) (B : Nat) (w0 : World) : Prop := ∃ p q, L = LnF (f == 1) p q ∧ B ≤ w0.heap.size ∧ p < B ∧ q < B ∧ w0.cell? ⟨p, 0, none⟩ = some (.int .i64 f) ∧ LineAt w0 q L
theorem floats_at (f : Int) (w : World) : Calls Tryz.prog 100 #[.int .i64 f] w fun e w' => ∃ L, e = .returned (.agg (lvf L)) ∧ FlAt f L w'.heap.size w' ∧ Below w.heap.size w w' := by
  refine (floats_any f w).mono ?_
  rintro e w' ⟨q, rfl, h1, h2, h3, h4, h5, h6⟩
  exact ⟨_, rfl, ⟨w.heap.size, q, rfl, Nat.le_refl _, h4, h5, h1, h2⟩, h6⟩
theorem fl_acts {f : Int} {L : Ln} {B : Nat} {w0 : World} (h : FlAt f L B w0) : Actsf L (WyF (f == 1)) B w0 := by
  obtain ⟨p, q, rfl, h1, h2, h3, h4, h5⟩ := h
  exact acts_f f p q B w0 h1 h2 h4
theorem fl_least {f : Int} {L : Ln} {B : Nat} {w0 : World} (h : FlAt f L B w0) : L.least = negF (f == 1) (fI (f == 1) - 1) ∧ L.most = fI (f == 1) - 1 ∧ L.past = 2 := by
  obtain ⟨p, q, rfl, _⟩ := h
  exact ⟨rfl, rfl, rfl⟩
set_option maxRecDepth 100000 in
set_option maxHeartbeats 6400000 in
theorem ofFloats_any (e1 : Bool) (a b : Int) (w : World) : Calls Tryz.prog 104 #[.agg #[.bool e1, .int .u64 a, .int .u64 b]] w fun e w' => e = .returned (.agg #[.bool e1, .int .u64 a, .int .u64 b]) ∧ Below w.heap.size w w' := by
  go_enter Tryz.func104, Tryz.ntmps104
  go_wp2_with fail
  exact bodyPost_ret (v := .agg #[.bool e1, .int .u64 a, .int .u64 b]) (by simp [results, Tryz.results104, go_sem]) rfl ⟨rfl, sp_new (sp_new (Below.refl _ _) _) _⟩
set_option maxRecDepth 100000 in
set_option maxHeartbeats 6400000 in
theorem floatRange_any (e1 : Bool) (a b : Int) (w : World) : Calls Tryz.prog 99 #[.agg #[.bool e1, .int .u64 a, .int .u64 b]] w fun e w' => e = .returned (.agg #[.bool e1, .int .u64 a, .int .u64 b]) ∧ Below w.heap.size w w' := by
  go_enter Tryz.func99, Tryz.ntmps99
  go_wp2_with fail
  exact bodyPost_ret (v := .agg #[.bool e1, .int .u64 a, .int .u64 b]) (by simp [results, Tryz.results99, go_sem]) rfl ⟨rfl, sp_new (sp_new (Below.refl _ _) _) _⟩
set_option maxRecDepth 100000 in
set_option maxHeartbeats 6400000 in
theorem right_of (f : Int) (e1 : Bool) (a b : Int) (r : Bool) (h : ∀ L B w0, FlAt f L B w0 → ∀ V, Below B w0 V → Calls Tryz.prog 149 #[.agg (lvf L), .agg #[.bool e1, .int .u64 a, .int .u64 b]] V fun e w' => e = .returned (.bool r) ∧ Below V.heap.size V w') (w : World) :
    Calls Tryz.prog 123 #[.int .i64 f, .agg #[.bool e1, .int .u64 a, .int .u64 b]] w fun e w' => e = .returned (.bool r) ∧ Below w.heap.size w w' := by
  have h1 := floats_at f
  have ho1 := ofFloats_any
  have ho2 := ofFloats_any
  go_enter Tryz.func123, Tryz.ntmps123
  go_wp2_with fail
  obtain ⟨W, hW⟩ : ∃ W, (w.alloc (.cells #[.bool e1, .int .u64 a, .int .u64 b] 24)) = W := ⟨_, rfl⟩
  have a0 : W.cell? ⟨w.heap.size, 0, none⟩ = some (.bool e1) := by rw [← hW]; simp [go_sem]
  have a1 : W.cell? ⟨w.heap.size, 1, none⟩ = some (.int .u64 a) := by rw [← hW]; simp [go_sem]
  have a2 : W.cell? ⟨w.heap.size, 2, none⟩ = some (.int .u64 b) := by rw [← hW]; simp [go_sem]
  have bW : Below w.heap.size w W := by rw [← hW]; exact (sp_new (Below.refl _ _) _)
  have zW : W.heap.size = w.heap.size + 1 := by rw [← hW]; simp
  rw [hW]
  clear hW
  go_region_held3 (fun w' => w'.cell? ⟨w.heap.size, 0, none⟩ = some (.bool e1) ∧ w'.cell? ⟨w.heap.size, 1, none⟩ = some (.int .u64 a) ∧ w'.cell? ⟨w.heap.size, 2, none⟩ = some (.int .u64 b)) (exact ⟨a0, a1, a2⟩)
    (first
      | (go_at_call 100; refine (h1 _).mono ?_; rintro e v1 ⟨L, rfl, hL, g⟩; replace g : Below W.heap.size W v1 := ⟨g.os, g.tape, g.output, g.size, g.block⟩; replace bW := sp_call bW g; replace a0 := sp_cell_on g a0; replace a1 := sp_cell_on g a1; replace a2 := sp_cell_on g a2; have oL : Below v1.heap.size v1 v1 := Below.refl _ _; clear g)
      | (go_at_call 104; refine (ho1 _ _ _ _).mono ?_; rintro e v2 ⟨rfl, g⟩; replace g : Below v1.heap.size v1 v2 := ⟨g.os, g.tape, g.output, g.size, g.block⟩; replace bW := sp_call bW g; replace a0 := sp_cell_on g a0; replace a1 := sp_cell_on g a1; replace a2 := sp_cell_on g a2; replace oL := sp_call oL g; clear g; clear ho1)
      | (go_at_call 149; refine (h L _ _ hL _ (by first | exact oL | exact oL.drew)).mono ?_; rintro e v9 ⟨rfl, g⟩; replace g : Below v2.heap.size v2 v9 := ⟨g.os, g.tape, g.output, g.size, g.block⟩; replace bW := sp_call bW g; replace a0 := sp_cell_on g a0; replace a1 := sp_cell_on g a1; replace a2 := sp_cell_on g a2; clear g)
      | fail)
  all_goals go_wp2
  all_goals go_ret
  all_goals exact ⟨rfl, bW⟩
theorem right_any (f : Int) (e1 : Bool) (a b : Int) (ha : Word a) (hb : Word b) (w : World) : Calls Tryz.prog 123 #[.int .i64 f, .agg #[.bool e1, .int .u64 a, .int .u64 b]] w fun e w' => e = .returned (.bool (rightP (WyF (f == 1)) (e1, a, b))) ∧ Below w.heap.size w w' :=
  right_of f e1 a b _ (fun L B w0 hL V ok => right_f (fl_acts hL) e1 a b ha hb V ok) w
end Go.Proofs.YteafnkimcidkhaaGreat

