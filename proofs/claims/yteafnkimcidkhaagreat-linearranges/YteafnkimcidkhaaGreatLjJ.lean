/- LinearRanges: the law. -/
import Derived.Test.YteafnkimcidkhaaGreatLjI
import Derived.Test.YteafnkimcidkhaaGreatLiU
namespace Go.Proofs.YteafnkimcidkhaaGreat
open Go.RowKit
set_option linter.unusedVariables false
set_option linter.unusedSimpArgs false
set_option maxRecDepth 100000 in
set_option maxHeartbeats 6400000 in
theorem ranges_walk (e1 : Bool) (a b : Int) (e2 : Bool) (c d : Int) (se : Bool) (sl sh : Int) (sk : Bool) (pe : Bool) (pl ph : Int) (pk : Bool)
    (k1 : ∀ V, Calls Tryz.prog 13 #[.agg #[.bool e1, .int .u64 a, .int .u64 b], .agg #[.bool e2, .int .u64 c, .int .u64 d]] V fun e w' => e = .returned (.tuple #[.agg #[.bool se, .int .u64 sl, .int .u64 sh], .bool sk]) ∧ Below V.heap.size V w')
    (k2 : ∀ V, Calls Tryz.prog 14 #[.agg #[.bool e1, .int .u64 a, .int .u64 b], .agg #[.bool e2, .int .u64 c, .int .u64 d]] V fun e w' => e = .returned (.tuple #[.agg #[.bool se, .int .u64 sl, .int .u64 sh], .bool sk]) ∧ Below V.heap.size V w')
    (k3 : ∀ V, Calls Tryz.prog 15 #[.agg #[.bool e1, .int .u64 a, .int .u64 b], .agg #[.bool e2, .int .u64 c, .int .u64 d]] V fun e w' => e = .returned (.tuple #[.agg #[.bool pe, .int .u64 pl, .int .u64 ph], .bool pk]) ∧ Below V.heap.size V w')
    (k4 : ∀ V, Calls Tryz.prog 16 #[.agg #[.bool e1, .int .u64 a, .int .u64 b], .agg #[.bool e2, .int .u64 c, .int .u64 d]] V fun e w' => e = .returned (.tuple #[.agg #[.bool pe, .int .u64 pl, .int .u64 ph], .bool pk]) ∧ Below V.heap.size V w')
    (k5 : ∀ V, Calls Tryz.prog 17 #[] V fun e w' => e = .returned (.bool true) ∧ Below V.heap.size V w') (w : World) :
    Calls Tryz.prog 3 #[.agg #[.bool e1, .int .u64 a, .int .u64 b], .agg #[.bool e2, .int .u64 c, .int .u64 d]] w fun e w' => e = .returned (.bool true) ∧ Below w.heap.size w w' := by
  obtain ⟨W, hW⟩ : ∃ W, (w.alloc (.cells #[.bool e1, .int .u64 a, .int .u64 b] 24)).alloc (.cells #[.bool e2, .int .u64 c, .int .u64 d] 24) = W := ⟨_, rfl⟩
  have gW : Below w.heap.size w W := by rw [← hW]; exact sp_new (sp_new (Below.refl _ _) _) _
  have a0 : W.cell? ⟨w.heap.size, 0, none⟩ = some (.bool e1) := by rw [← hW]; simp [go_sem]
  have a1 : W.cell? ⟨w.heap.size, 1, none⟩ = some (.int .u64 a) := by rw [← hW]; simp [go_sem]
  have a2 : W.cell? ⟨w.heap.size, 2, none⟩ = some (.int .u64 b) := by rw [← hW]; simp [go_sem]
  have b0 : W.cell? ⟨w.heap.size + 1, 0, none⟩ = some (.bool e2) := by rw [← hW]; simp [go_sem]
  have b1 : W.cell? ⟨w.heap.size + 1, 1, none⟩ = some (.int .u64 c) := by rw [← hW]; simp [go_sem]
  have b2 : W.cell? ⟨w.heap.size + 1, 2, none⟩ = some (.int .u64 d) := by rw [← hW]; simp [go_sem]
  go_enter Tryz.func3, Tryz.ntmps3
  go_upto_region 1 with fail
  (try rw [hW])
  clear hW
  go_upto_region 2 with (first
    | (go_at_call 13; refine (k1 _).mono ?_; rintro e v1 ⟨rfl, g⟩; replace a0 := sp_cell_on g a0; replace a1 := sp_cell_on g a1; replace a2 := sp_cell_on g a2; replace b0 := sp_cell_on g b0; replace b1 := sp_cell_on g b1; replace b2 := sp_cell_on g b2; replace gW := sp_call gW g; clear g k1)
    | fail)
  have gN0 : Below v1.heap.size v1 (v1.alloc (.cells #[.bool se, .int .u64 sl, .int .u64 sh] 24)) := sp_new (Below.refl _ _) _
  have x0 : (v1.alloc (.cells #[.bool se, .int .u64 sl, .int .u64 sh] 24)).cell? ⟨v1.heap.size, 0, none⟩ = some (.bool se) := by simp [go_sem]
  have x1 : (v1.alloc (.cells #[.bool se, .int .u64 sl, .int .u64 sh] 24)).cell? ⟨v1.heap.size, 1, none⟩ = some (.int .u64 sl) := by simp [go_sem]
  have x2 : (v1.alloc (.cells #[.bool se, .int .u64 sl, .int .u64 sh] 24)).cell? ⟨v1.heap.size, 2, none⟩ = some (.int .u64 sh) := by simp [go_sem]
  replace a0 := sp_cell_on gN0 a0; replace a1 := sp_cell_on gN0 a1; replace a2 := sp_cell_on gN0 a2; replace b0 := sp_cell_on gN0 b0; replace b1 := sp_cell_on gN0 b1; replace b2 := sp_cell_on gN0 b2
  replace gW := sp_call gW gN0
  generalize v1.alloc (.cells #[.bool se, .int .u64 sl, .int .u64 sh] 24) = Y1 at *
  clear gN0
  generalize v1.heap.size = Bx at *
  clear v1
  go_upto_region 3 with (first
    | (go_at_call 14; refine (k2 _).mono ?_; rintro e v2 ⟨rfl, g⟩; replace a0 := sp_cell_on g a0; replace a1 := sp_cell_on g a1; replace a2 := sp_cell_on g a2; replace b0 := sp_cell_on g b0; replace b1 := sp_cell_on g b1; replace b2 := sp_cell_on g b2; replace x0 := sp_cell_on g x0; replace x1 := sp_cell_on g x1; replace x2 := sp_cell_on g x2; replace gW := sp_call gW g; clear g k2)
    | fail)
  have gN1 : Below v2.heap.size v2 (v2.alloc (.cells #[.bool se, .int .u64 sl, .int .u64 sh] 24)) := sp_new (Below.refl _ _) _
  have y0 : (v2.alloc (.cells #[.bool se, .int .u64 sl, .int .u64 sh] 24)).cell? ⟨v2.heap.size, 0, none⟩ = some (.bool se) := by simp [go_sem]
  have y1 : (v2.alloc (.cells #[.bool se, .int .u64 sl, .int .u64 sh] 24)).cell? ⟨v2.heap.size, 1, none⟩ = some (.int .u64 sl) := by simp [go_sem]
  have y2 : (v2.alloc (.cells #[.bool se, .int .u64 sl, .int .u64 sh] 24)).cell? ⟨v2.heap.size, 2, none⟩ = some (.int .u64 sh) := by simp [go_sem]
  replace a0 := sp_cell_on gN1 a0; replace a1 := sp_cell_on gN1 a1; replace a2 := sp_cell_on gN1 a2; replace b0 := sp_cell_on gN1 b0; replace b1 := sp_cell_on gN1 b1; replace b2 := sp_cell_on gN1 b2; replace x0 := sp_cell_on gN1 x0; replace x1 := sp_cell_on gN1 x1; replace x2 := sp_cell_on gN1 x2
  replace gW := sp_call gW gN1
  generalize v2.alloc (.cells #[.bool se, .int .u64 sl, .int .u64 sh] 24) = Y2 at *
  clear gN1
  generalize v2.heap.size = By at *
  clear v2
  go_upto_region 4 with (first
    | (go_at_call 15; refine (k3 _).mono ?_; rintro e v3 ⟨rfl, g⟩; replace a0 := sp_cell_on g a0; replace a1 := sp_cell_on g a1; replace a2 := sp_cell_on g a2; replace b0 := sp_cell_on g b0; replace b1 := sp_cell_on g b1; replace b2 := sp_cell_on g b2; replace x0 := sp_cell_on g x0; replace x1 := sp_cell_on g x1; replace x2 := sp_cell_on g x2; replace y0 := sp_cell_on g y0; replace y1 := sp_cell_on g y1; replace y2 := sp_cell_on g y2; replace gW := sp_call gW g; clear g k3)
    | fail)
  have gN2 : Below v3.heap.size v3 (v3.alloc (.cells #[.bool pe, .int .u64 pl, .int .u64 ph] 24)) := sp_new (Below.refl _ _) _
  have z0 : (v3.alloc (.cells #[.bool pe, .int .u64 pl, .int .u64 ph] 24)).cell? ⟨v3.heap.size, 0, none⟩ = some (.bool pe) := by simp [go_sem]
  have z1 : (v3.alloc (.cells #[.bool pe, .int .u64 pl, .int .u64 ph] 24)).cell? ⟨v3.heap.size, 1, none⟩ = some (.int .u64 pl) := by simp [go_sem]
  have z2 : (v3.alloc (.cells #[.bool pe, .int .u64 pl, .int .u64 ph] 24)).cell? ⟨v3.heap.size, 2, none⟩ = some (.int .u64 ph) := by simp [go_sem]
  replace a0 := sp_cell_on gN2 a0; replace a1 := sp_cell_on gN2 a1; replace a2 := sp_cell_on gN2 a2; replace b0 := sp_cell_on gN2 b0; replace b1 := sp_cell_on gN2 b1; replace b2 := sp_cell_on gN2 b2; replace x0 := sp_cell_on gN2 x0; replace x1 := sp_cell_on gN2 x1; replace x2 := sp_cell_on gN2 x2; replace y0 := sp_cell_on gN2 y0; replace y1 := sp_cell_on gN2 y1; replace y2 := sp_cell_on gN2 y2
  replace gW := sp_call gW gN2
  generalize v3.alloc (.cells #[.bool pe, .int .u64 pl, .int .u64 ph] 24) = Y3 at *
  clear gN2
  generalize v3.heap.size = Bz at *
  clear v3
  go_upto_region 5 with (first
    | (go_at_call 16; refine (k4 _).mono ?_; rintro e v4 ⟨rfl, g⟩; replace a0 := sp_cell_on g a0; replace a1 := sp_cell_on g a1; replace a2 := sp_cell_on g a2; replace b0 := sp_cell_on g b0; replace b1 := sp_cell_on g b1; replace b2 := sp_cell_on g b2; replace x0 := sp_cell_on g x0; replace x1 := sp_cell_on g x1; replace x2 := sp_cell_on g x2; replace y0 := sp_cell_on g y0; replace y1 := sp_cell_on g y1; replace y2 := sp_cell_on g y2; replace z0 := sp_cell_on g z0; replace z1 := sp_cell_on g z1; replace z2 := sp_cell_on g z2; replace gW := sp_call gW g; clear g k4)
    | fail)
  have gN3 : Below v4.heap.size v4 (v4.alloc (.cells #[.bool pe, .int .u64 pl, .int .u64 ph] 24)) := sp_new (Below.refl _ _) _
  have u0 : (v4.alloc (.cells #[.bool pe, .int .u64 pl, .int .u64 ph] 24)).cell? ⟨v4.heap.size, 0, none⟩ = some (.bool pe) := by simp [go_sem]
  have u1 : (v4.alloc (.cells #[.bool pe, .int .u64 pl, .int .u64 ph] 24)).cell? ⟨v4.heap.size, 1, none⟩ = some (.int .u64 pl) := by simp [go_sem]
  have u2 : (v4.alloc (.cells #[.bool pe, .int .u64 pl, .int .u64 ph] 24)).cell? ⟨v4.heap.size, 2, none⟩ = some (.int .u64 ph) := by simp [go_sem]
  replace a0 := sp_cell_on gN3 a0; replace a1 := sp_cell_on gN3 a1; replace a2 := sp_cell_on gN3 a2; replace b0 := sp_cell_on gN3 b0; replace b1 := sp_cell_on gN3 b1; replace b2 := sp_cell_on gN3 b2; replace x0 := sp_cell_on gN3 x0; replace x1 := sp_cell_on gN3 x1; replace x2 := sp_cell_on gN3 x2; replace y0 := sp_cell_on gN3 y0; replace y1 := sp_cell_on gN3 y1; replace y2 := sp_cell_on gN3 y2; replace z0 := sp_cell_on gN3 z0; replace z1 := sp_cell_on gN3 z1; replace z2 := sp_cell_on gN3 z2
  replace gW := sp_call gW gN3
  generalize v4.alloc (.cells #[.bool pe, .int .u64 pl, .int .u64 ph] 24) = Y4 at *
  clear gN3
  generalize v4.heap.size = Bu at *
  clear v4
  clear a0 a1 a2 b0 b1 b2
  go_wp2_with (first
    | (go_at_call 17; refine (k5 _).mono ?_; rintro e v5 ⟨rfl, g⟩; replace x0 := sp_cell_on g x0; replace x1 := sp_cell_on g x1; replace x2 := sp_cell_on g x2; replace y0 := sp_cell_on g y0; replace y1 := sp_cell_on g y1; replace y2 := sp_cell_on g y2; replace z0 := sp_cell_on g z0; replace z1 := sp_cell_on g z1; replace z2 := sp_cell_on g z2; replace u0 := sp_cell_on g u0; replace u1 := sp_cell_on g u1; replace u2 := sp_cell_on g u2; replace gW := sp_call gW g; clear g k5)
    | fail)
  go_ret
  exact ⟨rfl, gW⟩
theorem law_ranges (e1 : Bool) (a b : Int) (e2 : Bool) (c d : Int) (ha : Word a) (hb : Word b) (hc : Word c) (hd : Word d) (w : World) :
    Calls Tryz.prog 3 #[.agg #[.bool e1, .int .u64 a, .int .u64 b], .agg #[.bool e2, .int .u64 c, .int .u64 d]] w fun e w' => e = .returned (.bool true) ∧ Below w.heap.size w w' := by
  have h1 : wdR (e1, a, b) := ⟨ha, hb⟩
  have h2 : wdR (e2, c, d) := ⟨hc, hd⟩
  exact ranges_walk e1 a b e2 c d _ _ _ _ _ _ _ _ (lsum_any (e1, a, b) (e2, c, d) h1 h2) (rsum9_any (e1, a, b) (e2, c, d) h1 h2) (lprod_any (e1, a, b) (e2, c, d) h1 h2) (rprod9_any (e1, a, b) (e2, c, d) h1 h2) lilive_any w
end Go.Proofs.YteafnkimcidkhaaGreat

