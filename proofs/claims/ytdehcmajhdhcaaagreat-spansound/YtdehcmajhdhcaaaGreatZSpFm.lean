/- span's exported calls of floats: Has, Within, Meet, Join. -/
import Derived.Test.YtdehcmajhdhcaaaGreatZG3
import Derived.Test.YtdehcmajhdhcaaaGreatZSpHf
import Derived.Test.YtdehcmajhdhcaaaGreatZSpJf
import Derived.Test.YtdehcmajhdhcaaaGreatZG9
namespace Go.Proofs.YtdehcmajhdhcaaaGreat
open Go.RowKit
set_option linter.unusedVariables false
set_option linter.unusedSimpArgs false
set_option maxRecDepth 100000 in
set_option maxHeartbeats 6400000 in
theorem fhas_of (f : Int) (e1 : Bool) (a b : Int) (x : Int) (r : Bool) (h : ∀ L B w0, FlAt f L B w0 → ∀ V, Below B w0 V → Calls Tryz.prog 84 #[.agg (lvf L), .agg #[.bool e1, .int .u64 a, .int .u64 b], .int .u64 x] V fun e w' => e = .returned (.bool r) ∧ Below V.heap.size V w') (w : World) :
    Calls Tryz.prog 24 #[.int .i64 f, .agg #[.bool e1, .int .u64 a, .int .u64 b], .int .u64 x] w fun e w' => e = .returned (.bool r) ∧ Below w.heap.size w w' := by
  have h1 := floats_at f
  have ho1 := ofFloats_any
  have ho2 := ofFloats_any
  go_enter Tryz.func24, Tryz.ntmps24
  go_wp2_with fail
  obtain ⟨W, hW⟩ : ∃ W, (w.alloc (.cells #[.bool e1, .int .u64 a, .int .u64 b] 25)) = W := ⟨_, rfl⟩
  have a0 : W.cell? ⟨w.heap.size, 0, none⟩ = some (.bool e1) := by rw [← hW]; simp [go_sem]
  have a1 : W.cell? ⟨w.heap.size, 1, none⟩ = some (.int .u64 a) := by rw [← hW]; simp [go_sem]
  have a2 : W.cell? ⟨w.heap.size, 2, none⟩ = some (.int .u64 b) := by rw [← hW]; simp [go_sem]
  have bW : Below w.heap.size w W := by rw [← hW]; exact (sp_new (Below.refl _ _) _)
  have zW : W.heap.size = w.heap.size + 1 := by rw [← hW]; simp
  rw [hW]
  clear hW
  go_region_held3 (fun w' => w'.cell? ⟨w.heap.size, 0, none⟩ = some (.bool e1) ∧ w'.cell? ⟨w.heap.size, 1, none⟩ = some (.int .u64 a) ∧ w'.cell? ⟨w.heap.size, 2, none⟩ = some (.int .u64 b)) (exact ⟨a0, a1, a2⟩)
    (first
      | (go_at_call 74; refine (h1 _).mono ?_; rintro e v1 ⟨L, rfl, hL, g⟩; replace g : Below W.heap.size W v1 := ⟨g.os, g.tape, g.output, g.size, g.block⟩; replace bW := sp_call bW g; replace a0 := sO g a0; replace a1 := sO g a1; replace a2 := sO g a2; have oL : Below v1.heap.size v1 v1 := Below.refl _ _; clear g)
      | (go_at_call 76; refine (ho1 _ _ _ _).mono ?_; rintro e v2 ⟨rfl, g⟩; replace g : Below v1.heap.size v1 v2 := ⟨g.os, g.tape, g.output, g.size, g.block⟩; replace bW := sp_call bW g; replace a0 := sO g a0; replace a1 := sO g a1; replace a2 := sO g a2; replace oL := sp_call oL g; clear g; clear ho1)
      | (go_at_call 84; refine (h L _ _ hL _ (by first | exact oL | exact oL.drew)).mono ?_; rintro e v9 ⟨rfl, g⟩; replace g : Below v2.heap.size v2 v9 := ⟨g.os, g.tape, g.output, g.size, g.block⟩; replace bW := sp_call bW g; replace a0 := sO g a0; replace a1 := sO g a1; replace a2 := sO g a2; clear g)
      | fail)
  all_goals go_wp2
  all_goals go_ret
  all_goals exact ⟨rfl, bW⟩
theorem hasF_any (f : Int) (e1 : Bool) (a b x : Int) (ha : Word a) (hb : Word b) (hx : Word x) (w : World) :
    Calls Tryz.prog 24 #[.int .i64 f, .agg #[.bool e1, .int .u64 a, .int .u64 b], .int .u64 x] w fun e w' => e = .returned (.bool (hasP (WyF (f == 1)) (e1, a, b) x)) ∧ Below w.heap.size w w' :=
  fhas_of f e1 a b x _ (fun L B w0 hL V ok => has_f (fl_acts hL) e1 a b x ha hb hx (n_plainw _ _ hx) V ok) w
end Go.Proofs.YtdehcmajhdhcaaaGreat


