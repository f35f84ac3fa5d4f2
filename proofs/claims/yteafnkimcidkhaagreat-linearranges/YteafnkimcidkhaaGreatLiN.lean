/- linear.Same. -/
import Derived.Test.YteafnkimcidkhaaGreatLiM
namespace Go.Proofs.YteafnkimcidkhaaGreat
open Go.RowKit
set_option linter.unusedVariables false
set_option linter.unusedSimpArgs false
set_option maxRecDepth 100000 in
set_option maxHeartbeats 6400000 in
theorem lisame (wa ae : Bool) (al ah : Int) (pa pb : Option Addr) (na ca nb cb : Nat) (q : Bool) (ok : World → Prop) (hok : ∀ W V, ok W → Below W.heap.size W V → ok V)
    (k1 : ∀ V, ok V → Calls Tryz.prog 24 #[.agg #[.bool wa, .bool ae, .int .u64 al, .int .u64 ah, .slice pa na ca]] V fun e w' => e = .returned (.bool true) ∧ Below V.heap.size V w') (k2 : ∀ V, ok V → Calls Tryz.prog 24 #[.agg #[.bool wa, .bool ae, .int .u64 al, .int .u64 ah, .slice pb nb cb]] V fun e w' => e = .returned (.bool true) ∧ Below V.heap.size V w')
    (k3 : ∀ V, ok V → Calls Tryz.prog 66 #[.slice pa na ca, .slice pb nb cb] V fun e w' => e = .returned (.bool q) ∧ Below V.heap.size V w') (w : World) (h0 : ok w) :
    Calls Tryz.prog 27 #[.agg #[.bool wa, .bool ae, .int .u64 al, .int .u64 ah, .slice pa na ca], .agg #[.bool wa, .bool ae, .int .u64 al, .int .u64 ah, .slice pb nb cb]] w fun e w' => e = .returned (.bool q) ∧ Below w.heap.size w w' := by
  go_enter Tryz.func27, Tryz.ntmps27
  go_upto_region 1 with fail
  obtain ⟨W, hW⟩ : ∃ W, ((w.alloc (.cells #[.bool wa, .bool ae, .int .u64 al, .int .u64 ah, .slice pa na ca] 31)).alloc (.cells #[.bool wa, .bool ae, .int .u64 al, .int .u64 ah, .slice pb nb cb] 31)) = W := ⟨_, rfl⟩
  have a0 : W.cell? ⟨w.heap.size, 0, none⟩ = some (.bool wa) := by rw [← hW]; simp [go_sem]
  have a1 : W.cell? ⟨w.heap.size, 1, none⟩ = some (.bool ae) := by rw [← hW]; simp [go_sem]
  have a2 : W.cell? ⟨w.heap.size, 2, none⟩ = some (.int .u64 al) := by rw [← hW]; simp [go_sem]
  have a3 : W.cell? ⟨w.heap.size, 3, none⟩ = some (.int .u64 ah) := by rw [← hW]; simp [go_sem]
  have a4 : W.cell? ⟨w.heap.size, 4, none⟩ = some (.slice pa na ca) := by rw [← hW]; simp [go_sem]
  have b0 : W.cell? ⟨w.heap.size + 1, 0, none⟩ = some (.bool wa) := by rw [← hW]; simp [go_sem]
  have b1 : W.cell? ⟨w.heap.size + 1, 1, none⟩ = some (.bool ae) := by rw [← hW]; simp [go_sem]
  have b2 : W.cell? ⟨w.heap.size + 1, 2, none⟩ = some (.int .u64 al) := by rw [← hW]; simp [go_sem]
  have b3 : W.cell? ⟨w.heap.size + 1, 3, none⟩ = some (.int .u64 ah) := by rw [← hW]; simp [go_sem]
  have b4 : W.cell? ⟨w.heap.size + 1, 4, none⟩ = some (.slice pb nb cb) := by rw [← hW]; simp [go_sem]
  have bW : Below w.heap.size w W := by rw [← hW]; exact (sp_new (sp_new (Below.refl _ _) _) _)
  have zW : W.heap.size = w.heap.size + 2 := by rw [← hW]; simp
  rw [hW]
  clear hW
  replace zW := Nat.le_of_eq zW.symm
  have oW := hok _ _ h0 bW
  go_wp2_with (first
    | (go_at_call 24; (with_reducible refine (k1 _ oW).mono ?_); rintro e v1 ⟨rfl, g⟩; replace oW := hok _ _ oW g; replace bW := sp_call bW g; replace zW := Nat.le_trans zW g.size; replace a0 := sp_cell_on g a0; replace a1 := sp_cell_on g a1; replace a2 := sp_cell_on g a2; replace a3 := sp_cell_on g a3; replace a4 := sp_cell_on g a4; replace b0 := sp_cell_on g b0; replace b1 := sp_cell_on g b1; replace b2 := sp_cell_on g b2; replace b3 := sp_cell_on g b3; replace b4 := sp_cell_on g b4; clear g)
    | (go_at_call 24; (with_reducible refine (k2 _ oW).mono ?_); rintro e v2 ⟨rfl, g⟩; replace oW := hok _ _ oW g; replace bW := sp_call bW g; replace zW := Nat.le_trans zW g.size; replace a0 := sp_cell_on g a0; replace a1 := sp_cell_on g a1; replace a2 := sp_cell_on g a2; replace a3 := sp_cell_on g a3; replace a4 := sp_cell_on g a4; replace b0 := sp_cell_on g b0; replace b1 := sp_cell_on g b1; replace b2 := sp_cell_on g b2; replace b3 := sp_cell_on g b3; replace b4 := sp_cell_on g b4; clear g)
    | (go_at_call 66; (with_reducible refine (k3 _ oW).mono ?_); rintro e v3 ⟨rfl, g⟩; replace oW := hok _ _ oW g; replace bW := sp_call bW g; replace zW := Nat.le_trans zW g.size; replace a0 := sp_cell_on g a0; replace a1 := sp_cell_on g a1; replace a2 := sp_cell_on g a2; replace a3 := sp_cell_on g a3; replace a4 := sp_cell_on g a4; replace b0 := sp_cell_on g b0; replace b1 := sp_cell_on g b1; replace b2 := sp_cell_on g b2; replace b3 := sp_cell_on g b3; replace b4 := sp_cell_on g b4; clear g)
    | fail)
  go_ret
  exact ⟨by simp, bW⟩
end Go.Proofs.YteafnkimcidkhaaGreat
