/- The walk of LinearWhole. -/
import Derived.Test.YteafnkimcidkhaaGreatLiM
namespace Go.Proofs.YteafnkimcidkhaaGreat
open Go.RowKit
set_option linter.unusedVariables false
set_option linter.unusedSimpArgs false
theorem wfld (p : Option Addr) (k c : Nat) (w : World) : (Instr.field 31 (.agg #[.bool true, .bool false, .int .u64 0, .int .u64 0, .slice p k c]) 0).run Tryz.prog w = .ok (.bool true) w := by kernel_rfl
set_option maxRecDepth 100000 in
set_option maxHeartbeats 6400000 in
theorem liwh (wa ae : Bool) (al ah : Int) (va : Value) (hva : ∃ o n c, va = .slice o n c) (e1 : Bool) (lb hb : Int) (vl : Value) (X : List (Int × Bool × Int × Int)) (ok : World → Prop) (hok : ∀ W V, ok W → Below W.heap.size W V → ok V)
    (kf : ∀ V, ok V → Calls Tryz.prog 18 #[.agg #[.bool wa, .bool ae, .int .u64 al, .int .u64 ah, va]] V fun e w' => (∃ v, e = .returned (.agg #[.bool wa, .bool ae, .int .u64 al, .int .u64 ah, v]) ∧ TAt w' v X) ∧ Below V.heap.size V w')
    (ke : ∀ V, Calls Tryz.prog 35 #[.agg #[.bool true, .bool false, .int .u64 0, .int .u64 0, .slice none 0 0], vl] V fun e w' => e = .returned (.tuple #[.agg #[.bool false, .int .u64 0, .int .u64 0], .bool false]) ∧ Below V.heap.size V w') (kl : ∀ V, Calls Tryz.prog 17 #[] V fun e w' => e = .returned (.bool true) ∧ Below V.heap.size V w') (kr : ∀ V, Calls Tryz.prog 24 #[.agg #[.bool true, .bool false, .int .u64 0, .int .u64 0, .slice none 0 0]] V fun e w' => e = .returned (.bool true) ∧ Below V.heap.size V w')
    (k1 : ∀ V v, TAt V v X → Calls Tryz.prog 29 #[.agg #[.bool true, .bool false, .int .u64 0, .int .u64 0, .slice none 0 0], .agg #[.bool wa, .bool ae, .int .u64 al, .int .u64 ah, v]] V fun e w' => (∃ p n c, e = .returned (.agg #[.bool true, .bool false, .int .u64 0, .int .u64 0, .slice p n c])) ∧ Below V.heap.size V w') (k2 : ∀ V v, TAt V v X → Calls Tryz.prog 29 #[.agg #[.bool wa, .bool ae, .int .u64 al, .int .u64 ah, v], .agg #[.bool true, .bool false, .int .u64 0, .int .u64 0, .slice none 0 0]] V fun e w' => (∃ p n c, e = .returned (.agg #[.bool true, .bool false, .int .u64 0, .int .u64 0, .slice p n c])) ∧ Below V.heap.size V w') (k3 : ∀ V v, TAt V v X → Calls Tryz.prog 31 #[.agg #[.bool wa, .bool ae, .int .u64 al, .int .u64 ah, v], .agg #[.bool true, .bool false, .int .u64 0, .int .u64 0, .slice none 0 0]] V fun e w' => (∃ p n c, e = .returned (.agg #[.bool true, .bool false, .int .u64 0, .int .u64 0, .slice p n c])) ∧ Below V.heap.size V w') (k4 : ∀ V, Calls Tryz.prog 33 #[.agg #[.bool true, .bool false, .int .u64 0, .int .u64 0, .slice none 0 0]] V fun e w' => (∃ p n c, e = .returned (.agg #[.bool true, .bool false, .int .u64 0, .int .u64 0, .slice p n c])) ∧ Below V.heap.size V w') (k5 : ∀ V, Calls Tryz.prog 37 #[.agg #[.bool true, .bool false, .int .u64 0, .int .u64 0, .slice none 0 0], .agg #[.bool e1, .int .u64 lb, .int .u64 hb]] V fun e w' => (∃ p n c, e = .returned (.agg #[.bool true, .bool false, .int .u64 0, .int .u64 0, .slice p n c])) ∧ Below V.heap.size V w') (k6 : ∀ V, Calls Tryz.prog 39 #[.agg #[.bool true, .bool false, .int .u64 0, .int .u64 0, .slice none 0 0], .int .i64 0, .agg #[.bool e1, .int .u64 lb, .int .u64 hb]] V fun e w' => (∃ p n c, e = .returned (.agg #[.bool true, .bool false, .int .u64 0, .int .u64 0, .slice p n c])) ∧ Below V.heap.size V w') (w : World) (h0 : ok w) :
    Calls Tryz.prog 11 #[.agg #[.bool wa, .bool ae, .int .u64 al, .int .u64 ah, va], .agg #[.bool e1, .int .u64 lb, .int .u64 hb], vl] w fun e w' => e = .returned (.bool true) ∧ Below w.heap.size w w' := by
  obtain ⟨pa, na, ca, rfl⟩ := hva
  go_enter Tryz.func11, Tryz.ntmps11
  go_upto_region 2 with fail
  obtain ⟨W, hW⟩ : ∃ W, ((w.alloc (.cells #[.bool wa, .bool ae, .int .u64 al, .int .u64 ah, .slice pa na ca] 31)).alloc (.cells #[.bool e1, .int .u64 lb, .int .u64 hb] 24)).alloc (.cells #[.bool true, .bool false, .int .u64 0, .int .u64 0, .slice none 0 0] 31) = W := ⟨_, rfl⟩
  have a0 : W.cell? ⟨w.heap.size, 0, none⟩ = some (.bool wa) := by rw [← hW]; simp [go_sem]
  have a1 : W.cell? ⟨w.heap.size, 1, none⟩ = some (.bool ae) := by rw [← hW]; simp [go_sem]
  have a2 : W.cell? ⟨w.heap.size, 2, none⟩ = some (.int .u64 al) := by rw [← hW]; simp [go_sem]
  have a3 : W.cell? ⟨w.heap.size, 3, none⟩ = some (.int .u64 ah) := by rw [← hW]; simp [go_sem]
  have a4 : W.cell? ⟨w.heap.size, 4, none⟩ = some (.slice pa na ca) := by rw [← hW]; simp [go_sem]
  have b0 : W.cell? ⟨w.heap.size + 1, 0, none⟩ = some (.bool e1) := by rw [← hW]; simp [go_sem]
  have b1 : W.cell? ⟨w.heap.size + 1, 1, none⟩ = some (.int .u64 lb) := by rw [← hW]; simp [go_sem]
  have b2 : W.cell? ⟨w.heap.size + 1, 2, none⟩ = some (.int .u64 hb) := by rw [← hW]; simp [go_sem]
  have q0 : W.cell? ⟨w.heap.size + 1 + 1, 0, none⟩ = some (.bool true) := by rw [← hW]; simp [go_sem]
  have q1 : W.cell? ⟨w.heap.size + 1 + 1, 1, none⟩ = some (.bool false) := by rw [← hW]; simp [go_sem]
  have q2 : W.cell? ⟨w.heap.size + 1 + 1, 2, none⟩ = some (.int .u64 0) := by rw [← hW]; simp [go_sem]
  have q3 : W.cell? ⟨w.heap.size + 1 + 1, 3, none⟩ = some (.int .u64 0) := by rw [← hW]; simp [go_sem]
  have q4 : W.cell? ⟨w.heap.size + 1 + 1, 4, none⟩ = some (.slice none 0 0) := by rw [← hW]; simp [go_sem]
  have bW : Below w.heap.size w W := by rw [← hW]; exact sp_new (sp_new (sp_new (Below.refl _ _) _) _) _
  have oW := hok _ _ h0 bW
  rw [hW]
  clear hW
  go_upto_region 3 with (first
    | (go_at_call 18; (with_reducible refine (kf _ oW).mono ?_); rintro e v1 ⟨⟨v, rfl, hT⟩, g1⟩; obtain ⟨p1, c1, rfl⟩ := hT.len)
    | fail)
  obtain ⟨Y, hY⟩ : ∃ Y, v1.alloc (.cells #[.bool wa, .bool ae, .int .u64 al, .int .u64 ah, .slice p1 X.length c1] 31) = Y := ⟨_, rfl⟩
  have gY : Below W.heap.size W Y := by rw [← hY]; exact sp_new g1 _
  have x0 : Y.cell? ⟨v1.heap.size, 0, none⟩ = some (.bool wa) := by rw [← hY]; simp [go_sem]
  have x1 : Y.cell? ⟨v1.heap.size, 1, none⟩ = some (.bool ae) := by rw [← hY]; simp [go_sem]
  have x2 : Y.cell? ⟨v1.heap.size, 2, none⟩ = some (.int .u64 al) := by rw [← hY]; simp [go_sem]
  have x3 : Y.cell? ⟨v1.heap.size, 3, none⟩ = some (.int .u64 ah) := by rw [← hY]; simp [go_sem]
  have x4 : Y.cell? ⟨v1.heap.size, 4, none⟩ = some (.slice p1 X.length c1) := by rw [← hY]; simp [go_sem]
  replace b0 := sp_cell_on gY b0
  replace b1 := sp_cell_on gY b1
  replace b2 := sp_cell_on gY b2
  replace q0 := sp_cell_on gY q0
  replace q1 := sp_cell_on gY q1
  replace q2 := sp_cell_on gY q2
  replace q3 := sp_cell_on gY q3
  replace q4 := sp_cell_on gY q4
  replace hT := hT.on (show Below v1.heap.size v1 Y by rw [← hY]; exact sp_new (Below.refl _ _) _)
  replace bW := sp_call bW gY
  rw [hY]
  clear hY gY a0 a1 a2 a3 a4
  go_upto_region 4 with (first
    | (go_at_call 35; (with_reducible refine (ke _).mono ?_); rintro e v2 ⟨rfl, g2⟩)
    | fail)
  obtain ⟨U, hU⟩ : ∃ U, v2.alloc (.cells #[.bool false, .int .u64 0, .int .u64 0] 24) = U := ⟨_, rfl⟩
  have gU : Below Y.heap.size Y U := by rw [← hU]; exact sp_new g2 _
  replace b0 := sp_cell_on gU b0
  replace b1 := sp_cell_on gU b1
  replace b2 := sp_cell_on gU b2
  replace q0 := sp_cell_on gU q0
  replace q1 := sp_cell_on gU q1
  replace q2 := sp_cell_on gU q2
  replace q3 := sp_cell_on gU q3
  replace q4 := sp_cell_on gU q4
  replace x0 := sp_cell_on gU x0
  replace x1 := sp_cell_on gU x1
  replace x2 := sp_cell_on gU x2
  replace x3 := sp_cell_on gU x3
  replace x4 := sp_cell_on gU x4
  replace hT := hT.on gU
  replace bW := sp_call bW gU
  rw [hU]
  clear hU gU
  have hfl := wfld
  go_wp2_with (first
    | (go_at_call 17; (with_reducible refine (kl _).mono ?_); rintro e u1 ⟨rfl, g⟩; replace b0 := sp_cell_on g b0; replace b1 := sp_cell_on g b1; replace b2 := sp_cell_on g b2; replace q0 := sp_cell_on g q0; replace q1 := sp_cell_on g q1; replace q2 := sp_cell_on g q2; replace q3 := sp_cell_on g q3; replace q4 := sp_cell_on g q4; replace x0 := sp_cell_on g x0; replace x1 := sp_cell_on g x1; replace x2 := sp_cell_on g x2; replace x3 := sp_cell_on g x3; replace x4 := sp_cell_on g x4; replace hT := hT.on g; replace bW := sp_call bW g; clear g)
    | (go_at_call 24; (with_reducible refine (kr _).mono ?_); rintro e u2 ⟨rfl, g⟩; replace b0 := sp_cell_on g b0; replace b1 := sp_cell_on g b1; replace b2 := sp_cell_on g b2; replace q0 := sp_cell_on g q0; replace q1 := sp_cell_on g q1; replace q2 := sp_cell_on g q2; replace q3 := sp_cell_on g q3; replace q4 := sp_cell_on g q4; replace x0 := sp_cell_on g x0; replace x1 := sp_cell_on g x1; replace x2 := sp_cell_on g x2; replace x3 := sp_cell_on g x3; replace x4 := sp_cell_on g x4; replace hT := hT.on g; replace bW := sp_call bW g; clear g)
    | (go_at_call 29; (with_reducible refine (k1 _ _ hT).mono ?_); rintro e y0 ⟨⟨pp0, nn0, cc0, rfl⟩, g⟩; replace b0 := sp_cell_on g b0; replace b1 := sp_cell_on g b1; replace b2 := sp_cell_on g b2; replace q0 := sp_cell_on g q0; replace q1 := sp_cell_on g q1; replace q2 := sp_cell_on g q2; replace q3 := sp_cell_on g q3; replace q4 := sp_cell_on g q4; replace x0 := sp_cell_on g x0; replace x1 := sp_cell_on g x1; replace x2 := sp_cell_on g x2; replace x3 := sp_cell_on g x3; replace x4 := sp_cell_on g x4; replace hT := hT.on g; replace bW := sp_call bW g; clear g)
    | (go_at_call 29; (with_reducible refine (k2 _ _ hT).mono ?_); rintro e y1 ⟨⟨pp1, nn1, cc1, rfl⟩, g⟩; replace b0 := sp_cell_on g b0; replace b1 := sp_cell_on g b1; replace b2 := sp_cell_on g b2; replace q0 := sp_cell_on g q0; replace q1 := sp_cell_on g q1; replace q2 := sp_cell_on g q2; replace q3 := sp_cell_on g q3; replace q4 := sp_cell_on g q4; replace x0 := sp_cell_on g x0; replace x1 := sp_cell_on g x1; replace x2 := sp_cell_on g x2; replace x3 := sp_cell_on g x3; replace x4 := sp_cell_on g x4; replace hT := hT.on g; replace bW := sp_call bW g; clear g)
    | (go_at_call 31; (with_reducible refine (k3 _ _ hT).mono ?_); rintro e y2 ⟨⟨pp2, nn2, cc2, rfl⟩, g⟩; replace b0 := sp_cell_on g b0; replace b1 := sp_cell_on g b1; replace b2 := sp_cell_on g b2; replace q0 := sp_cell_on g q0; replace q1 := sp_cell_on g q1; replace q2 := sp_cell_on g q2; replace q3 := sp_cell_on g q3; replace q4 := sp_cell_on g q4; replace x0 := sp_cell_on g x0; replace x1 := sp_cell_on g x1; replace x2 := sp_cell_on g x2; replace x3 := sp_cell_on g x3; replace x4 := sp_cell_on g x4; replace hT := hT.on g; replace bW := sp_call bW g; clear g)
    | (go_at_call 33; (with_reducible refine (k4 _).mono ?_); rintro e y3 ⟨⟨pp3, nn3, cc3, rfl⟩, g⟩; replace b0 := sp_cell_on g b0; replace b1 := sp_cell_on g b1; replace b2 := sp_cell_on g b2; replace q0 := sp_cell_on g q0; replace q1 := sp_cell_on g q1; replace q2 := sp_cell_on g q2; replace q3 := sp_cell_on g q3; replace q4 := sp_cell_on g q4; replace x0 := sp_cell_on g x0; replace x1 := sp_cell_on g x1; replace x2 := sp_cell_on g x2; replace x3 := sp_cell_on g x3; replace x4 := sp_cell_on g x4; replace hT := hT.on g; replace bW := sp_call bW g; clear g)
    | (go_at_call 37; (with_reducible refine (k5 _).mono ?_); rintro e y4 ⟨⟨pp4, nn4, cc4, rfl⟩, g⟩; replace b0 := sp_cell_on g b0; replace b1 := sp_cell_on g b1; replace b2 := sp_cell_on g b2; replace q0 := sp_cell_on g q0; replace q1 := sp_cell_on g q1; replace q2 := sp_cell_on g q2; replace q3 := sp_cell_on g q3; replace q4 := sp_cell_on g q4; replace x0 := sp_cell_on g x0; replace x1 := sp_cell_on g x1; replace x2 := sp_cell_on g x2; replace x3 := sp_cell_on g x3; replace x4 := sp_cell_on g x4; replace hT := hT.on g; replace bW := sp_call bW g; clear g)
    | (go_at_call 39; (with_reducible refine (k6 _).mono ?_); rintro e y5 ⟨⟨pp5, nn5, cc5, rfl⟩, g⟩; replace b0 := sp_cell_on g b0; replace b1 := sp_cell_on g b1; replace b2 := sp_cell_on g b2; replace q0 := sp_cell_on g q0; replace q1 := sp_cell_on g q1; replace q2 := sp_cell_on g q2; replace q3 := sp_cell_on g q3; replace q4 := sp_cell_on g q4; replace x0 := sp_cell_on g x0; replace x1 := sp_cell_on g x1; replace x2 := sp_cell_on g x2; replace x3 := sp_cell_on g x3; replace x4 := sp_cell_on g x4; replace hT := hT.on g; replace bW := sp_call bW g; clear g)
    | fail)
  go_ret
  exact ⟨rfl, bW⟩
end Go.Proofs.YteafnkimcidkhaaGreat
