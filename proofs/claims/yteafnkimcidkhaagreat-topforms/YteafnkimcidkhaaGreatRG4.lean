/- Texts of the proof, put together. -/
import Derived.Test.YteafnkimcidkhaaGreatRLiL
namespace Go.Proofs.YteafnkimcidkhaaGreat
open Go.RowKit
set_option linter.unusedVariables false
set_option linter.unusedSimpArgs false
theorem lifld (w : World) : (Instr.field 31 (.agg #[.bool true, .bool false, .int .u64 0, .int .u64 0, .slice none 0 0]) 0).run Tryz.prog w = .ok (.bool true) w := by kernel_rfl
set_option maxRecDepth 100000 in
set_option maxHeartbeats 6400000 in
theorem lilive (X : List (Int × Bool × Int × Int)) (k1 : ∀ V, Calls Tryz.prog 22 #[.int .i64 0] V fun e w' => (∃ v, e = .returned (.agg #[.bool false, .bool false, .int .u64 0, .int .u64 0, v]) ∧ TAt w' v X ∧ Up V.heap.size v) ∧ Below V.heap.size V w')
  (k2 : ∀ V v, TAt V v X → Calls Tryz.prog 31 #[.agg #[.bool false, .bool false, .int .u64 0, .int .u64 0, v], .agg #[.bool false, .bool false, .int .u64 0, .int .u64 0, v]] V fun e w' => (∃ v, e = .returned (.agg #[.bool false, .bool false, .int .u64 0, .int .u64 0, v]) ∧ TAt w' v []) ∧ Below V.heap.size V w')
  (k3 : ∀ V v, TAt V v X → Calls Tryz.prog 24 #[.agg #[.bool false, .bool false, .int .u64 0, .int .u64 0, v]] V fun e w' => e = .returned (.bool true) ∧ Below V.heap.size V w') (k4 : ∀ V, Calls Tryz.prog 20 #[.agg #[.bool true, .int .u64 0, .int .u64 0]] V fun e w' => e = .returned (.agg #[.bool true, .bool false, .int .u64 0, .int .u64 0, .slice none 0 0]) ∧ Below V.heap.size V w') (w : World) :
  Calls Tryz.prog 17 #[] w fun e w' => e = .returned (.bool true) ∧ Below w.heap.size w w' := by
 go_enter Tryz.func17, Tryz.ntmps17
 go_upto_region 2 with (first
  | (go_at_call 22; (with_reducible refine (k1 _).mono ?_); rintro e v1 ⟨⟨v, rfl, hT, hU⟩, g1⟩; obtain ⟨p1, c1, rfl⟩ := hT.len)
  | fail)
 obtain ⟨W, hW⟩ : ∃ W, v1.alloc (.cells #[.bool false, .bool false, .int .u64 0, .int .u64 0, .slice p1 X.length c1] 31) = W := ⟨_, rfl⟩
 have gW : Below v1.heap.size v1 W := by rw [← hW]; exact sp_new (Below.refl _ _) _
 have x0 : W.cell? ⟨v1.heap.size, 0, none⟩ = some (.bool false) := by rw [← hW]; simp [go_sem]
 have x1 : W.cell? ⟨v1.heap.size, 1, none⟩ = some (.bool false) := by rw [← hW]; simp [go_sem]
 have x2 : W.cell? ⟨v1.heap.size, 2, none⟩ = some (.int .u64 0) := by rw [← hW]; simp [go_sem]
 have x3 : W.cell? ⟨v1.heap.size, 3, none⟩ = some (.int .u64 0) := by rw [← hW]; simp [go_sem]
 have x4 : W.cell? ⟨v1.heap.size, 4, none⟩ = some (.slice p1 X.length c1) := by rw [← hW]; simp [go_sem]
 have bW := sp_call g1 gW
 replace hT := hT.on gW
 rw [hW]
 clear hW
 go_upto_region 3 with (first
  | (go_at_call 31; (with_reducible refine (k2 _ _ hT).mono ?_); rintro e v2 ⟨⟨v, rfl, hT2⟩, g2⟩; obtain ⟨p2, c2, rfl⟩ := hT2.len)
  | fail)
 obtain ⟨Y, hY⟩ : ∃ Y, v2.alloc (.cells #[.bool false, .bool false, .int .u64 0, .int .u64 0, .slice p2 0 c2] 31) = Y := ⟨_, rfl⟩
 have gY : Below W.heap.size W Y := by rw [← hY]; exact sp_new g2 _
 have y0 : Y.cell? ⟨v2.heap.size, 0, none⟩ = some (.bool false) := by rw [← hY]; simp [go_sem]
 have y1 : Y.cell? ⟨v2.heap.size, 1, none⟩ = some (.bool false) := by rw [← hY]; simp [go_sem]
 have y2 : Y.cell? ⟨v2.heap.size, 2, none⟩ = some (.int .u64 0) := by rw [← hY]; simp [go_sem]
 have y3 : Y.cell? ⟨v2.heap.size, 3, none⟩ = some (.int .u64 0) := by rw [← hY]; simp [go_sem]
 have y4 : Y.cell? ⟨v2.heap.size, 4, none⟩ = some (.slice p2 0 c2) := by rw [← hY]; simp [go_sem]
 replace hT := hT.on gY
 replace x0 := sO gY x0
 replace x1 := sO gY x1
 replace x2 := sO gY x2
 replace x3 := sO gY x3
 replace x4 := sO gY x4
 replace bW := sp_call bW gY
 rw [hY]
 clear hY gY
 have hi0 := lifld
 go_wp2_with (first
  | (go_at_call 24; (with_reducible refine (k3 _ _ hT).mono ?_); rintro e v3 ⟨rfl, g3⟩)
  | (go_at_call 20; (with_reducible refine (k4 _).mono ?_); rintro e v4 ⟨rfl, g4⟩)
  | fail)
 go_ret
 exact ⟨rfl, sp_call (sp_call bW g3) g4⟩
set_option maxRecDepth 100000 in
set_option maxHeartbeats 6400000 in
theorem lifew (wa ae : Bool) (al ah : Int) (v : Value) (ls : List (Int × Bool × Int × Int)) (w : World) (hv : TAt w v ls) :
  Calls Tryz.prog 18 #[.agg #[.bool wa, .bool ae, .int .u64 al, .int .u64 ah, v]] w fun e w' => (∃ v, e = .returned (.agg #[.bool wa, .bool ae, .int .u64 al, .int .u64 ah, v]) ∧ TAt w' v (ls.take 40)) ∧ Below w.heap.size w w' := by
 have hv0 := hv
 obtain ⟨pa, ca, rfl⟩ := hv.len
 by_cases h40 : ls.length ≤ 40
 ·have h40' : ¬ (40 : Int) < (ls.length : Int) := by omega
  go_enter Tryz.func18, Tryz.ntmps18
  go_upto_region 1 with fail
  obtain ⟨W, hW⟩ : ∃ W, ((w.alloc (.cells #[.bool wa, .bool ae, .int .u64 al, .int .u64 ah, .slice pa ls.length ca] 31)).alloc (.cells #[.bool false, .bool false, .int .u64 0, .int .u64 0, .slice none 0 0] 31)) = W := ⟨_, rfl⟩
  have a0 : W.cell? ⟨w.heap.size, 0, none⟩ = some (.bool wa) := by rw [← hW]; simp [go_sem]
  have a1 : W.cell? ⟨w.heap.size, 1, none⟩ = some (.bool ae) := by rw [← hW]; simp [go_sem]
  have a2 : W.cell? ⟨w.heap.size, 2, none⟩ = some (.int .u64 al) := by rw [← hW]; simp [go_sem]
  have a3 : W.cell? ⟨w.heap.size, 3, none⟩ = some (.int .u64 ah) := by rw [← hW]; simp [go_sem]
  have a4 : W.cell? ⟨w.heap.size, 4, none⟩ = some (.slice pa ls.length ca) := by rw [← hW]; simp [go_sem]
  have r0 : W.cell? ⟨w.heap.size + 1, 0, none⟩ = some (.bool false) := by rw [← hW]; simp [go_sem]
  have r1 : W.cell? ⟨w.heap.size + 1, 1, none⟩ = some (.bool false) := by rw [← hW]; simp [go_sem]
  have r2 : W.cell? ⟨w.heap.size + 1, 2, none⟩ = some (.int .u64 0) := by rw [← hW]; simp [go_sem]
  have r3 : W.cell? ⟨w.heap.size + 1, 3, none⟩ = some (.int .u64 0) := by rw [← hW]; simp [go_sem]
  have r4 : W.cell? ⟨w.heap.size + 1, 4, none⟩ = some (.slice none 0 0) := by rw [← hW]; simp [go_sem]
  have bW : Below w.heap.size w W := by rw [← hW]; exact (sp_new (sp_new (Below.refl _ _) _) _)
  have zW : W.heap.size = w.heap.size + 2 := by rw [← hW]; simp
  have fz : ∀ j, W.frozen? ⟨w.heap.size + 1, j, none⟩ = false := by intro j; rw [← hW]; simp [go_sem]
  rw [hW]
  clear hW
  replace zW := Nat.le_of_eq zW.symm
  go_wp2_with fail
  exact bodyPost_ret (v := .agg #[.bool wa, .bool ae, .int .u64 al, .int .u64 ah, .slice pa ls.length ca]) (by simp [results, Tryz.results18, go_sem, r0, r1, r2, r3, r4]) rfl ⟨⟨_, rfl, by rw [List.take_of_length_le h40]; exact hv0.on (by (repeat (first | with_reducible assumption | with_reducible refine li_set1 ?_ (by omega) _ | with_reducible refine sp_new ?_ _)))⟩, (by (repeat (first | with_reducible assumption | with_reducible refine li_set1 ?_ (by omega) _ | with_reducible refine sp_new ?_ _)))⟩
 ·have h40' : (40 : Int) < (ls.length : Int) := by omega
  rcases hv with ⟨_, h0⟩ | ⟨b, o, cap, hs, hc, hcells⟩
  ·rw [h0] at h40; simp at h40
  ·cases hs
   have hc' : (40 : Int) ≤ (ca : Int) := by omega
   have hc2 : 40 ≤ ca := by omega
   have ht : TAt w (.slice (some ⟨b, o, none⟩) 40 ca) (ls.take 40) := by
    have e40 : (ls.take 40).length = 40 := by simp; omega
    refine Or.inr ⟨b, o, ca, by rw [e40], by omega, fun j t hj => hcells j t ?_⟩
    rw [List.getElem?_take] at hj
    split at hj
    ·exact hj
    ·cases hj
   go_enter Tryz.func18, Tryz.ntmps18
   go_upto_region 1 with fail
   obtain ⟨W, hW⟩ : ∃ W, ((w.alloc (.cells #[.bool wa, .bool ae, .int .u64 al, .int .u64 ah, .slice (some ⟨b, o, none⟩) ls.length ca] 31)).alloc (.cells #[.bool false, .bool false, .int .u64 0, .int .u64 0, .slice none 0 0] 31)) = W := ⟨_, rfl⟩
   have a0 : W.cell? ⟨w.heap.size, 0, none⟩ = some (.bool wa) := by rw [← hW]; simp [go_sem]
   have a1 : W.cell? ⟨w.heap.size, 1, none⟩ = some (.bool ae) := by rw [← hW]; simp [go_sem]
   have a2 : W.cell? ⟨w.heap.size, 2, none⟩ = some (.int .u64 al) := by rw [← hW]; simp [go_sem]
   have a3 : W.cell? ⟨w.heap.size, 3, none⟩ = some (.int .u64 ah) := by rw [← hW]; simp [go_sem]
   have a4 : W.cell? ⟨w.heap.size, 4, none⟩ = some (.slice (some ⟨b, o, none⟩) ls.length ca) := by rw [← hW]; simp [go_sem]
   have r0 : W.cell? ⟨w.heap.size + 1, 0, none⟩ = some (.bool false) := by rw [← hW]; simp [go_sem]
   have r1 : W.cell? ⟨w.heap.size + 1, 1, none⟩ = some (.bool false) := by rw [← hW]; simp [go_sem]
   have r2 : W.cell? ⟨w.heap.size + 1, 2, none⟩ = some (.int .u64 0) := by rw [← hW]; simp [go_sem]
   have r3 : W.cell? ⟨w.heap.size + 1, 3, none⟩ = some (.int .u64 0) := by rw [← hW]; simp [go_sem]
   have r4 : W.cell? ⟨w.heap.size + 1, 4, none⟩ = some (.slice none 0 0) := by rw [← hW]; simp [go_sem]
   have bW : Below w.heap.size w W := by rw [← hW]; exact (sp_new (sp_new (Below.refl _ _) _) _)
   have zW : W.heap.size = w.heap.size + 2 := by rw [← hW]; simp
   have fa : ∀ j, W.frozen? ⟨w.heap.size, j, none⟩ = false := by intro j; rw [← hW]; simp [go_sem]
   have fz : ∀ j, W.frozen? ⟨w.heap.size + 1, j, none⟩ = false := by intro j; rw [← hW]; simp [go_sem]
   rw [hW]
   clear hW
   replace zW := Nat.le_of_eq zW.symm
   go_wp2_with fail
   exact bodyPost_ret (v := .agg #[.bool wa, .bool ae, .int .u64 al, .int .u64 ah, .slice (some ⟨b, o, none⟩) 40 ca]) (by simp [results, Tryz.results18, go_sem, r0, r1, r2, r3, r4]) rfl ⟨⟨_, rfl, ht.on (by (repeat (first | with_reducible assumption | with_reducible refine li_set1 ?_ (by omega) _ | with_reducible refine sp_new ?_ _)))⟩, (by (repeat (first | with_reducible assumption | with_reducible refine li_set1 ?_ (by omega) _ | with_reducible refine sp_new ?_ _)))⟩
end Go.Proofs.YteafnkimcidkhaaGreat


namespace Go.Proofs.YteafnkimcidkhaaGreat
open Go.RowKit
set_option linter.unusedVariables false
set_option linter.unusedSimpArgs false
set_option maxRecDepth 100000 in
set_option maxHeartbeats 6400000 in
theorem lisame (wa ae : Bool) (al ah : Int) (pa pb : Option Addr) (na ca nb cb : Nat) (q : Bool) (ok : World → Prop) (hok : ∀ W V, ok W → Below W.heap.size W V → ok V)
  (k1 : ∀ V, ok V → Calls Tryz.prog 24 #[.agg #[.bool wa, .bool ae, .int .u64 al, .int .u64 ah, .slice pa na ca]] V fun e w' => e = .returned (.bool true) ∧ Below V.heap.size V w') (k2 : ∀ V, ok V → Calls Tryz.prog 24 #[.agg #[.bool wa, .bool ae, .int .u64 al, .int .u64 ah, .slice pb nb cb]] V fun e w' => e = .returned (.bool true) ∧ Below V.heap.size V w')
  (k3 : ∀ V, ok V → Calls Tryz.prog 66 #[.slice pa na ca, .slice pb nb cb] V fun e w' => e = .returned (.bool q) ∧ Below V.heap.size V w') (w : World) (h0 : ok w) :
  Calls Tryz.prog 27 #[.agg #[.bool wa, .bool ae, .int .u64 al, .int .u64 ah, .slice pa na ca], .agg #[.bool wa, .bool ae, .int .u64 al, .int .u64 ah, .slice pb nb cb]] w fun e w' => e = .returned (.bool q) ∧ Below w.heap.size w w' := by
 go_enter Tryz.func27, Tryz.ntmps27
 go_upto_region 1 with fail
 obtain ⟨W, hW⟩ : ∃ W, ((w.alloc (.cells #[.bool wa, .bool ae, .int .u64 al, .int .u64 ah, .slice pa na ca] 31)).alloc (.cells #[.bool wa, .bool ae, .int .u64 al, .int .u64 ah, .slice pb nb cb] 31)) = W := ⟨_, rfl⟩
 have a0 : W.cell? ⟨w.heap.size, 0, none⟩ = some (.bool wa) := by rw [← hW]; simp [go_sem]
 have a1 : W.cell? ⟨w.heap.size, 1, none⟩ = some (.bool ae) := by rw [← hW]; simp [go_sem]
 have a2 : W.cell? ⟨w.heap.size, 2, none⟩ = some (.int .u64 al) := by rw [← hW]; simp [go_sem]
 have a3 : W.cell? ⟨w.heap.size, 3, none⟩ = some (.int .u64 ah) := by rw [← hW]; simp [go_sem]
 have a4 : W.cell? ⟨w.heap.size, 4, none⟩ = some (.slice pa na ca) := by rw [← hW]; simp [go_sem]
 have b0 : W.cell? ⟨w.heap.size + 1, 0, none⟩ = some (.bool wa) := by rw [← hW]; simp [go_sem]
 have b1 : W.cell? ⟨w.heap.size + 1, 1, none⟩ = some (.bool ae) := by rw [← hW]; simp [go_sem]
 have b2 : W.cell? ⟨w.heap.size + 1, 2, none⟩ = some (.int .u64 al) := by rw [← hW]; simp [go_sem]
 have b3 : W.cell? ⟨w.heap.size + 1, 3, none⟩ = some (.int .u64 ah) := by rw [← hW]; simp [go_sem]
 have b4 : W.cell? ⟨w.heap.size + 1, 4, none⟩ = some (.slice pb nb cb) := by rw [← hW]; simp [go_sem]
 have bW : Below w.heap.size w W := by rw [← hW]; exact (sp_new (sp_new (Below.refl _ _) _) _)
 have zW : W.heap.size = w.heap.size + 2 := by rw [← hW]; simp
 rw [hW]
 clear hW
 replace zW := Nat.le_of_eq zW.symm
 have oW := hok _ _ h0 bW
 go_wp2_with (first
  | (go_at_call 24; (with_reducible refine (k1 _ oW).mono ?_); rintro e v1 ⟨rfl, g⟩; replace oW := hok _ _ oW g; replace bW := sp_call bW g; replace zW := Nat.le_trans zW g.size; replace a0 := sO g a0; replace a1 := sO g a1; replace a2 := sO g a2; replace a3 := sO g a3; replace a4 := sO g a4; replace b0 := sO g b0; replace b1 := sO g b1; replace b2 := sO g b2; replace b3 := sO g b3; replace b4 := sO g b4; clear g)
  | (go_at_call 24; (with_reducible refine (k2 _ oW).mono ?_); rintro e v2 ⟨rfl, g⟩; replace oW := hok _ _ oW g; replace bW := sp_call bW g; replace zW := Nat.le_trans zW g.size; replace a0 := sO g a0; replace a1 := sO g a1; replace a2 := sO g a2; replace a3 := sO g a3; replace a4 := sO g a4; replace b0 := sO g b0; replace b1 := sO g b1; replace b2 := sO g b2; replace b3 := sO g b3; replace b4 := sO g b4; clear g)
  | (go_at_call 66; (with_reducible refine (k3 _ oW).mono ?_); rintro e v3 ⟨rfl, g⟩; replace oW := hok _ _ oW g; replace bW := sp_call bW g; replace zW := Nat.le_trans zW g.size; replace a0 := sO g a0; replace a1 := sO g a1; replace a2 := sO g a2; replace a3 := sO g a3; replace a4 := sO g a4; replace b0 := sO g b0; replace b1 := sO g b1; replace b2 := sO g b2; replace b3 := sO g b3; replace b4 := sO g b4; clear g)
  | fail)
 go_ret
 exact ⟨by simp, bW⟩
end Go.Proofs.YteafnkimcidkhaaGreat


