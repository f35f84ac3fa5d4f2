/- The reference's Sum of two right ranges. -/
import Derived.Test.YteafnkimcidkhaaGreatRG2
import Derived.Test.YteafnkimcidkhaaGreatRSpFl
namespace Go.Proofs.YteafnkimcidkhaaGreat
open Go.RowKit
set_option linter.unusedVariables false
set_option linter.unusedSimpArgs false
theorem lj_cells3 {v : World} {b : Nat} {t : TypeId} {x0 x1 x2 : Value} (q : v.heap[b]? = some (.cells #[x0, x1, x2] t (0, 0))) : v.cell? ⟨b, 0, none⟩ = some x0 ∧ v.cell? ⟨b, 1, none⟩ = some x1 ∧ v.cell? ⟨b, 2, none⟩ = some x2 ∧ ∀ j, v.frozen? ⟨b, j, none⟩ = false :=
 ⟨by simp [World.cell?, q], by simp [World.cell?, q], by simp [World.cell?, q], fun j => by simp [World.frozen?, q]⟩
set_option maxRecDepth 100000 in
set_option maxHeartbeats 1600000 in
theorem rsum9_ok (a b c d s1 s2 : Int) (e3 : Bool) (l h : Int) (ok : Bool) (k1 : ∀ V, Calls Tryz.prog 47 #[.int .i64 0, .agg #[.bool false, .int .u64 a, .int .u64 b]] V fun e w' => e = .returned (.bool true) ∧ Below V.heap.size V w') (k2 : ∀ V, Calls Tryz.prog 47 #[.int .i64 0, .agg #[.bool false, .int .u64 c, .int .u64 d]] V fun e w' => e = .returned (.bool true) ∧ Below V.heap.size V w')
  (ka : ∀ V, Calls Tryz.prog 45 #[.int .i64 0, .int .i64 2, .int .u64 a, .int .u64 c] V fun e w' => e = .returned (.int .u64 s1) ∧ Below V.heap.size V w') (kb : ∀ V, Calls Tryz.prog 45 #[.int .i64 0, .int .i64 1, .int .u64 b, .int .u64 d] V fun e w' => e = .returned (.int .u64 s2) ∧ Below V.heap.size V w')
  (ko : ∀ V, Calls Tryz.prog 56 #[.int .u64 s1, .int .u64 s2] V fun e w' => e = .returned (.tuple #[.agg #[.bool e3, .int .u64 l, .int .u64 h], .bool ok]) ∧ Below V.heap.size V w') (w : World) :
  Calls Tryz.prog 14 #[.agg #[.bool false, .int .u64 a, .int .u64 b], .agg #[.bool false, .int .u64 c, .int .u64 d]] w fun e w' => e = .returned (.tuple #[.agg #[.bool e3, .int .u64 l, .int .u64 h], .bool ok]) ∧ Below w.heap.size w w' := by
 obtain ⟨W, hW⟩ : ∃ W, ((w.alloc (.cells #[.bool false, .int .u64 a, .int .u64 b] 24)).alloc (.cells #[.bool false, .int .u64 c, .int .u64 d] 24)).alloc (.cells #[.bool false, .int .u64 0, .int .u64 0] 24) = W := ⟨_, rfl⟩
 have gW : Below w.heap.size w W := by rw [← hW]; exact sp_new (sp_new (sp_new (Below.refl _ _) _) _) _
 obtain ⟨p, hp⟩ : ∃ p, w.heap.size = p := ⟨_, rfl⟩
 obtain ⟨q, hq⟩ : ∃ q, p + 1 = q := ⟨_, rfl⟩
 obtain ⟨r, hr⟩ : ∃ r, q + 1 = r := ⟨_, rfl⟩
 have zr : w.heap.size ≤ r := by omega
 have zW : r + 1 ≤ W.heap.size := by rw [← hW]; simp; omega
 have a0 : W.cell? ⟨p, 0, none⟩ = some (.bool false) := by rw [← hW, ← hp]; simp [go_sem]
 have a1 : W.cell? ⟨p, 1, none⟩ = some (.int .u64 a) := by rw [← hW, ← hp]; simp [go_sem]
 have a2 : W.cell? ⟨p, 2, none⟩ = some (.int .u64 b) := by rw [← hW, ← hp]; simp [go_sem]
 have b0 : W.cell? ⟨q, 0, none⟩ = some (.bool false) := by rw [← hW, ← hq, ← hp]; simp [go_sem]
 have b1 : W.cell? ⟨q, 1, none⟩ = some (.int .u64 c) := by rw [← hW, ← hq, ← hp]; simp [go_sem]
 have b2 : W.cell? ⟨q, 2, none⟩ = some (.int .u64 d) := by rw [← hW, ← hq, ← hp]; simp [go_sem]
 have qr : W.heap[r]? = some (.cells #[.bool false, .int .u64 0, .int .u64 0] 24 (0, 0)) := by
  have := World.alloc_heap_new ((w.alloc (.cells #[.bool false, .int .u64 a, .int .u64 b] 24)).alloc (.cells #[.bool false, .int .u64 c, .int .u64 d] 24)) (.cells #[.bool false, .int .u64 0, .int .u64 0] 24)
  rw [hW] at this
  rw [← hr, ← hq, ← hp]
  simpa using this
 go_enter Tryz.func14, Tryz.ntmps14
 go_upto_region 1 with fail
 (try rw [hW])
 (try rw [hp])
 (try rw [hq])
 (try rw [hr])
 clear hW
 go_upto_region 5 with (first
   | (go_at_call_of 47 a; refine (k1 _).mono ?_; rintro e v1 ⟨rfl, g⟩; replace qr := carryF g qr; replace a0 := sO g a0; replace a1 := sO g a1; replace a2 := sO g a2; replace b0 := sO g b0; replace b1 := sO g b1; replace b2 := sO g b2; replace gW := sp_call gW g; replace zW := Nat.le_trans zW g.size; clear g k1)
   | (go_at_call_of 47 c; refine (k2 _).mono ?_; rintro e v2 ⟨rfl, g⟩; replace qr := carryF g qr; replace a0 := sO g a0; replace a1 := sO g a1; replace a2 := sO g a2; replace b0 := sO g b0; replace b1 := sO g b1; replace b2 := sO g b2; replace gW := sp_call gW g; replace zW := Nat.le_trans zW g.size; clear g k2)
   | fail)
 clear a0 b0
 have cc : Below v2.heap.size v2 v2.drew := (Below.refl _ _).drew
 have npr : p ≠ r := by omega
 have nqr : q ≠ r := by omega
 have hall : ∀ X9, Below v2.heap.size v2 X9 → (X9.cell? ⟨p, 1, none⟩ = some (.int .u64 a) ∧ X9.cell? ⟨p, 2, none⟩ = some (.int .u64 b) ∧ X9.cell? ⟨q, 1, none⟩ = some (.int .u64 c) ∧ X9.cell? ⟨q, 2, none⟩ = some (.int .u64 d)) := fun X9 cc => ⟨sO cc a1, sO cc a2, sO cc b1, sO cc b2⟩
 refine wp_region_held_drew (S := (fun w' => w'.cell? ⟨p, 1, none⟩ = some (.int .u64 a) ∧ w'.cell? ⟨p, 2, none⟩ = some (.int .u64 b) ∧ w'.cell? ⟨q, 1, none⟩ = some (.int .u64 c) ∧ w'.cell? ⟨q, 2, none⟩ = some (.int .u64 d))) (by kernel_rfl) (hall _ cc) (fun hH => ?_)
 refine wpAnyH_take (i := 0) (oi := _) (v := .pointer (some ⟨p, 1, none⟩)) rfl (by kernel_rfl) (by kernel_rfl) (by kernel_rfl) (fun _ _ _ h => h) (Or.inl ⟨by rfl, fun w' hSw => by obtain ⟨za1, za2, zb1, zb2⟩ := hSw; go_simp⟩) hH ?_
 simp only [Act.put, gA, gB, gC, gD, gE, gG]
 refine wpAnyH_take (i := 1) (oi := _) (v := .int .u64 a) rfl (by kernel_rfl) (by kernel_rfl) (by kernel_rfl) (fun _ _ _ h => h) (Or.inl ⟨by rfl, fun w' hSw => by obtain ⟨za1, za2, zb1, zb2⟩ := hSw; go_simp⟩) hH ?_
 simp only [Act.put, gA, gB, gC, gD, gE, gG]
 refine wpAnyH_take (i := 2) (oi := _) (v := .pointer (some ⟨q, 1, none⟩)) rfl (by kernel_rfl) (by kernel_rfl) (by kernel_rfl) (fun _ _ _ h => h) (Or.inl ⟨by rfl, fun w' hSw => by obtain ⟨za1, za2, zb1, zb2⟩ := hSw; go_simp⟩) hH ?_
 simp only [Act.put, gA, gB, gC, gD, gE, gG]
 refine wpAnyH_take (i := 3) (oi := _) (v := .int .u64 c) rfl (by kernel_rfl) (by kernel_rfl) (by kernel_rfl) (fun _ _ _ h => h) (Or.inl ⟨by rfl, fun w' hSw => by obtain ⟨za1, za2, zb1, zb2⟩ := hSw; go_simp⟩) hH ?_
 simp only [Act.put, gA, gB, gC, gD, gE, gG]
 refine wpAnyH_take (i := 5) (oi := _) (v := .pointer (some ⟨p, 2, none⟩)) rfl (by kernel_rfl) (by kernel_rfl) (by kernel_rfl) (fun _ _ _ h => h) (Or.inl ⟨by rfl, fun w' hSw => by obtain ⟨za1, za2, zb1, zb2⟩ := hSw; go_simp⟩) hH ?_
 simp only [Act.put, gA, gB, gC, gD, gE, gG]
 refine wpAnyH_take (i := 6) (oi := _) (v := .int .u64 b) rfl (by kernel_rfl) (by kernel_rfl) (by kernel_rfl) (fun _ _ _ h => h) (Or.inl ⟨by rfl, fun w' hSw => by obtain ⟨za1, za2, zb1, zb2⟩ := hSw; go_simp⟩) hH ?_
 simp only [Act.put, gA, gB, gC, gD, gE, gG]
 refine wpAnyH_take (i := 7) (oi := _) (v := .pointer (some ⟨q, 2, none⟩)) rfl (by kernel_rfl) (by kernel_rfl) (by kernel_rfl) (fun _ _ _ h => h) (Or.inl ⟨by rfl, fun w' hSw => by obtain ⟨za1, za2, zb1, zb2⟩ := hSw; go_simp⟩) hH ?_
 simp only [Act.put, gA, gB, gC, gD, gE, gG]
 refine wpAnyH_take (i := 8) (oi := _) (v := .int .u64 d) rfl (by kernel_rfl) (by kernel_rfl) (by kernel_rfl) (fun _ _ _ h => h) (Or.inl ⟨by rfl, fun w' hSw => by obtain ⟨za1, za2, zb1, zb2⟩ := hSw; go_simp⟩) hH ?_
 simp only [Act.put, gA, gB, gC, gD, gE, gG]
 replace gW := gW.drew
 replace qr : v2.drew.heap[r]? = _ := qr
 generalize hY : v2.drew = Y0 at *
 clear hY
 refine wpAnyH_ready (rs := [4]) (by kernel_rfl) (by simp) (AllReadyH.cons (o := _) rfl (fun K hK => ?_) AllReadyH.nil)
 go_simp
 refine (ka _).mono ?_
 rintro e Y1 ⟨rfl, g⟩
 replace cc := sp_call cc g
 replace gW := sp_call gW g
 replace qr := carryF g qr
 clear g
 go_wp2_with fail
 refine hK.out _ _ (hall _ cc) (fun hH => ?_)
 clear hK K
 try simp only [Act.put, gA, gB, gC, gD, gE, gG]
 refine wpAnyH_ready (rs := [9]) (by kernel_rfl) (by simp) (AllReadyH.cons (o := _) rfl (fun K hK => ?_) AllReadyH.nil)
 go_simp
 refine (kb _).mono ?_
 rintro e Y2 ⟨rfl, g⟩
 replace cc := sp_call cc g
 replace gW := sp_call gW g
 replace qr := carryF g qr
 clear g
 go_wp2_with fail
 refine hK.out _ _ (hall _ cc) (fun hH => ?_)
 clear hK K
 try simp only [Act.put, gA, gB, gC, gD, gE, gG]
 refine wpAnyH_ready (rs := [10]) (by kernel_rfl) (by simp) (AllReadyH.cons (o := _) rfl (fun K hK => ?_) AllReadyH.nil)
 go_simp
 refine (ko _).mono ?_
 rintro e Y3 ⟨rfl, g⟩
 replace cc := sp_call cc g
 replace gW := sp_call gW g
 replace qr := carryF g qr
 clear g
 go_wp2_with fail
 refine hK.out _ _ (hall _ cc) (fun hH => ?_)
 clear hK K
 try simp only [Act.put, gA, gB, gC, gD, gE, gG]
 refine wpAnyH_take (i := 11) (oi := _) (v := .agg #[.bool e3, .int .u64 l, .int .u64 h]) rfl (by kernel_rfl) (by kernel_rfl) (by kernel_rfl) (fun _ _ _ h => h) (Or.inl ⟨by rfl, fun w' hSw => by obtain ⟨za1, za2, zb1, zb2⟩ := hSw; go_simp⟩) hH ?_
 simp only [Act.put, gA, gB, gC, gD, gE, gG]
 refine wpAnyH_take (i := 12) (oi := _) (v := .bool ok) rfl (by kernel_rfl) (by kernel_rfl) (by kernel_rfl) (fun _ _ _ h => h) (Or.inl ⟨by rfl, fun w' hSw => by obtain ⟨za1, za2, zb1, zb2⟩ := hSw; go_simp⟩) hH ?_
 simp only [Act.put, gA, gB, gC, gD, gE, gG]
 obtain ⟨q0, q1, q2, qf⟩ := lj_cells3 qr
 refine wpAnyH_ready (rs := [13]) (by kernel_rfl) (by simp) (AllReadyH.cons (o := _) rfl (fun K hK => ?_) AllReadyH.nil)
 go_simp
 obtain ⟨z1, z2, z3, z4⟩ := hall _ cc
 refine hK.out _ _ (by refine ⟨?_, ?_, ?_, ?_⟩ <;> simp [go_sem, npr, nqr, z1, z2, z3, z4]) (fun hH => ?_)
 clear hK K
 try simp only [Act.put, gA, gB, gC, gD, gE, gG]
 refine wpAnyH_take (i := 14) (oi := _) (v := .bool ok) rfl (by kernel_rfl) (by kernel_rfl) (by kernel_rfl) (fun _ _ _ h => h) (Or.inl ⟨by rfl, fun w' hSw => by obtain ⟨za1, za2, zb1, zb2⟩ := hSw; go_simp⟩) hH ?_
 simp only [Act.put, gA, gB, gC, gD, gE, gG]
 refine wpAnyH_done (by kernel_rfl) ?_ _
 go_wp2_with fail
 exact bodyPost_ret (v := .tuple #[.agg #[.bool e3, .int .u64 l, .int .u64 h], .bool ok]) (by simp [results, Tryz.results14, go_sem, q0, q1, q2]) rfl ⟨rfl, sp_set3 gW zr _ _ _⟩
end Go.Proofs.YteafnkimcidkhaaGreat



