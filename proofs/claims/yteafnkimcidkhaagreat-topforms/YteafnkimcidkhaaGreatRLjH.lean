/- The reference's Product of two right ranges. -/
import Derived.Test.YteafnkimcidkhaaGreatRG2
import Derived.Test.YteafnkimcidkhaaGreatRLjF
namespace Go.Proofs.YteafnkimcidkhaaGreat
open Go.RowKit
set_option linter.unusedVariables false
set_option linter.unusedSimpArgs false
def mnP (ls : Int → Int → Bool) (l p : Int) : Int := if ls p l = true then p else l
def mxP (ls : Int → Int → Bool) (h p : Int) : Int := if ls h p = true then p else h
def pX (a b : Int) (i : Nat) : Int := if i = 0 then a else b
def LOn (g : Int → Int → Int → Int) (ls : Int → Int → Bool) (a b c d : Int) : Nat → Int
 | 0 => g 2 a c
 | n + 1 => mnP ls (LOn g ls a b c d n) (g 2 (pX a b (n / 2)) (pX c d (n % 2)))
def HIn (g : Int → Int → Int → Int) (ls : Int → Int → Bool) (a b c d : Int) : Nat → Int
 | 0 => g 1 a c
 | n + 1 => mxP ls (HIn g ls a b c d n) (g 1 (pX a b (n / 2)) (pX c d (n % 2)))
theorem rw9_old {W : World} {c : Nat} {o : Obj} (q : W.heap[c]? = some o) (o' : Obj) : (W.alloc o').heap[c]? = some o := (Below.heap_alloc W o' c (Array.getElem?_eq_some_iff.1 q).1).trans q
theorem pX_or (a b : Int) (i : Nat) : pX a b i = a ∨ pX a b i = b := by unfold pX; split <;> simp
set_option maxRecDepth 100000 in
theorem uix (b m c j : Nat) (hj : j < m) (w : World) : (Instr.indexAt 92 (.slice (some ⟨b, 0, none⟩) m c) (.int .i64 j)).run Tryz.prog w = .ok (.pointer (some ⟨b, j, none⟩)) w := by
 have e2 : ∀ w, (sizeOf (Tryz.prog.elem 92)).run Tryz.prog w = .ok 1 w := fun w => by kernel_rfl
 rw [run_indexAt_slice (h := by first | exact Tryz.underlying92 | rfl), if_pos ⟨by omega, by omega⟩, e2]
 simp [go_sem]
set_option maxRecDepth 100000 in
set_option maxHeartbeats 6400000 in
theorem rprod9_ok (a b c d : Int) (g : Int → Int → Int → Int) (ls : Int → Int → Bool) (gw : ∀ m x y, (x = a ∨ x = b) → (y = c ∨ y = d) → Word (g m x y)) (e3 : Bool) (l h : Int) (ok : Bool) (k1 : ∀ V, Calls Tryz.prog 47 #[.int .i64 0, .agg #[.bool false, .int .u64 a, .int .u64 b]] V fun e w' => e = .returned (.bool true) ∧ Below V.heap.size V w') (k2 : ∀ V, Calls Tryz.prog 47 #[.int .i64 0, .agg #[.bool false, .int .u64 c, .int .u64 d]] V fun e w' => e = .returned (.bool true) ∧ Below V.heap.size V w')
  (km : ∀ m x y, (x = a ∨ x = b) → (y = c ∨ y = d) → ∀ V, Calls Tryz.prog 58 #[.int .i64 0, .int .i64 m, .int .u64 x, .int .u64 y] V fun e w' => e = .returned (.int .u64 (g m x y)) ∧ Below V.heap.size V w')
  (kl : ∀ x y, Word x → Word y → ∀ V, Calls Tryz.prog 59 #[.int .u64 x, .int .u64 y] V fun e w' => e = .returned (.bool (ls x y)) ∧ Below V.heap.size V w')
  (ko : ∀ V, Calls Tryz.prog 56 #[.int .u64 (LOn g ls a b c d 4), .int .u64 (HIn g ls a b c d 4)] V fun e w' => e = .returned (.tuple #[.agg #[.bool e3, .int .u64 l, .int .u64 h], .bool ok]) ∧ Below V.heap.size V w') (w : World) :
  Calls Tryz.prog 16 #[.agg #[.bool false, .int .u64 a, .int .u64 b], .agg #[.bool false, .int .u64 c, .int .u64 d]] w fun e w' => e = .returned (.tuple #[.agg #[.bool e3, .int .u64 l, .int .u64 h], .bool ok]) ∧ Below w.heap.size w w' := by
 have LW : Hid (∀ n, Word (LOn g ls a b c d n)) := fun n => by
  induction n with
  | zero => exact gw _ _ _ (Or.inl rfl) (Or.inl rfl)
  | succ n ih => unfold LOn mnP; split; exact gw _ _ _ (pX_or _ _ _) (pX_or _ _ _); exact ih
 have HW : Hid (∀ n, Word (HIn g ls a b c d n)) := fun n => by
  induction n with
  | zero => exact gw _ _ _ (Or.inl rfl) (Or.inl rfl)
  | succ n ih => unfold HIn mxP; split; exact gw _ _ _ (pX_or _ _ _) (pX_or _ _ _); exact ih
 obtain ⟨W, hW⟩ : ∃ W, ((w.alloc (.cells #[.bool false, .int .u64 a, .int .u64 b] 24)).alloc (.cells #[.bool false, .int .u64 c, .int .u64 d] 24)).alloc (.cells #[.bool false, .int .u64 0, .int .u64 0] 24) = W := ⟨_, rfl⟩
 have gW : Below w.heap.size w W := by rw [← hW]; exact sp_new (sp_new (sp_new (Below.refl _ _) _) _) _
 obtain ⟨p, hp⟩ : ∃ p, w.heap.size = p := ⟨_, rfl⟩
 obtain ⟨q, hq⟩ : ∃ q, p + 1 = q := ⟨_, rfl⟩
 obtain ⟨r, hr⟩ : ∃ r, q + 1 = r := ⟨_, rfl⟩
 have zr : w.heap.size ≤ r := by omega
 have a0 : W.cell? ⟨p, 0, none⟩ = some (.bool false) := by rw [← hW, ← hp]; simp [go_sem]
 have a1 : W.cell? ⟨p, 1, none⟩ = some (.int .u64 a) := by rw [← hW, ← hp]; simp [go_sem]
 have a2 : W.cell? ⟨p, 2, none⟩ = some (.int .u64 b) := by rw [← hW, ← hp]; simp [go_sem]
 have b0 : W.cell? ⟨q, 0, none⟩ = some (.bool false) := by rw [← hW, ← hq, ← hp]; simp [go_sem]
 have b1 : W.cell? ⟨q, 1, none⟩ = some (.int .u64 c) := by rw [← hW, ← hq, ← hp]; simp [go_sem]
 have b2 : W.cell? ⟨q, 2, none⟩ = some (.int .u64 d) := by rw [← hW, ← hq, ← hp]; simp [go_sem]
 have qr : W.heap[r]? = some (.cells #[.bool false, .int .u64 0, .int .u64 0] 24 (0, 0)) := by
  have := World.alloc_heap_new ((w.alloc (.cells #[.bool false, .int .u64 a, .int .u64 b] 24)).alloc (.cells #[.bool false, .int .u64 c, .int .u64 d] 24)) (.cells #[.bool false, .int .u64 0, .int .u64 0] 24)
  rw [hW] at this
  rw [← hr, ← hq, ← hp]
  simpa using this
 have gw' : Hid (∀ m x y, (x = a ∨ x = b) → (y = c ∨ y = d) → Word (g m x y)) := gw
 clear gw
 have km' : Hid (∀ m x y, (x = a ∨ x = b) → (y = c ∨ y = d) → ∀ V, Calls Tryz.prog 58 #[.int .i64 0, .int .i64 m, .int .u64 x, .int .u64 y] V fun e w' => e = .returned (.int .u64 (g m x y)) ∧ Below V.heap.size V w') := km
 have kl' : Hid (∀ x y, Word x → Word y → ∀ V, Calls Tryz.prog 59 #[.int .u64 x, .int .u64 y] V fun e w' => e = .returned (.bool (ls x y)) ∧ Below V.heap.size V w') := kl
 clear km kl
 go_enter Tryz.func16, Tryz.ntmps16
 go_upto_region 1 with fail
 (try rw [hW])
 (try rw [hp])
 (try rw [hq])
 (try rw [hr])
 clear hW hp hq hr
 go_upto_region 5 with (first
   | (go_at_call_of 47 a; refine (k1 _).mono ?_; rintro e v1 ⟨rfl, g⟩; replace qr := carryF g qr; replace a0 := sO g a0; replace a1 := sO g a1; replace a2 := sO g a2; replace b0 := sO g b0; replace b1 := sO g b1; replace b2 := sO g b2; replace gW := sp_call gW g; clear g k1)
   | (go_at_call_of 47 c; refine (k2 _).mono ?_; rintro e v2 ⟨rfl, g⟩; replace qr := carryF g qr; replace a0 := sO g a0; replace a1 := sO g a1; replace a2 := sO g a2; replace b0 := sO g b0; replace b1 := sO g b1; replace b2 := sO g b2; replace gW := sp_call gW g; clear g k2)
   | fail)
 clear a0 b0
 have cc : Below v2.heap.size v2 v2.drew := (Below.refl _ _).drew
 have hall : ∀ X9, Below v2.heap.size v2 X9 → (X9.cell? ⟨p, 1, none⟩ = some (.int .u64 a) ∧ X9.cell? ⟨p, 2, none⟩ = some (.int .u64 b) ∧ X9.cell? ⟨q, 1, none⟩ = some (.int .u64 c) ∧ X9.cell? ⟨q, 2, none⟩ = some (.int .u64 d)) := fun X9 cc => ⟨sO cc a1, sO cc a2, sO cc b1, sO cc b2⟩
 refine wp_region_held_drew (S := (fun w' => w'.cell? ⟨p, 1, none⟩ = some (.int .u64 a) ∧ w'.cell? ⟨p, 2, none⟩ = some (.int .u64 b) ∧ w'.cell? ⟨q, 1, none⟩ = some (.int .u64 c) ∧ w'.cell? ⟨q, 2, none⟩ = some (.int .u64 d))) (by kernel_rfl) (hall _ cc) (fun hH => ?_)
 refine wpAnyH_take (i := 0) (oi := _) (v := .pointer (some ⟨p, 1, none⟩)) rfl (by kernel_rfl) (by kernel_rfl) (by kernel_rfl) (fun _ _ _ h => h) (Or.inl ⟨by rfl, fun w' hSw => by obtain ⟨za1, za2, zb1, zb2⟩ := hSw; go_simp⟩) hH ?_
 simp only [Act.put, gA, gB, gC, gD, gE, gG]
 refine wpAnyH_take (i := 1) (oi := _) (v := .int .u64 a) rfl (by kernel_rfl) (by kernel_rfl) (by kernel_rfl) (fun _ _ _ h => h) (Or.inl ⟨by rfl, fun w' hSw => by obtain ⟨za1, za2, zb1, zb2⟩ := hSw; go_simp⟩) hH ?_
 simp only [Act.put, gA, gB, gC, gD, gE, gG]
 refine wpAnyH_take (i := 2) (oi := _) (v := .pointer (some ⟨p, 2, none⟩)) rfl (by kernel_rfl) (by kernel_rfl) (by kernel_rfl) (fun _ _ _ h => h) (Or.inl ⟨by rfl, fun w' hSw => by obtain ⟨za1, za2, zb1, zb2⟩ := hSw; go_simp⟩) hH ?_
 simp only [Act.put, gA, gB, gC, gD, gE, gG]
 refine wpAnyH_take (i := 3) (oi := _) (v := .int .u64 b) rfl (by kernel_rfl) (by kernel_rfl) (by kernel_rfl) (fun _ _ _ h => h) (Or.inl ⟨by rfl, fun w' hSw => by obtain ⟨za1, za2, zb1, zb2⟩ := hSw; go_simp⟩) hH ?_
 simp only [Act.put, gA, gB, gC, gD, gE, gG]
 refine wpAnyH_take (i := 5) (oi := _) (v := .pointer (some ⟨q, 1, none⟩)) rfl (by kernel_rfl) (by kernel_rfl) (by kernel_rfl) (fun _ _ _ h => h) (Or.inl ⟨by rfl, fun w' hSw => by obtain ⟨za1, za2, zb1, zb2⟩ := hSw; go_simp⟩) hH ?_
 simp only [Act.put, gA, gB, gC, gD, gE, gG]
 refine wpAnyH_take (i := 6) (oi := _) (v := .int .u64 c) rfl (by kernel_rfl) (by kernel_rfl) (by kernel_rfl) (fun _ _ _ h => h) (Or.inl ⟨by rfl, fun w' hSw => by obtain ⟨za1, za2, zb1, zb2⟩ := hSw; go_simp⟩) hH ?_
 simp only [Act.put, gA, gB, gC, gD, gE, gG]
 refine wpAnyH_take (i := 7) (oi := _) (v := .pointer (some ⟨q, 2, none⟩)) rfl (by kernel_rfl) (by kernel_rfl) (by kernel_rfl) (fun _ _ _ h => h) (Or.inl ⟨by rfl, fun w' hSw => by obtain ⟨za1, za2, zb1, zb2⟩ := hSw; go_simp⟩) hH ?_
 simp only [Act.put, gA, gB, gC, gD, gE, gG]
 refine wpAnyH_take (i := 8) (oi := _) (v := .int .u64 d) rfl (by kernel_rfl) (by kernel_rfl) (by kernel_rfl) (fun _ _ _ h => h) (Or.inl ⟨by rfl, fun w' hSw => by obtain ⟨za1, za2, zb1, zb2⟩ := hSw; go_simp⟩) hH ?_
 simp only [Act.put, gA, gB, gC, gD, gE, gG]
 replace gW := gW.drew
 replace qr : v2.drew.heap[r]? = _ := qr
 generalize hY : v2.drew = Y0 at *
 clear hY
 refine wpAnyH_ready (rs := [4, 9]) (by kernel_rfl) (by simp) (AllReadyH.cons (o := _) rfl (fun K hK => ?_) (AllReadyH.cons (o := _) rfl (fun K hK => ?_) AllReadyH.nil))
 go_simp
 have qx := World.alloc_heap_new Y0 (Obj.cells #[.int .u64 a, .int .u64 b] 22)
 replace cc := sp_new cc (Obj.cells #[.int .u64 a, .int .u64 b] 22)
 replace gW := sp_new gW (Obj.cells #[.int .u64 a, .int .u64 b] 22)
 replace qr := rw9_old qr (Obj.cells #[.int .u64 a, .int .u64 b] 22)
 generalize hB : Y0.heap.size = bqx at *
 generalize hY : Y0.alloc (Obj.cells #[.int .u64 a, .int .u64 b] 22) = Y1 at *
 clear hY hB
 refine hK.out _ _ (hall _ cc) (fun hH => ?_)
 clear hK K
 try simp only [Act.put, gA, gB, gC, gD, gE, gG]
 refine wpAnyH_take (i := 10) (oi := _) (v := .slice (some ⟨bqx, 0, none⟩) 2 2) rfl (by kernel_rfl) (by kernel_rfl) (by kernel_rfl) (fun _ _ _ h => h) (Or.inl ⟨by rfl, fun w' hSw => by obtain ⟨za1, za2, zb1, zb2⟩ := hSw; go_simp⟩) hH ?_
 simp only [Act.put, gA, gB, gC, gD, gE, gG]
 refine wpAnyH_ready (rs := [9]) (by kernel_rfl) (by simp) (AllReadyH.cons (o := _) rfl (fun K hK => ?_) AllReadyH.nil)
 go_simp
 replace qx := rw9_old qx (Obj.cells #[.int .u64 c, .int .u64 d] 22)
 have qy := World.alloc_heap_new Y1 (Obj.cells #[.int .u64 c, .int .u64 d] 22)
 replace cc := sp_new cc (Obj.cells #[.int .u64 c, .int .u64 d] 22)
 replace gW := sp_new gW (Obj.cells #[.int .u64 c, .int .u64 d] 22)
 replace qr := rw9_old qr (Obj.cells #[.int .u64 c, .int .u64 d] 22)
 generalize hB : Y1.heap.size = bqy at *
 generalize hY : Y1.alloc (Obj.cells #[.int .u64 c, .int .u64 d] 22) = Y2 at *
 clear hY hB
 refine hK.out _ _ (hall _ cc) (fun hH => ?_)
 clear hK K
 try simp only [Act.put, gA, gB, gC, gD, gE, gG]
 refine wpAnyH_take (i := 11) (oi := _) (v := .slice (some ⟨bqy, 0, none⟩) 2 2) rfl (by kernel_rfl) (by kernel_rfl) (by kernel_rfl) (fun _ _ _ h => h) (Or.inl ⟨by rfl, fun w' hSw => by obtain ⟨za1, za2, zb1, zb2⟩ := hSw; go_simp⟩) hH ?_
 simp only [Act.put, gA, gB, gC, gD, gE, gG]
 refine wpAnyH_done (by kernel_rfl) ?_ _
 rotate_left
 go_simp
 have qy := World.alloc_heap_new Y0 (Obj.cells #[.int .u64 c, .int .u64 d] 22)
 replace cc := sp_new cc (Obj.cells #[.int .u64 c, .int .u64 d] 22)
 replace gW := sp_new gW (Obj.cells #[.int .u64 c, .int .u64 d] 22)
 replace qr := rw9_old qr (Obj.cells #[.int .u64 c, .int .u64 d] 22)
 generalize hB : Y0.heap.size = bqy at *
 generalize hY : Y0.alloc (Obj.cells #[.int .u64 c, .int .u64 d] 22) = Y1 at *
 clear hY hB
 refine hK.out _ _ (hall _ cc) (fun hH => ?_)
 clear hK K
 try simp only [Act.put, gA, gB, gC, gD, gE, gG]
 refine wpAnyH_ready (rs := [4]) (by kernel_rfl) (by simp) (AllReadyH.cons (o := _) rfl (fun K hK => ?_) AllReadyH.nil)
 go_simp
 replace qy := rw9_old qy (Obj.cells #[.int .u64 a, .int .u64 b] 22)
 have qx := World.alloc_heap_new Y1 (Obj.cells #[.int .u64 a, .int .u64 b] 22)
 replace cc := sp_new cc (Obj.cells #[.int .u64 a, .int .u64 b] 22)
 replace gW := sp_new gW (Obj.cells #[.int .u64 a, .int .u64 b] 22)
 replace qr := rw9_old qr (Obj.cells #[.int .u64 a, .int .u64 b] 22)
 generalize hB : Y1.heap.size = bqx at *
 generalize hY : Y1.alloc (Obj.cells #[.int .u64 a, .int .u64 b] 22) = Y2 at *
 clear hY hB
 refine hK.out _ _ (hall _ cc) (fun hH => ?_)
 clear hK K
 try simp only [Act.put, gA, gB, gC, gD, gE, gG]
 refine wpAnyH_take (i := 10) (oi := _) (v := .slice (some ⟨bqx, 0, none⟩) 2 2) rfl (by kernel_rfl) (by kernel_rfl) (by kernel_rfl) (fun _ _ _ h => h) (Or.inl ⟨by rfl, fun w' hSw => by obtain ⟨za1, za2, zb1, zb2⟩ := hSw; go_simp⟩) hH ?_
 simp only [Act.put, gA, gB, gC, gD, gE, gG]
 refine wpAnyH_take (i := 11) (oi := _) (v := .slice (some ⟨bqy, 0, none⟩) 2 2) rfl (by kernel_rfl) (by kernel_rfl) (by kernel_rfl) (fun _ _ _ h => h) (Or.inl ⟨by rfl, fun w' hSw => by obtain ⟨za1, za2, zb1, zb2⟩ := hSw; go_simp⟩) hH ?_
 simp only [Act.put, gA, gB, gC, gD, gE, gG]
 refine wpAnyH_done (by kernel_rfl) ?_ _
 all_goals
  obtain ⟨z1, z2, z3, z4⟩ := hH
  have ka := km'.out 2 a c (Or.inl rfl) (Or.inl rfl)
  have kb := km'.out 1 a c (Or.inl rfl) (Or.inl rfl)
  clear a1 a2 b1 b2 hall cc
  go_upto_region 8 with (first
   | (go_at_call 58; refine (ka _).mono ?_; rintro e v3 ⟨rfl, g⟩; replace qr := carryF g qr; replace qx := carryF g qx; replace qy := carryF g qy; replace z1 := sO g z1; replace z2 := sO g z2; replace z3 := sO g z3; replace z4 := sO g z4; replace gW := sp_call gW g; clear g ka)
   | (go_at_call 58; refine (kb _).mono ?_; rintro e v4 ⟨rfl, g⟩; replace qr := carryF g qr; replace qx := carryF g qx; replace qy := carryF g qy; replace gW := sp_call gW g; clear g kb)
   | fail)
  clear z1 z2 z3 z4
  have hall0 : Hid (∀ X9, Below v4.heap.size v4 X9 → ∀ j k, j < 2 → k < 2 → (X9.cell? ⟨bqx, j, none⟩ = some (.int .u64 (pX a b j)) ∧ X9.cell? ⟨bqy, k, none⟩ = some (.int .u64 (pX c d k)))) := fun X9 g j k hj hk => by
   have qx9 := carryF g qx
   have qy9 := carryF g qy
   refine ⟨?_, ?_⟩
   ·match j, hj with
    | 0, _ => simp [World.cell?, qx9, pX]
    | 1, _ => simp [World.cell?, qx9, pX]
   ·match k, hk with
    | 0, _ => simp [World.cell?, qy9, pX]
    | 1, _ => simp [World.cell?, qy9, pX]
  have qr' : Hid (v4.heap[r]? = some (.cells #[.bool false, .int .u64 0, .int .u64 0] 24 (0, 0))) := qr
  have gW' : Hid (Below w.heap.size w v4) := gW
  clear qx qy qr gW
  go_wp2_with fail
  go_loopw [10, 8, 9] (fun i lo hi wr => ∃ (WR : World) (j : Nat), WR = wr ∧ j ≤ 2 ∧ i = .int .i64 j ∧ lo = .int .u64 (LOn g ls a b c d (2 * j)) ∧ hi = .int .u64 (HIn g ls a b c d (2 * j)) ∧ Hid (Below v4.heap.size v4 wr)) (fun i _ _ _ => 2 - (intOf i).toNat)
  case atStart => exact ⟨_, 0, rfl, by omega, rfl, rfl, rfl, Below.refl _ _⟩
  case round =>
   obtain ⟨WR, j, rfl, hj, rfl, rfl, rfl, cc⟩ := hrel
   by_cases cj : j < 2
   ·have cj' : (j : Int) < 2 := by omega
    have hall1 : Hid (∀ X9, Below v4.heap.size v4 X9 → ∀ k, k < 2 → (X9.cell? ⟨bqx, j, none⟩ = some (.int .u64 (pX a b j)) ∧ X9.cell? ⟨bqy, k, none⟩ = some (.int .u64 (pX c d k)))) := fun X9 g k hk => hall0.out X9 g j k cj hk
    have ix1 := uix bqx 2 2 j cj
    go_wp2_with fail
    go_loopw [11, 8, 9] (fun i lo hi wr => ∃ (WS : World) (k : Nat), WS = wr ∧ k ≤ 2 ∧ i = .int .i64 k ∧ lo = .int .u64 (LOn g ls a b c d (2 * j + k)) ∧ hi = .int .u64 (HIn g ls a b c d (2 * j + k)) ∧ Hid (Below v4.heap.size v4 wr)) (fun i _ _ _ => 2 - (intOf i).toNat)
    case atStart => exact ⟨_, 0, rfl, by omega, rfl, rfl, rfl, cc⟩
    case round =>
     clear cc
     obtain ⟨WS, k, rfl, hk, rfl, rfl, rfl, cc⟩ := hrel
     by_cases ck : k < 2
     ·have ck' : (k : Int) < 2 := by omega
      have wk : IntKind.i64.wrap ((k : Int) + 1) = ((k + 1 : Nat) : Int) := by rw [IntKind.wrap_i64]; omega
      have ix2 := uix bqy 2 2 k ck
      have hall : ∀ X9, Below v4.heap.size v4 X9 → (X9.cell? ⟨bqx, j, none⟩ = some (.int .u64 (pX a b j)) ∧ X9.cell? ⟨bqy, k, none⟩ = some (.int .u64 (pX c d k))) := fun X9 g => hall1.out X9 g k ck
      have eL0 : LOn g ls a b c d (2 * j + (k + 1)) = mnP ls (LOn g ls a b c d (2 * j + k)) (g 2 (pX a b j) (pX c d k)) := by
       show mnP ls (LOn g ls a b c d (2 * j + k)) (g 2 (pX a b ((2 * j + k) / 2)) (pX c d ((2 * j + k) % 2))) = _
       rw [show (2 * j + k) / 2 = j by omega, show (2 * j + k) % 2 = k by omega]
      have eH0 : HIn g ls a b c d (2 * j + (k + 1)) = mxP ls (HIn g ls a b c d (2 * j + k)) (g 1 (pX a b j) (pX c d k)) := by
       show mxP ls (HIn g ls a b c d (2 * j + k)) (g 1 (pX a b ((2 * j + k) / 2)) (pX c d ((2 * j + k) % 2))) = _
       rw [show (2 * j + k) / 2 = j by omega, show (2 * j + k) % 2 = k by omega]
      have kA := km'.out 2 (pX a b j) (pX c d k) (pX_or _ _ _) (pX_or _ _ _)
      have kB := km'.out 1 (pX a b j) (pX c d k) (pX_or _ _ _) (pX_or _ _ _)
      have kC := kl'.out (g 2 (pX a b j) (pX c d k)) (LOn g ls a b c d (2 * j + k)) (gw'.out _ _ _ (pX_or _ _ _) (pX_or _ _ _)) (LW.out _)
      have kD := kl'.out (HIn g ls a b c d (2 * j + k)) (g 1 (pX a b j) (pX c d k)) (HW.out _) (gw'.out _ _ _ (pX_or _ _ _) (pX_or _ _ _))
      generalize LOn g ls a b c d (2 * j + k) = L1 at *
      generalize HIn g ls a b c d (2 * j + k) = H1 at *
      generalize g 2 (pX a b j) (pX c d k) = P1 at *
      generalize g 1 (pX a b j) (pX c d k) = P2 at *
      generalize pX a b j = X at *
      generalize pX c d k = Y at *
      have eL : Hid (LOn g ls a b c d (2 * j + (k + 1)) = mnP ls L1 P1) := eL0
      have eH : Hid (HIn g ls a b c d (2 * j + (k + 1)) = mxP ls H1 P2) := eH0
      clear eL0 eH0
      replace cc := cc.out
      go_upto_region 14 with fail
      replace cc := cc.drew
      refine wp_region_held_drew (S := (fun w' => w'.cell? ⟨bqx, j, none⟩ = some (.int .u64 X) ∧ w'.cell? ⟨bqy, k, none⟩ = some (.int .u64 Y))) (by kernel_rfl) (hall _ cc) (fun hH => ?_)
      refine wpAnyH_take (i := 0) (oi := _) (v := .slice (some ⟨bqx, 0, none⟩) 2 2) rfl (by kernel_rfl) (by kernel_rfl) (by kernel_rfl) (fun _ _ _ h => h) (Or.inl ⟨by rfl, fun w' hSw => by obtain ⟨zfx, zfy⟩ := hSw; go_simp⟩) hH ?_
      simp only [Act.put, gA, gB, gC, gD, gE, gG]
      refine wpAnyH_take (i := 1) (oi := _) (v := .int .i64 j) rfl (by kernel_rfl) (by kernel_rfl) (by kernel_rfl) (fun _ _ _ h => h) (Or.inl ⟨by rfl, fun w' hSw => by obtain ⟨zfx, zfy⟩ := hSw; go_simp⟩) hH ?_
      simp only [Act.put, gA, gB, gC, gD, gE, gG]
      refine wpAnyH_take (i := 2) (oi := _) (v := .pointer (some ⟨bqx, j, none⟩)) rfl (by kernel_rfl) (by kernel_rfl) (by kernel_rfl) (fun _ _ _ h => h) (Or.inl ⟨by rfl, fun w' hSw => by obtain ⟨zfx, zfy⟩ := hSw; go_simp⟩) hH ?_
      simp only [Act.put, gA, gB, gC, gD, gE, gG]
      refine wpAnyH_take (i := 3) (oi := _) (v := .int .u64 X) rfl (by kernel_rfl) (by kernel_rfl) (by kernel_rfl) (fun _ _ _ h => h) (Or.inl ⟨by rfl, fun w' hSw => by obtain ⟨zfx, zfy⟩ := hSw; go_simp⟩) hH ?_
      simp only [Act.put, gA, gB, gC, gD, gE, gG]
      refine wpAnyH_take (i := 4) (oi := _) (v := .slice (some ⟨bqy, 0, none⟩) 2 2) rfl (by kernel_rfl) (by kernel_rfl) (by kernel_rfl) (fun _ _ _ h => h) (Or.inl ⟨by rfl, fun w' hSw => by obtain ⟨zfx, zfy⟩ := hSw; go_simp⟩) hH ?_
      simp only [Act.put, gA, gB, gC, gD, gE, gG]
      refine wpAnyH_take (i := 5) (oi := _) (v := .int .i64 k) rfl (by kernel_rfl) (by kernel_rfl) (by kernel_rfl) (fun _ _ _ h => h) (Or.inl ⟨by rfl, fun w' hSw => by obtain ⟨zfx, zfy⟩ := hSw; go_simp⟩) hH ?_
      simp only [Act.put, gA, gB, gC, gD, gE, gG]
      refine wpAnyH_take (i := 6) (oi := _) (v := .pointer (some ⟨bqy, k, none⟩)) rfl (by kernel_rfl) (by kernel_rfl) (by kernel_rfl) (fun _ _ _ h => h) (Or.inl ⟨by rfl, fun w' hSw => by obtain ⟨zfx, zfy⟩ := hSw; go_simp⟩) hH ?_
      simp only [Act.put, gA, gB, gC, gD, gE, gG]
      refine wpAnyH_take (i := 7) (oi := _) (v := .int .u64 Y) rfl (by kernel_rfl) (by kernel_rfl) (by kernel_rfl) (fun _ _ _ h => h) (Or.inl ⟨by rfl, fun w' hSw => by obtain ⟨zfx, zfy⟩ := hSw; go_simp⟩) hH ?_
      simp only [Act.put, gA, gB, gC, gD, gE, gG]
      generalize hY : WS.drew = Y0 at *
      clear hY
      refine wpAnyH_ready (rs := [8]) (by kernel_rfl) (by simp) (AllReadyH.cons (o := _) rfl (fun K hK => ?_) AllReadyH.nil)
      go_simp
      refine (kA _).mono ?_
      rintro e Y1 ⟨rfl, g⟩
      replace cc := sp_call cc g
      clear g
      go_wp2_with fail
      refine hK.out _ _ (hall _ cc) (fun hH => ?_)
      clear hK K
      try simp only [Act.put, gA, gB, gC, gD, gE, gG]
      refine wpAnyH_take (i := 9) (oi := _) (v := .int .u64 P1) rfl (by kernel_rfl) (by kernel_rfl) (by kernel_rfl) (fun _ _ _ h => h) (Or.inl ⟨by rfl, fun w' hSw => by obtain ⟨zfx, zfy⟩ := hSw; go_simp⟩) hH ?_
      simp only [Act.put, gA, gB, gC, gD, gE, gG]
      refine wpAnyH_done (by kernel_rfl) ?_ _
      by_cases c1 : ls P1 L1 = true
      all_goals
       by_cases c2 : ls H1 P2 = true
       all_goals
        simp only [c1, c2] at kC kD
        go_upto_region 17 with (first
         | (go_at_call 59; refine (kC _).mono ?_; rintro e Y5 ⟨rfl, g⟩; replace cc := sp_call cc g; clear g kC)
         | fail)
        replace cc := cc.drew
        refine wp_region_held_drew (S := (fun w' => w'.cell? ⟨bqx, j, none⟩ = some (.int .u64 X) ∧ w'.cell? ⟨bqy, k, none⟩ = some (.int .u64 Y))) (by kernel_rfl) (hall _ cc) (fun hH => ?_)
        refine wpAnyH_take (i := 0) (oi := _) (v := .slice (some ⟨bqx, 0, none⟩) 2 2) rfl (by kernel_rfl) (by kernel_rfl) (by kernel_rfl) (fun _ _ _ h => h) (Or.inl ⟨by rfl, fun w' hSw => by obtain ⟨zfx, zfy⟩ := hSw; go_simp⟩) hH ?_
        simp only [Act.put, gA, gB, gC, gD, gE, gG]
        refine wpAnyH_take (i := 1) (oi := _) (v := .int .i64 j) rfl (by kernel_rfl) (by kernel_rfl) (by kernel_rfl) (fun _ _ _ h => h) (Or.inl ⟨by rfl, fun w' hSw => by obtain ⟨zfx, zfy⟩ := hSw; go_simp⟩) hH ?_
        simp only [Act.put, gA, gB, gC, gD, gE, gG]
        refine wpAnyH_take (i := 2) (oi := _) (v := .pointer (some ⟨bqx, j, none⟩)) rfl (by kernel_rfl) (by kernel_rfl) (by kernel_rfl) (fun _ _ _ h => h) (Or.inl ⟨by rfl, fun w' hSw => by obtain ⟨zfx, zfy⟩ := hSw; go_simp⟩) hH ?_
        simp only [Act.put, gA, gB, gC, gD, gE, gG]
        refine wpAnyH_take (i := 3) (oi := _) (v := .int .u64 X) rfl (by kernel_rfl) (by kernel_rfl) (by kernel_rfl) (fun _ _ _ h => h) (Or.inl ⟨by rfl, fun w' hSw => by obtain ⟨zfx, zfy⟩ := hSw; go_simp⟩) hH ?_
        simp only [Act.put, gA, gB, gC, gD, gE, gG]
        refine wpAnyH_take (i := 4) (oi := _) (v := .slice (some ⟨bqy, 0, none⟩) 2 2) rfl (by kernel_rfl) (by kernel_rfl) (by kernel_rfl) (fun _ _ _ h => h) (Or.inl ⟨by rfl, fun w' hSw => by obtain ⟨zfx, zfy⟩ := hSw; go_simp⟩) hH ?_
        simp only [Act.put, gA, gB, gC, gD, gE, gG]
        refine wpAnyH_take (i := 5) (oi := _) (v := .int .i64 k) rfl (by kernel_rfl) (by kernel_rfl) (by kernel_rfl) (fun _ _ _ h => h) (Or.inl ⟨by rfl, fun w' hSw => by obtain ⟨zfx, zfy⟩ := hSw; go_simp⟩) hH ?_
        simp only [Act.put, gA, gB, gC, gD, gE, gG]
        refine wpAnyH_take (i := 6) (oi := _) (v := .pointer (some ⟨bqy, k, none⟩)) rfl (by kernel_rfl) (by kernel_rfl) (by kernel_rfl) (fun _ _ _ h => h) (Or.inl ⟨by rfl, fun w' hSw => by obtain ⟨zfx, zfy⟩ := hSw; go_simp⟩) hH ?_
        simp only [Act.put, gA, gB, gC, gD, gE, gG]
        refine wpAnyH_take (i := 7) (oi := _) (v := .int .u64 Y) rfl (by kernel_rfl) (by kernel_rfl) (by kernel_rfl) (fun _ _ _ h => h) (Or.inl ⟨by rfl, fun w' hSw => by obtain ⟨zfx, zfy⟩ := hSw; go_simp⟩) hH ?_
        simp only [Act.put, gA, gB, gC, gD, gE, gG]
        generalize hY : Y5.drew = Y6 at *
        clear hY
        refine wpAnyH_ready (rs := [8]) (by kernel_rfl) (by simp) (AllReadyH.cons (o := _) rfl (fun K hK => ?_) AllReadyH.nil)
        go_simp
        refine (kB _).mono ?_
        rintro e Y7 ⟨rfl, g⟩
        replace cc := sp_call cc g
        clear g
        go_wp2_with fail
        refine hK.out _ _ (hall _ cc) (fun hH => ?_)
        clear hK K
        try simp only [Act.put, gA, gB, gC, gD, gE, gG]
        refine wpAnyH_take (i := 9) (oi := _) (v := .int .u64 P2) rfl (by kernel_rfl) (by kernel_rfl) (by kernel_rfl) (fun _ _ _ h => h) (Or.inl ⟨by rfl, fun w' hSw => by obtain ⟨zfx, zfy⟩ := hSw; go_simp⟩) hH ?_
        simp only [Act.put, gA, gB, gC, gD, gE, gG]
        refine wpAnyH_done (by kernel_rfl) ?_ _
        go_wp2_with (first
         | (go_at_call 59; refine (kD _).mono ?_; rintro e Y8 ⟨rfl, g⟩; replace cc := sp_call cc g; clear g kD)
         | fail)
        exact ⟨⟨_, k + 1, rfl, by omega, by simp, by rw [eL.out]; simp [mnP, c1], by rw [eH.out]; simp [mxP, c2], cc⟩, by simp [intOf]; omega⟩
     ·have ek : k = 2 := by omega
      subst ek
      have wj : IntKind.i64.wrap ((j : Int) + 1) = ((j + 1 : Nat) : Int) := by rw [IntKind.wrap_i64]; omega
      go_wp2_with fail
      go_roundw
      case rel => exact ⟨_, j + 1, rfl, by omega, by first | rfl | go_num, by rw [show 2 * (j + 1) = 2 * j + 2 by omega], by rw [show 2 * (j + 1) = 2 * j + 2 by omega], cc⟩
      case measure => simp [intOf]; omega
   ·have ej : j = 2 := by omega
    subst ej
    have qr := carryF cc.out qr'.out
    have gW := sp_call gW'.out cc.out
    clear cc hall0 qr' gW'
    simp only [Nat.reduceMul] at *
    go_upto_region 20 with fail
    have ko1 := ko WR
    go_wp2_with (first
     | (go_at_call 56; refine ko1.mono ?_; rintro e Y9 ⟨rfl, g⟩; replace qr := carryF g qr; replace gW := sp_call gW g; clear g; obtain ⟨q0, q1, q2, qf⟩ := lj_cells3 qr)
     | fail)
    exact bodyPost_ret (v := .tuple #[.agg #[.bool e3, .int .u64 l, .int .u64 h], .bool ok]) (by simp [results, Tryz.results16, go_sem, q0, q1, q2]) rfl ⟨rfl, sp_set3 gW zr _ _ _⟩
end Go.Proofs.YteafnkimcidkhaaGreat



