/- span.IntOne and span.IntRefine. -/
import Derived.Test.YthjoigkckgdcaaaGreatUG6
import Derived.Test.YthjoigkckgdcaaaGreatUSpY
import Derived.Test.YthjoigkckgdcaaaGreatUSpBdi
import Derived.Test.YthjoigkckgdcaaaGreatUG7
namespace Go.Proofs.YthjoigkckgdcaaaGreat
open Go.RowKit
set_option linter.unusedVariables false
set_option linter.unusedSimpArgs false
theorem iw_st {w W : World} (h : Below w.heap.size w W) {b j : Nat} (hb : w.heap.size ≤ b) (x : Value) : Below w.heap.size w (W.setCell ⟨b, j, none⟩ x) := h.setCell (p := ⟨b, j, none⟩) hb x
theorem iw_dr {w W : World} (h : Below w.heap.size w W) : Below w.heap.size w W.drew := ⟨h.os, h.tape, h.output, h.size, h.block⟩
set_option maxRecDepth 100000 in
set_option maxHeartbeats 6400000 in
theorem intOne_of (op : Int) (e1 : Bool) (a b : Int) (pe : Bool) (pl ph TR : Int) (h : ∀ V, Calls Tryz.prog 131 #[.agg (lvi LnI), .int .i64 op, .agg #[.bool e1, .int .i64 a, .int .i64 b]] V fun e w' => e = .returned (.tuple #[.agg #[.bool pe, .int .i64 pl, .int .i64 ph], .int .i64 TR]) ∧ Below V.heap.size V w') (w : World) :
    Calls Tryz.prog 64 #[.int .i64 op, .agg #[.bool e1, .int .i64 a, .int .i64 b]] w fun e w' => e = .returned (.tuple #[.agg #[.bool pe, .int .i64 pl, .int .i64 ph], .int .i64 TR]) ∧ Below w.heap.size w w' := by
  have h1 := ints_any
  have h5 := intRange_any pe pl ph
  have ho := ofInts_any
  generalize lvi LnI = LV at *
  go_enter Tryz.func64, Tryz.ntmps64
  go_upto_region 1 with fail
  obtain ⟨W, hW⟩ : ∃ W, ((w.alloc (.cells #[.bool e1, .int .i64 a, .int .i64 b] 47)).alloc (.cells #[.bool false, .int .i64 0, .int .i64 0] 47)) = W := ⟨_, rfl⟩
  have a0 : W.cell? ⟨w.heap.size, 0, none⟩ = some (.bool e1) := by rw [← hW]; simp [go_sem]
  have a1 : W.cell? ⟨w.heap.size, 1, none⟩ = some (.int .i64 a) := by rw [← hW]; simp [go_sem]
  have a2 : W.cell? ⟨w.heap.size, 2, none⟩ = some (.int .i64 b) := by rw [← hW]; simp [go_sem]
  have r0 : W.cell? ⟨w.heap.size + 1, 0, none⟩ = some (.bool false) := by rw [← hW]; simp [go_sem]
  have r1 : W.cell? ⟨w.heap.size + 1, 1, none⟩ = some (.int .i64 0) := by rw [← hW]; simp [go_sem]
  have r2 : W.cell? ⟨w.heap.size + 1, 2, none⟩ = some (.int .i64 0) := by rw [← hW]; simp [go_sem]
  have bW : Below w.heap.size w W := by rw [← hW]; exact (sp_new (sp_new (Below.refl _ _) _) _)
  have zW : W.heap.size = w.heap.size + 2 := by rw [← hW]; simp
  have fz : ∀ j, W.frozen? ⟨w.heap.size + 1, j, none⟩ = false := by intro j; rw [← hW]; simp [go_sem]
  rw [hW]
  clear hW
  replace zW := Nat.le_of_eq zW.symm
  have hall : ∀ X9, Below W.heap.size W X9 → (X9.cell? ⟨w.heap.size, 0, none⟩ = some (.bool e1) ∧ X9.cell? ⟨w.heap.size, 1, none⟩ = some (.int .i64 a) ∧ X9.cell? ⟨w.heap.size, 2, none⟩ = some (.int .i64 b)) := fun X9 cc => ⟨sO cc a0, sO cc a1, sO cc a2⟩
  have cc : Below W.heap.size W W.drew := (Below.refl _ _).drew
  go_cut [6, 7] from 8 to 15 (fun s u X => ∃ (W3 : World) (b6 : Nat), W3 = X ∧ s = .pointer (some ⟨b6, 0, none⟩) ∧ u = .int .i64 TR ∧ X.heap[b6]? = some (Obj.cells #[.bool pe, .int .i64 pl, .int .i64 ph] 139 (0, 0)) ∧ W.heap.size ≤ b6 ∧ Below W.heap.size W X)
  case first =>
   refine wp_region_held_drew (S := (fun w' => w'.cell? ⟨w.heap.size, 0, none⟩ = some (.bool e1) ∧ w'.cell? ⟨w.heap.size, 1, none⟩ = some (.int .i64 a) ∧ w'.cell? ⟨w.heap.size, 2, none⟩ = some (.int .i64 b))) (by kernel_rfl) (hall _ cc) (fun hH => ?_)
   refine wpAnyH_take (i := 1) (oi := _) (v := .int .i64 op) rfl (by kernel_rfl) (by kernel_rfl) (by kernel_rfl) (fun _ _ _ h => h) (Or.inl ⟨by rfl, fun w' hSw => by obtain ⟨za0, za1, za2⟩ := hSw; go_simp⟩) hH ?_
   simp only [Act.put, gA, gB, gC, gD, gE, gG]
   refine wpAnyH_take (i := 2) (oi := _) (v := .agg #[.bool e1, .int .i64 a, .int .i64 b]) rfl (by kernel_rfl) (by kernel_rfl) (by kernel_rfl) (fun _ _ _ h => h) (Or.inl ⟨by rfl, fun w' hSw => by obtain ⟨za0, za1, za2⟩ := hSw; go_simp⟩) hH ?_
   simp only [Act.put, gA, gB, gC, gD, gE, gG]
   generalize hY : W.drew = Y0 at *
   clear hY
   refine wpAnyH_ready (rs := [0, 8]) (by kernel_rfl) (by simp) (AllReadyH.cons (o := _) rfl (fun K hK => ?_) (AllReadyH.cons (o := _) rfl (fun K hK => ?_) AllReadyH.nil))
   ·skip
    go_simp
    refine (h1 _).mono ?_
    rintro e Y1 ⟨rfl, g⟩
    replace cc := sp_call cc g
    clear g
    go_wp2_with fail
    refine hK.out _ _ (hall _ cc) (fun hH => ?_)
    clear hK K
    try simp only [Act.put, gA, gB, gC, gD, gE, gG]
    refine wpAnyH_ready (rs := [3, 8]) (by kernel_rfl) (by simp) (AllReadyH.cons (o := _) rfl (fun K hK => ?_) (AllReadyH.cons (o := _) rfl (fun K hK => ?_) AllReadyH.nil))
    ·skip
     go_simp
     refine (ho _ _ _ _).mono ?_
     rintro e Y2 ⟨rfl, g⟩
     replace cc := sp_call cc g
     clear g
     go_wp2_with fail
     refine hK.out _ _ (hall _ cc) (fun hH => ?_)
     clear hK K
     try simp only [Act.put, gA, gB, gC, gD, gE, gG]
     refine wpAnyH_ready (rs := [4, 8]) (by kernel_rfl) (by simp) (AllReadyH.cons (o := _) rfl (fun K hK => ?_) (AllReadyH.cons (o := _) rfl (fun K hK => ?_) AllReadyH.nil))
     ·skip
      go_simp
      refine (h _).mono ?_
      rintro e Y3 ⟨rfl, g⟩
      replace cc := sp_call cc g
      clear g
      go_wp2_with fail
      refine hK.out _ _ (hall _ cc) (fun hH => ?_)
      clear hK K
      try simp only [Act.put, gA, gB, gC, gD, gE, gG]
      refine wpAnyH_take (i := 5) (oi := _) (v := .tuple #[.agg #[.bool pe, .int .i64 pl, .int .i64 ph], .int .i64 TR]) rfl (by kernel_rfl) (by kernel_rfl) (by kernel_rfl) (fun _ _ _ h => h) (Or.inl ⟨by rfl, fun w' hSw => by obtain ⟨za0, za1, za2⟩ := hSw; go_simp⟩) hH ?_
      simp only [Act.put, gA, gB, gC, gD, gE, gG]
      refine wpAnyH_take (i := 6) (oi := _) (v := .agg #[.bool pe, .int .i64 pl, .int .i64 ph]) rfl (by kernel_rfl) (by kernel_rfl) (by kernel_rfl) (fun _ _ _ h => h) (Or.inl ⟨by rfl, fun w' hSw => by obtain ⟨za0, za1, za2⟩ := hSw; go_simp⟩) hH ?_
      simp only [Act.put, gA, gB, gC, gD, gE, gG]
      refine wpAnyH_take (i := 7) (oi := _) (v := .int .i64 TR) rfl (by kernel_rfl) (by kernel_rfl) (by kernel_rfl) (fun _ _ _ h => h) (Or.inl ⟨by rfl, fun w' hSw => by obtain ⟨za0, za1, za2⟩ := hSw; go_simp⟩) hH ?_
      simp only [Act.put, gA, gB, gC, gD, gE, gG]
      refine wpAnyH_ready (rs := [8]) (by kernel_rfl) (by simp) (AllReadyH.cons (o := _) rfl (fun K hK => ?_) AllReadyH.nil)
      go_simp
      have zzY3 := cc.size
      have qa := World.alloc_heap_new Y3 (Obj.cells #[.bool false, .int .i64 0, .int .i64 0] 139 (0, 0))
      replace cc := sp_new cc (Obj.cells #[.bool false, .int .i64 0, .int .i64 0] 139 (0, 0))
      generalize hY : Y3.alloc (Obj.cells #[.bool false, .int .i64 0, .int .i64 0] 139 (0, 0)) = Y4 at *
      clear hY
      refine hK.out _ _ (hall _ cc) (fun hH => ?_)
      clear hK K
      try simp only [Act.put, gA, gB, gC, gD, gE, gG]
      refine wpAnyH_ready (rs := [9]) (by kernel_rfl) (by simp) (AllReadyH.cons (o := _) rfl (fun K hK => ?_) AllReadyH.nil)
      obtain ⟨q0, q1, q2, qf⟩ := on_cells3i qa
      go_simp
      clear q0 q1 q2 qf
      replace qa := on_set3i qa (.bool pe) (.int .i64 pl) (.int .i64 ph)
      replace cc := sp_set3 (b := Y3.heap.size) cc zzY3 (.bool pe) (.int .i64 pl) (.int .i64 ph)
      generalize hY : (((Y4.setCell ⟨Y3.heap.size, 0, none⟩ (.bool pe)).setCell ⟨Y3.heap.size, 1, none⟩ (.int .i64 pl)).setCell ⟨Y3.heap.size, 2, none⟩ (.int .i64 ph)) = Y5 at *
      clear hY
      refine hK.out _ _ (hall _ cc) (fun hH => ?_)
      clear hK K
      try simp only [Act.put, gA, gB, gC, gD, gE, gG]
      refine wpAnyH_take (i := 10) (oi := _) (v := .int .i64 TR) rfl (by kernel_rfl) (by kernel_rfl) (by kernel_rfl) (fun _ _ _ h => h) (Or.inl ⟨by rfl, fun w' hSw => by obtain ⟨za0, za1, za2⟩ := hSw; go_simp⟩) hH ?_
      simp only [Act.put, gA, gB, gC, gD, gE, gG]
      refine wpAnyH_done (by kernel_rfl) ?_ _
      go_wp2_with fail
      go_meet
      exact ⟨_, _, rfl, rfl, rfl, qa, zzY3, cc⟩
     ·skip
      go_simp
      have zzY2 := cc.size
      have qa := World.alloc_heap_new Y2 (Obj.cells #[.bool false, .int .i64 0, .int .i64 0] 139 (0, 0))
      replace cc := sp_new cc (Obj.cells #[.bool false, .int .i64 0, .int .i64 0] 139 (0, 0))
      generalize hY : Y2.alloc (Obj.cells #[.bool false, .int .i64 0, .int .i64 0] 139 (0, 0)) = Y6 at *
      clear hY
      refine hK.out _ _ (hall _ cc) (fun hH => ?_)
      clear hK K
      try simp only [Act.put, gA, gB, gC, gD, gE, gG]
      refine wpAnyH_ready (rs := [4]) (by kernel_rfl) (by simp) (AllReadyH.cons (o := _) rfl (fun K hK => ?_) AllReadyH.nil)
      go_simp
      refine (h _).mono ?_
      rintro e Y7 ⟨rfl, g⟩
      replace cc := sp_call cc g
      replace qa := on_carryi g qa
      clear g
      go_wp2_with fail
      refine hK.out _ _ (hall _ cc) (fun hH => ?_)
      clear hK K
      try simp only [Act.put, gA, gB, gC, gD, gE, gG]
      refine wpAnyH_take (i := 5) (oi := _) (v := .tuple #[.agg #[.bool pe, .int .i64 pl, .int .i64 ph], .int .i64 TR]) rfl (by kernel_rfl) (by kernel_rfl) (by kernel_rfl) (fun _ _ _ h => h) (Or.inl ⟨by rfl, fun w' hSw => by obtain ⟨za0, za1, za2⟩ := hSw; go_simp⟩) hH ?_
      simp only [Act.put, gA, gB, gC, gD, gE, gG]
      refine wpAnyH_take (i := 6) (oi := _) (v := .agg #[.bool pe, .int .i64 pl, .int .i64 ph]) rfl (by kernel_rfl) (by kernel_rfl) (by kernel_rfl) (fun _ _ _ h => h) (Or.inl ⟨by rfl, fun w' hSw => by obtain ⟨za0, za1, za2⟩ := hSw; go_simp⟩) hH ?_
      simp only [Act.put, gA, gB, gC, gD, gE, gG]
      refine wpAnyH_take (i := 7) (oi := _) (v := .int .i64 TR) rfl (by kernel_rfl) (by kernel_rfl) (by kernel_rfl) (fun _ _ _ h => h) (Or.inl ⟨by rfl, fun w' hSw => by obtain ⟨za0, za1, za2⟩ := hSw; go_simp⟩) hH ?_
      simp only [Act.put, gA, gB, gC, gD, gE, gG]
      refine wpAnyH_ready (rs := [9]) (by kernel_rfl) (by simp) (AllReadyH.cons (o := _) rfl (fun K hK => ?_) AllReadyH.nil)
      obtain ⟨q0, q1, q2, qf⟩ := on_cells3i qa
      go_simp
      clear q0 q1 q2 qf
      replace qa := on_set3i qa (.bool pe) (.int .i64 pl) (.int .i64 ph)
      replace cc := sp_set3 (b := Y2.heap.size) cc zzY2 (.bool pe) (.int .i64 pl) (.int .i64 ph)
      generalize hY : (((Y7.setCell ⟨Y2.heap.size, 0, none⟩ (.bool pe)).setCell ⟨Y2.heap.size, 1, none⟩ (.int .i64 pl)).setCell ⟨Y2.heap.size, 2, none⟩ (.int .i64 ph)) = Y8 at *
      clear hY
      refine hK.out _ _ (hall _ cc) (fun hH => ?_)
      clear hK K
      try simp only [Act.put, gA, gB, gC, gD, gE, gG]
      refine wpAnyH_take (i := 10) (oi := _) (v := .int .i64 TR) rfl (by kernel_rfl) (by kernel_rfl) (by kernel_rfl) (fun _ _ _ h => h) (Or.inl ⟨by rfl, fun w' hSw => by obtain ⟨za0, za1, za2⟩ := hSw; go_simp⟩) hH ?_
      simp only [Act.put, gA, gB, gC, gD, gE, gG]
      refine wpAnyH_done (by kernel_rfl) ?_ _
      go_wp2_with fail
      go_meet
      exact ⟨_, _, rfl, rfl, rfl, qa, zzY2, cc⟩
    ·skip
     go_simp
     have zzY1 := cc.size
     have qa := World.alloc_heap_new Y1 (Obj.cells #[.bool false, .int .i64 0, .int .i64 0] 139 (0, 0))
     replace cc := sp_new cc (Obj.cells #[.bool false, .int .i64 0, .int .i64 0] 139 (0, 0))
     generalize hY : Y1.alloc (Obj.cells #[.bool false, .int .i64 0, .int .i64 0] 139 (0, 0)) = Y9 at *
     clear hY
     refine hK.out _ _ (hall _ cc) (fun hH => ?_)
     clear hK K
     try simp only [Act.put, gA, gB, gC, gD, gE, gG]
     refine wpAnyH_ready (rs := [3]) (by kernel_rfl) (by simp) (AllReadyH.cons (o := _) rfl (fun K hK => ?_) AllReadyH.nil)
     go_simp
     refine (ho _ _ _ _).mono ?_
     rintro e Y10 ⟨rfl, g⟩
     replace cc := sp_call cc g
     replace qa := on_carryi g qa
     clear g
     go_wp2_with fail
     refine hK.out _ _ (hall _ cc) (fun hH => ?_)
     clear hK K
     try simp only [Act.put, gA, gB, gC, gD, gE, gG]
     refine wpAnyH_ready (rs := [4]) (by kernel_rfl) (by simp) (AllReadyH.cons (o := _) rfl (fun K hK => ?_) AllReadyH.nil)
     go_simp
     refine (h _).mono ?_
     rintro e Y11 ⟨rfl, g⟩
     replace cc := sp_call cc g
     replace qa := on_carryi g qa
     clear g
     go_wp2_with fail
     refine hK.out _ _ (hall _ cc) (fun hH => ?_)
     clear hK K
     try simp only [Act.put, gA, gB, gC, gD, gE, gG]
     refine wpAnyH_take (i := 5) (oi := _) (v := .tuple #[.agg #[.bool pe, .int .i64 pl, .int .i64 ph], .int .i64 TR]) rfl (by kernel_rfl) (by kernel_rfl) (by kernel_rfl) (fun _ _ _ h => h) (Or.inl ⟨by rfl, fun w' hSw => by obtain ⟨za0, za1, za2⟩ := hSw; go_simp⟩) hH ?_
     simp only [Act.put, gA, gB, gC, gD, gE, gG]
     refine wpAnyH_take (i := 6) (oi := _) (v := .agg #[.bool pe, .int .i64 pl, .int .i64 ph]) rfl (by kernel_rfl) (by kernel_rfl) (by kernel_rfl) (fun _ _ _ h => h) (Or.inl ⟨by rfl, fun w' hSw => by obtain ⟨za0, za1, za2⟩ := hSw; go_simp⟩) hH ?_
     simp only [Act.put, gA, gB, gC, gD, gE, gG]
     refine wpAnyH_take (i := 7) (oi := _) (v := .int .i64 TR) rfl (by kernel_rfl) (by kernel_rfl) (by kernel_rfl) (fun _ _ _ h => h) (Or.inl ⟨by rfl, fun w' hSw => by obtain ⟨za0, za1, za2⟩ := hSw; go_simp⟩) hH ?_
     simp only [Act.put, gA, gB, gC, gD, gE, gG]
     refine wpAnyH_ready (rs := [9]) (by kernel_rfl) (by simp) (AllReadyH.cons (o := _) rfl (fun K hK => ?_) AllReadyH.nil)
     obtain ⟨q0, q1, q2, qf⟩ := on_cells3i qa
     go_simp
     clear q0 q1 q2 qf
     replace qa := on_set3i qa (.bool pe) (.int .i64 pl) (.int .i64 ph)
     replace cc := sp_set3 (b := Y1.heap.size) cc zzY1 (.bool pe) (.int .i64 pl) (.int .i64 ph)
     generalize hY : (((Y11.setCell ⟨Y1.heap.size, 0, none⟩ (.bool pe)).setCell ⟨Y1.heap.size, 1, none⟩ (.int .i64 pl)).setCell ⟨Y1.heap.size, 2, none⟩ (.int .i64 ph)) = Y12 at *
     clear hY
     refine hK.out _ _ (hall _ cc) (fun hH => ?_)
     clear hK K
     try simp only [Act.put, gA, gB, gC, gD, gE, gG]
     refine wpAnyH_take (i := 10) (oi := _) (v := .int .i64 TR) rfl (by kernel_rfl) (by kernel_rfl) (by kernel_rfl) (fun _ _ _ h => h) (Or.inl ⟨by rfl, fun w' hSw => by obtain ⟨za0, za1, za2⟩ := hSw; go_simp⟩) hH ?_
     simp only [Act.put, gA, gB, gC, gD, gE, gG]
     refine wpAnyH_done (by kernel_rfl) ?_ _
     go_wp2_with fail
     go_meet
     exact ⟨_, _, rfl, rfl, rfl, qa, zzY1, cc⟩
   ·skip
    go_simp
    have zzY0 := cc.size
    have qa := World.alloc_heap_new Y0 (Obj.cells #[.bool false, .int .i64 0, .int .i64 0] 139 (0, 0))
    replace cc := sp_new cc (Obj.cells #[.bool false, .int .i64 0, .int .i64 0] 139 (0, 0))
    generalize hY : Y0.alloc (Obj.cells #[.bool false, .int .i64 0, .int .i64 0] 139 (0, 0)) = Y13 at *
    clear hY
    refine hK.out _ _ (hall _ cc) (fun hH => ?_)
    clear hK K
    try simp only [Act.put, gA, gB, gC, gD, gE, gG]
    refine wpAnyH_ready (rs := [0]) (by kernel_rfl) (by simp) (AllReadyH.cons (o := _) rfl (fun K hK => ?_) AllReadyH.nil)
    go_simp
    refine (h1 _).mono ?_
    rintro e Y14 ⟨rfl, g⟩
    replace cc := sp_call cc g
    replace qa := on_carryi g qa
    clear g
    go_wp2_with fail
    refine hK.out _ _ (hall _ cc) (fun hH => ?_)
    clear hK K
    try simp only [Act.put, gA, gB, gC, gD, gE, gG]
    refine wpAnyH_ready (rs := [3]) (by kernel_rfl) (by simp) (AllReadyH.cons (o := _) rfl (fun K hK => ?_) AllReadyH.nil)
    go_simp
    refine (ho _ _ _ _).mono ?_
    rintro e Y15 ⟨rfl, g⟩
    replace cc := sp_call cc g
    replace qa := on_carryi g qa
    clear g
    go_wp2_with fail
    refine hK.out _ _ (hall _ cc) (fun hH => ?_)
    clear hK K
    try simp only [Act.put, gA, gB, gC, gD, gE, gG]
    refine wpAnyH_ready (rs := [4]) (by kernel_rfl) (by simp) (AllReadyH.cons (o := _) rfl (fun K hK => ?_) AllReadyH.nil)
    go_simp
    refine (h _).mono ?_
    rintro e Y16 ⟨rfl, g⟩
    replace cc := sp_call cc g
    replace qa := on_carryi g qa
    clear g
    go_wp2_with fail
    refine hK.out _ _ (hall _ cc) (fun hH => ?_)
    clear hK K
    try simp only [Act.put, gA, gB, gC, gD, gE, gG]
    refine wpAnyH_take (i := 5) (oi := _) (v := .tuple #[.agg #[.bool pe, .int .i64 pl, .int .i64 ph], .int .i64 TR]) rfl (by kernel_rfl) (by kernel_rfl) (by kernel_rfl) (fun _ _ _ h => h) (Or.inl ⟨by rfl, fun w' hSw => by obtain ⟨za0, za1, za2⟩ := hSw; go_simp⟩) hH ?_
    simp only [Act.put, gA, gB, gC, gD, gE, gG]
    refine wpAnyH_take (i := 6) (oi := _) (v := .agg #[.bool pe, .int .i64 pl, .int .i64 ph]) rfl (by kernel_rfl) (by kernel_rfl) (by kernel_rfl) (fun _ _ _ h => h) (Or.inl ⟨by rfl, fun w' hSw => by obtain ⟨za0, za1, za2⟩ := hSw; go_simp⟩) hH ?_
    simp only [Act.put, gA, gB, gC, gD, gE, gG]
    refine wpAnyH_take (i := 7) (oi := _) (v := .int .i64 TR) rfl (by kernel_rfl) (by kernel_rfl) (by kernel_rfl) (fun _ _ _ h => h) (Or.inl ⟨by rfl, fun w' hSw => by obtain ⟨za0, za1, za2⟩ := hSw; go_simp⟩) hH ?_
    simp only [Act.put, gA, gB, gC, gD, gE, gG]
    refine wpAnyH_ready (rs := [9]) (by kernel_rfl) (by simp) (AllReadyH.cons (o := _) rfl (fun K hK => ?_) AllReadyH.nil)
    obtain ⟨q0, q1, q2, qf⟩ := on_cells3i qa
    go_simp
    clear q0 q1 q2 qf
    replace qa := on_set3i qa (.bool pe) (.int .i64 pl) (.int .i64 ph)
    replace cc := sp_set3 (b := Y0.heap.size) cc zzY0 (.bool pe) (.int .i64 pl) (.int .i64 ph)
    generalize hY : (((Y16.setCell ⟨Y0.heap.size, 0, none⟩ (.bool pe)).setCell ⟨Y0.heap.size, 1, none⟩ (.int .i64 pl)).setCell ⟨Y0.heap.size, 2, none⟩ (.int .i64 ph)) = Y17 at *
    clear hY
    refine hK.out _ _ (hall _ cc) (fun hH => ?_)
    clear hK K
    try simp only [Act.put, gA, gB, gC, gD, gE, gG]
    refine wpAnyH_take (i := 10) (oi := _) (v := .int .i64 TR) rfl (by kernel_rfl) (by kernel_rfl) (by kernel_rfl) (fun _ _ _ h => h) (Or.inl ⟨by rfl, fun w' hSw => by obtain ⟨za0, za1, za2⟩ := hSw; go_simp⟩) hH ?_
    simp only [Act.put, gA, gB, gC, gD, gE, gG]
    refine wpAnyH_done (by kernel_rfl) ?_ _
    go_wp2_with fail
    go_meet
    exact ⟨_, _, rfl, rfl, rfl, qa, zzY0, cc⟩
  case rest =>
   obtain ⟨W3, b6, rfl, rfl, rfl, qa, z6, cX⟩ := hcut
   obtain ⟨t0, t1, t2, _⟩ := on_cells3i qa
   replace r0 := sO cX r0; replace r1 := sO cX r1; replace r2 := sO cX r2
   replace fz : ∀ j, W3.frozen? ⟨w.heap.size + 1, j, none⟩ = false := fun j => (cX.frozen (p := ⟨w.heap.size + 1, j, none⟩) (by simp; omega)).trans (fz j)
   have zX := cX.size
   replace bW := sp_call bW cX
   clear hall cc cX qa h h1 ho
   go_wp2_with fail
   refine (h5 _).mono ?_
   rintro e v1 ⟨rfl, g⟩
   replace fz : ∀ j, v1.frozen? ⟨w.heap.size + 1, j, none⟩ = false := fun j => (g.frozen (p := ⟨w.heap.size + 1, j, none⟩) (by simp; omega)).trans (fz j)
   replace r0 := sO g r0; replace r1 := sO g r1; replace r2 := sO g r2
   replace bW := sp_call bW g
   clear g
   go_wp2_with fail
   exact bodyPost_ret (v := .tuple #[.agg #[.bool pe, .int .i64 pl, .int .i64 ph], .int .i64 TR]) (by simp [results, Tryz.results64, go_sem, r0, r1, r2]) rfl ⟨rfl, sp_set3 bW (by omega) _ _ _⟩
set_option maxRecDepth 100000 in
set_option maxHeartbeats 6400000 in
theorem irefine_of (op : Int) (e1 : Bool) (a b : Int) (e2 : Bool) (c d : Int) (pe qe : Bool) (pl ph ql qh : Int) (h : ∀ V, Calls Tryz.prog 132 #[.agg (lvi LnI), .int .i64 op, .agg #[.bool e1, .int .i64 a, .int .i64 b], .agg #[.bool e2, .int .i64 c, .int .i64 d]] V fun e w' => e = .returned (.tuple #[.agg #[.bool pe, .int .i64 pl, .int .i64 ph], .agg #[.bool qe, .int .i64 ql, .int .i64 qh]]) ∧ Below V.heap.size V w') (w : World) :
    Calls Tryz.prog 66 #[.int .i64 op, .agg #[.bool e1, .int .i64 a, .int .i64 b], .agg #[.bool e2, .int .i64 c, .int .i64 d]] w fun e w' => e = .returned (.tuple #[.agg #[.bool pe, .int .i64 pl, .int .i64 ph], .agg #[.bool qe, .int .i64 ql, .int .i64 qh]]) ∧ Below w.heap.size w w' := by
  have h1 := ints_any
  have h5 := intRange_any pe pl ph
  have h6 := intRange_any qe ql qh
  have ho := ofInts_any
  generalize lvi LnI = LV at *
  go_enter Tryz.func66, Tryz.ntmps66
  go_upto_region 1 with fail
  obtain ⟨W, hW⟩ : ∃ W, ((((w.alloc (.cells #[.bool e1, .int .i64 a, .int .i64 b] 47)).alloc (.cells #[.bool e2, .int .i64 c, .int .i64 d] 47)).alloc (.cells #[.bool false, .int .i64 0, .int .i64 0] 47)).alloc (.cells #[.bool false, .int .i64 0, .int .i64 0] 47)) = W := ⟨_, rfl⟩
  have a0 : W.cell? ⟨w.heap.size, 0, none⟩ = some (.bool e1) := by rw [← hW]; simp [go_sem]
  have a1 : W.cell? ⟨w.heap.size, 1, none⟩ = some (.int .i64 a) := by rw [← hW]; simp [go_sem]
  have a2 : W.cell? ⟨w.heap.size, 2, none⟩ = some (.int .i64 b) := by rw [← hW]; simp [go_sem]
  have b0 : W.cell? ⟨w.heap.size + 1, 0, none⟩ = some (.bool e2) := by rw [← hW]; simp [go_sem]
  have b1 : W.cell? ⟨w.heap.size + 1, 1, none⟩ = some (.int .i64 c) := by rw [← hW]; simp [go_sem]
  have b2 : W.cell? ⟨w.heap.size + 1, 2, none⟩ = some (.int .i64 d) := by rw [← hW]; simp [go_sem]
  have r0 : W.cell? ⟨w.heap.size + 1 + 1, 0, none⟩ = some (.bool false) := by rw [← hW]; simp [go_sem]
  have r1 : W.cell? ⟨w.heap.size + 1 + 1, 1, none⟩ = some (.int .i64 0) := by rw [← hW]; simp [go_sem]
  have r2 : W.cell? ⟨w.heap.size + 1 + 1, 2, none⟩ = some (.int .i64 0) := by rw [← hW]; simp [go_sem]
  have s0 : W.cell? ⟨w.heap.size + 1 + 1 + 1, 0, none⟩ = some (.bool false) := by rw [← hW]; simp [go_sem]
  have s1 : W.cell? ⟨w.heap.size + 1 + 1 + 1, 1, none⟩ = some (.int .i64 0) := by rw [← hW]; simp [go_sem]
  have s2 : W.cell? ⟨w.heap.size + 1 + 1 + 1, 2, none⟩ = some (.int .i64 0) := by rw [← hW]; simp [go_sem]
  have bW : Below w.heap.size w W := by rw [← hW]; exact (sp_new (sp_new (sp_new (sp_new (Below.refl _ _) _) _) _) _)
  have zW : W.heap.size = w.heap.size + 4 := by rw [← hW]; simp
  have fr : ∀ j, W.frozen? ⟨w.heap.size + 1 + 1, j, none⟩ = false := by intro j; rw [← hW]; simp [go_sem]
  have fs : ∀ j, W.frozen? ⟨w.heap.size + 1 + 1 + 1, j, none⟩ = false := by intro j; rw [← hW]; simp [go_sem]
  rw [hW]
  clear hW
  replace zW := Nat.le_of_eq zW.symm
  have hall : ∀ X9, Below W.heap.size W X9 → (X9.cell? ⟨w.heap.size, 0, none⟩ = some (.bool e1) ∧ X9.cell? ⟨w.heap.size, 1, none⟩ = some (.int .i64 a) ∧ X9.cell? ⟨w.heap.size, 2, none⟩ = some (.int .i64 b) ∧ X9.cell? ⟨w.heap.size + 1, 0, none⟩ = some (.bool e2) ∧ X9.cell? ⟨w.heap.size + 1, 1, none⟩ = some (.int .i64 c) ∧ X9.cell? ⟨w.heap.size + 1, 2, none⟩ = some (.int .i64 d)) := fun X9 cc => ⟨sO cc a0, sO cc a1, sO cc a2, sO cc b0, sO cc b1, sO cc b2⟩
  have cc : Below W.heap.size W W.drew := (Below.refl _ _).drew
  go_cut [8, 9] from 10 to 19 (fun s u X => ∃ (W3 : World) (b8 b9 : Nat), W3 = X ∧ s = .pointer (some ⟨b8, 0, none⟩) ∧ u = .pointer (some ⟨b9, 0, none⟩) ∧ X.heap[b8]? = some (Obj.cells #[.bool pe, .int .i64 pl, .int .i64 ph] 139 (0, 0)) ∧ X.heap[b9]? = some (Obj.cells #[.bool qe, .int .i64 ql, .int .i64 qh] 139 (0, 0)) ∧ W.heap.size ≤ b8 ∧ W.heap.size ≤ b9 ∧ Below W.heap.size W X)
  case first =>
   refine wp_region_held_drew (S := (fun w' => w'.cell? ⟨w.heap.size, 0, none⟩ = some (.bool e1) ∧ w'.cell? ⟨w.heap.size, 1, none⟩ = some (.int .i64 a) ∧ w'.cell? ⟨w.heap.size, 2, none⟩ = some (.int .i64 b) ∧ w'.cell? ⟨w.heap.size + 1, 0, none⟩ = some (.bool e2) ∧ w'.cell? ⟨w.heap.size + 1, 1, none⟩ = some (.int .i64 c) ∧ w'.cell? ⟨w.heap.size + 1, 2, none⟩ = some (.int .i64 d))) (by kernel_rfl) (hall _ cc) (fun hH => ?_)
   refine wpAnyH_take (i := 1) (oi := _) (v := .int .i64 op) rfl (by kernel_rfl) (by kernel_rfl) (by kernel_rfl) (fun _ _ _ h => h) (Or.inl ⟨by rfl, fun w' hSw => by obtain ⟨za0, za1, za2, zb0, zb1, zb2⟩ := hSw; go_simp⟩) hH ?_
   simp only [Act.put, gA, gB, gC, gD, gE, gG]
   refine wpAnyH_take (i := 2) (oi := _) (v := .agg #[.bool e1, .int .i64 a, .int .i64 b]) rfl (by kernel_rfl) (by kernel_rfl) (by kernel_rfl) (fun _ _ _ h => h) (Or.inl ⟨by rfl, fun w' hSw => by obtain ⟨za0, za1, za2, zb0, zb1, zb2⟩ := hSw; go_simp⟩) hH ?_
   simp only [Act.put, gA, gB, gC, gD, gE, gG]
   refine wpAnyH_take (i := 4) (oi := _) (v := .agg #[.bool e2, .int .i64 c, .int .i64 d]) rfl (by kernel_rfl) (by kernel_rfl) (by kernel_rfl) (fun _ _ _ h => h) (Or.inl ⟨by rfl, fun w' hSw => by obtain ⟨za0, za1, za2, zb0, zb1, zb2⟩ := hSw; go_simp⟩) hH ?_
   simp only [Act.put, gA, gB, gC, gD, gE, gG]
   generalize hY : W.drew = Y0 at *
   clear hY
   refine wpAnyH_ready (rs := [0, 10, 11]) (by kernel_rfl) (by simp) (AllReadyH.cons (o := _) rfl (fun K hK => ?_) (AllReadyH.cons (o := _) rfl (fun K hK => ?_) (AllReadyH.cons (o := _) rfl (fun K hK => ?_) AllReadyH.nil)))
   ·skip
    go_simp
    refine (h1 _).mono ?_
    rintro e Y1 ⟨rfl, g⟩
    replace cc := sp_call cc g
    clear g
    go_wp2_with fail
    refine hK.out _ _ (hall _ cc) (fun hH => ?_)
    clear hK K
    try simp only [Act.put, gA, gB, gC, gD, gE, gG]
    refine wpAnyH_ready (rs := [3, 10, 11]) (by kernel_rfl) (by simp) (AllReadyH.cons (o := _) rfl (fun K hK => ?_) (AllReadyH.cons (o := _) rfl (fun K hK => ?_) (AllReadyH.cons (o := _) rfl (fun K hK => ?_) AllReadyH.nil)))
    ·skip
     go_simp
     refine (ho _ _ _ _).mono ?_
     rintro e Y2 ⟨rfl, g⟩
     replace cc := sp_call cc g
     clear g
     go_wp2_with fail
     refine hK.out _ _ (hall _ cc) (fun hH => ?_)
     clear hK K
     try simp only [Act.put, gA, gB, gC, gD, gE, gG]
     refine wpAnyH_ready (rs := [5, 10, 11]) (by kernel_rfl) (by simp) (AllReadyH.cons (o := _) rfl (fun K hK => ?_) (AllReadyH.cons (o := _) rfl (fun K hK => ?_) (AllReadyH.cons (o := _) rfl (fun K hK => ?_) AllReadyH.nil)))
     ·skip
      go_simp
      refine (ho _ _ _ _).mono ?_
      rintro e Y3 ⟨rfl, g⟩
      replace cc := sp_call cc g
      clear g
      go_wp2_with fail
      refine hK.out _ _ (hall _ cc) (fun hH => ?_)
      clear hK K
      try simp only [Act.put, gA, gB, gC, gD, gE, gG]
      refine wpAnyH_ready (rs := [6, 10, 11]) (by kernel_rfl) (by simp) (AllReadyH.cons (o := _) rfl (fun K hK => ?_) (AllReadyH.cons (o := _) rfl (fun K hK => ?_) (AllReadyH.cons (o := _) rfl (fun K hK => ?_) AllReadyH.nil)))
      ·skip
       go_simp
       refine (h _).mono ?_
       rintro e Y4 ⟨rfl, g⟩
       replace cc := sp_call cc g
       clear g
       go_wp2_with fail
       refine hK.out _ _ (hall _ cc) (fun hH => ?_)
       clear hK K
       try simp only [Act.put, gA, gB, gC, gD, gE, gG]
       refine wpAnyH_take (i := 7) (oi := _) (v := .tuple #[.agg #[.bool pe, .int .i64 pl, .int .i64 ph], .agg #[.bool qe, .int .i64 ql, .int .i64 qh]]) rfl (by kernel_rfl) (by kernel_rfl) (by kernel_rfl) (fun _ _ _ h => h) (Or.inl ⟨by rfl, fun w' hSw => by obtain ⟨za0, za1, za2, zb0, zb1, zb2⟩ := hSw; go_simp⟩) hH ?_
       simp only [Act.put, gA, gB, gC, gD, gE, gG]
       refine wpAnyH_take (i := 8) (oi := _) (v := .agg #[.bool pe, .int .i64 pl, .int .i64 ph]) rfl (by kernel_rfl) (by kernel_rfl) (by kernel_rfl) (fun _ _ _ h => h) (Or.inl ⟨by rfl, fun w' hSw => by obtain ⟨za0, za1, za2, zb0, zb1, zb2⟩ := hSw; go_simp⟩) hH ?_
       simp only [Act.put, gA, gB, gC, gD, gE, gG]
       refine wpAnyH_take (i := 9) (oi := _) (v := .agg #[.bool qe, .int .i64 ql, .int .i64 qh]) rfl (by kernel_rfl) (by kernel_rfl) (by kernel_rfl) (fun _ _ _ h => h) (Or.inl ⟨by rfl, fun w' hSw => by obtain ⟨za0, za1, za2, zb0, zb1, zb2⟩ := hSw; go_simp⟩) hH ?_
       simp only [Act.put, gA, gB, gC, gD, gE, gG]
       refine wpAnyH_ready (rs := [10, 11]) (by kernel_rfl) (by simp) (AllReadyH.cons (o := _) rfl (fun K hK => ?_) (AllReadyH.cons (o := _) rfl (fun K hK => ?_) AllReadyH.nil))
       ·skip
        go_simp
        have zzY4 := cc.size
        have qa := World.alloc_heap_new Y4 (Obj.cells #[.bool false, .int .i64 0, .int .i64 0] 139 (0, 0))
        replace cc := sp_new cc (Obj.cells #[.bool false, .int .i64 0, .int .i64 0] 139 (0, 0))
        generalize hY : Y4.alloc (Obj.cells #[.bool false, .int .i64 0, .int .i64 0] 139 (0, 0)) = Y5 at *
        clear hY
        refine hK.out _ _ (hall _ cc) (fun hH => ?_)
        clear hK K
        try simp only [Act.put, gA, gB, gC, gD, gE, gG]
        refine wpAnyH_ready (rs := [11]) (by kernel_rfl) (by simp) (AllReadyH.cons (o := _) rfl (fun K hK => ?_) AllReadyH.nil)
        go_simp
        have zzY5 := cc.size
        have ne1_0 : Y4.heap.size ≠ Y5.heap.size := Nat.ne_of_lt (on_lti qa)
        replace qa := on_oldi qa (Obj.cells #[.bool false, .int .i64 0, .int .i64 0] 139 (0, 0))
        have qb := World.alloc_heap_new Y5 (Obj.cells #[.bool false, .int .i64 0, .int .i64 0] 139 (0, 0))
        replace cc := sp_new cc (Obj.cells #[.bool false, .int .i64 0, .int .i64 0] 139 (0, 0))
        generalize hY : Y5.alloc (Obj.cells #[.bool false, .int .i64 0, .int .i64 0] 139 (0, 0)) = Y6 at *
        clear hY
        refine hK.out _ _ (hall _ cc) (fun hH => ?_)
        clear hK K
        try simp only [Act.put, gA, gB, gC, gD, gE, gG]
        refine wpAnyH_ready (rs := [12]) (by kernel_rfl) (by simp) (AllReadyH.cons (o := _) rfl (fun K hK => ?_) AllReadyH.nil)
        obtain ⟨q0, q1, q2, qf⟩ := on_cells3i qa
        go_simp
        clear q0 q1 q2 qf
        replace qb := on_far3i (b := Y4.heap.size) qb (.bool pe) (.int .i64 pl) (.int .i64 ph) (by first | assumption | exact Ne.symm (by assumption))
        replace qa := on_set3i qa (.bool pe) (.int .i64 pl) (.int .i64 ph)
        replace cc := sp_set3 (b := Y4.heap.size) cc zzY4 (.bool pe) (.int .i64 pl) (.int .i64 ph)
        generalize hY : (((Y6.setCell ⟨Y4.heap.size, 0, none⟩ (.bool pe)).setCell ⟨Y4.heap.size, 1, none⟩ (.int .i64 pl)).setCell ⟨Y4.heap.size, 2, none⟩ (.int .i64 ph)) = Y7 at *
        clear hY
        refine hK.out _ _ (hall _ cc) (fun hH => ?_)
        clear hK K
        try simp only [Act.put, gA, gB, gC, gD, gE, gG]
        refine wpAnyH_ready (rs := [13]) (by kernel_rfl) (by simp) (AllReadyH.cons (o := _) rfl (fun K hK => ?_) AllReadyH.nil)
        obtain ⟨q0, q1, q2, qf⟩ := on_cells3i qb
        go_simp
        clear q0 q1 q2 qf
        replace qa := on_far3i (b := Y5.heap.size) qa (.bool qe) (.int .i64 ql) (.int .i64 qh) (by first | assumption | exact Ne.symm (by assumption))
        replace qb := on_set3i qb (.bool qe) (.int .i64 ql) (.int .i64 qh)
        replace cc := sp_set3 (b := Y5.heap.size) cc zzY5 (.bool qe) (.int .i64 ql) (.int .i64 qh)
        generalize hY : (((Y7.setCell ⟨Y5.heap.size, 0, none⟩ (.bool qe)).setCell ⟨Y5.heap.size, 1, none⟩ (.int .i64 ql)).setCell ⟨Y5.heap.size, 2, none⟩ (.int .i64 qh)) = Y8 at *
        clear hY
        refine hK.out _ _ (hall _ cc) (fun hH => ?_)
        clear hK K
        try simp only [Act.put, gA, gB, gC, gD, gE, gG]
        refine wpAnyH_done (by kernel_rfl) ?_ _
        go_wp2_with fail
        go_meet
        exact ⟨_, _, _, rfl, rfl, rfl, qa, qb, zzY4, zzY5, cc⟩
       ·skip
        go_simp
        have zzY4 := cc.size
        have qb := World.alloc_heap_new Y4 (Obj.cells #[.bool false, .int .i64 0, .int .i64 0] 139 (0, 0))
        replace cc := sp_new cc (Obj.cells #[.bool false, .int .i64 0, .int .i64 0] 139 (0, 0))
        generalize hY : Y4.alloc (Obj.cells #[.bool false, .int .i64 0, .int .i64 0] 139 (0, 0)) = Y9 at *
        clear hY
        refine hK.out _ _ (hall _ cc) (fun hH => ?_)
        clear hK K
        try simp only [Act.put, gA, gB, gC, gD, gE, gG]
        refine wpAnyH_ready (rs := [10]) (by kernel_rfl) (by simp) (AllReadyH.cons (o := _) rfl (fun K hK => ?_) AllReadyH.nil)
        go_simp
        have zzY9 := cc.size
        have ne0_1 : Y4.heap.size ≠ Y9.heap.size := Nat.ne_of_lt (on_lti qb)
        replace qb := on_oldi qb (Obj.cells #[.bool false, .int .i64 0, .int .i64 0] 139 (0, 0))
        have qa := World.alloc_heap_new Y9 (Obj.cells #[.bool false, .int .i64 0, .int .i64 0] 139 (0, 0))
        replace cc := sp_new cc (Obj.cells #[.bool false, .int .i64 0, .int .i64 0] 139 (0, 0))
        generalize hY : Y9.alloc (Obj.cells #[.bool false, .int .i64 0, .int .i64 0] 139 (0, 0)) = Y10 at *
        clear hY
        refine hK.out _ _ (hall _ cc) (fun hH => ?_)
        clear hK K
        try simp only [Act.put, gA, gB, gC, gD, gE, gG]
        refine wpAnyH_ready (rs := [12]) (by kernel_rfl) (by simp) (AllReadyH.cons (o := _) rfl (fun K hK => ?_) AllReadyH.nil)
        obtain ⟨q0, q1, q2, qf⟩ := on_cells3i qa
        go_simp
        clear q0 q1 q2 qf
        replace qb := on_far3i (b := Y9.heap.size) qb (.bool pe) (.int .i64 pl) (.int .i64 ph) (by first | assumption | exact Ne.symm (by assumption))
        replace qa := on_set3i qa (.bool pe) (.int .i64 pl) (.int .i64 ph)
        replace cc := sp_set3 (b := Y9.heap.size) cc zzY9 (.bool pe) (.int .i64 pl) (.int .i64 ph)
        generalize hY : (((Y10.setCell ⟨Y9.heap.size, 0, none⟩ (.bool pe)).setCell ⟨Y9.heap.size, 1, none⟩ (.int .i64 pl)).setCell ⟨Y9.heap.size, 2, none⟩ (.int .i64 ph)) = Y11 at *
        clear hY
        refine hK.out _ _ (hall _ cc) (fun hH => ?_)
        clear hK K
        try simp only [Act.put, gA, gB, gC, gD, gE, gG]
        refine wpAnyH_ready (rs := [13]) (by kernel_rfl) (by simp) (AllReadyH.cons (o := _) rfl (fun K hK => ?_) AllReadyH.nil)
        obtain ⟨q0, q1, q2, qf⟩ := on_cells3i qb
        go_simp
        clear q0 q1 q2 qf
        replace qa := on_far3i (b := Y4.heap.size) qa (.bool qe) (.int .i64 ql) (.int .i64 qh) (by first | assumption | exact Ne.symm (by assumption))
        replace qb := on_set3i qb (.bool qe) (.int .i64 ql) (.int .i64 qh)
        replace cc := sp_set3 (b := Y4.heap.size) cc zzY4 (.bool qe) (.int .i64 ql) (.int .i64 qh)
        generalize hY : (((Y11.setCell ⟨Y4.heap.size, 0, none⟩ (.bool qe)).setCell ⟨Y4.heap.size, 1, none⟩ (.int .i64 ql)).setCell ⟨Y4.heap.size, 2, none⟩ (.int .i64 qh)) = Y12 at *
        clear hY
        refine hK.out _ _ (hall _ cc) (fun hH => ?_)
        clear hK K
        try simp only [Act.put, gA, gB, gC, gD, gE, gG]
        refine wpAnyH_done (by kernel_rfl) ?_ _
        go_wp2_with fail
        go_meet
        exact ⟨_, _, _, rfl, rfl, rfl, qa, qb, zzY9, zzY4, cc⟩
      ·skip
       go_simp
       have zzY3 := cc.size
       have qa := World.alloc_heap_new Y3 (Obj.cells #[.bool false, .int .i64 0, .int .i64 0] 139 (0, 0))
       replace cc := sp_new cc (Obj.cells #[.bool false, .int .i64 0, .int .i64 0] 139 (0, 0))
       generalize hY : Y3.alloc (Obj.cells #[.bool false, .int .i64 0, .int .i64 0] 139 (0, 0)) = Y13 at *
       clear hY
       refine hK.out _ _ (hall _ cc) (fun hH => ?_)
       clear hK K
       try simp only [Act.put, gA, gB, gC, gD, gE, gG]
       refine wpAnyH_ready (rs := [6, 11]) (by kernel_rfl) (by simp) (AllReadyH.cons (o := _) rfl (fun K hK => ?_) (AllReadyH.cons (o := _) rfl (fun K hK => ?_) AllReadyH.nil))
       ·skip
        go_simp
        refine (h _).mono ?_
        rintro e Y14 ⟨rfl, g⟩
        replace cc := sp_call cc g
        replace qa := on_carryi g qa
        clear g
        go_wp2_with fail
        refine hK.out _ _ (hall _ cc) (fun hH => ?_)
        clear hK K
        try simp only [Act.put, gA, gB, gC, gD, gE, gG]
        refine wpAnyH_take (i := 7) (oi := _) (v := .tuple #[.agg #[.bool pe, .int .i64 pl, .int .i64 ph], .agg #[.bool qe, .int .i64 ql, .int .i64 qh]]) rfl (by kernel_rfl) (by kernel_rfl) (by kernel_rfl) (fun _ _ _ h => h) (Or.inl ⟨by rfl, fun w' hSw => by obtain ⟨za0, za1, za2, zb0, zb1, zb2⟩ := hSw; go_simp⟩) hH ?_
        simp only [Act.put, gA, gB, gC, gD, gE, gG]
        refine wpAnyH_take (i := 8) (oi := _) (v := .agg #[.bool pe, .int .i64 pl, .int .i64 ph]) rfl (by kernel_rfl) (by kernel_rfl) (by kernel_rfl) (fun _ _ _ h => h) (Or.inl ⟨by rfl, fun w' hSw => by obtain ⟨za0, za1, za2, zb0, zb1, zb2⟩ := hSw; go_simp⟩) hH ?_
        simp only [Act.put, gA, gB, gC, gD, gE, gG]
        refine wpAnyH_take (i := 9) (oi := _) (v := .agg #[.bool qe, .int .i64 ql, .int .i64 qh]) rfl (by kernel_rfl) (by kernel_rfl) (by kernel_rfl) (fun _ _ _ h => h) (Or.inl ⟨by rfl, fun w' hSw => by obtain ⟨za0, za1, za2, zb0, zb1, zb2⟩ := hSw; go_simp⟩) hH ?_
        simp only [Act.put, gA, gB, gC, gD, gE, gG]
        refine wpAnyH_ready (rs := [11]) (by kernel_rfl) (by simp) (AllReadyH.cons (o := _) rfl (fun K hK => ?_) AllReadyH.nil)
        go_simp
        have zzY14 := cc.size
        have ne1_0 : Y3.heap.size ≠ Y14.heap.size := Nat.ne_of_lt (on_lti qa)
        replace qa := on_oldi qa (Obj.cells #[.bool false, .int .i64 0, .int .i64 0] 139 (0, 0))
        have qb := World.alloc_heap_new Y14 (Obj.cells #[.bool false, .int .i64 0, .int .i64 0] 139 (0, 0))
        replace cc := sp_new cc (Obj.cells #[.bool false, .int .i64 0, .int .i64 0] 139 (0, 0))
        generalize hY : Y14.alloc (Obj.cells #[.bool false, .int .i64 0, .int .i64 0] 139 (0, 0)) = Y15 at *
        clear hY
        refine hK.out _ _ (hall _ cc) (fun hH => ?_)
        clear hK K
        try simp only [Act.put, gA, gB, gC, gD, gE, gG]
        refine wpAnyH_ready (rs := [12]) (by kernel_rfl) (by simp) (AllReadyH.cons (o := _) rfl (fun K hK => ?_) AllReadyH.nil)
        obtain ⟨q0, q1, q2, qf⟩ := on_cells3i qa
        go_simp
        clear q0 q1 q2 qf
        replace qb := on_far3i (b := Y3.heap.size) qb (.bool pe) (.int .i64 pl) (.int .i64 ph) (by first | assumption | exact Ne.symm (by assumption))
        replace qa := on_set3i qa (.bool pe) (.int .i64 pl) (.int .i64 ph)
        replace cc := sp_set3 (b := Y3.heap.size) cc zzY3 (.bool pe) (.int .i64 pl) (.int .i64 ph)
        generalize hY : (((Y15.setCell ⟨Y3.heap.size, 0, none⟩ (.bool pe)).setCell ⟨Y3.heap.size, 1, none⟩ (.int .i64 pl)).setCell ⟨Y3.heap.size, 2, none⟩ (.int .i64 ph)) = Y16 at *
        clear hY
        refine hK.out _ _ (hall _ cc) (fun hH => ?_)
        clear hK K
        try simp only [Act.put, gA, gB, gC, gD, gE, gG]
        refine wpAnyH_ready (rs := [13]) (by kernel_rfl) (by simp) (AllReadyH.cons (o := _) rfl (fun K hK => ?_) AllReadyH.nil)
        obtain ⟨q0, q1, q2, qf⟩ := on_cells3i qb
        go_simp
        clear q0 q1 q2 qf
        replace qa := on_far3i (b := Y14.heap.size) qa (.bool qe) (.int .i64 ql) (.int .i64 qh) (by first | assumption | exact Ne.symm (by assumption))
        replace qb := on_set3i qb (.bool qe) (.int .i64 ql) (.int .i64 qh)
        replace cc := sp_set3 (b := Y14.heap.size) cc zzY14 (.bool qe) (.int .i64 ql) (.int .i64 qh)
        generalize hY : (((Y16.setCell ⟨Y14.heap.size, 0, none⟩ (.bool qe)).setCell ⟨Y14.heap.size, 1, none⟩ (.int .i64 ql)).setCell ⟨Y14.heap.size, 2, none⟩ (.int .i64 qh)) = Y17 at *
        clear hY
        refine hK.out _ _ (hall _ cc) (fun hH => ?_)
        clear hK K
        try simp only [Act.put, gA, gB, gC, gD, gE, gG]
        refine wpAnyH_done (by kernel_rfl) ?_ _
        go_wp2_with fail
        go_meet
        exact ⟨_, _, _, rfl, rfl, rfl, qa, qb, zzY3, zzY14, cc⟩
       ·skip
        go_simp
        have zzY13 := cc.size
        have ne1_0 : Y3.heap.size ≠ Y13.heap.size := Nat.ne_of_lt (on_lti qa)
        replace qa := on_oldi qa (Obj.cells #[.bool false, .int .i64 0, .int .i64 0] 139 (0, 0))
        have qb := World.alloc_heap_new Y13 (Obj.cells #[.bool false, .int .i64 0, .int .i64 0] 139 (0, 0))
        replace cc := sp_new cc (Obj.cells #[.bool false, .int .i64 0, .int .i64 0] 139 (0, 0))
        generalize hY : Y13.alloc (Obj.cells #[.bool false, .int .i64 0, .int .i64 0] 139 (0, 0)) = Y18 at *
        clear hY
        refine hK.out _ _ (hall _ cc) (fun hH => ?_)
        clear hK K
        try simp only [Act.put, gA, gB, gC, gD, gE, gG]
        refine wpAnyH_ready (rs := [6]) (by kernel_rfl) (by simp) (AllReadyH.cons (o := _) rfl (fun K hK => ?_) AllReadyH.nil)
        go_simp
        refine (h _).mono ?_
        rintro e Y19 ⟨rfl, g⟩
        replace cc := sp_call cc g
        replace qa := on_carryi g qa
        replace qb := on_carryi g qb
        clear g
        go_wp2_with fail
        refine hK.out _ _ (hall _ cc) (fun hH => ?_)
        clear hK K
        try simp only [Act.put, gA, gB, gC, gD, gE, gG]
        refine wpAnyH_take (i := 7) (oi := _) (v := .tuple #[.agg #[.bool pe, .int .i64 pl, .int .i64 ph], .agg #[.bool qe, .int .i64 ql, .int .i64 qh]]) rfl (by kernel_rfl) (by kernel_rfl) (by kernel_rfl) (fun _ _ _ h => h) (Or.inl ⟨by rfl, fun w' hSw => by obtain ⟨za0, za1, za2, zb0, zb1, zb2⟩ := hSw; go_simp⟩) hH ?_
        simp only [Act.put, gA, gB, gC, gD, gE, gG]
        refine wpAnyH_take (i := 8) (oi := _) (v := .agg #[.bool pe, .int .i64 pl, .int .i64 ph]) rfl (by kernel_rfl) (by kernel_rfl) (by kernel_rfl) (fun _ _ _ h => h) (Or.inl ⟨by rfl, fun w' hSw => by obtain ⟨za0, za1, za2, zb0, zb1, zb2⟩ := hSw; go_simp⟩) hH ?_
        simp only [Act.put, gA, gB, gC, gD, gE, gG]
        refine wpAnyH_take (i := 9) (oi := _) (v := .agg #[.bool qe, .int .i64 ql, .int .i64 qh]) rfl (by kernel_rfl) (by kernel_rfl) (by kernel_rfl) (fun _ _ _ h => h) (Or.inl ⟨by rfl, fun w' hSw => by obtain ⟨za0, za1, za2, zb0, zb1, zb2⟩ := hSw; go_simp⟩) hH ?_
        simp only [Act.put, gA, gB, gC, gD, gE, gG]
        refine wpAnyH_ready (rs := [12]) (by kernel_rfl) (by simp) (AllReadyH.cons (o := _) rfl (fun K hK => ?_) AllReadyH.nil)
        obtain ⟨q0, q1, q2, qf⟩ := on_cells3i qa
        go_simp
        clear q0 q1 q2 qf
        replace qb := on_far3i (b := Y3.heap.size) qb (.bool pe) (.int .i64 pl) (.int .i64 ph) (by first | assumption | exact Ne.symm (by assumption))
        replace qa := on_set3i qa (.bool pe) (.int .i64 pl) (.int .i64 ph)
        replace cc := sp_set3 (b := Y3.heap.size) cc zzY3 (.bool pe) (.int .i64 pl) (.int .i64 ph)
        generalize hY : (((Y19.setCell ⟨Y3.heap.size, 0, none⟩ (.bool pe)).setCell ⟨Y3.heap.size, 1, none⟩ (.int .i64 pl)).setCell ⟨Y3.heap.size, 2, none⟩ (.int .i64 ph)) = Y20 at *
        clear hY
        refine hK.out _ _ (hall _ cc) (fun hH => ?_)
        clear hK K
        try simp only [Act.put, gA, gB, gC, gD, gE, gG]
        refine wpAnyH_ready (rs := [13]) (by kernel_rfl) (by simp) (AllReadyH.cons (o := _) rfl (fun K hK => ?_) AllReadyH.nil)
        obtain ⟨q0, q1, q2, qf⟩ := on_cells3i qb
        go_simp
        clear q0 q1 q2 qf
        replace qa := on_far3i (b := Y13.heap.size) qa (.bool qe) (.int .i64 ql) (.int .i64 qh) (by first | assumption | exact Ne.symm (by assumption))
        replace qb := on_set3i qb (.bool qe) (.int .i64 ql) (.int .i64 qh)
        replace cc := sp_set3 (b := Y13.heap.size) cc zzY13 (.bool qe) (.int .i64 ql) (.int .i64 qh)
        generalize hY : (((Y20.setCell ⟨Y13.heap.size, 0, none⟩ (.bool qe)).setCell ⟨Y13.heap.size, 1, none⟩ (.int .i64 ql)).setCell ⟨Y13.heap.size, 2, none⟩ (.int .i64 qh)) = Y21 at *
        clear hY
        refine hK.out _ _ (hall _ cc) (fun hH => ?_)
        clear hK K
        try simp only [Act.put, gA, gB, gC, gD, gE, gG]
        refine wpAnyH_done (by kernel_rfl) ?_ _
        go_wp2_with fail
        go_meet
        exact ⟨_, _, _, rfl, rfl, rfl, qa, qb, zzY3, zzY13, cc⟩
      ·skip
       go_simp
       have zzY3 := cc.size
       have qb := World.alloc_heap_new Y3 (Obj.cells #[.bool false, .int .i64 0, .int .i64 0] 139 (0, 0))
       replace cc := sp_new cc (Obj.cells #[.bool false, .int .i64 0, .int .i64 0] 139 (0, 0))
       generalize hY : Y3.alloc (Obj.cells #[.bool false, .int .i64 0, .int .i64 0] 139 (0, 0)) = Y22 at *
       clear hY
       refine hK.out _ _ (hall _ cc) (fun hH => ?_)
       clear hK K
       try simp only [Act.put, gA, gB, gC, gD, gE, gG]
       refine wpAnyH_ready (rs := [6, 10]) (by kernel_rfl) (by simp) (AllReadyH.cons (o := _) rfl (fun K hK => ?_) (AllReadyH.cons (o := _) rfl (fun K hK => ?_) AllReadyH.nil))
       ·skip
        go_simp
        refine (h _).mono ?_
        rintro e Y23 ⟨rfl, g⟩
        replace cc := sp_call cc g
        replace qb := on_carryi g qb
        clear g
        go_wp2_with fail
        refine hK.out _ _ (hall _ cc) (fun hH => ?_)
        clear hK K
        try simp only [Act.put, gA, gB, gC, gD, gE, gG]
        refine wpAnyH_take (i := 7) (oi := _) (v := .tuple #[.agg #[.bool pe, .int .i64 pl, .int .i64 ph], .agg #[.bool qe, .int .i64 ql, .int .i64 qh]]) rfl (by kernel_rfl) (by kernel_rfl) (by kernel_rfl) (fun _ _ _ h => h) (Or.inl ⟨by rfl, fun w' hSw => by obtain ⟨za0, za1, za2, zb0, zb1, zb2⟩ := hSw; go_simp⟩) hH ?_
        simp only [Act.put, gA, gB, gC, gD, gE, gG]
        refine wpAnyH_take (i := 8) (oi := _) (v := .agg #[.bool pe, .int .i64 pl, .int .i64 ph]) rfl (by kernel_rfl) (by kernel_rfl) (by kernel_rfl) (fun _ _ _ h => h) (Or.inl ⟨by rfl, fun w' hSw => by obtain ⟨za0, za1, za2, zb0, zb1, zb2⟩ := hSw; go_simp⟩) hH ?_
        simp only [Act.put, gA, gB, gC, gD, gE, gG]
        refine wpAnyH_take (i := 9) (oi := _) (v := .agg #[.bool qe, .int .i64 ql, .int .i64 qh]) rfl (by kernel_rfl) (by kernel_rfl) (by kernel_rfl) (fun _ _ _ h => h) (Or.inl ⟨by rfl, fun w' hSw => by obtain ⟨za0, za1, za2, zb0, zb1, zb2⟩ := hSw; go_simp⟩) hH ?_
        simp only [Act.put, gA, gB, gC, gD, gE, gG]
        refine wpAnyH_ready (rs := [10]) (by kernel_rfl) (by simp) (AllReadyH.cons (o := _) rfl (fun K hK => ?_) AllReadyH.nil)
        go_simp
        have zzY23 := cc.size
        have ne0_1 : Y3.heap.size ≠ Y23.heap.size := Nat.ne_of_lt (on_lti qb)
        replace qb := on_oldi qb (Obj.cells #[.bool false, .int .i64 0, .int .i64 0] 139 (0, 0))
        have qa := World.alloc_heap_new Y23 (Obj.cells #[.bool false, .int .i64 0, .int .i64 0] 139 (0, 0))
        replace cc := sp_new cc (Obj.cells #[.bool false, .int .i64 0, .int .i64 0] 139 (0, 0))
        generalize hY : Y23.alloc (Obj.cells #[.bool false, .int .i64 0, .int .i64 0] 139 (0, 0)) = Y24 at *
        clear hY
        refine hK.out _ _ (hall _ cc) (fun hH => ?_)
        clear hK K
        try simp only [Act.put, gA, gB, gC, gD, gE, gG]
        refine wpAnyH_ready (rs := [12]) (by kernel_rfl) (by simp) (AllReadyH.cons (o := _) rfl (fun K hK => ?_) AllReadyH.nil)
        obtain ⟨q0, q1, q2, qf⟩ := on_cells3i qa
        go_simp
        clear q0 q1 q2 qf
        replace qb := on_far3i (b := Y23.heap.size) qb (.bool pe) (.int .i64 pl) (.int .i64 ph) (by first | assumption | exact Ne.symm (by assumption))
        replace qa := on_set3i qa (.bool pe) (.int .i64 pl) (.int .i64 ph)
        replace cc := sp_set3 (b := Y23.heap.size) cc zzY23 (.bool pe) (.int .i64 pl) (.int .i64 ph)
        generalize hY : (((Y24.setCell ⟨Y23.heap.size, 0, none⟩ (.bool pe)).setCell ⟨Y23.heap.size, 1, none⟩ (.int .i64 pl)).setCell ⟨Y23.heap.size, 2, none⟩ (.int .i64 ph)) = Y25 at *
        clear hY
        refine hK.out _ _ (hall _ cc) (fun hH => ?_)
        clear hK K
        try simp only [Act.put, gA, gB, gC, gD, gE, gG]
        refine wpAnyH_ready (rs := [13]) (by kernel_rfl) (by simp) (AllReadyH.cons (o := _) rfl (fun K hK => ?_) AllReadyH.nil)
        obtain ⟨q0, q1, q2, qf⟩ := on_cells3i qb
        go_simp
        clear q0 q1 q2 qf
        replace qa := on_far3i (b := Y3.heap.size) qa (.bool qe) (.int .i64 ql) (.int .i64 qh) (by first | assumption | exact Ne.symm (by assumption))
        replace qb := on_set3i qb (.bool qe) (.int .i64 ql) (.int .i64 qh)
        replace cc := sp_set3 (b := Y3.heap.size) cc zzY3 (.bool qe) (.int .i64 ql) (.int .i64 qh)
        generalize hY : (((Y25.setCell ⟨Y3.heap.size, 0, none⟩ (.bool qe)).setCell ⟨Y3.heap.size, 1, none⟩ (.int .i64 ql)).setCell ⟨Y3.heap.size, 2, none⟩ (.int .i64 qh)) = Y26 at *
        clear hY
        refine hK.out _ _ (hall _ cc) (fun hH => ?_)
        clear hK K
        try simp only [Act.put, gA, gB, gC, gD, gE, gG]
        refine wpAnyH_done (by kernel_rfl) ?_ _
        go_wp2_with fail
        go_meet
        exact ⟨_, _, _, rfl, rfl, rfl, qa, qb, zzY23, zzY3, cc⟩
       ·skip
        go_simp
        have zzY22 := cc.size
        have ne0_1 : Y3.heap.size ≠ Y22.heap.size := Nat.ne_of_lt (on_lti qb)
        replace qb := on_oldi qb (Obj.cells #[.bool false, .int .i64 0, .int .i64 0] 139 (0, 0))
        have qa := World.alloc_heap_new Y22 (Obj.cells #[.bool false, .int .i64 0, .int .i64 0] 139 (0, 0))
        replace cc := sp_new cc (Obj.cells #[.bool false, .int .i64 0, .int .i64 0] 139 (0, 0))
        generalize hY : Y22.alloc (Obj.cells #[.bool false, .int .i64 0, .int .i64 0] 139 (0, 0)) = Y27 at *
        clear hY
        refine hK.out _ _ (hall _ cc) (fun hH => ?_)
        clear hK K
        try simp only [Act.put, gA, gB, gC, gD, gE, gG]
        refine wpAnyH_ready (rs := [6]) (by kernel_rfl) (by simp) (AllReadyH.cons (o := _) rfl (fun K hK => ?_) AllReadyH.nil)
        go_simp
        refine (h _).mono ?_
        rintro e Y28 ⟨rfl, g⟩
        replace cc := sp_call cc g
        replace qa := on_carryi g qa
        replace qb := on_carryi g qb
        clear g
        go_wp2_with fail
        refine hK.out _ _ (hall _ cc) (fun hH => ?_)
        clear hK K
        try simp only [Act.put, gA, gB, gC, gD, gE, gG]
        refine wpAnyH_take (i := 7) (oi := _) (v := .tuple #[.agg #[.bool pe, .int .i64 pl, .int .i64 ph], .agg #[.bool qe, .int .i64 ql, .int .i64 qh]]) rfl (by kernel_rfl) (by kernel_rfl) (by kernel_rfl) (fun _ _ _ h => h) (Or.inl ⟨by rfl, fun w' hSw => by obtain ⟨za0, za1, za2, zb0, zb1, zb2⟩ := hSw; go_simp⟩) hH ?_
        simp only [Act.put, gA, gB, gC, gD, gE, gG]
        refine wpAnyH_take (i := 8) (oi := _) (v := .agg #[.bool pe, .int .i64 pl, .int .i64 ph]) rfl (by kernel_rfl) (by kernel_rfl) (by kernel_rfl) (fun _ _ _ h => h) (Or.inl ⟨by rfl, fun w' hSw => by obtain ⟨za0, za1, za2, zb0, zb1, zb2⟩ := hSw; go_simp⟩) hH ?_
        simp only [Act.put, gA, gB, gC, gD, gE, gG]
        refine wpAnyH_take (i := 9) (oi := _) (v := .agg #[.bool qe, .int .i64 ql, .int .i64 qh]) rfl (by kernel_rfl) (by kernel_rfl) (by kernel_rfl) (fun _ _ _ h => h) (Or.inl ⟨by rfl, fun w' hSw => by obtain ⟨za0, za1, za2, zb0, zb1, zb2⟩ := hSw; go_simp⟩) hH ?_
        simp only [Act.put, gA, gB, gC, gD, gE, gG]
        refine wpAnyH_ready (rs := [12]) (by kernel_rfl) (by simp) (AllReadyH.cons (o := _) rfl (fun K hK => ?_) AllReadyH.nil)
        obtain ⟨q0, q1, q2, qf⟩ := on_cells3i qa
        go_simp
        clear q0 q1 q2 qf
        replace qb := on_far3i (b := Y22.heap.size) qb (.bool pe) (.int .i64 pl) (.int .i64 ph) (by first | assumption | exact Ne.symm (by assumption))
        replace qa := on_set3i qa (.bool pe) (.int .i64 pl) (.int .i64 ph)
        replace cc := sp_set3 (b := Y22.heap.size) cc zzY22 (.bool pe) (.int .i64 pl) (.int .i64 ph)
        generalize hY : (((Y28.setCell ⟨Y22.heap.size, 0, none⟩ (.bool pe)).setCell ⟨Y22.heap.size, 1, none⟩ (.int .i64 pl)).setCell ⟨Y22.heap.size, 2, none⟩ (.int .i64 ph)) = Y29 at *
        clear hY
        refine hK.out _ _ (hall _ cc) (fun hH => ?_)
        clear hK K
        try simp only [Act.put, gA, gB, gC, gD, gE, gG]
        refine wpAnyH_ready (rs := [13]) (by kernel_rfl) (by simp) (AllReadyH.cons (o := _) rfl (fun K hK => ?_) AllReadyH.nil)
        obtain ⟨q0, q1, q2, qf⟩ := on_cells3i qb
        go_simp
        clear q0 q1 q2 qf
        replace qa := on_far3i (b := Y3.heap.size) qa (.bool qe) (.int .i64 ql) (.int .i64 qh) (by first | assumption | exact Ne.symm (by assumption))
        replace qb := on_set3i qb (.bool qe) (.int .i64 ql) (.int .i64 qh)
        replace cc := sp_set3 (b := Y3.heap.size) cc zzY3 (.bool qe) (.int .i64 ql) (.int .i64 qh)
        generalize hY : (((Y29.setCell ⟨Y3.heap.size, 0, none⟩ (.bool qe)).setCell ⟨Y3.heap.size, 1, none⟩ (.int .i64 ql)).setCell ⟨Y3.heap.size, 2, none⟩ (.int .i64 qh)) = Y30 at *
        clear hY
        refine hK.out _ _ (hall _ cc) (fun hH => ?_)
        clear hK K
        try simp only [Act.put, gA, gB, gC, gD, gE, gG]
        refine wpAnyH_done (by kernel_rfl) ?_ _
        go_wp2_with fail
        go_meet
        exact ⟨_, _, _, rfl, rfl, rfl, qa, qb, zzY22, zzY3, cc⟩
     ·skip
      go_simp
      have zzY2 := cc.size
      have qa := World.alloc_heap_new Y2 (Obj.cells #[.bool false, .int .i64 0, .int .i64 0] 139 (0, 0))
      replace cc := sp_new cc (Obj.cells #[.bool false, .int .i64 0, .int .i64 0] 139 (0, 0))
      generalize hY : Y2.alloc (Obj.cells #[.bool false, .int .i64 0, .int .i64 0] 139 (0, 0)) = Y31 at *
      clear hY
      refine hK.out _ _ (hall _ cc) (fun hH => ?_)
      clear hK K
      try simp only [Act.put, gA, gB, gC, gD, gE, gG]
      refine wpAnyH_ready (rs := [5, 11]) (by kernel_rfl) (by simp) (AllReadyH.cons (o := _) rfl (fun K hK => ?_) (AllReadyH.cons (o := _) rfl (fun K hK => ?_) AllReadyH.nil))
      ·skip
       go_simp
       refine (ho _ _ _ _).mono ?_
       rintro e Y32 ⟨rfl, g⟩
       replace cc := sp_call cc g
       replace qa := on_carryi g qa
       clear g
       go_wp2_with fail
       refine hK.out _ _ (hall _ cc) (fun hH => ?_)
       clear hK K
       try simp only [Act.put, gA, gB, gC, gD, gE, gG]
       refine wpAnyH_ready (rs := [6, 11]) (by kernel_rfl) (by simp) (AllReadyH.cons (o := _) rfl (fun K hK => ?_) (AllReadyH.cons (o := _) rfl (fun K hK => ?_) AllReadyH.nil))
       ·skip
        go_simp
        refine (h _).mono ?_
        rintro e Y33 ⟨rfl, g⟩
        replace cc := sp_call cc g
        replace qa := on_carryi g qa
        clear g
        go_wp2_with fail
        refine hK.out _ _ (hall _ cc) (fun hH => ?_)
        clear hK K
        try simp only [Act.put, gA, gB, gC, gD, gE, gG]
        refine wpAnyH_take (i := 7) (oi := _) (v := .tuple #[.agg #[.bool pe, .int .i64 pl, .int .i64 ph], .agg #[.bool qe, .int .i64 ql, .int .i64 qh]]) rfl (by kernel_rfl) (by kernel_rfl) (by kernel_rfl) (fun _ _ _ h => h) (Or.inl ⟨by rfl, fun w' hSw => by obtain ⟨za0, za1, za2, zb0, zb1, zb2⟩ := hSw; go_simp⟩) hH ?_
        simp only [Act.put, gA, gB, gC, gD, gE, gG]
        refine wpAnyH_take (i := 8) (oi := _) (v := .agg #[.bool pe, .int .i64 pl, .int .i64 ph]) rfl (by kernel_rfl) (by kernel_rfl) (by kernel_rfl) (fun _ _ _ h => h) (Or.inl ⟨by rfl, fun w' hSw => by obtain ⟨za0, za1, za2, zb0, zb1, zb2⟩ := hSw; go_simp⟩) hH ?_
        simp only [Act.put, gA, gB, gC, gD, gE, gG]
        refine wpAnyH_take (i := 9) (oi := _) (v := .agg #[.bool qe, .int .i64 ql, .int .i64 qh]) rfl (by kernel_rfl) (by kernel_rfl) (by kernel_rfl) (fun _ _ _ h => h) (Or.inl ⟨by rfl, fun w' hSw => by obtain ⟨za0, za1, za2, zb0, zb1, zb2⟩ := hSw; go_simp⟩) hH ?_
        simp only [Act.put, gA, gB, gC, gD, gE, gG]
        refine wpAnyH_ready (rs := [11]) (by kernel_rfl) (by simp) (AllReadyH.cons (o := _) rfl (fun K hK => ?_) AllReadyH.nil)
        go_simp
        have zzY33 := cc.size
        have ne1_0 : Y2.heap.size ≠ Y33.heap.size := Nat.ne_of_lt (on_lti qa)
        replace qa := on_oldi qa (Obj.cells #[.bool false, .int .i64 0, .int .i64 0] 139 (0, 0))
        have qb := World.alloc_heap_new Y33 (Obj.cells #[.bool false, .int .i64 0, .int .i64 0] 139 (0, 0))
        replace cc := sp_new cc (Obj.cells #[.bool false, .int .i64 0, .int .i64 0] 139 (0, 0))
        generalize hY : Y33.alloc (Obj.cells #[.bool false, .int .i64 0, .int .i64 0] 139 (0, 0)) = Y34 at *
        clear hY
        refine hK.out _ _ (hall _ cc) (fun hH => ?_)
        clear hK K
        try simp only [Act.put, gA, gB, gC, gD, gE, gG]
        refine wpAnyH_ready (rs := [12]) (by kernel_rfl) (by simp) (AllReadyH.cons (o := _) rfl (fun K hK => ?_) AllReadyH.nil)
        obtain ⟨q0, q1, q2, qf⟩ := on_cells3i qa
        go_simp
        clear q0 q1 q2 qf
        replace qb := on_far3i (b := Y2.heap.size) qb (.bool pe) (.int .i64 pl) (.int .i64 ph) (by first | assumption | exact Ne.symm (by assumption))
        replace qa := on_set3i qa (.bool pe) (.int .i64 pl) (.int .i64 ph)
        replace cc := sp_set3 (b := Y2.heap.size) cc zzY2 (.bool pe) (.int .i64 pl) (.int .i64 ph)
        generalize hY : (((Y34.setCell ⟨Y2.heap.size, 0, none⟩ (.bool pe)).setCell ⟨Y2.heap.size, 1, none⟩ (.int .i64 pl)).setCell ⟨Y2.heap.size, 2, none⟩ (.int .i64 ph)) = Y35 at *
        clear hY
        refine hK.out _ _ (hall _ cc) (fun hH => ?_)
        clear hK K
        try simp only [Act.put, gA, gB, gC, gD, gE, gG]
        refine wpAnyH_ready (rs := [13]) (by kernel_rfl) (by simp) (AllReadyH.cons (o := _) rfl (fun K hK => ?_) AllReadyH.nil)
        obtain ⟨q0, q1, q2, qf⟩ := on_cells3i qb
        go_simp
        clear q0 q1 q2 qf
        replace qa := on_far3i (b := Y33.heap.size) qa (.bool qe) (.int .i64 ql) (.int .i64 qh) (by first | assumption | exact Ne.symm (by assumption))
        replace qb := on_set3i qb (.bool qe) (.int .i64 ql) (.int .i64 qh)
        replace cc := sp_set3 (b := Y33.heap.size) cc zzY33 (.bool qe) (.int .i64 ql) (.int .i64 qh)
        generalize hY : (((Y35.setCell ⟨Y33.heap.size, 0, none⟩ (.bool qe)).setCell ⟨Y33.heap.size, 1, none⟩ (.int .i64 ql)).setCell ⟨Y33.heap.size, 2, none⟩ (.int .i64 qh)) = Y36 at *
        clear hY
        refine hK.out _ _ (hall _ cc) (fun hH => ?_)
        clear hK K
        try simp only [Act.put, gA, gB, gC, gD, gE, gG]
        refine wpAnyH_done (by kernel_rfl) ?_ _
        go_wp2_with fail
        go_meet
        exact ⟨_, _, _, rfl, rfl, rfl, qa, qb, zzY2, zzY33, cc⟩
       ·skip
        go_simp
        have zzY32 := cc.size
        have ne1_0 : Y2.heap.size ≠ Y32.heap.size := Nat.ne_of_lt (on_lti qa)
        replace qa := on_oldi qa (Obj.cells #[.bool false, .int .i64 0, .int .i64 0] 139 (0, 0))
        have qb := World.alloc_heap_new Y32 (Obj.cells #[.bool false, .int .i64 0, .int .i64 0] 139 (0, 0))
        replace cc := sp_new cc (Obj.cells #[.bool false, .int .i64 0, .int .i64 0] 139 (0, 0))
        generalize hY : Y32.alloc (Obj.cells #[.bool false, .int .i64 0, .int .i64 0] 139 (0, 0)) = Y37 at *
        clear hY
        refine hK.out _ _ (hall _ cc) (fun hH => ?_)
        clear hK K
        try simp only [Act.put, gA, gB, gC, gD, gE, gG]
        refine wpAnyH_ready (rs := [6]) (by kernel_rfl) (by simp) (AllReadyH.cons (o := _) rfl (fun K hK => ?_) AllReadyH.nil)
        go_simp
        refine (h _).mono ?_
        rintro e Y38 ⟨rfl, g⟩
        replace cc := sp_call cc g
        replace qa := on_carryi g qa
        replace qb := on_carryi g qb
        clear g
        go_wp2_with fail
        refine hK.out _ _ (hall _ cc) (fun hH => ?_)
        clear hK K
        try simp only [Act.put, gA, gB, gC, gD, gE, gG]
        refine wpAnyH_take (i := 7) (oi := _) (v := .tuple #[.agg #[.bool pe, .int .i64 pl, .int .i64 ph], .agg #[.bool qe, .int .i64 ql, .int .i64 qh]]) rfl (by kernel_rfl) (by kernel_rfl) (by kernel_rfl) (fun _ _ _ h => h) (Or.inl ⟨by rfl, fun w' hSw => by obtain ⟨za0, za1, za2, zb0, zb1, zb2⟩ := hSw; go_simp⟩) hH ?_
        simp only [Act.put, gA, gB, gC, gD, gE, gG]
        refine wpAnyH_take (i := 8) (oi := _) (v := .agg #[.bool pe, .int .i64 pl, .int .i64 ph]) rfl (by kernel_rfl) (by kernel_rfl) (by kernel_rfl) (fun _ _ _ h => h) (Or.inl ⟨by rfl, fun w' hSw => by obtain ⟨za0, za1, za2, zb0, zb1, zb2⟩ := hSw; go_simp⟩) hH ?_
        simp only [Act.put, gA, gB, gC, gD, gE, gG]
        refine wpAnyH_take (i := 9) (oi := _) (v := .agg #[.bool qe, .int .i64 ql, .int .i64 qh]) rfl (by kernel_rfl) (by kernel_rfl) (by kernel_rfl) (fun _ _ _ h => h) (Or.inl ⟨by rfl, fun w' hSw => by obtain ⟨za0, za1, za2, zb0, zb1, zb2⟩ := hSw; go_simp⟩) hH ?_
        simp only [Act.put, gA, gB, gC, gD, gE, gG]
        refine wpAnyH_ready (rs := [12]) (by kernel_rfl) (by simp) (AllReadyH.cons (o := _) rfl (fun K hK => ?_) AllReadyH.nil)
        obtain ⟨q0, q1, q2, qf⟩ := on_cells3i qa
        go_simp
        clear q0 q1 q2 qf
        replace qb := on_far3i (b := Y2.heap.size) qb (.bool pe) (.int .i64 pl) (.int .i64 ph) (by first | assumption | exact Ne.symm (by assumption))
        replace qa := on_set3i qa (.bool pe) (.int .i64 pl) (.int .i64 ph)
        replace cc := sp_set3 (b := Y2.heap.size) cc zzY2 (.bool pe) (.int .i64 pl) (.int .i64 ph)
        generalize hY : (((Y38.setCell ⟨Y2.heap.size, 0, none⟩ (.bool pe)).setCell ⟨Y2.heap.size, 1, none⟩ (.int .i64 pl)).setCell ⟨Y2.heap.size, 2, none⟩ (.int .i64 ph)) = Y39 at *
        clear hY
        refine hK.out _ _ (hall _ cc) (fun hH => ?_)
        clear hK K
        try simp only [Act.put, gA, gB, gC, gD, gE, gG]
        refine wpAnyH_ready (rs := [13]) (by kernel_rfl) (by simp) (AllReadyH.cons (o := _) rfl (fun K hK => ?_) AllReadyH.nil)
        obtain ⟨q0, q1, q2, qf⟩ := on_cells3i qb
        go_simp
        clear q0 q1 q2 qf
        replace qa := on_far3i (b := Y32.heap.size) qa (.bool qe) (.int .i64 ql) (.int .i64 qh) (by first | assumption | exact Ne.symm (by assumption))
        replace qb := on_set3i qb (.bool qe) (.int .i64 ql) (.int .i64 qh)
        replace cc := sp_set3 (b := Y32.heap.size) cc zzY32 (.bool qe) (.int .i64 ql) (.int .i64 qh)
        generalize hY : (((Y39.setCell ⟨Y32.heap.size, 0, none⟩ (.bool qe)).setCell ⟨Y32.heap.size, 1, none⟩ (.int .i64 ql)).setCell ⟨Y32.heap.size, 2, none⟩ (.int .i64 qh)) = Y40 at *
        clear hY
        refine hK.out _ _ (hall _ cc) (fun hH => ?_)
        clear hK K
        try simp only [Act.put, gA, gB, gC, gD, gE, gG]
        refine wpAnyH_done (by kernel_rfl) ?_ _
        go_wp2_with fail
        go_meet
        exact ⟨_, _, _, rfl, rfl, rfl, qa, qb, zzY2, zzY32, cc⟩
      ·skip
       go_simp
       have zzY31 := cc.size
       have ne1_0 : Y2.heap.size ≠ Y31.heap.size := Nat.ne_of_lt (on_lti qa)
       replace qa := on_oldi qa (Obj.cells #[.bool false, .int .i64 0, .int .i64 0] 139 (0, 0))
       have qb := World.alloc_heap_new Y31 (Obj.cells #[.bool false, .int .i64 0, .int .i64 0] 139 (0, 0))
       replace cc := sp_new cc (Obj.cells #[.bool false, .int .i64 0, .int .i64 0] 139 (0, 0))
       generalize hY : Y31.alloc (Obj.cells #[.bool false, .int .i64 0, .int .i64 0] 139 (0, 0)) = Y41 at *
       clear hY
       refine hK.out _ _ (hall _ cc) (fun hH => ?_)
       clear hK K
       try simp only [Act.put, gA, gB, gC, gD, gE, gG]
       refine wpAnyH_ready (rs := [5]) (by kernel_rfl) (by simp) (AllReadyH.cons (o := _) rfl (fun K hK => ?_) AllReadyH.nil)
       go_simp
       refine (ho _ _ _ _).mono ?_
       rintro e Y42 ⟨rfl, g⟩
       replace cc := sp_call cc g
       replace qa := on_carryi g qa
       replace qb := on_carryi g qb
       clear g
       go_wp2_with fail
       refine hK.out _ _ (hall _ cc) (fun hH => ?_)
       clear hK K
       try simp only [Act.put, gA, gB, gC, gD, gE, gG]
       refine wpAnyH_ready (rs := [6]) (by kernel_rfl) (by simp) (AllReadyH.cons (o := _) rfl (fun K hK => ?_) AllReadyH.nil)
       go_simp
       refine (h _).mono ?_
       rintro e Y43 ⟨rfl, g⟩
       replace cc := sp_call cc g
       replace qa := on_carryi g qa
       replace qb := on_carryi g qb
       clear g
       go_wp2_with fail
       refine hK.out _ _ (hall _ cc) (fun hH => ?_)
       clear hK K
       try simp only [Act.put, gA, gB, gC, gD, gE, gG]
       refine wpAnyH_take (i := 7) (oi := _) (v := .tuple #[.agg #[.bool pe, .int .i64 pl, .int .i64 ph], .agg #[.bool qe, .int .i64 ql, .int .i64 qh]]) rfl (by kernel_rfl) (by kernel_rfl) (by kernel_rfl) (fun _ _ _ h => h) (Or.inl ⟨by rfl, fun w' hSw => by obtain ⟨za0, za1, za2, zb0, zb1, zb2⟩ := hSw; go_simp⟩) hH ?_
       simp only [Act.put, gA, gB, gC, gD, gE, gG]
       refine wpAnyH_take (i := 8) (oi := _) (v := .agg #[.bool pe, .int .i64 pl, .int .i64 ph]) rfl (by kernel_rfl) (by kernel_rfl) (by kernel_rfl) (fun _ _ _ h => h) (Or.inl ⟨by rfl, fun w' hSw => by obtain ⟨za0, za1, za2, zb0, zb1, zb2⟩ := hSw; go_simp⟩) hH ?_
       simp only [Act.put, gA, gB, gC, gD, gE, gG]
       refine wpAnyH_take (i := 9) (oi := _) (v := .agg #[.bool qe, .int .i64 ql, .int .i64 qh]) rfl (by kernel_rfl) (by kernel_rfl) (by kernel_rfl) (fun _ _ _ h => h) (Or.inl ⟨by rfl, fun w' hSw => by obtain ⟨za0, za1, za2, zb0, zb1, zb2⟩ := hSw; go_simp⟩) hH ?_
       simp only [Act.put, gA, gB, gC, gD, gE, gG]
       refine wpAnyH_ready (rs := [12]) (by kernel_rfl) (by simp) (AllReadyH.cons (o := _) rfl (fun K hK => ?_) AllReadyH.nil)
       obtain ⟨q0, q1, q2, qf⟩ := on_cells3i qa
       go_simp
       clear q0 q1 q2 qf
       replace qb := on_far3i (b := Y2.heap.size) qb (.bool pe) (.int .i64 pl) (.int .i64 ph) (by first | assumption | exact Ne.symm (by assumption))
       replace qa := on_set3i qa (.bool pe) (.int .i64 pl) (.int .i64 ph)
       replace cc := sp_set3 (b := Y2.heap.size) cc zzY2 (.bool pe) (.int .i64 pl) (.int .i64 ph)
       generalize hY : (((Y43.setCell ⟨Y2.heap.size, 0, none⟩ (.bool pe)).setCell ⟨Y2.heap.size, 1, none⟩ (.int .i64 pl)).setCell ⟨Y2.heap.size, 2, none⟩ (.int .i64 ph)) = Y44 at *
       clear hY
       refine hK.out _ _ (hall _ cc) (fun hH => ?_)
       clear hK K
       try simp only [Act.put, gA, gB, gC, gD, gE, gG]
       refine wpAnyH_ready (rs := [13]) (by kernel_rfl) (by simp) (AllReadyH.cons (o := _) rfl (fun K hK => ?_) AllReadyH.nil)
       obtain ⟨q0, q1, q2, qf⟩ := on_cells3i qb
       go_simp
       clear q0 q1 q2 qf
       replace qa := on_far3i (b := Y31.heap.size) qa (.bool qe) (.int .i64 ql) (.int .i64 qh) (by first | assumption | exact Ne.symm (by assumption))
       replace qb := on_set3i qb (.bool qe) (.int .i64 ql) (.int .i64 qh)
       replace cc := sp_set3 (b := Y31.heap.size) cc zzY31 (.bool qe) (.int .i64 ql) (.int .i64 qh)
       generalize hY : (((Y44.setCell ⟨Y31.heap.size, 0, none⟩ (.bool qe)).setCell ⟨Y31.heap.size, 1, none⟩ (.int .i64 ql)).setCell ⟨Y31.heap.size, 2, none⟩ (.int .i64 qh)) = Y45 at *
       clear hY
       refine hK.out _ _ (hall _ cc) (fun hH => ?_)
       clear hK K
       try simp only [Act.put, gA, gB, gC, gD, gE, gG]
       refine wpAnyH_done (by kernel_rfl) ?_ _
       go_wp2_with fail
       go_meet
       exact ⟨_, _, _, rfl, rfl, rfl, qa, qb, zzY2, zzY31, cc⟩
     ·skip
      go_simp
      have zzY2 := cc.size
      have qb := World.alloc_heap_new Y2 (Obj.cells #[.bool false, .int .i64 0, .int .i64 0] 139 (0, 0))
      replace cc := sp_new cc (Obj.cells #[.bool false, .int .i64 0, .int .i64 0] 139 (0, 0))
      generalize hY : Y2.alloc (Obj.cells #[.bool false, .int .i64 0, .int .i64 0] 139 (0, 0)) = Y46 at *
      clear hY
      refine hK.out _ _ (hall _ cc) (fun hH => ?_)
      clear hK K
      try simp only [Act.put, gA, gB, gC, gD, gE, gG]
      refine wpAnyH_ready (rs := [5, 10]) (by kernel_rfl) (by simp) (AllReadyH.cons (o := _) rfl (fun K hK => ?_) (AllReadyH.cons (o := _) rfl (fun K hK => ?_) AllReadyH.nil))
      ·skip
       go_simp
       refine (ho _ _ _ _).mono ?_
       rintro e Y47 ⟨rfl, g⟩
       replace cc := sp_call cc g
       replace qb := on_carryi g qb
       clear g
       go_wp2_with fail
       refine hK.out _ _ (hall _ cc) (fun hH => ?_)
       clear hK K
       try simp only [Act.put, gA, gB, gC, gD, gE, gG]
       refine wpAnyH_ready (rs := [6, 10]) (by kernel_rfl) (by simp) (AllReadyH.cons (o := _) rfl (fun K hK => ?_) (AllReadyH.cons (o := _) rfl (fun K hK => ?_) AllReadyH.nil))
       ·skip
        go_simp
        refine (h _).mono ?_
        rintro e Y48 ⟨rfl, g⟩
        replace cc := sp_call cc g
        replace qb := on_carryi g qb
        clear g
        go_wp2_with fail
        refine hK.out _ _ (hall _ cc) (fun hH => ?_)
        clear hK K
        try simp only [Act.put, gA, gB, gC, gD, gE, gG]
        refine wpAnyH_take (i := 7) (oi := _) (v := .tuple #[.agg #[.bool pe, .int .i64 pl, .int .i64 ph], .agg #[.bool qe, .int .i64 ql, .int .i64 qh]]) rfl (by kernel_rfl) (by kernel_rfl) (by kernel_rfl) (fun _ _ _ h => h) (Or.inl ⟨by rfl, fun w' hSw => by obtain ⟨za0, za1, za2, zb0, zb1, zb2⟩ := hSw; go_simp⟩) hH ?_
        simp only [Act.put, gA, gB, gC, gD, gE, gG]
        refine wpAnyH_take (i := 8) (oi := _) (v := .agg #[.bool pe, .int .i64 pl, .int .i64 ph]) rfl (by kernel_rfl) (by kernel_rfl) (by kernel_rfl) (fun _ _ _ h => h) (Or.inl ⟨by rfl, fun w' hSw => by obtain ⟨za0, za1, za2, zb0, zb1, zb2⟩ := hSw; go_simp⟩) hH ?_
        simp only [Act.put, gA, gB, gC, gD, gE, gG]
        refine wpAnyH_take (i := 9) (oi := _) (v := .agg #[.bool qe, .int .i64 ql, .int .i64 qh]) rfl (by kernel_rfl) (by kernel_rfl) (by kernel_rfl) (fun _ _ _ h => h) (Or.inl ⟨by rfl, fun w' hSw => by obtain ⟨za0, za1, za2, zb0, zb1, zb2⟩ := hSw; go_simp⟩) hH ?_
        simp only [Act.put, gA, gB, gC, gD, gE, gG]
        refine wpAnyH_ready (rs := [10]) (by kernel_rfl) (by simp) (AllReadyH.cons (o := _) rfl (fun K hK => ?_) AllReadyH.nil)
        go_simp
        have zzY48 := cc.size
        have ne0_1 : Y2.heap.size ≠ Y48.heap.size := Nat.ne_of_lt (on_lti qb)
        replace qb := on_oldi qb (Obj.cells #[.bool false, .int .i64 0, .int .i64 0] 139 (0, 0))
        have qa := World.alloc_heap_new Y48 (Obj.cells #[.bool false, .int .i64 0, .int .i64 0] 139 (0, 0))
        replace cc := sp_new cc (Obj.cells #[.bool false, .int .i64 0, .int .i64 0] 139 (0, 0))
        generalize hY : Y48.alloc (Obj.cells #[.bool false, .int .i64 0, .int .i64 0] 139 (0, 0)) = Y49 at *
        clear hY
        refine hK.out _ _ (hall _ cc) (fun hH => ?_)
        clear hK K
        try simp only [Act.put, gA, gB, gC, gD, gE, gG]
        refine wpAnyH_ready (rs := [12]) (by kernel_rfl) (by simp) (AllReadyH.cons (o := _) rfl (fun K hK => ?_) AllReadyH.nil)
        obtain ⟨q0, q1, q2, qf⟩ := on_cells3i qa
        go_simp
        clear q0 q1 q2 qf
        replace qb := on_far3i (b := Y48.heap.size) qb (.bool pe) (.int .i64 pl) (.int .i64 ph) (by first | assumption | exact Ne.symm (by assumption))
        replace qa := on_set3i qa (.bool pe) (.int .i64 pl) (.int .i64 ph)
        replace cc := sp_set3 (b := Y48.heap.size) cc zzY48 (.bool pe) (.int .i64 pl) (.int .i64 ph)
        generalize hY : (((Y49.setCell ⟨Y48.heap.size, 0, none⟩ (.bool pe)).setCell ⟨Y48.heap.size, 1, none⟩ (.int .i64 pl)).setCell ⟨Y48.heap.size, 2, none⟩ (.int .i64 ph)) = Y50 at *
        clear hY
        refine hK.out _ _ (hall _ cc) (fun hH => ?_)
        clear hK K
        try simp only [Act.put, gA, gB, gC, gD, gE, gG]
        refine wpAnyH_ready (rs := [13]) (by kernel_rfl) (by simp) (AllReadyH.cons (o := _) rfl (fun K hK => ?_) AllReadyH.nil)
        obtain ⟨q0, q1, q2, qf⟩ := on_cells3i qb
        go_simp
        clear q0 q1 q2 qf
        replace qa := on_far3i (b := Y2.heap.size) qa (.bool qe) (.int .i64 ql) (.int .i64 qh) (by first | assumption | exact Ne.symm (by assumption))
        replace qb := on_set3i qb (.bool qe) (.int .i64 ql) (.int .i64 qh)
        replace cc := sp_set3 (b := Y2.heap.size) cc zzY2 (.bool qe) (.int .i64 ql) (.int .i64 qh)
        generalize hY : (((Y50.setCell ⟨Y2.heap.size, 0, none⟩ (.bool qe)).setCell ⟨Y2.heap.size, 1, none⟩ (.int .i64 ql)).setCell ⟨Y2.heap.size, 2, none⟩ (.int .i64 qh)) = Y51 at *
        clear hY
        refine hK.out _ _ (hall _ cc) (fun hH => ?_)
        clear hK K
        try simp only [Act.put, gA, gB, gC, gD, gE, gG]
        refine wpAnyH_done (by kernel_rfl) ?_ _
        go_wp2_with fail
        go_meet
        exact ⟨_, _, _, rfl, rfl, rfl, qa, qb, zzY48, zzY2, cc⟩
       ·skip
        go_simp
        have zzY47 := cc.size
        have ne0_1 : Y2.heap.size ≠ Y47.heap.size := Nat.ne_of_lt (on_lti qb)
        replace qb := on_oldi qb (Obj.cells #[.bool false, .int .i64 0, .int .i64 0] 139 (0, 0))
        have qa := World.alloc_heap_new Y47 (Obj.cells #[.bool false, .int .i64 0, .int .i64 0] 139 (0, 0))
        replace cc := sp_new cc (Obj.cells #[.bool false, .int .i64 0, .int .i64 0] 139 (0, 0))
        generalize hY : Y47.alloc (Obj.cells #[.bool false, .int .i64 0, .int .i64 0] 139 (0, 0)) = Y52 at *
        clear hY
        refine hK.out _ _ (hall _ cc) (fun hH => ?_)
        clear hK K
        try simp only [Act.put, gA, gB, gC, gD, gE, gG]
        refine wpAnyH_ready (rs := [6]) (by kernel_rfl) (by simp) (AllReadyH.cons (o := _) rfl (fun K hK => ?_) AllReadyH.nil)
        go_simp
        refine (h _).mono ?_
        rintro e Y53 ⟨rfl, g⟩
        replace cc := sp_call cc g
        replace qa := on_carryi g qa
        replace qb := on_carryi g qb
        clear g
        go_wp2_with fail
        refine hK.out _ _ (hall _ cc) (fun hH => ?_)
        clear hK K
        try simp only [Act.put, gA, gB, gC, gD, gE, gG]
        refine wpAnyH_take (i := 7) (oi := _) (v := .tuple #[.agg #[.bool pe, .int .i64 pl, .int .i64 ph], .agg #[.bool qe, .int .i64 ql, .int .i64 qh]]) rfl (by kernel_rfl) (by kernel_rfl) (by kernel_rfl) (fun _ _ _ h => h) (Or.inl ⟨by rfl, fun w' hSw => by obtain ⟨za0, za1, za2, zb0, zb1, zb2⟩ := hSw; go_simp⟩) hH ?_
        simp only [Act.put, gA, gB, gC, gD, gE, gG]
        refine wpAnyH_take (i := 8) (oi := _) (v := .agg #[.bool pe, .int .i64 pl, .int .i64 ph]) rfl (by kernel_rfl) (by kernel_rfl) (by kernel_rfl) (fun _ _ _ h => h) (Or.inl ⟨by rfl, fun w' hSw => by obtain ⟨za0, za1, za2, zb0, zb1, zb2⟩ := hSw; go_simp⟩) hH ?_
        simp only [Act.put, gA, gB, gC, gD, gE, gG]
        refine wpAnyH_take (i := 9) (oi := _) (v := .agg #[.bool qe, .int .i64 ql, .int .i64 qh]) rfl (by kernel_rfl) (by kernel_rfl) (by kernel_rfl) (fun _ _ _ h => h) (Or.inl ⟨by rfl, fun w' hSw => by obtain ⟨za0, za1, za2, zb0, zb1, zb2⟩ := hSw; go_simp⟩) hH ?_
        simp only [Act.put, gA, gB, gC, gD, gE, gG]
        refine wpAnyH_ready (rs := [12]) (by kernel_rfl) (by simp) (AllReadyH.cons (o := _) rfl (fun K hK => ?_) AllReadyH.nil)
        obtain ⟨q0, q1, q2, qf⟩ := on_cells3i qa
        go_simp
        clear q0 q1 q2 qf
        replace qb := on_far3i (b := Y47.heap.size) qb (.bool pe) (.int .i64 pl) (.int .i64 ph) (by first | assumption | exact Ne.symm (by assumption))
        replace qa := on_set3i qa (.bool pe) (.int .i64 pl) (.int .i64 ph)
        replace cc := sp_set3 (b := Y47.heap.size) cc zzY47 (.bool pe) (.int .i64 pl) (.int .i64 ph)
        generalize hY : (((Y53.setCell ⟨Y47.heap.size, 0, none⟩ (.bool pe)).setCell ⟨Y47.heap.size, 1, none⟩ (.int .i64 pl)).setCell ⟨Y47.heap.size, 2, none⟩ (.int .i64 ph)) = Y54 at *
        clear hY
        refine hK.out _ _ (hall _ cc) (fun hH => ?_)
        clear hK K
        try simp only [Act.put, gA, gB, gC, gD, gE, gG]
        refine wpAnyH_ready (rs := [13]) (by kernel_rfl) (by simp) (AllReadyH.cons (o := _) rfl (fun K hK => ?_) AllReadyH.nil)
        obtain ⟨q0, q1, q2, qf⟩ := on_cells3i qb
        go_simp
        clear q0 q1 q2 qf
        replace qa := on_far3i (b := Y2.heap.size) qa (.bool qe) (.int .i64 ql) (.int .i64 qh) (by first | assumption | exact Ne.symm (by assumption))
        replace qb := on_set3i qb (.bool qe) (.int .i64 ql) (.int .i64 qh)
        replace cc := sp_set3 (b := Y2.heap.size) cc zzY2 (.bool qe) (.int .i64 ql) (.int .i64 qh)
        generalize hY : (((Y54.setCell ⟨Y2.heap.size, 0, none⟩ (.bool qe)).setCell ⟨Y2.heap.size, 1, none⟩ (.int .i64 ql)).setCell ⟨Y2.heap.size, 2, none⟩ (.int .i64 qh)) = Y55 at *
        clear hY
        refine hK.out _ _ (hall _ cc) (fun hH => ?_)
        clear hK K
        try simp only [Act.put, gA, gB, gC, gD, gE, gG]
        refine wpAnyH_done (by kernel_rfl) ?_ _
        go_wp2_with fail
        go_meet
        exact ⟨_, _, _, rfl, rfl, rfl, qa, qb, zzY47, zzY2, cc⟩
      ·skip
       go_simp
       have zzY46 := cc.size
       have ne0_1 : Y2.heap.size ≠ Y46.heap.size := Nat.ne_of_lt (on_lti qb)
       replace qb := on_oldi qb (Obj.cells #[.bool false, .int .i64 0, .int .i64 0] 139 (0, 0))
       have qa := World.alloc_heap_new Y46 (Obj.cells #[.bool false, .int .i64 0, .int .i64 0] 139 (0, 0))
       replace cc := sp_new cc (Obj.cells #[.bool false, .int .i64 0, .int .i64 0] 139 (0, 0))
       generalize hY : Y46.alloc (Obj.cells #[.bool false, .int .i64 0, .int .i64 0] 139 (0, 0)) = Y56 at *
       clear hY
       refine hK.out _ _ (hall _ cc) (fun hH => ?_)
       clear hK K
       try simp only [Act.put, gA, gB, gC, gD, gE, gG]
       refine wpAnyH_ready (rs := [5]) (by kernel_rfl) (by simp) (AllReadyH.cons (o := _) rfl (fun K hK => ?_) AllReadyH.nil)
       go_simp
       refine (ho _ _ _ _).mono ?_
       rintro e Y57 ⟨rfl, g⟩
       replace cc := sp_call cc g
       replace qa := on_carryi g qa
       replace qb := on_carryi g qb
       clear g
       go_wp2_with fail
       refine hK.out _ _ (hall _ cc) (fun hH => ?_)
       clear hK K
       try simp only [Act.put, gA, gB, gC, gD, gE, gG]
       refine wpAnyH_ready (rs := [6]) (by kernel_rfl) (by simp) (AllReadyH.cons (o := _) rfl (fun K hK => ?_) AllReadyH.nil)
       go_simp
       refine (h _).mono ?_
       rintro e Y58 ⟨rfl, g⟩
       replace cc := sp_call cc g
       replace qa := on_carryi g qa
       replace qb := on_carryi g qb
       clear g
       go_wp2_with fail
       refine hK.out _ _ (hall _ cc) (fun hH => ?_)
       clear hK K
       try simp only [Act.put, gA, gB, gC, gD, gE, gG]
       refine wpAnyH_take (i := 7) (oi := _) (v := .tuple #[.agg #[.bool pe, .int .i64 pl, .int .i64 ph], .agg #[.bool qe, .int .i64 ql, .int .i64 qh]]) rfl (by kernel_rfl) (by kernel_rfl) (by kernel_rfl) (fun _ _ _ h => h) (Or.inl ⟨by rfl, fun w' hSw => by obtain ⟨za0, za1, za2, zb0, zb1, zb2⟩ := hSw; go_simp⟩) hH ?_
       simp only [Act.put, gA, gB, gC, gD, gE, gG]
       refine wpAnyH_take (i := 8) (oi := _) (v := .agg #[.bool pe, .int .i64 pl, .int .i64 ph]) rfl (by kernel_rfl) (by kernel_rfl) (by kernel_rfl) (fun _ _ _ h => h) (Or.inl ⟨by rfl, fun w' hSw => by obtain ⟨za0, za1, za2, zb0, zb1, zb2⟩ := hSw; go_simp⟩) hH ?_
       simp only [Act.put, gA, gB, gC, gD, gE, gG]
       refine wpAnyH_take (i := 9) (oi := _) (v := .agg #[.bool qe, .int .i64 ql, .int .i64 qh]) rfl (by kernel_rfl) (by kernel_rfl) (by kernel_rfl) (fun _ _ _ h => h) (Or.inl ⟨by rfl, fun w' hSw => by obtain ⟨za0, za1, za2, zb0, zb1, zb2⟩ := hSw; go_simp⟩) hH ?_
       simp only [Act.put, gA, gB, gC, gD, gE, gG]
       refine wpAnyH_ready (rs := [12]) (by kernel_rfl) (by simp) (AllReadyH.cons (o := _) rfl (fun K hK => ?_) AllReadyH.nil)
       obtain ⟨q0, q1, q2, qf⟩ := on_cells3i qa
       go_simp
       clear q0 q1 q2 qf
       replace qb := on_far3i (b := Y46.heap.size) qb (.bool pe) (.int .i64 pl) (.int .i64 ph) (by first | assumption | exact Ne.symm (by assumption))
       replace qa := on_set3i qa (.bool pe) (.int .i64 pl) (.int .i64 ph)
       replace cc := sp_set3 (b := Y46.heap.size) cc zzY46 (.bool pe) (.int .i64 pl) (.int .i64 ph)
       generalize hY : (((Y58.setCell ⟨Y46.heap.size, 0, none⟩ (.bool pe)).setCell ⟨Y46.heap.size, 1, none⟩ (.int .i64 pl)).setCell ⟨Y46.heap.size, 2, none⟩ (.int .i64 ph)) = Y59 at *
       clear hY
       refine hK.out _ _ (hall _ cc) (fun hH => ?_)
       clear hK K
       try simp only [Act.put, gA, gB, gC, gD, gE, gG]
       refine wpAnyH_ready (rs := [13]) (by kernel_rfl) (by simp) (AllReadyH.cons (o := _) rfl (fun K hK => ?_) AllReadyH.nil)
       obtain ⟨q0, q1, q2, qf⟩ := on_cells3i qb
       go_simp
       clear q0 q1 q2 qf
       replace qa := on_far3i (b := Y2.heap.size) qa (.bool qe) (.int .i64 ql) (.int .i64 qh) (by first | assumption | exact Ne.symm (by assumption))
       replace qb := on_set3i qb (.bool qe) (.int .i64 ql) (.int .i64 qh)
       replace cc := sp_set3 (b := Y2.heap.size) cc zzY2 (.bool qe) (.int .i64 ql) (.int .i64 qh)
       generalize hY : (((Y59.setCell ⟨Y2.heap.size, 0, none⟩ (.bool qe)).setCell ⟨Y2.heap.size, 1, none⟩ (.int .i64 ql)).setCell ⟨Y2.heap.size, 2, none⟩ (.int .i64 qh)) = Y60 at *
       clear hY
       refine hK.out _ _ (hall _ cc) (fun hH => ?_)
       clear hK K
       try simp only [Act.put, gA, gB, gC, gD, gE, gG]
       refine wpAnyH_done (by kernel_rfl) ?_ _
       go_wp2_with fail
       go_meet
       exact ⟨_, _, _, rfl, rfl, rfl, qa, qb, zzY46, zzY2, cc⟩
    ·skip
     go_simp
     have zzY1 := cc.size
     have qa := World.alloc_heap_new Y1 (Obj.cells #[.bool false, .int .i64 0, .int .i64 0] 139 (0, 0))
     replace cc := sp_new cc (Obj.cells #[.bool false, .int .i64 0, .int .i64 0] 139 (0, 0))
     generalize hY : Y1.alloc (Obj.cells #[.bool false, .int .i64 0, .int .i64 0] 139 (0, 0)) = Y61 at *
     clear hY
     refine hK.out _ _ (hall _ cc) (fun hH => ?_)
     clear hK K
     try simp only [Act.put, gA, gB, gC, gD, gE, gG]
     refine wpAnyH_ready (rs := [3, 11]) (by kernel_rfl) (by simp) (AllReadyH.cons (o := _) rfl (fun K hK => ?_) (AllReadyH.cons (o := _) rfl (fun K hK => ?_) AllReadyH.nil))
     ·skip
      go_simp
      refine (ho _ _ _ _).mono ?_
      rintro e Y62 ⟨rfl, g⟩
      replace cc := sp_call cc g
      replace qa := on_carryi g qa
      clear g
      go_wp2_with fail
      refine hK.out _ _ (hall _ cc) (fun hH => ?_)
      clear hK K
      try simp only [Act.put, gA, gB, gC, gD, gE, gG]
      refine wpAnyH_ready (rs := [5, 11]) (by kernel_rfl) (by simp) (AllReadyH.cons (o := _) rfl (fun K hK => ?_) (AllReadyH.cons (o := _) rfl (fun K hK => ?_) AllReadyH.nil))
      ·skip
       go_simp
       refine (ho _ _ _ _).mono ?_
       rintro e Y63 ⟨rfl, g⟩
       replace cc := sp_call cc g
       replace qa := on_carryi g qa
       clear g
       go_wp2_with fail
       refine hK.out _ _ (hall _ cc) (fun hH => ?_)
       clear hK K
       try simp only [Act.put, gA, gB, gC, gD, gE, gG]
       refine wpAnyH_ready (rs := [6, 11]) (by kernel_rfl) (by simp) (AllReadyH.cons (o := _) rfl (fun K hK => ?_) (AllReadyH.cons (o := _) rfl (fun K hK => ?_) AllReadyH.nil))
       ·skip
        go_simp
        refine (h _).mono ?_
        rintro e Y64 ⟨rfl, g⟩
        replace cc := sp_call cc g
        replace qa := on_carryi g qa
        clear g
        go_wp2_with fail
        refine hK.out _ _ (hall _ cc) (fun hH => ?_)
        clear hK K
        try simp only [Act.put, gA, gB, gC, gD, gE, gG]
        refine wpAnyH_take (i := 7) (oi := _) (v := .tuple #[.agg #[.bool pe, .int .i64 pl, .int .i64 ph], .agg #[.bool qe, .int .i64 ql, .int .i64 qh]]) rfl (by kernel_rfl) (by kernel_rfl) (by kernel_rfl) (fun _ _ _ h => h) (Or.inl ⟨by rfl, fun w' hSw => by obtain ⟨za0, za1, za2, zb0, zb1, zb2⟩ := hSw; go_simp⟩) hH ?_
        simp only [Act.put, gA, gB, gC, gD, gE, gG]
        refine wpAnyH_take (i := 8) (oi := _) (v := .agg #[.bool pe, .int .i64 pl, .int .i64 ph]) rfl (by kernel_rfl) (by kernel_rfl) (by kernel_rfl) (fun _ _ _ h => h) (Or.inl ⟨by rfl, fun w' hSw => by obtain ⟨za0, za1, za2, zb0, zb1, zb2⟩ := hSw; go_simp⟩) hH ?_
        simp only [Act.put, gA, gB, gC, gD, gE, gG]
        refine wpAnyH_take (i := 9) (oi := _) (v := .agg #[.bool qe, .int .i64 ql, .int .i64 qh]) rfl (by kernel_rfl) (by kernel_rfl) (by kernel_rfl) (fun _ _ _ h => h) (Or.inl ⟨by rfl, fun w' hSw => by obtain ⟨za0, za1, za2, zb0, zb1, zb2⟩ := hSw; go_simp⟩) hH ?_
        simp only [Act.put, gA, gB, gC, gD, gE, gG]
        refine wpAnyH_ready (rs := [11]) (by kernel_rfl) (by simp) (AllReadyH.cons (o := _) rfl (fun K hK => ?_) AllReadyH.nil)
        go_simp
        have zzY64 := cc.size
        have ne1_0 : Y1.heap.size ≠ Y64.heap.size := Nat.ne_of_lt (on_lti qa)
        replace qa := on_oldi qa (Obj.cells #[.bool false, .int .i64 0, .int .i64 0] 139 (0, 0))
        have qb := World.alloc_heap_new Y64 (Obj.cells #[.bool false, .int .i64 0, .int .i64 0] 139 (0, 0))
        replace cc := sp_new cc (Obj.cells #[.bool false, .int .i64 0, .int .i64 0] 139 (0, 0))
        generalize hY : Y64.alloc (Obj.cells #[.bool false, .int .i64 0, .int .i64 0] 139 (0, 0)) = Y65 at *
        clear hY
        refine hK.out _ _ (hall _ cc) (fun hH => ?_)
        clear hK K
        try simp only [Act.put, gA, gB, gC, gD, gE, gG]
        refine wpAnyH_ready (rs := [12]) (by kernel_rfl) (by simp) (AllReadyH.cons (o := _) rfl (fun K hK => ?_) AllReadyH.nil)
        obtain ⟨q0, q1, q2, qf⟩ := on_cells3i qa
        go_simp
        clear q0 q1 q2 qf
        replace qb := on_far3i (b := Y1.heap.size) qb (.bool pe) (.int .i64 pl) (.int .i64 ph) (by first | assumption | exact Ne.symm (by assumption))
        replace qa := on_set3i qa (.bool pe) (.int .i64 pl) (.int .i64 ph)
        replace cc := sp_set3 (b := Y1.heap.size) cc zzY1 (.bool pe) (.int .i64 pl) (.int .i64 ph)
        generalize hY : (((Y65.setCell ⟨Y1.heap.size, 0, none⟩ (.bool pe)).setCell ⟨Y1.heap.size, 1, none⟩ (.int .i64 pl)).setCell ⟨Y1.heap.size, 2, none⟩ (.int .i64 ph)) = Y66 at *
        clear hY
        refine hK.out _ _ (hall _ cc) (fun hH => ?_)
        clear hK K
        try simp only [Act.put, gA, gB, gC, gD, gE, gG]
        refine wpAnyH_ready (rs := [13]) (by kernel_rfl) (by simp) (AllReadyH.cons (o := _) rfl (fun K hK => ?_) AllReadyH.nil)
        obtain ⟨q0, q1, q2, qf⟩ := on_cells3i qb
        go_simp
        clear q0 q1 q2 qf
        replace qa := on_far3i (b := Y64.heap.size) qa (.bool qe) (.int .i64 ql) (.int .i64 qh) (by first | assumption | exact Ne.symm (by assumption))
        replace qb := on_set3i qb (.bool qe) (.int .i64 ql) (.int .i64 qh)
        replace cc := sp_set3 (b := Y64.heap.size) cc zzY64 (.bool qe) (.int .i64 ql) (.int .i64 qh)
        generalize hY : (((Y66.setCell ⟨Y64.heap.size, 0, none⟩ (.bool qe)).setCell ⟨Y64.heap.size, 1, none⟩ (.int .i64 ql)).setCell ⟨Y64.heap.size, 2, none⟩ (.int .i64 qh)) = Y67 at *
        clear hY
        refine hK.out _ _ (hall _ cc) (fun hH => ?_)
        clear hK K
        try simp only [Act.put, gA, gB, gC, gD, gE, gG]
        refine wpAnyH_done (by kernel_rfl) ?_ _
        go_wp2_with fail
        go_meet
        exact ⟨_, _, _, rfl, rfl, rfl, qa, qb, zzY1, zzY64, cc⟩
       ·skip
        go_simp
        have zzY63 := cc.size
        have ne1_0 : Y1.heap.size ≠ Y63.heap.size := Nat.ne_of_lt (on_lti qa)
        replace qa := on_oldi qa (Obj.cells #[.bool false, .int .i64 0, .int .i64 0] 139 (0, 0))
        have qb := World.alloc_heap_new Y63 (Obj.cells #[.bool false, .int .i64 0, .int .i64 0] 139 (0, 0))
        replace cc := sp_new cc (Obj.cells #[.bool false, .int .i64 0, .int .i64 0] 139 (0, 0))
        generalize hY : Y63.alloc (Obj.cells #[.bool false, .int .i64 0, .int .i64 0] 139 (0, 0)) = Y68 at *
        clear hY
        refine hK.out _ _ (hall _ cc) (fun hH => ?_)
        clear hK K
        try simp only [Act.put, gA, gB, gC, gD, gE, gG]
        refine wpAnyH_ready (rs := [6]) (by kernel_rfl) (by simp) (AllReadyH.cons (o := _) rfl (fun K hK => ?_) AllReadyH.nil)
        go_simp
        refine (h _).mono ?_
        rintro e Y69 ⟨rfl, g⟩
        replace cc := sp_call cc g
        replace qa := on_carryi g qa
        replace qb := on_carryi g qb
        clear g
        go_wp2_with fail
        refine hK.out _ _ (hall _ cc) (fun hH => ?_)
        clear hK K
        try simp only [Act.put, gA, gB, gC, gD, gE, gG]
        refine wpAnyH_take (i := 7) (oi := _) (v := .tuple #[.agg #[.bool pe, .int .i64 pl, .int .i64 ph], .agg #[.bool qe, .int .i64 ql, .int .i64 qh]]) rfl (by kernel_rfl) (by kernel_rfl) (by kernel_rfl) (fun _ _ _ h => h) (Or.inl ⟨by rfl, fun w' hSw => by obtain ⟨za0, za1, za2, zb0, zb1, zb2⟩ := hSw; go_simp⟩) hH ?_
        simp only [Act.put, gA, gB, gC, gD, gE, gG]
        refine wpAnyH_take (i := 8) (oi := _) (v := .agg #[.bool pe, .int .i64 pl, .int .i64 ph]) rfl (by kernel_rfl) (by kernel_rfl) (by kernel_rfl) (fun _ _ _ h => h) (Or.inl ⟨by rfl, fun w' hSw => by obtain ⟨za0, za1, za2, zb0, zb1, zb2⟩ := hSw; go_simp⟩) hH ?_
        simp only [Act.put, gA, gB, gC, gD, gE, gG]
        refine wpAnyH_take (i := 9) (oi := _) (v := .agg #[.bool qe, .int .i64 ql, .int .i64 qh]) rfl (by kernel_rfl) (by kernel_rfl) (by kernel_rfl) (fun _ _ _ h => h) (Or.inl ⟨by rfl, fun w' hSw => by obtain ⟨za0, za1, za2, zb0, zb1, zb2⟩ := hSw; go_simp⟩) hH ?_
        simp only [Act.put, gA, gB, gC, gD, gE, gG]
        refine wpAnyH_ready (rs := [12]) (by kernel_rfl) (by simp) (AllReadyH.cons (o := _) rfl (fun K hK => ?_) AllReadyH.nil)
        obtain ⟨q0, q1, q2, qf⟩ := on_cells3i qa
        go_simp
        clear q0 q1 q2 qf
        replace qb := on_far3i (b := Y1.heap.size) qb (.bool pe) (.int .i64 pl) (.int .i64 ph) (by first | assumption | exact Ne.symm (by assumption))
        replace qa := on_set3i qa (.bool pe) (.int .i64 pl) (.int .i64 ph)
        replace cc := sp_set3 (b := Y1.heap.size) cc zzY1 (.bool pe) (.int .i64 pl) (.int .i64 ph)
        generalize hY : (((Y69.setCell ⟨Y1.heap.size, 0, none⟩ (.bool pe)).setCell ⟨Y1.heap.size, 1, none⟩ (.int .i64 pl)).setCell ⟨Y1.heap.size, 2, none⟩ (.int .i64 ph)) = Y70 at *
        clear hY
        refine hK.out _ _ (hall _ cc) (fun hH => ?_)
        clear hK K
        try simp only [Act.put, gA, gB, gC, gD, gE, gG]
        refine wpAnyH_ready (rs := [13]) (by kernel_rfl) (by simp) (AllReadyH.cons (o := _) rfl (fun K hK => ?_) AllReadyH.nil)
        obtain ⟨q0, q1, q2, qf⟩ := on_cells3i qb
        go_simp
        clear q0 q1 q2 qf
        replace qa := on_far3i (b := Y63.heap.size) qa (.bool qe) (.int .i64 ql) (.int .i64 qh) (by first | assumption | exact Ne.symm (by assumption))
        replace qb := on_set3i qb (.bool qe) (.int .i64 ql) (.int .i64 qh)
        replace cc := sp_set3 (b := Y63.heap.size) cc zzY63 (.bool qe) (.int .i64 ql) (.int .i64 qh)
        generalize hY : (((Y70.setCell ⟨Y63.heap.size, 0, none⟩ (.bool qe)).setCell ⟨Y63.heap.size, 1, none⟩ (.int .i64 ql)).setCell ⟨Y63.heap.size, 2, none⟩ (.int .i64 qh)) = Y71 at *
        clear hY
        refine hK.out _ _ (hall _ cc) (fun hH => ?_)
        clear hK K
        try simp only [Act.put, gA, gB, gC, gD, gE, gG]
        refine wpAnyH_done (by kernel_rfl) ?_ _
        go_wp2_with fail
        go_meet
        exact ⟨_, _, _, rfl, rfl, rfl, qa, qb, zzY1, zzY63, cc⟩
      ·skip
       go_simp
       have zzY62 := cc.size
       have ne1_0 : Y1.heap.size ≠ Y62.heap.size := Nat.ne_of_lt (on_lti qa)
       replace qa := on_oldi qa (Obj.cells #[.bool false, .int .i64 0, .int .i64 0] 139 (0, 0))
       have qb := World.alloc_heap_new Y62 (Obj.cells #[.bool false, .int .i64 0, .int .i64 0] 139 (0, 0))
       replace cc := sp_new cc (Obj.cells #[.bool false, .int .i64 0, .int .i64 0] 139 (0, 0))
       generalize hY : Y62.alloc (Obj.cells #[.bool false, .int .i64 0, .int .i64 0] 139 (0, 0)) = Y72 at *
       clear hY
       refine hK.out _ _ (hall _ cc) (fun hH => ?_)
       clear hK K
       try simp only [Act.put, gA, gB, gC, gD, gE, gG]
       refine wpAnyH_ready (rs := [5]) (by kernel_rfl) (by simp) (AllReadyH.cons (o := _) rfl (fun K hK => ?_) AllReadyH.nil)
       go_simp
       refine (ho _ _ _ _).mono ?_
       rintro e Y73 ⟨rfl, g⟩
       replace cc := sp_call cc g
       replace qa := on_carryi g qa
       replace qb := on_carryi g qb
       clear g
       go_wp2_with fail
       refine hK.out _ _ (hall _ cc) (fun hH => ?_)
       clear hK K
       try simp only [Act.put, gA, gB, gC, gD, gE, gG]
       refine wpAnyH_ready (rs := [6]) (by kernel_rfl) (by simp) (AllReadyH.cons (o := _) rfl (fun K hK => ?_) AllReadyH.nil)
       go_simp
       refine (h _).mono ?_
       rintro e Y74 ⟨rfl, g⟩
       replace cc := sp_call cc g
       replace qa := on_carryi g qa
       replace qb := on_carryi g qb
       clear g
       go_wp2_with fail
       refine hK.out _ _ (hall _ cc) (fun hH => ?_)
       clear hK K
       try simp only [Act.put, gA, gB, gC, gD, gE, gG]
       refine wpAnyH_take (i := 7) (oi := _) (v := .tuple #[.agg #[.bool pe, .int .i64 pl, .int .i64 ph], .agg #[.bool qe, .int .i64 ql, .int .i64 qh]]) rfl (by kernel_rfl) (by kernel_rfl) (by kernel_rfl) (fun _ _ _ h => h) (Or.inl ⟨by rfl, fun w' hSw => by obtain ⟨za0, za1, za2, zb0, zb1, zb2⟩ := hSw; go_simp⟩) hH ?_
       simp only [Act.put, gA, gB, gC, gD, gE, gG]
       refine wpAnyH_take (i := 8) (oi := _) (v := .agg #[.bool pe, .int .i64 pl, .int .i64 ph]) rfl (by kernel_rfl) (by kernel_rfl) (by kernel_rfl) (fun _ _ _ h => h) (Or.inl ⟨by rfl, fun w' hSw => by obtain ⟨za0, za1, za2, zb0, zb1, zb2⟩ := hSw; go_simp⟩) hH ?_
       simp only [Act.put, gA, gB, gC, gD, gE, gG]
       refine wpAnyH_take (i := 9) (oi := _) (v := .agg #[.bool qe, .int .i64 ql, .int .i64 qh]) rfl (by kernel_rfl) (by kernel_rfl) (by kernel_rfl) (fun _ _ _ h => h) (Or.inl ⟨by rfl, fun w' hSw => by obtain ⟨za0, za1, za2, zb0, zb1, zb2⟩ := hSw; go_simp⟩) hH ?_
       simp only [Act.put, gA, gB, gC, gD, gE, gG]
       refine wpAnyH_ready (rs := [12]) (by kernel_rfl) (by simp) (AllReadyH.cons (o := _) rfl (fun K hK => ?_) AllReadyH.nil)
       obtain ⟨q0, q1, q2, qf⟩ := on_cells3i qa
       go_simp
       clear q0 q1 q2 qf
       replace qb := on_far3i (b := Y1.heap.size) qb (.bool pe) (.int .i64 pl) (.int .i64 ph) (by first | assumption | exact Ne.symm (by assumption))
       replace qa := on_set3i qa (.bool pe) (.int .i64 pl) (.int .i64 ph)
       replace cc := sp_set3 (b := Y1.heap.size) cc zzY1 (.bool pe) (.int .i64 pl) (.int .i64 ph)
       generalize hY : (((Y74.setCell ⟨Y1.heap.size, 0, none⟩ (.bool pe)).setCell ⟨Y1.heap.size, 1, none⟩ (.int .i64 pl)).setCell ⟨Y1.heap.size, 2, none⟩ (.int .i64 ph)) = Y75 at *
       clear hY
       refine hK.out _ _ (hall _ cc) (fun hH => ?_)
       clear hK K
       try simp only [Act.put, gA, gB, gC, gD, gE, gG]
       refine wpAnyH_ready (rs := [13]) (by kernel_rfl) (by simp) (AllReadyH.cons (o := _) rfl (fun K hK => ?_) AllReadyH.nil)
       obtain ⟨q0, q1, q2, qf⟩ := on_cells3i qb
       go_simp
       clear q0 q1 q2 qf
       replace qa := on_far3i (b := Y62.heap.size) qa (.bool qe) (.int .i64 ql) (.int .i64 qh) (by first | assumption | exact Ne.symm (by assumption))
       replace qb := on_set3i qb (.bool qe) (.int .i64 ql) (.int .i64 qh)
       replace cc := sp_set3 (b := Y62.heap.size) cc zzY62 (.bool qe) (.int .i64 ql) (.int .i64 qh)
       generalize hY : (((Y75.setCell ⟨Y62.heap.size, 0, none⟩ (.bool qe)).setCell ⟨Y62.heap.size, 1, none⟩ (.int .i64 ql)).setCell ⟨Y62.heap.size, 2, none⟩ (.int .i64 qh)) = Y76 at *
       clear hY
       refine hK.out _ _ (hall _ cc) (fun hH => ?_)
       clear hK K
       try simp only [Act.put, gA, gB, gC, gD, gE, gG]
       refine wpAnyH_done (by kernel_rfl) ?_ _
       go_wp2_with fail
       go_meet
       exact ⟨_, _, _, rfl, rfl, rfl, qa, qb, zzY1, zzY62, cc⟩
     ·skip
      go_simp
      have zzY61 := cc.size
      have ne1_0 : Y1.heap.size ≠ Y61.heap.size := Nat.ne_of_lt (on_lti qa)
      replace qa := on_oldi qa (Obj.cells #[.bool false, .int .i64 0, .int .i64 0] 139 (0, 0))
      have qb := World.alloc_heap_new Y61 (Obj.cells #[.bool false, .int .i64 0, .int .i64 0] 139 (0, 0))
      replace cc := sp_new cc (Obj.cells #[.bool false, .int .i64 0, .int .i64 0] 139 (0, 0))
      generalize hY : Y61.alloc (Obj.cells #[.bool false, .int .i64 0, .int .i64 0] 139 (0, 0)) = Y77 at *
      clear hY
      refine hK.out _ _ (hall _ cc) (fun hH => ?_)
      clear hK K
      try simp only [Act.put, gA, gB, gC, gD, gE, gG]
      refine wpAnyH_ready (rs := [3]) (by kernel_rfl) (by simp) (AllReadyH.cons (o := _) rfl (fun K hK => ?_) AllReadyH.nil)
      go_simp
      refine (ho _ _ _ _).mono ?_
      rintro e Y78 ⟨rfl, g⟩
      replace cc := sp_call cc g
      replace qa := on_carryi g qa
      replace qb := on_carryi g qb
      clear g
      go_wp2_with fail
      refine hK.out _ _ (hall _ cc) (fun hH => ?_)
      clear hK K
      try simp only [Act.put, gA, gB, gC, gD, gE, gG]
      refine wpAnyH_ready (rs := [5]) (by kernel_rfl) (by simp) (AllReadyH.cons (o := _) rfl (fun K hK => ?_) AllReadyH.nil)
      go_simp
      refine (ho _ _ _ _).mono ?_
      rintro e Y79 ⟨rfl, g⟩
      replace cc := sp_call cc g
      replace qa := on_carryi g qa
      replace qb := on_carryi g qb
      clear g
      go_wp2_with fail
      refine hK.out _ _ (hall _ cc) (fun hH => ?_)
      clear hK K
      try simp only [Act.put, gA, gB, gC, gD, gE, gG]
      refine wpAnyH_ready (rs := [6]) (by kernel_rfl) (by simp) (AllReadyH.cons (o := _) rfl (fun K hK => ?_) AllReadyH.nil)
      go_simp
      refine (h _).mono ?_
      rintro e Y80 ⟨rfl, g⟩
      replace cc := sp_call cc g
      replace qa := on_carryi g qa
      replace qb := on_carryi g qb
      clear g
      go_wp2_with fail
      refine hK.out _ _ (hall _ cc) (fun hH => ?_)
      clear hK K
      try simp only [Act.put, gA, gB, gC, gD, gE, gG]
      refine wpAnyH_take (i := 7) (oi := _) (v := .tuple #[.agg #[.bool pe, .int .i64 pl, .int .i64 ph], .agg #[.bool qe, .int .i64 ql, .int .i64 qh]]) rfl (by kernel_rfl) (by kernel_rfl) (by kernel_rfl) (fun _ _ _ h => h) (Or.inl ⟨by rfl, fun w' hSw => by obtain ⟨za0, za1, za2, zb0, zb1, zb2⟩ := hSw; go_simp⟩) hH ?_
      simp only [Act.put, gA, gB, gC, gD, gE, gG]
      refine wpAnyH_take (i := 8) (oi := _) (v := .agg #[.bool pe, .int .i64 pl, .int .i64 ph]) rfl (by kernel_rfl) (by kernel_rfl) (by kernel_rfl) (fun _ _ _ h => h) (Or.inl ⟨by rfl, fun w' hSw => by obtain ⟨za0, za1, za2, zb0, zb1, zb2⟩ := hSw; go_simp⟩) hH ?_
      simp only [Act.put, gA, gB, gC, gD, gE, gG]
      refine wpAnyH_take (i := 9) (oi := _) (v := .agg #[.bool qe, .int .i64 ql, .int .i64 qh]) rfl (by kernel_rfl) (by kernel_rfl) (by kernel_rfl) (fun _ _ _ h => h) (Or.inl ⟨by rfl, fun w' hSw => by obtain ⟨za0, za1, za2, zb0, zb1, zb2⟩ := hSw; go_simp⟩) hH ?_
      simp only [Act.put, gA, gB, gC, gD, gE, gG]
      refine wpAnyH_ready (rs := [12]) (by kernel_rfl) (by simp) (AllReadyH.cons (o := _) rfl (fun K hK => ?_) AllReadyH.nil)
      obtain ⟨q0, q1, q2, qf⟩ := on_cells3i qa
      go_simp
      clear q0 q1 q2 qf
      replace qb := on_far3i (b := Y1.heap.size) qb (.bool pe) (.int .i64 pl) (.int .i64 ph) (by first | assumption | exact Ne.symm (by assumption))
      replace qa := on_set3i qa (.bool pe) (.int .i64 pl) (.int .i64 ph)
      replace cc := sp_set3 (b := Y1.heap.size) cc zzY1 (.bool pe) (.int .i64 pl) (.int .i64 ph)
      generalize hY : (((Y80.setCell ⟨Y1.heap.size, 0, none⟩ (.bool pe)).setCell ⟨Y1.heap.size, 1, none⟩ (.int .i64 pl)).setCell ⟨Y1.heap.size, 2, none⟩ (.int .i64 ph)) = Y81 at *
      clear hY
      refine hK.out _ _ (hall _ cc) (fun hH => ?_)
      clear hK K
      try simp only [Act.put, gA, gB, gC, gD, gE, gG]
      refine wpAnyH_ready (rs := [13]) (by kernel_rfl) (by simp) (AllReadyH.cons (o := _) rfl (fun K hK => ?_) AllReadyH.nil)
      obtain ⟨q0, q1, q2, qf⟩ := on_cells3i qb
      go_simp
      clear q0 q1 q2 qf
      replace qa := on_far3i (b := Y61.heap.size) qa (.bool qe) (.int .i64 ql) (.int .i64 qh) (by first | assumption | exact Ne.symm (by assumption))
      replace qb := on_set3i qb (.bool qe) (.int .i64 ql) (.int .i64 qh)
      replace cc := sp_set3 (b := Y61.heap.size) cc zzY61 (.bool qe) (.int .i64 ql) (.int .i64 qh)
      generalize hY : (((Y81.setCell ⟨Y61.heap.size, 0, none⟩ (.bool qe)).setCell ⟨Y61.heap.size, 1, none⟩ (.int .i64 ql)).setCell ⟨Y61.heap.size, 2, none⟩ (.int .i64 qh)) = Y82 at *
      clear hY
      refine hK.out _ _ (hall _ cc) (fun hH => ?_)
      clear hK K
      try simp only [Act.put, gA, gB, gC, gD, gE, gG]
      refine wpAnyH_done (by kernel_rfl) ?_ _
      go_wp2_with fail
      go_meet
      exact ⟨_, _, _, rfl, rfl, rfl, qa, qb, zzY1, zzY61, cc⟩
    ·skip
     go_simp
     have zzY1 := cc.size
     have qb := World.alloc_heap_new Y1 (Obj.cells #[.bool false, .int .i64 0, .int .i64 0] 139 (0, 0))
     replace cc := sp_new cc (Obj.cells #[.bool false, .int .i64 0, .int .i64 0] 139 (0, 0))
     generalize hY : Y1.alloc (Obj.cells #[.bool false, .int .i64 0, .int .i64 0] 139 (0, 0)) = Y83 at *
     clear hY
     refine hK.out _ _ (hall _ cc) (fun hH => ?_)
     clear hK K
     try simp only [Act.put, gA, gB, gC, gD, gE, gG]
     refine wpAnyH_ready (rs := [3, 10]) (by kernel_rfl) (by simp) (AllReadyH.cons (o := _) rfl (fun K hK => ?_) (AllReadyH.cons (o := _) rfl (fun K hK => ?_) AllReadyH.nil))
     ·skip
      go_simp
      refine (ho _ _ _ _).mono ?_
      rintro e Y84 ⟨rfl, g⟩
      replace cc := sp_call cc g
      replace qb := on_carryi g qb
      clear g
      go_wp2_with fail
      refine hK.out _ _ (hall _ cc) (fun hH => ?_)
      clear hK K
      try simp only [Act.put, gA, gB, gC, gD, gE, gG]
      refine wpAnyH_ready (rs := [5, 10]) (by kernel_rfl) (by simp) (AllReadyH.cons (o := _) rfl (fun K hK => ?_) (AllReadyH.cons (o := _) rfl (fun K hK => ?_) AllReadyH.nil))
      ·skip
       go_simp
       refine (ho _ _ _ _).mono ?_
       rintro e Y85 ⟨rfl, g⟩
       replace cc := sp_call cc g
       replace qb := on_carryi g qb
       clear g
       go_wp2_with fail
       refine hK.out _ _ (hall _ cc) (fun hH => ?_)
       clear hK K
       try simp only [Act.put, gA, gB, gC, gD, gE, gG]
       refine wpAnyH_ready (rs := [6, 10]) (by kernel_rfl) (by simp) (AllReadyH.cons (o := _) rfl (fun K hK => ?_) (AllReadyH.cons (o := _) rfl (fun K hK => ?_) AllReadyH.nil))
       ·skip
        go_simp
        refine (h _).mono ?_
        rintro e Y86 ⟨rfl, g⟩
        replace cc := sp_call cc g
        replace qb := on_carryi g qb
        clear g
        go_wp2_with fail
        refine hK.out _ _ (hall _ cc) (fun hH => ?_)
        clear hK K
        try simp only [Act.put, gA, gB, gC, gD, gE, gG]
        refine wpAnyH_take (i := 7) (oi := _) (v := .tuple #[.agg #[.bool pe, .int .i64 pl, .int .i64 ph], .agg #[.bool qe, .int .i64 ql, .int .i64 qh]]) rfl (by kernel_rfl) (by kernel_rfl) (by kernel_rfl) (fun _ _ _ h => h) (Or.inl ⟨by rfl, fun w' hSw => by obtain ⟨za0, za1, za2, zb0, zb1, zb2⟩ := hSw; go_simp⟩) hH ?_
        simp only [Act.put, gA, gB, gC, gD, gE, gG]
        refine wpAnyH_take (i := 8) (oi := _) (v := .agg #[.bool pe, .int .i64 pl, .int .i64 ph]) rfl (by kernel_rfl) (by kernel_rfl) (by kernel_rfl) (fun _ _ _ h => h) (Or.inl ⟨by rfl, fun w' hSw => by obtain ⟨za0, za1, za2, zb0, zb1, zb2⟩ := hSw; go_simp⟩) hH ?_
        simp only [Act.put, gA, gB, gC, gD, gE, gG]
        refine wpAnyH_take (i := 9) (oi := _) (v := .agg #[.bool qe, .int .i64 ql, .int .i64 qh]) rfl (by kernel_rfl) (by kernel_rfl) (by kernel_rfl) (fun _ _ _ h => h) (Or.inl ⟨by rfl, fun w' hSw => by obtain ⟨za0, za1, za2, zb0, zb1, zb2⟩ := hSw; go_simp⟩) hH ?_
        simp only [Act.put, gA, gB, gC, gD, gE, gG]
        refine wpAnyH_ready (rs := [10]) (by kernel_rfl) (by simp) (AllReadyH.cons (o := _) rfl (fun K hK => ?_) AllReadyH.nil)
        go_simp
        have zzY86 := cc.size
        have ne0_1 : Y1.heap.size ≠ Y86.heap.size := Nat.ne_of_lt (on_lti qb)
        replace qb := on_oldi qb (Obj.cells #[.bool false, .int .i64 0, .int .i64 0] 139 (0, 0))
        have qa := World.alloc_heap_new Y86 (Obj.cells #[.bool false, .int .i64 0, .int .i64 0] 139 (0, 0))
        replace cc := sp_new cc (Obj.cells #[.bool false, .int .i64 0, .int .i64 0] 139 (0, 0))
        generalize hY : Y86.alloc (Obj.cells #[.bool false, .int .i64 0, .int .i64 0] 139 (0, 0)) = Y87 at *
        clear hY
        refine hK.out _ _ (hall _ cc) (fun hH => ?_)
        clear hK K
        try simp only [Act.put, gA, gB, gC, gD, gE, gG]
        refine wpAnyH_ready (rs := [12]) (by kernel_rfl) (by simp) (AllReadyH.cons (o := _) rfl (fun K hK => ?_) AllReadyH.nil)
        obtain ⟨q0, q1, q2, qf⟩ := on_cells3i qa
        go_simp
        clear q0 q1 q2 qf
        replace qb := on_far3i (b := Y86.heap.size) qb (.bool pe) (.int .i64 pl) (.int .i64 ph) (by first | assumption | exact Ne.symm (by assumption))
        replace qa := on_set3i qa (.bool pe) (.int .i64 pl) (.int .i64 ph)
        replace cc := sp_set3 (b := Y86.heap.size) cc zzY86 (.bool pe) (.int .i64 pl) (.int .i64 ph)
        generalize hY : (((Y87.setCell ⟨Y86.heap.size, 0, none⟩ (.bool pe)).setCell ⟨Y86.heap.size, 1, none⟩ (.int .i64 pl)).setCell ⟨Y86.heap.size, 2, none⟩ (.int .i64 ph)) = Y88 at *
        clear hY
        refine hK.out _ _ (hall _ cc) (fun hH => ?_)
        clear hK K
        try simp only [Act.put, gA, gB, gC, gD, gE, gG]
        refine wpAnyH_ready (rs := [13]) (by kernel_rfl) (by simp) (AllReadyH.cons (o := _) rfl (fun K hK => ?_) AllReadyH.nil)
        obtain ⟨q0, q1, q2, qf⟩ := on_cells3i qb
        go_simp
        clear q0 q1 q2 qf
        replace qa := on_far3i (b := Y1.heap.size) qa (.bool qe) (.int .i64 ql) (.int .i64 qh) (by first | assumption | exact Ne.symm (by assumption))
        replace qb := on_set3i qb (.bool qe) (.int .i64 ql) (.int .i64 qh)
        replace cc := sp_set3 (b := Y1.heap.size) cc zzY1 (.bool qe) (.int .i64 ql) (.int .i64 qh)
        generalize hY : (((Y88.setCell ⟨Y1.heap.size, 0, none⟩ (.bool qe)).setCell ⟨Y1.heap.size, 1, none⟩ (.int .i64 ql)).setCell ⟨Y1.heap.size, 2, none⟩ (.int .i64 qh)) = Y89 at *
        clear hY
        refine hK.out _ _ (hall _ cc) (fun hH => ?_)
        clear hK K
        try simp only [Act.put, gA, gB, gC, gD, gE, gG]
        refine wpAnyH_done (by kernel_rfl) ?_ _
        go_wp2_with fail
        go_meet
        exact ⟨_, _, _, rfl, rfl, rfl, qa, qb, zzY86, zzY1, cc⟩
       ·skip
        go_simp
        have zzY85 := cc.size
        have ne0_1 : Y1.heap.size ≠ Y85.heap.size := Nat.ne_of_lt (on_lti qb)
        replace qb := on_oldi qb (Obj.cells #[.bool false, .int .i64 0, .int .i64 0] 139 (0, 0))
        have qa := World.alloc_heap_new Y85 (Obj.cells #[.bool false, .int .i64 0, .int .i64 0] 139 (0, 0))
        replace cc := sp_new cc (Obj.cells #[.bool false, .int .i64 0, .int .i64 0] 139 (0, 0))
        generalize hY : Y85.alloc (Obj.cells #[.bool false, .int .i64 0, .int .i64 0] 139 (0, 0)) = Y90 at *
        clear hY
        refine hK.out _ _ (hall _ cc) (fun hH => ?_)
        clear hK K
        try simp only [Act.put, gA, gB, gC, gD, gE, gG]
        refine wpAnyH_ready (rs := [6]) (by kernel_rfl) (by simp) (AllReadyH.cons (o := _) rfl (fun K hK => ?_) AllReadyH.nil)
        go_simp
        refine (h _).mono ?_
        rintro e Y91 ⟨rfl, g⟩
        replace cc := sp_call cc g
        replace qa := on_carryi g qa
        replace qb := on_carryi g qb
        clear g
        go_wp2_with fail
        refine hK.out _ _ (hall _ cc) (fun hH => ?_)
        clear hK K
        try simp only [Act.put, gA, gB, gC, gD, gE, gG]
        refine wpAnyH_take (i := 7) (oi := _) (v := .tuple #[.agg #[.bool pe, .int .i64 pl, .int .i64 ph], .agg #[.bool qe, .int .i64 ql, .int .i64 qh]]) rfl (by kernel_rfl) (by kernel_rfl) (by kernel_rfl) (fun _ _ _ h => h) (Or.inl ⟨by rfl, fun w' hSw => by obtain ⟨za0, za1, za2, zb0, zb1, zb2⟩ := hSw; go_simp⟩) hH ?_
        simp only [Act.put, gA, gB, gC, gD, gE, gG]
        refine wpAnyH_take (i := 8) (oi := _) (v := .agg #[.bool pe, .int .i64 pl, .int .i64 ph]) rfl (by kernel_rfl) (by kernel_rfl) (by kernel_rfl) (fun _ _ _ h => h) (Or.inl ⟨by rfl, fun w' hSw => by obtain ⟨za0, za1, za2, zb0, zb1, zb2⟩ := hSw; go_simp⟩) hH ?_
        simp only [Act.put, gA, gB, gC, gD, gE, gG]
        refine wpAnyH_take (i := 9) (oi := _) (v := .agg #[.bool qe, .int .i64 ql, .int .i64 qh]) rfl (by kernel_rfl) (by kernel_rfl) (by kernel_rfl) (fun _ _ _ h => h) (Or.inl ⟨by rfl, fun w' hSw => by obtain ⟨za0, za1, za2, zb0, zb1, zb2⟩ := hSw; go_simp⟩) hH ?_
        simp only [Act.put, gA, gB, gC, gD, gE, gG]
        refine wpAnyH_ready (rs := [12]) (by kernel_rfl) (by simp) (AllReadyH.cons (o := _) rfl (fun K hK => ?_) AllReadyH.nil)
        obtain ⟨q0, q1, q2, qf⟩ := on_cells3i qa
        go_simp
        clear q0 q1 q2 qf
        replace qb := on_far3i (b := Y85.heap.size) qb (.bool pe) (.int .i64 pl) (.int .i64 ph) (by first | assumption | exact Ne.symm (by assumption))
        replace qa := on_set3i qa (.bool pe) (.int .i64 pl) (.int .i64 ph)
        replace cc := sp_set3 (b := Y85.heap.size) cc zzY85 (.bool pe) (.int .i64 pl) (.int .i64 ph)
        generalize hY : (((Y91.setCell ⟨Y85.heap.size, 0, none⟩ (.bool pe)).setCell ⟨Y85.heap.size, 1, none⟩ (.int .i64 pl)).setCell ⟨Y85.heap.size, 2, none⟩ (.int .i64 ph)) = Y92 at *
        clear hY
        refine hK.out _ _ (hall _ cc) (fun hH => ?_)
        clear hK K
        try simp only [Act.put, gA, gB, gC, gD, gE, gG]
        refine wpAnyH_ready (rs := [13]) (by kernel_rfl) (by simp) (AllReadyH.cons (o := _) rfl (fun K hK => ?_) AllReadyH.nil)
        obtain ⟨q0, q1, q2, qf⟩ := on_cells3i qb
        go_simp
        clear q0 q1 q2 qf
        replace qa := on_far3i (b := Y1.heap.size) qa (.bool qe) (.int .i64 ql) (.int .i64 qh) (by first | assumption | exact Ne.symm (by assumption))
        replace qb := on_set3i qb (.bool qe) (.int .i64 ql) (.int .i64 qh)
        replace cc := sp_set3 (b := Y1.heap.size) cc zzY1 (.bool qe) (.int .i64 ql) (.int .i64 qh)
        generalize hY : (((Y92.setCell ⟨Y1.heap.size, 0, none⟩ (.bool qe)).setCell ⟨Y1.heap.size, 1, none⟩ (.int .i64 ql)).setCell ⟨Y1.heap.size, 2, none⟩ (.int .i64 qh)) = Y93 at *
        clear hY
        refine hK.out _ _ (hall _ cc) (fun hH => ?_)
        clear hK K
        try simp only [Act.put, gA, gB, gC, gD, gE, gG]
        refine wpAnyH_done (by kernel_rfl) ?_ _
        go_wp2_with fail
        go_meet
        exact ⟨_, _, _, rfl, rfl, rfl, qa, qb, zzY85, zzY1, cc⟩
      ·skip
       go_simp
       have zzY84 := cc.size
       have ne0_1 : Y1.heap.size ≠ Y84.heap.size := Nat.ne_of_lt (on_lti qb)
       replace qb := on_oldi qb (Obj.cells #[.bool false, .int .i64 0, .int .i64 0] 139 (0, 0))
       have qa := World.alloc_heap_new Y84 (Obj.cells #[.bool false, .int .i64 0, .int .i64 0] 139 (0, 0))
       replace cc := sp_new cc (Obj.cells #[.bool false, .int .i64 0, .int .i64 0] 139 (0, 0))
       generalize hY : Y84.alloc (Obj.cells #[.bool false, .int .i64 0, .int .i64 0] 139 (0, 0)) = Y94 at *
       clear hY
       refine hK.out _ _ (hall _ cc) (fun hH => ?_)
       clear hK K
       try simp only [Act.put, gA, gB, gC, gD, gE, gG]
       refine wpAnyH_ready (rs := [5]) (by kernel_rfl) (by simp) (AllReadyH.cons (o := _) rfl (fun K hK => ?_) AllReadyH.nil)
       go_simp
       refine (ho _ _ _ _).mono ?_
       rintro e Y95 ⟨rfl, g⟩
       replace cc := sp_call cc g
       replace qa := on_carryi g qa
       replace qb := on_carryi g qb
       clear g
       go_wp2_with fail
       refine hK.out _ _ (hall _ cc) (fun hH => ?_)
       clear hK K
       try simp only [Act.put, gA, gB, gC, gD, gE, gG]
       refine wpAnyH_ready (rs := [6]) (by kernel_rfl) (by simp) (AllReadyH.cons (o := _) rfl (fun K hK => ?_) AllReadyH.nil)
       go_simp
       refine (h _).mono ?_
       rintro e Y96 ⟨rfl, g⟩
       replace cc := sp_call cc g
       replace qa := on_carryi g qa
       replace qb := on_carryi g qb
       clear g
       go_wp2_with fail
       refine hK.out _ _ (hall _ cc) (fun hH => ?_)
       clear hK K
       try simp only [Act.put, gA, gB, gC, gD, gE, gG]
       refine wpAnyH_take (i := 7) (oi := _) (v := .tuple #[.agg #[.bool pe, .int .i64 pl, .int .i64 ph], .agg #[.bool qe, .int .i64 ql, .int .i64 qh]]) rfl (by kernel_rfl) (by kernel_rfl) (by kernel_rfl) (fun _ _ _ h => h) (Or.inl ⟨by rfl, fun w' hSw => by obtain ⟨za0, za1, za2, zb0, zb1, zb2⟩ := hSw; go_simp⟩) hH ?_
       simp only [Act.put, gA, gB, gC, gD, gE, gG]
       refine wpAnyH_take (i := 8) (oi := _) (v := .agg #[.bool pe, .int .i64 pl, .int .i64 ph]) rfl (by kernel_rfl) (by kernel_rfl) (by kernel_rfl) (fun _ _ _ h => h) (Or.inl ⟨by rfl, fun w' hSw => by obtain ⟨za0, za1, za2, zb0, zb1, zb2⟩ := hSw; go_simp⟩) hH ?_
       simp only [Act.put, gA, gB, gC, gD, gE, gG]
       refine wpAnyH_take (i := 9) (oi := _) (v := .agg #[.bool qe, .int .i64 ql, .int .i64 qh]) rfl (by kernel_rfl) (by kernel_rfl) (by kernel_rfl) (fun _ _ _ h => h) (Or.inl ⟨by rfl, fun w' hSw => by obtain ⟨za0, za1, za2, zb0, zb1, zb2⟩ := hSw; go_simp⟩) hH ?_
       simp only [Act.put, gA, gB, gC, gD, gE, gG]
       refine wpAnyH_ready (rs := [12]) (by kernel_rfl) (by simp) (AllReadyH.cons (o := _) rfl (fun K hK => ?_) AllReadyH.nil)
       obtain ⟨q0, q1, q2, qf⟩ := on_cells3i qa
       go_simp
       clear q0 q1 q2 qf
       replace qb := on_far3i (b := Y84.heap.size) qb (.bool pe) (.int .i64 pl) (.int .i64 ph) (by first | assumption | exact Ne.symm (by assumption))
       replace qa := on_set3i qa (.bool pe) (.int .i64 pl) (.int .i64 ph)
       replace cc := sp_set3 (b := Y84.heap.size) cc zzY84 (.bool pe) (.int .i64 pl) (.int .i64 ph)
       generalize hY : (((Y96.setCell ⟨Y84.heap.size, 0, none⟩ (.bool pe)).setCell ⟨Y84.heap.size, 1, none⟩ (.int .i64 pl)).setCell ⟨Y84.heap.size, 2, none⟩ (.int .i64 ph)) = Y97 at *
       clear hY
       refine hK.out _ _ (hall _ cc) (fun hH => ?_)
       clear hK K
       try simp only [Act.put, gA, gB, gC, gD, gE, gG]
       refine wpAnyH_ready (rs := [13]) (by kernel_rfl) (by simp) (AllReadyH.cons (o := _) rfl (fun K hK => ?_) AllReadyH.nil)
       obtain ⟨q0, q1, q2, qf⟩ := on_cells3i qb
       go_simp
       clear q0 q1 q2 qf
       replace qa := on_far3i (b := Y1.heap.size) qa (.bool qe) (.int .i64 ql) (.int .i64 qh) (by first | assumption | exact Ne.symm (by assumption))
       replace qb := on_set3i qb (.bool qe) (.int .i64 ql) (.int .i64 qh)
       replace cc := sp_set3 (b := Y1.heap.size) cc zzY1 (.bool qe) (.int .i64 ql) (.int .i64 qh)
       generalize hY : (((Y97.setCell ⟨Y1.heap.size, 0, none⟩ (.bool qe)).setCell ⟨Y1.heap.size, 1, none⟩ (.int .i64 ql)).setCell ⟨Y1.heap.size, 2, none⟩ (.int .i64 qh)) = Y98 at *
       clear hY
       refine hK.out _ _ (hall _ cc) (fun hH => ?_)
       clear hK K
       try simp only [Act.put, gA, gB, gC, gD, gE, gG]
       refine wpAnyH_done (by kernel_rfl) ?_ _
       go_wp2_with fail
       go_meet
       exact ⟨_, _, _, rfl, rfl, rfl, qa, qb, zzY84, zzY1, cc⟩
     ·skip
      go_simp
      have zzY83 := cc.size
      have ne0_1 : Y1.heap.size ≠ Y83.heap.size := Nat.ne_of_lt (on_lti qb)
      replace qb := on_oldi qb (Obj.cells #[.bool false, .int .i64 0, .int .i64 0] 139 (0, 0))
      have qa := World.alloc_heap_new Y83 (Obj.cells #[.bool false, .int .i64 0, .int .i64 0] 139 (0, 0))
      replace cc := sp_new cc (Obj.cells #[.bool false, .int .i64 0, .int .i64 0] 139 (0, 0))
      generalize hY : Y83.alloc (Obj.cells #[.bool false, .int .i64 0, .int .i64 0] 139 (0, 0)) = Y99 at *
      clear hY
      refine hK.out _ _ (hall _ cc) (fun hH => ?_)
      clear hK K
      try simp only [Act.put, gA, gB, gC, gD, gE, gG]
      refine wpAnyH_ready (rs := [3]) (by kernel_rfl) (by simp) (AllReadyH.cons (o := _) rfl (fun K hK => ?_) AllReadyH.nil)
      go_simp
      refine (ho _ _ _ _).mono ?_
      rintro e Y100 ⟨rfl, g⟩
      replace cc := sp_call cc g
      replace qa := on_carryi g qa
      replace qb := on_carryi g qb
      clear g
      go_wp2_with fail
      refine hK.out _ _ (hall _ cc) (fun hH => ?_)
      clear hK K
      try simp only [Act.put, gA, gB, gC, gD, gE, gG]
      refine wpAnyH_ready (rs := [5]) (by kernel_rfl) (by simp) (AllReadyH.cons (o := _) rfl (fun K hK => ?_) AllReadyH.nil)
      go_simp
      refine (ho _ _ _ _).mono ?_
      rintro e Y101 ⟨rfl, g⟩
      replace cc := sp_call cc g
      replace qa := on_carryi g qa
      replace qb := on_carryi g qb
      clear g
      go_wp2_with fail
      refine hK.out _ _ (hall _ cc) (fun hH => ?_)
      clear hK K
      try simp only [Act.put, gA, gB, gC, gD, gE, gG]
      refine wpAnyH_ready (rs := [6]) (by kernel_rfl) (by simp) (AllReadyH.cons (o := _) rfl (fun K hK => ?_) AllReadyH.nil)
      go_simp
      refine (h _).mono ?_
      rintro e Y102 ⟨rfl, g⟩
      replace cc := sp_call cc g
      replace qa := on_carryi g qa
      replace qb := on_carryi g qb
      clear g
      go_wp2_with fail
      refine hK.out _ _ (hall _ cc) (fun hH => ?_)
      clear hK K
      try simp only [Act.put, gA, gB, gC, gD, gE, gG]
      refine wpAnyH_take (i := 7) (oi := _) (v := .tuple #[.agg #[.bool pe, .int .i64 pl, .int .i64 ph], .agg #[.bool qe, .int .i64 ql, .int .i64 qh]]) rfl (by kernel_rfl) (by kernel_rfl) (by kernel_rfl) (fun _ _ _ h => h) (Or.inl ⟨by rfl, fun w' hSw => by obtain ⟨za0, za1, za2, zb0, zb1, zb2⟩ := hSw; go_simp⟩) hH ?_
      simp only [Act.put, gA, gB, gC, gD, gE, gG]
      refine wpAnyH_take (i := 8) (oi := _) (v := .agg #[.bool pe, .int .i64 pl, .int .i64 ph]) rfl (by kernel_rfl) (by kernel_rfl) (by kernel_rfl) (fun _ _ _ h => h) (Or.inl ⟨by rfl, fun w' hSw => by obtain ⟨za0, za1, za2, zb0, zb1, zb2⟩ := hSw; go_simp⟩) hH ?_
      simp only [Act.put, gA, gB, gC, gD, gE, gG]
      refine wpAnyH_take (i := 9) (oi := _) (v := .agg #[.bool qe, .int .i64 ql, .int .i64 qh]) rfl (by kernel_rfl) (by kernel_rfl) (by kernel_rfl) (fun _ _ _ h => h) (Or.inl ⟨by rfl, fun w' hSw => by obtain ⟨za0, za1, za2, zb0, zb1, zb2⟩ := hSw; go_simp⟩) hH ?_
      simp only [Act.put, gA, gB, gC, gD, gE, gG]
      refine wpAnyH_ready (rs := [12]) (by kernel_rfl) (by simp) (AllReadyH.cons (o := _) rfl (fun K hK => ?_) AllReadyH.nil)
      obtain ⟨q0, q1, q2, qf⟩ := on_cells3i qa
      go_simp
      clear q0 q1 q2 qf
      replace qb := on_far3i (b := Y83.heap.size) qb (.bool pe) (.int .i64 pl) (.int .i64 ph) (by first | assumption | exact Ne.symm (by assumption))
      replace qa := on_set3i qa (.bool pe) (.int .i64 pl) (.int .i64 ph)
      replace cc := sp_set3 (b := Y83.heap.size) cc zzY83 (.bool pe) (.int .i64 pl) (.int .i64 ph)
      generalize hY : (((Y102.setCell ⟨Y83.heap.size, 0, none⟩ (.bool pe)).setCell ⟨Y83.heap.size, 1, none⟩ (.int .i64 pl)).setCell ⟨Y83.heap.size, 2, none⟩ (.int .i64 ph)) = Y103 at *
      clear hY
      refine hK.out _ _ (hall _ cc) (fun hH => ?_)
      clear hK K
      try simp only [Act.put, gA, gB, gC, gD, gE, gG]
      refine wpAnyH_ready (rs := [13]) (by kernel_rfl) (by simp) (AllReadyH.cons (o := _) rfl (fun K hK => ?_) AllReadyH.nil)
      obtain ⟨q0, q1, q2, qf⟩ := on_cells3i qb
      go_simp
      clear q0 q1 q2 qf
      replace qa := on_far3i (b := Y1.heap.size) qa (.bool qe) (.int .i64 ql) (.int .i64 qh) (by first | assumption | exact Ne.symm (by assumption))
      replace qb := on_set3i qb (.bool qe) (.int .i64 ql) (.int .i64 qh)
      replace cc := sp_set3 (b := Y1.heap.size) cc zzY1 (.bool qe) (.int .i64 ql) (.int .i64 qh)
      generalize hY : (((Y103.setCell ⟨Y1.heap.size, 0, none⟩ (.bool qe)).setCell ⟨Y1.heap.size, 1, none⟩ (.int .i64 ql)).setCell ⟨Y1.heap.size, 2, none⟩ (.int .i64 qh)) = Y104 at *
      clear hY
      refine hK.out _ _ (hall _ cc) (fun hH => ?_)
      clear hK K
      try simp only [Act.put, gA, gB, gC, gD, gE, gG]
      refine wpAnyH_done (by kernel_rfl) ?_ _
      go_wp2_with fail
      go_meet
      exact ⟨_, _, _, rfl, rfl, rfl, qa, qb, zzY83, zzY1, cc⟩
   ·skip
    go_simp
    have zzY0 := cc.size
    have qa := World.alloc_heap_new Y0 (Obj.cells #[.bool false, .int .i64 0, .int .i64 0] 139 (0, 0))
    replace cc := sp_new cc (Obj.cells #[.bool false, .int .i64 0, .int .i64 0] 139 (0, 0))
    generalize hY : Y0.alloc (Obj.cells #[.bool false, .int .i64 0, .int .i64 0] 139 (0, 0)) = Y105 at *
    clear hY
    refine hK.out _ _ (hall _ cc) (fun hH => ?_)
    clear hK K
    try simp only [Act.put, gA, gB, gC, gD, gE, gG]
    refine wpAnyH_ready (rs := [0, 11]) (by kernel_rfl) (by simp) (AllReadyH.cons (o := _) rfl (fun K hK => ?_) (AllReadyH.cons (o := _) rfl (fun K hK => ?_) AllReadyH.nil))
    ·skip
     go_simp
     refine (h1 _).mono ?_
     rintro e Y106 ⟨rfl, g⟩
     replace cc := sp_call cc g
     replace qa := on_carryi g qa
     clear g
     go_wp2_with fail
     refine hK.out _ _ (hall _ cc) (fun hH => ?_)
     clear hK K
     try simp only [Act.put, gA, gB, gC, gD, gE, gG]
     refine wpAnyH_ready (rs := [3, 11]) (by kernel_rfl) (by simp) (AllReadyH.cons (o := _) rfl (fun K hK => ?_) (AllReadyH.cons (o := _) rfl (fun K hK => ?_) AllReadyH.nil))
     ·skip
      go_simp
      refine (ho _ _ _ _).mono ?_
      rintro e Y107 ⟨rfl, g⟩
      replace cc := sp_call cc g
      replace qa := on_carryi g qa
      clear g
      go_wp2_with fail
      refine hK.out _ _ (hall _ cc) (fun hH => ?_)
      clear hK K
      try simp only [Act.put, gA, gB, gC, gD, gE, gG]
      refine wpAnyH_ready (rs := [5, 11]) (by kernel_rfl) (by simp) (AllReadyH.cons (o := _) rfl (fun K hK => ?_) (AllReadyH.cons (o := _) rfl (fun K hK => ?_) AllReadyH.nil))
      ·skip
       go_simp
       refine (ho _ _ _ _).mono ?_
       rintro e Y108 ⟨rfl, g⟩
       replace cc := sp_call cc g
       replace qa := on_carryi g qa
       clear g
       go_wp2_with fail
       refine hK.out _ _ (hall _ cc) (fun hH => ?_)
       clear hK K
       try simp only [Act.put, gA, gB, gC, gD, gE, gG]
       refine wpAnyH_ready (rs := [6, 11]) (by kernel_rfl) (by simp) (AllReadyH.cons (o := _) rfl (fun K hK => ?_) (AllReadyH.cons (o := _) rfl (fun K hK => ?_) AllReadyH.nil))
       ·skip
        go_simp
        refine (h _).mono ?_
        rintro e Y109 ⟨rfl, g⟩
        replace cc := sp_call cc g
        replace qa := on_carryi g qa
        clear g
        go_wp2_with fail
        refine hK.out _ _ (hall _ cc) (fun hH => ?_)
        clear hK K
        try simp only [Act.put, gA, gB, gC, gD, gE, gG]
        refine wpAnyH_take (i := 7) (oi := _) (v := .tuple #[.agg #[.bool pe, .int .i64 pl, .int .i64 ph], .agg #[.bool qe, .int .i64 ql, .int .i64 qh]]) rfl (by kernel_rfl) (by kernel_rfl) (by kernel_rfl) (fun _ _ _ h => h) (Or.inl ⟨by rfl, fun w' hSw => by obtain ⟨za0, za1, za2, zb0, zb1, zb2⟩ := hSw; go_simp⟩) hH ?_
        simp only [Act.put, gA, gB, gC, gD, gE, gG]
        refine wpAnyH_take (i := 8) (oi := _) (v := .agg #[.bool pe, .int .i64 pl, .int .i64 ph]) rfl (by kernel_rfl) (by kernel_rfl) (by kernel_rfl) (fun _ _ _ h => h) (Or.inl ⟨by rfl, fun w' hSw => by obtain ⟨za0, za1, za2, zb0, zb1, zb2⟩ := hSw; go_simp⟩) hH ?_
        simp only [Act.put, gA, gB, gC, gD, gE, gG]
        refine wpAnyH_take (i := 9) (oi := _) (v := .agg #[.bool qe, .int .i64 ql, .int .i64 qh]) rfl (by kernel_rfl) (by kernel_rfl) (by kernel_rfl) (fun _ _ _ h => h) (Or.inl ⟨by rfl, fun w' hSw => by obtain ⟨za0, za1, za2, zb0, zb1, zb2⟩ := hSw; go_simp⟩) hH ?_
        simp only [Act.put, gA, gB, gC, gD, gE, gG]
        refine wpAnyH_ready (rs := [11]) (by kernel_rfl) (by simp) (AllReadyH.cons (o := _) rfl (fun K hK => ?_) AllReadyH.nil)
        go_simp
        have zzY109 := cc.size
        have ne1_0 : Y0.heap.size ≠ Y109.heap.size := Nat.ne_of_lt (on_lti qa)
        replace qa := on_oldi qa (Obj.cells #[.bool false, .int .i64 0, .int .i64 0] 139 (0, 0))
        have qb := World.alloc_heap_new Y109 (Obj.cells #[.bool false, .int .i64 0, .int .i64 0] 139 (0, 0))
        replace cc := sp_new cc (Obj.cells #[.bool false, .int .i64 0, .int .i64 0] 139 (0, 0))
        generalize hY : Y109.alloc (Obj.cells #[.bool false, .int .i64 0, .int .i64 0] 139 (0, 0)) = Y110 at *
        clear hY
        refine hK.out _ _ (hall _ cc) (fun hH => ?_)
        clear hK K
        try simp only [Act.put, gA, gB, gC, gD, gE, gG]
        refine wpAnyH_ready (rs := [12]) (by kernel_rfl) (by simp) (AllReadyH.cons (o := _) rfl (fun K hK => ?_) AllReadyH.nil)
        obtain ⟨q0, q1, q2, qf⟩ := on_cells3i qa
        go_simp
        clear q0 q1 q2 qf
        replace qb := on_far3i (b := Y0.heap.size) qb (.bool pe) (.int .i64 pl) (.int .i64 ph) (by first | assumption | exact Ne.symm (by assumption))
        replace qa := on_set3i qa (.bool pe) (.int .i64 pl) (.int .i64 ph)
        replace cc := sp_set3 (b := Y0.heap.size) cc zzY0 (.bool pe) (.int .i64 pl) (.int .i64 ph)
        generalize hY : (((Y110.setCell ⟨Y0.heap.size, 0, none⟩ (.bool pe)).setCell ⟨Y0.heap.size, 1, none⟩ (.int .i64 pl)).setCell ⟨Y0.heap.size, 2, none⟩ (.int .i64 ph)) = Y111 at *
        clear hY
        refine hK.out _ _ (hall _ cc) (fun hH => ?_)
        clear hK K
        try simp only [Act.put, gA, gB, gC, gD, gE, gG]
        refine wpAnyH_ready (rs := [13]) (by kernel_rfl) (by simp) (AllReadyH.cons (o := _) rfl (fun K hK => ?_) AllReadyH.nil)
        obtain ⟨q0, q1, q2, qf⟩ := on_cells3i qb
        go_simp
        clear q0 q1 q2 qf
        replace qa := on_far3i (b := Y109.heap.size) qa (.bool qe) (.int .i64 ql) (.int .i64 qh) (by first | assumption | exact Ne.symm (by assumption))
        replace qb := on_set3i qb (.bool qe) (.int .i64 ql) (.int .i64 qh)
        replace cc := sp_set3 (b := Y109.heap.size) cc zzY109 (.bool qe) (.int .i64 ql) (.int .i64 qh)
        generalize hY : (((Y111.setCell ⟨Y109.heap.size, 0, none⟩ (.bool qe)).setCell ⟨Y109.heap.size, 1, none⟩ (.int .i64 ql)).setCell ⟨Y109.heap.size, 2, none⟩ (.int .i64 qh)) = Y112 at *
        clear hY
        refine hK.out _ _ (hall _ cc) (fun hH => ?_)
        clear hK K
        try simp only [Act.put, gA, gB, gC, gD, gE, gG]
        refine wpAnyH_done (by kernel_rfl) ?_ _
        go_wp2_with fail
        go_meet
        exact ⟨_, _, _, rfl, rfl, rfl, qa, qb, zzY0, zzY109, cc⟩
       ·skip
        go_simp
        have zzY108 := cc.size
        have ne1_0 : Y0.heap.size ≠ Y108.heap.size := Nat.ne_of_lt (on_lti qa)
        replace qa := on_oldi qa (Obj.cells #[.bool false, .int .i64 0, .int .i64 0] 139 (0, 0))
        have qb := World.alloc_heap_new Y108 (Obj.cells #[.bool false, .int .i64 0, .int .i64 0] 139 (0, 0))
        replace cc := sp_new cc (Obj.cells #[.bool false, .int .i64 0, .int .i64 0] 139 (0, 0))
        generalize hY : Y108.alloc (Obj.cells #[.bool false, .int .i64 0, .int .i64 0] 139 (0, 0)) = Y113 at *
        clear hY
        refine hK.out _ _ (hall _ cc) (fun hH => ?_)
        clear hK K
        try simp only [Act.put, gA, gB, gC, gD, gE, gG]
        refine wpAnyH_ready (rs := [6]) (by kernel_rfl) (by simp) (AllReadyH.cons (o := _) rfl (fun K hK => ?_) AllReadyH.nil)
        go_simp
        refine (h _).mono ?_
        rintro e Y114 ⟨rfl, g⟩
        replace cc := sp_call cc g
        replace qa := on_carryi g qa
        replace qb := on_carryi g qb
        clear g
        go_wp2_with fail
        refine hK.out _ _ (hall _ cc) (fun hH => ?_)
        clear hK K
        try simp only [Act.put, gA, gB, gC, gD, gE, gG]
        refine wpAnyH_take (i := 7) (oi := _) (v := .tuple #[.agg #[.bool pe, .int .i64 pl, .int .i64 ph], .agg #[.bool qe, .int .i64 ql, .int .i64 qh]]) rfl (by kernel_rfl) (by kernel_rfl) (by kernel_rfl) (fun _ _ _ h => h) (Or.inl ⟨by rfl, fun w' hSw => by obtain ⟨za0, za1, za2, zb0, zb1, zb2⟩ := hSw; go_simp⟩) hH ?_
        simp only [Act.put, gA, gB, gC, gD, gE, gG]
        refine wpAnyH_take (i := 8) (oi := _) (v := .agg #[.bool pe, .int .i64 pl, .int .i64 ph]) rfl (by kernel_rfl) (by kernel_rfl) (by kernel_rfl) (fun _ _ _ h => h) (Or.inl ⟨by rfl, fun w' hSw => by obtain ⟨za0, za1, za2, zb0, zb1, zb2⟩ := hSw; go_simp⟩) hH ?_
        simp only [Act.put, gA, gB, gC, gD, gE, gG]
        refine wpAnyH_take (i := 9) (oi := _) (v := .agg #[.bool qe, .int .i64 ql, .int .i64 qh]) rfl (by kernel_rfl) (by kernel_rfl) (by kernel_rfl) (fun _ _ _ h => h) (Or.inl ⟨by rfl, fun w' hSw => by obtain ⟨za0, za1, za2, zb0, zb1, zb2⟩ := hSw; go_simp⟩) hH ?_
        simp only [Act.put, gA, gB, gC, gD, gE, gG]
        refine wpAnyH_ready (rs := [12]) (by kernel_rfl) (by simp) (AllReadyH.cons (o := _) rfl (fun K hK => ?_) AllReadyH.nil)
        obtain ⟨q0, q1, q2, qf⟩ := on_cells3i qa
        go_simp
        clear q0 q1 q2 qf
        replace qb := on_far3i (b := Y0.heap.size) qb (.bool pe) (.int .i64 pl) (.int .i64 ph) (by first | assumption | exact Ne.symm (by assumption))
        replace qa := on_set3i qa (.bool pe) (.int .i64 pl) (.int .i64 ph)
        replace cc := sp_set3 (b := Y0.heap.size) cc zzY0 (.bool pe) (.int .i64 pl) (.int .i64 ph)
        generalize hY : (((Y114.setCell ⟨Y0.heap.size, 0, none⟩ (.bool pe)).setCell ⟨Y0.heap.size, 1, none⟩ (.int .i64 pl)).setCell ⟨Y0.heap.size, 2, none⟩ (.int .i64 ph)) = Y115 at *
        clear hY
        refine hK.out _ _ (hall _ cc) (fun hH => ?_)
        clear hK K
        try simp only [Act.put, gA, gB, gC, gD, gE, gG]
        refine wpAnyH_ready (rs := [13]) (by kernel_rfl) (by simp) (AllReadyH.cons (o := _) rfl (fun K hK => ?_) AllReadyH.nil)
        obtain ⟨q0, q1, q2, qf⟩ := on_cells3i qb
        go_simp
        clear q0 q1 q2 qf
        replace qa := on_far3i (b := Y108.heap.size) qa (.bool qe) (.int .i64 ql) (.int .i64 qh) (by first | assumption | exact Ne.symm (by assumption))
        replace qb := on_set3i qb (.bool qe) (.int .i64 ql) (.int .i64 qh)
        replace cc := sp_set3 (b := Y108.heap.size) cc zzY108 (.bool qe) (.int .i64 ql) (.int .i64 qh)
        generalize hY : (((Y115.setCell ⟨Y108.heap.size, 0, none⟩ (.bool qe)).setCell ⟨Y108.heap.size, 1, none⟩ (.int .i64 ql)).setCell ⟨Y108.heap.size, 2, none⟩ (.int .i64 qh)) = Y116 at *
        clear hY
        refine hK.out _ _ (hall _ cc) (fun hH => ?_)
        clear hK K
        try simp only [Act.put, gA, gB, gC, gD, gE, gG]
        refine wpAnyH_done (by kernel_rfl) ?_ _
        go_wp2_with fail
        go_meet
        exact ⟨_, _, _, rfl, rfl, rfl, qa, qb, zzY0, zzY108, cc⟩
      ·skip
       go_simp
       have zzY107 := cc.size
       have ne1_0 : Y0.heap.size ≠ Y107.heap.size := Nat.ne_of_lt (on_lti qa)
       replace qa := on_oldi qa (Obj.cells #[.bool false, .int .i64 0, .int .i64 0] 139 (0, 0))
       have qb := World.alloc_heap_new Y107 (Obj.cells #[.bool false, .int .i64 0, .int .i64 0] 139 (0, 0))
       replace cc := sp_new cc (Obj.cells #[.bool false, .int .i64 0, .int .i64 0] 139 (0, 0))
       generalize hY : Y107.alloc (Obj.cells #[.bool false, .int .i64 0, .int .i64 0] 139 (0, 0)) = Y117 at *
       clear hY
       refine hK.out _ _ (hall _ cc) (fun hH => ?_)
       clear hK K
       try simp only [Act.put, gA, gB, gC, gD, gE, gG]
       refine wpAnyH_ready (rs := [5]) (by kernel_rfl) (by simp) (AllReadyH.cons (o := _) rfl (fun K hK => ?_) AllReadyH.nil)
       go_simp
       refine (ho _ _ _ _).mono ?_
       rintro e Y118 ⟨rfl, g⟩
       replace cc := sp_call cc g
       replace qa := on_carryi g qa
       replace qb := on_carryi g qb
       clear g
       go_wp2_with fail
       refine hK.out _ _ (hall _ cc) (fun hH => ?_)
       clear hK K
       try simp only [Act.put, gA, gB, gC, gD, gE, gG]
       refine wpAnyH_ready (rs := [6]) (by kernel_rfl) (by simp) (AllReadyH.cons (o := _) rfl (fun K hK => ?_) AllReadyH.nil)
       go_simp
       refine (h _).mono ?_
       rintro e Y119 ⟨rfl, g⟩
       replace cc := sp_call cc g
       replace qa := on_carryi g qa
       replace qb := on_carryi g qb
       clear g
       go_wp2_with fail
       refine hK.out _ _ (hall _ cc) (fun hH => ?_)
       clear hK K
       try simp only [Act.put, gA, gB, gC, gD, gE, gG]
       refine wpAnyH_take (i := 7) (oi := _) (v := .tuple #[.agg #[.bool pe, .int .i64 pl, .int .i64 ph], .agg #[.bool qe, .int .i64 ql, .int .i64 qh]]) rfl (by kernel_rfl) (by kernel_rfl) (by kernel_rfl) (fun _ _ _ h => h) (Or.inl ⟨by rfl, fun w' hSw => by obtain ⟨za0, za1, za2, zb0, zb1, zb2⟩ := hSw; go_simp⟩) hH ?_
       simp only [Act.put, gA, gB, gC, gD, gE, gG]
       refine wpAnyH_take (i := 8) (oi := _) (v := .agg #[.bool pe, .int .i64 pl, .int .i64 ph]) rfl (by kernel_rfl) (by kernel_rfl) (by kernel_rfl) (fun _ _ _ h => h) (Or.inl ⟨by rfl, fun w' hSw => by obtain ⟨za0, za1, za2, zb0, zb1, zb2⟩ := hSw; go_simp⟩) hH ?_
       simp only [Act.put, gA, gB, gC, gD, gE, gG]
       refine wpAnyH_take (i := 9) (oi := _) (v := .agg #[.bool qe, .int .i64 ql, .int .i64 qh]) rfl (by kernel_rfl) (by kernel_rfl) (by kernel_rfl) (fun _ _ _ h => h) (Or.inl ⟨by rfl, fun w' hSw => by obtain ⟨za0, za1, za2, zb0, zb1, zb2⟩ := hSw; go_simp⟩) hH ?_
       simp only [Act.put, gA, gB, gC, gD, gE, gG]
       refine wpAnyH_ready (rs := [12]) (by kernel_rfl) (by simp) (AllReadyH.cons (o := _) rfl (fun K hK => ?_) AllReadyH.nil)
       obtain ⟨q0, q1, q2, qf⟩ := on_cells3i qa
       go_simp
       clear q0 q1 q2 qf
       replace qb := on_far3i (b := Y0.heap.size) qb (.bool pe) (.int .i64 pl) (.int .i64 ph) (by first | assumption | exact Ne.symm (by assumption))
       replace qa := on_set3i qa (.bool pe) (.int .i64 pl) (.int .i64 ph)
       replace cc := sp_set3 (b := Y0.heap.size) cc zzY0 (.bool pe) (.int .i64 pl) (.int .i64 ph)
       generalize hY : (((Y119.setCell ⟨Y0.heap.size, 0, none⟩ (.bool pe)).setCell ⟨Y0.heap.size, 1, none⟩ (.int .i64 pl)).setCell ⟨Y0.heap.size, 2, none⟩ (.int .i64 ph)) = Y120 at *
       clear hY
       refine hK.out _ _ (hall _ cc) (fun hH => ?_)
       clear hK K
       try simp only [Act.put, gA, gB, gC, gD, gE, gG]
       refine wpAnyH_ready (rs := [13]) (by kernel_rfl) (by simp) (AllReadyH.cons (o := _) rfl (fun K hK => ?_) AllReadyH.nil)
       obtain ⟨q0, q1, q2, qf⟩ := on_cells3i qb
       go_simp
       clear q0 q1 q2 qf
       replace qa := on_far3i (b := Y107.heap.size) qa (.bool qe) (.int .i64 ql) (.int .i64 qh) (by first | assumption | exact Ne.symm (by assumption))
       replace qb := on_set3i qb (.bool qe) (.int .i64 ql) (.int .i64 qh)
       replace cc := sp_set3 (b := Y107.heap.size) cc zzY107 (.bool qe) (.int .i64 ql) (.int .i64 qh)
       generalize hY : (((Y120.setCell ⟨Y107.heap.size, 0, none⟩ (.bool qe)).setCell ⟨Y107.heap.size, 1, none⟩ (.int .i64 ql)).setCell ⟨Y107.heap.size, 2, none⟩ (.int .i64 qh)) = Y121 at *
       clear hY
       refine hK.out _ _ (hall _ cc) (fun hH => ?_)
       clear hK K
       try simp only [Act.put, gA, gB, gC, gD, gE, gG]
       refine wpAnyH_done (by kernel_rfl) ?_ _
       go_wp2_with fail
       go_meet
       exact ⟨_, _, _, rfl, rfl, rfl, qa, qb, zzY0, zzY107, cc⟩
     ·skip
      go_simp
      have zzY106 := cc.size
      have ne1_0 : Y0.heap.size ≠ Y106.heap.size := Nat.ne_of_lt (on_lti qa)
      replace qa := on_oldi qa (Obj.cells #[.bool false, .int .i64 0, .int .i64 0] 139 (0, 0))
      have qb := World.alloc_heap_new Y106 (Obj.cells #[.bool false, .int .i64 0, .int .i64 0] 139 (0, 0))
      replace cc := sp_new cc (Obj.cells #[.bool false, .int .i64 0, .int .i64 0] 139 (0, 0))
      generalize hY : Y106.alloc (Obj.cells #[.bool false, .int .i64 0, .int .i64 0] 139 (0, 0)) = Y122 at *
      clear hY
      refine hK.out _ _ (hall _ cc) (fun hH => ?_)
      clear hK K
      try simp only [Act.put, gA, gB, gC, gD, gE, gG]
      refine wpAnyH_ready (rs := [3]) (by kernel_rfl) (by simp) (AllReadyH.cons (o := _) rfl (fun K hK => ?_) AllReadyH.nil)
      go_simp
      refine (ho _ _ _ _).mono ?_
      rintro e Y123 ⟨rfl, g⟩
      replace cc := sp_call cc g
      replace qa := on_carryi g qa
      replace qb := on_carryi g qb
      clear g
      go_wp2_with fail
      refine hK.out _ _ (hall _ cc) (fun hH => ?_)
      clear hK K
      try simp only [Act.put, gA, gB, gC, gD, gE, gG]
      refine wpAnyH_ready (rs := [5]) (by kernel_rfl) (by simp) (AllReadyH.cons (o := _) rfl (fun K hK => ?_) AllReadyH.nil)
      go_simp
      refine (ho _ _ _ _).mono ?_
      rintro e Y124 ⟨rfl, g⟩
      replace cc := sp_call cc g
      replace qa := on_carryi g qa
      replace qb := on_carryi g qb
      clear g
      go_wp2_with fail
      refine hK.out _ _ (hall _ cc) (fun hH => ?_)
      clear hK K
      try simp only [Act.put, gA, gB, gC, gD, gE, gG]
      refine wpAnyH_ready (rs := [6]) (by kernel_rfl) (by simp) (AllReadyH.cons (o := _) rfl (fun K hK => ?_) AllReadyH.nil)
      go_simp
      refine (h _).mono ?_
      rintro e Y125 ⟨rfl, g⟩
      replace cc := sp_call cc g
      replace qa := on_carryi g qa
      replace qb := on_carryi g qb
      clear g
      go_wp2_with fail
      refine hK.out _ _ (hall _ cc) (fun hH => ?_)
      clear hK K
      try simp only [Act.put, gA, gB, gC, gD, gE, gG]
      refine wpAnyH_take (i := 7) (oi := _) (v := .tuple #[.agg #[.bool pe, .int .i64 pl, .int .i64 ph], .agg #[.bool qe, .int .i64 ql, .int .i64 qh]]) rfl (by kernel_rfl) (by kernel_rfl) (by kernel_rfl) (fun _ _ _ h => h) (Or.inl ⟨by rfl, fun w' hSw => by obtain ⟨za0, za1, za2, zb0, zb1, zb2⟩ := hSw; go_simp⟩) hH ?_
      simp only [Act.put, gA, gB, gC, gD, gE, gG]
      refine wpAnyH_take (i := 8) (oi := _) (v := .agg #[.bool pe, .int .i64 pl, .int .i64 ph]) rfl (by kernel_rfl) (by kernel_rfl) (by kernel_rfl) (fun _ _ _ h => h) (Or.inl ⟨by rfl, fun w' hSw => by obtain ⟨za0, za1, za2, zb0, zb1, zb2⟩ := hSw; go_simp⟩) hH ?_
      simp only [Act.put, gA, gB, gC, gD, gE, gG]
      refine wpAnyH_take (i := 9) (oi := _) (v := .agg #[.bool qe, .int .i64 ql, .int .i64 qh]) rfl (by kernel_rfl) (by kernel_rfl) (by kernel_rfl) (fun _ _ _ h => h) (Or.inl ⟨by rfl, fun w' hSw => by obtain ⟨za0, za1, za2, zb0, zb1, zb2⟩ := hSw; go_simp⟩) hH ?_
      simp only [Act.put, gA, gB, gC, gD, gE, gG]
      refine wpAnyH_ready (rs := [12]) (by kernel_rfl) (by simp) (AllReadyH.cons (o := _) rfl (fun K hK => ?_) AllReadyH.nil)
      obtain ⟨q0, q1, q2, qf⟩ := on_cells3i qa
      go_simp
      clear q0 q1 q2 qf
      replace qb := on_far3i (b := Y0.heap.size) qb (.bool pe) (.int .i64 pl) (.int .i64 ph) (by first | assumption | exact Ne.symm (by assumption))
      replace qa := on_set3i qa (.bool pe) (.int .i64 pl) (.int .i64 ph)
      replace cc := sp_set3 (b := Y0.heap.size) cc zzY0 (.bool pe) (.int .i64 pl) (.int .i64 ph)
      generalize hY : (((Y125.setCell ⟨Y0.heap.size, 0, none⟩ (.bool pe)).setCell ⟨Y0.heap.size, 1, none⟩ (.int .i64 pl)).setCell ⟨Y0.heap.size, 2, none⟩ (.int .i64 ph)) = Y126 at *
      clear hY
      refine hK.out _ _ (hall _ cc) (fun hH => ?_)
      clear hK K
      try simp only [Act.put, gA, gB, gC, gD, gE, gG]
      refine wpAnyH_ready (rs := [13]) (by kernel_rfl) (by simp) (AllReadyH.cons (o := _) rfl (fun K hK => ?_) AllReadyH.nil)
      obtain ⟨q0, q1, q2, qf⟩ := on_cells3i qb
      go_simp
      clear q0 q1 q2 qf
      replace qa := on_far3i (b := Y106.heap.size) qa (.bool qe) (.int .i64 ql) (.int .i64 qh) (by first | assumption | exact Ne.symm (by assumption))
      replace qb := on_set3i qb (.bool qe) (.int .i64 ql) (.int .i64 qh)
      replace cc := sp_set3 (b := Y106.heap.size) cc zzY106 (.bool qe) (.int .i64 ql) (.int .i64 qh)
      generalize hY : (((Y126.setCell ⟨Y106.heap.size, 0, none⟩ (.bool qe)).setCell ⟨Y106.heap.size, 1, none⟩ (.int .i64 ql)).setCell ⟨Y106.heap.size, 2, none⟩ (.int .i64 qh)) = Y127 at *
      clear hY
      refine hK.out _ _ (hall _ cc) (fun hH => ?_)
      clear hK K
      try simp only [Act.put, gA, gB, gC, gD, gE, gG]
      refine wpAnyH_done (by kernel_rfl) ?_ _
      go_wp2_with fail
      go_meet
      exact ⟨_, _, _, rfl, rfl, rfl, qa, qb, zzY0, zzY106, cc⟩
    ·skip
     go_simp
     have zzY105 := cc.size
     have ne1_0 : Y0.heap.size ≠ Y105.heap.size := Nat.ne_of_lt (on_lti qa)
     replace qa := on_oldi qa (Obj.cells #[.bool false, .int .i64 0, .int .i64 0] 139 (0, 0))
     have qb := World.alloc_heap_new Y105 (Obj.cells #[.bool false, .int .i64 0, .int .i64 0] 139 (0, 0))
     replace cc := sp_new cc (Obj.cells #[.bool false, .int .i64 0, .int .i64 0] 139 (0, 0))
     generalize hY : Y105.alloc (Obj.cells #[.bool false, .int .i64 0, .int .i64 0] 139 (0, 0)) = Y128 at *
     clear hY
     refine hK.out _ _ (hall _ cc) (fun hH => ?_)
     clear hK K
     try simp only [Act.put, gA, gB, gC, gD, gE, gG]
     refine wpAnyH_ready (rs := [0]) (by kernel_rfl) (by simp) (AllReadyH.cons (o := _) rfl (fun K hK => ?_) AllReadyH.nil)
     go_simp
     refine (h1 _).mono ?_
     rintro e Y129 ⟨rfl, g⟩
     replace cc := sp_call cc g
     replace qa := on_carryi g qa
     replace qb := on_carryi g qb
     clear g
     go_wp2_with fail
     refine hK.out _ _ (hall _ cc) (fun hH => ?_)
     clear hK K
     try simp only [Act.put, gA, gB, gC, gD, gE, gG]
     refine wpAnyH_ready (rs := [3]) (by kernel_rfl) (by simp) (AllReadyH.cons (o := _) rfl (fun K hK => ?_) AllReadyH.nil)
     go_simp
     refine (ho _ _ _ _).mono ?_
     rintro e Y130 ⟨rfl, g⟩
     replace cc := sp_call cc g
     replace qa := on_carryi g qa
     replace qb := on_carryi g qb
     clear g
     go_wp2_with fail
     refine hK.out _ _ (hall _ cc) (fun hH => ?_)
     clear hK K
     try simp only [Act.put, gA, gB, gC, gD, gE, gG]
     refine wpAnyH_ready (rs := [5]) (by kernel_rfl) (by simp) (AllReadyH.cons (o := _) rfl (fun K hK => ?_) AllReadyH.nil)
     go_simp
     refine (ho _ _ _ _).mono ?_
     rintro e Y131 ⟨rfl, g⟩
     replace cc := sp_call cc g
     replace qa := on_carryi g qa
     replace qb := on_carryi g qb
     clear g
     go_wp2_with fail
     refine hK.out _ _ (hall _ cc) (fun hH => ?_)
     clear hK K
     try simp only [Act.put, gA, gB, gC, gD, gE, gG]
     refine wpAnyH_ready (rs := [6]) (by kernel_rfl) (by simp) (AllReadyH.cons (o := _) rfl (fun K hK => ?_) AllReadyH.nil)
     go_simp
     refine (h _).mono ?_
     rintro e Y132 ⟨rfl, g⟩
     replace cc := sp_call cc g
     replace qa := on_carryi g qa
     replace qb := on_carryi g qb
     clear g
     go_wp2_with fail
     refine hK.out _ _ (hall _ cc) (fun hH => ?_)
     clear hK K
     try simp only [Act.put, gA, gB, gC, gD, gE, gG]
     refine wpAnyH_take (i := 7) (oi := _) (v := .tuple #[.agg #[.bool pe, .int .i64 pl, .int .i64 ph], .agg #[.bool qe, .int .i64 ql, .int .i64 qh]]) rfl (by kernel_rfl) (by kernel_rfl) (by kernel_rfl) (fun _ _ _ h => h) (Or.inl ⟨by rfl, fun w' hSw => by obtain ⟨za0, za1, za2, zb0, zb1, zb2⟩ := hSw; go_simp⟩) hH ?_
     simp only [Act.put, gA, gB, gC, gD, gE, gG]
     refine wpAnyH_take (i := 8) (oi := _) (v := .agg #[.bool pe, .int .i64 pl, .int .i64 ph]) rfl (by kernel_rfl) (by kernel_rfl) (by kernel_rfl) (fun _ _ _ h => h) (Or.inl ⟨by rfl, fun w' hSw => by obtain ⟨za0, za1, za2, zb0, zb1, zb2⟩ := hSw; go_simp⟩) hH ?_
     simp only [Act.put, gA, gB, gC, gD, gE, gG]
     refine wpAnyH_take (i := 9) (oi := _) (v := .agg #[.bool qe, .int .i64 ql, .int .i64 qh]) rfl (by kernel_rfl) (by kernel_rfl) (by kernel_rfl) (fun _ _ _ h => h) (Or.inl ⟨by rfl, fun w' hSw => by obtain ⟨za0, za1, za2, zb0, zb1, zb2⟩ := hSw; go_simp⟩) hH ?_
     simp only [Act.put, gA, gB, gC, gD, gE, gG]
     refine wpAnyH_ready (rs := [12]) (by kernel_rfl) (by simp) (AllReadyH.cons (o := _) rfl (fun K hK => ?_) AllReadyH.nil)
     obtain ⟨q0, q1, q2, qf⟩ := on_cells3i qa
     go_simp
     clear q0 q1 q2 qf
     replace qb := on_far3i (b := Y0.heap.size) qb (.bool pe) (.int .i64 pl) (.int .i64 ph) (by first | assumption | exact Ne.symm (by assumption))
     replace qa := on_set3i qa (.bool pe) (.int .i64 pl) (.int .i64 ph)
     replace cc := sp_set3 (b := Y0.heap.size) cc zzY0 (.bool pe) (.int .i64 pl) (.int .i64 ph)
     generalize hY : (((Y132.setCell ⟨Y0.heap.size, 0, none⟩ (.bool pe)).setCell ⟨Y0.heap.size, 1, none⟩ (.int .i64 pl)).setCell ⟨Y0.heap.size, 2, none⟩ (.int .i64 ph)) = Y133 at *
     clear hY
     refine hK.out _ _ (hall _ cc) (fun hH => ?_)
     clear hK K
     try simp only [Act.put, gA, gB, gC, gD, gE, gG]
     refine wpAnyH_ready (rs := [13]) (by kernel_rfl) (by simp) (AllReadyH.cons (o := _) rfl (fun K hK => ?_) AllReadyH.nil)
     obtain ⟨q0, q1, q2, qf⟩ := on_cells3i qb
     go_simp
     clear q0 q1 q2 qf
     replace qa := on_far3i (b := Y105.heap.size) qa (.bool qe) (.int .i64 ql) (.int .i64 qh) (by first | assumption | exact Ne.symm (by assumption))
     replace qb := on_set3i qb (.bool qe) (.int .i64 ql) (.int .i64 qh)
     replace cc := sp_set3 (b := Y105.heap.size) cc zzY105 (.bool qe) (.int .i64 ql) (.int .i64 qh)
     generalize hY : (((Y133.setCell ⟨Y105.heap.size, 0, none⟩ (.bool qe)).setCell ⟨Y105.heap.size, 1, none⟩ (.int .i64 ql)).setCell ⟨Y105.heap.size, 2, none⟩ (.int .i64 qh)) = Y134 at *
     clear hY
     refine hK.out _ _ (hall _ cc) (fun hH => ?_)
     clear hK K
     try simp only [Act.put, gA, gB, gC, gD, gE, gG]
     refine wpAnyH_done (by kernel_rfl) ?_ _
     go_wp2_with fail
     go_meet
     exact ⟨_, _, _, rfl, rfl, rfl, qa, qb, zzY0, zzY105, cc⟩
   ·skip
    go_simp
    have zzY0 := cc.size
    have qb := World.alloc_heap_new Y0 (Obj.cells #[.bool false, .int .i64 0, .int .i64 0] 139 (0, 0))
    replace cc := sp_new cc (Obj.cells #[.bool false, .int .i64 0, .int .i64 0] 139 (0, 0))
    generalize hY : Y0.alloc (Obj.cells #[.bool false, .int .i64 0, .int .i64 0] 139 (0, 0)) = Y135 at *
    clear hY
    refine hK.out _ _ (hall _ cc) (fun hH => ?_)
    clear hK K
    try simp only [Act.put, gA, gB, gC, gD, gE, gG]
    refine wpAnyH_ready (rs := [0, 10]) (by kernel_rfl) (by simp) (AllReadyH.cons (o := _) rfl (fun K hK => ?_) (AllReadyH.cons (o := _) rfl (fun K hK => ?_) AllReadyH.nil))
    ·skip
     go_simp
     refine (h1 _).mono ?_
     rintro e Y136 ⟨rfl, g⟩
     replace cc := sp_call cc g
     replace qb := on_carryi g qb
     clear g
     go_wp2_with fail
     refine hK.out _ _ (hall _ cc) (fun hH => ?_)
     clear hK K
     try simp only [Act.put, gA, gB, gC, gD, gE, gG]
     refine wpAnyH_ready (rs := [3, 10]) (by kernel_rfl) (by simp) (AllReadyH.cons (o := _) rfl (fun K hK => ?_) (AllReadyH.cons (o := _) rfl (fun K hK => ?_) AllReadyH.nil))
     ·skip
      go_simp
      refine (ho _ _ _ _).mono ?_
      rintro e Y137 ⟨rfl, g⟩
      replace cc := sp_call cc g
      replace qb := on_carryi g qb
      clear g
      go_wp2_with fail
      refine hK.out _ _ (hall _ cc) (fun hH => ?_)
      clear hK K
      try simp only [Act.put, gA, gB, gC, gD, gE, gG]
      refine wpAnyH_ready (rs := [5, 10]) (by kernel_rfl) (by simp) (AllReadyH.cons (o := _) rfl (fun K hK => ?_) (AllReadyH.cons (o := _) rfl (fun K hK => ?_) AllReadyH.nil))
      ·skip
       go_simp
       refine (ho _ _ _ _).mono ?_
       rintro e Y138 ⟨rfl, g⟩
       replace cc := sp_call cc g
       replace qb := on_carryi g qb
       clear g
       go_wp2_with fail
       refine hK.out _ _ (hall _ cc) (fun hH => ?_)
       clear hK K
       try simp only [Act.put, gA, gB, gC, gD, gE, gG]
       refine wpAnyH_ready (rs := [6, 10]) (by kernel_rfl) (by simp) (AllReadyH.cons (o := _) rfl (fun K hK => ?_) (AllReadyH.cons (o := _) rfl (fun K hK => ?_) AllReadyH.nil))
       ·skip
        go_simp
        refine (h _).mono ?_
        rintro e Y139 ⟨rfl, g⟩
        replace cc := sp_call cc g
        replace qb := on_carryi g qb
        clear g
        go_wp2_with fail
        refine hK.out _ _ (hall _ cc) (fun hH => ?_)
        clear hK K
        try simp only [Act.put, gA, gB, gC, gD, gE, gG]
        refine wpAnyH_take (i := 7) (oi := _) (v := .tuple #[.agg #[.bool pe, .int .i64 pl, .int .i64 ph], .agg #[.bool qe, .int .i64 ql, .int .i64 qh]]) rfl (by kernel_rfl) (by kernel_rfl) (by kernel_rfl) (fun _ _ _ h => h) (Or.inl ⟨by rfl, fun w' hSw => by obtain ⟨za0, za1, za2, zb0, zb1, zb2⟩ := hSw; go_simp⟩) hH ?_
        simp only [Act.put, gA, gB, gC, gD, gE, gG]
        refine wpAnyH_take (i := 8) (oi := _) (v := .agg #[.bool pe, .int .i64 pl, .int .i64 ph]) rfl (by kernel_rfl) (by kernel_rfl) (by kernel_rfl) (fun _ _ _ h => h) (Or.inl ⟨by rfl, fun w' hSw => by obtain ⟨za0, za1, za2, zb0, zb1, zb2⟩ := hSw; go_simp⟩) hH ?_
        simp only [Act.put, gA, gB, gC, gD, gE, gG]
        refine wpAnyH_take (i := 9) (oi := _) (v := .agg #[.bool qe, .int .i64 ql, .int .i64 qh]) rfl (by kernel_rfl) (by kernel_rfl) (by kernel_rfl) (fun _ _ _ h => h) (Or.inl ⟨by rfl, fun w' hSw => by obtain ⟨za0, za1, za2, zb0, zb1, zb2⟩ := hSw; go_simp⟩) hH ?_
        simp only [Act.put, gA, gB, gC, gD, gE, gG]
        refine wpAnyH_ready (rs := [10]) (by kernel_rfl) (by simp) (AllReadyH.cons (o := _) rfl (fun K hK => ?_) AllReadyH.nil)
        go_simp
        have zzY139 := cc.size
        have ne0_1 : Y0.heap.size ≠ Y139.heap.size := Nat.ne_of_lt (on_lti qb)
        replace qb := on_oldi qb (Obj.cells #[.bool false, .int .i64 0, .int .i64 0] 139 (0, 0))
        have qa := World.alloc_heap_new Y139 (Obj.cells #[.bool false, .int .i64 0, .int .i64 0] 139 (0, 0))
        replace cc := sp_new cc (Obj.cells #[.bool false, .int .i64 0, .int .i64 0] 139 (0, 0))
        generalize hY : Y139.alloc (Obj.cells #[.bool false, .int .i64 0, .int .i64 0] 139 (0, 0)) = Y140 at *
        clear hY
        refine hK.out _ _ (hall _ cc) (fun hH => ?_)
        clear hK K
        try simp only [Act.put, gA, gB, gC, gD, gE, gG]
        refine wpAnyH_ready (rs := [12]) (by kernel_rfl) (by simp) (AllReadyH.cons (o := _) rfl (fun K hK => ?_) AllReadyH.nil)
        obtain ⟨q0, q1, q2, qf⟩ := on_cells3i qa
        go_simp
        clear q0 q1 q2 qf
        replace qb := on_far3i (b := Y139.heap.size) qb (.bool pe) (.int .i64 pl) (.int .i64 ph) (by first | assumption | exact Ne.symm (by assumption))
        replace qa := on_set3i qa (.bool pe) (.int .i64 pl) (.int .i64 ph)
        replace cc := sp_set3 (b := Y139.heap.size) cc zzY139 (.bool pe) (.int .i64 pl) (.int .i64 ph)
        generalize hY : (((Y140.setCell ⟨Y139.heap.size, 0, none⟩ (.bool pe)).setCell ⟨Y139.heap.size, 1, none⟩ (.int .i64 pl)).setCell ⟨Y139.heap.size, 2, none⟩ (.int .i64 ph)) = Y141 at *
        clear hY
        refine hK.out _ _ (hall _ cc) (fun hH => ?_)
        clear hK K
        try simp only [Act.put, gA, gB, gC, gD, gE, gG]
        refine wpAnyH_ready (rs := [13]) (by kernel_rfl) (by simp) (AllReadyH.cons (o := _) rfl (fun K hK => ?_) AllReadyH.nil)
        obtain ⟨q0, q1, q2, qf⟩ := on_cells3i qb
        go_simp
        clear q0 q1 q2 qf
        replace qa := on_far3i (b := Y0.heap.size) qa (.bool qe) (.int .i64 ql) (.int .i64 qh) (by first | assumption | exact Ne.symm (by assumption))
        replace qb := on_set3i qb (.bool qe) (.int .i64 ql) (.int .i64 qh)
        replace cc := sp_set3 (b := Y0.heap.size) cc zzY0 (.bool qe) (.int .i64 ql) (.int .i64 qh)
        generalize hY : (((Y141.setCell ⟨Y0.heap.size, 0, none⟩ (.bool qe)).setCell ⟨Y0.heap.size, 1, none⟩ (.int .i64 ql)).setCell ⟨Y0.heap.size, 2, none⟩ (.int .i64 qh)) = Y142 at *
        clear hY
        refine hK.out _ _ (hall _ cc) (fun hH => ?_)
        clear hK K
        try simp only [Act.put, gA, gB, gC, gD, gE, gG]
        refine wpAnyH_done (by kernel_rfl) ?_ _
        go_wp2_with fail
        go_meet
        exact ⟨_, _, _, rfl, rfl, rfl, qa, qb, zzY139, zzY0, cc⟩
       ·skip
        go_simp
        have zzY138 := cc.size
        have ne0_1 : Y0.heap.size ≠ Y138.heap.size := Nat.ne_of_lt (on_lti qb)
        replace qb := on_oldi qb (Obj.cells #[.bool false, .int .i64 0, .int .i64 0] 139 (0, 0))
        have qa := World.alloc_heap_new Y138 (Obj.cells #[.bool false, .int .i64 0, .int .i64 0] 139 (0, 0))
        replace cc := sp_new cc (Obj.cells #[.bool false, .int .i64 0, .int .i64 0] 139 (0, 0))
        generalize hY : Y138.alloc (Obj.cells #[.bool false, .int .i64 0, .int .i64 0] 139 (0, 0)) = Y143 at *
        clear hY
        refine hK.out _ _ (hall _ cc) (fun hH => ?_)
        clear hK K
        try simp only [Act.put, gA, gB, gC, gD, gE, gG]
        refine wpAnyH_ready (rs := [6]) (by kernel_rfl) (by simp) (AllReadyH.cons (o := _) rfl (fun K hK => ?_) AllReadyH.nil)
        go_simp
        refine (h _).mono ?_
        rintro e Y144 ⟨rfl, g⟩
        replace cc := sp_call cc g
        replace qa := on_carryi g qa
        replace qb := on_carryi g qb
        clear g
        go_wp2_with fail
        refine hK.out _ _ (hall _ cc) (fun hH => ?_)
        clear hK K
        try simp only [Act.put, gA, gB, gC, gD, gE, gG]
        refine wpAnyH_take (i := 7) (oi := _) (v := .tuple #[.agg #[.bool pe, .int .i64 pl, .int .i64 ph], .agg #[.bool qe, .int .i64 ql, .int .i64 qh]]) rfl (by kernel_rfl) (by kernel_rfl) (by kernel_rfl) (fun _ _ _ h => h) (Or.inl ⟨by rfl, fun w' hSw => by obtain ⟨za0, za1, za2, zb0, zb1, zb2⟩ := hSw; go_simp⟩) hH ?_
        simp only [Act.put, gA, gB, gC, gD, gE, gG]
        refine wpAnyH_take (i := 8) (oi := _) (v := .agg #[.bool pe, .int .i64 pl, .int .i64 ph]) rfl (by kernel_rfl) (by kernel_rfl) (by kernel_rfl) (fun _ _ _ h => h) (Or.inl ⟨by rfl, fun w' hSw => by obtain ⟨za0, za1, za2, zb0, zb1, zb2⟩ := hSw; go_simp⟩) hH ?_
        simp only [Act.put, gA, gB, gC, gD, gE, gG]
        refine wpAnyH_take (i := 9) (oi := _) (v := .agg #[.bool qe, .int .i64 ql, .int .i64 qh]) rfl (by kernel_rfl) (by kernel_rfl) (by kernel_rfl) (fun _ _ _ h => h) (Or.inl ⟨by rfl, fun w' hSw => by obtain ⟨za0, za1, za2, zb0, zb1, zb2⟩ := hSw; go_simp⟩) hH ?_
        simp only [Act.put, gA, gB, gC, gD, gE, gG]
        refine wpAnyH_ready (rs := [12]) (by kernel_rfl) (by simp) (AllReadyH.cons (o := _) rfl (fun K hK => ?_) AllReadyH.nil)
        obtain ⟨q0, q1, q2, qf⟩ := on_cells3i qa
        go_simp
        clear q0 q1 q2 qf
        replace qb := on_far3i (b := Y138.heap.size) qb (.bool pe) (.int .i64 pl) (.int .i64 ph) (by first | assumption | exact Ne.symm (by assumption))
        replace qa := on_set3i qa (.bool pe) (.int .i64 pl) (.int .i64 ph)
        replace cc := sp_set3 (b := Y138.heap.size) cc zzY138 (.bool pe) (.int .i64 pl) (.int .i64 ph)
        generalize hY : (((Y144.setCell ⟨Y138.heap.size, 0, none⟩ (.bool pe)).setCell ⟨Y138.heap.size, 1, none⟩ (.int .i64 pl)).setCell ⟨Y138.heap.size, 2, none⟩ (.int .i64 ph)) = Y145 at *
        clear hY
        refine hK.out _ _ (hall _ cc) (fun hH => ?_)
        clear hK K
        try simp only [Act.put, gA, gB, gC, gD, gE, gG]
        refine wpAnyH_ready (rs := [13]) (by kernel_rfl) (by simp) (AllReadyH.cons (o := _) rfl (fun K hK => ?_) AllReadyH.nil)
        obtain ⟨q0, q1, q2, qf⟩ := on_cells3i qb
        go_simp
        clear q0 q1 q2 qf
        replace qa := on_far3i (b := Y0.heap.size) qa (.bool qe) (.int .i64 ql) (.int .i64 qh) (by first | assumption | exact Ne.symm (by assumption))
        replace qb := on_set3i qb (.bool qe) (.int .i64 ql) (.int .i64 qh)
        replace cc := sp_set3 (b := Y0.heap.size) cc zzY0 (.bool qe) (.int .i64 ql) (.int .i64 qh)
        generalize hY : (((Y145.setCell ⟨Y0.heap.size, 0, none⟩ (.bool qe)).setCell ⟨Y0.heap.size, 1, none⟩ (.int .i64 ql)).setCell ⟨Y0.heap.size, 2, none⟩ (.int .i64 qh)) = Y146 at *
        clear hY
        refine hK.out _ _ (hall _ cc) (fun hH => ?_)
        clear hK K
        try simp only [Act.put, gA, gB, gC, gD, gE, gG]
        refine wpAnyH_done (by kernel_rfl) ?_ _
        go_wp2_with fail
        go_meet
        exact ⟨_, _, _, rfl, rfl, rfl, qa, qb, zzY138, zzY0, cc⟩
      ·skip
       go_simp
       have zzY137 := cc.size
       have ne0_1 : Y0.heap.size ≠ Y137.heap.size := Nat.ne_of_lt (on_lti qb)
       replace qb := on_oldi qb (Obj.cells #[.bool false, .int .i64 0, .int .i64 0] 139 (0, 0))
       have qa := World.alloc_heap_new Y137 (Obj.cells #[.bool false, .int .i64 0, .int .i64 0] 139 (0, 0))
       replace cc := sp_new cc (Obj.cells #[.bool false, .int .i64 0, .int .i64 0] 139 (0, 0))
       generalize hY : Y137.alloc (Obj.cells #[.bool false, .int .i64 0, .int .i64 0] 139 (0, 0)) = Y147 at *
       clear hY
       refine hK.out _ _ (hall _ cc) (fun hH => ?_)
       clear hK K
       try simp only [Act.put, gA, gB, gC, gD, gE, gG]
       refine wpAnyH_ready (rs := [5]) (by kernel_rfl) (by simp) (AllReadyH.cons (o := _) rfl (fun K hK => ?_) AllReadyH.nil)
       go_simp
       refine (ho _ _ _ _).mono ?_
       rintro e Y148 ⟨rfl, g⟩
       replace cc := sp_call cc g
       replace qa := on_carryi g qa
       replace qb := on_carryi g qb
       clear g
       go_wp2_with fail
       refine hK.out _ _ (hall _ cc) (fun hH => ?_)
       clear hK K
       try simp only [Act.put, gA, gB, gC, gD, gE, gG]
       refine wpAnyH_ready (rs := [6]) (by kernel_rfl) (by simp) (AllReadyH.cons (o := _) rfl (fun K hK => ?_) AllReadyH.nil)
       go_simp
       refine (h _).mono ?_
       rintro e Y149 ⟨rfl, g⟩
       replace cc := sp_call cc g
       replace qa := on_carryi g qa
       replace qb := on_carryi g qb
       clear g
       go_wp2_with fail
       refine hK.out _ _ (hall _ cc) (fun hH => ?_)
       clear hK K
       try simp only [Act.put, gA, gB, gC, gD, gE, gG]
       refine wpAnyH_take (i := 7) (oi := _) (v := .tuple #[.agg #[.bool pe, .int .i64 pl, .int .i64 ph], .agg #[.bool qe, .int .i64 ql, .int .i64 qh]]) rfl (by kernel_rfl) (by kernel_rfl) (by kernel_rfl) (fun _ _ _ h => h) (Or.inl ⟨by rfl, fun w' hSw => by obtain ⟨za0, za1, za2, zb0, zb1, zb2⟩ := hSw; go_simp⟩) hH ?_
       simp only [Act.put, gA, gB, gC, gD, gE, gG]
       refine wpAnyH_take (i := 8) (oi := _) (v := .agg #[.bool pe, .int .i64 pl, .int .i64 ph]) rfl (by kernel_rfl) (by kernel_rfl) (by kernel_rfl) (fun _ _ _ h => h) (Or.inl ⟨by rfl, fun w' hSw => by obtain ⟨za0, za1, za2, zb0, zb1, zb2⟩ := hSw; go_simp⟩) hH ?_
       simp only [Act.put, gA, gB, gC, gD, gE, gG]
       refine wpAnyH_take (i := 9) (oi := _) (v := .agg #[.bool qe, .int .i64 ql, .int .i64 qh]) rfl (by kernel_rfl) (by kernel_rfl) (by kernel_rfl) (fun _ _ _ h => h) (Or.inl ⟨by rfl, fun w' hSw => by obtain ⟨za0, za1, za2, zb0, zb1, zb2⟩ := hSw; go_simp⟩) hH ?_
       simp only [Act.put, gA, gB, gC, gD, gE, gG]
       refine wpAnyH_ready (rs := [12]) (by kernel_rfl) (by simp) (AllReadyH.cons (o := _) rfl (fun K hK => ?_) AllReadyH.nil)
       obtain ⟨q0, q1, q2, qf⟩ := on_cells3i qa
       go_simp
       clear q0 q1 q2 qf
       replace qb := on_far3i (b := Y137.heap.size) qb (.bool pe) (.int .i64 pl) (.int .i64 ph) (by first | assumption | exact Ne.symm (by assumption))
       replace qa := on_set3i qa (.bool pe) (.int .i64 pl) (.int .i64 ph)
       replace cc := sp_set3 (b := Y137.heap.size) cc zzY137 (.bool pe) (.int .i64 pl) (.int .i64 ph)
       generalize hY : (((Y149.setCell ⟨Y137.heap.size, 0, none⟩ (.bool pe)).setCell ⟨Y137.heap.size, 1, none⟩ (.int .i64 pl)).setCell ⟨Y137.heap.size, 2, none⟩ (.int .i64 ph)) = Y150 at *
       clear hY
       refine hK.out _ _ (hall _ cc) (fun hH => ?_)
       clear hK K
       try simp only [Act.put, gA, gB, gC, gD, gE, gG]
       refine wpAnyH_ready (rs := [13]) (by kernel_rfl) (by simp) (AllReadyH.cons (o := _) rfl (fun K hK => ?_) AllReadyH.nil)
       obtain ⟨q0, q1, q2, qf⟩ := on_cells3i qb
       go_simp
       clear q0 q1 q2 qf
       replace qa := on_far3i (b := Y0.heap.size) qa (.bool qe) (.int .i64 ql) (.int .i64 qh) (by first | assumption | exact Ne.symm (by assumption))
       replace qb := on_set3i qb (.bool qe) (.int .i64 ql) (.int .i64 qh)
       replace cc := sp_set3 (b := Y0.heap.size) cc zzY0 (.bool qe) (.int .i64 ql) (.int .i64 qh)
       generalize hY : (((Y150.setCell ⟨Y0.heap.size, 0, none⟩ (.bool qe)).setCell ⟨Y0.heap.size, 1, none⟩ (.int .i64 ql)).setCell ⟨Y0.heap.size, 2, none⟩ (.int .i64 qh)) = Y151 at *
       clear hY
       refine hK.out _ _ (hall _ cc) (fun hH => ?_)
       clear hK K
       try simp only [Act.put, gA, gB, gC, gD, gE, gG]
       refine wpAnyH_done (by kernel_rfl) ?_ _
       go_wp2_with fail
       go_meet
       exact ⟨_, _, _, rfl, rfl, rfl, qa, qb, zzY137, zzY0, cc⟩
     ·skip
      go_simp
      have zzY136 := cc.size
      have ne0_1 : Y0.heap.size ≠ Y136.heap.size := Nat.ne_of_lt (on_lti qb)
      replace qb := on_oldi qb (Obj.cells #[.bool false, .int .i64 0, .int .i64 0] 139 (0, 0))
      have qa := World.alloc_heap_new Y136 (Obj.cells #[.bool false, .int .i64 0, .int .i64 0] 139 (0, 0))
      replace cc := sp_new cc (Obj.cells #[.bool false, .int .i64 0, .int .i64 0] 139 (0, 0))
      generalize hY : Y136.alloc (Obj.cells #[.bool false, .int .i64 0, .int .i64 0] 139 (0, 0)) = Y152 at *
      clear hY
      refine hK.out _ _ (hall _ cc) (fun hH => ?_)
      clear hK K
      try simp only [Act.put, gA, gB, gC, gD, gE, gG]
      refine wpAnyH_ready (rs := [3]) (by kernel_rfl) (by simp) (AllReadyH.cons (o := _) rfl (fun K hK => ?_) AllReadyH.nil)
      go_simp
      refine (ho _ _ _ _).mono ?_
      rintro e Y153 ⟨rfl, g⟩
      replace cc := sp_call cc g
      replace qa := on_carryi g qa
      replace qb := on_carryi g qb
      clear g
      go_wp2_with fail
      refine hK.out _ _ (hall _ cc) (fun hH => ?_)
      clear hK K
      try simp only [Act.put, gA, gB, gC, gD, gE, gG]
      refine wpAnyH_ready (rs := [5]) (by kernel_rfl) (by simp) (AllReadyH.cons (o := _) rfl (fun K hK => ?_) AllReadyH.nil)
      go_simp
      refine (ho _ _ _ _).mono ?_
      rintro e Y154 ⟨rfl, g⟩
      replace cc := sp_call cc g
      replace qa := on_carryi g qa
      replace qb := on_carryi g qb
      clear g
      go_wp2_with fail
      refine hK.out _ _ (hall _ cc) (fun hH => ?_)
      clear hK K
      try simp only [Act.put, gA, gB, gC, gD, gE, gG]
      refine wpAnyH_ready (rs := [6]) (by kernel_rfl) (by simp) (AllReadyH.cons (o := _) rfl (fun K hK => ?_) AllReadyH.nil)
      go_simp
      refine (h _).mono ?_
      rintro e Y155 ⟨rfl, g⟩
      replace cc := sp_call cc g
      replace qa := on_carryi g qa
      replace qb := on_carryi g qb
      clear g
      go_wp2_with fail
      refine hK.out _ _ (hall _ cc) (fun hH => ?_)
      clear hK K
      try simp only [Act.put, gA, gB, gC, gD, gE, gG]
      refine wpAnyH_take (i := 7) (oi := _) (v := .tuple #[.agg #[.bool pe, .int .i64 pl, .int .i64 ph], .agg #[.bool qe, .int .i64 ql, .int .i64 qh]]) rfl (by kernel_rfl) (by kernel_rfl) (by kernel_rfl) (fun _ _ _ h => h) (Or.inl ⟨by rfl, fun w' hSw => by obtain ⟨za0, za1, za2, zb0, zb1, zb2⟩ := hSw; go_simp⟩) hH ?_
      simp only [Act.put, gA, gB, gC, gD, gE, gG]
      refine wpAnyH_take (i := 8) (oi := _) (v := .agg #[.bool pe, .int .i64 pl, .int .i64 ph]) rfl (by kernel_rfl) (by kernel_rfl) (by kernel_rfl) (fun _ _ _ h => h) (Or.inl ⟨by rfl, fun w' hSw => by obtain ⟨za0, za1, za2, zb0, zb1, zb2⟩ := hSw; go_simp⟩) hH ?_
      simp only [Act.put, gA, gB, gC, gD, gE, gG]
      refine wpAnyH_take (i := 9) (oi := _) (v := .agg #[.bool qe, .int .i64 ql, .int .i64 qh]) rfl (by kernel_rfl) (by kernel_rfl) (by kernel_rfl) (fun _ _ _ h => h) (Or.inl ⟨by rfl, fun w' hSw => by obtain ⟨za0, za1, za2, zb0, zb1, zb2⟩ := hSw; go_simp⟩) hH ?_
      simp only [Act.put, gA, gB, gC, gD, gE, gG]
      refine wpAnyH_ready (rs := [12]) (by kernel_rfl) (by simp) (AllReadyH.cons (o := _) rfl (fun K hK => ?_) AllReadyH.nil)
      obtain ⟨q0, q1, q2, qf⟩ := on_cells3i qa
      go_simp
      clear q0 q1 q2 qf
      replace qb := on_far3i (b := Y136.heap.size) qb (.bool pe) (.int .i64 pl) (.int .i64 ph) (by first | assumption | exact Ne.symm (by assumption))
      replace qa := on_set3i qa (.bool pe) (.int .i64 pl) (.int .i64 ph)
      replace cc := sp_set3 (b := Y136.heap.size) cc zzY136 (.bool pe) (.int .i64 pl) (.int .i64 ph)
      generalize hY : (((Y155.setCell ⟨Y136.heap.size, 0, none⟩ (.bool pe)).setCell ⟨Y136.heap.size, 1, none⟩ (.int .i64 pl)).setCell ⟨Y136.heap.size, 2, none⟩ (.int .i64 ph)) = Y156 at *
      clear hY
      refine hK.out _ _ (hall _ cc) (fun hH => ?_)
      clear hK K
      try simp only [Act.put, gA, gB, gC, gD, gE, gG]
      refine wpAnyH_ready (rs := [13]) (by kernel_rfl) (by simp) (AllReadyH.cons (o := _) rfl (fun K hK => ?_) AllReadyH.nil)
      obtain ⟨q0, q1, q2, qf⟩ := on_cells3i qb
      go_simp
      clear q0 q1 q2 qf
      replace qa := on_far3i (b := Y0.heap.size) qa (.bool qe) (.int .i64 ql) (.int .i64 qh) (by first | assumption | exact Ne.symm (by assumption))
      replace qb := on_set3i qb (.bool qe) (.int .i64 ql) (.int .i64 qh)
      replace cc := sp_set3 (b := Y0.heap.size) cc zzY0 (.bool qe) (.int .i64 ql) (.int .i64 qh)
      generalize hY : (((Y156.setCell ⟨Y0.heap.size, 0, none⟩ (.bool qe)).setCell ⟨Y0.heap.size, 1, none⟩ (.int .i64 ql)).setCell ⟨Y0.heap.size, 2, none⟩ (.int .i64 qh)) = Y157 at *
      clear hY
      refine hK.out _ _ (hall _ cc) (fun hH => ?_)
      clear hK K
      try simp only [Act.put, gA, gB, gC, gD, gE, gG]
      refine wpAnyH_done (by kernel_rfl) ?_ _
      go_wp2_with fail
      go_meet
      exact ⟨_, _, _, rfl, rfl, rfl, qa, qb, zzY136, zzY0, cc⟩
    ·skip
     go_simp
     have zzY135 := cc.size
     have ne0_1 : Y0.heap.size ≠ Y135.heap.size := Nat.ne_of_lt (on_lti qb)
     replace qb := on_oldi qb (Obj.cells #[.bool false, .int .i64 0, .int .i64 0] 139 (0, 0))
     have qa := World.alloc_heap_new Y135 (Obj.cells #[.bool false, .int .i64 0, .int .i64 0] 139 (0, 0))
     replace cc := sp_new cc (Obj.cells #[.bool false, .int .i64 0, .int .i64 0] 139 (0, 0))
     generalize hY : Y135.alloc (Obj.cells #[.bool false, .int .i64 0, .int .i64 0] 139 (0, 0)) = Y158 at *
     clear hY
     refine hK.out _ _ (hall _ cc) (fun hH => ?_)
     clear hK K
     try simp only [Act.put, gA, gB, gC, gD, gE, gG]
     refine wpAnyH_ready (rs := [0]) (by kernel_rfl) (by simp) (AllReadyH.cons (o := _) rfl (fun K hK => ?_) AllReadyH.nil)
     go_simp
     refine (h1 _).mono ?_
     rintro e Y159 ⟨rfl, g⟩
     replace cc := sp_call cc g
     replace qa := on_carryi g qa
     replace qb := on_carryi g qb
     clear g
     go_wp2_with fail
     refine hK.out _ _ (hall _ cc) (fun hH => ?_)
     clear hK K
     try simp only [Act.put, gA, gB, gC, gD, gE, gG]
     refine wpAnyH_ready (rs := [3]) (by kernel_rfl) (by simp) (AllReadyH.cons (o := _) rfl (fun K hK => ?_) AllReadyH.nil)
     go_simp
     refine (ho _ _ _ _).mono ?_
     rintro e Y160 ⟨rfl, g⟩
     replace cc := sp_call cc g
     replace qa := on_carryi g qa
     replace qb := on_carryi g qb
     clear g
     go_wp2_with fail
     refine hK.out _ _ (hall _ cc) (fun hH => ?_)
     clear hK K
     try simp only [Act.put, gA, gB, gC, gD, gE, gG]
     refine wpAnyH_ready (rs := [5]) (by kernel_rfl) (by simp) (AllReadyH.cons (o := _) rfl (fun K hK => ?_) AllReadyH.nil)
     go_simp
     refine (ho _ _ _ _).mono ?_
     rintro e Y161 ⟨rfl, g⟩
     replace cc := sp_call cc g
     replace qa := on_carryi g qa
     replace qb := on_carryi g qb
     clear g
     go_wp2_with fail
     refine hK.out _ _ (hall _ cc) (fun hH => ?_)
     clear hK K
     try simp only [Act.put, gA, gB, gC, gD, gE, gG]
     refine wpAnyH_ready (rs := [6]) (by kernel_rfl) (by simp) (AllReadyH.cons (o := _) rfl (fun K hK => ?_) AllReadyH.nil)
     go_simp
     refine (h _).mono ?_
     rintro e Y162 ⟨rfl, g⟩
     replace cc := sp_call cc g
     replace qa := on_carryi g qa
     replace qb := on_carryi g qb
     clear g
     go_wp2_with fail
     refine hK.out _ _ (hall _ cc) (fun hH => ?_)
     clear hK K
     try simp only [Act.put, gA, gB, gC, gD, gE, gG]
     refine wpAnyH_take (i := 7) (oi := _) (v := .tuple #[.agg #[.bool pe, .int .i64 pl, .int .i64 ph], .agg #[.bool qe, .int .i64 ql, .int .i64 qh]]) rfl (by kernel_rfl) (by kernel_rfl) (by kernel_rfl) (fun _ _ _ h => h) (Or.inl ⟨by rfl, fun w' hSw => by obtain ⟨za0, za1, za2, zb0, zb1, zb2⟩ := hSw; go_simp⟩) hH ?_
     simp only [Act.put, gA, gB, gC, gD, gE, gG]
     refine wpAnyH_take (i := 8) (oi := _) (v := .agg #[.bool pe, .int .i64 pl, .int .i64 ph]) rfl (by kernel_rfl) (by kernel_rfl) (by kernel_rfl) (fun _ _ _ h => h) (Or.inl ⟨by rfl, fun w' hSw => by obtain ⟨za0, za1, za2, zb0, zb1, zb2⟩ := hSw; go_simp⟩) hH ?_
     simp only [Act.put, gA, gB, gC, gD, gE, gG]
     refine wpAnyH_take (i := 9) (oi := _) (v := .agg #[.bool qe, .int .i64 ql, .int .i64 qh]) rfl (by kernel_rfl) (by kernel_rfl) (by kernel_rfl) (fun _ _ _ h => h) (Or.inl ⟨by rfl, fun w' hSw => by obtain ⟨za0, za1, za2, zb0, zb1, zb2⟩ := hSw; go_simp⟩) hH ?_
     simp only [Act.put, gA, gB, gC, gD, gE, gG]
     refine wpAnyH_ready (rs := [12]) (by kernel_rfl) (by simp) (AllReadyH.cons (o := _) rfl (fun K hK => ?_) AllReadyH.nil)
     obtain ⟨q0, q1, q2, qf⟩ := on_cells3i qa
     go_simp
     clear q0 q1 q2 qf
     replace qb := on_far3i (b := Y135.heap.size) qb (.bool pe) (.int .i64 pl) (.int .i64 ph) (by first | assumption | exact Ne.symm (by assumption))
     replace qa := on_set3i qa (.bool pe) (.int .i64 pl) (.int .i64 ph)
     replace cc := sp_set3 (b := Y135.heap.size) cc zzY135 (.bool pe) (.int .i64 pl) (.int .i64 ph)
     generalize hY : (((Y162.setCell ⟨Y135.heap.size, 0, none⟩ (.bool pe)).setCell ⟨Y135.heap.size, 1, none⟩ (.int .i64 pl)).setCell ⟨Y135.heap.size, 2, none⟩ (.int .i64 ph)) = Y163 at *
     clear hY
     refine hK.out _ _ (hall _ cc) (fun hH => ?_)
     clear hK K
     try simp only [Act.put, gA, gB, gC, gD, gE, gG]
     refine wpAnyH_ready (rs := [13]) (by kernel_rfl) (by simp) (AllReadyH.cons (o := _) rfl (fun K hK => ?_) AllReadyH.nil)
     obtain ⟨q0, q1, q2, qf⟩ := on_cells3i qb
     go_simp
     clear q0 q1 q2 qf
     replace qa := on_far3i (b := Y0.heap.size) qa (.bool qe) (.int .i64 ql) (.int .i64 qh) (by first | assumption | exact Ne.symm (by assumption))
     replace qb := on_set3i qb (.bool qe) (.int .i64 ql) (.int .i64 qh)
     replace cc := sp_set3 (b := Y0.heap.size) cc zzY0 (.bool qe) (.int .i64 ql) (.int .i64 qh)
     generalize hY : (((Y163.setCell ⟨Y0.heap.size, 0, none⟩ (.bool qe)).setCell ⟨Y0.heap.size, 1, none⟩ (.int .i64 ql)).setCell ⟨Y0.heap.size, 2, none⟩ (.int .i64 qh)) = Y164 at *
     clear hY
     refine hK.out _ _ (hall _ cc) (fun hH => ?_)
     clear hK K
     try simp only [Act.put, gA, gB, gC, gD, gE, gG]
     refine wpAnyH_done (by kernel_rfl) ?_ _
     go_wp2_with fail
     go_meet
     exact ⟨_, _, _, rfl, rfl, rfl, qa, qb, zzY135, zzY0, cc⟩
  case rest =>
   obtain ⟨W3, b8, b9, rfl, rfl, rfl, qa, qb, z8, z9, cX⟩ := hcut
   obtain ⟨t0, t1, t2, _⟩ := on_cells3i qa
   obtain ⟨u0, u1, u2, _⟩ := on_cells3i qb
   replace r0 := sO cX r0; replace r1 := sO cX r1; replace r2 := sO cX r2; replace s0 := sO cX s0; replace s1 := sO cX s1; replace s2 := sO cX s2
   replace fr : ∀ j, W3.frozen? ⟨w.heap.size + 1 + 1, j, none⟩ = false := fun j => (cX.frozen (p := ⟨w.heap.size + 1 + 1, j, none⟩) (by simp; omega)).trans (fr j)
   replace fs : ∀ j, W3.frozen? ⟨w.heap.size + 1 + 1 + 1, j, none⟩ = false := fun j => (cX.frozen (p := ⟨w.heap.size + 1 + 1 + 1, j, none⟩) (by simp; omega)).trans (fs j)
   have zX := cX.size
   replace bW := sp_call bW cX
   clear cX cc hall qa qb h1 ho h
   go_upto_region 2 with fail
   refine wp_region_held_drew (S := (fun w' => w'.cell? ⟨b8, 0, none⟩ = some (.bool pe) ∧ w'.cell? ⟨b8, 1, none⟩ = some (.int .i64 pl) ∧ w'.cell? ⟨b8, 2, none⟩ = some (.int .i64 ph) ∧ w'.cell? ⟨b9, 0, none⟩ = some (.bool qe) ∧ w'.cell? ⟨b9, 1, none⟩ = some (.int .i64 ql) ∧ w'.cell? ⟨b9, 2, none⟩ = some (.int .i64 qh))) (by kernel_rfl) ⟨t0, t1, t2, u0, u1, u2⟩ (fun hH => ?_)
   refine wpAnyH_take (i := 0) (oi := _) (v := .agg #[.bool pe, .int .i64 pl, .int .i64 ph]) rfl (by kernel_rfl) (by kernel_rfl) (by kernel_rfl) (fun _ _ _ h => h) (Or.inl ⟨by rfl, fun w' hSw => by obtain ⟨zt0, zt1, zt2, zu0, zu1, zu2⟩ := hSw; go_simp⟩) hH ?_
   simp only [Act.put, gA, gB, gC, gD, gE, gG]
   refine wpAnyH_take (i := 2) (oi := _) (v := .agg #[.bool qe, .int .i64 ql, .int .i64 qh]) rfl (by kernel_rfl) (by kernel_rfl) (by kernel_rfl) (fun _ _ _ h => h) (Or.inl ⟨by rfl, fun w' hSw => by obtain ⟨zt0, zt1, zt2, zu0, zu1, zu2⟩ := hSw; go_simp⟩) hH ?_
   simp only [Act.put, gA, gB, gC, gD, gE, gG]
   refine wpAnyH_ready (rs := [1]) (by kernel_rfl) (by simp) (AllReadyH.cons (o := _) rfl (fun K hK => ?_) AllReadyH.nil)
   go_simp
   refine (h5 _).mono ?_
   rintro e v1 ⟨rfl, g⟩
   replace g : Below W3.heap.size W3 v1 := ⟨g.os, g.tape, g.output, g.size, g.block⟩
   replace r0 := sO g r0; replace r1 := sO g r1; replace r2 := sO g r2; replace s0 := sO g s0; replace s1 := sO g s1; replace s2 := sO g s2; replace t0 := sO g t0; replace t1 := sO g t1; replace t2 := sO g t2; replace u0 := sO g u0; replace u1 := sO g u1; replace u2 := sO g u2
   have z_v1 := g.size
   replace fr : ∀ j, v1.frozen? ⟨w.heap.size + 1 + 1, j, none⟩ = false := fun j => (g.frozen (p := ⟨w.heap.size + 1 + 1, j, none⟩) (by simp; omega)).trans (fr j)
   replace fs : ∀ j, v1.frozen? ⟨w.heap.size + 1 + 1 + 1, j, none⟩ = false := fun j => (g.frozen (p := ⟨w.heap.size + 1 + 1 + 1, j, none⟩) (by simp; omega)).trans (fs j)
   replace bW := sp_call bW g
   clear g
   go_wp2_with fail
   refine hK.out _ _ ⟨t0, t1, t2, u0, u1, u2⟩ (fun hH => ?_)
   clear hK K
   try simp only [Act.put, gA, gB, gC, gD, gE, gG]
   refine wpAnyH_ready (rs := [3]) (by kernel_rfl) (by simp) (AllReadyH.cons (o := _) rfl (fun K hK => ?_) AllReadyH.nil)
   go_simp
   refine (h6 _).mono ?_
   rintro e v2 ⟨rfl, g⟩
   replace r0 := sO g r0; replace r1 := sO g r1; replace r2 := sO g r2; replace s0 := sO g s0; replace s1 := sO g s1; replace s2 := sO g s2; replace t0 := sO g t0; replace t1 := sO g t1; replace t2 := sO g t2; replace u0 := sO g u0; replace u1 := sO g u1; replace u2 := sO g u2
   have z_v2 := g.size
   replace fr : ∀ j, v2.frozen? ⟨w.heap.size + 1 + 1, j, none⟩ = false := fun j => (g.frozen (p := ⟨w.heap.size + 1 + 1, j, none⟩) (by simp; omega)).trans (fr j)
   replace fs : ∀ j, v2.frozen? ⟨w.heap.size + 1 + 1 + 1, j, none⟩ = false := fun j => (g.frozen (p := ⟨w.heap.size + 1 + 1 + 1, j, none⟩) (by simp; omega)).trans (fs j)
   replace bW := sp_call bW g
   clear g
   go_wp2_with fail
   refine hK.out _ _ ⟨t0, t1, t2, u0, u1, u2⟩ (fun hH => ?_)
   clear hK K
   try simp only [Act.put, gA, gB, gC, gD, gE, gG]
   refine wpAnyH_ready (rs := [4]) (by kernel_rfl) (by simp) (AllReadyH.cons (o := _) rfl (fun K hK => ?_) AllReadyH.nil)
   go_simp
   refine hK.out _ _ ⟨(sp_keep3 t0 (by omega) _ _ _), (sp_keep3 t1 (by omega) _ _ _), (sp_keep3 t2 (by omega) _ _ _), (sp_keep3 u0 (by omega) _ _ _), (sp_keep3 u1 (by omega) _ _ _), (sp_keep3 u2 (by omega) _ _ _)⟩ (fun hH => ?_)
   clear hK K
   try simp only [Act.put, gA, gB, gC, gD, gE, gG]
   refine wpAnyH_ready (rs := [5]) (by kernel_rfl) (by simp) (AllReadyH.cons (o := _) rfl (fun K hK => ?_) AllReadyH.nil)
   go_simp
   refine hK.out _ _ ⟨(sp_keep3 (sp_keep3 t0 (by omega) _ _ _) (by omega) _ _ _), (sp_keep3 (sp_keep3 t1 (by omega) _ _ _) (by omega) _ _ _), (sp_keep3 (sp_keep3 t2 (by omega) _ _ _) (by omega) _ _ _), (sp_keep3 (sp_keep3 u0 (by omega) _ _ _) (by omega) _ _ _), (sp_keep3 (sp_keep3 u1 (by omega) _ _ _) (by omega) _ _ _), (sp_keep3 (sp_keep3 u2 (by omega) _ _ _) (by omega) _ _ _)⟩ (fun hH => ?_)
   clear hK K
   try simp only [Act.put, gA, gB, gC, gD, gE, gG]
   refine wpAnyH_done (by kernel_rfl) ?_ _
   go_wp2_with fail
   exact bodyPost_ret (v := .tuple #[.agg #[.bool pe, .int .i64 pl, .int .i64 ph], .agg #[.bool qe, .int .i64 ql, .int .i64 qh]]) (by simp [results, Tryz.results66, go_sem, r0, r1, r2, s0, s1, s2]) rfl ⟨by simp, by (repeat (first | with_reducible exact bW | with_reducible refine iw_dr ?_ | with_reducible refine iw_st ?_ (by omega) _))⟩
def g1I (op x : Int) : Int := if op = 4 then -x else max x (-x)
def ok1I (x : Int) : Prop := -2147483648 ≤ x ∧ x ≤ 2147483647
set_option maxRecDepth 100000 in
theorem neg_i1 (x : Int) (h : ok1I x) (w : World) : Calls Tryz.prog 261 #[.int .i64 x] w fun e w' => e = .returned (.int .i64 (g1I 4 x)) ∧ Below w.heap.size w w' := by
  obtain ⟨h1, h2⟩ := h
  go_enter Tryz.func261, Tryz.ntmps261
  go_wp2_with fail
  go_ret
  exact ⟨by simp [g1I], Below.refl _ _⟩
set_option maxRecDepth 100000 in
theorem abs_i1 (x : Int) (h : ok1I x) (w : World) : Calls Tryz.prog 262 #[.int .i64 x] w fun e w' => e = .returned (.int .i64 (g1I 5 x)) ∧ Below w.heap.size w w' := by
  obtain ⟨h1, h2⟩ := h
  by_cases c : x < -x
  · have e : g1I 5 x = -x := by simp [g1I]; omega
    rw [e]
    go_enter Tryz.func262, Tryz.ntmps262
    go_wp2_with fail
    go_ret
    exact ⟨by first | rfl | (simp; omega), Below.refl _ _⟩
  · have e : g1I 5 x = x := by simp [g1I]; omega
    rw [e]
    go_enter Tryz.func262, Tryz.ntmps262
    go_wp2_with fail
    go_ret
    exact ⟨by first | rfl | (simp; omega), Below.refl _ _⟩
set_option maxRecDepth 100000 in
theorem by1_i (op : Int) (h : op = 4 ∨ op = 5) (w0 : World) : By1i LnI WyI 0 w0 op ok1I (g1I op) := by
  intro V _
  rcases h with rfl | rfl
  · show Calls Tryz.prog 198 #[.int .i64 4] V _
    go_enter Tryz.func198, Tryz.ntmps198
    go_wp2_with fail
    go_ret
    exact ⟨Below.refl _ _, _, _, rfl, enters_of Tryz.func261 (by kernel_rfl) rfl, fun x X h _ => neg_i1 x h X⟩
  · show Calls Tryz.prog 198 #[.int .i64 5] V _
    go_enter Tryz.func198, Tryz.ntmps198
    go_wp2_with fail
    go_ret
    exact ⟨Below.refl _ _, _, _, rfl, enters_of Tryz.func262 (by kernel_rfl) rfl, fun x X h _ => abs_i1 x h X⟩
theorem by1_none (op : Int) (h4 : ¬ op = 4) (h5 : ¬ op = 5) (V : World) : Calls Tryz.prog 198 #[.int .i64 op] V fun e V' => e = .returned .nilFunc ∧ Below V.heap.size V V' := by
  go_enter Tryz.func198, Tryz.ntmps198
  go_wp2_with fail
  go_ret
  exact ⟨rfl, Below.refl _ _⟩
theorem by2_none (op : Int) (h8 : ¬ op = 8) (h9 : ¬ op = 9) (h10 : ¬ op = 10) (h11 : ¬ op = 11) (V : World) : Calls Tryz.prog 199 #[.int .i64 op] V fun e V' => e = .returned .nilFunc ∧ Below V.heap.size V V' := by
  go_enter Tryz.func199, Tryz.ntmps199
  go_wp2_with fail
  go_ret
  exact ⟨rfl, Below.refl _ _⟩
end Go.Proofs.YthjoigkckgdcaaaGreat

