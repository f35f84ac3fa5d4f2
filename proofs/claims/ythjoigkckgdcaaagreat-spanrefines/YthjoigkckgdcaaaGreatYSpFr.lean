/- span.Refine of floats. -/
import Derived.Test.YthjoigkckgdcaaaGreatYSpFw
import Derived.Deep.DeepCutAuto
namespace Go.Proofs.YthjoigkckgdcaaaGreat
open Go.RowKit
set_option linter.unusedVariables false
set_option linter.unusedSimpArgs false
theorem rw_set3 {W : World} {b : Nat} {t : TypeId} {z : Nat × Nat} {y0 y1 y2 : Value} (q : W.heap[b]? = some (.cells #[y0, y1, y2] t z)) (x0 x1 x2 : Value) : (((W.setCell ⟨b, 0, none⟩ x0).setCell ⟨b, 1, none⟩ x1).setCell ⟨b, 2, none⟩ x2).heap[b]? = some (.cells #[x0, x1, x2] t z) := by
  have h := (at_set (at_set (at_set q 0 x0) 1 x1) 2 x2)
  simpa using h
theorem rw_far3 {W : World} {b c : Nat} {o : Obj} (q : W.heap[c]? = some o) (x0 x1 x2 : Value) (h : b ≠ c) : (((W.setCell ⟨b, 0, none⟩ x0).setCell ⟨b, 1, none⟩ x1).setCell ⟨b, 2, none⟩ x2).heap[c]? = some o := by
  rw [at_far _ _ h, at_far _ _ h, at_far _ _ h, q]
theorem rw_old {W : World} {c : Nat} {o : Obj} (q : W.heap[c]? = some o) (o' : Obj) : (W.alloc o').heap[c]? = some o := (Below.heap_alloc W o' c (Array.getElem?_eq_some_iff.1 q).1).trans q
theorem rw_lt {W : World} {c : Nat} {o : Obj} (q : W.heap[c]? = some o) : c < W.heap.size := (Array.getElem?_eq_some_iff.1 q).1
theorem rw_cells3 {v : World} {b : Nat} {t : TypeId} {x0 x1 x2 : Value} (q : v.heap[b]? = some (.cells #[x0, x1, x2] t (0, 0))) : v.cell? ⟨b, 0, none⟩ = some x0 ∧ v.cell? ⟨b, 1, none⟩ = some x1 ∧ v.cell? ⟨b, 2, none⟩ = some x2 ∧ ∀ j, v.frozen? ⟨b, j, none⟩ = false :=
  ⟨by simp [World.cell?, q], by simp [World.cell?, q], by simp [World.cell?, q], fun j => by simp [World.frozen?, q]⟩
theorem rw_st {w W : World} (h : Below w.heap.size w W) {b j : Nat} (hb : w.heap.size ≤ b) (x : Value) : Below w.heap.size w (W.setCell ⟨b, j, none⟩ x) := h.setCell (p := ⟨b, j, none⟩) hb x
theorem rw_dr {w W : World} (h : Below w.heap.size w W) : Below w.heap.size w W.drew := ⟨h.os, h.tape, h.output, h.size, h.block⟩
set_option maxRecDepth 100000 in
set_option maxHeartbeats 6400000 in
theorem frefine_of (f op : Int) (e1 : Bool) (a b : Int) (e2 : Bool) (c d : Int) (pe qe : Bool) (pl ph ql qh : Int) (h : ∀ L B w0, FlAt f L B w0 → ∀ V, Below B w0 V → Calls Tryz.prog 98 #[.agg (lvf L), .int .i64 op, .agg #[.bool e1, .int .u64 a, .int .u64 b], .agg #[.bool e2, .int .u64 c, .int .u64 d]] V fun e w' => e = .returned (.tuple #[.agg #[.bool pe, .int .u64 pl, .int .u64 ph], .agg #[.bool qe, .int .u64 ql, .int .u64 qh]]) ∧ Below V.heap.size V w') (w : World) :
    Calls Tryz.prog 38 #[.int .i64 f, .int .i64 op, .agg #[.bool e1, .int .u64 a, .int .u64 b], .agg #[.bool e2, .int .u64 c, .int .u64 d]] w fun e w' => e = .returned (.tuple #[.agg #[.bool pe, .int .u64 pl, .int .u64 ph], .agg #[.bool qe, .int .u64 ql, .int .u64 qh]]) ∧ Below w.heap.size w w' := by
  have h1 := floats_at f
  have h5 := floatRange_any pe pl ph
  have h6 := floatRange_any qe ql qh
  have ho1 := ofFloats_any
  go_enter Tryz.func38, Tryz.ntmps38
  go_upto_region 1 with fail
  obtain ⟨W, hW⟩ : ∃ W, ((((w.alloc (.cells #[.bool e1, .int .u64 a, .int .u64 b] 25)).alloc (.cells #[.bool e2, .int .u64 c, .int .u64 d] 25)).alloc (.cells #[.bool false, .int .u64 0, .int .u64 0] 25)).alloc (.cells #[.bool false, .int .u64 0, .int .u64 0] 25)) = W := ⟨_, rfl⟩
  have a0 : W.cell? ⟨w.heap.size, 0, none⟩ = some (.bool e1) := by rw [← hW]; simp [go_sem]
  have a1 : W.cell? ⟨w.heap.size, 1, none⟩ = some (.int .u64 a) := by rw [← hW]; simp [go_sem]
  have a2 : W.cell? ⟨w.heap.size, 2, none⟩ = some (.int .u64 b) := by rw [← hW]; simp [go_sem]
  have b0 : W.cell? ⟨w.heap.size + 1, 0, none⟩ = some (.bool e2) := by rw [← hW]; simp [go_sem]
  have b1 : W.cell? ⟨w.heap.size + 1, 1, none⟩ = some (.int .u64 c) := by rw [← hW]; simp [go_sem]
  have b2 : W.cell? ⟨w.heap.size + 1, 2, none⟩ = some (.int .u64 d) := by rw [← hW]; simp [go_sem]
  have r0 : W.cell? ⟨w.heap.size + 1 + 1, 0, none⟩ = some (.bool false) := by rw [← hW]; simp [go_sem]
  have r1 : W.cell? ⟨w.heap.size + 1 + 1, 1, none⟩ = some (.int .u64 0) := by rw [← hW]; simp [go_sem]
  have r2 : W.cell? ⟨w.heap.size + 1 + 1, 2, none⟩ = some (.int .u64 0) := by rw [← hW]; simp [go_sem]
  have s0 : W.cell? ⟨w.heap.size + 1 + 1 + 1, 0, none⟩ = some (.bool false) := by rw [← hW]; simp [go_sem]
  have s1 : W.cell? ⟨w.heap.size + 1 + 1 + 1, 1, none⟩ = some (.int .u64 0) := by rw [← hW]; simp [go_sem]
  have s2 : W.cell? ⟨w.heap.size + 1 + 1 + 1, 2, none⟩ = some (.int .u64 0) := by rw [← hW]; simp [go_sem]
  have bW : Below w.heap.size w W := by rw [← hW]; exact (sp_new (sp_new (sp_new (sp_new (Below.refl _ _) _) _) _) _)
  have zW : W.heap.size = w.heap.size + 4 := by rw [← hW]; simp
  have fr : ∀ j, W.frozen? ⟨w.heap.size + 1 + 1, j, none⟩ = false := by intro j; rw [← hW]; simp [go_sem]
  have fs : ∀ j, W.frozen? ⟨w.heap.size + 1 + 1 + 1, j, none⟩ = false := by intro j; rw [← hW]; simp [go_sem]
  rw [hW]
  clear hW
  replace zW := Nat.le_of_eq zW.symm
  have hall : ∀ X, Below W.heap.size W X → X.cell? ⟨w.heap.size, 0, none⟩ = some (.bool e1) ∧ X.cell? ⟨w.heap.size, 1, none⟩ = some (.int .u64 a) ∧ X.cell? ⟨w.heap.size, 2, none⟩ = some (.int .u64 b) ∧ X.cell? ⟨w.heap.size + 1, 0, none⟩ = some (.bool e2) ∧ X.cell? ⟨w.heap.size + 1, 1, none⟩ = some (.int .u64 c) ∧ X.cell? ⟨w.heap.size + 1, 2, none⟩ = some (.int .u64 d) := fun X cc => ⟨sO cc a0, sO cc a1, sO cc a2, sO cc b0, sO cc b1, sO cc b2⟩
  have cc : Below W.heap.size W W.drew := (Below.refl _ _).drew
  go_cut [10, 11] from 12 to 22 (fun s u X => ∃ (W3 : World) (b8 b9 : Nat), W3 = X ∧ s = .pointer (some ⟨b8, 0, none⟩) ∧ u = .pointer (some ⟨b9, 0, none⟩) ∧ X.heap[b8]? = some (Obj.cells #[.bool pe, .int .u64 pl, .int .u64 ph] 97 (0, 0)) ∧ X.heap[b9]? = some (Obj.cells #[.bool qe, .int .u64 ql, .int .u64 qh] 97 (0, 0)) ∧ W.heap.size ≤ b8 ∧ W.heap.size ≤ b9 ∧ Below W.heap.size W X)
  case first =>
   refine wp_region_held_drew (S := (fun w' => w'.cell? ⟨w.heap.size, 0, none⟩ = some (.bool e1) ∧ w'.cell? ⟨w.heap.size, 1, none⟩ = some (.int .u64 a) ∧ w'.cell? ⟨w.heap.size, 2, none⟩ = some (.int .u64 b) ∧ w'.cell? ⟨w.heap.size + 1, 0, none⟩ = some (.bool e2) ∧ w'.cell? ⟨w.heap.size + 1, 1, none⟩ = some (.int .u64 c) ∧ w'.cell? ⟨w.heap.size + 1, 2, none⟩ = some (.int .u64 d))) (by kernel_rfl) (hall _ cc) (fun hH => ?_)
   refine wpAnyH_take (i := 0) (oi := _) (v := .int .i64 f) rfl (by kernel_rfl) (by kernel_rfl) (by kernel_rfl) (fun _ _ _ h => h) (Or.inl ⟨by rfl, fun w' hSw => by obtain ⟨za0, za1, za2, zb0, zb1, zb2⟩ := hSw; go_simp⟩) hH ?_
   simp only [Act.put, gA, gB, gC, gD, gE, gG]
   refine wpAnyH_take (i := 2) (oi := _) (v := .int .i64 op) rfl (by kernel_rfl) (by kernel_rfl) (by kernel_rfl) (fun _ _ _ h => h) (Or.inl ⟨by rfl, fun w' hSw => by obtain ⟨za0, za1, za2, zb0, zb1, zb2⟩ := hSw; go_simp⟩) hH ?_
   simp only [Act.put, gA, gB, gC, gD, gE, gG]
   refine wpAnyH_take (i := 3) (oi := _) (v := .agg #[.bool e1, .int .u64 a, .int .u64 b]) rfl (by kernel_rfl) (by kernel_rfl) (by kernel_rfl) (fun _ _ _ h => h) (Or.inl ⟨by rfl, fun w' hSw => by obtain ⟨za0, za1, za2, zb0, zb1, zb2⟩ := hSw; go_simp⟩) hH ?_
   simp only [Act.put, gA, gB, gC, gD, gE, gG]
   refine wpAnyH_take (i := 5) (oi := _) (v := .agg #[.bool e2, .int .u64 c, .int .u64 d]) rfl (by kernel_rfl) (by kernel_rfl) (by kernel_rfl) (fun _ _ _ h => h) (Or.inl ⟨by rfl, fun w' hSw => by obtain ⟨za0, za1, za2, zb0, zb1, zb2⟩ := hSw; go_simp⟩) hH ?_
   simp only [Act.put, gA, gB, gC, gD, gE, gG]
   generalize hY : W.drew = Y0 at *
   clear hY
   refine wpAnyH_ready (rs := [1, 11, 12]) (by kernel_rfl) (by simp) (AllReadyH.cons (o := _) rfl (fun K hK => ?_) (AllReadyH.cons (o := _) rfl (fun K hK => ?_) (AllReadyH.cons (o := _) rfl (fun K hK => ?_) AllReadyH.nil)))
   ·skip
    go_simp
    refine (h1 _).mono ?_
    rintro e Y1 ⟨L, rfl, hL, g⟩
    have oL : Below Y1.heap.size Y1 Y1 := Below.refl _ _
    replace cc := sp_call cc g
    clear g
    go_wp2_with fail
    refine hK.out _ _ (hall _ cc) (fun hH => ?_)
    clear hK K
    try simp only [Act.put, gA, gB, gC, gD, gE, gG]
    refine wpAnyH_ready (rs := [4, 11, 12]) (by kernel_rfl) (by simp) (AllReadyH.cons (o := _) rfl (fun K hK => ?_) (AllReadyH.cons (o := _) rfl (fun K hK => ?_) (AllReadyH.cons (o := _) rfl (fun K hK => ?_) AllReadyH.nil)))
    ·skip
     go_simp
     refine (ho1 _ _ _ _).mono ?_
     rintro e Y2 ⟨rfl, g⟩
     replace oL := sp_call oL g
     replace cc := sp_call cc g
     clear g
     go_wp2_with fail
     refine hK.out _ _ (hall _ cc) (fun hH => ?_)
     clear hK K
     try simp only [Act.put, gA, gB, gC, gD, gE, gG]
     refine wpAnyH_ready (rs := [6, 11, 12]) (by kernel_rfl) (by simp) (AllReadyH.cons (o := _) rfl (fun K hK => ?_) (AllReadyH.cons (o := _) rfl (fun K hK => ?_) (AllReadyH.cons (o := _) rfl (fun K hK => ?_) AllReadyH.nil)))
     ·skip
      go_simp
      refine (ho1 _ _ _ _).mono ?_
      rintro e Y3 ⟨rfl, g⟩
      replace oL := sp_call oL g
      replace cc := sp_call cc g
      clear g
      go_wp2_with fail
      refine hK.out _ _ (hall _ cc) (fun hH => ?_)
      clear hK K
      try simp only [Act.put, gA, gB, gC, gD, gE, gG]
      refine wpAnyH_ready (rs := [7, 11, 12]) (by kernel_rfl) (by simp) (AllReadyH.cons (o := _) rfl (fun K hK => ?_) (AllReadyH.cons (o := _) rfl (fun K hK => ?_) (AllReadyH.cons (o := _) rfl (fun K hK => ?_) AllReadyH.nil)))
      ·skip
       go_simp
       refine (h L _ _ hL _ oL).mono ?_
       rintro e Y4 ⟨rfl, g⟩
       clear oL hL
       replace cc := sp_call cc g
       clear g
       go_wp2_with fail
       refine hK.out _ _ (hall _ cc) (fun hH => ?_)
       clear hK K
       try simp only [Act.put, gA, gB, gC, gD, gE, gG]
       refine wpAnyH_take (i := 8) (oi := _) (v := .tuple #[.agg #[.bool pe, .int .u64 pl, .int .u64 ph], .agg #[.bool qe, .int .u64 ql, .int .u64 qh]]) rfl (by kernel_rfl) (by kernel_rfl) (by kernel_rfl) (fun _ _ _ h => h) (Or.inl ⟨by rfl, fun w' hSw => by obtain ⟨za0, za1, za2, zb0, zb1, zb2⟩ := hSw; go_simp⟩) hH ?_
       simp only [Act.put, gA, gB, gC, gD, gE, gG]
       refine wpAnyH_take (i := 9) (oi := _) (v := .agg #[.bool pe, .int .u64 pl, .int .u64 ph]) rfl (by kernel_rfl) (by kernel_rfl) (by kernel_rfl) (fun _ _ _ h => h) (Or.inl ⟨by rfl, fun w' hSw => by obtain ⟨za0, za1, za2, zb0, zb1, zb2⟩ := hSw; go_simp⟩) hH ?_
       simp only [Act.put, gA, gB, gC, gD, gE, gG]
       refine wpAnyH_take (i := 10) (oi := _) (v := .agg #[.bool qe, .int .u64 ql, .int .u64 qh]) rfl (by kernel_rfl) (by kernel_rfl) (by kernel_rfl) (fun _ _ _ h => h) (Or.inl ⟨by rfl, fun w' hSw => by obtain ⟨za0, za1, za2, zb0, zb1, zb2⟩ := hSw; go_simp⟩) hH ?_
       simp only [Act.put, gA, gB, gC, gD, gE, gG]
       refine wpAnyH_ready (rs := [11, 12]) (by kernel_rfl) (by simp) (AllReadyH.cons (o := _) rfl (fun K hK => ?_) (AllReadyH.cons (o := _) rfl (fun K hK => ?_) AllReadyH.nil))
       ·skip
        go_simp
        have zzY4 := cc.size
        have qa := World.alloc_heap_new Y4 (Obj.cells #[.bool false, .int .u64 0, .int .u64 0] 97 (0, 0))
        replace cc := sp_new cc (Obj.cells #[.bool false, .int .u64 0, .int .u64 0] 97 (0, 0))
        generalize hY : Y4.alloc (Obj.cells #[.bool false, .int .u64 0, .int .u64 0] 97 (0, 0)) = Y5 at *
        clear hY
        refine hK.out _ _ (hall _ cc) (fun hH => ?_)
        clear hK K
        try simp only [Act.put, gA, gB, gC, gD, gE, gG]
        refine wpAnyH_ready (rs := [12]) (by kernel_rfl) (by simp) (AllReadyH.cons (o := _) rfl (fun K hK => ?_) AllReadyH.nil)
        ·skip
         go_simp
         have zzY5 := cc.size
         have neqb : Y4.heap.size ≠ Y5.heap.size := Nat.ne_of_lt (rw_lt qa)
         replace qa := rw_old qa (Obj.cells #[.bool false, .int .u64 0, .int .u64 0] 97 (0, 0))
         have qb := World.alloc_heap_new Y5 (Obj.cells #[.bool false, .int .u64 0, .int .u64 0] 97 (0, 0))
         replace cc := sp_new cc (Obj.cells #[.bool false, .int .u64 0, .int .u64 0] 97 (0, 0))
         generalize hY : Y5.alloc (Obj.cells #[.bool false, .int .u64 0, .int .u64 0] 97 (0, 0)) = Y6 at *
         clear hY
         refine hK.out _ _ (hall _ cc) (fun hH => ?_)
         clear hK K
         try simp only [Act.put, gA, gB, gC, gD, gE, gG]
         refine wpAnyH_ready (rs := [13]) (by kernel_rfl) (by simp) (AllReadyH.cons (o := _) rfl (fun K hK => ?_) AllReadyH.nil)
         ·skip
          obtain ⟨q0, q1, q2, qf⟩ := rw_cells3 qa
          go_simp
          clear q0 q1 q2 qf
          replace qb := rw_far3 (b := Y4.heap.size) qb (.bool pe) (.int .u64 pl) (.int .u64 ph) (by first | assumption | exact Ne.symm (by assumption))
          replace qa := rw_set3 qa (.bool pe) (.int .u64 pl) (.int .u64 ph)
          replace cc := sp_set3 (b := Y4.heap.size) cc zzY4 (.bool pe) (.int .u64 pl) (.int .u64 ph)
          generalize hY : (((Y6.setCell ⟨Y4.heap.size, 0, none⟩ (.bool pe)).setCell ⟨Y4.heap.size, 1, none⟩ (.int .u64 pl)).setCell ⟨Y4.heap.size, 2, none⟩ (.int .u64 ph)) = Y7 at *
          clear hY
          refine hK.out _ _ (hall _ cc) (fun hH => ?_)
          clear hK K
          try simp only [Act.put, gA, gB, gC, gD, gE, gG]
          refine wpAnyH_ready (rs := [14]) (by kernel_rfl) (by simp) (AllReadyH.cons (o := _) rfl (fun K hK => ?_) AllReadyH.nil)
          ·skip
           obtain ⟨q0, q1, q2, qf⟩ := rw_cells3 qb
           go_simp
           clear q0 q1 q2 qf
           replace qa := rw_far3 (b := Y5.heap.size) qa (.bool qe) (.int .u64 ql) (.int .u64 qh) (by first | assumption | exact Ne.symm (by assumption))
           replace qb := rw_set3 qb (.bool qe) (.int .u64 ql) (.int .u64 qh)
           replace cc := sp_set3 (b := Y5.heap.size) cc zzY5 (.bool qe) (.int .u64 ql) (.int .u64 qh)
           generalize hY : (((Y7.setCell ⟨Y5.heap.size, 0, none⟩ (.bool qe)).setCell ⟨Y5.heap.size, 1, none⟩ (.int .u64 ql)).setCell ⟨Y5.heap.size, 2, none⟩ (.int .u64 qh)) = Y8 at *
           clear hY
           refine hK.out _ _ (hall _ cc) (fun hH => ?_)
           clear hK K
           try simp only [Act.put, gA, gB, gC, gD, gE, gG]
           refine wpAnyH_done (by kernel_rfl) ?_ _
           go_wp2_with fail
           go_meet
           exact ⟨_, _, _, rfl, rfl, rfl, qa, qb, zzY4, zzY5, cc⟩
       ·skip
        go_simp
        have zzY4 := cc.size
        have qb := World.alloc_heap_new Y4 (Obj.cells #[.bool false, .int .u64 0, .int .u64 0] 97 (0, 0))
        replace cc := sp_new cc (Obj.cells #[.bool false, .int .u64 0, .int .u64 0] 97 (0, 0))
        generalize hY : Y4.alloc (Obj.cells #[.bool false, .int .u64 0, .int .u64 0] 97 (0, 0)) = Y9 at *
        clear hY
        refine hK.out _ _ (hall _ cc) (fun hH => ?_)
        clear hK K
        try simp only [Act.put, gA, gB, gC, gD, gE, gG]
        refine wpAnyH_ready (rs := [11]) (by kernel_rfl) (by simp) (AllReadyH.cons (o := _) rfl (fun K hK => ?_) AllReadyH.nil)
        ·skip
         go_simp
         have zzY9 := cc.size
         have neqa : Y4.heap.size ≠ Y9.heap.size := Nat.ne_of_lt (rw_lt qb)
         replace qb := rw_old qb (Obj.cells #[.bool false, .int .u64 0, .int .u64 0] 97 (0, 0))
         have qa := World.alloc_heap_new Y9 (Obj.cells #[.bool false, .int .u64 0, .int .u64 0] 97 (0, 0))
         replace cc := sp_new cc (Obj.cells #[.bool false, .int .u64 0, .int .u64 0] 97 (0, 0))
         generalize hY : Y9.alloc (Obj.cells #[.bool false, .int .u64 0, .int .u64 0] 97 (0, 0)) = Y10 at *
         clear hY
         refine hK.out _ _ (hall _ cc) (fun hH => ?_)
         clear hK K
         try simp only [Act.put, gA, gB, gC, gD, gE, gG]
         refine wpAnyH_ready (rs := [13]) (by kernel_rfl) (by simp) (AllReadyH.cons (o := _) rfl (fun K hK => ?_) AllReadyH.nil)
         ·skip
          obtain ⟨q0, q1, q2, qf⟩ := rw_cells3 qa
          go_simp
          clear q0 q1 q2 qf
          replace qb := rw_far3 (b := Y9.heap.size) qb (.bool pe) (.int .u64 pl) (.int .u64 ph) (by first | assumption | exact Ne.symm (by assumption))
          replace qa := rw_set3 qa (.bool pe) (.int .u64 pl) (.int .u64 ph)
          replace cc := sp_set3 (b := Y9.heap.size) cc zzY9 (.bool pe) (.int .u64 pl) (.int .u64 ph)
          generalize hY : (((Y10.setCell ⟨Y9.heap.size, 0, none⟩ (.bool pe)).setCell ⟨Y9.heap.size, 1, none⟩ (.int .u64 pl)).setCell ⟨Y9.heap.size, 2, none⟩ (.int .u64 ph)) = Y11 at *
          clear hY
          refine hK.out _ _ (hall _ cc) (fun hH => ?_)
          clear hK K
          try simp only [Act.put, gA, gB, gC, gD, gE, gG]
          refine wpAnyH_ready (rs := [14]) (by kernel_rfl) (by simp) (AllReadyH.cons (o := _) rfl (fun K hK => ?_) AllReadyH.nil)
          ·skip
           obtain ⟨q0, q1, q2, qf⟩ := rw_cells3 qb
           go_simp
           clear q0 q1 q2 qf
           replace qa := rw_far3 (b := Y4.heap.size) qa (.bool qe) (.int .u64 ql) (.int .u64 qh) (by first | assumption | exact Ne.symm (by assumption))
           replace qb := rw_set3 qb (.bool qe) (.int .u64 ql) (.int .u64 qh)
           replace cc := sp_set3 (b := Y4.heap.size) cc zzY4 (.bool qe) (.int .u64 ql) (.int .u64 qh)
           generalize hY : (((Y11.setCell ⟨Y4.heap.size, 0, none⟩ (.bool qe)).setCell ⟨Y4.heap.size, 1, none⟩ (.int .u64 ql)).setCell ⟨Y4.heap.size, 2, none⟩ (.int .u64 qh)) = Y12 at *
           clear hY
           refine hK.out _ _ (hall _ cc) (fun hH => ?_)
           clear hK K
           try simp only [Act.put, gA, gB, gC, gD, gE, gG]
           refine wpAnyH_done (by kernel_rfl) ?_ _
           go_wp2_with fail
           go_meet
           exact ⟨_, _, _, rfl, rfl, rfl, qa, qb, zzY9, zzY4, cc⟩
      ·skip
       go_simp
       have zzY3 := cc.size
       have qa := World.alloc_heap_new Y3 (Obj.cells #[.bool false, .int .u64 0, .int .u64 0] 97 (0, 0))
       replace cc := sp_new cc (Obj.cells #[.bool false, .int .u64 0, .int .u64 0] 97 (0, 0))
       replace oL := sp_new oL (Obj.cells #[.bool false, .int .u64 0, .int .u64 0] 97 (0, 0))
       generalize hY : Y3.alloc (Obj.cells #[.bool false, .int .u64 0, .int .u64 0] 97 (0, 0)) = Y13 at *
       clear hY
       refine hK.out _ _ (hall _ cc) (fun hH => ?_)
       clear hK K
       try simp only [Act.put, gA, gB, gC, gD, gE, gG]
       refine wpAnyH_ready (rs := [7, 12]) (by kernel_rfl) (by simp) (AllReadyH.cons (o := _) rfl (fun K hK => ?_) (AllReadyH.cons (o := _) rfl (fun K hK => ?_) AllReadyH.nil))
       ·skip
        go_simp
        refine (h L _ _ hL _ oL).mono ?_
        rintro e Y14 ⟨rfl, g⟩
        clear oL hL
        replace cc := sp_call cc g
        replace qa := carryF g qa
        clear g
        go_wp2_with fail
        refine hK.out _ _ (hall _ cc) (fun hH => ?_)
        clear hK K
        try simp only [Act.put, gA, gB, gC, gD, gE, gG]
        refine wpAnyH_take (i := 8) (oi := _) (v := .tuple #[.agg #[.bool pe, .int .u64 pl, .int .u64 ph], .agg #[.bool qe, .int .u64 ql, .int .u64 qh]]) rfl (by kernel_rfl) (by kernel_rfl) (by kernel_rfl) (fun _ _ _ h => h) (Or.inl ⟨by rfl, fun w' hSw => by obtain ⟨za0, za1, za2, zb0, zb1, zb2⟩ := hSw; go_simp⟩) hH ?_
        simp only [Act.put, gA, gB, gC, gD, gE, gG]
        refine wpAnyH_take (i := 9) (oi := _) (v := .agg #[.bool pe, .int .u64 pl, .int .u64 ph]) rfl (by kernel_rfl) (by kernel_rfl) (by kernel_rfl) (fun _ _ _ h => h) (Or.inl ⟨by rfl, fun w' hSw => by obtain ⟨za0, za1, za2, zb0, zb1, zb2⟩ := hSw; go_simp⟩) hH ?_
        simp only [Act.put, gA, gB, gC, gD, gE, gG]
        refine wpAnyH_take (i := 10) (oi := _) (v := .agg #[.bool qe, .int .u64 ql, .int .u64 qh]) rfl (by kernel_rfl) (by kernel_rfl) (by kernel_rfl) (fun _ _ _ h => h) (Or.inl ⟨by rfl, fun w' hSw => by obtain ⟨za0, za1, za2, zb0, zb1, zb2⟩ := hSw; go_simp⟩) hH ?_
        simp only [Act.put, gA, gB, gC, gD, gE, gG]
        refine wpAnyH_ready (rs := [12]) (by kernel_rfl) (by simp) (AllReadyH.cons (o := _) rfl (fun K hK => ?_) AllReadyH.nil)
        ·skip
         go_simp
         have zzY14 := cc.size
         have neqb : Y3.heap.size ≠ Y14.heap.size := Nat.ne_of_lt (rw_lt qa)
         replace qa := rw_old qa (Obj.cells #[.bool false, .int .u64 0, .int .u64 0] 97 (0, 0))
         have qb := World.alloc_heap_new Y14 (Obj.cells #[.bool false, .int .u64 0, .int .u64 0] 97 (0, 0))
         replace cc := sp_new cc (Obj.cells #[.bool false, .int .u64 0, .int .u64 0] 97 (0, 0))
         generalize hY : Y14.alloc (Obj.cells #[.bool false, .int .u64 0, .int .u64 0] 97 (0, 0)) = Y15 at *
         clear hY
         refine hK.out _ _ (hall _ cc) (fun hH => ?_)
         clear hK K
         try simp only [Act.put, gA, gB, gC, gD, gE, gG]
         refine wpAnyH_ready (rs := [13]) (by kernel_rfl) (by simp) (AllReadyH.cons (o := _) rfl (fun K hK => ?_) AllReadyH.nil)
         ·skip
          obtain ⟨q0, q1, q2, qf⟩ := rw_cells3 qa
          go_simp
          clear q0 q1 q2 qf
          replace qb := rw_far3 (b := Y3.heap.size) qb (.bool pe) (.int .u64 pl) (.int .u64 ph) (by first | assumption | exact Ne.symm (by assumption))
          replace qa := rw_set3 qa (.bool pe) (.int .u64 pl) (.int .u64 ph)
          replace cc := sp_set3 (b := Y3.heap.size) cc zzY3 (.bool pe) (.int .u64 pl) (.int .u64 ph)
          generalize hY : (((Y15.setCell ⟨Y3.heap.size, 0, none⟩ (.bool pe)).setCell ⟨Y3.heap.size, 1, none⟩ (.int .u64 pl)).setCell ⟨Y3.heap.size, 2, none⟩ (.int .u64 ph)) = Y16 at *
          clear hY
          refine hK.out _ _ (hall _ cc) (fun hH => ?_)
          clear hK K
          try simp only [Act.put, gA, gB, gC, gD, gE, gG]
          refine wpAnyH_ready (rs := [14]) (by kernel_rfl) (by simp) (AllReadyH.cons (o := _) rfl (fun K hK => ?_) AllReadyH.nil)
          ·skip
           obtain ⟨q0, q1, q2, qf⟩ := rw_cells3 qb
           go_simp
           clear q0 q1 q2 qf
           replace qa := rw_far3 (b := Y14.heap.size) qa (.bool qe) (.int .u64 ql) (.int .u64 qh) (by first | assumption | exact Ne.symm (by assumption))
           replace qb := rw_set3 qb (.bool qe) (.int .u64 ql) (.int .u64 qh)
           replace cc := sp_set3 (b := Y14.heap.size) cc zzY14 (.bool qe) (.int .u64 ql) (.int .u64 qh)
           generalize hY : (((Y16.setCell ⟨Y14.heap.size, 0, none⟩ (.bool qe)).setCell ⟨Y14.heap.size, 1, none⟩ (.int .u64 ql)).setCell ⟨Y14.heap.size, 2, none⟩ (.int .u64 qh)) = Y17 at *
           clear hY
           refine hK.out _ _ (hall _ cc) (fun hH => ?_)
           clear hK K
           try simp only [Act.put, gA, gB, gC, gD, gE, gG]
           refine wpAnyH_done (by kernel_rfl) ?_ _
           go_wp2_with fail
           go_meet
           exact ⟨_, _, _, rfl, rfl, rfl, qa, qb, zzY3, zzY14, cc⟩
       ·skip
        go_simp
        have zzY13 := cc.size
        have neqb : Y3.heap.size ≠ Y13.heap.size := Nat.ne_of_lt (rw_lt qa)
        replace qa := rw_old qa (Obj.cells #[.bool false, .int .u64 0, .int .u64 0] 97 (0, 0))
        have qb := World.alloc_heap_new Y13 (Obj.cells #[.bool false, .int .u64 0, .int .u64 0] 97 (0, 0))
        replace cc := sp_new cc (Obj.cells #[.bool false, .int .u64 0, .int .u64 0] 97 (0, 0))
        replace oL := sp_new oL (Obj.cells #[.bool false, .int .u64 0, .int .u64 0] 97 (0, 0))
        generalize hY : Y13.alloc (Obj.cells #[.bool false, .int .u64 0, .int .u64 0] 97 (0, 0)) = Y18 at *
        clear hY
        refine hK.out _ _ (hall _ cc) (fun hH => ?_)
        clear hK K
        try simp only [Act.put, gA, gB, gC, gD, gE, gG]
        refine wpAnyH_ready (rs := [7]) (by kernel_rfl) (by simp) (AllReadyH.cons (o := _) rfl (fun K hK => ?_) AllReadyH.nil)
        ·skip
         go_simp
         refine (h L _ _ hL _ oL).mono ?_
         rintro e Y19 ⟨rfl, g⟩
         clear oL hL
         replace cc := sp_call cc g
         replace qa := carryF g qa
         replace qb := carryF g qb
         clear g
         go_wp2_with fail
         refine hK.out _ _ (hall _ cc) (fun hH => ?_)
         clear hK K
         try simp only [Act.put, gA, gB, gC, gD, gE, gG]
         refine wpAnyH_take (i := 8) (oi := _) (v := .tuple #[.agg #[.bool pe, .int .u64 pl, .int .u64 ph], .agg #[.bool qe, .int .u64 ql, .int .u64 qh]]) rfl (by kernel_rfl) (by kernel_rfl) (by kernel_rfl) (fun _ _ _ h => h) (Or.inl ⟨by rfl, fun w' hSw => by obtain ⟨za0, za1, za2, zb0, zb1, zb2⟩ := hSw; go_simp⟩) hH ?_
         simp only [Act.put, gA, gB, gC, gD, gE, gG]
         refine wpAnyH_take (i := 9) (oi := _) (v := .agg #[.bool pe, .int .u64 pl, .int .u64 ph]) rfl (by kernel_rfl) (by kernel_rfl) (by kernel_rfl) (fun _ _ _ h => h) (Or.inl ⟨by rfl, fun w' hSw => by obtain ⟨za0, za1, za2, zb0, zb1, zb2⟩ := hSw; go_simp⟩) hH ?_
         simp only [Act.put, gA, gB, gC, gD, gE, gG]
         refine wpAnyH_take (i := 10) (oi := _) (v := .agg #[.bool qe, .int .u64 ql, .int .u64 qh]) rfl (by kernel_rfl) (by kernel_rfl) (by kernel_rfl) (fun _ _ _ h => h) (Or.inl ⟨by rfl, fun w' hSw => by obtain ⟨za0, za1, za2, zb0, zb1, zb2⟩ := hSw; go_simp⟩) hH ?_
         simp only [Act.put, gA, gB, gC, gD, gE, gG]
         refine wpAnyH_ready (rs := [13]) (by kernel_rfl) (by simp) (AllReadyH.cons (o := _) rfl (fun K hK => ?_) AllReadyH.nil)
         ·skip
          obtain ⟨q0, q1, q2, qf⟩ := rw_cells3 qa
          go_simp
          clear q0 q1 q2 qf
          replace qb := rw_far3 (b := Y3.heap.size) qb (.bool pe) (.int .u64 pl) (.int .u64 ph) (by first | assumption | exact Ne.symm (by assumption))
          replace qa := rw_set3 qa (.bool pe) (.int .u64 pl) (.int .u64 ph)
          replace cc := sp_set3 (b := Y3.heap.size) cc zzY3 (.bool pe) (.int .u64 pl) (.int .u64 ph)
          generalize hY : (((Y19.setCell ⟨Y3.heap.size, 0, none⟩ (.bool pe)).setCell ⟨Y3.heap.size, 1, none⟩ (.int .u64 pl)).setCell ⟨Y3.heap.size, 2, none⟩ (.int .u64 ph)) = Y20 at *
          clear hY
          refine hK.out _ _ (hall _ cc) (fun hH => ?_)
          clear hK K
          try simp only [Act.put, gA, gB, gC, gD, gE, gG]
          refine wpAnyH_ready (rs := [14]) (by kernel_rfl) (by simp) (AllReadyH.cons (o := _) rfl (fun K hK => ?_) AllReadyH.nil)
          ·skip
           obtain ⟨q0, q1, q2, qf⟩ := rw_cells3 qb
           go_simp
           clear q0 q1 q2 qf
           replace qa := rw_far3 (b := Y13.heap.size) qa (.bool qe) (.int .u64 ql) (.int .u64 qh) (by first | assumption | exact Ne.symm (by assumption))
           replace qb := rw_set3 qb (.bool qe) (.int .u64 ql) (.int .u64 qh)
           replace cc := sp_set3 (b := Y13.heap.size) cc zzY13 (.bool qe) (.int .u64 ql) (.int .u64 qh)
           generalize hY : (((Y20.setCell ⟨Y13.heap.size, 0, none⟩ (.bool qe)).setCell ⟨Y13.heap.size, 1, none⟩ (.int .u64 ql)).setCell ⟨Y13.heap.size, 2, none⟩ (.int .u64 qh)) = Y21 at *
           clear hY
           refine hK.out _ _ (hall _ cc) (fun hH => ?_)
           clear hK K
           try simp only [Act.put, gA, gB, gC, gD, gE, gG]
           refine wpAnyH_done (by kernel_rfl) ?_ _
           go_wp2_with fail
           go_meet
           exact ⟨_, _, _, rfl, rfl, rfl, qa, qb, zzY3, zzY13, cc⟩
      ·skip
       go_simp
       have zzY3 := cc.size
       have qb := World.alloc_heap_new Y3 (Obj.cells #[.bool false, .int .u64 0, .int .u64 0] 97 (0, 0))
       replace cc := sp_new cc (Obj.cells #[.bool false, .int .u64 0, .int .u64 0] 97 (0, 0))
       replace oL := sp_new oL (Obj.cells #[.bool false, .int .u64 0, .int .u64 0] 97 (0, 0))
       generalize hY : Y3.alloc (Obj.cells #[.bool false, .int .u64 0, .int .u64 0] 97 (0, 0)) = Y22 at *
       clear hY
       refine hK.out _ _ (hall _ cc) (fun hH => ?_)
       clear hK K
       try simp only [Act.put, gA, gB, gC, gD, gE, gG]
       refine wpAnyH_ready (rs := [7, 11]) (by kernel_rfl) (by simp) (AllReadyH.cons (o := _) rfl (fun K hK => ?_) (AllReadyH.cons (o := _) rfl (fun K hK => ?_) AllReadyH.nil))
       ·skip
        go_simp
        refine (h L _ _ hL _ oL).mono ?_
        rintro e Y23 ⟨rfl, g⟩
        clear oL hL
        replace cc := sp_call cc g
        replace qb := carryF g qb
        clear g
        go_wp2_with fail
        refine hK.out _ _ (hall _ cc) (fun hH => ?_)
        clear hK K
        try simp only [Act.put, gA, gB, gC, gD, gE, gG]
        refine wpAnyH_take (i := 8) (oi := _) (v := .tuple #[.agg #[.bool pe, .int .u64 pl, .int .u64 ph], .agg #[.bool qe, .int .u64 ql, .int .u64 qh]]) rfl (by kernel_rfl) (by kernel_rfl) (by kernel_rfl) (fun _ _ _ h => h) (Or.inl ⟨by rfl, fun w' hSw => by obtain ⟨za0, za1, za2, zb0, zb1, zb2⟩ := hSw; go_simp⟩) hH ?_
        simp only [Act.put, gA, gB, gC, gD, gE, gG]
        refine wpAnyH_take (i := 9) (oi := _) (v := .agg #[.bool pe, .int .u64 pl, .int .u64 ph]) rfl (by kernel_rfl) (by kernel_rfl) (by kernel_rfl) (fun _ _ _ h => h) (Or.inl ⟨by rfl, fun w' hSw => by obtain ⟨za0, za1, za2, zb0, zb1, zb2⟩ := hSw; go_simp⟩) hH ?_
        simp only [Act.put, gA, gB, gC, gD, gE, gG]
        refine wpAnyH_take (i := 10) (oi := _) (v := .agg #[.bool qe, .int .u64 ql, .int .u64 qh]) rfl (by kernel_rfl) (by kernel_rfl) (by kernel_rfl) (fun _ _ _ h => h) (Or.inl ⟨by rfl, fun w' hSw => by obtain ⟨za0, za1, za2, zb0, zb1, zb2⟩ := hSw; go_simp⟩) hH ?_
        simp only [Act.put, gA, gB, gC, gD, gE, gG]
        refine wpAnyH_ready (rs := [11]) (by kernel_rfl) (by simp) (AllReadyH.cons (o := _) rfl (fun K hK => ?_) AllReadyH.nil)
        ·skip
         go_simp
         have zzY23 := cc.size
         have neqa : Y3.heap.size ≠ Y23.heap.size := Nat.ne_of_lt (rw_lt qb)
         replace qb := rw_old qb (Obj.cells #[.bool false, .int .u64 0, .int .u64 0] 97 (0, 0))
         have qa := World.alloc_heap_new Y23 (Obj.cells #[.bool false, .int .u64 0, .int .u64 0] 97 (0, 0))
         replace cc := sp_new cc (Obj.cells #[.bool false, .int .u64 0, .int .u64 0] 97 (0, 0))
         generalize hY : Y23.alloc (Obj.cells #[.bool false, .int .u64 0, .int .u64 0] 97 (0, 0)) = Y24 at *
         clear hY
         refine hK.out _ _ (hall _ cc) (fun hH => ?_)
         clear hK K
         try simp only [Act.put, gA, gB, gC, gD, gE, gG]
         refine wpAnyH_ready (rs := [13]) (by kernel_rfl) (by simp) (AllReadyH.cons (o := _) rfl (fun K hK => ?_) AllReadyH.nil)
         ·skip
          obtain ⟨q0, q1, q2, qf⟩ := rw_cells3 qa
          go_simp
          clear q0 q1 q2 qf
          replace qb := rw_far3 (b := Y23.heap.size) qb (.bool pe) (.int .u64 pl) (.int .u64 ph) (by first | assumption | exact Ne.symm (by assumption))
          replace qa := rw_set3 qa (.bool pe) (.int .u64 pl) (.int .u64 ph)
          replace cc := sp_set3 (b := Y23.heap.size) cc zzY23 (.bool pe) (.int .u64 pl) (.int .u64 ph)
          generalize hY : (((Y24.setCell ⟨Y23.heap.size, 0, none⟩ (.bool pe)).setCell ⟨Y23.heap.size, 1, none⟩ (.int .u64 pl)).setCell ⟨Y23.heap.size, 2, none⟩ (.int .u64 ph)) = Y25 at *
          clear hY
          refine hK.out _ _ (hall _ cc) (fun hH => ?_)
          clear hK K
          try simp only [Act.put, gA, gB, gC, gD, gE, gG]
          refine wpAnyH_ready (rs := [14]) (by kernel_rfl) (by simp) (AllReadyH.cons (o := _) rfl (fun K hK => ?_) AllReadyH.nil)
          ·skip
           obtain ⟨q0, q1, q2, qf⟩ := rw_cells3 qb
           go_simp
           clear q0 q1 q2 qf
           replace qa := rw_far3 (b := Y3.heap.size) qa (.bool qe) (.int .u64 ql) (.int .u64 qh) (by first | assumption | exact Ne.symm (by assumption))
           replace qb := rw_set3 qb (.bool qe) (.int .u64 ql) (.int .u64 qh)
           replace cc := sp_set3 (b := Y3.heap.size) cc zzY3 (.bool qe) (.int .u64 ql) (.int .u64 qh)
           generalize hY : (((Y25.setCell ⟨Y3.heap.size, 0, none⟩ (.bool qe)).setCell ⟨Y3.heap.size, 1, none⟩ (.int .u64 ql)).setCell ⟨Y3.heap.size, 2, none⟩ (.int .u64 qh)) = Y26 at *
           clear hY
           refine hK.out _ _ (hall _ cc) (fun hH => ?_)
           clear hK K
           try simp only [Act.put, gA, gB, gC, gD, gE, gG]
           refine wpAnyH_done (by kernel_rfl) ?_ _
           go_wp2_with fail
           go_meet
           exact ⟨_, _, _, rfl, rfl, rfl, qa, qb, zzY23, zzY3, cc⟩
       ·skip
        go_simp
        have zzY22 := cc.size
        have neqa : Y3.heap.size ≠ Y22.heap.size := Nat.ne_of_lt (rw_lt qb)
        replace qb := rw_old qb (Obj.cells #[.bool false, .int .u64 0, .int .u64 0] 97 (0, 0))
        have qa := World.alloc_heap_new Y22 (Obj.cells #[.bool false, .int .u64 0, .int .u64 0] 97 (0, 0))
        replace cc := sp_new cc (Obj.cells #[.bool false, .int .u64 0, .int .u64 0] 97 (0, 0))
        replace oL := sp_new oL (Obj.cells #[.bool false, .int .u64 0, .int .u64 0] 97 (0, 0))
        generalize hY : Y22.alloc (Obj.cells #[.bool false, .int .u64 0, .int .u64 0] 97 (0, 0)) = Y27 at *
        clear hY
        refine hK.out _ _ (hall _ cc) (fun hH => ?_)
        clear hK K
        try simp only [Act.put, gA, gB, gC, gD, gE, gG]
        refine wpAnyH_ready (rs := [7]) (by kernel_rfl) (by simp) (AllReadyH.cons (o := _) rfl (fun K hK => ?_) AllReadyH.nil)
        ·skip
         go_simp
         refine (h L _ _ hL _ oL).mono ?_
         rintro e Y28 ⟨rfl, g⟩
         clear oL hL
         replace cc := sp_call cc g
         replace qa := carryF g qa
         replace qb := carryF g qb
         clear g
         go_wp2_with fail
         refine hK.out _ _ (hall _ cc) (fun hH => ?_)
         clear hK K
         try simp only [Act.put, gA, gB, gC, gD, gE, gG]
         refine wpAnyH_take (i := 8) (oi := _) (v := .tuple #[.agg #[.bool pe, .int .u64 pl, .int .u64 ph], .agg #[.bool qe, .int .u64 ql, .int .u64 qh]]) rfl (by kernel_rfl) (by kernel_rfl) (by kernel_rfl) (fun _ _ _ h => h) (Or.inl ⟨by rfl, fun w' hSw => by obtain ⟨za0, za1, za2, zb0, zb1, zb2⟩ := hSw; go_simp⟩) hH ?_
         simp only [Act.put, gA, gB, gC, gD, gE, gG]
         refine wpAnyH_take (i := 9) (oi := _) (v := .agg #[.bool pe, .int .u64 pl, .int .u64 ph]) rfl (by kernel_rfl) (by kernel_rfl) (by kernel_rfl) (fun _ _ _ h => h) (Or.inl ⟨by rfl, fun w' hSw => by obtain ⟨za0, za1, za2, zb0, zb1, zb2⟩ := hSw; go_simp⟩) hH ?_
         simp only [Act.put, gA, gB, gC, gD, gE, gG]
         refine wpAnyH_take (i := 10) (oi := _) (v := .agg #[.bool qe, .int .u64 ql, .int .u64 qh]) rfl (by kernel_rfl) (by kernel_rfl) (by kernel_rfl) (fun _ _ _ h => h) (Or.inl ⟨by rfl, fun w' hSw => by obtain ⟨za0, za1, za2, zb0, zb1, zb2⟩ := hSw; go_simp⟩) hH ?_
         simp only [Act.put, gA, gB, gC, gD, gE, gG]
         refine wpAnyH_ready (rs := [13]) (by kernel_rfl) (by simp) (AllReadyH.cons (o := _) rfl (fun K hK => ?_) AllReadyH.nil)
         ·skip
          obtain ⟨q0, q1, q2, qf⟩ := rw_cells3 qa
          go_simp
          clear q0 q1 q2 qf
          replace qb := rw_far3 (b := Y22.heap.size) qb (.bool pe) (.int .u64 pl) (.int .u64 ph) (by first | assumption | exact Ne.symm (by assumption))
          replace qa := rw_set3 qa (.bool pe) (.int .u64 pl) (.int .u64 ph)
          replace cc := sp_set3 (b := Y22.heap.size) cc zzY22 (.bool pe) (.int .u64 pl) (.int .u64 ph)
          generalize hY : (((Y28.setCell ⟨Y22.heap.size, 0, none⟩ (.bool pe)).setCell ⟨Y22.heap.size, 1, none⟩ (.int .u64 pl)).setCell ⟨Y22.heap.size, 2, none⟩ (.int .u64 ph)) = Y29 at *
          clear hY
          refine hK.out _ _ (hall _ cc) (fun hH => ?_)
          clear hK K
          try simp only [Act.put, gA, gB, gC, gD, gE, gG]
          refine wpAnyH_ready (rs := [14]) (by kernel_rfl) (by simp) (AllReadyH.cons (o := _) rfl (fun K hK => ?_) AllReadyH.nil)
          ·skip
           obtain ⟨q0, q1, q2, qf⟩ := rw_cells3 qb
           go_simp
           clear q0 q1 q2 qf
           replace qa := rw_far3 (b := Y3.heap.size) qa (.bool qe) (.int .u64 ql) (.int .u64 qh) (by first | assumption | exact Ne.symm (by assumption))
           replace qb := rw_set3 qb (.bool qe) (.int .u64 ql) (.int .u64 qh)
           replace cc := sp_set3 (b := Y3.heap.size) cc zzY3 (.bool qe) (.int .u64 ql) (.int .u64 qh)
           generalize hY : (((Y29.setCell ⟨Y3.heap.size, 0, none⟩ (.bool qe)).setCell ⟨Y3.heap.size, 1, none⟩ (.int .u64 ql)).setCell ⟨Y3.heap.size, 2, none⟩ (.int .u64 qh)) = Y30 at *
           clear hY
           refine hK.out _ _ (hall _ cc) (fun hH => ?_)
           clear hK K
           try simp only [Act.put, gA, gB, gC, gD, gE, gG]
           refine wpAnyH_done (by kernel_rfl) ?_ _
           go_wp2_with fail
           go_meet
           exact ⟨_, _, _, rfl, rfl, rfl, qa, qb, zzY22, zzY3, cc⟩
     ·skip
      go_simp
      have zzY2 := cc.size
      have qa := World.alloc_heap_new Y2 (Obj.cells #[.bool false, .int .u64 0, .int .u64 0] 97 (0, 0))
      replace cc := sp_new cc (Obj.cells #[.bool false, .int .u64 0, .int .u64 0] 97 (0, 0))
      replace oL := sp_new oL (Obj.cells #[.bool false, .int .u64 0, .int .u64 0] 97 (0, 0))
      generalize hY : Y2.alloc (Obj.cells #[.bool false, .int .u64 0, .int .u64 0] 97 (0, 0)) = Y31 at *
      clear hY
      refine hK.out _ _ (hall _ cc) (fun hH => ?_)
      clear hK K
      try simp only [Act.put, gA, gB, gC, gD, gE, gG]
      refine wpAnyH_ready (rs := [6, 12]) (by kernel_rfl) (by simp) (AllReadyH.cons (o := _) rfl (fun K hK => ?_) (AllReadyH.cons (o := _) rfl (fun K hK => ?_) AllReadyH.nil))
      ·skip
       go_simp
       refine (ho1 _ _ _ _).mono ?_
       rintro e Y32 ⟨rfl, g⟩
       replace oL := sp_call oL g
       replace cc := sp_call cc g
       replace qa := carryF g qa
       clear g
       go_wp2_with fail
       refine hK.out _ _ (hall _ cc) (fun hH => ?_)
       clear hK K
       try simp only [Act.put, gA, gB, gC, gD, gE, gG]
       refine wpAnyH_ready (rs := [7, 12]) (by kernel_rfl) (by simp) (AllReadyH.cons (o := _) rfl (fun K hK => ?_) (AllReadyH.cons (o := _) rfl (fun K hK => ?_) AllReadyH.nil))
       ·skip
        go_simp
        refine (h L _ _ hL _ oL).mono ?_
        rintro e Y33 ⟨rfl, g⟩
        clear oL hL
        replace cc := sp_call cc g
        replace qa := carryF g qa
        clear g
        go_wp2_with fail
        refine hK.out _ _ (hall _ cc) (fun hH => ?_)
        clear hK K
        try simp only [Act.put, gA, gB, gC, gD, gE, gG]
        refine wpAnyH_take (i := 8) (oi := _) (v := .tuple #[.agg #[.bool pe, .int .u64 pl, .int .u64 ph], .agg #[.bool qe, .int .u64 ql, .int .u64 qh]]) rfl (by kernel_rfl) (by kernel_rfl) (by kernel_rfl) (fun _ _ _ h => h) (Or.inl ⟨by rfl, fun w' hSw => by obtain ⟨za0, za1, za2, zb0, zb1, zb2⟩ := hSw; go_simp⟩) hH ?_
        simp only [Act.put, gA, gB, gC, gD, gE, gG]
        refine wpAnyH_take (i := 9) (oi := _) (v := .agg #[.bool pe, .int .u64 pl, .int .u64 ph]) rfl (by kernel_rfl) (by kernel_rfl) (by kernel_rfl) (fun _ _ _ h => h) (Or.inl ⟨by rfl, fun w' hSw => by obtain ⟨za0, za1, za2, zb0, zb1, zb2⟩ := hSw; go_simp⟩) hH ?_
        simp only [Act.put, gA, gB, gC, gD, gE, gG]
        refine wpAnyH_take (i := 10) (oi := _) (v := .agg #[.bool qe, .int .u64 ql, .int .u64 qh]) rfl (by kernel_rfl) (by kernel_rfl) (by kernel_rfl) (fun _ _ _ h => h) (Or.inl ⟨by rfl, fun w' hSw => by obtain ⟨za0, za1, za2, zb0, zb1, zb2⟩ := hSw; go_simp⟩) hH ?_
        simp only [Act.put, gA, gB, gC, gD, gE, gG]
        refine wpAnyH_ready (rs := [12]) (by kernel_rfl) (by simp) (AllReadyH.cons (o := _) rfl (fun K hK => ?_) AllReadyH.nil)
        ·skip
         go_simp
         have zzY33 := cc.size
         have neqb : Y2.heap.size ≠ Y33.heap.size := Nat.ne_of_lt (rw_lt qa)
         replace qa := rw_old qa (Obj.cells #[.bool false, .int .u64 0, .int .u64 0] 97 (0, 0))
         have qb := World.alloc_heap_new Y33 (Obj.cells #[.bool false, .int .u64 0, .int .u64 0] 97 (0, 0))
         replace cc := sp_new cc (Obj.cells #[.bool false, .int .u64 0, .int .u64 0] 97 (0, 0))
         generalize hY : Y33.alloc (Obj.cells #[.bool false, .int .u64 0, .int .u64 0] 97 (0, 0)) = Y34 at *
         clear hY
         refine hK.out _ _ (hall _ cc) (fun hH => ?_)
         clear hK K
         try simp only [Act.put, gA, gB, gC, gD, gE, gG]
         refine wpAnyH_ready (rs := [13]) (by kernel_rfl) (by simp) (AllReadyH.cons (o := _) rfl (fun K hK => ?_) AllReadyH.nil)
         ·skip
          obtain ⟨q0, q1, q2, qf⟩ := rw_cells3 qa
          go_simp
          clear q0 q1 q2 qf
          replace qb := rw_far3 (b := Y2.heap.size) qb (.bool pe) (.int .u64 pl) (.int .u64 ph) (by first | assumption | exact Ne.symm (by assumption))
          replace qa := rw_set3 qa (.bool pe) (.int .u64 pl) (.int .u64 ph)
          replace cc := sp_set3 (b := Y2.heap.size) cc zzY2 (.bool pe) (.int .u64 pl) (.int .u64 ph)
          generalize hY : (((Y34.setCell ⟨Y2.heap.size, 0, none⟩ (.bool pe)).setCell ⟨Y2.heap.size, 1, none⟩ (.int .u64 pl)).setCell ⟨Y2.heap.size, 2, none⟩ (.int .u64 ph)) = Y35 at *
          clear hY
          refine hK.out _ _ (hall _ cc) (fun hH => ?_)
          clear hK K
          try simp only [Act.put, gA, gB, gC, gD, gE, gG]
          refine wpAnyH_ready (rs := [14]) (by kernel_rfl) (by simp) (AllReadyH.cons (o := _) rfl (fun K hK => ?_) AllReadyH.nil)
          ·skip
           obtain ⟨q0, q1, q2, qf⟩ := rw_cells3 qb
           go_simp
           clear q0 q1 q2 qf
           replace qa := rw_far3 (b := Y33.heap.size) qa (.bool qe) (.int .u64 ql) (.int .u64 qh) (by first | assumption | exact Ne.symm (by assumption))
           replace qb := rw_set3 qb (.bool qe) (.int .u64 ql) (.int .u64 qh)
           replace cc := sp_set3 (b := Y33.heap.size) cc zzY33 (.bool qe) (.int .u64 ql) (.int .u64 qh)
           generalize hY : (((Y35.setCell ⟨Y33.heap.size, 0, none⟩ (.bool qe)).setCell ⟨Y33.heap.size, 1, none⟩ (.int .u64 ql)).setCell ⟨Y33.heap.size, 2, none⟩ (.int .u64 qh)) = Y36 at *
           clear hY
           refine hK.out _ _ (hall _ cc) (fun hH => ?_)
           clear hK K
           try simp only [Act.put, gA, gB, gC, gD, gE, gG]
           refine wpAnyH_done (by kernel_rfl) ?_ _
           go_wp2_with fail
           go_meet
           exact ⟨_, _, _, rfl, rfl, rfl, qa, qb, zzY2, zzY33, cc⟩
       ·skip
        go_simp
        have zzY32 := cc.size
        have neqb : Y2.heap.size ≠ Y32.heap.size := Nat.ne_of_lt (rw_lt qa)
        replace qa := rw_old qa (Obj.cells #[.bool false, .int .u64 0, .int .u64 0] 97 (0, 0))
        have qb := World.alloc_heap_new Y32 (Obj.cells #[.bool false, .int .u64 0, .int .u64 0] 97 (0, 0))
        replace cc := sp_new cc (Obj.cells #[.bool false, .int .u64 0, .int .u64 0] 97 (0, 0))
        replace oL := sp_new oL (Obj.cells #[.bool false, .int .u64 0, .int .u64 0] 97 (0, 0))
        generalize hY : Y32.alloc (Obj.cells #[.bool false, .int .u64 0, .int .u64 0] 97 (0, 0)) = Y37 at *
        clear hY
        refine hK.out _ _ (hall _ cc) (fun hH => ?_)
        clear hK K
        try simp only [Act.put, gA, gB, gC, gD, gE, gG]
        refine wpAnyH_ready (rs := [7]) (by kernel_rfl) (by simp) (AllReadyH.cons (o := _) rfl (fun K hK => ?_) AllReadyH.nil)
        ·skip
         go_simp
         refine (h L _ _ hL _ oL).mono ?_
         rintro e Y38 ⟨rfl, g⟩
         clear oL hL
         replace cc := sp_call cc g
         replace qa := carryF g qa
         replace qb := carryF g qb
         clear g
         go_wp2_with fail
         refine hK.out _ _ (hall _ cc) (fun hH => ?_)
         clear hK K
         try simp only [Act.put, gA, gB, gC, gD, gE, gG]
         refine wpAnyH_take (i := 8) (oi := _) (v := .tuple #[.agg #[.bool pe, .int .u64 pl, .int .u64 ph], .agg #[.bool qe, .int .u64 ql, .int .u64 qh]]) rfl (by kernel_rfl) (by kernel_rfl) (by kernel_rfl) (fun _ _ _ h => h) (Or.inl ⟨by rfl, fun w' hSw => by obtain ⟨za0, za1, za2, zb0, zb1, zb2⟩ := hSw; go_simp⟩) hH ?_
         simp only [Act.put, gA, gB, gC, gD, gE, gG]
         refine wpAnyH_take (i := 9) (oi := _) (v := .agg #[.bool pe, .int .u64 pl, .int .u64 ph]) rfl (by kernel_rfl) (by kernel_rfl) (by kernel_rfl) (fun _ _ _ h => h) (Or.inl ⟨by rfl, fun w' hSw => by obtain ⟨za0, za1, za2, zb0, zb1, zb2⟩ := hSw; go_simp⟩) hH ?_
         simp only [Act.put, gA, gB, gC, gD, gE, gG]
         refine wpAnyH_take (i := 10) (oi := _) (v := .agg #[.bool qe, .int .u64 ql, .int .u64 qh]) rfl (by kernel_rfl) (by kernel_rfl) (by kernel_rfl) (fun _ _ _ h => h) (Or.inl ⟨by rfl, fun w' hSw => by obtain ⟨za0, za1, za2, zb0, zb1, zb2⟩ := hSw; go_simp⟩) hH ?_
         simp only [Act.put, gA, gB, gC, gD, gE, gG]
         refine wpAnyH_ready (rs := [13]) (by kernel_rfl) (by simp) (AllReadyH.cons (o := _) rfl (fun K hK => ?_) AllReadyH.nil)
         ·skip
          obtain ⟨q0, q1, q2, qf⟩ := rw_cells3 qa
          go_simp
          clear q0 q1 q2 qf
          replace qb := rw_far3 (b := Y2.heap.size) qb (.bool pe) (.int .u64 pl) (.int .u64 ph) (by first | assumption | exact Ne.symm (by assumption))
          replace qa := rw_set3 qa (.bool pe) (.int .u64 pl) (.int .u64 ph)
          replace cc := sp_set3 (b := Y2.heap.size) cc zzY2 (.bool pe) (.int .u64 pl) (.int .u64 ph)
          generalize hY : (((Y38.setCell ⟨Y2.heap.size, 0, none⟩ (.bool pe)).setCell ⟨Y2.heap.size, 1, none⟩ (.int .u64 pl)).setCell ⟨Y2.heap.size, 2, none⟩ (.int .u64 ph)) = Y39 at *
          clear hY
          refine hK.out _ _ (hall _ cc) (fun hH => ?_)
          clear hK K
          try simp only [Act.put, gA, gB, gC, gD, gE, gG]
          refine wpAnyH_ready (rs := [14]) (by kernel_rfl) (by simp) (AllReadyH.cons (o := _) rfl (fun K hK => ?_) AllReadyH.nil)
          ·skip
           obtain ⟨q0, q1, q2, qf⟩ := rw_cells3 qb
           go_simp
           clear q0 q1 q2 qf
           replace qa := rw_far3 (b := Y32.heap.size) qa (.bool qe) (.int .u64 ql) (.int .u64 qh) (by first | assumption | exact Ne.symm (by assumption))
           replace qb := rw_set3 qb (.bool qe) (.int .u64 ql) (.int .u64 qh)
           replace cc := sp_set3 (b := Y32.heap.size) cc zzY32 (.bool qe) (.int .u64 ql) (.int .u64 qh)
           generalize hY : (((Y39.setCell ⟨Y32.heap.size, 0, none⟩ (.bool qe)).setCell ⟨Y32.heap.size, 1, none⟩ (.int .u64 ql)).setCell ⟨Y32.heap.size, 2, none⟩ (.int .u64 qh)) = Y40 at *
           clear hY
           refine hK.out _ _ (hall _ cc) (fun hH => ?_)
           clear hK K
           try simp only [Act.put, gA, gB, gC, gD, gE, gG]
           refine wpAnyH_done (by kernel_rfl) ?_ _
           go_wp2_with fail
           go_meet
           exact ⟨_, _, _, rfl, rfl, rfl, qa, qb, zzY2, zzY32, cc⟩
      ·skip
       go_simp
       have zzY31 := cc.size
       have neqb : Y2.heap.size ≠ Y31.heap.size := Nat.ne_of_lt (rw_lt qa)
       replace qa := rw_old qa (Obj.cells #[.bool false, .int .u64 0, .int .u64 0] 97 (0, 0))
       have qb := World.alloc_heap_new Y31 (Obj.cells #[.bool false, .int .u64 0, .int .u64 0] 97 (0, 0))
       replace cc := sp_new cc (Obj.cells #[.bool false, .int .u64 0, .int .u64 0] 97 (0, 0))
       replace oL := sp_new oL (Obj.cells #[.bool false, .int .u64 0, .int .u64 0] 97 (0, 0))
       generalize hY : Y31.alloc (Obj.cells #[.bool false, .int .u64 0, .int .u64 0] 97 (0, 0)) = Y41 at *
       clear hY
       refine hK.out _ _ (hall _ cc) (fun hH => ?_)
       clear hK K
       try simp only [Act.put, gA, gB, gC, gD, gE, gG]
       refine wpAnyH_ready (rs := [6]) (by kernel_rfl) (by simp) (AllReadyH.cons (o := _) rfl (fun K hK => ?_) AllReadyH.nil)
       ·skip
        go_simp
        refine (ho1 _ _ _ _).mono ?_
        rintro e Y42 ⟨rfl, g⟩
        replace oL := sp_call oL g
        replace cc := sp_call cc g
        replace qa := carryF g qa
        replace qb := carryF g qb
        clear g
        go_wp2_with fail
        refine hK.out _ _ (hall _ cc) (fun hH => ?_)
        clear hK K
        try simp only [Act.put, gA, gB, gC, gD, gE, gG]
        refine wpAnyH_ready (rs := [7]) (by kernel_rfl) (by simp) (AllReadyH.cons (o := _) rfl (fun K hK => ?_) AllReadyH.nil)
        ·skip
         go_simp
         refine (h L _ _ hL _ oL).mono ?_
         rintro e Y43 ⟨rfl, g⟩
         clear oL hL
         replace cc := sp_call cc g
         replace qa := carryF g qa
         replace qb := carryF g qb
         clear g
         go_wp2_with fail
         refine hK.out _ _ (hall _ cc) (fun hH => ?_)
         clear hK K
         try simp only [Act.put, gA, gB, gC, gD, gE, gG]
         refine wpAnyH_take (i := 8) (oi := _) (v := .tuple #[.agg #[.bool pe, .int .u64 pl, .int .u64 ph], .agg #[.bool qe, .int .u64 ql, .int .u64 qh]]) rfl (by kernel_rfl) (by kernel_rfl) (by kernel_rfl) (fun _ _ _ h => h) (Or.inl ⟨by rfl, fun w' hSw => by obtain ⟨za0, za1, za2, zb0, zb1, zb2⟩ := hSw; go_simp⟩) hH ?_
         simp only [Act.put, gA, gB, gC, gD, gE, gG]
         refine wpAnyH_take (i := 9) (oi := _) (v := .agg #[.bool pe, .int .u64 pl, .int .u64 ph]) rfl (by kernel_rfl) (by kernel_rfl) (by kernel_rfl) (fun _ _ _ h => h) (Or.inl ⟨by rfl, fun w' hSw => by obtain ⟨za0, za1, za2, zb0, zb1, zb2⟩ := hSw; go_simp⟩) hH ?_
         simp only [Act.put, gA, gB, gC, gD, gE, gG]
         refine wpAnyH_take (i := 10) (oi := _) (v := .agg #[.bool qe, .int .u64 ql, .int .u64 qh]) rfl (by kernel_rfl) (by kernel_rfl) (by kernel_rfl) (fun _ _ _ h => h) (Or.inl ⟨by rfl, fun w' hSw => by obtain ⟨za0, za1, za2, zb0, zb1, zb2⟩ := hSw; go_simp⟩) hH ?_
         simp only [Act.put, gA, gB, gC, gD, gE, gG]
         refine wpAnyH_ready (rs := [13]) (by kernel_rfl) (by simp) (AllReadyH.cons (o := _) rfl (fun K hK => ?_) AllReadyH.nil)
         ·skip
          obtain ⟨q0, q1, q2, qf⟩ := rw_cells3 qa
          go_simp
          clear q0 q1 q2 qf
          replace qb := rw_far3 (b := Y2.heap.size) qb (.bool pe) (.int .u64 pl) (.int .u64 ph) (by first | assumption | exact Ne.symm (by assumption))
          replace qa := rw_set3 qa (.bool pe) (.int .u64 pl) (.int .u64 ph)
          replace cc := sp_set3 (b := Y2.heap.size) cc zzY2 (.bool pe) (.int .u64 pl) (.int .u64 ph)
          generalize hY : (((Y43.setCell ⟨Y2.heap.size, 0, none⟩ (.bool pe)).setCell ⟨Y2.heap.size, 1, none⟩ (.int .u64 pl)).setCell ⟨Y2.heap.size, 2, none⟩ (.int .u64 ph)) = Y44 at *
          clear hY
          refine hK.out _ _ (hall _ cc) (fun hH => ?_)
          clear hK K
          try simp only [Act.put, gA, gB, gC, gD, gE, gG]
          refine wpAnyH_ready (rs := [14]) (by kernel_rfl) (by simp) (AllReadyH.cons (o := _) rfl (fun K hK => ?_) AllReadyH.nil)
          ·skip
           obtain ⟨q0, q1, q2, qf⟩ := rw_cells3 qb
           go_simp
           clear q0 q1 q2 qf
           replace qa := rw_far3 (b := Y31.heap.size) qa (.bool qe) (.int .u64 ql) (.int .u64 qh) (by first | assumption | exact Ne.symm (by assumption))
           replace qb := rw_set3 qb (.bool qe) (.int .u64 ql) (.int .u64 qh)
           replace cc := sp_set3 (b := Y31.heap.size) cc zzY31 (.bool qe) (.int .u64 ql) (.int .u64 qh)
           generalize hY : (((Y44.setCell ⟨Y31.heap.size, 0, none⟩ (.bool qe)).setCell ⟨Y31.heap.size, 1, none⟩ (.int .u64 ql)).setCell ⟨Y31.heap.size, 2, none⟩ (.int .u64 qh)) = Y45 at *
           clear hY
           refine hK.out _ _ (hall _ cc) (fun hH => ?_)
           clear hK K
           try simp only [Act.put, gA, gB, gC, gD, gE, gG]
           refine wpAnyH_done (by kernel_rfl) ?_ _
           go_wp2_with fail
           go_meet
           exact ⟨_, _, _, rfl, rfl, rfl, qa, qb, zzY2, zzY31, cc⟩
     ·skip
      go_simp
      have zzY2 := cc.size
      have qb := World.alloc_heap_new Y2 (Obj.cells #[.bool false, .int .u64 0, .int .u64 0] 97 (0, 0))
      replace cc := sp_new cc (Obj.cells #[.bool false, .int .u64 0, .int .u64 0] 97 (0, 0))
      replace oL := sp_new oL (Obj.cells #[.bool false, .int .u64 0, .int .u64 0] 97 (0, 0))
      generalize hY : Y2.alloc (Obj.cells #[.bool false, .int .u64 0, .int .u64 0] 97 (0, 0)) = Y46 at *
      clear hY
      refine hK.out _ _ (hall _ cc) (fun hH => ?_)
      clear hK K
      try simp only [Act.put, gA, gB, gC, gD, gE, gG]
      refine wpAnyH_ready (rs := [6, 11]) (by kernel_rfl) (by simp) (AllReadyH.cons (o := _) rfl (fun K hK => ?_) (AllReadyH.cons (o := _) rfl (fun K hK => ?_) AllReadyH.nil))
      ·skip
       go_simp
       refine (ho1 _ _ _ _).mono ?_
       rintro e Y47 ⟨rfl, g⟩
       replace oL := sp_call oL g
       replace cc := sp_call cc g
       replace qb := carryF g qb
       clear g
       go_wp2_with fail
       refine hK.out _ _ (hall _ cc) (fun hH => ?_)
       clear hK K
       try simp only [Act.put, gA, gB, gC, gD, gE, gG]
       refine wpAnyH_ready (rs := [7, 11]) (by kernel_rfl) (by simp) (AllReadyH.cons (o := _) rfl (fun K hK => ?_) (AllReadyH.cons (o := _) rfl (fun K hK => ?_) AllReadyH.nil))
       ·skip
        go_simp
        refine (h L _ _ hL _ oL).mono ?_
        rintro e Y48 ⟨rfl, g⟩
        clear oL hL
        replace cc := sp_call cc g
        replace qb := carryF g qb
        clear g
        go_wp2_with fail
        refine hK.out _ _ (hall _ cc) (fun hH => ?_)
        clear hK K
        try simp only [Act.put, gA, gB, gC, gD, gE, gG]
        refine wpAnyH_take (i := 8) (oi := _) (v := .tuple #[.agg #[.bool pe, .int .u64 pl, .int .u64 ph], .agg #[.bool qe, .int .u64 ql, .int .u64 qh]]) rfl (by kernel_rfl) (by kernel_rfl) (by kernel_rfl) (fun _ _ _ h => h) (Or.inl ⟨by rfl, fun w' hSw => by obtain ⟨za0, za1, za2, zb0, zb1, zb2⟩ := hSw; go_simp⟩) hH ?_
        simp only [Act.put, gA, gB, gC, gD, gE, gG]
        refine wpAnyH_take (i := 9) (oi := _) (v := .agg #[.bool pe, .int .u64 pl, .int .u64 ph]) rfl (by kernel_rfl) (by kernel_rfl) (by kernel_rfl) (fun _ _ _ h => h) (Or.inl ⟨by rfl, fun w' hSw => by obtain ⟨za0, za1, za2, zb0, zb1, zb2⟩ := hSw; go_simp⟩) hH ?_
        simp only [Act.put, gA, gB, gC, gD, gE, gG]
        refine wpAnyH_take (i := 10) (oi := _) (v := .agg #[.bool qe, .int .u64 ql, .int .u64 qh]) rfl (by kernel_rfl) (by kernel_rfl) (by kernel_rfl) (fun _ _ _ h => h) (Or.inl ⟨by rfl, fun w' hSw => by obtain ⟨za0, za1, za2, zb0, zb1, zb2⟩ := hSw; go_simp⟩) hH ?_
        simp only [Act.put, gA, gB, gC, gD, gE, gG]
        refine wpAnyH_ready (rs := [11]) (by kernel_rfl) (by simp) (AllReadyH.cons (o := _) rfl (fun K hK => ?_) AllReadyH.nil)
        ·skip
         go_simp
         have zzY48 := cc.size
         have neqa : Y2.heap.size ≠ Y48.heap.size := Nat.ne_of_lt (rw_lt qb)
         replace qb := rw_old qb (Obj.cells #[.bool false, .int .u64 0, .int .u64 0] 97 (0, 0))
         have qa := World.alloc_heap_new Y48 (Obj.cells #[.bool false, .int .u64 0, .int .u64 0] 97 (0, 0))
         replace cc := sp_new cc (Obj.cells #[.bool false, .int .u64 0, .int .u64 0] 97 (0, 0))
         generalize hY : Y48.alloc (Obj.cells #[.bool false, .int .u64 0, .int .u64 0] 97 (0, 0)) = Y49 at *
         clear hY
         refine hK.out _ _ (hall _ cc) (fun hH => ?_)
         clear hK K
         try simp only [Act.put, gA, gB, gC, gD, gE, gG]
         refine wpAnyH_ready (rs := [13]) (by kernel_rfl) (by simp) (AllReadyH.cons (o := _) rfl (fun K hK => ?_) AllReadyH.nil)
         ·skip
          obtain ⟨q0, q1, q2, qf⟩ := rw_cells3 qa
          go_simp
          clear q0 q1 q2 qf
          replace qb := rw_far3 (b := Y48.heap.size) qb (.bool pe) (.int .u64 pl) (.int .u64 ph) (by first | assumption | exact Ne.symm (by assumption))
          replace qa := rw_set3 qa (.bool pe) (.int .u64 pl) (.int .u64 ph)
          replace cc := sp_set3 (b := Y48.heap.size) cc zzY48 (.bool pe) (.int .u64 pl) (.int .u64 ph)
          generalize hY : (((Y49.setCell ⟨Y48.heap.size, 0, none⟩ (.bool pe)).setCell ⟨Y48.heap.size, 1, none⟩ (.int .u64 pl)).setCell ⟨Y48.heap.size, 2, none⟩ (.int .u64 ph)) = Y50 at *
          clear hY
          refine hK.out _ _ (hall _ cc) (fun hH => ?_)
          clear hK K
          try simp only [Act.put, gA, gB, gC, gD, gE, gG]
          refine wpAnyH_ready (rs := [14]) (by kernel_rfl) (by simp) (AllReadyH.cons (o := _) rfl (fun K hK => ?_) AllReadyH.nil)
          ·skip
           obtain ⟨q0, q1, q2, qf⟩ := rw_cells3 qb
           go_simp
           clear q0 q1 q2 qf
           replace qa := rw_far3 (b := Y2.heap.size) qa (.bool qe) (.int .u64 ql) (.int .u64 qh) (by first | assumption | exact Ne.symm (by assumption))
           replace qb := rw_set3 qb (.bool qe) (.int .u64 ql) (.int .u64 qh)
           replace cc := sp_set3 (b := Y2.heap.size) cc zzY2 (.bool qe) (.int .u64 ql) (.int .u64 qh)
           generalize hY : (((Y50.setCell ⟨Y2.heap.size, 0, none⟩ (.bool qe)).setCell ⟨Y2.heap.size, 1, none⟩ (.int .u64 ql)).setCell ⟨Y2.heap.size, 2, none⟩ (.int .u64 qh)) = Y51 at *
           clear hY
           refine hK.out _ _ (hall _ cc) (fun hH => ?_)
           clear hK K
           try simp only [Act.put, gA, gB, gC, gD, gE, gG]
           refine wpAnyH_done (by kernel_rfl) ?_ _
           go_wp2_with fail
           go_meet
           exact ⟨_, _, _, rfl, rfl, rfl, qa, qb, zzY48, zzY2, cc⟩
       ·skip
        go_simp
        have zzY47 := cc.size
        have neqa : Y2.heap.size ≠ Y47.heap.size := Nat.ne_of_lt (rw_lt qb)
        replace qb := rw_old qb (Obj.cells #[.bool false, .int .u64 0, .int .u64 0] 97 (0, 0))
        have qa := World.alloc_heap_new Y47 (Obj.cells #[.bool false, .int .u64 0, .int .u64 0] 97 (0, 0))
        replace cc := sp_new cc (Obj.cells #[.bool false, .int .u64 0, .int .u64 0] 97 (0, 0))
        replace oL := sp_new oL (Obj.cells #[.bool false, .int .u64 0, .int .u64 0] 97 (0, 0))
        generalize hY : Y47.alloc (Obj.cells #[.bool false, .int .u64 0, .int .u64 0] 97 (0, 0)) = Y52 at *
        clear hY
        refine hK.out _ _ (hall _ cc) (fun hH => ?_)
        clear hK K
        try simp only [Act.put, gA, gB, gC, gD, gE, gG]
        refine wpAnyH_ready (rs := [7]) (by kernel_rfl) (by simp) (AllReadyH.cons (o := _) rfl (fun K hK => ?_) AllReadyH.nil)
        ·skip
         go_simp
         refine (h L _ _ hL _ oL).mono ?_
         rintro e Y53 ⟨rfl, g⟩
         clear oL hL
         replace cc := sp_call cc g
         replace qa := carryF g qa
         replace qb := carryF g qb
         clear g
         go_wp2_with fail
         refine hK.out _ _ (hall _ cc) (fun hH => ?_)
         clear hK K
         try simp only [Act.put, gA, gB, gC, gD, gE, gG]
         refine wpAnyH_take (i := 8) (oi := _) (v := .tuple #[.agg #[.bool pe, .int .u64 pl, .int .u64 ph], .agg #[.bool qe, .int .u64 ql, .int .u64 qh]]) rfl (by kernel_rfl) (by kernel_rfl) (by kernel_rfl) (fun _ _ _ h => h) (Or.inl ⟨by rfl, fun w' hSw => by obtain ⟨za0, za1, za2, zb0, zb1, zb2⟩ := hSw; go_simp⟩) hH ?_
         simp only [Act.put, gA, gB, gC, gD, gE, gG]
         refine wpAnyH_take (i := 9) (oi := _) (v := .agg #[.bool pe, .int .u64 pl, .int .u64 ph]) rfl (by kernel_rfl) (by kernel_rfl) (by kernel_rfl) (fun _ _ _ h => h) (Or.inl ⟨by rfl, fun w' hSw => by obtain ⟨za0, za1, za2, zb0, zb1, zb2⟩ := hSw; go_simp⟩) hH ?_
         simp only [Act.put, gA, gB, gC, gD, gE, gG]
         refine wpAnyH_take (i := 10) (oi := _) (v := .agg #[.bool qe, .int .u64 ql, .int .u64 qh]) rfl (by kernel_rfl) (by kernel_rfl) (by kernel_rfl) (fun _ _ _ h => h) (Or.inl ⟨by rfl, fun w' hSw => by obtain ⟨za0, za1, za2, zb0, zb1, zb2⟩ := hSw; go_simp⟩) hH ?_
         simp only [Act.put, gA, gB, gC, gD, gE, gG]
         refine wpAnyH_ready (rs := [13]) (by kernel_rfl) (by simp) (AllReadyH.cons (o := _) rfl (fun K hK => ?_) AllReadyH.nil)
         ·skip
          obtain ⟨q0, q1, q2, qf⟩ := rw_cells3 qa
          go_simp
          clear q0 q1 q2 qf
          replace qb := rw_far3 (b := Y47.heap.size) qb (.bool pe) (.int .u64 pl) (.int .u64 ph) (by first | assumption | exact Ne.symm (by assumption))
          replace qa := rw_set3 qa (.bool pe) (.int .u64 pl) (.int .u64 ph)
          replace cc := sp_set3 (b := Y47.heap.size) cc zzY47 (.bool pe) (.int .u64 pl) (.int .u64 ph)
          generalize hY : (((Y53.setCell ⟨Y47.heap.size, 0, none⟩ (.bool pe)).setCell ⟨Y47.heap.size, 1, none⟩ (.int .u64 pl)).setCell ⟨Y47.heap.size, 2, none⟩ (.int .u64 ph)) = Y54 at *
          clear hY
          refine hK.out _ _ (hall _ cc) (fun hH => ?_)
          clear hK K
          try simp only [Act.put, gA, gB, gC, gD, gE, gG]
          refine wpAnyH_ready (rs := [14]) (by kernel_rfl) (by simp) (AllReadyH.cons (o := _) rfl (fun K hK => ?_) AllReadyH.nil)
          ·skip
           obtain ⟨q0, q1, q2, qf⟩ := rw_cells3 qb
           go_simp
           clear q0 q1 q2 qf
           replace qa := rw_far3 (b := Y2.heap.size) qa (.bool qe) (.int .u64 ql) (.int .u64 qh) (by first | assumption | exact Ne.symm (by assumption))
           replace qb := rw_set3 qb (.bool qe) (.int .u64 ql) (.int .u64 qh)
           replace cc := sp_set3 (b := Y2.heap.size) cc zzY2 (.bool qe) (.int .u64 ql) (.int .u64 qh)
           generalize hY : (((Y54.setCell ⟨Y2.heap.size, 0, none⟩ (.bool qe)).setCell ⟨Y2.heap.size, 1, none⟩ (.int .u64 ql)).setCell ⟨Y2.heap.size, 2, none⟩ (.int .u64 qh)) = Y55 at *
           clear hY
           refine hK.out _ _ (hall _ cc) (fun hH => ?_)
           clear hK K
           try simp only [Act.put, gA, gB, gC, gD, gE, gG]
           refine wpAnyH_done (by kernel_rfl) ?_ _
           go_wp2_with fail
           go_meet
           exact ⟨_, _, _, rfl, rfl, rfl, qa, qb, zzY47, zzY2, cc⟩
      ·skip
       go_simp
       have zzY46 := cc.size
       have neqa : Y2.heap.size ≠ Y46.heap.size := Nat.ne_of_lt (rw_lt qb)
       replace qb := rw_old qb (Obj.cells #[.bool false, .int .u64 0, .int .u64 0] 97 (0, 0))
       have qa := World.alloc_heap_new Y46 (Obj.cells #[.bool false, .int .u64 0, .int .u64 0] 97 (0, 0))
       replace cc := sp_new cc (Obj.cells #[.bool false, .int .u64 0, .int .u64 0] 97 (0, 0))
       replace oL := sp_new oL (Obj.cells #[.bool false, .int .u64 0, .int .u64 0] 97 (0, 0))
       generalize hY : Y46.alloc (Obj.cells #[.bool false, .int .u64 0, .int .u64 0] 97 (0, 0)) = Y56 at *
       clear hY
       refine hK.out _ _ (hall _ cc) (fun hH => ?_)
       clear hK K
       try simp only [Act.put, gA, gB, gC, gD, gE, gG]
       refine wpAnyH_ready (rs := [6]) (by kernel_rfl) (by simp) (AllReadyH.cons (o := _) rfl (fun K hK => ?_) AllReadyH.nil)
       ·skip
        go_simp
        refine (ho1 _ _ _ _).mono ?_
        rintro e Y57 ⟨rfl, g⟩
        replace oL := sp_call oL g
        replace cc := sp_call cc g
        replace qa := carryF g qa
        replace qb := carryF g qb
        clear g
        go_wp2_with fail
        refine hK.out _ _ (hall _ cc) (fun hH => ?_)
        clear hK K
        try simp only [Act.put, gA, gB, gC, gD, gE, gG]
        refine wpAnyH_ready (rs := [7]) (by kernel_rfl) (by simp) (AllReadyH.cons (o := _) rfl (fun K hK => ?_) AllReadyH.nil)
        ·skip
         go_simp
         refine (h L _ _ hL _ oL).mono ?_
         rintro e Y58 ⟨rfl, g⟩
         clear oL hL
         replace cc := sp_call cc g
         replace qa := carryF g qa
         replace qb := carryF g qb
         clear g
         go_wp2_with fail
         refine hK.out _ _ (hall _ cc) (fun hH => ?_)
         clear hK K
         try simp only [Act.put, gA, gB, gC, gD, gE, gG]
         refine wpAnyH_take (i := 8) (oi := _) (v := .tuple #[.agg #[.bool pe, .int .u64 pl, .int .u64 ph], .agg #[.bool qe, .int .u64 ql, .int .u64 qh]]) rfl (by kernel_rfl) (by kernel_rfl) (by kernel_rfl) (fun _ _ _ h => h) (Or.inl ⟨by rfl, fun w' hSw => by obtain ⟨za0, za1, za2, zb0, zb1, zb2⟩ := hSw; go_simp⟩) hH ?_
         simp only [Act.put, gA, gB, gC, gD, gE, gG]
         refine wpAnyH_take (i := 9) (oi := _) (v := .agg #[.bool pe, .int .u64 pl, .int .u64 ph]) rfl (by kernel_rfl) (by kernel_rfl) (by kernel_rfl) (fun _ _ _ h => h) (Or.inl ⟨by rfl, fun w' hSw => by obtain ⟨za0, za1, za2, zb0, zb1, zb2⟩ := hSw; go_simp⟩) hH ?_
         simp only [Act.put, gA, gB, gC, gD, gE, gG]
         refine wpAnyH_take (i := 10) (oi := _) (v := .agg #[.bool qe, .int .u64 ql, .int .u64 qh]) rfl (by kernel_rfl) (by kernel_rfl) (by kernel_rfl) (fun _ _ _ h => h) (Or.inl ⟨by rfl, fun w' hSw => by obtain ⟨za0, za1, za2, zb0, zb1, zb2⟩ := hSw; go_simp⟩) hH ?_
         simp only [Act.put, gA, gB, gC, gD, gE, gG]
         refine wpAnyH_ready (rs := [13]) (by kernel_rfl) (by simp) (AllReadyH.cons (o := _) rfl (fun K hK => ?_) AllReadyH.nil)
         ·skip
          obtain ⟨q0, q1, q2, qf⟩ := rw_cells3 qa
          go_simp
          clear q0 q1 q2 qf
          replace qb := rw_far3 (b := Y46.heap.size) qb (.bool pe) (.int .u64 pl) (.int .u64 ph) (by first | assumption | exact Ne.symm (by assumption))
          replace qa := rw_set3 qa (.bool pe) (.int .u64 pl) (.int .u64 ph)
          replace cc := sp_set3 (b := Y46.heap.size) cc zzY46 (.bool pe) (.int .u64 pl) (.int .u64 ph)
          generalize hY : (((Y58.setCell ⟨Y46.heap.size, 0, none⟩ (.bool pe)).setCell ⟨Y46.heap.size, 1, none⟩ (.int .u64 pl)).setCell ⟨Y46.heap.size, 2, none⟩ (.int .u64 ph)) = Y59 at *
          clear hY
          refine hK.out _ _ (hall _ cc) (fun hH => ?_)
          clear hK K
          try simp only [Act.put, gA, gB, gC, gD, gE, gG]
          refine wpAnyH_ready (rs := [14]) (by kernel_rfl) (by simp) (AllReadyH.cons (o := _) rfl (fun K hK => ?_) AllReadyH.nil)
          ·skip
           obtain ⟨q0, q1, q2, qf⟩ := rw_cells3 qb
           go_simp
           clear q0 q1 q2 qf
           replace qa := rw_far3 (b := Y2.heap.size) qa (.bool qe) (.int .u64 ql) (.int .u64 qh) (by first | assumption | exact Ne.symm (by assumption))
           replace qb := rw_set3 qb (.bool qe) (.int .u64 ql) (.int .u64 qh)
           replace cc := sp_set3 (b := Y2.heap.size) cc zzY2 (.bool qe) (.int .u64 ql) (.int .u64 qh)
           generalize hY : (((Y59.setCell ⟨Y2.heap.size, 0, none⟩ (.bool qe)).setCell ⟨Y2.heap.size, 1, none⟩ (.int .u64 ql)).setCell ⟨Y2.heap.size, 2, none⟩ (.int .u64 qh)) = Y60 at *
           clear hY
           refine hK.out _ _ (hall _ cc) (fun hH => ?_)
           clear hK K
           try simp only [Act.put, gA, gB, gC, gD, gE, gG]
           refine wpAnyH_done (by kernel_rfl) ?_ _
           go_wp2_with fail
           go_meet
           exact ⟨_, _, _, rfl, rfl, rfl, qa, qb, zzY46, zzY2, cc⟩
    ·skip
     go_simp
     have zzY1 := cc.size
     have qa := World.alloc_heap_new Y1 (Obj.cells #[.bool false, .int .u64 0, .int .u64 0] 97 (0, 0))
     replace cc := sp_new cc (Obj.cells #[.bool false, .int .u64 0, .int .u64 0] 97 (0, 0))
     replace oL := sp_new oL (Obj.cells #[.bool false, .int .u64 0, .int .u64 0] 97 (0, 0))
     generalize hY : Y1.alloc (Obj.cells #[.bool false, .int .u64 0, .int .u64 0] 97 (0, 0)) = Y61 at *
     clear hY
     refine hK.out _ _ (hall _ cc) (fun hH => ?_)
     clear hK K
     try simp only [Act.put, gA, gB, gC, gD, gE, gG]
     refine wpAnyH_ready (rs := [4, 12]) (by kernel_rfl) (by simp) (AllReadyH.cons (o := _) rfl (fun K hK => ?_) (AllReadyH.cons (o := _) rfl (fun K hK => ?_) AllReadyH.nil))
     ·skip
      go_simp
      refine (ho1 _ _ _ _).mono ?_
      rintro e Y62 ⟨rfl, g⟩
      replace oL := sp_call oL g
      replace cc := sp_call cc g
      replace qa := carryF g qa
      clear g
      go_wp2_with fail
      refine hK.out _ _ (hall _ cc) (fun hH => ?_)
      clear hK K
      try simp only [Act.put, gA, gB, gC, gD, gE, gG]
      refine wpAnyH_ready (rs := [6, 12]) (by kernel_rfl) (by simp) (AllReadyH.cons (o := _) rfl (fun K hK => ?_) (AllReadyH.cons (o := _) rfl (fun K hK => ?_) AllReadyH.nil))
      ·skip
       go_simp
       refine (ho1 _ _ _ _).mono ?_
       rintro e Y63 ⟨rfl, g⟩
       replace oL := sp_call oL g
       replace cc := sp_call cc g
       replace qa := carryF g qa
       clear g
       go_wp2_with fail
       refine hK.out _ _ (hall _ cc) (fun hH => ?_)
       clear hK K
       try simp only [Act.put, gA, gB, gC, gD, gE, gG]
       refine wpAnyH_ready (rs := [7, 12]) (by kernel_rfl) (by simp) (AllReadyH.cons (o := _) rfl (fun K hK => ?_) (AllReadyH.cons (o := _) rfl (fun K hK => ?_) AllReadyH.nil))
       ·skip
        go_simp
        refine (h L _ _ hL _ oL).mono ?_
        rintro e Y64 ⟨rfl, g⟩
        clear oL hL
        replace cc := sp_call cc g
        replace qa := carryF g qa
        clear g
        go_wp2_with fail
        refine hK.out _ _ (hall _ cc) (fun hH => ?_)
        clear hK K
        try simp only [Act.put, gA, gB, gC, gD, gE, gG]
        refine wpAnyH_take (i := 8) (oi := _) (v := .tuple #[.agg #[.bool pe, .int .u64 pl, .int .u64 ph], .agg #[.bool qe, .int .u64 ql, .int .u64 qh]]) rfl (by kernel_rfl) (by kernel_rfl) (by kernel_rfl) (fun _ _ _ h => h) (Or.inl ⟨by rfl, fun w' hSw => by obtain ⟨za0, za1, za2, zb0, zb1, zb2⟩ := hSw; go_simp⟩) hH ?_
        simp only [Act.put, gA, gB, gC, gD, gE, gG]
        refine wpAnyH_take (i := 9) (oi := _) (v := .agg #[.bool pe, .int .u64 pl, .int .u64 ph]) rfl (by kernel_rfl) (by kernel_rfl) (by kernel_rfl) (fun _ _ _ h => h) (Or.inl ⟨by rfl, fun w' hSw => by obtain ⟨za0, za1, za2, zb0, zb1, zb2⟩ := hSw; go_simp⟩) hH ?_
        simp only [Act.put, gA, gB, gC, gD, gE, gG]
        refine wpAnyH_take (i := 10) (oi := _) (v := .agg #[.bool qe, .int .u64 ql, .int .u64 qh]) rfl (by kernel_rfl) (by kernel_rfl) (by kernel_rfl) (fun _ _ _ h => h) (Or.inl ⟨by rfl, fun w' hSw => by obtain ⟨za0, za1, za2, zb0, zb1, zb2⟩ := hSw; go_simp⟩) hH ?_
        simp only [Act.put, gA, gB, gC, gD, gE, gG]
        refine wpAnyH_ready (rs := [12]) (by kernel_rfl) (by simp) (AllReadyH.cons (o := _) rfl (fun K hK => ?_) AllReadyH.nil)
        ·skip
         go_simp
         have zzY64 := cc.size
         have neqb : Y1.heap.size ≠ Y64.heap.size := Nat.ne_of_lt (rw_lt qa)
         replace qa := rw_old qa (Obj.cells #[.bool false, .int .u64 0, .int .u64 0] 97 (0, 0))
         have qb := World.alloc_heap_new Y64 (Obj.cells #[.bool false, .int .u64 0, .int .u64 0] 97 (0, 0))
         replace cc := sp_new cc (Obj.cells #[.bool false, .int .u64 0, .int .u64 0] 97 (0, 0))
         generalize hY : Y64.alloc (Obj.cells #[.bool false, .int .u64 0, .int .u64 0] 97 (0, 0)) = Y65 at *
         clear hY
         refine hK.out _ _ (hall _ cc) (fun hH => ?_)
         clear hK K
         try simp only [Act.put, gA, gB, gC, gD, gE, gG]
         refine wpAnyH_ready (rs := [13]) (by kernel_rfl) (by simp) (AllReadyH.cons (o := _) rfl (fun K hK => ?_) AllReadyH.nil)
         ·skip
          obtain ⟨q0, q1, q2, qf⟩ := rw_cells3 qa
          go_simp
          clear q0 q1 q2 qf
          replace qb := rw_far3 (b := Y1.heap.size) qb (.bool pe) (.int .u64 pl) (.int .u64 ph) (by first | assumption | exact Ne.symm (by assumption))
          replace qa := rw_set3 qa (.bool pe) (.int .u64 pl) (.int .u64 ph)
          replace cc := sp_set3 (b := Y1.heap.size) cc zzY1 (.bool pe) (.int .u64 pl) (.int .u64 ph)
          generalize hY : (((Y65.setCell ⟨Y1.heap.size, 0, none⟩ (.bool pe)).setCell ⟨Y1.heap.size, 1, none⟩ (.int .u64 pl)).setCell ⟨Y1.heap.size, 2, none⟩ (.int .u64 ph)) = Y66 at *
          clear hY
          refine hK.out _ _ (hall _ cc) (fun hH => ?_)
          clear hK K
          try simp only [Act.put, gA, gB, gC, gD, gE, gG]
          refine wpAnyH_ready (rs := [14]) (by kernel_rfl) (by simp) (AllReadyH.cons (o := _) rfl (fun K hK => ?_) AllReadyH.nil)
          ·skip
           obtain ⟨q0, q1, q2, qf⟩ := rw_cells3 qb
           go_simp
           clear q0 q1 q2 qf
           replace qa := rw_far3 (b := Y64.heap.size) qa (.bool qe) (.int .u64 ql) (.int .u64 qh) (by first | assumption | exact Ne.symm (by assumption))
           replace qb := rw_set3 qb (.bool qe) (.int .u64 ql) (.int .u64 qh)
           replace cc := sp_set3 (b := Y64.heap.size) cc zzY64 (.bool qe) (.int .u64 ql) (.int .u64 qh)
           generalize hY : (((Y66.setCell ⟨Y64.heap.size, 0, none⟩ (.bool qe)).setCell ⟨Y64.heap.size, 1, none⟩ (.int .u64 ql)).setCell ⟨Y64.heap.size, 2, none⟩ (.int .u64 qh)) = Y67 at *
           clear hY
           refine hK.out _ _ (hall _ cc) (fun hH => ?_)
           clear hK K
           try simp only [Act.put, gA, gB, gC, gD, gE, gG]
           refine wpAnyH_done (by kernel_rfl) ?_ _
           go_wp2_with fail
           go_meet
           exact ⟨_, _, _, rfl, rfl, rfl, qa, qb, zzY1, zzY64, cc⟩
       ·skip
        go_simp
        have zzY63 := cc.size
        have neqb : Y1.heap.size ≠ Y63.heap.size := Nat.ne_of_lt (rw_lt qa)
        replace qa := rw_old qa (Obj.cells #[.bool false, .int .u64 0, .int .u64 0] 97 (0, 0))
        have qb := World.alloc_heap_new Y63 (Obj.cells #[.bool false, .int .u64 0, .int .u64 0] 97 (0, 0))
        replace cc := sp_new cc (Obj.cells #[.bool false, .int .u64 0, .int .u64 0] 97 (0, 0))
        replace oL := sp_new oL (Obj.cells #[.bool false, .int .u64 0, .int .u64 0] 97 (0, 0))
        generalize hY : Y63.alloc (Obj.cells #[.bool false, .int .u64 0, .int .u64 0] 97 (0, 0)) = Y68 at *
        clear hY
        refine hK.out _ _ (hall _ cc) (fun hH => ?_)
        clear hK K
        try simp only [Act.put, gA, gB, gC, gD, gE, gG]
        refine wpAnyH_ready (rs := [7]) (by kernel_rfl) (by simp) (AllReadyH.cons (o := _) rfl (fun K hK => ?_) AllReadyH.nil)
        ·skip
         go_simp
         refine (h L _ _ hL _ oL).mono ?_
         rintro e Y69 ⟨rfl, g⟩
         clear oL hL
         replace cc := sp_call cc g
         replace qa := carryF g qa
         replace qb := carryF g qb
         clear g
         go_wp2_with fail
         refine hK.out _ _ (hall _ cc) (fun hH => ?_)
         clear hK K
         try simp only [Act.put, gA, gB, gC, gD, gE, gG]
         refine wpAnyH_take (i := 8) (oi := _) (v := .tuple #[.agg #[.bool pe, .int .u64 pl, .int .u64 ph], .agg #[.bool qe, .int .u64 ql, .int .u64 qh]]) rfl (by kernel_rfl) (by kernel_rfl) (by kernel_rfl) (fun _ _ _ h => h) (Or.inl ⟨by rfl, fun w' hSw => by obtain ⟨za0, za1, za2, zb0, zb1, zb2⟩ := hSw; go_simp⟩) hH ?_
         simp only [Act.put, gA, gB, gC, gD, gE, gG]
         refine wpAnyH_take (i := 9) (oi := _) (v := .agg #[.bool pe, .int .u64 pl, .int .u64 ph]) rfl (by kernel_rfl) (by kernel_rfl) (by kernel_rfl) (fun _ _ _ h => h) (Or.inl ⟨by rfl, fun w' hSw => by obtain ⟨za0, za1, za2, zb0, zb1, zb2⟩ := hSw; go_simp⟩) hH ?_
         simp only [Act.put, gA, gB, gC, gD, gE, gG]
         refine wpAnyH_take (i := 10) (oi := _) (v := .agg #[.bool qe, .int .u64 ql, .int .u64 qh]) rfl (by kernel_rfl) (by kernel_rfl) (by kernel_rfl) (fun _ _ _ h => h) (Or.inl ⟨by rfl, fun w' hSw => by obtain ⟨za0, za1, za2, zb0, zb1, zb2⟩ := hSw; go_simp⟩) hH ?_
         simp only [Act.put, gA, gB, gC, gD, gE, gG]
         refine wpAnyH_ready (rs := [13]) (by kernel_rfl) (by simp) (AllReadyH.cons (o := _) rfl (fun K hK => ?_) AllReadyH.nil)
         ·skip
          obtain ⟨q0, q1, q2, qf⟩ := rw_cells3 qa
          go_simp
          clear q0 q1 q2 qf
          replace qb := rw_far3 (b := Y1.heap.size) qb (.bool pe) (.int .u64 pl) (.int .u64 ph) (by first | assumption | exact Ne.symm (by assumption))
          replace qa := rw_set3 qa (.bool pe) (.int .u64 pl) (.int .u64 ph)
          replace cc := sp_set3 (b := Y1.heap.size) cc zzY1 (.bool pe) (.int .u64 pl) (.int .u64 ph)
          generalize hY : (((Y69.setCell ⟨Y1.heap.size, 0, none⟩ (.bool pe)).setCell ⟨Y1.heap.size, 1, none⟩ (.int .u64 pl)).setCell ⟨Y1.heap.size, 2, none⟩ (.int .u64 ph)) = Y70 at *
          clear hY
          refine hK.out _ _ (hall _ cc) (fun hH => ?_)
          clear hK K
          try simp only [Act.put, gA, gB, gC, gD, gE, gG]
          refine wpAnyH_ready (rs := [14]) (by kernel_rfl) (by simp) (AllReadyH.cons (o := _) rfl (fun K hK => ?_) AllReadyH.nil)
          ·skip
           obtain ⟨q0, q1, q2, qf⟩ := rw_cells3 qb
           go_simp
           clear q0 q1 q2 qf
           replace qa := rw_far3 (b := Y63.heap.size) qa (.bool qe) (.int .u64 ql) (.int .u64 qh) (by first | assumption | exact Ne.symm (by assumption))
           replace qb := rw_set3 qb (.bool qe) (.int .u64 ql) (.int .u64 qh)
           replace cc := sp_set3 (b := Y63.heap.size) cc zzY63 (.bool qe) (.int .u64 ql) (.int .u64 qh)
           generalize hY : (((Y70.setCell ⟨Y63.heap.size, 0, none⟩ (.bool qe)).setCell ⟨Y63.heap.size, 1, none⟩ (.int .u64 ql)).setCell ⟨Y63.heap.size, 2, none⟩ (.int .u64 qh)) = Y71 at *
           clear hY
           refine hK.out _ _ (hall _ cc) (fun hH => ?_)
           clear hK K
           try simp only [Act.put, gA, gB, gC, gD, gE, gG]
           refine wpAnyH_done (by kernel_rfl) ?_ _
           go_wp2_with fail
           go_meet
           exact ⟨_, _, _, rfl, rfl, rfl, qa, qb, zzY1, zzY63, cc⟩
      ·skip
       go_simp
       have zzY62 := cc.size
       have neqb : Y1.heap.size ≠ Y62.heap.size := Nat.ne_of_lt (rw_lt qa)
       replace qa := rw_old qa (Obj.cells #[.bool false, .int .u64 0, .int .u64 0] 97 (0, 0))
       have qb := World.alloc_heap_new Y62 (Obj.cells #[.bool false, .int .u64 0, .int .u64 0] 97 (0, 0))
       replace cc := sp_new cc (Obj.cells #[.bool false, .int .u64 0, .int .u64 0] 97 (0, 0))
       replace oL := sp_new oL (Obj.cells #[.bool false, .int .u64 0, .int .u64 0] 97 (0, 0))
       generalize hY : Y62.alloc (Obj.cells #[.bool false, .int .u64 0, .int .u64 0] 97 (0, 0)) = Y72 at *
       clear hY
       refine hK.out _ _ (hall _ cc) (fun hH => ?_)
       clear hK K
       try simp only [Act.put, gA, gB, gC, gD, gE, gG]
       refine wpAnyH_ready (rs := [6]) (by kernel_rfl) (by simp) (AllReadyH.cons (o := _) rfl (fun K hK => ?_) AllReadyH.nil)
       ·skip
        go_simp
        refine (ho1 _ _ _ _).mono ?_
        rintro e Y73 ⟨rfl, g⟩
        replace oL := sp_call oL g
        replace cc := sp_call cc g
        replace qa := carryF g qa
        replace qb := carryF g qb
        clear g
        go_wp2_with fail
        refine hK.out _ _ (hall _ cc) (fun hH => ?_)
        clear hK K
        try simp only [Act.put, gA, gB, gC, gD, gE, gG]
        refine wpAnyH_ready (rs := [7]) (by kernel_rfl) (by simp) (AllReadyH.cons (o := _) rfl (fun K hK => ?_) AllReadyH.nil)
        ·skip
         go_simp
         refine (h L _ _ hL _ oL).mono ?_
         rintro e Y74 ⟨rfl, g⟩
         clear oL hL
         replace cc := sp_call cc g
         replace qa := carryF g qa
         replace qb := carryF g qb
         clear g
         go_wp2_with fail
         refine hK.out _ _ (hall _ cc) (fun hH => ?_)
         clear hK K
         try simp only [Act.put, gA, gB, gC, gD, gE, gG]
         refine wpAnyH_take (i := 8) (oi := _) (v := .tuple #[.agg #[.bool pe, .int .u64 pl, .int .u64 ph], .agg #[.bool qe, .int .u64 ql, .int .u64 qh]]) rfl (by kernel_rfl) (by kernel_rfl) (by kernel_rfl) (fun _ _ _ h => h) (Or.inl ⟨by rfl, fun w' hSw => by obtain ⟨za0, za1, za2, zb0, zb1, zb2⟩ := hSw; go_simp⟩) hH ?_
         simp only [Act.put, gA, gB, gC, gD, gE, gG]
         refine wpAnyH_take (i := 9) (oi := _) (v := .agg #[.bool pe, .int .u64 pl, .int .u64 ph]) rfl (by kernel_rfl) (by kernel_rfl) (by kernel_rfl) (fun _ _ _ h => h) (Or.inl ⟨by rfl, fun w' hSw => by obtain ⟨za0, za1, za2, zb0, zb1, zb2⟩ := hSw; go_simp⟩) hH ?_
         simp only [Act.put, gA, gB, gC, gD, gE, gG]
         refine wpAnyH_take (i := 10) (oi := _) (v := .agg #[.bool qe, .int .u64 ql, .int .u64 qh]) rfl (by kernel_rfl) (by kernel_rfl) (by kernel_rfl) (fun _ _ _ h => h) (Or.inl ⟨by rfl, fun w' hSw => by obtain ⟨za0, za1, za2, zb0, zb1, zb2⟩ := hSw; go_simp⟩) hH ?_
         simp only [Act.put, gA, gB, gC, gD, gE, gG]
         refine wpAnyH_ready (rs := [13]) (by kernel_rfl) (by simp) (AllReadyH.cons (o := _) rfl (fun K hK => ?_) AllReadyH.nil)
         ·skip
          obtain ⟨q0, q1, q2, qf⟩ := rw_cells3 qa
          go_simp
          clear q0 q1 q2 qf
          replace qb := rw_far3 (b := Y1.heap.size) qb (.bool pe) (.int .u64 pl) (.int .u64 ph) (by first | assumption | exact Ne.symm (by assumption))
          replace qa := rw_set3 qa (.bool pe) (.int .u64 pl) (.int .u64 ph)
          replace cc := sp_set3 (b := Y1.heap.size) cc zzY1 (.bool pe) (.int .u64 pl) (.int .u64 ph)
          generalize hY : (((Y74.setCell ⟨Y1.heap.size, 0, none⟩ (.bool pe)).setCell ⟨Y1.heap.size, 1, none⟩ (.int .u64 pl)).setCell ⟨Y1.heap.size, 2, none⟩ (.int .u64 ph)) = Y75 at *
          clear hY
          refine hK.out _ _ (hall _ cc) (fun hH => ?_)
          clear hK K
          try simp only [Act.put, gA, gB, gC, gD, gE, gG]
          refine wpAnyH_ready (rs := [14]) (by kernel_rfl) (by simp) (AllReadyH.cons (o := _) rfl (fun K hK => ?_) AllReadyH.nil)
          ·skip
           obtain ⟨q0, q1, q2, qf⟩ := rw_cells3 qb
           go_simp
           clear q0 q1 q2 qf
           replace qa := rw_far3 (b := Y62.heap.size) qa (.bool qe) (.int .u64 ql) (.int .u64 qh) (by first | assumption | exact Ne.symm (by assumption))
           replace qb := rw_set3 qb (.bool qe) (.int .u64 ql) (.int .u64 qh)
           replace cc := sp_set3 (b := Y62.heap.size) cc zzY62 (.bool qe) (.int .u64 ql) (.int .u64 qh)
           generalize hY : (((Y75.setCell ⟨Y62.heap.size, 0, none⟩ (.bool qe)).setCell ⟨Y62.heap.size, 1, none⟩ (.int .u64 ql)).setCell ⟨Y62.heap.size, 2, none⟩ (.int .u64 qh)) = Y76 at *
           clear hY
           refine hK.out _ _ (hall _ cc) (fun hH => ?_)
           clear hK K
           try simp only [Act.put, gA, gB, gC, gD, gE, gG]
           refine wpAnyH_done (by kernel_rfl) ?_ _
           go_wp2_with fail
           go_meet
           exact ⟨_, _, _, rfl, rfl, rfl, qa, qb, zzY1, zzY62, cc⟩
     ·skip
      go_simp
      have zzY61 := cc.size
      have neqb : Y1.heap.size ≠ Y61.heap.size := Nat.ne_of_lt (rw_lt qa)
      replace qa := rw_old qa (Obj.cells #[.bool false, .int .u64 0, .int .u64 0] 97 (0, 0))
      have qb := World.alloc_heap_new Y61 (Obj.cells #[.bool false, .int .u64 0, .int .u64 0] 97 (0, 0))
      replace cc := sp_new cc (Obj.cells #[.bool false, .int .u64 0, .int .u64 0] 97 (0, 0))
      replace oL := sp_new oL (Obj.cells #[.bool false, .int .u64 0, .int .u64 0] 97 (0, 0))
      generalize hY : Y61.alloc (Obj.cells #[.bool false, .int .u64 0, .int .u64 0] 97 (0, 0)) = Y77 at *
      clear hY
      refine hK.out _ _ (hall _ cc) (fun hH => ?_)
      clear hK K
      try simp only [Act.put, gA, gB, gC, gD, gE, gG]
      refine wpAnyH_ready (rs := [4]) (by kernel_rfl) (by simp) (AllReadyH.cons (o := _) rfl (fun K hK => ?_) AllReadyH.nil)
      ·skip
       go_simp
       refine (ho1 _ _ _ _).mono ?_
       rintro e Y78 ⟨rfl, g⟩
       replace oL := sp_call oL g
       replace cc := sp_call cc g
       replace qa := carryF g qa
       replace qb := carryF g qb
       clear g
       go_wp2_with fail
       refine hK.out _ _ (hall _ cc) (fun hH => ?_)
       clear hK K
       try simp only [Act.put, gA, gB, gC, gD, gE, gG]
       refine wpAnyH_ready (rs := [6]) (by kernel_rfl) (by simp) (AllReadyH.cons (o := _) rfl (fun K hK => ?_) AllReadyH.nil)
       ·skip
        go_simp
        refine (ho1 _ _ _ _).mono ?_
        rintro e Y79 ⟨rfl, g⟩
        replace oL := sp_call oL g
        replace cc := sp_call cc g
        replace qa := carryF g qa
        replace qb := carryF g qb
        clear g
        go_wp2_with fail
        refine hK.out _ _ (hall _ cc) (fun hH => ?_)
        clear hK K
        try simp only [Act.put, gA, gB, gC, gD, gE, gG]
        refine wpAnyH_ready (rs := [7]) (by kernel_rfl) (by simp) (AllReadyH.cons (o := _) rfl (fun K hK => ?_) AllReadyH.nil)
        ·skip
         go_simp
         refine (h L _ _ hL _ oL).mono ?_
         rintro e Y80 ⟨rfl, g⟩
         clear oL hL
         replace cc := sp_call cc g
         replace qa := carryF g qa
         replace qb := carryF g qb
         clear g
         go_wp2_with fail
         refine hK.out _ _ (hall _ cc) (fun hH => ?_)
         clear hK K
         try simp only [Act.put, gA, gB, gC, gD, gE, gG]
         refine wpAnyH_take (i := 8) (oi := _) (v := .tuple #[.agg #[.bool pe, .int .u64 pl, .int .u64 ph], .agg #[.bool qe, .int .u64 ql, .int .u64 qh]]) rfl (by kernel_rfl) (by kernel_rfl) (by kernel_rfl) (fun _ _ _ h => h) (Or.inl ⟨by rfl, fun w' hSw => by obtain ⟨za0, za1, za2, zb0, zb1, zb2⟩ := hSw; go_simp⟩) hH ?_
         simp only [Act.put, gA, gB, gC, gD, gE, gG]
         refine wpAnyH_take (i := 9) (oi := _) (v := .agg #[.bool pe, .int .u64 pl, .int .u64 ph]) rfl (by kernel_rfl) (by kernel_rfl) (by kernel_rfl) (fun _ _ _ h => h) (Or.inl ⟨by rfl, fun w' hSw => by obtain ⟨za0, za1, za2, zb0, zb1, zb2⟩ := hSw; go_simp⟩) hH ?_
         simp only [Act.put, gA, gB, gC, gD, gE, gG]
         refine wpAnyH_take (i := 10) (oi := _) (v := .agg #[.bool qe, .int .u64 ql, .int .u64 qh]) rfl (by kernel_rfl) (by kernel_rfl) (by kernel_rfl) (fun _ _ _ h => h) (Or.inl ⟨by rfl, fun w' hSw => by obtain ⟨za0, za1, za2, zb0, zb1, zb2⟩ := hSw; go_simp⟩) hH ?_
         simp only [Act.put, gA, gB, gC, gD, gE, gG]
         refine wpAnyH_ready (rs := [13]) (by kernel_rfl) (by simp) (AllReadyH.cons (o := _) rfl (fun K hK => ?_) AllReadyH.nil)
         ·skip
          obtain ⟨q0, q1, q2, qf⟩ := rw_cells3 qa
          go_simp
          clear q0 q1 q2 qf
          replace qb := rw_far3 (b := Y1.heap.size) qb (.bool pe) (.int .u64 pl) (.int .u64 ph) (by first | assumption | exact Ne.symm (by assumption))
          replace qa := rw_set3 qa (.bool pe) (.int .u64 pl) (.int .u64 ph)
          replace cc := sp_set3 (b := Y1.heap.size) cc zzY1 (.bool pe) (.int .u64 pl) (.int .u64 ph)
          generalize hY : (((Y80.setCell ⟨Y1.heap.size, 0, none⟩ (.bool pe)).setCell ⟨Y1.heap.size, 1, none⟩ (.int .u64 pl)).setCell ⟨Y1.heap.size, 2, none⟩ (.int .u64 ph)) = Y81 at *
          clear hY
          refine hK.out _ _ (hall _ cc) (fun hH => ?_)
          clear hK K
          try simp only [Act.put, gA, gB, gC, gD, gE, gG]
          refine wpAnyH_ready (rs := [14]) (by kernel_rfl) (by simp) (AllReadyH.cons (o := _) rfl (fun K hK => ?_) AllReadyH.nil)
          ·skip
           obtain ⟨q0, q1, q2, qf⟩ := rw_cells3 qb
           go_simp
           clear q0 q1 q2 qf
           replace qa := rw_far3 (b := Y61.heap.size) qa (.bool qe) (.int .u64 ql) (.int .u64 qh) (by first | assumption | exact Ne.symm (by assumption))
           replace qb := rw_set3 qb (.bool qe) (.int .u64 ql) (.int .u64 qh)
           replace cc := sp_set3 (b := Y61.heap.size) cc zzY61 (.bool qe) (.int .u64 ql) (.int .u64 qh)
           generalize hY : (((Y81.setCell ⟨Y61.heap.size, 0, none⟩ (.bool qe)).setCell ⟨Y61.heap.size, 1, none⟩ (.int .u64 ql)).setCell ⟨Y61.heap.size, 2, none⟩ (.int .u64 qh)) = Y82 at *
           clear hY
           refine hK.out _ _ (hall _ cc) (fun hH => ?_)
           clear hK K
           try simp only [Act.put, gA, gB, gC, gD, gE, gG]
           refine wpAnyH_done (by kernel_rfl) ?_ _
           go_wp2_with fail
           go_meet
           exact ⟨_, _, _, rfl, rfl, rfl, qa, qb, zzY1, zzY61, cc⟩
    ·skip
     go_simp
     have zzY1 := cc.size
     have qb := World.alloc_heap_new Y1 (Obj.cells #[.bool false, .int .u64 0, .int .u64 0] 97 (0, 0))
     replace cc := sp_new cc (Obj.cells #[.bool false, .int .u64 0, .int .u64 0] 97 (0, 0))
     replace oL := sp_new oL (Obj.cells #[.bool false, .int .u64 0, .int .u64 0] 97 (0, 0))
     generalize hY : Y1.alloc (Obj.cells #[.bool false, .int .u64 0, .int .u64 0] 97 (0, 0)) = Y83 at *
     clear hY
     refine hK.out _ _ (hall _ cc) (fun hH => ?_)
     clear hK K
     try simp only [Act.put, gA, gB, gC, gD, gE, gG]
     refine wpAnyH_ready (rs := [4, 11]) (by kernel_rfl) (by simp) (AllReadyH.cons (o := _) rfl (fun K hK => ?_) (AllReadyH.cons (o := _) rfl (fun K hK => ?_) AllReadyH.nil))
     ·skip
      go_simp
      refine (ho1 _ _ _ _).mono ?_
      rintro e Y84 ⟨rfl, g⟩
      replace oL := sp_call oL g
      replace cc := sp_call cc g
      replace qb := carryF g qb
      clear g
      go_wp2_with fail
      refine hK.out _ _ (hall _ cc) (fun hH => ?_)
      clear hK K
      try simp only [Act.put, gA, gB, gC, gD, gE, gG]
      refine wpAnyH_ready (rs := [6, 11]) (by kernel_rfl) (by simp) (AllReadyH.cons (o := _) rfl (fun K hK => ?_) (AllReadyH.cons (o := _) rfl (fun K hK => ?_) AllReadyH.nil))
      ·skip
       go_simp
       refine (ho1 _ _ _ _).mono ?_
       rintro e Y85 ⟨rfl, g⟩
       replace oL := sp_call oL g
       replace cc := sp_call cc g
       replace qb := carryF g qb
       clear g
       go_wp2_with fail
       refine hK.out _ _ (hall _ cc) (fun hH => ?_)
       clear hK K
       try simp only [Act.put, gA, gB, gC, gD, gE, gG]
       refine wpAnyH_ready (rs := [7, 11]) (by kernel_rfl) (by simp) (AllReadyH.cons (o := _) rfl (fun K hK => ?_) (AllReadyH.cons (o := _) rfl (fun K hK => ?_) AllReadyH.nil))
       ·skip
        go_simp
        refine (h L _ _ hL _ oL).mono ?_
        rintro e Y86 ⟨rfl, g⟩
        clear oL hL
        replace cc := sp_call cc g
        replace qb := carryF g qb
        clear g
        go_wp2_with fail
        refine hK.out _ _ (hall _ cc) (fun hH => ?_)
        clear hK K
        try simp only [Act.put, gA, gB, gC, gD, gE, gG]
        refine wpAnyH_take (i := 8) (oi := _) (v := .tuple #[.agg #[.bool pe, .int .u64 pl, .int .u64 ph], .agg #[.bool qe, .int .u64 ql, .int .u64 qh]]) rfl (by kernel_rfl) (by kernel_rfl) (by kernel_rfl) (fun _ _ _ h => h) (Or.inl ⟨by rfl, fun w' hSw => by obtain ⟨za0, za1, za2, zb0, zb1, zb2⟩ := hSw; go_simp⟩) hH ?_
        simp only [Act.put, gA, gB, gC, gD, gE, gG]
        refine wpAnyH_take (i := 9) (oi := _) (v := .agg #[.bool pe, .int .u64 pl, .int .u64 ph]) rfl (by kernel_rfl) (by kernel_rfl) (by kernel_rfl) (fun _ _ _ h => h) (Or.inl ⟨by rfl, fun w' hSw => by obtain ⟨za0, za1, za2, zb0, zb1, zb2⟩ := hSw; go_simp⟩) hH ?_
        simp only [Act.put, gA, gB, gC, gD, gE, gG]
        refine wpAnyH_take (i := 10) (oi := _) (v := .agg #[.bool qe, .int .u64 ql, .int .u64 qh]) rfl (by kernel_rfl) (by kernel_rfl) (by kernel_rfl) (fun _ _ _ h => h) (Or.inl ⟨by rfl, fun w' hSw => by obtain ⟨za0, za1, za2, zb0, zb1, zb2⟩ := hSw; go_simp⟩) hH ?_
        simp only [Act.put, gA, gB, gC, gD, gE, gG]
        refine wpAnyH_ready (rs := [11]) (by kernel_rfl) (by simp) (AllReadyH.cons (o := _) rfl (fun K hK => ?_) AllReadyH.nil)
        ·skip
         go_simp
         have zzY86 := cc.size
         have neqa : Y1.heap.size ≠ Y86.heap.size := Nat.ne_of_lt (rw_lt qb)
         replace qb := rw_old qb (Obj.cells #[.bool false, .int .u64 0, .int .u64 0] 97 (0, 0))
         have qa := World.alloc_heap_new Y86 (Obj.cells #[.bool false, .int .u64 0, .int .u64 0] 97 (0, 0))
         replace cc := sp_new cc (Obj.cells #[.bool false, .int .u64 0, .int .u64 0] 97 (0, 0))
         generalize hY : Y86.alloc (Obj.cells #[.bool false, .int .u64 0, .int .u64 0] 97 (0, 0)) = Y87 at *
         clear hY
         refine hK.out _ _ (hall _ cc) (fun hH => ?_)
         clear hK K
         try simp only [Act.put, gA, gB, gC, gD, gE, gG]
         refine wpAnyH_ready (rs := [13]) (by kernel_rfl) (by simp) (AllReadyH.cons (o := _) rfl (fun K hK => ?_) AllReadyH.nil)
         ·skip
          obtain ⟨q0, q1, q2, qf⟩ := rw_cells3 qa
          go_simp
          clear q0 q1 q2 qf
          replace qb := rw_far3 (b := Y86.heap.size) qb (.bool pe) (.int .u64 pl) (.int .u64 ph) (by first | assumption | exact Ne.symm (by assumption))
          replace qa := rw_set3 qa (.bool pe) (.int .u64 pl) (.int .u64 ph)
          replace cc := sp_set3 (b := Y86.heap.size) cc zzY86 (.bool pe) (.int .u64 pl) (.int .u64 ph)
          generalize hY : (((Y87.setCell ⟨Y86.heap.size, 0, none⟩ (.bool pe)).setCell ⟨Y86.heap.size, 1, none⟩ (.int .u64 pl)).setCell ⟨Y86.heap.size, 2, none⟩ (.int .u64 ph)) = Y88 at *
          clear hY
          refine hK.out _ _ (hall _ cc) (fun hH => ?_)
          clear hK K
          try simp only [Act.put, gA, gB, gC, gD, gE, gG]
          refine wpAnyH_ready (rs := [14]) (by kernel_rfl) (by simp) (AllReadyH.cons (o := _) rfl (fun K hK => ?_) AllReadyH.nil)
          ·skip
           obtain ⟨q0, q1, q2, qf⟩ := rw_cells3 qb
           go_simp
           clear q0 q1 q2 qf
           replace qa := rw_far3 (b := Y1.heap.size) qa (.bool qe) (.int .u64 ql) (.int .u64 qh) (by first | assumption | exact Ne.symm (by assumption))
           replace qb := rw_set3 qb (.bool qe) (.int .u64 ql) (.int .u64 qh)
           replace cc := sp_set3 (b := Y1.heap.size) cc zzY1 (.bool qe) (.int .u64 ql) (.int .u64 qh)
           generalize hY : (((Y88.setCell ⟨Y1.heap.size, 0, none⟩ (.bool qe)).setCell ⟨Y1.heap.size, 1, none⟩ (.int .u64 ql)).setCell ⟨Y1.heap.size, 2, none⟩ (.int .u64 qh)) = Y89 at *
           clear hY
           refine hK.out _ _ (hall _ cc) (fun hH => ?_)
           clear hK K
           try simp only [Act.put, gA, gB, gC, gD, gE, gG]
           refine wpAnyH_done (by kernel_rfl) ?_ _
           go_wp2_with fail
           go_meet
           exact ⟨_, _, _, rfl, rfl, rfl, qa, qb, zzY86, zzY1, cc⟩
       ·skip
        go_simp
        have zzY85 := cc.size
        have neqa : Y1.heap.size ≠ Y85.heap.size := Nat.ne_of_lt (rw_lt qb)
        replace qb := rw_old qb (Obj.cells #[.bool false, .int .u64 0, .int .u64 0] 97 (0, 0))
        have qa := World.alloc_heap_new Y85 (Obj.cells #[.bool false, .int .u64 0, .int .u64 0] 97 (0, 0))
        replace cc := sp_new cc (Obj.cells #[.bool false, .int .u64 0, .int .u64 0] 97 (0, 0))
        replace oL := sp_new oL (Obj.cells #[.bool false, .int .u64 0, .int .u64 0] 97 (0, 0))
        generalize hY : Y85.alloc (Obj.cells #[.bool false, .int .u64 0, .int .u64 0] 97 (0, 0)) = Y90 at *
        clear hY
        refine hK.out _ _ (hall _ cc) (fun hH => ?_)
        clear hK K
        try simp only [Act.put, gA, gB, gC, gD, gE, gG]
        refine wpAnyH_ready (rs := [7]) (by kernel_rfl) (by simp) (AllReadyH.cons (o := _) rfl (fun K hK => ?_) AllReadyH.nil)
        ·skip
         go_simp
         refine (h L _ _ hL _ oL).mono ?_
         rintro e Y91 ⟨rfl, g⟩
         clear oL hL
         replace cc := sp_call cc g
         replace qa := carryF g qa
         replace qb := carryF g qb
         clear g
         go_wp2_with fail
         refine hK.out _ _ (hall _ cc) (fun hH => ?_)
         clear hK K
         try simp only [Act.put, gA, gB, gC, gD, gE, gG]
         refine wpAnyH_take (i := 8) (oi := _) (v := .tuple #[.agg #[.bool pe, .int .u64 pl, .int .u64 ph], .agg #[.bool qe, .int .u64 ql, .int .u64 qh]]) rfl (by kernel_rfl) (by kernel_rfl) (by kernel_rfl) (fun _ _ _ h => h) (Or.inl ⟨by rfl, fun w' hSw => by obtain ⟨za0, za1, za2, zb0, zb1, zb2⟩ := hSw; go_simp⟩) hH ?_
         simp only [Act.put, gA, gB, gC, gD, gE, gG]
         refine wpAnyH_take (i := 9) (oi := _) (v := .agg #[.bool pe, .int .u64 pl, .int .u64 ph]) rfl (by kernel_rfl) (by kernel_rfl) (by kernel_rfl) (fun _ _ _ h => h) (Or.inl ⟨by rfl, fun w' hSw => by obtain ⟨za0, za1, za2, zb0, zb1, zb2⟩ := hSw; go_simp⟩) hH ?_
         simp only [Act.put, gA, gB, gC, gD, gE, gG]
         refine wpAnyH_take (i := 10) (oi := _) (v := .agg #[.bool qe, .int .u64 ql, .int .u64 qh]) rfl (by kernel_rfl) (by kernel_rfl) (by kernel_rfl) (fun _ _ _ h => h) (Or.inl ⟨by rfl, fun w' hSw => by obtain ⟨za0, za1, za2, zb0, zb1, zb2⟩ := hSw; go_simp⟩) hH ?_
         simp only [Act.put, gA, gB, gC, gD, gE, gG]
         refine wpAnyH_ready (rs := [13]) (by kernel_rfl) (by simp) (AllReadyH.cons (o := _) rfl (fun K hK => ?_) AllReadyH.nil)
         ·skip
          obtain ⟨q0, q1, q2, qf⟩ := rw_cells3 qa
          go_simp
          clear q0 q1 q2 qf
          replace qb := rw_far3 (b := Y85.heap.size) qb (.bool pe) (.int .u64 pl) (.int .u64 ph) (by first | assumption | exact Ne.symm (by assumption))
          replace qa := rw_set3 qa (.bool pe) (.int .u64 pl) (.int .u64 ph)
          replace cc := sp_set3 (b := Y85.heap.size) cc zzY85 (.bool pe) (.int .u64 pl) (.int .u64 ph)
          generalize hY : (((Y91.setCell ⟨Y85.heap.size, 0, none⟩ (.bool pe)).setCell ⟨Y85.heap.size, 1, none⟩ (.int .u64 pl)).setCell ⟨Y85.heap.size, 2, none⟩ (.int .u64 ph)) = Y92 at *
          clear hY
          refine hK.out _ _ (hall _ cc) (fun hH => ?_)
          clear hK K
          try simp only [Act.put, gA, gB, gC, gD, gE, gG]
          refine wpAnyH_ready (rs := [14]) (by kernel_rfl) (by simp) (AllReadyH.cons (o := _) rfl (fun K hK => ?_) AllReadyH.nil)
          ·skip
           obtain ⟨q0, q1, q2, qf⟩ := rw_cells3 qb
           go_simp
           clear q0 q1 q2 qf
           replace qa := rw_far3 (b := Y1.heap.size) qa (.bool qe) (.int .u64 ql) (.int .u64 qh) (by first | assumption | exact Ne.symm (by assumption))
           replace qb := rw_set3 qb (.bool qe) (.int .u64 ql) (.int .u64 qh)
           replace cc := sp_set3 (b := Y1.heap.size) cc zzY1 (.bool qe) (.int .u64 ql) (.int .u64 qh)
           generalize hY : (((Y92.setCell ⟨Y1.heap.size, 0, none⟩ (.bool qe)).setCell ⟨Y1.heap.size, 1, none⟩ (.int .u64 ql)).setCell ⟨Y1.heap.size, 2, none⟩ (.int .u64 qh)) = Y93 at *
           clear hY
           refine hK.out _ _ (hall _ cc) (fun hH => ?_)
           clear hK K
           try simp only [Act.put, gA, gB, gC, gD, gE, gG]
           refine wpAnyH_done (by kernel_rfl) ?_ _
           go_wp2_with fail
           go_meet
           exact ⟨_, _, _, rfl, rfl, rfl, qa, qb, zzY85, zzY1, cc⟩
      ·skip
       go_simp
       have zzY84 := cc.size
       have neqa : Y1.heap.size ≠ Y84.heap.size := Nat.ne_of_lt (rw_lt qb)
       replace qb := rw_old qb (Obj.cells #[.bool false, .int .u64 0, .int .u64 0] 97 (0, 0))
       have qa := World.alloc_heap_new Y84 (Obj.cells #[.bool false, .int .u64 0, .int .u64 0] 97 (0, 0))
       replace cc := sp_new cc (Obj.cells #[.bool false, .int .u64 0, .int .u64 0] 97 (0, 0))
       replace oL := sp_new oL (Obj.cells #[.bool false, .int .u64 0, .int .u64 0] 97 (0, 0))
       generalize hY : Y84.alloc (Obj.cells #[.bool false, .int .u64 0, .int .u64 0] 97 (0, 0)) = Y94 at *
       clear hY
       refine hK.out _ _ (hall _ cc) (fun hH => ?_)
       clear hK K
       try simp only [Act.put, gA, gB, gC, gD, gE, gG]
       refine wpAnyH_ready (rs := [6]) (by kernel_rfl) (by simp) (AllReadyH.cons (o := _) rfl (fun K hK => ?_) AllReadyH.nil)
       ·skip
        go_simp
        refine (ho1 _ _ _ _).mono ?_
        rintro e Y95 ⟨rfl, g⟩
        replace oL := sp_call oL g
        replace cc := sp_call cc g
        replace qa := carryF g qa
        replace qb := carryF g qb
        clear g
        go_wp2_with fail
        refine hK.out _ _ (hall _ cc) (fun hH => ?_)
        clear hK K
        try simp only [Act.put, gA, gB, gC, gD, gE, gG]
        refine wpAnyH_ready (rs := [7]) (by kernel_rfl) (by simp) (AllReadyH.cons (o := _) rfl (fun K hK => ?_) AllReadyH.nil)
        ·skip
         go_simp
         refine (h L _ _ hL _ oL).mono ?_
         rintro e Y96 ⟨rfl, g⟩
         clear oL hL
         replace cc := sp_call cc g
         replace qa := carryF g qa
         replace qb := carryF g qb
         clear g
         go_wp2_with fail
         refine hK.out _ _ (hall _ cc) (fun hH => ?_)
         clear hK K
         try simp only [Act.put, gA, gB, gC, gD, gE, gG]
         refine wpAnyH_take (i := 8) (oi := _) (v := .tuple #[.agg #[.bool pe, .int .u64 pl, .int .u64 ph], .agg #[.bool qe, .int .u64 ql, .int .u64 qh]]) rfl (by kernel_rfl) (by kernel_rfl) (by kernel_rfl) (fun _ _ _ h => h) (Or.inl ⟨by rfl, fun w' hSw => by obtain ⟨za0, za1, za2, zb0, zb1, zb2⟩ := hSw; go_simp⟩) hH ?_
         simp only [Act.put, gA, gB, gC, gD, gE, gG]
         refine wpAnyH_take (i := 9) (oi := _) (v := .agg #[.bool pe, .int .u64 pl, .int .u64 ph]) rfl (by kernel_rfl) (by kernel_rfl) (by kernel_rfl) (fun _ _ _ h => h) (Or.inl ⟨by rfl, fun w' hSw => by obtain ⟨za0, za1, za2, zb0, zb1, zb2⟩ := hSw; go_simp⟩) hH ?_
         simp only [Act.put, gA, gB, gC, gD, gE, gG]
         refine wpAnyH_take (i := 10) (oi := _) (v := .agg #[.bool qe, .int .u64 ql, .int .u64 qh]) rfl (by kernel_rfl) (by kernel_rfl) (by kernel_rfl) (fun _ _ _ h => h) (Or.inl ⟨by rfl, fun w' hSw => by obtain ⟨za0, za1, za2, zb0, zb1, zb2⟩ := hSw; go_simp⟩) hH ?_
         simp only [Act.put, gA, gB, gC, gD, gE, gG]
         refine wpAnyH_ready (rs := [13]) (by kernel_rfl) (by simp) (AllReadyH.cons (o := _) rfl (fun K hK => ?_) AllReadyH.nil)
         ·skip
          obtain ⟨q0, q1, q2, qf⟩ := rw_cells3 qa
          go_simp
          clear q0 q1 q2 qf
          replace qb := rw_far3 (b := Y84.heap.size) qb (.bool pe) (.int .u64 pl) (.int .u64 ph) (by first | assumption | exact Ne.symm (by assumption))
          replace qa := rw_set3 qa (.bool pe) (.int .u64 pl) (.int .u64 ph)
          replace cc := sp_set3 (b := Y84.heap.size) cc zzY84 (.bool pe) (.int .u64 pl) (.int .u64 ph)
          generalize hY : (((Y96.setCell ⟨Y84.heap.size, 0, none⟩ (.bool pe)).setCell ⟨Y84.heap.size, 1, none⟩ (.int .u64 pl)).setCell ⟨Y84.heap.size, 2, none⟩ (.int .u64 ph)) = Y97 at *
          clear hY
          refine hK.out _ _ (hall _ cc) (fun hH => ?_)
          clear hK K
          try simp only [Act.put, gA, gB, gC, gD, gE, gG]
          refine wpAnyH_ready (rs := [14]) (by kernel_rfl) (by simp) (AllReadyH.cons (o := _) rfl (fun K hK => ?_) AllReadyH.nil)
          ·skip
           obtain ⟨q0, q1, q2, qf⟩ := rw_cells3 qb
           go_simp
           clear q0 q1 q2 qf
           replace qa := rw_far3 (b := Y1.heap.size) qa (.bool qe) (.int .u64 ql) (.int .u64 qh) (by first | assumption | exact Ne.symm (by assumption))
           replace qb := rw_set3 qb (.bool qe) (.int .u64 ql) (.int .u64 qh)
           replace cc := sp_set3 (b := Y1.heap.size) cc zzY1 (.bool qe) (.int .u64 ql) (.int .u64 qh)
           generalize hY : (((Y97.setCell ⟨Y1.heap.size, 0, none⟩ (.bool qe)).setCell ⟨Y1.heap.size, 1, none⟩ (.int .u64 ql)).setCell ⟨Y1.heap.size, 2, none⟩ (.int .u64 qh)) = Y98 at *
           clear hY
           refine hK.out _ _ (hall _ cc) (fun hH => ?_)
           clear hK K
           try simp only [Act.put, gA, gB, gC, gD, gE, gG]
           refine wpAnyH_done (by kernel_rfl) ?_ _
           go_wp2_with fail
           go_meet
           exact ⟨_, _, _, rfl, rfl, rfl, qa, qb, zzY84, zzY1, cc⟩
     ·skip
      go_simp
      have zzY83 := cc.size
      have neqa : Y1.heap.size ≠ Y83.heap.size := Nat.ne_of_lt (rw_lt qb)
      replace qb := rw_old qb (Obj.cells #[.bool false, .int .u64 0, .int .u64 0] 97 (0, 0))
      have qa := World.alloc_heap_new Y83 (Obj.cells #[.bool false, .int .u64 0, .int .u64 0] 97 (0, 0))
      replace cc := sp_new cc (Obj.cells #[.bool false, .int .u64 0, .int .u64 0] 97 (0, 0))
      replace oL := sp_new oL (Obj.cells #[.bool false, .int .u64 0, .int .u64 0] 97 (0, 0))
      generalize hY : Y83.alloc (Obj.cells #[.bool false, .int .u64 0, .int .u64 0] 97 (0, 0)) = Y99 at *
      clear hY
      refine hK.out _ _ (hall _ cc) (fun hH => ?_)
      clear hK K
      try simp only [Act.put, gA, gB, gC, gD, gE, gG]
      refine wpAnyH_ready (rs := [4]) (by kernel_rfl) (by simp) (AllReadyH.cons (o := _) rfl (fun K hK => ?_) AllReadyH.nil)
      ·skip
       go_simp
       refine (ho1 _ _ _ _).mono ?_
       rintro e Y100 ⟨rfl, g⟩
       replace oL := sp_call oL g
       replace cc := sp_call cc g
       replace qa := carryF g qa
       replace qb := carryF g qb
       clear g
       go_wp2_with fail
       refine hK.out _ _ (hall _ cc) (fun hH => ?_)
       clear hK K
       try simp only [Act.put, gA, gB, gC, gD, gE, gG]
       refine wpAnyH_ready (rs := [6]) (by kernel_rfl) (by simp) (AllReadyH.cons (o := _) rfl (fun K hK => ?_) AllReadyH.nil)
       ·skip
        go_simp
        refine (ho1 _ _ _ _).mono ?_
        rintro e Y101 ⟨rfl, g⟩
        replace oL := sp_call oL g
        replace cc := sp_call cc g
        replace qa := carryF g qa
        replace qb := carryF g qb
        clear g
        go_wp2_with fail
        refine hK.out _ _ (hall _ cc) (fun hH => ?_)
        clear hK K
        try simp only [Act.put, gA, gB, gC, gD, gE, gG]
        refine wpAnyH_ready (rs := [7]) (by kernel_rfl) (by simp) (AllReadyH.cons (o := _) rfl (fun K hK => ?_) AllReadyH.nil)
        ·skip
         go_simp
         refine (h L _ _ hL _ oL).mono ?_
         rintro e Y102 ⟨rfl, g⟩
         clear oL hL
         replace cc := sp_call cc g
         replace qa := carryF g qa
         replace qb := carryF g qb
         clear g
         go_wp2_with fail
         refine hK.out _ _ (hall _ cc) (fun hH => ?_)
         clear hK K
         try simp only [Act.put, gA, gB, gC, gD, gE, gG]
         refine wpAnyH_take (i := 8) (oi := _) (v := .tuple #[.agg #[.bool pe, .int .u64 pl, .int .u64 ph], .agg #[.bool qe, .int .u64 ql, .int .u64 qh]]) rfl (by kernel_rfl) (by kernel_rfl) (by kernel_rfl) (fun _ _ _ h => h) (Or.inl ⟨by rfl, fun w' hSw => by obtain ⟨za0, za1, za2, zb0, zb1, zb2⟩ := hSw; go_simp⟩) hH ?_
         simp only [Act.put, gA, gB, gC, gD, gE, gG]
         refine wpAnyH_take (i := 9) (oi := _) (v := .agg #[.bool pe, .int .u64 pl, .int .u64 ph]) rfl (by kernel_rfl) (by kernel_rfl) (by kernel_rfl) (fun _ _ _ h => h) (Or.inl ⟨by rfl, fun w' hSw => by obtain ⟨za0, za1, za2, zb0, zb1, zb2⟩ := hSw; go_simp⟩) hH ?_
         simp only [Act.put, gA, gB, gC, gD, gE, gG]
         refine wpAnyH_take (i := 10) (oi := _) (v := .agg #[.bool qe, .int .u64 ql, .int .u64 qh]) rfl (by kernel_rfl) (by kernel_rfl) (by kernel_rfl) (fun _ _ _ h => h) (Or.inl ⟨by rfl, fun w' hSw => by obtain ⟨za0, za1, za2, zb0, zb1, zb2⟩ := hSw; go_simp⟩) hH ?_
         simp only [Act.put, gA, gB, gC, gD, gE, gG]
         refine wpAnyH_ready (rs := [13]) (by kernel_rfl) (by simp) (AllReadyH.cons (o := _) rfl (fun K hK => ?_) AllReadyH.nil)
         ·skip
          obtain ⟨q0, q1, q2, qf⟩ := rw_cells3 qa
          go_simp
          clear q0 q1 q2 qf
          replace qb := rw_far3 (b := Y83.heap.size) qb (.bool pe) (.int .u64 pl) (.int .u64 ph) (by first | assumption | exact Ne.symm (by assumption))
          replace qa := rw_set3 qa (.bool pe) (.int .u64 pl) (.int .u64 ph)
          replace cc := sp_set3 (b := Y83.heap.size) cc zzY83 (.bool pe) (.int .u64 pl) (.int .u64 ph)
          generalize hY : (((Y102.setCell ⟨Y83.heap.size, 0, none⟩ (.bool pe)).setCell ⟨Y83.heap.size, 1, none⟩ (.int .u64 pl)).setCell ⟨Y83.heap.size, 2, none⟩ (.int .u64 ph)) = Y103 at *
          clear hY
          refine hK.out _ _ (hall _ cc) (fun hH => ?_)
          clear hK K
          try simp only [Act.put, gA, gB, gC, gD, gE, gG]
          refine wpAnyH_ready (rs := [14]) (by kernel_rfl) (by simp) (AllReadyH.cons (o := _) rfl (fun K hK => ?_) AllReadyH.nil)
          ·skip
           obtain ⟨q0, q1, q2, qf⟩ := rw_cells3 qb
           go_simp
           clear q0 q1 q2 qf
           replace qa := rw_far3 (b := Y1.heap.size) qa (.bool qe) (.int .u64 ql) (.int .u64 qh) (by first | assumption | exact Ne.symm (by assumption))
           replace qb := rw_set3 qb (.bool qe) (.int .u64 ql) (.int .u64 qh)
           replace cc := sp_set3 (b := Y1.heap.size) cc zzY1 (.bool qe) (.int .u64 ql) (.int .u64 qh)
           generalize hY : (((Y103.setCell ⟨Y1.heap.size, 0, none⟩ (.bool qe)).setCell ⟨Y1.heap.size, 1, none⟩ (.int .u64 ql)).setCell ⟨Y1.heap.size, 2, none⟩ (.int .u64 qh)) = Y104 at *
           clear hY
           refine hK.out _ _ (hall _ cc) (fun hH => ?_)
           clear hK K
           try simp only [Act.put, gA, gB, gC, gD, gE, gG]
           refine wpAnyH_done (by kernel_rfl) ?_ _
           go_wp2_with fail
           go_meet
           exact ⟨_, _, _, rfl, rfl, rfl, qa, qb, zzY83, zzY1, cc⟩
   ·skip
    go_simp
    have zzY0 := cc.size
    have qa := World.alloc_heap_new Y0 (Obj.cells #[.bool false, .int .u64 0, .int .u64 0] 97 (0, 0))
    replace cc := sp_new cc (Obj.cells #[.bool false, .int .u64 0, .int .u64 0] 97 (0, 0))
    generalize hY : Y0.alloc (Obj.cells #[.bool false, .int .u64 0, .int .u64 0] 97 (0, 0)) = Y105 at *
    clear hY
    refine hK.out _ _ (hall _ cc) (fun hH => ?_)
    clear hK K
    try simp only [Act.put, gA, gB, gC, gD, gE, gG]
    refine wpAnyH_ready (rs := [1, 12]) (by kernel_rfl) (by simp) (AllReadyH.cons (o := _) rfl (fun K hK => ?_) (AllReadyH.cons (o := _) rfl (fun K hK => ?_) AllReadyH.nil))
    ·skip
     go_simp
     refine (h1 _).mono ?_
     rintro e Y106 ⟨L, rfl, hL, g⟩
     have oL : Below Y106.heap.size Y106 Y106 := Below.refl _ _
     replace cc := sp_call cc g
     replace qa := carryF g qa
     clear g
     go_wp2_with fail
     refine hK.out _ _ (hall _ cc) (fun hH => ?_)
     clear hK K
     try simp only [Act.put, gA, gB, gC, gD, gE, gG]
     refine wpAnyH_ready (rs := [4, 12]) (by kernel_rfl) (by simp) (AllReadyH.cons (o := _) rfl (fun K hK => ?_) (AllReadyH.cons (o := _) rfl (fun K hK => ?_) AllReadyH.nil))
     ·skip
      go_simp
      refine (ho1 _ _ _ _).mono ?_
      rintro e Y107 ⟨rfl, g⟩
      replace oL := sp_call oL g
      replace cc := sp_call cc g
      replace qa := carryF g qa
      clear g
      go_wp2_with fail
      refine hK.out _ _ (hall _ cc) (fun hH => ?_)
      clear hK K
      try simp only [Act.put, gA, gB, gC, gD, gE, gG]
      refine wpAnyH_ready (rs := [6, 12]) (by kernel_rfl) (by simp) (AllReadyH.cons (o := _) rfl (fun K hK => ?_) (AllReadyH.cons (o := _) rfl (fun K hK => ?_) AllReadyH.nil))
      ·skip
       go_simp
       refine (ho1 _ _ _ _).mono ?_
       rintro e Y108 ⟨rfl, g⟩
       replace oL := sp_call oL g
       replace cc := sp_call cc g
       replace qa := carryF g qa
       clear g
       go_wp2_with fail
       refine hK.out _ _ (hall _ cc) (fun hH => ?_)
       clear hK K
       try simp only [Act.put, gA, gB, gC, gD, gE, gG]
       refine wpAnyH_ready (rs := [7, 12]) (by kernel_rfl) (by simp) (AllReadyH.cons (o := _) rfl (fun K hK => ?_) (AllReadyH.cons (o := _) rfl (fun K hK => ?_) AllReadyH.nil))
       ·skip
        go_simp
        refine (h L _ _ hL _ oL).mono ?_
        rintro e Y109 ⟨rfl, g⟩
        clear oL hL
        replace cc := sp_call cc g
        replace qa := carryF g qa
        clear g
        go_wp2_with fail
        refine hK.out _ _ (hall _ cc) (fun hH => ?_)
        clear hK K
        try simp only [Act.put, gA, gB, gC, gD, gE, gG]
        refine wpAnyH_take (i := 8) (oi := _) (v := .tuple #[.agg #[.bool pe, .int .u64 pl, .int .u64 ph], .agg #[.bool qe, .int .u64 ql, .int .u64 qh]]) rfl (by kernel_rfl) (by kernel_rfl) (by kernel_rfl) (fun _ _ _ h => h) (Or.inl ⟨by rfl, fun w' hSw => by obtain ⟨za0, za1, za2, zb0, zb1, zb2⟩ := hSw; go_simp⟩) hH ?_
        simp only [Act.put, gA, gB, gC, gD, gE, gG]
        refine wpAnyH_take (i := 9) (oi := _) (v := .agg #[.bool pe, .int .u64 pl, .int .u64 ph]) rfl (by kernel_rfl) (by kernel_rfl) (by kernel_rfl) (fun _ _ _ h => h) (Or.inl ⟨by rfl, fun w' hSw => by obtain ⟨za0, za1, za2, zb0, zb1, zb2⟩ := hSw; go_simp⟩) hH ?_
        simp only [Act.put, gA, gB, gC, gD, gE, gG]
        refine wpAnyH_take (i := 10) (oi := _) (v := .agg #[.bool qe, .int .u64 ql, .int .u64 qh]) rfl (by kernel_rfl) (by kernel_rfl) (by kernel_rfl) (fun _ _ _ h => h) (Or.inl ⟨by rfl, fun w' hSw => by obtain ⟨za0, za1, za2, zb0, zb1, zb2⟩ := hSw; go_simp⟩) hH ?_
        simp only [Act.put, gA, gB, gC, gD, gE, gG]
        refine wpAnyH_ready (rs := [12]) (by kernel_rfl) (by simp) (AllReadyH.cons (o := _) rfl (fun K hK => ?_) AllReadyH.nil)
        ·skip
         go_simp
         have zzY109 := cc.size
         have neqb : Y0.heap.size ≠ Y109.heap.size := Nat.ne_of_lt (rw_lt qa)
         replace qa := rw_old qa (Obj.cells #[.bool false, .int .u64 0, .int .u64 0] 97 (0, 0))
         have qb := World.alloc_heap_new Y109 (Obj.cells #[.bool false, .int .u64 0, .int .u64 0] 97 (0, 0))
         replace cc := sp_new cc (Obj.cells #[.bool false, .int .u64 0, .int .u64 0] 97 (0, 0))
         generalize hY : Y109.alloc (Obj.cells #[.bool false, .int .u64 0, .int .u64 0] 97 (0, 0)) = Y110 at *
         clear hY
         refine hK.out _ _ (hall _ cc) (fun hH => ?_)
         clear hK K
         try simp only [Act.put, gA, gB, gC, gD, gE, gG]
         refine wpAnyH_ready (rs := [13]) (by kernel_rfl) (by simp) (AllReadyH.cons (o := _) rfl (fun K hK => ?_) AllReadyH.nil)
         ·skip
          obtain ⟨q0, q1, q2, qf⟩ := rw_cells3 qa
          go_simp
          clear q0 q1 q2 qf
          replace qb := rw_far3 (b := Y0.heap.size) qb (.bool pe) (.int .u64 pl) (.int .u64 ph) (by first | assumption | exact Ne.symm (by assumption))
          replace qa := rw_set3 qa (.bool pe) (.int .u64 pl) (.int .u64 ph)
          replace cc := sp_set3 (b := Y0.heap.size) cc zzY0 (.bool pe) (.int .u64 pl) (.int .u64 ph)
          generalize hY : (((Y110.setCell ⟨Y0.heap.size, 0, none⟩ (.bool pe)).setCell ⟨Y0.heap.size, 1, none⟩ (.int .u64 pl)).setCell ⟨Y0.heap.size, 2, none⟩ (.int .u64 ph)) = Y111 at *
          clear hY
          refine hK.out _ _ (hall _ cc) (fun hH => ?_)
          clear hK K
          try simp only [Act.put, gA, gB, gC, gD, gE, gG]
          refine wpAnyH_ready (rs := [14]) (by kernel_rfl) (by simp) (AllReadyH.cons (o := _) rfl (fun K hK => ?_) AllReadyH.nil)
          ·skip
           obtain ⟨q0, q1, q2, qf⟩ := rw_cells3 qb
           go_simp
           clear q0 q1 q2 qf
           replace qa := rw_far3 (b := Y109.heap.size) qa (.bool qe) (.int .u64 ql) (.int .u64 qh) (by first | assumption | exact Ne.symm (by assumption))
           replace qb := rw_set3 qb (.bool qe) (.int .u64 ql) (.int .u64 qh)
           replace cc := sp_set3 (b := Y109.heap.size) cc zzY109 (.bool qe) (.int .u64 ql) (.int .u64 qh)
           generalize hY : (((Y111.setCell ⟨Y109.heap.size, 0, none⟩ (.bool qe)).setCell ⟨Y109.heap.size, 1, none⟩ (.int .u64 ql)).setCell ⟨Y109.heap.size, 2, none⟩ (.int .u64 qh)) = Y112 at *
           clear hY
           refine hK.out _ _ (hall _ cc) (fun hH => ?_)
           clear hK K
           try simp only [Act.put, gA, gB, gC, gD, gE, gG]
           refine wpAnyH_done (by kernel_rfl) ?_ _
           go_wp2_with fail
           go_meet
           exact ⟨_, _, _, rfl, rfl, rfl, qa, qb, zzY0, zzY109, cc⟩
       ·skip
        go_simp
        have zzY108 := cc.size
        have neqb : Y0.heap.size ≠ Y108.heap.size := Nat.ne_of_lt (rw_lt qa)
        replace qa := rw_old qa (Obj.cells #[.bool false, .int .u64 0, .int .u64 0] 97 (0, 0))
        have qb := World.alloc_heap_new Y108 (Obj.cells #[.bool false, .int .u64 0, .int .u64 0] 97 (0, 0))
        replace cc := sp_new cc (Obj.cells #[.bool false, .int .u64 0, .int .u64 0] 97 (0, 0))
        replace oL := sp_new oL (Obj.cells #[.bool false, .int .u64 0, .int .u64 0] 97 (0, 0))
        generalize hY : Y108.alloc (Obj.cells #[.bool false, .int .u64 0, .int .u64 0] 97 (0, 0)) = Y113 at *
        clear hY
        refine hK.out _ _ (hall _ cc) (fun hH => ?_)
        clear hK K
        try simp only [Act.put, gA, gB, gC, gD, gE, gG]
        refine wpAnyH_ready (rs := [7]) (by kernel_rfl) (by simp) (AllReadyH.cons (o := _) rfl (fun K hK => ?_) AllReadyH.nil)
        ·skip
         go_simp
         refine (h L _ _ hL _ oL).mono ?_
         rintro e Y114 ⟨rfl, g⟩
         clear oL hL
         replace cc := sp_call cc g
         replace qa := carryF g qa
         replace qb := carryF g qb
         clear g
         go_wp2_with fail
         refine hK.out _ _ (hall _ cc) (fun hH => ?_)
         clear hK K
         try simp only [Act.put, gA, gB, gC, gD, gE, gG]
         refine wpAnyH_take (i := 8) (oi := _) (v := .tuple #[.agg #[.bool pe, .int .u64 pl, .int .u64 ph], .agg #[.bool qe, .int .u64 ql, .int .u64 qh]]) rfl (by kernel_rfl) (by kernel_rfl) (by kernel_rfl) (fun _ _ _ h => h) (Or.inl ⟨by rfl, fun w' hSw => by obtain ⟨za0, za1, za2, zb0, zb1, zb2⟩ := hSw; go_simp⟩) hH ?_
         simp only [Act.put, gA, gB, gC, gD, gE, gG]
         refine wpAnyH_take (i := 9) (oi := _) (v := .agg #[.bool pe, .int .u64 pl, .int .u64 ph]) rfl (by kernel_rfl) (by kernel_rfl) (by kernel_rfl) (fun _ _ _ h => h) (Or.inl ⟨by rfl, fun w' hSw => by obtain ⟨za0, za1, za2, zb0, zb1, zb2⟩ := hSw; go_simp⟩) hH ?_
         simp only [Act.put, gA, gB, gC, gD, gE, gG]
         refine wpAnyH_take (i := 10) (oi := _) (v := .agg #[.bool qe, .int .u64 ql, .int .u64 qh]) rfl (by kernel_rfl) (by kernel_rfl) (by kernel_rfl) (fun _ _ _ h => h) (Or.inl ⟨by rfl, fun w' hSw => by obtain ⟨za0, za1, za2, zb0, zb1, zb2⟩ := hSw; go_simp⟩) hH ?_
         simp only [Act.put, gA, gB, gC, gD, gE, gG]
         refine wpAnyH_ready (rs := [13]) (by kernel_rfl) (by simp) (AllReadyH.cons (o := _) rfl (fun K hK => ?_) AllReadyH.nil)
         ·skip
          obtain ⟨q0, q1, q2, qf⟩ := rw_cells3 qa
          go_simp
          clear q0 q1 q2 qf
          replace qb := rw_far3 (b := Y0.heap.size) qb (.bool pe) (.int .u64 pl) (.int .u64 ph) (by first | assumption | exact Ne.symm (by assumption))
          replace qa := rw_set3 qa (.bool pe) (.int .u64 pl) (.int .u64 ph)
          replace cc := sp_set3 (b := Y0.heap.size) cc zzY0 (.bool pe) (.int .u64 pl) (.int .u64 ph)
          generalize hY : (((Y114.setCell ⟨Y0.heap.size, 0, none⟩ (.bool pe)).setCell ⟨Y0.heap.size, 1, none⟩ (.int .u64 pl)).setCell ⟨Y0.heap.size, 2, none⟩ (.int .u64 ph)) = Y115 at *
          clear hY
          refine hK.out _ _ (hall _ cc) (fun hH => ?_)
          clear hK K
          try simp only [Act.put, gA, gB, gC, gD, gE, gG]
          refine wpAnyH_ready (rs := [14]) (by kernel_rfl) (by simp) (AllReadyH.cons (o := _) rfl (fun K hK => ?_) AllReadyH.nil)
          ·skip
           obtain ⟨q0, q1, q2, qf⟩ := rw_cells3 qb
           go_simp
           clear q0 q1 q2 qf
           replace qa := rw_far3 (b := Y108.heap.size) qa (.bool qe) (.int .u64 ql) (.int .u64 qh) (by first | assumption | exact Ne.symm (by assumption))
           replace qb := rw_set3 qb (.bool qe) (.int .u64 ql) (.int .u64 qh)
           replace cc := sp_set3 (b := Y108.heap.size) cc zzY108 (.bool qe) (.int .u64 ql) (.int .u64 qh)
           generalize hY : (((Y115.setCell ⟨Y108.heap.size, 0, none⟩ (.bool qe)).setCell ⟨Y108.heap.size, 1, none⟩ (.int .u64 ql)).setCell ⟨Y108.heap.size, 2, none⟩ (.int .u64 qh)) = Y116 at *
           clear hY
           refine hK.out _ _ (hall _ cc) (fun hH => ?_)
           clear hK K
           try simp only [Act.put, gA, gB, gC, gD, gE, gG]
           refine wpAnyH_done (by kernel_rfl) ?_ _
           go_wp2_with fail
           go_meet
           exact ⟨_, _, _, rfl, rfl, rfl, qa, qb, zzY0, zzY108, cc⟩
      ·skip
       go_simp
       have zzY107 := cc.size
       have neqb : Y0.heap.size ≠ Y107.heap.size := Nat.ne_of_lt (rw_lt qa)
       replace qa := rw_old qa (Obj.cells #[.bool false, .int .u64 0, .int .u64 0] 97 (0, 0))
       have qb := World.alloc_heap_new Y107 (Obj.cells #[.bool false, .int .u64 0, .int .u64 0] 97 (0, 0))
       replace cc := sp_new cc (Obj.cells #[.bool false, .int .u64 0, .int .u64 0] 97 (0, 0))
       replace oL := sp_new oL (Obj.cells #[.bool false, .int .u64 0, .int .u64 0] 97 (0, 0))
       generalize hY : Y107.alloc (Obj.cells #[.bool false, .int .u64 0, .int .u64 0] 97 (0, 0)) = Y117 at *
       clear hY
       refine hK.out _ _ (hall _ cc) (fun hH => ?_)
       clear hK K
       try simp only [Act.put, gA, gB, gC, gD, gE, gG]
       refine wpAnyH_ready (rs := [6]) (by kernel_rfl) (by simp) (AllReadyH.cons (o := _) rfl (fun K hK => ?_) AllReadyH.nil)
       ·skip
        go_simp
        refine (ho1 _ _ _ _).mono ?_
        rintro e Y118 ⟨rfl, g⟩
        replace oL := sp_call oL g
        replace cc := sp_call cc g
        replace qa := carryF g qa
        replace qb := carryF g qb
        clear g
        go_wp2_with fail
        refine hK.out _ _ (hall _ cc) (fun hH => ?_)
        clear hK K
        try simp only [Act.put, gA, gB, gC, gD, gE, gG]
        refine wpAnyH_ready (rs := [7]) (by kernel_rfl) (by simp) (AllReadyH.cons (o := _) rfl (fun K hK => ?_) AllReadyH.nil)
        ·skip
         go_simp
         refine (h L _ _ hL _ oL).mono ?_
         rintro e Y119 ⟨rfl, g⟩
         clear oL hL
         replace cc := sp_call cc g
         replace qa := carryF g qa
         replace qb := carryF g qb
         clear g
         go_wp2_with fail
         refine hK.out _ _ (hall _ cc) (fun hH => ?_)
         clear hK K
         try simp only [Act.put, gA, gB, gC, gD, gE, gG]
         refine wpAnyH_take (i := 8) (oi := _) (v := .tuple #[.agg #[.bool pe, .int .u64 pl, .int .u64 ph], .agg #[.bool qe, .int .u64 ql, .int .u64 qh]]) rfl (by kernel_rfl) (by kernel_rfl) (by kernel_rfl) (fun _ _ _ h => h) (Or.inl ⟨by rfl, fun w' hSw => by obtain ⟨za0, za1, za2, zb0, zb1, zb2⟩ := hSw; go_simp⟩) hH ?_
         simp only [Act.put, gA, gB, gC, gD, gE, gG]
         refine wpAnyH_take (i := 9) (oi := _) (v := .agg #[.bool pe, .int .u64 pl, .int .u64 ph]) rfl (by kernel_rfl) (by kernel_rfl) (by kernel_rfl) (fun _ _ _ h => h) (Or.inl ⟨by rfl, fun w' hSw => by obtain ⟨za0, za1, za2, zb0, zb1, zb2⟩ := hSw; go_simp⟩) hH ?_
         simp only [Act.put, gA, gB, gC, gD, gE, gG]
         refine wpAnyH_take (i := 10) (oi := _) (v := .agg #[.bool qe, .int .u64 ql, .int .u64 qh]) rfl (by kernel_rfl) (by kernel_rfl) (by kernel_rfl) (fun _ _ _ h => h) (Or.inl ⟨by rfl, fun w' hSw => by obtain ⟨za0, za1, za2, zb0, zb1, zb2⟩ := hSw; go_simp⟩) hH ?_
         simp only [Act.put, gA, gB, gC, gD, gE, gG]
         refine wpAnyH_ready (rs := [13]) (by kernel_rfl) (by simp) (AllReadyH.cons (o := _) rfl (fun K hK => ?_) AllReadyH.nil)
         ·skip
          obtain ⟨q0, q1, q2, qf⟩ := rw_cells3 qa
          go_simp
          clear q0 q1 q2 qf
          replace qb := rw_far3 (b := Y0.heap.size) qb (.bool pe) (.int .u64 pl) (.int .u64 ph) (by first | assumption | exact Ne.symm (by assumption))
          replace qa := rw_set3 qa (.bool pe) (.int .u64 pl) (.int .u64 ph)
          replace cc := sp_set3 (b := Y0.heap.size) cc zzY0 (.bool pe) (.int .u64 pl) (.int .u64 ph)
          generalize hY : (((Y119.setCell ⟨Y0.heap.size, 0, none⟩ (.bool pe)).setCell ⟨Y0.heap.size, 1, none⟩ (.int .u64 pl)).setCell ⟨Y0.heap.size, 2, none⟩ (.int .u64 ph)) = Y120 at *
          clear hY
          refine hK.out _ _ (hall _ cc) (fun hH => ?_)
          clear hK K
          try simp only [Act.put, gA, gB, gC, gD, gE, gG]
          refine wpAnyH_ready (rs := [14]) (by kernel_rfl) (by simp) (AllReadyH.cons (o := _) rfl (fun K hK => ?_) AllReadyH.nil)
          ·skip
           obtain ⟨q0, q1, q2, qf⟩ := rw_cells3 qb
           go_simp
           clear q0 q1 q2 qf
           replace qa := rw_far3 (b := Y107.heap.size) qa (.bool qe) (.int .u64 ql) (.int .u64 qh) (by first | assumption | exact Ne.symm (by assumption))
           replace qb := rw_set3 qb (.bool qe) (.int .u64 ql) (.int .u64 qh)
           replace cc := sp_set3 (b := Y107.heap.size) cc zzY107 (.bool qe) (.int .u64 ql) (.int .u64 qh)
           generalize hY : (((Y120.setCell ⟨Y107.heap.size, 0, none⟩ (.bool qe)).setCell ⟨Y107.heap.size, 1, none⟩ (.int .u64 ql)).setCell ⟨Y107.heap.size, 2, none⟩ (.int .u64 qh)) = Y121 at *
           clear hY
           refine hK.out _ _ (hall _ cc) (fun hH => ?_)
           clear hK K
           try simp only [Act.put, gA, gB, gC, gD, gE, gG]
           refine wpAnyH_done (by kernel_rfl) ?_ _
           go_wp2_with fail
           go_meet
           exact ⟨_, _, _, rfl, rfl, rfl, qa, qb, zzY0, zzY107, cc⟩
     ·skip
      go_simp
      have zzY106 := cc.size
      have neqb : Y0.heap.size ≠ Y106.heap.size := Nat.ne_of_lt (rw_lt qa)
      replace qa := rw_old qa (Obj.cells #[.bool false, .int .u64 0, .int .u64 0] 97 (0, 0))
      have qb := World.alloc_heap_new Y106 (Obj.cells #[.bool false, .int .u64 0, .int .u64 0] 97 (0, 0))
      replace cc := sp_new cc (Obj.cells #[.bool false, .int .u64 0, .int .u64 0] 97 (0, 0))
      replace oL := sp_new oL (Obj.cells #[.bool false, .int .u64 0, .int .u64 0] 97 (0, 0))
      generalize hY : Y106.alloc (Obj.cells #[.bool false, .int .u64 0, .int .u64 0] 97 (0, 0)) = Y122 at *
      clear hY
      refine hK.out _ _ (hall _ cc) (fun hH => ?_)
      clear hK K
      try simp only [Act.put, gA, gB, gC, gD, gE, gG]
      refine wpAnyH_ready (rs := [4]) (by kernel_rfl) (by simp) (AllReadyH.cons (o := _) rfl (fun K hK => ?_) AllReadyH.nil)
      ·skip
       go_simp
       refine (ho1 _ _ _ _).mono ?_
       rintro e Y123 ⟨rfl, g⟩
       replace oL := sp_call oL g
       replace cc := sp_call cc g
       replace qa := carryF g qa
       replace qb := carryF g qb
       clear g
       go_wp2_with fail
       refine hK.out _ _ (hall _ cc) (fun hH => ?_)
       clear hK K
       try simp only [Act.put, gA, gB, gC, gD, gE, gG]
       refine wpAnyH_ready (rs := [6]) (by kernel_rfl) (by simp) (AllReadyH.cons (o := _) rfl (fun K hK => ?_) AllReadyH.nil)
       ·skip
        go_simp
        refine (ho1 _ _ _ _).mono ?_
        rintro e Y124 ⟨rfl, g⟩
        replace oL := sp_call oL g
        replace cc := sp_call cc g
        replace qa := carryF g qa
        replace qb := carryF g qb
        clear g
        go_wp2_with fail
        refine hK.out _ _ (hall _ cc) (fun hH => ?_)
        clear hK K
        try simp only [Act.put, gA, gB, gC, gD, gE, gG]
        refine wpAnyH_ready (rs := [7]) (by kernel_rfl) (by simp) (AllReadyH.cons (o := _) rfl (fun K hK => ?_) AllReadyH.nil)
        ·skip
         go_simp
         refine (h L _ _ hL _ oL).mono ?_
         rintro e Y125 ⟨rfl, g⟩
         clear oL hL
         replace cc := sp_call cc g
         replace qa := carryF g qa
         replace qb := carryF g qb
         clear g
         go_wp2_with fail
         refine hK.out _ _ (hall _ cc) (fun hH => ?_)
         clear hK K
         try simp only [Act.put, gA, gB, gC, gD, gE, gG]
         refine wpAnyH_take (i := 8) (oi := _) (v := .tuple #[.agg #[.bool pe, .int .u64 pl, .int .u64 ph], .agg #[.bool qe, .int .u64 ql, .int .u64 qh]]) rfl (by kernel_rfl) (by kernel_rfl) (by kernel_rfl) (fun _ _ _ h => h) (Or.inl ⟨by rfl, fun w' hSw => by obtain ⟨za0, za1, za2, zb0, zb1, zb2⟩ := hSw; go_simp⟩) hH ?_
         simp only [Act.put, gA, gB, gC, gD, gE, gG]
         refine wpAnyH_take (i := 9) (oi := _) (v := .agg #[.bool pe, .int .u64 pl, .int .u64 ph]) rfl (by kernel_rfl) (by kernel_rfl) (by kernel_rfl) (fun _ _ _ h => h) (Or.inl ⟨by rfl, fun w' hSw => by obtain ⟨za0, za1, za2, zb0, zb1, zb2⟩ := hSw; go_simp⟩) hH ?_
         simp only [Act.put, gA, gB, gC, gD, gE, gG]
         refine wpAnyH_take (i := 10) (oi := _) (v := .agg #[.bool qe, .int .u64 ql, .int .u64 qh]) rfl (by kernel_rfl) (by kernel_rfl) (by kernel_rfl) (fun _ _ _ h => h) (Or.inl ⟨by rfl, fun w' hSw => by obtain ⟨za0, za1, za2, zb0, zb1, zb2⟩ := hSw; go_simp⟩) hH ?_
         simp only [Act.put, gA, gB, gC, gD, gE, gG]
         refine wpAnyH_ready (rs := [13]) (by kernel_rfl) (by simp) (AllReadyH.cons (o := _) rfl (fun K hK => ?_) AllReadyH.nil)
         ·skip
          obtain ⟨q0, q1, q2, qf⟩ := rw_cells3 qa
          go_simp
          clear q0 q1 q2 qf
          replace qb := rw_far3 (b := Y0.heap.size) qb (.bool pe) (.int .u64 pl) (.int .u64 ph) (by first | assumption | exact Ne.symm (by assumption))
          replace qa := rw_set3 qa (.bool pe) (.int .u64 pl) (.int .u64 ph)
          replace cc := sp_set3 (b := Y0.heap.size) cc zzY0 (.bool pe) (.int .u64 pl) (.int .u64 ph)
          generalize hY : (((Y125.setCell ⟨Y0.heap.size, 0, none⟩ (.bool pe)).setCell ⟨Y0.heap.size, 1, none⟩ (.int .u64 pl)).setCell ⟨Y0.heap.size, 2, none⟩ (.int .u64 ph)) = Y126 at *
          clear hY
          refine hK.out _ _ (hall _ cc) (fun hH => ?_)
          clear hK K
          try simp only [Act.put, gA, gB, gC, gD, gE, gG]
          refine wpAnyH_ready (rs := [14]) (by kernel_rfl) (by simp) (AllReadyH.cons (o := _) rfl (fun K hK => ?_) AllReadyH.nil)
          ·skip
           obtain ⟨q0, q1, q2, qf⟩ := rw_cells3 qb
           go_simp
           clear q0 q1 q2 qf
           replace qa := rw_far3 (b := Y106.heap.size) qa (.bool qe) (.int .u64 ql) (.int .u64 qh) (by first | assumption | exact Ne.symm (by assumption))
           replace qb := rw_set3 qb (.bool qe) (.int .u64 ql) (.int .u64 qh)
           replace cc := sp_set3 (b := Y106.heap.size) cc zzY106 (.bool qe) (.int .u64 ql) (.int .u64 qh)
           generalize hY : (((Y126.setCell ⟨Y106.heap.size, 0, none⟩ (.bool qe)).setCell ⟨Y106.heap.size, 1, none⟩ (.int .u64 ql)).setCell ⟨Y106.heap.size, 2, none⟩ (.int .u64 qh)) = Y127 at *
           clear hY
           refine hK.out _ _ (hall _ cc) (fun hH => ?_)
           clear hK K
           try simp only [Act.put, gA, gB, gC, gD, gE, gG]
           refine wpAnyH_done (by kernel_rfl) ?_ _
           go_wp2_with fail
           go_meet
           exact ⟨_, _, _, rfl, rfl, rfl, qa, qb, zzY0, zzY106, cc⟩
    ·skip
     go_simp
     have zzY105 := cc.size
     have neqb : Y0.heap.size ≠ Y105.heap.size := Nat.ne_of_lt (rw_lt qa)
     replace qa := rw_old qa (Obj.cells #[.bool false, .int .u64 0, .int .u64 0] 97 (0, 0))
     have qb := World.alloc_heap_new Y105 (Obj.cells #[.bool false, .int .u64 0, .int .u64 0] 97 (0, 0))
     replace cc := sp_new cc (Obj.cells #[.bool false, .int .u64 0, .int .u64 0] 97 (0, 0))
     generalize hY : Y105.alloc (Obj.cells #[.bool false, .int .u64 0, .int .u64 0] 97 (0, 0)) = Y128 at *
     clear hY
     refine hK.out _ _ (hall _ cc) (fun hH => ?_)
     clear hK K
     try simp only [Act.put, gA, gB, gC, gD, gE, gG]
     refine wpAnyH_ready (rs := [1]) (by kernel_rfl) (by simp) (AllReadyH.cons (o := _) rfl (fun K hK => ?_) AllReadyH.nil)
     ·skip
      go_simp
      refine (h1 _).mono ?_
      rintro e Y129 ⟨L, rfl, hL, g⟩
      have oL : Below Y129.heap.size Y129 Y129 := Below.refl _ _
      replace cc := sp_call cc g
      replace qa := carryF g qa
      replace qb := carryF g qb
      clear g
      go_wp2_with fail
      refine hK.out _ _ (hall _ cc) (fun hH => ?_)
      clear hK K
      try simp only [Act.put, gA, gB, gC, gD, gE, gG]
      refine wpAnyH_ready (rs := [4]) (by kernel_rfl) (by simp) (AllReadyH.cons (o := _) rfl (fun K hK => ?_) AllReadyH.nil)
      ·skip
       go_simp
       refine (ho1 _ _ _ _).mono ?_
       rintro e Y130 ⟨rfl, g⟩
       replace oL := sp_call oL g
       replace cc := sp_call cc g
       replace qa := carryF g qa
       replace qb := carryF g qb
       clear g
       go_wp2_with fail
       refine hK.out _ _ (hall _ cc) (fun hH => ?_)
       clear hK K
       try simp only [Act.put, gA, gB, gC, gD, gE, gG]
       refine wpAnyH_ready (rs := [6]) (by kernel_rfl) (by simp) (AllReadyH.cons (o := _) rfl (fun K hK => ?_) AllReadyH.nil)
       ·skip
        go_simp
        refine (ho1 _ _ _ _).mono ?_
        rintro e Y131 ⟨rfl, g⟩
        replace oL := sp_call oL g
        replace cc := sp_call cc g
        replace qa := carryF g qa
        replace qb := carryF g qb
        clear g
        go_wp2_with fail
        refine hK.out _ _ (hall _ cc) (fun hH => ?_)
        clear hK K
        try simp only [Act.put, gA, gB, gC, gD, gE, gG]
        refine wpAnyH_ready (rs := [7]) (by kernel_rfl) (by simp) (AllReadyH.cons (o := _) rfl (fun K hK => ?_) AllReadyH.nil)
        ·skip
         go_simp
         refine (h L _ _ hL _ oL).mono ?_
         rintro e Y132 ⟨rfl, g⟩
         clear oL hL
         replace cc := sp_call cc g
         replace qa := carryF g qa
         replace qb := carryF g qb
         clear g
         go_wp2_with fail
         refine hK.out _ _ (hall _ cc) (fun hH => ?_)
         clear hK K
         try simp only [Act.put, gA, gB, gC, gD, gE, gG]
         refine wpAnyH_take (i := 8) (oi := _) (v := .tuple #[.agg #[.bool pe, .int .u64 pl, .int .u64 ph], .agg #[.bool qe, .int .u64 ql, .int .u64 qh]]) rfl (by kernel_rfl) (by kernel_rfl) (by kernel_rfl) (fun _ _ _ h => h) (Or.inl ⟨by rfl, fun w' hSw => by obtain ⟨za0, za1, za2, zb0, zb1, zb2⟩ := hSw; go_simp⟩) hH ?_
         simp only [Act.put, gA, gB, gC, gD, gE, gG]
         refine wpAnyH_take (i := 9) (oi := _) (v := .agg #[.bool pe, .int .u64 pl, .int .u64 ph]) rfl (by kernel_rfl) (by kernel_rfl) (by kernel_rfl) (fun _ _ _ h => h) (Or.inl ⟨by rfl, fun w' hSw => by obtain ⟨za0, za1, za2, zb0, zb1, zb2⟩ := hSw; go_simp⟩) hH ?_
         simp only [Act.put, gA, gB, gC, gD, gE, gG]
         refine wpAnyH_take (i := 10) (oi := _) (v := .agg #[.bool qe, .int .u64 ql, .int .u64 qh]) rfl (by kernel_rfl) (by kernel_rfl) (by kernel_rfl) (fun _ _ _ h => h) (Or.inl ⟨by rfl, fun w' hSw => by obtain ⟨za0, za1, za2, zb0, zb1, zb2⟩ := hSw; go_simp⟩) hH ?_
         simp only [Act.put, gA, gB, gC, gD, gE, gG]
         refine wpAnyH_ready (rs := [13]) (by kernel_rfl) (by simp) (AllReadyH.cons (o := _) rfl (fun K hK => ?_) AllReadyH.nil)
         ·skip
          obtain ⟨q0, q1, q2, qf⟩ := rw_cells3 qa
          go_simp
          clear q0 q1 q2 qf
          replace qb := rw_far3 (b := Y0.heap.size) qb (.bool pe) (.int .u64 pl) (.int .u64 ph) (by first | assumption | exact Ne.symm (by assumption))
          replace qa := rw_set3 qa (.bool pe) (.int .u64 pl) (.int .u64 ph)
          replace cc := sp_set3 (b := Y0.heap.size) cc zzY0 (.bool pe) (.int .u64 pl) (.int .u64 ph)
          generalize hY : (((Y132.setCell ⟨Y0.heap.size, 0, none⟩ (.bool pe)).setCell ⟨Y0.heap.size, 1, none⟩ (.int .u64 pl)).setCell ⟨Y0.heap.size, 2, none⟩ (.int .u64 ph)) = Y133 at *
          clear hY
          refine hK.out _ _ (hall _ cc) (fun hH => ?_)
          clear hK K
          try simp only [Act.put, gA, gB, gC, gD, gE, gG]
          refine wpAnyH_ready (rs := [14]) (by kernel_rfl) (by simp) (AllReadyH.cons (o := _) rfl (fun K hK => ?_) AllReadyH.nil)
          ·skip
           obtain ⟨q0, q1, q2, qf⟩ := rw_cells3 qb
           go_simp
           clear q0 q1 q2 qf
           replace qa := rw_far3 (b := Y105.heap.size) qa (.bool qe) (.int .u64 ql) (.int .u64 qh) (by first | assumption | exact Ne.symm (by assumption))
           replace qb := rw_set3 qb (.bool qe) (.int .u64 ql) (.int .u64 qh)
           replace cc := sp_set3 (b := Y105.heap.size) cc zzY105 (.bool qe) (.int .u64 ql) (.int .u64 qh)
           generalize hY : (((Y133.setCell ⟨Y105.heap.size, 0, none⟩ (.bool qe)).setCell ⟨Y105.heap.size, 1, none⟩ (.int .u64 ql)).setCell ⟨Y105.heap.size, 2, none⟩ (.int .u64 qh)) = Y134 at *
           clear hY
           refine hK.out _ _ (hall _ cc) (fun hH => ?_)
           clear hK K
           try simp only [Act.put, gA, gB, gC, gD, gE, gG]
           refine wpAnyH_done (by kernel_rfl) ?_ _
           go_wp2_with fail
           go_meet
           exact ⟨_, _, _, rfl, rfl, rfl, qa, qb, zzY0, zzY105, cc⟩
   ·skip
    go_simp
    have zzY0 := cc.size
    have qb := World.alloc_heap_new Y0 (Obj.cells #[.bool false, .int .u64 0, .int .u64 0] 97 (0, 0))
    replace cc := sp_new cc (Obj.cells #[.bool false, .int .u64 0, .int .u64 0] 97 (0, 0))
    generalize hY : Y0.alloc (Obj.cells #[.bool false, .int .u64 0, .int .u64 0] 97 (0, 0)) = Y135 at *
    clear hY
    refine hK.out _ _ (hall _ cc) (fun hH => ?_)
    clear hK K
    try simp only [Act.put, gA, gB, gC, gD, gE, gG]
    refine wpAnyH_ready (rs := [1, 11]) (by kernel_rfl) (by simp) (AllReadyH.cons (o := _) rfl (fun K hK => ?_) (AllReadyH.cons (o := _) rfl (fun K hK => ?_) AllReadyH.nil))
    ·skip
     go_simp
     refine (h1 _).mono ?_
     rintro e Y136 ⟨L, rfl, hL, g⟩
     have oL : Below Y136.heap.size Y136 Y136 := Below.refl _ _
     replace cc := sp_call cc g
     replace qb := carryF g qb
     clear g
     go_wp2_with fail
     refine hK.out _ _ (hall _ cc) (fun hH => ?_)
     clear hK K
     try simp only [Act.put, gA, gB, gC, gD, gE, gG]
     refine wpAnyH_ready (rs := [4, 11]) (by kernel_rfl) (by simp) (AllReadyH.cons (o := _) rfl (fun K hK => ?_) (AllReadyH.cons (o := _) rfl (fun K hK => ?_) AllReadyH.nil))
     ·skip
      go_simp
      refine (ho1 _ _ _ _).mono ?_
      rintro e Y137 ⟨rfl, g⟩
      replace oL := sp_call oL g
      replace cc := sp_call cc g
      replace qb := carryF g qb
      clear g
      go_wp2_with fail
      refine hK.out _ _ (hall _ cc) (fun hH => ?_)
      clear hK K
      try simp only [Act.put, gA, gB, gC, gD, gE, gG]
      refine wpAnyH_ready (rs := [6, 11]) (by kernel_rfl) (by simp) (AllReadyH.cons (o := _) rfl (fun K hK => ?_) (AllReadyH.cons (o := _) rfl (fun K hK => ?_) AllReadyH.nil))
      ·skip
       go_simp
       refine (ho1 _ _ _ _).mono ?_
       rintro e Y138 ⟨rfl, g⟩
       replace oL := sp_call oL g
       replace cc := sp_call cc g
       replace qb := carryF g qb
       clear g
       go_wp2_with fail
       refine hK.out _ _ (hall _ cc) (fun hH => ?_)
       clear hK K
       try simp only [Act.put, gA, gB, gC, gD, gE, gG]
       refine wpAnyH_ready (rs := [7, 11]) (by kernel_rfl) (by simp) (AllReadyH.cons (o := _) rfl (fun K hK => ?_) (AllReadyH.cons (o := _) rfl (fun K hK => ?_) AllReadyH.nil))
       ·skip
        go_simp
        refine (h L _ _ hL _ oL).mono ?_
        rintro e Y139 ⟨rfl, g⟩
        clear oL hL
        replace cc := sp_call cc g
        replace qb := carryF g qb
        clear g
        go_wp2_with fail
        refine hK.out _ _ (hall _ cc) (fun hH => ?_)
        clear hK K
        try simp only [Act.put, gA, gB, gC, gD, gE, gG]
        refine wpAnyH_take (i := 8) (oi := _) (v := .tuple #[.agg #[.bool pe, .int .u64 pl, .int .u64 ph], .agg #[.bool qe, .int .u64 ql, .int .u64 qh]]) rfl (by kernel_rfl) (by kernel_rfl) (by kernel_rfl) (fun _ _ _ h => h) (Or.inl ⟨by rfl, fun w' hSw => by obtain ⟨za0, za1, za2, zb0, zb1, zb2⟩ := hSw; go_simp⟩) hH ?_
        simp only [Act.put, gA, gB, gC, gD, gE, gG]
        refine wpAnyH_take (i := 9) (oi := _) (v := .agg #[.bool pe, .int .u64 pl, .int .u64 ph]) rfl (by kernel_rfl) (by kernel_rfl) (by kernel_rfl) (fun _ _ _ h => h) (Or.inl ⟨by rfl, fun w' hSw => by obtain ⟨za0, za1, za2, zb0, zb1, zb2⟩ := hSw; go_simp⟩) hH ?_
        simp only [Act.put, gA, gB, gC, gD, gE, gG]
        refine wpAnyH_take (i := 10) (oi := _) (v := .agg #[.bool qe, .int .u64 ql, .int .u64 qh]) rfl (by kernel_rfl) (by kernel_rfl) (by kernel_rfl) (fun _ _ _ h => h) (Or.inl ⟨by rfl, fun w' hSw => by obtain ⟨za0, za1, za2, zb0, zb1, zb2⟩ := hSw; go_simp⟩) hH ?_
        simp only [Act.put, gA, gB, gC, gD, gE, gG]
        refine wpAnyH_ready (rs := [11]) (by kernel_rfl) (by simp) (AllReadyH.cons (o := _) rfl (fun K hK => ?_) AllReadyH.nil)
        ·skip
         go_simp
         have zzY139 := cc.size
         have neqa : Y0.heap.size ≠ Y139.heap.size := Nat.ne_of_lt (rw_lt qb)
         replace qb := rw_old qb (Obj.cells #[.bool false, .int .u64 0, .int .u64 0] 97 (0, 0))
         have qa := World.alloc_heap_new Y139 (Obj.cells #[.bool false, .int .u64 0, .int .u64 0] 97 (0, 0))
         replace cc := sp_new cc (Obj.cells #[.bool false, .int .u64 0, .int .u64 0] 97 (0, 0))
         generalize hY : Y139.alloc (Obj.cells #[.bool false, .int .u64 0, .int .u64 0] 97 (0, 0)) = Y140 at *
         clear hY
         refine hK.out _ _ (hall _ cc) (fun hH => ?_)
         clear hK K
         try simp only [Act.put, gA, gB, gC, gD, gE, gG]
         refine wpAnyH_ready (rs := [13]) (by kernel_rfl) (by simp) (AllReadyH.cons (o := _) rfl (fun K hK => ?_) AllReadyH.nil)
         ·skip
          obtain ⟨q0, q1, q2, qf⟩ := rw_cells3 qa
          go_simp
          clear q0 q1 q2 qf
          replace qb := rw_far3 (b := Y139.heap.size) qb (.bool pe) (.int .u64 pl) (.int .u64 ph) (by first | assumption | exact Ne.symm (by assumption))
          replace qa := rw_set3 qa (.bool pe) (.int .u64 pl) (.int .u64 ph)
          replace cc := sp_set3 (b := Y139.heap.size) cc zzY139 (.bool pe) (.int .u64 pl) (.int .u64 ph)
          generalize hY : (((Y140.setCell ⟨Y139.heap.size, 0, none⟩ (.bool pe)).setCell ⟨Y139.heap.size, 1, none⟩ (.int .u64 pl)).setCell ⟨Y139.heap.size, 2, none⟩ (.int .u64 ph)) = Y141 at *
          clear hY
          refine hK.out _ _ (hall _ cc) (fun hH => ?_)
          clear hK K
          try simp only [Act.put, gA, gB, gC, gD, gE, gG]
          refine wpAnyH_ready (rs := [14]) (by kernel_rfl) (by simp) (AllReadyH.cons (o := _) rfl (fun K hK => ?_) AllReadyH.nil)
          ·skip
           obtain ⟨q0, q1, q2, qf⟩ := rw_cells3 qb
           go_simp
           clear q0 q1 q2 qf
           replace qa := rw_far3 (b := Y0.heap.size) qa (.bool qe) (.int .u64 ql) (.int .u64 qh) (by first | assumption | exact Ne.symm (by assumption))
           replace qb := rw_set3 qb (.bool qe) (.int .u64 ql) (.int .u64 qh)
           replace cc := sp_set3 (b := Y0.heap.size) cc zzY0 (.bool qe) (.int .u64 ql) (.int .u64 qh)
           generalize hY : (((Y141.setCell ⟨Y0.heap.size, 0, none⟩ (.bool qe)).setCell ⟨Y0.heap.size, 1, none⟩ (.int .u64 ql)).setCell ⟨Y0.heap.size, 2, none⟩ (.int .u64 qh)) = Y142 at *
           clear hY
           refine hK.out _ _ (hall _ cc) (fun hH => ?_)
           clear hK K
           try simp only [Act.put, gA, gB, gC, gD, gE, gG]
           refine wpAnyH_done (by kernel_rfl) ?_ _
           go_wp2_with fail
           go_meet
           exact ⟨_, _, _, rfl, rfl, rfl, qa, qb, zzY139, zzY0, cc⟩
       ·skip
        go_simp
        have zzY138 := cc.size
        have neqa : Y0.heap.size ≠ Y138.heap.size := Nat.ne_of_lt (rw_lt qb)
        replace qb := rw_old qb (Obj.cells #[.bool false, .int .u64 0, .int .u64 0] 97 (0, 0))
        have qa := World.alloc_heap_new Y138 (Obj.cells #[.bool false, .int .u64 0, .int .u64 0] 97 (0, 0))
        replace cc := sp_new cc (Obj.cells #[.bool false, .int .u64 0, .int .u64 0] 97 (0, 0))
        replace oL := sp_new oL (Obj.cells #[.bool false, .int .u64 0, .int .u64 0] 97 (0, 0))
        generalize hY : Y138.alloc (Obj.cells #[.bool false, .int .u64 0, .int .u64 0] 97 (0, 0)) = Y143 at *
        clear hY
        refine hK.out _ _ (hall _ cc) (fun hH => ?_)
        clear hK K
        try simp only [Act.put, gA, gB, gC, gD, gE, gG]
        refine wpAnyH_ready (rs := [7]) (by kernel_rfl) (by simp) (AllReadyH.cons (o := _) rfl (fun K hK => ?_) AllReadyH.nil)
        ·skip
         go_simp
         refine (h L _ _ hL _ oL).mono ?_
         rintro e Y144 ⟨rfl, g⟩
         clear oL hL
         replace cc := sp_call cc g
         replace qa := carryF g qa
         replace qb := carryF g qb
         clear g
         go_wp2_with fail
         refine hK.out _ _ (hall _ cc) (fun hH => ?_)
         clear hK K
         try simp only [Act.put, gA, gB, gC, gD, gE, gG]
         refine wpAnyH_take (i := 8) (oi := _) (v := .tuple #[.agg #[.bool pe, .int .u64 pl, .int .u64 ph], .agg #[.bool qe, .int .u64 ql, .int .u64 qh]]) rfl (by kernel_rfl) (by kernel_rfl) (by kernel_rfl) (fun _ _ _ h => h) (Or.inl ⟨by rfl, fun w' hSw => by obtain ⟨za0, za1, za2, zb0, zb1, zb2⟩ := hSw; go_simp⟩) hH ?_
         simp only [Act.put, gA, gB, gC, gD, gE, gG]
         refine wpAnyH_take (i := 9) (oi := _) (v := .agg #[.bool pe, .int .u64 pl, .int .u64 ph]) rfl (by kernel_rfl) (by kernel_rfl) (by kernel_rfl) (fun _ _ _ h => h) (Or.inl ⟨by rfl, fun w' hSw => by obtain ⟨za0, za1, za2, zb0, zb1, zb2⟩ := hSw; go_simp⟩) hH ?_
         simp only [Act.put, gA, gB, gC, gD, gE, gG]
         refine wpAnyH_take (i := 10) (oi := _) (v := .agg #[.bool qe, .int .u64 ql, .int .u64 qh]) rfl (by kernel_rfl) (by kernel_rfl) (by kernel_rfl) (fun _ _ _ h => h) (Or.inl ⟨by rfl, fun w' hSw => by obtain ⟨za0, za1, za2, zb0, zb1, zb2⟩ := hSw; go_simp⟩) hH ?_
         simp only [Act.put, gA, gB, gC, gD, gE, gG]
         refine wpAnyH_ready (rs := [13]) (by kernel_rfl) (by simp) (AllReadyH.cons (o := _) rfl (fun K hK => ?_) AllReadyH.nil)
         ·skip
          obtain ⟨q0, q1, q2, qf⟩ := rw_cells3 qa
          go_simp
          clear q0 q1 q2 qf
          replace qb := rw_far3 (b := Y138.heap.size) qb (.bool pe) (.int .u64 pl) (.int .u64 ph) (by first | assumption | exact Ne.symm (by assumption))
          replace qa := rw_set3 qa (.bool pe) (.int .u64 pl) (.int .u64 ph)
          replace cc := sp_set3 (b := Y138.heap.size) cc zzY138 (.bool pe) (.int .u64 pl) (.int .u64 ph)
          generalize hY : (((Y144.setCell ⟨Y138.heap.size, 0, none⟩ (.bool pe)).setCell ⟨Y138.heap.size, 1, none⟩ (.int .u64 pl)).setCell ⟨Y138.heap.size, 2, none⟩ (.int .u64 ph)) = Y145 at *
          clear hY
          refine hK.out _ _ (hall _ cc) (fun hH => ?_)
          clear hK K
          try simp only [Act.put, gA, gB, gC, gD, gE, gG]
          refine wpAnyH_ready (rs := [14]) (by kernel_rfl) (by simp) (AllReadyH.cons (o := _) rfl (fun K hK => ?_) AllReadyH.nil)
          ·skip
           obtain ⟨q0, q1, q2, qf⟩ := rw_cells3 qb
           go_simp
           clear q0 q1 q2 qf
           replace qa := rw_far3 (b := Y0.heap.size) qa (.bool qe) (.int .u64 ql) (.int .u64 qh) (by first | assumption | exact Ne.symm (by assumption))
           replace qb := rw_set3 qb (.bool qe) (.int .u64 ql) (.int .u64 qh)
           replace cc := sp_set3 (b := Y0.heap.size) cc zzY0 (.bool qe) (.int .u64 ql) (.int .u64 qh)
           generalize hY : (((Y145.setCell ⟨Y0.heap.size, 0, none⟩ (.bool qe)).setCell ⟨Y0.heap.size, 1, none⟩ (.int .u64 ql)).setCell ⟨Y0.heap.size, 2, none⟩ (.int .u64 qh)) = Y146 at *
           clear hY
           refine hK.out _ _ (hall _ cc) (fun hH => ?_)
           clear hK K
           try simp only [Act.put, gA, gB, gC, gD, gE, gG]
           refine wpAnyH_done (by kernel_rfl) ?_ _
           go_wp2_with fail
           go_meet
           exact ⟨_, _, _, rfl, rfl, rfl, qa, qb, zzY138, zzY0, cc⟩
      ·skip
       go_simp
       have zzY137 := cc.size
       have neqa : Y0.heap.size ≠ Y137.heap.size := Nat.ne_of_lt (rw_lt qb)
       replace qb := rw_old qb (Obj.cells #[.bool false, .int .u64 0, .int .u64 0] 97 (0, 0))
       have qa := World.alloc_heap_new Y137 (Obj.cells #[.bool false, .int .u64 0, .int .u64 0] 97 (0, 0))
       replace cc := sp_new cc (Obj.cells #[.bool false, .int .u64 0, .int .u64 0] 97 (0, 0))
       replace oL := sp_new oL (Obj.cells #[.bool false, .int .u64 0, .int .u64 0] 97 (0, 0))
       generalize hY : Y137.alloc (Obj.cells #[.bool false, .int .u64 0, .int .u64 0] 97 (0, 0)) = Y147 at *
       clear hY
       refine hK.out _ _ (hall _ cc) (fun hH => ?_)
       clear hK K
       try simp only [Act.put, gA, gB, gC, gD, gE, gG]
       refine wpAnyH_ready (rs := [6]) (by kernel_rfl) (by simp) (AllReadyH.cons (o := _) rfl (fun K hK => ?_) AllReadyH.nil)
       ·skip
        go_simp
        refine (ho1 _ _ _ _).mono ?_
        rintro e Y148 ⟨rfl, g⟩
        replace oL := sp_call oL g
        replace cc := sp_call cc g
        replace qa := carryF g qa
        replace qb := carryF g qb
        clear g
        go_wp2_with fail
        refine hK.out _ _ (hall _ cc) (fun hH => ?_)
        clear hK K
        try simp only [Act.put, gA, gB, gC, gD, gE, gG]
        refine wpAnyH_ready (rs := [7]) (by kernel_rfl) (by simp) (AllReadyH.cons (o := _) rfl (fun K hK => ?_) AllReadyH.nil)
        ·skip
         go_simp
         refine (h L _ _ hL _ oL).mono ?_
         rintro e Y149 ⟨rfl, g⟩
         clear oL hL
         replace cc := sp_call cc g
         replace qa := carryF g qa
         replace qb := carryF g qb
         clear g
         go_wp2_with fail
         refine hK.out _ _ (hall _ cc) (fun hH => ?_)
         clear hK K
         try simp only [Act.put, gA, gB, gC, gD, gE, gG]
         refine wpAnyH_take (i := 8) (oi := _) (v := .tuple #[.agg #[.bool pe, .int .u64 pl, .int .u64 ph], .agg #[.bool qe, .int .u64 ql, .int .u64 qh]]) rfl (by kernel_rfl) (by kernel_rfl) (by kernel_rfl) (fun _ _ _ h => h) (Or.inl ⟨by rfl, fun w' hSw => by obtain ⟨za0, za1, za2, zb0, zb1, zb2⟩ := hSw; go_simp⟩) hH ?_
         simp only [Act.put, gA, gB, gC, gD, gE, gG]
         refine wpAnyH_take (i := 9) (oi := _) (v := .agg #[.bool pe, .int .u64 pl, .int .u64 ph]) rfl (by kernel_rfl) (by kernel_rfl) (by kernel_rfl) (fun _ _ _ h => h) (Or.inl ⟨by rfl, fun w' hSw => by obtain ⟨za0, za1, za2, zb0, zb1, zb2⟩ := hSw; go_simp⟩) hH ?_
         simp only [Act.put, gA, gB, gC, gD, gE, gG]
         refine wpAnyH_take (i := 10) (oi := _) (v := .agg #[.bool qe, .int .u64 ql, .int .u64 qh]) rfl (by kernel_rfl) (by kernel_rfl) (by kernel_rfl) (fun _ _ _ h => h) (Or.inl ⟨by rfl, fun w' hSw => by obtain ⟨za0, za1, za2, zb0, zb1, zb2⟩ := hSw; go_simp⟩) hH ?_
         simp only [Act.put, gA, gB, gC, gD, gE, gG]
         refine wpAnyH_ready (rs := [13]) (by kernel_rfl) (by simp) (AllReadyH.cons (o := _) rfl (fun K hK => ?_) AllReadyH.nil)
         ·skip
          obtain ⟨q0, q1, q2, qf⟩ := rw_cells3 qa
          go_simp
          clear q0 q1 q2 qf
          replace qb := rw_far3 (b := Y137.heap.size) qb (.bool pe) (.int .u64 pl) (.int .u64 ph) (by first | assumption | exact Ne.symm (by assumption))
          replace qa := rw_set3 qa (.bool pe) (.int .u64 pl) (.int .u64 ph)
          replace cc := sp_set3 (b := Y137.heap.size) cc zzY137 (.bool pe) (.int .u64 pl) (.int .u64 ph)
          generalize hY : (((Y149.setCell ⟨Y137.heap.size, 0, none⟩ (.bool pe)).setCell ⟨Y137.heap.size, 1, none⟩ (.int .u64 pl)).setCell ⟨Y137.heap.size, 2, none⟩ (.int .u64 ph)) = Y150 at *
          clear hY
          refine hK.out _ _ (hall _ cc) (fun hH => ?_)
          clear hK K
          try simp only [Act.put, gA, gB, gC, gD, gE, gG]
          refine wpAnyH_ready (rs := [14]) (by kernel_rfl) (by simp) (AllReadyH.cons (o := _) rfl (fun K hK => ?_) AllReadyH.nil)
          ·skip
           obtain ⟨q0, q1, q2, qf⟩ := rw_cells3 qb
           go_simp
           clear q0 q1 q2 qf
           replace qa := rw_far3 (b := Y0.heap.size) qa (.bool qe) (.int .u64 ql) (.int .u64 qh) (by first | assumption | exact Ne.symm (by assumption))
           replace qb := rw_set3 qb (.bool qe) (.int .u64 ql) (.int .u64 qh)
           replace cc := sp_set3 (b := Y0.heap.size) cc zzY0 (.bool qe) (.int .u64 ql) (.int .u64 qh)
           generalize hY : (((Y150.setCell ⟨Y0.heap.size, 0, none⟩ (.bool qe)).setCell ⟨Y0.heap.size, 1, none⟩ (.int .u64 ql)).setCell ⟨Y0.heap.size, 2, none⟩ (.int .u64 qh)) = Y151 at *
           clear hY
           refine hK.out _ _ (hall _ cc) (fun hH => ?_)
           clear hK K
           try simp only [Act.put, gA, gB, gC, gD, gE, gG]
           refine wpAnyH_done (by kernel_rfl) ?_ _
           go_wp2_with fail
           go_meet
           exact ⟨_, _, _, rfl, rfl, rfl, qa, qb, zzY137, zzY0, cc⟩
     ·skip
      go_simp
      have zzY136 := cc.size
      have neqa : Y0.heap.size ≠ Y136.heap.size := Nat.ne_of_lt (rw_lt qb)
      replace qb := rw_old qb (Obj.cells #[.bool false, .int .u64 0, .int .u64 0] 97 (0, 0))
      have qa := World.alloc_heap_new Y136 (Obj.cells #[.bool false, .int .u64 0, .int .u64 0] 97 (0, 0))
      replace cc := sp_new cc (Obj.cells #[.bool false, .int .u64 0, .int .u64 0] 97 (0, 0))
      replace oL := sp_new oL (Obj.cells #[.bool false, .int .u64 0, .int .u64 0] 97 (0, 0))
      generalize hY : Y136.alloc (Obj.cells #[.bool false, .int .u64 0, .int .u64 0] 97 (0, 0)) = Y152 at *
      clear hY
      refine hK.out _ _ (hall _ cc) (fun hH => ?_)
      clear hK K
      try simp only [Act.put, gA, gB, gC, gD, gE, gG]
      refine wpAnyH_ready (rs := [4]) (by kernel_rfl) (by simp) (AllReadyH.cons (o := _) rfl (fun K hK => ?_) AllReadyH.nil)
      ·skip
       go_simp
       refine (ho1 _ _ _ _).mono ?_
       rintro e Y153 ⟨rfl, g⟩
       replace oL := sp_call oL g
       replace cc := sp_call cc g
       replace qa := carryF g qa
       replace qb := carryF g qb
       clear g
       go_wp2_with fail
       refine hK.out _ _ (hall _ cc) (fun hH => ?_)
       clear hK K
       try simp only [Act.put, gA, gB, gC, gD, gE, gG]
       refine wpAnyH_ready (rs := [6]) (by kernel_rfl) (by simp) (AllReadyH.cons (o := _) rfl (fun K hK => ?_) AllReadyH.nil)
       ·skip
        go_simp
        refine (ho1 _ _ _ _).mono ?_
        rintro e Y154 ⟨rfl, g⟩
        replace oL := sp_call oL g
        replace cc := sp_call cc g
        replace qa := carryF g qa
        replace qb := carryF g qb
        clear g
        go_wp2_with fail
        refine hK.out _ _ (hall _ cc) (fun hH => ?_)
        clear hK K
        try simp only [Act.put, gA, gB, gC, gD, gE, gG]
        refine wpAnyH_ready (rs := [7]) (by kernel_rfl) (by simp) (AllReadyH.cons (o := _) rfl (fun K hK => ?_) AllReadyH.nil)
        ·skip
         go_simp
         refine (h L _ _ hL _ oL).mono ?_
         rintro e Y155 ⟨rfl, g⟩
         clear oL hL
         replace cc := sp_call cc g
         replace qa := carryF g qa
         replace qb := carryF g qb
         clear g
         go_wp2_with fail
         refine hK.out _ _ (hall _ cc) (fun hH => ?_)
         clear hK K
         try simp only [Act.put, gA, gB, gC, gD, gE, gG]
         refine wpAnyH_take (i := 8) (oi := _) (v := .tuple #[.agg #[.bool pe, .int .u64 pl, .int .u64 ph], .agg #[.bool qe, .int .u64 ql, .int .u64 qh]]) rfl (by kernel_rfl) (by kernel_rfl) (by kernel_rfl) (fun _ _ _ h => h) (Or.inl ⟨by rfl, fun w' hSw => by obtain ⟨za0, za1, za2, zb0, zb1, zb2⟩ := hSw; go_simp⟩) hH ?_
         simp only [Act.put, gA, gB, gC, gD, gE, gG]
         refine wpAnyH_take (i := 9) (oi := _) (v := .agg #[.bool pe, .int .u64 pl, .int .u64 ph]) rfl (by kernel_rfl) (by kernel_rfl) (by kernel_rfl) (fun _ _ _ h => h) (Or.inl ⟨by rfl, fun w' hSw => by obtain ⟨za0, za1, za2, zb0, zb1, zb2⟩ := hSw; go_simp⟩) hH ?_
         simp only [Act.put, gA, gB, gC, gD, gE, gG]
         refine wpAnyH_take (i := 10) (oi := _) (v := .agg #[.bool qe, .int .u64 ql, .int .u64 qh]) rfl (by kernel_rfl) (by kernel_rfl) (by kernel_rfl) (fun _ _ _ h => h) (Or.inl ⟨by rfl, fun w' hSw => by obtain ⟨za0, za1, za2, zb0, zb1, zb2⟩ := hSw; go_simp⟩) hH ?_
         simp only [Act.put, gA, gB, gC, gD, gE, gG]
         refine wpAnyH_ready (rs := [13]) (by kernel_rfl) (by simp) (AllReadyH.cons (o := _) rfl (fun K hK => ?_) AllReadyH.nil)
         ·skip
          obtain ⟨q0, q1, q2, qf⟩ := rw_cells3 qa
          go_simp
          clear q0 q1 q2 qf
          replace qb := rw_far3 (b := Y136.heap.size) qb (.bool pe) (.int .u64 pl) (.int .u64 ph) (by first | assumption | exact Ne.symm (by assumption))
          replace qa := rw_set3 qa (.bool pe) (.int .u64 pl) (.int .u64 ph)
          replace cc := sp_set3 (b := Y136.heap.size) cc zzY136 (.bool pe) (.int .u64 pl) (.int .u64 ph)
          generalize hY : (((Y155.setCell ⟨Y136.heap.size, 0, none⟩ (.bool pe)).setCell ⟨Y136.heap.size, 1, none⟩ (.int .u64 pl)).setCell ⟨Y136.heap.size, 2, none⟩ (.int .u64 ph)) = Y156 at *
          clear hY
          refine hK.out _ _ (hall _ cc) (fun hH => ?_)
          clear hK K
          try simp only [Act.put, gA, gB, gC, gD, gE, gG]
          refine wpAnyH_ready (rs := [14]) (by kernel_rfl) (by simp) (AllReadyH.cons (o := _) rfl (fun K hK => ?_) AllReadyH.nil)
          ·skip
           obtain ⟨q0, q1, q2, qf⟩ := rw_cells3 qb
           go_simp
           clear q0 q1 q2 qf
           replace qa := rw_far3 (b := Y0.heap.size) qa (.bool qe) (.int .u64 ql) (.int .u64 qh) (by first | assumption | exact Ne.symm (by assumption))
           replace qb := rw_set3 qb (.bool qe) (.int .u64 ql) (.int .u64 qh)
           replace cc := sp_set3 (b := Y0.heap.size) cc zzY0 (.bool qe) (.int .u64 ql) (.int .u64 qh)
           generalize hY : (((Y156.setCell ⟨Y0.heap.size, 0, none⟩ (.bool qe)).setCell ⟨Y0.heap.size, 1, none⟩ (.int .u64 ql)).setCell ⟨Y0.heap.size, 2, none⟩ (.int .u64 qh)) = Y157 at *
           clear hY
           refine hK.out _ _ (hall _ cc) (fun hH => ?_)
           clear hK K
           try simp only [Act.put, gA, gB, gC, gD, gE, gG]
           refine wpAnyH_done (by kernel_rfl) ?_ _
           go_wp2_with fail
           go_meet
           exact ⟨_, _, _, rfl, rfl, rfl, qa, qb, zzY136, zzY0, cc⟩
    ·skip
     go_simp
     have zzY135 := cc.size
     have neqa : Y0.heap.size ≠ Y135.heap.size := Nat.ne_of_lt (rw_lt qb)
     replace qb := rw_old qb (Obj.cells #[.bool false, .int .u64 0, .int .u64 0] 97 (0, 0))
     have qa := World.alloc_heap_new Y135 (Obj.cells #[.bool false, .int .u64 0, .int .u64 0] 97 (0, 0))
     replace cc := sp_new cc (Obj.cells #[.bool false, .int .u64 0, .int .u64 0] 97 (0, 0))
     generalize hY : Y135.alloc (Obj.cells #[.bool false, .int .u64 0, .int .u64 0] 97 (0, 0)) = Y158 at *
     clear hY
     refine hK.out _ _ (hall _ cc) (fun hH => ?_)
     clear hK K
     try simp only [Act.put, gA, gB, gC, gD, gE, gG]
     refine wpAnyH_ready (rs := [1]) (by kernel_rfl) (by simp) (AllReadyH.cons (o := _) rfl (fun K hK => ?_) AllReadyH.nil)
     ·skip
      go_simp
      refine (h1 _).mono ?_
      rintro e Y159 ⟨L, rfl, hL, g⟩
      have oL : Below Y159.heap.size Y159 Y159 := Below.refl _ _
      replace cc := sp_call cc g
      replace qa := carryF g qa
      replace qb := carryF g qb
      clear g
      go_wp2_with fail
      refine hK.out _ _ (hall _ cc) (fun hH => ?_)
      clear hK K
      try simp only [Act.put, gA, gB, gC, gD, gE, gG]
      refine wpAnyH_ready (rs := [4]) (by kernel_rfl) (by simp) (AllReadyH.cons (o := _) rfl (fun K hK => ?_) AllReadyH.nil)
      ·skip
       go_simp
       refine (ho1 _ _ _ _).mono ?_
       rintro e Y160 ⟨rfl, g⟩
       replace oL := sp_call oL g
       replace cc := sp_call cc g
       replace qa := carryF g qa
       replace qb := carryF g qb
       clear g
       go_wp2_with fail
       refine hK.out _ _ (hall _ cc) (fun hH => ?_)
       clear hK K
       try simp only [Act.put, gA, gB, gC, gD, gE, gG]
       refine wpAnyH_ready (rs := [6]) (by kernel_rfl) (by simp) (AllReadyH.cons (o := _) rfl (fun K hK => ?_) AllReadyH.nil)
       ·skip
        go_simp
        refine (ho1 _ _ _ _).mono ?_
        rintro e Y161 ⟨rfl, g⟩
        replace oL := sp_call oL g
        replace cc := sp_call cc g
        replace qa := carryF g qa
        replace qb := carryF g qb
        clear g
        go_wp2_with fail
        refine hK.out _ _ (hall _ cc) (fun hH => ?_)
        clear hK K
        try simp only [Act.put, gA, gB, gC, gD, gE, gG]
        refine wpAnyH_ready (rs := [7]) (by kernel_rfl) (by simp) (AllReadyH.cons (o := _) rfl (fun K hK => ?_) AllReadyH.nil)
        ·skip
         go_simp
         refine (h L _ _ hL _ oL).mono ?_
         rintro e Y162 ⟨rfl, g⟩
         clear oL hL
         replace cc := sp_call cc g
         replace qa := carryF g qa
         replace qb := carryF g qb
         clear g
         go_wp2_with fail
         refine hK.out _ _ (hall _ cc) (fun hH => ?_)
         clear hK K
         try simp only [Act.put, gA, gB, gC, gD, gE, gG]
         refine wpAnyH_take (i := 8) (oi := _) (v := .tuple #[.agg #[.bool pe, .int .u64 pl, .int .u64 ph], .agg #[.bool qe, .int .u64 ql, .int .u64 qh]]) rfl (by kernel_rfl) (by kernel_rfl) (by kernel_rfl) (fun _ _ _ h => h) (Or.inl ⟨by rfl, fun w' hSw => by obtain ⟨za0, za1, za2, zb0, zb1, zb2⟩ := hSw; go_simp⟩) hH ?_
         simp only [Act.put, gA, gB, gC, gD, gE, gG]
         refine wpAnyH_take (i := 9) (oi := _) (v := .agg #[.bool pe, .int .u64 pl, .int .u64 ph]) rfl (by kernel_rfl) (by kernel_rfl) (by kernel_rfl) (fun _ _ _ h => h) (Or.inl ⟨by rfl, fun w' hSw => by obtain ⟨za0, za1, za2, zb0, zb1, zb2⟩ := hSw; go_simp⟩) hH ?_
         simp only [Act.put, gA, gB, gC, gD, gE, gG]
         refine wpAnyH_take (i := 10) (oi := _) (v := .agg #[.bool qe, .int .u64 ql, .int .u64 qh]) rfl (by kernel_rfl) (by kernel_rfl) (by kernel_rfl) (fun _ _ _ h => h) (Or.inl ⟨by rfl, fun w' hSw => by obtain ⟨za0, za1, za2, zb0, zb1, zb2⟩ := hSw; go_simp⟩) hH ?_
         simp only [Act.put, gA, gB, gC, gD, gE, gG]
         refine wpAnyH_ready (rs := [13]) (by kernel_rfl) (by simp) (AllReadyH.cons (o := _) rfl (fun K hK => ?_) AllReadyH.nil)
         ·skip
          obtain ⟨q0, q1, q2, qf⟩ := rw_cells3 qa
          go_simp
          clear q0 q1 q2 qf
          replace qb := rw_far3 (b := Y135.heap.size) qb (.bool pe) (.int .u64 pl) (.int .u64 ph) (by first | assumption | exact Ne.symm (by assumption))
          replace qa := rw_set3 qa (.bool pe) (.int .u64 pl) (.int .u64 ph)
          replace cc := sp_set3 (b := Y135.heap.size) cc zzY135 (.bool pe) (.int .u64 pl) (.int .u64 ph)
          generalize hY : (((Y162.setCell ⟨Y135.heap.size, 0, none⟩ (.bool pe)).setCell ⟨Y135.heap.size, 1, none⟩ (.int .u64 pl)).setCell ⟨Y135.heap.size, 2, none⟩ (.int .u64 ph)) = Y163 at *
          clear hY
          refine hK.out _ _ (hall _ cc) (fun hH => ?_)
          clear hK K
          try simp only [Act.put, gA, gB, gC, gD, gE, gG]
          refine wpAnyH_ready (rs := [14]) (by kernel_rfl) (by simp) (AllReadyH.cons (o := _) rfl (fun K hK => ?_) AllReadyH.nil)
          ·skip
           obtain ⟨q0, q1, q2, qf⟩ := rw_cells3 qb
           go_simp
           clear q0 q1 q2 qf
           replace qa := rw_far3 (b := Y0.heap.size) qa (.bool qe) (.int .u64 ql) (.int .u64 qh) (by first | assumption | exact Ne.symm (by assumption))
           replace qb := rw_set3 qb (.bool qe) (.int .u64 ql) (.int .u64 qh)
           replace cc := sp_set3 (b := Y0.heap.size) cc zzY0 (.bool qe) (.int .u64 ql) (.int .u64 qh)
           generalize hY : (((Y163.setCell ⟨Y0.heap.size, 0, none⟩ (.bool qe)).setCell ⟨Y0.heap.size, 1, none⟩ (.int .u64 ql)).setCell ⟨Y0.heap.size, 2, none⟩ (.int .u64 qh)) = Y164 at *
           clear hY
           refine hK.out _ _ (hall _ cc) (fun hH => ?_)
           clear hK K
           try simp only [Act.put, gA, gB, gC, gD, gE, gG]
           refine wpAnyH_done (by kernel_rfl) ?_ _
           go_wp2_with fail
           go_meet
           exact ⟨_, _, _, rfl, rfl, rfl, qa, qb, zzY135, zzY0, cc⟩
  case rest =>
   obtain ⟨W3, b8, b9, rfl, rfl, rfl, qa, qb, z8, z9, cX⟩ := hcut
   obtain ⟨t0, t1, t2, _⟩ := rw_cells3 qa
   obtain ⟨u0, u1, u2, _⟩ := rw_cells3 qb
   replace r0 := sO cX r0; replace r1 := sO cX r1; replace r2 := sO cX r2; replace s0 := sO cX s0; replace s1 := sO cX s1; replace s2 := sO cX s2
   replace fr : ∀ j, W3.frozen? ⟨w.heap.size + 1 + 1, j, none⟩ = false := fun j => (cX.frozen (p := ⟨w.heap.size + 1 + 1, j, none⟩) (by simp; omega)).trans (fr j)
   replace fs : ∀ j, W3.frozen? ⟨w.heap.size + 1 + 1 + 1, j, none⟩ = false := fun j => (cX.frozen (p := ⟨w.heap.size + 1 + 1 + 1, j, none⟩) (by simp; omega)).trans (fs j)
   have zX := cX.size
   replace bW := sp_call bW cX
   clear cX cc hall qa qb h1 ho1 h
   go_upto_region 2 with fail
   refine wp_region_held_drew (S := (fun w' => w'.cell? ⟨b8, 0, none⟩ = some (.bool pe) ∧ w'.cell? ⟨b8, 1, none⟩ = some (.int .u64 pl) ∧ w'.cell? ⟨b8, 2, none⟩ = some (.int .u64 ph) ∧ w'.cell? ⟨b9, 0, none⟩ = some (.bool qe) ∧ w'.cell? ⟨b9, 1, none⟩ = some (.int .u64 ql) ∧ w'.cell? ⟨b9, 2, none⟩ = some (.int .u64 qh))) (by kernel_rfl) ⟨t0, t1, t2, u0, u1, u2⟩ (fun hH => ?_)
   refine wpAnyH_take (i := 0) (oi := _) (v := .agg #[.bool pe, .int .u64 pl, .int .u64 ph]) rfl (by kernel_rfl) (by kernel_rfl) (by kernel_rfl) (fun _ _ _ h => h) (Or.inl ⟨by rfl, fun w' hSw => by obtain ⟨zt0, zt1, zt2, zu0, zu1, zu2⟩ := hSw; go_simp⟩) hH ?_
   simp only [Act.put, gA, gB, gC, gD, gE, gG]
   refine wpAnyH_take (i := 2) (oi := _) (v := .agg #[.bool qe, .int .u64 ql, .int .u64 qh]) rfl (by kernel_rfl) (by kernel_rfl) (by kernel_rfl) (fun _ _ _ h => h) (Or.inl ⟨by rfl, fun w' hSw => by obtain ⟨zt0, zt1, zt2, zu0, zu1, zu2⟩ := hSw; go_simp⟩) hH ?_
   simp only [Act.put, gA, gB, gC, gD, gE, gG]
   refine wpAnyH_ready (rs := [1]) (by kernel_rfl) (by simp) (AllReadyH.cons (o := _) rfl (fun K hK => ?_) AllReadyH.nil)
   go_simp
   refine (h5 _).mono ?_
   rintro e v1 ⟨rfl, g⟩
   replace g : Below W3.heap.size W3 v1 := ⟨g.os, g.tape, g.output, g.size, g.block⟩
   replace r0 := sO g r0; replace r1 := sO g r1; replace r2 := sO g r2; replace s0 := sO g s0; replace s1 := sO g s1; replace s2 := sO g s2; replace t0 := sO g t0; replace t1 := sO g t1; replace t2 := sO g t2; replace u0 := sO g u0; replace u1 := sO g u1; replace u2 := sO g u2
   have z_v1 := g.size
   replace fr : ∀ j, v1.frozen? ⟨w.heap.size + 1 + 1, j, none⟩ = false := fun j => (g.frozen (p := ⟨w.heap.size + 1 + 1, j, none⟩) (by simp; omega)).trans (fr j)
   replace fs : ∀ j, v1.frozen? ⟨w.heap.size + 1 + 1 + 1, j, none⟩ = false := fun j => (g.frozen (p := ⟨w.heap.size + 1 + 1 + 1, j, none⟩) (by simp; omega)).trans (fs j)
   replace bW := sp_call bW g
   clear g
   go_wp2_with fail
   refine hK.out _ _ ⟨t0, t1, t2, u0, u1, u2⟩ (fun hH => ?_)
   clear hK K
   try simp only [Act.put, gA, gB, gC, gD, gE, gG]
   refine wpAnyH_ready (rs := [3]) (by kernel_rfl) (by simp) (AllReadyH.cons (o := _) rfl (fun K hK => ?_) AllReadyH.nil)
   go_simp
   refine (h6 _).mono ?_
   rintro e v2 ⟨rfl, g⟩
   replace r0 := sO g r0; replace r1 := sO g r1; replace r2 := sO g r2; replace s0 := sO g s0; replace s1 := sO g s1; replace s2 := sO g s2; replace t0 := sO g t0; replace t1 := sO g t1; replace t2 := sO g t2; replace u0 := sO g u0; replace u1 := sO g u1; replace u2 := sO g u2
   have z_v2 := g.size
   replace fr : ∀ j, v2.frozen? ⟨w.heap.size + 1 + 1, j, none⟩ = false := fun j => (g.frozen (p := ⟨w.heap.size + 1 + 1, j, none⟩) (by simp; omega)).trans (fr j)
   replace fs : ∀ j, v2.frozen? ⟨w.heap.size + 1 + 1 + 1, j, none⟩ = false := fun j => (g.frozen (p := ⟨w.heap.size + 1 + 1 + 1, j, none⟩) (by simp; omega)).trans (fs j)
   replace bW := sp_call bW g
   clear g
   go_wp2_with fail
   refine hK.out _ _ ⟨t0, t1, t2, u0, u1, u2⟩ (fun hH => ?_)
   clear hK K
   try simp only [Act.put, gA, gB, gC, gD, gE, gG]
   refine wpAnyH_ready (rs := [4]) (by kernel_rfl) (by simp) (AllReadyH.cons (o := _) rfl (fun K hK => ?_) AllReadyH.nil)
   go_simp
   refine hK.out _ _ ⟨(sp_keep3 t0 (by omega) _ _ _), (sp_keep3 t1 (by omega) _ _ _), (sp_keep3 t2 (by omega) _ _ _), (sp_keep3 u0 (by omega) _ _ _), (sp_keep3 u1 (by omega) _ _ _), (sp_keep3 u2 (by omega) _ _ _)⟩ (fun hH => ?_)
   clear hK K
   try simp only [Act.put, gA, gB, gC, gD, gE, gG]
   refine wpAnyH_ready (rs := [5]) (by kernel_rfl) (by simp) (AllReadyH.cons (o := _) rfl (fun K hK => ?_) AllReadyH.nil)
   go_simp
   refine hK.out _ _ ⟨(sp_keep3 (sp_keep3 t0 (by omega) _ _ _) (by omega) _ _ _), (sp_keep3 (sp_keep3 t1 (by omega) _ _ _) (by omega) _ _ _), (sp_keep3 (sp_keep3 t2 (by omega) _ _ _) (by omega) _ _ _), (sp_keep3 (sp_keep3 u0 (by omega) _ _ _) (by omega) _ _ _), (sp_keep3 (sp_keep3 u1 (by omega) _ _ _) (by omega) _ _ _), (sp_keep3 (sp_keep3 u2 (by omega) _ _ _) (by omega) _ _ _)⟩ (fun hH => ?_)
   clear hK K
   try simp only [Act.put, gA, gB, gC, gD, gE, gG]
   refine wpAnyH_done (by kernel_rfl) ?_ _
   go_wp2_with fail
   exact bodyPost_ret (v := .tuple #[.agg #[.bool pe, .int .u64 pl, .int .u64 ph], .agg #[.bool qe, .int .u64 ql, .int .u64 qh]]) (by simp [results, Tryz.results38, go_sem, r0, r1, r2, s0, s1, s2]) rfl ⟨by simp, by (repeat (first | with_reducible exact bW | with_reducible refine rw_dr ?_ | with_reducible refine rw_st ?_ (by omega) _))⟩
end Go.Proofs.YthjoigkckgdcaaaGreat


