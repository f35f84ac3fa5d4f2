/- span.ToInt, over the line's told. -/
import Derived.Test.YtgdknlnpfnifiaaGreatTG18
import Derived.Test.YtgdknlnpfnifiaaGreatTG7
import Derived.Test.YtgdknlnpfnifiaaGreatTG15
import Derived.Deep.DeepCutAuto
namespace Go.Proofs.YtgdknlnpfnifiaaGreat
open Go.RowKit
set_option linter.unusedVariables false
set_option linter.unusedSimpArgs false
def LnC : Ln := { LnI with past := 3 }
set_option maxRecDepth 100000 in
set_option maxHeartbeats 6400000 in
theorem toint_of (f : Int) (e1 : Bool) (a b : Int) (g : Int → Int) (okp : Int → Prop) (pe : Bool) (pl ph TR : Int)
    (hby : ∀ q x X, okp x → X.cell? ⟨q, 0, none⟩ = some (.int .i64 f) → Calls Tryz.prog 50 #[.int .u64 x, .pointer (some ⟨q, 0, none⟩)] X fun e X' => e = .returned (.int .i64 (g x)) ∧ Below X.heap.size X X') (hok : ∀ q ∈ endsL [(e1, a, b)], okp q)
    (h : ∀ V gf lb, (∀ args w, (callFunc gf args).run Tryz.prog w = .ok (.enter gf args) w) → (∀ S W0, Below V.heap.size V W0 → (∀ k, S k → V.heap.size ≤ k ∧ k < W0.heap.size) → Feeds Tryz.prog gf lb (fun x : Int => #[Value.int .i64 x]) S ((endsL [(e1, a, b)]).map g) W0) → Calls Tryz.prog 53 #[.agg (lvi LnC), .func (.func gf) #[] lb] V fun e w' => e = .returned (.tuple #[.agg #[.bool pe, .int .i64 pl, .int .i64 ph], .int .i64 TR]) ∧ Below V.heap.size V w') (w : World) :
    Calls Tryz.prog 15 #[.int .i64 f, .agg #[.bool e1, .int .u64 a, .int .u64 b]] w fun e w' => e = .returned (.tuple #[.agg #[.bool pe, .int .i64 pl, .int .i64 ph], .int .i64 TR]) ∧ Below w.heap.size w w' := by
  have h1 := ints_any
  have h5 := intRange_any pe pl ph
  have ho := ofFloats_any
  have he2 := tex_fi
  have eby := enters_of (P := Tryz.prog) Tryz.func50 (by kernel_rfl) rfl
  unfold lvi LnI at h1
  unfold lvi LnC LnI at h
  dsimp only at h1 h
  go_enter Tryz.func15, Tryz.ntmps15
  go_upto_region 2 with fail
  obtain ⟨W, hW⟩ : ∃ W, (((w.alloc (.cells #[.int .i64 f] 23)).alloc (.cells #[.bool e1, .int .u64 a, .int .u64 b] 26)).alloc (.cells #[.bool false, .int .i64 0, .int .i64 0] 39)) = W := ⟨_, rfl⟩
  have f0 : W.cell? ⟨w.heap.size, 0, none⟩ = some (.int .i64 f) := by rw [← hW]; simp [go_sem]
  have a0 : W.cell? ⟨w.heap.size + 1, 0, none⟩ = some (.bool e1) := by rw [← hW]; simp [go_sem]
  have a1 : W.cell? ⟨w.heap.size + 1, 1, none⟩ = some (.int .u64 a) := by rw [← hW]; simp [go_sem]
  have a2 : W.cell? ⟨w.heap.size + 1, 2, none⟩ = some (.int .u64 b) := by rw [← hW]; simp [go_sem]
  have r0 : W.cell? ⟨w.heap.size + 1 + 1, 0, none⟩ = some (.bool false) := by rw [← hW]; simp [go_sem]
  have r1 : W.cell? ⟨w.heap.size + 1 + 1, 1, none⟩ = some (.int .i64 0) := by rw [← hW]; simp [go_sem]
  have r2 : W.cell? ⟨w.heap.size + 1 + 1, 2, none⟩ = some (.int .i64 0) := by rw [← hW]; simp [go_sem]
  have bW : Below w.heap.size w W := by rw [← hW]; exact (sp_new (sp_new (sp_new (Below.refl _ _) _) _) _)
  have zW : W.heap.size = w.heap.size + 3 := by rw [← hW]; simp
  have fz : ∀ j, W.frozen? ⟨w.heap.size + 1 + 1, j, none⟩ = false := by intro j; rw [← hW]; simp [go_sem]
  rw [hW]
  clear hW
  replace zW := Nat.le_of_eq zW.symm
  have hbyW := fun x X (k : okp x) (bX : Below W.heap.size W X) => hby w.heap.size x X k (sO bX f0)
  clear hby
  go_cut [7] from 11 to 11 (fun s X => ∃ (W3 : World) (bl : Nat), W3 = X ∧ s = .pointer (some ⟨bl, 0, none⟩) ∧ X.heap[bl]? = some (Obj.cells #[.int .i64 (-2147483648), .int .i64 2147483647, .int .i64 4, .func (.func 117) #[] #[], .func (.func 119) #[] #[], .func (.func 120) #[] #[], .func (.func 121) #[] #[], .func (.func 122) #[] #[], .func (.func 123) #[] #[], .func (.func 124) #[] #[], .func (.func 125) #[] #[]] 93 (0, 0)) ∧ W.heap.size ≤ bl ∧ Below W.heap.size W X)
  case first =>
   have cc : Below W.heap.size W W := Below.refl _ _
   go_wp2_with (first
     | (go_at_call 52; refine (h1 _).mono ?_; rintro e v1 ⟨rfl, g1⟩; replace cc := sp_call cc g1; clear g1 h1)
     | fail)
   have zc := cc.size
   go_meet
   exact ⟨_, _, rfl, rfl, World.alloc_heap_new _ _, zc, sp_new cc _⟩
  case rest =>
   obtain ⟨W3, bl, rfl, rfl, qL, zl, cX⟩ := hcut
   replace a0 := sO cX a0; replace a1 := sO cX a1; replace a2 := sO cX a2; replace r0 := sO cX r0; replace r1 := sO cX r1; replace r2 := sO cX r2
   replace fz : ∀ j, W3.frozen? ⟨w.heap.size + 1 + 1, j, none⟩ = false := fun j => (cX.frozen (p := ⟨w.heap.size + 1 + 1, j, none⟩) (by simp; omega)).trans (fz j)
   have zX := cX.size
   replace bW := sp_call bW cX
   obtain ⟨l0, l1, l2, l3, l4, l5, l6, l7, l8, l9, l10, lf⟩ := lcells qL
   go_upto_region 4 with fail
   obtain ⟨X, hX⟩ : ∃ X, W3.setCell ⟨bl, 2, none⟩ (.int .i64 3) = X := ⟨_, rfl⟩
   have qX : X.heap[bl]? = some (Obj.cells #[.int .i64 (-2147483648), .int .i64 2147483647, .int .i64 3, .func (.func 117) #[] #[], .func (.func 119) #[] #[], .func (.func 120) #[] #[], .func (.func 121) #[] #[], .func (.func 122) #[] #[], .func (.func 123) #[] #[], .func (.func 124) #[] #[], .func (.func 125) #[] #[]] 93 (0, 0)) := by rw [← hX]; exact (tu_at qL 2 (.int .i64 3)).trans (by simp)
   replace a0 : X.cell? ⟨w.heap.size + 1, 0, none⟩ = some (.bool e1) := by rw [← hX]; exact sp_keep1 a0 (by omega) _
   replace a1 : X.cell? ⟨w.heap.size + 1, 1, none⟩ = some (.int .u64 a) := by rw [← hX]; exact sp_keep1 a1 (by omega) _
   replace a2 : X.cell? ⟨w.heap.size + 1, 2, none⟩ = some (.int .u64 b) := by rw [← hX]; exact sp_keep1 a2 (by omega) _
   replace r0 : X.cell? ⟨w.heap.size + 1 + 1, 0, none⟩ = some (.bool false) := by rw [← hX]; exact sp_keep1 r0 (by omega) _
   replace r1 : X.cell? ⟨w.heap.size + 1 + 1, 1, none⟩ = some (.int .i64 0) := by rw [← hX]; exact sp_keep1 r1 (by omega) _
   replace r2 : X.cell? ⟨w.heap.size + 1 + 1, 2, none⟩ = some (.int .i64 0) := by rw [← hX]; exact sp_keep1 r2 (by omega) _
   replace fz : ∀ j, X.frozen? ⟨w.heap.size + 1 + 1, j, none⟩ = false := by intro j; rw [← hX]; simp [go_sem, fz]
   replace bW : Below w.heap.size w X := by rw [← hX]; exact bW.setCell (p := ⟨bl, 2, none⟩) (by simp; omega) _
   replace cX : Below W.heap.size W X := by rw [← hX]; exact cX.setCell (p := ⟨bl, 2, none⟩) (by simp; omega) _
   replace zX : W.heap.size ≤ X.heap.size := cX.size
   rw [hX]
   clear hX qL l0 l1 l2 l3 l4 l5 l6 l7 l8 l9 l10 lf
   have hbyX := fun x V (k : okp x) (bX : Below X.heap.size X V) => hbyW x V k (sp_call cX bX)
   obtain ⟨l0, l1, l2, l3, l4, l5, l6, l7, l8, l9, l10, lf⟩ := lcells qX
   clear hbyW cX qX
   have hall : ∀ X9, Below X.heap.size X X9 → (X9.cell? ⟨bl, 0, none⟩ = some (.int .i64 (-2147483648)) ∧ X9.cell? ⟨bl, 1, none⟩ = some (.int .i64 2147483647) ∧ X9.cell? ⟨bl, 2, none⟩ = some (.int .i64 3) ∧ X9.cell? ⟨bl, 3, none⟩ = some (.func (.func 117) #[] #[]) ∧ X9.cell? ⟨bl, 4, none⟩ = some (.func (.func 119) #[] #[]) ∧ X9.cell? ⟨bl, 5, none⟩ = some (.func (.func 120) #[] #[]) ∧ X9.cell? ⟨bl, 6, none⟩ = some (.func (.func 121) #[] #[]) ∧ X9.cell? ⟨bl, 7, none⟩ = some (.func (.func 122) #[] #[]) ∧ X9.cell? ⟨bl, 8, none⟩ = some (.func (.func 123) #[] #[]) ∧ X9.cell? ⟨bl, 9, none⟩ = some (.func (.func 124) #[] #[]) ∧ X9.cell? ⟨bl, 10, none⟩ = some (.func (.func 125) #[] #[]) ∧ X9.cell? ⟨w.heap.size + 1, 0, none⟩ = some (.bool e1) ∧ X9.cell? ⟨w.heap.size + 1, 1, none⟩ = some (.int .u64 a) ∧ X9.cell? ⟨w.heap.size + 1, 2, none⟩ = some (.int .u64 b)) := fun X9 cc => ⟨sO cc l0, sO cc l1, sO cc l2, sO cc l3, sO cc l4, sO cc l5, sO cc l6, sO cc l7, sO cc l8, sO cc l9, sO cc l10, sO cc a0, sO cc a1, sO cc a2⟩
   have cc : Below X.heap.size X X.drew := (Below.refl _ _).drew
   go_cut [8, 9] from 13 to 22 (fun s u Y => ∃ (W4 : World) (b6 : Nat), W4 = Y ∧ s = .pointer (some ⟨b6, 0, none⟩) ∧ u = .int .i64 TR ∧ Y.heap[b6]? = some (Obj.cells #[.bool pe, .int .i64 pl, .int .i64 ph] 96 (0, 0)) ∧ X.heap.size ≤ b6 ∧ Below X.heap.size X Y)
   case first =>
    clear f0
    refine wp_region_held_drew (S := (fun w' => w'.cell? ⟨bl, 0, none⟩ = some (.int .i64 (-2147483648)) ∧ w'.cell? ⟨bl, 1, none⟩ = some (.int .i64 2147483647) ∧ w'.cell? ⟨bl, 2, none⟩ = some (.int .i64 3) ∧ w'.cell? ⟨bl, 3, none⟩ = some (.func (.func 117) #[] #[]) ∧ w'.cell? ⟨bl, 4, none⟩ = some (.func (.func 119) #[] #[]) ∧ w'.cell? ⟨bl, 5, none⟩ = some (.func (.func 120) #[] #[]) ∧ w'.cell? ⟨bl, 6, none⟩ = some (.func (.func 121) #[] #[]) ∧ w'.cell? ⟨bl, 7, none⟩ = some (.func (.func 122) #[] #[]) ∧ w'.cell? ⟨bl, 8, none⟩ = some (.func (.func 123) #[] #[]) ∧ w'.cell? ⟨bl, 9, none⟩ = some (.func (.func 124) #[] #[]) ∧ w'.cell? ⟨bl, 10, none⟩ = some (.func (.func 125) #[] #[]) ∧ w'.cell? ⟨w.heap.size + 1, 0, none⟩ = some (.bool e1) ∧ w'.cell? ⟨w.heap.size + 1, 1, none⟩ = some (.int .u64 a) ∧ w'.cell? ⟨w.heap.size + 1, 2, none⟩ = some (.int .u64 b))) (by kernel_rfl) (hall _ cc) (fun hH => ?_)
    refine wpAnyH_take (i := 0) (oi := _) (v := .agg #[.int .i64 (-2147483648), .int .i64 2147483647, .int .i64 3, .func (.func 117) #[] #[], .func (.func 119) #[] #[], .func (.func 120) #[] #[], .func (.func 121) #[] #[], .func (.func 122) #[] #[], .func (.func 123) #[] #[], .func (.func 124) #[] #[], .func (.func 125) #[] #[]]) rfl (by kernel_rfl) (by kernel_rfl) (by kernel_rfl) (fun _ _ _ h => h) (Or.inl ⟨by rfl, fun w' hSw => by obtain ⟨zl0, zl1, zl2, zl3, zl4, zl5, zl6, zl7, zl8, zl9, zl10, za0, za1, za2⟩ := hSw; go_simp⟩) hH ?_
    simp only [Act.put, gA, gB, gC, gD, gE, gG]
    refine wpAnyH_take (i := 1) (oi := _) (v := .func (.func 50) #[] #[.pointer (some ⟨w.heap.size, 0, none⟩)]) rfl (by kernel_rfl) (by kernel_rfl) (by kernel_rfl) (fun _ _ _ h => h) (Or.inl ⟨by rfl, fun w' hSw => by obtain ⟨zl0, zl1, zl2, zl3, zl4, zl5, zl6, zl7, zl8, zl9, zl10, za0, za1, za2⟩ := hSw; go_simp⟩) hH ?_
    simp only [Act.put, gA, gB, gC, gD, gE, gG]
    refine wpAnyH_take (i := 2) (oi := _) (v := .agg #[.bool e1, .int .u64 a, .int .u64 b]) rfl (by kernel_rfl) (by kernel_rfl) (by kernel_rfl) (fun _ _ _ h => h) (Or.inl ⟨by rfl, fun w' hSw => by obtain ⟨zl0, zl1, zl2, zl3, zl4, zl5, zl6, zl7, zl8, zl9, zl10, za0, za1, za2⟩ := hSw; go_simp⟩) hH ?_
    simp only [Act.put, gA, gB, gC, gD, gE, gG]
    generalize hY : X.drew = Y0 at *
    clear hY
    refine wpAnyH_ready (rs := [3, 10]) (by kernel_rfl) (by simp) (AllReadyH.cons (o := _) rfl (fun K hK => ?_) (AllReadyH.cons (o := _) rfl (fun K hK => ?_) AllReadyH.nil))
    ·skip
     go_simp
     refine (ho _ _ _ _).mono ?_
     rintro e Y1 ⟨rfl, g⟩
     replace cc := sp_call cc g
     clear g
     go_wp2_with fail
     refine hK.out _ _ (hall _ cc) (fun hH => ?_)
     clear hK K
     try simp only [Act.put, gA, gB, gC, gD, gE, gG]
     refine wpAnyH_ready (rs := [4, 10]) (by kernel_rfl) (by simp) (AllReadyH.cons (o := _) rfl (fun K hK => ?_) (AllReadyH.cons (o := _) rfl (fun K hK => ?_) AllReadyH.nil))
     ·skip
      go_simp
      have zqqs := cc.size
      have qs := World.alloc_heap_new Y1 (Obj.cells #[.bool e1, .int .u64 a, .int .u64 b] 50 (0, 0))
      replace cc := sp_new cc (Obj.cells #[.bool e1, .int .u64 a, .int .u64 b] 50 (0, 0))
      generalize hB : Y1.heap.size = Bqs at *
      generalize hY : Y1.alloc (Obj.cells #[.bool e1, .int .u64 a, .int .u64 b] 50 (0, 0)) = Y2 at *
      clear hY hB
      refine hK.out _ _ (hall _ cc) (fun hH => ?_)
      clear hK K
      try simp only [Act.put, gA, gB, gC, gD, gE, gG]
      refine wpAnyH_ready (rs := [5, 10]) (by kernel_rfl) (by simp) (AllReadyH.cons (o := _) rfl (fun K hK => ?_) (AllReadyH.cons (o := _) rfl (fun K hK => ?_) AllReadyH.nil))
      ·skip
       go_simp
       refine (he2 _ _ _ _ _ _).mono ?_
       rintro e Y3 ⟨p, rfl, f0, f2, hp, g⟩
       have srow := tu_row_f g f2 (by obtain ⟨c0, c1, c2, _⟩ := tu_cells3 qs; exact ⟨c0, c1, c2⟩)
       obtain ⟨srow, hbq⟩ := srow
       have cX0 := sp_call cc g
       have cE : Below Y3.heap.size Y3 Y3 := Below.refl _ _
       clear qs
       replace cc := sp_call cc g
       clear g
       go_wp2_with fail
       refine hK.out _ _ (hall _ cc) (fun hH => ?_)
       clear hK K
       try simp only [Act.put, gA, gB, gC, gD, gE, gG]
       refine wpAnyH_ready (rs := [6, 10]) (by kernel_rfl) (by simp) (AllReadyH.cons (o := _) rfl (fun K hK => ?_) (AllReadyH.cons (o := _) rfl (fun K hK => ?_) AllReadyH.nil))
       ·skip
        go_simp
        refine (h _ _ _ (enters_of Tryz.func130 (by kernel_rfl) rfl) (fun S W0 hW hSS => tfe_fi (ls := [(e1, a, b)]) f0 f2 srow (by simp) hp hbq eby hbyX hok cX0 (sp_call cE hW) (fun k hk => ⟨Nat.le_trans cE.size (hSS k hk).1, (hSS k hk).2⟩))).mono ?_
        rintro e Y4 ⟨rfl, g⟩
        replace cc := sp_call cc g
        skip
        clear g
        go_wp2_with fail
        refine hK.out _ _ (hall _ cc) (fun hH => ?_)
        clear hK K
        try simp only [Act.put, gA, gB, gC, gD, gE, gG]
        refine wpAnyH_take (i := 7) (oi := _) (v := .tuple #[.agg #[.bool pe, .int .i64 pl, .int .i64 ph], .int .i64 TR]) rfl (by kernel_rfl) (by kernel_rfl) (by kernel_rfl) (fun _ _ _ h => h) (Or.inl ⟨by rfl, fun w' hSw => by obtain ⟨zl0, zl1, zl2, zl3, zl4, zl5, zl6, zl7, zl8, zl9, zl10, za0, za1, za2⟩ := hSw; go_simp⟩) hH ?_
        simp only [Act.put, gA, gB, gC, gD, gE, gG]
        refine wpAnyH_take (i := 8) (oi := _) (v := .agg #[.bool pe, .int .i64 pl, .int .i64 ph]) rfl (by kernel_rfl) (by kernel_rfl) (by kernel_rfl) (fun _ _ _ h => h) (Or.inl ⟨by rfl, fun w' hSw => by obtain ⟨zl0, zl1, zl2, zl3, zl4, zl5, zl6, zl7, zl8, zl9, zl10, za0, za1, za2⟩ := hSw; go_simp⟩) hH ?_
        simp only [Act.put, gA, gB, gC, gD, gE, gG]
        refine wpAnyH_take (i := 9) (oi := _) (v := .int .i64 TR) rfl (by kernel_rfl) (by kernel_rfl) (by kernel_rfl) (fun _ _ _ h => h) (Or.inl ⟨by rfl, fun w' hSw => by obtain ⟨zl0, zl1, zl2, zl3, zl4, zl5, zl6, zl7, zl8, zl9, zl10, za0, za1, za2⟩ := hSw; go_simp⟩) hH ?_
        simp only [Act.put, gA, gB, gC, gD, gE, gG]
        refine wpAnyH_ready (rs := [10]) (by kernel_rfl) (by simp) (AllReadyH.cons (o := _) rfl (fun K hK => ?_) AllReadyH.nil)
        go_simp
        have zzY4 := cc.size
        have qa := World.alloc_heap_new Y4 (Obj.cells #[.bool false, .int .i64 0, .int .i64 0] 96 (0, 0))
        replace cc := sp_new cc (Obj.cells #[.bool false, .int .i64 0, .int .i64 0] 96 (0, 0))
        generalize hY : Y4.alloc (Obj.cells #[.bool false, .int .i64 0, .int .i64 0] 96 (0, 0)) = Y5 at *
        clear hY
        refine hK.out _ _ (hall _ cc) (fun hH => ?_)
        clear hK K
        try simp only [Act.put, gA, gB, gC, gD, gE, gG]
        refine wpAnyH_ready (rs := [11]) (by kernel_rfl) (by simp) (AllReadyH.cons (o := _) rfl (fun K hK => ?_) AllReadyH.nil)
        obtain ⟨q0, q1, q2, qf⟩ := tu_cells3 qa
        go_simp
        clear q0 q1 q2 qf
        replace qa := tu_set3 qa (.bool pe) (.int .i64 pl) (.int .i64 ph)
        replace cc := sp_set3 (b := Y4.heap.size) cc zzY4 (.bool pe) (.int .i64 pl) (.int .i64 ph)
        generalize hY : (((Y5.setCell ⟨Y4.heap.size, 0, none⟩ (.bool pe)).setCell ⟨Y4.heap.size, 1, none⟩ (.int .i64 pl)).setCell ⟨Y4.heap.size, 2, none⟩ (.int .i64 ph)) = Y6 at *
        clear hY
        refine hK.out _ _ (hall _ cc) (fun hH => ?_)
        clear hK K
        try simp only [Act.put, gA, gB, gC, gD, gE, gG]
        refine wpAnyH_take (i := 12) (oi := _) (v := .int .i64 TR) rfl (by kernel_rfl) (by kernel_rfl) (by kernel_rfl) (fun _ _ _ h => h) (Or.inl ⟨by rfl, fun w' hSw => by obtain ⟨zl0, zl1, zl2, zl3, zl4, zl5, zl6, zl7, zl8, zl9, zl10, za0, za1, za2⟩ := hSw; go_simp⟩) hH ?_
        simp only [Act.put, gA, gB, gC, gD, gE, gG]
        refine wpAnyH_done (by kernel_rfl) ?_ _
        go_wp2_with fail
        go_meet
        exact ⟨_, _, rfl, rfl, rfl, qa, zzY4, cc⟩
       ·skip
        go_simp
        have zzY3 := cc.size
        have qa := World.alloc_heap_new Y3 (Obj.cells #[.bool false, .int .i64 0, .int .i64 0] 96 (0, 0))
        replace cc := sp_new cc (Obj.cells #[.bool false, .int .i64 0, .int .i64 0] 96 (0, 0))
        replace cE := sp_new cE (Obj.cells #[.bool false, .int .i64 0, .int .i64 0] 96 (0, 0))
        generalize hY : Y3.alloc (Obj.cells #[.bool false, .int .i64 0, .int .i64 0] 96 (0, 0)) = Y7 at *
        clear hY
        refine hK.out _ _ (hall _ cc) (fun hH => ?_)
        clear hK K
        try simp only [Act.put, gA, gB, gC, gD, gE, gG]
        refine wpAnyH_ready (rs := [6]) (by kernel_rfl) (by simp) (AllReadyH.cons (o := _) rfl (fun K hK => ?_) AllReadyH.nil)
        go_simp
        refine (h _ _ _ (enters_of Tryz.func130 (by kernel_rfl) rfl) (fun S W0 hW hSS => tfe_fi (ls := [(e1, a, b)]) f0 f2 srow (by simp) hp hbq eby hbyX hok cX0 (sp_call cE hW) (fun k hk => ⟨Nat.le_trans cE.size (hSS k hk).1, (hSS k hk).2⟩))).mono ?_
        rintro e Y8 ⟨rfl, g⟩
        replace cc := sp_call cc g
        replace qa := tu_carry g qa
        skip
        clear g
        go_wp2_with fail
        refine hK.out _ _ (hall _ cc) (fun hH => ?_)
        clear hK K
        try simp only [Act.put, gA, gB, gC, gD, gE, gG]
        refine wpAnyH_take (i := 7) (oi := _) (v := .tuple #[.agg #[.bool pe, .int .i64 pl, .int .i64 ph], .int .i64 TR]) rfl (by kernel_rfl) (by kernel_rfl) (by kernel_rfl) (fun _ _ _ h => h) (Or.inl ⟨by rfl, fun w' hSw => by obtain ⟨zl0, zl1, zl2, zl3, zl4, zl5, zl6, zl7, zl8, zl9, zl10, za0, za1, za2⟩ := hSw; go_simp⟩) hH ?_
        simp only [Act.put, gA, gB, gC, gD, gE, gG]
        refine wpAnyH_take (i := 8) (oi := _) (v := .agg #[.bool pe, .int .i64 pl, .int .i64 ph]) rfl (by kernel_rfl) (by kernel_rfl) (by kernel_rfl) (fun _ _ _ h => h) (Or.inl ⟨by rfl, fun w' hSw => by obtain ⟨zl0, zl1, zl2, zl3, zl4, zl5, zl6, zl7, zl8, zl9, zl10, za0, za1, za2⟩ := hSw; go_simp⟩) hH ?_
        simp only [Act.put, gA, gB, gC, gD, gE, gG]
        refine wpAnyH_take (i := 9) (oi := _) (v := .int .i64 TR) rfl (by kernel_rfl) (by kernel_rfl) (by kernel_rfl) (fun _ _ _ h => h) (Or.inl ⟨by rfl, fun w' hSw => by obtain ⟨zl0, zl1, zl2, zl3, zl4, zl5, zl6, zl7, zl8, zl9, zl10, za0, za1, za2⟩ := hSw; go_simp⟩) hH ?_
        simp only [Act.put, gA, gB, gC, gD, gE, gG]
        refine wpAnyH_ready (rs := [11]) (by kernel_rfl) (by simp) (AllReadyH.cons (o := _) rfl (fun K hK => ?_) AllReadyH.nil)
        obtain ⟨q0, q1, q2, qf⟩ := tu_cells3 qa
        go_simp
        clear q0 q1 q2 qf
        replace qa := tu_set3 qa (.bool pe) (.int .i64 pl) (.int .i64 ph)
        replace cc := sp_set3 (b := Y3.heap.size) cc zzY3 (.bool pe) (.int .i64 pl) (.int .i64 ph)
        generalize hY : (((Y8.setCell ⟨Y3.heap.size, 0, none⟩ (.bool pe)).setCell ⟨Y3.heap.size, 1, none⟩ (.int .i64 pl)).setCell ⟨Y3.heap.size, 2, none⟩ (.int .i64 ph)) = Y9 at *
        clear hY
        refine hK.out _ _ (hall _ cc) (fun hH => ?_)
        clear hK K
        try simp only [Act.put, gA, gB, gC, gD, gE, gG]
        refine wpAnyH_take (i := 12) (oi := _) (v := .int .i64 TR) rfl (by kernel_rfl) (by kernel_rfl) (by kernel_rfl) (fun _ _ _ h => h) (Or.inl ⟨by rfl, fun w' hSw => by obtain ⟨zl0, zl1, zl2, zl3, zl4, zl5, zl6, zl7, zl8, zl9, zl10, za0, za1, za2⟩ := hSw; go_simp⟩) hH ?_
        simp only [Act.put, gA, gB, gC, gD, gE, gG]
        refine wpAnyH_done (by kernel_rfl) ?_ _
        go_wp2_with fail
        go_meet
        exact ⟨_, _, rfl, rfl, rfl, qa, zzY3, cc⟩
      ·skip
       go_simp
       have zzY2 := cc.size
       replace qs := tu_old qs (Obj.cells #[.bool false, .int .i64 0, .int .i64 0] 96 (0, 0))
       have qa := World.alloc_heap_new Y2 (Obj.cells #[.bool false, .int .i64 0, .int .i64 0] 96 (0, 0))
       replace cc := sp_new cc (Obj.cells #[.bool false, .int .i64 0, .int .i64 0] 96 (0, 0))
       generalize hY : Y2.alloc (Obj.cells #[.bool false, .int .i64 0, .int .i64 0] 96 (0, 0)) = Y10 at *
       clear hY
       refine hK.out _ _ (hall _ cc) (fun hH => ?_)
       clear hK K
       try simp only [Act.put, gA, gB, gC, gD, gE, gG]
       refine wpAnyH_ready (rs := [5]) (by kernel_rfl) (by simp) (AllReadyH.cons (o := _) rfl (fun K hK => ?_) AllReadyH.nil)
       go_simp
       refine (he2 _ _ _ _ _ _).mono ?_
       rintro e Y11 ⟨p, rfl, f0, f2, hp, g⟩
       have srow := tu_row_f g f2 (by obtain ⟨c0, c1, c2, _⟩ := tu_cells3 qs; exact ⟨c0, c1, c2⟩)
       obtain ⟨srow, hbq⟩ := srow
       have cX0 := sp_call cc g
       have cE : Below Y11.heap.size Y11 Y11 := Below.refl _ _
       clear qs
       replace cc := sp_call cc g
       replace qa := tu_carry g qa
       clear g
       go_wp2_with fail
       refine hK.out _ _ (hall _ cc) (fun hH => ?_)
       clear hK K
       try simp only [Act.put, gA, gB, gC, gD, gE, gG]
       refine wpAnyH_ready (rs := [6]) (by kernel_rfl) (by simp) (AllReadyH.cons (o := _) rfl (fun K hK => ?_) AllReadyH.nil)
       go_simp
       refine (h _ _ _ (enters_of Tryz.func130 (by kernel_rfl) rfl) (fun S W0 hW hSS => tfe_fi (ls := [(e1, a, b)]) f0 f2 srow (by simp) hp hbq eby hbyX hok cX0 (sp_call cE hW) (fun k hk => ⟨Nat.le_trans cE.size (hSS k hk).1, (hSS k hk).2⟩))).mono ?_
       rintro e Y12 ⟨rfl, g⟩
       replace cc := sp_call cc g
       replace qa := tu_carry g qa
       skip
       clear g
       go_wp2_with fail
       refine hK.out _ _ (hall _ cc) (fun hH => ?_)
       clear hK K
       try simp only [Act.put, gA, gB, gC, gD, gE, gG]
       refine wpAnyH_take (i := 7) (oi := _) (v := .tuple #[.agg #[.bool pe, .int .i64 pl, .int .i64 ph], .int .i64 TR]) rfl (by kernel_rfl) (by kernel_rfl) (by kernel_rfl) (fun _ _ _ h => h) (Or.inl ⟨by rfl, fun w' hSw => by obtain ⟨zl0, zl1, zl2, zl3, zl4, zl5, zl6, zl7, zl8, zl9, zl10, za0, za1, za2⟩ := hSw; go_simp⟩) hH ?_
       simp only [Act.put, gA, gB, gC, gD, gE, gG]
       refine wpAnyH_take (i := 8) (oi := _) (v := .agg #[.bool pe, .int .i64 pl, .int .i64 ph]) rfl (by kernel_rfl) (by kernel_rfl) (by kernel_rfl) (fun _ _ _ h => h) (Or.inl ⟨by rfl, fun w' hSw => by obtain ⟨zl0, zl1, zl2, zl3, zl4, zl5, zl6, zl7, zl8, zl9, zl10, za0, za1, za2⟩ := hSw; go_simp⟩) hH ?_
       simp only [Act.put, gA, gB, gC, gD, gE, gG]
       refine wpAnyH_take (i := 9) (oi := _) (v := .int .i64 TR) rfl (by kernel_rfl) (by kernel_rfl) (by kernel_rfl) (fun _ _ _ h => h) (Or.inl ⟨by rfl, fun w' hSw => by obtain ⟨zl0, zl1, zl2, zl3, zl4, zl5, zl6, zl7, zl8, zl9, zl10, za0, za1, za2⟩ := hSw; go_simp⟩) hH ?_
       simp only [Act.put, gA, gB, gC, gD, gE, gG]
       refine wpAnyH_ready (rs := [11]) (by kernel_rfl) (by simp) (AllReadyH.cons (o := _) rfl (fun K hK => ?_) AllReadyH.nil)
       obtain ⟨q0, q1, q2, qf⟩ := tu_cells3 qa
       go_simp
       clear q0 q1 q2 qf
       replace qa := tu_set3 qa (.bool pe) (.int .i64 pl) (.int .i64 ph)
       replace cc := sp_set3 (b := Y2.heap.size) cc zzY2 (.bool pe) (.int .i64 pl) (.int .i64 ph)
       generalize hY : (((Y12.setCell ⟨Y2.heap.size, 0, none⟩ (.bool pe)).setCell ⟨Y2.heap.size, 1, none⟩ (.int .i64 pl)).setCell ⟨Y2.heap.size, 2, none⟩ (.int .i64 ph)) = Y13 at *
       clear hY
       refine hK.out _ _ (hall _ cc) (fun hH => ?_)
       clear hK K
       try simp only [Act.put, gA, gB, gC, gD, gE, gG]
       refine wpAnyH_take (i := 12) (oi := _) (v := .int .i64 TR) rfl (by kernel_rfl) (by kernel_rfl) (by kernel_rfl) (fun _ _ _ h => h) (Or.inl ⟨by rfl, fun w' hSw => by obtain ⟨zl0, zl1, zl2, zl3, zl4, zl5, zl6, zl7, zl8, zl9, zl10, za0, za1, za2⟩ := hSw; go_simp⟩) hH ?_
       simp only [Act.put, gA, gB, gC, gD, gE, gG]
       refine wpAnyH_done (by kernel_rfl) ?_ _
       go_wp2_with fail
       go_meet
       exact ⟨_, _, rfl, rfl, rfl, qa, zzY2, cc⟩
     ·skip
      go_simp
      have zzY1 := cc.size
      have qa := World.alloc_heap_new Y1 (Obj.cells #[.bool false, .int .i64 0, .int .i64 0] 96 (0, 0))
      replace cc := sp_new cc (Obj.cells #[.bool false, .int .i64 0, .int .i64 0] 96 (0, 0))
      generalize hY : Y1.alloc (Obj.cells #[.bool false, .int .i64 0, .int .i64 0] 96 (0, 0)) = Y14 at *
      clear hY
      refine hK.out _ _ (hall _ cc) (fun hH => ?_)
      clear hK K
      try simp only [Act.put, gA, gB, gC, gD, gE, gG]
      refine wpAnyH_ready (rs := [4]) (by kernel_rfl) (by simp) (AllReadyH.cons (o := _) rfl (fun K hK => ?_) AllReadyH.nil)
      go_simp
      have zqqs := cc.size
      replace qa := tu_old qa (Obj.cells #[.bool e1, .int .u64 a, .int .u64 b] 50 (0, 0))
      have qs := World.alloc_heap_new Y14 (Obj.cells #[.bool e1, .int .u64 a, .int .u64 b] 50 (0, 0))
      replace cc := sp_new cc (Obj.cells #[.bool e1, .int .u64 a, .int .u64 b] 50 (0, 0))
      generalize hB : Y14.heap.size = Bqs at *
      generalize hY : Y14.alloc (Obj.cells #[.bool e1, .int .u64 a, .int .u64 b] 50 (0, 0)) = Y15 at *
      clear hY hB
      refine hK.out _ _ (hall _ cc) (fun hH => ?_)
      clear hK K
      try simp only [Act.put, gA, gB, gC, gD, gE, gG]
      refine wpAnyH_ready (rs := [5]) (by kernel_rfl) (by simp) (AllReadyH.cons (o := _) rfl (fun K hK => ?_) AllReadyH.nil)
      go_simp
      refine (he2 _ _ _ _ _ _).mono ?_
      rintro e Y16 ⟨p, rfl, f0, f2, hp, g⟩
      have srow := tu_row_f g f2 (by obtain ⟨c0, c1, c2, _⟩ := tu_cells3 qs; exact ⟨c0, c1, c2⟩)
      obtain ⟨srow, hbq⟩ := srow
      have cX0 := sp_call cc g
      have cE : Below Y16.heap.size Y16 Y16 := Below.refl _ _
      clear qs
      replace cc := sp_call cc g
      replace qa := tu_carry g qa
      clear g
      go_wp2_with fail
      refine hK.out _ _ (hall _ cc) (fun hH => ?_)
      clear hK K
      try simp only [Act.put, gA, gB, gC, gD, gE, gG]
      refine wpAnyH_ready (rs := [6]) (by kernel_rfl) (by simp) (AllReadyH.cons (o := _) rfl (fun K hK => ?_) AllReadyH.nil)
      go_simp
      refine (h _ _ _ (enters_of Tryz.func130 (by kernel_rfl) rfl) (fun S W0 hW hSS => tfe_fi (ls := [(e1, a, b)]) f0 f2 srow (by simp) hp hbq eby hbyX hok cX0 (sp_call cE hW) (fun k hk => ⟨Nat.le_trans cE.size (hSS k hk).1, (hSS k hk).2⟩))).mono ?_
      rintro e Y17 ⟨rfl, g⟩
      replace cc := sp_call cc g
      replace qa := tu_carry g qa
      skip
      clear g
      go_wp2_with fail
      refine hK.out _ _ (hall _ cc) (fun hH => ?_)
      clear hK K
      try simp only [Act.put, gA, gB, gC, gD, gE, gG]
      refine wpAnyH_take (i := 7) (oi := _) (v := .tuple #[.agg #[.bool pe, .int .i64 pl, .int .i64 ph], .int .i64 TR]) rfl (by kernel_rfl) (by kernel_rfl) (by kernel_rfl) (fun _ _ _ h => h) (Or.inl ⟨by rfl, fun w' hSw => by obtain ⟨zl0, zl1, zl2, zl3, zl4, zl5, zl6, zl7, zl8, zl9, zl10, za0, za1, za2⟩ := hSw; go_simp⟩) hH ?_
      simp only [Act.put, gA, gB, gC, gD, gE, gG]
      refine wpAnyH_take (i := 8) (oi := _) (v := .agg #[.bool pe, .int .i64 pl, .int .i64 ph]) rfl (by kernel_rfl) (by kernel_rfl) (by kernel_rfl) (fun _ _ _ h => h) (Or.inl ⟨by rfl, fun w' hSw => by obtain ⟨zl0, zl1, zl2, zl3, zl4, zl5, zl6, zl7, zl8, zl9, zl10, za0, za1, za2⟩ := hSw; go_simp⟩) hH ?_
      simp only [Act.put, gA, gB, gC, gD, gE, gG]
      refine wpAnyH_take (i := 9) (oi := _) (v := .int .i64 TR) rfl (by kernel_rfl) (by kernel_rfl) (by kernel_rfl) (fun _ _ _ h => h) (Or.inl ⟨by rfl, fun w' hSw => by obtain ⟨zl0, zl1, zl2, zl3, zl4, zl5, zl6, zl7, zl8, zl9, zl10, za0, za1, za2⟩ := hSw; go_simp⟩) hH ?_
      simp only [Act.put, gA, gB, gC, gD, gE, gG]
      refine wpAnyH_ready (rs := [11]) (by kernel_rfl) (by simp) (AllReadyH.cons (o := _) rfl (fun K hK => ?_) AllReadyH.nil)
      obtain ⟨q0, q1, q2, qf⟩ := tu_cells3 qa
      go_simp
      clear q0 q1 q2 qf
      replace qa := tu_set3 qa (.bool pe) (.int .i64 pl) (.int .i64 ph)
      replace cc := sp_set3 (b := Y1.heap.size) cc zzY1 (.bool pe) (.int .i64 pl) (.int .i64 ph)
      generalize hY : (((Y17.setCell ⟨Y1.heap.size, 0, none⟩ (.bool pe)).setCell ⟨Y1.heap.size, 1, none⟩ (.int .i64 pl)).setCell ⟨Y1.heap.size, 2, none⟩ (.int .i64 ph)) = Y18 at *
      clear hY
      refine hK.out _ _ (hall _ cc) (fun hH => ?_)
      clear hK K
      try simp only [Act.put, gA, gB, gC, gD, gE, gG]
      refine wpAnyH_take (i := 12) (oi := _) (v := .int .i64 TR) rfl (by kernel_rfl) (by kernel_rfl) (by kernel_rfl) (fun _ _ _ h => h) (Or.inl ⟨by rfl, fun w' hSw => by obtain ⟨zl0, zl1, zl2, zl3, zl4, zl5, zl6, zl7, zl8, zl9, zl10, za0, za1, za2⟩ := hSw; go_simp⟩) hH ?_
      simp only [Act.put, gA, gB, gC, gD, gE, gG]
      refine wpAnyH_done (by kernel_rfl) ?_ _
      go_wp2_with fail
      go_meet
      exact ⟨_, _, rfl, rfl, rfl, qa, zzY1, cc⟩
    ·skip
     go_simp
     have zzY0 := cc.size
     have qa := World.alloc_heap_new Y0 (Obj.cells #[.bool false, .int .i64 0, .int .i64 0] 96 (0, 0))
     replace cc := sp_new cc (Obj.cells #[.bool false, .int .i64 0, .int .i64 0] 96 (0, 0))
     generalize hY : Y0.alloc (Obj.cells #[.bool false, .int .i64 0, .int .i64 0] 96 (0, 0)) = Y19 at *
     clear hY
     refine hK.out _ _ (hall _ cc) (fun hH => ?_)
     clear hK K
     try simp only [Act.put, gA, gB, gC, gD, gE, gG]
     refine wpAnyH_ready (rs := [3]) (by kernel_rfl) (by simp) (AllReadyH.cons (o := _) rfl (fun K hK => ?_) AllReadyH.nil)
     go_simp
     refine (ho _ _ _ _).mono ?_
     rintro e Y20 ⟨rfl, g⟩
     replace cc := sp_call cc g
     replace qa := tu_carry g qa
     clear g
     go_wp2_with fail
     refine hK.out _ _ (hall _ cc) (fun hH => ?_)
     clear hK K
     try simp only [Act.put, gA, gB, gC, gD, gE, gG]
     refine wpAnyH_ready (rs := [4]) (by kernel_rfl) (by simp) (AllReadyH.cons (o := _) rfl (fun K hK => ?_) AllReadyH.nil)
     go_simp
     have zqqs := cc.size
     replace qa := tu_old qa (Obj.cells #[.bool e1, .int .u64 a, .int .u64 b] 50 (0, 0))
     have qs := World.alloc_heap_new Y20 (Obj.cells #[.bool e1, .int .u64 a, .int .u64 b] 50 (0, 0))
     replace cc := sp_new cc (Obj.cells #[.bool e1, .int .u64 a, .int .u64 b] 50 (0, 0))
     generalize hB : Y20.heap.size = Bqs at *
     generalize hY : Y20.alloc (Obj.cells #[.bool e1, .int .u64 a, .int .u64 b] 50 (0, 0)) = Y21 at *
     clear hY hB
     refine hK.out _ _ (hall _ cc) (fun hH => ?_)
     clear hK K
     try simp only [Act.put, gA, gB, gC, gD, gE, gG]
     refine wpAnyH_ready (rs := [5]) (by kernel_rfl) (by simp) (AllReadyH.cons (o := _) rfl (fun K hK => ?_) AllReadyH.nil)
     go_simp
     refine (he2 _ _ _ _ _ _).mono ?_
     rintro e Y22 ⟨p, rfl, f0, f2, hp, g⟩
     have srow := tu_row_f g f2 (by obtain ⟨c0, c1, c2, _⟩ := tu_cells3 qs; exact ⟨c0, c1, c2⟩)
     obtain ⟨srow, hbq⟩ := srow
     have cX0 := sp_call cc g
     have cE : Below Y22.heap.size Y22 Y22 := Below.refl _ _
     clear qs
     replace cc := sp_call cc g
     replace qa := tu_carry g qa
     clear g
     go_wp2_with fail
     refine hK.out _ _ (hall _ cc) (fun hH => ?_)
     clear hK K
     try simp only [Act.put, gA, gB, gC, gD, gE, gG]
     refine wpAnyH_ready (rs := [6]) (by kernel_rfl) (by simp) (AllReadyH.cons (o := _) rfl (fun K hK => ?_) AllReadyH.nil)
     go_simp
     refine (h _ _ _ (enters_of Tryz.func130 (by kernel_rfl) rfl) (fun S W0 hW hSS => tfe_fi (ls := [(e1, a, b)]) f0 f2 srow (by simp) hp hbq eby hbyX hok cX0 (sp_call cE hW) (fun k hk => ⟨Nat.le_trans cE.size (hSS k hk).1, (hSS k hk).2⟩))).mono ?_
     rintro e Y23 ⟨rfl, g⟩
     replace cc := sp_call cc g
     replace qa := tu_carry g qa
     skip
     clear g
     go_wp2_with fail
     refine hK.out _ _ (hall _ cc) (fun hH => ?_)
     clear hK K
     try simp only [Act.put, gA, gB, gC, gD, gE, gG]
     refine wpAnyH_take (i := 7) (oi := _) (v := .tuple #[.agg #[.bool pe, .int .i64 pl, .int .i64 ph], .int .i64 TR]) rfl (by kernel_rfl) (by kernel_rfl) (by kernel_rfl) (fun _ _ _ h => h) (Or.inl ⟨by rfl, fun w' hSw => by obtain ⟨zl0, zl1, zl2, zl3, zl4, zl5, zl6, zl7, zl8, zl9, zl10, za0, za1, za2⟩ := hSw; go_simp⟩) hH ?_
     simp only [Act.put, gA, gB, gC, gD, gE, gG]
     refine wpAnyH_take (i := 8) (oi := _) (v := .agg #[.bool pe, .int .i64 pl, .int .i64 ph]) rfl (by kernel_rfl) (by kernel_rfl) (by kernel_rfl) (fun _ _ _ h => h) (Or.inl ⟨by rfl, fun w' hSw => by obtain ⟨zl0, zl1, zl2, zl3, zl4, zl5, zl6, zl7, zl8, zl9, zl10, za0, za1, za2⟩ := hSw; go_simp⟩) hH ?_
     simp only [Act.put, gA, gB, gC, gD, gE, gG]
     refine wpAnyH_take (i := 9) (oi := _) (v := .int .i64 TR) rfl (by kernel_rfl) (by kernel_rfl) (by kernel_rfl) (fun _ _ _ h => h) (Or.inl ⟨by rfl, fun w' hSw => by obtain ⟨zl0, zl1, zl2, zl3, zl4, zl5, zl6, zl7, zl8, zl9, zl10, za0, za1, za2⟩ := hSw; go_simp⟩) hH ?_
     simp only [Act.put, gA, gB, gC, gD, gE, gG]
     refine wpAnyH_ready (rs := [11]) (by kernel_rfl) (by simp) (AllReadyH.cons (o := _) rfl (fun K hK => ?_) AllReadyH.nil)
     obtain ⟨q0, q1, q2, qf⟩ := tu_cells3 qa
     go_simp
     clear q0 q1 q2 qf
     replace qa := tu_set3 qa (.bool pe) (.int .i64 pl) (.int .i64 ph)
     replace cc := sp_set3 (b := Y0.heap.size) cc zzY0 (.bool pe) (.int .i64 pl) (.int .i64 ph)
     generalize hY : (((Y23.setCell ⟨Y0.heap.size, 0, none⟩ (.bool pe)).setCell ⟨Y0.heap.size, 1, none⟩ (.int .i64 pl)).setCell ⟨Y0.heap.size, 2, none⟩ (.int .i64 ph)) = Y24 at *
     clear hY
     refine hK.out _ _ (hall _ cc) (fun hH => ?_)
     clear hK K
     try simp only [Act.put, gA, gB, gC, gD, gE, gG]
     refine wpAnyH_take (i := 12) (oi := _) (v := .int .i64 TR) rfl (by kernel_rfl) (by kernel_rfl) (by kernel_rfl) (fun _ _ _ h => h) (Or.inl ⟨by rfl, fun w' hSw => by obtain ⟨zl0, zl1, zl2, zl3, zl4, zl5, zl6, zl7, zl8, zl9, zl10, za0, za1, za2⟩ := hSw; go_simp⟩) hH ?_
     simp only [Act.put, gA, gB, gC, gD, gE, gG]
     refine wpAnyH_done (by kernel_rfl) ?_ _
     go_wp2_with fail
     go_meet
     exact ⟨_, _, rfl, rfl, rfl, qa, zzY0, cc⟩
   case rest =>
    obtain ⟨W4, b6, rfl, rfl, rfl, qa, z6, cX⟩ := hcut
    obtain ⟨t0, t1, t2, _⟩ := tu_cells3 qa
    replace r0 := sO cX r0; replace r1 := sO cX r1; replace r2 := sO cX r2
    replace fz : ∀ j, W4.frozen? ⟨w.heap.size + 1 + 1, j, none⟩ = false := fun j => (cX.frozen (p := ⟨w.heap.size + 1 + 1, j, none⟩) (by simp; omega)).trans (fz j)
    have zY := cX.size
    replace bW := sp_call bW cX
    clear hall cc cX qa h ho he2 eby hbyX hok
    go_wp2_with fail
    refine (h5 _).mono ?_
    rintro e v1 ⟨rfl, g⟩
    replace fz : ∀ j, v1.frozen? ⟨w.heap.size + 1 + 1, j, none⟩ = false := fun j => (g.frozen (p := ⟨w.heap.size + 1 + 1, j, none⟩) (by simp; omega)).trans (fz j)
    replace r0 := sO g r0; replace r1 := sO g r1; replace r2 := sO g r2
    replace bW := sp_call bW g
    clear g
    go_wp2_with fail
    exact bodyPost_ret (v := .tuple #[.agg #[.bool pe, .int .i64 pl, .int .i64 ph], .int .i64 TR]) (by simp [results, Tryz.results15, go_sem, r0, r1, r2]) rfl ⟨rfl, sp_set3 bW (by omega) _ _ _⟩
end Go.Proofs.YtgdknlnpfnifiaaGreat


