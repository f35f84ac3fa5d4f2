/- span.To, span.ToInt, span.FromInt, over a line's told. -/
import Derived.Test.YtgdknlnpfnifiaaGreatTG18
import Derived.Test.YtgdknlnpfnifiaaGreatTG7
import Derived.Test.YtgdknlnpfnifiaaGreatTG15
import Derived.Deep.DeepCutAuto
namespace Go.Proofs.YtgdknlnpfnifiaaGreat
open Go.RowKit
set_option linter.unusedVariables false
set_option linter.unusedSimpArgs false
set_option maxRecDepth 100000 in
set_option maxHeartbeats 6400000 in
theorem to_of (f t : Int) (e1 : Bool) (a b : Int) (kb : Nat) (caps : Array Value) (g : Int → Int) (okp : Int → Prop) (pe : Bool) (pl ph TR : Int) (hr : ∀ V, Calls Tryz.prog 47 #[.int .i64 f, .int .i64 t] V fun e w' => e = .returned (.func (.func kb) #[] caps) ∧ Below V.heap.size V w') (eby : (∀ args w, (callFunc kb args).run Tryz.prog w = .ok (.enter kb args) w))
    (hby : ∀ x X, okp x → Calls Tryz.prog kb (#[.int .u64 x] ++ caps) X fun e X' => e = .returned (.int .u64 (g x)) ∧ Below X.heap.size X X') (hok : ∀ q ∈ endsL [(e1, a, b)], okp q)
    (h : ∀ L B w0, FlAt t L B w0 → ∀ V gf lb, Below B w0 V → (∀ args w, (callFunc gf args).run Tryz.prog w = .ok (.enter gf args) w) → (∀ S W0, Below V.heap.size V W0 → (∀ k, S k → V.heap.size ≤ k ∧ k < W0.heap.size) → Feeds Tryz.prog gf lb (fun x : Int => #[Value.int .u64 x]) S ((endsL [(e1, a, b)]).map g) W0) → Calls Tryz.prog 45 #[.agg (lvf L), .func (.func gf) #[] lb] V fun e w' => e = .returned (.tuple #[.agg #[.bool pe, .int .u64 pl, .int .u64 ph], .int .i64 TR]) ∧ Below V.heap.size V w') (w : World) :
    Calls Tryz.prog 13 #[.int .i64 f, .int .i64 t, .agg #[.bool e1, .int .u64 a, .int .u64 b]] w fun e w' => e = .returned (.tuple #[.agg #[.bool pe, .int .u64 pl, .int .u64 ph], .int .i64 TR]) ∧ Below w.heap.size w w' := by
  have h1 := floats_at t
  have h5 := floatRange_any pe pl ph
  have ho := ofFloats_any
  have he2 := tex_ff
  go_enter Tryz.func13, Tryz.ntmps13
  go_upto_region 1 with fail
  obtain ⟨W, hW⟩ : ∃ W, ((w.alloc (.cells #[.bool e1, .int .u64 a, .int .u64 b] 26)).alloc (.cells #[.bool false, .int .u64 0, .int .u64 0] 26)) = W := ⟨_, rfl⟩
  have a0 : W.cell? ⟨w.heap.size, 0, none⟩ = some (.bool e1) := by rw [← hW]; simp [go_sem]
  have a1 : W.cell? ⟨w.heap.size, 1, none⟩ = some (.int .u64 a) := by rw [← hW]; simp [go_sem]
  have a2 : W.cell? ⟨w.heap.size, 2, none⟩ = some (.int .u64 b) := by rw [← hW]; simp [go_sem]
  have r0 : W.cell? ⟨w.heap.size + 1, 0, none⟩ = some (.bool false) := by rw [← hW]; simp [go_sem]
  have r1 : W.cell? ⟨w.heap.size + 1, 1, none⟩ = some (.int .u64 0) := by rw [← hW]; simp [go_sem]
  have r2 : W.cell? ⟨w.heap.size + 1, 2, none⟩ = some (.int .u64 0) := by rw [← hW]; simp [go_sem]
  have bW : Below w.heap.size w W := by rw [← hW]; exact (sp_new (sp_new (Below.refl _ _) _) _)
  have zW : W.heap.size = w.heap.size + 2 := by rw [← hW]; simp
  have fz : ∀ j, W.frozen? ⟨w.heap.size + 1, j, none⟩ = false := by intro j; rw [← hW]; simp [go_sem]
  rw [hW]
  clear hW
  replace zW := Nat.le_of_eq zW.symm
  have hall : ∀ X9, Below W.heap.size W X9 → (X9.cell? ⟨w.heap.size, 0, none⟩ = some (.bool e1) ∧ X9.cell? ⟨w.heap.size, 1, none⟩ = some (.int .u64 a) ∧ X9.cell? ⟨w.heap.size, 2, none⟩ = some (.int .u64 b)) := fun X9 cc => ⟨sO cc a0, sO cc a1, sO cc a2⟩
  have cc : Below W.heap.size W W.drew := (Below.refl _ _).drew
  go_cut [8, 9] from 10 to 22 (fun s u X => ∃ (W3 : World) (b6 : Nat), W3 = X ∧ s = .pointer (some ⟨b6, 0, none⟩) ∧ u = .int .i64 TR ∧ X.heap[b6]? = some (Obj.cells #[.bool pe, .int .u64 pl, .int .u64 ph] 50 (0, 0)) ∧ W.heap.size ≤ b6 ∧ Below W.heap.size W X)
  case first =>
   refine wp_region_held_drew (S := (fun w' => w'.cell? ⟨w.heap.size, 0, none⟩ = some (.bool e1) ∧ w'.cell? ⟨w.heap.size, 1, none⟩ = some (.int .u64 a) ∧ w'.cell? ⟨w.heap.size, 2, none⟩ = some (.int .u64 b))) (by kernel_rfl) (hall _ cc) (fun hH => ?_)
   refine wpAnyH_take (i := 0) (oi := _) (v := .int .i64 t) rfl (by kernel_rfl) (by kernel_rfl) (by kernel_rfl) (fun _ _ _ h => h) (Or.inl ⟨by rfl, fun w' hSw => by obtain ⟨za0, za1, za2⟩ := hSw; go_simp⟩) hH ?_
   simp only [Act.put, gA, gB, gC, gD, gE, gG]
   refine wpAnyH_take (i := 2) (oi := _) (v := .int .i64 f) rfl (by kernel_rfl) (by kernel_rfl) (by kernel_rfl) (fun _ _ _ h => h) (Or.inl ⟨by rfl, fun w' hSw => by obtain ⟨za0, za1, za2⟩ := hSw; go_simp⟩) hH ?_
   simp only [Act.put, gA, gB, gC, gD, gE, gG]
   refine wpAnyH_take (i := 3) (oi := _) (v := .int .i64 t) rfl (by kernel_rfl) (by kernel_rfl) (by kernel_rfl) (fun _ _ _ h => h) (Or.inl ⟨by rfl, fun w' hSw => by obtain ⟨za0, za1, za2⟩ := hSw; go_simp⟩) hH ?_
   simp only [Act.put, gA, gB, gC, gD, gE, gG]
   refine wpAnyH_take (i := 5) (oi := _) (v := .agg #[.bool e1, .int .u64 a, .int .u64 b]) rfl (by kernel_rfl) (by kernel_rfl) (by kernel_rfl) (fun _ _ _ h => h) (Or.inl ⟨by rfl, fun w' hSw => by obtain ⟨za0, za1, za2⟩ := hSw; go_simp⟩) hH ?_
   simp only [Act.put, gA, gB, gC, gD, gE, gG]
   generalize hY : W.drew = Y0 at *
   clear hY
   refine wpAnyH_ready (rs := [1, 13]) (by kernel_rfl) (by simp) (AllReadyH.cons (o := _) rfl (fun K hK => ?_) (AllReadyH.cons (o := _) rfl (fun K hK => ?_) AllReadyH.nil))
   ·skip
    go_simp
    refine (h1 _).mono ?_
    rintro e Y1 ⟨L, rfl, hL, g⟩
    have oL : Below Y1.heap.size Y1 Y1 := Below.refl _ _
    replace cc := sp_call cc g
    clear g
    go_wp2_with fail
    refine hK.out _ _ (hall _ cc) (fun hH => ?_)
    clear hK K
    try simp only [Act.put, gA, gB, gC, gD, gE, gG]
    refine wpAnyH_ready (rs := [4, 13]) (by kernel_rfl) (by simp) (AllReadyH.cons (o := _) rfl (fun K hK => ?_) (AllReadyH.cons (o := _) rfl (fun K hK => ?_) AllReadyH.nil))
    ·skip
     go_simp
     refine (hr _).mono ?_
     rintro e Y2 ⟨rfl, g⟩
     replace cc := sp_call cc g
     replace oL := sp_call oL g
     clear g
     go_wp2_with fail
     refine hK.out _ _ (hall _ cc) (fun hH => ?_)
     clear hK K
     try simp only [Act.put, gA, gB, gC, gD, gE, gG]
     refine wpAnyH_ready (rs := [6, 13]) (by kernel_rfl) (by simp) (AllReadyH.cons (o := _) rfl (fun K hK => ?_) (AllReadyH.cons (o := _) rfl (fun K hK => ?_) AllReadyH.nil))
     ·skip
      go_simp
      refine (ho _ _ _ _).mono ?_
      rintro e Y3 ⟨rfl, g⟩
      replace cc := sp_call cc g
      replace oL := sp_call oL g
      clear g
      go_wp2_with fail
      refine hK.out _ _ (hall _ cc) (fun hH => ?_)
      clear hK K
      try simp only [Act.put, gA, gB, gC, gD, gE, gG]
      refine wpAnyH_ready (rs := [7, 13]) (by kernel_rfl) (by simp) (AllReadyH.cons (o := _) rfl (fun K hK => ?_) (AllReadyH.cons (o := _) rfl (fun K hK => ?_) AllReadyH.nil))
      ·skip
       go_simp
       have zqqs := cc.size
       have qs := World.alloc_heap_new Y3 (Obj.cells #[.bool e1, .int .u64 a, .int .u64 b] 50 (0, 0))
       replace cc := sp_new cc (Obj.cells #[.bool e1, .int .u64 a, .int .u64 b] 50 (0, 0))
       replace oL := sp_new oL (Obj.cells #[.bool e1, .int .u64 a, .int .u64 b] 50 (0, 0))
       generalize hB : Y3.heap.size = Bqs at *
       generalize hY : Y3.alloc (Obj.cells #[.bool e1, .int .u64 a, .int .u64 b] 50 (0, 0)) = Y4 at *
       clear hY hB
       refine hK.out _ _ (hall _ cc) (fun hH => ?_)
       clear hK K
       try simp only [Act.put, gA, gB, gC, gD, gE, gG]
       refine wpAnyH_ready (rs := [8, 13]) (by kernel_rfl) (by simp) (AllReadyH.cons (o := _) rfl (fun K hK => ?_) (AllReadyH.cons (o := _) rfl (fun K hK => ?_) AllReadyH.nil))
       ·skip
        go_simp
        refine (he2 _ _ _ _ _ _).mono ?_
        rintro e Y5 ⟨p, rfl, f0, f2, hp, g⟩
        have srow := tu_row_f g f2 (by obtain ⟨c0, c1, c2, _⟩ := tu_cells3 qs; exact ⟨c0, c1, c2⟩)
        obtain ⟨srow, hbq⟩ := srow
        have cX0 := sp_call cc g
        have cE : Below Y5.heap.size Y5 Y5 := Below.refl _ _
        clear qs
        replace cc := sp_call cc g
        replace oL := sp_call oL g
        clear g
        go_wp2_with fail
        refine hK.out _ _ (hall _ cc) (fun hH => ?_)
        clear hK K
        try simp only [Act.put, gA, gB, gC, gD, gE, gG]
        refine wpAnyH_ready (rs := [9, 13]) (by kernel_rfl) (by simp) (AllReadyH.cons (o := _) rfl (fun K hK => ?_) (AllReadyH.cons (o := _) rfl (fun K hK => ?_) AllReadyH.nil))
        ·skip
         go_simp
         refine (h L _ _ hL _ _ _ oL (enters_of Tryz.func109 (by kernel_rfl) rfl) (fun S W0 hW hSS => tfe_ff (ls := [(e1, a, b)]) f0 f2 srow (by simp) hp hbq eby (fun x X k _ => hby x X k) hok (Below.refl _ _) (sp_call cE hW) (fun k hk => ⟨Nat.le_trans cE.size (hSS k hk).1, (hSS k hk).2⟩))).mono ?_
         rintro e Y6 ⟨rfl, g⟩
         replace cc := sp_call cc g
         replace oL := sp_call oL g
         skip
         clear g
         go_wp2_with fail
         refine hK.out _ _ (hall _ cc) (fun hH => ?_)
         clear hK K
         try simp only [Act.put, gA, gB, gC, gD, gE, gG]
         refine wpAnyH_take (i := 10) (oi := _) (v := .tuple #[.agg #[.bool pe, .int .u64 pl, .int .u64 ph], .int .i64 TR]) rfl (by kernel_rfl) (by kernel_rfl) (by kernel_rfl) (fun _ _ _ h => h) (Or.inl ⟨by rfl, fun w' hSw => by obtain ⟨za0, za1, za2⟩ := hSw; go_simp⟩) hH ?_
         simp only [Act.put, gA, gB, gC, gD, gE, gG]
         refine wpAnyH_take (i := 11) (oi := _) (v := .agg #[.bool pe, .int .u64 pl, .int .u64 ph]) rfl (by kernel_rfl) (by kernel_rfl) (by kernel_rfl) (fun _ _ _ h => h) (Or.inl ⟨by rfl, fun w' hSw => by obtain ⟨za0, za1, za2⟩ := hSw; go_simp⟩) hH ?_
         simp only [Act.put, gA, gB, gC, gD, gE, gG]
         refine wpAnyH_take (i := 12) (oi := _) (v := .int .i64 TR) rfl (by kernel_rfl) (by kernel_rfl) (by kernel_rfl) (fun _ _ _ h => h) (Or.inl ⟨by rfl, fun w' hSw => by obtain ⟨za0, za1, za2⟩ := hSw; go_simp⟩) hH ?_
         simp only [Act.put, gA, gB, gC, gD, gE, gG]
         refine wpAnyH_ready (rs := [13]) (by kernel_rfl) (by simp) (AllReadyH.cons (o := _) rfl (fun K hK => ?_) AllReadyH.nil)
         go_simp
         have zzY6 := cc.size
         have qa := World.alloc_heap_new Y6 (Obj.cells #[.bool false, .int .u64 0, .int .u64 0] 50 (0, 0))
         replace cc := sp_new cc (Obj.cells #[.bool false, .int .u64 0, .int .u64 0] 50 (0, 0))
         generalize hY : Y6.alloc (Obj.cells #[.bool false, .int .u64 0, .int .u64 0] 50 (0, 0)) = Y7 at *
         clear hY
         refine hK.out _ _ (hall _ cc) (fun hH => ?_)
         clear hK K
         try simp only [Act.put, gA, gB, gC, gD, gE, gG]
         refine wpAnyH_ready (rs := [14]) (by kernel_rfl) (by simp) (AllReadyH.cons (o := _) rfl (fun K hK => ?_) AllReadyH.nil)
         obtain ⟨q0, q1, q2, qf⟩ := tu_cells3 qa
         go_simp
         clear q0 q1 q2 qf
         replace qa := tu_set3 qa (.bool pe) (.int .u64 pl) (.int .u64 ph)
         replace cc := sp_set3 (b := Y6.heap.size) cc zzY6 (.bool pe) (.int .u64 pl) (.int .u64 ph)
         generalize hY : (((Y7.setCell ⟨Y6.heap.size, 0, none⟩ (.bool pe)).setCell ⟨Y6.heap.size, 1, none⟩ (.int .u64 pl)).setCell ⟨Y6.heap.size, 2, none⟩ (.int .u64 ph)) = Y8 at *
         clear hY
         refine hK.out _ _ (hall _ cc) (fun hH => ?_)
         clear hK K
         try simp only [Act.put, gA, gB, gC, gD, gE, gG]
         refine wpAnyH_take (i := 15) (oi := _) (v := .int .i64 TR) rfl (by kernel_rfl) (by kernel_rfl) (by kernel_rfl) (fun _ _ _ h => h) (Or.inl ⟨by rfl, fun w' hSw => by obtain ⟨za0, za1, za2⟩ := hSw; go_simp⟩) hH ?_
         simp only [Act.put, gA, gB, gC, gD, gE, gG]
         refine wpAnyH_done (by kernel_rfl) ?_ _
         go_wp2_with fail
         go_meet
         exact ⟨_, _, rfl, rfl, rfl, qa, zzY6, cc⟩
        ·skip
         go_simp
         have zzY5 := cc.size
         have qa := World.alloc_heap_new Y5 (Obj.cells #[.bool false, .int .u64 0, .int .u64 0] 50 (0, 0))
         replace cc := sp_new cc (Obj.cells #[.bool false, .int .u64 0, .int .u64 0] 50 (0, 0))
         replace oL := sp_new oL (Obj.cells #[.bool false, .int .u64 0, .int .u64 0] 50 (0, 0))
         replace cE := sp_new cE (Obj.cells #[.bool false, .int .u64 0, .int .u64 0] 50 (0, 0))
         generalize hY : Y5.alloc (Obj.cells #[.bool false, .int .u64 0, .int .u64 0] 50 (0, 0)) = Y9 at *
         clear hY
         refine hK.out _ _ (hall _ cc) (fun hH => ?_)
         clear hK K
         try simp only [Act.put, gA, gB, gC, gD, gE, gG]
         refine wpAnyH_ready (rs := [9]) (by kernel_rfl) (by simp) (AllReadyH.cons (o := _) rfl (fun K hK => ?_) AllReadyH.nil)
         go_simp
         refine (h L _ _ hL _ _ _ oL (enters_of Tryz.func109 (by kernel_rfl) rfl) (fun S W0 hW hSS => tfe_ff (ls := [(e1, a, b)]) f0 f2 srow (by simp) hp hbq eby (fun x X k _ => hby x X k) hok (Below.refl _ _) (sp_call cE hW) (fun k hk => ⟨Nat.le_trans cE.size (hSS k hk).1, (hSS k hk).2⟩))).mono ?_
         rintro e Y10 ⟨rfl, g⟩
         replace cc := sp_call cc g
         replace qa := tu_carry g qa
         replace oL := sp_call oL g
         skip
         clear g
         go_wp2_with fail
         refine hK.out _ _ (hall _ cc) (fun hH => ?_)
         clear hK K
         try simp only [Act.put, gA, gB, gC, gD, gE, gG]
         refine wpAnyH_take (i := 10) (oi := _) (v := .tuple #[.agg #[.bool pe, .int .u64 pl, .int .u64 ph], .int .i64 TR]) rfl (by kernel_rfl) (by kernel_rfl) (by kernel_rfl) (fun _ _ _ h => h) (Or.inl ⟨by rfl, fun w' hSw => by obtain ⟨za0, za1, za2⟩ := hSw; go_simp⟩) hH ?_
         simp only [Act.put, gA, gB, gC, gD, gE, gG]
         refine wpAnyH_take (i := 11) (oi := _) (v := .agg #[.bool pe, .int .u64 pl, .int .u64 ph]) rfl (by kernel_rfl) (by kernel_rfl) (by kernel_rfl) (fun _ _ _ h => h) (Or.inl ⟨by rfl, fun w' hSw => by obtain ⟨za0, za1, za2⟩ := hSw; go_simp⟩) hH ?_
         simp only [Act.put, gA, gB, gC, gD, gE, gG]
         refine wpAnyH_take (i := 12) (oi := _) (v := .int .i64 TR) rfl (by kernel_rfl) (by kernel_rfl) (by kernel_rfl) (fun _ _ _ h => h) (Or.inl ⟨by rfl, fun w' hSw => by obtain ⟨za0, za1, za2⟩ := hSw; go_simp⟩) hH ?_
         simp only [Act.put, gA, gB, gC, gD, gE, gG]
         refine wpAnyH_ready (rs := [14]) (by kernel_rfl) (by simp) (AllReadyH.cons (o := _) rfl (fun K hK => ?_) AllReadyH.nil)
         obtain ⟨q0, q1, q2, qf⟩ := tu_cells3 qa
         go_simp
         clear q0 q1 q2 qf
         replace qa := tu_set3 qa (.bool pe) (.int .u64 pl) (.int .u64 ph)
         replace cc := sp_set3 (b := Y5.heap.size) cc zzY5 (.bool pe) (.int .u64 pl) (.int .u64 ph)
         generalize hY : (((Y10.setCell ⟨Y5.heap.size, 0, none⟩ (.bool pe)).setCell ⟨Y5.heap.size, 1, none⟩ (.int .u64 pl)).setCell ⟨Y5.heap.size, 2, none⟩ (.int .u64 ph)) = Y11 at *
         clear hY
         refine hK.out _ _ (hall _ cc) (fun hH => ?_)
         clear hK K
         try simp only [Act.put, gA, gB, gC, gD, gE, gG]
         refine wpAnyH_take (i := 15) (oi := _) (v := .int .i64 TR) rfl (by kernel_rfl) (by kernel_rfl) (by kernel_rfl) (fun _ _ _ h => h) (Or.inl ⟨by rfl, fun w' hSw => by obtain ⟨za0, za1, za2⟩ := hSw; go_simp⟩) hH ?_
         simp only [Act.put, gA, gB, gC, gD, gE, gG]
         refine wpAnyH_done (by kernel_rfl) ?_ _
         go_wp2_with fail
         go_meet
         exact ⟨_, _, rfl, rfl, rfl, qa, zzY5, cc⟩
       ·skip
        go_simp
        have zzY4 := cc.size
        replace qs := tu_old qs (Obj.cells #[.bool false, .int .u64 0, .int .u64 0] 50 (0, 0))
        have qa := World.alloc_heap_new Y4 (Obj.cells #[.bool false, .int .u64 0, .int .u64 0] 50 (0, 0))
        replace cc := sp_new cc (Obj.cells #[.bool false, .int .u64 0, .int .u64 0] 50 (0, 0))
        replace oL := sp_new oL (Obj.cells #[.bool false, .int .u64 0, .int .u64 0] 50 (0, 0))
        generalize hY : Y4.alloc (Obj.cells #[.bool false, .int .u64 0, .int .u64 0] 50 (0, 0)) = Y12 at *
        clear hY
        refine hK.out _ _ (hall _ cc) (fun hH => ?_)
        clear hK K
        try simp only [Act.put, gA, gB, gC, gD, gE, gG]
        refine wpAnyH_ready (rs := [8]) (by kernel_rfl) (by simp) (AllReadyH.cons (o := _) rfl (fun K hK => ?_) AllReadyH.nil)
        go_simp
        refine (he2 _ _ _ _ _ _).mono ?_
        rintro e Y13 ⟨p, rfl, f0, f2, hp, g⟩
        have srow := tu_row_f g f2 (by obtain ⟨c0, c1, c2, _⟩ := tu_cells3 qs; exact ⟨c0, c1, c2⟩)
        obtain ⟨srow, hbq⟩ := srow
        have cX0 := sp_call cc g
        have cE : Below Y13.heap.size Y13 Y13 := Below.refl _ _
        clear qs
        replace cc := sp_call cc g
        replace qa := tu_carry g qa
        replace oL := sp_call oL g
        clear g
        go_wp2_with fail
        refine hK.out _ _ (hall _ cc) (fun hH => ?_)
        clear hK K
        try simp only [Act.put, gA, gB, gC, gD, gE, gG]
        refine wpAnyH_ready (rs := [9]) (by kernel_rfl) (by simp) (AllReadyH.cons (o := _) rfl (fun K hK => ?_) AllReadyH.nil)
        go_simp
        refine (h L _ _ hL _ _ _ oL (enters_of Tryz.func109 (by kernel_rfl) rfl) (fun S W0 hW hSS => tfe_ff (ls := [(e1, a, b)]) f0 f2 srow (by simp) hp hbq eby (fun x X k _ => hby x X k) hok (Below.refl _ _) (sp_call cE hW) (fun k hk => ⟨Nat.le_trans cE.size (hSS k hk).1, (hSS k hk).2⟩))).mono ?_
        rintro e Y14 ⟨rfl, g⟩
        replace cc := sp_call cc g
        replace qa := tu_carry g qa
        replace oL := sp_call oL g
        skip
        clear g
        go_wp2_with fail
        refine hK.out _ _ (hall _ cc) (fun hH => ?_)
        clear hK K
        try simp only [Act.put, gA, gB, gC, gD, gE, gG]
        refine wpAnyH_take (i := 10) (oi := _) (v := .tuple #[.agg #[.bool pe, .int .u64 pl, .int .u64 ph], .int .i64 TR]) rfl (by kernel_rfl) (by kernel_rfl) (by kernel_rfl) (fun _ _ _ h => h) (Or.inl ⟨by rfl, fun w' hSw => by obtain ⟨za0, za1, za2⟩ := hSw; go_simp⟩) hH ?_
        simp only [Act.put, gA, gB, gC, gD, gE, gG]
        refine wpAnyH_take (i := 11) (oi := _) (v := .agg #[.bool pe, .int .u64 pl, .int .u64 ph]) rfl (by kernel_rfl) (by kernel_rfl) (by kernel_rfl) (fun _ _ _ h => h) (Or.inl ⟨by rfl, fun w' hSw => by obtain ⟨za0, za1, za2⟩ := hSw; go_simp⟩) hH ?_
        simp only [Act.put, gA, gB, gC, gD, gE, gG]
        refine wpAnyH_take (i := 12) (oi := _) (v := .int .i64 TR) rfl (by kernel_rfl) (by kernel_rfl) (by kernel_rfl) (fun _ _ _ h => h) (Or.inl ⟨by rfl, fun w' hSw => by obtain ⟨za0, za1, za2⟩ := hSw; go_simp⟩) hH ?_
        simp only [Act.put, gA, gB, gC, gD, gE, gG]
        refine wpAnyH_ready (rs := [14]) (by kernel_rfl) (by simp) (AllReadyH.cons (o := _) rfl (fun K hK => ?_) AllReadyH.nil)
        obtain ⟨q0, q1, q2, qf⟩ := tu_cells3 qa
        go_simp
        clear q0 q1 q2 qf
        replace qa := tu_set3 qa (.bool pe) (.int .u64 pl) (.int .u64 ph)
        replace cc := sp_set3 (b := Y4.heap.size) cc zzY4 (.bool pe) (.int .u64 pl) (.int .u64 ph)
        generalize hY : (((Y14.setCell ⟨Y4.heap.size, 0, none⟩ (.bool pe)).setCell ⟨Y4.heap.size, 1, none⟩ (.int .u64 pl)).setCell ⟨Y4.heap.size, 2, none⟩ (.int .u64 ph)) = Y15 at *
        clear hY
        refine hK.out _ _ (hall _ cc) (fun hH => ?_)
        clear hK K
        try simp only [Act.put, gA, gB, gC, gD, gE, gG]
        refine wpAnyH_take (i := 15) (oi := _) (v := .int .i64 TR) rfl (by kernel_rfl) (by kernel_rfl) (by kernel_rfl) (fun _ _ _ h => h) (Or.inl ⟨by rfl, fun w' hSw => by obtain ⟨za0, za1, za2⟩ := hSw; go_simp⟩) hH ?_
        simp only [Act.put, gA, gB, gC, gD, gE, gG]
        refine wpAnyH_done (by kernel_rfl) ?_ _
        go_wp2_with fail
        go_meet
        exact ⟨_, _, rfl, rfl, rfl, qa, zzY4, cc⟩
      ·skip
       go_simp
       have zzY3 := cc.size
       have qa := World.alloc_heap_new Y3 (Obj.cells #[.bool false, .int .u64 0, .int .u64 0] 50 (0, 0))
       replace cc := sp_new cc (Obj.cells #[.bool false, .int .u64 0, .int .u64 0] 50 (0, 0))
       replace oL := sp_new oL (Obj.cells #[.bool false, .int .u64 0, .int .u64 0] 50 (0, 0))
       generalize hY : Y3.alloc (Obj.cells #[.bool false, .int .u64 0, .int .u64 0] 50 (0, 0)) = Y16 at *
       clear hY
       refine hK.out _ _ (hall _ cc) (fun hH => ?_)
       clear hK K
       try simp only [Act.put, gA, gB, gC, gD, gE, gG]
       refine wpAnyH_ready (rs := [7]) (by kernel_rfl) (by simp) (AllReadyH.cons (o := _) rfl (fun K hK => ?_) AllReadyH.nil)
       go_simp
       have zqqs := cc.size
       replace qa := tu_old qa (Obj.cells #[.bool e1, .int .u64 a, .int .u64 b] 50 (0, 0))
       have qs := World.alloc_heap_new Y16 (Obj.cells #[.bool e1, .int .u64 a, .int .u64 b] 50 (0, 0))
       replace cc := sp_new cc (Obj.cells #[.bool e1, .int .u64 a, .int .u64 b] 50 (0, 0))
       replace oL := sp_new oL (Obj.cells #[.bool e1, .int .u64 a, .int .u64 b] 50 (0, 0))
       generalize hB : Y16.heap.size = Bqs at *
       generalize hY : Y16.alloc (Obj.cells #[.bool e1, .int .u64 a, .int .u64 b] 50 (0, 0)) = Y17 at *
       clear hY hB
       refine hK.out _ _ (hall _ cc) (fun hH => ?_)
       clear hK K
       try simp only [Act.put, gA, gB, gC, gD, gE, gG]
       refine wpAnyH_ready (rs := [8]) (by kernel_rfl) (by simp) (AllReadyH.cons (o := _) rfl (fun K hK => ?_) AllReadyH.nil)
       go_simp
       refine (he2 _ _ _ _ _ _).mono ?_
       rintro e Y18 ⟨p, rfl, f0, f2, hp, g⟩
       have srow := tu_row_f g f2 (by obtain ⟨c0, c1, c2, _⟩ := tu_cells3 qs; exact ⟨c0, c1, c2⟩)
       obtain ⟨srow, hbq⟩ := srow
       have cX0 := sp_call cc g
       have cE : Below Y18.heap.size Y18 Y18 := Below.refl _ _
       clear qs
       replace cc := sp_call cc g
       replace qa := tu_carry g qa
       replace oL := sp_call oL g
       clear g
       go_wp2_with fail
       refine hK.out _ _ (hall _ cc) (fun hH => ?_)
       clear hK K
       try simp only [Act.put, gA, gB, gC, gD, gE, gG]
       refine wpAnyH_ready (rs := [9]) (by kernel_rfl) (by simp) (AllReadyH.cons (o := _) rfl (fun K hK => ?_) AllReadyH.nil)
       go_simp
       refine (h L _ _ hL _ _ _ oL (enters_of Tryz.func109 (by kernel_rfl) rfl) (fun S W0 hW hSS => tfe_ff (ls := [(e1, a, b)]) f0 f2 srow (by simp) hp hbq eby (fun x X k _ => hby x X k) hok (Below.refl _ _) (sp_call cE hW) (fun k hk => ⟨Nat.le_trans cE.size (hSS k hk).1, (hSS k hk).2⟩))).mono ?_
       rintro e Y19 ⟨rfl, g⟩
       replace cc := sp_call cc g
       replace qa := tu_carry g qa
       replace oL := sp_call oL g
       skip
       clear g
       go_wp2_with fail
       refine hK.out _ _ (hall _ cc) (fun hH => ?_)
       clear hK K
       try simp only [Act.put, gA, gB, gC, gD, gE, gG]
       refine wpAnyH_take (i := 10) (oi := _) (v := .tuple #[.agg #[.bool pe, .int .u64 pl, .int .u64 ph], .int .i64 TR]) rfl (by kernel_rfl) (by kernel_rfl) (by kernel_rfl) (fun _ _ _ h => h) (Or.inl ⟨by rfl, fun w' hSw => by obtain ⟨za0, za1, za2⟩ := hSw; go_simp⟩) hH ?_
       simp only [Act.put, gA, gB, gC, gD, gE, gG]
       refine wpAnyH_take (i := 11) (oi := _) (v := .agg #[.bool pe, .int .u64 pl, .int .u64 ph]) rfl (by kernel_rfl) (by kernel_rfl) (by kernel_rfl) (fun _ _ _ h => h) (Or.inl ⟨by rfl, fun w' hSw => by obtain ⟨za0, za1, za2⟩ := hSw; go_simp⟩) hH ?_
       simp only [Act.put, gA, gB, gC, gD, gE, gG]
       refine wpAnyH_take (i := 12) (oi := _) (v := .int .i64 TR) rfl (by kernel_rfl) (by kernel_rfl) (by kernel_rfl) (fun _ _ _ h => h) (Or.inl ⟨by rfl, fun w' hSw => by obtain ⟨za0, za1, za2⟩ := hSw; go_simp⟩) hH ?_
       simp only [Act.put, gA, gB, gC, gD, gE, gG]
       refine wpAnyH_ready (rs := [14]) (by kernel_rfl) (by simp) (AllReadyH.cons (o := _) rfl (fun K hK => ?_) AllReadyH.nil)
       obtain ⟨q0, q1, q2, qf⟩ := tu_cells3 qa
       go_simp
       clear q0 q1 q2 qf
       replace qa := tu_set3 qa (.bool pe) (.int .u64 pl) (.int .u64 ph)
       replace cc := sp_set3 (b := Y3.heap.size) cc zzY3 (.bool pe) (.int .u64 pl) (.int .u64 ph)
       generalize hY : (((Y19.setCell ⟨Y3.heap.size, 0, none⟩ (.bool pe)).setCell ⟨Y3.heap.size, 1, none⟩ (.int .u64 pl)).setCell ⟨Y3.heap.size, 2, none⟩ (.int .u64 ph)) = Y20 at *
       clear hY
       refine hK.out _ _ (hall _ cc) (fun hH => ?_)
       clear hK K
       try simp only [Act.put, gA, gB, gC, gD, gE, gG]
       refine wpAnyH_take (i := 15) (oi := _) (v := .int .i64 TR) rfl (by kernel_rfl) (by kernel_rfl) (by kernel_rfl) (fun _ _ _ h => h) (Or.inl ⟨by rfl, fun w' hSw => by obtain ⟨za0, za1, za2⟩ := hSw; go_simp⟩) hH ?_
       simp only [Act.put, gA, gB, gC, gD, gE, gG]
       refine wpAnyH_done (by kernel_rfl) ?_ _
       go_wp2_with fail
       go_meet
       exact ⟨_, _, rfl, rfl, rfl, qa, zzY3, cc⟩
     ·skip
      go_simp
      have zzY2 := cc.size
      have qa := World.alloc_heap_new Y2 (Obj.cells #[.bool false, .int .u64 0, .int .u64 0] 50 (0, 0))
      replace cc := sp_new cc (Obj.cells #[.bool false, .int .u64 0, .int .u64 0] 50 (0, 0))
      replace oL := sp_new oL (Obj.cells #[.bool false, .int .u64 0, .int .u64 0] 50 (0, 0))
      generalize hY : Y2.alloc (Obj.cells #[.bool false, .int .u64 0, .int .u64 0] 50 (0, 0)) = Y21 at *
      clear hY
      refine hK.out _ _ (hall _ cc) (fun hH => ?_)
      clear hK K
      try simp only [Act.put, gA, gB, gC, gD, gE, gG]
      refine wpAnyH_ready (rs := [6]) (by kernel_rfl) (by simp) (AllReadyH.cons (o := _) rfl (fun K hK => ?_) AllReadyH.nil)
      go_simp
      refine (ho _ _ _ _).mono ?_
      rintro e Y22 ⟨rfl, g⟩
      replace cc := sp_call cc g
      replace qa := tu_carry g qa
      replace oL := sp_call oL g
      clear g
      go_wp2_with fail
      refine hK.out _ _ (hall _ cc) (fun hH => ?_)
      clear hK K
      try simp only [Act.put, gA, gB, gC, gD, gE, gG]
      refine wpAnyH_ready (rs := [7]) (by kernel_rfl) (by simp) (AllReadyH.cons (o := _) rfl (fun K hK => ?_) AllReadyH.nil)
      go_simp
      have zqqs := cc.size
      replace qa := tu_old qa (Obj.cells #[.bool e1, .int .u64 a, .int .u64 b] 50 (0, 0))
      have qs := World.alloc_heap_new Y22 (Obj.cells #[.bool e1, .int .u64 a, .int .u64 b] 50 (0, 0))
      replace cc := sp_new cc (Obj.cells #[.bool e1, .int .u64 a, .int .u64 b] 50 (0, 0))
      replace oL := sp_new oL (Obj.cells #[.bool e1, .int .u64 a, .int .u64 b] 50 (0, 0))
      generalize hB : Y22.heap.size = Bqs at *
      generalize hY : Y22.alloc (Obj.cells #[.bool e1, .int .u64 a, .int .u64 b] 50 (0, 0)) = Y23 at *
      clear hY hB
      refine hK.out _ _ (hall _ cc) (fun hH => ?_)
      clear hK K
      try simp only [Act.put, gA, gB, gC, gD, gE, gG]
      refine wpAnyH_ready (rs := [8]) (by kernel_rfl) (by simp) (AllReadyH.cons (o := _) rfl (fun K hK => ?_) AllReadyH.nil)
      go_simp
      refine (he2 _ _ _ _ _ _).mono ?_
      rintro e Y24 ⟨p, rfl, f0, f2, hp, g⟩
      have srow := tu_row_f g f2 (by obtain ⟨c0, c1, c2, _⟩ := tu_cells3 qs; exact ⟨c0, c1, c2⟩)
      obtain ⟨srow, hbq⟩ := srow
      have cX0 := sp_call cc g
      have cE : Below Y24.heap.size Y24 Y24 := Below.refl _ _
      clear qs
      replace cc := sp_call cc g
      replace qa := tu_carry g qa
      replace oL := sp_call oL g
      clear g
      go_wp2_with fail
      refine hK.out _ _ (hall _ cc) (fun hH => ?_)
      clear hK K
      try simp only [Act.put, gA, gB, gC, gD, gE, gG]
      refine wpAnyH_ready (rs := [9]) (by kernel_rfl) (by simp) (AllReadyH.cons (o := _) rfl (fun K hK => ?_) AllReadyH.nil)
      go_simp
      refine (h L _ _ hL _ _ _ oL (enters_of Tryz.func109 (by kernel_rfl) rfl) (fun S W0 hW hSS => tfe_ff (ls := [(e1, a, b)]) f0 f2 srow (by simp) hp hbq eby (fun x X k _ => hby x X k) hok (Below.refl _ _) (sp_call cE hW) (fun k hk => ⟨Nat.le_trans cE.size (hSS k hk).1, (hSS k hk).2⟩))).mono ?_
      rintro e Y25 ⟨rfl, g⟩
      replace cc := sp_call cc g
      replace qa := tu_carry g qa
      replace oL := sp_call oL g
      skip
      clear g
      go_wp2_with fail
      refine hK.out _ _ (hall _ cc) (fun hH => ?_)
      clear hK K
      try simp only [Act.put, gA, gB, gC, gD, gE, gG]
      refine wpAnyH_take (i := 10) (oi := _) (v := .tuple #[.agg #[.bool pe, .int .u64 pl, .int .u64 ph], .int .i64 TR]) rfl (by kernel_rfl) (by kernel_rfl) (by kernel_rfl) (fun _ _ _ h => h) (Or.inl ⟨by rfl, fun w' hSw => by obtain ⟨za0, za1, za2⟩ := hSw; go_simp⟩) hH ?_
      simp only [Act.put, gA, gB, gC, gD, gE, gG]
      refine wpAnyH_take (i := 11) (oi := _) (v := .agg #[.bool pe, .int .u64 pl, .int .u64 ph]) rfl (by kernel_rfl) (by kernel_rfl) (by kernel_rfl) (fun _ _ _ h => h) (Or.inl ⟨by rfl, fun w' hSw => by obtain ⟨za0, za1, za2⟩ := hSw; go_simp⟩) hH ?_
      simp only [Act.put, gA, gB, gC, gD, gE, gG]
      refine wpAnyH_take (i := 12) (oi := _) (v := .int .i64 TR) rfl (by kernel_rfl) (by kernel_rfl) (by kernel_rfl) (fun _ _ _ h => h) (Or.inl ⟨by rfl, fun w' hSw => by obtain ⟨za0, za1, za2⟩ := hSw; go_simp⟩) hH ?_
      simp only [Act.put, gA, gB, gC, gD, gE, gG]
      refine wpAnyH_ready (rs := [14]) (by kernel_rfl) (by simp) (AllReadyH.cons (o := _) rfl (fun K hK => ?_) AllReadyH.nil)
      obtain ⟨q0, q1, q2, qf⟩ := tu_cells3 qa
      go_simp
      clear q0 q1 q2 qf
      replace qa := tu_set3 qa (.bool pe) (.int .u64 pl) (.int .u64 ph)
      replace cc := sp_set3 (b := Y2.heap.size) cc zzY2 (.bool pe) (.int .u64 pl) (.int .u64 ph)
      generalize hY : (((Y25.setCell ⟨Y2.heap.size, 0, none⟩ (.bool pe)).setCell ⟨Y2.heap.size, 1, none⟩ (.int .u64 pl)).setCell ⟨Y2.heap.size, 2, none⟩ (.int .u64 ph)) = Y26 at *
      clear hY
      refine hK.out _ _ (hall _ cc) (fun hH => ?_)
      clear hK K
      try simp only [Act.put, gA, gB, gC, gD, gE, gG]
      refine wpAnyH_take (i := 15) (oi := _) (v := .int .i64 TR) rfl (by kernel_rfl) (by kernel_rfl) (by kernel_rfl) (fun _ _ _ h => h) (Or.inl ⟨by rfl, fun w' hSw => by obtain ⟨za0, za1, za2⟩ := hSw; go_simp⟩) hH ?_
      simp only [Act.put, gA, gB, gC, gD, gE, gG]
      refine wpAnyH_done (by kernel_rfl) ?_ _
      go_wp2_with fail
      go_meet
      exact ⟨_, _, rfl, rfl, rfl, qa, zzY2, cc⟩
    ·skip
     go_simp
     have zzY1 := cc.size
     have qa := World.alloc_heap_new Y1 (Obj.cells #[.bool false, .int .u64 0, .int .u64 0] 50 (0, 0))
     replace cc := sp_new cc (Obj.cells #[.bool false, .int .u64 0, .int .u64 0] 50 (0, 0))
     replace oL := sp_new oL (Obj.cells #[.bool false, .int .u64 0, .int .u64 0] 50 (0, 0))
     generalize hY : Y1.alloc (Obj.cells #[.bool false, .int .u64 0, .int .u64 0] 50 (0, 0)) = Y27 at *
     clear hY
     refine hK.out _ _ (hall _ cc) (fun hH => ?_)
     clear hK K
     try simp only [Act.put, gA, gB, gC, gD, gE, gG]
     refine wpAnyH_ready (rs := [4]) (by kernel_rfl) (by simp) (AllReadyH.cons (o := _) rfl (fun K hK => ?_) AllReadyH.nil)
     go_simp
     refine (hr _).mono ?_
     rintro e Y28 ⟨rfl, g⟩
     replace cc := sp_call cc g
     replace qa := tu_carry g qa
     replace oL := sp_call oL g
     clear g
     go_wp2_with fail
     refine hK.out _ _ (hall _ cc) (fun hH => ?_)
     clear hK K
     try simp only [Act.put, gA, gB, gC, gD, gE, gG]
     refine wpAnyH_ready (rs := [6]) (by kernel_rfl) (by simp) (AllReadyH.cons (o := _) rfl (fun K hK => ?_) AllReadyH.nil)
     go_simp
     refine (ho _ _ _ _).mono ?_
     rintro e Y29 ⟨rfl, g⟩
     replace cc := sp_call cc g
     replace qa := tu_carry g qa
     replace oL := sp_call oL g
     clear g
     go_wp2_with fail
     refine hK.out _ _ (hall _ cc) (fun hH => ?_)
     clear hK K
     try simp only [Act.put, gA, gB, gC, gD, gE, gG]
     refine wpAnyH_ready (rs := [7]) (by kernel_rfl) (by simp) (AllReadyH.cons (o := _) rfl (fun K hK => ?_) AllReadyH.nil)
     go_simp
     have zqqs := cc.size
     replace qa := tu_old qa (Obj.cells #[.bool e1, .int .u64 a, .int .u64 b] 50 (0, 0))
     have qs := World.alloc_heap_new Y29 (Obj.cells #[.bool e1, .int .u64 a, .int .u64 b] 50 (0, 0))
     replace cc := sp_new cc (Obj.cells #[.bool e1, .int .u64 a, .int .u64 b] 50 (0, 0))
     replace oL := sp_new oL (Obj.cells #[.bool e1, .int .u64 a, .int .u64 b] 50 (0, 0))
     generalize hB : Y29.heap.size = Bqs at *
     generalize hY : Y29.alloc (Obj.cells #[.bool e1, .int .u64 a, .int .u64 b] 50 (0, 0)) = Y30 at *
     clear hY hB
     refine hK.out _ _ (hall _ cc) (fun hH => ?_)
     clear hK K
     try simp only [Act.put, gA, gB, gC, gD, gE, gG]
     refine wpAnyH_ready (rs := [8]) (by kernel_rfl) (by simp) (AllReadyH.cons (o := _) rfl (fun K hK => ?_) AllReadyH.nil)
     go_simp
     refine (he2 _ _ _ _ _ _).mono ?_
     rintro e Y31 ⟨p, rfl, f0, f2, hp, g⟩
     have srow := tu_row_f g f2 (by obtain ⟨c0, c1, c2, _⟩ := tu_cells3 qs; exact ⟨c0, c1, c2⟩)
     obtain ⟨srow, hbq⟩ := srow
     have cX0 := sp_call cc g
     have cE : Below Y31.heap.size Y31 Y31 := Below.refl _ _
     clear qs
     replace cc := sp_call cc g
     replace qa := tu_carry g qa
     replace oL := sp_call oL g
     clear g
     go_wp2_with fail
     refine hK.out _ _ (hall _ cc) (fun hH => ?_)
     clear hK K
     try simp only [Act.put, gA, gB, gC, gD, gE, gG]
     refine wpAnyH_ready (rs := [9]) (by kernel_rfl) (by simp) (AllReadyH.cons (o := _) rfl (fun K hK => ?_) AllReadyH.nil)
     go_simp
     refine (h L _ _ hL _ _ _ oL (enters_of Tryz.func109 (by kernel_rfl) rfl) (fun S W0 hW hSS => tfe_ff (ls := [(e1, a, b)]) f0 f2 srow (by simp) hp hbq eby (fun x X k _ => hby x X k) hok (Below.refl _ _) (sp_call cE hW) (fun k hk => ⟨Nat.le_trans cE.size (hSS k hk).1, (hSS k hk).2⟩))).mono ?_
     rintro e Y32 ⟨rfl, g⟩
     replace cc := sp_call cc g
     replace qa := tu_carry g qa
     replace oL := sp_call oL g
     skip
     clear g
     go_wp2_with fail
     refine hK.out _ _ (hall _ cc) (fun hH => ?_)
     clear hK K
     try simp only [Act.put, gA, gB, gC, gD, gE, gG]
     refine wpAnyH_take (i := 10) (oi := _) (v := .tuple #[.agg #[.bool pe, .int .u64 pl, .int .u64 ph], .int .i64 TR]) rfl (by kernel_rfl) (by kernel_rfl) (by kernel_rfl) (fun _ _ _ h => h) (Or.inl ⟨by rfl, fun w' hSw => by obtain ⟨za0, za1, za2⟩ := hSw; go_simp⟩) hH ?_
     simp only [Act.put, gA, gB, gC, gD, gE, gG]
     refine wpAnyH_take (i := 11) (oi := _) (v := .agg #[.bool pe, .int .u64 pl, .int .u64 ph]) rfl (by kernel_rfl) (by kernel_rfl) (by kernel_rfl) (fun _ _ _ h => h) (Or.inl ⟨by rfl, fun w' hSw => by obtain ⟨za0, za1, za2⟩ := hSw; go_simp⟩) hH ?_
     simp only [Act.put, gA, gB, gC, gD, gE, gG]
     refine wpAnyH_take (i := 12) (oi := _) (v := .int .i64 TR) rfl (by kernel_rfl) (by kernel_rfl) (by kernel_rfl) (fun _ _ _ h => h) (Or.inl ⟨by rfl, fun w' hSw => by obtain ⟨za0, za1, za2⟩ := hSw; go_simp⟩) hH ?_
     simp only [Act.put, gA, gB, gC, gD, gE, gG]
     refine wpAnyH_ready (rs := [14]) (by kernel_rfl) (by simp) (AllReadyH.cons (o := _) rfl (fun K hK => ?_) AllReadyH.nil)
     obtain ⟨q0, q1, q2, qf⟩ := tu_cells3 qa
     go_simp
     clear q0 q1 q2 qf
     replace qa := tu_set3 qa (.bool pe) (.int .u64 pl) (.int .u64 ph)
     replace cc := sp_set3 (b := Y1.heap.size) cc zzY1 (.bool pe) (.int .u64 pl) (.int .u64 ph)
     generalize hY : (((Y32.setCell ⟨Y1.heap.size, 0, none⟩ (.bool pe)).setCell ⟨Y1.heap.size, 1, none⟩ (.int .u64 pl)).setCell ⟨Y1.heap.size, 2, none⟩ (.int .u64 ph)) = Y33 at *
     clear hY
     refine hK.out _ _ (hall _ cc) (fun hH => ?_)
     clear hK K
     try simp only [Act.put, gA, gB, gC, gD, gE, gG]
     refine wpAnyH_take (i := 15) (oi := _) (v := .int .i64 TR) rfl (by kernel_rfl) (by kernel_rfl) (by kernel_rfl) (fun _ _ _ h => h) (Or.inl ⟨by rfl, fun w' hSw => by obtain ⟨za0, za1, za2⟩ := hSw; go_simp⟩) hH ?_
     simp only [Act.put, gA, gB, gC, gD, gE, gG]
     refine wpAnyH_done (by kernel_rfl) ?_ _
     go_wp2_with fail
     go_meet
     exact ⟨_, _, rfl, rfl, rfl, qa, zzY1, cc⟩
   ·skip
    go_simp
    have zzY0 := cc.size
    have qa := World.alloc_heap_new Y0 (Obj.cells #[.bool false, .int .u64 0, .int .u64 0] 50 (0, 0))
    replace cc := sp_new cc (Obj.cells #[.bool false, .int .u64 0, .int .u64 0] 50 (0, 0))
    generalize hY : Y0.alloc (Obj.cells #[.bool false, .int .u64 0, .int .u64 0] 50 (0, 0)) = Y34 at *
    clear hY
    refine hK.out _ _ (hall _ cc) (fun hH => ?_)
    clear hK K
    try simp only [Act.put, gA, gB, gC, gD, gE, gG]
    refine wpAnyH_ready (rs := [1]) (by kernel_rfl) (by simp) (AllReadyH.cons (o := _) rfl (fun K hK => ?_) AllReadyH.nil)
    go_simp
    refine (h1 _).mono ?_
    rintro e Y35 ⟨L, rfl, hL, g⟩
    have oL : Below Y35.heap.size Y35 Y35 := Below.refl _ _
    replace cc := sp_call cc g
    replace qa := tu_carry g qa
    clear g
    go_wp2_with fail
    refine hK.out _ _ (hall _ cc) (fun hH => ?_)
    clear hK K
    try simp only [Act.put, gA, gB, gC, gD, gE, gG]
    refine wpAnyH_ready (rs := [4]) (by kernel_rfl) (by simp) (AllReadyH.cons (o := _) rfl (fun K hK => ?_) AllReadyH.nil)
    go_simp
    refine (hr _).mono ?_
    rintro e Y36 ⟨rfl, g⟩
    replace cc := sp_call cc g
    replace qa := tu_carry g qa
    replace oL := sp_call oL g
    clear g
    go_wp2_with fail
    refine hK.out _ _ (hall _ cc) (fun hH => ?_)
    clear hK K
    try simp only [Act.put, gA, gB, gC, gD, gE, gG]
    refine wpAnyH_ready (rs := [6]) (by kernel_rfl) (by simp) (AllReadyH.cons (o := _) rfl (fun K hK => ?_) AllReadyH.nil)
    go_simp
    refine (ho _ _ _ _).mono ?_
    rintro e Y37 ⟨rfl, g⟩
    replace cc := sp_call cc g
    replace qa := tu_carry g qa
    replace oL := sp_call oL g
    clear g
    go_wp2_with fail
    refine hK.out _ _ (hall _ cc) (fun hH => ?_)
    clear hK K
    try simp only [Act.put, gA, gB, gC, gD, gE, gG]
    refine wpAnyH_ready (rs := [7]) (by kernel_rfl) (by simp) (AllReadyH.cons (o := _) rfl (fun K hK => ?_) AllReadyH.nil)
    go_simp
    have zqqs := cc.size
    replace qa := tu_old qa (Obj.cells #[.bool e1, .int .u64 a, .int .u64 b] 50 (0, 0))
    have qs := World.alloc_heap_new Y37 (Obj.cells #[.bool e1, .int .u64 a, .int .u64 b] 50 (0, 0))
    replace cc := sp_new cc (Obj.cells #[.bool e1, .int .u64 a, .int .u64 b] 50 (0, 0))
    replace oL := sp_new oL (Obj.cells #[.bool e1, .int .u64 a, .int .u64 b] 50 (0, 0))
    generalize hB : Y37.heap.size = Bqs at *
    generalize hY : Y37.alloc (Obj.cells #[.bool e1, .int .u64 a, .int .u64 b] 50 (0, 0)) = Y38 at *
    clear hY hB
    refine hK.out _ _ (hall _ cc) (fun hH => ?_)
    clear hK K
    try simp only [Act.put, gA, gB, gC, gD, gE, gG]
    refine wpAnyH_ready (rs := [8]) (by kernel_rfl) (by simp) (AllReadyH.cons (o := _) rfl (fun K hK => ?_) AllReadyH.nil)
    go_simp
    refine (he2 _ _ _ _ _ _).mono ?_
    rintro e Y39 ⟨p, rfl, f0, f2, hp, g⟩
    have srow := tu_row_f g f2 (by obtain ⟨c0, c1, c2, _⟩ := tu_cells3 qs; exact ⟨c0, c1, c2⟩)
    obtain ⟨srow, hbq⟩ := srow
    have cX0 := sp_call cc g
    have cE : Below Y39.heap.size Y39 Y39 := Below.refl _ _
    clear qs
    replace cc := sp_call cc g
    replace qa := tu_carry g qa
    replace oL := sp_call oL g
    clear g
    go_wp2_with fail
    refine hK.out _ _ (hall _ cc) (fun hH => ?_)
    clear hK K
    try simp only [Act.put, gA, gB, gC, gD, gE, gG]
    refine wpAnyH_ready (rs := [9]) (by kernel_rfl) (by simp) (AllReadyH.cons (o := _) rfl (fun K hK => ?_) AllReadyH.nil)
    go_simp
    refine (h L _ _ hL _ _ _ oL (enters_of Tryz.func109 (by kernel_rfl) rfl) (fun S W0 hW hSS => tfe_ff (ls := [(e1, a, b)]) f0 f2 srow (by simp) hp hbq eby (fun x X k _ => hby x X k) hok (Below.refl _ _) (sp_call cE hW) (fun k hk => ⟨Nat.le_trans cE.size (hSS k hk).1, (hSS k hk).2⟩))).mono ?_
    rintro e Y40 ⟨rfl, g⟩
    replace cc := sp_call cc g
    replace qa := tu_carry g qa
    replace oL := sp_call oL g
    skip
    clear g
    go_wp2_with fail
    refine hK.out _ _ (hall _ cc) (fun hH => ?_)
    clear hK K
    try simp only [Act.put, gA, gB, gC, gD, gE, gG]
    refine wpAnyH_take (i := 10) (oi := _) (v := .tuple #[.agg #[.bool pe, .int .u64 pl, .int .u64 ph], .int .i64 TR]) rfl (by kernel_rfl) (by kernel_rfl) (by kernel_rfl) (fun _ _ _ h => h) (Or.inl ⟨by rfl, fun w' hSw => by obtain ⟨za0, za1, za2⟩ := hSw; go_simp⟩) hH ?_
    simp only [Act.put, gA, gB, gC, gD, gE, gG]
    refine wpAnyH_take (i := 11) (oi := _) (v := .agg #[.bool pe, .int .u64 pl, .int .u64 ph]) rfl (by kernel_rfl) (by kernel_rfl) (by kernel_rfl) (fun _ _ _ h => h) (Or.inl ⟨by rfl, fun w' hSw => by obtain ⟨za0, za1, za2⟩ := hSw; go_simp⟩) hH ?_
    simp only [Act.put, gA, gB, gC, gD, gE, gG]
    refine wpAnyH_take (i := 12) (oi := _) (v := .int .i64 TR) rfl (by kernel_rfl) (by kernel_rfl) (by kernel_rfl) (fun _ _ _ h => h) (Or.inl ⟨by rfl, fun w' hSw => by obtain ⟨za0, za1, za2⟩ := hSw; go_simp⟩) hH ?_
    simp only [Act.put, gA, gB, gC, gD, gE, gG]
    refine wpAnyH_ready (rs := [14]) (by kernel_rfl) (by simp) (AllReadyH.cons (o := _) rfl (fun K hK => ?_) AllReadyH.nil)
    obtain ⟨q0, q1, q2, qf⟩ := tu_cells3 qa
    go_simp
    clear q0 q1 q2 qf
    replace qa := tu_set3 qa (.bool pe) (.int .u64 pl) (.int .u64 ph)
    replace cc := sp_set3 (b := Y0.heap.size) cc zzY0 (.bool pe) (.int .u64 pl) (.int .u64 ph)
    generalize hY : (((Y40.setCell ⟨Y0.heap.size, 0, none⟩ (.bool pe)).setCell ⟨Y0.heap.size, 1, none⟩ (.int .u64 pl)).setCell ⟨Y0.heap.size, 2, none⟩ (.int .u64 ph)) = Y41 at *
    clear hY
    refine hK.out _ _ (hall _ cc) (fun hH => ?_)
    clear hK K
    try simp only [Act.put, gA, gB, gC, gD, gE, gG]
    refine wpAnyH_take (i := 15) (oi := _) (v := .int .i64 TR) rfl (by kernel_rfl) (by kernel_rfl) (by kernel_rfl) (fun _ _ _ h => h) (Or.inl ⟨by rfl, fun w' hSw => by obtain ⟨za0, za1, za2⟩ := hSw; go_simp⟩) hH ?_
    simp only [Act.put, gA, gB, gC, gD, gE, gG]
    refine wpAnyH_done (by kernel_rfl) ?_ _
    go_wp2_with fail
    go_meet
    exact ⟨_, _, rfl, rfl, rfl, qa, zzY0, cc⟩
  case rest =>
   obtain ⟨W3, b6, rfl, rfl, rfl, qa, z6, cX⟩ := hcut
   obtain ⟨t0, t1, t2, _⟩ := tu_cells3 qa
   replace r0 := sO cX r0; replace r1 := sO cX r1; replace r2 := sO cX r2
   replace fz : ∀ j, W3.frozen? ⟨w.heap.size + 1, j, none⟩ = false := fun j => (cX.frozen (p := ⟨w.heap.size + 1, j, none⟩) (by simp; omega)).trans (fz j)
   have zX := cX.size
   replace bW := sp_call bW cX
   clear hall cc cX qa h h1 ho hr he2 eby hby hok
   go_wp2_with fail
   refine (h5 _).mono ?_
   rintro e v1 ⟨rfl, g⟩
   replace fz : ∀ j, v1.frozen? ⟨w.heap.size + 1, j, none⟩ = false := fun j => (g.frozen (p := ⟨w.heap.size + 1, j, none⟩) (by simp; omega)).trans (fz j)
   replace r0 := sO g r0; replace r1 := sO g r1; replace r2 := sO g r2
   replace bW := sp_call bW g
   clear g
   go_wp2_with fail
   exact bodyPost_ret (v := .tuple #[.agg #[.bool pe, .int .u64 pl, .int .u64 ph], .int .i64 TR]) (by simp [results, Tryz.results13, go_sem, r0, r1, r2]) rfl ⟨rfl, sp_set3 bW (by omega) _ _ _⟩
set_option maxRecDepth 100000 in
set_option maxHeartbeats 6400000 in
theorem fint_of (f : Int) (e1 : Bool) (a b : Int) (g : Int → Int) (okp : Int → Prop) (pe : Bool) (pl ph TR : Int)
    (hby : ∀ q x X, okp x → X.cell? ⟨q, 0, none⟩ = some (.int .i64 f) → Calls Tryz.prog 59 #[.int .i64 x, .pointer (some ⟨q, 0, none⟩)] X fun e X' => e = .returned (.int .u64 (g x)) ∧ Below X.heap.size X X') (hok : ∀ q ∈ endsL [(e1, a, b)], okp q)
    (h : ∀ L B w0, FlAt f L B w0 → ∀ V gf lb, Below B w0 V → (∀ args w, (callFunc gf args).run Tryz.prog w = .ok (.enter gf args) w) → (∀ S W0, Below V.heap.size V W0 → (∀ k, S k → V.heap.size ≤ k ∧ k < W0.heap.size) → Feeds Tryz.prog gf lb (fun x : Int => #[Value.int .u64 x]) S ((endsL [(e1, a, b)]).map g) W0) → Calls Tryz.prog 45 #[.agg (lvf L), .func (.func gf) #[] lb] V fun e w' => e = .returned (.tuple #[.agg #[.bool pe, .int .u64 pl, .int .u64 ph], .int .i64 TR]) ∧ Below V.heap.size V w') (w : World) :
    Calls Tryz.prog 17 #[.int .i64 f, .agg #[.bool e1, .int .i64 a, .int .i64 b]] w fun e w' => e = .returned (.agg #[.bool pe, .int .u64 pl, .int .u64 ph]) ∧ Below w.heap.size w w' := by
  have h1 := floats_at f
  have h5 := floatRange_any pe pl ph
  have ho := ofInts_any
  have he2 := tex_if
  have eby := enters_of (P := Tryz.prog) Tryz.func59 (by kernel_rfl) rfl
  go_enter Tryz.func17, Tryz.ntmps17
  go_upto_region 2 with fail
  obtain ⟨W, hW⟩ : ∃ W, (((w.alloc (.cells #[.int .i64 f] 23)).alloc (.cells #[.bool e1, .int .i64 a, .int .i64 b] 39)).alloc (.cells #[.bool false, .int .u64 0, .int .u64 0] 26)) = W := ⟨_, rfl⟩
  have f0 : W.cell? ⟨w.heap.size, 0, none⟩ = some (.int .i64 f) := by rw [← hW]; simp [go_sem]
  have a0 : W.cell? ⟨w.heap.size + 1, 0, none⟩ = some (.bool e1) := by rw [← hW]; simp [go_sem]
  have a1 : W.cell? ⟨w.heap.size + 1, 1, none⟩ = some (.int .i64 a) := by rw [← hW]; simp [go_sem]
  have a2 : W.cell? ⟨w.heap.size + 1, 2, none⟩ = some (.int .i64 b) := by rw [← hW]; simp [go_sem]
  have r0 : W.cell? ⟨w.heap.size + 1 + 1, 0, none⟩ = some (.bool false) := by rw [← hW]; simp [go_sem]
  have r1 : W.cell? ⟨w.heap.size + 1 + 1, 1, none⟩ = some (.int .u64 0) := by rw [← hW]; simp [go_sem]
  have r2 : W.cell? ⟨w.heap.size + 1 + 1, 2, none⟩ = some (.int .u64 0) := by rw [← hW]; simp [go_sem]
  have bW : Below w.heap.size w W := by rw [← hW]; exact (sp_new (sp_new (sp_new (Below.refl _ _) _) _) _)
  have zW : W.heap.size = w.heap.size + 3 := by rw [← hW]; simp
  have fz : ∀ j, W.frozen? ⟨w.heap.size + 1 + 1, j, none⟩ = false := by intro j; rw [← hW]; simp [go_sem]
  rw [hW]
  clear hW
  replace zW := Nat.le_of_eq zW.symm
  have hbyW := fun x X (k : okp x) (bX : Below W.heap.size W X) => hby w.heap.size x X k (sO bX f0)
  have hall : ∀ X9, Below W.heap.size W X9 → (X9.cell? ⟨w.heap.size, 0, none⟩ = some (.int .i64 f) ∧ X9.cell? ⟨w.heap.size + 1, 0, none⟩ = some (.bool e1) ∧ X9.cell? ⟨w.heap.size + 1, 1, none⟩ = some (.int .i64 a) ∧ X9.cell? ⟨w.heap.size + 1, 2, none⟩ = some (.int .i64 b)) := fun X9 cc => ⟨sO cc f0, sO cc a0, sO cc a1, sO cc a2⟩
  have cc : Below W.heap.size W W.drew := (Below.refl _ _).drew
  clear hby
  go_cut [6, 7] from 9 to 19 (fun s u X => ∃ (W3 : World) (b6 : Nat), W3 = X ∧ s = .pointer (some ⟨b6, 0, none⟩) ∧ u = .int .i64 TR ∧ X.heap[b6]? = some (Obj.cells #[.bool pe, .int .u64 pl, .int .u64 ph] 50 (0, 0)) ∧ W.heap.size ≤ b6 ∧ Below W.heap.size W X)
  case first =>
   clear f0
   refine wp_region_held_drew (S := (fun w' => w'.cell? ⟨w.heap.size, 0, none⟩ = some (.int .i64 f) ∧ w'.cell? ⟨w.heap.size + 1, 0, none⟩ = some (.bool e1) ∧ w'.cell? ⟨w.heap.size + 1, 1, none⟩ = some (.int .i64 a) ∧ w'.cell? ⟨w.heap.size + 1, 2, none⟩ = some (.int .i64 b))) (by kernel_rfl) (hall _ cc) (fun hH => ?_)
   refine wpAnyH_take (i := 0) (oi := _) (v := .int .i64 f) rfl (by kernel_rfl) (by kernel_rfl) (by kernel_rfl) (fun _ _ _ h => h) (Or.inl ⟨by rfl, fun w' hSw => by obtain ⟨zf0, za0, za1, za2⟩ := hSw; go_simp⟩) hH ?_
   simp only [Act.put, gA, gB, gC, gD, gE, gG]
   refine wpAnyH_take (i := 2) (oi := _) (v := .func (.func 59) #[] #[.pointer (some ⟨w.heap.size, 0, none⟩)]) rfl (by kernel_rfl) (by kernel_rfl) (by kernel_rfl) (fun _ _ _ h => h) (Or.inl ⟨by rfl, fun w' hSw => by obtain ⟨zf0, za0, za1, za2⟩ := hSw; go_simp⟩) hH ?_
   simp only [Act.put, gA, gB, gC, gD, gE, gG]
   refine wpAnyH_take (i := 3) (oi := _) (v := .agg #[.bool e1, .int .i64 a, .int .i64 b]) rfl (by kernel_rfl) (by kernel_rfl) (by kernel_rfl) (fun _ _ _ h => h) (Or.inl ⟨by rfl, fun w' hSw => by obtain ⟨zf0, za0, za1, za2⟩ := hSw; go_simp⟩) hH ?_
   simp only [Act.put, gA, gB, gC, gD, gE, gG]
   generalize hY : W.drew = Y0 at *
   clear hY
   refine wpAnyH_ready (rs := [1, 11]) (by kernel_rfl) (by simp) (AllReadyH.cons (o := _) rfl (fun K hK => ?_) (AllReadyH.cons (o := _) rfl (fun K hK => ?_) AllReadyH.nil))
   ·skip
    go_simp
    refine (h1 _).mono ?_
    rintro e Y1 ⟨L, rfl, hL, g⟩
    have oL : Below Y1.heap.size Y1 Y1 := Below.refl _ _
    replace cc := sp_call cc g
    clear g
    go_wp2_with fail
    refine hK.out _ _ (hall _ cc) (fun hH => ?_)
    clear hK K
    try simp only [Act.put, gA, gB, gC, gD, gE, gG]
    refine wpAnyH_ready (rs := [4, 11]) (by kernel_rfl) (by simp) (AllReadyH.cons (o := _) rfl (fun K hK => ?_) (AllReadyH.cons (o := _) rfl (fun K hK => ?_) AllReadyH.nil))
    ·skip
     go_simp
     refine (ho _ _ _ _).mono ?_
     rintro e Y2 ⟨rfl, g⟩
     replace cc := sp_call cc g
     replace oL := sp_call oL g
     clear g
     go_wp2_with fail
     refine hK.out _ _ (hall _ cc) (fun hH => ?_)
     clear hK K
     try simp only [Act.put, gA, gB, gC, gD, gE, gG]
     refine wpAnyH_ready (rs := [5, 11]) (by kernel_rfl) (by simp) (AllReadyH.cons (o := _) rfl (fun K hK => ?_) (AllReadyH.cons (o := _) rfl (fun K hK => ?_) AllReadyH.nil))
     ·skip
      go_simp
      have zqqs := cc.size
      have qs := World.alloc_heap_new Y2 (Obj.cells #[.bool e1, .int .i64 a, .int .i64 b] 96 (0, 0))
      replace cc := sp_new cc (Obj.cells #[.bool e1, .int .i64 a, .int .i64 b] 96 (0, 0))
      replace oL := sp_new oL (Obj.cells #[.bool e1, .int .i64 a, .int .i64 b] 96 (0, 0))
      generalize hB : Y2.heap.size = Bqs at *
      generalize hY : Y2.alloc (Obj.cells #[.bool e1, .int .i64 a, .int .i64 b] 96 (0, 0)) = Y3 at *
      clear hY hB
      refine hK.out _ _ (hall _ cc) (fun hH => ?_)
      clear hK K
      try simp only [Act.put, gA, gB, gC, gD, gE, gG]
      refine wpAnyH_ready (rs := [6, 11]) (by kernel_rfl) (by simp) (AllReadyH.cons (o := _) rfl (fun K hK => ?_) (AllReadyH.cons (o := _) rfl (fun K hK => ?_) AllReadyH.nil))
      ·skip
       go_simp
       refine (he2 _ _ _ _ _ _).mono ?_
       rintro e Y4 ⟨p, rfl, f0, f2, hp, g⟩
       have srow := tu_row_i g f2 (by obtain ⟨c0, c1, c2, _⟩ := tu_cells3 qs; exact ⟨c0, c1, c2⟩)
       obtain ⟨srow, hbq⟩ := srow
       have cX0 := sp_call cc g
       have cE : Below Y4.heap.size Y4 Y4 := Below.refl _ _
       clear qs
       replace cc := sp_call cc g
       replace oL := sp_call oL g
       clear g
       go_wp2_with fail
       refine hK.out _ _ (hall _ cc) (fun hH => ?_)
       clear hK K
       try simp only [Act.put, gA, gB, gC, gD, gE, gG]
       refine wpAnyH_ready (rs := [7, 11]) (by kernel_rfl) (by simp) (AllReadyH.cons (o := _) rfl (fun K hK => ?_) (AllReadyH.cons (o := _) rfl (fun K hK => ?_) AllReadyH.nil))
       ·skip
        go_simp
        refine (h L _ _ hL _ _ _ oL (enters_of Tryz.func134 (by kernel_rfl) rfl) (fun S W0 hW hSS => tfe_if (ls := [(e1, a, b)]) f0 f2 srow (by simp) hp hbq eby hbyW hok cX0 (sp_call cE hW) (fun k hk => ⟨Nat.le_trans cE.size (hSS k hk).1, (hSS k hk).2⟩))).mono ?_
        rintro e Y5 ⟨rfl, g⟩
        replace cc := sp_call cc g
        replace oL := sp_call oL g
        skip
        clear g
        go_wp2_with fail
        refine hK.out _ _ (hall _ cc) (fun hH => ?_)
        clear hK K
        try simp only [Act.put, gA, gB, gC, gD, gE, gG]
        refine wpAnyH_take (i := 8) (oi := _) (v := .tuple #[.agg #[.bool pe, .int .u64 pl, .int .u64 ph], .int .i64 TR]) rfl (by kernel_rfl) (by kernel_rfl) (by kernel_rfl) (fun _ _ _ h => h) (Or.inl ⟨by rfl, fun w' hSw => by obtain ⟨zf0, za0, za1, za2⟩ := hSw; go_simp⟩) hH ?_
        simp only [Act.put, gA, gB, gC, gD, gE, gG]
        refine wpAnyH_take (i := 9) (oi := _) (v := .agg #[.bool pe, .int .u64 pl, .int .u64 ph]) rfl (by kernel_rfl) (by kernel_rfl) (by kernel_rfl) (fun _ _ _ h => h) (Or.inl ⟨by rfl, fun w' hSw => by obtain ⟨zf0, za0, za1, za2⟩ := hSw; go_simp⟩) hH ?_
        simp only [Act.put, gA, gB, gC, gD, gE, gG]
        refine wpAnyH_take (i := 10) (oi := _) (v := .int .i64 TR) rfl (by kernel_rfl) (by kernel_rfl) (by kernel_rfl) (fun _ _ _ h => h) (Or.inl ⟨by rfl, fun w' hSw => by obtain ⟨zf0, za0, za1, za2⟩ := hSw; go_simp⟩) hH ?_
        simp only [Act.put, gA, gB, gC, gD, gE, gG]
        refine wpAnyH_ready (rs := [11]) (by kernel_rfl) (by simp) (AllReadyH.cons (o := _) rfl (fun K hK => ?_) AllReadyH.nil)
        go_simp
        have zzY5 := cc.size
        have qa := World.alloc_heap_new Y5 (Obj.cells #[.bool false, .int .u64 0, .int .u64 0] 50 (0, 0))
        replace cc := sp_new cc (Obj.cells #[.bool false, .int .u64 0, .int .u64 0] 50 (0, 0))
        generalize hY : Y5.alloc (Obj.cells #[.bool false, .int .u64 0, .int .u64 0] 50 (0, 0)) = Y6 at *
        clear hY
        refine hK.out _ _ (hall _ cc) (fun hH => ?_)
        clear hK K
        try simp only [Act.put, gA, gB, gC, gD, gE, gG]
        refine wpAnyH_ready (rs := [12]) (by kernel_rfl) (by simp) (AllReadyH.cons (o := _) rfl (fun K hK => ?_) AllReadyH.nil)
        obtain ⟨q0, q1, q2, qf⟩ := tu_cells3 qa
        go_simp
        clear q0 q1 q2 qf
        replace qa := tu_set3 qa (.bool pe) (.int .u64 pl) (.int .u64 ph)
        replace cc := sp_set3 (b := Y5.heap.size) cc zzY5 (.bool pe) (.int .u64 pl) (.int .u64 ph)
        generalize hY : (((Y6.setCell ⟨Y5.heap.size, 0, none⟩ (.bool pe)).setCell ⟨Y5.heap.size, 1, none⟩ (.int .u64 pl)).setCell ⟨Y5.heap.size, 2, none⟩ (.int .u64 ph)) = Y7 at *
        clear hY
        refine hK.out _ _ (hall _ cc) (fun hH => ?_)
        clear hK K
        try simp only [Act.put, gA, gB, gC, gD, gE, gG]
        refine wpAnyH_take (i := 13) (oi := _) (v := .int .i64 TR) rfl (by kernel_rfl) (by kernel_rfl) (by kernel_rfl) (fun _ _ _ h => h) (Or.inl ⟨by rfl, fun w' hSw => by obtain ⟨zf0, za0, za1, za2⟩ := hSw; go_simp⟩) hH ?_
        simp only [Act.put, gA, gB, gC, gD, gE, gG]
        refine wpAnyH_done (by kernel_rfl) ?_ _
        go_wp2_with fail
        go_meet
        exact ⟨_, _, rfl, rfl, rfl, qa, zzY5, cc⟩
       ·skip
        go_simp
        have zzY4 := cc.size
        have qa := World.alloc_heap_new Y4 (Obj.cells #[.bool false, .int .u64 0, .int .u64 0] 50 (0, 0))
        replace cc := sp_new cc (Obj.cells #[.bool false, .int .u64 0, .int .u64 0] 50 (0, 0))
        replace oL := sp_new oL (Obj.cells #[.bool false, .int .u64 0, .int .u64 0] 50 (0, 0))
        replace cE := sp_new cE (Obj.cells #[.bool false, .int .u64 0, .int .u64 0] 50 (0, 0))
        generalize hY : Y4.alloc (Obj.cells #[.bool false, .int .u64 0, .int .u64 0] 50 (0, 0)) = Y8 at *
        clear hY
        refine hK.out _ _ (hall _ cc) (fun hH => ?_)
        clear hK K
        try simp only [Act.put, gA, gB, gC, gD, gE, gG]
        refine wpAnyH_ready (rs := [7]) (by kernel_rfl) (by simp) (AllReadyH.cons (o := _) rfl (fun K hK => ?_) AllReadyH.nil)
        go_simp
        refine (h L _ _ hL _ _ _ oL (enters_of Tryz.func134 (by kernel_rfl) rfl) (fun S W0 hW hSS => tfe_if (ls := [(e1, a, b)]) f0 f2 srow (by simp) hp hbq eby hbyW hok cX0 (sp_call cE hW) (fun k hk => ⟨Nat.le_trans cE.size (hSS k hk).1, (hSS k hk).2⟩))).mono ?_
        rintro e Y9 ⟨rfl, g⟩
        replace cc := sp_call cc g
        replace qa := tu_carry g qa
        replace oL := sp_call oL g
        skip
        clear g
        go_wp2_with fail
        refine hK.out _ _ (hall _ cc) (fun hH => ?_)
        clear hK K
        try simp only [Act.put, gA, gB, gC, gD, gE, gG]
        refine wpAnyH_take (i := 8) (oi := _) (v := .tuple #[.agg #[.bool pe, .int .u64 pl, .int .u64 ph], .int .i64 TR]) rfl (by kernel_rfl) (by kernel_rfl) (by kernel_rfl) (fun _ _ _ h => h) (Or.inl ⟨by rfl, fun w' hSw => by obtain ⟨zf0, za0, za1, za2⟩ := hSw; go_simp⟩) hH ?_
        simp only [Act.put, gA, gB, gC, gD, gE, gG]
        refine wpAnyH_take (i := 9) (oi := _) (v := .agg #[.bool pe, .int .u64 pl, .int .u64 ph]) rfl (by kernel_rfl) (by kernel_rfl) (by kernel_rfl) (fun _ _ _ h => h) (Or.inl ⟨by rfl, fun w' hSw => by obtain ⟨zf0, za0, za1, za2⟩ := hSw; go_simp⟩) hH ?_
        simp only [Act.put, gA, gB, gC, gD, gE, gG]
        refine wpAnyH_take (i := 10) (oi := _) (v := .int .i64 TR) rfl (by kernel_rfl) (by kernel_rfl) (by kernel_rfl) (fun _ _ _ h => h) (Or.inl ⟨by rfl, fun w' hSw => by obtain ⟨zf0, za0, za1, za2⟩ := hSw; go_simp⟩) hH ?_
        simp only [Act.put, gA, gB, gC, gD, gE, gG]
        refine wpAnyH_ready (rs := [12]) (by kernel_rfl) (by simp) (AllReadyH.cons (o := _) rfl (fun K hK => ?_) AllReadyH.nil)
        obtain ⟨q0, q1, q2, qf⟩ := tu_cells3 qa
        go_simp
        clear q0 q1 q2 qf
        replace qa := tu_set3 qa (.bool pe) (.int .u64 pl) (.int .u64 ph)
        replace cc := sp_set3 (b := Y4.heap.size) cc zzY4 (.bool pe) (.int .u64 pl) (.int .u64 ph)
        generalize hY : (((Y9.setCell ⟨Y4.heap.size, 0, none⟩ (.bool pe)).setCell ⟨Y4.heap.size, 1, none⟩ (.int .u64 pl)).setCell ⟨Y4.heap.size, 2, none⟩ (.int .u64 ph)) = Y10 at *
        clear hY
        refine hK.out _ _ (hall _ cc) (fun hH => ?_)
        clear hK K
        try simp only [Act.put, gA, gB, gC, gD, gE, gG]
        refine wpAnyH_take (i := 13) (oi := _) (v := .int .i64 TR) rfl (by kernel_rfl) (by kernel_rfl) (by kernel_rfl) (fun _ _ _ h => h) (Or.inl ⟨by rfl, fun w' hSw => by obtain ⟨zf0, za0, za1, za2⟩ := hSw; go_simp⟩) hH ?_
        simp only [Act.put, gA, gB, gC, gD, gE, gG]
        refine wpAnyH_done (by kernel_rfl) ?_ _
        go_wp2_with fail
        go_meet
        exact ⟨_, _, rfl, rfl, rfl, qa, zzY4, cc⟩
      ·skip
       go_simp
       have zzY3 := cc.size
       replace qs := tu_old qs (Obj.cells #[.bool false, .int .u64 0, .int .u64 0] 50 (0, 0))
       have qa := World.alloc_heap_new Y3 (Obj.cells #[.bool false, .int .u64 0, .int .u64 0] 50 (0, 0))
       replace cc := sp_new cc (Obj.cells #[.bool false, .int .u64 0, .int .u64 0] 50 (0, 0))
       replace oL := sp_new oL (Obj.cells #[.bool false, .int .u64 0, .int .u64 0] 50 (0, 0))
       generalize hY : Y3.alloc (Obj.cells #[.bool false, .int .u64 0, .int .u64 0] 50 (0, 0)) = Y11 at *
       clear hY
       refine hK.out _ _ (hall _ cc) (fun hH => ?_)
       clear hK K
       try simp only [Act.put, gA, gB, gC, gD, gE, gG]
       refine wpAnyH_ready (rs := [6]) (by kernel_rfl) (by simp) (AllReadyH.cons (o := _) rfl (fun K hK => ?_) AllReadyH.nil)
       go_simp
       refine (he2 _ _ _ _ _ _).mono ?_
       rintro e Y12 ⟨p, rfl, f0, f2, hp, g⟩
       have srow := tu_row_i g f2 (by obtain ⟨c0, c1, c2, _⟩ := tu_cells3 qs; exact ⟨c0, c1, c2⟩)
       obtain ⟨srow, hbq⟩ := srow
       have cX0 := sp_call cc g
       have cE : Below Y12.heap.size Y12 Y12 := Below.refl _ _
       clear qs
       replace cc := sp_call cc g
       replace qa := tu_carry g qa
       replace oL := sp_call oL g
       clear g
       go_wp2_with fail
       refine hK.out _ _ (hall _ cc) (fun hH => ?_)
       clear hK K
       try simp only [Act.put, gA, gB, gC, gD, gE, gG]
       refine wpAnyH_ready (rs := [7]) (by kernel_rfl) (by simp) (AllReadyH.cons (o := _) rfl (fun K hK => ?_) AllReadyH.nil)
       go_simp
       refine (h L _ _ hL _ _ _ oL (enters_of Tryz.func134 (by kernel_rfl) rfl) (fun S W0 hW hSS => tfe_if (ls := [(e1, a, b)]) f0 f2 srow (by simp) hp hbq eby hbyW hok cX0 (sp_call cE hW) (fun k hk => ⟨Nat.le_trans cE.size (hSS k hk).1, (hSS k hk).2⟩))).mono ?_
       rintro e Y13 ⟨rfl, g⟩
       replace cc := sp_call cc g
       replace qa := tu_carry g qa
       replace oL := sp_call oL g
       skip
       clear g
       go_wp2_with fail
       refine hK.out _ _ (hall _ cc) (fun hH => ?_)
       clear hK K
       try simp only [Act.put, gA, gB, gC, gD, gE, gG]
       refine wpAnyH_take (i := 8) (oi := _) (v := .tuple #[.agg #[.bool pe, .int .u64 pl, .int .u64 ph], .int .i64 TR]) rfl (by kernel_rfl) (by kernel_rfl) (by kernel_rfl) (fun _ _ _ h => h) (Or.inl ⟨by rfl, fun w' hSw => by obtain ⟨zf0, za0, za1, za2⟩ := hSw; go_simp⟩) hH ?_
       simp only [Act.put, gA, gB, gC, gD, gE, gG]
       refine wpAnyH_take (i := 9) (oi := _) (v := .agg #[.bool pe, .int .u64 pl, .int .u64 ph]) rfl (by kernel_rfl) (by kernel_rfl) (by kernel_rfl) (fun _ _ _ h => h) (Or.inl ⟨by rfl, fun w' hSw => by obtain ⟨zf0, za0, za1, za2⟩ := hSw; go_simp⟩) hH ?_
       simp only [Act.put, gA, gB, gC, gD, gE, gG]
       refine wpAnyH_take (i := 10) (oi := _) (v := .int .i64 TR) rfl (by kernel_rfl) (by kernel_rfl) (by kernel_rfl) (fun _ _ _ h => h) (Or.inl ⟨by rfl, fun w' hSw => by obtain ⟨zf0, za0, za1, za2⟩ := hSw; go_simp⟩) hH ?_
       simp only [Act.put, gA, gB, gC, gD, gE, gG]
       refine wpAnyH_ready (rs := [12]) (by kernel_rfl) (by simp) (AllReadyH.cons (o := _) rfl (fun K hK => ?_) AllReadyH.nil)
       obtain ⟨q0, q1, q2, qf⟩ := tu_cells3 qa
       go_simp
       clear q0 q1 q2 qf
       replace qa := tu_set3 qa (.bool pe) (.int .u64 pl) (.int .u64 ph)
       replace cc := sp_set3 (b := Y3.heap.size) cc zzY3 (.bool pe) (.int .u64 pl) (.int .u64 ph)
       generalize hY : (((Y13.setCell ⟨Y3.heap.size, 0, none⟩ (.bool pe)).setCell ⟨Y3.heap.size, 1, none⟩ (.int .u64 pl)).setCell ⟨Y3.heap.size, 2, none⟩ (.int .u64 ph)) = Y14 at *
       clear hY
       refine hK.out _ _ (hall _ cc) (fun hH => ?_)
       clear hK K
       try simp only [Act.put, gA, gB, gC, gD, gE, gG]
       refine wpAnyH_take (i := 13) (oi := _) (v := .int .i64 TR) rfl (by kernel_rfl) (by kernel_rfl) (by kernel_rfl) (fun _ _ _ h => h) (Or.inl ⟨by rfl, fun w' hSw => by obtain ⟨zf0, za0, za1, za2⟩ := hSw; go_simp⟩) hH ?_
       simp only [Act.put, gA, gB, gC, gD, gE, gG]
       refine wpAnyH_done (by kernel_rfl) ?_ _
       go_wp2_with fail
       go_meet
       exact ⟨_, _, rfl, rfl, rfl, qa, zzY3, cc⟩
     ·skip
      go_simp
      have zzY2 := cc.size
      have qa := World.alloc_heap_new Y2 (Obj.cells #[.bool false, .int .u64 0, .int .u64 0] 50 (0, 0))
      replace cc := sp_new cc (Obj.cells #[.bool false, .int .u64 0, .int .u64 0] 50 (0, 0))
      replace oL := sp_new oL (Obj.cells #[.bool false, .int .u64 0, .int .u64 0] 50 (0, 0))
      generalize hY : Y2.alloc (Obj.cells #[.bool false, .int .u64 0, .int .u64 0] 50 (0, 0)) = Y15 at *
      clear hY
      refine hK.out _ _ (hall _ cc) (fun hH => ?_)
      clear hK K
      try simp only [Act.put, gA, gB, gC, gD, gE, gG]
      refine wpAnyH_ready (rs := [5]) (by kernel_rfl) (by simp) (AllReadyH.cons (o := _) rfl (fun K hK => ?_) AllReadyH.nil)
      go_simp
      have zqqs := cc.size
      replace qa := tu_old qa (Obj.cells #[.bool e1, .int .i64 a, .int .i64 b] 96 (0, 0))
      have qs := World.alloc_heap_new Y15 (Obj.cells #[.bool e1, .int .i64 a, .int .i64 b] 96 (0, 0))
      replace cc := sp_new cc (Obj.cells #[.bool e1, .int .i64 a, .int .i64 b] 96 (0, 0))
      replace oL := sp_new oL (Obj.cells #[.bool e1, .int .i64 a, .int .i64 b] 96 (0, 0))
      generalize hB : Y15.heap.size = Bqs at *
      generalize hY : Y15.alloc (Obj.cells #[.bool e1, .int .i64 a, .int .i64 b] 96 (0, 0)) = Y16 at *
      clear hY hB
      refine hK.out _ _ (hall _ cc) (fun hH => ?_)
      clear hK K
      try simp only [Act.put, gA, gB, gC, gD, gE, gG]
      refine wpAnyH_ready (rs := [6]) (by kernel_rfl) (by simp) (AllReadyH.cons (o := _) rfl (fun K hK => ?_) AllReadyH.nil)
      go_simp
      refine (he2 _ _ _ _ _ _).mono ?_
      rintro e Y17 ⟨p, rfl, f0, f2, hp, g⟩
      have srow := tu_row_i g f2 (by obtain ⟨c0, c1, c2, _⟩ := tu_cells3 qs; exact ⟨c0, c1, c2⟩)
      obtain ⟨srow, hbq⟩ := srow
      have cX0 := sp_call cc g
      have cE : Below Y17.heap.size Y17 Y17 := Below.refl _ _
      clear qs
      replace cc := sp_call cc g
      replace qa := tu_carry g qa
      replace oL := sp_call oL g
      clear g
      go_wp2_with fail
      refine hK.out _ _ (hall _ cc) (fun hH => ?_)
      clear hK K
      try simp only [Act.put, gA, gB, gC, gD, gE, gG]
      refine wpAnyH_ready (rs := [7]) (by kernel_rfl) (by simp) (AllReadyH.cons (o := _) rfl (fun K hK => ?_) AllReadyH.nil)
      go_simp
      refine (h L _ _ hL _ _ _ oL (enters_of Tryz.func134 (by kernel_rfl) rfl) (fun S W0 hW hSS => tfe_if (ls := [(e1, a, b)]) f0 f2 srow (by simp) hp hbq eby hbyW hok cX0 (sp_call cE hW) (fun k hk => ⟨Nat.le_trans cE.size (hSS k hk).1, (hSS k hk).2⟩))).mono ?_
      rintro e Y18 ⟨rfl, g⟩
      replace cc := sp_call cc g
      replace qa := tu_carry g qa
      replace oL := sp_call oL g
      skip
      clear g
      go_wp2_with fail
      refine hK.out _ _ (hall _ cc) (fun hH => ?_)
      clear hK K
      try simp only [Act.put, gA, gB, gC, gD, gE, gG]
      refine wpAnyH_take (i := 8) (oi := _) (v := .tuple #[.agg #[.bool pe, .int .u64 pl, .int .u64 ph], .int .i64 TR]) rfl (by kernel_rfl) (by kernel_rfl) (by kernel_rfl) (fun _ _ _ h => h) (Or.inl ⟨by rfl, fun w' hSw => by obtain ⟨zf0, za0, za1, za2⟩ := hSw; go_simp⟩) hH ?_
      simp only [Act.put, gA, gB, gC, gD, gE, gG]
      refine wpAnyH_take (i := 9) (oi := _) (v := .agg #[.bool pe, .int .u64 pl, .int .u64 ph]) rfl (by kernel_rfl) (by kernel_rfl) (by kernel_rfl) (fun _ _ _ h => h) (Or.inl ⟨by rfl, fun w' hSw => by obtain ⟨zf0, za0, za1, za2⟩ := hSw; go_simp⟩) hH ?_
      simp only [Act.put, gA, gB, gC, gD, gE, gG]
      refine wpAnyH_take (i := 10) (oi := _) (v := .int .i64 TR) rfl (by kernel_rfl) (by kernel_rfl) (by kernel_rfl) (fun _ _ _ h => h) (Or.inl ⟨by rfl, fun w' hSw => by obtain ⟨zf0, za0, za1, za2⟩ := hSw; go_simp⟩) hH ?_
      simp only [Act.put, gA, gB, gC, gD, gE, gG]
      refine wpAnyH_ready (rs := [12]) (by kernel_rfl) (by simp) (AllReadyH.cons (o := _) rfl (fun K hK => ?_) AllReadyH.nil)
      obtain ⟨q0, q1, q2, qf⟩ := tu_cells3 qa
      go_simp
      clear q0 q1 q2 qf
      replace qa := tu_set3 qa (.bool pe) (.int .u64 pl) (.int .u64 ph)
      replace cc := sp_set3 (b := Y2.heap.size) cc zzY2 (.bool pe) (.int .u64 pl) (.int .u64 ph)
      generalize hY : (((Y18.setCell ⟨Y2.heap.size, 0, none⟩ (.bool pe)).setCell ⟨Y2.heap.size, 1, none⟩ (.int .u64 pl)).setCell ⟨Y2.heap.size, 2, none⟩ (.int .u64 ph)) = Y19 at *
      clear hY
      refine hK.out _ _ (hall _ cc) (fun hH => ?_)
      clear hK K
      try simp only [Act.put, gA, gB, gC, gD, gE, gG]
      refine wpAnyH_take (i := 13) (oi := _) (v := .int .i64 TR) rfl (by kernel_rfl) (by kernel_rfl) (by kernel_rfl) (fun _ _ _ h => h) (Or.inl ⟨by rfl, fun w' hSw => by obtain ⟨zf0, za0, za1, za2⟩ := hSw; go_simp⟩) hH ?_
      simp only [Act.put, gA, gB, gC, gD, gE, gG]
      refine wpAnyH_done (by kernel_rfl) ?_ _
      go_wp2_with fail
      go_meet
      exact ⟨_, _, rfl, rfl, rfl, qa, zzY2, cc⟩
    ·skip
     go_simp
     have zzY1 := cc.size
     have qa := World.alloc_heap_new Y1 (Obj.cells #[.bool false, .int .u64 0, .int .u64 0] 50 (0, 0))
     replace cc := sp_new cc (Obj.cells #[.bool false, .int .u64 0, .int .u64 0] 50 (0, 0))
     replace oL := sp_new oL (Obj.cells #[.bool false, .int .u64 0, .int .u64 0] 50 (0, 0))
     generalize hY : Y1.alloc (Obj.cells #[.bool false, .int .u64 0, .int .u64 0] 50 (0, 0)) = Y20 at *
     clear hY
     refine hK.out _ _ (hall _ cc) (fun hH => ?_)
     clear hK K
     try simp only [Act.put, gA, gB, gC, gD, gE, gG]
     refine wpAnyH_ready (rs := [4]) (by kernel_rfl) (by simp) (AllReadyH.cons (o := _) rfl (fun K hK => ?_) AllReadyH.nil)
     go_simp
     refine (ho _ _ _ _).mono ?_
     rintro e Y21 ⟨rfl, g⟩
     replace cc := sp_call cc g
     replace qa := tu_carry g qa
     replace oL := sp_call oL g
     clear g
     go_wp2_with fail
     refine hK.out _ _ (hall _ cc) (fun hH => ?_)
     clear hK K
     try simp only [Act.put, gA, gB, gC, gD, gE, gG]
     refine wpAnyH_ready (rs := [5]) (by kernel_rfl) (by simp) (AllReadyH.cons (o := _) rfl (fun K hK => ?_) AllReadyH.nil)
     go_simp
     have zqqs := cc.size
     replace qa := tu_old qa (Obj.cells #[.bool e1, .int .i64 a, .int .i64 b] 96 (0, 0))
     have qs := World.alloc_heap_new Y21 (Obj.cells #[.bool e1, .int .i64 a, .int .i64 b] 96 (0, 0))
     replace cc := sp_new cc (Obj.cells #[.bool e1, .int .i64 a, .int .i64 b] 96 (0, 0))
     replace oL := sp_new oL (Obj.cells #[.bool e1, .int .i64 a, .int .i64 b] 96 (0, 0))
     generalize hB : Y21.heap.size = Bqs at *
     generalize hY : Y21.alloc (Obj.cells #[.bool e1, .int .i64 a, .int .i64 b] 96 (0, 0)) = Y22 at *
     clear hY hB
     refine hK.out _ _ (hall _ cc) (fun hH => ?_)
     clear hK K
     try simp only [Act.put, gA, gB, gC, gD, gE, gG]
     refine wpAnyH_ready (rs := [6]) (by kernel_rfl) (by simp) (AllReadyH.cons (o := _) rfl (fun K hK => ?_) AllReadyH.nil)
     go_simp
     refine (he2 _ _ _ _ _ _).mono ?_
     rintro e Y23 ⟨p, rfl, f0, f2, hp, g⟩
     have srow := tu_row_i g f2 (by obtain ⟨c0, c1, c2, _⟩ := tu_cells3 qs; exact ⟨c0, c1, c2⟩)
     obtain ⟨srow, hbq⟩ := srow
     have cX0 := sp_call cc g
     have cE : Below Y23.heap.size Y23 Y23 := Below.refl _ _
     clear qs
     replace cc := sp_call cc g
     replace qa := tu_carry g qa
     replace oL := sp_call oL g
     clear g
     go_wp2_with fail
     refine hK.out _ _ (hall _ cc) (fun hH => ?_)
     clear hK K
     try simp only [Act.put, gA, gB, gC, gD, gE, gG]
     refine wpAnyH_ready (rs := [7]) (by kernel_rfl) (by simp) (AllReadyH.cons (o := _) rfl (fun K hK => ?_) AllReadyH.nil)
     go_simp
     refine (h L _ _ hL _ _ _ oL (enters_of Tryz.func134 (by kernel_rfl) rfl) (fun S W0 hW hSS => tfe_if (ls := [(e1, a, b)]) f0 f2 srow (by simp) hp hbq eby hbyW hok cX0 (sp_call cE hW) (fun k hk => ⟨Nat.le_trans cE.size (hSS k hk).1, (hSS k hk).2⟩))).mono ?_
     rintro e Y24 ⟨rfl, g⟩
     replace cc := sp_call cc g
     replace qa := tu_carry g qa
     replace oL := sp_call oL g
     skip
     clear g
     go_wp2_with fail
     refine hK.out _ _ (hall _ cc) (fun hH => ?_)
     clear hK K
     try simp only [Act.put, gA, gB, gC, gD, gE, gG]
     refine wpAnyH_take (i := 8) (oi := _) (v := .tuple #[.agg #[.bool pe, .int .u64 pl, .int .u64 ph], .int .i64 TR]) rfl (by kernel_rfl) (by kernel_rfl) (by kernel_rfl) (fun _ _ _ h => h) (Or.inl ⟨by rfl, fun w' hSw => by obtain ⟨zf0, za0, za1, za2⟩ := hSw; go_simp⟩) hH ?_
     simp only [Act.put, gA, gB, gC, gD, gE, gG]
     refine wpAnyH_take (i := 9) (oi := _) (v := .agg #[.bool pe, .int .u64 pl, .int .u64 ph]) rfl (by kernel_rfl) (by kernel_rfl) (by kernel_rfl) (fun _ _ _ h => h) (Or.inl ⟨by rfl, fun w' hSw => by obtain ⟨zf0, za0, za1, za2⟩ := hSw; go_simp⟩) hH ?_
     simp only [Act.put, gA, gB, gC, gD, gE, gG]
     refine wpAnyH_take (i := 10) (oi := _) (v := .int .i64 TR) rfl (by kernel_rfl) (by kernel_rfl) (by kernel_rfl) (fun _ _ _ h => h) (Or.inl ⟨by rfl, fun w' hSw => by obtain ⟨zf0, za0, za1, za2⟩ := hSw; go_simp⟩) hH ?_
     simp only [Act.put, gA, gB, gC, gD, gE, gG]
     refine wpAnyH_ready (rs := [12]) (by kernel_rfl) (by simp) (AllReadyH.cons (o := _) rfl (fun K hK => ?_) AllReadyH.nil)
     obtain ⟨q0, q1, q2, qf⟩ := tu_cells3 qa
     go_simp
     clear q0 q1 q2 qf
     replace qa := tu_set3 qa (.bool pe) (.int .u64 pl) (.int .u64 ph)
     replace cc := sp_set3 (b := Y1.heap.size) cc zzY1 (.bool pe) (.int .u64 pl) (.int .u64 ph)
     generalize hY : (((Y24.setCell ⟨Y1.heap.size, 0, none⟩ (.bool pe)).setCell ⟨Y1.heap.size, 1, none⟩ (.int .u64 pl)).setCell ⟨Y1.heap.size, 2, none⟩ (.int .u64 ph)) = Y25 at *
     clear hY
     refine hK.out _ _ (hall _ cc) (fun hH => ?_)
     clear hK K
     try simp only [Act.put, gA, gB, gC, gD, gE, gG]
     refine wpAnyH_take (i := 13) (oi := _) (v := .int .i64 TR) rfl (by kernel_rfl) (by kernel_rfl) (by kernel_rfl) (fun _ _ _ h => h) (Or.inl ⟨by rfl, fun w' hSw => by obtain ⟨zf0, za0, za1, za2⟩ := hSw; go_simp⟩) hH ?_
     simp only [Act.put, gA, gB, gC, gD, gE, gG]
     refine wpAnyH_done (by kernel_rfl) ?_ _
     go_wp2_with fail
     go_meet
     exact ⟨_, _, rfl, rfl, rfl, qa, zzY1, cc⟩
   ·skip
    go_simp
    have zzY0 := cc.size
    have qa := World.alloc_heap_new Y0 (Obj.cells #[.bool false, .int .u64 0, .int .u64 0] 50 (0, 0))
    replace cc := sp_new cc (Obj.cells #[.bool false, .int .u64 0, .int .u64 0] 50 (0, 0))
    generalize hY : Y0.alloc (Obj.cells #[.bool false, .int .u64 0, .int .u64 0] 50 (0, 0)) = Y26 at *
    clear hY
    refine hK.out _ _ (hall _ cc) (fun hH => ?_)
    clear hK K
    try simp only [Act.put, gA, gB, gC, gD, gE, gG]
    refine wpAnyH_ready (rs := [1]) (by kernel_rfl) (by simp) (AllReadyH.cons (o := _) rfl (fun K hK => ?_) AllReadyH.nil)
    go_simp
    refine (h1 _).mono ?_
    rintro e Y27 ⟨L, rfl, hL, g⟩
    have oL : Below Y27.heap.size Y27 Y27 := Below.refl _ _
    replace cc := sp_call cc g
    replace qa := tu_carry g qa
    clear g
    go_wp2_with fail
    refine hK.out _ _ (hall _ cc) (fun hH => ?_)
    clear hK K
    try simp only [Act.put, gA, gB, gC, gD, gE, gG]
    refine wpAnyH_ready (rs := [4]) (by kernel_rfl) (by simp) (AllReadyH.cons (o := _) rfl (fun K hK => ?_) AllReadyH.nil)
    go_simp
    refine (ho _ _ _ _).mono ?_
    rintro e Y28 ⟨rfl, g⟩
    replace cc := sp_call cc g
    replace qa := tu_carry g qa
    replace oL := sp_call oL g
    clear g
    go_wp2_with fail
    refine hK.out _ _ (hall _ cc) (fun hH => ?_)
    clear hK K
    try simp only [Act.put, gA, gB, gC, gD, gE, gG]
    refine wpAnyH_ready (rs := [5]) (by kernel_rfl) (by simp) (AllReadyH.cons (o := _) rfl (fun K hK => ?_) AllReadyH.nil)
    go_simp
    have zqqs := cc.size
    replace qa := tu_old qa (Obj.cells #[.bool e1, .int .i64 a, .int .i64 b] 96 (0, 0))
    have qs := World.alloc_heap_new Y28 (Obj.cells #[.bool e1, .int .i64 a, .int .i64 b] 96 (0, 0))
    replace cc := sp_new cc (Obj.cells #[.bool e1, .int .i64 a, .int .i64 b] 96 (0, 0))
    replace oL := sp_new oL (Obj.cells #[.bool e1, .int .i64 a, .int .i64 b] 96 (0, 0))
    generalize hB : Y28.heap.size = Bqs at *
    generalize hY : Y28.alloc (Obj.cells #[.bool e1, .int .i64 a, .int .i64 b] 96 (0, 0)) = Y29 at *
    clear hY hB
    refine hK.out _ _ (hall _ cc) (fun hH => ?_)
    clear hK K
    try simp only [Act.put, gA, gB, gC, gD, gE, gG]
    refine wpAnyH_ready (rs := [6]) (by kernel_rfl) (by simp) (AllReadyH.cons (o := _) rfl (fun K hK => ?_) AllReadyH.nil)
    go_simp
    refine (he2 _ _ _ _ _ _).mono ?_
    rintro e Y30 ⟨p, rfl, f0, f2, hp, g⟩
    have srow := tu_row_i g f2 (by obtain ⟨c0, c1, c2, _⟩ := tu_cells3 qs; exact ⟨c0, c1, c2⟩)
    obtain ⟨srow, hbq⟩ := srow
    have cX0 := sp_call cc g
    have cE : Below Y30.heap.size Y30 Y30 := Below.refl _ _
    clear qs
    replace cc := sp_call cc g
    replace qa := tu_carry g qa
    replace oL := sp_call oL g
    clear g
    go_wp2_with fail
    refine hK.out _ _ (hall _ cc) (fun hH => ?_)
    clear hK K
    try simp only [Act.put, gA, gB, gC, gD, gE, gG]
    refine wpAnyH_ready (rs := [7]) (by kernel_rfl) (by simp) (AllReadyH.cons (o := _) rfl (fun K hK => ?_) AllReadyH.nil)
    go_simp
    refine (h L _ _ hL _ _ _ oL (enters_of Tryz.func134 (by kernel_rfl) rfl) (fun S W0 hW hSS => tfe_if (ls := [(e1, a, b)]) f0 f2 srow (by simp) hp hbq eby hbyW hok cX0 (sp_call cE hW) (fun k hk => ⟨Nat.le_trans cE.size (hSS k hk).1, (hSS k hk).2⟩))).mono ?_
    rintro e Y31 ⟨rfl, g⟩
    replace cc := sp_call cc g
    replace qa := tu_carry g qa
    replace oL := sp_call oL g
    skip
    clear g
    go_wp2_with fail
    refine hK.out _ _ (hall _ cc) (fun hH => ?_)
    clear hK K
    try simp only [Act.put, gA, gB, gC, gD, gE, gG]
    refine wpAnyH_take (i := 8) (oi := _) (v := .tuple #[.agg #[.bool pe, .int .u64 pl, .int .u64 ph], .int .i64 TR]) rfl (by kernel_rfl) (by kernel_rfl) (by kernel_rfl) (fun _ _ _ h => h) (Or.inl ⟨by rfl, fun w' hSw => by obtain ⟨zf0, za0, za1, za2⟩ := hSw; go_simp⟩) hH ?_
    simp only [Act.put, gA, gB, gC, gD, gE, gG]
    refine wpAnyH_take (i := 9) (oi := _) (v := .agg #[.bool pe, .int .u64 pl, .int .u64 ph]) rfl (by kernel_rfl) (by kernel_rfl) (by kernel_rfl) (fun _ _ _ h => h) (Or.inl ⟨by rfl, fun w' hSw => by obtain ⟨zf0, za0, za1, za2⟩ := hSw; go_simp⟩) hH ?_
    simp only [Act.put, gA, gB, gC, gD, gE, gG]
    refine wpAnyH_take (i := 10) (oi := _) (v := .int .i64 TR) rfl (by kernel_rfl) (by kernel_rfl) (by kernel_rfl) (fun _ _ _ h => h) (Or.inl ⟨by rfl, fun w' hSw => by obtain ⟨zf0, za0, za1, za2⟩ := hSw; go_simp⟩) hH ?_
    simp only [Act.put, gA, gB, gC, gD, gE, gG]
    refine wpAnyH_ready (rs := [12]) (by kernel_rfl) (by simp) (AllReadyH.cons (o := _) rfl (fun K hK => ?_) AllReadyH.nil)
    obtain ⟨q0, q1, q2, qf⟩ := tu_cells3 qa
    go_simp
    clear q0 q1 q2 qf
    replace qa := tu_set3 qa (.bool pe) (.int .u64 pl) (.int .u64 ph)
    replace cc := sp_set3 (b := Y0.heap.size) cc zzY0 (.bool pe) (.int .u64 pl) (.int .u64 ph)
    generalize hY : (((Y31.setCell ⟨Y0.heap.size, 0, none⟩ (.bool pe)).setCell ⟨Y0.heap.size, 1, none⟩ (.int .u64 pl)).setCell ⟨Y0.heap.size, 2, none⟩ (.int .u64 ph)) = Y32 at *
    clear hY
    refine hK.out _ _ (hall _ cc) (fun hH => ?_)
    clear hK K
    try simp only [Act.put, gA, gB, gC, gD, gE, gG]
    refine wpAnyH_take (i := 13) (oi := _) (v := .int .i64 TR) rfl (by kernel_rfl) (by kernel_rfl) (by kernel_rfl) (fun _ _ _ h => h) (Or.inl ⟨by rfl, fun w' hSw => by obtain ⟨zf0, za0, za1, za2⟩ := hSw; go_simp⟩) hH ?_
    simp only [Act.put, gA, gB, gC, gD, gE, gG]
    refine wpAnyH_done (by kernel_rfl) ?_ _
    go_wp2_with fail
    go_meet
    exact ⟨_, _, rfl, rfl, rfl, qa, zzY0, cc⟩
  case rest =>
   obtain ⟨W3, b6, rfl, rfl, rfl, qa, z6, cX⟩ := hcut
   obtain ⟨t0, t1, t2, _⟩ := tu_cells3 qa
   replace r0 := sO cX r0; replace r1 := sO cX r1; replace r2 := sO cX r2
   replace fz : ∀ j, W3.frozen? ⟨w.heap.size + 1 + 1, j, none⟩ = false := fun j => (cX.frozen (p := ⟨w.heap.size + 1 + 1, j, none⟩) (by simp; omega)).trans (fz j)
   have zX := cX.size
   replace bW := sp_call bW cX
   clear hall cc cX qa h h1 ho he2 eby hbyW hok
   go_wp2_with fail
   refine (h5 _).mono ?_
   rintro e v1 ⟨rfl, g⟩
   replace fz : ∀ j, v1.frozen? ⟨w.heap.size + 1 + 1, j, none⟩ = false := fun j => (g.frozen (p := ⟨w.heap.size + 1 + 1, j, none⟩) (by simp; omega)).trans (fz j)
   replace r0 := sO g r0; replace r1 := sO g r1; replace r2 := sO g r2
   replace bW := sp_call bW g
   clear g
   go_wp2_with fail
   exact bodyPost_ret (v := .agg #[.bool pe, .int .u64 pl, .int .u64 ph]) (by simp [results, Tryz.results17, go_sem, r0, r1, r2]) rfl ⟨rfl, sp_set3 bW (by omega) _ _ _⟩
end Go.Proofs.YtgdknlnpfnifiaaGreat


