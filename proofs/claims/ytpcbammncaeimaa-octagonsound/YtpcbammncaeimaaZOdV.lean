/- The reference's Fork. -/
import Derived.Test.YtpcbammncaeimaaZG9
namespace Go.Proofs.Ytpcbammncaeimaa
open Go.RowKit
set_option linter.unusedVariables false
set_option linter.unusedSimpArgs false
theorem wp_append_at {P : Program} {o : Oper} {a : Act} {w : World} {K : Act → World → Prop} {Q : Exit → Act → World → Prop} (s x : Operand) (t : TypeId) (ho : o.op = .call { callee := .builtin .append, args := #[s, x], argTypes := #[t, t] }) (v1 v2 : Value) (hs : a.eval s = v1) (hx : a.eval x = v2) (v' : Value) (w' : World)
    (hr : (Builtin.append_ #[t, t] o.type #[v1, v2]).run P w = .ok v' w') (h : K (a.put o.dst v') w') : o.wp P a w K Q := by
  unfold Oper.wp execOp
  simp only [ho, resolve, invoke, builtin, Sem.run_bind, Sem.run_pure, Result.andThen_ok, List.map_toArray, List.map_cons, List.map_nil, hs, hx, hr]
  exact h
set_option maxRecDepth 100000 in
theorem in_info : (Try.prog.info? 2).map (fun i => (i.zero, i.size, i.bytes)) = some (some (.int .i64 0), 1, 8) := by kernel_rfl
set_option maxRecDepth 100000 in
set_option maxHeartbeats 6400000 in
theorem rfork (R : Rf) (n : Nat) (hn1 : 1 ≤ n) (hn : n ≤ 4) (e : Bool) (M : Mx) (w : World) (h : RefAt w R n e M) : Calls Try.prog 33 #[.pointer (some ⟨R.b, 0, none⟩)] w fun r w' => (∃ R', r = .returned (.pointer (some ⟨R'.b, 0, none⟩)) ∧ R'.lo = w.heap.size ∧ R'.hi ≤ w'.heap.size ∧ RefAt w' R' n e M) ∧ Below w.heap.size w w' := by
  obtain ⟨m, hm⟩ : ∃ m, 2 * n = m := ⟨_, rfl⟩
  have h8 : m ≤ 8 := by omega
  have hm' : Hid (2 * n = m) := hm
  have hn1' : Hid (1 ≤ n) := hn1
  have ob : Hid (R.b < w.heap.size) := World.block_lt_of_cell? w _ h.hn
  have op : Hid (R.pb < w.heap.size) := World.block_lt_of_cell? w _ (h.hr 0 (by omega))
  obtain ⟨i0, hi, hz0, hz1, hz2⟩ := info_p3 sl_info
  obtain ⟨j0, hj, hw0, hw1, hw2⟩ := info_p3 in_info
  clear hm hn1 hn
  have q0 := h.hn
  have q2 := h.he
  go_enter Try.func33, Try.ntmps33
  go_upto_region 3 with fail
  go_region
  obtain ⟨W, hW⟩ : ∃ W, (w.alloc (.cells #[.int .i64 n, .slice none 0 0, .bool e] 75)).drew = W := ⟨_, rfl⟩
  have hP : RefPart W w.heap.size w.heap.size n 0 e (.slice none 0 0) (fun _ => 0) (fun _ => 0) M := by
    rw [← hW]
    refine RefPart.on (W := w.alloc (.cells #[.int .i64 n, .slice none 0 0, .bool e] 75)) ?_ ⟨rfl, rfl, rfl, Nat.le_refl _, fun _ _ => rfl⟩
    exact ⟨by simp [go_sem], by simp [go_sem], by simp [go_sem], fun k => by simp [go_sem], Nat.le_refl _, World.ownsRow_nil _ _ _ _, by simp [Value.ownBlock], fun a ha => by omega, fun a ha => by omega, fun a c ha => by omega, fun a k ha => by omega, fun a c ha => by omega⟩
  have cc : Below w.heap.size w W := by rw [← hW]; have q := (Below.refl w.heap.size w).alloc (Nat.le_refl _) (.cells #[.int .i64 n, .slice none 0 0, .bool e] 75); exact ⟨q.os, q.tape, q.output, q.size, q.block⟩
  (try rw [hW])
  clear hW q0 q2
  go_wp2_with fail
  go_loopw [4] (fun i wr => ∃ (WR : World) (p : Nat) (v : Value) (rb rc : Nat → Nat), WR = wr ∧ p ≤ m ∧ i = .int .i64 p ∧ RefPart wr w.heap.size w.heap.size n p e v rb rc M ∧ Below w.heap.size w wr) (fun i _ => m - (intOf i).toNat)
  case atStart => exact ⟨_, 0, _, _, _, rfl, by omega, rfl, hP, cc⟩
  case round =>
    clear hP cc
    obtain ⟨WR, p, v, rb, rc, rfl, hp, rfl, hP, cc⟩ := hrel
    have hO := h.on cc
    have os := hO.hs
    rw [hm'.out] at os
    by_cases cp : p < m
    · have cp' : (p : Int) < (m : Int) := by omega
      have or := hO.hr p (by have := hm'.out; omega)
      rw [hm'.out] at or
      have x1 := rix2 R.pb m R.pc p cp
      have hs := hP.hs
      have zY : Hid (w.heap.size < WR.heap.size) := World.block_lt_of_cell? WR _ hP.hn
      have wp1 : IntKind.i64.wrap ((p : Int) + 1) = ((p + 1 : Nat) : Int) := by rw [IntKind.wrap_i64]; omega
      go_upto_region 7 with fail
      replace hP : RefPart WR.drew w.heap.size w.heap.size n p e v rb rc M := hP.on ⟨rfl, rfl, rfl, Nat.le_refl _, fun _ _ => rfl⟩
      replace hO := hO.drew
      replace hs : WR.drew.cell? ⟨w.heap.size, 1, none⟩ = some v := hs
      replace os : WR.drew.cell? ⟨R.b, 1, none⟩ = some (.slice (some ⟨R.pb, 0, none⟩) m R.pc) := os
      replace or : WR.drew.cell? ⟨R.pb, p, none⟩ = some (.slice (some ⟨R.rb p, 0, none⟩) m (R.rc p)) := or
      replace zY : Hid (w.heap.size < WR.drew.heap.size) := zY
      replace cc : Below w.heap.size w WR.drew := ⟨cc.os, cc.tape, cc.output, cc.size, cc.block⟩
      refine wp_region_held_drew (S := fun w' => w'.cell? ⟨R.b, 1, none⟩ = some (.slice (some ⟨R.pb, 0, none⟩) m R.pc) ∧ w'.cell? ⟨R.pb, p, none⟩ = some (.slice (some ⟨R.rb p, 0, none⟩) m (R.rc p))) (by kernel_rfl) ⟨os, or⟩ (fun hH => ?_)
      refine wpAnyH_take (i := 0) (oi := _) (v := .pointer (some ⟨w.heap.size, 0, none⟩)) rfl (by kernel_rfl) (by kernel_rfl) (by kernel_rfl) (fun _ _ _ h => h) (Or.inl ⟨by rfl, fun w' hSw => by obtain ⟨z2, z3⟩ := hSw; go_simp⟩) hH ?_
      simp only [Act.put, gA, gB, gC, gD, gE, gG]
      refine wpAnyH_take (i := 1) (oi := _) (v := .pointer (some ⟨w.heap.size, 0, none⟩)) rfl (by kernel_rfl) (by kernel_rfl) (by kernel_rfl) (fun _ _ _ h => h) (Or.inl ⟨by rfl, fun w' hSw => by obtain ⟨z2, z3⟩ := hSw; go_simp⟩) hH ?_
      simp only [Act.put, gA, gB, gC, gD, gE, gG]
      refine wpAnyH_take (i := 2) (oi := _) (v := .pointer (some ⟨w.heap.size, 0, none⟩)) rfl (by kernel_rfl) (by kernel_rfl) (by kernel_rfl) (fun _ _ _ h => h) (Or.inl ⟨by rfl, fun w' hSw => by obtain ⟨z2, z3⟩ := hSw; go_simp⟩) hH ?_
      simp only [Act.put, gA, gB, gC, gD, gE, gG]
      refine wpAnyH_take (i := 3) (oi := _) (v := .pointer (some ⟨w.heap.size, 1, none⟩)) rfl (by kernel_rfl) (by kernel_rfl) (by kernel_rfl) (fun _ _ _ h => h) (Or.inl ⟨by rfl, fun w' hSw => by obtain ⟨z2, z3⟩ := hSw; go_simp⟩) hH ?_
      simp only [Act.put, gA, gB, gC, gD, gE, gG]
      refine wpAnyH_take (i := 6) (oi := _) (v := .pointer (some ⟨R.b, 0, none⟩)) rfl (by kernel_rfl) (by kernel_rfl) (by kernel_rfl) (fun _ _ _ h => h) (Or.inl ⟨by rfl, fun w' hSw => by obtain ⟨z2, z3⟩ := hSw; go_simp⟩) hH ?_
      simp only [Act.put, gA, gB, gC, gD, gE, gG]
      refine wpAnyH_take (i := 7) (oi := _) (v := .pointer (some ⟨R.b, 0, none⟩)) rfl (by kernel_rfl) (by kernel_rfl) (by kernel_rfl) (fun _ _ _ h => h) (Or.inl ⟨by rfl, fun w' hSw => by obtain ⟨z2, z3⟩ := hSw; go_simp⟩) hH ?_
      simp only [Act.put, gA, gB, gC, gD, gE, gG]
      refine wpAnyH_take (i := 8) (oi := _) (v := .pointer (some ⟨R.b, 1, none⟩)) rfl (by kernel_rfl) (by kernel_rfl) (by kernel_rfl) (fun _ _ _ h => h) (Or.inl ⟨by rfl, fun w' hSw => by obtain ⟨z2, z3⟩ := hSw; go_simp⟩) hH ?_
      simp only [Act.put, gA, gB, gC, gD, gE, gG]
      refine wpAnyH_take (i := 9) (oi := _) (v := .slice (some ⟨R.pb, 0, none⟩) m R.pc) rfl (by kernel_rfl) (by kernel_rfl) (by kernel_rfl) (fun _ _ _ h => h) (Or.inl ⟨by rfl, fun w' hSw => by obtain ⟨z2, z3⟩ := hSw; go_simp⟩) hH ?_
      simp only [Act.put, gA, gB, gC, gD, gE, gG]
      refine wpAnyH_take (i := 10) (oi := _) (v := .int .i64 p) rfl (by kernel_rfl) (by kernel_rfl) (by kernel_rfl) (fun _ _ _ h => h) (Or.inl ⟨by rfl, fun w' hSw => by obtain ⟨z2, z3⟩ := hSw; go_simp⟩) hH ?_
      simp only [Act.put, gA, gB, gC, gD, gE, gG]
      refine wpAnyH_take (i := 11) (oi := _) (v := .pointer (some ⟨R.pb, p, none⟩)) rfl (by kernel_rfl) (by kernel_rfl) (by kernel_rfl) (fun _ _ _ h => h) (Or.inl ⟨by rfl, fun w' hSw => by obtain ⟨z2, z3⟩ := hSw; go_simp⟩) hH ?_
      simp only [Act.put, gA, gB, gC, gD, gE, gG]
      refine wpAnyH_take (i := 12) (oi := _) (v := .slice (some ⟨R.rb p, 0, none⟩) m (R.rc p)) rfl (by kernel_rfl) (by kernel_rfl) (by kernel_rfl) (fun _ _ _ h => h) (Or.inl ⟨by rfl, fun w' hSw => by obtain ⟨z2, z3⟩ := hSw; go_simp⟩) hH ?_
      simp only [Act.put, gA, gB, gC, gD, gE, gG]
      generalize hY0 : WR.drew = Y0 at *
      clear hY0
      have gY : Below Y0.heap.size Y0 Y0 := Below.refl _ _
      refine wpAnyH_ready (rs := [4, 5]) (by kernel_rfl) (by simp) (AllReadyH.cons (o := _) rfl (fun K hK => ?_) (AllReadyH.cons (o := _) rfl (fun K hK => ?_) AllReadyH.nil))
      · skip
        have hsY := sO gY hs
        go_simp
        clear hsY
        refine hK.out _ _ ⟨sO gY os, sO gY or⟩ (fun hH => ?_)
        clear hK K
        try simp only [Act.put, gA, gB, gC, gD, gE, gG]
        refine wpAnyH_ready (rs := [5]) (by kernel_rfl) (by simp) (AllReadyH.cons (o := _) rfl (fun K hK => ?_) AllReadyH.nil)
        go_simp
        obtain ⟨Y1, hY1⟩ : ∃ Y1, Y0.alloc (.cells #[] 2) = Y1 := ⟨_, rfl⟩
        have g1 : Below Y0.heap.size Y0 Y1 := by rw [← hY1]; exact (Below.refl _ _).alloc (Nat.le_refl _) _
        have o1 : Y1.ownsRow Y0.heap.size 2 1 (.slice (some ⟨Y0.heap.size, 0, none⟩) 0 0) 0 [] := by rw [← hY1]; exact World.ownsRow_made Y0 #[] 0 (Nat.le_refl _) (by unfold maxLen; omega) (by simp)
        rw [hY1]
        clear hY1
        replace gY := sp_call gY g1
        clear g1
        refine hK.out _ _ ⟨sO gY os, sO gY or⟩ (fun hH => ?_)
        clear hK K
        try simp only [Act.put, gA, gB, gC, gD, gE, gG]
        refine wpAnyH_ready (rs := [13]) (by kernel_rfl) (by simp) (AllReadyH.cons (o := _) rfl (fun K hK => ?_) AllReadyH.nil)
        have hO1 := hO.on gY
        obtain ⟨v1, Y2, hr, o2, gr2, _, at2⟩ := run_append_own_at (P := Try.prog) Y1 Y0.heap.size 31 31 2 j0 (.int .i64 0) 1 8 Try.underlying31 hj hw0 hw1 hw2 (by rfl) (by omega) _ 0 [] o1 ⟨R.rb p, 0, none⟩ m (R.rc p) ((List.range m).map fun c => .int .i64 (M p c)) (by simp) (fun j u hu => by
          rw [Go.WideShapes.add_plain, Nat.zero_add]
          have hjm : j < m := by have := (List.getElem?_eq_some_iff.1 hu).1; simpa using this
          rw [List.getElem?_eq_getElem (by simpa using hjm)] at hu
          simp at hu
          subst hu
          exact hO1.hm p j (by have := hm'.out; omega) (by have := hm'.out; omega)) (fun u hu => by simp at hu; obtain ⟨_, _, rfl⟩ := hu; rfl) (by unfold maxLen; omega) (by omega) gY.size
        refine Eq.mpr (if_pos (by rfl)) ?_
        refine wp_append_at (.tmp 31) (.tmp 38) 31 rfl _ _ rfl rfl _ _ hr ?_
        rw [Nat.zero_add, List.nil_append] at o2
        obtain ⟨g, cap, rfl⟩ : ∃ g cap, v1 = .slice (some ⟨g, 0, none⟩) m cap := by
          rcases o2.2 with ⟨_, k⟩ | ⟨g, cap, cur, rfl, _⟩
          · omega
          · exact ⟨g, cap, rfl⟩
        have lt2 := o2.lt g rfl
        have row2 : ∀ c, c < m → Y2.cell? ⟨g, c, none⟩ = some (.int .i64 (M p c)) := fun c hc => by
          have := o2.cellAt c (by omega)
          rw [this]
          simp [hc]
        have fz2 : ∀ k, Y2.frozen? ⟨g, k, none⟩ = false := fun k => o2.frozenAt k
        replace gY : Below Y0.heap.size Y0 Y2 := ⟨gr2.os.trans gY.os, gr2.tape.trans gY.tape, gr2.output.trans gY.output, Nat.le_trans gY.size gr2.size, fun k hk => (gr2.block k (Nat.lt_of_lt_of_le hk gY.size) (by show some k ≠ some Y0.heap.size; intro e; have := Option.some.inj e; omega)).trans (gY.block k hk)⟩
        clear hr o1 o2 at2 gr2 hO1
        refine hK.out _ _ ⟨sO gY os, sO gY or⟩ (fun hH => ?_)
        clear hK K
        try simp only [Act.put, gA, gB, gC, gD, gE, gG]
        refine wpAnyH_ready (rs := [14]) (by kernel_rfl) (by simp) (AllReadyH.cons (o := _) rfl (fun K hK => ?_) AllReadyH.nil)
        go_simp
        obtain ⟨Y3, hY3⟩ : ∃ Y3, Y2.alloc (.cells #[.slice (some ⟨g, 0, none⟩) m cap] 31) = Y3 := ⟨_, rfl⟩
        have g3 : Below Y2.heap.size Y2 Y3 := by rw [← hY3]; exact (Below.refl _ _).alloc (Nat.le_refl _) _
        have hc1 : ∀ j u, [Value.slice (some ⟨g, 0, none⟩) m cap][j]? = some u → Y3.cell? ((⟨Y2.heap.size, 0, none⟩ : Addr).add j) = some u := by rw [← hY3]; exact cell_one_new _ _ _
        rw [hY3]
        clear hY3
        have row3 : ∀ c, c < m → Y3.cell? ⟨g, c, none⟩ = some (.int .i64 (M p c)) := fun c hc => by rw [g3.cell (by exact lt2.2)]; exact row2 c hc
        have fz3 : ∀ k, Y3.frozen? ⟨g, k, none⟩ = false := fun k => by rw [g3.frozen (by exact lt2.2)]; exact fz2 k
        have lt3 : Y0.heap.size ≤ g ∧ g < Y3.heap.size := ⟨lt2.1, Nat.lt_of_lt_of_le lt2.2 g3.size⟩
        replace gY := sp_call gY g3
        clear g3 row2 fz2 lt2
        refine hK.out _ _ ⟨sO gY os, sO gY or⟩ (fun hH => ?_)
        clear hK K
        try simp only [Act.put, gA, gB, gC, gD, gE, gG]
        refine wpAnyH_ready (rs := [15]) (by kernel_rfl) (by simp) (AllReadyH.cons (o := _) rfl (fun K hK => ?_) AllReadyH.nil)
        have hP3 := hP.on gY
        obtain ⟨v4, Y4, hr, ow, gr, _, at_⟩ := run_append_own_at (P := Try.prog) Y3 w.heap.size 73 73 31 i0 (.slice none 0 0) 1 24 Try.underlying73 hi hz0 hz1 hz2 (by rfl) (by omega) v p _ hP3.ow ⟨Y2.heap.size, 0, none⟩ 1 1 [.slice (some ⟨g, 0, none⟩) m cap] (by simp) hc1 (fun u hu => by simp at hu; subst hu; rfl) (by unfold maxLen; omega) (by omega) (by have := gY.size; have := zY.out; omega)
        refine Eq.mpr (if_pos (by rfl)) ?_
        refine wp_append_at (.tmp 30) (.tmp 40) 73 rfl _ _ rfl rfl _ _ hr ?_
        have hq2 : m = 2 * n := hm'.out.symm
        have own := hP.ow.lt
        have zg := gY.size
        have hA := hP3.add g cap ⟨by have := zY.out; omega, by have := zY.out; omega, lt3.2⟩ (fun a ha => by have := (hP.rr a ha).2.2; omega) (fun k => by have := (own _ k).2; omega) (fun c hc => row3 c (by omega)) fz3 (by rw [← hq2]; rw [← hq2] at ow; exact ow) gr at_
        have nb : some w.heap.size ≠ v.ownBlock := fun k => hP.vb k.symm
        have cs := gr.cell hP3.hs nb
        have cf : Y4.frozen? ⟨w.heap.size, 1, none⟩ = false := (World.frozen?_of_block (gr.block w.heap.size (by have := zY.out; omega) nb)).trans (hP3.fe 1)
        have c1 : Below w.heap.size w Y3 := cc.trans (gY.mono (by have := zY.out; omega))
        have c2 : Below w.heap.size w Y4 := ⟨gr.os.trans c1.os, gr.tape.trans c1.tape, gr.output.trans c1.output, Nat.le_trans c1.size gr.size, fun k hk => (gr.block k (Nat.lt_of_lt_of_le hk c1.size) (fun e => by have := (own k e.symm).1; omega)).trans (c1.block k hk)⟩
        have cc2 : Below w.heap.size w (Y4.setCell ⟨w.heap.size, 1, none⟩ v4) := c2.setCell (Nat.le_refl _) _
        obtain ⟨g4, cap4, rfl⟩ : ∃ g cap, v4 = .slice (some ⟨g, 0, none⟩) (p + 1) cap := by
          rcases ow.2 with ⟨_, k⟩ | ⟨g, cap, cur, rfl, _⟩
          · omega
          · exact ⟨g, cap, rfl⟩
        have os4 : Y4.cell? ⟨R.b, 1, none⟩ = some (.slice (some ⟨R.pb, 0, none⟩) m R.pc) := gr.cell (sO gY os) (fun e => by have k : w.heap.size ≤ R.b := (own _ e.symm).1; have := ob.out; omega)
        have or4 : Y4.cell? ⟨R.pb, p, none⟩ = some (.slice (some ⟨R.rb p, 0, none⟩) m (R.rc p)) := gr.cell (sO gY or) (fun e => by have k : w.heap.size ≤ R.pb := (own _ e.symm).1; have := op.out; omega)
        have os5 : (Y4.setCell ⟨w.heap.size, 1, none⟩ (.slice (some ⟨g4, 0, none⟩) (p + 1) cap4)).cell? ⟨R.b, 1, none⟩ = some (.slice (some ⟨R.pb, 0, none⟩) m R.pc) := by
          rw [World.cell?_setCell_other _ _ _ _ (by have := ob.out; first | (simp; done) | (simp; omega))]
          exact os4
        have or5 : (Y4.setCell ⟨w.heap.size, 1, none⟩ (.slice (some ⟨g4, 0, none⟩) (p + 1) cap4)).cell? ⟨R.pb, p, none⟩ = some (.slice (some ⟨R.rb p, 0, none⟩) m (R.rc p)) := by
          rw [World.cell?_setCell_other _ _ _ _ (by have := op.out; first | (simp; done) | (simp; omega))]
          exact or4
        clear hr ow gr at_ hP3 hc1 row3 fz3 hP own c1 c2 gY nb zg lt3 hO
        refine hK.out _ _ ⟨os4, or4⟩ (fun hH => ?_)
        clear hK K
        try simp only [Act.put, gA, gB, gC, gD, gE, gG]
        refine wpAnyH_take (i := 16) (oi := _) (v := .pointer (some ⟨w.heap.size, 0, none⟩)) rfl (by kernel_rfl) (by kernel_rfl) (by kernel_rfl) (fun _ _ _ h => h) (Or.inl ⟨by rfl, fun w' hSw => by obtain ⟨z2, z3⟩ := hSw; go_simp⟩) hH ?_
        simp only [Act.put, gA, gB, gC, gD, gE, gG]
        refine wpAnyH_take (i := 17) (oi := _) (v := .pointer (some ⟨w.heap.size, 1, none⟩)) rfl (by kernel_rfl) (by kernel_rfl) (by kernel_rfl) (fun _ _ _ h => h) (Or.inl ⟨by rfl, fun w' hSw => by obtain ⟨z2, z3⟩ := hSw; go_simp⟩) hH ?_
        simp only [Act.put, gA, gB, gC, gD, gE, gG]
        refine wpAnyH_ready (rs := [18]) (by kernel_rfl) (by simp) (AllReadyH.cons (o := _) rfl (fun K hK => ?_) AllReadyH.nil)
        go_simp
        refine hK.out _ _ ⟨os5, or5⟩ (fun hH => ?_)
        clear hK K
        try simp only [Act.put, gA, gB, gC, gD, gE, gG]
        refine wpAnyH_done (by kernel_rfl) ?_ _
        clear cs cf os4 or4 os5 or5 hH
        go_wp2_with fail
        go_roundw
        case rel => exact ⟨_, p + 1, _, _, _, rfl, by omega, by first | rfl | go_num, hA, cc2⟩
        case measure => simp [intOf]; omega
      · skip
        go_simp
        obtain ⟨Y1, hY1⟩ : ∃ Y1, Y0.alloc (.cells #[] 2) = Y1 := ⟨_, rfl⟩
        have g1 : Below Y0.heap.size Y0 Y1 := by rw [← hY1]; exact (Below.refl _ _).alloc (Nat.le_refl _) _
        have o1 : Y1.ownsRow Y0.heap.size 2 1 (.slice (some ⟨Y0.heap.size, 0, none⟩) 0 0) 0 [] := by rw [← hY1]; exact World.ownsRow_made Y0 #[] 0 (Nat.le_refl _) (by unfold maxLen; omega) (by simp)
        rw [hY1]
        clear hY1
        replace gY := sp_call gY g1
        clear g1
        refine hK.out _ _ ⟨sO gY os, sO gY or⟩ (fun hH => ?_)
        clear hK K
        try simp only [Act.put, gA, gB, gC, gD, gE, gG]
        refine wpAnyH_ready (rs := [4, 13]) (by kernel_rfl) (by simp) (AllReadyH.cons (o := _) rfl (fun K hK => ?_) (AllReadyH.cons (o := _) rfl (fun K hK => ?_) AllReadyH.nil))
        · skip
          have hsY := sO gY hs
          go_simp
          clear hsY
          refine hK.out _ _ ⟨sO gY os, sO gY or⟩ (fun hH => ?_)
          clear hK K
          try simp only [Act.put, gA, gB, gC, gD, gE, gG]
          refine wpAnyH_ready (rs := [13]) (by kernel_rfl) (by simp) (AllReadyH.cons (o := _) rfl (fun K hK => ?_) AllReadyH.nil)
          have hO1 := hO.on gY
          obtain ⟨v1, Y2, hr, o2, gr2, _, at2⟩ := run_append_own_at (P := Try.prog) Y1 Y0.heap.size 31 31 2 j0 (.int .i64 0) 1 8 Try.underlying31 hj hw0 hw1 hw2 (by rfl) (by omega) _ 0 [] o1 ⟨R.rb p, 0, none⟩ m (R.rc p) ((List.range m).map fun c => .int .i64 (M p c)) (by simp) (fun j u hu => by
            rw [Go.WideShapes.add_plain, Nat.zero_add]
            have hjm : j < m := by have := (List.getElem?_eq_some_iff.1 hu).1; simpa using this
            rw [List.getElem?_eq_getElem (by simpa using hjm)] at hu
            simp at hu
            subst hu
            exact hO1.hm p j (by have := hm'.out; omega) (by have := hm'.out; omega)) (fun u hu => by simp at hu; obtain ⟨_, _, rfl⟩ := hu; rfl) (by unfold maxLen; omega) (by omega) gY.size
          refine Eq.mpr (if_pos (by rfl)) ?_
          refine wp_append_at (.tmp 31) (.tmp 38) 31 rfl _ _ rfl rfl _ _ hr ?_
          rw [Nat.zero_add, List.nil_append] at o2
          obtain ⟨g, cap, rfl⟩ : ∃ g cap, v1 = .slice (some ⟨g, 0, none⟩) m cap := by
            rcases o2.2 with ⟨_, k⟩ | ⟨g, cap, cur, rfl, _⟩
            · omega
            · exact ⟨g, cap, rfl⟩
          have lt2 := o2.lt g rfl
          have row2 : ∀ c, c < m → Y2.cell? ⟨g, c, none⟩ = some (.int .i64 (M p c)) := fun c hc => by
            have := o2.cellAt c (by omega)
            rw [this]
            simp [hc]
          have fz2 : ∀ k, Y2.frozen? ⟨g, k, none⟩ = false := fun k => o2.frozenAt k
          replace gY : Below Y0.heap.size Y0 Y2 := ⟨gr2.os.trans gY.os, gr2.tape.trans gY.tape, gr2.output.trans gY.output, Nat.le_trans gY.size gr2.size, fun k hk => (gr2.block k (Nat.lt_of_lt_of_le hk gY.size) (by show some k ≠ some Y0.heap.size; intro e; have := Option.some.inj e; omega)).trans (gY.block k hk)⟩
          clear hr o1 o2 at2 gr2 hO1
          refine hK.out _ _ ⟨sO gY os, sO gY or⟩ (fun hH => ?_)
          clear hK K
          try simp only [Act.put, gA, gB, gC, gD, gE, gG]
          refine wpAnyH_ready (rs := [14]) (by kernel_rfl) (by simp) (AllReadyH.cons (o := _) rfl (fun K hK => ?_) AllReadyH.nil)
          go_simp
          obtain ⟨Y3, hY3⟩ : ∃ Y3, Y2.alloc (.cells #[.slice (some ⟨g, 0, none⟩) m cap] 31) = Y3 := ⟨_, rfl⟩
          have g3 : Below Y2.heap.size Y2 Y3 := by rw [← hY3]; exact (Below.refl _ _).alloc (Nat.le_refl _) _
          have hc1 : ∀ j u, [Value.slice (some ⟨g, 0, none⟩) m cap][j]? = some u → Y3.cell? ((⟨Y2.heap.size, 0, none⟩ : Addr).add j) = some u := by rw [← hY3]; exact cell_one_new _ _ _
          rw [hY3]
          clear hY3
          have row3 : ∀ c, c < m → Y3.cell? ⟨g, c, none⟩ = some (.int .i64 (M p c)) := fun c hc => by rw [g3.cell (by exact lt2.2)]; exact row2 c hc
          have fz3 : ∀ k, Y3.frozen? ⟨g, k, none⟩ = false := fun k => by rw [g3.frozen (by exact lt2.2)]; exact fz2 k
          have lt3 : Y0.heap.size ≤ g ∧ g < Y3.heap.size := ⟨lt2.1, Nat.lt_of_lt_of_le lt2.2 g3.size⟩
          replace gY := sp_call gY g3
          clear g3 row2 fz2 lt2
          refine hK.out _ _ ⟨sO gY os, sO gY or⟩ (fun hH => ?_)
          clear hK K
          try simp only [Act.put, gA, gB, gC, gD, gE, gG]
          refine wpAnyH_ready (rs := [15]) (by kernel_rfl) (by simp) (AllReadyH.cons (o := _) rfl (fun K hK => ?_) AllReadyH.nil)
          have hP3 := hP.on gY
          obtain ⟨v4, Y4, hr, ow, gr, _, at_⟩ := run_append_own_at (P := Try.prog) Y3 w.heap.size 73 73 31 i0 (.slice none 0 0) 1 24 Try.underlying73 hi hz0 hz1 hz2 (by rfl) (by omega) v p _ hP3.ow ⟨Y2.heap.size, 0, none⟩ 1 1 [.slice (some ⟨g, 0, none⟩) m cap] (by simp) hc1 (fun u hu => by simp at hu; subst hu; rfl) (by unfold maxLen; omega) (by omega) (by have := gY.size; have := zY.out; omega)
          refine Eq.mpr (if_pos (by rfl)) ?_
          refine wp_append_at (.tmp 30) (.tmp 40) 73 rfl _ _ rfl rfl _ _ hr ?_
          have hq2 : m = 2 * n := hm'.out.symm
          have own := hP.ow.lt
          have zg := gY.size
          have hA := hP3.add g cap ⟨by have := zY.out; omega, by have := zY.out; omega, lt3.2⟩ (fun a ha => by have := (hP.rr a ha).2.2; omega) (fun k => by have := (own _ k).2; omega) (fun c hc => row3 c (by omega)) fz3 (by rw [← hq2]; rw [← hq2] at ow; exact ow) gr at_
          have nb : some w.heap.size ≠ v.ownBlock := fun k => hP.vb k.symm
          have cs := gr.cell hP3.hs nb
          have cf : Y4.frozen? ⟨w.heap.size, 1, none⟩ = false := (World.frozen?_of_block (gr.block w.heap.size (by have := zY.out; omega) nb)).trans (hP3.fe 1)
          have c1 : Below w.heap.size w Y3 := cc.trans (gY.mono (by have := zY.out; omega))
          have c2 : Below w.heap.size w Y4 := ⟨gr.os.trans c1.os, gr.tape.trans c1.tape, gr.output.trans c1.output, Nat.le_trans c1.size gr.size, fun k hk => (gr.block k (Nat.lt_of_lt_of_le hk c1.size) (fun e => by have := (own k e.symm).1; omega)).trans (c1.block k hk)⟩
          have cc2 : Below w.heap.size w (Y4.setCell ⟨w.heap.size, 1, none⟩ v4) := c2.setCell (Nat.le_refl _) _
          obtain ⟨g4, cap4, rfl⟩ : ∃ g cap, v4 = .slice (some ⟨g, 0, none⟩) (p + 1) cap := by
            rcases ow.2 with ⟨_, k⟩ | ⟨g, cap, cur, rfl, _⟩
            · omega
            · exact ⟨g, cap, rfl⟩
          have os4 : Y4.cell? ⟨R.b, 1, none⟩ = some (.slice (some ⟨R.pb, 0, none⟩) m R.pc) := gr.cell (sO gY os) (fun e => by have k : w.heap.size ≤ R.b := (own _ e.symm).1; have := ob.out; omega)
          have or4 : Y4.cell? ⟨R.pb, p, none⟩ = some (.slice (some ⟨R.rb p, 0, none⟩) m (R.rc p)) := gr.cell (sO gY or) (fun e => by have k : w.heap.size ≤ R.pb := (own _ e.symm).1; have := op.out; omega)
          have os5 : (Y4.setCell ⟨w.heap.size, 1, none⟩ (.slice (some ⟨g4, 0, none⟩) (p + 1) cap4)).cell? ⟨R.b, 1, none⟩ = some (.slice (some ⟨R.pb, 0, none⟩) m R.pc) := by
            rw [World.cell?_setCell_other _ _ _ _ (by have := ob.out; first | (simp; done) | (simp; omega))]
            exact os4
          have or5 : (Y4.setCell ⟨w.heap.size, 1, none⟩ (.slice (some ⟨g4, 0, none⟩) (p + 1) cap4)).cell? ⟨R.pb, p, none⟩ = some (.slice (some ⟨R.rb p, 0, none⟩) m (R.rc p)) := by
            rw [World.cell?_setCell_other _ _ _ _ (by have := op.out; first | (simp; done) | (simp; omega))]
            exact or4
          clear hr ow gr at_ hP3 hc1 row3 fz3 hP own c1 c2 gY nb zg lt3 hO
          refine hK.out _ _ ⟨os4, or4⟩ (fun hH => ?_)
          clear hK K
          try simp only [Act.put, gA, gB, gC, gD, gE, gG]
          refine wpAnyH_take (i := 16) (oi := _) (v := .pointer (some ⟨w.heap.size, 0, none⟩)) rfl (by kernel_rfl) (by kernel_rfl) (by kernel_rfl) (fun _ _ _ h => h) (Or.inl ⟨by rfl, fun w' hSw => by obtain ⟨z2, z3⟩ := hSw; go_simp⟩) hH ?_
          simp only [Act.put, gA, gB, gC, gD, gE, gG]
          refine wpAnyH_take (i := 17) (oi := _) (v := .pointer (some ⟨w.heap.size, 1, none⟩)) rfl (by kernel_rfl) (by kernel_rfl) (by kernel_rfl) (fun _ _ _ h => h) (Or.inl ⟨by rfl, fun w' hSw => by obtain ⟨z2, z3⟩ := hSw; go_simp⟩) hH ?_
          simp only [Act.put, gA, gB, gC, gD, gE, gG]
          refine wpAnyH_ready (rs := [18]) (by kernel_rfl) (by simp) (AllReadyH.cons (o := _) rfl (fun K hK => ?_) AllReadyH.nil)
          go_simp
          refine hK.out _ _ ⟨os5, or5⟩ (fun hH => ?_)
          clear hK K
          try simp only [Act.put, gA, gB, gC, gD, gE, gG]
          refine wpAnyH_done (by kernel_rfl) ?_ _
          clear cs cf os4 or4 os5 or5 hH
          go_wp2_with fail
          go_roundw
          case rel => exact ⟨_, p + 1, _, _, _, rfl, by omega, by first | rfl | go_num, hA, cc2⟩
          case measure => simp [intOf]; omega
        · skip
          have hO1 := hO.on gY
          obtain ⟨v1, Y2, hr, o2, gr2, _, at2⟩ := run_append_own_at (P := Try.prog) Y1 Y0.heap.size 31 31 2 j0 (.int .i64 0) 1 8 Try.underlying31 hj hw0 hw1 hw2 (by rfl) (by omega) _ 0 [] o1 ⟨R.rb p, 0, none⟩ m (R.rc p) ((List.range m).map fun c => .int .i64 (M p c)) (by simp) (fun j u hu => by
            rw [Go.WideShapes.add_plain, Nat.zero_add]
            have hjm : j < m := by have := (List.getElem?_eq_some_iff.1 hu).1; simpa using this
            rw [List.getElem?_eq_getElem (by simpa using hjm)] at hu
            simp at hu
            subst hu
            exact hO1.hm p j (by have := hm'.out; omega) (by have := hm'.out; omega)) (fun u hu => by simp at hu; obtain ⟨_, _, rfl⟩ := hu; rfl) (by unfold maxLen; omega) (by omega) gY.size
          refine Eq.mpr (if_pos (by rfl)) ?_
          refine wp_append_at (.tmp 31) (.tmp 38) 31 rfl _ _ rfl rfl _ _ hr ?_
          rw [Nat.zero_add, List.nil_append] at o2
          obtain ⟨g, cap, rfl⟩ : ∃ g cap, v1 = .slice (some ⟨g, 0, none⟩) m cap := by
            rcases o2.2 with ⟨_, k⟩ | ⟨g, cap, cur, rfl, _⟩
            · omega
            · exact ⟨g, cap, rfl⟩
          have lt2 := o2.lt g rfl
          have row2 : ∀ c, c < m → Y2.cell? ⟨g, c, none⟩ = some (.int .i64 (M p c)) := fun c hc => by
            have := o2.cellAt c (by omega)
            rw [this]
            simp [hc]
          have fz2 : ∀ k, Y2.frozen? ⟨g, k, none⟩ = false := fun k => o2.frozenAt k
          replace gY : Below Y0.heap.size Y0 Y2 := ⟨gr2.os.trans gY.os, gr2.tape.trans gY.tape, gr2.output.trans gY.output, Nat.le_trans gY.size gr2.size, fun k hk => (gr2.block k (Nat.lt_of_lt_of_le hk gY.size) (by show some k ≠ some Y0.heap.size; intro e; have := Option.some.inj e; omega)).trans (gY.block k hk)⟩
          clear hr o1 o2 at2 gr2 hO1
          refine hK.out _ _ ⟨sO gY os, sO gY or⟩ (fun hH => ?_)
          clear hK K
          try simp only [Act.put, gA, gB, gC, gD, gE, gG]
          refine wpAnyH_ready (rs := [4, 14]) (by kernel_rfl) (by simp) (AllReadyH.cons (o := _) rfl (fun K hK => ?_) (AllReadyH.cons (o := _) rfl (fun K hK => ?_) AllReadyH.nil))
          · skip
            have hsY := sO gY hs
            go_simp
            clear hsY
            refine hK.out _ _ ⟨sO gY os, sO gY or⟩ (fun hH => ?_)
            clear hK K
            try simp only [Act.put, gA, gB, gC, gD, gE, gG]
            refine wpAnyH_ready (rs := [14]) (by kernel_rfl) (by simp) (AllReadyH.cons (o := _) rfl (fun K hK => ?_) AllReadyH.nil)
            go_simp
            obtain ⟨Y3, hY3⟩ : ∃ Y3, Y2.alloc (.cells #[.slice (some ⟨g, 0, none⟩) m cap] 31) = Y3 := ⟨_, rfl⟩
            have g3 : Below Y2.heap.size Y2 Y3 := by rw [← hY3]; exact (Below.refl _ _).alloc (Nat.le_refl _) _
            have hc1 : ∀ j u, [Value.slice (some ⟨g, 0, none⟩) m cap][j]? = some u → Y3.cell? ((⟨Y2.heap.size, 0, none⟩ : Addr).add j) = some u := by rw [← hY3]; exact cell_one_new _ _ _
            rw [hY3]
            clear hY3
            have row3 : ∀ c, c < m → Y3.cell? ⟨g, c, none⟩ = some (.int .i64 (M p c)) := fun c hc => by rw [g3.cell (by exact lt2.2)]; exact row2 c hc
            have fz3 : ∀ k, Y3.frozen? ⟨g, k, none⟩ = false := fun k => by rw [g3.frozen (by exact lt2.2)]; exact fz2 k
            have lt3 : Y0.heap.size ≤ g ∧ g < Y3.heap.size := ⟨lt2.1, Nat.lt_of_lt_of_le lt2.2 g3.size⟩
            replace gY := sp_call gY g3
            clear g3 row2 fz2 lt2
            refine hK.out _ _ ⟨sO gY os, sO gY or⟩ (fun hH => ?_)
            clear hK K
            try simp only [Act.put, gA, gB, gC, gD, gE, gG]
            refine wpAnyH_ready (rs := [15]) (by kernel_rfl) (by simp) (AllReadyH.cons (o := _) rfl (fun K hK => ?_) AllReadyH.nil)
            have hP3 := hP.on gY
            obtain ⟨v4, Y4, hr, ow, gr, _, at_⟩ := run_append_own_at (P := Try.prog) Y3 w.heap.size 73 73 31 i0 (.slice none 0 0) 1 24 Try.underlying73 hi hz0 hz1 hz2 (by rfl) (by omega) v p _ hP3.ow ⟨Y2.heap.size, 0, none⟩ 1 1 [.slice (some ⟨g, 0, none⟩) m cap] (by simp) hc1 (fun u hu => by simp at hu; subst hu; rfl) (by unfold maxLen; omega) (by omega) (by have := gY.size; have := zY.out; omega)
            refine Eq.mpr (if_pos (by rfl)) ?_
            refine wp_append_at (.tmp 30) (.tmp 40) 73 rfl _ _ rfl rfl _ _ hr ?_
            have hq2 : m = 2 * n := hm'.out.symm
            have own := hP.ow.lt
            have zg := gY.size
            have hA := hP3.add g cap ⟨by have := zY.out; omega, by have := zY.out; omega, lt3.2⟩ (fun a ha => by have := (hP.rr a ha).2.2; omega) (fun k => by have := (own _ k).2; omega) (fun c hc => row3 c (by omega)) fz3 (by rw [← hq2]; rw [← hq2] at ow; exact ow) gr at_
            have nb : some w.heap.size ≠ v.ownBlock := fun k => hP.vb k.symm
            have cs := gr.cell hP3.hs nb
            have cf : Y4.frozen? ⟨w.heap.size, 1, none⟩ = false := (World.frozen?_of_block (gr.block w.heap.size (by have := zY.out; omega) nb)).trans (hP3.fe 1)
            have c1 : Below w.heap.size w Y3 := cc.trans (gY.mono (by have := zY.out; omega))
            have c2 : Below w.heap.size w Y4 := ⟨gr.os.trans c1.os, gr.tape.trans c1.tape, gr.output.trans c1.output, Nat.le_trans c1.size gr.size, fun k hk => (gr.block k (Nat.lt_of_lt_of_le hk c1.size) (fun e => by have := (own k e.symm).1; omega)).trans (c1.block k hk)⟩
            have cc2 : Below w.heap.size w (Y4.setCell ⟨w.heap.size, 1, none⟩ v4) := c2.setCell (Nat.le_refl _) _
            obtain ⟨g4, cap4, rfl⟩ : ∃ g cap, v4 = .slice (some ⟨g, 0, none⟩) (p + 1) cap := by
              rcases ow.2 with ⟨_, k⟩ | ⟨g, cap, cur, rfl, _⟩
              · omega
              · exact ⟨g, cap, rfl⟩
            have os4 : Y4.cell? ⟨R.b, 1, none⟩ = some (.slice (some ⟨R.pb, 0, none⟩) m R.pc) := gr.cell (sO gY os) (fun e => by have k : w.heap.size ≤ R.b := (own _ e.symm).1; have := ob.out; omega)
            have or4 : Y4.cell? ⟨R.pb, p, none⟩ = some (.slice (some ⟨R.rb p, 0, none⟩) m (R.rc p)) := gr.cell (sO gY or) (fun e => by have k : w.heap.size ≤ R.pb := (own _ e.symm).1; have := op.out; omega)
            have os5 : (Y4.setCell ⟨w.heap.size, 1, none⟩ (.slice (some ⟨g4, 0, none⟩) (p + 1) cap4)).cell? ⟨R.b, 1, none⟩ = some (.slice (some ⟨R.pb, 0, none⟩) m R.pc) := by
              rw [World.cell?_setCell_other _ _ _ _ (by have := ob.out; first | (simp; done) | (simp; omega))]
              exact os4
            have or5 : (Y4.setCell ⟨w.heap.size, 1, none⟩ (.slice (some ⟨g4, 0, none⟩) (p + 1) cap4)).cell? ⟨R.pb, p, none⟩ = some (.slice (some ⟨R.rb p, 0, none⟩) m (R.rc p)) := by
              rw [World.cell?_setCell_other _ _ _ _ (by have := op.out; first | (simp; done) | (simp; omega))]
              exact or4
            clear hr ow gr at_ hP3 hc1 row3 fz3 hP own c1 c2 gY nb zg lt3 hO
            refine hK.out _ _ ⟨os4, or4⟩ (fun hH => ?_)
            clear hK K
            try simp only [Act.put, gA, gB, gC, gD, gE, gG]
            refine wpAnyH_take (i := 16) (oi := _) (v := .pointer (some ⟨w.heap.size, 0, none⟩)) rfl (by kernel_rfl) (by kernel_rfl) (by kernel_rfl) (fun _ _ _ h => h) (Or.inl ⟨by rfl, fun w' hSw => by obtain ⟨z2, z3⟩ := hSw; go_simp⟩) hH ?_
            simp only [Act.put, gA, gB, gC, gD, gE, gG]
            refine wpAnyH_take (i := 17) (oi := _) (v := .pointer (some ⟨w.heap.size, 1, none⟩)) rfl (by kernel_rfl) (by kernel_rfl) (by kernel_rfl) (fun _ _ _ h => h) (Or.inl ⟨by rfl, fun w' hSw => by obtain ⟨z2, z3⟩ := hSw; go_simp⟩) hH ?_
            simp only [Act.put, gA, gB, gC, gD, gE, gG]
            refine wpAnyH_ready (rs := [18]) (by kernel_rfl) (by simp) (AllReadyH.cons (o := _) rfl (fun K hK => ?_) AllReadyH.nil)
            go_simp
            refine hK.out _ _ ⟨os5, or5⟩ (fun hH => ?_)
            clear hK K
            try simp only [Act.put, gA, gB, gC, gD, gE, gG]
            refine wpAnyH_done (by kernel_rfl) ?_ _
            clear cs cf os4 or4 os5 or5 hH
            go_wp2_with fail
            go_roundw
            case rel => exact ⟨_, p + 1, _, _, _, rfl, by omega, by first | rfl | go_num, hA, cc2⟩
            case measure => simp [intOf]; omega
          · skip
            go_simp
            obtain ⟨Y3, hY3⟩ : ∃ Y3, Y2.alloc (.cells #[.slice (some ⟨g, 0, none⟩) m cap] 31) = Y3 := ⟨_, rfl⟩
            have g3 : Below Y2.heap.size Y2 Y3 := by rw [← hY3]; exact (Below.refl _ _).alloc (Nat.le_refl _) _
            have hc1 : ∀ j u, [Value.slice (some ⟨g, 0, none⟩) m cap][j]? = some u → Y3.cell? ((⟨Y2.heap.size, 0, none⟩ : Addr).add j) = some u := by rw [← hY3]; exact cell_one_new _ _ _
            rw [hY3]
            clear hY3
            have row3 : ∀ c, c < m → Y3.cell? ⟨g, c, none⟩ = some (.int .i64 (M p c)) := fun c hc => by rw [g3.cell (by exact lt2.2)]; exact row2 c hc
            have fz3 : ∀ k, Y3.frozen? ⟨g, k, none⟩ = false := fun k => by rw [g3.frozen (by exact lt2.2)]; exact fz2 k
            have lt3 : Y0.heap.size ≤ g ∧ g < Y3.heap.size := ⟨lt2.1, Nat.lt_of_lt_of_le lt2.2 g3.size⟩
            replace gY := sp_call gY g3
            clear g3 row2 fz2 lt2
            refine hK.out _ _ ⟨sO gY os, sO gY or⟩ (fun hH => ?_)
            clear hK K
            try simp only [Act.put, gA, gB, gC, gD, gE, gG]
            refine wpAnyH_ready (rs := [4]) (by kernel_rfl) (by simp) (AllReadyH.cons (o := _) rfl (fun K hK => ?_) AllReadyH.nil)
            have hsY := sO gY hs
            go_simp
            clear hsY
            refine hK.out _ _ ⟨sO gY os, sO gY or⟩ (fun hH => ?_)
            clear hK K
            try simp only [Act.put, gA, gB, gC, gD, gE, gG]
            refine wpAnyH_ready (rs := [15]) (by kernel_rfl) (by simp) (AllReadyH.cons (o := _) rfl (fun K hK => ?_) AllReadyH.nil)
            have hP3 := hP.on gY
            obtain ⟨v4, Y4, hr, ow, gr, _, at_⟩ := run_append_own_at (P := Try.prog) Y3 w.heap.size 73 73 31 i0 (.slice none 0 0) 1 24 Try.underlying73 hi hz0 hz1 hz2 (by rfl) (by omega) v p _ hP3.ow ⟨Y2.heap.size, 0, none⟩ 1 1 [.slice (some ⟨g, 0, none⟩) m cap] (by simp) hc1 (fun u hu => by simp at hu; subst hu; rfl) (by unfold maxLen; omega) (by omega) (by have := gY.size; have := zY.out; omega)
            refine Eq.mpr (if_pos (by rfl)) ?_
            refine wp_append_at (.tmp 30) (.tmp 40) 73 rfl _ _ rfl rfl _ _ hr ?_
            have hq2 : m = 2 * n := hm'.out.symm
            have own := hP.ow.lt
            have zg := gY.size
            have hA := hP3.add g cap ⟨by have := zY.out; omega, by have := zY.out; omega, lt3.2⟩ (fun a ha => by have := (hP.rr a ha).2.2; omega) (fun k => by have := (own _ k).2; omega) (fun c hc => row3 c (by omega)) fz3 (by rw [← hq2]; rw [← hq2] at ow; exact ow) gr at_
            have nb : some w.heap.size ≠ v.ownBlock := fun k => hP.vb k.symm
            have cs := gr.cell hP3.hs nb
            have cf : Y4.frozen? ⟨w.heap.size, 1, none⟩ = false := (World.frozen?_of_block (gr.block w.heap.size (by have := zY.out; omega) nb)).trans (hP3.fe 1)
            have c1 : Below w.heap.size w Y3 := cc.trans (gY.mono (by have := zY.out; omega))
            have c2 : Below w.heap.size w Y4 := ⟨gr.os.trans c1.os, gr.tape.trans c1.tape, gr.output.trans c1.output, Nat.le_trans c1.size gr.size, fun k hk => (gr.block k (Nat.lt_of_lt_of_le hk c1.size) (fun e => by have := (own k e.symm).1; omega)).trans (c1.block k hk)⟩
            have cc2 : Below w.heap.size w (Y4.setCell ⟨w.heap.size, 1, none⟩ v4) := c2.setCell (Nat.le_refl _) _
            obtain ⟨g4, cap4, rfl⟩ : ∃ g cap, v4 = .slice (some ⟨g, 0, none⟩) (p + 1) cap := by
              rcases ow.2 with ⟨_, k⟩ | ⟨g, cap, cur, rfl, _⟩
              · omega
              · exact ⟨g, cap, rfl⟩
            have os4 : Y4.cell? ⟨R.b, 1, none⟩ = some (.slice (some ⟨R.pb, 0, none⟩) m R.pc) := gr.cell (sO gY os) (fun e => by have k : w.heap.size ≤ R.b := (own _ e.symm).1; have := ob.out; omega)
            have or4 : Y4.cell? ⟨R.pb, p, none⟩ = some (.slice (some ⟨R.rb p, 0, none⟩) m (R.rc p)) := gr.cell (sO gY or) (fun e => by have k : w.heap.size ≤ R.pb := (own _ e.symm).1; have := op.out; omega)
            have os5 : (Y4.setCell ⟨w.heap.size, 1, none⟩ (.slice (some ⟨g4, 0, none⟩) (p + 1) cap4)).cell? ⟨R.b, 1, none⟩ = some (.slice (some ⟨R.pb, 0, none⟩) m R.pc) := by
              rw [World.cell?_setCell_other _ _ _ _ (by have := ob.out; first | (simp; done) | (simp; omega))]
              exact os4
            have or5 : (Y4.setCell ⟨w.heap.size, 1, none⟩ (.slice (some ⟨g4, 0, none⟩) (p + 1) cap4)).cell? ⟨R.pb, p, none⟩ = some (.slice (some ⟨R.rb p, 0, none⟩) m (R.rc p)) := by
              rw [World.cell?_setCell_other _ _ _ _ (by have := op.out; first | (simp; done) | (simp; omega))]
              exact or4
            clear hr ow gr at_ hP3 hc1 row3 fz3 hP own c1 c2 gY nb zg lt3 hO
            refine hK.out _ _ ⟨os4, or4⟩ (fun hH => ?_)
            clear hK K
            try simp only [Act.put, gA, gB, gC, gD, gE, gG]
            refine wpAnyH_take (i := 16) (oi := _) (v := .pointer (some ⟨w.heap.size, 0, none⟩)) rfl (by kernel_rfl) (by kernel_rfl) (by kernel_rfl) (fun _ _ _ h => h) (Or.inl ⟨by rfl, fun w' hSw => by obtain ⟨z2, z3⟩ := hSw; go_simp⟩) hH ?_
            simp only [Act.put, gA, gB, gC, gD, gE, gG]
            refine wpAnyH_take (i := 17) (oi := _) (v := .pointer (some ⟨w.heap.size, 1, none⟩)) rfl (by kernel_rfl) (by kernel_rfl) (by kernel_rfl) (fun _ _ _ h => h) (Or.inl ⟨by rfl, fun w' hSw => by obtain ⟨z2, z3⟩ := hSw; go_simp⟩) hH ?_
            simp only [Act.put, gA, gB, gC, gD, gE, gG]
            refine wpAnyH_ready (rs := [18]) (by kernel_rfl) (by simp) (AllReadyH.cons (o := _) rfl (fun K hK => ?_) AllReadyH.nil)
            go_simp
            refine hK.out _ _ ⟨os5, or5⟩ (fun hH => ?_)
            clear hK K
            try simp only [Act.put, gA, gB, gC, gD, gE, gG]
            refine wpAnyH_done (by kernel_rfl) ?_ _
            clear cs cf os4 or4 os5 or5 hH
            go_wp2_with fail
            go_roundw
            case rel => exact ⟨_, p + 1, _, _, _, rfl, by omega, by first | rfl | go_num, hA, cc2⟩
            case measure => simp [intOf]; omega
    · have ep : p = m := by omega
      subst ep
      clear cp hp hO
      rw [← hm'.out] at hP
      obtain ⟨R', e1, e2, e3, hR⟩ := hP.whole hn1'.out
      clear hP
      go_wp2_with fail
      go_ret
      exact ⟨⟨R', by rw [e1]; rfl, e2, by omega, hR⟩, cc⟩
end Go.Proofs.Ytpcbammncaeimaa


