/- program: its walk. -/
import Derived.Test.YtknoibocpbfmmaaGreatDoorWG21
namespace Go.Proofs.YtknoibocpbfmmaaGreatDoor
open Go.RowKit
set_option linter.unusedVariables false
set_option linter.unusedSimpArgs false
set_option maxRecDepth 100000 in
set_option maxHeartbeats 3200000 in
theorem pprogram (N : Nat) (ts : List Tk) (z : Tz ts) (dz : Dz ts) (m : ts.length ≤ 100000) (nm : pgP N ts ≠ .more) (b B : Nat) (w : World) (hO0 : OpsAt w) (hG : b ≠ 0) (hE0 : EvAt w) (hGe : b ≠ 3) (h : PAt w b B ts 0 0) :
  Calls Tryz.prog 39 #[.pointer (some ⟨b, 0, none⟩)] w fun e w' => PgR (pgP N ts) b B w e w' := by
 obtain ⟨R, hR⟩ : ∃ R, pgP N ts = R := ⟨_, rfl⟩
 rw [hR]
 rw [hR] at nm
 unfold pgP at hR
 have bl := h.lt
 have Bl := h.ltB z.ne
 obtain ⟨R1, hR1⟩ : ∃ R, dsP N ts 0 = R := ⟨_, rfl⟩
 rw [hR1] at hR
 obtain ⟨i0, hi, hz0, hz1, hz2⟩ : ∃ i, Tryz.prog.info? 53 = some i ∧ i.zero = some (.agg #[.string ⟨#[]⟩, .int .i64 0, .int .i64 0]) ∧ i.size = 3 ∧ i.bytes = 32 := by
  have h := dc_info
  cases hq : Tryz.prog.info? 53 with
  | none => rw [hq] at h; cases h
  | some i => rw [hq] at h; simp only [Option.map_some, Option.some.injEq, Prod.mk.injEq] at h; exact ⟨i, rfl, h.1, h.2.1, h.2.2⟩
 have hO : Hid (OpsAt w) := hO0
 have hE : Hid (EvAt w) := hE0
 have glO := hO0.gl
 have glE := hE0.gl
 go_enter Tryz.func39, Tryz.ntmps39
 go_upto_region 2 with fail
 obtain ⟨W, hW⟩ : ∃ X, (w.alloc (.cells #[.slice none 0 0, .slice none 0 0] 25)).alloc (.cells #[.slice none 0 0, .slice none 0 0] 25) = X := ⟨_, rfl⟩
 obtain ⟨p, hp⟩ : ∃ p, w.heap.size = p := ⟨_, rfl⟩
 obtain ⟨g, hg⟩ : ∃ g, p + 1 = g := ⟨_, rfl⟩
 have sW : W.heap.size = g + 1 := by rw [← hW, ← hg, ← hp]; simp [go_sem]
 have gW : Below w.heap.size w W := by rw [← hW]; exact pb_new (pb_new (Below.refl _ _) _) _
 have qp : W.heap[p]? = some (.cells #[.slice none 0 0, .slice none 0 0] 25 (0, 0)) := by
  rw [← hW, Below.heap_alloc _ _ p (by rw [World.size_alloc]; omega), ← hp]
  exact World.alloc_heap_new _ _
 have qg : W.heap[g]? = some (.cells #[.slice none 0 0, .slice none 0 0] 25 (0, 0)) := by
  rw [← hW, show g = (w.alloc (.cells #[.slice none 0 0, .slice none 0 0] 25)).heap.size by rw [World.size_alloc]; omega]
  exact World.alloc_heap_new _ _
 rw [hW]
 (try rw [hp])
 (try rw [hg])
 have hI : DsI b B g W W R1 [] ts (.slice none 0 0) := ⟨OnS.refl _ _, qg, h.bel z.ne gW, World.ownsRow_nil _ _ _ _, ⟨N, by rw [hR1]; cases R1 <;> rfl⟩, z, dz, by simp; omega⟩
 have hR' : Hid (_ = R) := hR
 have gW' : Hid (Below w.heap.size w W) := gW
 have qp' : Hid (W.heap[p]? = some (.cells #[.slice none 0 0, .slice none 0 0] 25 (0, 0))) := qp
 clear hW h hR hR1 qg gW qp z dz m hO0 hE0
 have bg : g ≠ b := by omega
 have Bg : g ≠ B := by omega
 have cl1 : w.heap.size ≤ W.heap.size := by omega
 go_loopw [] (fun wr => ∃ (V : World) (us : List Tk) (ls : List Dc) (v : Value), V = wr ∧ Hid (DsI b B g W V R1 ls us v)) (fun wr => msR b wr)
 case atStart => exact ⟨W, ts, [], _, rfl, hI⟩
 case round =>
  clear hI
  obtain ⟨V_, us, ls, v, rfl, hI_⟩ := hrel
  obtain ⟨t, us', eus⟩ := hI_.out.z.cons
  have u0 : us ≠ [] := hI_.out.z.ne
  have gr : v.ownBlock ≠ some g := fun e => by have := (hI_.out.own.lt g e).1; omega
  have gb : ¬ g = b := bg
  have cg_ : V_.cell? ⟨g, 0, none⟩ = some v := by simp [World.cell?, hI_.out.qg]
  obtain ⟨k, hRk⟩ := hI_.out.hR
  have hP_ := hI_.out.P
  have own_ := hI_.out.own
  have lf1 := lxf1
  have msV : Hid (msR b V_ = us.length) := hP_.ms
  cases k with
  | zero =>
   exfalso
   apply nm
   rw [← hR'.out, hRk]
   rfl
  | succ k =>
   rw [dsP, eus] at hRk
   by_cases c : tyOf t.2.1 = 0
   case neg =>
    have ce : (tyOf t.2.1 == 0) = false := by rw [beq_eq_false_iff_ne]; exact c
    rw [if_pos (show tyOf (hd (t :: us')).2.1 ≠ 0 from c), ← eus] at hRk
    go_upto_region 3 with (first
     | (go_at_call 60; (with_reducible refine (pnext b B t us' 0 0 _ (by rw [← eus]; exact hP_)).mono ?_); rintro e V ⟨rfl, g1⟩)
     | (go_at_call 59; (refine (ptype t.2.1 _).mono ?_); rintro e v2 ⟨rfl, hv⟩; subst v2)
     | fail)
    have hI : Hid (DsI b B g W V R1 ls us v) := hI_.out.bel g1
    clear hI_
    have cg : V.cell? ⟨g, 0, none⟩ = some v := by simp [World.cell?, hI.out.qg]
    have hP := hI.out.P
    have own := hI.out.own
    clear hP_ own_ cg_ g1
    have hV : OnS (fun c => c = b ∨ c = g) W V := hI.out.on
    have nO : ¬ (0 = b ∨ 0 = g) := fun a => a.elim (fun e => hG e.symm) (fun e => by omega)
    have nE : ¬ (3 = b ∨ 3 = g) := fun a => a.elim (fun e => hGe e.symm) (fun e => by omega)
    have hOV : Hid (OpsAt V) := (hO.out.bel gW'.out).ons nO hV
    have hEV : Hid (EvAt V) := (hE.out.onl (b := w.heap.size) (by omega) ((Onl.refl _ _).below gW'.out)).ons nE hV
    have kP : ∀ w', OnS (fun k => k = b ∨ (0 < 3 ∧ some k = v.ownBlock)) V w' → PAt w' b B us 0 0 → Calls Tryz.prog 61 #[.pointer (some ⟨b, 0, none⟩)] w' fun e w'' => DcR (dcP us 0) b B 0 w' e w'' := fun w' hb hP' =>
     pdecl us 0 hI.out.z hI.out.dz b B w' (hOV.out.ons (fun a => a.elim (fun e => hG e.symm) (fun q => by have := (own.lt _ q.2.symm).1; omega)) hb) hG (hEV.out.ons (fun a => a.elim (fun e => hGe e.symm) (fun q => by have := (own.lt _ q.2.symm).1; omega)) hb) hGe hP'
    cases hr : dcP us 0 with
    | more =>
     exfalso
     have := dcP_sat us 0 False hI.out.z
     rw [hr] at this
     exact this
    | bad pl =>
     have kD : ∀ w', OnS (fun k => k = b ∨ (0 < 3 ∧ some k = v.ownBlock)) V w' → PAt w' b B us 0 0 → Calls Tryz.prog 61 #[.pointer (some ⟨b, 0, none⟩)] w' fun e w'' => DcR (.bad pl) b B 0 w' e w'' := fun w' hb hP' => by rw [← hr]; exact kP w' hb hP'
     have e0 : R = .bad pl := by
      rw [← hR'.out, hRk, hr]
      rfl
     have fin : Hid (∀ X, OnS (fun k => k = b ∨ (0 < 3 ∧ some k = v.ownBlock)) V X → PgR R b B w (.panicked [{ v := fltV 4 pl, recovered := false }]) X) := fun X on => by
      rw [e0]
      exact ⟨((OnS.of gW'.out).thn (hV.thn on (fun k hk a => a.imp id (fun q => by have := (own.lt _ q.2.symm).1; omega))) (fun k hk a => a)).onl (fun k hk a => a.elim id (fun e => by omega)), rfl⟩
     clear hR' e0 hr kP hRk hI hOV hEV hi hz0 hz1 hz2
     refine wp_region_row 7 [11, 12, 13, 14, 15, 16, 17] (fun n w _ w9 => OnS (fun k => k = b ∨ (n < 3 ∧ some k = v.ownBlock)) w w9) (PhD b B W.heap.size us us v ls) [3, 4, 5] (RlsN [EqvN (.pointer (some ⟨g, 0, none⟩)), EqvN (v), EqvN (.pointer (some ⟨b, 0, none⟩)), (fun _ _ _ => False), (fun _ _ _ => False), (fun _ _ _ => False), EqvN (.pointer (some ⟨g, 0, none⟩))]) [0, 1, 2, 3, 4, 5, 6] (by kernel_rfl) (by kernel_rfl) (by kernel_rfl) (by kernel_rfl) (by kernel_rfl) (by kernel_rfl) (r := 1) (lst := #[true, true, true, true, true, true, true, false]) (by kernel_rfl) (by kernel_rfl) ((OnS.refl _ _).drew) (fun i x j y k z hi hj h g => h.thn g (fun c _ a => a.imp id (fun q => ⟨by omega, q.2⟩))) (⟨by rw [if_pos rfl]; exact hP.drew, fun _ => own⟩) (MonoE.of (MonoE.eq (MonoE.eq (MonoE.eq (MonoE.cons (fun _ _ _ _ _ _ h _ => h) (MonoE.cons (fun _ _ _ _ _ _ h _ => h) (MonoE.cons (fun _ _ _ _ _ _ h _ => h) (MonoE.eq MonoE.nil)))))))) ?_ ?_
     ·skip
      refine StepsJ.cons (o := _) rfl ?_ ?_
      ·try simp only [List.getElem_toArray, List.getElem_cons_zero, List.getElem_cons_succ]
       refine StepJ.of ?_ ?_ ?_
       ·rfl
       ·kernel_rfl
       intro A w n n2 hD hb hT0 hd0 hn hn2 K hK
       replace hD : Hid (A.defers = []) := hD
       obtain rfl := chain_no (by decide) hn2
       clear hn2
       have f0 : A.tmps[3]?.getD undef = .pointer (some ⟨g, 0, none⟩) := hT0 3 (by kernel_rfl)
       clear hT0 hd0
       go_simp
       exact hK.out _ _ (OnS.refl _ _) rfl hn
      refine StepsJ.cons (o := _) rfl ?_ ?_
      ·try simp only [List.getElem_toArray, List.getElem_cons_zero, List.getElem_cons_succ]
       refine StepJ.of ?_ ?_ ?_
       ·rfl
       ·kernel_rfl
       intro A w n n2 hD hb hT0 hd0 hn hn2 K hK
       replace hD : Hid (A.defers = []) := hD
       obtain rfl := chain_no (by decide) hn2
       clear hn2
       have e0 : A.tmps[11]?.getD undef = .pointer (some ⟨g, 0, none⟩) := hd0 0 11 (by kernel_rfl)
       clear hT0 hd0
       have c0 : w.cell? ⟨g, 0, none⟩ = some v := hb.cell (fun a => a.elim gb (fun q => gr q.2.symm)) cg
       go_simp
       exact hK.out _ _ (OnS.refl _ _) rfl hn
      refine StepsJ.cons (o := _) rfl ?_ ?_
      ·try simp only [List.getElem_toArray, List.getElem_cons_zero, List.getElem_cons_succ]
       refine StepJ.of ?_ ?_ ?_
       ·rfl
       ·kernel_rfl
       intro A w n n2 hD hb hT0 hd0 hn hn2 K hK
       replace hD : Hid (A.defers = []) := hD
       obtain rfl := chain_no (by decide) hn2
       clear hn2
       have f0 : A.tmps[0]?.getD undef = .pointer (some ⟨b, 0, none⟩) := hT0 0 (by kernel_rfl)
       clear hT0 hd0
       go_simp
       exact hK.out _ _ (OnS.refl _ _) rfl hn
      refine StepsJ.cons (o := _) rfl ?_ ?_
      ·try simp only [List.getElem_toArray, List.getElem_cons_zero, List.getElem_cons_succ]
       refine StepJ.of ?_ ?_ ?_
       ·rfl
       ·kernel_rfl
       intro A w n n2 hD hb hT0 hd0 hn hn2 K hK
       replace hD : Hid (A.defers = []) := hD
       obtain ⟨rfl, rfl⟩ := chain_at 0 (by decide) hn2
       have e0 : A.tmps[13]?.getD undef = .pointer (some ⟨b, 0, none⟩) := hd0 2 13 (by kernel_rfl)
       clear hT0 hd0
       go_simp
       refine (kD w hb (by have := hn.1; rwa [if_pos rfl] at this)).mono ?_
       rintro e w2 ⟨on2, rfl⟩
       exact ⟨hD.out, fin.out _ (hb.thn (on2.ons (S := fun k => k = b) rfl) (fun k _ e => Or.inl e))⟩
      refine StepsJ.cons (o := _) rfl ?_ ?_
      ·try simp only [List.getElem_toArray, List.getElem_cons_zero, List.getElem_cons_succ]
       refine StepJ.of ?_ ?_ ?_
       ·rfl
       ·kernel_rfl
       intro A w n n2 hD hb hT0 hd0 hn hn2 K hK
       replace hD : Hid (A.defers = []) := hD
       obtain ⟨rfl, rfl⟩ := chain_at 1 (by decide) hn2
       have r0 := hd0 3 14 (by kernel_rfl)
       clear hT0 hd0
       exact r0.elim
      refine StepsJ.cons (o := _) rfl ?_ ?_
      ·try simp only [List.getElem_toArray, List.getElem_cons_zero, List.getElem_cons_succ]
       refine StepJ.of ?_ ?_ ?_
       ·rfl
       ·kernel_rfl
       intro A w n n2 hD hb hT0 hd0 hn hn2 K hK
       replace hD : Hid (A.defers = []) := hD
       obtain ⟨rfl, rfl⟩ := chain_at 2 (by decide) hn2
       have r0 := hd0 4 15 (by kernel_rfl)
       clear hT0 hd0
       exact r0.elim
      refine StepsJ.cons (o := _) rfl ?_ ?_
      ·try simp only [List.getElem_toArray, List.getElem_cons_zero, List.getElem_cons_succ]
       refine StepJ.of ?_ ?_ ?_
       ·rfl
       ·kernel_rfl
       intro A w n n2 hD hb hT0 hd0 hn hn2 K hK
       replace hD : Hid (A.defers = []) := hD
       obtain rfl := chain_no (by decide) hn2
       clear hn2
       have f0 : A.tmps[3]?.getD undef = .pointer (some ⟨g, 0, none⟩) := hT0 3 (by kernel_rfl)
       clear hT0 hd0
       go_simp
       exact hK.out _ _ (OnS.refl _ _) rfl hn
      exact StepsJ.nil
     exact fun f g wz hb hph hR => (hR 3 14 (by decide) (by kernel_rfl)).elim
    | ok x us2 d2 =>
     have kD : ∀ w', OnS (fun k => k = b ∨ (0 < 3 ∧ some k = v.ownBlock)) V w' → PAt w' b B us 0 0 → Calls Tryz.prog 61 #[.pointer (some ⟨b, 0, none⟩)] w' fun e w'' => DcR (.ok x us2 d2) b B 0 w' e w'' := fun w' hb hP' => by rw [← hr]; exact kP w' hb hP'
     obtain ⟨rfl, j, ej⟩ := dc_left hr
     have z2 : Hid (Tz us2 ∧ us2.length < us.length) := by
      have := dcP_sat us 0 False hI.out.z
      rw [hr] at this
      exact this
     have dz2 : Hid (Dz us2) := by rw [ej]; exact hI.out.dz.drop j
     have u2 := z2.out.1.ne
     have hR2 : Hid (R1 = (dsP k us2 0).thn fun l ts d => .ok (ls ++ [x] ++ l) ts d) := by
      have h9 : R1 = (dsP k us2 0).thn fun l ts d => .ok (ls ++ [x] ++ l) ts d := by
       rw [hRk, hr]
       simp only [Rs.thn]
       cases dsP k us2 0 <;> simp
      exact h9
     have l1 : ls.length + 1 ≤ maxLen := by have := hI.out.ln; unfold maxLen; omega
     have l2 : (ls.length + 1) * 32 ≤ 140737488355328 := by have := hI.out.ln; omega
     have ms1 : Hid (msR b V_ = us.length) := msV.out
     clear ej hr hRk kP hOV hEV
     refine wp_region_row 7 [11, 12, 13, 14, 15, 16, 17] (fun n w _ w9 => OnS (fun k => k = b ∨ (n < 3 ∧ some k = v.ownBlock)) w w9) (PhD b B W.heap.size us us2 v ls) [3, 4, 5] (RlsN [EqvN (.pointer (some ⟨g, 0, none⟩)), EqvN (v), EqvN (.pointer (some ⟨b, 0, none⟩)), EqvN (.agg #[.string x.1, .int .i64 x.2.1, .int .i64 x.2.2]), (fun _ v w => ∃ c, v = .slice (some ⟨c, 0, none⟩) 1 1 ∧ w.heap[c]? = some (.cells #[.string x.1, .int .i64 x.2.1, .int .i64 x.2.2] 53 (0, 0)) ∧ V.heap.size ≤ c), (fun n y w => 3 ≤ n ∧ w.ownsRow W.heap.size 53 3 y (ls.length + 1) (dcl ls ++ [.string x.1, .int .i64 x.2.1, .int .i64 x.2.2]) ∧ (y.ownBlock = v.ownBlock ∨ ∃ k, y.ownBlock = some k ∧ V.heap.size ≤ k)), EqvN (.pointer (some ⟨g, 0, none⟩))]) [0, 1, 2, 3, 4, 5, 6] (by kernel_rfl) (by kernel_rfl) (by kernel_rfl) (by kernel_rfl) (by kernel_rfl) (by kernel_rfl) (r := 1) (lst := #[true, true, true, true, true, true, true, false]) (by kernel_rfl) (by kernel_rfl) ((OnS.refl _ _).drew) (fun i x j y k z hi hj h g => h.thn g (fun c _ a => a.imp id (fun q => ⟨by omega, q.2⟩))) (⟨by rw [if_pos rfl]; exact hP.drew, fun _ => own⟩) (MonoE.of (MonoE.eq (MonoE.eq (MonoE.eq (MonoE.eq (MonoE.cons (fun y n w n2 w2 _ ⟨c, h1, h2, h3⟩ g => ⟨c, h1, (g.block c (lt_of h2) (fun a => a.elim (fun e => by have := hP.lt; omega) (fun q => by have := (own.lt c q.2.symm).2; omega))).trans h2, h3⟩) (MonoE.cons (fun y n w n2 w2 hn2 ⟨h0, h1, h2⟩ g => ⟨by omega, own_ons g h1 (fun k hk a => a.elim (fun e => by have := (h1.lt k hk).1; omega) (fun q => by omega)), h2⟩) (MonoE.eq MonoE.nil)))))))) ?_ ?_
     ·skip
      refine StepsJ.cons (o := _) rfl ?_ ?_
      ·try simp only [List.getElem_toArray, List.getElem_cons_zero, List.getElem_cons_succ]
       refine StepJ.of ?_ ?_ ?_
       ·rfl
       ·kernel_rfl
       intro A w n n2 hD hb hT0 hd0 hn hn2 K hK
       replace hD : Hid (A.defers = []) := hD
       obtain rfl := chain_no (by decide) hn2
       clear hn2
       have f0 : A.tmps[3]?.getD undef = .pointer (some ⟨g, 0, none⟩) := hT0 3 (by kernel_rfl)
       clear hT0 hd0
       go_simp
       exact hK.out _ _ (OnS.refl _ _) rfl hn
      refine StepsJ.cons (o := _) rfl ?_ ?_
      ·try simp only [List.getElem_toArray, List.getElem_cons_zero, List.getElem_cons_succ]
       refine StepJ.of ?_ ?_ ?_
       ·rfl
       ·kernel_rfl
       intro A w n n2 hD hb hT0 hd0 hn hn2 K hK
       replace hD : Hid (A.defers = []) := hD
       obtain rfl := chain_no (by decide) hn2
       clear hn2
       have e0 : A.tmps[11]?.getD undef = .pointer (some ⟨g, 0, none⟩) := hd0 0 11 (by kernel_rfl)
       clear hT0 hd0
       have c0 : w.cell? ⟨g, 0, none⟩ = some v := hb.cell (fun a => a.elim gb (fun q => gr q.2.symm)) cg
       go_simp
       exact hK.out _ _ (OnS.refl _ _) rfl hn
      refine StepsJ.cons (o := _) rfl ?_ ?_
      ·try simp only [List.getElem_toArray, List.getElem_cons_zero, List.getElem_cons_succ]
       refine StepJ.of ?_ ?_ ?_
       ·rfl
       ·kernel_rfl
       intro A w n n2 hD hb hT0 hd0 hn hn2 K hK
       replace hD : Hid (A.defers = []) := hD
       obtain rfl := chain_no (by decide) hn2
       clear hn2
       have f0 : A.tmps[0]?.getD undef = .pointer (some ⟨b, 0, none⟩) := hT0 0 (by kernel_rfl)
       clear hT0 hd0
       go_simp
       exact hK.out _ _ (OnS.refl _ _) rfl hn
      refine StepsJ.cons (o := _) rfl ?_ ?_
      ·try simp only [List.getElem_toArray, List.getElem_cons_zero, List.getElem_cons_succ]
       refine StepJ.of ?_ ?_ ?_
       ·rfl
       ·kernel_rfl
       intro A w n n2 hD hb hT0 hd0 hn hn2 K hK
       replace hD : Hid (A.defers = []) := hD
       obtain ⟨rfl, rfl⟩ := chain_at 0 (by decide) hn2
       have e0 : A.tmps[13]?.getD undef = .pointer (some ⟨b, 0, none⟩) := hd0 2 13 (by kernel_rfl)
       clear hT0 hd0
       go_simp
       refine (kD w hb (by have := hn.1; rwa [if_pos rfl] at this)).mono ?_
       rintro e w2 ⟨on2, rfl, hP2⟩
       exact hK.out _ _ (on2.ons (Or.inl rfl)) rfl ⟨hP2, fun _ => own_ons (on2.ons (S := fun k => k = b) rfl) (hn.2 (by omega)) (fun k hk e => by have := (own.lt k hk).1; omega)⟩
      refine StepsJ.cons (o := _) rfl ?_ ?_
      ·try simp only [List.getElem_toArray, List.getElem_cons_zero, List.getElem_cons_succ]
       refine StepJ.of ?_ ?_ ?_
       ·rfl
       ·kernel_rfl
       intro A w n n2 hD hb hT0 hd0 hn hn2 K hK
       replace hD : Hid (A.defers = []) := hD
       obtain ⟨rfl, rfl⟩ := chain_at 1 (by decide) hn2
       have e0 : A.tmps[14]?.getD undef = .agg #[.string x.1, .int .i64 x.2.1, .int .i64 x.2.2] := hd0 3 14 (by kernel_rfl)
       clear hT0 hd0
       go_simp
       exact hK.out _ _ (OnS.of (pb_new (Below.refl _ _) _)) ⟨_, rfl, World.alloc_heap_new _ _, hb.size⟩ (hn.ons u0 u2 (pb_new (Below.refl _ _) _) (by omega))
      refine StepsJ.cons (o := _) rfl ?_ ?_
      ·try simp only [List.getElem_toArray, List.getElem_cons_zero, List.getElem_cons_succ]
       refine StepJ.of ?_ ?_ ?_
       ·rfl
       ·kernel_rfl
       intro A w n n2 hD hb hT0 hd0 hn hn2 K hK
       replace hD : Hid (A.defers = []) := hD
       obtain ⟨rfl, rfl⟩ := chain_at 2 (by decide) hn2
       have e0 : A.tmps[12]?.getD undef = v := hd0 1 12 (by kernel_rfl)
       have r1 := hd0 4 15 (by kernel_rfl)
       clear hT0 hd0
       obtain ⟨c, e4, q4, l4⟩ : ∃ c, A.tmps[15]?.getD undef = .slice (some ⟨c, 0, none⟩) 1 1 ∧ w.heap[c]? = some (.cells #[.string x.1, .int .i64 x.2.1, .int .i64 x.2.2] 53 (0, 0)) ∧ V.heap.size ≤ c := r1
       have ow := hn.2 (by omega)
       obtain ⟨v2, W2, hr, hown2, hgrow, _, hat⟩ := run_append_own_at (P := Tryz.prog) w W.heap.size 22 22 53 i0 (.agg #[.string ⟨#[]⟩, .int .i64 0, .int .i64 0]) 3 32 Tryz.underlying22 hi hz0 hz1 hz2 rfl (by decide) _ _ _ ow ⟨c, 0, none⟩ 1 1 [.string x.1, .int .i64 x.2.1, .int .i64 x.2.2] rfl (dc_cell q4) (dc_one x) l1 l2 (by have := hb.size; have := hV.size; omega)
       refine wp_appendAt (.tmp 12) (.tmp 15) 22 rfl v (.slice (some ⟨c, 0, none⟩) 1 1) (show A.tmps.getD 12 undef = v by rw [Array.getD_eq_getD_getElem?]; exact e0) (show A.tmps.getD 15 undef = _ by rw [Array.getD_eq_getD_getElem?]; exact e4) v2 W2 hr ?_
       refine hK.out _ _ ((OnS.refl _ w).grown hgrow (fun k hk => Or.inl (Or.inr ⟨by omega, hk.symm⟩))) ⟨Nat.le_refl _, hown2, hat.imp id (fun e => ⟨_, e, hb.size⟩)⟩ ⟨?_, fun a => absurd a (by omega)⟩
       have hP2 := hn.1
       rw [if_neg (by omega)] at hP2 ⊢
       exact hP2.on (hgrow.block b hP2.lt (fun e => by have := (own.lt b e.symm).1; omega)) (hgrow.block B (hP2.ltB u2) (fun e => by have := (own.lt B e.symm).1; omega))
      refine StepsJ.cons (o := _) rfl ?_ ?_
      ·try simp only [List.getElem_toArray, List.getElem_cons_zero, List.getElem_cons_succ]
       refine StepJ.of ?_ ?_ ?_
       ·rfl
       ·kernel_rfl
       intro A w n n2 hD hb hT0 hd0 hn hn2 K hK
       replace hD : Hid (A.defers = []) := hD
       obtain rfl := chain_no (by decide) hn2
       clear hn2
       have f0 : A.tmps[3]?.getD undef = .pointer (some ⟨g, 0, none⟩) := hT0 3 (by kernel_rfl)
       clear hT0 hd0
       go_simp
       exact hK.out _ _ (OnS.refl _ _) rfl hn
      exact StepsJ.nil
     intro f gg wz hb hph hR
     obtain ⟨_, own2, hat⟩ : 3 ≤ 3 ∧ wz.ownsRow W.heap.size 53 3 (gg 16) (ls.length + 1) (dcl ls ++ [Value.string x.1, Value.int .i64 x.2.1, Value.int .i64 x.2.2]) ∧ ((gg 16).ownBlock = v.ownBlock ∨ ∃ k, (gg 16).ownBlock = some k ∧ V.heap.size ≤ k) := hR 5 16 (by decide) (by kernel_rfl)
     have e6 : gg 17 = .pointer (some ⟨g, 0, none⟩) := hR 6 17 (by decide) (by kernel_rfl)
     have hb : OnS (fun k => k = b ∨ (0 < 3 ∧ some k = v.ownBlock)) V wz := hb
     have hP2 : PAt wz b B us2 0 0 := by have := hph.1; rwa [if_neg (by decide)] at this
     have qz : wz.heap[g]? = some (.cells #[v, .slice none 0 0] 25 (0, 0)) := (hb.block g (lt_of hI.out.qg) (fun a => a.elim gb (fun q => gr q.2.symm))).trans hI.out.qg
     obtain ⟨hJ, hms⟩ := ds_step hI.out hR2.out hb hP2 own2 z2.out dz2.out bg Bg (by omega)
     have hJ2 : Hid _ := hJ
     clear hJ
     obtain ⟨yo, yc, ey⟩ := po_shape own2
     simp only [fillT, List.foldl_cons, List.foldl_nil, List.setIfInBounds_toArray, List.set_cons_zero, List.set_cons_succ]
     generalize gg 16 = y at *
     rw [e6]
     clear hR e6 hph own2 hat
     have q0 : wz.cell? ⟨g, 0, none⟩ = some v := by simp [World.cell?, qz]
     have qf : wz.frozen? ⟨g, 0, none⟩ = false := by simp [World.frozen?, qz]
     clear qz cg
     subst ey
     refine wpAny_ready (rs := [7]) (by kernel_rfl) (by simp) (AllReady.cons (o := _) rfl (fun K hK => ?_) AllReady.nil)
     go_simp
     refine hK _ _ ?_
     clear hK K
     refine wpAny_done (by kernel_rfl) ?_ _
     go_wp2_with fail
     exact ⟨⟨_, us2, ls ++ [x], _, rfl, hJ2⟩, by rw [hms, ms1.out]; exact z2.out.2⟩
   case pos =>
    have ce : (tyOf t.2.1 == 0) = true := by rw [beq_iff_eq]; exact c
    rw [if_neg (show ¬ tyOf (hd (t :: us')).2.1 ≠ 0 from fun h => h c), ← eus] at hRk
    have eR1 : R1 = .ok ls us 0 := by rw [hRk]; simp only [Rs.thn, List.append_nil]
    go_upto_region 4 with (first
     | (go_at_call 60; (with_reducible refine (pnext b B t us' 0 0 _ (by rw [← eus]; exact hP_)).mono ?_); rintro e V2 ⟨rfl, g1⟩)
     | (go_at_call 59; (refine (ptype t.2.1 _).mono ?_); rintro e v2 ⟨rfl, hv⟩; subst v2)
     | fail)
    have hD : Hid (DsI b B g W V2 R1 ls us v) := hI_.out.bel g1
    obtain ⟨R2, hR2⟩ : ∃ R, ssP N us 0 = R := ⟨_, rfl⟩
    have eR : Hid (R = R2.thn fun b ts d => .ok (ls, b) ts d) := by
     have h9 : R = R2.thn fun b ts d => .ok (ls, b) ts d := by rw [← hR'.out, eR1, ← hR2]; rfl
     exact h9
    have nm2 : R2 ≠ .more := fun e => by
     rw [eR.out, e] at nm
     exact nm rfl
    have hS0 : Hid (SsI b B g V2 V2 R2 v [] us 0 (.slice none 0 0) []) := ⟨OnS.refl _ _, hD.out.qg, hD.out.P, World.ownsRow_nil _ _ _ _, rfl, ⟨N, by rw [hR2]; cases R2 <;> rfl⟩, hD.out.z, by have := hD.out.ln; simp; omega⟩
    have sV2 : W.heap.size ≤ V2.heap.size := hD.out.on.size
    have qp2 : Hid (V2.heap[p]? = some (.cells #[.slice none 0 0, .slice none 0 0] 25 (0, 0))) := (hD.out.on.block p (by omega) (fun a => a.elim (fun e => by omega) (fun e => by omega))).trans qp'.out
    obtain ⟨i1, hj, hj0, hj1, hj2⟩ : ∃ i, Tryz.prog.info? 87 = some i ∧ i.zero = some (.agg #[.int .i64 0, .string ⟨#[]⟩, .slice none 0 0, .int .i64 0, .string ⟨#[]⟩, .int .i64 0, .slice none 0 0, .int .i64 0, .string ⟨#[]⟩, .int .i64 0, .slice none 0 0, .int .i64 0, .string ⟨#[]⟩, .int .i64 0, .slice none 0 0, .slice none 0 0, .slice none 0 0]) ∧ i.size = 17 ∧ i.bytes = 264 := by
     have h := st_info
     cases hq : Tryz.prog.info? 87 with
     | none => rw [hq] at h; cases h
     | some i => rw [hq] at h; simp only [Option.map_some, Option.some.injEq, Prod.mk.injEq] at h; exact ⟨i, rfl, h.1, h.2.1, h.2.2⟩
    clear hI_ hP_ own_ cg_ g1 hRk eR1 hR2 hR' msV eus c ce gr u0 nm hi hz0 hz1 hz2
    obtain ⟨dv, rfl⟩ : ∃ x, x = v := ⟨_, rfl⟩
    obtain ⟨dl, rfl⟩ : ∃ x, x = ls := ⟨_, rfl⟩
    go_loopw [] (fun wr => ∃ (V : World) (us : List Tk) (ls : List St) (d : Int) (v2 : Value) (xs : List Value), V = wr ∧ Hid (SsI b B g V2 V R2 dv ls us d v2 xs)) (fun wr => msR b wr)
    case atStart => exact ⟨V2, us, [], 0, _, [], rfl, hS0⟩
    case round =>
     clear hS0
     obtain ⟨V_, us, ls, d, v, xs, rfl, hI_⟩ := hrel
     obtain ⟨t, us', eus⟩ := hI_.out.z.cons
     have u0 : us ≠ [] := hI_.out.z.ne
     have gr : v.ownBlock ≠ some g := fun e => by have := (hI_.out.own.lt g e).1; omega
     have gb : ¬ g = b := bg
     have msV : Hid (msR b V_ = us.length) := hI_.out.P.ms
     obtain ⟨k, hRk⟩ := hI_.out.hR
     have hP_ := hI_.out.P
     cases k with
     | zero => exact absurd (by rw [hRk]; rfl) nm2
     | succ k =>
      rw [ssP, eus] at hRk
      by_cases c : t.1 = 0
      case neg =>
       have ce : (((t.1 : Nat) : Int) == 0) = false := by rw [beq_eq_false_iff_ne]; omega
       rw [if_neg (show ¬ (hd (t :: us')).1 = 0 from c), ← eus] at hRk
       go_upto_region 5 with (first
        | (go_at_call 62; (with_reducible refine (pended b B t us' 0 d _ (by rw [← eus]; exact hP_)).mono ?_); rintro e V ⟨rfl, g1⟩)
        | fail)
       have hI : Hid (SsI b B g V2 V R2 dv ls us d v xs) := hI_.out.bel g1
       clear hI_
       have cg : V.cell? ⟨g, 1, none⟩ = some v := by simp [World.cell?, hI.out.qg]
       have hP := hI.out.P
       have own := hI.out.own
       clear hP_ g1
       have hV : OnS (fun c => c = b ∨ c = g) V2 V := hI.out.on
       have nO : ¬ (0 = b ∨ 0 = g) := fun a => a.elim (fun e => hG e.symm) (fun e => by omega)
       have hOV : Hid (OpsAt V) := ((hO.out.bel gW'.out).ons nO hD.out.on).ons nO hV
       have m1 : Hid (us.length ≤ 1000000) := by have := hI.out.ln; show _ ≤ _; omega
       have kP : ∀ w', OnS (fun k => k = b ∨ (0 < 3 ∧ some k = v.ownBlock)) V w' → PAt w' b B us 0 d → stP k us d ≠ .more → Calls Tryz.prog 63 #[.pointer (some ⟨b, 0, none⟩)] w' fun e w'' => StR (stP k us d) b B 0 w' e w'' := fun w' hb hP' nm' =>
        st_all k us d hI.out.z m1 nm' b B w' (hOV.out.ons (fun a => a.elim (fun e => hG e.symm) (fun q => by have := (own.lt _ q.2.symm).1; omega)) hb) hG hP'
       cases hr : stP k us d with
       | more => exact absurd (by rw [hRk, hr]; rfl) nm2
       | bad pl =>
        have kD : ∀ w', OnS (fun k => k = b ∨ (0 < 3 ∧ some k = v.ownBlock)) V w' → PAt w' b B us 0 d → Calls Tryz.prog 63 #[.pointer (some ⟨b, 0, none⟩)] w' fun e w'' => StR (.bad pl) b B 0 w' e w'' := fun w' hb hP' => by rw [← hr]; exact kP w' hb hP' (by rw [hr]; simp)
        have e0 : R = .bad pl := by
         rw [eR.out, hRk, hr]
         rfl
        have onD := hD.out.on
        have fin : Hid (∀ X, OnS (fun k => k = b ∨ (0 < 3 ∧ some k = v.ownBlock)) V X → PgR R b B w (.panicked [{ v := fltV 4 pl, recovered := false }]) X) := fun X on => by
         rw [e0]
         exact ⟨((OnS.of gW'.out).thn (onD.thn (hV.thn on (fun k hk a => a.imp id (fun q => by have := (own.lt _ q.2.symm).1; omega))) (fun k hk a => a)) (fun k hk a => a)).onl (fun k hk a => a.elim id (fun e => by omega)), rfl⟩
        clear e0 hr kP hRk hI hOV eR hD qp2 qp'
        refine wp_region_row 7 [23, 24, 25, 26, 27, 28, 29] (fun n w _ w9 => OnS (fun k => k = b ∨ (n < 3 ∧ some k = v.ownBlock)) w w9) (PhS b B V2.heap.size us us d d v ls.length xs) [3, 4, 5] (RlsN [EqvN (.pointer (some ⟨g, 1, none⟩)), EqvN (v), EqvN (.pointer (some ⟨b, 0, none⟩)), (fun _ _ _ => False), (fun _ _ _ => False), (fun _ _ _ => False), EqvN (.pointer (some ⟨g, 1, none⟩))]) [0, 1, 2, 3, 4, 5, 6] (by kernel_rfl) (by kernel_rfl) (by kernel_rfl) (by kernel_rfl) (by kernel_rfl) (by kernel_rfl) (r := 1) (lst := #[true, true, true, true, true, true, true, false]) (by kernel_rfl) (by kernel_rfl) ((OnS.refl _ _).drew) (fun i x j y k z hi hj h g => h.thn g (fun c _ a => a.imp id (fun q => ⟨by omega, q.2⟩))) (⟨by rw [if_pos rfl, if_pos rfl]; exact hP.drew, fun _ => own⟩) (MonoE.of (MonoE.eq (MonoE.eq (MonoE.eq (MonoE.cons (fun _ _ _ _ _ _ h _ => h) (MonoE.cons (fun _ _ _ _ _ _ h _ => h) (MonoE.cons (fun _ _ _ _ _ _ h _ => h) (MonoE.eq MonoE.nil)))))))) ?_ ?_
        ·skip
         refine StepsJ.cons (o := _) rfl ?_ ?_
         ·try simp only [List.getElem_toArray, List.getElem_cons_zero, List.getElem_cons_succ]
          refine StepJ.of ?_ ?_ ?_
          ·rfl
          ·kernel_rfl
          intro A w n n2 hD hb hT0 hd0 hn hn2 K hK
          replace hD : Hid (A.defers = []) := hD
          obtain rfl := chain_no (by decide) hn2
          clear hn2
          have f0 : A.tmps[3]?.getD undef = .pointer (some ⟨g, 0, none⟩) := hT0 3 (by kernel_rfl)
          clear hT0 hd0
          go_simp
          exact hK.out _ _ (OnS.refl _ _) rfl hn
         refine StepsJ.cons (o := _) rfl ?_ ?_
         ·try simp only [List.getElem_toArray, List.getElem_cons_zero, List.getElem_cons_succ]
          refine StepJ.of ?_ ?_ ?_
          ·rfl
          ·kernel_rfl
          intro A w n n2 hD hb hT0 hd0 hn hn2 K hK
          replace hD : Hid (A.defers = []) := hD
          obtain rfl := chain_no (by decide) hn2
          clear hn2
          have e0 : A.tmps[23]?.getD undef = .pointer (some ⟨g, 1, none⟩) := hd0 0 23 (by kernel_rfl)
          clear hT0 hd0
          have c0 : w.cell? ⟨g, 1, none⟩ = some v := hb.cell (fun a => a.elim gb (fun q => gr q.2.symm)) cg
          go_simp
          exact hK.out _ _ (OnS.refl _ _) rfl hn
         refine StepsJ.cons (o := _) rfl ?_ ?_
         ·try simp only [List.getElem_toArray, List.getElem_cons_zero, List.getElem_cons_succ]
          refine StepJ.of ?_ ?_ ?_
          ·rfl
          ·kernel_rfl
          intro A w n n2 hD hb hT0 hd0 hn hn2 K hK
          replace hD : Hid (A.defers = []) := hD
          obtain rfl := chain_no (by decide) hn2
          clear hn2
          have f0 : A.tmps[0]?.getD undef = .pointer (some ⟨b, 0, none⟩) := hT0 0 (by kernel_rfl)
          clear hT0 hd0
          go_simp
          exact hK.out _ _ (OnS.refl _ _) rfl hn
         refine StepsJ.cons (o := _) rfl ?_ ?_
         ·try simp only [List.getElem_toArray, List.getElem_cons_zero, List.getElem_cons_succ]
          refine StepJ.of ?_ ?_ ?_
          ·rfl
          ·kernel_rfl
          intro A w n n2 hD hb hT0 hd0 hn hn2 K hK
          replace hD : Hid (A.defers = []) := hD
          obtain ⟨rfl, rfl⟩ := chain_at 0 (by decide) hn2
          have e0 : A.tmps[25]?.getD undef = .pointer (some ⟨b, 0, none⟩) := hd0 2 25 (by kernel_rfl)
          clear hT0 hd0
          go_simp
          refine (kD w hb (by have := hn.1; rwa [if_pos rfl, if_pos rfl] at this)).mono ?_
          rintro e w2 ⟨on2, rfl⟩
          exact ⟨hD.out, fin.out _ (hb.thn (on2.ons (S := fun k => k = b) rfl) (fun k _ e => Or.inl e))⟩
         refine StepsJ.cons (o := _) rfl ?_ ?_
         ·try simp only [List.getElem_toArray, List.getElem_cons_zero, List.getElem_cons_succ]
          refine StepJ.of ?_ ?_ ?_
          ·rfl
          ·kernel_rfl
          intro A w n n2 hD hb hT0 hd0 hn hn2 K hK
          replace hD : Hid (A.defers = []) := hD
          obtain ⟨rfl, rfl⟩ := chain_at 1 (by decide) hn2
          have r0 := hd0 3 26 (by kernel_rfl)
          clear hT0 hd0
          exact r0.elim
         refine StepsJ.cons (o := _) rfl ?_ ?_
         ·try simp only [List.getElem_toArray, List.getElem_cons_zero, List.getElem_cons_succ]
          refine StepJ.of ?_ ?_ ?_
          ·rfl
          ·kernel_rfl
          intro A w n n2 hD hb hT0 hd0 hn hn2 K hK
          replace hD : Hid (A.defers = []) := hD
          obtain ⟨rfl, rfl⟩ := chain_at 2 (by decide) hn2
          have r0 := hd0 4 27 (by kernel_rfl)
          clear hT0 hd0
          exact r0.elim
         refine StepsJ.cons (o := _) rfl ?_ ?_
         ·try simp only [List.getElem_toArray, List.getElem_cons_zero, List.getElem_cons_succ]
          refine StepJ.of ?_ ?_ ?_
          ·rfl
          ·kernel_rfl
          intro A w n n2 hD hb hT0 hd0 hn hn2 K hK
          replace hD : Hid (A.defers = []) := hD
          obtain rfl := chain_no (by decide) hn2
          clear hn2
          have f0 : A.tmps[3]?.getD undef = .pointer (some ⟨g, 0, none⟩) := hT0 3 (by kernel_rfl)
          clear hT0 hd0
          go_simp
          exact hK.out _ _ (OnS.refl _ _) rfl hn
         exact StepsJ.nil
        exact fun f g wz hb hph hR => (hR 3 26 (by decide) (by kernel_rfl)).elim
       | ok x us2 d2 =>
        have kD : ∀ w', OnS (fun k => k = b ∨ (0 < 3 ∧ some k = v.ownBlock)) V w' → PAt w' b B us 0 d → Calls Tryz.prog 63 #[.pointer (some ⟨b, 0, none⟩)] w' fun e w'' => StR (.ok x us2 d2) b B 0 w' e w'' := fun w' hb hP' => by rw [← hr]; exact kP w' hb hP' (by rw [hr]; simp)
        have z2 : Hid (Tz us2 ∧ us2.length < us.length) := by
         have := (st_sat k).1 us d hI.out.z
         rw [hr] at this
         exact this
        have u2 := z2.out.1.ne
        have hR3 : Hid (R2 = (ssP k us2 d2).thn fun l ts d => .ok (appS (ls ++ [x]) l) ts d) := by
         have h9 : R2 = (ssP k us2 d2).thn fun l ts d => .ok (appS (ls ++ [x]) l) ts d := by
          rw [hRk, hr]
          simp only [Rs.thn]
          cases ssP k us2 d2 <;> simp only [appS_snoc]
         exact h9
        have l1 : ls.length + 1 ≤ maxLen := by have := hI.out.ln; unfold maxLen; omega
        have l2 : (ls.length + 1) * 264 ≤ 140737488355328 := by have := hI.out.ln; omega
        clear hr hRk kP hOV
        refine wp_region_row 7 [23, 24, 25, 26, 27, 28, 29] (fun n w _ w9 => OnS (fun k => k = b ∨ (n < 3 ∧ some k = v.ownBlock)) w w9) (PhS b B V2.heap.size us us2 d d2 v ls.length xs) [3, 4, 5] (RlsN [EqvN (.pointer (some ⟨g, 1, none⟩)), EqvN (v), EqvN (.pointer (some ⟨b, 0, none⟩)), (fun _ y w => ∃ p0 q0 p1 q1 p2 q2 p3 q3 p4 q4 p5 q5, y = .agg #[.int .i64 x.dO, .string x.name, .slice p0 x.index.len q0, .int .i64 x.value.op, .string x.value.tx, .int .i64 x.value.ty, .slice p1 x.value.ks.len q1, .int .i64 x.low.op, .string x.low.tx, .int .i64 x.low.ty, .slice p2 x.low.ks.len q2, .int .i64 x.high.op, .string x.high.tx, .int .i64 x.high.ty, .slice p3 x.high.ks.len q3, .slice p4 x.thn.len q4, .slice p5 x.els.len q5] ∧ StV w (fun k => V.heap.size ≤ k) (.agg #[.int .i64 x.dO, .string x.name, .slice p0 x.index.len q0, .int .i64 x.value.op, .string x.value.tx, .int .i64 x.value.ty, .slice p1 x.value.ks.len q1, .int .i64 x.low.op, .string x.low.tx, .int .i64 x.low.ty, .slice p2 x.low.ks.len q2, .int .i64 x.high.op, .string x.high.tx, .int .i64 x.high.ty, .slice p3 x.high.ks.len q3, .slice p4 x.thn.len q4, .slice p5 x.els.len q5]) x), (fun _ y w => ∃ c p0 q0 p1 q1 p2 q2 p3 q3 p4 q4 p5 q5, y = .slice (some ⟨c, 0, none⟩) 1 1 ∧ w.heap[c]? = some (.cells #[.int .i64 x.dO, .string x.name, .slice p0 x.index.len q0, .int .i64 x.value.op, .string x.value.tx, .int .i64 x.value.ty, .slice p1 x.value.ks.len q1, .int .i64 x.low.op, .string x.low.tx, .int .i64 x.low.ty, .slice p2 x.low.ks.len q2, .int .i64 x.high.op, .string x.high.tx, .int .i64 x.high.ty, .slice p3 x.high.ks.len q3, .slice p4 x.thn.len q4, .slice p5 x.els.len q5] 87 (0, 0)) ∧ V.heap.size ≤ c ∧ StV w (fun k => V.heap.size ≤ k) (.agg #[.int .i64 x.dO, .string x.name, .slice p0 x.index.len q0, .int .i64 x.value.op, .string x.value.tx, .int .i64 x.value.ty, .slice p1 x.value.ks.len q1, .int .i64 x.low.op, .string x.low.tx, .int .i64 x.low.ty, .slice p2 x.low.ks.len q2, .int .i64 x.high.op, .string x.high.tx, .int .i64 x.high.ty, .slice p3 x.high.ks.len q3, .slice p4 x.thn.len q4, .slice p5 x.els.len q5]) x), (fun n y w => 3 ≤ n ∧ ∃ CS : List Value, CS.length = 17 ∧ w.ownsRow V2.heap.size 87 17 y (ls.length + 1) (xs ++ CS) ∧ StV w (fun k => V.heap.size ≤ k ∧ some k ≠ y.ownBlock) (.agg CS.toArray) x ∧ (y.ownBlock = v.ownBlock ∨ ∃ k, y.ownBlock = some k ∧ V.heap.size ≤ k)), EqvN (.pointer (some ⟨g, 1, none⟩))]) [0, 1, 2, 3, 4, 5, 6] (by kernel_rfl) (by kernel_rfl) (by kernel_rfl) (by kernel_rfl) (by kernel_rfl) (by kernel_rfl) (r := 1) (lst := #[true, true, true, true, true, true, true, false]) (by kernel_rfl) (by kernel_rfl) ((OnS.refl _ _).drew) (fun i x j y k z hi hj h g => h.thn g (fun c _ a => a.imp id (fun q => ⟨by omega, q.2⟩))) (⟨by rw [if_pos rfl, if_pos rfl]; exact hP.drew, fun _ => own⟩) (MonoE.of (MonoE.eq (MonoE.eq (MonoE.eq (MonoE.cons (fun y n w n2 w2 _ ⟨p0, q0, p1, q1, p2, q2, p3, q3, p4, q4, p5, q5, h1, h2⟩ g => ⟨p0, q0, p1, q1, p2, q2, p3, q3, p4, q4, p5, q5, h1, h2.kp (g.kp (fun i9 a e => e.elim (fun e => by have := hP.lt; omega) (fun q => by have := (own.lt i9 q.2.symm).2; omega)))⟩) (MonoE.cons (fun y n w n2 w2 _ ⟨c, p0, q0, p1, q1, p2, q2, p3, q3, p4, q4, p5, q5, h1, h2, h3, h4⟩ g => ⟨c, p0, q0, p1, q1, p2, q2, p3, q3, p4, q4, p5, q5, h1, (g.block c (lt_of h2) (fun e => e.elim (fun e => by have := hP.lt; omega) (fun q => by have := (own.lt c q.2.symm).2; omega))).trans h2, h3, h4.kp (g.kp (fun i9 a e => e.elim (fun e => by have := hP.lt; omega) (fun q => by have := (own.lt i9 q.2.symm).2; omega)))⟩) (MonoE.cons (fun y n w n2 w2 hn2 ⟨h0, CS, lC, h1, h2, h3⟩ g => ⟨by omega, CS, lC, own_ons g h1 (fun k hk a => a.elim (fun e => by have := (h1.lt k hk).1; omega) (fun q => by omega)), h2.kp (g.kp (fun k a e => e.elim (fun e => by have := hP.lt; have := a.1; omega) (fun q => by omega))), h3⟩) (MonoE.eq MonoE.nil)))))))) ?_ ?_
        ·skip
         refine StepsJ.cons (o := _) rfl ?_ ?_
         ·try simp only [List.getElem_toArray, List.getElem_cons_zero, List.getElem_cons_succ]
          refine StepJ.of ?_ ?_ ?_
          ·rfl
          ·kernel_rfl
          intro A w n n2 hD hb hT0 hd0 hn hn2 K hK
          replace hD : Hid (A.defers = []) := hD
          obtain rfl := chain_no (by decide) hn2
          clear hn2
          have f0 : A.tmps[3]?.getD undef = .pointer (some ⟨g, 0, none⟩) := hT0 3 (by kernel_rfl)
          clear hT0 hd0
          go_simp
          exact hK.out _ _ (OnS.refl _ _) rfl hn
         refine StepsJ.cons (o := _) rfl ?_ ?_
         ·try simp only [List.getElem_toArray, List.getElem_cons_zero, List.getElem_cons_succ]
          refine StepJ.of ?_ ?_ ?_
          ·rfl
          ·kernel_rfl
          intro A w n n2 hD hb hT0 hd0 hn hn2 K hK
          replace hD : Hid (A.defers = []) := hD
          obtain rfl := chain_no (by decide) hn2
          clear hn2
          have e0 : A.tmps[23]?.getD undef = .pointer (some ⟨g, 1, none⟩) := hd0 0 23 (by kernel_rfl)
          clear hT0 hd0
          have c0 : w.cell? ⟨g, 1, none⟩ = some v := hb.cell (fun a => a.elim gb (fun q => gr q.2.symm)) cg
          go_simp
          exact hK.out _ _ (OnS.refl _ _) rfl hn
         refine StepsJ.cons (o := _) rfl ?_ ?_
         ·try simp only [List.getElem_toArray, List.getElem_cons_zero, List.getElem_cons_succ]
          refine StepJ.of ?_ ?_ ?_
          ·rfl
          ·kernel_rfl
          intro A w n n2 hD hb hT0 hd0 hn hn2 K hK
          replace hD : Hid (A.defers = []) := hD
          obtain rfl := chain_no (by decide) hn2
          clear hn2
          have f0 : A.tmps[0]?.getD undef = .pointer (some ⟨b, 0, none⟩) := hT0 0 (by kernel_rfl)
          clear hT0 hd0
          go_simp
          exact hK.out _ _ (OnS.refl _ _) rfl hn
         refine StepsJ.cons (o := _) rfl ?_ ?_
         ·try simp only [List.getElem_toArray, List.getElem_cons_zero, List.getElem_cons_succ]
          refine StepJ.of ?_ ?_ ?_
          ·rfl
          ·kernel_rfl
          intro A w n n2 hD hb hT0 hd0 hn hn2 K hK
          replace hD : Hid (A.defers = []) := hD
          obtain ⟨rfl, rfl⟩ := chain_at 0 (by decide) hn2
          have e0 : A.tmps[25]?.getD undef = .pointer (some ⟨b, 0, none⟩) := hd0 2 25 (by kernel_rfl)
          clear hT0 hd0
          go_simp
          refine (kD w hb (by have := hn.1; rwa [if_pos rfl, if_pos rfl] at this)).mono ?_
          rintro e w2 ⟨on2, vv, rfl, ⟨p0, q0, p1, q1, p2, q2, p3, q3, p4, q4, p5, q5, rfl, jj⟩, hP2⟩
          exact hK.out _ _ (on2.ons (Or.inl rfl)) ⟨p0, q0, p1, q1, p2, q2, p3, q3, p4, q4, p5, q5, rfl, StV.lo (fun k a => Nat.le_trans hb.size a) ⟨p0, q0, p1, q1, p2, q2, p3, q3, p4, q4, p5, q5, rfl, jj⟩⟩ ⟨hP2, fun _ => own_ons (on2.ons (S := fun k => k = b) rfl) (hn.2 (by omega)) (fun k hk e => by have := (own.lt k hk).1; omega)⟩
         refine StepsJ.cons (o := _) rfl ?_ ?_
         ·try simp only [List.getElem_toArray, List.getElem_cons_zero, List.getElem_cons_succ]
          refine StepJ.of ?_ ?_ ?_
          ·rfl
          ·kernel_rfl
          intro A w n n2 hD hb hT0 hd0 hn hn2 K hK
          replace hD : Hid (A.defers = []) := hD
          obtain ⟨rfl, rfl⟩ := chain_at 1 (by decide) hn2
          have r0 := hd0 3 26 (by kernel_rfl)
          clear hT0 hd0
          obtain ⟨p0, q0, p1, q1, p2, q2, p3, q3, p4, q4, p5, q5, e9, k9⟩ : ∃ p0 q0 p1 q1 p2 q2 p3 q3 p4 q4 p5 q5, A.tmps[26]?.getD undef = .agg #[.int .i64 x.dO, .string x.name, .slice p0 x.index.len q0, .int .i64 x.value.op, .string x.value.tx, .int .i64 x.value.ty, .slice p1 x.value.ks.len q1, .int .i64 x.low.op, .string x.low.tx, .int .i64 x.low.ty, .slice p2 x.low.ks.len q2, .int .i64 x.high.op, .string x.high.tx, .int .i64 x.high.ty, .slice p3 x.high.ks.len q3, .slice p4 x.thn.len q4, .slice p5 x.els.len q5] ∧ StV w (fun k => V.heap.size ≤ k) (.agg #[.int .i64 x.dO, .string x.name, .slice p0 x.index.len q0, .int .i64 x.value.op, .string x.value.tx, .int .i64 x.value.ty, .slice p1 x.value.ks.len q1, .int .i64 x.low.op, .string x.low.tx, .int .i64 x.low.ty, .slice p2 x.low.ks.len q2, .int .i64 x.high.op, .string x.high.tx, .int .i64 x.high.ty, .slice p3 x.high.ks.len q3, .slice p4 x.thn.len q4, .slice p5 x.els.len q5]) x := r0
          go_simp
          exact hK.out _ _ (OnS.of (pb_new (Below.refl _ _) _)) ⟨_, p0, q0, p1, q1, p2, q2, p3, q3, p4, q4, p5, q5, rfl, World.alloc_heap_new _ _, hb.size, k9.kp (Below.kp (pb_new (Below.refl _ _) _) _)⟩ (hn.ons u0 u2 (pb_new (Below.refl _ _) _) (by omega))
         refine StepsJ.cons (o := _) rfl ?_ ?_
         ·try simp only [List.getElem_toArray, List.getElem_cons_zero, List.getElem_cons_succ]
          refine StepJ.of ?_ ?_ ?_
          ·rfl
          ·kernel_rfl
          intro A w n n2 hD hb hT0 hd0 hn hn2 K hK
          replace hD : Hid (A.defers = []) := hD
          obtain ⟨rfl, rfl⟩ := chain_at 2 (by decide) hn2
          have e0 : A.tmps[24]?.getD undef = v := hd0 1 24 (by kernel_rfl)
          have r1 := hd0 4 27 (by kernel_rfl)
          clear hT0 hd0
          obtain ⟨c, p0, q0, p1, q1, p2, q2, p3, q3, p4, q4, p5, q5, e4, qq4, l4, k4⟩ : ∃ c p0 q0 p1 q1 p2 q2 p3 q3 p4 q4 p5 q5, A.tmps[27]?.getD undef = .slice (some ⟨c, 0, none⟩) 1 1 ∧ w.heap[c]? = some (.cells #[.int .i64 x.dO, .string x.name, .slice p0 x.index.len q0, .int .i64 x.value.op, .string x.value.tx, .int .i64 x.value.ty, .slice p1 x.value.ks.len q1, .int .i64 x.low.op, .string x.low.tx, .int .i64 x.low.ty, .slice p2 x.low.ks.len q2, .int .i64 x.high.op, .string x.high.tx, .int .i64 x.high.ty, .slice p3 x.high.ks.len q3, .slice p4 x.thn.len q4, .slice p5 x.els.len q5] 87 (0, 0)) ∧ V.heap.size ≤ c ∧ StV w (fun k => V.heap.size ≤ k) (.agg #[.int .i64 x.dO, .string x.name, .slice p0 x.index.len q0, .int .i64 x.value.op, .string x.value.tx, .int .i64 x.value.ty, .slice p1 x.value.ks.len q1, .int .i64 x.low.op, .string x.low.tx, .int .i64 x.low.ty, .slice p2 x.low.ks.len q2, .int .i64 x.high.op, .string x.high.tx, .int .i64 x.high.ty, .slice p3 x.high.ks.len q3, .slice p4 x.thn.len q4, .slice p5 x.els.len q5]) x := r1
          have ow := hn.2 (by omega)
          have oC := st_one x p0 p1 p2 p3 p4 p5 q0 q1 q2 q3 q4 q5
          obtain ⟨CS, hCS⟩ : ∃ C : List Value, [.int .i64 x.dO, .string x.name, .slice p0 x.index.len q0, .int .i64 x.value.op, .string x.value.tx, .int .i64 x.value.ty, .slice p1 x.value.ks.len q1, .int .i64 x.low.op, .string x.low.tx, .int .i64 x.low.ty, .slice p2 x.low.ks.len q2, .int .i64 x.high.op, .string x.high.tx, .int .i64 x.high.ty, .slice p3 x.high.ks.len q3, .slice p4 x.thn.len q4, .slice p5 x.els.len q5] = C := ⟨_, rfl⟩
          have lC : CS.length = 17 := by rw [← hCS]; rfl
          rw [hCS] at oC
          have q5' : w.heap[c]? = some (.cells CS.toArray 87 (0, 0)) := by rw [← hCS]; exact qq4
          have k5 : StV w (fun k => V.heap.size ≤ k) (.agg CS.toArray) x := by rw [← hCS]; exact k4
          clear hCS qq4 k4
          obtain ⟨v2, W2, hr, hown2, hgrow, _, hat⟩ := run_append_own_at (P := Tryz.prog) w V2.heap.size 23 23 87 i1 (.agg #[.int .i64 0, .string ⟨#[]⟩, .slice none 0 0, .int .i64 0, .string ⟨#[]⟩, .int .i64 0, .slice none 0 0, .int .i64 0, .string ⟨#[]⟩, .int .i64 0, .slice none 0 0, .int .i64 0, .string ⟨#[]⟩, .int .i64 0, .slice none 0 0, .slice none 0 0, .slice none 0 0]) 17 264 Tryz.underlying23 hj hj0 hj1 hj2 rfl (by decide) _ _ _ ow ⟨c, 0, none⟩ 1 1 CS (by rw [lC]) (st_cells q5') oC l1 l2 (by have := hb.size; have := hV.size; omega)
          refine wp_appendAt (.tmp 24) (.tmp 27) 23 rfl v (.slice (some ⟨c, 0, none⟩) 1 1) (show A.tmps.getD 24 undef = v by rw [Array.getD_eq_getD_getElem?]; exact e0) (show A.tmps.getD 27 undef = _ by rw [Array.getD_eq_getD_getElem?]; exact e4) v2 W2 hr ?_
          have k6 : StV W2 (fun k => V.heap.size ≤ k ∧ some k ≠ v2.ownBlock) (.agg CS.toArray) x := by
           refine ((k5.lt).kp (fun i a h2 => hgrow.block i h2 (fun e => by have := (own.lt i e.symm).2; have := a.1; omega))).lo (fun i a => ⟨a.1, fun e => ?_⟩)
           rcases hat with h | h
           ·rw [h] at e; have := (own.lt i e.symm).2; have := a.1; omega
           ·rw [h] at e; have := Option.some.inj e; have := a.2; omega
          refine hK.out _ _ ((OnS.refl _ w).grown hgrow (fun k hk => Or.inl (Or.inr ⟨by omega, hk.symm⟩))) ⟨Nat.le_refl _, CS, lC, hown2, k6, hat.imp id (fun e => ⟨_, e, hb.size⟩)⟩ ⟨?_, fun a => absurd a (by omega)⟩
          have hP2 := hn.1
          rw [if_neg (by omega), if_neg (by omega)] at hP2 ⊢
          exact hP2.on (hgrow.block b hP2.lt (fun e => by have := (own.lt b e.symm).1; omega)) (hgrow.block B (hP2.ltB u2) (fun e => by have := (own.lt B e.symm).1; omega))
         refine StepsJ.cons (o := _) rfl ?_ ?_
         ·try simp only [List.getElem_toArray, List.getElem_cons_zero, List.getElem_cons_succ]
          refine StepJ.of ?_ ?_ ?_
          ·rfl
          ·kernel_rfl
          intro A w n n2 hD hb hT0 hd0 hn hn2 K hK
          replace hD : Hid (A.defers = []) := hD
          obtain rfl := chain_no (by decide) hn2
          clear hn2
          have f0 : A.tmps[3]?.getD undef = .pointer (some ⟨g, 0, none⟩) := hT0 3 (by kernel_rfl)
          clear hT0 hd0
          go_simp
          exact hK.out _ _ (OnS.refl _ _) rfl hn
         exact StepsJ.nil
        intro f gg wz hb hph hR
        obtain ⟨_, CS, lC, own2, kS, hat⟩ : 3 ≤ 3 ∧ ∃ CS : List Value, CS.length = 17 ∧ wz.ownsRow V2.heap.size 87 17 (gg 28) (ls.length + 1) (xs ++ CS) ∧ StV wz (fun k => V.heap.size ≤ k ∧ some k ≠ (gg 28).ownBlock) (.agg CS.toArray) x ∧ ((gg 28).ownBlock = v.ownBlock ∨ ∃ k, (gg 28).ownBlock = some k ∧ V.heap.size ≤ k) := hR 5 28 (by decide) (by kernel_rfl)
        have e6 : gg 29 = .pointer (some ⟨g, 1, none⟩) := hR 6 29 (by decide) (by kernel_rfl)
        have hb : OnS (fun k => k = b ∨ (0 < 3 ∧ some k = v.ownBlock)) V wz := hb
        have hP2 : PAt wz b B us2 0 d2 := by have := hph.1; rwa [if_neg (by decide), if_neg (by decide)] at this
        have qz : wz.heap[g]? = some (.cells #[dv, v] 25 (0, 0)) := (hb.block g (lt_of hI.out.qg) (fun a => a.elim gb (fun q => gr q.2.symm))).trans hI.out.qg
        obtain ⟨hJ, hms⟩ := ss_step hI.out hR3.out hb hP2 own2 lC kS hat z2.out bg Bg (by omega) (by omega)
        have hJ2 : Hid _ := hJ
        clear hJ
        obtain ⟨yo, yc, ey⟩ := po_shape own2
        simp only [fillT, List.foldl_cons, List.foldl_nil, List.setIfInBounds_toArray, List.set_cons_zero, List.set_cons_succ]
        generalize gg 28 = y at *
        rw [e6]
        clear hR e6 hph own2 hat kS
        have q0 : wz.cell? ⟨g, 1, none⟩ = some v := by simp [World.cell?, qz]
        have qf : wz.frozen? ⟨g, 1, none⟩ = false := by simp [World.frozen?, qz]
        clear qz cg
        subst ey
        refine wpAny_ready (rs := [7]) (by kernel_rfl) (by simp) (AllReady.cons (o := _) rfl (fun K hK => ?_) AllReady.nil)
        go_simp
        refine hK _ _ ?_
        clear hK K
        refine wpAny_done (by kernel_rfl) ?_ _
        go_wp2_with fail
        exact ⟨⟨_, us2, ls ++ [x], d2, _, _, rfl, hJ2⟩, by rw [hms, msV.out]; exact z2.out.2⟩
      case pos =>
       have ce : (((t.1 : Nat) : Int) == 0) = true := by rw [beq_iff_eq]; omega
       rw [if_pos (show (hd (t :: us')).1 = 0 from c), ← eus] at hRk
       have eR2 : R2 = .ok (appS ls .nil) us d := by rw [hRk]; rfl
       have e0 : Hid (R = .ok (dl, appS ls .nil) us d) := by
        have h9 : R = .ok (dl, appS ls .nil) us d := by rw [eR.out, eR2]; rfl
        exact h9
       clear hRk eR2 eR
       go_upto_region 6 with (first
        | (go_at_call 62; (with_reducible refine (pended b B t us' 0 d _ (by rw [← eus]; exact hP_)).mono ?_); rintro e V ⟨rfl, g1⟩)
        | fail)
       have hI := hI_.out.bel g1
       have onV := hI.on
       have onD := hD.out.on
       have qpV : V.heap[p]? = some (.cells #[.slice none 0 0, .slice none 0 0] 25 (0, 0)) := (onV.block p (lt_of qp2.out) (fun a => a.elim (fun e => by omega) (fun e => by omega))).trans qp2.out
       have ownD := hD.out.own
       have sD : SlDc V dv dl := (own_dc ownD).same (fun k hk => onV.block k (ownD.lt k hk).2 (fun a => by have := (ownD.lt k hk).1; rcases a with a | a <;> omega))
       have sS : SlS V (Fr V2.heap.size) v (appS ls .nil) := CsAt.sl hI.own (S := (fun k => V2.heap.size ≤ k ∧ some k ≠ v.ownBlock)) (fun k a => a.1) hI.tr
       have onF : Onl b w V := ((OnS.of gW'.out).thn (onD.thn onV (fun k hk a => a)) (fun k hk a => a)).onl (fun k hk a => a.elim id (fun e => by omega))
       have hPV := hI.P
       obtain ⟨vo, vc, ev⟩ := po_shape hI.own
       obtain ⟨wo, wc, ew⟩ := po_shape ownD
       have fin : Hid (∀ y0 y1, PgR R b B w (.returned (.agg #[dv, v])) ((V.setCell ⟨p, 0, none⟩ y0).setCell ⟨p, 1, none⟩ y1)) := fun y0 y1 => by
        rw [e0.out]
        refine ⟨(onF.setNew (by omega) _).setNew (by omega) _, dv, v, rfl, ?_, ?_, fun k hk => by have := (ownD.lt k hk).1; omega, (hPV.far (by omega) (by omega) _).far (by omega) (by omega) _⟩
        ·exact sD.same (fun k hk => (Below.heap_setCell _ _ _ _ (fun e => by have e' : k = p := e; have := (ownD.lt k hk).1; omega)).trans (Below.heap_setCell _ _ _ _ (fun e => by have e' : k = p := e; have := (ownD.lt k hk).1; omega)))
        ·have hn : ¬ Fr V2.heap.size p := fun a => by have a' : V2.heap.size ≤ p := a; omega
         exact (((sS.kp (Kp.set hn)).kp (Kp.set hn))).lo (fun k a => by have a' : V2.heap.size ≤ k := a; show w.heap.size ≤ k; omega)
       have c0 : V.cell? ⟨g, 0, none⟩ = some dv := by simp [World.cell?, hI.qg]
       have c1 : V.cell? ⟨g, 1, none⟩ = some v := by simp [World.cell?, hI.qg]
       have p0 : V.cell? ⟨p, 0, none⟩ = some (.slice none 0 0) := by simp [World.cell?, qpV]
       have p1 : V.cell? ⟨p, 1, none⟩ = some (.slice none 0 0) := by simp [World.cell?, qpV]
       have pf : ∀ j, V.frozen? ⟨p, j, none⟩ = false := fun j => by simp [World.frozen?, qpV]
       subst ev ew
       clear hI hI_ hP_ hD qp2 qp' e0 sD sS hPV ownD onV onD onF qpV
       go_wp2_with fail
       exact bodyPost_ret (v := .agg #[.slice wo dl.length wc, .slice vo ls.length vc]) (by simp [results, Tryz.results39, go_sem, p0, p1]) rfl (fin.out _ _)
end Go.Proofs.YtknoibocpbfmmaaGreatDoor



