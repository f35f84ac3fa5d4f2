/- declaration. -/
import Derived.Test.YtknoibocpbfmmaaGreatDoorWG15
import Derived.Test.YtknoibocpbfmmaaGreatDoorWG16
import Derived.Test.YtknoibocpbfmmaaGreatDoorWWpJ
namespace Go.Proofs.YtknoibocpbfmmaaGreatDoor
open Go.RowKit
set_option linter.unusedVariables false
set_option linter.unusedSimpArgs false
/-- What a declaration comes to. -/
def DcR (r : Rs Dc) (b B : Nat) (o : Int) (w : World) (e : Ending) (w' : World) : Prop :=
 Onl b w w' ∧ match r with
 | .ok x us d => e = .returned (.agg #[.string x.1, .int .i64 x.2.1, .int .i64 x.2.2]) ∧ PAt w' b B us o d
 | .bad p => Fault 4 p e
 | .more => True
/-- strconv.ErrRange, as it lies. -/
def EvAt (w : World) : Prop := ∃ ev, w.cell? ⟨3, 0, none⟩ = some ev ∧ (ev = .nilIface ∨ ∃ te pe, ev = .iface te pe)
theorem EvAt.onl {b : Nat} {w V : World} (h : EvAt w) (hb : b ≠ 3) (g : Onl b w V) : EvAt V := by
 obtain ⟨ev, h1, h2⟩ := h
 exact ⟨ev, g.cell (fun e => hb e.symm) h1, h2⟩
/-- Ints' texts are digits. -/
def Dz (ts : List Tk) : Prop := ∀ t ∈ ts, t.1 = 3 → Dgs t.2.1.data.toList ∧ t.2.1.size ≤ 281474976710656
theorem Dz.tl {t : Tk} {ts : List Tk} (h : Dz (t :: ts)) : Dz ts := fun x hx => h x (List.mem_cons_of_mem _ hx)
theorem PAt.drew {W : World} {b B : Nat} {ts : List Tk} {o d : Int} (h : PAt W b B ts o d) : PAt W.drew b B ts o d := h.on rfl rfl
/-- Behind n of a row of calls the parser has these tokens. -/
def PhP (b B : Nat) (l : List (List Tk)) (o d : Int) (n : Nat) (w : World) : Prop := ∃ ts, l[n]? = some ts ∧ ts ≠ [] ∧ PAt w b B ts o d
theorem PhP.bel {b B : Nat} {l : List (List Tk)} {o d : Int} {n : Nat} {w w' : World} (h : PhP b B l o d n w) (g : Below w.heap.size w w') : PhP b B l o d n w' := by
 obtain ⟨ts, h1, h2, h3⟩ := h
 exact ⟨ts, h1, h2, h3.bel h2 g⟩
theorem PhP.at {b B : Nat} {l : List (List Tk)} {o d : Int} {n : Nat} {w : World} (h : PhP b B l o d n w) {ts : List Tk} (e : l[n]? = some ts) : PAt w b B ts o d := by
 obtain ⟨ts', h1, h2, h3⟩ := h
 rw [e] at h1; cases h1; exact h3
theorem PhP.none {b B : Nat} {l : List (List Tk)} {o d : Int} {n : Nat} {w : World} (h : PhP b B l o d n w) (e : l[n]? = none) : False := by
 obtain ⟨ts', h1, h2, h3⟩ := h
 rw [e] at h1; cases h1
/-- A declaration stored into the block of what is told. -/
theorem dc_done {Z : Obj} {w V : World} {b B p : Nat} {us : List Tk} {o d : Int} (h : SitZ Z b B p w V us o d) {x : Dc} {e : Ending} (he : e = .returned (.agg #[.string x.1, .int .i64 x.2.1, .int .i64 x.2.2])) {r : Rs Dc} (hr : r = .ok x us d) (y0 y1 y2 : Value) :
  DcR r b B o w e (((V.setCell ⟨p, 0, none⟩ y0).setCell ⟨p, 1, none⟩ y1).setCell ⟨p, 2, none⟩ y2) := by
 subst hr
 exact ⟨((h.on.setNew h.zp _).setNew h.zp _).setNew h.zp _, he, ((h.P.far h.pb h.pB _).far h.pb h.pB _).far h.pb h.pB _⟩
theorem dc_cells {V : World} {c : Nat} {t : TypeId} {y0 y1 y2 : Value} (q : V.heap[c]? = some (.cells #[y0, y1, y2] t (0, 0))) : V.cell? ⟨c, 0, none⟩ = some y0 ∧ V.cell? ⟨c, 1, none⟩ = some y1 ∧ V.cell? ⟨c, 2, none⟩ = some y2 ∧ ∀ j, V.frozen? ⟨c, j, none⟩ = false :=
 ⟨by simp [World.cell?, q], by simp [World.cell?, q], by simp [World.cell?, q], fun j => by simp [World.frozen?, q]⟩
theorem SitZ.set {Z : Obj} {b B p : Nat} {w V : World} {ts : List Tk} {o d : Int} (h : SitZ Z b B p w V ts o d) {c : Nat} (zc : w.heap.size ≤ c) (pc : p ≠ c) (cb : c ≠ b) (cB : c ≠ B) (j : Nat) (y : Value) : SitZ Z b B p w (V.setCell ⟨c, j, none⟩ y) ts o d := h.setN zc pc cb cB j [y]
set_option maxRecDepth 100000 in
set_option maxHeartbeats 3200000 in
theorem pdecl (ts : List Tk) (d : Int) (z : Tz ts) (dz : Dz ts) (b B : Nat) (w : World) (hO0 : OpsAt w) (hG : b ≠ 0) (hE : EvAt w) (hGe : b ≠ 3) (h : PAt w b B ts 0 d) :
  Calls Tryz.prog 61 #[.pointer (some ⟨b, 0, none⟩)] w fun e w' => DcR (dcP ts d) b B 0 w e w' := by
 obtain ⟨R, hR⟩ : ∃ R, dcP ts d = R := ⟨_, rfl⟩
 rw [hR]
 obtain ⟨t, us, rfl⟩ := z.cons
 have hne : t :: us ≠ [] := by simp
 unfold dcP at hR
 simp only [List.tail_cons] at hR
 have hlt := h.lt
 have hltB := h.ltB hne
 go_enter Tryz.func61, Tryz.ntmps61
 go_upto_region 1 with fail
 obtain ⟨V, hV⟩ : ∃ W, w.alloc (.cells #[.string ⟨#[]⟩, .int .i64 0, .int .i64 0] 53) = W := ⟨_, rfl⟩
 obtain ⟨p, hp⟩ : ∃ p, w.heap.size = p := ⟨_, rfl⟩
 have hS : SitZ (.cells #[.string ⟨#[]⟩, .int .i64 0, .int .i64 0] 53 (0, 0)) b B p w V (t :: us) 0 d := by
  have gW : Below w.heap.size w V := by rw [← hV]; exact pb_new (Below.refl _ _) _
  refine ⟨(Onl.refl b w).below gW, ?_, h.bel hne gW, hO0.bel gW, Nat.le_of_eq hp, by omega, by omega, hG, hlt⟩
  rw [← hV, ← hp]; exact World.alloc_heap_new w _
 rw [hV]
 (try rw [hp])
 clear hV h hO0 hp hltB
 have lbV : b < V.heap.size := hS.P.lt
 have hE' : Hid (EvAt w) := hE
 have hBV : Hid (B < V.heap.size) := hS.P.ltB hne
 clear hE
 by_cases c1 : t.1 = 2
 case neg =>
  rw [if_neg (show ¬ (hd (t :: us)).1 = 2 from c1)] at hR
  have hk1 : t.1 ∉ [2] := by simp; exact c1
  have e0 : Hid (R = .bad t.2.2) := hR.symm
  clear hR z
  have fin : Hid (∀ X, Onl b V X → DcR R b B 0 w (.panicked [{ v := fltV 4 t.2.2, recovered := false }]) X) := fun X on => by rw [e0.out]; exact ⟨hS.on.trans on, rfl⟩
  refine wp_region_row 13 [4, 5, 6, 7, 8, 9, 10, 11, 12, 13, 14, 15, 3] (fun _ w _ w9 => Onl b w w9) (PhP b B [t :: us] 0 d) [4, 5, 10] (RlsN [EqvN (.pointer (some ⟨b, 0, none⟩)), EqvN (.pointer (some ⟨b, 0, none⟩)), EqvN (.pointer (some ⟨b, 0, none⟩)), (fun _ v w => ∃ c, v = .slice (some ⟨c, 0, none⟩) 1 1 ∧ KsAt w c [2] ∧ c ≠ b), (fun _ _ _ => False), EqvN (.int .i64 (tyOf t.2.1)), EqvN (.pointer (some ⟨b, 0, none⟩)), EqvN (.pointer (some ⟨b, 0, none⟩)), EqvN (.pointer (some ⟨b, 0, none⟩)), (fun _ v w => ∃ c, v = .slice (some ⟨c, 0, none⟩) 1 1 ∧ KsAt w c [1] ∧ c ≠ b), (fun _ _ _ => False), (fun _ _ _ => False), (fun _ v w => ∃ c, v = .pointer (some ⟨c, 0, none⟩) ∧ w.heap[c]? = some (.cells #[.string ⟨#[]⟩, .int .i64 0, .int .i64 0] 53 (0, 0)) ∧ V.heap.size ≤ c)]) [0, 1, 2, 3, 4, 5, 6, 7, 8, 9, 10, 11, 12] (by kernel_rfl) (by kernel_rfl) (by kernel_rfl) (by kernel_rfl) (by kernel_rfl) (by kernel_rfl) (r := 1) (lst := #[true, true, true, true, true, true, true, true, true, true, true, true, true, false]) (by kernel_rfl) (by kernel_rfl) ((Onl.refl b V).drew) (fun _ _ _ _ _ _ _ _ h k => h.trans k) (⟨_, rfl, hne, hS.P.drew⟩) (MonoE.of (MonoE.eq (MonoE.eq (MonoE.eq (MonoE.cons (fun v n w n2 w2 _ ⟨c, h1, h2, h3⟩ g => ⟨c, h1, fun j k e => g.cell h3 (h2 j k e), h3⟩) (MonoE.cons (fun _ _ _ _ _ _ h _ => h) (MonoE.eq (MonoE.eq (MonoE.eq (MonoE.eq (MonoE.cons (fun v n w n2 w2 _ ⟨c, h1, h2, h3⟩ g => ⟨c, h1, fun j k e => g.cell h3 (h2 j k e), h3⟩) (MonoE.cons (fun _ _ _ _ _ _ h _ => h) (MonoE.cons (fun _ _ _ _ _ _ h _ => h) (MonoE.cons (fun v n w n2 w2 _ ⟨c, h1, h2, h3⟩ g => ⟨c, h1, (g.block c (lt_of h2) (by omega)).trans h2, h3⟩) MonoE.nil)))))))))))))) ?_ ?_
  ·skip
   refine StepsJ.cons (o := _) rfl ?_ ?_
   ·try simp only [List.getElem_toArray, List.getElem_cons_zero, List.getElem_cons_succ]
    refine StepJ.of ?_ ?_ ?_
    ·rfl
    ·kernel_rfl
    intro A w n n2 hD hb hT0 hd0 hn hn2 K hK
    replace hD : Hid (A.defers = []) := hD
    obtain rfl := chain_no (by decide) hn2
    clear hn2
    have f0 : A.tmps[0]?.getD undef = .pointer (some ⟨b, 0, none⟩) := hT0 0 (by kernel_rfl)
    clear hT0 hd0
    go_simp
    exact hK.out _ _ (Onl.refl b _) rfl hn
   refine StepsJ.cons (o := _) rfl ?_ ?_
   ·try simp only [List.getElem_toArray, List.getElem_cons_zero, List.getElem_cons_succ]
    refine StepJ.of ?_ ?_ ?_
    ·rfl
    ·kernel_rfl
    intro A w n n2 hD hb hT0 hd0 hn hn2 K hK
    replace hD : Hid (A.defers = []) := hD
    obtain rfl := chain_no (by decide) hn2
    clear hn2
    have e0 : A.tmps[4]?.getD undef = .pointer (some ⟨b, 0, none⟩) := hd0 0 4 (by kernel_rfl)
    clear hT0 hd0
    go_simp
    exact hK.out _ _ (Onl.refl b _) rfl hn
   refine StepsJ.cons (o := _) rfl ?_ ?_
   ·try simp only [List.getElem_toArray, List.getElem_cons_zero, List.getElem_cons_succ]
    refine StepJ.of ?_ ?_ ?_
    ·rfl
    ·kernel_rfl
    intro A w n n2 hD hb hT0 hd0 hn hn2 K hK
    replace hD : Hid (A.defers = []) := hD
    obtain rfl := chain_no (by decide) hn2
    clear hn2
    have e0 : A.tmps[5]?.getD undef = .pointer (some ⟨b, 0, none⟩) := hd0 1 5 (by kernel_rfl)
    clear hT0 hd0
    go_simp
    exact hK.out _ _ (Onl.refl b _) rfl hn
   refine StepsJ.cons (o := _) rfl ?_ ?_
   ·try simp only [List.getElem_toArray, List.getElem_cons_zero, List.getElem_cons_succ]
    refine StepJ.of ?_ ?_ ?_
    ·rfl
    ·kernel_rfl
    intro A w n n2 hD hb hT0 hd0 hn hn2 K hK
    replace hD : Hid (A.defers = []) := hD
    obtain rfl := chain_no (by decide) hn2
    clear hn2
    clear hT0 hd0
    go_simp
    exact hK.out _ _ ((Onl.refl b w).below (pb_new (Below.refl _ _) _)) ⟨_, rfl, ks1 2 rfl, by have := hb.size; omega⟩ (hn.bel (pb_new (Below.refl _ _) _))
   refine StepsJ.cons (o := _) rfl ?_ ?_
   ·try simp only [List.getElem_toArray, List.getElem_cons_zero, List.getElem_cons_succ]
    refine StepJ.of ?_ ?_ ?_
    ·rfl
    ·kernel_rfl
    intro A w n n2 hD hb hT0 hd0 hn hn2 K hK
    replace hD : Hid (A.defers = []) := hD
    obtain ⟨rfl, rfl⟩ := chain_at 0 (by decide) hn2
    have e0 : A.tmps[6]?.getD undef = .pointer (some ⟨b, 0, none⟩) := hd0 2 6 (by kernel_rfl)
    have r1 := hd0 3 7 (by kernel_rfl)
    clear hT0 hd0
    obtain ⟨c, ec, kc, ncb⟩ : ∃ c, A.tmps[7]?.getD undef = .slice (some ⟨c, 0, none⟩) 1 1 ∧ KsAt w c [2] ∧ c ≠ b := r1
    go_simp
    refine (ptake_no b B c 1 1 t us 0 d [2] rfl (by omega) hk1 w kc (hn.at rfl)).mono ?_
    rintro e w2 ⟨rfl, g2⟩
    exact ⟨hD.out, fin.out _ (hb.below g2)⟩
   refine StepsJ.cons (o := _) rfl ?_ ?_
   ·try simp only [List.getElem_toArray, List.getElem_cons_zero, List.getElem_cons_succ]
    refine StepJ.of ?_ ?_ ?_
    ·rfl
    ·kernel_rfl
    intro A w n n2 hD hb hT0 hd0 hn hn2 K hK
    replace hD : Hid (A.defers = []) := hD
    obtain ⟨rfl, rfl⟩ := chain_at 1 (by decide) hn2
    have r0 := hd0 4 8 (by kernel_rfl)
    clear hT0 hd0
    exact r0.elim
   refine StepsJ.cons (o := _) rfl ?_ ?_
   ·try simp only [List.getElem_toArray, List.getElem_cons_zero, List.getElem_cons_succ]
    refine StepJ.of ?_ ?_ ?_
    ·rfl
    ·kernel_rfl
    intro A w n n2 hD hb hT0 hd0 hn hn2 K hK
    replace hD : Hid (A.defers = []) := hD
    obtain rfl := chain_no (by decide) hn2
    clear hn2
    have f0 : A.tmps[0]?.getD undef = .pointer (some ⟨b, 0, none⟩) := hT0 0 (by kernel_rfl)
    clear hT0 hd0
    go_simp
    exact hK.out _ _ (Onl.refl b _) rfl hn
   refine StepsJ.cons (o := _) rfl ?_ ?_
   ·try simp only [List.getElem_toArray, List.getElem_cons_zero, List.getElem_cons_succ]
    refine StepJ.of ?_ ?_ ?_
    ·rfl
    ·kernel_rfl
    intro A w n n2 hD hb hT0 hd0 hn hn2 K hK
    replace hD : Hid (A.defers = []) := hD
    obtain rfl := chain_no (by decide) hn2
    clear hn2
    have e0 : A.tmps[10]?.getD undef = .pointer (some ⟨b, 0, none⟩) := hd0 6 10 (by kernel_rfl)
    clear hT0 hd0
    go_simp
    exact hK.out _ _ (Onl.refl b _) rfl hn
   refine StepsJ.cons (o := _) rfl ?_ ?_
   ·try simp only [List.getElem_toArray, List.getElem_cons_zero, List.getElem_cons_succ]
    refine StepJ.of ?_ ?_ ?_
    ·rfl
    ·kernel_rfl
    intro A w n n2 hD hb hT0 hd0 hn hn2 K hK
    replace hD : Hid (A.defers = []) := hD
    obtain rfl := chain_no (by decide) hn2
    clear hn2
    have e0 : A.tmps[11]?.getD undef = .pointer (some ⟨b, 0, none⟩) := hd0 7 11 (by kernel_rfl)
    clear hT0 hd0
    go_simp
    exact hK.out _ _ (Onl.refl b _) rfl hn
   refine StepsJ.cons (o := _) rfl ?_ ?_
   ·try simp only [List.getElem_toArray, List.getElem_cons_zero, List.getElem_cons_succ]
    refine StepJ.of ?_ ?_ ?_
    ·rfl
    ·kernel_rfl
    intro A w n n2 hD hb hT0 hd0 hn hn2 K hK
    replace hD : Hid (A.defers = []) := hD
    obtain rfl := chain_no (by decide) hn2
    clear hn2
    clear hT0 hd0
    go_simp
    exact hK.out _ _ ((Onl.refl b w).below (pb_new (Below.refl _ _) _)) ⟨_, rfl, ks1 1 rfl, by have := hb.size; omega⟩ (hn.bel (pb_new (Below.refl _ _) _))
   refine StepsJ.cons (o := _) rfl ?_ ?_
   ·try simp only [List.getElem_toArray, List.getElem_cons_zero, List.getElem_cons_succ]
    refine StepJ.of ?_ ?_ ?_
    ·rfl
    ·kernel_rfl
    intro A w n n2 hD hb hT0 hd0 hn hn2 K hK
    replace hD : Hid (A.defers = []) := hD
    obtain ⟨rfl, rfl⟩ := chain_at 2 (by decide) hn2
    have e0 : A.tmps[12]?.getD undef = .pointer (some ⟨b, 0, none⟩) := hd0 8 12 (by kernel_rfl)
    have r1 := hd0 9 13 (by kernel_rfl)
    clear hT0 hd0
    exact (hn.none rfl).elim
   refine StepsJ.cons (o := _) rfl ?_ ?_
   ·try simp only [List.getElem_toArray, List.getElem_cons_zero, List.getElem_cons_succ]
    refine StepJ.of ?_ ?_ ?_
    ·rfl
    ·kernel_rfl
    intro A w n n2 hD hb hT0 hd0 hn hn2 K hK
    replace hD : Hid (A.defers = []) := hD
    obtain rfl := chain_no (by decide) hn2
    clear hn2
    have r0 := hd0 10 14 (by kernel_rfl)
    clear hT0 hd0
    exact r0.elim
   refine StepsJ.cons (o := _) rfl ?_ ?_
   ·try simp only [List.getElem_toArray, List.getElem_cons_zero, List.getElem_cons_succ]
    refine StepJ.of ?_ ?_ ?_
    ·rfl
    ·kernel_rfl
    intro A w n n2 hD hb hT0 hd0 hn hn2 K hK
    replace hD : Hid (A.defers = []) := hD
    obtain rfl := chain_no (by decide) hn2
    clear hn2
    clear hT0 hd0
    go_simp
    exact hK.out _ _ ((Onl.refl b w).below (pb_new (Below.refl _ _) _)) ⟨_, rfl, World.alloc_heap_new _ _, hb.size⟩ (hn.bel (pb_new (Below.refl _ _) _))
   exact StepsJ.nil
  exact fun f g wz hb hph hR => (hR 4 8 (by decide) (by kernel_rfl)).elim
 rw [if_pos (show (hd (t :: us)).1 = 2 from c1)] at hR
 have hk1 : t.1 ∈ [2] := by simp; exact c1
 have zu := kind_tl z (by omega)
 have u0 := zu.ne
 have dzu := dz.tl
 obtain ⟨t2, us2, rfl⟩ := zu.cons
 by_cases c2 : t2.1 = 1
 case neg =>
  rw [name_no c2] at hR
  have hk2 : t2.1 ∉ [1] := by simp; exact c2
  have e0 : Hid (R = .bad t2.2.2) := hR.symm
  clear hR z zu c1 c2 dz dzu
  have fin : Hid (∀ X, Onl b V X → DcR R b B 0 w (.panicked [{ v := fltV 4 t2.2.2, recovered := false }]) X) := fun X on => by rw [e0.out]; exact ⟨hS.on.trans on, rfl⟩
  refine wp_region_row 13 [4, 5, 6, 7, 8, 9, 10, 11, 12, 13, 14, 15, 3] (fun _ w _ w9 => Onl b w w9) (PhP b B [t :: t2 :: us2, t2 :: us2, t2 :: us2] 0 d) [4, 5, 10] (RlsN [EqvN (.pointer (some ⟨b, 0, none⟩)), EqvN (.pointer (some ⟨b, 0, none⟩)), EqvN (.pointer (some ⟨b, 0, none⟩)), (fun _ v w => ∃ c, v = .slice (some ⟨c, 0, none⟩) 1 1 ∧ KsAt w c [2] ∧ c ≠ b), EqvN (.string t.2.1), EqvN (.int .i64 (tyOf t.2.1)), EqvN (.pointer (some ⟨b, 0, none⟩)), EqvN (.pointer (some ⟨b, 0, none⟩)), EqvN (.pointer (some ⟨b, 0, none⟩)), (fun _ v w => ∃ c, v = .slice (some ⟨c, 0, none⟩) 1 1 ∧ KsAt w c [1] ∧ c ≠ b), (fun _ _ _ => False), (fun _ _ _ => False), (fun _ v w => ∃ c, v = .pointer (some ⟨c, 0, none⟩) ∧ w.heap[c]? = some (.cells #[.string ⟨#[]⟩, .int .i64 0, .int .i64 0] 53 (0, 0)) ∧ V.heap.size ≤ c)]) [0, 1, 2, 3, 4, 5, 6, 7, 8, 9, 10, 11, 12] (by kernel_rfl) (by kernel_rfl) (by kernel_rfl) (by kernel_rfl) (by kernel_rfl) (by kernel_rfl) (r := 1) (lst := #[true, true, true, true, true, true, true, true, true, true, true, true, true, false]) (by kernel_rfl) (by kernel_rfl) ((Onl.refl b V).drew) (fun _ _ _ _ _ _ _ _ h k => h.trans k) (⟨_, rfl, hne, hS.P.drew⟩) (MonoE.of (MonoE.eq (MonoE.eq (MonoE.eq (MonoE.cons (fun v n w n2 w2 _ ⟨c, h1, h2, h3⟩ g => ⟨c, h1, fun j k e => g.cell h3 (h2 j k e), h3⟩) (MonoE.eq (MonoE.eq (MonoE.eq (MonoE.eq (MonoE.eq (MonoE.cons (fun v n w n2 w2 _ ⟨c, h1, h2, h3⟩ g => ⟨c, h1, fun j k e => g.cell h3 (h2 j k e), h3⟩) (MonoE.cons (fun _ _ _ _ _ _ h _ => h) (MonoE.cons (fun _ _ _ _ _ _ h _ => h) (MonoE.cons (fun v n w n2 w2 _ ⟨c, h1, h2, h3⟩ g => ⟨c, h1, (g.block c (lt_of h2) (by omega)).trans h2, h3⟩) MonoE.nil)))))))))))))) ?_ ?_
  ·skip
   refine StepsJ.cons (o := _) rfl ?_ ?_
   ·try simp only [List.getElem_toArray, List.getElem_cons_zero, List.getElem_cons_succ]
    refine StepJ.of ?_ ?_ ?_
    ·rfl
    ·kernel_rfl
    intro A w n n2 hD hb hT0 hd0 hn hn2 K hK
    replace hD : Hid (A.defers = []) := hD
    obtain rfl := chain_no (by decide) hn2
    clear hn2
    have f0 : A.tmps[0]?.getD undef = .pointer (some ⟨b, 0, none⟩) := hT0 0 (by kernel_rfl)
    clear hT0 hd0
    go_simp
    exact hK.out _ _ (Onl.refl b _) rfl hn
   refine StepsJ.cons (o := _) rfl ?_ ?_
   ·try simp only [List.getElem_toArray, List.getElem_cons_zero, List.getElem_cons_succ]
    refine StepJ.of ?_ ?_ ?_
    ·rfl
    ·kernel_rfl
    intro A w n n2 hD hb hT0 hd0 hn hn2 K hK
    replace hD : Hid (A.defers = []) := hD
    obtain rfl := chain_no (by decide) hn2
    clear hn2
    have e0 : A.tmps[4]?.getD undef = .pointer (some ⟨b, 0, none⟩) := hd0 0 4 (by kernel_rfl)
    clear hT0 hd0
    go_simp
    exact hK.out _ _ (Onl.refl b _) rfl hn
   refine StepsJ.cons (o := _) rfl ?_ ?_
   ·try simp only [List.getElem_toArray, List.getElem_cons_zero, List.getElem_cons_succ]
    refine StepJ.of ?_ ?_ ?_
    ·rfl
    ·kernel_rfl
    intro A w n n2 hD hb hT0 hd0 hn hn2 K hK
    replace hD : Hid (A.defers = []) := hD
    obtain rfl := chain_no (by decide) hn2
    clear hn2
    have e0 : A.tmps[5]?.getD undef = .pointer (some ⟨b, 0, none⟩) := hd0 1 5 (by kernel_rfl)
    clear hT0 hd0
    go_simp
    exact hK.out _ _ (Onl.refl b _) rfl hn
   refine StepsJ.cons (o := _) rfl ?_ ?_
   ·try simp only [List.getElem_toArray, List.getElem_cons_zero, List.getElem_cons_succ]
    refine StepJ.of ?_ ?_ ?_
    ·rfl
    ·kernel_rfl
    intro A w n n2 hD hb hT0 hd0 hn hn2 K hK
    replace hD : Hid (A.defers = []) := hD
    obtain rfl := chain_no (by decide) hn2
    clear hn2
    clear hT0 hd0
    go_simp
    exact hK.out _ _ ((Onl.refl b w).below (pb_new (Below.refl _ _) _)) ⟨_, rfl, ks1 2 rfl, by have := hb.size; omega⟩ (hn.bel (pb_new (Below.refl _ _) _))
   refine StepsJ.cons (o := _) rfl ?_ ?_
   ·try simp only [List.getElem_toArray, List.getElem_cons_zero, List.getElem_cons_succ]
    refine StepJ.of ?_ ?_ ?_
    ·rfl
    ·kernel_rfl
    intro A w n n2 hD hb hT0 hd0 hn hn2 K hK
    replace hD : Hid (A.defers = []) := hD
    obtain ⟨rfl, rfl⟩ := chain_at 0 (by decide) hn2
    have e0 : A.tmps[6]?.getD undef = .pointer (some ⟨b, 0, none⟩) := hd0 2 6 (by kernel_rfl)
    have r1 := hd0 3 7 (by kernel_rfl)
    clear hT0 hd0
    obtain ⟨c, ec, kc, ncb⟩ : ∃ c, A.tmps[7]?.getD undef = .slice (some ⟨c, 0, none⟩) 1 1 ∧ KsAt w c [2] ∧ c ≠ b := r1
    go_simp
    refine (ptake_yes b B c 1 1 t (t2 :: us2) 0 d u0 [2] rfl (by omega) hk1 w kc (hn.at rfl)).mono ?_
    rintro e w2 ⟨rfl, hP2, on2⟩
    exact hK.out _ _ on2 rfl ⟨_, rfl, u0, hP2⟩
   refine StepsJ.cons (o := _) rfl ?_ ?_
   ·try simp only [List.getElem_toArray, List.getElem_cons_zero, List.getElem_cons_succ]
    refine StepJ.of ?_ ?_ ?_
    ·rfl
    ·kernel_rfl
    intro A w n n2 hD hb hT0 hd0 hn hn2 K hK
    replace hD : Hid (A.defers = []) := hD
    obtain ⟨rfl, rfl⟩ := chain_at 1 (by decide) hn2
    have e0 : A.tmps[8]?.getD undef = .string t.2.1 := hd0 4 8 (by kernel_rfl)
    clear hT0 hd0
    go_simp
    refine (ptype t.2.1 w).mono ?_
    rintro e w2 ⟨rfl, rfl⟩
    exact hK.out _ _ (Onl.refl b _) rfl ⟨_, rfl, u0, (hn.at rfl)⟩
   refine StepsJ.cons (o := _) rfl ?_ ?_
   ·try simp only [List.getElem_toArray, List.getElem_cons_zero, List.getElem_cons_succ]
    refine StepJ.of ?_ ?_ ?_
    ·rfl
    ·kernel_rfl
    intro A w n n2 hD hb hT0 hd0 hn hn2 K hK
    replace hD : Hid (A.defers = []) := hD
    obtain rfl := chain_no (by decide) hn2
    clear hn2
    have f0 : A.tmps[0]?.getD undef = .pointer (some ⟨b, 0, none⟩) := hT0 0 (by kernel_rfl)
    clear hT0 hd0
    go_simp
    exact hK.out _ _ (Onl.refl b _) rfl hn
   refine StepsJ.cons (o := _) rfl ?_ ?_
   ·try simp only [List.getElem_toArray, List.getElem_cons_zero, List.getElem_cons_succ]
    refine StepJ.of ?_ ?_ ?_
    ·rfl
    ·kernel_rfl
    intro A w n n2 hD hb hT0 hd0 hn hn2 K hK
    replace hD : Hid (A.defers = []) := hD
    obtain rfl := chain_no (by decide) hn2
    clear hn2
    have e0 : A.tmps[10]?.getD undef = .pointer (some ⟨b, 0, none⟩) := hd0 6 10 (by kernel_rfl)
    clear hT0 hd0
    go_simp
    exact hK.out _ _ (Onl.refl b _) rfl hn
   refine StepsJ.cons (o := _) rfl ?_ ?_
   ·try simp only [List.getElem_toArray, List.getElem_cons_zero, List.getElem_cons_succ]
    refine StepJ.of ?_ ?_ ?_
    ·rfl
    ·kernel_rfl
    intro A w n n2 hD hb hT0 hd0 hn hn2 K hK
    replace hD : Hid (A.defers = []) := hD
    obtain rfl := chain_no (by decide) hn2
    clear hn2
    have e0 : A.tmps[11]?.getD undef = .pointer (some ⟨b, 0, none⟩) := hd0 7 11 (by kernel_rfl)
    clear hT0 hd0
    go_simp
    exact hK.out _ _ (Onl.refl b _) rfl hn
   refine StepsJ.cons (o := _) rfl ?_ ?_
   ·try simp only [List.getElem_toArray, List.getElem_cons_zero, List.getElem_cons_succ]
    refine StepJ.of ?_ ?_ ?_
    ·rfl
    ·kernel_rfl
    intro A w n n2 hD hb hT0 hd0 hn hn2 K hK
    replace hD : Hid (A.defers = []) := hD
    obtain rfl := chain_no (by decide) hn2
    clear hn2
    clear hT0 hd0
    go_simp
    exact hK.out _ _ ((Onl.refl b w).below (pb_new (Below.refl _ _) _)) ⟨_, rfl, ks1 1 rfl, by have := hb.size; omega⟩ (hn.bel (pb_new (Below.refl _ _) _))
   refine StepsJ.cons (o := _) rfl ?_ ?_
   ·try simp only [List.getElem_toArray, List.getElem_cons_zero, List.getElem_cons_succ]
    refine StepJ.of ?_ ?_ ?_
    ·rfl
    ·kernel_rfl
    intro A w n n2 hD hb hT0 hd0 hn hn2 K hK
    replace hD : Hid (A.defers = []) := hD
    obtain ⟨rfl, rfl⟩ := chain_at 2 (by decide) hn2
    have e0 : A.tmps[12]?.getD undef = .pointer (some ⟨b, 0, none⟩) := hd0 8 12 (by kernel_rfl)
    have r1 := hd0 9 13 (by kernel_rfl)
    clear hT0 hd0
    obtain ⟨c, ec, kc, ncb⟩ : ∃ c, A.tmps[13]?.getD undef = .slice (some ⟨c, 0, none⟩) 1 1 ∧ KsAt w c [1] ∧ c ≠ b := r1
    go_simp
    refine (ptake_no b B c 1 1 t2 us2 0 d [1] rfl (by omega) hk2 w kc (hn.at rfl)).mono ?_
    rintro e w2 ⟨rfl, g2⟩
    exact ⟨hD.out, fin.out _ (hb.below g2)⟩
   refine StepsJ.cons (o := _) rfl ?_ ?_
   ·try simp only [List.getElem_toArray, List.getElem_cons_zero, List.getElem_cons_succ]
    refine StepJ.of ?_ ?_ ?_
    ·rfl
    ·kernel_rfl
    intro A w n n2 hD hb hT0 hd0 hn hn2 K hK
    replace hD : Hid (A.defers = []) := hD
    obtain rfl := chain_no (by decide) hn2
    clear hn2
    have r0 := hd0 10 14 (by kernel_rfl)
    clear hT0 hd0
    exact r0.elim
   refine StepsJ.cons (o := _) rfl ?_ ?_
   ·try simp only [List.getElem_toArray, List.getElem_cons_zero, List.getElem_cons_succ]
    refine StepJ.of ?_ ?_ ?_
    ·rfl
    ·kernel_rfl
    intro A w n n2 hD hb hT0 hd0 hn hn2 K hK
    replace hD : Hid (A.defers = []) := hD
    obtain rfl := chain_no (by decide) hn2
    clear hn2
    clear hT0 hd0
    go_simp
    exact hK.out _ _ ((Onl.refl b w).below (pb_new (Below.refl _ _) _)) ⟨_, rfl, World.alloc_heap_new _ _, hb.size⟩ (hn.bel (pb_new (Below.refl _ _) _))
   exact StepsJ.nil
  exact fun f g wz hb hph hR => (hR 10 14 (by decide) (by kernel_rfl)).elim
 rw [name_yes c2] at hR
 (try simp only at hR)
 have hk2 : t2.1 ∈ [1] := by simp; exact c2
 have z2 := kind_tl zu (by omega)
 have u2 := z2.ne
 have dz2 := dzu.tl
 have hR' : Hid (_ = R) := hR
 clear hR z zu c1 c2 dz dzu
 refine wp_region_row 13 [4, 5, 6, 7, 8, 9, 10, 11, 12, 13, 14, 15, 3] (fun _ w _ w9 => Onl b w w9) (PhP b B [t :: t2 :: us2, t2 :: us2, t2 :: us2, us2] 0 d) [4, 5, 10] (RlsN [EqvN (.pointer (some ⟨b, 0, none⟩)), EqvN (.pointer (some ⟨b, 0, none⟩)), EqvN (.pointer (some ⟨b, 0, none⟩)), (fun _ v w => ∃ c, v = .slice (some ⟨c, 0, none⟩) 1 1 ∧ KsAt w c [2] ∧ c ≠ b), EqvN (.string t.2.1), EqvN (.int .i64 (tyOf t.2.1)), EqvN (.pointer (some ⟨b, 0, none⟩)), EqvN (.pointer (some ⟨b, 0, none⟩)), EqvN (.pointer (some ⟨b, 0, none⟩)), (fun _ v w => ∃ c, v = .slice (some ⟨c, 0, none⟩) 1 1 ∧ KsAt w c [1] ∧ c ≠ b), EqvN (.string t2.2.1), EqvN (.agg #[.string t2.2.1, .int .i64 (tyOf t.2.1), .int .i64 0]), (fun _ v w => ∃ c, v = .pointer (some ⟨c, 0, none⟩) ∧ w.heap[c]? = some (.cells #[.string ⟨#[]⟩, .int .i64 0, .int .i64 0] 53 (0, 0)) ∧ V.heap.size ≤ c)]) [0, 1, 2, 3, 4, 5, 6, 7, 8, 9, 10, 11, 12] (by kernel_rfl) (by kernel_rfl) (by kernel_rfl) (by kernel_rfl) (by kernel_rfl) (by kernel_rfl) (r := 1) (lst := #[true, true, true, true, true, true, true, true, true, true, true, true, true, false]) (by kernel_rfl) (by kernel_rfl) ((Onl.refl b V).drew) (fun _ _ _ _ _ _ _ _ h k => h.trans k) (⟨_, rfl, hne, hS.P.drew⟩) (MonoE.of (MonoE.eq (MonoE.eq (MonoE.eq (MonoE.cons (fun v n w n2 w2 _ ⟨c, h1, h2, h3⟩ g => ⟨c, h1, fun j k e => g.cell h3 (h2 j k e), h3⟩) (MonoE.eq (MonoE.eq (MonoE.eq (MonoE.eq (MonoE.eq (MonoE.cons (fun v n w n2 w2 _ ⟨c, h1, h2, h3⟩ g => ⟨c, h1, fun j k e => g.cell h3 (h2 j k e), h3⟩) (MonoE.eq (MonoE.eq (MonoE.cons (fun v n w n2 w2 _ ⟨c, h1, h2, h3⟩ g => ⟨c, h1, (g.block c (lt_of h2) (by omega)).trans h2, h3⟩) MonoE.nil)))))))))))))) ?_ ?_
 ·skip
  refine StepsJ.cons (o := _) rfl ?_ ?_
  ·try simp only [List.getElem_toArray, List.getElem_cons_zero, List.getElem_cons_succ]
   refine StepJ.of ?_ ?_ ?_
   ·rfl
   ·kernel_rfl
   intro A w n n2 hD hb hT0 hd0 hn hn2 K hK
   replace hD : Hid (A.defers = []) := hD
   obtain rfl := chain_no (by decide) hn2
   clear hn2
   have f0 : A.tmps[0]?.getD undef = .pointer (some ⟨b, 0, none⟩) := hT0 0 (by kernel_rfl)
   clear hT0 hd0
   go_simp
   exact hK.out _ _ (Onl.refl b _) rfl hn
  refine StepsJ.cons (o := _) rfl ?_ ?_
  ·try simp only [List.getElem_toArray, List.getElem_cons_zero, List.getElem_cons_succ]
   refine StepJ.of ?_ ?_ ?_
   ·rfl
   ·kernel_rfl
   intro A w n n2 hD hb hT0 hd0 hn hn2 K hK
   replace hD : Hid (A.defers = []) := hD
   obtain rfl := chain_no (by decide) hn2
   clear hn2
   have e0 : A.tmps[4]?.getD undef = .pointer (some ⟨b, 0, none⟩) := hd0 0 4 (by kernel_rfl)
   clear hT0 hd0
   go_simp
   exact hK.out _ _ (Onl.refl b _) rfl hn
  refine StepsJ.cons (o := _) rfl ?_ ?_
  ·try simp only [List.getElem_toArray, List.getElem_cons_zero, List.getElem_cons_succ]
   refine StepJ.of ?_ ?_ ?_
   ·rfl
   ·kernel_rfl
   intro A w n n2 hD hb hT0 hd0 hn hn2 K hK
   replace hD : Hid (A.defers = []) := hD
   obtain rfl := chain_no (by decide) hn2
   clear hn2
   have e0 : A.tmps[5]?.getD undef = .pointer (some ⟨b, 0, none⟩) := hd0 1 5 (by kernel_rfl)
   clear hT0 hd0
   go_simp
   exact hK.out _ _ (Onl.refl b _) rfl hn
  refine StepsJ.cons (o := _) rfl ?_ ?_
  ·try simp only [List.getElem_toArray, List.getElem_cons_zero, List.getElem_cons_succ]
   refine StepJ.of ?_ ?_ ?_
   ·rfl
   ·kernel_rfl
   intro A w n n2 hD hb hT0 hd0 hn hn2 K hK
   replace hD : Hid (A.defers = []) := hD
   obtain rfl := chain_no (by decide) hn2
   clear hn2
   clear hT0 hd0
   go_simp
   exact hK.out _ _ ((Onl.refl b w).below (pb_new (Below.refl _ _) _)) ⟨_, rfl, ks1 2 rfl, by have := hb.size; omega⟩ (hn.bel (pb_new (Below.refl _ _) _))
  refine StepsJ.cons (o := _) rfl ?_ ?_
  ·try simp only [List.getElem_toArray, List.getElem_cons_zero, List.getElem_cons_succ]
   refine StepJ.of ?_ ?_ ?_
   ·rfl
   ·kernel_rfl
   intro A w n n2 hD hb hT0 hd0 hn hn2 K hK
   replace hD : Hid (A.defers = []) := hD
   obtain ⟨rfl, rfl⟩ := chain_at 0 (by decide) hn2
   have e0 : A.tmps[6]?.getD undef = .pointer (some ⟨b, 0, none⟩) := hd0 2 6 (by kernel_rfl)
   have r1 := hd0 3 7 (by kernel_rfl)
   clear hT0 hd0
   obtain ⟨c, ec, kc, ncb⟩ : ∃ c, A.tmps[7]?.getD undef = .slice (some ⟨c, 0, none⟩) 1 1 ∧ KsAt w c [2] ∧ c ≠ b := r1
   go_simp
   refine (ptake_yes b B c 1 1 t (t2 :: us2) 0 d u0 [2] rfl (by omega) hk1 w kc (hn.at rfl)).mono ?_
   rintro e w2 ⟨rfl, hP2, on2⟩
   exact hK.out _ _ on2 rfl ⟨_, rfl, u0, hP2⟩
  refine StepsJ.cons (o := _) rfl ?_ ?_
  ·try simp only [List.getElem_toArray, List.getElem_cons_zero, List.getElem_cons_succ]
   refine StepJ.of ?_ ?_ ?_
   ·rfl
   ·kernel_rfl
   intro A w n n2 hD hb hT0 hd0 hn hn2 K hK
   replace hD : Hid (A.defers = []) := hD
   obtain ⟨rfl, rfl⟩ := chain_at 1 (by decide) hn2
   have e0 : A.tmps[8]?.getD undef = .string t.2.1 := hd0 4 8 (by kernel_rfl)
   clear hT0 hd0
   go_simp
   refine (ptype t.2.1 w).mono ?_
   rintro e w2 ⟨rfl, rfl⟩
   exact hK.out _ _ (Onl.refl b _) rfl ⟨_, rfl, u0, (hn.at rfl)⟩
  refine StepsJ.cons (o := _) rfl ?_ ?_
  ·try simp only [List.getElem_toArray, List.getElem_cons_zero, List.getElem_cons_succ]
   refine StepJ.of ?_ ?_ ?_
   ·rfl
   ·kernel_rfl
   intro A w n n2 hD hb hT0 hd0 hn hn2 K hK
   replace hD : Hid (A.defers = []) := hD
   obtain rfl := chain_no (by decide) hn2
   clear hn2
   have f0 : A.tmps[0]?.getD undef = .pointer (some ⟨b, 0, none⟩) := hT0 0 (by kernel_rfl)
   clear hT0 hd0
   go_simp
   exact hK.out _ _ (Onl.refl b _) rfl hn
  refine StepsJ.cons (o := _) rfl ?_ ?_
  ·try simp only [List.getElem_toArray, List.getElem_cons_zero, List.getElem_cons_succ]
   refine StepJ.of ?_ ?_ ?_
   ·rfl
   ·kernel_rfl
   intro A w n n2 hD hb hT0 hd0 hn hn2 K hK
   replace hD : Hid (A.defers = []) := hD
   obtain rfl := chain_no (by decide) hn2
   clear hn2
   have e0 : A.tmps[10]?.getD undef = .pointer (some ⟨b, 0, none⟩) := hd0 6 10 (by kernel_rfl)
   clear hT0 hd0
   go_simp
   exact hK.out _ _ (Onl.refl b _) rfl hn
  refine StepsJ.cons (o := _) rfl ?_ ?_
  ·try simp only [List.getElem_toArray, List.getElem_cons_zero, List.getElem_cons_succ]
   refine StepJ.of ?_ ?_ ?_
   ·rfl
   ·kernel_rfl
   intro A w n n2 hD hb hT0 hd0 hn hn2 K hK
   replace hD : Hid (A.defers = []) := hD
   obtain rfl := chain_no (by decide) hn2
   clear hn2
   have e0 : A.tmps[11]?.getD undef = .pointer (some ⟨b, 0, none⟩) := hd0 7 11 (by kernel_rfl)
   clear hT0 hd0
   go_simp
   exact hK.out _ _ (Onl.refl b _) rfl hn
  refine StepsJ.cons (o := _) rfl ?_ ?_
  ·try simp only [List.getElem_toArray, List.getElem_cons_zero, List.getElem_cons_succ]
   refine StepJ.of ?_ ?_ ?_
   ·rfl
   ·kernel_rfl
   intro A w n n2 hD hb hT0 hd0 hn hn2 K hK
   replace hD : Hid (A.defers = []) := hD
   obtain rfl := chain_no (by decide) hn2
   clear hn2
   clear hT0 hd0
   go_simp
   exact hK.out _ _ ((Onl.refl b w).below (pb_new (Below.refl _ _) _)) ⟨_, rfl, ks1 1 rfl, by have := hb.size; omega⟩ (hn.bel (pb_new (Below.refl _ _) _))
  refine StepsJ.cons (o := _) rfl ?_ ?_
  ·try simp only [List.getElem_toArray, List.getElem_cons_zero, List.getElem_cons_succ]
   refine StepJ.of ?_ ?_ ?_
   ·rfl
   ·kernel_rfl
   intro A w n n2 hD hb hT0 hd0 hn hn2 K hK
   replace hD : Hid (A.defers = []) := hD
   obtain ⟨rfl, rfl⟩ := chain_at 2 (by decide) hn2
   have e0 : A.tmps[12]?.getD undef = .pointer (some ⟨b, 0, none⟩) := hd0 8 12 (by kernel_rfl)
   have r1 := hd0 9 13 (by kernel_rfl)
   clear hT0 hd0
   obtain ⟨c, ec, kc, ncb⟩ : ∃ c, A.tmps[13]?.getD undef = .slice (some ⟨c, 0, none⟩) 1 1 ∧ KsAt w c [1] ∧ c ≠ b := r1
   go_simp
   refine (ptake_yes b B c 1 1 t2 us2 0 d u2 [1] rfl (by omega) hk2 w kc (hn.at rfl)).mono ?_
   rintro e w2 ⟨rfl, hP2, on2⟩
   exact hK.out _ _ on2 rfl ⟨_, rfl, u2, hP2⟩
  refine StepsJ.cons (o := _) rfl ?_ ?_
  ·try simp only [List.getElem_toArray, List.getElem_cons_zero, List.getElem_cons_succ]
   refine StepJ.of ?_ ?_ ?_
   ·rfl
   ·kernel_rfl
   intro A w n n2 hD hb hT0 hd0 hn hn2 K hK
   replace hD : Hid (A.defers = []) := hD
   obtain rfl := chain_no (by decide) hn2
   clear hn2
   have e0 : A.tmps[9]?.getD undef = .int .i64 (tyOf t.2.1) := hd0 5 9 (by kernel_rfl)
   have e1 : A.tmps[14]?.getD undef = .string t2.2.1 := hd0 10 14 (by kernel_rfl)
   clear hT0 hd0
   go_simp
   exact hK.out _ _ (Onl.refl b _) rfl hn
  refine StepsJ.cons (o := _) rfl ?_ ?_
  ·try simp only [List.getElem_toArray, List.getElem_cons_zero, List.getElem_cons_succ]
   refine StepJ.of ?_ ?_ ?_
   ·rfl
   ·kernel_rfl
   intro A w n n2 hD hb hT0 hd0 hn hn2 K hK
   replace hD : Hid (A.defers = []) := hD
   obtain rfl := chain_no (by decide) hn2
   clear hn2
   clear hT0 hd0
   go_simp
   exact hK.out _ _ ((Onl.refl b w).below (pb_new (Below.refl _ _) _)) ⟨_, rfl, World.alloc_heap_new _ _, hb.size⟩ (hn.bel (pb_new (Below.refl _ _) _))
  exact StepsJ.nil
 intro f g wz hb hph hR
 have e11 : g 15 = .agg #[.string t2.2.1, .int .i64 (tyOf t.2.1), .int .i64 0] := hR 11 15 (by decide) (by kernel_rfl)
 obtain ⟨c3, e12, q3, l3⟩ : ∃ c, g 3 = .pointer (some ⟨c, 0, none⟩) ∧ wz.heap[c]? = some (.cells #[.string ⟨#[]⟩, .int .i64 0, .int .i64 0] 53 (0, 0)) ∧ V.heap.size ≤ c := hR 12 3 (by decide) (by kernel_rfl)
 have hb : Onl b V wz := hb
 simp only [fillT, List.foldl_cons, List.foldl_nil, List.setIfInBounds_toArray, List.set_cons_zero, List.set_cons_succ]
 rw [e11, e12]
 have hP2 := hph.at rfl
 clear hR e11 e12 hph hne hk1 hk2 u0
 have pl := hS.pl
 have zp := hS.zp
 replace hS := hS.onl hb hP2
 have w3 : w.heap.size ≤ c3 := by omega
 have b3 : c3 ≠ b := by omega
 have B3 : c3 ≠ B := by have := hBV.out; omega
 have p3 : p ≠ c3 := by omega
 obtain ⟨f0, f1, f2, ff⟩ := dc_cells q3
 refine wpAny_ready (rs := [13]) (by kernel_rfl) (by simp) (AllReady.cons (o := _) rfl (fun K hK => ?_) AllReady.nil)
 go_simp
 refine hK _ _ ?_
 clear hK K
 refine wpAny_done (by kernel_rfl) ?_ _
 obtain ⟨V3, hV3⟩ : ∃ X, ((wz.setCell ⟨c3, 0, none⟩ (.string t2.2.1)).setCell ⟨c3, 1, none⟩ (.int .i64 (tyOf t.2.1))).setCell ⟨c3, 2, none⟩ (.int .i64 0) = X := ⟨_, rfl⟩
 rw [hV3]
 have q3' : V3.heap[c3]? = some (.cells #[.string t2.2.1, .int .i64 (tyOf t.2.1), .int .i64 0] 53 (0, 0)) := by rw [← hV3]; exact at_set (at_set (at_set q3 0 _) 1 _) 2 _
 replace hS := ((hS.set w3 p3 b3 B3 0 (.string t2.2.1)).set w3 p3 b3 B3 1 (.int .i64 (tyOf t.2.1))).set w3 p3 b3 B3 2 (.int .i64 0)
 rw [hV3] at hS
 clear hV3 q3 f0 f1 f2 ff hb
 have hR := hR'.out
 clear hR'
 obtain ⟨t3, us3, rfl⟩ := z2.cons
 have ne3 : t3 :: us3 ≠ [] := by simp
 by_cases c3' : t3.2.1 = tLb
 case neg =>
  rw [if_neg (show ¬ isTx (t3 :: us3) tLb = true by show ¬ decide (t3.2.1 = tLb) = true; rw [decide_eq_true_iff]; exact c3')] at hR
  have hR' : Hid (_ = R) := hR
  clear hR
  go_upto_region 5 with (first
   | (go_at_call 78; (with_reducible refine (pskip_no b B t3 us3 0 d tLb c3' _ hS.P).mono ?_); rintro e v4 ⟨rfl, g4⟩; replace q3' := (g4.block _ (lt_of q3')).trans q3'; replace hS := hS.bel ne3 g4)
   | fail)
  have hR := hR'.out
  clear hR'
  by_cases c4 : t3.2.1 = tSe
  case neg =>
   rw [want_no c4] at hR
   have e0 : Hid (R = .bad t3.2.2) := hR.symm
   clear hR
   go_wp2_with (first
    | (go_at_call 80; (with_reducible refine (pwant_no b B t3 us3 0 d tSe c4 _ hS.P).mono ?_); rintro e v5 ⟨rfl, g5⟩; replace hS := (hS.bel ne3 g5).on)
    | fail)
   refine ⟨rfl, ?_⟩
   rw [e0.out]
   exact ⟨hS, rfl⟩
  rw [want_yes c4] at hR
  have e0 : Hid (R = .ok (t2.2.1, tyOf t.2.1, 0) us3 d) := hR.symm
  have z4 := want_tail z2 c4 tSe_ne
  have kw := pwant_yes b B t3 us3 0 d z4.ne _ hS.P
  rw [c4] at kw
  clear hR c4 c3'
  go_wp2_with (first
   | (go_at_call 80; (with_reducible refine (kw).mono ?_); rintro e v5 ⟨rfl, hP5, on5⟩; replace hS := hS.onl on5 hP5; replace q3' := (on5.block _ (lt_of q3') b3).trans q3'; obtain ⟨g0, g1, g2, gf⟩ := dc_cells q3'; obtain ⟨f0, f1, f2, ff⟩ := dc_cells hS.q; clear kw)
   | fail)
  exact bodyPost_ret (v := .agg #[.string t2.2.1, .int .i64 (tyOf t.2.1), .int .i64 0]) (by simp [results, Tryz.results61, go_sem, f0, f1, f2]) rfl (dc_done hS (x := (t2.2.1, tyOf t.2.1, 0)) rfl e0.out _ _ _)
 rw [if_pos (show isTx (t3 :: us3) tLb = true from decide_eq_true c3')] at hR
 simp only [List.tail_cons] at hR
 have z3 := want_tail z2 c3' tLb_ne
 have dz3 := dz2.tl
 have kw := pskip_yes b B t3 us3 0 d z3.ne _ hS.P
 rw [c3'] at kw
 have hR' : Hid (_ = R) := hR
 clear hR c3' z2 dz2 u2
 go_upto_region 3 with (first
  | (go_at_call 78; (with_reducible refine (kw).mono ?_); rintro e v4 ⟨rfl, hP4, on4⟩; replace hS := hS.onl on4 hP4; replace q3' := (on4.block _ (lt_of q3') b3).trans q3'; clear kw)
  | fail)
 have hR := hR'.out
 clear hR'
 obtain ⟨t4, us4, rfl⟩ := z3.cons
 have ne4 : t4 :: us4 ≠ [] := by simp
 replace hR : (if (hd (t4 :: us4)).1 = 3 then want tRb us4 fun vs => want tSe vs fun vs => Rs.ok (t2.2.1, tyOf t.2.1, celN t4.2.1) vs d else Rs.bad t4.2.2) = R := hR
 by_cases c4 : t4.1 = 3
 case neg =>
  rw [if_neg (show ¬ (hd (t4 :: us4)).1 = 3 from c4)] at hR
  have e0 : Hid (R = .bad t4.2.2) := hR.symm
  have hk : t4.1 ∉ [3] := by simp; exact c4
  clear hR z3
  go_wp2_with (first
   | (go_at_call 77; (refine (ptake_no b B _ 1 1 t4 us4 0 d [3] rfl (by omega) hk _ (ks1 3 rfl) (hS.new ne4 _).P).mono ?_); rintro e v1 ⟨rfl, g1⟩; replace hS := ((hS.new ne4 _).bel ne4 g1).on)
   | fail)
  refine ⟨rfl, ?_⟩
  rw [e0.out]
  exact ⟨hS, rfl⟩
 rw [if_pos (show (hd (t4 :: us4)).1 = 3 from c4)] at hR
 have hk : t4.1 ∈ [3] := by simp; exact c4
 have z4 := kind_tl z3 (by omega)
 obtain ⟨dg, ds⟩ := dz3 t4 (by simp) c4
 have hR' : Hid (_ = R) := hR
 have z4n := z4.ne
 have kC : ∀ W, Onl b w W → Calls Tryz.prog 79 #[.string t4.2.1] W fun e w' => e = .returned (.int .i64 (celN t4.2.1)) ∧ Below W.heap.size W w' := fun W on => by
  obtain ⟨ev, h1, h2⟩ := hE'.out.onl hGe on
  exact pcells t4.2.1 dg ds W ev h1 h2
 have kC' : Hid (∀ W, Onl b w W → Calls Tryz.prog 79 #[.string t4.2.1] W fun e w' => e = .returned (.int .i64 (celN t4.2.1)) ∧ Below W.heap.size W w') := kC
 clear hR z3 c4 dz3 dg ds kC
 go_upto_region 4 with (first
  | (go_at_call 77; (refine (ptake_yes b B _ 1 1 t4 us4 0 d z4n [3] rfl (by omega) hk _ (ks1 3 rfl) (hS.new ne4 _).P).mono ?_); rintro e v5 ⟨rfl, hP5, on5⟩; replace q3' := (on5.block _ (Nat.lt_of_lt_of_le (lt_of q3') (pb_new (Below.refl _ _) _).size) b3).trans (((pb_new (Below.refl _ _) _).block _ (lt_of q3')).trans q3'); replace hS := (hS.new ne4 _).onl on5 hP5)
  | (go_at_call 79; (refine (kC'.out _ hS.on).mono ?_); rintro e v6 ⟨rfl, g6⟩; replace q3' := (g6.block _ (lt_of q3')).trans q3'; replace hS := hS.bel z4n g6; obtain ⟨f0, f1, f2, ff⟩ := dc_cells q3')
  | fail)
 obtain ⟨V7, hV7⟩ : ∃ X, v6.setCell ⟨c3, 2, none⟩ (.int .i64 (celN t4.2.1)) = X := ⟨_, rfl⟩
 rw [hV7]
 replace q3' : V7.heap[c3]? = some (.cells #[.string t2.2.1, .int .i64 (tyOf t.2.1), .int .i64 (celN t4.2.1)] 53 (0, 0)) := by rw [← hV7]; exact at_set q3' 2 _
 replace hS := hS.set w3 p3 b3 B3 2 (.int .i64 (celN t4.2.1))
 rw [hV7] at hS
 clear hV7 f0 f1 f2 ff
 have hR := hR'.out
 clear hR'
 obtain ⟨t5, us5, rfl⟩ := z4.cons
 have ne5 : t5 :: us5 ≠ [] := by simp
 by_cases c5 : t5.2.1 = tRb
 case neg =>
  rw [want_no c5] at hR
  have e0 : Hid (R = .bad t5.2.2) := hR.symm
  clear hR
  go_wp2_with (first
   | (go_at_call 80; (with_reducible refine (pwant_no b B t5 us5 0 d tRb c5 _ hS.P).mono ?_); rintro e v7 ⟨rfl, g7⟩; replace hS := (hS.bel ne5 g7).on)
   | fail)
  refine ⟨rfl, ?_⟩
  rw [e0.out]
  exact ⟨hS, rfl⟩
 rw [want_yes c5] at hR
 have z5 := want_tail z4 c5 tRb_ne
 have kw := pwant_yes b B t5 us5 0 d z5.ne _ hS.P
 rw [c5] at kw
 have hR' : Hid (_ = R) := hR
 clear hR c5 z4
 go_upto_region 5 with (first
  | (go_at_call 80; (with_reducible refine (kw).mono ?_); rintro e v8 ⟨rfl, hP8, on8⟩; replace hS := hS.onl on8 hP8; replace q3' := (on8.block _ (lt_of q3') b3).trans q3'; clear kw)
  | fail)
 have hR := hR'.out
 clear hR'
 obtain ⟨t6, us6, rfl⟩ := z5.cons
 have ne6 : t6 :: us6 ≠ [] := by simp
 by_cases c6 : t6.2.1 = tSe
 case neg =>
  rw [want_no c6] at hR
  have e0 : Hid (R = .bad t6.2.2) := hR.symm
  clear hR
  go_wp2_with (first
   | (go_at_call 80; (with_reducible refine (pwant_no b B t6 us6 0 d tSe c6 _ hS.P).mono ?_); rintro e v9 ⟨rfl, g9⟩; replace hS := (hS.bel ne6 g9).on)
   | fail)
  refine ⟨rfl, ?_⟩
  rw [e0.out]
  exact ⟨hS, rfl⟩
 rw [want_yes c6] at hR
 have e0 : Hid (R = .ok (t2.2.1, tyOf t.2.1, celN t4.2.1) us6 d) := hR.symm
 have z6 := want_tail z5 c6 tSe_ne
 have kw := pwant_yes b B t6 us6 0 d z6.ne _ hS.P
 rw [c6] at kw
 clear hR c6 z5
 go_wp2_with (first
  | (go_at_call 80; (with_reducible refine (kw).mono ?_); rintro e v9 ⟨rfl, hP9, on9⟩; replace hS := hS.onl on9 hP9; replace q3' := (on9.block _ (lt_of q3') b3).trans q3'; obtain ⟨g0, g1, g2, gf⟩ := dc_cells q3'; obtain ⟨f0, f1, f2, ff⟩ := dc_cells hS.q; clear kw)
  | fail)
 exact bodyPost_ret (v := .agg #[.string t2.2.1, .int .i64 (tyOf t.2.1), .int .i64 (celN t4.2.1)]) (by simp [results, Tryz.results61, go_sem, f0, f1, f2]) rfl (dc_done hS (x := (t2.2.1, tyOf t.2.1, celN t4.2.1)) rfl e0.out _ _ _)
end Go.Proofs.YtknoibocpbfmmaaGreatDoor



