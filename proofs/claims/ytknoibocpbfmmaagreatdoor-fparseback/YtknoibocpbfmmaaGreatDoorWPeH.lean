/- What a printer has written, as a string; cells' text; textOf. -/
import Derived.Test.YtknoibocpbfmmaaGreatDoorWPeG
import Derived.Test.YtknoibocpbfmmaaGreatDoorWG15
import Derived.Test.YtknoibocpbfmmaaGreatDoorWG16
namespace Go.Proofs.YtknoibocpbfmmaaGreatDoor
open Go.RowKit
set_option linter.unusedVariables false
set_option linter.unusedSimpArgs false
set_option maxRecDepth 100000 in
set_option maxHeartbeats 3200000 in
theorem pr_nil (B b : Nat) (p : Value) (mg : ByteArray) (w : World) (hbk : w.heap[b]? = some (.cells #[p, .slice none 0 0, .string mg] 69 (0, 0))) :
  Calls Tryz.prog 36 #[.pointer (some ⟨b, 0, none⟩)] w fun e w' => e = .returned (.string ⟨#[]⟩) ∧ Below B w w' := by
 have hUS := pr_none
 have hlt : b < w.heap.size := lt_of hbk
 have c1 : w.drew.cell? ⟨b, 1, none⟩ = some (.slice none 0 0) := by
  have : w.drew.heap[b]? = some (.cells #[p, .slice none 0 0, .string mg] 69 (0, 0)) := hbk
  rw [Lib.cell_of_heap this]; rfl
 have hSD : (Builtin.unsafeSliceData_ #[65] 106 #[.slice none 0 0]).run Tryz.prog w.drew = .ok (.pointer none) w.drew := rfl
 go_enter Tryz.func36, Tryz.ntmps36
 go_wp2
 go_region
 all_goals (go_wp2; go_ret; exact ⟨rfl, Below.drew (Below.refl B w)⟩)
set_option maxRecDepth 100000 in
set_option maxHeartbeats 3200000 in
theorem pr_noroom (B b : Nat) (p : Value) (mg : ByteArray) (w : World) (g : Nat) (cur : Array Value) (hBw : B ≤ w.heap.size) (hg : w.heap[g]? = some (.cells cur 5 (0, 0))) (hbk : w.heap[b]? = some (.cells #[p, .slice (some ⟨g, 0, none⟩) 0 0, .string mg] 69 (0, 0))) :
  Calls Tryz.prog 36 #[.pointer (some ⟨b, 0, none⟩)] w fun e w' => e = .returned (.string ⟨#[]⟩) ∧ Below B w w' := by
 have hUS := pr_none
 have hlt : b < w.heap.size := lt_of hbk
 have c1 : w.drew.cell? ⟨b, 1, none⟩ = some (.slice (some ⟨g, 0, none⟩) 0 0) := by
  have : w.drew.heap[b]? = some (.cells #[p, .slice (some ⟨g, 0, none⟩) 0 0, .string mg] 69 (0, 0)) := hbk
  rw [Lib.cell_of_heap this]; rfl
 have hSD : (Builtin.unsafeSliceData_ #[65] 106 #[.slice (some ⟨g, 0, none⟩) 0 0]).run Tryz.prog w.drew = .ok (.pointer (some ⟨w.drew.heap.size, 0, none⟩)) (w.drew.alloc (.view ⟨g, 0, none⟩ 5)) :=
  Lib.run_unsafeSliceData_zero w.drew _ _ 5 pr_pu8 ⟨g, 0, none⟩ 0 (5, cur.size) (by have hg' : w.drew.heap[g]? = some (.cells cur 5 (0, 0)) := hg; simp [World.shape?, hg'])
 have c2 : (w.drew.alloc (.view ⟨g, 0, none⟩ 5)).cell? ⟨b, 1, none⟩ = some (.slice (some ⟨g, 0, none⟩) 0 0) := by
  have : (w.drew.alloc (.view ⟨g, 0, none⟩ 5)).heap[b]? = _ := (Lib.alloc_old w.drew _ b hlt).trans hbk
  rw [Lib.cell_of_heap this]; rfl
 have c3 : (w.alloc (.view ⟨g, 0, none⟩ 5)).drew.cell? ⟨b, 1, none⟩ = some (.slice (some ⟨g, 0, none⟩) 0 0) := c2
 have c0 : w.cell? ⟨b, 1, none⟩ = some (.slice (some ⟨g, 0, none⟩) 0 0) := c1
 go_enter Tryz.func36, Tryz.ntmps36
 go_wp2
 go_region
 all_goals (go_wp2; go_ret; exact ⟨rfl, (Below.drew (Below.refl B w)).alloc hBw _⟩)
set_option maxRecDepth 100000 in
set_option maxHeartbeats 3200000 in
theorem pr_room (B b : Nat) (p : Value) (mg : ByteArray) (w : World) (g cap : Nat) (hc0 : cap ≠ 0) (hbk : w.heap[b]? = some (.cells #[p, .slice (some ⟨g, 0, none⟩) 0 cap, .string mg] 69 (0, 0))) :
  Calls Tryz.prog 36 #[.pointer (some ⟨b, 0, none⟩)] w fun e w' => e = .returned (.string ⟨#[]⟩) ∧ Below B w w' := by
 have hUS := pr_none
 have hlt : b < w.heap.size := lt_of hbk
 have c1 : w.drew.cell? ⟨b, 1, none⟩ = some (.slice (some ⟨g, 0, none⟩) 0 cap) := by
  have : w.drew.heap[b]? = some (.cells #[p, .slice (some ⟨g, 0, none⟩) 0 cap, .string mg] 69 (0, 0)) := hbk
  rw [Lib.cell_of_heap this]; rfl
 have hSD : (Builtin.unsafeSliceData_ #[65] 106 #[.slice (some ⟨g, 0, none⟩) 0 cap]).run Tryz.prog w.drew = .ok (.pointer (some ⟨g, 0, none⟩)) w.drew := Lib.run_unsafeSliceData_row _ _ _ _ _ _ hc0
 clear hc0
 go_enter Tryz.func36, Tryz.ntmps36
 go_wp2
 go_region
 all_goals (go_wp2; go_ret; exact ⟨rfl, Below.drew (Below.refl B w)⟩)
theorem pr_str_any (B b : Nat) (mg : ByteArray) (l : List UInt8) (w : World) (h : PrU B b mg (Lib.byteCells l) w) (hBw : B ≤ w.heap.size) :
  Calls Tryz.prog 36 #[.pointer (some ⟨b, 0, none⟩)] w fun e w' => e = .returned (.string ⟨l.toArray⟩) ∧ Below B w w' := by
 cases l with
 | cons x r => exact pr_string B b mg (x :: r) w h (by simp)
 | nil =>
  obtain ⟨p, hB, v, hbk, hown, hne⟩ := pr_any h
  rcases hown.2 with ⟨rfl, _⟩ | ⟨g, cap, cur, rfl, hbg, hg, _, _, _, _⟩
  ·exact pr_nil B b p mg w hbk
  ·by_cases hc0 : cap = 0
   ·subst hc0
    exact pr_noroom B b p mg w g cur hBw hg hbk
   ·exact pr_room B b p mg w g cap hc0 hbk
theorem dec_dig {i : Nat} (h : i < 100) : (⟨(Lib.decDigits i).toArray⟩ : ByteArray) = digT i := by
 unfold digT
 rw [Lib.decDigits]
 split
 ·rfl
 ·rw [Lib.decDigits, dif_pos (by omega)]; rfl
/-- An array's cells, as they are printed. -/
def celT (n : Int) : ByteArray := if n = 0 then tx0 else tLb ++ digT n.toNat ++ tRb
theorem cel_list (n : Int) : (celT n).data.toList = celL n := by
 unfold celT celL
 split
 ·rfl
 ·simp
set_option maxRecDepth 100000 in
set_option maxHeartbeats 3200000 in
theorem pcelT (n : Int) (h : 0 ≤ n ∧ n ≤ 64) (w : World) : Calls Tryz.prog 34 #[.int .i64 n] w fun e w' => e = .returned (.string (celT n)) ∧ Below w.heap.size w w' := by
 by_cases h0 : n = 0
 ·subst h0
  go_enter Tryz.func34, Tryz.ntmps34
  go_wp2_with fail
  go_ret
  exact ⟨rfl, Below.refl _ _⟩
 ·obtain ⟨i, rfl⟩ : ∃ i : Nat, n = i := ⟨n.toNat, by omega⟩
  have hi : i < 100 := by omega
  have kI := Tryz.strconv_Itoa_small i hi
  have e : celT (i : Int) = tLb ++ digT i ++ tRb := by unfold celT; rw [if_neg h0]; rfl
  rw [e]
  rw [dec_dig hi] at kI
  have z : (digT i).size ≤ 2 := by
   unfold digT
   split
   ·show 1 ≤ 2; decide
   ·show 2 ≤ 2; decide
  have k0 : (((i : Nat) : Int) == 0) = false := by rw [beq_eq_false_iff_ne]; exact h0
  obtain ⟨D, hD⟩ : ∃ D, digT i = D := ⟨_, rfl⟩
  rw [hD] at kI z ⊢
  obtain ⟨nD, hnD⟩ : ∃ n, D.size = n := ⟨_, rfl⟩
  rw [hnD] at z
  have s1 : (⟨#[91]⟩ : ByteArray).size = 1 := rfl
  have s2 : (⟨#[93]⟩ : ByteArray).size = 1 := rfl
  have s3 : ((⟨#[91]⟩ : ByteArray) ++ D).size = 1 + nD := by rw [z_app, hnD]; rfl
  clear hD e h h0 hi
  go_enter Tryz.func34, Tryz.ntmps34
  go_wp2_with (first | (go_at_call 57; (refine (kI _).mono ?_); rintro e v1 ⟨rfl, rfl⟩) | fail)
  go_ret
  exact ⟨rfl, Below.refl _ _⟩
set_option maxRecDepth 100000 in
set_option maxHeartbeats 3200000 in
theorem ptextOf (p : Pg) (cc : Nat × Nat) (hp : ruP p = some cc) (hw : p.2.wt ≤ 549755813888) (hz : (pgL p).length ≤ 140737488355328) (S : Nat → Prop) (dv bv : Value) (w : World) (hO : OpsAt w) (hD : SlDc w dv p.1) (hT : SlS w S bv p.2) :
  Calls Tryz.prog 18 #[.agg #[dv, bv]] w fun e w' => e = .returned (.string ⟨(pgL p).toArray⟩) ∧ Below w.heap.size w w' := by
 obtain ⟨hl, hd, ho⟩ := ru_parts hp
 have kB := pstmts_any p.2 ho hw
 obtain ⟨w0, hw0⟩ : ∃ X, (w.alloc (.cells #[dv, bv] 25)).alloc (.cells #[.pointer none, .slice none 0 0, .string ⟨#[]⟩] 69) = X := ⟨_, rfl⟩
 obtain ⟨b0, hb0'⟩ : ∃ b, w.heap.size = b := ⟨_, rfl⟩
 obtain ⟨b, hb'⟩ : ∃ b, b0 + 1 = b := ⟨_, rfl⟩
 have g0 : Below w.heap.size w w0 := by rw [← hw0]; exact pb_new (pb_new (Below.refl _ _) _) _
 have s0 : w0.heap.size = b + 1 := by rw [← hw0, ← hb', ← hb0']; simp [go_sem]
 have qb : w0.heap[b]? = some (.cells #[.pointer none, .slice none 0 0, .string ⟨#[]⟩] 69 (0, 0)) := by
  rw [← hw0, show b = (w.alloc (.cells #[dv, bv] 25)).heap.size by rw [World.size_alloc]; omega]
  exact World.alloc_heap_new _ _
 have q0 : w0.heap[b0]? = some (.cells #[dv, bv] 25 (0, 0)) := by
  rw [← hw0, Below.heap_alloc _ _ b0 (by rw [World.size_alloc]; omega), ← hb0']
  exact World.alloc_heap_new _ _
 have hP0 : PrU b b tx0 (Lib.byteCells []) w0 := Or.inl ⟨Nat.le_refl _, .slice none 0 0, qb, World.ownsRow_nil _ _ _ _, by simp [Value.ownBlock]⟩
 have hbb : w.heap.size ≤ b := by omega
 have hT1 := hT.lt
 obtain ⟨R, hQ⟩ : ∃ R, p.1.flatMap dcL = R := ⟨_, rfl⟩
 have hI : Hid (∃ a, PrW b b tx0 a w0 w0 ∧ a ++ (p.1.drop 0).flatMap dcL = R) := ⟨[], PrW.self hP0, hQ⟩
 obtain ⟨pp, qq, rfl, hD0⟩ := hD
 obtain ⟨p2, q2, rfl, _⟩ := hT
 obtain ⟨m, hm⟩ : ∃ m, p.1.length = m := ⟨_, rfl⟩
 rw [hm] at hw0 q0 hl
 rw [hm]
 have hm' : Hid (p.1.length = m) := hm
 have d0 : w0.cell? ⟨b0, 0, none⟩ = some (.slice pp m qq) := by simp [World.cell?, q0]
 have hw0' : Hid ((w.alloc (.cells #[.slice pp m qq, .slice p2 p.2.len q2] 25)).alloc (.cells #[.pointer none, .slice none 0 0, .string ⟨#[]⟩] 69) = w0) := hw0
 have hn : Hid (w.heap.size = b0 ∧ b0 + 1 = b ∧ w0.heap.size = b + 1) := ⟨hb0', hb', s0⟩
 have hD2 : Hid (p.1 = [] ∨ ∃ c u, pp = some ⟨c, u, none⟩ ∧ ∀ j d, p.1[j]? = some d → w.cell? ⟨c, u + j * 3, none⟩ = some (.string d.1) ∧ w.cell? ⟨c, u + j * 3 + 1, none⟩ = some (.int .i64 d.2.1) ∧ w.cell? ⟨c, u + j * 3 + 2, none⟩ = some (.int .i64 d.2.2)) := hD0
 have g0' : Hid (Below w.heap.size w w0) := g0
 have hO' : Hid (OpsAt w) := hO
 have hT' : Hid (SlS w (fun k => S k ∧ k < w.heap.size) (.slice p2 p.2.len q2) p.2) := hT1
 have hz' : Hid (R.length + (soL [] p.2).length ≤ 140737488355328) := by
  show _ ≤ _
  rw [← hQ]
  unfold pgL at hz
  rw [List.length_append] at hz
  exact hz
 have hd' : Hid (p.1.all dcOk = true) := hd
 have hl' : Hid (m ≤ 24) := hl
 have q0' : Hid (w0.heap[b0]? = some (.cells #[.slice pp m qq, .slice p2 p.2.len q2] 25 (0, 0))) := q0
 have hb0 : Hid (b ≤ w0.heap.size) := by show _ ≤ _; omega
 have hQ0 : Hid (p.1.flatMap dcL = R) := hQ
 have lg : Hid (0 < w.heap.size) := ops_lt hO
 clear hp hw hz hl hd ho hw0 hb0' hb' g0 s0 qb q0 hP0 hbb hT1 hQ hD0 hm hO
 go_enter Tryz.func18, Tryz.ntmps18
 go_upto_region 2 with fail
 rw [show w.heap.size + 1 = b from by rw [hn.out.1]; exact hn.out.2.1]
 rw [hw0'.out]
 rw [show w.heap.size = b0 from hn.out.1]
 clear hw0'
 go_upto_region 3 with fail
 clear d0
 go_loopw [9] (fun i wr => ∃ (j : Nat) (V : World), i = .int .i64 j ∧ V = wr ∧ Hid (∃ a, PrW b b tx0 a w0 V ∧ a ++ (p.1.drop j).flatMap dcL = R) ∧ j ≤ m) (fun i _ => m - (intOf i).toNat)
 case atStart => exact ⟨0, w0, rfl, rfl, hI, by omega⟩
 case round =>
  clear hI
  obtain ⟨j, V, rfl, e, hI, hj⟩ := hrel
  subst e
  obtain ⟨a, hW, hQ⟩ := hI.out
  clear hI
  have hn2 := hn.out
  have gV : Below w.heap.size w V := g0'.out.trans (hW.2.1.mono (by omega))
  by_cases cm : j < m
  ·have cm' : (j : Int) < (m : Int) := by omega
   obtain ⟨d, hdj⟩ : ∃ d, p.1[j]? = some d := ⟨_, List.getElem?_eq_getElem (by rw [hm'.out]; exact cm)⟩
   rcases hD2.out with h0 | ⟨c, u, rfl, hc⟩
   ·exfalso; have := hm'.out; rw [h0] at this; simp at this; omega
   obtain ⟨y0, y1, y2⟩ := hc j d hdj
   have k0 := pb_cell gV y0
   have k1 := pb_cell gV y1
   have k2 := pb_cell gV y2
   have dok := (List.all_eq_true.1 hd'.out) d (List.mem_of_getElem? hdj)
   obtain ⟨_, dt, dn⟩ := dc_all dok
   have ed : (p.1.drop j).flatMap dcL = dcL d ++ (p.1.drop (j + 1)).flatMap dcL := by
    obtain ⟨hj2, e⟩ := List.getElem?_eq_some_iff.1 hdj
    rw [List.drop_eq_getElem_cons hj2, List.flatMap_cons, e]
   have hQ' : Hid (a ++ (p.1.drop j).flatMap dcL = R) := hQ
   have hfl : Hid ((p.1.drop j).flatMap dcL = dcL d ++ (p.1.drop (j + 1)).flatMap dcL) := ed
   have ix := dc_ix c u m qq j cm
   have cV : c < V.heap.size := World.block_lt_of_cell? V _ k0
   have kW := pword d.2.1
   have kC := fun V => pcelT d.2.2 dn V
   have m40 := hl'.out
   have wj : IntKind.i64.wrap ((j : Int) + 1) = ((j + 1 : Nat) : Int) := by rw [IntKind.wrap_i64]; omega
   have zl : a.length + (tx0.size + ((catL [wdOf d.2.1, ⟨#[32]⟩, d.1, celT d.2.2, ⟨#[59]⟩]).length + 1)) ≤ 140737488355328 := by
    have := hz'.out
    rw [← hQ, ed] at this
    have e2 : (dcL d).length = (catL [wdOf d.2.1, ⟨#[32]⟩, d.1, celT d.2.2, ⟨#[59]⟩]).length + 1 := by
     unfold dcL
     rw [← cel_list]
     simp [catL]; omega
    simp only [List.length_append] at this
    have : (tx0 : ByteArray).size = 0 := rfl
    omega
   obtain ⟨W, hWd⟩ : ∃ W, wdOf d.2.1 = W := ⟨_, rfl⟩
   obtain ⟨C, hCd⟩ : ∃ W, celT d.2.2 = W := ⟨_, rfl⟩
   rw [hWd] at kW zl
   rw [hCd] at kC zl
   have hWC : Hid (wdOf d.2.1 = W ∧ celT d.2.2 = C) := ⟨hWd, hCd⟩
   have hzl : Hid _ := zl
   have hWV : Hid (PrW b b tx0 a w0 V) := hW
   generalize u + j * 3 = o3 at *
   clear y0 y1 y2 hc hdj dok dt dn ed hQ hW zl hWd hCd gV hn2 m40
   go_upto_region 5 with fail
   have gX := pb_new (Below.refl V.heap.size V) (.cells #[.string d.1, .int .i64 d.2.1, .int .i64 d.2.2] 53)
   have qX := World.alloc_heap_new V (.cells #[.string d.1, .int .i64 d.2.1, .int .i64 d.2.2] 53)
   obtain ⟨X, hX⟩ : ∃ X, V.alloc (.cells #[.string d.1, .int .i64 d.2.1, .int .i64 d.2.2] 53) = X := ⟨_, rfl⟩
   obtain ⟨bd, hbd⟩ : ∃ B, V.heap.size = B := ⟨_, rfl⟩
   have hWX : Hid (PrW b b tx0 a w0 X) := by rw [← hX]; exact hWV.out.bel (Nat.le_trans hb0.out hWV.out.2.1.size) gX
   rw [hX] at gX qX ⊢
   rw [hbd] at qX
   (try rw [hbd])
   have hall : ∀ X9, Below X.heap.size X X9 → (X9.cell? ⟨bd, 0, none⟩ = some (.string d.1) ∧ X9.cell? ⟨bd, 1, none⟩ = some (.int .i64 d.2.1) ∧ X9.cell? ⟨bd, 2, none⟩ = some (.int .i64 d.2.2)) := fun X9 g => ⟨pb_cell g (by simp [World.cell?, qX]), pb_cell g (by simp [World.cell?, qX]), pb_cell g (by simp [World.cell?, qX])⟩
   clear hX hbd gX qX k0 k1 k2 cV ix hWV
   refine wp_region_pre 9 [13, 14, 15, 16, 17, 18, 19, 20, 21, 22] (Rls [Eqv (.pointer (some ⟨bd, 1, none⟩)), Eqv (.int .i64 d.2.1), Eqv (.string W), Eqv (.pointer (some ⟨bd, 0, none⟩)), Eqv (.string d.1), Eqv (.pointer (some ⟨bd, 2, none⟩)), Eqv (.int .i64 d.2.2), Eqv (.string C), (fun v w => ∃ c, v = .slice (some ⟨c, 0, none⟩) 5 5 ∧ w.heap[c]? = some (.cells #[.string W, .string ⟨#[32]⟩, .string d.1, .string C, .string ⟨#[59]⟩] 9 (0, 0)) ∧ X.heap.size ≤ c)]) [0, 1, 2, 3, 4, 5, 6, 7, 8] (by kernel_rfl) (by kernel_rfl) (by kernel_rfl) (by kernel_rfl) (by kernel_rfl) (r := 1) (lst := #[true, true, true, true, true, true, true, true, true, false]) (by kernel_rfl) (by kernel_rfl) (MonoL.of (MonoL.eq (MonoL.eq (MonoL.eq (MonoL.eq (MonoL.eq (MonoL.eq (MonoL.eq (MonoL.eq (MonoL.cons (fun v w w2 ⟨c, h1, h2, h3⟩ g => ⟨c, h1, (g.block c (lt_of h2)).trans h2, h3⟩) MonoL.nil)))))))))) ?_ ?_
   ·skip
    refine StepsI.cons (o := _) rfl ?_ ?_
    ·try simp only [List.getElem_toArray, List.getElem_cons_zero, List.getElem_cons_succ]
     refine StepI.of ?_ ?_ ?_
     ·rfl
     ·kernel_rfl
     intro A w hb hT0 hd0 K hK
     have f0 : A.tmps[5]?.getD undef = .pointer (some ⟨bd, 0, none⟩) := hT0 5 (by kernel_rfl)
     clear hT0 hd0
     go_simp
     exact hK.out _ _ (Below.refl _ _) rfl
    refine StepsI.cons (o := _) rfl ?_ ?_
    ·try simp only [List.getElem_toArray, List.getElem_cons_zero, List.getElem_cons_succ]
     refine StepI.of ?_ ?_ ?_
     ·rfl
     ·kernel_rfl
     intro A w hb hT0 hd0 K hK
     obtain ⟨z0, z1, z2⟩ := hall w hb
     have e0 : A.tmps[13]?.getD undef = .pointer (some ⟨bd, 1, none⟩) := hd0 0 13 (by kernel_rfl)
     clear hT0 hd0
     go_simp
     exact hK.out _ _ (Below.refl _ _) rfl
    refine StepsI.cons (o := _) rfl ?_ ?_
    ·try simp only [List.getElem_toArray, List.getElem_cons_zero, List.getElem_cons_succ]
     refine StepI.of ?_ ?_ ?_
     ·rfl
     ·kernel_rfl
     intro A w hb hT0 hd0 K hK
     have e0 : A.tmps[14]?.getD undef = .int .i64 d.2.1 := hd0 1 14 (by kernel_rfl)
     clear hT0 hd0
     go_simp
     refine (kW w).mono ?_
     rintro e w2 ⟨rfl, rfl⟩
     exact hK.out _ _ (Below.refl _ _) rfl
    refine StepsI.cons (o := _) rfl ?_ ?_
    ·try simp only [List.getElem_toArray, List.getElem_cons_zero, List.getElem_cons_succ]
     refine StepI.of ?_ ?_ ?_
     ·rfl
     ·kernel_rfl
     intro A w hb hT0 hd0 K hK
     have f0 : A.tmps[5]?.getD undef = .pointer (some ⟨bd, 0, none⟩) := hT0 5 (by kernel_rfl)
     clear hT0 hd0
     go_simp
     exact hK.out _ _ (Below.refl _ _) rfl
    refine StepsI.cons (o := _) rfl ?_ ?_
    ·try simp only [List.getElem_toArray, List.getElem_cons_zero, List.getElem_cons_succ]
     refine StepI.of ?_ ?_ ?_
     ·rfl
     ·kernel_rfl
     intro A w hb hT0 hd0 K hK
     obtain ⟨z0, z1, z2⟩ := hall w hb
     have e0 : A.tmps[16]?.getD undef = .pointer (some ⟨bd, 0, none⟩) := hd0 3 16 (by kernel_rfl)
     clear hT0 hd0
     go_simp
     exact hK.out _ _ (Below.refl _ _) rfl
    refine StepsI.cons (o := _) rfl ?_ ?_
    ·try simp only [List.getElem_toArray, List.getElem_cons_zero, List.getElem_cons_succ]
     refine StepI.of ?_ ?_ ?_
     ·rfl
     ·kernel_rfl
     intro A w hb hT0 hd0 K hK
     have f0 : A.tmps[5]?.getD undef = .pointer (some ⟨bd, 0, none⟩) := hT0 5 (by kernel_rfl)
     clear hT0 hd0
     go_simp
     exact hK.out _ _ (Below.refl _ _) rfl
    refine StepsI.cons (o := _) rfl ?_ ?_
    ·try simp only [List.getElem_toArray, List.getElem_cons_zero, List.getElem_cons_succ]
     refine StepI.of ?_ ?_ ?_
     ·rfl
     ·kernel_rfl
     intro A w hb hT0 hd0 K hK
     obtain ⟨z0, z1, z2⟩ := hall w hb
     have e0 : A.tmps[18]?.getD undef = .pointer (some ⟨bd, 2, none⟩) := hd0 5 18 (by kernel_rfl)
     clear hT0 hd0
     go_simp
     exact hK.out _ _ (Below.refl _ _) rfl
    refine StepsI.cons (o := _) rfl ?_ ?_
    ·try simp only [List.getElem_toArray, List.getElem_cons_zero, List.getElem_cons_succ]
     refine StepI.of ?_ ?_ ?_
     ·rfl
     ·kernel_rfl
     intro A w hb hT0 hd0 K hK
     have e0 : A.tmps[19]?.getD undef = .int .i64 d.2.2 := hd0 6 19 (by kernel_rfl)
     clear hT0 hd0
     go_simp
     refine (kC w).mono ?_
     rintro e w2 ⟨rfl, g⟩
     exact hK.out _ _ g (rfl)
    refine StepsI.cons (o := _) rfl ?_ ?_
    ·try simp only [List.getElem_toArray, List.getElem_cons_zero, List.getElem_cons_succ]
     refine StepI.of ?_ ?_ ?_
     ·rfl
     ·kernel_rfl
     intro A w hb hT0 hd0 K hK
     have e0 : A.tmps[15]?.getD undef = .string W := hd0 2 15 (by kernel_rfl)
     have e1 : A.tmps[17]?.getD undef = .string d.1 := hd0 4 17 (by kernel_rfl)
     have e2 : A.tmps[20]?.getD undef = .string C := hd0 7 20 (by kernel_rfl)
     clear hT0 hd0
     go_simp
     exact hK.out _ _ (pb_new (Below.refl _ _) _) ⟨_, rfl, World.alloc_heap_new _ _, hb.size⟩
    exact StepsI.nil
   intro f g wz hb hR
   obtain ⟨c, e9, qc, lc⟩ : ∃ c, g 21 = .slice (some ⟨c, 0, none⟩) 5 5 ∧ wz.heap[c]? = some (.cells #[.string W, .string ⟨#[32]⟩, .string d.1, .string C, .string ⟨#[59]⟩] 9 (0, 0)) ∧ X.heap.size ≤ c := hR 8 21 (by decide) (by kernel_rfl)
   simp only [fillT, List.foldl_cons, List.foldl_nil, List.setIfInBounds_toArray, List.set_cons_zero, List.set_cons_succ]
   rw [e9]
   clear e9 hR hall kW kC
   refine wpAny_ready (rs := [9]) (by kernel_rfl) (by simp) (AllReady.cons (o := _) rfl (fun K hK => ?_) AllReady.nil)
   go_simp
   refine (pline_at [W, ⟨#[32]⟩, d.1, C, ⟨#[59]⟩] 5 5 rfl (by decide) b b tx0 a w0 X wz c hWX.out hb0.out hb qc lc hzl.out).mono ?_
   rintro e v1 ⟨rfl, hW⟩
   refine hK _ _ ?_
   clear hK K
   refine wpAny_done (by kernel_rfl) ?_ _
   clear qc lc hb
   generalize g 13 = u13 at *
   generalize g 14 = u14 at *
   generalize g 15 = u15 at *
   generalize g 16 = u16 at *
   generalize g 17 = u17 at *
   generalize g 18 = u18 at *
   generalize g 19 = u19 at *
   generalize g 20 = u20 at *
   have hW2 : Hid (PrW b b tx0 (a ++ dcL d) w0 v1) := by
    show PrW b b tx0 (a ++ dcL d) w0 v1
    have e : dcL d = W.data.toList ++ ([32] ++ (d.1.data.toList ++ (C.data.toList ++ ([59] ++ [10])))) := by unfold dcL; rw [← hWC.out.1, ← hWC.out.2, cel_list]
    rw [e]
    simpa [catL] using hW
   clear hW
   go_wp2_with fail
   exact ⟨⟨j + 1, v1, by go_num, rfl, ⟨a ++ dcL d, hW2.out, by rw [List.append_assoc, ← hfl.out]; exact hQ'.out⟩, by omega⟩, by simp [intOf]; omega⟩
  ·obtain rfl : j = m := by omega
   have nn : ¬ ((j : Int) < (j : Int)) := by omega
   rw [← hm'.out, List.drop_length] at hQ
   have hR : a = R := by rw [← hQ]; simp
   subst hR
   have bV : b ≤ V.heap.size := Nat.le_trans (by omega) hW.2.1.size
   have qV := hW.2.2 b0 _ q0'.out (fun e => by have := Option.some.inj e; omega) (fun c z e => by cases e)
   have d1 : V.cell? ⟨b0, 1, none⟩ = some (.slice p2 p.2.len q2) := by simp [World.cell?, qV]
   have kS := kB b b tx0 a (fun k => S k ∧ k < w.heap.size) (.slice p2 p.2.len q2) V bV (by have := lg.out; omega) (fun k hk => by have := hk.2; omega) (hO'.out.bel gV) (hT'.out.kp (Below.kp gV _)) hW.1 hz'.out
   have hW' : Hid (PrW b b tx0 a w0 V) := hW
   have gV' : Hid (Below w.heap.size w V) := gV
   have hn3 : Hid (b ≤ V.heap.size ∧ w.heap.size ≤ b) := ⟨bV, by omega⟩
   clear hQ gV hW qV bV hn2
   go_upto_region 8 with (first
    | (go_at_call 35; (refine kS.mono ?_); rintro e v1 ⟨rfl, hW1⟩)
    | fail)
   have hW1' : Hid (PrW b b tx0 (a ++ soL [] p.2) V v1) := hW1
   have kT := pr_str_any b b tx0 _ v1 hW1.1 (Nat.le_trans hn3.out.1 hW1.2.1.size)
   obtain ⟨FL, hFL⟩ : ∃ FL : ByteArray, (⟨(a ++ soL [] p.2).toArray⟩ : ByteArray) = FL := ⟨_, rfl⟩
   have hFL' : Hid (FL = ⟨(pgL p).toArray⟩) := by show FL = _; rw [← hFL]; unfold pgL; rw [hQ0.out]
   rw [show (a ++ soL (tx0 : ByteArray).data.toList p.2) = a ++ soL [] p.2 from rfl, hFL] at kT
   clear hW1 d1 hFL
   go_wp2_with (first
    | (go_at_call 36; (refine kT.mono ?_); rintro e v2 ⟨rfl, g2⟩)
    | fail)
   go_ret
   exact ⟨by rw [hFL'.out]; rfl, (gV'.out.trans (hW1'.out.2.1.mono hn3.out.2)).trans (g2.mono hn3.out.2)⟩
end Go.Proofs.YtknoibocpbfmmaaGreatDoor



