/- Printed statements in a row; over all. -/
import Derived.Test.YtknoibocpbfmmaaGreatDoorWPeF
import Derived.Test.YtknoibocpbfmmaaGreatDoorWPbM
namespace Go.Proofs.YtknoibocpbfmmaaGreatDoor
open Go.RowKit
set_option linter.unusedVariables false
set_option linter.unusedSimpArgs false
set_option maxRecDepth 100000 in
set_option maxHeartbeats 3200000 in
theorem pstmts (f : So) (hA : f.all SpP) (hn : f.len ≤ 1099511627776) : SpB f := by
 intro B b mg l S v w hB hG hS hO hT hP hz
 obtain ⟨R, hQ⟩ : ∃ R, soL mg.data.toList f = R := ⟨_, rfl⟩
 rw [hQ] at hz ⊢
 obtain ⟨pp, qq, rfl, hT0⟩ := hT
 have hT' : SlS w S (.slice pp f.len qq) f := ⟨pp, qq, rfl, hT0⟩
 obtain ⟨m, hm⟩ : ∃ m, f.len = m := ⟨_, rfl⟩
 rw [hm] at hT' ⊢
 have hm' : Hid (f.len = m) := hm
 have hm40 : Hid (m ≤ 1099511627776) := by rw [← hm]; exact hn
 have hA' : Hid (f.all SpP) := hA
 have hI : Hid (∃ a, PrW B b mg (l ++ a) w w ∧ a ++ soL mg.data.toList (f.drop 0) = R) := ⟨[], by rw [List.append_nil]; exact PrW.self hP, hQ⟩
 have hT2 : Hid (SlS w S (.slice pp m qq) f) := hT'
 have hO2 : Hid (OpsAt w) := hO
 have hz2 : Hid (l.length + R.length ≤ 140737488355328) := hz
 have hB2 : Hid (B ≤ w.heap.size) := hB
 have hS2 : Hid (∀ k, S k → k < B) := hS
 have hG2 : Hid (0 < B) := hG
 clear hT0 hm hn hA hO hT' hP hQ hG hz hB hS
 go_enter Tryz.func35, Tryz.ntmps35
 go_upto_region 1 with fail
 go_loopw [8] (fun i wr => ∃ (j : Nat) (V : World), i = .int .i64 j ∧ V = wr ∧ Hid (∃ a, PrW B b mg (l ++ a) w V ∧ a ++ soL mg.data.toList (f.drop j) = R) ∧ j ≤ m) (fun i _ => m - (intOf i).toNat)
 case atStart => exact ⟨0, w, rfl, rfl, hI, by omega⟩
 case round =>
  clear hI
  obtain ⟨j, V, rfl, e, hI, hj⟩ := hrel
  subst e
  obtain ⟨a, hW, hQ⟩ := hI.out
  clear hI
  by_cases cm : j < m
  ·have cm' : (j : Int) < (m : Int) := by omega
   obtain ⟨s, hf⟩ := So.drop_at (f := f) (j := j) (by rw [hm'.out]; exact cm)
   have hal := So.all_drop j hA'.out
   rw [hf] at hQ hal
   rw [soL_row] at hQ
   have bV : B ≤ V.heap.size := Nat.le_trans hB2.out hW.2.1.size
   have hTT : SlS V S (.slice pp m qq) f := hT2.out.kp (fun k hk _ => hW.2.1.block k (hS2.out k hk))
   have hOV : OpsAt V := fun j v e => (hW.2.1.cell hG2.out).trans (hO2.out j v e)
   obtain ⟨p2', q2', e2, hT⟩ := hTT
   obtain ⟨rfl, e4, rfl⟩ := Value.slice.inj e2
   clear e2 e4
   rcases hT with hT | ⟨c, u, rfl, hT⟩
   ·exfalso; have := hm'.out; rw [hT] at this; simp [So.len] at this; omega
   have hTj := SoAt.drop j hT
   rw [hf] at hTj
   obtain ⟨lc, p0, q0, p1, q1, p2, q2, p3, q3, p4, q4, p5, q5, sT, k0, k1, k2, k3, k4, k5, k6, k7, k8, k9, k10, k11, k12, k13, k14, k15, k16⟩ := hTj.cells
   have kS : ∀ Y, Below V.heap.size V Y → Calls Tryz.prog 58 #[.pointer (some ⟨b, 0, none⟩), .agg #[.int .i64 s.dO, .string s.name, .slice p0 s.index.len q0, .int .i64 s.value.op, .string s.value.tx, .int .i64 s.value.ty, .slice p1 s.value.ks.len q1, .int .i64 s.low.op, .string s.low.tx, .int .i64 s.low.ty, .slice p2 s.low.ks.len q2, .int .i64 s.high.op, .string s.high.tx, .int .i64 s.high.ty, .slice p3 s.high.ks.len q3, .slice p4 s.thn.len q4, .slice p5 s.els.len q5]] Y fun e w' => e = .returned (.tuple #[]) ∧ PrW B b mg (l ++ a ++ stL mg.data.toList s) w w' := fun Y g =>
    ((show SpP s from hal.1) B b mg (l ++ a) S p0 q0 p1 q1 p2 q2 p3 q3 p4 q4 p5 q5 Y (Nat.le_trans bV g.size) hG2.out hS2.out (hOV.bel g) (sT.kp (Below.kp g _)) (hW.bel bV g).1 (by
     have := hz2.out
     rw [← hQ] at this
     simp only [List.length_append] at this ⊢
     omega)).mono fun e w' k => ⟨k.1, (hW.bel bV g).trans k.2⟩
   have ix := so_ix c u m qq j cm
   have cV : c < V.heap.size := World.block_lt_of_cell? V _ k0
   have wj : IntKind.i64.wrap ((j : Int) + 1) = ((j + 1 : Nat) : Int) := by
    rw [IntKind.wrap_i64]
    have := hm40.out
    omega
   have hQ' : Hid (a ++ stL mg.data.toList s ++ soL mg.data.toList (f.drop (j + 1)) = R) := by rw [List.append_assoc]; exact hQ
   generalize u + j * 17 = o at *
   obtain ⟨CS, hCS⟩ : ∃ CS : List Value, [.int .i64 s.dO, .string s.name, .slice p0 s.index.len q0, .int .i64 s.value.op, .string s.value.tx, .int .i64 s.value.ty, .slice p1 s.value.ks.len q1, .int .i64 s.low.op, .string s.low.tx, .int .i64 s.low.ty, .slice p2 s.low.ks.len q2, .int .i64 s.high.op, .string s.high.tx, .int .i64 s.high.ty, .slice p3 s.high.ks.len q3, .slice p4 s.thn.len q4, .slice p5 s.els.len q5] = CS := ⟨_, rfl⟩
   have hl : CS.length = 17 := by rw [← hCS]; rfl
   have h1 : ∀ v ∈ CS, v.oneCell' = true := by
    rw [← hCS]
    intro v hv
    simp only [List.mem_cons, List.not_mem_nil, or_false] at hv
    rcases hv with rfl | rfl | rfl | rfl | rfl | rfl | rfl | rfl | rfl | rfl | rfl | rfl | rfl | rfl | rfl | rfl | rfl <;> rfl
   have kc : V.rangeAt c o CS := by
    rw [← hCS]
    intro jj v hv
    match jj, hv with
    | 0, hv => obtain rfl := Option.some.inj hv; exact k0
    | 1, hv => obtain rfl := Option.some.inj hv; exact k1
    | 2, hv => obtain rfl := Option.some.inj hv; exact k2
    | 3, hv => obtain rfl := Option.some.inj hv; exact k3
    | 4, hv => obtain rfl := Option.some.inj hv; exact k4
    | 5, hv => obtain rfl := Option.some.inj hv; exact k5
    | 6, hv => obtain rfl := Option.some.inj hv; exact k6
    | 7, hv => obtain rfl := Option.some.inj hv; exact k7
    | 8, hv => obtain rfl := Option.some.inj hv; exact k8
    | 9, hv => obtain rfl := Option.some.inj hv; exact k9
    | 10, hv => obtain rfl := Option.some.inj hv; exact k10
    | 11, hv => obtain rfl := Option.some.inj hv; exact k11
    | 12, hv => obtain rfl := Option.some.inj hv; exact k12
    | 13, hv => obtain rfl := Option.some.inj hv; exact k13
    | 14, hv => obtain rfl := Option.some.inj hv; exact k14
    | 15, hv => obtain rfl := Option.some.inj hv; exact k15
    | 16, hv => obtain rfl := Option.some.inj hv; exact k16
    | n + 17, hv => cases hv
   have kS9 : ∀ Y, Below V.heap.size V Y → Calls Tryz.prog 58 #[.pointer (some ⟨b, 0, none⟩), .agg CS.toArray] Y fun e w' => e = .returned (.tuple #[]) ∧ PrW B b mg (l ++ a ++ stL mg.data.toList s) w w' := by rw [← hCS]; exact kS
   clear kS k0 k1 k2 k3 k4 k5 k6 k7 k8 k9 k10 k11 k12 k13 k14 k15 k16 hCS
   clear hTj hT hal hf sT lc hQ hOV
   go_upto_region 2 with fail
   refine wp_region_list ?_
   refine Eq.mpr (if_pos (by rfl)) (Or.inl ?_)
   refine wp_index_by 23 (.tmp 6) (.tmp 8) rfl _ _ _ rfl rfl (ix _) ?_
   refine Eq.mpr (if_pos (by rfl)) (Or.inl ?_)
   refine wp_load_by 87 (.tmp 10) rfl _ _ rfl (ld17o kc hl) ?_
   refine Eq.mpr (if_pos (by rfl)) (Or.inl ?_)
   refine wp_alloc_by 87 rfl _ (al17 _) ?_
   refine Eq.mpr (if_pos (by rfl)) (Or.inl ?_)
   refine wp_store_by 87 (.tmp 5) (.tmp 11) rfl _ _ rfl rfl (sn17 V hl h1) ?_
   simp only [Act.put, List.setIfInBounds_toArray, List.set_cons_zero, List.set_cons_succ]
   go_upto_region 3 with fail
   have gX := pb_new (Below.refl V.heap.size V) (.cells CS.toArray 87)
   have qB := World.alloc_heap_new V (.cells CS.toArray 87)
   have kS2 := kS9 _ gX
   obtain ⟨X, hX⟩ : ∃ X, V.alloc (.cells CS.toArray 87) = X := ⟨_, rfl⟩
   obtain ⟨Bx, hBx⟩ : ∃ B, V.heap.size = B := ⟨_, rfl⟩
   rw [hX] at qB kS2
   rw [hBx] at qB
   rw [hX]
   (try rw [hBx])
   clear hX gX hBx cV ix kc h1 kS9 hW
   refine wp_region_list ?_
   refine Eq.mpr (if_pos (by rfl)) (Or.inl ?_)
   refine wp_move_by (.tmp 0) rfl _ rfl ?_
   refine Eq.mpr (if_pos (by rfl)) (Or.inl ?_)
   refine wp_load_by 87 (.tmp 5) rfl _ _ rfl (ld17 qB hl) ?_
   simp only [Act.put, List.setIfInBounds_toArray, List.set_cons_zero, List.set_cons_succ]
   go_wp2_with (first
    | (go_at_call 58; (refine kS2.mono ?_); rintro e v1 ⟨rfl, hW⟩)
    | fail)
   exact ⟨⟨j + 1, v1, by go_num, rfl, ⟨a ++ stL mg.data.toList s, by rw [← List.append_assoc]; exact hW, hQ'.out⟩, by omega⟩, by simp [intOf]; omega⟩
  ·obtain rfl : j = m := by omega
   rw [← hm'.out, So.drop_end] at hQ
   have hR : a = R := by rw [← hQ]; simp [soL]
   have nn : ¬ ((j : Int) < (j : Int)) := by omega
   clear hQ
   go_wp2_with fail
   exact bodyPost_end (v := .tuple #[]) (by simp [results, Tryz.results35, go_sem]) rfl ⟨rfl, by rw [← hR]; exact hW⟩
/-- What all expressions in statements weigh. -/
def So.wt : So → Nat
 | .nil => 0
 | .cons _ nm ix v l h t e r => nm.size + ix.wt + (v.row .nil).wt + (l.row .nil).wt + (h.row .nil).wt + t.wt + e.wt + r.wt + 1
theorem so_len_wt : ∀ f : So, f.len ≤ f.wt
 | .nil => Nat.le_refl _
 | .cons d nm ix v l h t e r => by
  have := so_len_wt r
  show r.len + 1 ≤ _
  unfold So.wt
  omega
theorem sp_of : ∀ f : So, f.oks → f.wt ≤ 549755813888 → f.all SpP
 | .nil, _, _ => trivial
 | .cons d nm ix v l h t e r, ho, hw => by
  have w1 : nm.size + ix.wt + (v.row .nil).wt + (l.row .nil).wt + (h.row .nil).wt + t.wt + e.wt + r.wt + 1 ≤ 549755813888 := hw
  have kt : SpB t := pstmts t (sp_of t ho.2.1 (by omega)) (by have := so_len_wt t; omega)
  have ke : SpB e := pstmts e (sp_of e ho.2.2.1 (by omega)) (by have := so_len_wt e; omega)
  refine ⟨?_, sp_of r ho.2.2.2 (by omega)⟩
  rcases ho.1 with ⟨h0, h1, h2, h3, h4, _⟩ | ⟨h0, h1, _, _, h2, _, h3, _⟩ | ⟨h0, _, _, h1, _⟩ | ⟨h0, _, _, h1, _⟩
  ·exact sp_1 ⟨d, nm, ix, v, l, h, t, e⟩ h0 h3 h4 (show ix.wt ≤ _ by omega) (show (v.row .nil).wt ≤ _ by omega)
  ·exact sp_2 ⟨d, nm, ix, v, l, h, t, e⟩ h0 h2 h3 (show (l.row .nil).wt ≤ _ by omega) (show (h.row .nil).wt ≤ _ by omega)
  ·exact sp_3 ⟨d, nm, ix, v, l, h, t, e⟩ h0 kt ke h1 (show (v.row .nil).wt ≤ _ by omega)
  ·exact sp_4 ⟨d, nm, ix, v, l, h, t, e⟩ h0 kt h1 (show (v.row .nil).wt ≤ _ by omega)
theorem pstmts_any (f : So) (ho : f.oks) (hw : f.wt ≤ 549755813888) : SpB f := pstmts f (sp_of f ho hw) (by have := so_len_wt f; omega)
end Go.Proofs.YtknoibocpbfmmaaGreatDoor



