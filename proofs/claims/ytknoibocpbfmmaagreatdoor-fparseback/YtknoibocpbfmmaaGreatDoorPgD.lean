/- plumblineref05: none, RightExpr. -/
import Derived.Test.YtknoibocpbfmmaaGreatDoorPgC
namespace Go.Proofs.YtknoibocpbfmmaaGreatDoor
open Go.RowKit
set_option linter.unusedVariables false
set_option linter.unusedSimpArgs false
theorem ruF_cnt : ∀ (f : Fo) (deep x y : Nat), ruF deep f x = some y → y = x + f.cnt ∧ (f ≠ .nil → y ≤ 2048) ∧ (f ≠ .nil → deep + f.dep ≤ 25)
  | .nil, deep, x, y, h => by
    have h' : some x = some y := h
    cases h'
    exact ⟨rfl, fun h => absurd rfl h, fun h => absurd rfl h⟩
  | .cons op tx ty ks r, deep, x, y, h => by
    rw [ruF] at h
    obtain ⟨hc, h⟩ := oi' h
    obtain ⟨z, h1, h2⟩ := ob' h
    simp only [Bool.and_eq_true, decide_eq_true_eq] at hc
    obtain ⟨a1, a2, a3⟩ := ruF_cnt ks _ _ _ h1
    obtain ⟨b1, b2, b3⟩ := ruF_cnt r _ _ _ h2
    have hk : z ≤ 2048 := by
      by_cases c : ks = .nil
      · have e : ks.cnt = 0 := by rw [c]; rfl
        omega
      · exact a2 c
    have hd : deep + (ks.dep + 1) ≤ 25 := by
      by_cases c : ks = .nil
      · have e : ks.dep = 0 := by rw [c]; rfl
        omega
      · have := a3 c; omega
    refine ⟨?_, fun _ => ?_, fun _ => ?_⟩
    · show y = x + (ks.cnt + 1 + r.cnt); omega
    · by_cases c : r = .nil
      · have e : r.cnt = 0 := by rw [c]; rfl
        omega
      · exact b2 c
    · show deep + max (ks.dep + 1) r.dep ≤ 25
      by_cases c : r = .nil
      · have e : r.dep = 0 := by rw [c]; rfl
        omega
      · have := b3 c; omega
set_option maxRecDepth 100000 in
set_option maxHeartbeats 3200000 in
theorem rnone_yes (pp : Option Addr) (qq : Nat) (w : World) : Calls Tryz.prog 46 #[.agg #[.int .i64 0, .string tx0, .int .i64 0, .slice pp 0 qq]] w fun r w' => r = .returned (.bool true) ∧ Below w.heap.size w w' := by
  have g1 := pb_new (Below.refl w.heap.size w) (.cells #[.int .i64 0, .string tx0, .int .i64 0, .slice pp 0 qq] 85)
  go_enter Tryz.func46, Tryz.ntmps46
  go_wp2_with fail
  go_ret
  exact ⟨rfl, g1⟩
set_option maxRecDepth 100000 in
set_option maxHeartbeats 3200000 in
theorem rnone_no (op : Int) (h : op ≠ 0) (tx : ByteArray) (ty : Int) (pp : Option Addr) (m qq : Nat) (w : World) : Calls Tryz.prog 46 #[.agg #[.int .i64 op, .string tx, .int .i64 ty, .slice pp m qq]] w fun r w' => r = .returned (.bool false) ∧ Below w.heap.size w w' := by
  have g1 := pb_new (Below.refl w.heap.size w) (.cells #[.int .i64 op, .string tx, .int .i64 ty, .slice pp m qq] 85)
  have e0 : (op == 0) = false := beq_false_of_ne h
  go_enter Tryz.func46, Tryz.ntmps46
  go_wp2_with fail
  go_ret
  exact ⟨rfl, g1⟩
set_option maxRecDepth 100000 in
set_option maxHeartbeats 3200000 in
theorem rright (e : Ex) (hok : (e.row .nil).oks) (hw : (e.row .nil).wt ≤ 549755813888) (hc : e.ks.cnt + 1 ≤ 2048) (hd : e.ks.dep + 1 ≤ 24) (S : Nat → Prop) (pp : Option Addr) (qq : Nat) (w : World) (hT : SlF w S (.slice pp e.ks.len qq) e.ks) :
    Calls Tryz.prog 64 #[.agg #[.int .i64 e.op, .string e.tx, .int .i64 e.ty, .slice pp e.ks.len qq]] w fun r w' => r = .returned (.bool true) ∧ Below w.heap.size w w' := by
  obtain ⟨op, tx, ty, ks⟩ := e
  simp only at hc hd hT ⊢
  have hA := sx_of (Ex.row ⟨op, tx, ty, ks⟩ .nil) (by omega)
  have hD := (sd_of (Ex.row ⟨op, tx, ty, ks⟩ .nil) (by omega)).1
  have hE := (se_of (Ex.row ⟨op, tx, ty, ks⟩ .nil) hok).1
  have g1 := pb_new (Below.refl w.heap.size w) (.cells #[.int .i64 op, .string tx, .int .i64 ty, .slice pp ks.len qq] 85)
  obtain ⟨X, hX⟩ : ∃ X, w.alloc (.cells #[.int .i64 op, .string tx, .int .i64 ty, .slice pp ks.len qq] 85) = X := ⟨_, rfl⟩
  have qX : X.heap[w.heap.size]? = some (.cells #[.int .i64 op, .string tx, .int .i64 ty, .slice pp ks.len qq] 85 (0, 0)) := by rw [← hX]; exact World.alloc_heap_new _ _
  have sX : X.heap.size = w.heap.size + 1 := by rw [← hX]; simp [go_sem]
  rw [hX] at g1
  have g2 := pb_new (Below.refl X.heap.size X) (.cells #[.int .i64 op, .string tx, .int .i64 ty, .slice pp ks.len qq] 85)
  obtain ⟨Y, hY⟩ : ∃ Y, X.alloc (.cells #[.int .i64 op, .string tx, .int .i64 ty, .slice pp ks.len qq] 85) = Y := ⟨_, rfl⟩
  have qY : Y.heap[w.heap.size + 1]? = some (.cells #[.int .i64 op, .string tx, .int .i64 ty, .slice pp ks.len qq] 85 (0, 0)) := by rw [← hY, ← sX]; exact World.alloc_heap_new _ _
  rw [hY] at g2
  obtain ⟨b2, hb2⟩ : ∃ b, w.heap.size = b := ⟨_, rfl⟩
  rw [hb2] at qX qY sX
  have qX2 : Y.heap[b2]? = some (.cells #[.int .i64 op, .string tx, .int .i64 ty, .slice pp ks.len qq] 85 (0, 0)) := (g2.block b2 (by omega)).trans qX
  obtain ⟨f0, f1, f2, f3, ff⟩ := ex_cells qX2
  obtain ⟨x0, x1, x2, x3, xx⟩ := ex_cells qX
  obtain ⟨h0, h1, h2, h3, hh⟩ := ex_cells qY
  have hTY : SlF Y (fun _ => True) (.slice pp ks.len qq) ks := ((hT.kp (Below.kp g1 _)).kp (Below.kp g2 _)).lo (fun _ _ => trivial)
  have hRow : SlF Y (fun _ => True) (.slice (some ⟨b2 + 1, 0, none⟩) 1 1) (Ex.row ⟨op, tx, ty, ks⟩ .nil) := by
    obtain ⟨p, q, e, k⟩ := hTY
    obtain ⟨rfl, _, rfl⟩ := Value.slice.inj e
    exact ⟨_, 1, rfl, Or.inr ⟨b2 + 1, 0, rfl, trivial, h0, h1, h2, ⟨_, _, h3, k⟩, trivial⟩⟩
  have kX : Calls Tryz.prog 42 #[.slice (some ⟨b2 + 1, 0, none⟩) 1 1, .int .i64 2048] Y fun r w' => r = .returned (.int .i64 ((ks.cnt + 1 : Nat) : Int)) ∧ Below Y.heap.size Y w' := xsF (Ex.row ⟨op, tx, ty, ks⟩ .nil) hA (by show (1 : Nat) ≤ _; omega) 2048 (by show ks.cnt + 1 + 0 ≤ 2048; omega) (by omega) _ _ 1 Y hRow
  have kD : ∀ V, Below Y.heap.size Y V → Calls Tryz.prog 86 #[.agg #[.int .i64 op, .string tx, .int .i64 ty, .slice pp ks.len qq], .int .i64 24] V fun r w' => r = .returned (.bool true) ∧ Below V.heap.size V w' := fun V g => hD 24 _ pp qq V hd (by omega) (hTY.kp (Below.kp g _))
  have kE : ∀ V, Below Y.heap.size Y V → Calls Tryz.prog 87 #[.agg #[.int .i64 op, .string tx, .int .i64 ty, .slice pp ks.len qq]] V fun r w' => r = .returned (.bool true) ∧ Below V.heap.size V w' := fun V g => hE _ pp qq V (hTY.kp (Below.kp g _))
  have gY : Hid (Below w.heap.size w Y) := pb_call g1 g2
  have hX' : Hid (w.alloc (.cells #[.int .i64 op, .string tx, .int .i64 ty, .slice pp ks.len qq] 85) = X) := hX
  have hY' : Hid (X.alloc (.cells #[.int .i64 op, .string tx, .int .i64 ty, .slice pp ks.len qq] 85) = Y) := hY
  have hb2' : Hid (w.heap.size = b2 ∧ X.heap.size = b2 + 1) := ⟨hb2, sX⟩
  have c1 : ((ks.cnt : Nat) : Int) + 1 ≤ 2048 := by omega
  have c2 : ((ks.cnt + 1 : Nat) : Int) ≤ 2048 := by omega
  clear hX hY hb2 sX qX qX2 qY g1 g2 hT hTY hRow hA hD hE h0 h1 h2 h3 hh hok hw hc hd
  generalize ks.len = n3 at *
  generalize ks.cnt = n4 at *
  go_enter Tryz.func64, Tryz.ntmps64
  go_upto_region 1 with fail
  rw [hX'.out]
  (try rw [hb2'.out.1])
  go_wp2_with (first
    | (go_at_call 42; rw [hY'.out]; (try rw [hb2'.out.2]); (refine kX.mono ?_); rintro e v1 ⟨rfl, g3⟩; clear x0 x1 x2 x3; replace f0 := pb_cell g3 f0; replace f1 := pb_cell g3 f1; replace f2 := pb_cell g3 f2; replace f3 := pb_cell g3 f3)
    | (go_at_call 86; (refine (kD _ g3).mono ?_); rintro e v2 ⟨rfl, g4⟩; replace f0 := pb_cell g4 f0; replace f1 := pb_cell g4 f1; replace f2 := pb_cell g4 f2; replace f3 := pb_cell g4 f3)
    | (go_at_call 87; (refine (kE _ (pb_call g3 g4)).mono ?_); rintro e v3 ⟨rfl, g5⟩)
    | fail)
  go_ret
  exact ⟨rfl, pb_call gY.out (pb_call (pb_call g3 g4) g5)⟩
set_option maxRecDepth 100000 in
set_option maxHeartbeats 3200000 in
theorem rbound_1 (tx : ByteArray) (h : isNum tx = true) (pp : Option Addr) (qq : Nat) (w : World) : Calls Tryz.prog 65 #[.agg #[.int .i64 1, .string tx, .int .i64 0, .slice pp 0 qq]] w fun r w' => r = .returned (.bool true) ∧ Below w.heap.size w w' := by
  have kE : ∀ V, Calls Tryz.prog 87 #[.agg #[.int .i64 1, .string tx, .int .i64 0, .slice pp 0 qq]] V fun r w' => r = .returned (.bool true) ∧ Below V.heap.size V w' := fun V => se_1 tx h (fun _ => True) pp qq V ⟨pp, qq, rfl, Or.inl rfl⟩
  have g1 := pb_new (Below.refl w.heap.size w) (.cells #[.int .i64 1, .string tx, .int .i64 0, .slice pp 0 qq] 85)
  clear h
  go_enter Tryz.func65, Tryz.ntmps65
  go_wp2_with (first
    | (go_at_call 87; (refine (kE _).mono ?_); rintro e v1 ⟨rfl, g3⟩)
    | fail)
  go_ret
  exact ⟨rfl, pb_call g1 g3⟩
theorem four_set {V : World} {b : Nat} {t : TypeId} {u0 u1 u2 u3 : Value} (q : V.heap[b]? = some (.cells #[u0, u1, u2, u3] t (0, 0))) (x0 x1 x2 x3 : Value) : ((((V.setCell ⟨b, 0, none⟩ x0).setCell ⟨b, 1, none⟩ x1).setCell ⟨b, 2, none⟩ x2).setCell ⟨b, 3, none⟩ x3).heap[b]? = some (.cells #[x0, x1, x2, x3] t (0, 0)) := by
  have h := at_set (at_set (at_set (at_set q 0 x0) 1 x1) 2 x2) 3 x3
  simpa using h
set_option maxRecDepth 100000 in
set_option maxHeartbeats 3200000 in
theorem rbound_4 (tx : ByteArray) (h : isNum tx = true) (S : Nat → Prop) (pp : Option Addr) (qq : Nat) (w : World) (hT : SlF w S (.slice pp 1 qq) (.cons 1 tx 0 .nil .nil)) : Calls Tryz.prog 65 #[.agg #[.int .i64 4, .string tx0, .int .i64 0, .slice pp 1 qq]] w fun r w' => r = .returned (.bool true) ∧ Below w.heap.size w w' := by
  have kE : ∀ p q V, Calls Tryz.prog 87 #[.agg #[.int .i64 1, .string tx, .int .i64 0, .slice p 0 q]] V fun r w' => r = .returned (.bool true) ∧ Below V.heap.size V w' := fun p q V => se_1 tx h (fun _ => True) p q V ⟨p, q, rfl, Or.inl rfl⟩
  have g1 := pb_new (Below.refl w.heap.size w) (.cells #[.int .i64 4, .string tx0, .int .i64 0, .slice pp 1 qq] 85)
  obtain ⟨X, hX⟩ : ∃ X, w.alloc (.cells #[.int .i64 4, .string tx0, .int .i64 0, .slice pp 1 qq] 85) = X := ⟨_, rfl⟩
  have qX : X.heap[w.heap.size]? = some (.cells #[.int .i64 4, .string tx0, .int .i64 0, .slice pp 1 qq] 85 (0, 0)) := by rw [← hX]; exact World.alloc_heap_new _ _
  rw [hX] at g1
  have hK := hT.kp (Below.kp g1 _)
  obtain ⟨p2, q2, e2, hK⟩ := hK
  obtain ⟨rfl, e4, rfl⟩ := Value.slice.inj e2
  clear e2 e4
  rcases hK with hK | ⟨c, u, rfl, hK⟩
  · cases hK
  obtain ⟨⟨k0, k1, k2, s3, k3, hs3⟩, _, _⟩ := hK.head
  obtain ⟨p3, q3, rfl, _⟩ := hs3
  simp only [Fo.len] at k0 k1 k2 k3
  have ix := (fun V => ex_ix c u 1 qq 0 (by decide) V)
  simp only [Nat.zero_mul, Nat.add_zero] at ix
  have hb0 : c < w.heap.size := by
    obtain ⟨p5, q5, e5, h5⟩ := hT
    rcases h5 with h5 | ⟨c5, u5, e6, h5⟩
    · cases h5
    · obtain ⟨e7, _, _⟩ := Value.slice.inj e5
      rw [e6] at e7
      have e8 : c = c5 := by injection e7 with e; injection e
      rw [e8]
      exact World.block_lt_of_cell? w _ h5.head.1.1
  obtain ⟨b2, hb2⟩ : ∃ b, w.heap.size = b := ⟨_, rfl⟩
  have hb3 : Hid (w.heap.size = b2) := hb2
  rw [hb2] at qX
  obtain ⟨f0, f1, f2, f3, ff⟩ := ex_cells qX
  have hX' : Hid (w.alloc (.cells #[.int .i64 4, .string tx0, .int .i64 0, .slice (some ⟨c, u, none⟩) 1 qq] 85) = X) := hX
  have qF := four_set qX (.int .i64 1) (.string tx) (.int .i64 0) (.slice p3 0 q3)
  have gF : Below w.heap.size w ((((X.setCell ⟨b2, 0, none⟩ (.int .i64 1)).setCell ⟨b2, 1, none⟩ (.string tx)).setCell ⟨b2, 2, none⟩ (.int .i64 0)).setCell ⟨b2, 3, none⟩ (.slice p3 0 q3)) := ((((g1.setCell (p := ⟨b2, 0, none⟩) (Nat.le_of_eq hb2) _).setCell (p := ⟨b2, 1, none⟩) (Nat.le_of_eq hb2) _).setCell (p := ⟨b2, 2, none⟩) (Nat.le_of_eq hb2) _).setCell (p := ⟨b2, 3, none⟩) (Nat.le_of_eq hb2) _)
  obtain ⟨F, hF⟩ : ∃ F, ((((X.setCell ⟨b2, 0, none⟩ (.int .i64 1)).setCell ⟨b2, 1, none⟩ (.string tx)).setCell ⟨b2, 2, none⟩ (.int .i64 0)).setCell ⟨b2, 3, none⟩ (.slice p3 0 q3)) = F := ⟨_, rfl⟩
  rw [hF] at qF gF
  obtain ⟨x0, x1, x2, x3, xx⟩ := ex_cells qF
  have hF' : Hid (((((X.setCell ⟨b2, 0, none⟩ (.int .i64 1)).setCell ⟨b2, 1, none⟩ (.string tx)).setCell ⟨b2, 2, none⟩ (.int .i64 0)).setCell ⟨b2, 3, none⟩ (.slice p3 0 q3)) = F) := hF
  have gF' : Hid (Below w.heap.size w F) := gF
  clear hT hX hF qX qF g1 gF h hK hb0 hb2
  go_enter Tryz.func65, Tryz.ntmps65
  go_upto_region 1 with fail
  rw [hX'.out]
  (try rw [hb3.out])
  clear hX' hb3
  go_upto_region 3 with fail
  rw [hF'.out]
  clear f0 f1 f2 f3 ff k0 k1 k2 k3 ix hF'
  go_wp2_with (first
    | (go_at_call 87; (refine (kE _ _ _).mono ?_); rintro e v1 ⟨rfl, g3⟩)
    | fail)
  go_ret
  exact ⟨rfl, pb_call gF'.out g3⟩
end Go.Proofs.YtknoibocpbfmmaaGreatDoor

