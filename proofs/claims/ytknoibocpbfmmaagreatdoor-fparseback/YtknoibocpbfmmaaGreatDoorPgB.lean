/- plumblineref05: how many expressions, how deep. -/
import Derived.Test.YtknoibocpbfmmaaGreatDoorPgA
namespace Go.Proofs.YtknoibocpbfmmaaGreatDoor
open Go.RowKit
set_option linter.unusedVariables false
set_option linter.unusedSimpArgs false
/-- How many expressions there are. -/
def Fo.cnt : Fo → Nat
  | .nil => 0
  | .cons _ _ _ ks r => ks.cnt + 1 + r.cnt
/-- How deep they are. -/
def Fo.dep : Fo → Nat
  | .nil => 0
  | .cons _ _ _ ks r => max (ks.dep + 1) r.dep
def SxA (e : Ex) : Prop := ∀ (most : Nat) (S : Nat → Prop) (pp : Option Addr) (qq : Nat) (w : World), e.ks.cnt ≤ most → most ≤ 1099511627776 → SlF w S (.slice pp e.ks.len qq) e.ks →
  Calls Tryz.prog 42 #[.slice pp e.ks.len qq, .int .i64 (most : Int)] w fun r w' => r = .returned (.int .i64 ((e.ks.cnt : Nat) : Int)) ∧ Below w.heap.size w w'
set_option maxRecDepth 100000 in
set_option maxHeartbeats 3200000 in
theorem xsF (f : Fo) (hA : f.all SxA) (hz : f.len ≤ 1099511627776) (most : Nat) (hm : f.cnt ≤ most) (hM : most ≤ 1099511627776) (S : Nat → Prop) (pp : Option Addr) (qq : Nat) (w : World) (hT : SlF w S (.slice pp f.len qq) f) :
    Calls Tryz.prog 42 #[.slice pp f.len qq, .int .i64 (most : Int)] w fun e' w' => e' = .returned (.int .i64 ((f.cnt : Nat) : Int)) ∧ Below w.heap.size w w' := by
  obtain ⟨C, hC⟩ : ∃ C, f.cnt = C := ⟨_, rfl⟩
  rw [hC] at hm ⊢
  obtain ⟨m, hm0⟩ : ∃ m, f.len = m := ⟨_, rfl⟩
  rw [hm0] at hT hz ⊢
  have hm' : Hid (f.len = m) := hm0
  have hA' : Hid (f.all SxA) := hA
  have hT' : Hid (SlF w S (.slice pp m qq) f) := hT
  have hm40 : Hid (m ≤ 1099511627776 ∧ C ≤ most ∧ most ≤ 1099511627776) := ⟨hz, hm, hM⟩
  have hI : Hid (0 + (f.drop 0).cnt = C) := by show 0 + f.cnt = C; rw [Nat.zero_add]; exact hC
  clear hm0 hA hT hz hm hM hC
  go_enter Tryz.func42, Tryz.ntmps42
  go_upto_region 3 with fail
  go_loopw [6, 5] (fun i n wr => ∃ (j a : Nat) (V : World), i = .int .i64 j ∧ n = .int .i64 (a : Int) ∧ V = wr ∧ Hid (Below w.heap.size w V) ∧ Hid (a + (f.drop j).cnt = C) ∧ j ≤ m) (fun i _ _ => m - (intOf i).toNat)
  case atStart => exact ⟨0, 0, w, rfl, rfl, rfl, Below.refl _ _, hI, by omega⟩
  case round =>
    clear hI
    obtain ⟨j, a, V, rfl, rfl, e, gV, hI, hj⟩ := hrel
    subst e
    have hq := hI.out
    have b40 := hm40.out
    have ha : (a : Int) ≤ (most : Int) := by omega
    by_cases cj : j < m
    · have cj' : (j : Int) < (m : Int) := by omega
      obtain ⟨op, tx, ty, ks, hf⟩ := Fo.drop_at (f := f) (j := j) (by rw [hm'.out]; exact cj)
      have hal := Fo.all_drop j hA'.out
      rw [hf] at hal hq
      have hq' : a + (ks.cnt + 1 + (f.drop (j + 1)).cnt) = C := hq
      have hTT := hT'.out.kp (Below.kp gV.out _)
      obtain ⟨p2, q2, e2, hT⟩ := hTT
      obtain ⟨rfl, e4, rfl⟩ := Value.slice.inj e2
      clear e2 e4
      rcases hT with hT | ⟨c, u, rfl, hT⟩
      · exfalso; have := hm'.out; rw [hT] at this; simp [Fo.len] at this; omega
      have hTj := FoAt.drop j hT
      rw [hf] at hTj
      obtain ⟨⟨k0, k1, k2, s3, k3, hs3⟩, _, lc⟩ := hTj.head
      obtain ⟨p3, q3, rfl, hs3'⟩ := hs3
      simp only at k0 k1 k2 k3 hs3'
      obtain ⟨r, hr⟩ : ∃ r, most = a + 1 + r := ⟨most - (a + 1), by omega⟩
      have kE := hal.1 r S p3 q3 V (by show ks.cnt ≤ r; omega) (by omega) ⟨p3, q3, rfl, hs3'⟩
      simp only at kE
      have ix := ex_ix c u m qq j cj
      have wj : IntKind.i64.wrap ((j : Int) + 1) = ((j + 1 : Nat) : Int) := by rw [IntKind.wrap_i64]; omega
      have wa : IntKind.i64.wrap ((a : Int) + 1) = (a : Int) + 1 := by rw [IntKind.wrap_i64]; omega
      have h1 : (a : Int) + 1 ≤ (most : Int) := by omega
      have wr : IntKind.i64.wrap ((most : Int) - ((a : Int) + 1)) = (r : Int) := by rw [IntKind.wrap_i64]; omega
      have wk : IntKind.i64.wrap ((a : Int) + 1 + ((ks.cnt : Nat) : Int)) = ((a + 1 + ks.cnt : Nat) : Int) := by rw [IntKind.wrap_i64]; omega
      have hI2 : Hid (a + 1 + ks.cnt + (f.drop (j + 1)).cnt = C) := by show _ = _; omega
      have hr' : Hid (most = a + 1 + r) := hr
      clear hTj hT hs3' lc hal hf hq hq' hI b40 hr
      generalize ks.len = n3 at *
      generalize ks.cnt = nk at *
      generalize u + j * 4 = o at *
      go_wp2_with (first
        | (go_at_call 42; (refine kE.mono ?_); rintro e v1 ⟨rfl, g3⟩)
        | fail)
      refine ⟨⟨j + 1, a + 1 + nk, v1, by go_num, by first | rfl | go_num, rfl, pb_call gV.out g3, hI2, by omega⟩, by simp [intOf]; omega⟩
    · obtain rfl : j = m := by omega
      have nn : ¬ ((j : Int) < (j : Int)) := by omega
      rw [← hm'.out, Fo.drop_end] at hq
      obtain rfl : a = C := by rw [← hq]; rfl
      have g' := gV.out
      clear hI hq
      go_wp2_with fail
      go_ret
      exact ⟨rfl, g'⟩
theorem sx_of : ∀ f : Fo, f.wt ≤ 1099511627776 → f.all SxA
  | .nil, _ => trivial
  | .cons op tx ty ks r, hw => by
    have w1 : tx.size + 20 + ks.wt + r.wt ≤ 1099511627776 := hw
    have l := Fo.len_wt ks
    exact ⟨fun most S pp qq w h1 h2 h3 => xsF ks (sx_of ks (by omega)) (by omega) most h1 h2 S pp qq w h3, sx_of r (by omega)⟩
def SdA (e : Ex) : Prop := ∀ (n : Nat) (S : Nat → Prop) (pp : Option Addr) (qq : Nat) (w : World), e.ks.dep + 1 ≤ n → n ≤ 100000 → SlF w S (.slice pp e.ks.len qq) e.ks →
  Calls Tryz.prog 86 #[.agg #[.int .i64 e.op, .string e.tx, .int .i64 e.ty, .slice pp e.ks.len qq], .int .i64 (n : Int)] w fun r w' => r = .returned (.bool true) ∧ Below w.heap.size w w'
theorem Fo.dep_drop : ∀ (f : Fo) (j : Nat), (f.drop j).dep ≤ f.dep
  | f, 0 => Nat.le_refl _
  | .nil, j + 1 => Nat.le_refl _
  | .cons _ _ _ ks r, j + 1 => by
    have := Fo.dep_drop r j
    show (r.drop j).dep ≤ max (ks.dep + 1) r.dep
    omega
set_option maxRecDepth 100000 in
set_option maxHeartbeats 3200000 in
theorem sdE (op : Int) (tx : ByteArray) (ty : Int) (f : Fo) (hA : f.all SdA) (hz : f.len ≤ 1099511627776) : SdA ⟨op, tx, ty, f⟩ := by
  intro n S pp qq w hn hN hT
  simp only at hn hT ⊢
  obtain ⟨N, hNn⟩ : ∃ N, n = N + 1 := ⟨n - 1, by omega⟩
  obtain ⟨m, hm0⟩ : ∃ m, f.len = m := ⟨_, rfl⟩
  rw [hm0] at hT hz ⊢
  have hm' : Hid (f.len = m) := hm0
  have hA' : Hid (f.all SdA) := hA
  have hm40 : Hid (m ≤ 1099511627776 ∧ f.dep ≤ N ∧ N + 1 ≤ 100000) := ⟨hz, by omega, by omega⟩
  have g1 := pb_new (Below.refl w.heap.size w) (.cells #[.int .i64 op, .string tx, .int .i64 ty, .slice pp m qq] 85)
  obtain ⟨X, hX⟩ : ∃ X, w.alloc (.cells #[.int .i64 op, .string tx, .int .i64 ty, .slice pp m qq] 85) = X := ⟨_, rfl⟩
  have qX : X.heap[w.heap.size]? = some (.cells #[.int .i64 op, .string tx, .int .i64 ty, .slice pp m qq] 85 (0, 0)) := by rw [← hX]; exact World.alloc_heap_new _ _
  rw [hX] at g1
  obtain ⟨b2, hb2⟩ : ∃ b, w.heap.size = b := ⟨_, rfl⟩
  rw [hb2] at qX
  obtain ⟨f0, f1, f2, f3, ff⟩ := ex_cells qX
  have f3' : Hid (X.cell? ⟨b2, 3, none⟩ = some (.slice pp m qq)) := f3
  have hT' : Hid (SlF X S (.slice pp m qq) f) := hT.kp (Below.kp g1 _)
  have gX : Hid (Below w.heap.size w X) := g1
  have hX' : Hid (w.alloc (.cells #[.int .i64 op, .string tx, .int .i64 ty, .slice pp m qq] 85) = X) := hX
  have hb2' : Hid (w.heap.size = b2) := hb2
  have e0 : ((n : Int) == 0) = false := by rw [beq_eq_false_iff_ne]; omega
  have e1 : ¬ (n = 0) := by omega
  have wn : IntKind.i64.wrap ((n : Int) - 1) = (N : Int) := by rw [IntKind.wrap_i64]; omega
  clear hm0 hA hT hz hn hN hNn hX hb2 qX f0 f1 f2 f3 ff g1
  go_enter Tryz.func86, Tryz.ntmps86
  go_upto_region 1 with fail
  rw [hX'.out]
  (try rw [hb2'.out])
  clear hX' hb2'
  go_upto_region 4 with fail
  go_loopw [5] (fun i wr => ∃ (j : Nat) (V : World), i = .int .i64 j ∧ V = wr ∧ Hid (Below X.heap.size X V) ∧ j ≤ m) (fun i _ => m - (intOf i).toNat)
  case atStart => exact ⟨0, X, rfl, rfl, Below.refl _ _, by omega⟩
  case round =>
    obtain ⟨j, V, rfl, e, gV, hj⟩ := hrel
    subst e
    have f3 := pb_cell gV.out f3'.out
    by_cases cj : j < m
    · have cj' : (j : Int) < (m : Int) := by omega
      obtain ⟨op', tx', ty', ks, hf⟩ := Fo.drop_at (f := f) (j := j) (by rw [hm'.out]; exact cj)
      have hal := Fo.all_drop j hA'.out
      have hd := Fo.dep_drop f j
      rw [hf] at hal hd
      have hd' : max (ks.dep + 1) (f.drop (j + 1)).dep ≤ f.dep := hd
      have hTT := hT'.out.kp (Below.kp gV.out _)
      obtain ⟨p2, q2, e2, hT⟩ := hTT
      obtain ⟨rfl, e4, rfl⟩ := Value.slice.inj e2
      clear e2 e4
      rcases hT with hT | ⟨c, u, rfl, hT⟩
      · exfalso; have := hm'.out; rw [hT] at this; simp [Fo.len] at this; omega
      have hTj := FoAt.drop j hT
      rw [hf] at hTj
      obtain ⟨⟨k0, k1, k2, s3, k3, hs3⟩, _, lc⟩ := hTj.head
      obtain ⟨p3, q3, rfl, hs3'⟩ := hs3
      simp only at k0 k1 k2 k3 hs3'
      have b40 := hm40.out
      have kE := hal.1 N S p3 q3 V (by show ks.dep + 1 ≤ N; omega) (by omega) ⟨p3, q3, rfl, hs3'⟩
      simp only at kE
      have ix := ex_ix c u m qq j cj
      have wj : IntKind.i64.wrap ((j : Int) + 1) = ((j + 1 : Nat) : Int) := by rw [IntKind.wrap_i64]; omega
      clear hTj hT hs3' lc hal hf hd hd' b40
      generalize ks.len = n3 at *
      generalize u + j * 4 = o at *
      go_wp2_with (first
        | (go_at_call 86; (refine kE.mono ?_); rintro e v1 ⟨rfl, g3⟩)
        | fail)
      exact ⟨⟨j + 1, v1, by go_num, rfl, pb_call gV.out g3, by omega⟩, by simp [intOf]; omega⟩
    · obtain rfl : j = m := by omega
      have nn : ¬ ((j : Int) < (j : Int)) := by omega
      have g' := gV.out
      go_wp2_with fail
      go_ret
      exact ⟨rfl, pb_call gX.out g'⟩
theorem sd_of : ∀ f : Fo, f.wt ≤ 1099511627776 → f.all SdA
  | .nil, _ => trivial
  | .cons op tx ty ks r, hw => by
    have w1 : tx.size + 20 + ks.wt + r.wt ≤ 1099511627776 := hw
    have l := Fo.len_wt ks
    exact ⟨sdE op tx ty ks (sd_of ks (by omega)) (by omega), sd_of r (by omega)⟩
end Go.Proofs.YtknoibocpbfmmaaGreatDoor

