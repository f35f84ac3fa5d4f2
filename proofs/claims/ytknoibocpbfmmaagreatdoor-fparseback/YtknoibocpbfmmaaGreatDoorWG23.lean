/- Texts of the proof, put together. -/
import Derived.Test.YtknoibocpbfmmaaGreatDoorWG22
import Derived.Test.YtknoibocpbfmmaaGreatDoorWG4
import Derived.Laws.Tables
import Derived.Laws.CopyOwn
namespace Go.Proofs.YtknoibocpbfmmaaGreatDoor
open Go.RowKit
set_option linter.unusedVariables false
set_option linter.unusedSimpArgs false
/-- How many expressions there are. -/
def Fo.cnt : Fo → Nat
 | .nil => 0
 | .cons _ _ _ ks r => ks.cnt + 1 + r.cnt
/-- How deep they are. -/
def Fo.dep : Fo → Nat
 | .nil => 0
 | .cons _ _ _ ks r => max (ks.dep + 1) r.dep
def SxA (e : Ex) : Prop := ∀ (most : Nat) (S : Nat → Prop) (pp : Option Addr) (qq : Nat) (w : World), e.ks.cnt ≤ most → most ≤ 1099511627776 → SlF w S (.slice pp e.ks.len qq) e.ks →
 Calls Tryz.prog 42 #[.slice pp e.ks.len qq, .int .i64 (most : Int)] w fun r w' => r = .returned (.int .i64 ((e.ks.cnt : Nat) : Int)) ∧ Below w.heap.size w w'
set_option maxRecDepth 100000 in
set_option maxHeartbeats 3200000 in
theorem xsF (f : Fo) (hA : f.all SxA) (hz : f.len ≤ 1099511627776) (most : Nat) (hm : f.cnt ≤ most) (hM : most ≤ 1099511627776) (S : Nat → Prop) (pp : Option Addr) (qq : Nat) (w : World) (hT : SlF w S (.slice pp f.len qq) f) :
  Calls Tryz.prog 42 #[.slice pp f.len qq, .int .i64 (most : Int)] w fun e' w' => e' = .returned (.int .i64 ((f.cnt : Nat) : Int)) ∧ Below w.heap.size w w' := by
 obtain ⟨C, hC⟩ : ∃ C, f.cnt = C := ⟨_, rfl⟩
 rw [hC] at hm ⊢
 obtain ⟨m, hm0⟩ : ∃ m, f.len = m := ⟨_, rfl⟩
 rw [hm0] at hT hz ⊢
 have hm' : Hid (f.len = m) := hm0
 have hA' : Hid (f.all SxA) := hA
 have hT' : Hid (SlF w S (.slice pp m qq) f) := hT
 have hm40 : Hid (m ≤ 1099511627776 ∧ C ≤ most ∧ most ≤ 1099511627776) := ⟨hz, hm, hM⟩
 have hI : Hid (0 + (f.drop 0).cnt = C) := by show 0 + f.cnt = C; rw [Nat.zero_add]; exact hC
 clear hm0 hA hT hz hm hM hC
 go_enter Tryz.func42, Tryz.ntmps42
 go_upto_region 3 with fail
 go_loopw [6, 5] (fun i n wr => ∃ (j a : Nat) (V : World), i = .int .i64 j ∧ n = .int .i64 (a : Int) ∧ V = wr ∧ Hid (Below w.heap.size w V) ∧ Hid (a + (f.drop j).cnt = C) ∧ j ≤ m) (fun i _ _ => m - (intOf i).toNat)
 case atStart => exact ⟨0, 0, w, rfl, rfl, rfl, Below.refl _ _, hI, by omega⟩
 case round =>
  clear hI
  obtain ⟨j, a, V, rfl, rfl, e, gV, hI, hj⟩ := hrel
  subst e
  have hq := hI.out
  have b40 := hm40.out
  have ha : (a : Int) ≤ (most : Int) := by omega
  by_cases cj : j < m
  ·have cj' : (j : Int) < (m : Int) := by omega
   obtain ⟨op, tx, ty, ks, hf⟩ := Fo.drop_at (f := f) (j := j) (by rw [hm'.out]; exact cj)
   have hal := Fo.all_drop j hA'.out
   rw [hf] at hal hq
   have hq' : a + (ks.cnt + 1 + (f.drop (j + 1)).cnt) = C := hq
   have hTT := hT'.out.kp (Below.kp gV.out _)
   obtain ⟨p2, q2, e2, hT⟩ := hTT
   obtain ⟨rfl, e4, rfl⟩ := Value.slice.inj e2
   clear e2 e4
   rcases hT with hT | ⟨c, u, rfl, hT⟩
   ·exfalso; have := hm'.out; rw [hT] at this; simp [Fo.len] at this; omega
   have hTj := FoAt.drop j hT
   rw [hf] at hTj
   obtain ⟨⟨k0, k1, k2, s3, k3, hs3⟩, _, lc⟩ := hTj.head
   obtain ⟨p3, q3, rfl, hs3'⟩ := hs3
   simp only at k0 k1 k2 k3 hs3'
   obtain ⟨r, hr⟩ : ∃ r, most = a + 1 + r := ⟨most - (a + 1), by omega⟩
   have kE := hal.1 r S p3 q3 V (by show ks.cnt ≤ r; omega) (by omega) ⟨p3, q3, rfl, hs3'⟩
   simp only at kE
   have ix := ex_ix c u m qq j cj
   have wj : IntKind.i64.wrap ((j : Int) + 1) = ((j + 1 : Nat) : Int) := by rw [IntKind.wrap_i64]; omega
   have wa : IntKind.i64.wrap ((a : Int) + 1) = (a : Int) + 1 := by rw [IntKind.wrap_i64]; omega
   have h1 : (a : Int) + 1 ≤ (most : Int) := by omega
   have wr : IntKind.i64.wrap ((most : Int) - ((a : Int) + 1)) = (r : Int) := by rw [IntKind.wrap_i64]; omega
   have wk : IntKind.i64.wrap ((a : Int) + 1 + ((ks.cnt : Nat) : Int)) = ((a + 1 + ks.cnt : Nat) : Int) := by rw [IntKind.wrap_i64]; omega
   have hI2 : Hid (a + 1 + ks.cnt + (f.drop (j + 1)).cnt = C) := by show _ = _; omega
   have hr' : Hid (most = a + 1 + r) := hr
   clear hTj hT hs3' lc hal hf hq hq' hI b40 hr
   generalize ks.len = n3 at *
   generalize ks.cnt = nk at *
   generalize u + j * 4 = o at *
   go_wp2_with (first
    | (go_at_call 42; (refine kE.mono ?_); rintro e v1 ⟨rfl, g3⟩)
    | fail)
   refine ⟨⟨j + 1, a + 1 + nk, v1, by go_num, by first | rfl | go_num, rfl, pb_call gV.out g3, hI2, by omega⟩, by simp [intOf]; omega⟩
  ·obtain rfl : j = m := by omega
   have nn : ¬ ((j : Int) < (j : Int)) := by omega
   rw [← hm'.out, Fo.drop_end] at hq
   obtain rfl : a = C := by rw [← hq]; rfl
   have g' := gV.out
   clear hI hq
   go_wp2_with fail
   go_ret
   exact ⟨rfl, g'⟩
theorem sx_of : ∀ f : Fo, f.wt ≤ 1099511627776 → f.all SxA
 | .nil, _ => trivial
 | .cons op tx ty ks r, hw => by
  have w1 : tx.size + 20 + ks.wt + r.wt ≤ 1099511627776 := hw
  have l := Fo.len_wt ks
  exact ⟨fun most S pp qq w h1 h2 h3 => xsF ks (sx_of ks (by omega)) (by omega) most h1 h2 S pp qq w h3, sx_of r (by omega)⟩
def SdA (e : Ex) : Prop := ∀ (n : Nat) (S : Nat → Prop) (pp : Option Addr) (qq : Nat) (w : World), e.ks.dep + 1 ≤ n → n ≤ 100000 → SlF w S (.slice pp e.ks.len qq) e.ks →
 Calls Tryz.prog 86 #[.agg #[.int .i64 e.op, .string e.tx, .int .i64 e.ty, .slice pp e.ks.len qq], .int .i64 (n : Int)] w fun r w' => r = .returned (.bool true) ∧ Below w.heap.size w w'
theorem Fo.dep_drop : ∀ (f : Fo) (j : Nat), (f.drop j).dep ≤ f.dep
 | f, 0 => Nat.le_refl _
 | .nil, j + 1 => Nat.le_refl _
 | .cons _ _ _ ks r, j + 1 => by
  have := Fo.dep_drop r j
  show (r.drop j).dep ≤ max (ks.dep + 1) r.dep
  omega
set_option maxRecDepth 100000 in
set_option maxHeartbeats 3200000 in
theorem sdE (op : Int) (tx : ByteArray) (ty : Int) (f : Fo) (hA : f.all SdA) (hz : f.len ≤ 1099511627776) : SdA ⟨op, tx, ty, f⟩ := by
 intro n S pp qq w hn hN hT
 simp only at hn hT ⊢
 obtain ⟨N, hNn⟩ : ∃ N, n = N + 1 := ⟨n - 1, by omega⟩
 obtain ⟨m, hm0⟩ : ∃ m, f.len = m := ⟨_, rfl⟩
 rw [hm0] at hT hz ⊢
 have hm' : Hid (f.len = m) := hm0
 have hA' : Hid (f.all SdA) := hA
 have hm40 : Hid (m ≤ 1099511627776 ∧ f.dep ≤ N ∧ N + 1 ≤ 100000) := ⟨hz, by omega, by omega⟩
 have g1 := pb_new (Below.refl w.heap.size w) (.cells #[.int .i64 op, .string tx, .int .i64 ty, .slice pp m qq] 85)
 obtain ⟨X, hX⟩ : ∃ X, w.alloc (.cells #[.int .i64 op, .string tx, .int .i64 ty, .slice pp m qq] 85) = X := ⟨_, rfl⟩
 have qX : X.heap[w.heap.size]? = some (.cells #[.int .i64 op, .string tx, .int .i64 ty, .slice pp m qq] 85 (0, 0)) := by rw [← hX]; exact World.alloc_heap_new _ _
 rw [hX] at g1
 obtain ⟨b2, hb2⟩ : ∃ b, w.heap.size = b := ⟨_, rfl⟩
 rw [hb2] at qX
 obtain ⟨f0, f1, f2, f3, ff⟩ := ex_cells qX
 have f3' : Hid (X.cell? ⟨b2, 3, none⟩ = some (.slice pp m qq)) := f3
 have hT' : Hid (SlF X S (.slice pp m qq) f) := hT.kp (Below.kp g1 _)
 have gX : Hid (Below w.heap.size w X) := g1
 have hX' : Hid (w.alloc (.cells #[.int .i64 op, .string tx, .int .i64 ty, .slice pp m qq] 85) = X) := hX
 have hb2' : Hid (w.heap.size = b2) := hb2
 have e0 : ((n : Int) == 0) = false := by rw [beq_eq_false_iff_ne]; omega
 have e1 : ¬ (n = 0) := by omega
 have wn : IntKind.i64.wrap ((n : Int) - 1) = (N : Int) := by rw [IntKind.wrap_i64]; omega
 clear hm0 hA hT hz hn hN hNn hX hb2 qX f0 f1 f2 f3 ff g1
 go_enter Tryz.func86, Tryz.ntmps86
 go_upto_region 1 with fail
 rw [hX'.out]
 (try rw [hb2'.out])
 clear hX' hb2'
 go_upto_region 4 with fail
 go_loopw [5] (fun i wr => ∃ (j : Nat) (V : World), i = .int .i64 j ∧ V = wr ∧ Hid (Below X.heap.size X V) ∧ j ≤ m) (fun i _ => m - (intOf i).toNat)
 case atStart => exact ⟨0, X, rfl, rfl, Below.refl _ _, by omega⟩
 case round =>
  obtain ⟨j, V, rfl, e, gV, hj⟩ := hrel
  subst e
  have f3 := pb_cell gV.out f3'.out
  by_cases cj : j < m
  ·have cj' : (j : Int) < (m : Int) := by omega
   obtain ⟨op', tx', ty', ks, hf⟩ := Fo.drop_at (f := f) (j := j) (by rw [hm'.out]; exact cj)
   have hal := Fo.all_drop j hA'.out
   have hd := Fo.dep_drop f j
   rw [hf] at hal hd
   have hd' : max (ks.dep + 1) (f.drop (j + 1)).dep ≤ f.dep := hd
   have hTT := hT'.out.kp (Below.kp gV.out _)
   obtain ⟨p2, q2, e2, hT⟩ := hTT
   obtain ⟨rfl, e4, rfl⟩ := Value.slice.inj e2
   clear e2 e4
   rcases hT with hT | ⟨c, u, rfl, hT⟩
   ·exfalso; have := hm'.out; rw [hT] at this; simp [Fo.len] at this; omega
   have hTj := FoAt.drop j hT
   rw [hf] at hTj
   obtain ⟨⟨k0, k1, k2, s3, k3, hs3⟩, _, lc⟩ := hTj.head
   obtain ⟨p3, q3, rfl, hs3'⟩ := hs3
   simp only at k0 k1 k2 k3 hs3'
   have b40 := hm40.out
   have kE := hal.1 N S p3 q3 V (by show ks.dep + 1 ≤ N; omega) (by omega) ⟨p3, q3, rfl, hs3'⟩
   simp only at kE
   have ix := ex_ix c u m qq j cj
   have wj : IntKind.i64.wrap ((j : Int) + 1) = ((j + 1 : Nat) : Int) := by rw [IntKind.wrap_i64]; omega
   clear hTj hT hs3' lc hal hf hd hd' b40
   generalize ks.len = n3 at *
   generalize u + j * 4 = o at *
   go_wp2_with (first
    | (go_at_call 86; (refine kE.mono ?_); rintro e v1 ⟨rfl, g3⟩)
    | fail)
   exact ⟨⟨j + 1, v1, by go_num, rfl, pb_call gV.out g3, by omega⟩, by simp [intOf]; omega⟩
  ·obtain rfl : j = m := by omega
   have nn : ¬ ((j : Int) < (j : Int)) := by omega
   have g' := gV.out
   go_wp2_with fail
   go_ret
   exact ⟨rfl, pb_call gX.out g'⟩
theorem sd_of : ∀ f : Fo, f.wt ≤ 1099511627776 → f.all SdA
 | .nil, _ => trivial
 | .cons op tx ty ks r, hw => by
  have w1 : tx.size + 20 + ks.wt + r.wt ≤ 1099511627776 := hw
  have l := Fo.len_wt ks
  exact ⟨sdE op tx ty ks (sd_of ks (by omega)) (by omega), sd_of r (by omega)⟩
end Go.Proofs.YtknoibocpbfmmaaGreatDoor



namespace Go.Proofs.YtknoibocpbfmmaaGreatDoor
open Go.RowKit
set_option linter.unusedVariables false
set_option linter.unusedSimpArgs false
/-- Is a list one of these? -/
def among (ws : List (List UInt8)) (l : List UInt8) : Bool := ws.any (fun x => l == x)
theorem beq_turn {a b : List UInt8} {x : Bool} (h : (a == b) = x) : (b == a) = x := by
 cases x
 ·rw [beq_eq_false_iff_ne] at h ⊢; exact Ne.symm h
 ·rw [beq_iff_eq] at h ⊢; exact h.symm
def rWordWs : List (List UInt8) := [[105, 110, 116], [102, 108, 111, 97, 116], [100, 111, 117, 98, 108, 101], [105, 102], [101, 108, 115, 101], [119, 104, 105, 108, 101], [114, 101, 97, 100], [105, 110], [115, 113, 114, 116], [97, 98, 115]]
theorem rWord_row (w : World) (t : TypeId) (m : Nat) (x : List UInt8) (h : rWordWs[m]? = some x) : (w.alloc (.cells #[.string ⟨#[105, 110, 116]⟩, .string ⟨#[102, 108, 111, 97, 116]⟩, .string ⟨#[100, 111, 117, 98, 108, 101]⟩, .string ⟨#[105, 102]⟩, .string ⟨#[101, 108, 115, 101]⟩, .string ⟨#[119, 104, 105, 108, 101]⟩, .string ⟨#[114, 101, 97, 100]⟩, .string ⟨#[105, 110]⟩, .string ⟨#[115, 113, 114, 116]⟩, .string ⟨#[97, 98, 115]⟩] t)).cell? ⟨w.heap.size, m, none⟩ = some (.string ⟨x.toArray⟩) := by
 rw [cell_of_row _ w.heap.size m _ t _ (heap_alloc_new w _)]
 show ((rWordWs.map (fun x => Value.string ⟨x.toArray⟩)).toArray)[m]? = _
 rw [List.getElem?_toArray, List.getElem?_map, h]
 rfl
set_option maxRecDepth 100000 in
set_option maxHeartbeats 6400000 in
theorem rWord_any (s : ByteArray) (w : World) : Calls Tryz.prog 44 #[.string s] w fun e w' => e = .returned (.bool (among rWordWs s.toList)) ∧ Below w.heap.size w w' := by
 generalize hR : among rWordWs s.toList = R
 go_enter Tryz.func44, Tryz.ntmps44
 go_wp2_with fail
 go_loopw [4] (fun i wr => ∃ j : Nat, i = .int .i64 j ∧ j ≤ 10 ∧ Hid (among (rWordWs.drop j) s.toList = R) ∧ Below w.heap.size w wr ∧ Hid (∀ m x, rWordWs[m]? = some x → wr.cell? ⟨w.heap.size, m, none⟩ = some (.string ⟨x.toArray⟩))) (fun i _ => 10 - (intOf i).toNat)
 case atStart => exact ⟨0, rfl, by omega, hR, fx_below_new (Below.refl _ _) _, fun m x h => rWord_row w _ m x h⟩
 case round =>
  obtain ⟨j, rfl, hj, HR, hb, HC⟩ := hrel
  clear hR
  generalize Value.agg #[Value.string ⟨#[105, 110, 116]⟩, Value.string ⟨#[102, 108, 111, 97, 116]⟩, Value.string ⟨#[100, 111, 117, 98, 108, 101]⟩, Value.string ⟨#[105, 102]⟩, Value.string ⟨#[101, 108, 115, 101]⟩, Value.string ⟨#[119, 104, 105, 108, 101]⟩, Value.string ⟨#[114, 101, 97, 100]⟩, Value.string ⟨#[105, 110]⟩, Value.string ⟨#[115, 113, 114, 116]⟩, Value.string ⟨#[97, 98, 115]⟩] = V
  by_cases c : j < 10
  ·have ci : (j : Int) < 10 := by omega
   obtain ⟨x, hx⟩ : ∃ x, rWordWs[j]? = some x := ⟨_, List.getElem?_eq_getElem (show j < rWordWs.length from c)⟩
   have cell := HC.out j x hx
   have hm := ByteArray.toList_mk x
   have dr : rWordWs.drop j = x :: rWordWs.drop (j + 1) := by
    obtain ⟨h1, h2⟩ := List.getElem?_eq_some_iff.mp hx
    rw [List.drop_eq_getElem_cons h1, h2]
   have HR3 : Hid (((s.toList == x) || among (rWordWs.drop (j + 1)) s.toList) = R) := by have := HR.out; rw [dr] at this; exact this
   clear dr HR hx
   cases hc : (s.toList == x)
   ·have hd := beq_turn hc
    have HR2 : Hid (among (rWordWs.drop (j + 1)) s.toList = R) := by have := HR3.out; rw [hc, Bool.false_or] at this; exact this
    clear HR3
    rw [← hm] at hd
    generalize ByteArray.mk x.toArray = X at *
    clear hm hc
    go_wp2_with fail
    exact ⟨⟨j + 1, by go_num, by omega, HR2, hb, HC⟩, by simp [intOf]; omega⟩
   ·have hd := beq_turn hc
    have HR2 : Hid (R = true) := by have := HR3.out; rw [hc, Bool.true_or] at this; exact this.symm
    clear HR3
    rw [← hm] at hd
    generalize ByteArray.mk x.toArray = X at *
    clear hm hc
    go_wp2_with fail
    go_ret
    exact ⟨by rw [HR2.out]; rfl, hb⟩
  ·obtain rfl : j = 10 := by omega
   have HR2 : Hid (R = false) := HR.out.symm
   go_wp2_with fail
   go_ret
   exact ⟨by rw [HR2.out]; rfl, hb⟩
theorem isW_among (l : List UInt8) : among rWordWs l = isW l := by
 unfold among rWordWs isW
 simp only [List.any_cons, List.any_nil, Bool.or_false]
end Go.Proofs.YtknoibocpbfmmaaGreatDoor



namespace Go.Proofs.YtknoibocpbfmmaaGreatDoor
open Go.RowKit
set_option linter.unusedVariables false
set_option linter.unusedSimpArgs false
end Go.Proofs.YtknoibocpbfmmaaGreatDoor



namespace Go.Proofs.YtknoibocpbfmmaaGreatDoor
open Go.RowKit
set_option linter.unusedVariables false
set_option linter.unusedSimpArgs false
set_option maxRecDepth 100000 in
set_option maxHeartbeats 1600000 in
theorem rDigit_any (n : Nat) (w : World) : Calls Tryz.prog 45 #[.int .u8 n] w fun e w' => e = .returned (.bool (decide (48 ≤ n ∧ n ≤ 57))) ∧ w' = w := by
 by_cases c1 : 48 ≤ n
 ·by_cases c2 : n ≤ 57
  ·rw [decide_eq_true ⟨c1, c2⟩]
   have t57 : decide ((n : Int) ≤ 57) = true := by rw [decide_eq_true_iff]; omega
   go_enter Tryz.func45, Tryz.ntmps45
   go_wp2_with fail
   go_ret
   exact ⟨rfl, rfl⟩
  ·rw [decide_eq_false (fun h => c2 h.2)]
   have t57 : decide ((n : Int) ≤ 57) = false := by rw [decide_eq_false_iff_not]; omega
   clear c2
   go_enter Tryz.func45, Tryz.ntmps45
   go_wp2_with fail
   go_ret
   exact ⟨rfl, rfl⟩
 ·rw [decide_eq_false (fun h => c1 h.1)]
  have c3 : n < 48 := by omega
  clear c1
  go_enter Tryz.func45, Tryz.ntmps45
  go_wp2_with fail
  go_ret
  exact ⟨rfl, rfl⟩
set_option maxRecDepth 100000 in
set_option maxHeartbeats 1600000 in
theorem rLetter_any (n : Nat) (w : World) : Calls Tryz.prog 43 #[.int .u8 n] w fun e w' => e = .returned (.bool (decide (97 ≤ n ∧ n ≤ 122 ∨ 65 ≤ n ∧ n ≤ 90))) ∧ w' = w := by
 rcases (show n < 65 ∨ (65 ≤ n ∧ n ≤ 90) ∨ (90 < n ∧ n < 97) ∨ (97 ≤ n ∧ n ≤ 122) ∨ 122 < n by omega) with c | ⟨c, d⟩ | ⟨c, d⟩ | ⟨c, d⟩ | c
 ·rw [decide_eq_false (by omega)]
  go_enter Tryz.func43, Tryz.ntmps43
  go_wp2_with fail
  go_ret
  exact ⟨rfl, rfl⟩
 ·rw [decide_eq_true (by omega)]
  have e : n < 97 := by omega
  have t90 : decide ((n : Int) ≤ 90) = true := by rw [decide_eq_true_iff]; omega
  go_enter Tryz.func43, Tryz.ntmps43
  go_wp2_with fail
  go_ret
  exact ⟨rfl, rfl⟩
 ·rw [decide_eq_false (by omega)]
  have t90 : decide ((n : Int) ≤ 90) = false := by rw [decide_eq_false_iff_not]; omega
  go_enter Tryz.func43, Tryz.ntmps43
  go_wp2_with fail
  go_ret
  exact ⟨rfl, rfl⟩
 ·rw [decide_eq_true (by omega)]
  go_enter Tryz.func43, Tryz.ntmps43
  go_wp2_with fail
  go_ret
  exact ⟨rfl, rfl⟩
 ·rw [decide_eq_false (by omega)]
  have t90 : decide ((n : Int) ≤ 90) = false := by rw [decide_eq_false_iff_not]; omega
  have t122 : decide ((n : Int) ≤ 122) = false := by rw [decide_eq_false_iff_not]; omega
  go_enter Tryz.func43, Tryz.ntmps43
  go_wp2_with fail
  go_ret
  exact ⟨rfl, rfl⟩
/-- The reference's tests are the kinds. -/
theorem kb_letter (n : Nat) : decide (97 ≤ n ∧ n ≤ 122 ∨ 65 ≤ n ∧ n ≤ 90) = decide (kb n = 2) := by
 rw [decide_eq_decide]; unfold kb; (repeat' split) <;> omega
theorem kb_digit (n : Nat) : decide (48 ≤ n ∧ n ≤ 57) = decide (kb n = 4) := by
 rw [decide_eq_decide]; unfold kb; (repeat' split) <;> omega
theorem kb_under (n : Nat) : ((n : Int) == 95) = decide (kb n = 8) := by
 rw [show ((n : Int) == 95) = decide ((n : Int) = 95) from rfl, decide_eq_decide]; unfold kb; (repeat' split) <;> omega
theorem rDigit_k (n : Nat) (w : World) : Calls Tryz.prog 45 #[.int .u8 n] w fun e w' => e = .returned (.bool (decide (kb n = 4))) ∧ w' = w := by
 rw [← kb_digit]; exact rDigit_any n w
theorem rLetter_k (n : Nat) (w : World) : Calls Tryz.prog 43 #[.int .u8 n] w fun e w' => e = .returned (.bool (decide (kb n = 2))) ∧ w' = w := by
 rw [← kb_letter]; exact rLetter_any n w
theorem toL_get (s : ByteArray) (j : Nat) (h : j < s.size) : s.toList[j]'(by rw [toL_len]; exact h) = s[j] := by
 have := toL_at s j h
 rw [List.getElem?_eq_getElem (by rw [toL_len]; exact h)] at this
 exact Option.some.inj this
theorem cnt_next {m : Nat} {s : ByteArray} {j : Nat} (h : j < s.size) (hj : j ≤ cnt m s.toList) (hk : ¬ (kb (s[j]'h).toNat &&& m = 0)) : j + 1 ≤ cnt m s.toList := by
 by_cases c : j < cnt m s.toList
 ·omega
 ·exfalso
  obtain rfl : j = cnt m s.toList := by omega
  have := cnt_out m s.toList (by rw [toL_len]; exact h)
  rw [toL_get s _ h] at this
  exact hk this
theorem cnt_stop {m : Nat} {s : ByteArray} {j : Nat} (h : j < s.size) (hj : j ≤ cnt m s.toList) (hk : kb (s[j]'h).toNat &&& m = 0) : cnt m s.toList = j := by
 by_cases c : j < cnt m s.toList
 ·exfalso
  have := cnt_in m s.toList j (by rw [toL_len]; exact h) c
  rw [toL_get s _ h] at this
  exact this hk
 ·omega
theorem cnt2_head (s : ByteArray) (h : 0 < s.size) : (0 < cnt 2 s.toList) ↔ kb (s[0]'h).toNat = 2 := by
 constructor
 ·intro c
  have := cnt_in 2 s.toList 0 (by rw [toL_len]; exact h) c
  rw [toL_get s 0 h] at this
  rcases kb_five (s[0]'h).toNat with k | k | k | k | k <;> rw [k] at this ⊢ <;> simp at this
 ·intro k
  by_cases c : 0 < cnt 2 s.toList
  ·exact c
  ·have e : cnt 2 s.toList = 0 := by omega
   have := cnt_out 2 s.toList (by rw [toL_len, e]; exact h)
   simp only [e] at this
   rw [toL_get s 0 h, k] at this
   simp at this
theorem empty_of_size {s : ByteArray} (h : s.size = 0) : s.toList.isEmpty = true := by
 rw [← toL_len] at h; rw [List.isEmpty_iff]; exact List.length_eq_zero_iff.mp h
theorem full_of_size {s : ByteArray} (h : 0 < s.size) : s.toList.isEmpty = false := by
 rw [← toL_len] at h
 cases q : s.toList with
 | nil => rw [q] at h; simp at h
 | cons x l => rfl
set_option maxRecDepth 100000 in
set_option maxHeartbeats 3200000 in
theorem rIsName_any (s : ByteArray) (w : World) : Calls Tryz.prog 25 #[.string s] w fun e w' => e = .returned (.bool (isN s.toList)) ∧ Below w.heap.size w w' := by
 have hw := rWord_any s
 rw [isW_among] at hw
 generalize hR : isN s.toList = R
 unfold isN at hR
 rw [toL_len] at hR
 by_cases c0 : s.size = 0
 ·have e0 := empty_of_size c0
  have z := cnt_size 2 s
  rw [decide_eq_false (by omega), Bool.false_and] at hR
  subst hR
  clear c0 z hw
  go_enter Tryz.func25, Tryz.ntmps25
  go_wp2_with fail
  go_ret
  exact ⟨rfl, Below.refl _ _⟩
 ·have p0 : 0 < s.size := by omega
  have e0 := full_of_size p0
  by_cases c1 : 16 < s.size
  ·rw [decide_eq_false (p := s.size ≤ 16) (by omega), Bool.false_and, Bool.and_false, Bool.and_false] at hR
   subst hR
   have i1 : (16 : Int) < (s.size : Int) := by omega
   clear hw c0 p0 c1
   go_enter Tryz.func25, Tryz.ntmps25
   go_wp2_with fail
   go_ret
   exact ⟨rfl, Below.refl _ _⟩
  ·have i1 : (s.size : Int) ≤ 16 := by omega
   have hl := rLetter_k (s[0]'p0).toNat
   by_cases c2 : kb (s[0]'p0).toNat = 2
   ·rw [decide_eq_true c2] at hl
    rw [decide_eq_true ((cnt2_head s p0).mpr c2), Bool.true_and, decide_eq_true (p := s.size ≤ 16) (by omega), Bool.true_and] at hR
    cases c3 : isW s.toList
    ·rw [c3] at hw hR
     rw [Bool.not_false, Bool.and_true] at hR
     have HR : Hid _ := hR
     clear hR c0 c1 c2 c3
     go_enter Tryz.func25, Tryz.ntmps25
     go_wp2_with (first
      | (go_at_call 43; refine (hl _).mono ?_; rintro e w1 ⟨rfl, rfl⟩)
      | (go_at_call 44; refine (hw _).mono ?_; rintro e w2 ⟨rfl, b2⟩)
      | fail)
     go_loopw [3] (fun i wr => ∃ j : Nat, i = .int .i64 j ∧ j ≤ s.size ∧ Hid (j ≤ cnt 14 s.toList) ∧ wr = w2) (fun i _ => s.size - (intOf i).toNat)
     case atStart => exact ⟨0, rfl, by omega, Nat.zero_le _, rfl⟩
     case round =>
      obtain ⟨j, rfl, hj, HJ, rfl⟩ := hrel
      by_cases c : j < s.size
      ·have ci : (j : Int) < (s.size : Int) := by omega
       have h1 := rLetter_k (s[j]'c).toNat
       have h2 := rDigit_k (s[j]'c).toNat
       have h3 := kb_under (s[j]'c).toNat
       have nx := cnt_next (m := 14) c HJ.out
       have st := cnt_stop (m := 14) c HJ.out
       rcases kb_five (s[j]'c).toNat with k | k | k | k | k
       all_goals (rw [k] at h1 h2 h3 nx st; simp only [Nat.reduceEqDiff, decide_false, decide_true] at h1 h2 h3; clear hl hw k)
       ·have ST := st (by decide)
        have RF : Hid (R = false) := by rw [← HR.out, ST]; exact decide_eq_false (by omega)
        clear nx st ST
        go_wp2_with (first
         | (go_at_call 43; refine (h1 _).mono ?_; rintro e w3 ⟨rfl, rfl⟩)
         | (go_at_call 45; refine (h2 _).mono ?_; rintro e w4 ⟨rfl, rfl⟩)
         | fail)
        go_ret
        exact ⟨by rw [RF.out]; rfl, b2⟩
       ·have NX := nx (by decide)
        have NH : Hid (j + 1 ≤ cnt 14 s.toList) := NX
        clear nx st NX
        go_wp2_with (first
         | (go_at_call 43; refine (h1 _).mono ?_; rintro e w3 ⟨rfl, rfl⟩)
         | (go_at_call 45; refine (h2 _).mono ?_; rintro e w4 ⟨rfl, rfl⟩)
         | fail)
        exact ⟨⟨j + 1, by go_num, by omega, NH, by first | trivial | rfl⟩, by simp [intOf]; omega⟩
       ·have NX := nx (by decide)
        have NH : Hid (j + 1 ≤ cnt 14 s.toList) := NX
        clear nx st NX
        go_wp2_with (first
         | (go_at_call 43; refine (h1 _).mono ?_; rintro e w3 ⟨rfl, rfl⟩)
         | (go_at_call 45; refine (h2 _).mono ?_; rintro e w4 ⟨rfl, rfl⟩)
         | fail)
        exact ⟨⟨j + 1, by go_num, by omega, NH, by first | trivial | rfl⟩, by simp [intOf]; omega⟩
       ·have NX := nx (by decide)
        have NH : Hid (j + 1 ≤ cnt 14 s.toList) := NX
        clear nx st NX
        go_wp2_with (first
         | (go_at_call 43; refine (h1 _).mono ?_; rintro e w3 ⟨rfl, rfl⟩)
         | (go_at_call 45; refine (h2 _).mono ?_; rintro e w4 ⟨rfl, rfl⟩)
         | fail)
        exact ⟨⟨j + 1, by go_num, by omega, NH, by first | trivial | rfl⟩, by simp [intOf]; omega⟩
       ·have ST := st (by decide)
        have RF : Hid (R = false) := by rw [← HR.out, ST]; exact decide_eq_false (by omega)
        clear nx st ST
        go_wp2_with (first
         | (go_at_call 43; refine (h1 _).mono ?_; rintro e w3 ⟨rfl, rfl⟩)
         | (go_at_call 45; refine (h2 _).mono ?_; rintro e w4 ⟨rfl, rfl⟩)
         | fail)
        go_ret
        exact ⟨by rw [RF.out]; rfl, b2⟩
      ·have ci : ¬ (j : Int) < (s.size : Int) := by omega
       have RT : Hid (R = true) := by
        rw [← HR.out]; apply decide_eq_true
        have := cnt_size 14 s
        have := HJ.out
        omega
       clear hl hw
       go_wp2_with fail
       go_ret
       exact ⟨by rw [RT.out]; rfl, b2⟩
    ·rw [c3] at hw hR
     rw [Bool.not_true, Bool.and_false] at hR
     subst hR
     clear c0 c1 c2 c3
     go_enter Tryz.func25, Tryz.ntmps25
     go_wp2_with (first
      | (go_at_call 43; refine (hl _).mono ?_; rintro e w1 ⟨rfl, rfl⟩)
      | (go_at_call 44; refine (hw _).mono ?_; rintro e w2 ⟨rfl, b2⟩)
      | fail)
     go_ret
     exact ⟨rfl, b2⟩
   ·rw [decide_eq_false c2] at hl
    rw [decide_eq_false (fun h => c2 ((cnt2_head s p0).mp h)), Bool.false_and] at hR
    subst hR
    clear c0 c1 c2 hw
    go_enter Tryz.func25, Tryz.ntmps25
    go_wp2_with (first
     | (go_at_call 43; refine (hl _).mono ?_; rintro e w1 ⟨rfl, rfl⟩)
     | fail)
    go_ret
    exact ⟨rfl, Below.refl _ _⟩
end Go.Proofs.YtknoibocpbfmmaaGreatDoor



namespace Go.Proofs.YtknoibocpbfmmaaGreatDoor
open Go.RowKit
set_option linter.unusedVariables false
set_option linter.unusedSimpArgs false
/-- Digits, at least one. -/
def isI (l : List UInt8) : Bool := decide (cnt 4 l = l.length) && !l.isEmpty
set_option maxRecDepth 100000 in
set_option maxHeartbeats 3200000 in
theorem rIsInt_any (s : ByteArray) (hz : s.size ≤ 9223372036854775807) (w : World) : Calls Tryz.prog 99 #[.string s] w fun e w' => e = .returned (.bool (isI s.toList)) ∧ Below w.heap.size w w' := by
 generalize hR : isI s.toList = R
 unfold isI at hR
 rw [toL_len] at hR
 have HR : Hid _ := hR
 clear hR
 go_enter Tryz.func99, Tryz.ntmps99
 go_wp2_with fail
 go_loopw [3] (fun i wr => ∃ j : Nat, i = .int .i64 j ∧ j ≤ s.size ∧ Hid (j ≤ cnt 4 s.toList) ∧ wr = w) (fun i _ => s.size - (intOf i).toNat)
 case atStart => exact ⟨0, rfl, by omega, Nat.zero_le _, rfl⟩
 case round =>
  obtain ⟨j, rfl, hj, HJ, rfl⟩ := hrel
  by_cases c : j < s.size
  ·have ci : (j : Int) < (s.size : Int) := by omega
   have h2 := rDigit_k (s[j]'c).toNat
   have nx := cnt_next (m := 4) c HJ.out
   have st := cnt_stop (m := 4) c HJ.out
   by_cases k : kb (s[j]'c).toNat = 4
   ·rw [k] at nx
    rw [decide_eq_true k] at h2
    have NH : Hid (j + 1 ≤ cnt 4 s.toList) := nx (by decide)
    clear nx st k
    go_wp2_with (first
     | (go_at_call 45; refine (h2 _).mono ?_; rintro e w4 ⟨rfl, rfl⟩)
     | fail)
    exact ⟨⟨j + 1, by go_num, by omega, NH, by first | trivial | rfl⟩, by simp [intOf]; omega⟩
   ·rw [decide_eq_false k] at h2
    have k4 : kb (s[j]'c).toNat &&& 4 = 0 := by rcases kb_five (s[j]'c).toNat with q | q | q | q | q <;> rw [q] at k ⊢ <;> simp at k ⊢
    have RF : Hid (R = false) := by rw [← HR.out, st k4, decide_eq_false (by omega)]; rfl
    clear nx st k k4
    go_wp2_with (first
     | (go_at_call 45; refine (h2 _).mono ?_; rintro e w4 ⟨rfl, rfl⟩)
     | fail)
    go_ret
    exact ⟨by rw [RF.out]; rfl, Below.refl _ _⟩
  ·have ci : ¬ (j : Int) < (s.size : Int) := by omega
   have RT : Hid (R = !s.toList.isEmpty) := by
    show R = _
    rw [← HR.out, decide_eq_true, Bool.true_and]
    have := cnt_size 4 s
    have := HJ.out
    omega
   cases em : s.toList.isEmpty
   ·rw [em] at RT
    go_wp2_with fail
    go_ret
    exact ⟨by rw [RT.out]; rfl, Below.refl _ _⟩
   ·rw [em] at RT
    go_wp2_with fail
    go_ret
    exact ⟨by rw [RT.out]; rfl, Below.refl _ _⟩
/-- Ahead of the first point. -/
def tilP : List UInt8 → Nat
 | [] => 0
 | b :: t => if b = 46 then 0 else tilP t + 1
theorem tilP_le : ∀ l, tilP l ≤ l.length
 | [] => Nat.le_refl _
 | b :: t => by have := tilP_le t; simp only [tilP]; split <;> simp <;> omega
theorem tilP_in : ∀ (l : List UInt8) j (h : j < l.length), j < tilP l → l[j]'h ≠ 46
 | [], j, h, _ => by simp at h
 | b :: t, j, h, hj => by
  simp only [tilP] at hj
  split at hj
  ·omega
  ·cases j with
   | zero => assumption
   | succ j => exact tilP_in t j (by simpa using h) (by omega)
theorem tilP_out : ∀ (l : List UInt8) (h : tilP l < l.length), l[tilP l]'h = 46
 | [], h => by simp at h
 | b :: t, h => by
  by_cases c : b = 46
  ·have e : tilP (b :: t) = 0 := by simp only [tilP, if_pos c]
   simp only [e, List.getElem_cons_zero]; exact c
  ·have e : tilP (b :: t) = tilP t + 1 := by simp only [tilP, if_neg c]
   simp only [e, List.getElem_cons_succ]
   exact tilP_out t (by rw [e] at h; simpa using h)
def isRl (l : List UInt8) : Bool := decide (tilP l < l.length) && (isI (l.take (tilP l)) && isI (l.drop (tilP l + 1)))
set_option maxRecDepth 100000 in
set_option maxHeartbeats 3200000 in
theorem rIsReal_any (s : ByteArray) (hz : s.size ≤ 9223372036854775807) (w : World) : Calls Tryz.prog 100 #[.string s] w fun e w' => e = .returned (.bool (isRl s.toList)) ∧ Below w.heap.size w w' := by
 generalize hR : isRl s.toList = R
 unfold isRl at hR
 rw [toL_len] at hR
 have HR : Hid _ := hR
 clear hR
 have tl := tilP_le s.toList
 rw [toL_len] at tl
 go_enter Tryz.func100, Tryz.ntmps100
 go_wp2_with fail
 go_loopw [3] (fun i wr => ∃ j : Nat, i = .int .i64 j ∧ j ≤ s.size ∧ Hid (j ≤ tilP s.toList) ∧ wr = w) (fun i _ => s.size - (intOf i).toNat)
 case atStart => exact ⟨0, rfl, by omega, Nat.zero_le _, rfl⟩
 case round =>
  obtain ⟨j, rfl, hj, HJ, rfl⟩ := hrel
  by_cases c : j < s.size
  ·have ci : (j : Int) < (s.size : Int) := by omega
   have ji : (j : Int) + 1 ≤ (s.size : Int) := by omega
   have jm : (j : Int) + 1 < 9223372036854775808 := by omega
   by_cases k : s[j]'c = 46
   ·have jt : tilP s.toList = j := by
     by_cases q : j < tilP s.toList
     ·have := tilP_in s.toList j (by rw [toL_len]; exact c) q
      rw [toL_get s j c] at this
      exact absurd k this
     ·have := HJ.out; omega
    have z1 : (s.extract 0 j).size ≤ 9223372036854775807 := by rw [← toL_len, toL_cut]; simp; rw [toL_len]; omega
    have z2 : (s.extract (j + 1) s.size).size ≤ 9223372036854775807 := by rw [← toL_len, toL_cut]; simp; rw [toL_len]; omega
    have g1 := rIsInt_any (s.extract 0 j) z1
    have g2 := rIsInt_any (s.extract (j + 1) s.size) z2
    rw [toL_cut, List.drop_zero] at g1
    rw [toL_cut, List.take_of_length_le (by rw [toL_len]; exact Nat.le_refl _)] at g2
    have HR2 : Hid ((isI (s.toList.take j) && isI (s.toList.drop (j + 1))) = R) := by
     have := HR.out
     rw [jt, decide_eq_true c, Bool.true_and] at this
     exact this
    have q2 : (((s[j]'c).toNat : Int) == 46) = true := by rw [k]; rfl
    clear HR HJ jt z1 z2 k tl
    generalize isI (s.toList.take j) = x at *
    generalize isI (s.toList.drop (j + 1)) = y at *
    cases x
    ·go_wp2_with (first
      | (go_at_call 99; refine (g1 _).mono ?_; rintro e w1 ⟨rfl, b1⟩)
      | fail)
     go_ret
     exact ⟨by rw [← HR2.out]; rfl, b1⟩
    ·go_wp2_with (first
      | (go_at_call_of 99 (ByteArray.extract s 0 j); refine (g1 _).mono ?_; rintro e w1 ⟨rfl, b1⟩)
      | (go_at_call 99; refine (g2 _).mono ?_; rintro e w2 ⟨rfl, b2⟩)
      | fail)
     go_ret
     exact ⟨by rw [← HR2.out]; rfl, fx_below_call b1 b2⟩
   ·have q2 : (((s[j]'c).toNat : Int) == 46) = false := by
     rw [beq_eq_false_iff_ne]
     intro e
     exact k (UInt8.toNat_inj.mp (by simpa using (by exact_mod_cast e : (s[j]'c).toNat = 46)))
    have NH : Hid (j + 1 ≤ tilP s.toList) := by
     show j + 1 ≤ _
     by_cases q : j < tilP s.toList
     ·omega
     ·exfalso
      have hj2 := HJ.out
      obtain rfl : j = tilP s.toList := by omega
      have := tilP_out s.toList (by rw [toL_len]; exact c)
      rw [toL_get s _ c] at this
      exact k this
    clear k HJ tl
    go_wp2_with fail
    exact ⟨⟨j + 1, by go_num, by omega, NH, by first | trivial | rfl⟩, by simp [intOf]; omega⟩
  ·have ci : ¬ (j : Int) < (s.size : Int) := by omega
   have RT : Hid (R = false) := by
    show R = _
    rw [← HR.out, decide_eq_false, Bool.false_and]
    have := HJ.out
    omega
   go_wp2_with fail
   go_ret
   exact ⟨by rw [RT.out]; rfl, Below.refl _ _⟩
end Go.Proofs.YtknoibocpbfmmaaGreatDoor



