/- Texts of the proof, put together. -/
import Derived.Test.YtknoibocpbfmmaaGreatDoorWG24
import Derived.Test.YtknoibocpbfmmaaGreatDoorWPgL
import Derived.Test.YtknoibocpbfmmaaGreatDoorWPgN
import Derived.Test.YtknoibocpbfmmaaGreatDoorWG22
import Derived.Test.YtknoibocpbfmmaaGreatDoorRows
import Derived.ProofKit
import Derived.LaidMore
import Derived.LaidSub
import Derived.Lib.LaidTab
import Derived.OpenShut
import Derived.ChangeArms
import Derived.Stop.Joined
namespace Go.Proofs.YtknoibocpbfmmaaGreatDoor
open Go.RowKit
set_option linter.unusedVariables false
set_option linter.unusedSimpArgs false
set_option maxRecDepth 100000 in
theorem neq_dec (a : ByteArray) (b c : Int) (d : ByteArray) (e f : Int) (w : World) : (binOp .neq 53 (.agg #[.string a, .int .i64 b, .int .i64 c]) (.agg #[.string d, .int .i64 e, .int .i64 f])).run Tryz.prog w = .ok (.bool (!decide ((a, b, c) = (d, e, f)))) w := by
 by_cases h1 : a = d
 ·by_cases h2 : b = e
  ·by_cases h3 : c = f
   ·subst h1; subst h2; subst h3; simp [go_sem]
   ·simp [go_sem, h1, h2, h3]
  ·simp [go_sem, h1, h2]
 ·have h1' : (a.toList == d.toList) = false := beq_false_of_ne (fun h => h1 (tl_inj h))
  simp [go_sem, h1, h1']
end Go.Proofs.YtknoibocpbfmmaaGreatDoor



namespace Go.Proofs.YtknoibocpbfmmaaGreatDoor
open Go.RowKit
set_option linter.unusedVariables false
set_option linter.unusedSimpArgs false
set_option maxRecDepth 100000 in
set_option maxHeartbeats 6400000 in
theorem rSame (p : Pg) (cc : Nat × Nat) (hp : ruP p = some cc) (S S' : Nat → Prop) (wo wo' xo xo' : Option Addr) (wc wc' xc xc' : Nat) (w : World) (d1 : SlDc w (.slice wo p.1.length wc) p.1) (t1 : SlS w S (.slice xo p.2.len xc) p.2) (d2 : SlDc w (.slice wo' p.1.length wc') p.1) (t2 : SlS w S' (.slice xo' p.2.len xc') p.2) :
  Calls Tryz.prog 11 #[.agg #[.slice wo p.1.length wc, .slice xo p.2.len xc], .agg #[.slice wo' p.1.length wc', .slice xo' p.2.len xc']] w fun e w' => e = .returned (.bool true) ∧ Below w.heap.size w w' := by
 obtain ⟨z1, _, z3, _⟩ := right_facts hp
 have zl := so_len_wt p.2
 have g1 := pb_new (Below.refl w.heap.size w) (.cells #[.slice wo p.1.length wc, .slice xo p.2.len xc] 25)
 obtain ⟨X, hX⟩ : ∃ X, w.alloc (.cells #[.slice wo p.1.length wc, .slice xo p.2.len xc] 25) = X := ⟨_, rfl⟩
 have qX : X.heap[w.heap.size]? = some (.cells #[.slice wo p.1.length wc, .slice xo p.2.len xc] 25 (0, 0)) := by rw [← hX]; exact World.alloc_heap_new _ _
 have sX : X.heap.size = w.heap.size + 1 := by rw [← hX]; simp [go_sem]
 rw [hX] at g1
 have g2 := pb_new (Below.refl X.heap.size X) (.cells #[.slice wo' p.1.length wc', .slice xo' p.2.len xc'] 25)
 obtain ⟨Y, hY⟩ : ∃ Y, X.alloc (.cells #[.slice wo' p.1.length wc', .slice xo' p.2.len xc'] 25) = Y := ⟨_, rfl⟩
 have qY : Y.heap[w.heap.size + 1]? = some (.cells #[.slice wo' p.1.length wc', .slice xo' p.2.len xc'] 25 (0, 0)) := by rw [← hY, ← sX]; exact World.alloc_heap_new _ _
 rw [hY] at g2
 obtain ⟨b2, hb2⟩ : ∃ b, w.heap.size = b := ⟨_, rfl⟩
 rw [hb2] at qX qY sX
 have qX2 : Y.heap[b2]? = some (.cells #[.slice wo p.1.length wc, .slice xo p.2.len xc] 25 (0, 0)) := (g2.block b2 (by omega)).trans qX
 have hall : ∀ V, Below Y.heap.size Y V → (V.cell? ⟨b2, 0, none⟩ = some (.slice wo p.1.length wc) ∧ V.cell? ⟨b2, 1, none⟩ = some (.slice xo p.2.len xc) ∧ V.cell? ⟨b2 + 1, 0, none⟩ = some (.slice wo' p.1.length wc') ∧ V.cell? ⟨b2 + 1, 1, none⟩ = some (.slice xo' p.2.len xc')) := fun V g => ⟨pb_cell g (by simp [World.cell?, qX2]), pb_cell g (by simp [World.cell?, qX2]), pb_cell g (by simp [World.cell?, qY]), pb_cell g (by simp [World.cell?, qY])⟩
 have D1 := (d1.bel g1).bel g2
 have D2 := (d2.bel g1).bel g2
 have T1 := (t1.kp (Below.kp g1 _)).kp (Below.kp g2 _)
 have T2 := (t2.kp (Below.kp g1 _)).kp (Below.kp g2 _)
 have kA := fun V (g : Below Y.heap.size Y V) => rRight p cc hp S wo xo wc xc V (D1.bel g) (T1.kp (Below.kp g _))
 have kB := fun V (g : Below Y.heap.size Y V) => rRight p cc hp S' wo' xo' wc' xc' V (D2.bel g) (T2.kp (Below.kp g _))
 have kC := fun V (g : Below Y.heap.size Y V) => smS p.2 (sm_of p.2 (by omega)) (by omega) S S' xo xo' xc xc' V (T1.kp (Below.kp g _)) (T2.kp (Below.kp g _))
 obtain ⟨pp, qq, e1, hD0⟩ := D1
 obtain ⟨rfl, _, rfl⟩ := Value.slice.inj e1
 obtain ⟨pp, qq, e2, hD1⟩ := D2
 obtain ⟨rfl, _, rfl⟩ := Value.slice.inj e2
 clear e1 e2
 obtain ⟨m, hm⟩ : ∃ m, p.1.length = m := ⟨_, rfl⟩
 have hm' : Hid (p.1.length = m) := hm
 have hD : Hid (p.1 = [] ∨ ∃ c u, wo = some ⟨c, u, none⟩ ∧ ∀ j d, p.1[j]? = some d → Y.cell? ⟨c, u + j * 3, none⟩ = some (.string d.1) ∧ Y.cell? ⟨c, u + j * 3 + 1, none⟩ = some (.int .i64 d.2.1) ∧ Y.cell? ⟨c, u + j * 3 + 2, none⟩ = some (.int .i64 d.2.2)) := hD0
 have hE : Hid (p.1 = [] ∨ ∃ c u, wo' = some ⟨c, u, none⟩ ∧ ∀ j d, p.1[j]? = some d → Y.cell? ⟨c, u + j * 3, none⟩ = some (.string d.1) ∧ Y.cell? ⟨c, u + j * 3 + 1, none⟩ = some (.int .i64 d.2.1) ∧ Y.cell? ⟨c, u + j * 3 + 2, none⟩ = some (.int .i64 d.2.2)) := hD1
 rw [hm] at hall hX hY kA kB z1
 rw [hm]
 have hl' : Hid (m ≤ 24) := z1
 have n1 : ¬ (m : Int) ≠ (m : Int) := by simp
 have gY : Hid (Below w.heap.size w Y) := pb_call g1 g2
 have hX' : Hid (w.alloc (.cells #[.slice wo m wc, .slice xo p.2.len xc] 25) = X) := hX
 have hY' : Hid (X.alloc (.cells #[.slice wo' m wc', .slice xo' p.2.len xc'] 25) = Y) := hY
 have hb2' : Hid (w.heap.size = b2 ∧ X.heap.size = b2 + 1) := ⟨hb2, sX⟩
 clear hX hY hb2 sX qX qX2 qY g1 g2 d1 d2 t1 t2 T1 T2 hD0 hD1 z1 z3 zl hm
 generalize p.2.len = n at *
 have gg := Below.refl Y.heap.size Y
 obtain ⟨f0, f1, h0, h1⟩ := hall _ gg
 go_enter Tryz.func11, Tryz.ntmps11
 go_upto_region 1 with fail
 rw [hX'.out]
 rw [hY'.out]
 (try rw [hb2'.out.1])
 (try rw [hb2'.out.2])
 clear hX' hY' hb2'
 go_upto_region 4 with (first
  | (go_at_call 13; (first | (refine (kA _ gg).mono ?_; clear kA) | (refine (kB _ gg).mono ?_; clear kB)); rintro e v1 ⟨rfl, g3⟩; replace gg := pb_call gg g3; clear f0 f1 h0 h1 g3; obtain ⟨f0, f1, h0, h1⟩ := hall _ gg)
  | fail)
 go_loopw [5] (fun i wr => ∃ (j : Nat) (V : World), i = .int .i64 j ∧ V = wr ∧ Hid (Below Y.heap.size Y V) ∧ j ≤ m) (fun i _ => m - (intOf i).toNat)
 case atStart => exact ⟨0, _, rfl, rfl, gg, by omega⟩
 case round =>
  clear f0 f1 h0 h1 gg n1
  obtain ⟨j, V, rfl, e, gV, hj⟩ := hrel
  subst e
  obtain ⟨f0, f1, h0, h1⟩ := hall _ gV.out
  by_cases cj : j < m
  ·have cj' : (j : Int) < (m : Int) := by omega
   obtain ⟨d, hdj⟩ : ∃ d, p.1[j]? = some d := ⟨_, List.getElem?_eq_getElem (by rw [hm'.out]; exact cj)⟩
   rcases hD.out with k0 | ⟨c, u, rfl, hc⟩
   ·exfalso; have := hm'.out; rw [k0] at this; simp at this; omega
   rcases hE.out with k0 | ⟨c', u', rfl, hc'⟩
   ·exfalso; have := hm'.out; rw [k0] at this; simp at this; omega
   obtain ⟨y0, y1, y2⟩ := hc j d hdj
   have k0 := pb_cell gV.out y0
   have k1 := pb_cell gV.out y1
   have k2 := pb_cell gV.out y2
   obtain ⟨y0, y1, y2⟩ := hc' j d hdj
   have l0 := pb_cell gV.out y0
   have l1 := pb_cell gV.out y1
   have l2 := pb_cell gV.out y2
   have ix := dc_ix c u m wc j cj
   have iy := dc_ix c' u' m wc' j cj
   have m40 := hl'.out
   have wj : IntKind.i64.wrap ((j : Int) + 1) = ((j + 1 : Nat) : Int) := by rw [IntKind.wrap_i64]; omega
   obtain ⟨dN, dT, dL⟩ := d
   simp only at k0 k1 k2 l0 l1 l2
   have hq := neq_dec dN dT dL dN dT dL
   rw [decide_eq_true rfl] at hq
   generalize u + j * 3 = o3 at *
   generalize u' + j * 3 = o4 at *
   have gV' : Hid (Below Y.heap.size Y V) := gV
   clear y0 y1 y2 hc hc' hdj m40 kC hall hD hE gV
   go_upto_region 6 with fail
   go_quiet (fail)
   go_wp2_with fail
   exact ⟨⟨j + 1, _, by go_num, rfl, ⟨gV'.out.os, gV'.out.tape, gV'.out.output, gV'.out.size, gV'.out.block⟩, by omega⟩, by simp [intOf]; omega⟩
  ·obtain rfl : j = m := by omega
   have nn : ¬ ((j : Int) < (j : Int)) := by omega
   have gg := gV.out
   go_wp2_with (first
    | (go_at_call 22; (refine (kC _ gg).mono ?_); rintro e v1 ⟨rfl, g3⟩)
    | fail)
   go_ret
   exact ⟨rfl, pb_call gY.out (pb_call gg g3)⟩
end Go.Proofs.YtknoibocpbfmmaaGreatDoor



namespace Go.Proofs.YtknoibocpbfmmaaGreatDoor
set_option linter.unusedVariables false
set_option linter.unusedSimpArgs false
theorem lx_scan {l : List UInt8} {ts : List (Nat × List UInt8)} (h : Lx l ts) : ∀ (a n : Nat) (e : Nat × Nat), scanAt (l.drop (cnt 1 l)) a n = .error e → e.1 = 5 := by
 induction h with
 | nil h =>
  intro a n e he
  rw [h, scanAt_end [] a n rfl] at he
  cases he
 | @cons l l' k m ts e0 h hk r ih =>
  intro a n e he
  rw [e0] at he
  have hk' : (tok l').1 ≠ 0 := by rw [h]; exact hk
  by_cases h0 : l'.length = 0
  ·rw [scanAt_end l' a n h0] at he; cases he
  by_cases hn : n = 2048
  ·subst hn; rw [scanAt_full l' a h0 hk'] at he; cases he; rfl
  rw [scanAt, if_neg h0, dif_neg hk', if_neg hn] at he
  have hm : (tok l').2 = m := by rw [h]
  rw [hm] at he
  cases hr : scanAt ((l'.drop m).drop (cnt 1 (l'.drop m))) (a + m + cnt 1 (l'.drop m)) (n + 1) with
  | ok r => rw [hr] at he; cases he
  | error e2 =>
   rw [hr] at he
   have he2 : (Except.error e2 : Except (Nat × Nat) (List (Nat × Nat × Nat))) = .error e := he
   cases he2
   exact ih _ _ _ hr
/-- A right program's text is the program, or too much. -/
theorem prs_text {p : Pg} {c : Nat × Nat} (h : ruP p = some c) {s : ByteArray} (hs : s.data.toList = pgL p) {x : Nat × Nat} (hq : prsL s = .error x) : x.1 = 5 := by
 have y := lx_pg h
 rw [← hs, ← toL] at y
 unfold prsL at hq
 cases hc : scanL s.toList with
 | error e =>
  rw [hc] at hq
  cases hq
  unfold scanL at hc
  split at hc
  ·cases hc; rfl
  ·exact lx_scan y _ _ _ hc
 | ok t =>
  rw [hc] at hq
  simp only at hq
  have z := (scanL_Lx hc).det y
  have hk : ky (t.map (fun x => (x.1, s.extract x.2.1 (x.2.1 + x.2.2), x.2.1))) = pgK p := by
   apply kL_inj
   rw [← z]
   simp only [ky, kL, List.map_map]
   apply List.map_congr_left
   intro w _
   simp only [Function.comp, ext_list']
   rw [Nat.add_sub_cancel_left]
  obtain ⟨n, d, hn⟩ := pg_parse h hk s.size
  have e : tks s t = t.map (fun x => (x.1, s.extract x.2.1 (x.2.1 + x.2.2), x.2.1)) ++ [eT s.size] := rfl
  rw [← e] at hn
  have nm := tks_nm (s := s) (scanL_len hc)
  cases hr : pgP 16500 (tks s t) with
  | bad a =>
   have := mo_both (F := fun n => pgP n (tks s t)) (fun n => mo_pg n _) (n := n) (n' := 16500) (by rw [hn]; exact ok_nm) (by rw [hr]; intro c; cases c)
   rw [hn, hr] at this
   cases this
  | more => exact absurd hr nm
  | ok p' us d' =>
   rw [hr] at hq
   unfold parT at hq
   simp only at hq
   split at hq
   ·cases hq
   ·cases hq; rfl
/-- What Print tells of a right program. -/
theorem prt_right {p : Pg} {c : Nat × Nat} (h : ruP p = some c) : (prtP p).2 = 5 ∨ (prtP p).2 = 0 ∧ prsL (prtP p).1 = .ok p := by
 unfold prtP
 rw [h]
 simp only
 cases hq : prsL ⟨(pgL p).toArray⟩ with
 | error x => exact Or.inl (prs_text h (by simp) hq)
 | ok q =>
  refine Or.inr ⟨rfl, ?_⟩
  show prsL ⟨(pgL p).toArray⟩ = _
  rw [hq, prs_back h (by simp) hq]
end Go.Proofs.YtknoibocpbfmmaaGreatDoor



namespace Go.Proofs.YtknoibocpbfmmaaGreatDoor
open Go.RowKit
set_option linter.unusedVariables false
set_option linter.unusedSimpArgs false
/-- What Print tells. -/
theorem prt_two (p : Pg) : (prtP p).2 ≠ 0 ∧ (prtP p).1 = tx0 ∨ ∃ c, ruP p = some c ∧ (prtP p).2 = 0 ∧ prsL (prtP p).1 = .ok p := by
 cases h : ruP p with
 | none =>
  refine Or.inl ?_
  unfold prtP
  rw [h]
  exact ⟨(show (4 : Nat) ≠ 0 by decide), rfl⟩
 | some c =>
  have k := prt_right h
  unfold prtP at k ⊢
  rw [h] at k ⊢
  simp only at k ⊢
  cases hq : prsL ⟨(pgL p).toArray⟩ with
  | error x => exact Or.inl ⟨prs_err hq, rfl⟩
  | ok q =>
   rw [hq] at k
   rcases k with k | k
   ·cases k
   ·exact Or.inr ⟨c, rfl, k⟩
set_option maxRecDepth 100000 in
set_option maxHeartbeats 6400000 in
theorem law_back (p : Pg) (S : Nat → Prop) (wo xo : Option Addr) (wc xc : Nat) (w : World) (hO : OpsAt w) (hE : EvAt w) (d1 : SlDc w (.slice wo p.1.length wc) p.1) (t1 : SlS w S (.slice xo p.2.len xc) p.2) (hz : ∀ d ∈ p.1, d.1.size ≤ 9223372036854775807) (hf : p.2.szs) :
  Calls Tryz.prog 3 #[.agg #[.slice wo p.1.length wc, .slice xo p.2.len xc]] w fun e w' => e = .returned (.bool true) ∧ Below w.heap.size w w' := by
 have hh : Hid (OpsAt w ∧ EvAt w) := ⟨hO, hE⟩
 have hF := prt_two p
 have g1 := pb_new (Below.refl w.heap.size w) (.cells #[.slice wo p.1.length wc, .slice xo p.2.len xc] 25)
 obtain ⟨X, hX⟩ : ∃ X, w.alloc (.cells #[.slice wo p.1.length wc, .slice xo p.2.len xc] 25) = X := ⟨_, rfl⟩
 have qX : X.heap[w.heap.size]? = some (.cells #[.slice wo p.1.length wc, .slice xo p.2.len xc] 25 (0, 0)) := by rw [← hX]; exact World.alloc_heap_new _ _
 rw [hX] at g1
 obtain ⟨b, hb⟩ : ∃ b, w.heap.size = b := ⟨_, rfl⟩
 rw [hb] at qX
 have D1 := d1.bel g1
 have T1 := t1.kp (Below.kp g1 _)
 have kPr : Calls Tryz.prog 8 #[.agg #[.slice wo p.1.length wc, .slice xo p.2.len xc]] X fun e w' => e = .returned (.tuple #[.string (prtP p).1, .int .i64 ((prtP p).2 : Nat)]) ∧ Below X.heap.size X w' := pPrint p S _ _ X (hO.bel g1) (hE.bel g1) D1 T1 hz hf
 have c0 : X.cell? ⟨b, 0, none⟩ = some (.slice wo p.1.length wc) := by simp [World.cell?, qX]
 have c1 : X.cell? ⟨b, 1, none⟩ = some (.slice xo p.2.len xc) := by simp [World.cell?, qX]
 have gX : Hid (Below w.heap.size w X) := g1
 have hb' : Hid (w.heap.size = b) := hb
 have kS : ∀ c, ruP p = some c → ∀ (S' : Nat → Prop) wo' xo' wc' xc' V, SlDc V (.slice wo p.1.length wc) p.1 → SlS V S (.slice xo p.2.len xc) p.2 → SlDc V (.slice wo' p.1.length wc') p.1 → SlS V S' (.slice xo' p.2.len xc') p.2 → Calls Tryz.prog 11 #[.agg #[.slice wo p.1.length wc, .slice xo p.2.len xc], .agg #[.slice wo' p.1.length wc', .slice xo' p.2.len xc']] V fun e w' => e = .returned (.bool true) ∧ Below V.heap.size V w' := fun c h S' wo' xo' wc' xc' V d1 t1 d2 t2 => rSame p c h S S' wo wo' xo xo' wc wc' xc xc' V d1 t1 d2 t2
 obtain ⟨T, hT⟩ : ∃ T, (prtP p).1 = T := ⟨_, rfl⟩
 rw [hT] at hF kPr
 have kP2 : prsL T = .ok p → ∀ V, OpsAt V → EvAt V → Calls Tryz.prog 10 #[.string T] V fun e w' => ∃ wo wc xo xc, e = .returned (.tuple #[.agg #[.slice wo p.1.length wc, .slice xo p.2.len xc], .int .i64 0, .int .i64 0]) ∧ Below V.heap.size V w' ∧ SlDc w' (.slice wo p.1.length wc) p.1 ∧ SlS w' (Fr V.heap.size) (.slice xo p.2.len xc) p.2 := fun h V o v => pParse_ok h V o v
 obtain ⟨nd, hnd⟩ : ∃ n, p.1.length = n := ⟨_, rfl⟩
 obtain ⟨nb, hnb⟩ : ∃ n, p.2.len = n := ⟨_, rfl⟩
 rw [hnd, hnb] at kPr kS kP2
 rw [hnd] at c0 D1
 rw [hnb] at c1 T1
 rw [hnd, hnb] at hX ⊢
 have hX' : Hid (w.alloc (.cells #[.slice wo nd wc, .slice xo nb xc] 25) = X) := hX
 clear hX hb qX g1 d1 t1 hO hE hz hf hT hnd hnb
 go_enter Tryz.func3, Tryz.ntmps3
 go_upto_region 1 with fail
 rw [hX'.out]
 (try rw [hb'.out])
 clear hX' hb'
 go_upto_region 2 with (first
  | (go_at_call 8; (refine kPr.mono ?_); rintro e v2 ⟨rfl, g2⟩)
  | fail)
 have gg := pb_call gX.out g2
 replace c0 := pb_cell g2 c0
 replace c1 := pb_cell g2 c1
 replace D1 := D1.bel g2
 replace T1 := T1.kp (Below.kp g2 _)
 clear kPr g2
 rcases hF with ⟨hF, rfl⟩ | ⟨c, hc, hF, hT⟩
 ·have x1 : (((prtP p).2 : Nat) : Int) != 0 := by rw [bne_iff_ne]; omega
  generalize (prtP p).2 = E at *
  clear kS kP2 hF
  go_wp2_with (first
   | (go_at_call 9; (refine (live5_at hh.out gg).mono ?_); rintro e v4 ⟨rfl, g4⟩)
   | fail)
  go_ret
  exact ⟨rfl, pb_call gg g4⟩
 ·rw [hF]
  replace kP2 := kP2 hT
  replace kS := kS c hc
  clear hF hT hc
  go_upto_region 5 with (first
   | (go_at_call 10; (refine (kP2 _ (hh.out.1.bel gg) (hh.out.2.bel gg)).mono ?_); rintro e v4 ⟨wo', wc', xo', xc', rfl, g4, hD, hT⟩)
   | fail)
  replace D1 := D1.bel g4
  replace T1 := T1.kp (Below.kp g4 _)
  replace c0 := pb_cell g4 c0
  replace c1 := pb_cell g4 c1
  have gY := pb_new (Below.refl v4.heap.size v4) (.cells #[.slice wo' nd wc', .slice xo' nb xc'] 25)
  have qY := World.alloc_heap_new v4 (.cells #[.slice wo' nd wc', .slice xo' nb xc'] 25)
  have D2 := hD.bel gY
  have T2 := hT.kp (Below.kp gY _)
  replace gg := pb_call (pb_call gg g4) gY
  replace D1 := D1.bel gY
  replace T1 := T1.kp (Below.kp gY _)
  replace c0 := pb_cell gY c0
  replace c1 := pb_cell gY c1
  generalize Fr v2.heap.size = S2 at *
  obtain ⟨Y, hY⟩ : ∃ X, v4.alloc (.cells #[.slice wo' nd wc', .slice xo' nb xc'] 25) = X := ⟨_, rfl⟩
  obtain ⟨b', hb⟩ : ∃ b, v4.heap.size = b := ⟨_, rfl⟩
  rw [hY] at gY qY gg D1 T1 D2 T2 c0 c1 ⊢
  rw [hb] at qY
  (try rw [hb])
  have e0 : Y.cell? ⟨b', 0, none⟩ = some (.slice wo' nd wc') := by simp [World.cell?, qY]
  have e1 : Y.cell? ⟨b', 1, none⟩ = some (.slice xo' nb xc') := by simp [World.cell?, qY]
  clear hY hb g4 gY kP2 qY hD hT
  go_wp2_with (first
   | (go_at_call 9; (refine (live5_at hh.out gg).mono ?_); rintro e v5 ⟨rfl, g5⟩; replace c0 := pb_cell g5 c0; replace c1 := pb_cell g5 c1; replace e0 := pb_cell g5 e0; replace e1 := pb_cell g5 e1; replace gg := pb_call gg g5; replace D1 := D1.bel g5; replace T1 := T1.kp (Below.kp g5 _); replace D2 := D2.bel g5; replace T2 := T2.kp (Below.kp g5 _))
   | (go_at_call 11; (refine (kS S2 wo' xo' wc' xc' _ D1 T1 D2 T2).mono ?_); rintro e v6 ⟨rfl, g6⟩)
   | fail)
  go_ret
  exact ⟨rfl, pb_call gg g6⟩
end Go.Proofs.YtknoibocpbfmmaaGreatDoor



namespace Go.Proofs.YtknoibocpbfmmaaGreatDoor
open Go.RowKit Go.ChangeShapes Go.WideShapes Go.ChangeAt
set_option linter.unusedVariables false
theorem mapM_at {α β : Type} {f : α → Option β} : ∀ {l : List α} {xs : List β}, l.mapM f = some xs → ∀ (i : Nat) (a : α), l[i]? = some a → ∃ y, f a = some y ∧ xs[i]? = some y
 | [], xs, h, i, a, hi => by cases i <;> cases hi
 | b :: l, xs, h, i, a, hi => by
  rw [List.mapM_cons] at h
  simp only [Option.bind_eq_bind, Option.bind_eq_some_iff, Option.pure_def, Option.some.injEq] at h
  obtain ⟨y, h1, ys, h2, rfl⟩ := h
  cases i with
  | zero => cases hi; exact ⟨y, h1, rfl⟩
  | succ i => obtain ⟨z, h3, h4⟩ := mapM_at h2 i a (by simpa using hi); exact ⟨z, h3, by simpa using h4⟩
section
variable {H : Type} {enc : TypeId × Value → H} {w : World} {base : Nat} {sp : Nat → Bool} {held : Bool}
theorem td_array {t e : TypeId} {n fuel : Nat} {cs : List Value} {y : DataW H × List MemPlace} (ht : Tryz.prog.underlying t = some (.array n e)) (h : DataW.trod enc Tryz.prog w base sp held fuel t cs = some y) :
  cs.length = Tryz.prog.cellsOf t ∧ ∃ fuel' ds, y.1 = .agg ds ∧ ∀ i, i < n → ∃ z, DataW.trod enc Tryz.prog w base sp held fuel' e ((cs.drop (i * Tryz.prog.cellsOf e)).take (Tryz.prog.cellsOf e)) = some z ∧ ds[i]? = some z.1 := by
 cases fuel with
 | zero => simp [DataW.trod] at h
 | succ fuel =>
  simp only [DataW.trod, ht] at h
  split at h
  ·rename_i hl
   simp only [Option.map_eq_some_iff] at h
   obtain ⟨xs, h1, rfl⟩ := h
   refine ⟨hl, fuel, xs.map (·.1), rfl, fun i hi => ?_⟩
   obtain ⟨z, h2, h3⟩ := mapM_at h1 i i (by simp [hi])
   exact ⟨z, h2, by simp [h3]⟩
  ·cases h
theorem td_struct {t : TypeId} {fs : Array Go.Field} {fuel : Nat} {cs : List Value} {y : DataW H × List MemPlace} (ht : Tryz.prog.underlying t = some (.struct fs)) (h : DataW.trod enc Tryz.prog w base sp held fuel t cs = some y) :
  cs.length = Tryz.prog.cellsOf t ∧ ∃ fuel' ds, y.1 = .agg ds ∧ ∀ (i : Nat) (f : Go.Field), fs[i]? = some f → ∃ z, DataW.trod enc Tryz.prog w base sp held fuel' f.type ((cs.drop f.offset).take (Tryz.prog.cellsOf f.type)) = some z ∧ ds[i]? = some z.1 := by
 cases fuel with
 | zero => simp [DataW.trod] at h
 | succ fuel =>
  simp only [DataW.trod, ht] at h
  split at h
  ·rename_i hl
   simp only [Option.map_eq_some_iff] at h
   obtain ⟨xs, h1, rfl⟩ := h
   refine ⟨hl, fuel, xs.map (·.1), rfl, fun i f hi => ?_⟩
   obtain ⟨z, h2, h3⟩ := mapM_at h1 i f (by rw [← hi]; simp)
   exact ⟨z, h2, by simp [h3]⟩
  ·cases h
theorem td_iface {t : TypeId} {ms : Array (String × TypeId)} {fuel : Nat} {cs : List Value} {y : DataW H × List MemPlace} (ht : Tryz.prog.underlying t = some (.interface ms)) (h : DataW.trod enc Tryz.prog w base sp held fuel t cs = some y) : cs = [.nilIface] ∨ ∃ u v, cs = [.iface u v] := by
 cases fuel with
 | zero => simp [DataW.trod] at h
 | succ fuel =>
  unfold DataW.trod at h
  rw [ht] at h
  split at h
  all_goals first | (exact Or.inl rfl) | (exact Or.inr ⟨_, _, rfl⟩) | simp_all
end
theorem op_names : Tryz.prog.globalNamed "plumbline/fparse.operators" = some 0 := by kernel_rfl
theorem er_names : Tryz.prog.globalNamed "strconv.ErrRange" = some 3 := by kernel_rfl
theorem op_type : (Tryz.prog.globals[0]?).map (·.type) = some 146 := by kernel_rfl
theorem op_arr : Tryz.prog.underlying 146 = some (.array 12 133) := by kernel_rfl
theorem op_cell : Tryz.prog.cellsOf 133 = 3 := by kernel_rfl
theorem op_fs : (match Tryz.prog.underlying 133 with | some (.struct fs) => some (fs.map (fun f => (f.type, f.offset))) | _ => none) = some #[(83, 0), (9, 1), (3, 2)] := by kernel_rfl
theorem op_str : ∃ fs : Array Go.Field, Tryz.prog.underlying 133 = some (.struct fs) ∧ fs.map (fun f => (f.type, f.offset)) = #[(83, 0), (9, 1), (3, 2)] := by
 have h := op_fs
 split at h
 ·rename_i fs e
  exact ⟨fs, e, Option.some.inj h⟩
 ·cases h
theorem op_i1 : Tryz.prog.underlying 83 = some (.int .i64) ∧ Tryz.prog.cellsOf 83 = 1 := ⟨by kernel_rfl, by kernel_rfl⟩
theorem op_i2 : Tryz.prog.underlying 3 = some (.int .i64) ∧ Tryz.prog.cellsOf 3 = 1 := ⟨by kernel_rfl, by kernel_rfl⟩
theorem op_s : Tryz.prog.underlying 9 = some .string ∧ Tryz.prog.cellsOf 9 = 1 := ⟨by kernel_rfl, by kernel_rfl⟩
theorem op_fi {fs : Array Go.Field} {l : Array (Nat × Nat)} (hf : fs.map (fun f => (f.type, f.offset)) = l) (i : Nat) (t o : Nat) (h : l[i]? = some (t, o)) : ∃ f, fs[i]? = some f ∧ f.type = t ∧ f.offset = o := by
 rw [← hf, Array.getElem?_map] at h
 cases hf : fs[i]? with
 | none => rw [hf] at h; cases h
 | some f => rw [hf] at h; cases h; exact ⟨f, rfl, rfl, rfl⟩
def opD (x : Int × ByteArray × Int) : DataW Unit := .agg [.lit (.int .i64 x.1), .lit (.string x.2.1.data.toList), .lit (.int .i64 x.2.2)]
theorem op_laid : (Rows.laid_plumbline_fparse_operators : DataW Unit) = .agg (opT.map opD) := by kernel_rfl
theorem one_of {l : List Value} {k : Nat} {v : Value} (h : (l.drop k).take 1 = [v]) : l[k]? = some v := by
 cases hd : l.drop k with
 | nil => rw [hd] at h; cases h
 | cons x r =>
  rw [hd] at h
  have h' : [x] = [v] := h
  cases h'
  have := List.getElem?_drop (xs := l) (i := k) (j := 0)
  rw [hd] at this
  simpa using this.symm
theorem ba_of {s : ByteArray} {t : ByteArray} (h : s.data.toList = t.data.toList) : s = t := by
 apply ByteArray.ext
 exact Array.ext' h
theorem opC_at : ∀ (l : List (Int × ByteArray × Int)) (j : Nat) v, (opC l)[j]? = some v → ∃ i x, l[i]? = some x ∧ (j = i * 3 ∧ v = .int .i64 x.1 ∨ j = i * 3 + 1 ∧ v = .string x.2.1 ∨ j = i * 3 + 2 ∧ v = .int .i64 x.2.2)
 | [], j, v, h => by cases j <;> cases h
 | x :: l, 0, v, h => ⟨0, x, rfl, Or.inl ⟨rfl, by cases h; rfl⟩⟩
 | x :: l, 1, v, h => ⟨0, x, rfl, Or.inr (Or.inl ⟨rfl, by cases h; rfl⟩)⟩
 | x :: l, 2, v, h => ⟨0, x, rfl, Or.inr (Or.inr ⟨rfl, by cases h; rfl⟩)⟩
 | x :: l, j + 3, v, h => by
  obtain ⟨i, y, h1, h2⟩ := opC_at l j v h
  rcases h2 with ⟨rfl, rfl⟩ | ⟨rfl, rfl⟩ | ⟨rfl, rfl⟩
  ·exact ⟨i + 1, y, h1, Or.inl ⟨by omega, rfl⟩⟩
  ·exact ⟨i + 1, y, h1, Or.inr (Or.inl ⟨by omega, rfl⟩)⟩
  ·exact ⟨i + 1, y, h1, Or.inr (Or.inr ⟨by omega, rfl⟩)⟩
/-- The table of operators, out of the list. -/
theorem ops_of {W : World} (h : laidMet Tryz.prog [("plumbline/fparse.operators", Rows.laid_plumbline_fparse_operators)] W) : OpsAt W := by
 obtain ⟨ps, ⟨g, t, cs, fuel, p, q, hg, ht, hvar, hd, _, _⟩, _⟩ := h
 obtain rfl := Option.some.inj (op_names.symm.trans hg)
 obtain rfl := Option.some.inj (op_type.symm.trans ht)
 obtain ⟨hl, f1, ds, e1, hA⟩ := td_array op_arr hd
 rw [op_laid] at e1
 cases e1
 rw [op_cell] at hA
 have key : ∀ (i : Nat) x, opT[i]? = some x → cs.toList[i * 3]? = some (.int .i64 x.1) ∧ cs.toList[i * 3 + 1]? = some (.string x.2.1) ∧ cs.toList[i * 3 + 2]? = some (.int .i64 x.2.2) := fun i x hx => by
  have hi : i < 12 := (List.getElem?_eq_some_iff.1 hx).1
  obtain ⟨z, h1, h2⟩ := hA i hi
  rw [List.getElem?_map, hx] at h2
  have e2 : z.1 = opD x := (Option.some.inj h2).symm
  obtain ⟨fs, es, ef⟩ := op_str
  obtain ⟨_, f2, ds2, e3, hS⟩ := td_struct es h1
  rw [e2] at e3
  unfold opD at e3
  cases e3
  have dd : ∀ k, k < 3 → (((cs.toList.drop (i * 3)).take 3).drop k).take 1 = (cs.toList.drop (i * 3 + k)).take 1 := fun k hk => by
   rw [List.drop_take, List.drop_drop, List.take_take, Nat.min_eq_left (by omega)]
  obtain ⟨g0, u0, t0, o0⟩ := op_fi ef 0 _ _ rfl
  obtain ⟨g1, u1, t1, o1⟩ := op_fi ef 1 _ _ rfl
  obtain ⟨g2, u2, t2, o2⟩ := op_fi ef 2 _ _ rfl
  obtain ⟨z0, a0, b0⟩ := hS 0 g0 u0
  obtain ⟨z1, a1, b1⟩ := hS 1 g1 u1
  obtain ⟨z2, a2, b2⟩ := hS 2 g2 u2
  rw [t0, o0, op_i1.2, dd 0 (by decide)] at a0
  rw [t1, o1, op_s.2, dd 1 (by decide)] at a1
  rw [t2, o2, op_i2.2, dd 2 (by decide)] at a2
  obtain ⟨n0, c0, rfl, _⟩ := DataW.trod_int op_i1.1 a0
  obtain ⟨n1, c1, rfl, _⟩ := DataW.trod_string op_s.1 a1
  obtain ⟨n2, c2, rfl, _⟩ := DataW.trod_int op_i2.1 a2
  have q0 := one_of c0
  have q1 := one_of c1
  have q2 := one_of c2
  simp at b0 b1 b2
  rw [Nat.add_zero] at q0
  refine ⟨by rw [q0, b0], ?_, by rw [q2, b2]⟩
  rw [q1]
  rw [ba_of (s := n1) (t := x.2.1) (by simpa using b1.symm)]
 intro j v hj
 have hc : cs.toList[j]? = some v := by
  obtain ⟨i, x, hx, h⟩ := opC_at _ _ _ hj
  obtain ⟨k0, k1, k2⟩ := key i x hx
  rcases h with ⟨rfl, rfl⟩ | ⟨rfl, rfl⟩ | ⟨rfl, rfl⟩ <;> assumption
 rw [var?_cell op_names hvar j, ← Array.getElem?_toList]
 exact hc
theorem er_type : (Tryz.prog.globals[3]?).map (·.type) = some 102 := by kernel_rfl
theorem er_if : (match Tryz.prog.underlying 102 with | some (.interface _) => true | _ => false) = true := by kernel_rfl
/-- The range error, out of the list. -/
theorem ev_of {W : World} {d : DataW Unit} (h : laidMet Tryz.prog [("strconv.ErrRange", d)] W) : EvAt W := by
 obtain ⟨ps, ⟨g, t, cs, fuel, p, q, hg, ht, hvar, hd, _, _⟩, _⟩ := h
 obtain rfl := Option.some.inj (er_names.symm.trans hg)
 obtain rfl := Option.some.inj (er_type.symm.trans ht)
 have hi := er_if
 split at hi
 ·rename_i ms e
  have c := var?_cell er_names hvar 0
  rw [← Array.getElem?_toList] at c
  rcases td_iface e hd with h | ⟨u, v, h⟩
  ·rw [h] at c
   exact ⟨_, c, Or.inl rfl⟩
  ·rw [h] at c
   exact ⟨_, c, Or.inr ⟨u, v, rfl⟩⟩
 ·cases hi
end Go.Proofs.YtknoibocpbfmmaaGreatDoor



