/- plumblineref05: a right program is the same as itself, wherever both lie. -/
import Derived.Test.YtknoibocpbfmmaaGreatDoorPgL
import Derived.Test.YtknoibocpbfmmaaGreatDoorPgN
import Derived.Test.YtknoibocpbfmmaaGreatDoorPfC
namespace Go.Proofs.YtknoibocpbfmmaaGreatDoor
open Go.RowKit
set_option linter.unusedVariables false
set_option linter.unusedSimpArgs false
set_option maxRecDepth 100000 in
set_option maxHeartbeats 6400000 in
theorem rSame (p : Pg) (cc : Nat × Nat) (hp : ruP p = some cc) (S S' : Nat → Prop) (wo wo' xo xo' : Option Addr) (wc wc' xc xc' : Nat) (w : World) (d1 : SlDc w (.slice wo p.1.length wc) p.1) (t1 : SlS w S (.slice xo p.2.len xc) p.2) (d2 : SlDc w (.slice wo' p.1.length wc') p.1) (t2 : SlS w S' (.slice xo' p.2.len xc') p.2) :
    Calls Tryz.prog 11 #[.agg #[.slice wo p.1.length wc, .slice xo p.2.len xc], .agg #[.slice wo' p.1.length wc', .slice xo' p.2.len xc']] w fun e w' => e = .returned (.bool true) ∧ Below w.heap.size w w' := by
  obtain ⟨z1, _, z3, _⟩ := right_facts hp
  have zl := so_len_wt p.2
  have g1 := pb_new (Below.refl w.heap.size w) (.cells #[.slice wo p.1.length wc, .slice xo p.2.len xc] 25)
  obtain ⟨X, hX⟩ : ∃ X, w.alloc (.cells #[.slice wo p.1.length wc, .slice xo p.2.len xc] 25) = X := ⟨_, rfl⟩
  have qX : X.heap[w.heap.size]? = some (.cells #[.slice wo p.1.length wc, .slice xo p.2.len xc] 25 (0, 0)) := by rw [← hX]; exact World.alloc_heap_new _ _
  have sX : X.heap.size = w.heap.size + 1 := by rw [← hX]; simp [go_sem]
  rw [hX] at g1
  have g2 := pb_new (Below.refl X.heap.size X) (.cells #[.slice wo' p.1.length wc', .slice xo' p.2.len xc'] 25)
  obtain ⟨Y, hY⟩ : ∃ Y, X.alloc (.cells #[.slice wo' p.1.length wc', .slice xo' p.2.len xc'] 25) = Y := ⟨_, rfl⟩
  have qY : Y.heap[w.heap.size + 1]? = some (.cells #[.slice wo' p.1.length wc', .slice xo' p.2.len xc'] 25 (0, 0)) := by rw [← hY, ← sX]; exact World.alloc_heap_new _ _
  rw [hY] at g2
  obtain ⟨b2, hb2⟩ : ∃ b, w.heap.size = b := ⟨_, rfl⟩
  rw [hb2] at qX qY sX
  have qX2 : Y.heap[b2]? = some (.cells #[.slice wo p.1.length wc, .slice xo p.2.len xc] 25 (0, 0)) := (g2.block b2 (by omega)).trans qX
  have hall : ∀ V, Below Y.heap.size Y V → (V.cell? ⟨b2, 0, none⟩ = some (.slice wo p.1.length wc) ∧ V.cell? ⟨b2, 1, none⟩ = some (.slice xo p.2.len xc) ∧ V.cell? ⟨b2 + 1, 0, none⟩ = some (.slice wo' p.1.length wc') ∧ V.cell? ⟨b2 + 1, 1, none⟩ = some (.slice xo' p.2.len xc')) := fun V g => ⟨pb_cell g (by simp [World.cell?, qX2]), pb_cell g (by simp [World.cell?, qX2]), pb_cell g (by simp [World.cell?, qY]), pb_cell g (by simp [World.cell?, qY])⟩
  have D1 := (d1.bel g1).bel g2
  have D2 := (d2.bel g1).bel g2
  have T1 := (t1.kp (Below.kp g1 _)).kp (Below.kp g2 _)
  have T2 := (t2.kp (Below.kp g1 _)).kp (Below.kp g2 _)
  have kA := fun V (g : Below Y.heap.size Y V) => rRight p cc hp S wo xo wc xc V (D1.bel g) (T1.kp (Below.kp g _))
  have kB := fun V (g : Below Y.heap.size Y V) => rRight p cc hp S' wo' xo' wc' xc' V (D2.bel g) (T2.kp (Below.kp g _))
  have kC := fun V (g : Below Y.heap.size Y V) => smS p.2 (sm_of p.2 (by omega)) (by omega) S S' xo xo' xc xc' V (T1.kp (Below.kp g _)) (T2.kp (Below.kp g _))
  obtain ⟨pp, qq, e1, hD0⟩ := D1
  obtain ⟨rfl, _, rfl⟩ := Value.slice.inj e1
  obtain ⟨pp, qq, e2, hD1⟩ := D2
  obtain ⟨rfl, _, rfl⟩ := Value.slice.inj e2
  clear e1 e2
  obtain ⟨m, hm⟩ : ∃ m, p.1.length = m := ⟨_, rfl⟩
  have hm' : Hid (p.1.length = m) := hm
  have hD : Hid (p.1 = [] ∨ ∃ c u, wo = some ⟨c, u, none⟩ ∧ ∀ j d, p.1[j]? = some d → Y.cell? ⟨c, u + j * 3, none⟩ = some (.string d.1) ∧ Y.cell? ⟨c, u + j * 3 + 1, none⟩ = some (.int .i64 d.2.1) ∧ Y.cell? ⟨c, u + j * 3 + 2, none⟩ = some (.int .i64 d.2.2)) := hD0
  have hE : Hid (p.1 = [] ∨ ∃ c u, wo' = some ⟨c, u, none⟩ ∧ ∀ j d, p.1[j]? = some d → Y.cell? ⟨c, u + j * 3, none⟩ = some (.string d.1) ∧ Y.cell? ⟨c, u + j * 3 + 1, none⟩ = some (.int .i64 d.2.1) ∧ Y.cell? ⟨c, u + j * 3 + 2, none⟩ = some (.int .i64 d.2.2)) := hD1
  rw [hm] at hall hX hY kA kB z1
  rw [hm]
  have hl' : Hid (m ≤ 24) := z1
  have n1 : ¬ (m : Int) ≠ (m : Int) := by simp
  have gY : Hid (Below w.heap.size w Y) := pb_call g1 g2
  have hX' : Hid (w.alloc (.cells #[.slice wo m wc, .slice xo p.2.len xc] 25) = X) := hX
  have hY' : Hid (X.alloc (.cells #[.slice wo' m wc', .slice xo' p.2.len xc'] 25) = Y) := hY
  have hb2' : Hid (w.heap.size = b2 ∧ X.heap.size = b2 + 1) := ⟨hb2, sX⟩
  clear hX hY hb2 sX qX qX2 qY g1 g2 d1 d2 t1 t2 T1 T2 hD0 hD1 z1 z3 zl hm
  generalize p.2.len = n at *
  have gg := Below.refl Y.heap.size Y
  obtain ⟨f0, f1, h0, h1⟩ := hall _ gg
  go_enter Tryz.func11, Tryz.ntmps11
  go_upto_region 1 with fail
  rw [hX'.out]
  rw [hY'.out]
  (try rw [hb2'.out.1])
  (try rw [hb2'.out.2])
  clear hX' hY' hb2'
  go_upto_region 4 with (first
    | (go_at_call 13; (first | (refine (kA _ gg).mono ?_; clear kA) | (refine (kB _ gg).mono ?_; clear kB)); rintro e v1 ⟨rfl, g3⟩; replace gg := pb_call gg g3; clear f0 f1 h0 h1 g3; obtain ⟨f0, f1, h0, h1⟩ := hall _ gg)
    | fail)
  go_loopw [5] (fun i wr => ∃ (j : Nat) (V : World), i = .int .i64 j ∧ V = wr ∧ Hid (Below Y.heap.size Y V) ∧ j ≤ m) (fun i _ => m - (intOf i).toNat)
  case atStart => exact ⟨0, _, rfl, rfl, gg, by omega⟩
  case round =>
    clear f0 f1 h0 h1 gg n1
    obtain ⟨j, V, rfl, e, gV, hj⟩ := hrel
    subst e
    obtain ⟨f0, f1, h0, h1⟩ := hall _ gV.out
    by_cases cj : j < m
    · have cj' : (j : Int) < (m : Int) := by omega
      obtain ⟨d, hdj⟩ : ∃ d, p.1[j]? = some d := ⟨_, List.getElem?_eq_getElem (by rw [hm'.out]; exact cj)⟩
      rcases hD.out with k0 | ⟨c, u, rfl, hc⟩
      · exfalso; have := hm'.out; rw [k0] at this; simp at this; omega
      rcases hE.out with k0 | ⟨c', u', rfl, hc'⟩
      · exfalso; have := hm'.out; rw [k0] at this; simp at this; omega
      obtain ⟨y0, y1, y2⟩ := hc j d hdj
      have k0 := pb_cell gV.out y0
      have k1 := pb_cell gV.out y1
      have k2 := pb_cell gV.out y2
      obtain ⟨y0, y1, y2⟩ := hc' j d hdj
      have l0 := pb_cell gV.out y0
      have l1 := pb_cell gV.out y1
      have l2 := pb_cell gV.out y2
      have ix := dc_ix c u m wc j cj
      have iy := dc_ix c' u' m wc' j cj
      have m40 := hl'.out
      have wj : IntKind.i64.wrap ((j : Int) + 1) = ((j + 1 : Nat) : Int) := by rw [IntKind.wrap_i64]; omega
      obtain ⟨dN, dT, dL⟩ := d
      simp only at k0 k1 k2 l0 l1 l2
      have hq := neq_dec dN dT dL dN dT dL
      rw [decide_eq_true rfl] at hq
      generalize u + j * 3 = o3 at *
      generalize u' + j * 3 = o4 at *
      have gV' : Hid (Below Y.heap.size Y V) := gV
      clear y0 y1 y2 hc hc' hdj m40 kC hall hD hE gV
      go_upto_region 6 with fail
      go_quiet (fail)
      go_wp2_with fail
      exact ⟨⟨j + 1, _, by go_num, rfl, ⟨gV'.out.os, gV'.out.tape, gV'.out.output, gV'.out.size, gV'.out.block⟩, by omega⟩, by simp [intOf]; omega⟩
    · obtain rfl : j = m := by omega
      have nn : ¬ ((j : Int) < (j : Int)) := by omega
      have gg := gV.out
      go_wp2_with (first
        | (go_at_call 22; (refine (kC _ gg).mono ?_); rintro e v1 ⟨rfl, g3⟩)
        | fail)
      go_ret
      exact ⟨rfl, pb_call gY.out (pb_call gg g3)⟩
end Go.Proofs.YtknoibocpbfmmaaGreatDoor

