/- A program that is printed is parsed as the program: the walk of FparseBack. -/
import Derived.Test.YtknoibocpbfmmaaGreatDoorPgO
import Derived.Test.YtknoibocpbfmmaaGreatDoorPgM
import Derived.Test.YtknoibocpbfmmaaGreatDoorPeL
namespace Go.Proofs.YtknoibocpbfmmaaGreatDoor
open Go.RowKit
set_option linter.unusedVariables false
set_option linter.unusedSimpArgs false
/-- What Print tells. -/
theorem prt_two (p : Pg) : (prtP p).2 ≠ 0 ∧ (prtP p).1 = tx0 ∨ ∃ c, ruP p = some c ∧ (prtP p).2 = 0 ∧ prsL (prtP p).1 = .ok p := by
  cases h : ruP p with
  | none =>
    refine Or.inl ?_
    unfold prtP
    rw [h]
    exact ⟨(show (4 : Nat) ≠ 0 by decide), rfl⟩
  | some c =>
    have k := prt_right h
    unfold prtP at k ⊢
    rw [h] at k ⊢
    simp only at k ⊢
    cases hq : prsL ⟨(pgL p).toArray⟩ with
    | error x => exact Or.inl ⟨prs_err hq, rfl⟩
    | ok q =>
      rw [hq] at k
      rcases k with k | k
      · cases k
      · exact Or.inr ⟨c, rfl, k⟩
set_option maxRecDepth 100000 in
set_option maxHeartbeats 6400000 in
theorem law_back (p : Pg) (S : Nat → Prop) (wo xo : Option Addr) (wc xc : Nat) (w : World) (hO : OpsAt w) (hE : EvAt w) (d1 : SlDc w (.slice wo p.1.length wc) p.1) (t1 : SlS w S (.slice xo p.2.len xc) p.2) (hz : ∀ d ∈ p.1, d.1.size ≤ 9223372036854775807) (hf : p.2.szs) :
    Calls Tryz.prog 3 #[.agg #[.slice wo p.1.length wc, .slice xo p.2.len xc]] w fun e w' => e = .returned (.bool true) ∧ Below w.heap.size w w' := by
  have hh : Hid (OpsAt w ∧ EvAt w) := ⟨hO, hE⟩
  have hF := prt_two p
  have g1 := pb_new (Below.refl w.heap.size w) (.cells #[.slice wo p.1.length wc, .slice xo p.2.len xc] 25)
  obtain ⟨X, hX⟩ : ∃ X, w.alloc (.cells #[.slice wo p.1.length wc, .slice xo p.2.len xc] 25) = X := ⟨_, rfl⟩
  have qX : X.heap[w.heap.size]? = some (.cells #[.slice wo p.1.length wc, .slice xo p.2.len xc] 25 (0, 0)) := by rw [← hX]; exact World.alloc_heap_new _ _
  rw [hX] at g1
  obtain ⟨b, hb⟩ : ∃ b, w.heap.size = b := ⟨_, rfl⟩
  rw [hb] at qX
  have D1 := d1.bel g1
  have T1 := t1.kp (Below.kp g1 _)
  have kPr : Calls Tryz.prog 8 #[.agg #[.slice wo p.1.length wc, .slice xo p.2.len xc]] X fun e w' => e = .returned (.tuple #[.string (prtP p).1, .int .i64 ((prtP p).2 : Nat)]) ∧ Below X.heap.size X w' := pPrint p S _ _ X (hO.bel g1) (hE.bel g1) D1 T1 hz hf
  have c0 : X.cell? ⟨b, 0, none⟩ = some (.slice wo p.1.length wc) := by simp [World.cell?, qX]
  have c1 : X.cell? ⟨b, 1, none⟩ = some (.slice xo p.2.len xc) := by simp [World.cell?, qX]
  have gX : Hid (Below w.heap.size w X) := g1
  have hb' : Hid (w.heap.size = b) := hb
  have kS : ∀ c, ruP p = some c → ∀ (S' : Nat → Prop) wo' xo' wc' xc' V, SlDc V (.slice wo p.1.length wc) p.1 → SlS V S (.slice xo p.2.len xc) p.2 → SlDc V (.slice wo' p.1.length wc') p.1 → SlS V S' (.slice xo' p.2.len xc') p.2 → Calls Tryz.prog 11 #[.agg #[.slice wo p.1.length wc, .slice xo p.2.len xc], .agg #[.slice wo' p.1.length wc', .slice xo' p.2.len xc']] V fun e w' => e = .returned (.bool true) ∧ Below V.heap.size V w' := fun c h S' wo' xo' wc' xc' V d1 t1 d2 t2 => rSame p c h S S' wo wo' xo xo' wc wc' xc xc' V d1 t1 d2 t2
  obtain ⟨T, hT⟩ : ∃ T, (prtP p).1 = T := ⟨_, rfl⟩
  rw [hT] at hF kPr
  have kP2 : prsL T = .ok p → ∀ V, OpsAt V → EvAt V → Calls Tryz.prog 10 #[.string T] V fun e w' => ∃ wo wc xo xc, e = .returned (.tuple #[.agg #[.slice wo p.1.length wc, .slice xo p.2.len xc], .int .i64 0, .int .i64 0]) ∧ Below V.heap.size V w' ∧ SlDc w' (.slice wo p.1.length wc) p.1 ∧ SlS w' (Fr V.heap.size) (.slice xo p.2.len xc) p.2 := fun h V o v => pParse_ok h V o v
  obtain ⟨nd, hnd⟩ : ∃ n, p.1.length = n := ⟨_, rfl⟩
  obtain ⟨nb, hnb⟩ : ∃ n, p.2.len = n := ⟨_, rfl⟩
  rw [hnd, hnb] at kPr kS kP2
  rw [hnd] at c0 D1
  rw [hnb] at c1 T1
  rw [hnd, hnb] at hX ⊢
  have hX' : Hid (w.alloc (.cells #[.slice wo nd wc, .slice xo nb xc] 25) = X) := hX
  clear hX hb qX g1 d1 t1 hO hE hz hf hT hnd hnb
  go_enter Tryz.func3, Tryz.ntmps3
  go_upto_region 1 with fail
  rw [hX'.out]
  (try rw [hb'.out])
  clear hX' hb'
  go_upto_region 2 with (first
    | (go_at_call 8; (refine kPr.mono ?_); rintro e v2 ⟨rfl, g2⟩)
    | fail)
  have gg := pb_call gX.out g2
  replace c0 := pb_cell g2 c0
  replace c1 := pb_cell g2 c1
  replace D1 := D1.bel g2
  replace T1 := T1.kp (Below.kp g2 _)
  clear kPr g2
  rcases hF with ⟨hF, rfl⟩ | ⟨c, hc, hF, hT⟩
  · have x1 : (((prtP p).2 : Nat) : Int) != 0 := by rw [bne_iff_ne]; omega
    generalize (prtP p).2 = E at *
    clear kS kP2 hF
    go_wp2_with (first
      | (go_at_call 9; (refine (live5_at hh.out gg).mono ?_); rintro e v4 ⟨rfl, g4⟩)
      | fail)
    go_ret
    exact ⟨rfl, pb_call gg g4⟩
  · rw [hF]
    replace kP2 := kP2 hT
    replace kS := kS c hc
    clear hF hT hc
    go_upto_region 5 with (first
      | (go_at_call 10; (refine (kP2 _ (hh.out.1.bel gg) (hh.out.2.bel gg)).mono ?_); rintro e v4 ⟨wo', wc', xo', xc', rfl, g4, hD, hT⟩)
      | fail)
    replace D1 := D1.bel g4
    replace T1 := T1.kp (Below.kp g4 _)
    replace c0 := pb_cell g4 c0
    replace c1 := pb_cell g4 c1
    have gY := pb_new (Below.refl v4.heap.size v4) (.cells #[.slice wo' nd wc', .slice xo' nb xc'] 25)
    have qY := World.alloc_heap_new v4 (.cells #[.slice wo' nd wc', .slice xo' nb xc'] 25)
    have D2 := hD.bel gY
    have T2 := hT.kp (Below.kp gY _)
    replace gg := pb_call (pb_call gg g4) gY
    replace D1 := D1.bel gY
    replace T1 := T1.kp (Below.kp gY _)
    replace c0 := pb_cell gY c0
    replace c1 := pb_cell gY c1
    generalize Fr v2.heap.size = S2 at *
    obtain ⟨Y, hY⟩ : ∃ X, v4.alloc (.cells #[.slice wo' nd wc', .slice xo' nb xc'] 25) = X := ⟨_, rfl⟩
    obtain ⟨b', hb⟩ : ∃ b, v4.heap.size = b := ⟨_, rfl⟩
    rw [hY] at gY qY gg D1 T1 D2 T2 c0 c1 ⊢
    rw [hb] at qY
    (try rw [hb])
    have e0 : Y.cell? ⟨b', 0, none⟩ = some (.slice wo' nd wc') := by simp [World.cell?, qY]
    have e1 : Y.cell? ⟨b', 1, none⟩ = some (.slice xo' nb xc') := by simp [World.cell?, qY]
    clear hY hb g4 gY kP2 qY hD hT
    go_wp2_with (first
      | (go_at_call 9; (refine (live5_at hh.out gg).mono ?_); rintro e v5 ⟨rfl, g5⟩; replace c0 := pb_cell g5 c0; replace c1 := pb_cell g5 c1; replace e0 := pb_cell g5 e0; replace e1 := pb_cell g5 e1; replace gg := pb_call gg g5; replace D1 := D1.bel g5; replace T1 := T1.kp (Below.kp g5 _); replace D2 := D2.bel g5; replace T2 := T2.kp (Below.kp g5 _))
      | (go_at_call 11; (refine (kS S2 wo' xo' wc' xc' _ D1 T1 D2 T2).mono ?_); rintro e v6 ⟨rfl, g6⟩)
      | fail)
    go_ret
    exact ⟨rfl, pb_call gg g6⟩
end Go.Proofs.YtknoibocpbfmmaaGreatDoor

