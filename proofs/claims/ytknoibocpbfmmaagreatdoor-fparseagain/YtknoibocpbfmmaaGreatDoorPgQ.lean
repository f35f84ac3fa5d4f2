/- What is parsed is right, printed, and parsed again as the same: the walk of FparseAgain. -/
import Derived.Test.YtknoibocpbfmmaaGreatDoorPgO
import Derived.Test.YtknoibocpbfmmaaGreatDoorPgM
import Derived.Test.YtknoibocpbfmmaaGreatDoorPeL
namespace Go.Proofs.YtknoibocpbfmmaaGreatDoor
open Go.RowKit
set_option linter.unusedVariables false
set_option linter.unusedSimpArgs false
set_option maxRecDepth 100000 in
set_option maxHeartbeats 6400000 in
theorem law_again (s : ByteArray) (w : World) (hO : OpsAt w) (hE : EvAt w) : Calls Tryz.prog 4 #[.string s] w fun e w' => e = .returned (.bool true) ∧ Below w.heap.size w w' := by
  have hh : Hid (OpsAt w ∧ EvAt w) := ⟨hO, hE⟩
  cases hp : prsL s with
  | error x =>
    have kP := pParse_no hp w hO hE
    have x0 := prs_err hp
    obtain ⟨E, A⟩ := x
    have x1 : (((E : Nat) : Int) != 0) = true := by
      have : E ≠ 0 := x0
      rw [bne_iff_ne]; omega
    have kN := fun V => none5 none 0 0 none 0 0 V
    simp only [decide_true, Bool.and_self] at kN
    clear hp x0 hO hE
    go_enter Tryz.func4, Tryz.ntmps4
    go_upto_region 2 with (first
      | (go_at_call 10; (refine kP.mono ?_); rintro e v1 ⟨rfl, g1⟩)
      | fail)
    have gX := pb_new (Below.refl v1.heap.size v1) (.cells #[.slice none 0 0, .slice none 0 0] 25)
    have qX := World.alloc_heap_new v1 (.cells #[.slice none 0 0, .slice none 0 0] 25)
    have gg := pb_call g1 gX
    obtain ⟨X, hX⟩ : ∃ X, v1.alloc (.cells #[.slice none 0 0, .slice none 0 0] 25) = X := ⟨_, rfl⟩
    obtain ⟨b, hb⟩ : ∃ b, v1.heap.size = b := ⟨_, rfl⟩
    rw [hX] at gX qX gg ⊢
    rw [hb] at qX
    (try rw [hb])
    have c0 : X.cell? ⟨b, 0, none⟩ = some (.slice none 0 0) := by simp [World.cell?, qX]
    have c1 : X.cell? ⟨b, 1, none⟩ = some (.slice none 0 0) := by simp [World.cell?, qX]
    clear hX hb g1 gX kP qX
    go_wp2_with (first
      | (go_at_call 9; (refine (live5_at hh.out gg).mono ?_); rintro e v3 ⟨rfl, g3⟩; replace c0 := pb_cell g3 c0; replace c1 := pb_cell g3 c1; replace gg := pb_call gg g3)
      | (go_at_call 12; (refine (kN _).mono ?_); rintro e v4 ⟨rfl, g4⟩)
      | fail)
    go_ret
    exact ⟨rfl, pb_call gg g4⟩
  | ok p =>
    have kP := pParse_ok hp w hO hE
    have sz := prs_sz hp
    obtain ⟨cc, hcc⟩ : ∃ cc, ruP p = some cc := Option.isSome_iff_exists.1 sz.2.2.2
    have hF := prt_right hcc
    have kR : ∀ (S : Nat → Prop) wo wc xo xc V, SlDc V (.slice wo p.1.length wc) p.1 → SlS V S (.slice xo p.2.len xc) p.2 → Calls Tryz.prog 13 #[.agg #[.slice wo p.1.length wc, .slice xo p.2.len xc]] V fun e w' => e = .returned (.bool true) ∧ Below V.heap.size V w' := fun S wo wc xo xc V d t => rRight p cc hcc S wo xo wc xc V d t
    have kPr : ∀ (S : Nat → Prop) wo wc xo xc V, OpsAt V → EvAt V → SlDc V (.slice wo p.1.length wc) p.1 → SlS V S (.slice xo p.2.len xc) p.2 → Calls Tryz.prog 8 #[.agg #[.slice wo p.1.length wc, .slice xo p.2.len xc]] V fun e w' => e = .returned (.tuple #[.string (prtP p).1, .int .i64 ((prtP p).2 : Nat)]) ∧ Below V.heap.size V w' := fun S wo wc xo xc V o v d t => pPrint p S _ _ V o v d t sz.2.1 sz.2.2.1
    have kS : ∀ (S S' : Nat → Prop) wo wo' xo xo' wc wc' xc xc' V, SlDc V (.slice wo p.1.length wc) p.1 → SlS V S (.slice xo p.2.len xc) p.2 → SlDc V (.slice wo' p.1.length wc') p.1 → SlS V S' (.slice xo' p.2.len xc') p.2 → Calls Tryz.prog 11 #[.agg #[.slice wo p.1.length wc, .slice xo p.2.len xc], .agg #[.slice wo' p.1.length wc', .slice xo' p.2.len xc']] V fun e w' => e = .returned (.bool true) ∧ Below V.heap.size V w' := fun S S' wo wo' xo xo' wc wc' xc xc' V d1 t1 d2 t2 => rSame p cc hcc S S' wo wo' xo xo' wc wc' xc xc' V d1 t1 d2 t2
    obtain ⟨T, hT⟩ : ∃ T, (prtP p).1 = T := ⟨_, rfl⟩
    rw [hT] at hF kPr
    have kP2 : prsL T = .ok p → ∀ V, OpsAt V → EvAt V → Calls Tryz.prog 10 #[.string T] V fun e w' => ∃ wo wc xo xc, e = .returned (.tuple #[.agg #[.slice wo p.1.length wc, .slice xo p.2.len xc], .int .i64 0, .int .i64 0]) ∧ Below V.heap.size V w' ∧ SlDc w' (.slice wo p.1.length wc) p.1 ∧ SlS w' (Fr V.heap.size) (.slice xo p.2.len xc) p.2 := fun h V o v => pParse_ok h V o v
    obtain ⟨nd, hnd⟩ : ∃ n, p.1.length = n := ⟨_, rfl⟩
    obtain ⟨nb, hnb⟩ : ∃ n, p.2.len = n := ⟨_, rfl⟩
    rw [hnd, hnb] at kP kR kPr kS kP2
    clear hp hO hE sz hcc hT hnd hnb
    go_enter Tryz.func4, Tryz.ntmps4
    go_upto_region 2 with (first
      | (go_at_call 10; (refine kP.mono ?_); rintro e v1 ⟨wo, wc, xo, xc, rfl, g1, hD, hT⟩)
      | fail)
    have gX := pb_new (Below.refl v1.heap.size v1) (.cells #[.slice wo nd wc, .slice xo nb xc] 25)
    have qX := World.alloc_heap_new v1 (.cells #[.slice wo nd wc, .slice xo nb xc] 25)
    have gg := pb_call g1 gX
    have D1 := hD.bel gX
    have T1 := hT.kp (Below.kp gX _)
    obtain ⟨X, hX⟩ : ∃ X, v1.alloc (.cells #[.slice wo nd wc, .slice xo nb xc] 25) = X := ⟨_, rfl⟩
    obtain ⟨b, hb⟩ : ∃ b, v1.heap.size = b := ⟨_, rfl⟩
    rw [hX] at gX qX gg D1 T1 ⊢
    rw [hb] at qX
    (try rw [hb])
    have c0 : X.cell? ⟨b, 0, none⟩ = some (.slice wo nd wc) := by simp [World.cell?, qX]
    have c1 : X.cell? ⟨b, 1, none⟩ = some (.slice xo nb xc) := by simp [World.cell?, qX]
    clear hX hb g1 gX kP qX hD hT
    generalize Fr w.heap.size = S1 at *
    go_upto_region 5 with (first
      | (go_at_call 8; (refine (kPr S1 wo wc xo xc _ (hh.out.1.bel gg) (hh.out.2.bel gg) D1 T1).mono ?_); rintro e v2 ⟨rfl, g2⟩; replace c0 := pb_cell g2 c0; replace c1 := pb_cell g2 c1; replace gg := pb_call gg g2; replace D1 := D1.bel g2; replace T1 := T1.kp (Below.kp g2 _))
      | fail)
    clear kPr g2
    go_upto_region 7 with (first
      | (go_at_call 13; (refine (kR S1 wo wc xo xc _ D1 T1).mono ?_); rintro e v3 ⟨rfl, g3⟩; replace c0 := pb_cell g3 c0; replace c1 := pb_cell g3 c1; replace gg := pb_call gg g3; replace D1 := D1.bel g3; replace T1 := T1.kp (Below.kp g3 _))
      | fail)
    clear kR g3
    rcases hF with hF | ⟨hF, hT⟩
    · have k5 : (((5 : Nat) : Int) != 0) = true := by decide
      rw [hF]
      clear kS kP2
      go_wp2_with (first
        | (go_at_call 9; (refine (live5_at hh.out gg).mono ?_); rintro e v4 ⟨rfl, g4⟩)
        | fail)
      go_ret
      exact ⟨rfl, pb_call gg g4⟩
    · rw [hF]
      replace kP2 := kP2 hT
      clear hF hT
      go_upto_region 10 with (first
        | (go_at_call 10; (refine (kP2 _ (hh.out.1.bel gg) (hh.out.2.bel gg)).mono ?_); rintro e v4 ⟨wo', wc', xo', xc', rfl, g4, hD, hT⟩)
        | fail)
      replace D1 := D1.bel g4
      replace T1 := T1.kp (Below.kp g4 _)
      replace c0 := pb_cell g4 c0
      replace c1 := pb_cell g4 c1
      have gY := pb_new (Below.refl v4.heap.size v4) (.cells #[.slice wo' nd wc', .slice xo' nb xc'] 25)
      have qY := World.alloc_heap_new v4 (.cells #[.slice wo' nd wc', .slice xo' nb xc'] 25)
      have D2 := hD.bel gY
      have T2 := hT.kp (Below.kp gY _)
      replace gg := pb_call (pb_call gg g4) gY
      replace D1 := D1.bel gY
      replace T1 := T1.kp (Below.kp gY _)
      replace c0 := pb_cell gY c0
      replace c1 := pb_cell gY c1
      generalize Fr v3.heap.size = S2 at *
      obtain ⟨Y, hY⟩ : ∃ X, v4.alloc (.cells #[.slice wo' nd wc', .slice xo' nb xc'] 25) = X := ⟨_, rfl⟩
      obtain ⟨b', hb⟩ : ∃ b, v4.heap.size = b := ⟨_, rfl⟩
      rw [hY] at gY qY gg D1 T1 D2 T2 c0 c1 ⊢
      rw [hb] at qY
      (try rw [hb])
      have e0 : Y.cell? ⟨b', 0, none⟩ = some (.slice wo' nd wc') := by simp [World.cell?, qY]
      have e1 : Y.cell? ⟨b', 1, none⟩ = some (.slice xo' nb xc') := by simp [World.cell?, qY]
      clear hY hb g4 gY kP2 qY hD hT
      go_wp2_with (first
        | (go_at_call 9; (refine (live5_at hh.out gg).mono ?_); rintro e v5 ⟨rfl, g5⟩; replace c0 := pb_cell g5 c0; replace c1 := pb_cell g5 c1; replace e0 := pb_cell g5 e0; replace e1 := pb_cell g5 e1; replace gg := pb_call gg g5; replace D1 := D1.bel g5; replace T1 := T1.kp (Below.kp g5 _); replace D2 := D2.bel g5; replace T2 := T2.kp (Below.kp g5 _))
        | (go_at_call 11; (refine (kS S1 S2 wo wo' xo xo' wc wc' xc xc' _ D1 T1 D2 T2).mono ?_); rintro e v6 ⟨rfl, g6⟩)
        | fail)
      go_ret
      exact ⟨rfl, pb_call gg g6⟩
end Go.Proofs.YtknoibocpbfmmaaGreatDoor

