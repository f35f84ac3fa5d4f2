/- What plumblinelaw05's live asks. -/
import Derived.Test.YtknoibocpbfmmaaGreatDoorPeJ
namespace Go.Proofs.YtknoibocpbfmmaaGreatDoor
open Go.RowKit
set_option linter.unusedVariables false
set_option linter.unusedSimpArgs false
theorem EvAt.bel {w V : World} (h : EvAt w) (g : Below w.heap.size w V) : EvAt V := by
  obtain ⟨ev, h1, h2⟩ := h
  exact ⟨ev, pb_cell g h1, h2⟩
/-- What Parse tells of a text that is a program. -/
theorem pParse_ok {s : ByteArray} {p : Pg} (h : prsL s = .ok p) (w : World) (hO : OpsAt w) (hE : EvAt w) : Calls Tryz.prog 10 #[.string s] w fun e w' => ∃ wo wc xo xc, e = .returned (.tuple #[.agg #[.slice wo p.1.length wc, .slice xo p.2.len xc], .int .i64 0, .int .i64 0]) ∧ Below w.heap.size w w' ∧ SlDc w' (.slice wo p.1.length wc) p.1 ∧ SlS w' (Fr w.heap.size) (.slice xo p.2.len xc) p.2 := by
  have k := pParse s w hO hE
  rw [h] at k
  refine k.mono ?_
  rintro e w' ⟨g, wo, wc, xo, xc, rfl, h1, h2, _⟩
  exact ⟨wo, wc, xo, xc, rfl, g, h1, h2⟩
theorem pParse_no {s : ByteArray} {x : Nat × Nat} (h : prsL s = .error x) (w : World) (hO : OpsAt w) (hE : EvAt w) : Calls Tryz.prog 10 #[.string s] w fun e w' => e = .returned (.tuple #[.agg #[.slice none 0 0, .slice none 0 0], .int .i64 x.1, .int .i64 x.2]) ∧ Below w.heap.size w w' := by
  have k := pParse s w hO hE
  rw [h] at k
  refine k.mono ?_
  rintro e w' ⟨g, rfl⟩
  exact ⟨rfl, g⟩
theorem prt_live : prtP pL = (tLiv2, 0) := by
  have e : (⟨(pgL pL).toArray⟩ : ByteArray) = tLiv2 := by rw [pg_live]
  unfold prtP
  rw [ru_live]
  simp only
  rw [e, prs_liv2]
theorem ms_live : msP (pL.1, pL.2) = (2, true) := by unfold msP; rw [show (pL.1, pL.2) = pL from rfl, ru_live]; rfl
set_option maxRecDepth 100000 in
set_option maxHeartbeats 3200000 in
theorem live5 (w : World) (hO : OpsAt w) (hE : EvAt w) : Calls Tryz.prog 9 #[] w fun e w' => e = .returned (.bool true) ∧ Below w.heap.size w w' := by
  have kP := pParse_ok prs_live w hO hE
  have sz := prs_sz prs_live
  have hO' : Hid (OpsAt w ∧ EvAt w) := ⟨hO, hE⟩
  have kM := fun V dv bv (h1 : OpsAt V) h3 h4 => ppoints pL.1 pL.2 (Fr w.heap.size) dv bv V h1 (ops_lt h1) h3 h4 sz.2.1 sz.2.2.1
  have kT := fun V dv bv h1 h2 h3 h4 => pPrint pL (Fr w.heap.size) dv bv V h1 h2 h3 h4 sz.2.1 sz.2.2.1
  rw [ms_live] at kM
  rw [prt_live] at kT
  rw [show pL.1.length = 1 from rfl, show pL.2.len = 2 from rfl] at kP
  have es : ((⟨#[100, 111, 117, 98, 108, 101, 32, 120, 59, 10, 114, 101, 97, 100, 32, 120, 32, 105, 110, 32, 91, 48, 46, 48, 44, 32, 49, 46, 48, 93, 59, 10, 120, 32, 61, 32, 120, 32, 42, 32, 120, 32, 45, 32, 49, 46, 48, 59, 10]⟩ : ByteArray).toList == (tLiv2 : ByteArray).toList) = true := by rw [beq_iff_eq]
  clear hO hE sz
  go_enter Tryz.func9, Tryz.ntmps9
  go_upto_region 2 with (first
    | (go_at_call 10; (refine kP.mono ?_); rintro e v1 ⟨wo, wc, xo, xc, rfl, g1, hD, hT⟩)
    | fail)
  have gX := pb_new (Below.refl v1.heap.size v1) (.cells #[.slice wo 1 wc, .slice xo 2 xc] 25)
  have qX := World.alloc_heap_new v1 (.cells #[.slice wo 1 wc, .slice xo 2 xc] 25)
  have hD2 := hD.bel gX
  have hT2 := hT.kp (Below.kp gX _)
  have gg := pb_call g1 gX
  obtain ⟨X, hX⟩ : ∃ X, v1.alloc (.cells #[.slice wo 1 wc, .slice xo 2 xc] 25) = X := ⟨_, rfl⟩
  obtain ⟨b, hb⟩ : ∃ b, v1.heap.size = b := ⟨_, rfl⟩
  rw [hX] at gX qX hD2 hT2 gg ⊢
  rw [hb] at qX
  (try rw [hb])
  have c0 : X.cell? ⟨b, 0, none⟩ = some (.slice wo 1 wc) := by simp [World.cell?, qX]
  have c1 : X.cell? ⟨b, 1, none⟩ = some (.slice xo 2 xc) := by simp [World.cell?, qX]
  have OX := hO'.out.1.bel gg
  have EX := hO'.out.2.bel gg
  have gg' : Hid (Below w.heap.size w X) := gg
  clear hX hb g1 gX hD hT kP qX
  go_wp2_with (first
    | (go_at_call 8; (refine (kT X _ _ OX EX hD2 hT2).mono ?_); rintro e v2 ⟨rfl, g2⟩; replace c0 := pb_cell g2 c0; replace c1 := pb_cell g2 c1; replace hD2 := hD2.bel g2; replace hT2 := hT2.kp (Below.kp g2 _); replace OX := OX.bel g2)
    | (go_at_call 15; (refine (kM _ _ _ OX hD2 hT2).mono ?_); rintro e v3 ⟨rfl, g3⟩)
    | fail)
  go_ret
  exact ⟨rfl, pb_call gg'.out (pb_call g2 g3)⟩
end Go.Proofs.YtknoibocpbfmmaaGreatDoor

