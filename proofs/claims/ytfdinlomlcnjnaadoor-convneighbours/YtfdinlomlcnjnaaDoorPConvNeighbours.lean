/- For every format and float conv.Next, conv.Prev, conv.Plain and conv.Hex answer as the reference of the document has them: no condition on the input; the card ties the tables of math/bits and internal/strconv that the road to Hex reads to the program's text (the translator's word that nothing else writes them), and speaks of the seat's pruned copy alone. -/
import Derived.Test.YtfdinlomlcnjnaaDoorRows
import Derived.Test.YtfdinlomlcnjnaaDoorTie
import Derived.Test.YtfdinlomlcnjnaaDoorCards
import Derived.Test.YtfdinlomlcnjnaaDoorConvLv
import Derived.Test.YtfdinlomlcnjnaaDoorSRefK
import Derived.ProofKit
import Derived.LaidMore
import Derived.LaidSub
import Derived.Lib.LaidTab
import Derived.OpenShut
import Derived.ChangeOld
import Derived.Stop.Joined
import Derived.Lib.SmallJoins
import Derived.SevenTiedAt
namespace Go.Proofs.YtfdinlomlcnjnaaDoor
open Go.RowKit
set_option linter.unusedVariables false
theorem y_format (f : Int) (w : World) : Calls Tryd.prog 17 #[.int .i64 f] w fun e w' => e = .returned (.int .i64 (fb (f == 1))) ∧ w' = w := by
  by_cases c : f = 1
  · subst c
    go_enter Tryd.func17, Tryd.ntmps17
    go_wp2_with fail
    go_ret
    exact ⟨rfl, rfl⟩
  · have c' : (f == 1) = false := by simp [c]
    rw [c']
    go_enter Tryd.func17, Tryd.ntmps17
    go_wp2_with fail
    go_ret
    exact ⟨rfl, rfl⟩
set_option maxRecDepth 8000 in
set_option maxHeartbeats 3200000 in
theorem law_convneighbours (f a : Int) (h1 : Word a) (w : World) (h : w.cell? ⟨5, 15, none⟩ = some (.int .u8 4)) :
    Calls Tryd.prog 6 #[.int .i64 f, .int .u64 a] w fun e w' => e = .returned (.bool true) ∧ Below w.heap.size w w' := by
  have hl := clive_any w h
  have hg := y_format f
  have c1 := next_any f a h1
  have c2 := prev_any f a h1
  have c3 := plain_any f a h1
  have c4 := fun (w : World) h => hex_any f a h1 w h
  have r1 := rnext3_any (f == 1) a h1
  have r2 := rprev3_any (f == 1) a h1
  have r3 := rplain3_any (f == 1) a h1
  have r4 := rhex3_any (f == 1) a h1
  generalize fb (f == 1) = g at *
  generalize nextF (f == 1) a = V1 at *
  generalize prevF (f == 1) a = V2 at *
  generalize plainF (f == 1) a = V3 at *
  generalize (⟨(hexL (hexA (f == 1) a).toNat (hexW (f == 1))).toArray⟩ : ByteArray) = V4 at *
  go_enter Tryd.func6, Tryd.ntmps6
  go_wp2_with (first
    | (go_at_call 17; refine (hg _).mono ?_; rintro e w1 ⟨rfl, hw⟩; rw [hw]; clear hw w1)
    | (go_at_call 12; refine hl.mono ?_; rintro e w0 ⟨rfl, b0⟩; replace h := cell_on b0 h)
    | (go_at_call 26; refine (c1 _).mono ?_; rintro e w1 ⟨rfl, b1⟩; replace h := cell_on b1 h)
    | (go_at_call 27; refine (r1 _).mono ?_; rintro e wa ⟨rfl, n1, rfl⟩)
    | (go_at_call 28; refine (c2 _).mono ?_; rintro e w2 ⟨rfl, b2⟩; have h2 := cell_on b2 (show (World.drewN _ _).cell? _ = some _ by simpa [go_sem] using h))
    | (go_at_call 29; refine (r2 _).mono ?_; rintro e wa ⟨rfl, n2, rfl⟩)
    | (go_at_call 30; refine (c3 _).mono ?_; rintro e w3 ⟨rfl, b3⟩; have h3 := cell_on b3 (show (World.drewN _ _).cell? _ = some _ by simpa [go_sem] using h2))
    | (go_at_call 31; refine (r3 _).mono ?_; rintro e wa ⟨rfl, n3, rfl⟩)
    | (go_at_call 32; refine (c4 _ (by simpa [go_sem] using h3)).mono ?_; rintro e w4 ⟨rfl, b4⟩)
    | (go_at_call 33; refine (r4 _).mono ?_; rintro e w5 ⟨rfl, b5⟩)
    | fail)
  go_ret
  exact ⟨rfl, below_callC (below_callC (below_dN (below_callC (below_dN (below_callC (below_dN (below_callC b0 b1) _) b2) _) b3) _) b4) b5⟩
end Go.Proofs.YtfdinlomlcnjnaaDoor
namespace Go.Proofs.YtfdinlomlcnjnaaDoor.convNeighboursProof
open Go.ChangeShapes Go.WideShapes Go.ChangeAt Go.RowKit Go.Joins
set_option linter.unusedVariables false
theorem own : ownKnob Tryd.prog.godebug = none := by kernel_rfl
theorem word_of_wf {x : Int} (h : (Lit.int .u64 x).wf = true) : Word x := by
  simp [Lit.wf, IntKind.min, IntKind.max, IntKind.signed, IntKind.bits] at h
  exact ⟨by omega, by omega⟩
def tab64 : List Int := [0, 1, 56, 2, 57, 49, 28, 3, 61, 58, 42, 50, 38, 29, 17, 4, 62, 47, 59, 36, 45, 43, 51, 22, 53, 39, 33, 30, 24, 18, 12, 5, 63, 55, 48, 27, 60, 41, 37, 16, 46, 35, 44, 21, 52, 32, 23, 11, 54, 26, 40, 15, 34, 20, 31, 10, 25, 14, 19, 9, 13, 8, 7, 6]
theorem g64 : Tryd.prog.globalNamed "math/bits.deBruijn64tab" = some 5 := by kernel_rfl
def laidL : List (String × DataW Unit) := Rows.convNeighboursRow.laid
theorem of_laid {W : World} (h : laidMetH Tryd.prog laidL W) : W.cell? ⟨5, 15, none⟩ = some (.int .u8 4) := by
  have h2 := laidMetH.filter (fun x => x.1 == "math/bits.deBruijn64tab") h
  have h3 : laidMetH Tryd.prog [("math/bits.deBruijn64tab", Lib.tabData .u8 tab64)] W := h2
  rw [MakeChecks.laidMetH_plain _ _ _ (by kernel_rfl)] at h3
  have t := Lib.tabIs_of_head g64 (by kernel_rfl) (t := 152) (n := 64) (e := 5) Tryd.underlying152 Tryd.underlying5 (by kernel_rfl) (by kernel_rfl) h3
  exact t.cell g64 15 (by decide)
/-- The door's own heap meets the condition. -/
theorem door_met (os : Os) (args : Array Value) : laidMetH Tryd.prog laidL ((World.doorLaid Tryd.prog 4000 os).forCall (fun _ _ => 0) ⟨#[], args, []⟩).memory :=
  laidMetH_of_parts3 (fuel := 8) (laidMet_of_run' 8 (by kernel_rfl) (by kernel_rfl)) (by kernel_rfl) (by kernel_rfl)
set_option maxRecDepth 100000 in
theorem lifted (os : Os) (started : os.Started) (H : Type) (enc : TypeId × Value → H) :
    ReturnsInHanded {} Tryd.checked os 6 .any (fun w args => (Rows.convNeighboursSpec.pre enc Tryd.prog Tryd.f6 [] false w args ∧ laidMetH Tryd.prog laidL w) ∧ sizedMet enc Tryd.prog Tryd.f6 (OpenSpec.ofChange Rows.convNeighboursSpec) false w args)
      (Rows.convNeighboursSpec.post enc Tryd.prog Tryd.f6 false true false false) := by
  refine returnsInHanded_of_change_and (C := Tryd.checked) (X := fun w _ => laidMetH Tryd.prog laidL w) (fun _ _ _ hh h => h.of_heap hh) own started (by kernel_rfl) Tryd.func6
    (ChangeSpec.witness_shaped (enc := enc) (C := Tryd.checked) (os := os) (X := fun w _ => laidMetH Tryd.prog laidL w) false (World.doorLaid Tryd.prog 4000 os) #[.int .i64 0, .int .u64 0] 8 rfl (World.shaped_of_RefB (by kernel_rfl) (by kernel_rfl)) (by kernel_rfl) (by kernel_rfl) (by kernel_rfl) (door_met os _)) ?_
  intro W base args ds gs before hval0 hW _ _ hL _
  have hval : ∀ (j : Nat) t v, Tryd.f6.params[j]? = some t → args[j]? = some v → Value.okWide Tryd.prog W .any base t v := hval0
  have hW' := hW
  obtain ⟨p, q, hA0, hV, rfl, hfz, hnd⟩ := hW
  have hA : DataW.TrodAll enc Tryd.prog W 0 (fun _ => true) true Tryd.f6.params.toList args.toList ds p := hA0
  rw [Tryd.params6] at hA hval
  obtain ⟨v0, vs0, d0, ds0, p0, q0, hargs, rfl, rfl, h0, r0⟩ := trodAll_cons hA
  obtain ⟨v1, vs1, d1, ds1, p1, q1, rfl, rfl, rfl, h1, r1⟩ := trodAll_cons r0
  obtain ⟨rfl, rfl, rfl⟩ := trodAll_nil r1
  obtain rfl : args = #[v0, v1] := by cases args; simp_all
  obtain ⟨rfl, rfl⟩ := trodVars_none hV
  obtain ⟨x0, rfl, rfl, rfl, wx0⟩ := open_int Tryd.underlying28 (hval 0 28 v0 rfl rfl) h0
  obtain ⟨x1, rfl, rfl, rfl, wx1⟩ := open_int Tryd.underlying23 (hval 1 23 v1 rfl rfl) h1
  clear hA0 hval0
  refine (law_convneighbours x0 x1 (word_of_wf wx1) W (of_laid hL)).mono fun e W' ⟨he, bel⟩ => ?_
  subst he
  exact ⟨_, rfl, _, _, _, [], _, [], hW', trodAll_mk1 (shut_bool Tryd.underlying4 _), (trodAll_cons_mk (shut_int Tryd.underlying28 wx0) (trodAll_cons_mk (shut_int Tryd.underlying23 wx1) trodAll_mk0)), rfl, bel.frame _, fun h => by cases h⟩
theorem over : Rows.convNeighboursRow.holds Tryd.pinned (OpenSpec.ofChange Rows.convNeighboursSpec) :=
  OpenClaim.holds_of_wide 6 Tryd.f6 rfl rfl rfl rfl rfl rfl rfl ⟨rfl, rfl, rfl, rfl, rfl⟩ rfl rfl rfl rfl rfl (by kernel_rfl) Tryd.func6 (by kernel_rfl)
    (of_decide_eq_true (by kernel_rfl)) (by unfold Func.isWrapper; first | (rw [if_pos (by decide +kernel)]; kernel_rfl) | (rw [if_neg (by decide +kernel)]; exact ⟨rfl, rfl⟩))
    (fun os started H enc _ => lifted os started H enc)
theorem card : Rows.ConvNeighboursCardSaid :=
  Claim7.holds_tied_plain_at .later [] [.data, .data, .data] true (true, "2d22253cf365a60bd7155bb79663bc04cf44260508665e221caf2376b4ab5de4") false
    over (fun _ h => by cases h) (by kernel_rfl) (fun _ h => by cases h) convNeighbours_row_tie rfl ⟨rfl, rfl⟩ (by kernel_rfl) rfl
    (fun f fn hf hfn => by
      obtain rfl : f = 6 := Option.some.inj ((show Tryd.prog.funcNamed "plumbline/plumblinelaw03.ConvNeighbours" = some 6 by kernel_rfl).symm.trans hf) |>.symm
      obtain rfl : fn = Tryd.f6 := (Option.some.inj (Tryd.func6.symm.trans hfn)).symm
      exact ⟨by kernel_rfl, fun j t ht => by
        rw [Tryd.params6] at ht
        have hm : t ∈ [28, 23] := by simpa using Array.mem_of_getElem? ht
        have hall : ([28, 23].all fun u => !Tryd.prog.wantsStandIn u) = true := by kernel_rfl
        exact (show Tryd.prog.wantsStandIn t = false by simpa using List.all_eq_true.1 hall t hm)⟩)
    (by kernel_rfl)
end Go.Proofs.YtfdinlomlcnjnaaDoor.convNeighboursProof
namespace Go.Proofs.YtfdinlomlcnjnaaDoor
theorem convNeighbours_holds : Rows.ConvNeighboursCardSaid := convNeighboursProof.card
end Go.Proofs.YtfdinlomlcnjnaaDoor

