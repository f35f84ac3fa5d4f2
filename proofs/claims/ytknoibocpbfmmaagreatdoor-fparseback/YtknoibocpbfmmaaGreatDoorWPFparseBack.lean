/- For every program, whatever its trees: it is printed as a text that is parsed as the same program, or no text is told: no condition on the input; the card ties the operators and errors that the road reads to the program text (the word of the translator that nothing else writes them), and speaks of the pruned copy of the seat alone. -/
import Derived.Test.YtknoibocpbfmmaaGreatDoorRows
import Derived.Test.YtknoibocpbfmmaaGreatDoorTie
import Derived.Test.YtknoibocpbfmmaaGreatDoorCards
import Derived.Test.YtknoibocpbfmmaaGreatDoorWG27
import Derived.SizedLaws
import Derived.Carry
import Derived.Test.YtknoibocpbfmmaaGreatDoorWPgT
import Derived.ChangeMaps5
import Derived.ProofKit
import Derived.LaidMore
import Derived.LaidSub
import Derived.Lib.LaidTab
import Derived.OpenShut
import Derived.ChangeOld
import Derived.Stop.Joined
import Derived.Lib.SmallJoins
import Derived.SevenTiedAt
namespace Go.Proofs.YtknoibocpbfmmaaGreatDoor.fparseBackProof
open Go.ChangeMaps Go.ChangeShapes Go.WideShapes Go.ChangeAt Go.RowKit Go.Joins
set_option linter.unusedVariables false
theorem own : ownKnob Tryz.prog.godebug = none := by kernel_rfl
theorem jf_lo : (laidOutB Tryz.prog) = true := by kernel_rfl
def laidL : List (String × DataW Unit) := Rows.fparseBackRow.laid
theorem of_laid {W : World} (h : laidMetH Tryz.prog laidL W) : OpsAt W ∧ EvAt W := by
 have h1 : laidMetH Tryz.prog [("plumbline/fparse.operators", Rows.laid_plumbline_fparse_operators)] W := laidMetH.filter (fun x => x.1 == "plumbline/fparse.operators") h
 have h2 : laidMetH Tryz.prog [("strconv.ErrRange", Rows.laid_strconv_ErrRange)] W := laidMetH.filter (fun x => x.1 == "strconv.ErrRange") h
 rw [MakeChecks.laidMetH_plain _ _ _ (by kernel_rfl)] at h1 h2
 exact ⟨ops_of h1, ev_of h2⟩
/-- The door's own heap meets the condition. -/
theorem door_met (os : Os) (args : Array Value) : laidMetH Tryz.prog laidL ((World.doorLaid Tryz.prog 4000 os).forCall (fun _ _ => 0) ⟨#[], args, []⟩).memory :=
 laidMetH_of_parts3 (fuel := 8) (laidMet_of_run' 8 (by kernel_rfl) (by kernel_rfl)) (by kernel_rfl) (by kernel_rfl)
set_option maxRecDepth 100000 in
theorem lifted (os : Os) (started : os.Started) (H : Type) (enc : TypeId × Value → H) :
  ReturnsInHanded {} Tryz.checked os 3 .any (fun w args => (Rows.fparseBackSpec.pre enc Tryz.prog Tryz.f3 [] false w args ∧ laidMetH Tryz.prog laidL w) ∧ sizedMet enc Tryz.prog Tryz.f3 (OpenSpec.ofChange Rows.fparseBackSpec) false w args)
   (Rows.fparseBackSpec.post enc Tryz.prog Tryz.f3 false true false false) := by
 refine returnsInHanded_of_change_and (C := Tryz.checked) (X := fun w _ => laidMetH Tryz.prog laidL w) (fun _ _ _ hh h => h.of_heap hh) own started (by kernel_rfl) Tryz.func3
  (ChangeSpec.witness_shaped (enc := enc) (C := Tryz.checked) (os := os) (X := fun w _ => laidMetH Tryz.prog laidL w) false (World.doorLaid Tryz.prog 4000 os) #[.agg #[.slice none 0 0, .slice none 0 0]] 8 rfl (World.shaped_of_RefB (by kernel_rfl) (by kernel_rfl)) (by kernel_rfl) (by kernel_rfl) (by kernel_rfl) (door_met os _)) ?_
 intro W base args ds gs before hval0 hW _ hsz0 hL _
 have hval : ∀ (j : Nat) t v, Tryz.f3.params[j]? = some t → args[j]? = some v → Value.okWide Tryz.prog W .any base t v := hval0
 have hW' := hW
 obtain ⟨p, q, hA0, hV, rfl, hfz, hnd⟩ := hW
 have hA : DataW.TrodAll enc Tryz.prog W 0 (fun _ => true) true Tryz.f3.params.toList args.toList ds p := hA0
 rw [Tryz.params3] at hA hval
 obtain ⟨v0, vs0, d0, ds0, p0, q0, hargs, rfl, rfl, h0, r0⟩ := trodAll_cons hA
 obtain ⟨rfl, rfl, rfl⟩ := trodAll_nil r0
 obtain rfl : args = #[v0] := by cases args; simp_all
 obtain ⟨rfl, rfl⟩ := trodVars_none hV
 obtain ⟨x0, wo0, xo0, wc0, xc0, rfl, hD0, hT0, hz0, hf0, hp0⟩ := open_prog (hval 0 25 v0 rfl rfl) h0
 have hl := of_laid hL
 clear hA0 hval0
 refine (law_back x0 AllB wo0 xo0 wc0 xc0 W hl.1 hl.2 hD0 hT0 hz0 hf0).mono fun e W' ⟨he, bel⟩ => ?_
 subst he
 exact ⟨_, rfl, _, _, _, [], _, [], hW', trodAll_mk1 (shut_bool Tryz.underlying4 _), (trodAll_cons_mk (bel.trod jf_lo pg_rr pg_sz h0 hp0) trodAll_mk0), rfl, bel.frame _, fun h => by cases h⟩
theorem over : Rows.fparseBackRow.holds Tryz.pinned (OpenSpec.ofChange Rows.fparseBackSpec) :=
 OpenClaim.holds_of_wide 3 Tryz.f3 rfl rfl rfl rfl rfl rfl rfl ⟨rfl, rfl, rfl, rfl, rfl⟩ rfl rfl rfl rfl rfl (by kernel_rfl) Tryz.func3 (by kernel_rfl)
  (of_decide_eq_true (by kernel_rfl)) (by unfold Func.isWrapper; first | (rw [if_pos (by decide +kernel)]; kernel_rfl) | (rw [if_neg (by decide +kernel)]; exact ⟨rfl, rfl⟩))
  (fun os started H enc _ => lifted os started H enc)
theorem card : Rows.FparseBackCardSaid :=
 Claim7.holds_tied_plain_at .later [] [.data, .data, .data, .sentinel, .sentinel, .data] true (true, "1756b7acb523a664d15a6a6b2cc1a8aad8980e47100e455047e8e866bcdb0e4c") true
  over (fun _ h => by cases h) (by kernel_rfl) (fun _ h => by cases h) fparseBack_row_tie rfl ⟨rfl, rfl⟩ (by kernel_rfl) rfl
  (fun f fn hf hfn => by
   obtain rfl : f = 3 := Option.some.inj ((show Tryz.prog.funcNamed "plumbline/plumblinelaw05.FparseBack" = some 3 by kernel_rfl).symm.trans hf) |>.symm
   obtain rfl : fn = Tryz.f3 := (Option.some.inj (Tryz.func3.symm.trans hfn)).symm
   exact ⟨by kernel_rfl, fun j t ht => by
    rw [Tryz.params3] at ht
    have hm : t ∈ [25] := by simpa using Array.mem_of_getElem? ht
    have hall : ([25].all fun u => !Tryz.prog.wantsStandIn u) = true := by kernel_rfl
    exact (show Tryz.prog.wantsStandIn t = false by simpa using List.all_eq_true.1 hall t hm)⟩)
  (by kernel_rfl)
end Go.Proofs.YtknoibocpbfmmaaGreatDoor.fparseBackProof
namespace Go.Proofs.YtknoibocpbfmmaaGreatDoor
theorem fparseBack_holds : Rows.FparseBackCardSaid := fparseBackProof.card
end Go.Proofs.YtknoibocpbfmmaaGreatDoor


