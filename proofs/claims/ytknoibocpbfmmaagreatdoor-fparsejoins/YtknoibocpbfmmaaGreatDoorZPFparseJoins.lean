/- For every two texts that are programs: one behind the other, if the declarations stay ahead of the statements, is a program of both, or too much: no condition on the input; the card ties the operators that the parser looks up and the error that it looks for. -/
import Derived.Test.YtknoibocpbfmmaaGreatDoorZXPFparseJoins
import Derived.Test.YtknoibocpbfmmaaGreatDoorTie
import Derived.Test.YtknoibocpbfmmaaGreatDoorCards
import Derived.Test.YtknoibocpbfmmaaGreatDoorZG1
import Derived.Test.YtknoibocpbfmmaaGreatDoorZG2
import Derived.Test.YtknoibocpbfmmaaGreatDoorZG3
import Derived.Test.YtknoibocpbfmmaaGreatDoorZG4
import Derived.Test.YtknoibocpbfmmaaGreatDoorZG5
import Derived.Test.YtknoibocpbfmmaaGreatDoorZG6
import Derived.Test.YtknoibocpbfmmaaGreatDoorZG7
import Derived.Test.YtknoibocpbfmmaaGreatDoorZG8
import Derived.Test.YtknoibocpbfmmaaGreatDoorZG9
import Derived.Test.YtknoibocpbfmmaaGreatDoorZG10
import Derived.Test.YtknoibocpbfmmaaGreatDoorZPaL
import Derived.Test.YtknoibocpbfmmaaGreatDoorZPaM
import Derived.Test.YtknoibocpbfmmaaGreatDoorZG11
import Derived.Test.YtknoibocpbfmmaaGreatDoorZPaS
import Derived.Test.YtknoibocpbfmmaaGreatDoorZG12
import Derived.Test.YtknoibocpbfmmaaGreatDoorZG13
import Derived.Test.YtknoibocpbfmmaaGreatDoorZPbD
import Derived.Test.YtknoibocpbfmmaaGreatDoorZG14
import Derived.Test.YtknoibocpbfmmaaGreatDoorZPbH
import Derived.Test.YtknoibocpbfmmaaGreatDoorZG15
import Derived.Test.YtknoibocpbfmmaaGreatDoorZG16
import Derived.Test.YtknoibocpbfmmaaGreatDoorZPbM
import Derived.Test.YtknoibocpbfmmaaGreatDoorShelf
import Derived.Test.YtknoibocpbfmmaaGreatDoorZWpI
import Derived.Test.YtknoibocpbfmmaaGreatDoorZWpJ
import Derived.Test.YtknoibocpbfmmaaGreatDoorZG17
import Derived.Test.YtknoibocpbfmmaaGreatDoorZG18
import Derived.Test.YtknoibocpbfmmaaGreatDoorZG19
import Derived.Test.YtknoibocpbfmmaaGreatDoorZPbS
import Derived.Test.YtknoibocpbfmmaaGreatDoorZG20
import Derived.Test.YtknoibocpbfmmaaGreatDoorZPeC
import Derived.Test.YtknoibocpbfmmaaGreatDoorZG21
import Derived.Test.YtknoibocpbfmmaaGreatDoorZPeF
import Derived.Test.YtknoibocpbfmmaaGreatDoorZPeG
import Derived.Test.YtknoibocpbfmmaaGreatDoorZPeH
import Derived.Test.YtknoibocpbfmmaaGreatDoorZG22
import Derived.Test.YtknoibocpbfmmaaGreatDoorZPbU
import Derived.Test.YtknoibocpbfmmaaGreatDoorZPbV
import Derived.Test.YtknoibocpbfmmaaGreatDoorZPbW
import Derived.Test.YtknoibocpbfmmaaGreatDoorZG23
import Derived.Test.YtknoibocpbfmmaaGreatDoorRows
import Derived.SizedLaws
import Derived.ChangeMaps5
import Derived.ProofKit
import Derived.LaidMore
import Derived.LaidSub
import Derived.Lib.LaidTab
import Derived.OpenShut
import Derived.ChangeOld
import Derived.Stop.Joined
import Derived.Lib.SmallJoins
import Derived.SevenTiedAt
namespace Go.Proofs.YtknoibocpbfmmaaGreatDoor.fparseJoinsProof
open Go.ChangeMaps Go.ChangeShapes Go.WideShapes Go.ChangeAt Go.RowKit Go.Joins
set_option linter.unusedVariables false
theorem own : ownKnob Tryz.prog.godebug = none := by kernel_rfl
def laidL : List (String × DataW Unit) := Rows.fparseJoinsRow.laid
theorem of_laid {W : World} (h : laidMetH Tryz.prog laidL W) : OpsAt W ∧ EvAt W := by
  have h1 : laidMetH Tryz.prog [("plumbline/fparse.operators", Rows.laid_plumbline_fparse_operators)] W := laidMetH.filter (fun x => x.1 == "plumbline/fparse.operators") h
  have h2 : laidMetH Tryz.prog [("strconv.ErrRange", Rows.laid_strconv_ErrRange)] W := laidMetH.filter (fun x => x.1 == "strconv.ErrRange") h
  rw [MakeChecks.laidMetH_plain _ _ _ (by kernel_rfl)] at h1 h2
  exact ⟨ops_of h1, ev_of h2⟩
/-- The door's own heap meets the condition. -/
theorem door_met (os : Os) (args : Array Value) : laidMetH Tryz.prog laidL ((World.doorLaid Tryz.prog 4000 os).forCall (fun _ _ => 0) ⟨#[], args, []⟩).memory :=
  laidMetH_of_parts3 (fuel := 8) (laidMet_of_run' 8 (by kernel_rfl) (by kernel_rfl)) (by kernel_rfl) (by kernel_rfl)
set_option maxRecDepth 100000 in
theorem lifted (os : Os) (started : os.Started) (H : Type) (enc : TypeId × Value → H) :
    ReturnsInHanded {} Tryz.checked os 6 .any (fun w args => (Rows.fparseJoinsSpec.pre enc Tryz.prog Tryz.f6 [] false w args ∧ laidMetH Tryz.prog laidL w) ∧ sizedMet enc Tryz.prog Tryz.f6 (OpenSpec.ofChange Rows.fparseJoinsSpec) false w args)
      (Rows.fparseJoinsSpec.post enc Tryz.prog Tryz.f6 false true false false) := by
  refine returnsInHanded_of_change_and (C := Tryz.checked) (X := fun w _ => laidMetH Tryz.prog laidL w) (fun _ _ _ hh h => h.of_heap hh) own started (by kernel_rfl) Tryz.func6
    (ChangeSpec.witness_shaped (enc := enc) (C := Tryz.checked) (os := os) (X := fun w _ => laidMetH Tryz.prog laidL w) false (World.doorLaid Tryz.prog 4000 os) #[.string ⟨#[]⟩, .string ⟨#[]⟩] 8 rfl (World.shaped_of_RefB (by kernel_rfl) (by kernel_rfl)) (by kernel_rfl) (by kernel_rfl) (by kernel_rfl) (door_met os _)) ?_
  intro W base args ds gs before hval0 hW _ hsz0 hL _
  have hval : ∀ (j : Nat) t v, Tryz.f6.params[j]? = some t → args[j]? = some v → Value.okWide Tryz.prog W .any base t v := hval0
  have hW' := hW
  obtain ⟨p, q, hA0, hV, rfl, hfz, hnd⟩ := hW
  have hA : DataW.TrodAll enc Tryz.prog W 0 (fun _ => true) true Tryz.f6.params.toList args.toList ds p := hA0
  rw [Tryz.params6] at hA hval
  obtain ⟨v0, vs0, d0, ds0, p0, q0, hargs, rfl, rfl, h0, r0⟩ := trodAll_cons hA
  obtain ⟨v1, vs1, d1, ds1, p1, q1, rfl, rfl, rfl, h1, r1⟩ := trodAll_cons r0
  obtain ⟨rfl, rfl, rfl⟩ := trodAll_nil r1
  obtain rfl : args = #[v0, v1] := by cases args; simp_all
  obtain ⟨rfl, rfl⟩ := trodVars_none hV
  obtain ⟨x0, rfl, rfl, rfl, wx0⟩ := open_string Tryz.underlying9 (hval 0 9 v0 rfl rfl) h0
  obtain ⟨x1, rfl, rfl, rfl, wx1⟩ := open_string Tryz.underlying9 (hval 1 9 v1 rfl rfl) h1
  have hsz : (DataW.weightsEach Tryz.prog (Tryz.f6.params.toList ++ Rows.fparseJoinsSpec.plain.varTypes Tryz.prog) _).all (· ≤ reachBytes) = true := hsz0
  have hl := of_laid hL
  clear hA0 hval0
  refine (law_joins x0 x1 (by have hs0 := sized_string hsz (j := 0) (t := 9) rfl rfl; have r := reachBytes_lt; have z : x0.data.toList.length = x0.size := rfl; omega) (by have hs1 := sized_string hsz (j := 1) (t := 9) rfl rfl; have r := reachBytes_lt; have z : x1.data.toList.length = x1.size := rfl; omega) W hl.1 hl.2).mono fun e W' ⟨he, bel⟩ => ?_
  subst he
  exact ⟨_, rfl, _, _, _, [], _, [], hW', trodAll_mk1 (shut_bool Tryz.underlying4 _), (trodAll_cons_mk (shut_string Tryz.underlying9 wx0) (trodAll_cons_mk (shut_string Tryz.underlying9 wx1) trodAll_mk0)), rfl, bel.frame _, fun h => by cases h⟩
theorem over : Rows.fparseJoinsRow.holds Tryz.pinned (OpenSpec.ofChange Rows.fparseJoinsSpec) :=
  OpenClaim.holds_of_wide 6 Tryz.f6 rfl rfl rfl rfl rfl rfl rfl ⟨rfl, rfl, rfl, rfl, rfl⟩ rfl rfl rfl rfl rfl (by kernel_rfl) Tryz.func6 (by kernel_rfl)
    (of_decide_eq_true (by kernel_rfl)) (by unfold Func.isWrapper; first | (rw [if_pos (by decide +kernel)]; kernel_rfl) | (rw [if_neg (by decide +kernel)]; exact ⟨rfl, rfl⟩))
    (fun os started H enc _ => lifted os started H enc)
theorem card : Rows.FparseJoinsCardSaid :=
  Claim7.holds_tied_plain_at .later [] [.data, .data, .data, .sentinel, .sentinel, .data] true (true, "1756b7acb523a664d15a6a6b2cc1a8aad8980e47100e455047e8e866bcdb0e4c") true
    over (fun _ h => by cases h) (by kernel_rfl) (fun _ h => by cases h) fparseJoins_row_tie rfl ⟨rfl, rfl⟩ (by kernel_rfl) rfl
    (fun f fn hf hfn => by
      obtain rfl : f = 6 := Option.some.inj ((show Tryz.prog.funcNamed "plumbline/plumblinelaw05.FparseJoins" = some 6 by kernel_rfl).symm.trans hf) |>.symm
      obtain rfl : fn = Tryz.f6 := (Option.some.inj (Tryz.func6.symm.trans hfn)).symm
      exact ⟨by kernel_rfl, fun j t ht => by
        rw [Tryz.params6] at ht
        have hm : t ∈ [9, 9] := by simpa using Array.mem_of_getElem? ht
        have hall : ([9, 9].all fun u => !Tryz.prog.wantsStandIn u) = true := by kernel_rfl
        exact (show Tryz.prog.wantsStandIn t = false by simpa using List.all_eq_true.1 hall t hm)⟩)
    (by kernel_rfl)
end Go.Proofs.YtknoibocpbfmmaaGreatDoor.fparseJoinsProof
namespace Go.Proofs.YtknoibocpbfmmaaGreatDoor
theorem fparseJoins_holds : Rows.FparseJoinsCardSaid := fparseJoinsProof.card
end Go.Proofs.YtknoibocpbfmmaaGreatDoor

