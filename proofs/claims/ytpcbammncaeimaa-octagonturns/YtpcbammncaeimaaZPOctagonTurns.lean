/- Two limits do not hang on their order; for every number of variables and deeds. -/
import Derived.Test.YtpcbammncaeimaaZXPOctagonTurns
import Derived.Test.YtpcbammncaeimaaZG1
import Derived.Test.YtpcbammncaeimaaZG2
import Derived.Test.YtpcbammncaeimaaZG3
import Derived.Test.YtpcbammncaeimaaZG4
import Derived.Test.YtpcbammncaeimaaZG5
import Derived.Test.YtpcbammncaeimaaZSpWi
import Derived.Test.YtpcbammncaeimaaZG6
import Derived.Test.YtpcbammncaeimaaZG7
import Derived.Test.YtpcbammncaeimaaZG8
import Derived.Test.YtpcbammncaeimaaZG9
import Derived.Test.YtpcbammncaeimaaZOdV
import Derived.Test.YtpcbammncaeimaaZG10
import Derived.Test.YtpcbammncaeimaaZG11
import Derived.Test.YtpcbammncaeimaaZG12
import Derived.Test.YtpcbammncaeimaaZG13
import Derived.Test.YtpcbammncaeimaaZOeE
import Derived.Test.YtpcbammncaeimaaZG14
import Derived.Test.YtpcbammncaeimaaZG15
import Derived.Test.YtpcbammncaeimaaZG16
import Derived.Test.YtpcbammncaeimaaRows
import Derived.Carry
import Derived.ProofKit
import Derived.OpenShut
import Derived.ChangeOld
import Derived.Lib.SmallJoins
namespace Go.Proofs.Ytpcbammncaeimaa.octagonTurnsProof
open Go.ChangeShapes Go.WideShapes Go.ChangeAt Go.RowKit Go.Joins
set_option linter.unusedVariables false
theorem own : ownKnob Try.prog.godebug = none := by kernel_rfl
theorem int_of_wf {x : Int} (h : (Lit.int .i64 x).wf = true) : -9223372036854775808 ≤ x ∧ x ≤ 9223372036854775807 := by
  simp [Lit.wf, IntKind.min, IntKind.max, IntKind.signed, IntKind.bits] at h
  exact ⟨by omega, by omega⟩
theorem and_t {a b : Bool} (h1 : a = true) (h2 : b = true) : (a && b) = true := by rw [h1, h2]; rfl
set_option maxRecDepth 100000 in
theorem jf_wf : (Rows.octagonTurnsRow.wf (OpenSpec.ofChange Rows.octagonTurnsSpec)) = true := by kernel_rfl
set_option maxRecDepth 100000 in
theorem jf_lo : (laidOutB Try.prog) = true := by kernel_rfl
set_option maxRecDepth 100000 in
theorem jf_mr : (mapsRowed Try.prog) = true := by kernel_rfl
set_option maxRecDepth 100000 in
theorem jf_pr : (Try.f10.params.all (Try.prog.readableRec ·)) = true := by kernel_rfl
set_option maxRecDepth 100000 in
theorem jf_nt : (namedTie Try.prog Rows.octagonTurnsRow.named Rows.octagonTurnsSpec.vars) = true := by kernel_rfl
set_option maxRecDepth 100000 in
theorem jf_st : ((Rows.octagonTurnsRow.stops == [])) = true := by kernel_rfl
set_option maxRecDepth 100000 in
theorem jf_ps : ((Try.prog.stops == [])) = true := by kernel_rfl
set_option maxRecDepth 100000 in
theorem jf_kn : ((Rows.octagonTurnsRow.knobs == [])) = true := by kernel_rfl
set_option maxRecDepth 100000 in
theorem jf_pk : ((Try.prog.stopKnobs == [])) = true := by kernel_rfl
set_option maxRecDepth 100000 in
theorem jf_ip : ((Rows.octagonTurnsRow.inPlace == Try.prog.inPlace 10)) = true := by kernel_rfl
set_option maxRecDepth 100000 in
theorem jf_uf : ((Rows.octagonTurnsRow.unfollowed == Try.prog.unfollowed 10)) = true := by kernel_rfl
set_option maxRecDepth 100000 in
theorem jf_re : ((Rows.octagonTurnsRow.recurses == Try.prog.recurses 10)) = true := by kernel_rfl
set_option maxRecDepth 100000 in
theorem jf_na : ((Rows.octagonTurnsRow.named == Try.prog.varsNamed 10)) = true := by kernel_rfl
set_option maxRecDepth 100000 in
theorem jf_ma : ((Rows.octagonTurnsRow.maps == (Try.f10.params.toList ++ Rows.octagonTurnsSpec.plain.varTypes Try.prog).any (Try.prog.mapsRec ·))) = true := by kernel_rfl
set_option maxRecDepth 100000 in
theorem jf_if : ((Rows.octagonTurnsRow.ifaces == (Try.f10.params.toList ++ Rows.octagonTurnsSpec.plain.varTypes Try.prog).any (Try.prog.ifacesRec ·))) = true := by kernel_rfl
set_option maxRecDepth 100000 in
theorem jf_mo : ((Rows.octagonTurnsRow.mapsOut == Try.prog.mapsAmong Try.f10.resultTypes.toList)) = true := by kernel_rfl
set_option maxRecDepth 100000 in
theorem jf_lp : ((Rows.octagonTurnsRow.loops == (Try.f10.params.toList ++ Rows.octagonTurnsSpec.plain.varTypes Try.prog).any (Try.prog.loopsFrom ·))) = true := by kernel_rfl
set_option maxRecDepth 100000 in
theorem jf_wk : ((Rows.octagonTurnsRow.wideKeys == (Try.f10.params.toList ++ Rows.octagonTurnsSpec.plain.varTypes Try.prog ++ Try.f10.resultTypes.toList).any (Try.prog.wideKeysFrom ·))) = true := by kernel_rfl
set_option maxRecDepth 100000 in
theorem jf_vr : (Rows.octagonTurnsSpec.vars.all (Try.prog.varReadable ·)) = true := by kernel_rfl
set_option maxRecDepth 100000 in
theorem jf_rt : (Try.f10.resultTypes.all (fun t => Try.prog.readableRec t && decide (t < Try.prog.types.size))) = true := by kernel_rfl
set_option maxRecDepth 100000 in
theorem jf_io : ((Rows.octagonTurnsRow.ifacesOut == Try.f10.resultTypes.toList.any (Try.prog.ifacesRec ·))) = true := by kernel_rfl
set_option maxRecDepth 100000 in
theorem jf_lu : ((Rows.octagonTurnsRow.loopsOut == Try.f10.resultTypes.toList.any (Try.prog.loopsFrom ·))) = true := by kernel_rfl
set_option maxRecDepth 100000 in
theorem jf_pl : ((Rows.octagonTurnsRow.plainKeys == Try.prog.plainKeys)) = true := by kernel_rfl
set_option maxRecDepth 100000 in
theorem jf_sh : (Rows.octagonTurnsRow.shortTexts.isNone) = true := by kernel_rfl
set_option maxRecDepth 100000 in
theorem jf_sd : (Try.prog.stopsHeard) = true := by kernel_rfl
set_option maxRecDepth 100000 in
theorem jf_me : (Try.prog.mayEnter) = true := by kernel_rfl
set_option maxRecDepth 100000 in
theorem jf_li : ((Rows.octagonTurnsRow.lifted == Try.prog.liftsFinal)) = true := by kernel_rfl
set_option maxRecDepth 100000 in
theorem jf_mk : ((Try.prog.make == some Rows.octagonTurnsRow.make)) = true := by kernel_rfl
set_option maxRecDepth 100000 in
theorem jf_ki : ((Rows.octagonTurnsRow.kinds == (if Rows.octagonTurnsRow.domain.isEmpty then [] else Try.f10.params.toList.map fun t => match Try.prog.underlying t with | some (.int k) => some k | _ => none))) = true := by kernel_rfl
set_option maxRecDepth 100000 in
theorem jf_pi : ((Rows.octagonTurnsRow.pinned == Rows.octagonTurnsRow.pinnedBy)) = true := by kernel_rfl
set_option maxRecDepth 100000 in
theorem jf_ve : ((Rows.octagonTurnsRow.veiled == (Try.f10.params.toList ++ Rows.octagonTurnsSpec.plain.varTypes Try.prog ++ Try.f10.resultTypes.toList).any (Try.prog.veiledRec ·))) = true := by kernel_rfl
set_option maxRecDepth 100000 in
theorem jf_vf : (Rows.octagonTurnsRow.veiledFits Try.prog Try.f10.params.toList (Try.f10.params.toList ++ Rows.octagonTurnsSpec.plain.varTypes Try.prog ++ Try.f10.resultTypes.toList)) = true := by kernel_rfl
set_option maxRecDepth 100000 in
theorem closed : joinedFacts Try.pinned.checked.prog 10 Try.f10 Rows.octagonTurnsSpec Rows.octagonTurnsRow = true := by
  show joinedFacts Try.prog 10 Try.f10 Rows.octagonTurnsSpec Rows.octagonTurnsRow = true
  unfold joinedFacts
  exact (and_t (and_t (and_t (and_t (and_t (and_t (and_t (and_t (and_t (and_t (and_t (and_t (and_t (and_t (and_t (and_t (and_t (and_t (and_t (and_t (and_t (and_t (and_t (and_t (and_t (and_t (and_t (and_t (and_t (and_t (and_t jf_wf jf_lo) jf_mr) jf_pr) jf_nt) jf_st) jf_ps) jf_kn) jf_pk) jf_ip) jf_uf) jf_re) jf_na) jf_ma) jf_if) jf_mo) jf_lp) jf_wk) jf_vr) jf_rt) jf_io) jf_lu) jf_pl) jf_sh) jf_sd) jf_me) jf_li) jf_mk) jf_ki) jf_pi) jf_ve) jf_vf)
set_option maxRecDepth 100000 in
theorem sd_rr : Try.prog.readableRec 22 = true := by kernel_rfl
set_option maxRecDepth 100000 in
theorem sd_sz : 22 < Try.prog.types.size := of_decide_eq_true (by kernel_rfl)
set_option maxRecDepth 100000 in
theorem sb_rr : Try.prog.readableRec 58 = true := by kernel_rfl
set_option maxRecDepth 100000 in
theorem sb_sz : 58 < Try.prog.types.size := of_decide_eq_true (by kernel_rfl)
set_option maxRecDepth 100000 in
theorem lifted (os : Os) (started : os.Started) (H : Type) (enc : TypeId × Value → H) :
    ReturnsInHanded {} Try.checked os 10 .any (Rows.octagonTurnsSpec.pre6 enc Try.prog Try.f10 Rows.octagonTurnsRow.domain false) (Rows.octagonTurnsSpec.post enc Try.prog Try.f10 false true false false) := by
  refine returnsInHanded_of_change (C := Try.checked) own started (by kernel_rfl) Try.func10
    (ChangeSpec.witness6 (enc := enc) (C := Try.checked) false ⟨#[], #[.int .u8 0, .slice none 0 0, .agg #[.int .i64 0, .int .i64 0, .int .i64 0, .bool false, .bool false, .int .i64 0, .bool false, .int .i64 0, .int .i64 0, .int .i64 0, .int .i64 0, .int .i64 0, .bool false, .bool false, .int .i64 0, .bool false, .int .i64 0, .int .i64 0]], []⟩ 8 (by kernel_rfl) (by kernel_rfl) (by kernel_rfl) (by kernel_rfl)) ?_
  intro W base args ds gs before hval0 hW hcnd _
  have hval : ∀ (j : Nat) t v, Try.f10.params[j]? = some t → args[j]? = some v → Value.okWide Try.prog W .any base t v := hval0
  have hW' := hW
  obtain ⟨p, q, hA0, hV, rfl, hfz, hnd⟩ := hW
  have hA : DataW.TrodAll enc Try.prog W 0 (fun _ => true) true Try.f10.params.toList args.toList ds p := hA0
  rw [Try.params10] at hA hval
  obtain ⟨v0, vs0, d0, ds0, p0, q0, hargs, rfl, rfl, h0, r0⟩ := trodAll_cons hA
  obtain ⟨v1, vs1, d1, ds1, p1, q1, rfl, rfl, rfl, h1, r1⟩ := trodAll_cons r0
  obtain ⟨v2, vs2, d2, ds2, p2, q2, rfl, rfl, rfl, h2, r2⟩ := trodAll_cons r1
  obtain ⟨rfl, rfl, rfl⟩ := trodAll_nil r2
  obtain rfl : args = #[v0, v1, v2] := by cases args; simp_all
  obtain ⟨rfl, rfl⟩ := trodVars_none hV
  obtain ⟨x0, rfl, rfl, rfl, w0⟩ := open_int Try.underlying5 (hval 0 5 v0 rfl rfl) h0
  obtain ⟨ls1, hs1, hp1⟩ := open_slds (hval 1 22 v1 rfl rfl) h1
  obtain ⟨da2, db2, rfl, hp2⟩ := open_a2deed (hval 2 58 v2 rfl rfl) h2
  clear hA0 hval0
  refine (law_turns x0 (u8_of w0).1 (u8_of w0).2 v1 ls1 da2.kd da2.i da2.k da2.ni da2.nk da2.c da2.ea da2.lo da2.hh db2.kd db2.i db2.k db2.ni db2.nk db2.c db2.ea db2.lo db2.hh W hs1).mono fun e W' ⟨he, bel⟩ => ?_
  subst he
  exact ⟨_, rfl, _, _, _, [], _, [], hW', trodAll_mk1 (shut_bool Try.underlying4 _), (trodAll_cons_mk (shut_int Try.underlying5 w0) (trodAll_cons_mk (bel.trod jf_lo sd_rr sd_sz h1 hp1) (trodAll_cons_mk (bel.trod jf_lo sb_rr sb_sz h2 hp2) trodAll_mk0))), rfl, bel.frame _, fun h => by cases h⟩
theorem over : Rows.octagonTurnsRow.holds Try.pinned (OpenSpec.ofChange Rows.octagonTurnsSpec) :=
  OpenClaim.holds_of_wide 10 Try.f10 rfl rfl rfl rfl rfl rfl rfl ⟨rfl, rfl, rfl, rfl, rfl⟩ rfl rfl rfl rfl rfl (by kernel_rfl) Try.func10 closed
    (of_decide_eq_true (by kernel_rfl)) (by unfold Func.isWrapper; first | (rw [if_pos (by decide +kernel)]; kernel_rfl) | (rw [if_neg (by decide +kernel)]; exact ⟨rfl, rfl⟩))
    (fun os started H enc _ => lifted os started H enc)
end Go.Proofs.Ytpcbammncaeimaa.octagonTurnsProof
namespace Go.Proofs.Ytpcbammncaeimaa
theorem octagonTurns_holds : Rows.OctagonTurnsSaid := octagonTurnsProof.over
end Go.Proofs.Ytpcbammncaeimaa

