/- A nil octagon answers as the document says, and there is none of too many variables; every deed and number, without a condition. -/
import Derived.Test.YtdfbmafeemflaaaRows
import Derived.Test.YtdfbmafeemflaaaOcQ
import Derived.Test.YtdfbmafeemflaaaOcR
import Derived.Carry
import Derived.Test.YtdfbmafeemflaaaSpAid
import Derived.ProofKit
import Derived.OpenShut
import Derived.ChangeOld
import Derived.Lib.SmallJoins
namespace Go.Proofs.Ytdfbmafeemflaaa.octagonNoneProof
open Go.ChangeShapes Go.WideShapes Go.ChangeAt Go.RowKit Go.Joins
set_option linter.unusedVariables false
theorem own : ownKnob Try.prog.godebug = none := by kernel_rfl
theorem int_of_wf {x : Int} (h : (Lit.int .i64 x).wf = true) : -9223372036854775808 ≤ x ∧ x ≤ 9223372036854775807 := by
  simp [Lit.wf, IntKind.min, IntKind.max, IntKind.signed, IntKind.bits] at h
  exact ⟨by omega, by omega⟩
theorem and_t {a b : Bool} (h1 : a = true) (h2 : b = true) : (a && b) = true := by rw [h1, h2]; rfl
set_option maxRecDepth 100000 in
theorem jf_wf : (Rows.octagonNoneRow.wf (OpenSpec.ofChange Rows.octagonNoneSpec)) = true := by kernel_rfl
set_option maxRecDepth 100000 in
theorem jf_lo : (laidOutB Try.prog) = true := by kernel_rfl
set_option maxRecDepth 100000 in
theorem jf_mr : (mapsRowed Try.prog) = true := by kernel_rfl
set_option maxRecDepth 100000 in
theorem jf_pr : (Try.f3.params.all (Try.prog.readableRec ·)) = true := by kernel_rfl
set_option maxRecDepth 100000 in
theorem jf_nt : (namedTie Try.prog Rows.octagonNoneRow.named Rows.octagonNoneSpec.vars) = true := by kernel_rfl
set_option maxRecDepth 100000 in
theorem jf_st : ((Rows.octagonNoneRow.stops == [])) = true := by kernel_rfl
set_option maxRecDepth 100000 in
theorem jf_ps : ((Try.prog.stops == [])) = true := by kernel_rfl
set_option maxRecDepth 100000 in
theorem jf_kn : ((Rows.octagonNoneRow.knobs == [])) = true := by kernel_rfl
set_option maxRecDepth 100000 in
theorem jf_pk : ((Try.prog.stopKnobs == [])) = true := by kernel_rfl
set_option maxRecDepth 100000 in
theorem jf_ip : ((Rows.octagonNoneRow.inPlace == Try.prog.inPlace 3)) = true := by kernel_rfl
set_option maxRecDepth 100000 in
theorem jf_uf : ((Rows.octagonNoneRow.unfollowed == Try.prog.unfollowed 3)) = true := by kernel_rfl
set_option maxRecDepth 100000 in
theorem jf_re : ((Rows.octagonNoneRow.recurses == Try.prog.recurses 3)) = true := by kernel_rfl
set_option maxRecDepth 100000 in
theorem jf_na : ((Rows.octagonNoneRow.named == Try.prog.varsNamed 3)) = true := by kernel_rfl
set_option maxRecDepth 100000 in
theorem jf_ma : ((Rows.octagonNoneRow.maps == (Try.f3.params.toList ++ Rows.octagonNoneSpec.plain.varTypes Try.prog).any (Try.prog.mapsRec ·))) = true := by kernel_rfl
set_option maxRecDepth 100000 in
theorem jf_if : ((Rows.octagonNoneRow.ifaces == (Try.f3.params.toList ++ Rows.octagonNoneSpec.plain.varTypes Try.prog).any (Try.prog.ifacesRec ·))) = true := by kernel_rfl
set_option maxRecDepth 100000 in
theorem jf_mo : ((Rows.octagonNoneRow.mapsOut == Try.prog.mapsAmong Try.f3.resultTypes.toList)) = true := by kernel_rfl
set_option maxRecDepth 100000 in
theorem jf_lp : ((Rows.octagonNoneRow.loops == (Try.f3.params.toList ++ Rows.octagonNoneSpec.plain.varTypes Try.prog).any (Try.prog.loopsFrom ·))) = true := by kernel_rfl
set_option maxRecDepth 100000 in
theorem jf_wk : ((Rows.octagonNoneRow.wideKeys == (Try.f3.params.toList ++ Rows.octagonNoneSpec.plain.varTypes Try.prog ++ Try.f3.resultTypes.toList).any (Try.prog.wideKeysFrom ·))) = true := by kernel_rfl
set_option maxRecDepth 100000 in
theorem jf_vr : (Rows.octagonNoneSpec.vars.all (Try.prog.varReadable ·)) = true := by kernel_rfl
set_option maxRecDepth 100000 in
theorem jf_rt : (Try.f3.resultTypes.all (fun t => Try.prog.readableRec t && decide (t < Try.prog.types.size))) = true := by kernel_rfl
set_option maxRecDepth 100000 in
theorem jf_io : ((Rows.octagonNoneRow.ifacesOut == Try.f3.resultTypes.toList.any (Try.prog.ifacesRec ·))) = true := by kernel_rfl
set_option maxRecDepth 100000 in
theorem jf_lu : ((Rows.octagonNoneRow.loopsOut == Try.f3.resultTypes.toList.any (Try.prog.loopsFrom ·))) = true := by kernel_rfl
set_option maxRecDepth 100000 in
theorem jf_pl : ((Rows.octagonNoneRow.plainKeys == Try.prog.plainKeys)) = true := by kernel_rfl
set_option maxRecDepth 100000 in
theorem jf_sh : (Rows.octagonNoneRow.shortTexts.isNone) = true := by kernel_rfl
set_option maxRecDepth 100000 in
theorem jf_sd : (Try.prog.stopsHeard) = true := by kernel_rfl
set_option maxRecDepth 100000 in
theorem jf_me : (Try.prog.mayEnter) = true := by kernel_rfl
set_option maxRecDepth 100000 in
theorem jf_li : ((Rows.octagonNoneRow.lifted == Try.prog.liftsFinal)) = true := by kernel_rfl
set_option maxRecDepth 100000 in
theorem jf_mk : ((Try.prog.make == some Rows.octagonNoneRow.make)) = true := by kernel_rfl
set_option maxRecDepth 100000 in
theorem jf_ki : ((Rows.octagonNoneRow.kinds == (if Rows.octagonNoneRow.domain.isEmpty then [] else Try.f3.params.toList.map fun t => match Try.prog.underlying t with | some (.int k) => some k | _ => none))) = true := by kernel_rfl
set_option maxRecDepth 100000 in
theorem jf_pi : ((Rows.octagonNoneRow.pinned == Rows.octagonNoneRow.pinnedBy)) = true := by kernel_rfl
set_option maxRecDepth 100000 in
theorem jf_ve : ((Rows.octagonNoneRow.veiled == (Try.f3.params.toList ++ Rows.octagonNoneSpec.plain.varTypes Try.prog ++ Try.f3.resultTypes.toList).any (Try.prog.veiledRec ·))) = true := by kernel_rfl
set_option maxRecDepth 100000 in
theorem jf_vf : (Rows.octagonNoneRow.veiledFits Try.prog Try.f3.params.toList (Try.f3.params.toList ++ Rows.octagonNoneSpec.plain.varTypes Try.prog ++ Try.f3.resultTypes.toList)) = true := by kernel_rfl
set_option maxRecDepth 100000 in
theorem closed : joinedFacts Try.pinned.checked.prog 3 Try.f3 Rows.octagonNoneSpec Rows.octagonNoneRow = true := by
  show joinedFacts Try.prog 3 Try.f3 Rows.octagonNoneSpec Rows.octagonNoneRow = true
  unfold joinedFacts
  exact (and_t (and_t (and_t (and_t (and_t (and_t (and_t (and_t (and_t (and_t (and_t (and_t (and_t (and_t (and_t (and_t (and_t (and_t (and_t (and_t (and_t (and_t (and_t (and_t (and_t (and_t (and_t (and_t (and_t (and_t (and_t jf_wf jf_lo) jf_mr) jf_pr) jf_nt) jf_st) jf_ps) jf_kn) jf_pk) jf_ip) jf_uf) jf_re) jf_na) jf_ma) jf_if) jf_mo) jf_lp) jf_wk) jf_vr) jf_rt) jf_io) jf_lu) jf_pl) jf_sh) jf_sd) jf_me) jf_li) jf_mk) jf_ki) jf_pi) jf_ve) jf_vf)
set_option maxRecDepth 100000 in
theorem rr_deed : Try.prog.readableRec 25 = true := by kernel_rfl
set_option maxRecDepth 100000 in
theorem sz_deed : 25 < Try.prog.types.size := of_decide_eq_true (by kernel_rfl)
set_option maxRecDepth 100000 in
theorem lifted (os : Os) (started : os.Started) (H : Type) (enc : TypeId × Value → H) :
    ReturnsInHanded {} Try.checked os 3 .any (Rows.octagonNoneSpec.pre6 enc Try.prog Try.f3 Rows.octagonNoneRow.domain false) (Rows.octagonNoneSpec.post enc Try.prog Try.f3 false true false false) := by
  refine returnsInHanded_of_change (C := Try.checked) own started (by kernel_rfl) Try.func3
    (ChangeSpec.witness6 (enc := enc) (C := Try.checked) false ⟨#[], #[.agg #[.int .i64 0, .int .i64 0, .int .i64 0, .bool false, .bool false, .int .i64 0, .bool false, .int .i64 0, .int .i64 0], .int .i64 0], []⟩ 8 (by kernel_rfl) (by kernel_rfl) (by kernel_rfl) (by kernel_rfl)) ?_
  intro W base args ds gs before hval0 hW hcnd _
  have hval : ∀ (j : Nat) t v, Try.f3.params[j]? = some t → args[j]? = some v → Value.okWide Try.prog W .any base t v := hval0
  have hW' := hW
  obtain ⟨p, q, hA0, hV, rfl, hfz, hnd⟩ := hW
  have hA : DataW.TrodAll enc Try.prog W 0 (fun _ => true) true Try.f3.params.toList args.toList ds p := hA0
  rw [Try.params3] at hA hval
  obtain ⟨v0, vs0, d0, ds0, p0, q0, hargs, rfl, rfl, h0, r0⟩ := trodAll_cons hA
  obtain ⟨v1, vs1, d1, ds1, p1, q1, rfl, rfl, rfl, h1, r1⟩ := trodAll_cons r0
  obtain ⟨rfl, rfl, rfl⟩ := trodAll_nil r1
  obtain rfl : args = #[v0, v1] := by cases args; simp_all
  obtain ⟨rfl, rfl⟩ := trodVars_none hV
  obtain ⟨kd0, i0, k0, ni0, nk0, c0, e0, lo0, hh0, rfl, hp0⟩ := open_deed (hval 0 25 v0 rfl rfl) h0
  obtain ⟨x1, rfl, rfl, rfl, w1⟩ := open_int Try.underlying3 (hval 1 3 v1 rfl rfl) h1
  clear hA0 hval0
  refine ((law_none kd0 i0 k0 ni0 nk0 c0 e0 lo0 hh0 x1) W).mono fun e W' ⟨he, bel⟩ => ?_
  subst he
  exact ⟨_, rfl, _, _, _, [], _, [], hW', trodAll_mk1 (shut_bool Try.underlying4 _), (trodAll_cons_mk (bel.trod jf_lo rr_deed sz_deed h0 hp0) (trodAll_cons_mk (shut_int Try.underlying3 w1) trodAll_mk0)), rfl, bel.frame _, fun h => by cases h⟩
theorem over : Rows.octagonNoneRow.holds Try.pinned (OpenSpec.ofChange Rows.octagonNoneSpec) :=
  OpenClaim.holds_of_wide 3 Try.f3 rfl rfl rfl rfl rfl rfl rfl ⟨rfl, rfl, rfl, rfl, rfl⟩ rfl rfl rfl rfl rfl (by kernel_rfl) Try.func3 closed
    (of_decide_eq_true (by kernel_rfl)) (by unfold Func.isWrapper; first | (rw [if_pos (by decide +kernel)]; kernel_rfl) | (rw [if_neg (by decide +kernel)]; exact ⟨rfl, rfl⟩))
    (fun os started H enc _ => lifted os started H enc)
end Go.Proofs.Ytdfbmafeemflaaa.octagonNoneProof
namespace Go.Proofs.Ytdfbmafeemflaaa
theorem octagonNone_holds : Rows.OctagonNoneSaid := octagonNoneProof.over
end Go.Proofs.Ytdfbmafeemflaaa

