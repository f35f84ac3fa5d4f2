/- Differences in a row add up: of eight variables each at most so much above the one ahead the last one is at most the sum above the first; every seven numbers, without a condition. -/
import Derived.Test.YtdfbmafeemflaaaRows
import Derived.Test.YtdfbmafeemflaaaOcK
import Derived.Test.YtdfbmafeemflaaaOcP
import Derived.Carry
import Derived.Test.YtdfbmafeemflaaaSpAid
import Derived.ProofKit
import Derived.OpenShut
import Derived.ChangeOld
import Derived.Lib.SmallJoins
namespace Go.Proofs.Ytdfbmafeemflaaa.topChainProof
open Go.ChangeShapes Go.WideShapes Go.ChangeAt Go.RowKit Go.Joins
set_option linter.unusedVariables false
theorem own : ownKnob Try.prog.godebug = none := by kernel_rfl
theorem int_of_wf {x : Int} (h : (Lit.int .i64 x).wf = true) : -9223372036854775808 ≤ x ∧ x ≤ 9223372036854775807 := by
  simp [Lit.wf, IntKind.min, IntKind.max, IntKind.signed, IntKind.bits] at h
  exact ⟨by omega, by omega⟩
theorem and_t {a b : Bool} (h1 : a = true) (h2 : b = true) : (a && b) = true := by rw [h1, h2]; rfl
set_option maxRecDepth 100000 in
theorem jf_wf : (Rows.topChainRow.wf (OpenSpec.ofChange Rows.topChainSpec)) = true := by kernel_rfl
set_option maxRecDepth 100000 in
theorem jf_lo : (laidOutB Try.prog) = true := by kernel_rfl
set_option maxRecDepth 100000 in
theorem jf_mr : (mapsRowed Try.prog) = true := by kernel_rfl
set_option maxRecDepth 100000 in
theorem jf_pr : (Try.f4.params.all (Try.prog.readableRec ·)) = true := by kernel_rfl
set_option maxRecDepth 100000 in
theorem jf_nt : (namedTie Try.prog Rows.topChainRow.named Rows.topChainSpec.vars) = true := by kernel_rfl
set_option maxRecDepth 100000 in
theorem jf_st : ((Rows.topChainRow.stops == [])) = true := by kernel_rfl
set_option maxRecDepth 100000 in
theorem jf_ps : ((Try.prog.stops == [])) = true := by kernel_rfl
set_option maxRecDepth 100000 in
theorem jf_kn : ((Rows.topChainRow.knobs == [])) = true := by kernel_rfl
set_option maxRecDepth 100000 in
theorem jf_pk : ((Try.prog.stopKnobs == [])) = true := by kernel_rfl
set_option maxRecDepth 100000 in
theorem jf_ip : ((Rows.topChainRow.inPlace == Try.prog.inPlace 4)) = true := by kernel_rfl
set_option maxRecDepth 100000 in
theorem jf_uf : ((Rows.topChainRow.unfollowed == Try.prog.unfollowed 4)) = true := by kernel_rfl
set_option maxRecDepth 100000 in
theorem jf_re : ((Rows.topChainRow.recurses == Try.prog.recurses 4)) = true := by kernel_rfl
set_option maxRecDepth 100000 in
theorem jf_na : ((Rows.topChainRow.named == Try.prog.varsNamed 4)) = true := by kernel_rfl
set_option maxRecDepth 100000 in
theorem jf_ma : ((Rows.topChainRow.maps == (Try.f4.params.toList ++ Rows.topChainSpec.plain.varTypes Try.prog).any (Try.prog.mapsRec ·))) = true := by kernel_rfl
set_option maxRecDepth 100000 in
theorem jf_if : ((Rows.topChainRow.ifaces == (Try.f4.params.toList ++ Rows.topChainSpec.plain.varTypes Try.prog).any (Try.prog.ifacesRec ·))) = true := by kernel_rfl
set_option maxRecDepth 100000 in
theorem jf_mo : ((Rows.topChainRow.mapsOut == Try.prog.mapsAmong Try.f4.resultTypes.toList)) = true := by kernel_rfl
set_option maxRecDepth 100000 in
theorem jf_lp : ((Rows.topChainRow.loops == (Try.f4.params.toList ++ Rows.topChainSpec.plain.varTypes Try.prog).any (Try.prog.loopsFrom ·))) = true := by kernel_rfl
set_option maxRecDepth 100000 in
theorem jf_wk : ((Rows.topChainRow.wideKeys == (Try.f4.params.toList ++ Rows.topChainSpec.plain.varTypes Try.prog ++ Try.f4.resultTypes.toList).any (Try.prog.wideKeysFrom ·))) = true := by kernel_rfl
set_option maxRecDepth 100000 in
theorem jf_vr : (Rows.topChainSpec.vars.all (Try.prog.varReadable ·)) = true := by kernel_rfl
set_option maxRecDepth 100000 in
theorem jf_rt : (Try.f4.resultTypes.all (fun t => Try.prog.readableRec t && decide (t < Try.prog.types.size))) = true := by kernel_rfl
set_option maxRecDepth 100000 in
theorem jf_io : ((Rows.topChainRow.ifacesOut == Try.f4.resultTypes.toList.any (Try.prog.ifacesRec ·))) = true := by kernel_rfl
set_option maxRecDepth 100000 in
theorem jf_lu : ((Rows.topChainRow.loopsOut == Try.f4.resultTypes.toList.any (Try.prog.loopsFrom ·))) = true := by kernel_rfl
set_option maxRecDepth 100000 in
theorem jf_pl : ((Rows.topChainRow.plainKeys == Try.prog.plainKeys)) = true := by kernel_rfl
set_option maxRecDepth 100000 in
theorem jf_sh : (Rows.topChainRow.shortTexts.isNone) = true := by kernel_rfl
set_option maxRecDepth 100000 in
theorem jf_sd : (Try.prog.stopsHeard) = true := by kernel_rfl
set_option maxRecDepth 100000 in
theorem jf_me : (Try.prog.mayEnter) = true := by kernel_rfl
set_option maxRecDepth 100000 in
theorem jf_li : ((Rows.topChainRow.lifted == Try.prog.liftsFinal)) = true := by kernel_rfl
set_option maxRecDepth 100000 in
theorem jf_mk : ((Try.prog.make == some Rows.topChainRow.make)) = true := by kernel_rfl
set_option maxRecDepth 100000 in
theorem jf_ki : ((Rows.topChainRow.kinds == (if Rows.topChainRow.domain.isEmpty then [] else Try.f4.params.toList.map fun t => match Try.prog.underlying t with | some (.int k) => some k | _ => none))) = true := by kernel_rfl
set_option maxRecDepth 100000 in
theorem jf_pi : ((Rows.topChainRow.pinned == Rows.topChainRow.pinnedBy)) = true := by kernel_rfl
set_option maxRecDepth 100000 in
theorem jf_ve : ((Rows.topChainRow.veiled == (Try.f4.params.toList ++ Rows.topChainSpec.plain.varTypes Try.prog ++ Try.f4.resultTypes.toList).any (Try.prog.veiledRec ·))) = true := by kernel_rfl
set_option maxRecDepth 100000 in
theorem jf_vf : (Rows.topChainRow.veiledFits Try.prog Try.f4.params.toList (Try.f4.params.toList ++ Rows.topChainSpec.plain.varTypes Try.prog ++ Try.f4.resultTypes.toList)) = true := by kernel_rfl
set_option maxRecDepth 100000 in
theorem closed : joinedFacts Try.pinned.checked.prog 4 Try.f4 Rows.topChainSpec Rows.topChainRow = true := by
  show joinedFacts Try.prog 4 Try.f4 Rows.topChainSpec Rows.topChainRow = true
  unfold joinedFacts
  exact (and_t (and_t (and_t (and_t (and_t (and_t (and_t (and_t (and_t (and_t (and_t (and_t (and_t (and_t (and_t (and_t (and_t (and_t (and_t (and_t (and_t (and_t (and_t (and_t (and_t (and_t (and_t (and_t (and_t (and_t (and_t jf_wf jf_lo) jf_mr) jf_pr) jf_nt) jf_st) jf_ps) jf_kn) jf_pk) jf_ip) jf_uf) jf_re) jf_na) jf_ma) jf_if) jf_mo) jf_lp) jf_wk) jf_vr) jf_rt) jf_io) jf_lu) jf_pl) jf_sh) jf_sd) jf_me) jf_li) jf_mk) jf_ki) jf_pi) jf_ve) jf_vf)
set_option maxRecDepth 100000 in
theorem rr_a7 : Try.prog.readableRec 44 = true := by kernel_rfl
set_option maxRecDepth 100000 in
theorem sz_a7 : 44 < Try.prog.types.size := of_decide_eq_true (by kernel_rfl)
set_option maxRecDepth 100000 in
theorem lifted (os : Os) (started : os.Started) (H : Type) (enc : TypeId × Value → H) :
    ReturnsInHanded {} Try.checked os 4 .any (Rows.topChainSpec.pre6 enc Try.prog Try.f4 Rows.topChainRow.domain false) (Rows.topChainSpec.post enc Try.prog Try.f4 false true false false) := by
  refine returnsInHanded_of_change (C := Try.checked) own started (by kernel_rfl) Try.func4
    (ChangeSpec.witness6 (enc := enc) (C := Try.checked) false ⟨#[], #[.agg #[.int .u16 0, .int .u16 0, .int .u16 0, .int .u16 0, .int .u16 0, .int .u16 0, .int .u16 0]], []⟩ 8 (by kernel_rfl) (by kernel_rfl) (by kernel_rfl) (by kernel_rfl)) ?_
  intro W base args ds gs before hval0 hW hcnd _
  have hval : ∀ (j : Nat) t v, Try.f4.params[j]? = some t → args[j]? = some v → Value.okWide Try.prog W .any base t v := hval0
  have hW' := hW
  obtain ⟨p, q, hA0, hV, rfl, hfz, hnd⟩ := hW
  have hA : DataW.TrodAll enc Try.prog W 0 (fun _ => true) true Try.f4.params.toList args.toList ds p := hA0
  rw [Try.params4] at hA hval
  obtain ⟨v0, vs0, d0, ds0, p0, q0, hargs, rfl, rfl, h0, r0⟩ := trodAll_cons hA
  obtain ⟨rfl, rfl, rfl⟩ := trodAll_nil r0
  obtain rfl : args = #[v0] := by cases args; simp_all
  obtain ⟨rfl, rfl⟩ := trodVars_none hV
  obtain ⟨A0, z0, rfl, hz0, hR0, hp0⟩ := open_a7 (hval 0 44 v0 rfl rfl) h0
  clear hA0 hval0
  refine ((law_chain A0 z0 hz0 hR0) W).mono fun e W' ⟨he, bel⟩ => ?_
  subst he
  exact ⟨_, rfl, _, _, _, [], _, [], hW', trodAll_mk1 (shut_bool Try.underlying4 _), (trodAll_cons_mk (bel.trod jf_lo rr_a7 sz_a7 h0 hp0) trodAll_mk0), rfl, bel.frame _, fun h => by cases h⟩
theorem over : Rows.topChainRow.holds Try.pinned (OpenSpec.ofChange Rows.topChainSpec) :=
  OpenClaim.holds_of_wide 4 Try.f4 rfl rfl rfl rfl rfl rfl rfl ⟨rfl, rfl, rfl, rfl, rfl⟩ rfl rfl rfl rfl rfl (by kernel_rfl) Try.func4 closed
    (of_decide_eq_true (by kernel_rfl)) (by unfold Func.isWrapper; first | (rw [if_pos (by decide +kernel)]; kernel_rfl) | (rw [if_neg (by decide +kernel)]; exact ⟨rfl, rfl⟩))
    (fun os started H enc _ => lifted os started H enc)
end Go.Proofs.Ytdfbmafeemflaaa.topChainProof
namespace Go.Proofs.Ytdfbmafeemflaaa
theorem topChain_holds : Rows.TopChainSaid := topChainProof.over
end Go.Proofs.Ytdfbmafeemflaaa

