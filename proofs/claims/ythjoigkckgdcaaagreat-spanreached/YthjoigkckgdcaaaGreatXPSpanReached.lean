/- For every op and two ranges of floats of a format that are right and not Empty: if span.Two by Add, Sub or Mul tells no trap, its range is not Empty, and each of its ends is what two ends come to. -/
import Derived.Test.YthjoigkckgdcaaaGreatRows
import Derived.Test.YthjoigkckgdcaaaGreatXG4
import Derived.Test.YthjoigkckgdcaaaGreatXSpAid
import Derived.ProofKit
import Derived.OpenShut
import Derived.ChangeOld
import Derived.Lib.SmallJoins
namespace Go.Proofs.YthjoigkckgdcaaaGreat.spanReachedProof
open Go.ChangeShapes Go.WideShapes Go.ChangeAt Go.RowKit Go.Joins
set_option linter.unusedVariables false
theorem own : ownKnob Tryz.prog.godebug = none := by kernel_rfl
theorem word_of_wf {x : Int} (h : (Lit.int .u64 x).wf = true) : Word x := by
  simp [Lit.wf, IntKind.min, IntKind.max, IntKind.signed, IntKind.bits] at h
  exact ⟨by omega, by omega⟩
theorem int_of_wf {x : Int} (h : (Lit.int .i64 x).wf = true) : -9223372036854775808 ≤ x ∧ x ≤ 9223372036854775807 := by
  simp [Lit.wf, IntKind.min, IntKind.max, IntKind.signed, IntKind.bits] at h
  exact ⟨by omega, by omega⟩
theorem and_t {a b : Bool} (h1 : a = true) (h2 : b = true) : (a && b) = true := by rw [h1, h2]; rfl
set_option maxRecDepth 100000 in
theorem jf_wf : (Rows.spanReachedRow.wf (OpenSpec.ofChange Rows.spanReachedSpec)) = true := by kernel_rfl
set_option maxRecDepth 100000 in
theorem jf_lo : (laidOutB Tryz.prog) = true := by kernel_rfl
set_option maxRecDepth 100000 in
theorem jf_mr : (mapsRowed Tryz.prog) = true := by kernel_rfl
set_option maxRecDepth 100000 in
theorem jf_pr : (Tryz.f14.params.all (Tryz.prog.readableRec ·)) = true := by kernel_rfl
set_option maxRecDepth 100000 in
theorem jf_nt : (namedTie Tryz.prog Rows.spanReachedRow.named Rows.spanReachedSpec.vars) = true := by kernel_rfl
set_option maxRecDepth 100000 in
theorem jf_st : ((Rows.spanReachedRow.stops == [])) = true := by kernel_rfl
set_option maxRecDepth 100000 in
theorem jf_ps : ((Tryz.prog.stops == [])) = true := by kernel_rfl
set_option maxRecDepth 100000 in
theorem jf_kn : ((Rows.spanReachedRow.knobs == [])) = true := by kernel_rfl
set_option maxRecDepth 100000 in
theorem jf_pk : ((Tryz.prog.stopKnobs == [])) = true := by kernel_rfl
set_option maxRecDepth 100000 in
theorem jf_ip : ((Rows.spanReachedRow.inPlace == Tryz.prog.inPlace 14)) = true := by kernel_rfl
set_option maxRecDepth 100000 in
theorem jf_uf : ((Rows.spanReachedRow.unfollowed == Tryz.prog.unfollowed 14)) = true := by kernel_rfl
set_option maxRecDepth 100000 in
theorem jf_re : ((Rows.spanReachedRow.recurses == Tryz.prog.recurses 14)) = true := by kernel_rfl
set_option maxRecDepth 100000 in
theorem jf_na : ((Rows.spanReachedRow.named == Tryz.prog.varsNamed 14)) = true := by kernel_rfl
set_option maxRecDepth 100000 in
theorem jf_ma : ((Rows.spanReachedRow.maps == (Tryz.f14.params.toList ++ Rows.spanReachedSpec.plain.varTypes Tryz.prog).any (Tryz.prog.mapsRec ·))) = true := by kernel_rfl
set_option maxRecDepth 100000 in
theorem jf_if : ((Rows.spanReachedRow.ifaces == (Tryz.f14.params.toList ++ Rows.spanReachedSpec.plain.varTypes Tryz.prog).any (Tryz.prog.ifacesRec ·))) = true := by kernel_rfl
set_option maxRecDepth 100000 in
theorem jf_mo : ((Rows.spanReachedRow.mapsOut == Tryz.prog.mapsAmong Tryz.f14.resultTypes.toList)) = true := by kernel_rfl
set_option maxRecDepth 100000 in
theorem jf_lp : ((Rows.spanReachedRow.loops == (Tryz.f14.params.toList ++ Rows.spanReachedSpec.plain.varTypes Tryz.prog).any (Tryz.prog.loopsFrom ·))) = true := by kernel_rfl
set_option maxRecDepth 100000 in
theorem jf_wk : ((Rows.spanReachedRow.wideKeys == (Tryz.f14.params.toList ++ Rows.spanReachedSpec.plain.varTypes Tryz.prog ++ Tryz.f14.resultTypes.toList).any (Tryz.prog.wideKeysFrom ·))) = true := by kernel_rfl
set_option maxRecDepth 100000 in
theorem jf_vr : (Rows.spanReachedSpec.vars.all (Tryz.prog.varReadable ·)) = true := by kernel_rfl
set_option maxRecDepth 100000 in
theorem jf_rt : (Tryz.f14.resultTypes.all (fun t => Tryz.prog.readableRec t && decide (t < Tryz.prog.types.size))) = true := by kernel_rfl
set_option maxRecDepth 100000 in
theorem jf_io : ((Rows.spanReachedRow.ifacesOut == Tryz.f14.resultTypes.toList.any (Tryz.prog.ifacesRec ·))) = true := by kernel_rfl
set_option maxRecDepth 100000 in
theorem jf_lu : ((Rows.spanReachedRow.loopsOut == Tryz.f14.resultTypes.toList.any (Tryz.prog.loopsFrom ·))) = true := by kernel_rfl
set_option maxRecDepth 100000 in
theorem jf_pl : ((Rows.spanReachedRow.plainKeys == Tryz.prog.plainKeys)) = true := by kernel_rfl
set_option maxRecDepth 100000 in
theorem jf_sh : (Rows.spanReachedRow.shortTexts.isNone) = true := by kernel_rfl
set_option maxRecDepth 100000 in
theorem jf_sd : (Tryz.prog.stopsHeard) = true := by kernel_rfl
set_option maxRecDepth 100000 in
theorem jf_me : (Tryz.prog.mayEnter) = true := by kernel_rfl
set_option maxRecDepth 100000 in
theorem jf_li : ((Rows.spanReachedRow.lifted == Tryz.prog.liftsFinal)) = true := by kernel_rfl
set_option maxRecDepth 100000 in
theorem jf_mk : ((Tryz.prog.make == some Rows.spanReachedRow.make)) = true := by kernel_rfl
set_option maxRecDepth 100000 in
theorem jf_ki : ((Rows.spanReachedRow.kinds == (if Rows.spanReachedRow.domain.isEmpty then [] else Tryz.f14.params.toList.map fun t => match Tryz.prog.underlying t with | some (.int k) => some k | _ => none))) = true := by kernel_rfl
set_option maxRecDepth 100000 in
theorem jf_pi : ((Rows.spanReachedRow.pinned == Rows.spanReachedRow.pinnedBy)) = true := by kernel_rfl
set_option maxRecDepth 100000 in
theorem jf_ve : ((Rows.spanReachedRow.veiled == (Tryz.f14.params.toList ++ Rows.spanReachedSpec.plain.varTypes Tryz.prog ++ Tryz.f14.resultTypes.toList).any (Tryz.prog.veiledRec ·))) = true := by kernel_rfl
set_option maxRecDepth 100000 in
theorem jf_vf : (Rows.spanReachedRow.veiledFits Tryz.prog Tryz.f14.params.toList (Tryz.f14.params.toList ++ Rows.spanReachedSpec.plain.varTypes Tryz.prog ++ Tryz.f14.resultTypes.toList)) = true := by kernel_rfl
set_option maxRecDepth 100000 in
theorem closed : joinedFacts Tryz.pinned.checked.prog 14 Tryz.f14 Rows.spanReachedSpec Rows.spanReachedRow = true := by
  show joinedFacts Tryz.prog 14 Tryz.f14 Rows.spanReachedSpec Rows.spanReachedRow = true
  unfold joinedFacts
  exact (and_t (and_t (and_t (and_t (and_t (and_t (and_t (and_t (and_t (and_t (and_t (and_t (and_t (and_t (and_t (and_t (and_t (and_t (and_t (and_t (and_t (and_t (and_t (and_t (and_t (and_t (and_t (and_t (and_t (and_t (and_t jf_wf jf_lo) jf_mr) jf_pr) jf_nt) jf_st) jf_ps) jf_kn) jf_pk) jf_ip) jf_uf) jf_re) jf_na) jf_ma) jf_if) jf_mo) jf_lp) jf_wk) jf_vr) jf_rt) jf_io) jf_lu) jf_pl) jf_sh) jf_sd) jf_me) jf_li) jf_mk) jf_ki) jf_pi) jf_ve) jf_vf)
set_option maxRecDepth 100000 in
theorem lifted (os : Os) (started : os.Started) (H : Type) (enc : TypeId × Value → H) :
    ReturnsInHanded {} Tryz.checked os 14 .any (Rows.spanReachedSpec.pre6 enc Tryz.prog Tryz.f14 Rows.spanReachedRow.domain false) (Rows.spanReachedSpec.post enc Tryz.prog Tryz.f14 false true false false) := by
  refine returnsInHanded_of_change (C := Tryz.checked) own started (by kernel_rfl) Tryz.func14
    (ChangeSpec.witness6 (enc := enc) (C := Tryz.checked) false ⟨#[], #[.int .i64 0, .agg #[.int .i64 0, .bool false, .int .u64 0, .int .u64 0, .bool false, .int .u64 0, .int .u64 0]], []⟩ 8 (by kernel_rfl) (by kernel_rfl) (by kernel_rfl) (by kernel_rfl)) ?_
  intro W base args ds gs before hval0 hW hcnd _
  have hval : ∀ (j : Nat) t v, Tryz.f14.params[j]? = some t → args[j]? = some v → Value.okWide Tryz.prog W .any base t v := hval0
  have hW' := hW
  obtain ⟨p, q, hA0, hV, rfl, hfz, hnd⟩ := hW
  have hA : DataW.TrodAll enc Tryz.prog W 0 (fun _ => true) true Tryz.f14.params.toList args.toList ds p := hA0
  rw [Tryz.params14] at hA hval
  obtain ⟨v0, vs0, d0, ds0, p0, q0, hargs, rfl, rfl, h0, r0⟩ := trodAll_cons hA
  obtain ⟨v1, vs1, d1, ds1, p1, q1, rfl, rfl, rfl, h1, r1⟩ := trodAll_cons r0
  obtain ⟨rfl, rfl, rfl⟩ := trodAll_nil r1
  obtain rfl : args = #[v0, v1] := by cases args; simp_all
  obtain ⟨rfl, rfl⟩ := trodVars_none hV
  obtain ⟨x0, rfl, rfl, rfl, w0⟩ := open_int Tryz.underlying37 (hval 0 37 v0 rfl rfl) h0
  obtain ⟨x1_0, b1_0, x1_1, x1_2, b1_1, x1_3, x1_4, rfl, rfl, rfl, w1_0, w1_1, w1_2, w1_3, w1_4⟩ := open_two (hval 1 27 v1 rfl rfl) h1
  clear hA0 hval0
  refine (law_reached x0 x1_0 b1_0 x1_1 x1_2 b1_1 x1_3 x1_4 (word_of_wf w1_1) (word_of_wf w1_2) (word_of_wf w1_3) (word_of_wf w1_4) W).mono fun e W' ⟨he, bel⟩ => ?_
  subst he
  exact ⟨_, rfl, _, _, _, [], _, [], hW', trodAll_mk1 (shut_bool Tryz.underlying4 _), (trodAll_cons_mk (shut_int Tryz.underlying37 w0) (trodAll_cons_mk (shut_two b1_0 b1_1 w1_0 w1_1 w1_2 w1_3 w1_4) trodAll_mk0)), rfl, bel.frame _, fun h => by cases h⟩
theorem over : Rows.spanReachedRow.holds Tryz.pinned (OpenSpec.ofChange Rows.spanReachedSpec) :=
  OpenClaim.holds_of_wide 14 Tryz.f14 rfl rfl rfl rfl rfl rfl rfl ⟨rfl, rfl, rfl, rfl, rfl⟩ rfl rfl rfl rfl rfl (by kernel_rfl) Tryz.func14 closed
    (of_decide_eq_true (by kernel_rfl)) (by unfold Func.isWrapper; first | (rw [if_pos (by decide +kernel)]; kernel_rfl) | (rw [if_neg (by decide +kernel)]; exact ⟨rfl, rfl⟩))
    (fun os started H enc _ => lifted os started H enc)
end Go.Proofs.YthjoigkckgdcaaaGreat.spanReachedProof
namespace Go.Proofs.YthjoigkckgdcaaaGreat
theorem spanReached_holds : Rows.SpanReachedSaid := spanReachedProof.over
end Go.Proofs.YthjoigkckgdcaaaGreat

