/- Where variables lie in greater ranges, a form has a greater range; every form, and two rows of ranges, without a condition. -/
import Derived.Test.YteafnkimcidkhaaGreatRXPLinearMore
import Derived.Test.YteafnkimcidkhaaGreatRG1
import Derived.Test.YteafnkimcidkhaaGreatRG2
import Derived.Test.YteafnkimcidkhaaGreatRSpWf
import Derived.Test.YteafnkimcidkhaaGreatShelf
import Derived.Test.YteafnkimcidkhaaGreatRMB1
import Derived.Test.YteafnkimcidkhaaGreatRMB2
import Derived.Test.YteafnkimcidkhaaGreatRMB3
import Derived.Test.YteafnkimcidkhaaGreatRSpF
import Derived.Test.YteafnkimcidkhaaGreatRSpFl
import Derived.Test.YteafnkimcidkhaaGreatRLjF
import Derived.Test.YteafnkimcidkhaaGreatRLjH
import Derived.Test.YteafnkimcidkhaaGreatRG3
import Derived.Test.YteafnkimcidkhaaGreatRLiF
import Derived.Test.YteafnkimcidkhaaGreatRLiG
import Derived.Test.YteafnkimcidkhaaGreatRLiH
import Derived.Test.YteafnkimcidkhaaGreatRLiI
import Derived.Test.YteafnkimcidkhaaGreatRLiJ
import Derived.Test.YteafnkimcidkhaaGreatRLiK
import Derived.Test.YteafnkimcidkhaaGreatRLiL
import Derived.Test.YteafnkimcidkhaaGreatRLiB
import Derived.Test.YteafnkimcidkhaaGreatRMB4
import Derived.Test.YteafnkimcidkhaaGreatRMB5
import Derived.Test.YteafnkimcidkhaaGreatRLiO
import Derived.Test.YteafnkimcidkhaaGreatRG5
import Derived.Test.YteafnkimcidkhaaGreatRG4
import Derived.Test.YteafnkimcidkhaaGreatRG6
import Derived.Test.YteafnkimcidkhaaGreatRG7
import Derived.Test.YteafnkimcidkhaaGreatRG8
import Derived.Test.YteafnkimcidkhaaGreatRG9
import Derived.Test.YteafnkimcidkhaaGreatRows
import Derived.Carry
import Derived.ProofKit
import Derived.OpenShut
import Derived.ChangeOld
import Derived.Lib.SmallJoins
namespace Go.Proofs.YteafnkimcidkhaaGreat.linearMoreProof
open Go.ChangeShapes Go.WideShapes Go.ChangeAt Go.RowKit Go.Joins
set_option linter.unusedVariables false
theorem own : ownKnob Tryz.prog.godebug = none := by kernel_rfl
theorem word_of_wf {x : Int} (h : (Lit.int .u64 x).wf = true) : Word x := by
  simp [Lit.wf, IntKind.min, IntKind.max, IntKind.signed, IntKind.bits] at h
  exact ⟨by omega, by omega⟩
theorem int_of_wf {x : Int} (h : (Lit.int .i64 x).wf = true) : -9223372036854775808 ≤ x ∧ x ≤ 9223372036854775807 := by
  simp [Lit.wf, IntKind.min, IntKind.max, IntKind.signed, IntKind.bits] at h
  exact ⟨by omega, by omega⟩
theorem and_t {a b : Bool} (h1 : a = true) (h2 : b = true) : (a && b) = true := by rw [h1, h2]; rfl
set_option maxRecDepth 100000 in
theorem jf_wf : (Rows.linearMoreRow.wf (OpenSpec.ofChange Rows.linearMoreSpec)) = true := by kernel_rfl
set_option maxRecDepth 100000 in
theorem jf_lo : (laidOutB Tryz.prog) = true := by kernel_rfl
set_option maxRecDepth 100000 in
theorem jf_mr : (mapsRowed Tryz.prog) = true := by kernel_rfl
set_option maxRecDepth 100000 in
theorem jf_pr : (Tryz.f10.params.all (Tryz.prog.readableRec ·)) = true := by kernel_rfl
set_option maxRecDepth 100000 in
theorem jf_nt : (namedTie Tryz.prog Rows.linearMoreRow.named Rows.linearMoreSpec.vars) = true := by kernel_rfl
set_option maxRecDepth 100000 in
theorem jf_st : ((Rows.linearMoreRow.stops == [])) = true := by kernel_rfl
set_option maxRecDepth 100000 in
theorem jf_ps : ((Tryz.prog.stops == [])) = true := by kernel_rfl
set_option maxRecDepth 100000 in
theorem jf_kn : ((Rows.linearMoreRow.knobs == [])) = true := by kernel_rfl
set_option maxRecDepth 100000 in
theorem jf_pk : ((Tryz.prog.stopKnobs == [])) = true := by kernel_rfl
set_option maxRecDepth 100000 in
theorem jf_ip : ((Rows.linearMoreRow.inPlace == Tryz.prog.inPlace 10)) = true := by kernel_rfl
set_option maxRecDepth 100000 in
theorem jf_uf : ((Rows.linearMoreRow.unfollowed == Tryz.prog.unfollowed 10)) = true := by kernel_rfl
set_option maxRecDepth 100000 in
theorem jf_re : ((Rows.linearMoreRow.recurses == Tryz.prog.recurses 10)) = true := by kernel_rfl
set_option maxRecDepth 100000 in
theorem jf_na : ((Rows.linearMoreRow.named == Tryz.prog.varsNamed 10)) = true := by kernel_rfl
set_option maxRecDepth 100000 in
theorem jf_ma : ((Rows.linearMoreRow.maps == (Tryz.f10.params.toList ++ Rows.linearMoreSpec.plain.varTypes Tryz.prog).any (Tryz.prog.mapsRec ·))) = true := by kernel_rfl
set_option maxRecDepth 100000 in
theorem jf_if : ((Rows.linearMoreRow.ifaces == (Tryz.f10.params.toList ++ Rows.linearMoreSpec.plain.varTypes Tryz.prog).any (Tryz.prog.ifacesRec ·))) = true := by kernel_rfl
set_option maxRecDepth 100000 in
theorem jf_mo : ((Rows.linearMoreRow.mapsOut == Tryz.prog.mapsAmong Tryz.f10.resultTypes.toList)) = true := by kernel_rfl
set_option maxRecDepth 100000 in
theorem jf_lp : ((Rows.linearMoreRow.loops == (Tryz.f10.params.toList ++ Rows.linearMoreSpec.plain.varTypes Tryz.prog).any (Tryz.prog.loopsFrom ·))) = true := by kernel_rfl
set_option maxRecDepth 100000 in
theorem jf_wk : ((Rows.linearMoreRow.wideKeys == (Tryz.f10.params.toList ++ Rows.linearMoreSpec.plain.varTypes Tryz.prog ++ Tryz.f10.resultTypes.toList).any (Tryz.prog.wideKeysFrom ·))) = true := by kernel_rfl
set_option maxRecDepth 100000 in
theorem jf_vr : (Rows.linearMoreSpec.vars.all (Tryz.prog.varReadable ·)) = true := by kernel_rfl
set_option maxRecDepth 100000 in
theorem jf_rt : (Tryz.f10.resultTypes.all (fun t => Tryz.prog.readableRec t && decide (t < Tryz.prog.types.size))) = true := by kernel_rfl
set_option maxRecDepth 100000 in
theorem jf_io : ((Rows.linearMoreRow.ifacesOut == Tryz.f10.resultTypes.toList.any (Tryz.prog.ifacesRec ·))) = true := by kernel_rfl
set_option maxRecDepth 100000 in
theorem jf_lu : ((Rows.linearMoreRow.loopsOut == Tryz.f10.resultTypes.toList.any (Tryz.prog.loopsFrom ·))) = true := by kernel_rfl
set_option maxRecDepth 100000 in
theorem jf_pl : ((Rows.linearMoreRow.plainKeys == Tryz.prog.plainKeys)) = true := by kernel_rfl
set_option maxRecDepth 100000 in
theorem jf_sh : (Rows.linearMoreRow.shortTexts.isNone) = true := by kernel_rfl
set_option maxRecDepth 100000 in
theorem jf_sd : (Tryz.prog.stopsHeard) = true := by kernel_rfl
set_option maxRecDepth 100000 in
theorem jf_me : (Tryz.prog.mayEnter) = true := by kernel_rfl
set_option maxRecDepth 100000 in
theorem jf_li : ((Rows.linearMoreRow.lifted == Tryz.prog.liftsFinal)) = true := by kernel_rfl
set_option maxRecDepth 100000 in
theorem jf_mk : ((Tryz.prog.make == some Rows.linearMoreRow.make)) = true := by kernel_rfl
set_option maxRecDepth 100000 in
theorem jf_ki : ((Rows.linearMoreRow.kinds == (if Rows.linearMoreRow.domain.isEmpty then [] else Tryz.f10.params.toList.map fun t => match Tryz.prog.underlying t with | some (.int k) => some k | _ => none))) = true := by kernel_rfl
set_option maxRecDepth 100000 in
theorem jf_pi : ((Rows.linearMoreRow.pinned == Rows.linearMoreRow.pinnedBy)) = true := by kernel_rfl
set_option maxRecDepth 100000 in
theorem jf_ve : ((Rows.linearMoreRow.veiled == (Tryz.f10.params.toList ++ Rows.linearMoreSpec.plain.varTypes Tryz.prog ++ Tryz.f10.resultTypes.toList).any (Tryz.prog.veiledRec ·))) = true := by kernel_rfl
set_option maxRecDepth 100000 in
theorem jf_vf : (Rows.linearMoreRow.veiledFits Tryz.prog Tryz.f10.params.toList (Tryz.f10.params.toList ++ Rows.linearMoreSpec.plain.varTypes Tryz.prog ++ Tryz.f10.resultTypes.toList)) = true := by kernel_rfl
set_option maxRecDepth 100000 in
theorem closed : joinedFacts Tryz.pinned.checked.prog 10 Tryz.f10 Rows.linearMoreSpec Rows.linearMoreRow = true := by
  show joinedFacts Tryz.prog 10 Tryz.f10 Rows.linearMoreSpec Rows.linearMoreRow = true
  unfold joinedFacts
  exact (and_t (and_t (and_t (and_t (and_t (and_t (and_t (and_t (and_t (and_t (and_t (and_t (and_t (and_t (and_t (and_t (and_t (and_t (and_t (and_t (and_t (and_t (and_t (and_t (and_t (and_t (and_t (and_t (and_t (and_t (and_t jf_wf jf_lo) jf_mr) jf_pr) jf_nt) jf_st) jf_ps) jf_kn) jf_pk) jf_ip) jf_uf) jf_re) jf_na) jf_ma) jf_if) jf_mo) jf_lp) jf_wk) jf_vr) jf_rt) jf_io) jf_lu) jf_pl) jf_sh) jf_sd) jf_me) jf_li) jf_mk) jf_ki) jf_pi) jf_ve) jf_vf)
set_option maxRecDepth 100000 in
theorem fm_rr : Tryz.prog.readableRec 31 = true := by kernel_rfl
set_option maxRecDepth 100000 in
theorem fm_sz : 31 < Tryz.prog.types.size := of_decide_eq_true (by kernel_rfl)
set_option maxRecDepth 100000 in
theorem sr_rr : Tryz.prog.readableRec 51 = true := by kernel_rfl
set_option maxRecDepth 100000 in
theorem sr_sz : 51 < Tryz.prog.types.size := of_decide_eq_true (by kernel_rfl)
set_option maxRecDepth 100000 in
theorem lifted (os : Os) (started : os.Started) (H : Type) (enc : TypeId × Value → H) :
    ReturnsInHanded {} Tryz.checked os 10 .any (Rows.linearMoreSpec.pre6 enc Tryz.prog Tryz.f10 Rows.linearMoreRow.domain false) (Rows.linearMoreSpec.post enc Tryz.prog Tryz.f10 false true false false) := by
  refine returnsInHanded_of_change (C := Tryz.checked) own started (by kernel_rfl) Tryz.func10
    (ChangeSpec.witness6 (enc := enc) (C := Tryz.checked) false ⟨#[], #[.agg #[.bool false, .bool false, .int .u64 0, .int .u64 0, .slice none 0 0], .slice none 0 0, .slice none 0 0], []⟩ 8 (by kernel_rfl) (by kernel_rfl) (by kernel_rfl) (by kernel_rfl)) ?_
  intro W base args ds gs before hval0 hW hcnd _
  have hval : ∀ (j : Nat) t v, Tryz.f10.params[j]? = some t → args[j]? = some v → Value.okWide Tryz.prog W .any base t v := hval0
  have hW' := hW
  obtain ⟨p, q, hA0, hV, rfl, hfz, hnd⟩ := hW
  have hA : DataW.TrodAll enc Tryz.prog W 0 (fun _ => true) true Tryz.f10.params.toList args.toList ds p := hA0
  rw [Tryz.params10] at hA hval
  obtain ⟨v0, vs0, d0, ds0, p0, q0, hargs, rfl, rfl, h0, r0⟩ := trodAll_cons hA
  obtain ⟨v1, vs1, d1, ds1, p1, q1, rfl, rfl, rfl, h1, r1⟩ := trodAll_cons r0
  obtain ⟨v2, vs2, d2, ds2, p2, q2, rfl, rfl, rfl, h2, r2⟩ := trodAll_cons r1
  obtain ⟨rfl, rfl, rfl⟩ := trodAll_nil r2
  obtain rfl : args = #[v0, v1, v2] := by cases args; simp_all
  obtain ⟨rfl, rfl⟩ := trodVars_none hV
  obtain ⟨wh0, e0, a0, b0, s0, ls0, rfl, wa0, wb0, hs0, hw0, hp0⟩ := open_form (hval 0 31 v0 rfl rfl) h0
  obtain ⟨rs1, hs1, hw1, hn1, hp1⟩ := open_slfr (hval 1 51 v1 rfl rfl) h1
  obtain ⟨rs2, hs2, hw2, hn2, hp2⟩ := open_slfr (hval 2 51 v2 rfl rfl) h2
  clear hA0 hval0
  refine (law_more wh0 e0 a0 b0 s0 ls0 wa0 wb0 hw0 v1 v2 rs1 rs2 hw1 hw2 W hs0 hs1 hs2).mono fun e W' ⟨he, bel⟩ => ?_
  subst he
  exact ⟨_, rfl, _, _, _, [], _, [], hW', trodAll_mk1 (shut_bool Tryz.underlying4 _), (trodAll_cons_mk (bel.trod jf_lo fm_rr fm_sz h0 hp0) (trodAll_cons_mk (bel.trod jf_lo sr_rr sr_sz h1 hp1) (trodAll_cons_mk (bel.trod jf_lo sr_rr sr_sz h2 hp2) trodAll_mk0))), rfl, bel.frame _, fun h => by cases h⟩
theorem over : Rows.linearMoreRow.holds Tryz.pinned (OpenSpec.ofChange Rows.linearMoreSpec) :=
  OpenClaim.holds_of_wide 10 Tryz.f10 rfl rfl rfl rfl rfl rfl rfl ⟨rfl, rfl, rfl, rfl, rfl⟩ rfl rfl rfl rfl rfl (by kernel_rfl) Tryz.func10 closed
    (of_decide_eq_true (by kernel_rfl)) (by unfold Func.isWrapper; first | (rw [if_pos (by decide +kernel)]; kernel_rfl) | (rw [if_neg (by decide +kernel)]; exact ⟨rfl, rfl⟩))
    (fun os started H enc _ => lifted os started H enc)
end Go.Proofs.YteafnkimcidkhaaGreat.linearMoreProof
namespace Go.Proofs.YteafnkimcidkhaaGreat
theorem linearMore_holds : Rows.LinearMoreSaid := linearMoreProof.over
end Go.Proofs.YteafnkimcidkhaaGreat

