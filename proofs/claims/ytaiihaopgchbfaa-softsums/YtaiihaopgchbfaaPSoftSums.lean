/- For every format, mode and two floats soft.Add and soft.Sub answer, bit by bit, the true sum and difference, rounded as the mode says, as the reference of the document has them: no condition. -/
import Derived.Test.YtaiihaopgchbfaaRows
import Derived.Test.YtaiihaopgchbfaaSRefY
import Derived.Test.YtaiihaopgchbfaaSRefF
import Derived.Test.YtaiihaopgchbfaaSoftLive
import Derived.ProofKit
import Derived.OpenShut
import Derived.ChangeOld
import Derived.Lib.SmallJoins
namespace Go.Proofs.Ytaiihaopgchbfaa
open Go.RowKit
set_option linter.unusedVariables false
theorem rsubF_any (s : Bool) (m a b : Int) (h1 : Word a) (h2 : Word b) (w : World) :
    Calls Try.prog 10 #[.int .i64 (fb s), .int .i64 m, .int .u64 a, .int .u64 b] w fun r w' => r = .returned (.int .u64 (subF s m a b)) ∧ Below w.heap.size w w' := by
  have hn := rneg_any s b h2
  have ha := raddF_any s m a (negF s b) h1 (negF_word _ b h2)
  unfold subF
  generalize addF s m a (negF s b) = V at *
  generalize negF s b = N at *
  generalize fb s = f at *
  go_enter Try.func10, Try.ntmps10
  go_wp2_with fail
  refine (hn _).mono ?_
  rintro r w1 ⟨rfl, k, rfl⟩
  go_wp2_with fail
  refine (ha _).mono ?_
  rintro r w2 ⟨rfl, hb2⟩
  go_wp2_with fail
  go_ret
  exact ⟨rfl, below_callY (drewNY w k) hb2⟩
set_option maxRecDepth 8000 in
set_option maxHeartbeats 3200000 in
theorem law_softsums (f m a b : Int) (hf1 : -9223372036854775808 ≤ f) (hf2 : f ≤ 9223372036854775807) (hm1 : -9223372036854775808 ≤ m) (hm2 : m ≤ 9223372036854775807) (h1 : Word a) (h2 : Word b) (w : World) :
    Calls Try.prog 3 #[.agg #[.int .i64 f, .int .i64 m], .int .u64 a, .int .u64 b] w fun e w' => e = .returned (.bool true) ∧ Below w.heap.size w w' := by
  have ha := add_fl f m a b h1 h2
  have hs := sub_fl f m a b h1 h2
  have hra := raddF_any (f == 1) m a b h1 h2
  have hrs := rsubF_any (f == 1) m a b h1 h2
  have hf := format_any f
  generalize fb (f == 1) = g at *
  generalize addF (f == 1) m a b = V at *
  generalize subF (f == 1) m a b = U at *
  have c0 := cell_new0 w (.int .i64 f) (.int .i64 m) 25
  have c1 := cell_new1 w (.int .i64 f) (.int .i64 m) 25
  have L := (Below.refl w.heap.size w).alloc (Nat.le_refl _) (.cells #[.int .i64 f, .int .i64 m] 25)
  go_enter Try.func3, Try.ntmps3
  go_wp2_with (first
      | (go_at_call 5; refine (hf _).mono ?_; rintro e w2 ⟨rfl, rfl⟩)
      | fail)
  go_region_held3 (fun w' => w'.cell? ⟨w.heap.size, 0, none⟩ = some (.int .i64 f) ∧ w'.cell? ⟨w.heap.size, 1, none⟩ = some (.int .i64 m))
    (first | exact ⟨c0, c1⟩ | (simp [go_sem, *]; done))
    (first
      | (go_at_call 6; refine (slive_any _).mono ?_; rintro e w1 ⟨rfl, hb1⟩; replace c0 := cell_on hb1 c0; replace c1 := cell_on hb1 c1; replace L := below_call L.drew hb1)
      | (go_at_call 7; refine (ha _).mono ?_; rintro e w2 ⟨rfl, hb2⟩; replace c0 := cell_on hb2 c0; replace c1 := cell_on hb2 c1; replace L := below_call L hb2)
      | (go_at_call 8; refine (hra _).mono ?_; rintro e w2 ⟨rfl, hb2⟩; replace c0 := cell_on hb2 c0; replace c1 := cell_on hb2 c1; replace L := below_call L hb2)
      | (go_at_call 9; refine (hs _).mono ?_; rintro e w2 ⟨rfl, hb2⟩; replace c0 := cell_on hb2 c0; replace c1 := cell_on hb2 c1; replace L := below_call L hb2)
      | (go_at_call 10; refine (hrs _).mono ?_; rintro e w2 ⟨rfl, hb2⟩; replace c0 := cell_on hb2 c0; replace c1 := cell_on hb2 c1; replace L := below_call L hb2)
      | fail)
  go_wp2_with fail
  go_ret
  exact ⟨rfl, L⟩
end Go.Proofs.Ytaiihaopgchbfaa
namespace Go.Proofs.Ytaiihaopgchbfaa.softSumsProof
open Go.ChangeShapes Go.WideShapes Go.ChangeAt Go.RowKit Go.Joins
set_option linter.unusedVariables false

theorem own : ownKnob Try.prog.godebug = none := by kernel_rfl
theorem laidOut : laidOutB Try.prog = true := by kernel_rfl
theorem word_of_wf {x : Int} (h : (Lit.int .u64 x).wf = true) : Word x := by
  simp [Lit.wf, IntKind.min, IntKind.max, IntKind.signed, IntKind.bits] at h
  exact ⟨by omega, by omega⟩
theorem int_of_wf {x : Int} (h : (Lit.int .i64 x).wf = true) : -9223372036854775808 ≤ x ∧ x ≤ 9223372036854775807 := by
  simp [Lit.wf, IntKind.min, IntKind.max, IntKind.signed, IntKind.bits] at h
  exact ⟨by omega, by omega⟩
theorem cells25 : Try.prog.cellsOf 25 = 2 := by kernel_rfl
theorem shutP {H : Type} {enc : TypeId × Value → H} {W : World} {base : Nat} {sp : Nat → Bool} {held : Bool} {x l : Int} (wx : (Lit.int .i64 x).wf = true) (wl : (Lit.int .i64 l).wf = true) :
    DataW.Trod enc Try.prog W base sp held 25 (.agg #[.int .i64 x, .int .i64 l]) (.agg [.lit (.int .i64 x), .lit (.int .i64 l)]) [] :=
  shut_agg2 (y0 := (.lit (.int .i64 x), [])) (y1 := (.lit (.int .i64 l), [])) Try.underlying25 (by kernel_rfl) cells25 ⟨1, by simp [DataW.trod, Try.underlying22, wx]⟩ ⟨1, by simp [DataW.trod, Try.underlying23, wl]⟩

set_option maxRecDepth 100000 in
theorem lifted (os : Os) (started : os.Started) (H : Type) (enc : TypeId × Value → H) :
    ReturnsInHanded {} Try.checked os 3 .any (Rows.softSumsSpec.pre6 enc Try.prog Try.f3 Rows.softSumsRow.domain false) (Rows.softSumsSpec.post enc Try.prog Try.f3 false true false false) := by
  refine returnsInHanded_of_change (C := Try.checked) own started (by kernel_rfl) Try.func3
    (ChangeSpec.witness6 (enc := enc) (C := Try.checked) false ⟨#[], #[.agg #[.int .i64 0, .int .i64 0], .int .u64 0, .int .u64 0], []⟩ 8 (by kernel_rfl) (by kernel_rfl) (by kernel_rfl) (by kernel_rfl)) ?_
  intro W base args ds gs before hval0 hW hcnd _
  have hval : ∀ (j : Nat) t v, Try.f3.params[j]? = some t → args[j]? = some v → Value.okWide Try.prog W .any base t v := hval0
  have hW' := hW
  obtain ⟨p, q, hA0, hV, rfl, hfz, hnd⟩ := hW
  have hA : DataW.TrodAll enc Try.prog W 0 (fun _ => true) true Try.f3.params.toList args.toList ds p := hA0
  rw [Try.params3] at hA hval
  obtain ⟨v0, vs0, d0, ds0, p0, q0, hargs, rfl, rfl, h0, r0⟩ := trodAll_cons hA
  obtain ⟨v1, vs1, d1, ds1, p1, q1, rfl, rfl, rfl, h1, r1⟩ := trodAll_cons r0
  obtain ⟨v2, vs2, d2, ds2, p2, q2, rfl, rfl, rfl, h2, r2⟩ := trodAll_cons r1
  obtain ⟨rfl, rfl, rfl⟩ := trodAll_nil r2
  obtain rfl : args = #[v0, v1, v2] := by cases args; simp_all
  obtain ⟨rfl, rfl⟩ := trodVars_none hV
  obtain ⟨c0, e0, y0, z0, m0, rfl, rfl, rfl, hy0, hz0⟩ := open_agg2 Try.underlying25 (by kernel_rfl) cells25 (hval 0 25 v0 rfl rfl) h0
  obtain ⟨x0, ex0, rfl, wx0⟩ := DataW.trod_int Try.underlying22 hy0
  obtain ⟨l0, el0, rfl, wl0⟩ := DataW.trod_int Try.underlying23 hz0
  simp at ex0 el0
  subst ex0 el0
  obtain ⟨x1, rfl, rfl, rfl, wx1⟩ := open_int Try.underlying26 (hval 1 26 v1 rfl rfl) h1
  obtain ⟨x2, rfl, rfl, rfl, wx2⟩ := open_int Try.underlying26 (hval 2 26 v2 rfl rfl) h2
  clear hA0 hval0
  refine (law_softsums x0 l0 x1 x2 (int_of_wf wx0).1 (int_of_wf wx0).2 (int_of_wf wl0).1 (int_of_wf wl0).2 (word_of_wf wx1) (word_of_wf wx2) W).mono fun e W' ⟨he, bel⟩ => ?_
  subst he
  exact ⟨_, rfl, _, _, _, [], _, [], hW', trodAll_mk1 (shut_bool Try.underlying4 _), (trodAll_cons_mk (shutP wx0 wl0) (trodAll_cons_mk (shut_int Try.underlying26 wx1) (trodAll_cons_mk (shut_int Try.underlying26 wx2) trodAll_mk0))), rfl, bel.frame _, fun h => by cases h⟩

theorem over : Rows.softSumsRow.holds Try.pinned (OpenSpec.ofChange Rows.softSumsSpec) :=
  OpenClaim.holds_of_wide 3 Try.f3 rfl rfl rfl rfl rfl rfl rfl ⟨rfl, rfl, rfl, rfl, rfl⟩ rfl rfl rfl rfl rfl (by kernel_rfl) Try.func3 (by kernel_rfl)
    (of_decide_eq_true (by kernel_rfl)) (by unfold Func.isWrapper; first | (rw [if_pos (by decide +kernel)]; kernel_rfl) | (rw [if_neg (by decide +kernel)]; exact ⟨rfl, rfl⟩))
    (fun os started H enc _ => lifted os started H enc)
end Go.Proofs.Ytaiihaopgchbfaa.softSumsProof
namespace Go.Proofs.Ytaiihaopgchbfaa
theorem softSums_holds : Rows.SoftSumsSaid := softSumsProof.over
end Go.Proofs.Ytaiihaopgchbfaa

