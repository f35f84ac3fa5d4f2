/- For every format and two floats conv.Prev of conv.Next of a finite float (without the sign of 0) that is not the greatest is itself, Next is finite and above, and the other float does not lie between; of the greatest Next is itself; of what is not finite both are the Nan: no condition on the input; the card ties the tables of math/bits and internal/strconv that the road to Hex reads to the program's text (the translator's word that nothing else writes them), and speaks of the seat's pruned copy alone. -/
import Derived.Test.YtfdinlomlcnjnaaDoorRows
import Derived.Test.YtfdinlomlcnjnaaDoorTie
import Derived.Test.YtfdinlomlcnjnaaDoorCards
import Derived.Test.YtfdinlomlcnjnaaDoorConvLv
import Derived.Test.YtfdinlomlcnjnaaDoorConvN
import Derived.ProofKit
import Derived.LaidMore
import Derived.LaidSub
import Derived.Lib.LaidTab
import Derived.OpenShut
import Derived.ChangeOld
import Derived.Stop.Joined
import Derived.Lib.SmallJoins
import Derived.SevenTiedAt
namespace Go.Proofs.YtfdinlomlcnjnaaDoor
open Go.RowKit
set_option linter.unusedVariables false
theorem n_sep (s : Bool) (a n b : Int) (h : NextIs s a n) : (cmpF s a n).1 = -1 ∧ ((cmpF s a b).2 = false ∨ ((cmpF s a b).2 = true ∧ ((decide ((cmpF s a b).1 < 0)) = false ∨ ((decide ((cmpF s a b).1 < 0)) = true ∧ decide ((cmpF s b n).1 < 0) = false)))) := by
  have f1 := (n_num h.fa).1
  have f2 := (n_num h.fn).1
  have o := h.one
  unfold cmpF
  rw [f1, f2]
  simp only [Bool.false_or, Bool.or_false, Bool.false_eq_true, if_false]
  refine ⟨by rw [if_pos (by omega)], ?_⟩
  cases c : (cls s b == 0 || cls s b == 5)
  · right
    simp only [Bool.false_eq_true, if_false]
    refine ⟨trivial, ?_⟩
    by_cases q : rnk s a < rnk s b
    · right
      rw [if_pos q, if_neg (by omega)]
      refine ⟨by decide, ?_⟩
      split <;> decide
    · left
      rw [if_neg q]
      split <;> decide
  · left
    rfl
set_option maxRecDepth 8000 in
set_option maxHeartbeats 6400000 in
theorem law_convsteps (f a b : Int) (h1 : Word a) (h2 : Word b) (w : World) (h : w.cell? ⟨5, 15, none⟩ = some (.int .u8 4)) :
    Calls Tryd.prog 8 #[.int .i64 f, .int .u64 a, .int .u64 b] w fun e w' => e = .returned (.bool true) ∧ Below w.heap.size w w' := by
  have hl := fun (w : World) h => clive_any w h
  have hfi := finite_fl f a h1
  have hna := nan_fl f
  have hmo := most_fl f
  cases c : finF (f == 1) a
  · rw [c] at hfi
    obtain ⟨o1, o2⟩ := n_off (f == 1) a h1 c
    have hn := next_any f a h1
    have hp := prev_any f a h1
    rw [o1] at hn
    rw [o2] at hp
    clear c o1 o2
    generalize fNan (f == 1) = Q at *
    go_enter Tryd.func8, Tryd.ntmps8
    go_wp2_with fail
    refine (hfi _).mono ?_
    rintro e w1 ⟨rfl, b1⟩
    go_wp2_with fail
    refine (hl _ (cell_on b1 h)).mono ?_
    rintro e w2 ⟨rfl, b2⟩
    go_wp2_with fail
    refine (hn _).mono ?_
    rintro e w3 ⟨rfl, b3⟩
    go_wp2_with fail
    refine (hna _).mono ?_
    rintro e w4 ⟨rfl, b4⟩
    go_wp2_with fail
    refine (hp _).mono ?_
    rintro e w5 ⟨rfl, b5⟩
    go_wp2_with fail
    refine (hna _).mono ?_
    rintro e w6 ⟨rfl, b6⟩
    go_wp2_with fail
    go_ret
    exact ⟨rfl, below_callC (below_callC (below_callC (below_callC (below_callC b1 b2) b3) b4) b5) b6⟩
  · rw [c] at hfi
    have hpl := plain_any f a h1
    have wp := n_plainw (f == 1) a h1
    have hn := next_any f _ wp
    by_cases t : plainF (f == 1) a = fI (f == 1) - 1
    · rw [t, n_top] at hn
      rw [t] at hpl
      clear c wp t
      generalize fI (f == 1) - 1 = M at *
      go_enter Tryd.func8, Tryd.ntmps8
      go_wp2_with fail
      refine (hfi _).mono ?_
      rintro e w1 ⟨rfl, b1⟩
      go_wp2_with fail
      refine (hpl _).mono ?_
      rintro e w2 ⟨rfl, b2⟩
      go_wp2_with fail
      refine (hn _).mono ?_
      rintro e w3 ⟨rfl, b3⟩
      go_wp2_with fail
      refine (hmo _).mono ?_
      rintro e w4 ⟨rfl, b4⟩
      go_wp2_with fail
      refine (hl _ (cell_on b4 (cell_on b3 (cell_on b2 (cell_on b1 h))))).mono ?_
      rintro e w5 ⟨rfl, b5⟩
      go_wp2_with fail
      go_ret
      exact ⟨rfl, below_callC (below_callC (below_callC (below_callC b1 b2) b3) b4) b5⟩
    · have N := n_step (f == 1) a h1 c t
      obtain ⟨S1, S2⟩ := n_sep (f == 1) _ _ b N
      have hp := prev_any f _ N.wn
      rw [N.back] at hp
      have hfn := finite_fl f _ N.wn
      rw [N.fn] at hfn
      have hx := compare_fl f _ _ N.wa N.wn
      have hy := compare_fl f _ b N.wa h2
      have hz := compare_fl f b _ h2 N.wn
      rw [S1] at hx
      have t' : (plainF (f == 1) a == fI (f == 1) - 1) = false := by simp [t]
      clear N c wp t S1
      generalize (cmpF (f == 1) (plainF (f == 1) a) (nextF (f == 1) (plainF (f == 1) a))).2 = OX at *
      generalize (cmpF (f == 1) b (nextF (f == 1) (plainF (f == 1) a))).2 = OZ at *
      generalize (cmpF (f == 1) b (nextF (f == 1) (plainF (f == 1) a))).1 = NZ at *
      generalize (cmpF (f == 1) (plainF (f == 1) a) b).1 = NY at *
      generalize (cmpF (f == 1) (plainF (f == 1) a) b).2 = OY at *
      generalize nextF (f == 1) (plainF (f == 1) a) = N at *
      generalize plainF (f == 1) a = A at *
      generalize fI (f == 1) - 1 = M at *
      have K : ∀ W : World, Calls Tryd.prog 28 #[.int .i64 f, .int .u64 N] W fun e w' => e = .returned (.int .u64 A) ∧ Below W.heap.size W w' := hp
      clear hp
      rcases S2 with rfl | ⟨rfl, y0 | ⟨y0, z0⟩⟩
      all_goals
        go_enter Tryd.func8, Tryd.ntmps8
        go_wp2_with fail
        refine (hfi _).mono ?_
        rintro e w1 ⟨rfl, b1⟩
        go_wp2_with fail
        refine (hpl _).mono ?_
        rintro e w2 ⟨rfl, b2⟩
        go_wp2_with fail
        refine (hn _).mono ?_
        rintro e w3 ⟨rfl, b3⟩
        go_wp2_with fail
        refine (hmo _).mono ?_
        rintro e w4 ⟨rfl, b4⟩
        go_wp2_with fail
        refine (K _).mono ?_
        rintro e w5 ⟨rfl, b5⟩
        go_wp2_with fail
        refine (hfn _).mono ?_
        rintro e w6 ⟨rfl, b6⟩
        go_wp2_with fail
        refine (hx _).mono ?_
        rintro e w7 ⟨rfl, b7⟩
        go_wp2_with fail
        refine (hy _).mono ?_
        rintro e w8 ⟨rfl, b8⟩
        go_wp2_with fail
        refine (hz _).mono ?_
        rintro e w9 ⟨rfl, b9⟩
        go_wp2_with fail
        refine (hl _ (cell_on b9 (cell_on b8 (cell_on b7 (cell_on b6 (cell_on b5 (cell_on b4 (cell_on b3 (cell_on b2 (cell_on b1 h)))))))))).mono ?_
        rintro e w10 ⟨rfl, b10⟩
        go_wp2_with fail
        go_ret
        exact ⟨rfl, below_callC (below_callC (below_callC (below_callC (below_callC (below_callC (below_callC (below_callC (below_callC b1 b2) b3) b4) b5) b6) b7) b8) b9) b10⟩
end Go.Proofs.YtfdinlomlcnjnaaDoor
namespace Go.Proofs.YtfdinlomlcnjnaaDoor.convStepsProof
open Go.ChangeShapes Go.WideShapes Go.ChangeAt Go.RowKit Go.Joins
set_option linter.unusedVariables false
theorem own : ownKnob Tryd.prog.godebug = none := by kernel_rfl
theorem word_of_wf {x : Int} (h : (Lit.int .u64 x).wf = true) : Word x := by
  simp [Lit.wf, IntKind.min, IntKind.max, IntKind.signed, IntKind.bits] at h
  exact ⟨by omega, by omega⟩
def tab64 : List Int := [0, 1, 56, 2, 57, 49, 28, 3, 61, 58, 42, 50, 38, 29, 17, 4, 62, 47, 59, 36, 45, 43, 51, 22, 53, 39, 33, 30, 24, 18, 12, 5, 63, 55, 48, 27, 60, 41, 37, 16, 46, 35, 44, 21, 52, 32, 23, 11, 54, 26, 40, 15, 34, 20, 31, 10, 25, 14, 19, 9, 13, 8, 7, 6]
theorem g64 : Tryd.prog.globalNamed "math/bits.deBruijn64tab" = some 5 := by kernel_rfl
def laidL : List (String × DataW Unit) := Rows.convStepsRow.laid
theorem of_laid {W : World} (h : laidMetH Tryd.prog laidL W) : W.cell? ⟨5, 15, none⟩ = some (.int .u8 4) := by
  have h2 := laidMetH.filter (fun x => x.1 == "math/bits.deBruijn64tab") h
  have h3 : laidMetH Tryd.prog [("math/bits.deBruijn64tab", Lib.tabData .u8 tab64)] W := h2
  rw [MakeChecks.laidMetH_plain _ _ _ (by kernel_rfl)] at h3
  have t := Lib.tabIs_of_head g64 (by kernel_rfl) (t := 152) (n := 64) (e := 5) Tryd.underlying152 Tryd.underlying5 (by kernel_rfl) (by kernel_rfl) h3
  exact t.cell g64 15 (by decide)
/-- The door's own heap meets the condition. -/
theorem door_met (os : Os) (args : Array Value) : laidMetH Tryd.prog laidL ((World.doorLaid Tryd.prog 4000 os).forCall (fun _ _ => 0) ⟨#[], args, []⟩).memory :=
  laidMetH_of_parts3 (fuel := 8) (laidMet_of_run' 8 (by kernel_rfl) (by kernel_rfl)) (by kernel_rfl) (by kernel_rfl)
set_option maxRecDepth 100000 in
theorem lifted (os : Os) (started : os.Started) (H : Type) (enc : TypeId × Value → H) :
    ReturnsInHanded {} Tryd.checked os 8 .any (fun w args => (Rows.convStepsSpec.pre enc Tryd.prog Tryd.f8 [] false w args ∧ laidMetH Tryd.prog laidL w) ∧ sizedMet enc Tryd.prog Tryd.f8 (OpenSpec.ofChange Rows.convStepsSpec) false w args)
      (Rows.convStepsSpec.post enc Tryd.prog Tryd.f8 false true false false) := by
  refine returnsInHanded_of_change_and (C := Tryd.checked) (X := fun w _ => laidMetH Tryd.prog laidL w) (fun _ _ _ hh h => h.of_heap hh) own started (by kernel_rfl) Tryd.func8
    (ChangeSpec.witness_shaped (enc := enc) (C := Tryd.checked) (os := os) (X := fun w _ => laidMetH Tryd.prog laidL w) false (World.doorLaid Tryd.prog 4000 os) #[.int .i64 0, .int .u64 0, .int .u64 0] 8 rfl (World.shaped_of_RefB (by kernel_rfl) (by kernel_rfl)) (by kernel_rfl) (by kernel_rfl) (by kernel_rfl) (door_met os _)) ?_
  intro W base args ds gs before hval0 hW _ _ hL _
  have hval : ∀ (j : Nat) t v, Tryd.f8.params[j]? = some t → args[j]? = some v → Value.okWide Tryd.prog W .any base t v := hval0
  have hW' := hW
  obtain ⟨p, q, hA0, hV, rfl, hfz, hnd⟩ := hW
  have hA : DataW.TrodAll enc Tryd.prog W 0 (fun _ => true) true Tryd.f8.params.toList args.toList ds p := hA0
  rw [Tryd.params8] at hA hval
  obtain ⟨v0, vs0, d0, ds0, p0, q0, hargs, rfl, rfl, h0, r0⟩ := trodAll_cons hA
  obtain ⟨v1, vs1, d1, ds1, p1, q1, rfl, rfl, rfl, h1, r1⟩ := trodAll_cons r0
  obtain ⟨v2, vs2, d2, ds2, p2, q2, rfl, rfl, rfl, h2, r2⟩ := trodAll_cons r1
  obtain ⟨rfl, rfl, rfl⟩ := trodAll_nil r2
  obtain rfl : args = #[v0, v1, v2] := by cases args; simp_all
  obtain ⟨rfl, rfl⟩ := trodVars_none hV
  obtain ⟨x0, rfl, rfl, rfl, wx0⟩ := open_int Tryd.underlying28 (hval 0 28 v0 rfl rfl) h0
  obtain ⟨x1, rfl, rfl, rfl, wx1⟩ := open_int Tryd.underlying23 (hval 1 23 v1 rfl rfl) h1
  obtain ⟨x2, rfl, rfl, rfl, wx2⟩ := open_int Tryd.underlying23 (hval 2 23 v2 rfl rfl) h2
  clear hA0 hval0
  refine (law_convsteps x0 x1 x2 (word_of_wf wx1) (word_of_wf wx2) W (of_laid hL)).mono fun e W' ⟨he, bel⟩ => ?_
  subst he
  exact ⟨_, rfl, _, _, _, [], _, [], hW', trodAll_mk1 (shut_bool Tryd.underlying4 _), (trodAll_cons_mk (shut_int Tryd.underlying28 wx0) (trodAll_cons_mk (shut_int Tryd.underlying23 wx1) (trodAll_cons_mk (shut_int Tryd.underlying23 wx2) trodAll_mk0))), rfl, bel.frame _, fun h => by cases h⟩
theorem over : Rows.convStepsRow.holds Tryd.pinned (OpenSpec.ofChange Rows.convStepsSpec) :=
  OpenClaim.holds_of_wide 8 Tryd.f8 rfl rfl rfl rfl rfl rfl rfl ⟨rfl, rfl, rfl, rfl, rfl⟩ rfl rfl rfl rfl rfl (by kernel_rfl) Tryd.func8 (by kernel_rfl)
    (of_decide_eq_true (by kernel_rfl)) (by unfold Func.isWrapper; first | (rw [if_pos (by decide +kernel)]; kernel_rfl) | (rw [if_neg (by decide +kernel)]; exact ⟨rfl, rfl⟩))
    (fun os started H enc _ => lifted os started H enc)
theorem card : Rows.ConvStepsCardSaid :=
  Claim7.holds_tied_plain_at .later [] [.data, .data, .data] true (true, "2d22253cf365a60bd7155bb79663bc04cf44260508665e221caf2376b4ab5de4") false
    over (fun _ h => by cases h) (by kernel_rfl) (fun _ h => by cases h) convSteps_row_tie rfl ⟨rfl, rfl⟩ (by kernel_rfl) rfl
    (fun f fn hf hfn => by
      obtain rfl : f = 8 := Option.some.inj ((show Tryd.prog.funcNamed "plumbline/plumblinelaw03.ConvSteps" = some 8 by kernel_rfl).symm.trans hf) |>.symm
      obtain rfl : fn = Tryd.f8 := (Option.some.inj (Tryd.func8.symm.trans hfn)).symm
      exact ⟨by kernel_rfl, fun j t ht => by
        rw [Tryd.params8] at ht
        have hm : t ∈ [28, 23, 23] := by simpa using Array.mem_of_getElem? ht
        have hall : ([28, 23, 23].all fun u => !Tryd.prog.wantsStandIn u) = true := by kernel_rfl
        exact (show Tryd.prog.wantsStandIn t = false by simpa using List.all_eq_true.1 hall t hm)⟩)
    (by kernel_rfl)
end Go.Proofs.YtfdinlomlcnjnaaDoor.convStepsProof
namespace Go.Proofs.YtfdinlomlcnjnaaDoor
theorem convSteps_holds : Rows.ConvStepsCardSaid := convStepsProof.card
end Go.Proofs.YtfdinlomlcnjnaaDoor

