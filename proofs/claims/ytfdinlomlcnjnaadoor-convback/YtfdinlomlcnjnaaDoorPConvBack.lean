/- For every mode, Single and int of 32 bits conv.Narrow of conv.Widen is the Single itself (of what is no number: the one Nan), and conv.ToInt of conv.FromInt as a Double is the int: no condition on the input; the card ties the tables of math/bits and internal/strconv that the road to Hex reads to the program's text (the translator's word that nothing else writes them), and speaks of the seat's pruned copy alone. -/
import Derived.Test.YtfdinlomlcnjnaaDoorRows
import Derived.Test.YtfdinlomlcnjnaaDoorTie
import Derived.Test.YtfdinlomlcnjnaaDoorCards
import Derived.Test.YtfdinlomlcnjnaaDoorConvLv
import Derived.Test.YtfdinlomlcnjnaaDoorConvBk
import Derived.ProofKit
import Derived.LaidMore
import Derived.LaidSub
import Derived.Lib.LaidTab
import Derived.OpenShut
import Derived.ChangeOld
import Derived.Stop.Joined
import Derived.Lib.SmallJoins
import Derived.SevenTiedAt
namespace Go.Proofs.YtfdinlomlcnjnaaDoor
open Go.RowKit
set_option linter.unusedVariables false
set_option maxRecDepth 8000 in
set_option maxHeartbeats 1600000 in
theorem law_convback (m a n : Int) (h1 : Word a) (n1 : -2147483648 ≤ n) (n2 : n ≤ 2147483647) (w : World) (h : w.cell? ⟨5, 15, none⟩ = some (.int .u8 4)) :
    Calls Tryd.prog 7 #[.int .i64 m, .int .u64 a, .int .i32 n] w fun e w' => e = .returned (.bool true) ∧ Below w.heap.size w w' := by
  obtain ⟨x, hx, x0, x1⟩ : ∃ x, a.tmod 4294967296 = x ∧ 0 ≤ x ∧ x < 4294967296 := ⟨a % 4294967296, Int.tmod_eq_emod_of_nonneg h1.1, by omega, by omega⟩
  have wx : Word x := ⟨x0, by omega⟩
  have law := bk_law m x x0 x1
  have hw := widen_any x wx
  have hn := narrow_any m (cvtF true false 0 x) (bk_word _ _ _ _)
  rw [law] at hn
  obtain ⟨i1, i2, i3⟩ := bk_int m n n1 n2
  have hf : ∀ w, Calls Tryd.prog 20 #[.int .i64 0, .int .i64 m, .int .i64 n] w fun e w' => e = .returned (.int .u64 (rnd false m (decide (n < 0)) n.natAbs 0)) ∧ Below w.heap.size w w' := fun w => fromInt_any 0 m n (by omega) (by omega) w
  have ht : ∀ w, Calls Tryd.prog 18 #[.int .i64 0, .int .u64 (rnd false m (decide (n < 0)) n.natAbs 0)] w fun e w' => e = .returned (.tuple #[.int .i64 n, .bool true]) ∧ Below w.heap.size w w' := fun w => by
    have t := toInt_any 0 _ i1 w
    rw [show ((0 : Int) == 1) = false from rfl, i2, i3] at t
    exact t
  have hc : ∀ w, Calls Tryd.prog 34 #[.int .i64 1, .int .u64 x] w fun e w' => e = .returned (.int .i64 (cls true x)) ∧ ∃ n, w' = w.drewN n := rclass_any true x wx
  have hna : ∀ w, Calls Tryd.prog 35 #[.int .i64 1] w fun r w' => r = .returned (.int .u64 (fNan true)) ∧ Below w.heap.size w w' := nan_fl 1
  have hl := fun (w : World) h => clive_any w h
  generalize rnd false m (decide (n < 0)) n.natAbs 0 = R at *
  generalize cvtF true false 0 x = V at *
  generalize fNan true = Q at *
  generalize cls true x = k at *
  clear law i1 i2 i3 wx
  by_cases c : k = 5
  · subst c
    simp only [if_true] at hn
    go_enter Tryd.func7, Tryd.ntmps7
    go_wp2_with (first
      | (go_at_call 13; refine (hw _).mono ?_; rintro e w1 ⟨rfl, b1⟩; have g1 := cell_on b1 h)
      | (go_at_call 15; refine (hn _).mono ?_; rintro e w2 ⟨rfl, b2⟩; have g2 := cell_on b2 g1)
      | (go_at_call 20; refine (hf _).mono ?_; rintro e w3 ⟨rfl, b3⟩; have g3 := cell_on b3 g2)
      | (go_at_call 18; refine (ht _).mono ?_; rintro e w4 ⟨rfl, b4⟩; have g4 := cell_on b4 g3)
      | (go_at_call 34; refine (hc _).mono ?_; rintro e w5 ⟨rfl, n5, rfl⟩)
      | (go_at_call 35; refine (hna _).mono ?_; rintro e w6 ⟨rfl, b6⟩)
      | (go_at_call 12; refine (hl _ (by first | exact cell_on b6 (by simpa [go_sem] using g4) | (simp [go_sem]; exact cell_on b6 (by simpa [go_sem] using g4)))).mono ?_; rintro e w7 ⟨rfl, b7⟩)
      | fail)
    go_ret
    exact ⟨rfl, below_callC (below_callC (below_dN (below_callC (below_callC (below_callC b1 b2) b3) b4) n5) b6) b7⟩
  · have c' : (k == 5) = false := by simp [c]
    simp only [if_neg c] at hn
    go_enter Tryd.func7, Tryd.ntmps7
    go_wp2_with (first
      | (go_at_call 13; refine (hw _).mono ?_; rintro e w1 ⟨rfl, b1⟩; have g1 := cell_on b1 h)
      | (go_at_call 15; refine (hn _).mono ?_; rintro e w2 ⟨rfl, b2⟩; have g2 := cell_on b2 g1)
      | (go_at_call 20; refine (hf _).mono ?_; rintro e w3 ⟨rfl, b3⟩; have g3 := cell_on b3 g2)
      | (go_at_call 18; refine (ht _).mono ?_; rintro e w4 ⟨rfl, b4⟩; have g4 := cell_on b4 g3)
      | (go_at_call 34; refine (hc _).mono ?_; rintro e w5 ⟨rfl, n5, rfl⟩)
      | (go_at_call 12; refine (hl _ (by simpa [go_sem] using g4)).mono ?_; rintro e w7 ⟨rfl, b7⟩)
      | fail)
    go_ret
    exact ⟨rfl, below_callC (below_dN (below_callC (below_callC (below_callC b1 b2) b3) b4) n5) b7⟩
end Go.Proofs.YtfdinlomlcnjnaaDoor
namespace Go.Proofs.YtfdinlomlcnjnaaDoor.convBackProof
open Go.ChangeShapes Go.WideShapes Go.ChangeAt Go.RowKit Go.Joins
set_option linter.unusedVariables false
theorem own : ownKnob Tryd.prog.godebug = none := by kernel_rfl
theorem word_of_wf {x : Int} (h : (Lit.int .u64 x).wf = true) : Word x := by
  simp [Lit.wf, IntKind.min, IntKind.max, IntKind.signed, IntKind.bits] at h
  exact ⟨by omega, by omega⟩
theorem i32_of_wf {x : Int} (h : (Lit.int .i32 x).wf = true) : -2147483648 ≤ x ∧ x ≤ 2147483647 := by
  simp [Lit.wf, IntKind.min, IntKind.max, IntKind.signed, IntKind.bits] at h
  exact ⟨by omega, by omega⟩
def tab64 : List Int := [0, 1, 56, 2, 57, 49, 28, 3, 61, 58, 42, 50, 38, 29, 17, 4, 62, 47, 59, 36, 45, 43, 51, 22, 53, 39, 33, 30, 24, 18, 12, 5, 63, 55, 48, 27, 60, 41, 37, 16, 46, 35, 44, 21, 52, 32, 23, 11, 54, 26, 40, 15, 34, 20, 31, 10, 25, 14, 19, 9, 13, 8, 7, 6]
theorem g64 : Tryd.prog.globalNamed "math/bits.deBruijn64tab" = some 5 := by kernel_rfl
def laidL : List (String × DataW Unit) := Rows.convBackRow.laid
theorem of_laid {W : World} (h : laidMetH Tryd.prog laidL W) : W.cell? ⟨5, 15, none⟩ = some (.int .u8 4) := by
  have h2 := laidMetH.filter (fun x => x.1 == "math/bits.deBruijn64tab") h
  have h3 : laidMetH Tryd.prog [("math/bits.deBruijn64tab", Lib.tabData .u8 tab64)] W := h2
  rw [MakeChecks.laidMetH_plain _ _ _ (by kernel_rfl)] at h3
  have t := Lib.tabIs_of_head g64 (by kernel_rfl) (t := 152) (n := 64) (e := 5) Tryd.underlying152 Tryd.underlying5 (by kernel_rfl) (by kernel_rfl) h3
  exact t.cell g64 15 (by decide)
/-- The door's own heap meets the condition. -/
theorem door_met (os : Os) (args : Array Value) : laidMetH Tryd.prog laidL ((World.doorLaid Tryd.prog 4000 os).forCall (fun _ _ => 0) ⟨#[], args, []⟩).memory :=
  laidMetH_of_parts3 (fuel := 8) (laidMet_of_run' 8 (by kernel_rfl) (by kernel_rfl)) (by kernel_rfl) (by kernel_rfl)
set_option maxRecDepth 100000 in
theorem lifted (os : Os) (started : os.Started) (H : Type) (enc : TypeId × Value → H) :
    ReturnsInHanded {} Tryd.checked os 7 .any (fun w args => (Rows.convBackSpec.pre enc Tryd.prog Tryd.f7 [] false w args ∧ laidMetH Tryd.prog laidL w) ∧ sizedMet enc Tryd.prog Tryd.f7 (OpenSpec.ofChange Rows.convBackSpec) false w args)
      (Rows.convBackSpec.post enc Tryd.prog Tryd.f7 false true false false) := by
  refine returnsInHanded_of_change_and (C := Tryd.checked) (X := fun w _ => laidMetH Tryd.prog laidL w) (fun _ _ _ hh h => h.of_heap hh) own started (by kernel_rfl) Tryd.func7
    (ChangeSpec.witness_shaped (enc := enc) (C := Tryd.checked) (os := os) (X := fun w _ => laidMetH Tryd.prog laidL w) false (World.doorLaid Tryd.prog 4000 os) #[.int .i64 0, .int .u64 0, .int .i32 0] 8 rfl (World.shaped_of_RefB (by kernel_rfl) (by kernel_rfl)) (by kernel_rfl) (by kernel_rfl) (by kernel_rfl) (door_met os _)) ?_
  intro W base args ds gs before hval0 hW _ _ hL _
  have hval : ∀ (j : Nat) t v, Tryd.f7.params[j]? = some t → args[j]? = some v → Value.okWide Tryd.prog W .any base t v := hval0
  have hW' := hW
  obtain ⟨p, q, hA0, hV, rfl, hfz, hnd⟩ := hW
  have hA : DataW.TrodAll enc Tryd.prog W 0 (fun _ => true) true Tryd.f7.params.toList args.toList ds p := hA0
  rw [Tryd.params7] at hA hval
  obtain ⟨v0, vs0, d0, ds0, p0, q0, hargs, rfl, rfl, h0, r0⟩ := trodAll_cons hA
  obtain ⟨v1, vs1, d1, ds1, p1, q1, rfl, rfl, rfl, h1, r1⟩ := trodAll_cons r0
  obtain ⟨v2, vs2, d2, ds2, p2, q2, rfl, rfl, rfl, h2, r2⟩ := trodAll_cons r1
  obtain ⟨rfl, rfl, rfl⟩ := trodAll_nil r2
  obtain rfl : args = #[v0, v1, v2] := by cases args; simp_all
  obtain ⟨rfl, rfl⟩ := trodVars_none hV
  obtain ⟨x0, rfl, rfl, rfl, wx0⟩ := open_int Tryd.underlying22 (hval 0 22 v0 rfl rfl) h0
  obtain ⟨x1, rfl, rfl, rfl, wx1⟩ := open_int Tryd.underlying23 (hval 1 23 v1 rfl rfl) h1
  obtain ⟨x2, rfl, rfl, rfl, wx2⟩ := open_int Tryd.underlying21 (hval 2 21 v2 rfl rfl) h2
  clear hA0 hval0
  refine (law_convback x0 x1 x2 (word_of_wf wx1) (i32_of_wf wx2).1 (i32_of_wf wx2).2 W (of_laid hL)).mono fun e W' ⟨he, bel⟩ => ?_
  subst he
  exact ⟨_, rfl, _, _, _, [], _, [], hW', trodAll_mk1 (shut_bool Tryd.underlying4 _), (trodAll_cons_mk (shut_int Tryd.underlying22 wx0) (trodAll_cons_mk (shut_int Tryd.underlying23 wx1) (trodAll_cons_mk (shut_int Tryd.underlying21 wx2) trodAll_mk0))), rfl, bel.frame _, fun h => by cases h⟩
theorem over : Rows.convBackRow.holds Tryd.pinned (OpenSpec.ofChange Rows.convBackSpec) :=
  OpenClaim.holds_of_wide 7 Tryd.f7 rfl rfl rfl rfl rfl rfl rfl ⟨rfl, rfl, rfl, rfl, rfl⟩ rfl rfl rfl rfl rfl (by kernel_rfl) Tryd.func7 (by kernel_rfl)
    (of_decide_eq_true (by kernel_rfl)) (by unfold Func.isWrapper; first | (rw [if_pos (by decide +kernel)]; kernel_rfl) | (rw [if_neg (by decide +kernel)]; exact ⟨rfl, rfl⟩))
    (fun os started H enc _ => lifted os started H enc)
theorem card : Rows.ConvBackCardSaid :=
  Claim7.holds_tied_plain_at .later [] [.data, .data, .data] true (true, "2d22253cf365a60bd7155bb79663bc04cf44260508665e221caf2376b4ab5de4") false
    over (fun _ h => by cases h) (by kernel_rfl) (fun _ h => by cases h) convBack_row_tie rfl ⟨rfl, rfl⟩ (by kernel_rfl) rfl
    (fun f fn hf hfn => by
      obtain rfl : f = 7 := Option.some.inj ((show Tryd.prog.funcNamed "plumbline/plumblinelaw03.ConvBack" = some 7 by kernel_rfl).symm.trans hf) |>.symm
      obtain rfl : fn = Tryd.f7 := (Option.some.inj (Tryd.func7.symm.trans hfn)).symm
      exact ⟨by kernel_rfl, fun j t ht => by
        rw [Tryd.params7] at ht
        have hm : t ∈ [22, 23, 21] := by simpa using Array.mem_of_getElem? ht
        have hall : ([22, 23, 21].all fun u => !Tryd.prog.wantsStandIn u) = true := by kernel_rfl
        exact (show Tryd.prog.wantsStandIn t = false by simpa using List.all_eq_true.1 hall t hm)⟩)
    (by kernel_rfl)
end Go.Proofs.YtfdinlomlcnjnaaDoor.convBackProof
namespace Go.Proofs.YtfdinlomlcnjnaaDoor
theorem convBack_holds : Rows.ConvBackCardSaid := convBackProof.card
end Go.Proofs.YtfdinlomlcnjnaaDoor

