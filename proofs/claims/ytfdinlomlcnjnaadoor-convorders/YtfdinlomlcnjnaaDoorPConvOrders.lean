/- For every format and two numbers of millionths of 32 bits conv.Literal reads both, and by soft.Compare the float of the greater one is not below that of the lesser one: no condition on the input; the card ties the tables of math/bits and internal/strconv that the road to Hex reads to the program's text (the translator's word that nothing else writes them), and speaks of the seat's pruned copy alone. -/
import Derived.Test.YtfdinlomlcnjnaaDoorRows
import Derived.Test.YtfdinlomlcnjnaaDoorTie
import Derived.Test.YtfdinlomlcnjnaaDoorCards
import Derived.Test.YtfdinlomlcnjnaaDoorConvLv
import Derived.Test.YtfdinlomlcnjnaaDoorConvOr
import Derived.ProofKit
import Derived.LaidMore
import Derived.LaidSub
import Derived.Lib.LaidTab
import Derived.OpenShut
import Derived.ChangeOld
import Derived.Stop.Joined
import Derived.Lib.SmallJoins
import Derived.SevenTiedAt
namespace Go.Proofs.YtfdinlomlcnjnaaDoor
open Go.RowKit
set_option linter.unusedVariables false
set_option maxRecDepth 8000 in
set_option maxHeartbeats 6400000 in
theorem law_convorders (f a b : Int) (a0 : 0 ≤ a) (a1 : a ≤ 4294967295) (b0 : 0 ≤ b) (b1 : b ≤ 4294967295) (w : World) (h : w.cell? ⟨5, 15, none⟩ = some (.int .u8 4)) :
    Calls Tryd.prog 10 #[.int .i64 f, .int .u32 a, .int .u32 b] w fun e w' => e = .returned (.bool true) ∧ Below w.heap.size w w' := by
  obtain ⟨A, rfl⟩ := Int.eq_ofNat_of_zero_le a0
  obtain ⟨B, rfl⟩ := Int.eq_ofNat_of_zero_le b0
  have hl := fun (w : World) h => clive_any w h
  have pa := places_any A (by omega)
  have pb := places_any B (by omega)
  by_cases c : B < A
  · have ci : (B : Int) < (A : Int) := by omega
    obtain ⟨w1', w2', o1, o2⟩ := dec_order (f == 1) B A (by omega) (by omega)
    have hc := compare_fl f _ _ w1' w2'
    have lx := fun k H G k1 k2 hH hG e1 e2 => lit_places f k A H G k1 k2 hH hG e1 e2
    have ly := fun k H G k1 k2 hH hG e1 e2 => lit_places f k B H G k1 k2 hH hG e1 e2
    rw [o1] at hc
    generalize (cmpF (f == 1) (decT (f == 1) B 6) (decT (f == 1) A 6)).1 = C at *
    generalize decT (f == 1) A 6 = VA at *
    generalize decT (f == 1) B 6 = VB at *
    clear c w1' w2' o1
    go_enter Tryd.func10, Tryd.ntmps10
    go_wp2_with fail
    refine (pb _).mono ?_
    rintro e w1 ⟨k, H, G, k1, k2, hH, hG, e1, e2, rfl, g1⟩
    have l1 := ly k H G k1 k2 hH hG e1 e2
    clear k1 k2 hH hG e1 e2
    go_wp2_with fail
    refine (l1 _).mono ?_
    rintro e w2 ⟨rfl, g2⟩
    go_wp2_with fail
    refine (pa _).mono ?_
    rintro e w3 ⟨k', H', G', k1, k2, hH, hG, e1, e2, rfl, g3⟩
    have l2 := lx k' H' G' k1 k2 hH hG e1 e2
    clear k1 k2 hH hG e1 e2
    go_wp2_with fail
    refine (l2 _).mono ?_
    rintro e w4 ⟨rfl, g4⟩
    go_wp2_with fail
    refine (hc _).mono ?_
    rintro e w5 ⟨rfl, g5⟩
    go_wp2_with fail
    refine (hl _ (cell_on g5 (cell_on g4 (cell_on g3 (cell_on g2 (cell_on g1 h)))))).mono ?_
    rintro e w6 ⟨rfl, g6⟩
    go_wp2_with fail
    go_ret
    exact ⟨rfl, below_callC (below_callC (below_callC (below_callC (below_callC g1 g2) g3) g4) g5) g6⟩
  · have ci : (A : Int) ≤ (B : Int) := by omega
    obtain ⟨w1', w2', o1, o2⟩ := dec_order (f == 1) A B (by omega) (by omega)
    have hc := compare_fl f _ _ w1' w2'
    have lx := fun k H G k1 k2 hH hG e1 e2 => lit_places f k A H G k1 k2 hH hG e1 e2
    have ly := fun k H G k1 k2 hH hG e1 e2 => lit_places f k B H G k1 k2 hH hG e1 e2
    rw [o1] at hc
    generalize (cmpF (f == 1) (decT (f == 1) A 6) (decT (f == 1) B 6)).1 = C at *
    generalize decT (f == 1) A 6 = VA at *
    generalize decT (f == 1) B 6 = VB at *
    clear c w1' w2' o1
    go_enter Tryd.func10, Tryd.ntmps10
    go_wp2_with fail
    refine (pa _).mono ?_
    rintro e w1 ⟨k, H, G, k1, k2, hH, hG, e1, e2, rfl, g1⟩
    have l1 := lx k H G k1 k2 hH hG e1 e2
    clear k1 k2 hH hG e1 e2
    go_wp2_with fail
    refine (l1 _).mono ?_
    rintro e w2 ⟨rfl, g2⟩
    go_wp2_with fail
    refine (pb _).mono ?_
    rintro e w3 ⟨k', H', G', k1, k2, hH, hG, e1, e2, rfl, g3⟩
    have l2 := ly k' H' G' k1 k2 hH hG e1 e2
    clear k1 k2 hH hG e1 e2
    go_wp2_with fail
    refine (l2 _).mono ?_
    rintro e w4 ⟨rfl, g4⟩
    go_wp2_with fail
    refine (hc _).mono ?_
    rintro e w5 ⟨rfl, g5⟩
    go_wp2_with fail
    refine (hl _ (cell_on g5 (cell_on g4 (cell_on g3 (cell_on g2 (cell_on g1 h)))))).mono ?_
    rintro e w6 ⟨rfl, g6⟩
    go_wp2_with fail
    go_ret
    exact ⟨rfl, below_callC (below_callC (below_callC (below_callC (below_callC g1 g2) g3) g4) g5) g6⟩
end Go.Proofs.YtfdinlomlcnjnaaDoor
namespace Go.Proofs.YtfdinlomlcnjnaaDoor.convOrdersProof
open Go.ChangeShapes Go.WideShapes Go.ChangeAt Go.RowKit Go.Joins
set_option linter.unusedVariables false
theorem own : ownKnob Tryd.prog.godebug = none := by kernel_rfl
theorem u32_of_wf {x : Int} (h : (Lit.int .u32 x).wf = true) : 0 ≤ x ∧ x ≤ 4294967295 := by
  simp [Lit.wf, IntKind.min, IntKind.max, IntKind.signed, IntKind.bits] at h
  exact ⟨by omega, by omega⟩
def tab64 : List Int := [0, 1, 56, 2, 57, 49, 28, 3, 61, 58, 42, 50, 38, 29, 17, 4, 62, 47, 59, 36, 45, 43, 51, 22, 53, 39, 33, 30, 24, 18, 12, 5, 63, 55, 48, 27, 60, 41, 37, 16, 46, 35, 44, 21, 52, 32, 23, 11, 54, 26, 40, 15, 34, 20, 31, 10, 25, 14, 19, 9, 13, 8, 7, 6]
theorem g64 : Tryd.prog.globalNamed "math/bits.deBruijn64tab" = some 5 := by kernel_rfl
def laidL : List (String × DataW Unit) := Rows.convOrdersRow.laid
theorem of_laid {W : World} (h : laidMetH Tryd.prog laidL W) : W.cell? ⟨5, 15, none⟩ = some (.int .u8 4) := by
  have h2 := laidMetH.filter (fun x => x.1 == "math/bits.deBruijn64tab") h
  have h3 : laidMetH Tryd.prog [("math/bits.deBruijn64tab", Lib.tabData .u8 tab64)] W := h2
  rw [MakeChecks.laidMetH_plain _ _ _ (by kernel_rfl)] at h3
  have t := Lib.tabIs_of_head g64 (by kernel_rfl) (t := 152) (n := 64) (e := 5) Tryd.underlying152 Tryd.underlying5 (by kernel_rfl) (by kernel_rfl) h3
  exact t.cell g64 15 (by decide)
/-- The door's own heap meets the condition. -/
theorem door_met (os : Os) (args : Array Value) : laidMetH Tryd.prog laidL ((World.doorLaid Tryd.prog 4000 os).forCall (fun _ _ => 0) ⟨#[], args, []⟩).memory :=
  laidMetH_of_parts3 (fuel := 8) (laidMet_of_run' 8 (by kernel_rfl) (by kernel_rfl)) (by kernel_rfl) (by kernel_rfl)
set_option maxRecDepth 100000 in
theorem lifted (os : Os) (started : os.Started) (H : Type) (enc : TypeId × Value → H) :
    ReturnsInHanded {} Tryd.checked os 10 .any (fun w args => (Rows.convOrdersSpec.pre enc Tryd.prog Tryd.f10 [] false w args ∧ laidMetH Tryd.prog laidL w) ∧ sizedMet enc Tryd.prog Tryd.f10 (OpenSpec.ofChange Rows.convOrdersSpec) false w args)
      (Rows.convOrdersSpec.post enc Tryd.prog Tryd.f10 false true false false) := by
  refine returnsInHanded_of_change_and (C := Tryd.checked) (X := fun w _ => laidMetH Tryd.prog laidL w) (fun _ _ _ hh h => h.of_heap hh) own started (by kernel_rfl) Tryd.func10
    (ChangeSpec.witness_shaped (enc := enc) (C := Tryd.checked) (os := os) (X := fun w _ => laidMetH Tryd.prog laidL w) false (World.doorLaid Tryd.prog 4000 os) #[.int .i64 0, .int .u32 0, .int .u32 0] 8 rfl (World.shaped_of_RefB (by kernel_rfl) (by kernel_rfl)) (by kernel_rfl) (by kernel_rfl) (by kernel_rfl) (door_met os _)) ?_
  intro W base args ds gs before hval0 hW _ _ hL _
  have hval : ∀ (j : Nat) t v, Tryd.f10.params[j]? = some t → args[j]? = some v → Value.okWide Tryd.prog W .any base t v := hval0
  have hW' := hW
  obtain ⟨p, q, hA0, hV, rfl, hfz, hnd⟩ := hW
  have hA : DataW.TrodAll enc Tryd.prog W 0 (fun _ => true) true Tryd.f10.params.toList args.toList ds p := hA0
  rw [Tryd.params10] at hA hval
  obtain ⟨v0, vs0, d0, ds0, p0, q0, hargs, rfl, rfl, h0, r0⟩ := trodAll_cons hA
  obtain ⟨v1, vs1, d1, ds1, p1, q1, rfl, rfl, rfl, h1, r1⟩ := trodAll_cons r0
  obtain ⟨v2, vs2, d2, ds2, p2, q2, rfl, rfl, rfl, h2, r2⟩ := trodAll_cons r1
  obtain ⟨rfl, rfl, rfl⟩ := trodAll_nil r2
  obtain rfl : args = #[v0, v1, v2] := by cases args; simp_all
  obtain ⟨rfl, rfl⟩ := trodVars_none hV
  obtain ⟨x0, rfl, rfl, rfl, wx0⟩ := open_int Tryd.underlying28 (hval 0 28 v0 rfl rfl) h0
  obtain ⟨x1, rfl, rfl, rfl, wx1⟩ := open_int Tryd.underlying50 (hval 1 50 v1 rfl rfl) h1
  obtain ⟨x2, rfl, rfl, rfl, wx2⟩ := open_int Tryd.underlying50 (hval 2 50 v2 rfl rfl) h2
  clear hA0 hval0
  refine (law_convorders x0 x1 x2 (u32_of_wf wx1).1 (u32_of_wf wx1).2 (u32_of_wf wx2).1 (u32_of_wf wx2).2 W (of_laid hL)).mono fun e W' ⟨he, bel⟩ => ?_
  subst he
  exact ⟨_, rfl, _, _, _, [], _, [], hW', trodAll_mk1 (shut_bool Tryd.underlying4 _), (trodAll_cons_mk (shut_int Tryd.underlying28 wx0) (trodAll_cons_mk (shut_int Tryd.underlying50 wx1) (trodAll_cons_mk (shut_int Tryd.underlying50 wx2) trodAll_mk0))), rfl, bel.frame _, fun h => by cases h⟩
theorem over : Rows.convOrdersRow.holds Tryd.pinned (OpenSpec.ofChange Rows.convOrdersSpec) :=
  OpenClaim.holds_of_wide 10 Tryd.f10 rfl rfl rfl rfl rfl rfl rfl ⟨rfl, rfl, rfl, rfl, rfl⟩ rfl rfl rfl rfl rfl (by kernel_rfl) Tryd.func10 (by kernel_rfl)
    (of_decide_eq_true (by kernel_rfl)) (by unfold Func.isWrapper; first | (rw [if_pos (by decide +kernel)]; kernel_rfl) | (rw [if_neg (by decide +kernel)]; exact ⟨rfl, rfl⟩))
    (fun os started H enc _ => lifted os started H enc)
theorem card : Rows.ConvOrdersCardSaid :=
  Claim7.holds_tied_plain_at .later [] [.data, .data, .data] true (true, "2d22253cf365a60bd7155bb79663bc04cf44260508665e221caf2376b4ab5de4") false
    over (fun _ h => by cases h) (by kernel_rfl) (fun _ h => by cases h) convOrders_row_tie rfl ⟨rfl, rfl⟩ (by kernel_rfl) rfl
    (fun f fn hf hfn => by
      obtain rfl : f = 10 := Option.some.inj ((show Tryd.prog.funcNamed "plumbline/plumblinelaw03.ConvOrders" = some 10 by kernel_rfl).symm.trans hf) |>.symm
      obtain rfl : fn = Tryd.f10 := (Option.some.inj (Tryd.func10.symm.trans hfn)).symm
      exact ⟨by kernel_rfl, fun j t ht => by
        rw [Tryd.params10] at ht
        have hm : t ∈ [28, 50, 50] := by simpa using Array.mem_of_getElem? ht
        have hall : ([28, 50, 50].all fun u => !Tryd.prog.wantsStandIn u) = true := by kernel_rfl
        exact (show Tryd.prog.wantsStandIn t = false by simpa using List.all_eq_true.1 hall t hm)⟩)
    (by kernel_rfl)
end Go.Proofs.YtfdinlomlcnjnaaDoor.convOrdersProof
namespace Go.Proofs.YtfdinlomlcnjnaaDoor
theorem convOrders_holds : Rows.ConvOrdersCardSaid := convOrdersProof.card
end Go.Proofs.YtfdinlomlcnjnaaDoor

