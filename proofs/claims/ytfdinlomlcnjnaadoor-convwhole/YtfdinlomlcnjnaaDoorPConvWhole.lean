/- For every format and number of 32 bits conv.Literal of its digits as a real, with noughts ahead and behind too, is conv.FromInt of it, rounded near, and conv.Int of its digits is it, or ErrRange past 2^31 - 1: no condition on the input; the card ties the tables of math/bits and internal/strconv that the road to Hex reads to the program's text (the translator's word that nothing else writes them), and speaks of the seat's pruned copy alone. -/
import Derived.Test.YtfdinlomlcnjnaaDoorRows
import Derived.Test.YtfdinlomlcnjnaaDoorTie
import Derived.Test.YtfdinlomlcnjnaaDoorCards
import Derived.Test.YtfdinlomlcnjnaaDoorConvLv
import Derived.Test.YtfdinlomlcnjnaaDoorConvWh
import Derived.ProofKit
import Derived.LaidMore
import Derived.LaidSub
import Derived.Lib.LaidTab
import Derived.OpenShut
import Derived.ChangeOld
import Derived.Stop.Joined
import Derived.Lib.SmallJoins
import Derived.SevenTiedAt
namespace Go.Proofs.YtfdinlomlcnjnaaDoor
open Go.RowKit
set_option linter.unusedVariables false
set_option maxRecDepth 8000 in
set_option maxHeartbeats 6400000 in
theorem law_convwhole (f n : Int) (n0 : 0 ≤ n) (n1 : n ≤ 4294967295) (w : World) (h : w.cell? ⟨5, 15, none⟩ = some (.int .u8 4)) :
    Calls Tryd.prog 9 #[.int .i64 f, .int .u32 n] w fun e w' => e = .returned (.bool true) ∧ Below w.heap.size w w' := by
  obtain ⟨N, rfl⟩ := Int.eq_ofNat_of_zero_le n0
  have hl := fun (w : World) h => clive_any w h
  have hdi := digits_any 9 N (by have : (10 : Nat) ^ (9 + 1) = 10000000000 := rfl; omega) (by omega)
  have hfr : ∀ w, Calls Tryd.prog 20 #[.int .i64 f, .int .i64 0, .int .i64 (N : Int)] w fun e w' => e = .returned (.int .u64 (rnd (f == 1) 0 false N 0)) ∧ Below w.heap.size w w' := fun w => by
    have t := fromInt_any f 0 (N : Int) (by omega) (by omega) w
    rw [show decide ((N : Int) < 0) = false by simp, show (N : Int).natAbs = N by omega] at t
    exact t
  go_enter Tryd.func9, Tryd.ntmps9
  go_wp2_with fail
  refine (hdi _).mono ?_
  rintro e w1 ⟨k, F, k1, k2, hF, hN, rfl, b1⟩
  have l1 := lit_one f k F k1 k2 hF
  have l2 := lit_two f k F k1 k2 hF
  have io := intD_ok k F k1 (by omega) hF
  have ib := intD_big k F k1 (by omega) hF
  have J1 := cat_one F k
  have J2 := cat_two F k
  have J3 := cat_three F k
  have z1 := digS_size F k
  have z2 : (txtS ([48, 48] ++ digL F k)).size = k + 2 := by rw [txtS_size, List.length_append, digL_len]; simp; omega
  have m1 : k + 2 ≤ 9223372036854775807 := by omega
  have m2 : 2 + k ≤ 9223372036854775807 := by omega
  have m3 : k + 2 + 3 ≤ 9223372036854775807 := by omega
  rw [hN] at l1 l2 io ib
  generalize txtS (([48, 48] ++ digL F k) ++ [46, 48, 48]) = T3 at *
  generalize txtS ([48, 48] ++ digL F k) = T2 at *
  generalize txtS (digL F k ++ [46, 48]) = T1 at *
  generalize digS F k = D at *
  generalize rnd (f == 1) 0 false N 0 = V at *
  clear hdi hF hN k1 k2
  by_cases c : N ≤ 2147483647
  · have hi := io c
    have c' : (N : Int) ≤ 2147483647 := by omega
    clear io ib c
    go_wp2_with fail
    refine (l1 _).mono ?_
    rintro e w2 ⟨rfl, b2⟩
    go_wp2_with fail
    refine (l2 _).mono ?_
    rintro e w3 ⟨rfl, b3⟩
    go_wp2_with fail
    refine (hfr _).mono ?_
    rintro e w4 ⟨rfl, b4⟩
    go_wp2_with fail
    refine (hi _).mono ?_
    rintro e w5 ⟨rfl, b5⟩
    go_wp2_with fail
    refine (hl _ (cell_on b5 (cell_on b4 (cell_on b3 (cell_on b2 (cell_on b1 h)))))).mono ?_
    rintro e w6 ⟨rfl, b6⟩
    go_wp2_with fail
    go_ret
    exact ⟨rfl, below_callC (below_callC (below_callC (below_callC (below_callC b1 b2) b3) b4) b5) b6⟩
  · have hi := ib (by omega)
    have c' : (2147483647 : Int) < (N : Int) := by omega
    clear io ib c
    go_wp2_with fail
    refine (l1 _).mono ?_
    rintro e w2 ⟨rfl, b2⟩
    go_wp2_with fail
    refine (l2 _).mono ?_
    rintro e w3 ⟨rfl, b3⟩
    go_wp2_with fail
    refine (hfr _).mono ?_
    rintro e w4 ⟨rfl, b4⟩
    go_wp2_with fail
    refine (hi _).mono ?_
    rintro e w5 ⟨rfl, b5⟩
    go_wp2_with fail
    refine (hl _ (cell_on b5 (cell_on b4 (cell_on b3 (cell_on b2 (cell_on b1 h)))))).mono ?_
    rintro e w6 ⟨rfl, b6⟩
    go_wp2_with fail
    go_ret
    exact ⟨rfl, below_callC (below_callC (below_callC (below_callC (below_callC b1 b2) b3) b4) b5) b6⟩
end Go.Proofs.YtfdinlomlcnjnaaDoor
namespace Go.Proofs.YtfdinlomlcnjnaaDoor.convWholeProof
open Go.ChangeShapes Go.WideShapes Go.ChangeAt Go.RowKit Go.Joins
set_option linter.unusedVariables false
theorem own : ownKnob Tryd.prog.godebug = none := by kernel_rfl
theorem u32_of_wf {x : Int} (h : (Lit.int .u32 x).wf = true) : 0 ≤ x ∧ x ≤ 4294967295 := by
  simp [Lit.wf, IntKind.min, IntKind.max, IntKind.signed, IntKind.bits] at h
  exact ⟨by omega, by omega⟩
def tab64 : List Int := [0, 1, 56, 2, 57, 49, 28, 3, 61, 58, 42, 50, 38, 29, 17, 4, 62, 47, 59, 36, 45, 43, 51, 22, 53, 39, 33, 30, 24, 18, 12, 5, 63, 55, 48, 27, 60, 41, 37, 16, 46, 35, 44, 21, 52, 32, 23, 11, 54, 26, 40, 15, 34, 20, 31, 10, 25, 14, 19, 9, 13, 8, 7, 6]
theorem g64 : Tryd.prog.globalNamed "math/bits.deBruijn64tab" = some 5 := by kernel_rfl
def laidL : List (String × DataW Unit) := Rows.convWholeRow.laid
theorem of_laid {W : World} (h : laidMetH Tryd.prog laidL W) : W.cell? ⟨5, 15, none⟩ = some (.int .u8 4) := by
  have h2 := laidMetH.filter (fun x => x.1 == "math/bits.deBruijn64tab") h
  have h3 : laidMetH Tryd.prog [("math/bits.deBruijn64tab", Lib.tabData .u8 tab64)] W := h2
  rw [MakeChecks.laidMetH_plain _ _ _ (by kernel_rfl)] at h3
  have t := Lib.tabIs_of_head g64 (by kernel_rfl) (t := 152) (n := 64) (e := 5) Tryd.underlying152 Tryd.underlying5 (by kernel_rfl) (by kernel_rfl) h3
  exact t.cell g64 15 (by decide)
/-- The door's own heap meets the condition. -/
theorem door_met (os : Os) (args : Array Value) : laidMetH Tryd.prog laidL ((World.doorLaid Tryd.prog 4000 os).forCall (fun _ _ => 0) ⟨#[], args, []⟩).memory :=
  laidMetH_of_parts3 (fuel := 8) (laidMet_of_run' 8 (by kernel_rfl) (by kernel_rfl)) (by kernel_rfl) (by kernel_rfl)
set_option maxRecDepth 100000 in
theorem lifted (os : Os) (started : os.Started) (H : Type) (enc : TypeId × Value → H) :
    ReturnsInHanded {} Tryd.checked os 9 .any (fun w args => (Rows.convWholeSpec.pre enc Tryd.prog Tryd.f9 [] false w args ∧ laidMetH Tryd.prog laidL w) ∧ sizedMet enc Tryd.prog Tryd.f9 (OpenSpec.ofChange Rows.convWholeSpec) false w args)
      (Rows.convWholeSpec.post enc Tryd.prog Tryd.f9 false true false false) := by
  refine returnsInHanded_of_change_and (C := Tryd.checked) (X := fun w _ => laidMetH Tryd.prog laidL w) (fun _ _ _ hh h => h.of_heap hh) own started (by kernel_rfl) Tryd.func9
    (ChangeSpec.witness_shaped (enc := enc) (C := Tryd.checked) (os := os) (X := fun w _ => laidMetH Tryd.prog laidL w) false (World.doorLaid Tryd.prog 4000 os) #[.int .i64 0, .int .u32 0] 8 rfl (World.shaped_of_RefB (by kernel_rfl) (by kernel_rfl)) (by kernel_rfl) (by kernel_rfl) (by kernel_rfl) (door_met os _)) ?_
  intro W base args ds gs before hval0 hW _ _ hL _
  have hval : ∀ (j : Nat) t v, Tryd.f9.params[j]? = some t → args[j]? = some v → Value.okWide Tryd.prog W .any base t v := hval0
  have hW' := hW
  obtain ⟨p, q, hA0, hV, rfl, hfz, hnd⟩ := hW
  have hA : DataW.TrodAll enc Tryd.prog W 0 (fun _ => true) true Tryd.f9.params.toList args.toList ds p := hA0
  rw [Tryd.params9] at hA hval
  obtain ⟨v0, vs0, d0, ds0, p0, q0, hargs, rfl, rfl, h0, r0⟩ := trodAll_cons hA
  obtain ⟨v1, vs1, d1, ds1, p1, q1, rfl, rfl, rfl, h1, r1⟩ := trodAll_cons r0
  obtain ⟨rfl, rfl, rfl⟩ := trodAll_nil r1
  obtain rfl : args = #[v0, v1] := by cases args; simp_all
  obtain ⟨rfl, rfl⟩ := trodVars_none hV
  obtain ⟨x0, rfl, rfl, rfl, wx0⟩ := open_int Tryd.underlying28 (hval 0 28 v0 rfl rfl) h0
  obtain ⟨x1, rfl, rfl, rfl, wx1⟩ := open_int Tryd.underlying50 (hval 1 50 v1 rfl rfl) h1
  clear hA0 hval0
  refine (law_convwhole x0 x1 (u32_of_wf wx1).1 (u32_of_wf wx1).2 W (of_laid hL)).mono fun e W' ⟨he, bel⟩ => ?_
  subst he
  exact ⟨_, rfl, _, _, _, [], _, [], hW', trodAll_mk1 (shut_bool Tryd.underlying4 _), (trodAll_cons_mk (shut_int Tryd.underlying28 wx0) (trodAll_cons_mk (shut_int Tryd.underlying50 wx1) trodAll_mk0)), rfl, bel.frame _, fun h => by cases h⟩
theorem over : Rows.convWholeRow.holds Tryd.pinned (OpenSpec.ofChange Rows.convWholeSpec) :=
  OpenClaim.holds_of_wide 9 Tryd.f9 rfl rfl rfl rfl rfl rfl rfl ⟨rfl, rfl, rfl, rfl, rfl⟩ rfl rfl rfl rfl rfl (by kernel_rfl) Tryd.func9 (by kernel_rfl)
    (of_decide_eq_true (by kernel_rfl)) (by unfold Func.isWrapper; first | (rw [if_pos (by decide +kernel)]; kernel_rfl) | (rw [if_neg (by decide +kernel)]; exact ⟨rfl, rfl⟩))
    (fun os started H enc _ => lifted os started H enc)
theorem card : Rows.ConvWholeCardSaid :=
  Claim7.holds_tied_plain_at .later [] [.data, .data, .data] true (true, "2d22253cf365a60bd7155bb79663bc04cf44260508665e221caf2376b4ab5de4") false
    over (fun _ h => by cases h) (by kernel_rfl) (fun _ h => by cases h) convWhole_row_tie rfl ⟨rfl, rfl⟩ (by kernel_rfl) rfl
    (fun f fn hf hfn => by
      obtain rfl : f = 9 := Option.some.inj ((show Tryd.prog.funcNamed "plumbline/plumblinelaw03.ConvWhole" = some 9 by kernel_rfl).symm.trans hf) |>.symm
      obtain rfl : fn = Tryd.f9 := (Option.some.inj (Tryd.func9.symm.trans hfn)).symm
      exact ⟨by kernel_rfl, fun j t ht => by
        rw [Tryd.params9] at ht
        have hm : t ∈ [28, 50] := by simpa using Array.mem_of_getElem? ht
        have hall : ([28, 50].all fun u => !Tryd.prog.wantsStandIn u) = true := by kernel_rfl
        exact (show Tryd.prog.wantsStandIn t = false by simpa using List.all_eq_true.1 hall t hm)⟩)
    (by kernel_rfl)
end Go.Proofs.YtfdinlomlcnjnaaDoor.convWholeProof
namespace Go.Proofs.YtfdinlomlcnjnaaDoor
theorem convWhole_holds : Rows.ConvWholeCardSaid := convWholeProof.card
end Go.Proofs.YtfdinlomlcnjnaaDoor

