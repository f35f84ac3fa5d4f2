/- For every format and two floats that are of it conv.Hex of both is the same text just if their bits are the same, and has as many digits as the format: no condition on the input; the card ties the tables of math/bits and internal/strconv that the road to Hex reads to the program's text (the translator's word that nothing else writes them), and speaks of the seat's pruned copy alone. -/
import Derived.Test.YtfdinlomlcnjnaaDoorRows
import Derived.Test.YtfdinlomlcnjnaaDoorTie
import Derived.Test.YtfdinlomlcnjnaaDoorCards
import Derived.Test.YtfdinlomlcnjnaaDoorConvLv
import Derived.Test.YtfdinlomlcnjnaaDoorConvHy
import Derived.ProofKit
import Derived.LaidMore
import Derived.LaidSub
import Derived.Lib.LaidTab
import Derived.OpenShut
import Derived.ChangeOld
import Derived.Stop.Joined
import Derived.Lib.SmallJoins
import Derived.SevenTiedAt
namespace Go.Proofs.YtfdinlomlcnjnaaDoor
open Go.RowKit
set_option linter.unusedVariables false
theorem x_format (f : Int) (w : World) : Calls Tryd.prog 17 #[.int .i64 f] w fun e w' => e = .returned (.int .i64 (if f == 1 then 1 else 0)) ∧ w' = w := by
  by_cases c : f = 1
  · subst c
    go_enter Tryd.func17, Tryd.ntmps17
    go_wp2_with fail
    go_ret
    exact ⟨rfl, rfl⟩
  · have c' : (f == 1) = false := by simp [c]
    rw [c']
    go_enter Tryd.func17, Tryd.ntmps17
    go_wp2_with fail
    go_ret
    exact ⟨rfl, rfl⟩
theorem x_ne {A B W : Nat} (hA : A < 16 ^ W) (hB : B < 16 ^ W) (h : A ≠ B) : ((⟨(hexL A W).toArray⟩ : ByteArray).toList == (⟨(hexL B W).toArray⟩ : ByteArray).toList) = false := by
  rw [ByteArray.toList_mk, ByteArray.toList_mk, beq_eq_false_iff_ne]
  exact fun e => h (hexL_inj W A B hA hB e)
theorem x_size (A W : Nat) : (⟨(hexL A W).toArray⟩ : ByteArray).size = W := by
  show (hexL A W).toArray.size = W
  simp [hexL_len]
theorem x_id (s : Bool) (a : Int) (h : wideB s a = false) : hexA s a = a := by
  unfold hexA
  rw [if_neg]
  unfold cls
  rw [h, if_neg (by decide)]
  (repeat' split) <;> decide
set_option maxRecDepth 8000 in
set_option maxHeartbeats 3200000 in
theorem law_convhexes (p a b : Int) (h1 : Word a) (h2 : Word b) (w : World) (h : w.cell? ⟨5, 15, none⟩ = some (.int .u8 4)) :
    Calls Tryd.prog 11 #[.int .i64 p, .int .u64 a, .int .u64 b] w fun e w' => e = .returned (.bool true) ∧ Below w.heap.size w w' := by
  have hl := fun (w : World) h => clive_any w h
  have hg := x_format p
  cases c : (p == 1)
  · rw [c] at hg
    have hx := fun (w : World) h => hex_any 0 a h1 w h
    have hy := fun (w : World) h => hex_any 0 b h2 w h
    rw [show ((0 : Int) == 1) = false from rfl, x_id false _ rfl, show hexW false = 16 from rfl] at hx hy
    obtain ⟨A, rfl⟩ := Int.eq_ofNat_of_zero_le h1.1
    obtain ⟨B, rfl⟩ := Int.eq_ofNat_of_zero_le h2.1
    rw [Int.toNat_natCast] at hx hy
    have s1 := x_size A 16
    have s2 := x_size B 16
    have ne := @x_ne A B 16 (by have := h1.2; show A < 18446744073709551616; omega) (by have := h2.2; show B < 18446744073709551616; omega)
    by_cases e : A = B
    · subst e
      clear ne s2
      generalize (⟨(hexL A 16).toArray⟩ : ByteArray) = X at *
      go_enter Tryd.func11, Tryd.ntmps11
      go_wp2_with (go_at_call 17; refine (hg _).mono ?_; rintro e w1 ⟨rfl, hw⟩; rw [hw]; clear hw w1)
      refine (hx _ h).mono ?_
      rintro e w2 ⟨rfl, b2⟩
      go_wp2_with fail
      refine (hy _ (cell_on b2 h)).mono ?_
      rintro e w3 ⟨rfl, b3⟩
      go_wp2_with fail
      refine (hl _ (cell_on b3 (cell_on b2 h))).mono ?_
      rintro e w4 ⟨rfl, b4⟩
      go_wp2_with fail
      go_ret
      exact ⟨rfl, below_callC (below_callC b2 b3) b4⟩
    · have n1 := ne e
      have n2 : ((A : Int) == (B : Int)) = false := by simp; omega
      clear ne e
      generalize (⟨(hexL A 16).toArray⟩ : ByteArray) = X at *
      generalize (⟨(hexL B 16).toArray⟩ : ByteArray) = Y at *
      have n3 : ¬ X.toList = Y.toList := by simpa using n1
      go_enter Tryd.func11, Tryd.ntmps11
      go_wp2_with (go_at_call 17; refine (hg _).mono ?_; rintro e w1 ⟨rfl, hw⟩; rw [hw]; clear hw w1)
      refine (hx _ h).mono ?_
      rintro e w2 ⟨rfl, b2⟩
      go_wp2_with fail
      refine (hy _ (cell_on b2 h)).mono ?_
      rintro e w3 ⟨rfl, b3⟩
      go_wp2_with fail
      refine (hl _ (cell_on b3 (cell_on b2 h))).mono ?_
      rintro e w4 ⟨rfl, b4⟩
      go_wp2_with fail
      go_ret
      exact ⟨rfl, below_callC (below_callC b2 b3) b4⟩
  · rw [c] at hg
    obtain ⟨A, hA, lA⟩ : ∃ A : Nat, a.tmod 4294967296 = (A : Int) ∧ A < 4294967296 := ⟨(a % 4294967296).toNat, by rw [Int.tmod_eq_emod_of_nonneg h1.1]; omega, by omega⟩
    obtain ⟨B, hB, lB⟩ : ∃ B : Nat, b.tmod 4294967296 = (B : Int) ∧ B < 4294967296 := ⟨(b % 4294967296).toNat, by rw [Int.tmod_eq_emod_of_nonneg h2.1]; omega, by omega⟩
    have hx := fun (w : World) h => hex_any 1 (A : Int) ⟨by omega, by omega⟩ w h
    have hy := fun (w : World) h => hex_any 1 (B : Int) ⟨by omega, by omega⟩ w h
    rw [show ((1 : Int) == 1) = true from rfl, x_id true _ (by unfold wideB; simp; omega), show hexW true = 8 from rfl] at hx hy
    rw [Int.toNat_natCast] at hx hy
    have s1 := x_size A 8
    have s2 := x_size B 8
    have ne := @x_ne A B 8 lA lB
    by_cases e : A = B
    · subst e
      clear ne s2
      generalize (⟨(hexL A 8).toArray⟩ : ByteArray) = X at *
      go_enter Tryd.func11, Tryd.ntmps11
      go_wp2_with (go_at_call 17; refine (hg _).mono ?_; rintro e w1 ⟨rfl, hw⟩; rw [hw]; clear hw w1)
      refine (hx _ h).mono ?_
      rintro e w2 ⟨rfl, b2⟩
      go_wp2_with fail
      refine (hy _ (cell_on b2 h)).mono ?_
      rintro e w3 ⟨rfl, b3⟩
      go_wp2_with fail
      refine (hl _ (cell_on b3 (cell_on b2 h))).mono ?_
      rintro e w4 ⟨rfl, b4⟩
      go_wp2_with fail
      go_ret
      exact ⟨rfl, below_callC (below_callC b2 b3) b4⟩
    · have n1 := ne e
      have n2 : ((A : Int) == (B : Int)) = false := by simp; omega
      clear ne e
      generalize (⟨(hexL A 8).toArray⟩ : ByteArray) = X at *
      generalize (⟨(hexL B 8).toArray⟩ : ByteArray) = Y at *
      have n3 : ¬ X.toList = Y.toList := by simpa using n1
      go_enter Tryd.func11, Tryd.ntmps11
      go_wp2_with (go_at_call 17; refine (hg _).mono ?_; rintro e w1 ⟨rfl, hw⟩; rw [hw]; clear hw w1)
      refine (hx _ h).mono ?_
      rintro e w2 ⟨rfl, b2⟩
      go_wp2_with fail
      refine (hy _ (cell_on b2 h)).mono ?_
      rintro e w3 ⟨rfl, b3⟩
      go_wp2_with fail
      refine (hl _ (cell_on b3 (cell_on b2 h))).mono ?_
      rintro e w4 ⟨rfl, b4⟩
      go_wp2_with fail
      go_ret
      exact ⟨rfl, below_callC (below_callC b2 b3) b4⟩
end Go.Proofs.YtfdinlomlcnjnaaDoor
namespace Go.Proofs.YtfdinlomlcnjnaaDoor.convHexesProof
open Go.ChangeShapes Go.WideShapes Go.ChangeAt Go.RowKit Go.Joins
set_option linter.unusedVariables false
theorem own : ownKnob Tryd.prog.godebug = none := by kernel_rfl
theorem word_of_wf {x : Int} (h : (Lit.int .u64 x).wf = true) : Word x := by
  simp [Lit.wf, IntKind.min, IntKind.max, IntKind.signed, IntKind.bits] at h
  exact ⟨by omega, by omega⟩
def tab64 : List Int := [0, 1, 56, 2, 57, 49, 28, 3, 61, 58, 42, 50, 38, 29, 17, 4, 62, 47, 59, 36, 45, 43, 51, 22, 53, 39, 33, 30, 24, 18, 12, 5, 63, 55, 48, 27, 60, 41, 37, 16, 46, 35, 44, 21, 52, 32, 23, 11, 54, 26, 40, 15, 34, 20, 31, 10, 25, 14, 19, 9, 13, 8, 7, 6]
theorem g64 : Tryd.prog.globalNamed "math/bits.deBruijn64tab" = some 5 := by kernel_rfl
def laidL : List (String × DataW Unit) := Rows.convHexesRow.laid
theorem of_laid {W : World} (h : laidMetH Tryd.prog laidL W) : W.cell? ⟨5, 15, none⟩ = some (.int .u8 4) := by
  have h2 := laidMetH.filter (fun x => x.1 == "math/bits.deBruijn64tab") h
  have h3 : laidMetH Tryd.prog [("math/bits.deBruijn64tab", Lib.tabData .u8 tab64)] W := h2
  rw [MakeChecks.laidMetH_plain _ _ _ (by kernel_rfl)] at h3
  have t := Lib.tabIs_of_head g64 (by kernel_rfl) (t := 152) (n := 64) (e := 5) Tryd.underlying152 Tryd.underlying5 (by kernel_rfl) (by kernel_rfl) h3
  exact t.cell g64 15 (by decide)
/-- The door's own heap meets the condition. -/
theorem door_met (os : Os) (args : Array Value) : laidMetH Tryd.prog laidL ((World.doorLaid Tryd.prog 4000 os).forCall (fun _ _ => 0) ⟨#[], args, []⟩).memory :=
  laidMetH_of_parts3 (fuel := 8) (laidMet_of_run' 8 (by kernel_rfl) (by kernel_rfl)) (by kernel_rfl) (by kernel_rfl)
set_option maxRecDepth 100000 in
theorem lifted (os : Os) (started : os.Started) (H : Type) (enc : TypeId × Value → H) :
    ReturnsInHanded {} Tryd.checked os 11 .any (fun w args => (Rows.convHexesSpec.pre enc Tryd.prog Tryd.f11 [] false w args ∧ laidMetH Tryd.prog laidL w) ∧ sizedMet enc Tryd.prog Tryd.f11 (OpenSpec.ofChange Rows.convHexesSpec) false w args)
      (Rows.convHexesSpec.post enc Tryd.prog Tryd.f11 false true false false) := by
  refine returnsInHanded_of_change_and (C := Tryd.checked) (X := fun w _ => laidMetH Tryd.prog laidL w) (fun _ _ _ hh h => h.of_heap hh) own started (by kernel_rfl) Tryd.func11
    (ChangeSpec.witness_shaped (enc := enc) (C := Tryd.checked) (os := os) (X := fun w _ => laidMetH Tryd.prog laidL w) false (World.doorLaid Tryd.prog 4000 os) #[.int .i64 0, .int .u64 0, .int .u64 0] 8 rfl (World.shaped_of_RefB (by kernel_rfl) (by kernel_rfl)) (by kernel_rfl) (by kernel_rfl) (by kernel_rfl) (door_met os _)) ?_
  intro W base args ds gs before hval0 hW _ _ hL _
  have hval : ∀ (j : Nat) t v, Tryd.f11.params[j]? = some t → args[j]? = some v → Value.okWide Tryd.prog W .any base t v := hval0
  have hW' := hW
  obtain ⟨p, q, hA0, hV, rfl, hfz, hnd⟩ := hW
  have hA : DataW.TrodAll enc Tryd.prog W 0 (fun _ => true) true Tryd.f11.params.toList args.toList ds p := hA0
  rw [Tryd.params11] at hA hval
  obtain ⟨v0, vs0, d0, ds0, p0, q0, hargs, rfl, rfl, h0, r0⟩ := trodAll_cons hA
  obtain ⟨v1, vs1, d1, ds1, p1, q1, rfl, rfl, rfl, h1, r1⟩ := trodAll_cons r0
  obtain ⟨v2, vs2, d2, ds2, p2, q2, rfl, rfl, rfl, h2, r2⟩ := trodAll_cons r1
  obtain ⟨rfl, rfl, rfl⟩ := trodAll_nil r2
  obtain rfl : args = #[v0, v1, v2] := by cases args; simp_all
  obtain ⟨rfl, rfl⟩ := trodVars_none hV
  obtain ⟨x0, rfl, rfl, rfl, wx0⟩ := open_int Tryd.underlying28 (hval 0 28 v0 rfl rfl) h0
  obtain ⟨x1, rfl, rfl, rfl, wx1⟩ := open_int Tryd.underlying23 (hval 1 23 v1 rfl rfl) h1
  obtain ⟨x2, rfl, rfl, rfl, wx2⟩ := open_int Tryd.underlying23 (hval 2 23 v2 rfl rfl) h2
  clear hA0 hval0
  refine (law_convhexes x0 x1 x2 (word_of_wf wx1) (word_of_wf wx2) W (of_laid hL)).mono fun e W' ⟨he, bel⟩ => ?_
  subst he
  exact ⟨_, rfl, _, _, _, [], _, [], hW', trodAll_mk1 (shut_bool Tryd.underlying4 _), (trodAll_cons_mk (shut_int Tryd.underlying28 wx0) (trodAll_cons_mk (shut_int Tryd.underlying23 wx1) (trodAll_cons_mk (shut_int Tryd.underlying23 wx2) trodAll_mk0))), rfl, bel.frame _, fun h => by cases h⟩
theorem over : Rows.convHexesRow.holds Tryd.pinned (OpenSpec.ofChange Rows.convHexesSpec) :=
  OpenClaim.holds_of_wide 11 Tryd.f11 rfl rfl rfl rfl rfl rfl rfl ⟨rfl, rfl, rfl, rfl, rfl⟩ rfl rfl rfl rfl rfl (by kernel_rfl) Tryd.func11 (by kernel_rfl)
    (of_decide_eq_true (by kernel_rfl)) (by unfold Func.isWrapper; first | (rw [if_pos (by decide +kernel)]; kernel_rfl) | (rw [if_neg (by decide +kernel)]; exact ⟨rfl, rfl⟩))
    (fun os started H enc _ => lifted os started H enc)
theorem card : Rows.ConvHexesCardSaid :=
  Claim7.holds_tied_plain_at .later [] [.data, .data, .data] true (true, "2d22253cf365a60bd7155bb79663bc04cf44260508665e221caf2376b4ab5de4") false
    over (fun _ h => by cases h) (by kernel_rfl) (fun _ h => by cases h) convHexes_row_tie rfl ⟨rfl, rfl⟩ (by kernel_rfl) rfl
    (fun f fn hf hfn => by
      obtain rfl : f = 11 := Option.some.inj ((show Tryd.prog.funcNamed "plumbline/plumblinelaw03.ConvHexes" = some 11 by kernel_rfl).symm.trans hf) |>.symm
      obtain rfl : fn = Tryd.f11 := (Option.some.inj (Tryd.func11.symm.trans hfn)).symm
      exact ⟨by kernel_rfl, fun j t ht => by
        rw [Tryd.params11] at ht
        have hm : t ∈ [28, 23, 23] := by simpa using Array.mem_of_getElem? ht
        have hall : ([28, 23, 23].all fun u => !Tryd.prog.wantsStandIn u) = true := by kernel_rfl
        exact (show Tryd.prog.wantsStandIn t = false by simpa using List.all_eq_true.1 hall t hm)⟩)
    (by kernel_rfl)
end Go.Proofs.YtfdinlomlcnjnaaDoor.convHexesProof
namespace Go.Proofs.YtfdinlomlcnjnaaDoor
theorem convHexes_holds : Rows.ConvHexesCardSaid := convHexesProof.card
end Go.Proofs.YtfdinlomlcnjnaaDoor

