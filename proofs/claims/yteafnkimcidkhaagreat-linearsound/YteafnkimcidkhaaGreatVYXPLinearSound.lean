/- Texts of the proof, put together. -/
import Derived.Test.YteafnkimcidkhaaGreatYRG1
import Derived.Test.YteafnkimcidkhaaGreatYRG2
import Derived.Test.YteafnkimcidkhaaGreatYRSpWf
import Derived.Test.YteafnkimcidkhaaGreatShelf
import Derived.Test.YteafnkimcidkhaaGreatYRMB1
import Derived.Test.YteafnkimcidkhaaGreatYRMB2
import Derived.Test.YteafnkimcidkhaaGreatYRMB3
import Derived.Test.YteafnkimcidkhaaGreatYRSpF
import Derived.Test.YteafnkimcidkhaaGreatYRSpFl
import Derived.Test.YteafnkimcidkhaaGreatYRLjF
import Derived.Test.YteafnkimcidkhaaGreatYRLjH
import Derived.Test.YteafnkimcidkhaaGreatYRG3
import Derived.Test.YteafnkimcidkhaaGreatYRLiF
import Derived.Test.YteafnkimcidkhaaGreatYRLiG
import Derived.Test.YteafnkimcidkhaaGreatYRLiH
import Derived.Test.YteafnkimcidkhaaGreatYRLiI
import Derived.Test.YteafnkimcidkhaaGreatYRLiJ
import Derived.Test.YteafnkimcidkhaaGreatYRLiK
import Derived.Test.YteafnkimcidkhaaGreatYRLiL
import Derived.Test.YteafnkimcidkhaaGreatYRLiB
import Derived.Test.YteafnkimcidkhaaGreatYRMB4
import Derived.Test.YteafnkimcidkhaaGreatYRMB5
import Derived.Test.YteafnkimcidkhaaGreatYRLiO
import Derived.Test.YteafnkimcidkhaaGreatYRG5
import Derived.Test.YteafnkimcidkhaaGreatYRG4
import Derived.Test.YteafnkimcidkhaaGreatYRG6
import Derived.Test.YteafnkimcidkhaaGreatYRG7
import Derived.Test.YteafnkimcidkhaaGreatYRG8
import Derived.Test.YteafnkimcidkhaaGreatYRG9
import Derived.Test.YteafnkimcidkhaaGreatYRXPTopForms
import Derived.Test.YteafnkimcidkhaaGreatYRX1PTopForms
import Derived.Test.YteafnkimcidkhaaGreatVYRX2PTopForms
import Derived.Deep.DeepCutAuto
import Derived.BigQuiet
import Derived.LoopN
import Derived.Handy
import Derived.Deep.OwnRows
import Derived.Deep.QuietTactic
import Derived.Deep.CutRange
import Derived.WalkKit
import Derived.Laws.AppendOwnNone
import Derived.Deep.RegionHeld3
import Derived.Deep.RegionHeld
import Derived.OwnWalk
import Derived.Below
import Derived.Laws.AppendOwn
import Derived.Deep.RegionWith
namespace Go.Proofs.YteafnkimcidkhaaGreat
open Go.RowKit
set_option linter.unusedVariables false
set_option linter.unusedSimpArgs false
set_option maxRecDepth 100000 in
set_option maxHeartbeats 6400000 in
theorem linegd (x y z : Int) (k1 : ∀ V, Calls Tryz.prog 79 #[.int .i64 (0), .int .u64 (x)] V fun e w' => e = .returned (.int .u64 (y)) ∧ Below V.heap.size V w') (k2 : ∀ V, Calls Tryz.prog 133 #[.int .i64 (0), .int .u64 (y)] V fun e w' => e = .returned (.int .u64 (z)) ∧ Below V.heap.size V w') (w : World) :
    Calls Tryz.prog 122 #[.int .u64 x] w fun e w' => e = .returned (.int .u64 z) ∧ Below w.heap.size w w' := by
  go_enter Tryz.func122, Tryz.ntmps122
  go_wp2_with (first
    | (go_at_call 79; refine (k1 _).mono ?_; rintro e v1 ⟨rfl, g1⟩)
    | (go_at_call 133; refine (k2 _).mono ?_; rintro e v2 ⟨rfl, g2⟩)
    | fail)
  go_ret
  exact ⟨rfl, sp_call g1 g2⟩
set_option maxRecDepth 100000 in
set_option maxHeartbeats 6400000 in
theorem liturned (e1 : Bool) (a b x y : Int) (k1 : ∀ V, Calls Tryz.prog 122 #[.int .u64 (b)] V fun e w' => e = .returned (.int .u64 (x)) ∧ Below V.heap.size V w') (k2 : ∀ V, Calls Tryz.prog 122 #[.int .u64 (a)] V fun e w' => e = .returned (.int .u64 (y)) ∧ Below V.heap.size V w') (w : World) :
    Calls Tryz.prog 71 #[.agg #[.bool e1, .int .u64 a, .int .u64 b]] w fun e w' => e = .returned (.agg #[.bool false, .int .u64 x, .int .u64 y]) ∧ Below w.heap.size w w' := by
  go_enter Tryz.func71, Tryz.ntmps71
  go_upto_region 1 with fail
  obtain ⟨W, hW⟩ : ∃ W, ((w.alloc (.cells #[.bool e1, .int .u64 a, .int .u64 b] 24)).alloc (.cells #[.bool false, .int .u64 0, .int .u64 0] 24)) = W := ⟨_, rfl⟩
  have a0 : W.cell? ⟨w.heap.size, 0, none⟩ = some (.bool e1) := by rw [← hW]; simp [go_sem]
  have a1 : W.cell? ⟨w.heap.size, 1, none⟩ = some (.int .u64 a) := by rw [← hW]; simp [go_sem]
  have a2 : W.cell? ⟨w.heap.size, 2, none⟩ = some (.int .u64 b) := by rw [← hW]; simp [go_sem]
  have r0 : W.cell? ⟨w.heap.size + 1, 0, none⟩ = some (.bool false) := by rw [← hW]; simp [go_sem]
  have r1 : W.cell? ⟨w.heap.size + 1, 1, none⟩ = some (.int .u64 0) := by rw [← hW]; simp [go_sem]
  have r2 : W.cell? ⟨w.heap.size + 1, 2, none⟩ = some (.int .u64 0) := by rw [← hW]; simp [go_sem]
  have bW : Below w.heap.size w W := by rw [← hW]; exact (sp_new (sp_new (Below.refl _ _) _) _)
  have zW : W.heap.size = w.heap.size + 2 := by rw [← hW]; simp
  have fz : ∀ j, W.frozen? ⟨w.heap.size + 1, j, none⟩ = false := by intro j; rw [← hW]; simp [go_sem]
  rw [hW]
  clear hW
  replace zW := Nat.le_of_eq zW.symm
  have cc : Below W.heap.size W W := Below.refl _ _
  have hall : ∀ X9, Below W.heap.size W X9 → (X9.cell? ⟨w.heap.size, 0, none⟩ = some (.bool e1) ∧ X9.cell? ⟨w.heap.size, 1, none⟩ = some (.int .u64 a) ∧ X9.cell? ⟨w.heap.size, 2, none⟩ = some (.int .u64 b)) := fun X9 cc => ⟨sO cc a0, sO cc a1, sO cc a2⟩
  have hst : ∀ X9 x9 y9 z9, Below W.heap.size W X9 → ((((X9.setCell ⟨w.heap.size + 1, 0, none⟩ x9).setCell ⟨w.heap.size + 1, 1, none⟩ y9).setCell ⟨w.heap.size + 1, 2, none⟩ z9).cell? ⟨w.heap.size, 0, none⟩ = some (.bool e1) ∧ (((X9.setCell ⟨w.heap.size + 1, 0, none⟩ x9).setCell ⟨w.heap.size + 1, 1, none⟩ y9).setCell ⟨w.heap.size + 1, 2, none⟩ z9).cell? ⟨w.heap.size, 1, none⟩ = some (.int .u64 a) ∧ (((X9.setCell ⟨w.heap.size + 1, 0, none⟩ x9).setCell ⟨w.heap.size + 1, 1, none⟩ y9).setCell ⟨w.heap.size + 1, 2, none⟩ z9).cell? ⟨w.heap.size, 2, none⟩ = some (.int .u64 b)) := fun X9 x9 y9 z9 cc => ⟨sp_keep3 (sO cc a0) (by omega) _ _ _, sp_keep3 (sO cc a1) (by omega) _ _ _, sp_keep3 (sO cc a2) (by omega) _ _ _⟩
  go_region_held3 (fun w' => w'.cell? ⟨w.heap.size, 0, none⟩ = some (.bool e1) ∧ w'.cell? ⟨w.heap.size, 1, none⟩ = some (.int .u64 a) ∧ w'.cell? ⟨w.heap.size, 2, none⟩ = some (.int .u64 b)) (first | exact hall _ (by first | with_reducible exact cc | with_reducible exact cc.drew) | exact hst _ _ _ _ (by first | with_reducible exact cc | with_reducible exact cc.drew))
    (first
      | (go_at_call 122; (with_reducible refine (k1 _).mono ?_); rintro e u1 ⟨rfl, g⟩; replace cc := sp_call (show Below W.heap.size W _ by first | with_reducible exact cc | with_reducible exact cc.drew) g; clear g; clear k1)
      | (go_at_call 122; (with_reducible refine (k2 _).mono ?_); rintro e u2 ⟨rfl, g⟩; replace cc := sp_call (show Below W.heap.size W _ by first | with_reducible exact cc | with_reducible exact cc.drew) g; clear g; have zc := cc.size; replace r0 := sO cc r0; replace r1 := sO cc r1; replace r2 := sO cc r2; replace fz : ∀ j, u2.frozen? ⟨w.heap.size + 1, j, none⟩ = false := fun j => (cc.frozen (p := ⟨w.heap.size + 1, j, none⟩) (by first | (simp; done) | (simp; omega))).trans (fz j); replace bW := sp_call bW cc)
      | fail)
  all_goals go_wp2
  all_goals exact bodyPost_ret (v := .agg #[.bool false, .int .u64 x, .int .u64 y]) (by simp [results, Tryz.results71, go_sem, r0, r1, r2]) rfl ⟨rfl, sp_set3 bW (by omega) _ _ _⟩
end Go.Proofs.YteafnkimcidkhaaGreat

namespace Go.Proofs.YteafnkimcidkhaaGreat
open Go.RowKit
set_option linter.unusedVariables false
set_option linter.unusedSimpArgs false
set_option maxRecDepth 100000 in
set_option maxHeartbeats 6400000 in
theorem lineg1 (e1 e2 : Bool) (a b c d x y : Int) (k1 : ∀ V, Calls Tryz.prog 71 #[.agg #[.bool e1, .int .u64 a, .int .u64 b]] V fun e w' => e = .returned (.agg #[.bool false, .int .u64 x, .int .u64 y]) ∧ Below V.heap.size V w') (w : World) :
    Calls Tryz.prog 70 #[.agg #[.bool e1, .int .u64 a, .int .u64 b], .agg #[.bool e2, .int .u64 c, .int .u64 d]] w fun e w' => e = .returned (.tuple #[.agg #[.bool false, .int .u64 x, .int .u64 y], .bool true]) ∧ Below w.heap.size w w' := by
  go_enter Tryz.func70, Tryz.ntmps70
  go_upto_region 1 with fail
  obtain ⟨W, hW⟩ : ∃ W, (((w.alloc (.cells #[.bool e1, .int .u64 a, .int .u64 b] 24)).alloc (.cells #[.bool e2, .int .u64 c, .int .u64 d] 24)).alloc (.cells #[.bool false, .int .u64 0, .int .u64 0] 24)) = W := ⟨_, rfl⟩
  have a0 : W.cell? ⟨w.heap.size, 0, none⟩ = some (.bool e1) := by rw [← hW]; simp [go_sem]
  have a1 : W.cell? ⟨w.heap.size, 1, none⟩ = some (.int .u64 a) := by rw [← hW]; simp [go_sem]
  have a2 : W.cell? ⟨w.heap.size, 2, none⟩ = some (.int .u64 b) := by rw [← hW]; simp [go_sem]
  have b0 : W.cell? ⟨w.heap.size + 1, 0, none⟩ = some (.bool e2) := by rw [← hW]; simp [go_sem]
  have b1 : W.cell? ⟨w.heap.size + 1, 1, none⟩ = some (.int .u64 c) := by rw [← hW]; simp [go_sem]
  have b2 : W.cell? ⟨w.heap.size + 1, 2, none⟩ = some (.int .u64 d) := by rw [← hW]; simp [go_sem]
  have r0 : W.cell? ⟨w.heap.size + 1 + 1, 0, none⟩ = some (.bool false) := by rw [← hW]; simp [go_sem]
  have r1 : W.cell? ⟨w.heap.size + 1 + 1, 1, none⟩ = some (.int .u64 0) := by rw [← hW]; simp [go_sem]
  have r2 : W.cell? ⟨w.heap.size + 1 + 1, 2, none⟩ = some (.int .u64 0) := by rw [← hW]; simp [go_sem]
  have bW : Below w.heap.size w W := by rw [← hW]; exact (sp_new (sp_new (sp_new (Below.refl _ _) _) _) _)
  have zW : W.heap.size = w.heap.size + 3 := by rw [← hW]; simp
  have fz : ∀ j, W.frozen? ⟨w.heap.size + 1 + 1, j, none⟩ = false := by intro j; rw [← hW]; simp [go_sem]
  rw [hW]
  clear hW
  replace zW := Nat.le_of_eq zW.symm
  go_wp2_with (first
    | (go_at_call 71; (with_reducible refine (k1 _).mono ?_); rintro e v1 ⟨rfl, g⟩; replace fz : ∀ j, v1.frozen? ⟨w.heap.size + 1 + 1, j, none⟩ = false := fun j => (g.frozen (p := ⟨w.heap.size + 1 + 1, j, none⟩) (by first | (simp; done) | (simp; omega))).trans (fz j); replace bW := sp_call bW g; replace zW := Nat.le_trans zW g.size; replace a0 := sO g a0; replace a1 := sO g a1; replace a2 := sO g a2; replace b0 := sO g b0; replace b1 := sO g b1; replace b2 := sO g b2; replace r0 := sO g r0; replace r1 := sO g r1; replace r2 := sO g r2; clear g)
    | fail)
  exact bodyPost_ret (v := .tuple #[.agg #[.bool false, .int .u64 x, .int .u64 y], .bool true]) (by simp [results, Tryz.results70, go_sem, r0, r1, r2]) rfl ⟨rfl, (by (repeat (first | with_reducible assumption | with_reducible refine li_set1 ?_ (by omega) _ | with_reducible refine sp_new ?_ _)))⟩
end Go.Proofs.YteafnkimcidkhaaGreat

namespace Go.Proofs.YteafnkimcidkhaaGreat
open Go.RowKit
set_option linter.unusedVariables false
set_option linter.unusedSimpArgs false
set_option maxRecDepth 100000 in
set_option maxHeartbeats 6400000 in
theorem lineg (wa ae : Bool) (al ah : Int) (va : Value) (hva : ∃ o n c, va = .slice o n c) (ok : World → Prop) (hok : ∀ W V, ok W → Below W.heap.size W V → ok V) (Q : Bool → Bool → Int → Int → Prop) (L : Bool → Bool → Int → Int → List (Int × Bool × Int × Int) → Prop)
    (k1 : ∀ V, ok V → Calls Tryz.prog 67 #[.agg #[.bool wa, .bool ae, .int .u64 al, .int .u64 ah, va], .agg #[.bool false, .bool false, .int .u64 0, .int .u64 0, .slice none 0 0], .func (.func 70) #[] #[]] V fun e w' => (∃ (rw re : Bool) (rl rh : Int) (rv : Value), e = .returned (.agg #[.bool rw, .bool re, .int .u64 rl, .int .u64 rh, rv]) ∧ Q rw re rl rh ∧ ∃ ls, L rw re rl rh ls ∧ TAt w' rv ls ∧ Up V.heap.size rv) ∧ Below V.heap.size V w') (w : World) (h0 : ok w) :
    Calls Tryz.prog 33 #[.agg #[.bool wa, .bool ae, .int .u64 al, .int .u64 ah, va]] w fun e w' => (∃ (rw re : Bool) (rl rh : Int) (rv : Value), e = .returned (.agg #[.bool rw, .bool re, .int .u64 rl, .int .u64 rh, rv]) ∧ Q rw re rl rh ∧ ∃ ls, L rw re rl rh ls ∧ TAt w' rv ls ∧ Up w.heap.size rv) ∧ Below w.heap.size w w' := by
  obtain ⟨pa, na, ca, rfl⟩ := hva
  go_enter Tryz.func33, Tryz.ntmps33
  go_upto_region 1 with fail
  obtain ⟨W, hW⟩ : ∃ W, ((w.alloc (.cells #[.bool wa, .bool ae, .int .u64 al, .int .u64 ah, .slice pa na ca] 31)).alloc (.cells #[.bool false, .bool false, .int .u64 0, .int .u64 0, .slice none 0 0] 31)) = W := ⟨_, rfl⟩
  have a0 : W.cell? ⟨w.heap.size, 0, none⟩ = some (.bool wa) := by rw [← hW]; simp [go_sem]
  have a1 : W.cell? ⟨w.heap.size, 1, none⟩ = some (.bool ae) := by rw [← hW]; simp [go_sem]
  have a2 : W.cell? ⟨w.heap.size, 2, none⟩ = some (.int .u64 al) := by rw [← hW]; simp [go_sem]
  have a3 : W.cell? ⟨w.heap.size, 3, none⟩ = some (.int .u64 ah) := by rw [← hW]; simp [go_sem]
  have a4 : W.cell? ⟨w.heap.size, 4, none⟩ = some (.slice pa na ca) := by rw [← hW]; simp [go_sem]
  have r0 : W.cell? ⟨w.heap.size + 1, 0, none⟩ = some (.bool false) := by rw [← hW]; simp [go_sem]
  have r1 : W.cell? ⟨w.heap.size + 1, 1, none⟩ = some (.bool false) := by rw [← hW]; simp [go_sem]
  have r2 : W.cell? ⟨w.heap.size + 1, 2, none⟩ = some (.int .u64 0) := by rw [← hW]; simp [go_sem]
  have r3 : W.cell? ⟨w.heap.size + 1, 3, none⟩ = some (.int .u64 0) := by rw [← hW]; simp [go_sem]
  have r4 : W.cell? ⟨w.heap.size + 1, 4, none⟩ = some (.slice none 0 0) := by rw [← hW]; simp [go_sem]
  have bW : Below w.heap.size w W := by rw [← hW]; exact (sp_new (sp_new (Below.refl _ _) _) _)
  have zW : W.heap.size = w.heap.size + 2 := by rw [← hW]; simp
  have fz : ∀ j, W.frozen? ⟨w.heap.size + 1, j, none⟩ = false := by intro j; rw [← hW]; simp [go_sem]
  rw [hW]
  clear hW
  replace zW := Nat.le_of_eq zW.symm
  have oW := hok _ _ h0 bW
  have zW0 := zW
  go_wp2_with (first
    | (go_at_call 67; (with_reducible refine (k1 _ oW).mono ?_); rintro e v1 ⟨⟨rw', re, rl, rh, rv, rfl, hQ, ls, hL, hT, hU⟩, g⟩; obtain ⟨pr, cr, rfl⟩ := hT.len; replace fz : ∀ j, v1.frozen? ⟨w.heap.size + 1, j, none⟩ = false := fun j => (g.frozen (p := ⟨w.heap.size + 1, j, none⟩) (by first | (simp; done) | (simp; omega))).trans (fz j); replace bW := sp_call bW g; replace zW := Nat.le_trans zW g.size; replace a0 := sO g a0; replace a1 := sO g a1; replace a2 := sO g a2; replace a3 := sO g a3; replace a4 := sO g a4; replace r0 := sO g r0; replace r1 := sO g r1; replace r2 := sO g r2; replace r3 := sO g r3; replace r4 := sO g r4)
    | fail)
  exact bodyPost_ret (v := .agg #[.bool rw', .bool re, .int .u64 rl, .int .u64 rh, .slice pr ls.length cr]) (by simp [results, Tryz.results33, go_sem, r0, r1, r2, r3, r4]) rfl ⟨⟨rw', re, rl, rh, _, rfl, hQ, ls, hL, (((((hT.set hU (by omega)).set hU (by omega)).set hU (by omega)).set hU (by omega)).set hU (by omega)), hU.le (by omega)⟩, (by (repeat (first | with_reducible assumption | with_reducible refine li_set1 ?_ (by omega) _ | with_reducible refine sp_new ?_ _)))⟩
set_option maxRecDepth 100000 in
set_option maxHeartbeats 6400000 in
theorem lisub (wa ae : Bool) (al ah : Int) (va : Value) (wb be : Bool) (bl bh : Int) (vb : Value) (hva : ∃ o n c, va = .slice o n c) (hvb : ∃ o n c, vb = .slice o n c) (ok : World → Prop) (hok : ∀ W V, ok W → Below W.heap.size W V → ok V) (Q : Bool → Bool → Int → Int → Prop) (L : Bool → Bool → Int → Int → List (Int × Bool × Int × Int) → Prop) (Q1 : Bool → Bool → Int → Int → Prop) (L1 : Bool → Bool → Int → Int → List (Int × Bool × Int × Int) → Prop)
    (k1 : ∀ V, ok V → Calls Tryz.prog 33 #[.agg #[.bool wb, .bool be, .int .u64 bl, .int .u64 bh, vb]] V fun e w' => (∃ (rw re : Bool) (rl rh : Int) (rv : Value), e = .returned (.agg #[.bool rw, .bool re, .int .u64 rl, .int .u64 rh, rv]) ∧ Q1 rw re rl rh ∧ ∃ ls, L1 rw re rl rh ls ∧ TAt w' rv ls ∧ Up V.heap.size rv) ∧ Below V.heap.size V w')
    (k2 : ∀ V nw ne nl nh nv ms, ok V → Q1 nw ne nl nh → L1 nw ne nl nh ms → TAt V nv ms → Calls Tryz.prog 29 #[.agg #[.bool wa, .bool ae, .int .u64 al, .int .u64 ah, va], .agg #[.bool nw, .bool ne, .int .u64 nl, .int .u64 nh, nv]] V fun e w' => (∃ (rw re : Bool) (rl rh : Int) (rv : Value), e = .returned (.agg #[.bool rw, .bool re, .int .u64 rl, .int .u64 rh, rv]) ∧ Q rw re rl rh ∧ ∃ ls, L rw re rl rh ls ∧ TAt w' rv ls ∧ Up V.heap.size rv) ∧ Below V.heap.size V w') (w : World) (h0 : ok w) :
    Calls Tryz.prog 31 #[.agg #[.bool wa, .bool ae, .int .u64 al, .int .u64 ah, va], .agg #[.bool wb, .bool be, .int .u64 bl, .int .u64 bh, vb]] w fun e w' => (∃ (rw re : Bool) (rl rh : Int) (rv : Value), e = .returned (.agg #[.bool rw, .bool re, .int .u64 rl, .int .u64 rh, rv]) ∧ Q rw re rl rh ∧ ∃ ls, L rw re rl rh ls ∧ TAt w' rv ls ∧ Up w.heap.size rv) ∧ Below w.heap.size w w' := by
  obtain ⟨pa, na, ca, rfl⟩ := hva
  obtain ⟨pb, nb, cb, rfl⟩ := hvb
  go_enter Tryz.func31, Tryz.ntmps31
  go_upto_region 1 with fail
  obtain ⟨W, hW⟩ : ∃ W, (((w.alloc (.cells #[.bool wa, .bool ae, .int .u64 al, .int .u64 ah, .slice pa na ca] 31)).alloc (.cells #[.bool wb, .bool be, .int .u64 bl, .int .u64 bh, .slice pb nb cb] 31)).alloc (.cells #[.bool false, .bool false, .int .u64 0, .int .u64 0, .slice none 0 0] 31)) = W := ⟨_, rfl⟩
  have a0 : W.cell? ⟨w.heap.size, 0, none⟩ = some (.bool wa) := by rw [← hW]; simp [go_sem]
  have a1 : W.cell? ⟨w.heap.size, 1, none⟩ = some (.bool ae) := by rw [← hW]; simp [go_sem]
  have a2 : W.cell? ⟨w.heap.size, 2, none⟩ = some (.int .u64 al) := by rw [← hW]; simp [go_sem]
  have a3 : W.cell? ⟨w.heap.size, 3, none⟩ = some (.int .u64 ah) := by rw [← hW]; simp [go_sem]
  have a4 : W.cell? ⟨w.heap.size, 4, none⟩ = some (.slice pa na ca) := by rw [← hW]; simp [go_sem]
  have b0 : W.cell? ⟨w.heap.size + 1, 0, none⟩ = some (.bool wb) := by rw [← hW]; simp [go_sem]
  have b1 : W.cell? ⟨w.heap.size + 1, 1, none⟩ = some (.bool be) := by rw [← hW]; simp [go_sem]
  have b2 : W.cell? ⟨w.heap.size + 1, 2, none⟩ = some (.int .u64 bl) := by rw [← hW]; simp [go_sem]
  have b3 : W.cell? ⟨w.heap.size + 1, 3, none⟩ = some (.int .u64 bh) := by rw [← hW]; simp [go_sem]
  have b4 : W.cell? ⟨w.heap.size + 1, 4, none⟩ = some (.slice pb nb cb) := by rw [← hW]; simp [go_sem]
  have r0 : W.cell? ⟨w.heap.size + 1 + 1, 0, none⟩ = some (.bool false) := by rw [← hW]; simp [go_sem]
  have r1 : W.cell? ⟨w.heap.size + 1 + 1, 1, none⟩ = some (.bool false) := by rw [← hW]; simp [go_sem]
  have r2 : W.cell? ⟨w.heap.size + 1 + 1, 2, none⟩ = some (.int .u64 0) := by rw [← hW]; simp [go_sem]
  have r3 : W.cell? ⟨w.heap.size + 1 + 1, 3, none⟩ = some (.int .u64 0) := by rw [← hW]; simp [go_sem]
  have r4 : W.cell? ⟨w.heap.size + 1 + 1, 4, none⟩ = some (.slice none 0 0) := by rw [← hW]; simp [go_sem]
  have bW : Below w.heap.size w W := by rw [← hW]; exact (sp_new (sp_new (sp_new (Below.refl _ _) _) _) _)
  have zW : W.heap.size = w.heap.size + 3 := by rw [← hW]; simp
  have fz : ∀ j, W.frozen? ⟨w.heap.size + 1 + 1, j, none⟩ = false := by intro j; rw [← hW]; simp [go_sem]
  rw [hW]
  clear hW
  replace zW := Nat.le_of_eq zW.symm
  have oW := hok _ _ h0 bW
  have cc : Below W.heap.size W W := Below.refl _ _
  have hall : ∀ X9, Below W.heap.size W X9 → (X9.cell? ⟨w.heap.size, 0, none⟩ = some (.bool wa) ∧ X9.cell? ⟨w.heap.size, 1, none⟩ = some (.bool ae) ∧ X9.cell? ⟨w.heap.size, 2, none⟩ = some (.int .u64 al) ∧ X9.cell? ⟨w.heap.size, 3, none⟩ = some (.int .u64 ah) ∧ X9.cell? ⟨w.heap.size, 4, none⟩ = some (.slice pa na ca) ∧ X9.cell? ⟨w.heap.size + 1, 0, none⟩ = some (.bool wb) ∧ X9.cell? ⟨w.heap.size + 1, 1, none⟩ = some (.bool be) ∧ X9.cell? ⟨w.heap.size + 1, 2, none⟩ = some (.int .u64 bl) ∧ X9.cell? ⟨w.heap.size + 1, 3, none⟩ = some (.int .u64 bh) ∧ X9.cell? ⟨w.heap.size + 1, 4, none⟩ = some (.slice pb nb cb)) := fun X9 cc => ⟨sO cc a0, sO cc a1, sO cc a2, sO cc a3, sO cc a4, sO cc b0, sO cc b1, sO cc b2, sO cc b3, sO cc b4⟩
  have hst : ∀ X9 x0 x1 x2 x3 x4, Below W.heap.size W X9 → ((((((X9.setCell ⟨w.heap.size + 1 + 1, 0, none⟩ x0).setCell ⟨w.heap.size + 1 + 1, 1, none⟩ x1).setCell ⟨w.heap.size + 1 + 1, 2, none⟩ x2).setCell ⟨w.heap.size + 1 + 1, 3, none⟩ x3).setCell ⟨w.heap.size + 1 + 1, 4, none⟩ x4).cell? ⟨w.heap.size, 0, none⟩ = some (.bool wa) ∧ (((((X9.setCell ⟨w.heap.size + 1 + 1, 0, none⟩ x0).setCell ⟨w.heap.size + 1 + 1, 1, none⟩ x1).setCell ⟨w.heap.size + 1 + 1, 2, none⟩ x2).setCell ⟨w.heap.size + 1 + 1, 3, none⟩ x3).setCell ⟨w.heap.size + 1 + 1, 4, none⟩ x4).cell? ⟨w.heap.size, 1, none⟩ = some (.bool ae) ∧ (((((X9.setCell ⟨w.heap.size + 1 + 1, 0, none⟩ x0).setCell ⟨w.heap.size + 1 + 1, 1, none⟩ x1).setCell ⟨w.heap.size + 1 + 1, 2, none⟩ x2).setCell ⟨w.heap.size + 1 + 1, 3, none⟩ x3).setCell ⟨w.heap.size + 1 + 1, 4, none⟩ x4).cell? ⟨w.heap.size, 2, none⟩ = some (.int .u64 al) ∧ (((((X9.setCell ⟨w.heap.size + 1 + 1, 0, none⟩ x0).setCell ⟨w.heap.size + 1 + 1, 1, none⟩ x1).setCell ⟨w.heap.size + 1 + 1, 2, none⟩ x2).setCell ⟨w.heap.size + 1 + 1, 3, none⟩ x3).setCell ⟨w.heap.size + 1 + 1, 4, none⟩ x4).cell? ⟨w.heap.size, 3, none⟩ = some (.int .u64 ah) ∧ (((((X9.setCell ⟨w.heap.size + 1 + 1, 0, none⟩ x0).setCell ⟨w.heap.size + 1 + 1, 1, none⟩ x1).setCell ⟨w.heap.size + 1 + 1, 2, none⟩ x2).setCell ⟨w.heap.size + 1 + 1, 3, none⟩ x3).setCell ⟨w.heap.size + 1 + 1, 4, none⟩ x4).cell? ⟨w.heap.size, 4, none⟩ = some (.slice pa na ca) ∧ (((((X9.setCell ⟨w.heap.size + 1 + 1, 0, none⟩ x0).setCell ⟨w.heap.size + 1 + 1, 1, none⟩ x1).setCell ⟨w.heap.size + 1 + 1, 2, none⟩ x2).setCell ⟨w.heap.size + 1 + 1, 3, none⟩ x3).setCell ⟨w.heap.size + 1 + 1, 4, none⟩ x4).cell? ⟨w.heap.size + 1, 0, none⟩ = some (.bool wb) ∧ (((((X9.setCell ⟨w.heap.size + 1 + 1, 0, none⟩ x0).setCell ⟨w.heap.size + 1 + 1, 1, none⟩ x1).setCell ⟨w.heap.size + 1 + 1, 2, none⟩ x2).setCell ⟨w.heap.size + 1 + 1, 3, none⟩ x3).setCell ⟨w.heap.size + 1 + 1, 4, none⟩ x4).cell? ⟨w.heap.size + 1, 1, none⟩ = some (.bool be) ∧ (((((X9.setCell ⟨w.heap.size + 1 + 1, 0, none⟩ x0).setCell ⟨w.heap.size + 1 + 1, 1, none⟩ x1).setCell ⟨w.heap.size + 1 + 1, 2, none⟩ x2).setCell ⟨w.heap.size + 1 + 1, 3, none⟩ x3).setCell ⟨w.heap.size + 1 + 1, 4, none⟩ x4).cell? ⟨w.heap.size + 1, 2, none⟩ = some (.int .u64 bl) ∧ (((((X9.setCell ⟨w.heap.size + 1 + 1, 0, none⟩ x0).setCell ⟨w.heap.size + 1 + 1, 1, none⟩ x1).setCell ⟨w.heap.size + 1 + 1, 2, none⟩ x2).setCell ⟨w.heap.size + 1 + 1, 3, none⟩ x3).setCell ⟨w.heap.size + 1 + 1, 4, none⟩ x4).cell? ⟨w.heap.size + 1, 3, none⟩ = some (.int .u64 bh) ∧ (((((X9.setCell ⟨w.heap.size + 1 + 1, 0, none⟩ x0).setCell ⟨w.heap.size + 1 + 1, 1, none⟩ x1).setCell ⟨w.heap.size + 1 + 1, 2, none⟩ x2).setCell ⟨w.heap.size + 1 + 1, 3, none⟩ x3).setCell ⟨w.heap.size + 1 + 1, 4, none⟩ x4).cell? ⟨w.heap.size + 1, 4, none⟩ = some (.slice pb nb cb)) := fun X9 x0 x1 x2 x3 x4 cc => ⟨(sp_keep1 (sp_keep1 (sp_keep1 (sp_keep1 (sp_keep1 (sO cc a0) (by omega) _) (by omega) _) (by omega) _) (by omega) _) (by omega) _), (sp_keep1 (sp_keep1 (sp_keep1 (sp_keep1 (sp_keep1 (sO cc a1) (by omega) _) (by omega) _) (by omega) _) (by omega) _) (by omega) _), (sp_keep1 (sp_keep1 (sp_keep1 (sp_keep1 (sp_keep1 (sO cc a2) (by omega) _) (by omega) _) (by omega) _) (by omega) _) (by omega) _), (sp_keep1 (sp_keep1 (sp_keep1 (sp_keep1 (sp_keep1 (sO cc a3) (by omega) _) (by omega) _) (by omega) _) (by omega) _) (by omega) _), (sp_keep1 (sp_keep1 (sp_keep1 (sp_keep1 (sp_keep1 (sO cc a4) (by omega) _) (by omega) _) (by omega) _) (by omega) _) (by omega) _), (sp_keep1 (sp_keep1 (sp_keep1 (sp_keep1 (sp_keep1 (sO cc b0) (by omega) _) (by omega) _) (by omega) _) (by omega) _) (by omega) _), (sp_keep1 (sp_keep1 (sp_keep1 (sp_keep1 (sp_keep1 (sO cc b1) (by omega) _) (by omega) _) (by omega) _) (by omega) _) (by omega) _), (sp_keep1 (sp_keep1 (sp_keep1 (sp_keep1 (sp_keep1 (sO cc b2) (by omega) _) (by omega) _) (by omega) _) (by omega) _) (by omega) _), (sp_keep1 (sp_keep1 (sp_keep1 (sp_keep1 (sp_keep1 (sO cc b3) (by omega) _) (by omega) _) (by omega) _) (by omega) _) (by omega) _), (sp_keep1 (sp_keep1 (sp_keep1 (sp_keep1 (sp_keep1 (sO cc b4) (by omega) _) (by omega) _) (by omega) _) (by omega) _) (by omega) _)⟩
  go_region_held3 (fun w' => w'.cell? ⟨w.heap.size, 0, none⟩ = some (.bool wa) ∧ w'.cell? ⟨w.heap.size, 1, none⟩ = some (.bool ae) ∧ w'.cell? ⟨w.heap.size, 2, none⟩ = some (.int .u64 al) ∧ w'.cell? ⟨w.heap.size, 3, none⟩ = some (.int .u64 ah) ∧ w'.cell? ⟨w.heap.size, 4, none⟩ = some (.slice pa na ca) ∧ w'.cell? ⟨w.heap.size + 1, 0, none⟩ = some (.bool wb) ∧ w'.cell? ⟨w.heap.size + 1, 1, none⟩ = some (.bool be) ∧ w'.cell? ⟨w.heap.size + 1, 2, none⟩ = some (.int .u64 bl) ∧ w'.cell? ⟨w.heap.size + 1, 3, none⟩ = some (.int .u64 bh) ∧ w'.cell? ⟨w.heap.size + 1, 4, none⟩ = some (.slice pb nb cb)) (first | exact hall _ (by first | with_reducible exact cc | with_reducible exact cc.drew) | exact hst _ _ _ _ _ _ (by first | with_reducible exact cc | with_reducible exact cc.drew))
    (first
      | (go_at_call 33; (with_reducible refine (k1 _ (hok _ _ oW (by first | with_reducible exact cc | with_reducible exact cc.drew))).mono ?_); rintro e v1 ⟨⟨nw, ne, nl, nh, nv, rfl, hQ1, ms, hL1, hT1, hU1⟩, g⟩; obtain ⟨pn, cn, rfl⟩ := hT1.len; replace cc := sp_call (show Below W.heap.size W _ by first | with_reducible exact cc | with_reducible exact cc.drew) g; clear g k1)
      | (go_at_call 29; (with_reducible refine (k2 _ nw ne nl nh _ ms (hok _ _ oW (by first | with_reducible exact cc | with_reducible exact cc.drew)) hQ1 hL1 (by first | with_reducible exact hT1 | exact hT1.on (Below.refl _ _).drew)).mono ?_); rintro e v2 ⟨⟨rw', re, rl, rh, rv, rfl, hQ, ls, hL, hT, hU⟩, g⟩; obtain ⟨pr, cr, rfl⟩ := hT.len; have zU := cc.size; replace cc := sp_call (show Below W.heap.size W _ by first | with_reducible exact cc | with_reducible exact cc.drew) g; clear g; have zc := cc.size; replace r0 := sO cc r0; replace r1 := sO cc r1; replace r2 := sO cc r2; replace r3 := sO cc r3; replace r4 := sO cc r4; replace fz : ∀ j, v2.frozen? ⟨w.heap.size + 1 + 1, j, none⟩ = false := fun j => (cc.frozen (p := ⟨w.heap.size + 1 + 1, j, none⟩) (by first | (simp; done) | (simp; omega))).trans (fz j); replace bW := sp_call bW cc)
      | fail)
  all_goals go_wp2_with fail
  all_goals exact bodyPost_ret (v := .agg #[.bool rw', .bool re, .int .u64 rl, .int .u64 rh, .slice pr ls.length cr]) (by simp [results, Tryz.results31, go_sem, r0, r1, r2, r3, r4]) rfl ⟨⟨rw', re, rl, rh, _, rfl, hQ, ls, hL, (((((hT.set hU (by omega)).set hU (by omega)).set hU (by omega)).set hU (by omega)).set hU (by omega)), hU.le (by omega)⟩, (by (repeat (first | with_reducible assumption | with_reducible refine li_set1 ?_ (by omega) _ | with_reducible refine sp_new ?_ _)))⟩
end Go.Proofs.YteafnkimcidkhaaGreat

namespace Go.Proofs.YteafnkimcidkhaaGreat
open Go.RowKit
set_option linter.unusedVariables false
set_option linter.unusedSimpArgs false
theorem lifld (w : World) : (Instr.field 31 (.agg #[.bool true, .bool false, .int .u64 0, .int .u64 0, .slice none 0 0]) 0).run Tryz.prog w = .ok (.bool true) w := by kernel_rfl
set_option maxRecDepth 100000 in
set_option maxHeartbeats 6400000 in
theorem lilive (X : List (Int × Bool × Int × Int)) (k1 : ∀ V, Calls Tryz.prog 22 #[.int .i64 0] V fun e w' => (∃ v, e = .returned (.agg #[.bool false, .bool false, .int .u64 0, .int .u64 0, v]) ∧ TAt w' v X ∧ Up V.heap.size v) ∧ Below V.heap.size V w')
    (k2 : ∀ V v, TAt V v X → Calls Tryz.prog 31 #[.agg #[.bool false, .bool false, .int .u64 0, .int .u64 0, v], .agg #[.bool false, .bool false, .int .u64 0, .int .u64 0, v]] V fun e w' => (∃ v, e = .returned (.agg #[.bool false, .bool false, .int .u64 0, .int .u64 0, v]) ∧ TAt w' v []) ∧ Below V.heap.size V w')
    (k3 : ∀ V v, TAt V v X → Calls Tryz.prog 24 #[.agg #[.bool false, .bool false, .int .u64 0, .int .u64 0, v]] V fun e w' => e = .returned (.bool true) ∧ Below V.heap.size V w') (k4 : ∀ V, Calls Tryz.prog 20 #[.agg #[.bool true, .int .u64 0, .int .u64 0]] V fun e w' => e = .returned (.agg #[.bool true, .bool false, .int .u64 0, .int .u64 0, .slice none 0 0]) ∧ Below V.heap.size V w') (w : World) :
    Calls Tryz.prog 17 #[] w fun e w' => e = .returned (.bool true) ∧ Below w.heap.size w w' := by
  go_enter Tryz.func17, Tryz.ntmps17
  go_upto_region 2 with (first
    | (go_at_call 22; (with_reducible refine (k1 _).mono ?_); rintro e v1 ⟨⟨v, rfl, hT, hU⟩, g1⟩; obtain ⟨p1, c1, rfl⟩ := hT.len)
    | fail)
  obtain ⟨W, hW⟩ : ∃ W, v1.alloc (.cells #[.bool false, .bool false, .int .u64 0, .int .u64 0, .slice p1 X.length c1] 31) = W := ⟨_, rfl⟩
  have gW : Below v1.heap.size v1 W := by rw [← hW]; exact sp_new (Below.refl _ _) _
  have x0 : W.cell? ⟨v1.heap.size, 0, none⟩ = some (.bool false) := by rw [← hW]; simp [go_sem]
  have x1 : W.cell? ⟨v1.heap.size, 1, none⟩ = some (.bool false) := by rw [← hW]; simp [go_sem]
  have x2 : W.cell? ⟨v1.heap.size, 2, none⟩ = some (.int .u64 0) := by rw [← hW]; simp [go_sem]
  have x3 : W.cell? ⟨v1.heap.size, 3, none⟩ = some (.int .u64 0) := by rw [← hW]; simp [go_sem]
  have x4 : W.cell? ⟨v1.heap.size, 4, none⟩ = some (.slice p1 X.length c1) := by rw [← hW]; simp [go_sem]
  have bW := sp_call g1 gW
  replace hT := hT.on gW
  rw [hW]
  clear hW
  go_upto_region 3 with (first
    | (go_at_call 31; (with_reducible refine (k2 _ _ hT).mono ?_); rintro e v2 ⟨⟨v, rfl, hT2⟩, g2⟩; obtain ⟨p2, c2, rfl⟩ := hT2.len)
    | fail)
  obtain ⟨Y, hY⟩ : ∃ Y, v2.alloc (.cells #[.bool false, .bool false, .int .u64 0, .int .u64 0, .slice p2 0 c2] 31) = Y := ⟨_, rfl⟩
  have gY : Below W.heap.size W Y := by rw [← hY]; exact sp_new g2 _
  have y0 : Y.cell? ⟨v2.heap.size, 0, none⟩ = some (.bool false) := by rw [← hY]; simp [go_sem]
  have y1 : Y.cell? ⟨v2.heap.size, 1, none⟩ = some (.bool false) := by rw [← hY]; simp [go_sem]
  have y2 : Y.cell? ⟨v2.heap.size, 2, none⟩ = some (.int .u64 0) := by rw [← hY]; simp [go_sem]
  have y3 : Y.cell? ⟨v2.heap.size, 3, none⟩ = some (.int .u64 0) := by rw [← hY]; simp [go_sem]
  have y4 : Y.cell? ⟨v2.heap.size, 4, none⟩ = some (.slice p2 0 c2) := by rw [← hY]; simp [go_sem]
  replace hT := hT.on gY
  replace x0 := sO gY x0
  replace x1 := sO gY x1
  replace x2 := sO gY x2
  replace x3 := sO gY x3
  replace x4 := sO gY x4
  replace bW := sp_call bW gY
  rw [hY]
  clear hY gY
  have hi0 := lifld
  go_wp2_with (first
    | (go_at_call 24; (with_reducible refine (k3 _ _ hT).mono ?_); rintro e v3 ⟨rfl, g3⟩)
    | (go_at_call 20; (with_reducible refine (k4 _).mono ?_); rintro e v4 ⟨rfl, g4⟩)
    | fail)
  go_ret
  exact ⟨rfl, sp_call (sp_call bW g3) g4⟩
end Go.Proofs.YteafnkimcidkhaaGreat

namespace Go.Proofs.YteafnkimcidkhaaGreat
open Go.RowKit
set_option linter.unusedVariables false
set_option linter.unusedSimpArgs false
theorem lw_old {W : World} {c : Nat} {o : Obj} (q : W.heap[c]? = some o) (o' : Obj) : (W.alloc o').heap[c]? = some o := (Below.heap_alloc W o' c (Array.getElem?_eq_some_iff.1 q).1).trans q
end Go.Proofs.YteafnkimcidkhaaGreat

namespace Go.Proofs.YteafnkimcidkhaaGreat
open Go.RowKit
set_option linter.unusedVariables false
set_option linter.unusedSimpArgs false
end Go.Proofs.YteafnkimcidkhaaGreat
namespace Go.Proofs.YteafnkimcidkhaaGreat
open Go.RowKit
set_option linter.unusedVariables false
set_option linter.unusedSimpArgs false
end Go.Proofs.YteafnkimcidkhaaGreat
namespace Go.Proofs.YteafnkimcidkhaaGreat
open Go.RowKit
set_option linter.unusedVariables false
set_option linter.unusedSimpArgs false
def fE (s : Bool) : Int := if s then 8 else 11
theorem rsize_d (w : World) : Calls Tryz.prog 126 #[.int .i64 0] w fun e w' => e = .returned (.tuple #[.int .i64 52, .int .i64 11, .int .i64 (-1074)]) ∧ w' = w := by
  go_enter Tryz.func126, Tryz.ntmps126
  go_wp2_with fail
  exact bodyPost_ret (v := .tuple #[.int .i64 52, .int .i64 11, .int .i64 (-1074)]) (by simp [results, Tryz.results126, go_sem]) rfl ⟨rfl, rfl⟩
theorem rsize_s (w : World) : Calls Tryz.prog 126 #[.int .i64 1] w fun e w' => e = .returned (.tuple #[.int .i64 23, .int .i64 8, .int .i64 (-149)]) ∧ w' = w := by
  go_enter Tryz.func126, Tryz.ntmps126
  go_wp2_with fail
  exact bodyPost_ret (v := .tuple #[.int .i64 23, .int .i64 8, .int .i64 (-149)]) (by simp [results, Tryz.results126, go_sem]) rfl ⟨rfl, rfl⟩
def xpo (s : Bool) (a : Int) : Int := a / 2 ^ fP s % 2 ^ (fE s).toNat
theorem and_bits (x i : Nat) (m : Int) (hm : m = ((2 ^ i - 1 : Nat) : Int)) (hi : 2 ^ i ≤ 18446744073709551616) (a : Int) (ha : a = (x : Int)) (h : x < 18446744073709551616) : bits BinOp.and IntKind.u64 a m = a % 2 ^ i := by
  subst hm ha
  have p := Nat.two_pow_pos i
  have t := u64_and_nat x (2 ^ i - 1) h (by omega)
  rw [Nat.and_two_pow_sub_one_eq_mod] at t
  rw [t, pow_cast, Int.natCast_emod]
theorem rparts_any (s : Bool) (a : Int) (h : Word a) (w : World) : Calls Tryz.prog 127 #[.int .i64 (fb s), .int .u64 a] w fun e w' => e = .returned (.tuple #[.int .u64 (xpo s a), .int .u64 (a % 2 ^ fP s)]) ∧ w' = w.drew := by
  have h1 := h.1
  have h2 := h.2
  cases s
  · have hs := rsize_d
    have n1 : bits BinOp.and IntKind.u64 (a / 4503599627370496) 2047 = xpo false a := and_bits (a / 4503599627370496).toNat 11 2047 rfl (by decide) _ (by omega) (by omega)
    have n2 : bits BinOp.and IntKind.u64 a 4503599627370495 = a % 2 ^ fP false := and_bits a.toNat 52 4503599627370495 rfl (by decide) _ (by omega) (by omega)
    generalize xpo false a = X at *
    generalize a % 2 ^ fP false = M at *
    show Calls Tryz.prog 127 #[.int .i64 0, .int .u64 a] w _
    go_enter Tryz.func127, Tryz.ntmps127
    go_wp2_with (go_at_call 126; refine (hs _).mono ?_; rintro e w1 ⟨rfl, rfl⟩)
    go_region
    go_wp2_with fail
    exact bodyPost_ret (v := .tuple #[.int .u64 X, .int .u64 M]) (by simp [results, Tryz.results127, go_sem]) rfl ⟨rfl, rfl⟩
  · have hs := rsize_s
    have n1 : bits BinOp.and IntKind.u64 (a / 8388608) 255 = xpo true a := and_bits (a / 8388608).toNat 8 255 rfl (by decide) _ (by omega) (by omega)
    have n2 : bits BinOp.and IntKind.u64 a 8388607 = a % 2 ^ fP true := and_bits a.toNat 23 8388607 rfl (by decide) _ (by omega) (by omega)
    generalize xpo true a = X at *
    generalize a % 2 ^ fP true = M at *
    show Calls Tryz.prog 127 #[.int .i64 1, .int .u64 a] w _
    go_enter Tryz.func127, Tryz.ntmps127
    go_wp2_with (go_at_call 126; refine (hs _).mono ?_; rintro e w1 ⟨rfl, rfl⟩)
    go_region
    go_wp2_with fail
    exact bodyPost_ret (v := .tuple #[.int .u64 X, .int .u64 M]) (by simp [results, Tryz.results127, go_sem]) rfl ⟨rfl, rfl⟩
theorem cls_ref_d (a : Int) (h : Word a) (w : wideB false a = false) : cls false a = (if xpo false a = 2047 ∧ a % 4503599627370496 ≠ 0 then 5 else if xpo false a = 2047 then 4 else if xpo false a = 0 ∧ a % 4503599627370496 = 0 then 1 else if xpo false a = 0 then 2 else 3) := by
  have h1 := h.1
  have h2 := h.2
  have e := zOf_double a h
  have x : xpo false a = a / 4503599627370496 % 2048 := rfl
  have i : fI false = 9218868437227405312 := rfl
  have p : (2 : Int) ^ fP false = 4503599627370496 := rfl
  unfold cls
  rw [w, if_neg (by decide), e, x, i, p]
  by_cases c1 : 9218868437227405312 < a % 9223372036854775808
  · rw [if_pos c1, if_pos (by omega)]
  · rw [if_neg c1]
    by_cases c2 : a % 9223372036854775808 = 9218868437227405312
    · rw [if_pos c2, if_neg (by omega), if_pos (by omega)]
    · rw [if_neg c2]
      by_cases c3 : a % 9223372036854775808 = 0
      · rw [if_pos c3, if_neg (by omega), if_neg (by omega), if_pos (by omega)]
      · rw [if_neg c3]
        by_cases c4 : a % 9223372036854775808 / 4503599627370496 = 0
        · rw [if_pos c4, if_neg (by omega), if_neg (by omega), if_neg (by omega), if_pos (by omega)]
        · rw [if_neg c4, if_neg (by omega), if_neg (by omega), if_neg (by omega), if_neg (by omega)]
theorem cls_ref_s (a : Int) (h : Word a) (w : wideB true a = false) : cls true a = (if xpo true a = 255 ∧ a % 8388608 ≠ 0 then 5 else if xpo true a = 255 then 4 else if xpo true a = 0 ∧ a % 8388608 = 0 then 1 else if xpo true a = 0 then 2 else 3) := by
  have h1 := h.1
  have h2 := h.2
  have a3 : a < 4294967296 := by unfold wideB at w; simp at w; exact w
  have e := zOf_single a h1 a3
  have x : xpo true a = a / 8388608 % 256 := rfl
  have i : fI true = 2139095040 := rfl
  have p : (2 : Int) ^ fP true = 8388608 := rfl
  unfold cls
  rw [w, if_neg (by decide), e, x, i, p]
  by_cases c1 : 2139095040 < a % 2147483648
  · rw [if_pos c1, if_pos (by omega)]
  · rw [if_neg c1]
    by_cases c2 : a % 2147483648 = 2139095040
    · rw [if_pos c2, if_neg (by omega), if_pos (by omega)]
    · rw [if_neg c2]
      by_cases c3 : a % 2147483648 = 0
      · rw [if_pos c3, if_neg (by omega), if_neg (by omega), if_pos (by omega)]
      · rw [if_neg c3]
        by_cases c4 : a % 2147483648 / 8388608 = 0
        · rw [if_pos c4, if_neg (by omega), if_neg (by omega), if_neg (by omega), if_pos (by omega)]
        · rw [if_neg c4, if_neg (by omega), if_neg (by omega), if_neg (by omega), if_neg (by omega)]
set_option maxHeartbeats 1600000 in
theorem rclass_d (a : Int) (h : Word a) (w : World) : Calls Tryz.prog 85 #[.int .i64 0, .int .u64 a] w fun e w' => e = .returned (.int .i64 (cls false a)) ∧ ∃ n, w' = w.drewN n := by
  have hs := rsize_d
  have hp : ∀ w, Calls Tryz.prog 127 #[.int .i64 0, .int .u64 a] w fun e w' => e = .returned (.tuple #[.int .u64 (xpo false a), .int .u64 (a % 4503599627370496)]) ∧ w' = w.drew := rparts_any false a h
  have h1 := h.1
  have h2 := h.2
  have hv := cls_ref_d a h rfl
  refine Calls.mono (R := fun e w' => e = .returned (.int .i64 (cls false a)) ∧ w' = w.drew) ?_ (fun e w' ⟨a, b⟩ => ⟨a, 1, b⟩)
  generalize cls false a = k at *
  generalize xpo false a = X at *
  generalize a % 4503599627370496 = M at *
  by_cases c1 : X = 2047
  · subst c1
    by_cases c2 : M = 0
    · subst c2
      have V : Hid (4 = k) := by rw [hv]; rfl
      clear hv
      go_enter Tryz.func85, Tryz.ntmps85
      go_wp2_with (first
        | (go_at_call 126; refine (hs _).mono ?_; rintro e w1 ⟨rfl, rfl⟩)
        | (go_at_call 127; refine (hp _).mono ?_; rintro e w1 ⟨rfl, rfl⟩))
      go_ret
      exact ⟨i64_eq V.out, rfl⟩
    · have V : Hid (5 = k) := by rw [hv, if_pos ⟨rfl, c2⟩]; rfl
      clear hv
      go_enter Tryz.func85, Tryz.ntmps85
      go_wp2_with (first
        | (go_at_call 126; refine (hs _).mono ?_; rintro e w1 ⟨rfl, rfl⟩)
        | (go_at_call 127; refine (hp _).mono ?_; rintro e w1 ⟨rfl, rfl⟩))
      go_ret
      exact ⟨i64_eq V.out, rfl⟩
  · by_cases c3 : X = 0
    · subst c3
      by_cases c2 : M = 0
      · subst c2
        have V : Hid (1 = k) := by rw [hv]; rfl
        clear hv
        go_enter Tryz.func85, Tryz.ntmps85
        go_wp2_with (first
          | (go_at_call 126; refine (hs _).mono ?_; rintro e w1 ⟨rfl, rfl⟩)
          | (go_at_call 127; refine (hp _).mono ?_; rintro e w1 ⟨rfl, rfl⟩))
        go_ret
        exact ⟨i64_eq V.out, rfl⟩
      · have V : Hid (2 = k) := by rw [hv, if_neg (by simp), if_neg (by decide), if_neg (fun h => c2 h.2), if_pos rfl]; rfl
        clear hv
        go_enter Tryz.func85, Tryz.ntmps85
        go_wp2_with (first
          | (go_at_call 126; refine (hs _).mono ?_; rintro e w1 ⟨rfl, rfl⟩)
          | (go_at_call 127; refine (hp _).mono ?_; rintro e w1 ⟨rfl, rfl⟩))
        go_ret
        exact ⟨i64_eq V.out, rfl⟩
    · have V : Hid (3 = k) := by rw [hv, if_neg (fun h => c1 h.1), if_neg c1, if_neg (fun h => c3 h.1), if_neg c3]; rfl
      clear hv
      go_enter Tryz.func85, Tryz.ntmps85
      go_wp2_with (first
        | (go_at_call 126; refine (hs _).mono ?_; rintro e w1 ⟨rfl, rfl⟩)
        | (go_at_call 127; refine (hp _).mono ?_; rintro e w1 ⟨rfl, rfl⟩))
      go_ret
      exact ⟨i64_eq V.out, rfl⟩
set_option maxHeartbeats 1600000 in
theorem rclass_s (a : Int) (h : Word a) (w : World) : Calls Tryz.prog 85 #[.int .i64 1, .int .u64 a] w fun e w' => e = .returned (.int .i64 (cls true a)) ∧ ∃ n, w' = w.drewN n := by
  have hs := rsize_s
  have hp : ∀ w, Calls Tryz.prog 127 #[.int .i64 1, .int .u64 a] w fun e w' => e = .returned (.tuple #[.int .u64 (xpo true a), .int .u64 (a % 8388608)]) ∧ w' = w.drew := rparts_any true a h
  have h1 := h.1
  have h2 := h.2
  by_cases hw : 4294967296 ≤ a
  · have v : cls true a = 0 := by unfold cls; rw [show wideB true a = true by unfold wideB; simp; exact hw]; rfl
    rw [v]
    have hw' : (a / 4294967296 != 0) = true := by simp; omega
    refine Calls.mono (R := fun e w' => e = .returned (.int .i64 0) ∧ w' = w) ?_ (fun e w' ⟨a, b⟩ => ⟨a, 0, b⟩)
    go_enter Tryz.func85, Tryz.ntmps85
    go_wp2_with (go_at_call 126; refine (hs _).mono ?_; rintro e w1 ⟨rfl, rfl⟩)
    go_ret
    exact ⟨rfl, rfl⟩
  have hw' : (a / 4294967296 != 0) = false := by simp; omega
  have hv := cls_ref_s a h (by unfold wideB; simp; omega)
  refine Calls.mono (R := fun e w' => e = .returned (.int .i64 (cls true a)) ∧ w' = w.drew) ?_ (fun e w' ⟨a, b⟩ => ⟨a, 1, b⟩)
  generalize cls true a = k at *
  generalize xpo true a = X at *
  generalize a % 8388608 = M at *
  by_cases c1 : X = 255
  · subst c1
    by_cases c2 : M = 0
    · subst c2
      have V : Hid (4 = k) := by rw [hv]; rfl
      clear hv
      go_enter Tryz.func85, Tryz.ntmps85
      go_wp2_with (first
        | (go_at_call 126; refine (hs _).mono ?_; rintro e w1 ⟨rfl, rfl⟩)
        | (go_at_call 127; refine (hp _).mono ?_; rintro e w1 ⟨rfl, rfl⟩))
      go_ret
      exact ⟨i64_eq V.out, rfl⟩
    · have V : Hid (5 = k) := by rw [hv, if_pos ⟨rfl, c2⟩]; rfl
      clear hv
      go_enter Tryz.func85, Tryz.ntmps85
      go_wp2_with (first
        | (go_at_call 126; refine (hs _).mono ?_; rintro e w1 ⟨rfl, rfl⟩)
        | (go_at_call 127; refine (hp _).mono ?_; rintro e w1 ⟨rfl, rfl⟩))
      go_ret
      exact ⟨i64_eq V.out, rfl⟩
  · by_cases c3 : X = 0
    · subst c3
      by_cases c2 : M = 0
      · subst c2
        have V : Hid (1 = k) := by rw [hv]; rfl
        clear hv
        go_enter Tryz.func85, Tryz.ntmps85
        go_wp2_with (first
          | (go_at_call 126; refine (hs _).mono ?_; rintro e w1 ⟨rfl, rfl⟩)
          | (go_at_call 127; refine (hp _).mono ?_; rintro e w1 ⟨rfl, rfl⟩))
        go_ret
        exact ⟨i64_eq V.out, rfl⟩
      · have V : Hid (2 = k) := by rw [hv, if_neg (by simp), if_neg (by decide), if_neg (fun h => c2 h.2), if_pos rfl]; rfl
        clear hv
        go_enter Tryz.func85, Tryz.ntmps85
        go_wp2_with (first
          | (go_at_call 126; refine (hs _).mono ?_; rintro e w1 ⟨rfl, rfl⟩)
          | (go_at_call 127; refine (hp _).mono ?_; rintro e w1 ⟨rfl, rfl⟩))
        go_ret
        exact ⟨i64_eq V.out, rfl⟩
    · have V : Hid (3 = k) := by rw [hv, if_neg (fun h => c1 h.1), if_neg c1, if_neg (fun h => c3 h.1), if_neg c3]; rfl
      clear hv
      go_enter Tryz.func85, Tryz.ntmps85
      go_wp2_with (first
        | (go_at_call 126; refine (hs _).mono ?_; rintro e w1 ⟨rfl, rfl⟩)
        | (go_at_call 127; refine (hp _).mono ?_; rintro e w1 ⟨rfl, rfl⟩))
      go_ret
      exact ⟨i64_eq V.out, rfl⟩
theorem rclass_any (s : Bool) (a : Int) (h : Word a) (w : World) : Calls Tryz.prog 85 #[.int .i64 (fb s), .int .u64 a] w fun e w' => e = .returned (.int .i64 (cls s a)) ∧ ∃ n, w' = w.drewN n := by
  cases s
  · exact rclass_d a h w
  · exact rclass_s a h w
end Go.Proofs.YteafnkimcidkhaaGreat
namespace Go.Proofs.YteafnkimcidkhaaGreat
open Go.RowKit
set_option linter.unusedVariables false
set_option linter.unusedSimpArgs false
theorem rsign_d (w : World) : Calls Tryz.prog 96 #[.int .i64 0, .bool true] w fun e w' => e = .returned (.int .u64 9223372036854775808) ∧ w' = w := by
  have hs := rsize_d
  go_enter Tryz.func96, Tryz.ntmps96
  go_wp2_with (go_at_call 126; refine (hs _).mono ?_; rintro e w1 ⟨rfl, rfl⟩)
  go_ret
  exact ⟨rfl, rfl⟩
theorem rsign0_d (w : World) : Calls Tryz.prog 96 #[.int .i64 0, .bool false] w fun e w' => e = .returned (.int .u64 0) ∧ w' = w := by
  have hs := rsize_d
  go_enter Tryz.func96, Tryz.ntmps96
  go_wp2_with (go_at_call 126; refine (hs _).mono ?_; rintro e w1 ⟨rfl, rfl⟩)
  go_ret
  exact ⟨rfl, rfl⟩
theorem rsign_s (w : World) : Calls Tryz.prog 96 #[.int .i64 1, .bool true] w fun e w' => e = .returned (.int .u64 2147483648) ∧ w' = w := by
  have hs := rsize_s
  go_enter Tryz.func96, Tryz.ntmps96
  go_wp2_with (go_at_call 126; refine (hs _).mono ?_; rintro e w1 ⟨rfl, rfl⟩)
  go_ret
  exact ⟨rfl, rfl⟩
theorem rsign0_s (w : World) : Calls Tryz.prog 96 #[.int .i64 1, .bool false] w fun e w' => e = .returned (.int .u64 0) ∧ w' = w := by
  have hs := rsize_s
  go_enter Tryz.func96, Tryz.ntmps96
  go_wp2_with (go_at_call 126; refine (hs _).mono ?_; rintro e w1 ⟨rfl, rfl⟩)
  go_ret
  exact ⟨rfl, rfl⟩
theorem rsign_any (s b : Bool) (w : World) : Calls Tryz.prog 96 #[.int .i64 (fb s), .bool b] w fun e w' => e = .returned (.int .u64 (if b then fS s else 0)) ∧ w' = w := by
  cases s <;> cases b
  · exact rsign0_d w
  · exact rsign_d w
  · exact rsign0_s w
  · exact rsign_s w
theorem rbelow_any (s : Bool) (a : Int) (w : World) : Calls Tryz.prog 86 #[.int .i64 (fb s), .int .u64 a] w fun e w' => e = .returned (.bool (sgn s a)) ∧ w' = w := by
  have hs := rsign_any s true
  unfold sgn
  rw [if_pos rfl] at hs
  generalize fb s = f at *
  generalize fS s = S at *
  go_enter Tryz.func86, Tryz.ntmps86
  go_wp2_with (go_at_call 96; refine (hs _).mono ?_; rintro e w1 ⟨rfl, rfl⟩)
  go_ret
  exact ⟨rfl, rfl⟩
theorem risNan_any (s : Bool) (a : Int) (h : Word a) (w : World) : Calls Tryz.prog 87 #[.int .i64 (fb s), .int .u64 a] w fun e w' => e = .returned (.bool (cls s a == 0 || cls s a == 5)) ∧ ∃ n, w' = w.drewN n := by
  have hc := rclass_any s a h
  rw [Bool.or_comm]
  generalize cls s a = k at *
  generalize fb s = f at *
  by_cases c1 : k = 5
  · subst c1
    go_enter Tryz.func87, Tryz.ntmps87
    go_wp2_with (go_at_call 85; refine (hc _).mono ?_; rintro e w1 ⟨rfl, n, rfl⟩)
    go_ret
    exact ⟨rfl, n, rfl⟩
  · have d1 : (k == 5) = false := by simp [c1]
    rw [d1, Bool.false_or]
    go_enter Tryz.func87, Tryz.ntmps87
    go_wp2_with (go_at_call 85; refine (hc _).mono ?_; rintro e w1 ⟨rfl, n, rfl⟩)
    all_goals go_ret
    all_goals exact ⟨rfl, n, rfl⟩
theorem rnan_d (w : World) : Calls Tryz.prog 89 #[.int .i64 0] w fun e w' => e = .returned (.int .u64 9221120237041090560) ∧ w' = w.drew := by
  have hs := rsize_d
  have o : bits BinOp.or IntKind.u64 2251799813685248 9218868437227405312 = 9221120237041090560 := by rfl
  go_enter Tryz.func89, Tryz.ntmps89
  go_wp2_with (go_at_call 126; refine (hs _).mono ?_; rintro e w1 ⟨rfl, rfl⟩)
  go_region
  go_wp2_with fail
  go_ret
  exact ⟨rfl, rfl⟩
theorem rnan_s (w : World) : Calls Tryz.prog 89 #[.int .i64 1] w fun e w' => e = .returned (.int .u64 2143289344) ∧ w' = w.drew := by
  have hs := rsize_s
  have o : bits BinOp.or IntKind.u64 4194304 2139095040 = 2143289344 := by rfl
  go_enter Tryz.func89, Tryz.ntmps89
  go_wp2_with (go_at_call 126; refine (hs _).mono ?_; rintro e w1 ⟨rfl, rfl⟩)
  go_region
  go_wp2_with fail
  go_ret
  exact ⟨rfl, rfl⟩
theorem rnan_any (s : Bool) (w : World) : Calls Tryz.prog 89 #[.int .i64 (fb s)] w fun e w' => e = .returned (.int .u64 (fNan s)) ∧ w' = w.drew := by
  cases s
  · exact rnan_d w
  · exact rnan_s w
end Go.Proofs.YteafnkimcidkhaaGreat
namespace Go.Proofs.YteafnkimcidkhaaGreat
open Go.RowKit
set_option linter.unusedVariables false
set_option linter.unusedSimpArgs false
theorem rfinite_any (s : Bool) (a : Int) (h : Word a) (w : World) : Calls Tryz.prog 44 #[.int .i64 (fb s), .int .u64 a] w fun e w' => e = .returned (.bool (finF s a)) ∧ ∃ n, w' = w.drewN n := by
  have hc := rclass_any s a h
  unfold finF
  generalize cls s a = k at *
  generalize fb s = f at *
  by_cases c1 : k = 1
  · subst c1
    go_enter Tryz.func44, Tryz.ntmps44
    go_wp2_with (go_at_call 85; refine (hc _).mono ?_; rintro e w1 ⟨rfl, n, rfl⟩)
    go_ret
    exact ⟨rfl, n, rfl⟩
  · have d1 : (k == 1) = false := by simp [c1]
    rw [d1, Bool.false_or]
    by_cases c2 : k = 2
    · subst c2
      go_enter Tryz.func44, Tryz.ntmps44
      go_wp2_with (go_at_call 85; refine (hc _).mono ?_; rintro e w1 ⟨rfl, n, rfl⟩)
      go_ret
      exact ⟨rfl, n, rfl⟩
    · have d2 : (k == 2) = false := by simp [c2]
      rw [d2, Bool.false_or]
      go_enter Tryz.func44, Tryz.ntmps44
      go_wp2_with (go_at_call 85; refine (hc _).mono ?_; rintro e w1 ⟨rfl, n, rfl⟩)
      all_goals go_ret
      all_goals exact ⟨rfl, n, rfl⟩
end Go.Proofs.YteafnkimcidkhaaGreat
namespace Go.Proofs.YteafnkimcidkhaaGreat
open Go.RowKit
set_option linter.unusedVariables false
set_option linter.unusedSimpArgs false
theorem rmost_d (w : World) : Calls Tryz.prog 129 #[.int .i64 0] w fun e w' => e = .returned (.int .u64 9218868437227405311) ∧ w' = w := by
  have hs := rsize_d
  go_enter Tryz.func129, Tryz.ntmps129
  go_wp2_with (go_at_call 126; refine (hs _).mono ?_; rintro e w1 ⟨rfl, rfl⟩)
  go_ret
  exact ⟨rfl, rfl⟩
theorem rmost_s (w : World) : Calls Tryz.prog 129 #[.int .i64 1] w fun e w' => e = .returned (.int .u64 2139095039) ∧ w' = w := by
  have hs := rsize_s
  go_enter Tryz.func129, Tryz.ntmps129
  go_wp2_with (go_at_call 126; refine (hs _).mono ?_; rintro e w1 ⟨rfl, rfl⟩)
  go_ret
  exact ⟨rfl, rfl⟩
theorem rrank_any (s : Bool) (a : Int) (h : Word a) (hz : zOf s a ≤ 9223372036854775807) (w : World) : Calls Tryz.prog 165 #[.int .i64 (fb s), .int .u64 a] w fun e w' => e = .returned (.int .i64 (rnk s a)) ∧ w' = w := by
  obtain ⟨z0, z1⟩ := zOf_word s a h
  have hs := rsign_any s true
  rw [if_pos rfl] at hs
  have hb := rbelow_any s a
  unfold rnk
  have n1 : bits BinOp.andNot IntKind.u64 a (fS s) = zOf s a := rfl
  generalize zOf s a = z at *
  generalize sgn s a = g at *
  generalize fb s = f at *
  generalize fS s = S at *
  cases g
  · go_enter Tryz.func165, Tryz.ntmps165
    go_wp2_with (first
      | (go_at_call 96; refine (hs _).mono ?_; rintro e w1 ⟨rfl, rfl⟩)
      | (go_at_call 86; refine (hb _).mono ?_; rintro e w1 ⟨rfl, rfl⟩))
    go_ret
    exact ⟨rfl, rfl⟩
  · go_enter Tryz.func165, Tryz.ntmps165
    go_wp2_with (first
      | (go_at_call 96; refine (hs _).mono ?_; rintro e w1 ⟨rfl, rfl⟩)
      | (go_at_call 86; refine (hb _).mono ?_; rintro e w1 ⟨rfl, rfl⟩))
    go_ret
    exact ⟨rfl, rfl⟩
set_option maxHeartbeats 800000 in
theorem rcompare_any (s : Bool) (a b : Int) (h1 : Word a) (h2 : Word b) (w : World) : Calls Tryz.prog 119 #[.int .i64 (fb s), .int .u64 a, .int .u64 b] w fun e w' => e = .returned (.tuple #[.int .i64 (cmpF s a b).1, .bool (cmpF s a b).2]) ∧ ∃ n, w' = w.drewN n := by
  have hn1 := risNan_any s a h1
  have hn2 := risNan_any s b h2
  have ho1 : (cls s a == 0 || cls s a == 5) = false → ∀ w, _ := fun c => rrank_any s a h1 (Int.le_trans (zOf_small s a h1 c) (fI_i64 s))
  have ho2 : (cls s b == 0 || cls s b == 5) = false → ∀ w, _ := fun c => rrank_any s b h2 (Int.le_trans (zOf_small s b h2 c) (fI_i64 s))
  unfold cmpF
  generalize (cls s a == 0 || cls s a == 5) = N1 at *
  generalize (cls s b == 0 || cls s b == 5) = N2 at *
  generalize rnk s a = r1 at *
  generalize rnk s b = r2 at *
  generalize fb s = f at *
  cases N1
  · cases N2
    · have hp1 := ho1 rfl
      have hp2 := ho2 rfl
      clear ho1 ho2
      simp only [Bool.or_false, Bool.false_eq_true, if_false]
      have c : r1 < r2 ∨ (¬ r1 < r2 ∧ r2 < r1) ∨ (¬ r1 < r2 ∧ ¬ r2 < r1) := by omega
      rcases c with c1 | ⟨c1, c2⟩ | ⟨c1, c2⟩
      · go_enter Tryz.func119, Tryz.ntmps119
        go_wp2_with (first
          | (go_at_call_of 87 a; refine (hn1 _).mono ?_; rintro e w1 ⟨rfl, n, rfl⟩)
          | (go_at_call_of 87 b; refine (hn2 _).mono ?_; rintro e w1 ⟨rfl, k, rfl⟩)
          | (go_at_call_of 165 a; refine (hp1 _).mono ?_; rintro e w1 ⟨rfl, rfl⟩)
          | (go_at_call_of 165 b; refine (hp2 _).mono ?_; rintro e w1 ⟨rfl, rfl⟩))
        exact bodyPost_ret (v := .tuple #[.int .i64 (-1), .bool true]) (by simp [results, Tryz.results119, go_sem]) rfl ⟨by simp [c1], _, rfl⟩
      · go_enter Tryz.func119, Tryz.ntmps119
        go_wp2_with (first
          | (go_at_call_of 87 a; refine (hn1 _).mono ?_; rintro e w1 ⟨rfl, n, rfl⟩)
          | (go_at_call_of 87 b; refine (hn2 _).mono ?_; rintro e w1 ⟨rfl, k, rfl⟩)
          | (go_at_call_of 165 a; refine (hp1 _).mono ?_; rintro e w1 ⟨rfl, rfl⟩)
          | (go_at_call_of 165 b; refine (hp2 _).mono ?_; rintro e w1 ⟨rfl, rfl⟩))
        exact bodyPost_ret (v := .tuple #[.int .i64 (1), .bool true]) (by simp [results, Tryz.results119, go_sem]) rfl ⟨by simp [c1, c2], _, rfl⟩
      · go_enter Tryz.func119, Tryz.ntmps119
        go_wp2_with (first
          | (go_at_call_of 87 a; refine (hn1 _).mono ?_; rintro e w1 ⟨rfl, n, rfl⟩)
          | (go_at_call_of 87 b; refine (hn2 _).mono ?_; rintro e w1 ⟨rfl, k, rfl⟩)
          | (go_at_call_of 165 a; refine (hp1 _).mono ?_; rintro e w1 ⟨rfl, rfl⟩)
          | (go_at_call_of 165 b; refine (hp2 _).mono ?_; rintro e w1 ⟨rfl, rfl⟩))
        exact bodyPost_ret (v := .tuple #[.int .i64 (0), .bool true]) (by simp [results, Tryz.results119, go_sem]) rfl ⟨by simp [c1, c2], _, rfl⟩
    · simp only [Bool.or_true, if_true]
      go_enter Tryz.func119, Tryz.ntmps119
      go_wp2_with (first
        | (go_at_call_of 87 a; refine (hn1 _).mono ?_; rintro e w1 ⟨rfl, n, rfl⟩)
        | (go_at_call_of 87 b; refine (hn2 _).mono ?_; rintro e w1 ⟨rfl, k, rfl⟩))
      exact bodyPost_ret (v := .tuple #[.int .i64 0, .bool false]) (by simp [results, Tryz.results119, go_sem]) rfl ⟨rfl, _, rfl⟩
  · simp only [Bool.true_or, if_true]
    go_enter Tryz.func119, Tryz.ntmps119
    go_wp2_with (go_at_call_of 87 a; refine (hn1 _).mono ?_; rintro e w1 ⟨rfl, n, rfl⟩)
    exact bodyPost_ret (v := .tuple #[.int .i64 0, .bool false]) (by simp [results, Tryz.results119, go_sem]) rfl ⟨rfl, _, rfl⟩
end Go.Proofs.YteafnkimcidkhaaGreat
namespace Go.Proofs.YteafnkimcidkhaaGreat
open Go.RowKit
set_option linter.unusedVariables false
set_option linter.unusedSimpArgs false
end Go.Proofs.YteafnkimcidkhaaGreat
namespace Go.Proofs.YteafnkimcidkhaaGreat
open Go.RowKit
set_option linter.unusedVariables false
set_option linter.unusedSimpArgs false
end Go.Proofs.YteafnkimcidkhaaGreat
namespace Go.Proofs.YteafnkimcidkhaaGreat
open Go.RowKit
set_option linter.unusedVariables false
set_option linter.unusedSimpArgs false
end Go.Proofs.YteafnkimcidkhaaGreat
namespace Go.Proofs.YteafnkimcidkhaaGreat
open Go.RowKit
set_option linter.unusedVariables false
theorem word_one : Word 4607182418800017408 := ⟨by decide, by decide⟩
end Go.Proofs.YteafnkimcidkhaaGreat
namespace Go.Proofs.YteafnkimcidkhaaGreat
open Go.RowKit
set_option linter.unusedVariables false
end Go.Proofs.YteafnkimcidkhaaGreat
namespace Go.Proofs.YteafnkimcidkhaaGreat
open Go.RowKit
set_option linter.unusedVariables false
set_option linter.unusedSimpArgs false
inductive Four (s : Bool) (u n d z : Int) : Prop
  | nan (h : (cls s n == 0 || cls s n == 5) = true) (e1 : u = n) (e2 : d = n) (e3 : z = n)
  | one (b : Bool) (k : Nat) (hk : (k : Int) ≤ fI s) (e0 : n = sgnd s b k) (e1 : u = n) (e2 : d = n) (e3 : z = n)
  | zero (e0 : n = sgnd s false 0) (e1 : u = n) (e2 : d = sgnd s true 0) (e3 : z = n)
  | above (k l : Nat) (h1 : k ≤ l) (h2 : l ≤ k + 1) (h3 : (l : Int) ≤ fI s) (h4 : (k : Int) < fI s) (e1 : u = sgnd s false l) (e2 : d = sgnd s false k) (e3 : z = sgnd s false k) (e0 : n = sgnd s false k ∨ n = sgnd s false l)
  | below (k l : Nat) (h1 : k ≤ l) (h2 : l ≤ k + 1) (h3 : (l : Int) ≤ fI s) (h4 : (k : Int) < fI s) (e1 : u = sgnd s true k) (e2 : d = sgnd s true l) (e3 : z = sgnd s true k) (e0 : n = sgnd s true k ∨ n = sgnd s true l)
end Go.Proofs.YteafnkimcidkhaaGreat


namespace Go.Proofs.YteafnkimcidkhaaGreat
set_option linter.unusedVariables false
set_option linter.unusedSimpArgs false
theorem neg_mk {s : Bool} {r : Int} (h1 : -fI s ≤ r) (h2 : r ≤ fI s) : plainF s (negF s (mk s r)) = mk s (-r) := by
  obtain ⟨b, e, hb⟩ := mk_made s r
  by_cases z : r = 0
  · subst z
    cases s <;> decide +kernel
  · rw [e, neg_made s b _ (by split <;> omega) (by split <;> omega)]
    have m : sgnd s (!b) (if r < 0 then -r else r) = mk s (-r) := by
      unfold mk
      cases b
      · have : ¬ r < 0 := fun h => by simpa using hb.2 h
        have t : -r < 0 := by omega
        rw [if_pos t, if_neg this, Int.neg_neg]
        rfl
      · have := hb.1 rfl
        have t : ¬ -r < 0 := by omega
        rw [if_neg t, if_pos this]
        rfl
    rw [m]
    exact plain_mk (by omega) (by omega)
end Go.Proofs.YteafnkimcidkhaaGreat


namespace Go.Proofs.YteafnkimcidkhaaGreat
open Go.RowKit
set_option linter.unusedVariables false
set_option linter.unusedSimpArgs false
def trnP (x : Bool × Int × Int) : Bool × Int × Int := (false, plainF false (negF false x.2.2), plainF false (negF false x.2.1))
theorem negated_any (x : Int) (hx : Word x) (w : World) : Calls Tryz.prog 122 #[.int .u64 x] w fun e w' => e = .returned (.int .u64 (plainF false (negF false x))) ∧ Below w.heap.size w w' :=
  linegd x _ _ (fun V => neg_fl 0 x hx V) (fun V => plain_any 0 _ (negF_word false x hx) V) w
theorem turned_any (x : Bool × Int × Int) (hx : wdR x) (w : World) : Calls Tryz.prog 71 #[.agg #[.bool x.1, .int .u64 x.2.1, .int .u64 x.2.2]] w fun e w' => e = .returned (.agg #[.bool false, .int .u64 (trnP x).2.1, .int .u64 (trnP x).2.2]) ∧ Below w.heap.size w w' :=
  liturned x.1 x.2.1 x.2.2 _ _ (fun V => negated_any _ hx.2 V) (fun V => negated_any _ hx.1 V) w
theorem trnP_wd {x : Bool × Int × Int} (hx : wdR x) : wdR (trnP x) := ⟨n_plainw _ _ (negF_word _ _ hx.2), n_plainw _ _ (negF_word _ _ hx.1)⟩
end Go.Proofs.YteafnkimcidkhaaGreat


namespace Go.Proofs.YteafnkimcidkhaaGreat
open Go.RowKit Go.Shelf
set_option linter.unusedVariables false
set_option linter.unusedSimpArgs false
theorem whF_ok : fOk whF := ⟨wd0, fun t h => absurd h (by simp [whF]), by simp [whF]⟩
theorem recL_mem {BY : Bool × Int × Int → Bool × Int × Int → (Bool × Int × Int) × Bool} : ∀ {l : List (Int × (Bool × Int × Int) × (Bool × Int × Int))} {t : Int × Bool × Int × Int}, t ∈ recL BY l → ∃ x ∈ l, t = (x.1, (BY x.2.1 x.2.2).1)
  | [], t, h => by simp [recL] at h
  | x :: r, t, h => by
    unfold recL at h
    split at h
    · obtain ⟨y, hy, e⟩ := recL_mem h
      exact ⟨y, by simp [hy], e⟩
    · rcases List.mem_cons.1 h with rfl | h
      · exact ⟨x, by simp, rfl⟩
      · obtain ⟨y, hy, e⟩ := recL_mem h
        exact ⟨y, by simp [hy], e⟩
theorem recP_ok {BY : Bool × Int × Int → Bool × Int × Int → (Bool × Int × Int) × Bool} (bw : ∀ x y, wdR x → wdR y → wdR (BY x y).1) {A B : Frm} (hA : fOk A) (hB : fOk B) : fOk (recP BY A B) ∧ (recP BY A B).2.2.length ≤ 16 := by
  unfold recP
  split
  · rename_i h
    refine ⟨⟨bw _ _ hA.1 hB.1, fun t ht => ?_, ?_⟩, h.2.2.2⟩
    · obtain ⟨x, hx, rfl⟩ := recL_mem ht
      obtain ⟨h1, h2, h3⟩ := mg_wd _ _ _ hA.2.1 hB.2.1 x hx
      exact ⟨h1, bw _ _ h2 h3⟩
    · have := h.2.2.2
      simp only
      omega
  · exact ⟨whF_ok, by simp [whF]⟩
def negP (A : Frm) : Frm := recP (fun x _ => (trnP x, true)) A zrF
def subP (A B : Frm) : Frm := addP A (negP B)
theorem negP_ok {A : Frm} (hA : fOk A) : fOk (negP A) := (recP_ok (fun x y h _ => trnP_wd h) hA zrF_ok).1
theorem ovP_ok {q : Int} (hq : q ≤ 9223372036854775807) : fOk (ovP q) := by
  unfold ovP
  split
  · exact whF_ok
  · refine ⟨wd0, fun t h => ?_, by simp⟩
    simp at h
    subst h
    exact ⟨hq, word_one, word_one⟩
theorem form_neg (A : Frm) (hA : fOk A) (va : Value) (w : World) (ta : TAt w va A.2.2) :
    Calls Tryz.prog 33 #[.agg #[.bool A.1, .bool A.2.1.1, .int .u64 A.2.1.2.1, .int .u64 A.2.1.2.2, va]] w fun e w' => Told (negP A) w.heap.size e w' ∧ Below w.heap.size w w' :=
  (lineg A.1 A.2.1.1 A.2.1.2.1 A.2.1.2.2 va ta.sl (fun V => TAt V va A.2.2) (fun W V a b => a.on b) (TQ (negP A)) (fun _ _ _ _ ls => ls = (negP A).2.2)
    (fun V hV => (rec_any A zrF hA zrF_ok va (.slice none 0 0) 70 #[] (fun a v => enters_of Tryz.func70 (by kernel_rfl) rfl a v) (fun x _ => (trnP x, true)) V (fun x y V' hx hy _ => lineg1 x.1 y.1 x.2.1 x.2.2 y.2.1 y.2.2 _ _ (fun V => turned_any x hx V) V') hV (Or.inl ⟨rfl, rfl⟩)).mono fun e w' q => ⟨q.1.to, q.2⟩) w ta).mono fun e w' q => ⟨.of q.1, q.2⟩
theorem form_sub (A B : Frm) (hA : fOk A) (hB : fOk B) (va vb : Value) (w : World) (ta : TAt w va A.2.2) (tb : TAt w vb B.2.2) :
    Calls Tryz.prog 31 #[.agg #[.bool A.1, .bool A.2.1.1, .int .u64 A.2.1.2.1, .int .u64 A.2.1.2.2, va], .agg #[.bool B.1, .bool B.2.1.1, .int .u64 B.2.1.2.1, .int .u64 B.2.1.2.2, vb]] w fun e w' => Told (subP A B) w.heap.size e w' ∧ Below w.heap.size w w' :=
  (lisub A.1 A.2.1.1 A.2.1.2.1 A.2.1.2.2 va B.1 B.2.1.1 B.2.1.2.1 B.2.1.2.2 vb ta.sl tb.sl (fun V => TAt V va A.2.2 ∧ TAt V vb B.2.2) (fun W V a b => ⟨a.1.on b, a.2.on b⟩) (TQ (subP A B)) (fun _ _ _ _ ls => ls = (subP A B).2.2) (TQ (negP B)) (fun _ _ _ _ ls => ls = (negP B).2.2)
    (fun V hV => (form_neg B hB vb V hV.2).mono fun e w' q => ⟨q.1.to, q.2⟩)
    (fun V nw ne nl nh nv ms hV hq hl ht => by
      obtain ⟨rfl, rfl, rfl, rfl⟩ := hq
      subst hl
      exact (form_add A (negP B) hA (negP_ok hB) va nv V hV.1 ht).mono fun e w' q => ⟨q.1.to, q.2⟩) w ⟨ta, tb⟩).mono fun e w' q => ⟨.of q.1, q.2⟩
set_option maxRecDepth 100000 in
theorem live_sub : subP (ovP 0) (ovP 0) = zrF := by decide +kernel
set_option maxRecDepth 100000 in
theorem live_right : frR (ovP 0) = true := by decide +kernel
theorem lilive_any (w : World) : Calls Tryz.prog 17 #[] w fun e w' => e = .returned (.bool true) ∧ Below w.heap.size w w' :=
  lilive (ovP 0).2.2 (fun V => form_var 0 V)
    (fun V v hv => (form_sub (ovP 0) (ovP 0) (ovP_ok (by decide)) (ovP_ok (by decide)) v v V hv hv).mono fun e w' q => by
      obtain ⟨⟨rv, he, ht, hu⟩, hb⟩ := q
      rw [live_sub] at he ht
      exact ⟨⟨rv, he, ht⟩, hb⟩)
    (fun V v hv => by have := form_right (ovP 0) (ovP_ok (by decide)) v V hv; rwa [live_right] at this)
    (fun V => form_of (true, 0, 0) wd0 V) w
end Go.Proofs.YteafnkimcidkhaaGreat


namespace Go.Proofs.YteafnkimcidkhaaGreat
open Go.RowKit
set_option linter.unusedVariables false
set_option linter.unusedSimpArgs false
theorem le2_up (n k : Nat) (e : Int) : le2 n e (n * 2 ^ k) (e - k) ∧ le2 (n * 2 ^ k) (e - k) n e := by
  constructor
  · refine (le2_at (e - k) (by omega) (by omega)).2 ?_
    rw [show (e - (e - (k : Int))).toNat = k by omega, show (e - (k : Int) - (e - k)).toNat = 0 by omega, Nat.pow_zero, Nat.mul_one]
    exact Nat.le_refl _
  · refine (le2_at (e - k) (by omega) (by omega)).2 ?_
    rw [show (e - (e - (k : Int))).toNat = k by omega, show (e - (k : Int) - (e - k)).toNat = 0 by omega, Nat.pow_zero, Nat.mul_one]
    exact Nat.le_refl _
theorem worth (s b : Bool) (z : Nat) (h : (z : Int) < fI s) : le2 (val s z) (fL s) (whl s (sgnd s b z)).toNat (pwr s (sgnd s b z)) ∧ le2 (whl s (sgnd s b z)).toNat (pwr s (sgnd s b z)) (val s z) (fL s) := by
  obtain ⟨x, q, e, q1, q2, w, p⟩ := size_parts s b z h
  rw [w, p]
  have v := val_at s x q (by omega) q2
  rw [← e] at v
  rw [v]
  obtain ⟨a, b⟩ := le2_up q x (fL s + x)
  rw [show fL s + (x : Int) - x = fL s by omega] at a b
  exact ⟨b, a⟩
end Go.Proofs.YteafnkimcidkhaaGreat


namespace Go.Proofs.YteafnkimcidkhaaGreat
open Go.RowKit
set_option linter.unusedVariables false
set_option linter.unusedSimpArgs false
def refSize (s : Bool) (m : Int) (below : Bool) (last : Int) (q1 : Nat) : Int :=
  if (if (if q1 = 2 ^ (fP s + 1) then q1 / 2 else q1) < 2 ^ fP s then 0 else (if q1 = 2 ^ (fP s + 1) then last + 1 else last) - fL s + 1) ≥ 2 ^ (fE s).toNat - 1 then
    (if m = 3 ∨ m = 1 ∧ below = true ∨ m = 2 ∧ below = false then fI s - 1 else fI s)
  else (if (if q1 = 2 ^ (fP s + 1) then q1 / 2 else q1) < 2 ^ fP s then 0 else (if q1 = 2 ^ (fP s + 1) then last + 1 else last) - fL s + 1) * 2 ^ fP s + (((if q1 = 2 ^ (fP s + 1) then q1 / 2 else q1) % 2 ^ fP s : Nat) : Int)
theorem great_ref (s : Bool) (m : Int) (b : Bool) : great s m b = if m = 3 ∨ m = 1 ∧ b = true ∨ m = 2 ∧ b = false then fI s - 1 else fI s := by
  unfold great away
  by_cases c1 : m = 1
  · subst c1; cases b <;> rfl
  · by_cases c2 : m = 2
    · subst c2; cases b <;> rfl
    · by_cases c3 : m = 3
      · subst c3; cases b <;> rfl
      · simp [c1, c2, c3]
theorem fI_eq (s : Bool) : fI s = (2 ^ (fE s).toNat - 1) * 2 ^ fP s := by cases s <;> rfl
theorem fE_ge (s : Bool) : (2 : Int) ≤ 2 ^ (fE s).toNat - 1 := by cases s <;> decide
theorem ref_fin (s : Bool) (m : Int) (below : Bool) (last : Int) (q : Nat) (h l : Bool) (h1 : q < 2 ^ (fP s + 1)) (h2 : last = fL s ∨ 2 ^ fP s ≤ q) (h3 : fL s ≤ last) :
    refSize s m below last (q + if away m below (q % 2 == 1) h l then 1 else 0) = fin s m below last q h l := by
  unfold refSize fin
  rw [← great_ref, fI_eq]
  have e2 := fE_ge s
  have g1 : q ≤ (q + if away m below (q % 2 == 1) h l then 1 else 0) := Nat.le_add_right _ _
  have g2 : (q + if away m below (q % 2 == 1) h l then 1 else 0) ≤ q + 1 := by split <;> omega
  generalize (q + if away m below (q % 2 == 1) h l then 1 else 0) = Y at *
  generalize (2 : Int) ^ (fE s).toNat - 1 = X at *
  have pp := Nat.two_pow_pos (fP s)
  rw [Nat.pow_succ] at *
  rw [pow_cast]
  generalize 2 ^ fP s = P at *
  obtain ⟨d, hd⟩ : ∃ d : Nat, last - fL s = d := ⟨(last - fL s).toNat, by omega⟩
  obtain ⟨x, hx⟩ : ∃ x : Nat, X = x := ⟨X.toNat, by omega⟩
  rw [hd, hx]
  by_cases c : Y = P * 2
  · have y2 : Y / 2 = P := by omega
    have np : ¬ P < P := by omega
    rw [if_pos c, if_pos c, y2]
    simp only [if_neg np]
    rw [Nat.mod_self, show last + 1 - fL s + 1 = ((d + 2 : Nat) : Int) by omega]
    have t : ((d + 2 : Nat) : Int) * (P : Int) = (d : Int) * P + (Y : Int) := by
      have k : (d + 2) * P = d * P + P * 2 := by rw [Nat.add_mul, Nat.mul_comm 2]
      rw [c, ← Int.natCast_mul, ← Int.natCast_mul, k, Int.natCast_add]
    by_cases g : ((x : Int)) ≤ ((d + 2 : Nat) : Int)
    · rw [if_pos g, if_pos (by rw [← t]; exact Int.mul_le_mul_of_nonneg_right g (by omega))]
    · rw [if_neg g, if_neg (by rw [← t]; intro k; exact g (Int.le_of_mul_le_mul_right k (by omega)))]
      rw [← t]; simp
  · rw [if_neg c, if_neg c]
    by_cases z : Y < P
    · have dz : d = 0 := by
        rcases h2 with k | k
        · omega
        · omega
      rw [if_pos z, if_neg (by omega), Nat.mod_eq_of_lt z, dz]
      have : ¬ ((x : Int) * (P : Int) ≤ ((0 : Nat) : Int) * (P : Int) + (Y : Int)) := by
        have k : (2 : Int) * P ≤ (x : Int) * P := Int.mul_le_mul_of_nonneg_right (by omega) (by omega)
        simp
        omega
      rw [if_neg this]
      simp
    · have m1 : Y % P = Y - P := by
        rw [Nat.mod_eq_sub_mod (by omega), Nat.mod_eq_of_lt (by omega)]
      rw [if_neg z, m1, show last - fL s + 1 = ((d + 1 : Nat) : Int) by omega]
      have t : ((d + 1 : Nat) : Int) * (P : Int) + ((Y - P : Nat) : Int) = (d : Int) * P + (Y : Int) := by
        rw [← Int.natCast_mul, ← Int.natCast_mul]
        have : (d + 1) * P = d * P + P := by rw [Nat.add_mul, Nat.one_mul]
        omega
      by_cases g : ((x : Int)) ≤ ((d + 1 : Nat) : Int)
      · have k : (x : Int) * P ≤ ((d + 1 : Nat) : Int) * P := Int.mul_le_mul_of_nonneg_right g (by omega)
        rw [if_pos g, if_pos (by omega)]
      · have k : ((d + 1 : Nat) : Int) * P + P ≤ (x : Int) * P := by
          have k' : (((d + 1 : Nat) : Int) + 1) * P ≤ (x : Int) * P := Int.mul_le_mul_of_nonneg_right (by omega) (by omega)
          rw [Int.add_mul, Int.one_mul] at k'
          exact k'
        rw [if_neg g, if_neg (by omega)]
        exact t
/-! ### What is kept, bit by bit from the top -/
def qTo (A : Nat) (k : Int) (j : Nat) : Nat := if (j : Int) ≤ k then A / 2 ^ k.toNat else A / 2 ^ j * 2 ^ ((j : Int) - k).toNat
theorem qTo_top {A n : Nat} (k : Int) (h : A < 2 ^ n) : qTo A k n = 0 := by
  unfold qTo
  split
  · exact Nat.div_eq_of_lt (Nat.lt_of_lt_of_le h (Nat.pow_le_pow_right (by decide) (by omega)))
  · rw [Nat.div_eq_of_lt h, Nat.zero_mul]
theorem qTo_end (A : Nat) (k : Int) : qTo A k 0 = quo A k := by
  unfold qTo quo
  by_cases c : 0 < k
  · rw [if_pos (by omega), if_neg (by omega)]
  · by_cases d : k = 0
    · subst d
      rw [if_pos (by decide), if_pos (by decide)]
      simp
    · rw [if_neg (by omega), if_pos (by omega), Nat.pow_zero, Nat.div_one]
      congr 2
      omega
theorem qTo_no (A : Nat) (k : Int) (i : Nat) (h : (i : Int) < k) : qTo A k i = qTo A k (i + 1) := by
  unfold qTo
  rw [if_pos (by omega), if_pos (by omega)]
theorem qTo_yes (A : Nat) (k : Int) (i : Nat) (h : k ≤ (i : Int)) : qTo A k i = qTo A k (i + 1) + (A.testBit i).toNat * 2 ^ ((i : Int) - k).toNat ∧ qTo A k (i + 1) % 2 ^ (((i : Int) - k).toNat + 1) = 0 := by
  have e : qTo A k i = A / 2 ^ i * 2 ^ ((i : Int) - k).toNat := by
    unfold qTo
    by_cases c : (i : Int) ≤ k
    · have : k.toNat = i := by omega
      rw [if_pos c, this, show ((i : Int) - k).toNat = 0 by omega, Nat.pow_zero, Nat.mul_one]
    · rw [if_neg c]
  have e' : qTo A k (i + 1) = A / 2 ^ (i + 1) * 2 ^ (((i : Int) - k).toNat + 1) := by
    unfold qTo
    rw [if_neg (by omega)]
    congr 2
    omega
  refine ⟨?_, by rw [e', Nat.mul_mod_left]⟩
  rw [e, e', Nat.pow_succ, Nat.pow_succ, ← Nat.div_div_eq_div_mul, Nat.testBit_eq_decide_div_mod_eq]
  generalize A / 2 ^ i = B
  generalize 2 ^ ((i : Int) - k).toNat = T
  have m : B = 2 * (B / 2) + B % 2 := by omega
  have t : (decide (B % 2 = 1)).toNat = B % 2 := by
    have : B % 2 = 0 ∨ B % 2 = 1 := by omega
    rcases this with c | c <;> rw [c] <;> rfl
  rw [t]
  conv => lhs; rw [m, Nat.add_mul]
  congr 1
  rw [Nat.mul_comm 2, Nat.mul_assoc, Nat.mul_comm 2]
theorem qTo_le (A : Nat) (k : Int) (i : Nat) : qTo A k (i + 1) ≤ qTo A k i := by
  by_cases c : k ≤ (i : Int)
  · rw [(qTo_yes A k i c).1]; exact Nat.le_add_right _ _
  · rw [qTo_no A k i (by omega)]; exact Nat.le_refl _
theorem qTo_quo (A : Nat) (k : Int) (i : Nat) : qTo A k i ≤ quo A k := by
  induction i with
  | zero => rw [qTo_end]; exact Nat.le_refl _
  | succ i ih => exact Nat.le_trans (qTo_le A k i) ih
theorem or_pow (q t : Nat) (h : q % 2 ^ (t + 1) = 0) : q ||| 2 ^ t = q + 2 ^ t := by
  obtain ⟨b, rfl⟩ : ∃ b, q = 2 ^ (t + 1) * b := ⟨q / 2 ^ (t + 1), by have := Nat.div_add_mod q (2 ^ (t + 1)); omega⟩
  exact (Nat.two_pow_add_eq_or_of_lt (i := t + 1) (b := 2 ^ t) (Nat.pow_lt_pow_right (by decide) (by omega)) b).symm
end Go.Proofs.YteafnkimcidkhaaGreat
namespace Go.Proofs.YteafnkimcidkhaaGreat
open Go.RowKit
set_option linter.unusedVariables false
set_option linter.unusedSimpArgs false
theorem half_bit (n : Nat) (k : Int) : half n k = (decide (1 ≤ k) && n.testBit (k.toNat - 1)) := by
  unfold half
  rw [Nat.testBit_eq_decide_div_mod_eq]
  congr 1
theorem mod_no {A i : Nat} (h : A.testBit i = false) : A % 2 ^ (i + 1) = A % 2 ^ i := by
  rw [Nat.mod_pow_succ]
  rw [Nat.testBit_eq_decide_div_mod_eq, decide_eq_false_iff_not] at h
  have : A / 2 ^ i % 2 = 0 := by omega
  rw [this, Nat.mul_zero, Nat.add_zero]
theorem mod_yes {A i : Nat} (h : A.testBit i = true) : A % 2 ^ (i + 1) = A % 2 ^ i + 2 ^ i := by
  rw [Nat.mod_pow_succ]
  rw [Nat.testBit_eq_decide_div_mod_eq, decide_eq_true_iff] at h
  rw [h, Nat.mul_one]
theorem half_other {A i : Nat} {k : Int} (h : ¬ (i : Int) = k - 1) : half (A % 2 ^ (i + 1)) k = half (A % 2 ^ i) k := by
  rw [half_bit, half_bit, Nat.testBit_mod_two_pow, Nat.testBit_mod_two_pow]
  by_cases c : 1 ≤ k
  · have : decide (k.toNat - 1 < i + 1) = decide (k.toNat - 1 < i) := by rw [decide_eq_decide]; omega
    rw [this]
  · rw [decide_eq_false c, Bool.false_and, Bool.false_and]
theorem half_at {A i : Nat} {k : Int} (hb : A.testBit i = true) (h : (i : Int) = k - 1) : half (A % 2 ^ (i + 1)) k = true := by
  rw [half_bit, Nat.testBit_mod_two_pow]
  have e : k.toNat - 1 = i := by omega
  rw [e, hb, decide_eq_true (by omega : 1 ≤ k), decide_eq_true (by omega : i < i + 1)]
  rfl
theorem low_other {A i : Nat} {k : Int} (h : ¬ (i : Int) < k - 1) : low (A % 2 ^ (i + 1)) k = low (A % 2 ^ i) k := by
  unfold low
  by_cases c : 1 ≤ k
  · have d1 : 2 ^ (k.toNat - 1) ∣ 2 ^ i := Nat.pow_dvd_pow 2 (by omega)
    have d2 : 2 ^ (k.toNat - 1) ∣ 2 ^ (i + 1) := Nat.pow_dvd_pow 2 (by omega)
    rw [Nat.mod_mod_of_dvd _ d1, Nat.mod_mod_of_dvd _ d2]
  · rw [decide_eq_false c, Bool.false_and, Bool.false_and]
theorem low_at {A i : Nat} {k : Int} (hb : A.testBit i = true) (h : (i : Int) < k - 1) : low (A % 2 ^ (i + 1)) k = true := by
  unfold low
  have l : A % 2 ^ (i + 1) < 2 ^ (k.toNat - 1) := Nat.lt_of_lt_of_le (Nat.mod_lt _ (Nat.two_pow_pos _)) (Nat.pow_le_pow_right (by decide) (by omega))
  rw [Nat.mod_eq_of_lt l, mod_yes hb, decide_eq_true (by omega : 1 ≤ k)]
  have := Nat.two_pow_pos i
  simp
theorem hl_no {A i : Nat} {k : Int} (hb : A.testBit i = false) : half (A % 2 ^ (i + 1)) k = half (A % 2 ^ i) k ∧ low (A % 2 ^ (i + 1)) k = low (A % 2 ^ i) k := by
  rw [mod_no hb]; exact ⟨rfl, rfl⟩
theorem hl_eq {A i : Nat} {k : Int} (hb : A.testBit i = true) (h : (i : Int) = k - 1) : half (A % 2 ^ (i + 1)) k = true ∧ low (A % 2 ^ (i + 1)) k = low (A % 2 ^ i) k := ⟨half_at hb h, low_other (by omega)⟩
theorem hl_lt {A i : Nat} {k : Int} (hb : A.testBit i = true) (h : (i : Int) < k - 1) : half (A % 2 ^ (i + 1)) k = half (A % 2 ^ i) k ∧ low (A % 2 ^ (i + 1)) k = true := ⟨half_other (by omega), low_at hb h⟩
theorem hl_gt {A i : Nat} {k : Int} (h : k - 1 < (i : Int)) : half (A % 2 ^ (i + 1)) k = half (A % 2 ^ i) k ∧ low (A % 2 ^ (i + 1)) k = low (A % 2 ^ i) k := ⟨half_other (by omega), low_other (by omega)⟩
theorem hl_zero (A : Nat) (k : Int) : half (A % 2 ^ 0) k = false ∧ low (A % 2 ^ 0) k = false := by
  rw [Nat.pow_zero, Nat.mod_one, half_bit]
  unfold low
  simp
theorem q_yes {A i : Nat} {k : Int} {t : Nat} (h : (i : Int) - k = (t : Int)) (ht : t < 64) (hq : quo A k < 2 ^ 63) (hb : A.testBit i = true) :
    bits BinOp.or IntKind.u64 ((qTo A k (i + 1) : Nat) : Int) (2 ^ t) = ((qTo A k i : Nat) : Int) := by
  obtain ⟨e1, e2⟩ := qTo_yes A k i (by omega)
  have tt : ((i : Int) - k).toNat = t := by omega
  rw [tt] at e1 e2
  have l := qTo_quo A k (i + 1)
  have p : 2 ^ t < 2 ^ 64 := Nat.pow_lt_pow_right (by decide) ht
  rw [pow_cast, u64_or_nat _ _ (by omega) (by omega), or_pow _ _ e2, e1, hb]
  simp
theorem q_no {A i : Nat} {k : Int} {t : Nat} (h : (i : Int) - k = (t : Int)) (ht : t < 64) (hq : quo A k < 2 ^ 63) (hb : A.testBit i = false) :
    bits BinOp.andNot IntKind.u64 (bits BinOp.or IntKind.u64 ((qTo A k (i + 1) : Nat) : Int) (2 ^ t)) (2 ^ t) = ((qTo A k i : Nat) : Int) := by
  obtain ⟨e1, e2⟩ := qTo_yes A k i (by omega)
  have tt : ((i : Int) - k).toNat = t := by omega
  rw [tt] at e1 e2
  have l := qTo_quo A k (i + 1)
  have p : 2 ^ t < 2 ^ 64 := Nat.pow_lt_pow_right (by decide) ht
  have o : qTo A k (i + 1) ||| 2 ^ t < 2 ^ 64 := Nat.or_lt_two_pow (by omega) p
  rw [pow_cast, u64_or_nat _ _ (by omega) (by omega), u64_andNot_nat _ _ (by omega) (by omega), e1, hb]
  congr 1
  simp only [Bool.toNat_false, Nat.zero_mul, Nat.add_zero]
  rw [show 18446744073709551615 - 2 ^ t = 2 ^ 64 - (2 ^ t + 1) by omega]
  have q0 : (qTo A k (i + 1)).testBit t = false := by
    have := Nat.testBit_mod_two_pow (qTo A k (i + 1)) (t + 1) t
    rw [e2, Nat.zero_testBit] at this
    simpa using this.symm
  apply Nat.eq_of_testBit_eq
  intro j
  rw [Nat.testBit_and, Nat.testBit_or, Nat.testBit_two_pow, Nat.testBit_two_pow_sub_succ p, Nat.testBit_two_pow]
  by_cases c : t = j
  · subst c; simp [q0]
  · by_cases c2 : j < 64
    · simp [c, c2]
    · have : (qTo A k (i + 1)).testBit j = false := Nat.testBit_lt_two_pow (Nat.lt_of_lt_of_le (by omega : qTo A k (i + 1) < 2 ^ 63) (Nat.pow_le_pow_right (by decide) (by omega)))
      simp [c, c2, this]
end Go.Proofs.YteafnkimcidkhaaGreat
namespace Go.Proofs.YteafnkimcidkhaaGreat
open Go.RowKit
set_option linter.unusedVariables false

end Go.Proofs.YteafnkimcidkhaaGreat
namespace Go.Proofs.YteafnkimcidkhaaGreat
open Go.RowKit
set_option linter.unusedVariables false
set_option linter.unusedSimpArgs false
theorem top_bit {A k : Nat} (h : A < 2 ^ (k + 1)) (hb : A.testBit k = true) : blen A = k + 1 := by
  rw [Nat.testBit_eq_decide_div_mod_eq, decide_eq_true_iff] at hb
  refine blen_uniq (by omega) ?_ h
  rw [Nat.add_sub_cancel]
  by_cases c : 2 ^ k ≤ A
  · exact c
  · rw [Nat.div_eq_of_lt (by omega)] at hb; omega
theorem no_bit {A k : Nat} (h : A < 2 ^ (k + 1)) (hb : A.testBit k = false) : A < 2 ^ k := by
  rw [Nat.testBit_eq_decide_div_mod_eq, decide_eq_false_iff_not] at hb
  by_cases c : 2 ^ k ≤ A
  · have p := Nat.two_pow_pos k
    rw [Nat.pow_succ] at h
    have : A / 2 ^ k = 1 := Nat.div_eq_of_lt_le (by omega) (by omega)
    rw [this] at hb; omega
  · omega
set_option maxHeartbeats 800000 in
theorem length_any (b n cap A : Nat) (hA : A < 2 ^ n) (hn : n ≤ 1000000) (w : World) (row : RowB w b n (fun i => A.testBit i)) :
    Calls Tryz.prog 128 #[.slice (some ⟨b, 0, none⟩) n cap] w fun e w' => e = .returned (.int .i64 (blen A : Int)) ∧ w' = w := by
  have HA : Hid _ := hA
  clear hA
  go_enter Tryz.func128, Tryz.ntmps128
  go_wp2
  go_loopw [3] (fun i wr => ∃ k : Nat, k ≤ n ∧ i = .int .i64 k ∧ Hid (A < 2 ^ k) ∧ wr = w) (fun i _ => (intOf i).toNat)
  case atStart => exact ⟨n, Nat.le_refl _, rfl, HA, rfl⟩
  case round =>
    obtain ⟨k, hk, rfl, E1, rfl⟩ := hrel
    rcases Nat.eq_zero_or_pos k with rfl | kp
    · have z : blen A = 0 := by
        have := E1.out
        simp at this
        subst this
        exact blen_zero
      have Z : Hid _ := z
      clear z
      go_wp2
      go_ret
      exact ⟨i64_eq (by rw [Z.out]), rfl⟩
    · obtain ⟨j, rfl⟩ : ∃ j, k = j + 1 := ⟨k - 1, by omega⟩
      have cj : wr.cell? ⟨b, j, none⟩ = some (.bool (A.testBit j)) := row j (by omega)
      have e1 : ((j + 1 : Nat) : Int) - 1 = (j : Int) := by omega
      have e2 : (0 : Int) < ((j + 1 : Nat) : Int) := by omega
      cases t : A.testBit j
      · rw [t] at cj
        have E2 : Hid _ := no_bit E1.out t
        clear t row
        go_wp2
        go_roundw
        case rel => exact ⟨j, by omega, by go_num, E2, by first | rfl | trivial⟩
        case measure => first | (simp [intOf]; done) | (simp [intOf]; omega)
      · rw [t] at cj
        have Z : Hid _ := top_bit E1.out t
        clear t row
        go_wp2
        go_ret
        exact ⟨i64_eq (by rw [Z.out]), rfl⟩
end Go.Proofs.YteafnkimcidkhaaGreat
namespace Go.Proofs.YteafnkimcidkhaaGreat
open Go.RowKit
set_option linter.unusedVariables false
set_option linter.unusedSimpArgs false
theorem or_top (x i : Nat) (h : x < 2 ^ i) (hi : i < 64) : bits BinOp.or IntKind.u64 ((2 ^ i : Nat) : Int) (x : Int) = ((2 ^ i + x : Nat) : Int) := by
  have p : 2 ^ i < 2 ^ 64 := Nat.pow_lt_pow_right (by decide) hi
  rw [u64_or_nat _ _ (by omega) (by omega)]
  have := Nat.two_pow_add_eq_or_of_lt h 1
  rw [Nat.mul_one] at this
  rw [← this]
theorem or_none (x : Nat) (h : x < 2 ^ 64) : bits BinOp.or IntKind.u64 0 (x : Int) = (x : Int) := by
  have t := u64_or_nat 0 x (by decide) (by omega)
  rw [Nat.zero_or] at t
  exact t
theorem or_lowN (x m i : Nat) (hm : m < 2 ^ i) (h : x * 2 ^ i + m < 2 ^ 64) : bits BinOp.or IntKind.u64 ((x * 2 ^ i : Nat) : Int) (m : Int) = ((x * 2 ^ i + m : Nat) : Int) := by
  rw [u64_or_nat _ _ (by omega) (by omega), Nat.mul_comm x, Nat.two_pow_add_eq_or_of_lt hm x]
theorem or_sign (s b : Bool) (x : Nat) (h : (x : Int) < fS s) : bits BinOp.or IntKind.u64 (if b then fS s else 0) (x : Int) = sgnd s b (x : Int) := by
  have e1 : fS false = ((2 ^ 63 : Nat) : Int) := by decide
  have e2 : fS true = ((2 ^ 31 : Nat) : Int) := by decide
  unfold sgnd
  cases b
  · have h' : x < 2 ^ 64 := by cases s; rw [e1] at h; omega; rw [e2] at h; omega
    rw [if_neg (by decide), if_neg (by decide), or_none x h']
  · rw [if_pos rfl, if_pos rfl]
    cases s
    · rw [e1] at h ⊢
      rw [or_top x 63 (by omega) (by decide)]; omega
    · rw [e2] at h ⊢
      rw [or_top x 31 (by omega) (by decide)]; omega
theorem put_d (b : Bool) (X M : Nat) (hX : X < 2048) (hM : M < 4503599627370496) : bits BinOp.or IntKind.u64 (bits BinOp.or IntKind.u64 (if b then 9223372036854775808 else 0) ((X * 4503599627370496 : Nat) : Int)) (M : Int) = sgnd false b ((X : Int) * 4503599627370496 + M) := by
  have e := or_sign false b (X * 4503599627370496) (by show _ < (9223372036854775808 : Int); omega)
  have e0 : fS false = 9223372036854775808 := rfl
  rw [e0] at e
  rw [e]
  cases b
  · unfold sgnd
    rw [if_neg (by decide), if_neg (by decide)]
    have t := or_lowN X M 52 (by omega) (by omega)
    rw [show (2 : Nat) ^ 52 = 4503599627370496 from rfl] at t
    rw [t]; omega
  · unfold sgnd
    rw [if_pos rfl, if_pos rfl, e0]
    have t := or_lowN (X + 2048) M 52 (by omega) (by omega)
    rw [show ((X * 4503599627370496 : Nat) : Int) + 9223372036854775808 = (((X + 2048) * 2 ^ 52 : Nat) : Int) by omega, t]
    omega
theorem put_s (b : Bool) (X M : Nat) (hX : X < 256) (hM : M < 8388608) : bits BinOp.or IntKind.u64 (bits BinOp.or IntKind.u64 (if b then 2147483648 else 0) ((X * 8388608 : Nat) : Int)) (M : Int) = sgnd true b ((X : Int) * 8388608 + M) := by
  have e := or_sign true b (X * 8388608) (by show _ < (2147483648 : Int); omega)
  have e0 : fS true = 2147483648 := rfl
  rw [e0] at e
  rw [e]
  cases b
  · unfold sgnd
    rw [if_neg (by decide), if_neg (by decide)]
    have t := or_lowN X M 23 (by omega) (by omega)
    rw [show (2 : Nat) ^ 23 = 8388608 from rfl] at t
    rw [t]; omega
  · unfold sgnd
    rw [if_pos rfl, if_pos rfl, e0]
    have t := or_lowN (X + 256) M 23 (by omega) (by omega)
    rw [show ((X * 8388608 : Nat) : Int) + 2147483648 = (((X + 256) * 2 ^ 23 : Nat) : Int) by omega, t]
    omega
theorem rinf_any (s b : Bool) (w : World) : Calls Tryz.prog 116 #[.int .i64 (fb s), .bool b] w fun e w' => e = .returned (.int .u64 (sgnd s b (fI s))) ∧ ∃ n, w' = w.drewN n := by
  cases s
  · have hs := rsize_d
    have hg : ∀ w, Calls Tryz.prog 96 #[.int .i64 0, .bool b] w fun e w' => e = .returned (.int .u64 (if b then 9223372036854775808 else 0)) ∧ w' = w := rsign_any false b
    have o : bits BinOp.or IntKind.u64 (if b then 9223372036854775808 else 0) 9218868437227405312 = sgnd false b (fI false) := or_sign false b 9218868437227405312 (by decide)
    show Calls Tryz.prog 116 #[.int .i64 0, .bool b] w _
    generalize (if b then (9223372036854775808 : Int) else 0) = S at *
    generalize sgnd false b (fI false) = V at *
    go_enter Tryz.func116, Tryz.ntmps116
    go_wp2_with (go_at_call 126; refine (hs _).mono ?_; rintro e w1 ⟨rfl, rfl⟩)
    go_quiet ((go_at_call 96; exact Calls.quiet_of_same (hg _)))
    go_wp2_with fail
    go_ret
    exact ⟨rfl, _, rfl⟩
  · have hs := rsize_s
    have hg : ∀ w, Calls Tryz.prog 96 #[.int .i64 1, .bool b] w fun e w' => e = .returned (.int .u64 (if b then 2147483648 else 0)) ∧ w' = w := rsign_any true b
    have o : bits BinOp.or IntKind.u64 (if b then 2147483648 else 0) 2139095040 = sgnd true b (fI true) := or_sign true b 2139095040 (by decide)
    show Calls Tryz.prog 116 #[.int .i64 1, .bool b] w _
    generalize (if b then (2147483648 : Int) else 0) = S at *
    generalize sgnd true b (fI true) = V at *
    go_enter Tryz.func116, Tryz.ntmps116
    go_wp2_with (go_at_call 126; refine (hs _).mono ?_; rintro e w1 ⟨rfl, rfl⟩)
    go_quiet ((go_at_call 96; exact Calls.quiet_of_same (hg _)))
    go_wp2_with fail
    go_ret
    exact ⟨rfl, _, rfl⟩
end Go.Proofs.YteafnkimcidkhaaGreat
namespace Go.Proofs.YteafnkimcidkhaaGreat
open Go.RowKit
set_option linter.unusedVariables false

theorem pow_word (k : Nat) (hk : k < 64) : Word ((2 : Int) ^ k) ∧ ((2 : Int) ^ k).toNat = 2 ^ k := by
  have e : (2 : Int) ^ k = ((2 ^ k : Nat) : Int) := by simp
  have l : 2 ^ k < 2 ^ 64 := Nat.pow_lt_pow_right (by decide) hk
  rw [e]
  exact ⟨⟨Int.natCast_nonneg _, by omega⟩, rfl⟩
theorem wrap_pow (k : Nat) (hk : k < 64) : IntKind.u64.wrap ((2 : Int) ^ k) = 2 ^ k := by
  obtain ⟨⟨a, b⟩, _⟩ := pow_word k hk
  rw [IntKind.wrap_u64]; omega
theorem IsFrom.step {f : Nat → Bool} {k x y : Nat} (h : IsFrom f k x) (hf : f k = true) (hy : ∀ j, y.testBit j = (x.testBit j || decide (j = k))) : IsFrom f (k + 1) y := fun j => by
  rw [hy j, h j]
  by_cases e : j = k
  · subst e; simp [hf]
  · have : (decide (j < k)) = decide (j < k + 1) := by rw [decide_eq_decide]; omega
    rw [this]; simp [e]

end Go.Proofs.YteafnkimcidkhaaGreat
namespace Go.Proofs.YteafnkimcidkhaaGreat
open Go.RowKit
set_option linter.unusedVariables false
set_option linter.unusedSimpArgs false
theorem last_two (s : Bool) {A : Nat} (A0 : A ≠ 0) (e : Int) : ∃ La : Int, lastOf s A e = La ∧ ((e + (blen A : Int) - 1 - (fP s : Int) < fL s ∧ La = fL s) ∨ (¬ e + (blen A : Int) - 1 - (fP s : Int) < fL s ∧ La = e + (blen A : Int) - 1 - (fP s : Int))) := by
  refine ⟨_, rfl, ?_⟩
  unfold lastOf
  omega
def gr (m : Int) (b : Bool) (M I : Int) : Int := if m = 3 ∨ m = 1 ∧ b = true ∨ m = 2 ∧ b = false then M else I
theorem great_ways (m : Int) (b : Bool) (M I : Int) :
    (gr m b M I = M ∧ m = 3) ∨ (gr m b M I = M ∧ (m == 3) = false ∧ m = 1 ∧ b = true) ∨ (gr m b M I = M ∧ (m == 3) = false ∧ (m == 1) = false ∧ m = 2 ∧ b = false) ∨ (gr m b M I = I ∧ (m == 3) = false ∧ m = 1 ∧ b = false) ∨
    (gr m b M I = I ∧ (m == 3) = false ∧ (m == 1) = false ∧ m = 2 ∧ b = true) ∨ (gr m b M I = I ∧ (m == 3) = false ∧ (m == 1) = false ∧ (m == 2) = false) := by
  unfold gr
  by_cases m3 : m = 3
  · subst m3; simp
  · by_cases m1 : m = 1
    · subst m1; cases b <;> simp
    · by_cases m2 : m = 2
      · subst m2; cases b <;> simp
      · simp [m1, m2, m3]
theorem drew_0 (w : World) : ∃ k, w = w.drewN k := ⟨0, rfl⟩
theorem u64r_eq {a b : Int} (h : a = b) : Ending.returned (Value.int IntKind.u64 a) = .returned (.int .u64 b) := by rw [h]
theorem put_d' (b : Bool) (X M : Int) (x0 : 0 ≤ X) (hX : X < 2047) (m0 : 0 ≤ M) (hM : M < 4503599627370496) : bits BinOp.or IntKind.u64 (bits BinOp.or IntKind.u64 (if b then 9223372036854775808 else 0) (X * 4503599627370496)) M = sgnd false b (X * 4503599627370496 + M) := by
  obtain ⟨x, rfl⟩ := Int.eq_ofNat_of_zero_le x0
  obtain ⟨m, rfl⟩ := Int.eq_ofNat_of_zero_le m0
  exact put_d b x m (by omega) (by omega)
theorem ref_up_d (m : Int) (b : Bool) (La X : Int) (hX : X = La + 1 + 1074 + 1) (h : X < 2047) : sgnd false b (refSize false m b La (9007199254740992 : Int).toNat) = sgnd false b (X * 4503599627370496 + 0) := by
  congr 1
  unfold refSize
  have e1 : (2 : Nat) ^ (fP false + 1) = 9007199254740992 := rfl
  have e2 : (2 : Nat) ^ fP false = 4503599627370496 := rfl
  have e3 : (2 : Int) ^ fP false = 4503599627370496 := rfl
  have e4 : (2 : Int) ^ (fE false).toNat - 1 = 2047 := rfl
  have e5 : fL false = -1074 := rfl
  rw [e1, e2, e3, e4, e5]
  rw [if_pos (by decide : (9007199254740992 : Int).toNat = 9007199254740992), if_pos (by decide : (9007199254740992 : Int).toNat = 9007199254740992)]
  rw [if_neg (by decide : ¬ (9007199254740992 : Int).toNat / 2 < 4503599627370496)]
  rw [if_neg (by omega), show (9007199254740992 : Int).toNat / 2 % 4503599627370496 = 0 by decide]
  omega
theorem ref_sub_d (m : Int) (b : Bool) (La y : Int) (y0 : 0 ≤ y) (h : y < 4503599627370496) : sgnd false b (refSize false m b La y.toNat) = sgnd false b (0 * 4503599627370496 + y) := by
  congr 1
  unfold refSize
  have e1 : (2 : Nat) ^ (fP false + 1) = 9007199254740992 := rfl
  have e2 : (2 : Nat) ^ fP false = 4503599627370496 := rfl
  have e3 : (2 : Int) ^ fP false = 4503599627370496 := rfl
  have e4 : (2 : Int) ^ (fE false).toNat - 1 = 2047 := rfl
  have n1 : ¬ y.toNat = 9007199254740992 := by omega
  have n2 : y.toNat < 4503599627370496 := by omega
  rw [e1, e2, e3, e4]
  simp only [if_neg n1, if_pos n2]
  rw [if_neg (by decide), Nat.mod_eq_of_lt n2]
  omega
theorem ref_great_d (m : Int) (b : Bool) (La y : Int) (h : (y = 9007199254740992 ∧ 2047 ≤ La + 1 + 1074 + 1) ∨ (¬ y = 9007199254740992 ∧ 4503599627370496 ≤ y ∧ 2047 ≤ La + 1074 + 1)) :
    sgnd false b (refSize false m b La y.toNat) = sgnd false b (gr m b 9218868437227405311 9218868437227405312) := by
  congr 1
  unfold refSize gr
  have e1 : (2 : Nat) ^ (fP false + 1) = 9007199254740992 := rfl
  have e2 : (2 : Nat) ^ fP false = 4503599627370496 := rfl
  have e3 : (2 : Int) ^ fP false = 4503599627370496 := rfl
  have e4 : (2 : Int) ^ (fE false).toNat - 1 = 2047 := rfl
  have e5 : fL false = -1074 := rfl
  rw [e1, e2, e3, e4, e5]
  rcases h with ⟨h1, h2⟩ | ⟨h1, h2, h3⟩
  · have n1 : y.toNat = 9007199254740992 := by omega
    have n2 : ¬ y.toNat / 2 < 4503599627370496 := by omega
    simp only [if_pos n1, if_neg n2]
    rw [if_pos (by omega)]
    rfl
  · have n1 : ¬ y.toNat = 9007199254740992 := by omega
    have n2 : ¬ y.toNat < 4503599627370496 := by omega
    simp only [if_neg n1, if_neg n2]
    rw [if_pos (by omega)]
    rfl
theorem ref_norm_d (m : Int) (b : Bool) (La y X : Int) (hX : X = La + 1074 + 1) (c1 : ¬ y = 9007199254740992) (c2 : ¬ y < 4503599627370496) (y1 : y ≤ 9007199254740992) (h : X < 2047) : sgnd false b (refSize false m b La y.toNat) = sgnd false b (X * 4503599627370496 + (y - 4503599627370496)) := by
  congr 1
  unfold refSize
  have e1 : (2 : Nat) ^ (fP false + 1) = 9007199254740992 := rfl
  have e2 : (2 : Nat) ^ fP false = 4503599627370496 := rfl
  have e3 : (2 : Int) ^ fP false = 4503599627370496 := rfl
  have e4 : (2 : Int) ^ (fE false).toNat - 1 = 2047 := rfl
  have e5 : fL false = -1074 := rfl
  have n1 : ¬ y.toNat = 9007199254740992 := by omega
  have n2 : ¬ y.toNat < 4503599627370496 := by omega
  rw [e1, e2, e3, e4, e5, if_neg n1, if_neg n1, if_neg n2, if_neg (by omega)]
  omega
set_option maxRecDepth 20000 in
set_option maxHeartbeats 4000000 in
theorem rounded_d (m : Int) (below : Bool) (b n cap A : Nat) (hA : A < 2 ^ n) (hn : n ≤ 100000) (e : Int) (he1 : -100000 ≤ e) (he2 : e ≤ 100000) (w : World) (row : RowB w b n (fun i => A.testBit i)) (A0 : A ≠ 0) :
    Calls Tryz.prog 93 #[.int .i64 0, .int .i64 m, .bool below, .slice (some ⟨b, 0, none⟩) n cap, .int .i64 e] w fun r w' => r = .returned (.int .u64 (rnd false m below A e)) ∧ ∃ k, w' = w.drewN k := by
  have hs := rsize_d
  have hl := length_any b n cap A hA (by omega) w row
  obtain ⟨La, hLa, hcase⟩ := last_two false A0 e
  obtain ⟨b1, b2⟩ := blen_le A0
  have b3 := blen_le_of hA
  have b4 := lt_blen A
  obtain ⟨N, hN⟩ : ∃ N : Nat, blen A = N := ⟨_, rfl⟩
  rw [hN] at hl hcase b1 b2 b3 b4
  have HLa : Hid (lastOf false A e = La) := hLa
  have HN : Hid (blen A = N) := hN
  have B1 : Hid _ := b1
  have B4 : Hid _ := b4
  have HA : Hid _ := hA
  have hq : quo A (La - e) < 2 ^ 63 := by
    obtain ⟨x, k1, k2, _⟩ := kept false A0 e (min e (-1074)) (by omega) (by show _ ≤ (-1074 : Int); omega)
    rw [hLa] at k2
    exact Nat.lt_of_lt_of_le k2 (by decide)
  have HQ : Hid _ := hq
  clear hLa hN b1 b4 hA hq
  have p52 : ((fP false : Nat) : Int) = 52 := rfl
  have l74 : fL false = -1074 := rfl
  rw [p52, l74] at hcase
  clear p52 l74
  have hk : -1074 ≤ La ∧ e + (N : Int) - 1 - La ≤ 52 ∧ La ≤ 300000 := by rcases hcase with ⟨a, rfl⟩ | ⟨a, rfl⟩ <;> refine ⟨?_, ?_, ?_⟩ <;> omega
  obtain ⟨hk1, hk2, hk3⟩ := hk
  have N1 : ((N : Int) == 0) = false := by simp; omega
  go_enter Tryz.func93, Tryz.ntmps93
  go_upto_if 44 with (first
      | (go_at_call 126; refine (hs _).mono ?_; rintro r w1 ⟨rfl, hw⟩; rw [hw]; clear hw w1)
      | (go_at_call 128; refine hl.mono ?_; rintro r w1 ⟨rfl, hw⟩; rw [hw]; clear hw w1))
  go_cut [15] from 23 to 46 (fun s wx => s = .int .i64 La ∧ wx = w)
  case first =>
    rcases hcase with ⟨hc, hLa⟩ | ⟨hc, hLa⟩
    · have HL : Hid _ := hLa
      clear hLa
      go_wp2_with fail
      go_meet
      case rel => exact ⟨by rw [HL.out], rfl⟩
    · have HL : Hid _ := hLa
      clear hLa
      go_wp2_with fail
      go_meet
      case rel => exact ⟨by rw [HL.out], rfl⟩
  case rest =>
    obtain ⟨rfl, hw⟩ := hcut
    rw [hw]
    clear hw wc hcase hs hl
    go_wp2
    go_loop [16, 17] (fun q i => ∃ j : Nat, j ≤ N ∧ q = .int .u64 ((qTo A (La - e) j : Nat) : Int) ∧ ((j = 0 ∧ i = .int .i64 (-1)) ∨ ∃ i0 : Nat, j = i0 + 1 ∧ i = .int .i64 (i0 : Int))) (fun _ i => (intOf i + 1).toNat)
    case atStart =>
      refine ⟨N, Nat.le_refl _, by rw [qTo_top _ B4.out]; rfl, Or.inr ⟨N - 1, by omega, by go_num⟩⟩
    case round =>
      obtain ⟨j, hj, rfl, hj2⟩ := hrel
      rcases hj2 with ⟨rfl, rfl⟩ | ⟨i0, rfl, rfl⟩
      · rw [qTo_end]
        obtain ⟨Q, hQ⟩ : ∃ Q : Nat, quo A (La - e) = Q := ⟨_, rfl⟩
        have HQ' : Hid _ := hQ
        rw [hQ]
        clear hQ
        go_wp2
        go_loop [18, 19, 20] (fun h l i => ∃ j : Nat, j ≤ N ∧ i = .int .i64 (j : Int) ∧ h = .bool (half (A % 2 ^ j) (La - e)) ∧ l = .bool (low (A % 2 ^ j) (La - e))) (fun _ _ i => N - (intOf i).toNat)
        case atStart => exact ⟨0, by omega, rfl, by rw [(hl_zero A _).1], by rw [(hl_zero A _).2]⟩
        case round =>
          obtain ⟨j, hj, rfl, rfl, rfl⟩ := hrel
          by_cases hlt : j < N
          · have cj : w.cell? ⟨b, j, none⟩ = some (.bool (A.testBit j)) := row j (by omega)
            have t1 : (j : Int) < (N : Int) := by omega
            cases tb : A.testBit j
            · have Z : Hid _ := hl_no (k := La - e) tb
              rw [tb] at cj
              clear tb row
              go_wp2
              go_round
              case rel => exact ⟨j + 1, by omega, by go_num, by rw [Z.out.1], by rw [Z.out.2]⟩
              case measure => simp [intOf]; omega
            · rcases Int.lt_trichotomy (e + (j : Int)) (La - 1) with hc | hc | hc
              · have Z : Hid _ := hl_lt (k := La - e) tb (by omega)
                have hne : (e + (j : Int) == La - 1) = false := by simp; omega
                rw [tb] at cj
                clear tb row
                go_wp2
                go_round
                case rel => exact ⟨j + 1, by omega, by go_num, by rw [Z.out.1], by rw [Z.out.2]⟩
                case measure => simp [intOf]; omega
              · have Z : Hid _ := hl_eq (k := La - e) tb (by omega)
                have hne : (e + (j : Int) == La - 1) = true := by simp; omega
                have hnl : ¬ e + (j : Int) < La - 1 := by omega
                rw [tb] at cj
                clear tb row hc
                go_wp2
                go_round
                case rel => exact ⟨j + 1, by omega, by go_num, by rw [Z.out.1], by rw [Z.out.2]⟩
                case measure => simp [intOf]; omega
              · have Z : Hid _ := hl_gt (A := A) (i := j) (k := La - e) (by omega)
                have hne : (e + (j : Int) == La - 1) = false := by simp; omega
                have hnl : ¬ e + (j : Int) < La - 1 := by omega
                rw [tb] at cj
                clear tb row
                go_wp2
                go_round
                case rel => exact ⟨j + 1, by omega, by go_num, by rw [Z.out.1], by rw [Z.out.2]⟩
                case measure => simp [intOf]; omega
          · have : j = N := by omega
            subst this
            rw [Nat.mod_eq_of_lt B4.out]
            obtain ⟨H, hH⟩ : ∃ H : Bool, half A (La - e) = H := ⟨_, rfl⟩
            obtain ⟨L, hL⟩ : ∃ L : Bool, low A (La - e) = L := ⟨_, rfl⟩
            have HH : Hid _ := hH
            have HL : Hid _ := hL
            rw [hH, hL]
            clear hH hL
            go_upto_region 24 with fail
            iterate 8 go_step
            go_cut [21] from 114 to 144 (fun s wx => s = .bool (away m below (Q % 2 == 1) H L) ∧ wx = w)
            case first =>
              by_cases m1 : m = 1
              · subst m1
                cases below <;> cases H <;> cases L <;> (go_wp2_with fail; go_meet; exact ⟨rfl, rfl⟩)
              · by_cases m2 : m = 2
                · subst m2
                  cases below <;> cases H <;> cases L <;> (go_wp2_with fail; go_meet; exact ⟨rfl, rfl⟩)
                · by_cases m3 : m = 3
                  · subst m3
                    go_wp2_with fail
                    go_meet
                    exact ⟨rfl, rfl⟩
                  · have n1 : (m == 1) = false := by simp [m1]
                    have n2 : (m == 2) = false := by simp [m2]
                    have n3 : (m == 3) = false := by simp [m3]
                    have aw : Hid (∀ o, away m below o H L = (H && (L || o))) := fun o => by unfold away; rw [if_neg m1, if_neg m2, if_neg m3]
                    cases H
                    · go_wp2_with fail
                      go_meet
                      exact ⟨by rw [aw.out]; rfl, rfl⟩
                    · cases L
                      · have od : ((Q : Int) % 2 == 1) = (Q % 2 == 1) := by rw [Bool.eq_iff_iff]; simp; omega
                        go_wp2_with fail
                        go_meet
                        exact ⟨by rw [aw.out]; rfl, rfl⟩
                      · go_wp2_with fail
                        go_meet
                        exact ⟨by rw [aw.out]; rfl, rfl⟩
            case rest =>
              obtain ⟨rfl, hw⟩ := hcut
              rw [hw]
              clear hw wc
              have T := ref_fin false m below La Q H L
              obtain ⟨mo, hmo⟩ : ∃ mo : Bool, away m below (Q % 2 == 1) H L = mo := ⟨_, rfl⟩
              rw [hmo] at T ⊢
              have T2 : Hid (rnd false m below A e = sgnd false below (refSize false m below La (Q + mo.toNat)) ∧ Q < 2 ^ 53 ∧ (La = -1074 ∨ 2 ^ 52 ≤ Q)) := by
                obtain ⟨x, k1, k2, k3, _⟩ := kept false A0 e (min e (-1074)) (by omega) (by show _ ≤ (-1074 : Int); omega)
                have fl : fL false = -1074 := rfl
                have fp : fP false = 52 := rfl
                rw [HLa.out, HQ'.out, fp] at k2 k3
                rw [HLa.out, fl] at k1
                have k4 : La = -1074 ∨ 2 ^ 52 ≤ Q := by rcases k3 with k | k; left; omega; right; exact k
                have T3 := T k2 (by rw [fl, fp]; exact k4) (by rw [fl]; exact hk1)
                refine ⟨?_, k2, k4⟩
                unfold rnd
                rw [if_neg A0]
                unfold mag
                rw [HLa.out, HQ'.out, HH.out, HL.out, ← T3]
                cases mo <;> rfl
              clear T hmo HLa HQ' HH HL HQ B1 B4 HA HN
              iterate 2 go_step
              go_cut [16] from 145 to 147 (fun s wx => s = .int .u64 ((Q + mo.toNat : Nat) : Int) ∧ wx = w)
              case first =>
                have q53 := T2.out.2.1
                clear T2
                cases mo
                · go_wp2_with fail
                  go_meet
                  exact ⟨rfl, rfl⟩
                · go_wp2_with fail
                  go_meet
                  exact ⟨by go_num, rfl⟩
              case rest =>
                obtain ⟨rfl, hw⟩ := hcut
                rw [hw]
                clear hw wc
                obtain ⟨y, hy⟩ : ∃ y : Int, ((Q + mo.toNat : Nat) : Int) = y := ⟨_, rfl⟩
                have y53 : 0 ≤ y ∧ y ≤ 9007199254740992 := by have := T2.out.2.1; have := Bool.toNat_le mo; omega
                have T : Hid (rnd false m below A e = sgnd false below (refSize false m below La y.toNat)) := by rw [T2.out.1, ← hy]; rfl
                rw [hy]
                clear T2 hy
                obtain ⟨y0, y1⟩ := y53
                have hg : ∀ w, Calls Tryz.prog 96 #[.int .i64 0, .bool below] w fun e w' => e = .returned (.int .u64 (if below then 9223372036854775808 else 0)) ∧ w' = w := rsign_any false below
                by_cases c1 : y = 9007199254740992
                · subst c1
                  obtain ⟨X, hX⟩ : ∃ X : Int, La + 1 + 1074 + 1 = X := ⟨_, rfl⟩
                  have x1 : 0 ≤ X := by omega
                  by_cases c3 : X < 2047
                  · have TT : Hid _ := T.out.trans (ref_up_d m below La X hX.symm c3)
                    have wx : IntKind.u64.wrap (X * 4503599627370496) = X * 4503599627370496 := by rw [IntKind.wrap_u64]; omega
                    have pu := put_d' below X 0 x1 c3 (by decide) (by decide)
                    obtain ⟨S, hS⟩ : ∃ S : Int, (if below then (9223372036854775808 : Int) else 0) = S := ⟨_, rfl⟩
                    rw [hS] at hg pu
                    have PU : Hid _ := pu
                    clear hS pu T
                    go_wp2_with fail
                    go_quiet ((go_at_call 96; exact Calls.quiet_of_same (hg _)))
                    go_wp2_with fail
                    go_ret
                    exact ⟨u64r_eq (by rw [TT.out, ← PU.out]; rfl), _, rfl⟩
                  · have nx : ¬ X < 2047 := c3
                    have hmo := rmost_d
                    have hin : ∀ w, Calls Tryz.prog 116 #[.int .i64 0, .bool below] w fun e w' => e = .returned (.int .u64 (sgnd false below 9218868437227405312)) ∧ ∃ n, w' = w.drewN n := rinf_any false below
                    have om : bits BinOp.or IntKind.u64 (if below then 9223372036854775808 else 0) 9218868437227405311 = sgnd false below 9218868437227405311 := or_sign false below 9218868437227405311 (by decide)
                    have GH : Hid _ := T.out.trans (ref_great_d m below La _ (Or.inl ⟨rfl, by omega⟩))
                    clear T
                    obtain ⟨S, hS⟩ : ∃ S : Int, (if below then (9223372036854775808 : Int) else 0) = S := ⟨_, rfl⟩
                    rw [hS] at hg om
                    have OM : Hid _ := om
                    clear hS om
                    obtain ⟨VI, hVI⟩ : ∃ V : Int, sgnd false below 9218868437227405312 = V := ⟨_, rfl⟩
                    rw [hVI] at hin
                    have HVI : Hid _ := hVI
                    clear hVI
                    rcases great_ways m below 9218868437227405311 9218868437227405312 with ⟨g, rfl⟩ | ⟨g, _, rfl, rfl⟩ | ⟨g, _, _, rfl, rfl⟩ | ⟨g, _, rfl, rfl⟩ | ⟨g, _, _, rfl, rfl⟩ | ⟨g, m3, m1, m2⟩
                    all_goals
                      have GV : Hid _ := GH.out
                      rw [g] at GV
                      have G2 : Hid _ := GV
                      clear GV GH g
                      go_wp2_with (first
                        | (go_at_call 96; refine (hg _).mono ?_; rintro r w1 ⟨rfl, hw⟩; rw [hw]; clear hw w1)
                        | (go_at_call 129; refine (hmo _).mono ?_; rintro r w1 ⟨rfl, hw⟩; rw [hw]; clear hw w1)
                        | (go_at_call 116; refine (hin _).mono ?_; rintro r w1 ⟨rfl, nn, hw⟩; rw [hw]; clear hw w1))
                      go_ret
                    · exact ⟨u64r_eq (by rw [G2.out]; exact OM.out), drew_0 w⟩
                    · exact ⟨u64r_eq (by rw [G2.out]; exact OM.out), drew_0 w⟩
                    · exact ⟨u64r_eq (by rw [G2.out]; exact OM.out), drew_0 w⟩
                    · exact ⟨u64r_eq (by rw [G2.out]; exact HVI.out.symm), nn, rfl⟩
                    · exact ⟨u64r_eq (by rw [G2.out]; exact HVI.out.symm), nn, rfl⟩
                    · exact ⟨u64r_eq (by rw [G2.out]; exact HVI.out.symm), nn, rfl⟩
                · have c1' : (y == 9007199254740992) = false := by simp; omega
                  obtain ⟨X, hX⟩ : ∃ X : Int, La + 1074 + 1 = X := ⟨_, rfl⟩
                  have x1 : 0 ≤ X := by omega
                  by_cases c2 : y < 4503599627370496
                  · have pu := put_d' below 0 y (by omega) (by decide) y0 c2
                    have aw : bits BinOp.and IntKind.u64 y 4503599627370495 = y := by
                      rw [and_bits y.toNat 52 4503599627370495 rfl (by decide) y (by omega) (by omega)]
                      show y % 4503599627370496 = _
                      omega
                    have TT : Hid _ := T.out.trans (ref_sub_d m below La y y0 c2)
                    obtain ⟨S, hS⟩ : ∃ S : Int, (if below then (9223372036854775808 : Int) else 0) = S := ⟨_, rfl⟩
                    rw [hS] at hg pu
                    have PU : Hid _ := pu
                    clear hS pu T
                    go_wp2_with fail
                    go_quiet ((go_at_call 96; exact Calls.quiet_of_same (hg _)))
                    go_wp2_with fail
                    go_ret
                    exact ⟨u64r_eq (by rw [TT.out, ← PU.out]; rfl), _, rfl⟩
                  · by_cases c3 : X < 2047
                    · have TT : Hid _ := T.out.trans (ref_norm_d m below La y X hX.symm c1 c2 y1 c3)
                      have wx : IntKind.u64.wrap (X * 4503599627370496) = X * 4503599627370496 := by rw [IntKind.wrap_u64]; omega
                      have pu := put_d' below X (y - 4503599627370496) x1 c3 (by omega) (by omega)
                      have aw : bits BinOp.and IntKind.u64 y 4503599627370495 = y - 4503599627370496 := by
                        rw [and_bits y.toNat 52 4503599627370495 rfl (by decide) y (by omega) (by omega)]
                        show y % 4503599627370496 = _
                        omega
                      obtain ⟨S, hS⟩ : ∃ S : Int, (if below then (9223372036854775808 : Int) else 0) = S := ⟨_, rfl⟩
                      rw [hS] at hg pu
                      have PU : Hid _ := pu
                      clear hS pu T
                      go_wp2_with fail
                      go_quiet ((go_at_call 96; exact Calls.quiet_of_same (hg _)))
                      go_wp2_with fail
                      go_ret
                      exact ⟨u64r_eq (by rw [TT.out, ← PU.out]), _, rfl⟩
                    · have nx : ¬ X < 2047 := c3
                      have hmo := rmost_d
                      have hin : ∀ w, Calls Tryz.prog 116 #[.int .i64 0, .bool below] w fun e w' => e = .returned (.int .u64 (sgnd false below 9218868437227405312)) ∧ ∃ n, w' = w.drewN n := rinf_any false below
                      have om : bits BinOp.or IntKind.u64 (if below then 9223372036854775808 else 0) 9218868437227405311 = sgnd false below 9218868437227405311 := or_sign false below 9218868437227405311 (by decide)
                      have GH : Hid _ := T.out.trans (ref_great_d m below La _ (Or.inr ⟨c1, by omega, by omega⟩))
                      clear T
                      obtain ⟨S, hS⟩ : ∃ S : Int, (if below then (9223372036854775808 : Int) else 0) = S := ⟨_, rfl⟩
                      rw [hS] at hg om
                      have OM : Hid _ := om
                      clear hS om
                      obtain ⟨VI, hVI⟩ : ∃ V : Int, sgnd false below 9218868437227405312 = V := ⟨_, rfl⟩
                      rw [hVI] at hin
                      have HVI : Hid _ := hVI
                      clear hVI
                      rcases great_ways m below 9218868437227405311 9218868437227405312 with ⟨g, rfl⟩ | ⟨g, _, rfl, rfl⟩ | ⟨g, _, _, rfl, rfl⟩ | ⟨g, _, rfl, rfl⟩ | ⟨g, _, _, rfl, rfl⟩ | ⟨g, m3, m1, m2⟩
                      all_goals
                        have GV : Hid _ := GH.out
                        rw [g] at GV
                        have G2 : Hid _ := GV
                        clear GV GH g
                        go_wp2_with (first
                          | (go_at_call 96; refine (hg _).mono ?_; rintro r w1 ⟨rfl, hw⟩; rw [hw]; clear hw w1)
                          | (go_at_call 129; refine (hmo _).mono ?_; rintro r w1 ⟨rfl, hw⟩; rw [hw]; clear hw w1)
                          | (go_at_call 116; refine (hin _).mono ?_; rintro r w1 ⟨rfl, nn, hw⟩; rw [hw]; clear hw w1))
                        go_ret
                      · exact ⟨u64r_eq (by rw [G2.out]; exact OM.out), drew_0 w⟩
                      · exact ⟨u64r_eq (by rw [G2.out]; exact OM.out), drew_0 w⟩
                      · exact ⟨u64r_eq (by rw [G2.out]; exact OM.out), drew_0 w⟩
                      · exact ⟨u64r_eq (by rw [G2.out]; exact HVI.out.symm), nn, rfl⟩
                      · exact ⟨u64r_eq (by rw [G2.out]; exact HVI.out.symm), nn, rfl⟩
                      · exact ⟨u64r_eq (by rw [G2.out]; exact HVI.out.symm), nn, rfl⟩
      · have hi0 : (i0 : Int) + 1 ≤ N := by omega
        have cj : w.cell? ⟨b, i0, none⟩ = some (.bool (A.testBit i0)) := row i0 (by omega)
        have t1 : (0 : Int) ≤ (i0 : Int) := by omega
        by_cases hge : La ≤ e + (i0 : Int)
        · obtain ⟨t, ht⟩ : ∃ t : Nat, e + (i0 : Int) - La = (t : Int) := ⟨(e + (i0 : Int) - La).toNat, by omega⟩
          have t64 : t < 64 := by omega
          have qw := wrap_pow t t64
          cases tb : A.testBit i0
          · have Z := q_no (A := A) (i := i0) (k := La - e) (t := t) (by omega) t64 HQ.out tb
            rw [tb] at cj
            clear tb row
            go_wp2
            go_round
            case rel => exact ⟨i0, by omega, rfl, by rcases i0 with _ | i1; exact Or.inl ⟨rfl, by go_num⟩; exact Or.inr ⟨i1, rfl, by go_num⟩⟩
            case measure => simp [intOf]
          · have Z := q_yes (A := A) (i := i0) (k := La - e) (t := t) (by omega) t64 HQ.out tb
            rw [tb] at cj
            clear tb row
            go_wp2
            go_round
            case rel => exact ⟨i0, by omega, rfl, by rcases i0 with _ | i1; exact Or.inl ⟨rfl, by go_num⟩; exact Or.inr ⟨i1, rfl, by go_num⟩⟩
            case measure => simp [intOf]
        · have Z : Hid _ := qTo_no A (La - e) i0 (by omega)
          have hge' : e + (i0 : Int) < La := by omega
          cases tb : A.testBit i0
          · rw [tb] at cj
            clear tb row
            go_wp2
            go_round
            case rel => exact ⟨i0, by omega, by rw [Z.out], by rcases i0 with _ | i1; exact Or.inl ⟨rfl, by go_num⟩; exact Or.inr ⟨i1, rfl, by go_num⟩⟩
            case measure => simp [intOf]
          · rw [tb] at cj
            clear tb row
            go_wp2
            go_round
            case rel => exact ⟨i0, by omega, by rw [Z.out], by rcases i0 with _ | i1; exact Or.inl ⟨rfl, by go_num⟩; exact Or.inr ⟨i1, rfl, by go_num⟩⟩
            case measure => simp [intOf]
end Go.Proofs.YteafnkimcidkhaaGreat
namespace Go.Proofs.YteafnkimcidkhaaGreat
open Go.RowKit
set_option linter.unusedVariables false
set_option linter.unusedSimpArgs false
theorem put_s' (b : Bool) (X M : Int) (x0 : 0 ≤ X) (hX : X < 255) (m0 : 0 ≤ M) (hM : M < 8388608) : bits BinOp.or IntKind.u64 (bits BinOp.or IntKind.u64 (if b then 2147483648 else 0) (X * 8388608)) M = sgnd true b (X * 8388608 + M) := by
  obtain ⟨x, rfl⟩ := Int.eq_ofNat_of_zero_le x0
  obtain ⟨m, rfl⟩ := Int.eq_ofNat_of_zero_le m0
  exact put_s b x m (by omega) (by omega)
theorem ref_up_s (m : Int) (b : Bool) (La X : Int) (hX : X = La + 1 + 149 + 1) (h : X < 255) : sgnd true b (refSize true m b La (16777216 : Int).toNat) = sgnd true b (X * 8388608 + 0) := by
  congr 1
  unfold refSize
  have e1 : (2 : Nat) ^ (fP true + 1) = 16777216 := rfl
  have e2 : (2 : Nat) ^ fP true = 8388608 := rfl
  have e3 : (2 : Int) ^ fP true = 8388608 := rfl
  have e4 : (2 : Int) ^ (fE true).toNat - 1 = 255 := rfl
  have e5 : fL true = -149 := rfl
  rw [e1, e2, e3, e4, e5]
  rw [if_pos (by decide : (16777216 : Int).toNat = 16777216), if_pos (by decide : (16777216 : Int).toNat = 16777216)]
  rw [if_neg (by decide : ¬ (16777216 : Int).toNat / 2 < 8388608)]
  rw [if_neg (by omega), show (16777216 : Int).toNat / 2 % 8388608 = 0 by decide]
  omega
theorem ref_sub_s (m : Int) (b : Bool) (La y : Int) (y0 : 0 ≤ y) (h : y < 8388608) : sgnd true b (refSize true m b La y.toNat) = sgnd true b (0 * 8388608 + y) := by
  congr 1
  unfold refSize
  have e1 : (2 : Nat) ^ (fP true + 1) = 16777216 := rfl
  have e2 : (2 : Nat) ^ fP true = 8388608 := rfl
  have e3 : (2 : Int) ^ fP true = 8388608 := rfl
  have e4 : (2 : Int) ^ (fE true).toNat - 1 = 255 := rfl
  have n1 : ¬ y.toNat = 16777216 := by omega
  have n2 : y.toNat < 8388608 := by omega
  rw [e1, e2, e3, e4]
  simp only [if_neg n1, if_pos n2]
  rw [if_neg (by decide), Nat.mod_eq_of_lt n2]
  omega
theorem ref_great_s (m : Int) (b : Bool) (La y : Int) (h : (y = 16777216 ∧ 255 ≤ La + 1 + 149 + 1) ∨ (¬ y = 16777216 ∧ 8388608 ≤ y ∧ 255 ≤ La + 149 + 1)) :
    sgnd true b (refSize true m b La y.toNat) = sgnd true b (gr m b 2139095039 2139095040) := by
  congr 1
  unfold refSize gr
  have e1 : (2 : Nat) ^ (fP true + 1) = 16777216 := rfl
  have e2 : (2 : Nat) ^ fP true = 8388608 := rfl
  have e3 : (2 : Int) ^ fP true = 8388608 := rfl
  have e4 : (2 : Int) ^ (fE true).toNat - 1 = 255 := rfl
  have e5 : fL true = -149 := rfl
  rw [e1, e2, e3, e4, e5]
  rcases h with ⟨h1, h2⟩ | ⟨h1, h2, h3⟩
  · have n1 : y.toNat = 16777216 := by omega
    have n2 : ¬ y.toNat / 2 < 8388608 := by omega
    simp only [if_pos n1, if_neg n2]
    rw [if_pos (by omega)]
    rfl
  · have n1 : ¬ y.toNat = 16777216 := by omega
    have n2 : ¬ y.toNat < 8388608 := by omega
    simp only [if_neg n1, if_neg n2]
    rw [if_pos (by omega)]
    rfl
theorem ref_norm_s (m : Int) (b : Bool) (La y X : Int) (hX : X = La + 149 + 1) (c1 : ¬ y = 16777216) (c2 : ¬ y < 8388608) (y1 : y ≤ 16777216) (h : X < 255) : sgnd true b (refSize true m b La y.toNat) = sgnd true b (X * 8388608 + (y - 8388608)) := by
  congr 1
  unfold refSize
  have e1 : (2 : Nat) ^ (fP true + 1) = 16777216 := rfl
  have e2 : (2 : Nat) ^ fP true = 8388608 := rfl
  have e3 : (2 : Int) ^ fP true = 8388608 := rfl
  have e4 : (2 : Int) ^ (fE true).toNat - 1 = 255 := rfl
  have e5 : fL true = -149 := rfl
  have n1 : ¬ y.toNat = 16777216 := by omega
  have n2 : ¬ y.toNat < 8388608 := by omega
  rw [e1, e2, e3, e4, e5, if_neg n1, if_neg n1, if_neg n2, if_neg (by omega)]
  omega
set_option maxRecDepth 20000 in
set_option maxHeartbeats 4000000 in
theorem rounded_s (m : Int) (below : Bool) (b n cap A : Nat) (hA : A < 2 ^ n) (hn : n ≤ 100000) (e : Int) (he1 : -100000 ≤ e) (he2 : e ≤ 100000) (w : World) (row : RowB w b n (fun i => A.testBit i)) (A0 : A ≠ 0) :
    Calls Tryz.prog 93 #[.int .i64 1, .int .i64 m, .bool below, .slice (some ⟨b, 0, none⟩) n cap, .int .i64 e] w fun r w' => r = .returned (.int .u64 (rnd true m below A e)) ∧ ∃ k, w' = w.drewN k := by
  have hs := rsize_s
  have hl := length_any b n cap A hA (by omega) w row
  obtain ⟨La, hLa, hcase⟩ := last_two true A0 e
  obtain ⟨b1, b2⟩ := blen_le A0
  have b3 := blen_le_of hA
  have b4 := lt_blen A
  obtain ⟨N, hN⟩ : ∃ N : Nat, blen A = N := ⟨_, rfl⟩
  rw [hN] at hl hcase b1 b2 b3 b4
  have HLa : Hid (lastOf true A e = La) := hLa
  have HN : Hid (blen A = N) := hN
  have B1 : Hid _ := b1
  have B4 : Hid _ := b4
  have HA : Hid _ := hA
  have hq : quo A (La - e) < 2 ^ 63 := by
    obtain ⟨x, k1, k2, _⟩ := kept true A0 e (min e (-149)) (by omega) (by show _ ≤ (-149 : Int); omega)
    rw [hLa] at k2
    exact Nat.lt_of_lt_of_le k2 (by decide)
  have HQ : Hid _ := hq
  clear hLa hN b1 b4 hA hq
  have p52 : ((fP true : Nat) : Int) = 23 := rfl
  have l74 : fL true = -149 := rfl
  rw [p52, l74] at hcase
  clear p52 l74
  have hk : -149 ≤ La ∧ e + (N : Int) - 1 - La ≤ 23 ∧ La ≤ 300000 := by rcases hcase with ⟨a, rfl⟩ | ⟨a, rfl⟩ <;> refine ⟨?_, ?_, ?_⟩ <;> omega
  obtain ⟨hk1, hk2, hk3⟩ := hk
  have N1 : ((N : Int) == 0) = false := by simp; omega
  go_enter Tryz.func93, Tryz.ntmps93
  go_upto_if 44 with (first
      | (go_at_call 126; refine (hs _).mono ?_; rintro r w1 ⟨rfl, hw⟩; rw [hw]; clear hw w1)
      | (go_at_call 128; refine hl.mono ?_; rintro r w1 ⟨rfl, hw⟩; rw [hw]; clear hw w1))
  go_cut [15] from 23 to 46 (fun s wx => s = .int .i64 La ∧ wx = w)
  case first =>
    rcases hcase with ⟨hc, hLa⟩ | ⟨hc, hLa⟩
    · have HL : Hid _ := hLa
      clear hLa
      go_wp2_with fail
      go_meet
      case rel => exact ⟨by rw [HL.out], rfl⟩
    · have HL : Hid _ := hLa
      clear hLa
      go_wp2_with fail
      go_meet
      case rel => exact ⟨by rw [HL.out], rfl⟩
  case rest =>
    obtain ⟨rfl, hw⟩ := hcut
    rw [hw]
    clear hw wc hcase hs hl
    go_wp2
    go_loop [16, 17] (fun q i => ∃ j : Nat, j ≤ N ∧ q = .int .u64 ((qTo A (La - e) j : Nat) : Int) ∧ ((j = 0 ∧ i = .int .i64 (-1)) ∨ ∃ i0 : Nat, j = i0 + 1 ∧ i = .int .i64 (i0 : Int))) (fun _ i => (intOf i + 1).toNat)
    case atStart =>
      refine ⟨N, Nat.le_refl _, by rw [qTo_top _ B4.out]; rfl, Or.inr ⟨N - 1, by omega, by go_num⟩⟩
    case round =>
      obtain ⟨j, hj, rfl, hj2⟩ := hrel
      rcases hj2 with ⟨rfl, rfl⟩ | ⟨i0, rfl, rfl⟩
      · rw [qTo_end]
        obtain ⟨Q, hQ⟩ : ∃ Q : Nat, quo A (La - e) = Q := ⟨_, rfl⟩
        have HQ' : Hid _ := hQ
        rw [hQ]
        clear hQ
        go_wp2
        go_loop [18, 19, 20] (fun h l i => ∃ j : Nat, j ≤ N ∧ i = .int .i64 (j : Int) ∧ h = .bool (half (A % 2 ^ j) (La - e)) ∧ l = .bool (low (A % 2 ^ j) (La - e))) (fun _ _ i => N - (intOf i).toNat)
        case atStart => exact ⟨0, by omega, rfl, by rw [(hl_zero A _).1], by rw [(hl_zero A _).2]⟩
        case round =>
          obtain ⟨j, hj, rfl, rfl, rfl⟩ := hrel
          by_cases hlt : j < N
          · have cj : w.cell? ⟨b, j, none⟩ = some (.bool (A.testBit j)) := row j (by omega)
            have t1 : (j : Int) < (N : Int) := by omega
            cases tb : A.testBit j
            · have Z : Hid _ := hl_no (k := La - e) tb
              rw [tb] at cj
              clear tb row
              go_wp2
              go_round
              case rel => exact ⟨j + 1, by omega, by go_num, by rw [Z.out.1], by rw [Z.out.2]⟩
              case measure => simp [intOf]; omega
            · rcases Int.lt_trichotomy (e + (j : Int)) (La - 1) with hc | hc | hc
              · have Z : Hid _ := hl_lt (k := La - e) tb (by omega)
                have hne : (e + (j : Int) == La - 1) = false := by simp; omega
                rw [tb] at cj
                clear tb row
                go_wp2
                go_round
                case rel => exact ⟨j + 1, by omega, by go_num, by rw [Z.out.1], by rw [Z.out.2]⟩
                case measure => simp [intOf]; omega
              · have Z : Hid _ := hl_eq (k := La - e) tb (by omega)
                have hne : (e + (j : Int) == La - 1) = true := by simp; omega
                have hnl : ¬ e + (j : Int) < La - 1 := by omega
                rw [tb] at cj
                clear tb row hc
                go_wp2
                go_round
                case rel => exact ⟨j + 1, by omega, by go_num, by rw [Z.out.1], by rw [Z.out.2]⟩
                case measure => simp [intOf]; omega
              · have Z : Hid _ := hl_gt (A := A) (i := j) (k := La - e) (by omega)
                have hne : (e + (j : Int) == La - 1) = false := by simp; omega
                have hnl : ¬ e + (j : Int) < La - 1 := by omega
                rw [tb] at cj
                clear tb row
                go_wp2
                go_round
                case rel => exact ⟨j + 1, by omega, by go_num, by rw [Z.out.1], by rw [Z.out.2]⟩
                case measure => simp [intOf]; omega
          · have : j = N := by omega
            subst this
            rw [Nat.mod_eq_of_lt B4.out]
            obtain ⟨H, hH⟩ : ∃ H : Bool, half A (La - e) = H := ⟨_, rfl⟩
            obtain ⟨L, hL⟩ : ∃ L : Bool, low A (La - e) = L := ⟨_, rfl⟩
            have HH : Hid _ := hH
            have HL : Hid _ := hL
            rw [hH, hL]
            clear hH hL
            go_upto_region 24 with fail
            iterate 8 go_step
            go_cut [21] from 114 to 144 (fun s wx => s = .bool (away m below (Q % 2 == 1) H L) ∧ wx = w)
            case first =>
              by_cases m1 : m = 1
              · subst m1
                cases below <;> cases H <;> cases L <;> (go_wp2_with fail; go_meet; exact ⟨rfl, rfl⟩)
              · by_cases m2 : m = 2
                · subst m2
                  cases below <;> cases H <;> cases L <;> (go_wp2_with fail; go_meet; exact ⟨rfl, rfl⟩)
                · by_cases m3 : m = 3
                  · subst m3
                    go_wp2_with fail
                    go_meet
                    exact ⟨rfl, rfl⟩
                  · have n1 : (m == 1) = false := by simp [m1]
                    have n2 : (m == 2) = false := by simp [m2]
                    have n3 : (m == 3) = false := by simp [m3]
                    have aw : Hid (∀ o, away m below o H L = (H && (L || o))) := fun o => by unfold away; rw [if_neg m1, if_neg m2, if_neg m3]
                    cases H
                    · go_wp2_with fail
                      go_meet
                      exact ⟨by rw [aw.out]; rfl, rfl⟩
                    · cases L
                      · have od : ((Q : Int) % 2 == 1) = (Q % 2 == 1) := by rw [Bool.eq_iff_iff]; simp; omega
                        go_wp2_with fail
                        go_meet
                        exact ⟨by rw [aw.out]; rfl, rfl⟩
                      · go_wp2_with fail
                        go_meet
                        exact ⟨by rw [aw.out]; rfl, rfl⟩
            case rest =>
              obtain ⟨rfl, hw⟩ := hcut
              rw [hw]
              clear hw wc
              have T := ref_fin true m below La Q H L
              obtain ⟨mo, hmo⟩ : ∃ mo : Bool, away m below (Q % 2 == 1) H L = mo := ⟨_, rfl⟩
              rw [hmo] at T ⊢
              have T2 : Hid (rnd true m below A e = sgnd true below (refSize true m below La (Q + mo.toNat)) ∧ Q < 2 ^ 24 ∧ (La = -149 ∨ 2 ^ 23 ≤ Q)) := by
                obtain ⟨x, k1, k2, k3, _⟩ := kept true A0 e (min e (-149)) (by omega) (by show _ ≤ (-149 : Int); omega)
                have fl : fL true = -149 := rfl
                have fp : fP true = 23 := rfl
                rw [HLa.out, HQ'.out, fp] at k2 k3
                rw [HLa.out, fl] at k1
                have k4 : La = -149 ∨ 2 ^ 23 ≤ Q := by rcases k3 with k | k; left; omega; right; exact k
                have T3 := T k2 (by rw [fl, fp]; exact k4) (by rw [fl]; exact hk1)
                refine ⟨?_, k2, k4⟩
                unfold rnd
                rw [if_neg A0]
                unfold mag
                rw [HLa.out, HQ'.out, HH.out, HL.out, ← T3]
                cases mo <;> rfl
              clear T hmo HLa HQ' HH HL HQ B1 B4 HA HN
              iterate 2 go_step
              go_cut [16] from 145 to 147 (fun s wx => s = .int .u64 ((Q + mo.toNat : Nat) : Int) ∧ wx = w)
              case first =>
                have q53 := T2.out.2.1
                clear T2
                cases mo
                · go_wp2_with fail
                  go_meet
                  exact ⟨rfl, rfl⟩
                · go_wp2_with fail
                  go_meet
                  exact ⟨by go_num, rfl⟩
              case rest =>
                obtain ⟨rfl, hw⟩ := hcut
                rw [hw]
                clear hw wc
                obtain ⟨y, hy⟩ : ∃ y : Int, ((Q + mo.toNat : Nat) : Int) = y := ⟨_, rfl⟩
                have y53 : 0 ≤ y ∧ y ≤ 16777216 := by have := T2.out.2.1; have := Bool.toNat_le mo; omega
                have T : Hid (rnd true m below A e = sgnd true below (refSize true m below La y.toNat)) := by rw [T2.out.1, ← hy]; rfl
                rw [hy]
                clear T2 hy
                obtain ⟨y0, y1⟩ := y53
                have hg : ∀ w, Calls Tryz.prog 96 #[.int .i64 1, .bool below] w fun e w' => e = .returned (.int .u64 (if below then 2147483648 else 0)) ∧ w' = w := rsign_any true below
                by_cases c1 : y = 16777216
                · subst c1
                  obtain ⟨X, hX⟩ : ∃ X : Int, La + 1 + 149 + 1 = X := ⟨_, rfl⟩
                  have x1 : 0 ≤ X := by omega
                  by_cases c3 : X < 255
                  · have TT : Hid _ := T.out.trans (ref_up_s m below La X hX.symm c3)
                    have wx : IntKind.u64.wrap (X * 8388608) = X * 8388608 := by rw [IntKind.wrap_u64]; omega
                    have pu := put_s' below X 0 x1 c3 (by decide) (by decide)
                    obtain ⟨S, hS⟩ : ∃ S : Int, (if below then (2147483648 : Int) else 0) = S := ⟨_, rfl⟩
                    rw [hS] at hg pu
                    have PU : Hid _ := pu
                    clear hS pu T
                    go_wp2_with fail
                    go_quiet ((go_at_call 96; exact Calls.quiet_of_same (hg _)))
                    go_wp2_with fail
                    go_ret
                    exact ⟨u64r_eq (by rw [TT.out, ← PU.out]; rfl), _, rfl⟩
                  · have nx : ¬ X < 255 := c3
                    have hmo := rmost_s
                    have hin : ∀ w, Calls Tryz.prog 116 #[.int .i64 1, .bool below] w fun e w' => e = .returned (.int .u64 (sgnd true below 2139095040)) ∧ ∃ n, w' = w.drewN n := rinf_any true below
                    have om : bits BinOp.or IntKind.u64 (if below then 2147483648 else 0) 2139095039 = sgnd true below 2139095039 := or_sign true below 2139095039 (by decide)
                    have GH : Hid _ := T.out.trans (ref_great_s m below La _ (Or.inl ⟨rfl, by omega⟩))
                    clear T
                    obtain ⟨S, hS⟩ : ∃ S : Int, (if below then (2147483648 : Int) else 0) = S := ⟨_, rfl⟩
                    rw [hS] at hg om
                    have OM : Hid _ := om
                    clear hS om
                    obtain ⟨VI, hVI⟩ : ∃ V : Int, sgnd true below 2139095040 = V := ⟨_, rfl⟩
                    rw [hVI] at hin
                    have HVI : Hid _ := hVI
                    clear hVI
                    rcases great_ways m below 2139095039 2139095040 with ⟨g, rfl⟩ | ⟨g, _, rfl, rfl⟩ | ⟨g, _, _, rfl, rfl⟩ | ⟨g, _, rfl, rfl⟩ | ⟨g, _, _, rfl, rfl⟩ | ⟨g, m3, m1, m2⟩
                    all_goals
                      have GV : Hid _ := GH.out
                      rw [g] at GV
                      have G2 : Hid _ := GV
                      clear GV GH g
                      go_wp2_with (first
                        | (go_at_call 96; refine (hg _).mono ?_; rintro r w1 ⟨rfl, hw⟩; rw [hw]; clear hw w1)
                        | (go_at_call 129; refine (hmo _).mono ?_; rintro r w1 ⟨rfl, hw⟩; rw [hw]; clear hw w1)
                        | (go_at_call 116; refine (hin _).mono ?_; rintro r w1 ⟨rfl, nn, hw⟩; rw [hw]; clear hw w1))
                      go_ret
                    · exact ⟨u64r_eq (by rw [G2.out]; exact OM.out), drew_0 w⟩
                    · exact ⟨u64r_eq (by rw [G2.out]; exact OM.out), drew_0 w⟩
                    · exact ⟨u64r_eq (by rw [G2.out]; exact OM.out), drew_0 w⟩
                    · exact ⟨u64r_eq (by rw [G2.out]; exact HVI.out.symm), nn, rfl⟩
                    · exact ⟨u64r_eq (by rw [G2.out]; exact HVI.out.symm), nn, rfl⟩
                    · exact ⟨u64r_eq (by rw [G2.out]; exact HVI.out.symm), nn, rfl⟩
                · have c1' : (y == 16777216) = false := by simp; omega
                  obtain ⟨X, hX⟩ : ∃ X : Int, La + 149 + 1 = X := ⟨_, rfl⟩
                  have x1 : 0 ≤ X := by omega
                  by_cases c2 : y < 8388608
                  · have pu := put_s' below 0 y (by omega) (by decide) y0 c2
                    have aw : bits BinOp.and IntKind.u64 y 8388607 = y := by
                      rw [and_bits y.toNat 23 8388607 rfl (by decide) y (by omega) (by omega)]
                      show y % 8388608 = _
                      omega
                    have TT : Hid _ := T.out.trans (ref_sub_s m below La y y0 c2)
                    obtain ⟨S, hS⟩ : ∃ S : Int, (if below then (2147483648 : Int) else 0) = S := ⟨_, rfl⟩
                    rw [hS] at hg pu
                    have PU : Hid _ := pu
                    clear hS pu T
                    go_wp2_with fail
                    go_quiet ((go_at_call 96; exact Calls.quiet_of_same (hg _)))
                    go_wp2_with fail
                    go_ret
                    exact ⟨u64r_eq (by rw [TT.out, ← PU.out]; rfl), _, rfl⟩
                  · by_cases c3 : X < 255
                    · have TT : Hid _ := T.out.trans (ref_norm_s m below La y X hX.symm c1 c2 y1 c3)
                      have wx : IntKind.u64.wrap (X * 8388608) = X * 8388608 := by rw [IntKind.wrap_u64]; omega
                      have pu := put_s' below X (y - 8388608) x1 c3 (by omega) (by omega)
                      have aw : bits BinOp.and IntKind.u64 y 8388607 = y - 8388608 := by
                        rw [and_bits y.toNat 23 8388607 rfl (by decide) y (by omega) (by omega)]
                        show y % 8388608 = _
                        omega
                      obtain ⟨S, hS⟩ : ∃ S : Int, (if below then (2147483648 : Int) else 0) = S := ⟨_, rfl⟩
                      rw [hS] at hg pu
                      have PU : Hid _ := pu
                      clear hS pu T
                      go_wp2_with fail
                      go_quiet ((go_at_call 96; exact Calls.quiet_of_same (hg _)))
                      go_wp2_with fail
                      go_ret
                      exact ⟨u64r_eq (by rw [TT.out, ← PU.out]), _, rfl⟩
                    · have nx : ¬ X < 255 := c3
                      have hmo := rmost_s
                      have hin : ∀ w, Calls Tryz.prog 116 #[.int .i64 1, .bool below] w fun e w' => e = .returned (.int .u64 (sgnd true below 2139095040)) ∧ ∃ n, w' = w.drewN n := rinf_any true below
                      have om : bits BinOp.or IntKind.u64 (if below then 2147483648 else 0) 2139095039 = sgnd true below 2139095039 := or_sign true below 2139095039 (by decide)
                      have GH : Hid _ := T.out.trans (ref_great_s m below La _ (Or.inr ⟨c1, by omega, by omega⟩))
                      clear T
                      obtain ⟨S, hS⟩ : ∃ S : Int, (if below then (2147483648 : Int) else 0) = S := ⟨_, rfl⟩
                      rw [hS] at hg om
                      have OM : Hid _ := om
                      clear hS om
                      obtain ⟨VI, hVI⟩ : ∃ V : Int, sgnd true below 2139095040 = V := ⟨_, rfl⟩
                      rw [hVI] at hin
                      have HVI : Hid _ := hVI
                      clear hVI
                      rcases great_ways m below 2139095039 2139095040 with ⟨g, rfl⟩ | ⟨g, _, rfl, rfl⟩ | ⟨g, _, _, rfl, rfl⟩ | ⟨g, _, rfl, rfl⟩ | ⟨g, _, _, rfl, rfl⟩ | ⟨g, m3, m1, m2⟩
                      all_goals
                        have GV : Hid _ := GH.out
                        rw [g] at GV
                        have G2 : Hid _ := GV
                        clear GV GH g
                        go_wp2_with (first
                          | (go_at_call 96; refine (hg _).mono ?_; rintro r w1 ⟨rfl, hw⟩; rw [hw]; clear hw w1)
                          | (go_at_call 129; refine (hmo _).mono ?_; rintro r w1 ⟨rfl, hw⟩; rw [hw]; clear hw w1)
                          | (go_at_call 116; refine (hin _).mono ?_; rintro r w1 ⟨rfl, nn, hw⟩; rw [hw]; clear hw w1))
                        go_ret
                      · exact ⟨u64r_eq (by rw [G2.out]; exact OM.out), drew_0 w⟩
                      · exact ⟨u64r_eq (by rw [G2.out]; exact OM.out), drew_0 w⟩
                      · exact ⟨u64r_eq (by rw [G2.out]; exact OM.out), drew_0 w⟩
                      · exact ⟨u64r_eq (by rw [G2.out]; exact HVI.out.symm), nn, rfl⟩
                      · exact ⟨u64r_eq (by rw [G2.out]; exact HVI.out.symm), nn, rfl⟩
                      · exact ⟨u64r_eq (by rw [G2.out]; exact HVI.out.symm), nn, rfl⟩
      · have hi0 : (i0 : Int) + 1 ≤ N := by omega
        have cj : w.cell? ⟨b, i0, none⟩ = some (.bool (A.testBit i0)) := row i0 (by omega)
        have t1 : (0 : Int) ≤ (i0 : Int) := by omega
        by_cases hge : La ≤ e + (i0 : Int)
        · obtain ⟨t, ht⟩ : ∃ t : Nat, e + (i0 : Int) - La = (t : Int) := ⟨(e + (i0 : Int) - La).toNat, by omega⟩
          have t64 : t < 64 := by omega
          have qw := wrap_pow t t64
          cases tb : A.testBit i0
          · have Z := q_no (A := A) (i := i0) (k := La - e) (t := t) (by omega) t64 HQ.out tb
            rw [tb] at cj
            clear tb row
            go_wp2
            go_round
            case rel => exact ⟨i0, by omega, rfl, by rcases i0 with _ | i1; exact Or.inl ⟨rfl, by go_num⟩; exact Or.inr ⟨i1, rfl, by go_num⟩⟩
            case measure => simp [intOf]
          · have Z := q_yes (A := A) (i := i0) (k := La - e) (t := t) (by omega) t64 HQ.out tb
            rw [tb] at cj
            clear tb row
            go_wp2
            go_round
            case rel => exact ⟨i0, by omega, rfl, by rcases i0 with _ | i1; exact Or.inl ⟨rfl, by go_num⟩; exact Or.inr ⟨i1, rfl, by go_num⟩⟩
            case measure => simp [intOf]
        · have Z : Hid _ := qTo_no A (La - e) i0 (by omega)
          have hge' : e + (i0 : Int) < La := by omega
          cases tb : A.testBit i0
          · rw [tb] at cj
            clear tb row
            go_wp2
            go_round
            case rel => exact ⟨i0, by omega, by rw [Z.out], by rcases i0 with _ | i1; exact Or.inl ⟨rfl, by go_num⟩; exact Or.inr ⟨i1, rfl, by go_num⟩⟩
            case measure => simp [intOf]
          · rw [tb] at cj
            clear tb row
            go_wp2
            go_round
            case rel => exact ⟨i0, by omega, by rw [Z.out], by rcases i0 with _ | i1; exact Or.inl ⟨rfl, by go_num⟩; exact Or.inr ⟨i1, rfl, by go_num⟩⟩
            case measure => simp [intOf]
end Go.Proofs.YteafnkimcidkhaaGreat
namespace Go.Proofs.YteafnkimcidkhaaGreat
open Go.RowKit
set_option linter.unusedVariables false
set_option linter.unusedSimpArgs false
set_option maxRecDepth 20000 in
theorem rounded_zero (s : Bool) (m : Int) (below : Bool) (v : Value) (e : Int) (w : World) (hl : Calls Tryz.prog 128 #[v] w fun e w' => e = .returned (.int .i64 0) ∧ w' = w) :
    Calls Tryz.prog 93 #[.int .i64 (fb s), .int .i64 m, .bool below, v, .int .i64 e] w fun r w' => r = .returned (.int .u64 (sgnd s below 0)) ∧ ∃ k, w' = w.drewN k := by
  have hg := rsign_any s below
  have e00 : (if below then fS s else 0) = sgnd s below 0 := by unfold sgnd; cases below <;> simp
  have e0 : Hid _ := e00
  clear e00
  generalize sgnd s below 0 = V at *
  generalize (if below then fS s else 0) = S at *
  cases s
  · have hs := rsize_d
    have hg' : ∀ w, Calls Tryz.prog 96 #[.int .i64 0, .bool below] w fun e w' => e = .returned (.int .u64 S) ∧ w' = w := hg
    clear hg
    show Calls Tryz.prog 93 #[.int .i64 0, .int .i64 m, .bool below, v, .int .i64 e] w _
    go_enter Tryz.func93, Tryz.ntmps93
    go_wp2_with (first
      | (go_at_call 126; refine (hs _).mono ?_; rintro r w1 ⟨rfl, hw⟩; rw [hw]; clear hw w1)
      | (go_at_call 128; refine hl.mono ?_; rintro r w1 ⟨rfl, hw⟩; rw [hw]; clear hw w1)
      | (go_at_call 96; refine (hg' _).mono ?_; rintro r w1 ⟨rfl, hw⟩; rw [hw]; clear hw w1))
    go_ret
    exact ⟨u64r_eq e0.out, drew_0 w⟩
  · have hs := rsize_s
    have hg' : ∀ w, Calls Tryz.prog 96 #[.int .i64 1, .bool below] w fun e w' => e = .returned (.int .u64 S) ∧ w' = w := hg
    clear hg
    show Calls Tryz.prog 93 #[.int .i64 1, .int .i64 m, .bool below, v, .int .i64 e] w _
    go_enter Tryz.func93, Tryz.ntmps93
    go_wp2_with (first
      | (go_at_call 126; refine (hs _).mono ?_; rintro r w1 ⟨rfl, hw⟩; rw [hw]; clear hw w1)
      | (go_at_call 128; refine hl.mono ?_; rintro r w1 ⟨rfl, hw⟩; rw [hw]; clear hw w1)
      | (go_at_call 96; refine (hg' _).mono ?_; rintro r w1 ⟨rfl, hw⟩; rw [hw]; clear hw w1))
    go_ret
    exact ⟨u64r_eq e0.out, drew_0 w⟩
theorem rounded_any (s : Bool) (m : Int) (below : Bool) (v : Value) (n A : Nat) (hn : n ≤ 100000) (e : Int) (he1 : -100000 ≤ e) (he2 : e ≤ 100000) (w : World) (h : BitV w v n A) :
    Calls Tryz.prog 93 #[.int .i64 (fb s), .int .i64 m, .bool below, v, .int .i64 e] w fun r w' => r = .returned (.int .u64 (rnd s m below A e)) ∧ ∃ k, w' = w.drewN k := by
  obtain ⟨hA, h⟩ := h
  by_cases A0 : A = 0
  · subst A0
    rw [rnd_zero]
    rcases h with ⟨rfl, rfl⟩ | ⟨b, cap, rfl, hb, row⟩
    · exact rounded_zero s m below _ e w (length_nil w)
    · refine rounded_zero s m below _ e w ?_
      have := length_any b n cap 0 hA (by omega) w row
      rw [blen_zero] at this
      exact this
  · rcases h with ⟨rfl, rfl⟩ | ⟨b, cap, rfl, hb, row⟩
    · exfalso
      rw [Nat.pow_zero] at hA
      omega
    · cases s
      · exact rounded_d m below b n cap A hA hn e he1 he2 w row A0
      · exact rounded_s m below b n cap A hA hn e he1 he2 w row A0
/-! ### Rows of bits that the call itself makes -/
theorem Bl_get (n A i : Nat) (h : i < n) : (Bl n A)[i]? = some (.bool (A.testBit i)) := by simp [Bl, h]
theorem Bl_snoc (n A : Nat) : Bl n A ++ [.bool (A.testBit n)] = Bl (n + 1) A := by simp [Bl, List.range_succ]
theorem Tryz.infoB : (Tryz.prog.info? 4).map (fun i => (i.zero, i.size, i.bytes)) = some (some (.bool false), 1, 1) := by kernel_rfl
theorem own_bits {w : World} {base n A : Nat} {v : Value} (h : w.ownsRow base 4 1 v n (Bl n A)) (hA : A < 2 ^ n) : BitV w v n A := by
  refine ⟨hA, ?_⟩
  obtain ⟨h1, h2⟩ := id h
  rcases h2 with ⟨rfl, rfl⟩ | ⟨g, cap, cur, rfl, _, hg, _⟩
  · exact Or.inl ⟨rfl, rfl⟩
  · refine Or.inr ⟨g, cap, rfl, ?_, ?_⟩
    · exact lt_of_block hg
    · intro i hi
      rw [h.cellAt i (by omega), Bl_get _ _ _ hi]
theorem own_block {w : World} {base n size : Nat} {e : TypeId} {v : Value} {xs : List Value} (h : w.ownsRow base e size v n xs) : ∀ k, v.ownBlock = some k → base ≤ k := by
  obtain ⟨_, h⟩ := h
  rcases h with ⟨rfl, _⟩ | ⟨g, cap, cur, rfl, hg, _⟩
  · intro k hk; simp [Value.ownBlock] at hk
  · intro k hk; simp [Value.ownBlock] at hk; omega
end Go.Proofs.YteafnkimcidkhaaGreat
namespace Go.Proofs.YteafnkimcidkhaaGreat
open Go.RowKit
set_option linter.unusedVariables false

theorem bitN (A k : Nat) : A.testBit k = decide (A / 2 ^ k % 2 = 1) := Nat.testBit_eq_decide_div_mod_eq
end Go.Proofs.YteafnkimcidkhaaGreat
namespace Go.Proofs.YteafnkimcidkhaaGreat
open Go.RowKit
set_option linter.unusedVariables false

/-! ### Differences -/
end Go.Proofs.YteafnkimcidkhaaGreat
namespace Go.Proofs.YteafnkimcidkhaaGreat
open Go.RowKit
set_option linter.unusedVariables false

/-! ### Up -/
/-! ### Down -/
end Go.Proofs.YteafnkimcidkhaaGreat
namespace Go.Proofs.YteafnkimcidkhaaGreat
open Go.RowKit
set_option linter.unusedVariables false

end Go.Proofs.YteafnkimcidkhaaGreat
namespace Go.Proofs.YteafnkimcidkhaaGreat
open Go.RowKit
set_option linter.unusedVariables false
set_option linter.unusedSimpArgs false
end Go.Proofs.YteafnkimcidkhaaGreat
namespace Go.Proofs.YteafnkimcidkhaaGreat
open Go.RowKit
set_option linter.unusedVariables false

/-! ### The number of bits -/
structure LenTo (A k n : Nat) : Prop where
  le : n ≤ k
  lt : A % 2 ^ k < 2 ^ n
  ge : A % 2 ^ k = 0 ∨ 2 ^ n ≤ 2 * (A % 2 ^ k)
  zero : A % 2 ^ k = 0 → n = 0
theorem LenTo.no {A k n : Nat} (h : LenTo A k n) (hb : A.testBit k = false) : LenTo A (k + 1) n := by
  rw [bitN, decide_eq_false_iff_not] at hb
  have e : A % 2 ^ (k + 1) = A % 2 ^ k := by
    rw [Nat.mod_pow_succ]
    have : A / 2 ^ k % 2 = 0 := by omega
    rw [this]; omega
  exact ⟨by have := h.le; omega, by rw [e]; exact h.lt, by rw [e]; exact h.ge, by rw [e]; exact h.zero⟩
/-! ### Which one is greater -/
end Go.Proofs.YteafnkimcidkhaaGreat


namespace Go.Proofs.YteafnkimcidkhaaGreat
open Go.RowKit
set_option linter.unusedVariables false

end Go.Proofs.YteafnkimcidkhaaGreat
namespace Go.Proofs.YteafnkimcidkhaaGreat
open Go.RowKit
set_option linter.unusedVariables false

end Go.Proofs.YteafnkimcidkhaaGreat
namespace Go.Proofs.YteafnkimcidkhaaGreat
open Go.RowKit
set_option linter.unusedVariables false
set_option linter.unusedSimpArgs false
end Go.Proofs.YteafnkimcidkhaaGreat
namespace Go.Proofs.YteafnkimcidkhaaGreat
open Go.RowKit
set_option linter.unusedVariables false
set_option linter.unusedSimpArgs false
end Go.Proofs.YteafnkimcidkhaaGreat
namespace Go.Proofs.YteafnkimcidkhaaGreat
open Go.RowKit
set_option linter.unusedVariables false
set_option linter.unusedSimpArgs false
end Go.Proofs.YteafnkimcidkhaaGreat
namespace Go.Proofs.YteafnkimcidkhaaGreat
open Go.RowKit
set_option linter.unusedVariables false
set_option linter.unusedSimpArgs false
/-! ### Two rows as numbers -/
/-! ### Differences -/
/-! ### Sums -/
end Go.Proofs.YteafnkimcidkhaaGreat
namespace Go.Proofs.YteafnkimcidkhaaGreat
open Go.RowKit
set_option linter.unusedVariables false
set_option linter.unusedSimpArgs false
end Go.Proofs.YteafnkimcidkhaaGreat
namespace Go.Proofs.YteafnkimcidkhaaGreat
open Go.RowKit
set_option linter.unusedVariables false
set_option linter.unusedSimpArgs false
end Go.Proofs.YteafnkimcidkhaaGreat
namespace Go.Proofs.YteafnkimcidkhaaGreat
open Go.RowKit
set_option linter.unusedVariables false
set_option linter.unusedSimpArgs false
set_option maxHeartbeats 1600000 in
theorem rplain3_any (s : Bool) (a : Int) (h : Word a) (w : World) : Calls Tryz.prog 83 #[.int .i64 (fb s), .int .u64 a] w fun e w' => e = .returned (.int .u64 (plainF s a)) ∧ ∃ n, w' = w.drewN n := by
  have hcl := rclass_any s a h
  have hnan := rnan_any s
  have K := kindsP (cls s a)
  unfold plainF
  generalize hN : (cls s a == 0 || cls s a == 5) = N1 at *
  generalize hI : (cls s a == 1) = I1 at *
  generalize cls s a = k at *
  generalize fNan s = Q at *
  generalize fb s = f at *
  clear hN hI
  rcases K with ⟨rfl, rfl, rfl⟩ | ⟨rfl, rfl, rfl⟩ | ⟨rfl, rfl, rfl⟩ | ⟨rfl, rfl, k0, k5, k1⟩
  · go_enter Tryz.func83, Tryz.ntmps83
    go_wp2_with (first
      | (go_at_call 85; refine (hcl _).mono ?_; rintro e w1 ⟨rfl, n1, rfl⟩)
      | (go_at_call 89; refine (hnan _).mono ?_; rintro e w1 ⟨rfl, rfl⟩)
      | fail)
    go_ret
    exact ⟨rfl, n1 + 1, rfl⟩
  · go_enter Tryz.func83, Tryz.ntmps83
    go_wp2_with (first
      | (go_at_call 85; refine (hcl _).mono ?_; rintro e w1 ⟨rfl, n1, rfl⟩)
      | (go_at_call 89; refine (hnan _).mono ?_; rintro e w1 ⟨rfl, rfl⟩)
      | fail)
    go_ret
    exact ⟨rfl, n1 + 1, rfl⟩
  · go_enter Tryz.func83, Tryz.ntmps83
    go_wp2_with (first
      | (go_at_call 85; refine (hcl _).mono ?_; rintro e w1 ⟨rfl, n1, rfl⟩)
      | fail)
    go_ret
    exact ⟨rfl, n1, rfl⟩
  · go_enter Tryz.func83, Tryz.ntmps83
    go_wp2_with (first
      | (go_at_call 85; refine (hcl _).mono ?_; rintro e w1 ⟨rfl, n1, rfl⟩)
      | fail)
    go_ret
    exact ⟨rfl, n1, rfl⟩
end Go.Proofs.YteafnkimcidkhaaGreat


namespace Go.Proofs.YteafnkimcidkhaaGreat
open Go.RowKit
set_option linter.unusedVariables false
set_option linter.unusedSimpArgs false
theorem sp_dNr {w W : World} (h : Below w.heap.size w W) (n : Nat) : Below w.heap.size w (W.drewN n) := ⟨h.os, h.tape, h.output, h.size, h.block⟩
theorem sp_drewr {w W : World} (h : Below w.heap.size w W) : Below w.heap.size w W.drew := ⟨h.os, h.tape, h.output, h.size, h.block⟩
def lessF (s : Bool) (a b : Int) : Bool := (cmpF s a b).2 && decide ((cmpF s a b).1 < 0)
set_option maxRecDepth 100000 in
set_option maxHeartbeats 3200000 in
theorem rless_any (s : Bool) (a b : Int) (h1 : Word a) (h2 : Word b) (w : World) : Calls Tryz.prog 82 #[.int .i64 (fb s), .int .u64 a, .int .u64 b] w fun e w' => e = .returned (.bool (lessF s a b)) ∧ ∃ n, w' = w.drewN n := by
  have hc := rcompare_any s a b h1 h2
  unfold lessF
  generalize cmpF s a b = c at *
  generalize fb s = f at *
  obtain ⟨c1, c2⟩ := c
  dsimp only at *
  cases c2
  · go_enter Tryz.func82, Tryz.ntmps82
    go_wp2_with (go_at_call 119; refine (hc _).mono ?_; rintro e w1 ⟨rfl, n, rfl⟩)
    go_ret
    exact ⟨rfl, n, rfl⟩
  · by_cases q : c1 < 0
    · rw [decide_eq_true q]
      go_enter Tryz.func82, Tryz.ntmps82
      go_wp2_with (go_at_call 119; refine (hc _).mono ?_; rintro e w1 ⟨rfl, n, rfl⟩)
      go_ret
      exact ⟨rfl, n, rfl⟩
    · rw [decide_eq_false q]
      have q' : decide (c1 < 0) = false := decide_eq_false q
      clear q
      go_enter Tryz.func82, Tryz.ntmps82
      go_wp2_with (go_at_call 119; refine (hc _).mono ?_; rintro e w1 ⟨rfl, n, rfl⟩)
      go_ret
      exact ⟨rfl, n, rfl⟩
def rRF (s : Bool) (e : Bool) (a b : Int) : Bool := if e then (a == 0 && b == 0) else finF s a && (finF s b && ((plainF s a == a) && ((plainF s b == b) && !lessF s b a)))
set_option maxRecDepth 100000 in
set_option maxHeartbeats 3200000 in
theorem rrightF_any (s : Bool) (e : Bool) (a b : Int) (h1 : Word a) (h2 : Word b) (w : World) : Calls Tryz.prog 47 #[.int .i64 (fb s), .agg #[.bool e, .int .u64 a, .int .u64 b]] w fun r w' => r = .returned (.bool (rRF s e a b)) ∧ Below w.heap.size w w' := by
  have f1 := rfinite_any s a h1
  have f2 := rfinite_any s b h2
  have p1 := rplain3_any s a h1
  have p2 := rplain3_any s b h2
  have l1 := rless_any s b a h2 h1
  unfold rRF
  generalize finF s a = F1 at *
  generalize finF s b = F2 at *
  generalize plainF s a = P1 at *
  generalize plainF s b = P2 at *
  generalize lessF s b a = L1 at *
  generalize fb s = f at *
  cases e
  · simp only [Bool.false_eq_true, if_false]
    cases F1
    · skip
      go_enter Tryz.func47, Tryz.ntmps47
      go_upto_region 3 with fail
      go_quiet ((first
        | (go_at_call_of 44 a; exact Calls.quiet_of (f1 _))
        | (go_at_call_of 44 b; exact Calls.quiet_of (f2 _))
        | (go_at_call 82; exact Calls.quiet_of (l1 _))
        | (go_at_call_of 83 a; exact Calls.quiet_of (p1 _))
        | (go_at_call_of 83 b; exact Calls.quiet_of (p2 _))
        | fail))
      go_wp2
      go_ret
      exact ⟨by simp [*], by (repeat (first | with_reducible exact Below.refl _ _ | with_reducible refine sp_dNr ?_ _ | with_reducible refine sp_new ?_ _ | with_reducible refine sp_drewr ?_))⟩
    · skip
      cases F2
      · skip
        go_enter Tryz.func47, Tryz.ntmps47
        go_upto_region 3 with fail
        go_quiet ((first
          | (go_at_call_of 44 a; exact Calls.quiet_of (f1 _))
          | (go_at_call_of 44 b; exact Calls.quiet_of (f2 _))
          | (go_at_call 82; exact Calls.quiet_of (l1 _))
          | (go_at_call_of 83 a; exact Calls.quiet_of (p1 _))
          | (go_at_call_of 83 b; exact Calls.quiet_of (p2 _))
          | fail))
        go_wp2
        go_ret
        exact ⟨by simp [*], by (repeat (first | with_reducible exact Below.refl _ _ | with_reducible refine sp_dNr ?_ _ | with_reducible refine sp_new ?_ _ | with_reducible refine sp_drewr ?_))⟩
      · skip
        rcases hq1 : (P1 == a) with _ | _
        · skip
          go_enter Tryz.func47, Tryz.ntmps47
          go_upto_region 3 with fail
          go_quiet ((first
            | (go_at_call_of 44 a; exact Calls.quiet_of (f1 _))
            | (go_at_call_of 44 b; exact Calls.quiet_of (f2 _))
            | (go_at_call 82; exact Calls.quiet_of (l1 _))
            | (go_at_call_of 83 a; exact Calls.quiet_of (p1 _))
            | (go_at_call_of 83 b; exact Calls.quiet_of (p2 _))
            | fail))
          go_wp2
          go_ret
          exact ⟨by simp [*], by (repeat (first | with_reducible exact Below.refl _ _ | with_reducible refine sp_dNr ?_ _ | with_reducible refine sp_new ?_ _ | with_reducible refine sp_drewr ?_))⟩
        · skip
          rcases hq2 : (P2 == b) with _ | _
          · skip
            go_enter Tryz.func47, Tryz.ntmps47
            go_upto_region 3 with fail
            go_quiet ((first
              | (go_at_call_of 44 a; exact Calls.quiet_of (f1 _))
              | (go_at_call_of 44 b; exact Calls.quiet_of (f2 _))
              | (go_at_call 82; exact Calls.quiet_of (l1 _))
              | (go_at_call_of 83 a; exact Calls.quiet_of (p1 _))
              | (go_at_call_of 83 b; exact Calls.quiet_of (p2 _))
              | fail))
            go_wp2
            go_ret
            exact ⟨by simp [*], by (repeat (first | with_reducible exact Below.refl _ _ | with_reducible refine sp_dNr ?_ _ | with_reducible refine sp_new ?_ _ | with_reducible refine sp_drewr ?_))⟩
          · skip
            cases L1
            · skip
              go_enter Tryz.func47, Tryz.ntmps47
              go_upto_region 3 with fail
              go_quiet ((first
                | (go_at_call_of 44 a; exact Calls.quiet_of (f1 _))
                | (go_at_call_of 44 b; exact Calls.quiet_of (f2 _))
                | (go_at_call 82; exact Calls.quiet_of (l1 _))
                | (go_at_call_of 83 a; exact Calls.quiet_of (p1 _))
                | (go_at_call_of 83 b; exact Calls.quiet_of (p2 _))
                | fail))
              go_wp2
              go_ret
              exact ⟨by simp [*], by (repeat (first | with_reducible exact Below.refl _ _ | with_reducible refine sp_dNr ?_ _ | with_reducible refine sp_new ?_ _ | with_reducible refine sp_drewr ?_))⟩
            · skip
              go_enter Tryz.func47, Tryz.ntmps47
              go_upto_region 3 with fail
              go_quiet ((first
                | (go_at_call_of 44 a; exact Calls.quiet_of (f1 _))
                | (go_at_call_of 44 b; exact Calls.quiet_of (f2 _))
                | (go_at_call 82; exact Calls.quiet_of (l1 _))
                | (go_at_call_of 83 a; exact Calls.quiet_of (p1 _))
                | (go_at_call_of 83 b; exact Calls.quiet_of (p2 _))
                | fail))
              go_wp2
              go_ret
              exact ⟨by simp [*], by (repeat (first | with_reducible exact Below.refl _ _ | with_reducible refine sp_dNr ?_ _ | with_reducible refine sp_new ?_ _ | with_reducible refine sp_drewr ?_))⟩
  · simp only [if_true]
    rcases hq1 : (a == 0) with _ | _
    · go_enter Tryz.func47, Tryz.ntmps47
      go_wp2_with fail
      go_ret
      exact ⟨by simp [*], sp_new (Below.refl _ _) _⟩
    · rcases hq2 : (b == 0) with _ | _
      all_goals
        go_enter Tryz.func47, Tryz.ntmps47
        go_wp2_with fail
        go_ret
        exact ⟨by simp [*], sp_new (Below.refl _ _) _⟩
end Go.Proofs.YteafnkimcidkhaaGreat


namespace Go.Proofs.YteafnkimcidkhaaGreat
open Go.RowKit
set_option linter.unusedVariables false
set_option linter.unusedSimpArgs false
theorem sp_set1r {w W : World} (h : Below w.heap.size w W) {b j : Nat} (hb : w.heap.size ≤ b) (x : Value) : Below w.heap.size w (W.setCell ⟨b, j, none⟩ x) := h.setCell (p := ⟨b, j, none⟩) hb x
set_option maxRecDepth 100000 in
set_option maxHeartbeats 6400000 in
theorem rnoneF (w : World) : Calls Tryz.prog 55 #[] w fun e w' => e = .returned (.agg #[.bool true, .int .u64 0, .int .u64 0]) ∧ w' = w.alloc (.cells #[.bool true, .int .u64 0, .int .u64 0] 24) := by
  go_enter Tryz.func55, Tryz.ntmps55
  go_wp2_with fail
  exact bodyPost_ret (v := .agg #[.bool true, .int .u64 0, .int .u64 0]) (by simp [results, Tryz.results55, go_sem]) rfl ⟨rfl, rfl⟩
end Go.Proofs.YteafnkimcidkhaaGreat


namespace Go.Proofs.YteafnkimcidkhaaGreat
open Go.RowKit
set_option linter.unusedVariables false
set_option linter.unusedSimpArgs false
def rOfF (s : Bool) (x y : Int) : Bool × Int × Int := if rRF s false (plainF s x) (plainF s y) then (false, plainF s x, plainF s y) else (true, 0, 0)
theorem bcellr {W w1 : World} (hb : Below W.heap.size W w1) : (∀ b o, b < W.heap.size → w1.cell? ⟨b, o, none⟩ = W.cell? ⟨b, o, none⟩) ∧ (∀ b o, b < W.heap.size → w1.frozen? ⟨b, o, none⟩ = W.frozen? ⟨b, o, none⟩) :=
  ⟨fun b o h => hb.cell (p := ⟨b, o, none⟩) h, fun b o h => hb.frozen (p := ⟨b, o, none⟩) h⟩
theorem sp_callr {w W w1 : World} (h : Below w.heap.size w W) (hb : Below W.heap.size W w1) : Below w.heap.size w w1 := h.trans (hb.mono h.size)
set_option maxRecDepth 100000 in
set_option maxHeartbeats 6400000 in
theorem rofF_any (s : Bool) (x y : Int) (h1 : Word x) (h2 : Word y) (w : World) : Calls Tryz.prog 42 #[.int .i64 (fb s), .int .u64 x, .int .u64 y] w fun e w' => e = .returned (.agg #[.bool (rOfF s x y).1, .int .u64 (rOfF s x y).2.1, .int .u64 (rOfF s x y).2.2]) ∧ Below w.heap.size w w' := by
  have hda : ∀ (w : World) (n : Nat) (o : Obj), (w.drewN n).alloc o = (w.alloc o).drewN n := fun _ _ _ => rfl
  have hds : ∀ (w : World) (n : Nat) (p : Addr) (v : Value), (w.drewN n).setCell p v = (w.setCell p v).drewN n := fun _ _ _ _ => rfl
  have nb : ∀ V, Calls Tryz.prog 55 #[] V fun e w' => e = .returned (.agg #[.bool true, .int .u64 0, .int .u64 0]) ∧ Below V.heap.size V w' := fun V => (rnoneF V).mono fun e w' h => ⟨h.1, by rw [h.2]; exact sp_new (Below.refl _ _) _⟩
  have p1 := rplain3_any s x h1
  have p2 := rplain3_any s y h2
  have hr := rrightF_any s false (plainF s x) (plainF s y) (n_plainw s x h1) (n_plainw s y h2)
  unfold rOfF
  generalize rRF s false (plainF s x) (plainF s y) = R at *
  generalize plainF s x = X at *
  generalize plainF s y = Y at *
  generalize fb s = f at *
  cases R
  · simp only [Bool.false_eq_true, if_false]
    go_enter Tryz.func42, Tryz.ntmps42
    go_wp2_with (first
      | (go_at_call 83; refine (p1 _).mono ?_; rintro e w1 ⟨rfl, n1, rfl⟩; clear p1)
      | (go_at_call 83; refine (p2 _).mono ?_; rintro e w2 ⟨rfl, n2, rfl⟩; clear p2)
      | (go_at_call 47; refine (hr _).mono ?_; rintro e w3 ⟨rfl, g⟩; obtain ⟨hc, hf⟩ := bcellr g; have r0 : w3.cell? ⟨w.heap.size, 0, none⟩ = some (.bool false) := (hc _ _ (by simp; omega)).trans (by simp [go_sem]); have r1 : w3.cell? ⟨w.heap.size, 1, none⟩ = some (.int .u64 0) := (hc _ _ (by simp; omega)).trans (by simp [go_sem]); have r2 : w3.cell? ⟨w.heap.size, 2, none⟩ = some (.int .u64 0) := (hc _ _ (by simp; omega)).trans (by simp [go_sem]); have t0 : w3.cell? ⟨w.heap.size + 1, 0, none⟩ = some (.bool false) := (hc _ _ (by simp)).trans (by simp [go_sem]); have t1 : w3.cell? ⟨w.heap.size + 1, 1, none⟩ = some (.int .u64 X) := (hc _ _ (by simp)).trans (by simp [go_sem]); have t2 : w3.cell? ⟨w.heap.size + 1, 2, none⟩ = some (.int .u64 Y) := (hc _ _ (by simp)).trans (by simp [go_sem]); have fz : ∀ j, w3.frozen? ⟨w.heap.size, j, none⟩ = false := fun j => (hf _ _ (by simp; omega)).trans (by simp [go_sem]); have zg : w.heap.size + 1 < w3.heap.size := (by have := g.size; simp at this; omega); have zh : w.heap.size < w3.heap.size := (by omega); have b1 := sp_callr (show Below w.heap.size w _ by (repeat (first | with_reducible exact Below.refl _ _ | with_reducible assumption | with_reducible refine sp_dNr ?_ _ | with_reducible refine sp_new ?_ _ | with_reducible refine sp_drewr ?_ | with_reducible refine sp_set1r ?_ (by omega) _))) g; clear hc hf g)
      | (go_at_call 55; refine (nb _).mono ?_; rintro e w9 ⟨rfl, g⟩; replace fz := fun j => (g.frozen (p := ⟨w.heap.size, j, none⟩) zh).trans (fz j); replace r0 := sO g r0; replace r1 := sO g r1; replace r2 := sO g r2; replace b1 := sp_call b1 g; clear g)
      | fail)
    exact bodyPost_ret (v := .agg #[.bool true, .int .u64 0, .int .u64 0]) (by simp [results, Tryz.results42, go_sem, r0, r1, r2]) rfl ⟨by simp, by (repeat (first | with_reducible exact Below.refl _ _ | with_reducible assumption | with_reducible refine sp_dNr ?_ _ | with_reducible refine sp_new ?_ _ | with_reducible refine sp_drewr ?_ | with_reducible refine sp_set1r ?_ (by omega) _))⟩
  · simp only [if_true]
    go_enter Tryz.func42, Tryz.ntmps42
    go_wp2_with (first
      | (go_at_call 83; refine (p1 _).mono ?_; rintro e w1 ⟨rfl, n1, rfl⟩; clear p1)
      | (go_at_call 83; refine (p2 _).mono ?_; rintro e w2 ⟨rfl, n2, rfl⟩; clear p2)
      | (go_at_call 47; refine (hr _).mono ?_; rintro e w3 ⟨rfl, g⟩; obtain ⟨hc, hf⟩ := bcellr g; have r0 : w3.cell? ⟨w.heap.size, 0, none⟩ = some (.bool false) := (hc _ _ (by simp; omega)).trans (by simp [go_sem]); have r1 : w3.cell? ⟨w.heap.size, 1, none⟩ = some (.int .u64 0) := (hc _ _ (by simp; omega)).trans (by simp [go_sem]); have r2 : w3.cell? ⟨w.heap.size, 2, none⟩ = some (.int .u64 0) := (hc _ _ (by simp; omega)).trans (by simp [go_sem]); have t0 : w3.cell? ⟨w.heap.size + 1, 0, none⟩ = some (.bool false) := (hc _ _ (by simp)).trans (by simp [go_sem]); have t1 : w3.cell? ⟨w.heap.size + 1, 1, none⟩ = some (.int .u64 X) := (hc _ _ (by simp)).trans (by simp [go_sem]); have t2 : w3.cell? ⟨w.heap.size + 1, 2, none⟩ = some (.int .u64 Y) := (hc _ _ (by simp)).trans (by simp [go_sem]); have fz : ∀ j, w3.frozen? ⟨w.heap.size, j, none⟩ = false := fun j => (hf _ _ (by simp; omega)).trans (by simp [go_sem]); have zg : w.heap.size + 1 < w3.heap.size := (by have := g.size; simp at this; omega); have zh : w.heap.size < w3.heap.size := (by omega); have b1 := sp_callr (show Below w.heap.size w _ by (repeat (first | with_reducible exact Below.refl _ _ | with_reducible assumption | with_reducible refine sp_dNr ?_ _ | with_reducible refine sp_new ?_ _ | with_reducible refine sp_drewr ?_ | with_reducible refine sp_set1r ?_ (by omega) _))) g; clear hc hf g)
      | fail)
    exact bodyPost_ret (v := .agg #[.bool false, .int .u64 X, .int .u64 Y]) (by simp [results, Tryz.results42, go_sem, r0, r1, r2]) rfl ⟨by simp, by (repeat (first | with_reducible exact Below.refl _ _ | with_reducible assumption | with_reducible refine sp_dNr ?_ _ | with_reducible refine sp_new ?_ _ | with_reducible refine sp_drewr ?_ | with_reducible refine sp_set1r ?_ (by omega) _))⟩
end Go.Proofs.YteafnkimcidkhaaGreat


namespace Go.Proofs.YteafnkimcidkhaaGreat
set_option linter.unusedVariables false
set_option linter.unusedSimpArgs false
theorem lessN {s : Bool} {a b : Int} (h1 : Num s a) (h2 : Num s b) : lessF s a b = decide (rnk s a < rnk s b) := by
  unfold lessF cmpF
  rw [h1, h2]
  simp only [Bool.or_self, Bool.false_eq_true, if_false, Bool.true_and]
  rw [decide_eq_decide]
  split
  · simp [*]
  · split <;> omega
theorem num_fin {s : Bool} {a : Int} (h : finF s a = true) : Num s a := (n_num h).1
theorem right_same (s : Bool) (e : Bool) (a b : Int) : rightP (WyF s) (e, a, b) = rRF s e a b := by
  unfold rightP rRF
  cases e
  · simp only [Bool.false_eq_true, if_false]
    rw [one_iff, one_iff]
    cases fa : finF s a
    · simp
    · cases fb : finF s b
      · simp
      · rw [ordN (num_fin fa) (num_fin fb), lessN (num_fin fb) (num_fin fa)]
        have k : decide (cmpI (rnk s a) (rnk s b) ≤ 0) = !decide (rnk s b < rnk s a) := by
          unfold cmpI
          rw [Bool.eq_iff_iff]
          simp
          split <;> (try split) <;> omega
        rw [k]
        cases (plainF s a == a) <;> cases (plainF s b == b) <;> simp
  · rfl
theorem of_same (s : Bool) (x y : Int) : ofP (WyF s) x y = rOfF s x y := by
  unfold ofP rOfF
  rw [right_same]
  rfl
end Go.Proofs.YteafnkimcidkhaaGreat


namespace Go.Proofs.YteafnkimcidkhaaGreat
open Go.RowKit
set_option linter.unusedVariables false
set_option linter.unusedSimpArgs false
theorem trnP_mk {a b : Int} (a1 : -fI false < a) (ab : a ≤ b) (b1 : b < fI false) : trnP (false, mk false a, mk false b) = (false, mk false (-b), mk false (-a)) := by
  unfold trnP
  rw [neg_mk (by omega) (by omega), neg_mk (by omega) (by omega)]
theorem trnP_right {x : Bool × Int × Int} (hx : wdR x) (nx : liN x = true) : liN (trnP x) = true := by
  obtain ⟨a, b, a1, ab, b1, rfl⟩ := right_is hx nx
  rw [trnP_mk a1 ab b1]
  exact mk_right (by omega) (by omega) (by omega)
end Go.Proofs.YteafnkimcidkhaaGreat


namespace Go.Proofs.YteafnkimcidkhaaGreat
open Go.RowKit
set_option linter.unusedVariables false
set_option linter.unusedSimpArgs false
set_option maxHeartbeats 1600000 in
theorem rbits3_any (X : Nat) (hX : X < 18446744073709551616) (w : World) :
    Calls Tryz.prog 125 #[.int .u64 (X : Int)] w fun e w' => ∃ v, e = .returned v ∧ w'.ownsRow w.heap.size 4 1 v (blen X) (Bl (blen X) X) ∧ Below w.heap.size w w' := by
  obtain ⟨i0, hi, hz0, hz1, hz2⟩ := info_parts Tryz.infoB
  go_enter Tryz.func125, Tryz.ntmps125
  go_wp2
  go_loopw [0, 3] (fun x v wr => ∃ k : Nat, k ≤ 64 ∧ x = .int .u64 ((X / 2 ^ k : Nat) : Int) ∧ wr.ownsRow w.heap.size 4 1 v k (Bl k X) ∧ (k = 0 ∨ X / 2 ^ (k - 1) ≠ 0) ∧ Below w.heap.size w wr) (fun x _ _ => (intOf x).toNat)
  case atStart => exact ⟨0, by omega, by simp, World.ownsRow_nil _ _ _ _, Or.inl rfl, Below.refl _ _⟩
  case round =>
    obtain ⟨k, hk, rfl, hown, hpos, hb⟩ := hrel
    have hlt : X / 2 ^ k < 18446744073709551616 := Nat.lt_of_le_of_lt (Nat.div_le_self _ _) hX
    by_cases z : X / 2 ^ k = 0
    · have e : blen X = k := by
        rcases hpos with rfl | hp
        · rw [Nat.pow_zero, Nat.div_one] at z
          subst z
          exact blen_zero
        · have k1 : 1 ≤ k := by
            rcases Nat.eq_zero_or_pos k with rfl | h
            · exact absurd z hp
            · exact h
          refine blen_uniq k1 ?_ ?_
          · by_cases c : 2 ^ (k - 1) ≤ X
            · exact c
            · exact absurd (Nat.div_eq_of_lt (by omega)) hp
          · exact Nat.lt_of_div_eq_zero (Nat.two_pow_pos k) z
      have E : Hid _ := e
      rw [z]
      clear e z hpos hlt
      go_wp2
      go_ret
      exact ⟨_, rfl, by rw [E.out]; exact hown, hb⟩
    · have kl : k < 64 := by
        by_cases c : k < 64
        · exact c
        · exfalso
          apply z
          exact Nat.div_eq_of_lt (Nat.lt_of_lt_of_le hX (by rw [show (18446744073709551616 : Nat) = 2 ^ 64 from rfl]; exact Nat.pow_le_pow_right (by decide) (by omega)))
      have zp : (0 : Int) < ((X / 2 ^ k : Nat) : Int) := Int.natCast_pos.2 (Nat.pos_of_ne_zero z)
      have zp' : ((X / 2 ^ k : Nat) : Int) < 18446744073709551616 := Int.ofNat_lt.2 hlt
      have q1 : (((X / 2 ^ k : Nat) : Int) % 2 == 1) = X.testBit k := by
        rw [Nat.testBit_eq_decide_div_mod_eq, Bool.eq_iff_iff, beq_iff_eq, decide_eq_true_iff]
        generalize X / 2 ^ k = d
        omega
      have q2 : Hid (((X / 2 ^ k : Nat) : Int) / 2 = ((X / 2 ^ (k + 1) : Nat) : Int)) := by
        rw [Nat.pow_succ, ← Nat.div_div_eq_div_mul]; rfl
      have Z : Hid _ := z
      clear z hlt
      generalize hD : ((X / 2 ^ k : Nat) : Int) = D at *
      have HD : Hid _ := hD
      clear hD
      go_wp2_with (first
        | (at_builtin; refine wpList_append_own _ rfl _ _ 116 rfl w.heap.size 4 i0 (.bool false) 1 1 Tryz.underlying116 hi hz0 hz1 hz2 rfl (by decide) _ _ _ rfl (hown.alloc _) ⟨wr.heap.size, 0, none⟩ 1 1 [.bool (X.testBit k)] rfl rfl ?c1 ?c2 ?c3 ?c4 ?c5 ?_)
        | go_in)
      case c1 =>
        intro j u hj
        match j, hj with
        | 0, hj => simp at hj; subst hj; simp [Addr.add]
      case c2 => intro u hu; simp at hu; subst hu; rfl
      case c3 => unfold maxLen; omega
      case c4 => omega
      case c5 => have := hb.size; simp; omega
      · intro v' w1 hown' hgrow _
        rw [Bl_snoc] at hown'
        have hb' := (hb.alloc hb.size _).grown hgrow (by have := hb.size; simp; omega) (own_block hown)
        clear hgrow hown
        go_wp2
        go_roundw
        case rel => exact ⟨k + 1, by omega, by rw [← q2.out], hown', Or.inr (by simpa using Z.out), hb'⟩
        case measure => simp [intOf]; omega
end Go.Proofs.YteafnkimcidkhaaGreat


namespace Go.Proofs.YteafnkimcidkhaaGreat
open Go.RowKit
set_option linter.unusedVariables false
set_option linter.unusedSimpArgs false
theorem bl_of_res {v r : Int} (h : Res false v r) (h1 : -fI false < r) (h2 : r < fI false) : rOfF false v v = (false, mk false r, mk false r) := by
  rw [← of_same]
  unfold ofP
  rw [show (WyF false).pl v = mk false r from h.pl]
  exact if_pos (liN_R (mk_right h1 (Int.le_refl _) h2)).1
end Go.Proofs.YteafnkimcidkhaaGreat


namespace Go.Proofs.YteafnkimcidkhaaGreat
open Go.RowKit Go.Shelf
set_option linter.unusedVariables false
set_option linter.unusedSimpArgs false
theorem fi_neg (n : Int) : fi (-n) = -fi n := by
  unfold fi
  have z : zI 0 = 0 := rfl
  by_cases h : n = 0
  · subst h; simp [z]
  · by_cases c : n < 0
    · rw [if_pos c, if_neg (by omega), Int.natAbs_neg]; omega
    · rw [if_neg c, if_pos (by omega), Int.natAbs_neg]
theorem trnP_pt {a : Int} (ha : Sm a) : trnP (pt a) = pt (-a) := by
  have a1 := fi_bd ha
  unfold pt
  rw [trnP_mk a1.1 (Int.le_refl _) a1.2, fi_neg]
theorem of_pi {n : Int} (h : Sm n) : rOfF false (FF n) (FF n) = pt n := by
  have b := fi_bd h
  have r := made_res false (decide (n < 0)) (zI n.natAbs) (by omega) (Int.le_of_lt (zI_lt h.lt))
  rw [sgn_fi h] at r
  have e : (if decide (n < 0) = true then -((zI n.natAbs : Nat) : Int) else (zI n.natAbs : Nat)) = fi n := by
    unfold fi
    by_cases c : n < 0
    · rw [if_pos c, if_pos (decide_eq_true c)]
    · rw [if_neg c, if_neg (by simpa using c)]
  rw [e] at r
  rw [FF_fi h]
  exact bl_of_res r b.1 b.2
end Go.Proofs.YteafnkimcidkhaaGreat


namespace Go.Proofs.YteafnkimcidkhaaGreat
open Go.RowKit Go.Shelf
set_option linter.unusedVariables false
set_option linter.unusedSimpArgs false
theorem neg_z {B n : Nat} {F : Zf} (hF : OkZ B n F) (hB : B < 9007199254740992) (hn : n ≤ 16) : ∃ Z, negP (ofZ F) = ofZ Z ∧ OkZ B n Z ∧ ∀ at', vlZ at' Z = -vlZ at' F := by
  have hz := okz_c (c := 0) (B := 0) (by decide) (by decide)
  obtain ⟨e, ok⟩ := lin_pt (BY := fun x _ => (trnP x, true)) (g := fun y _ => -y) (C := B) hF hz hB (by decide) hB (by omega) (fun a b ha hb na nb h => trnP_right ha na) (fun y z hy _ => ⟨by show (trnP (pt y), true) = _; rw [trnP_pt (show y.natAbs < _ by omega)], by show (-y).natAbs ≤ B; omega⟩)
  refine ⟨_, e, ok, fun at' => ?_⟩
  rw [lin_val (α := -1) (β := 0) (fun y z => by show -y = -1 * y + 0 * z; omega) at' hF hz]
  omega
theorem sub_z {B B' n n' : Nat} {F G : Zf} (hF : OkZ B n F) (hG : OkZ B' n' G) (hB : B + B' < 9007199254740992) (hn : n + n' ≤ 16) : ∃ Z, subP (ofZ F) (ofZ G) = ofZ Z ∧ OkZ (B + B') (n + n') Z ∧ ∀ at', vlZ at' Z = vlZ at' F - vlZ at' G := by
  obtain ⟨Z, e, ok, hv⟩ := neg_z hG (by omega) (by omega)
  obtain ⟨Y, e2, ok2, hv2⟩ := add_z hF ok hB hn
  refine ⟨Y, by unfold subP; rw [e]; exact e2, ok2, fun at' => ?_⟩
  rw [hv2, hv]; omega
end Go.Proofs.YteafnkimcidkhaaGreat


namespace Go.Proofs.YteafnkimcidkhaaGreat
open Go.RowKit
set_option linter.unusedVariables false
set_option linter.unusedSimpArgs false
set_option maxHeartbeats 1600000 in
theorem rfrom3_any (s : Bool) (m n : Int) (h1 : -9223372036854775808 ≤ n) (h2 : n ≤ 9223372036854775807) (w : World) :
    Calls Tryz.prog 84 #[.int .i64 (fb s), .int .i64 m, .int .i64 n] w fun e w' => e = .returned (.int .u64 (rnd s m (decide (n < 0)) n.natAbs 0)) ∧ Below w.heap.size w w' := by
  obtain ⟨X, hX⟩ : ∃ X : Nat, n.natAbs = X := ⟨_, rfl⟩
  have hX1 : X < 18446744073709551616 := by omega
  rw [hX]
  have lX : blen X ≤ 64 := blen_le_of (by rw [show (2 : Nat) ^ 64 = 18446744073709551616 from rfl]; exact hX1)
  have hb : ∀ w : World, Calls Tryz.prog 125 #[.int .u64 (X : Int)] w fun e w' => ∃ v, e = .returned v ∧ BitV w' v (blen X) X ∧ Below w.heap.size w w' := fun w => (rbits3_any X hX1 w).mono fun e w' ⟨v, h1, h2, h3⟩ => ⟨v, h1, own_bits h2 (lt_blen X), h3⟩
  have hR := fun (v : Value) (w : World) (hb : BitV w v (blen X) X) => rounded_any s m (decide (n < 0)) v (blen X) X (by omega) 0 (by decide) (by decide) w hb
  generalize rnd s m (decide (n < 0)) X 0 = V at *
  generalize fb s = ft at *
  generalize blen X = nX at *
  by_cases c : n < 0
  · have e1 : IntKind.u64.wrap n = n + 18446744073709551616 := by rw [IntKind.wrap_u64]; omega
    have e2 : IntKind.u64.wrap (-(n + 18446744073709551616)) = (X : Int) := by rw [IntKind.wrap_u64]; omega
    rw [decide_eq_true c] at hR
    clear hX hX1
    go_enter Tryz.func84, Tryz.ntmps84
    go_wp2_with (first
      | (go_at_call 125; refine (hb _).mono ?_; rintro e w2 ⟨v, rfl, bv, L2⟩)
      | (go_at_call 93; refine (hR v _ bv).mono ?_; rintro e w3 ⟨rfl, k3, rfl⟩)
      | fail)
    go_ret
    exact ⟨rfl, below_dN L2 _⟩
  · have c' : 0 ≤ n := by omega
    have e1 : IntKind.u64.wrap n = (X : Int) := by rw [IntKind.wrap_u64]; omega
    rw [decide_eq_false c] at hR
    clear hX hX1
    go_enter Tryz.func84, Tryz.ntmps84
    go_wp2_with (first
      | (go_at_call 125; refine (hb _).mono ?_; rintro e w2 ⟨v, rfl, bv, L2⟩)
      | (go_at_call 93; refine (hR v _ bv).mono ?_; rintro e w3 ⟨rfl, k3, rfl⟩)
      | fail)
    go_ret
    exact ⟨rfl, below_dN L2 _⟩
end Go.Proofs.YteafnkimcidkhaaGreat


