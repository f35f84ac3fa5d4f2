/- Texts of the proof, put together. -/
import Derived.Test.YteafnkimcidkhaaGreatRXPLinearForms
import Derived.Test.YteafnkimcidkhaaGreatRX1PLinearForms
import Derived.Test.YteafnkimcidkhaaGreatRG1
import Derived.Test.YteafnkimcidkhaaGreatRG2
import Derived.Test.YteafnkimcidkhaaGreatRSpWf
import Derived.Test.YteafnkimcidkhaaGreatShelf
import Derived.Test.YteafnkimcidkhaaGreatRMB1
import Derived.Test.YteafnkimcidkhaaGreatRMB2
import Derived.Test.YteafnkimcidkhaaGreatRMB3
import Derived.Test.YteafnkimcidkhaaGreatRSpF
import Derived.Test.YteafnkimcidkhaaGreatRSpFl
import Derived.Test.YteafnkimcidkhaaGreatRLjF
import Derived.Test.YteafnkimcidkhaaGreatRLjH
import Derived.Test.YteafnkimcidkhaaGreatRG3
import Derived.Test.YteafnkimcidkhaaGreatRLiF
import Derived.Test.YteafnkimcidkhaaGreatRLiG
import Derived.Test.YteafnkimcidkhaaGreatRLiH
import Derived.Test.YteafnkimcidkhaaGreatRLiI
import Derived.Test.YteafnkimcidkhaaGreatRLiJ
import Derived.Test.YteafnkimcidkhaaGreatRLiK
import Derived.Test.YteafnkimcidkhaaGreatRLiL
import Derived.Test.YteafnkimcidkhaaGreatRLiB
import Derived.Test.YteafnkimcidkhaaGreatRMB4
import Derived.Test.YteafnkimcidkhaaGreatRMB5
import Derived.Test.YteafnkimcidkhaaGreatRLiO
import Derived.Test.YteafnkimcidkhaaGreatRG5
import Derived.Test.YteafnkimcidkhaaGreatRG4
import Derived.Test.YteafnkimcidkhaaGreatRG6
import Derived.Test.YteafnkimcidkhaaGreatRG7
import Derived.Test.YteafnkimcidkhaaGreatRG8
import Derived.Test.YteafnkimcidkhaaGreatRG9
import Derived.Deep.DeepCutAuto
import Derived.RowKit
import Derived.Laws.Bits64
import Derived.Laws.Bits64b
import Derived.Lib.Mul64
import Derived.Lib.BitFns
import Derived.WalkKit
import Derived.WalkSpells
import Derived.StillTactics
import Derived.Laws.Pointers
import Derived.Laws.Externs
import Derived.Deep.RegionHeld3
import Derived.Below
import Derived.Shelf.Spec.BitsCarry
import Derived.BigQuiet
import Derived.Deep.QuietTactic
import Derived.ScopeJumps
import Derived.Deep.CutBlock
import Derived.Laws.BitsAllLaws
import Derived.Laws.EntriesVeiled
import Derived.Shelf.Abstract
import Derived.Deep.Draws
import Derived.Maps.AppendAt
import Derived.ProofKit
import Derived.OpenShut
import Derived.ChangeOld
import Derived.Lib.SmallJoins
import Derived.Deep.Strs
namespace Go.Proofs.YteafnkimcidkhaaGreat
open Go.RowKit
set_option linter.unusedVariables false
set_option linter.unusedSimpArgs false
set_option maxRecDepth 100000 in
theorem eq_fr (b : Bool) (c d : Int) (f : Bool) (g h : Int) (w : World) : (binOp .eql 24 (.agg #[.bool b, .int .u64 c, .int .u64 d]) (.agg #[.bool f, .int .u64 g, .int .u64 h])).run Tryz.prog w = .ok (.bool (decide ((b, c, d) = (f, g, h)))) w := by
  by_cases h2 : b = f
  · by_cases h3 : c = g
    · by_cases h4 : d = h
      · subst h2; subst h3; subst h4; simp [go_sem]
      · simp [go_sem, h2, h3, h4]
    · simp [go_sem, h2, h3]
  · simp [go_sem, h2]
set_option maxRecDepth 100000 in
theorem neq_fr (b : Bool) (c d : Int) (f : Bool) (g h : Int) (w : World) : (binOp .neq 24 (.agg #[.bool b, .int .u64 c, .int .u64 d]) (.agg #[.bool f, .int .u64 g, .int .u64 h])).run Tryz.prog w = .ok (.bool (!decide ((b, c, d) = (f, g, h)))) w := by
  by_cases h2 : b = f
  · by_cases h3 : c = g
    · by_cases h4 : d = h
      · subst h2; subst h3; subst h4; simp [go_sem]
      · simp [go_sem, h2, h3, h4]
    · simp [go_sem, h2, h3]
  · simp [go_sem, h2]
set_option maxRecDepth 100000 in
theorem neq_rterm (a : Int) (b : Bool) (c d e : Int) (f : Bool) (g h : Int) (w : World) : (binOp .neq 100 (.agg #[.int .i64 a, .bool b, .int .u64 c, .int .u64 d]) (.agg #[.int .i64 e, .bool f, .int .u64 g, .int .u64 h])).run Tryz.prog w = .ok (.bool (!decide ((a, b, c, d) = (e, f, g, h)))) w := by
  by_cases h1 : a = e
  · by_cases h2 : b = f
    · by_cases h3 : c = g
      · by_cases h4 : d = h
        · subst h1; subst h2; subst h3; subst h4; simp [go_sem]
        · simp [go_sem, h1, h2, h3, h4]
      · simp [go_sem, h1, h2, h3]
    · simp [go_sem, h1, h2]
  · simp [go_sem, h1]
set_option maxRecDepth 100000 in
set_option maxHeartbeats 6400000 in
theorem lisameG (wa ae : Bool) (al ah : Int) (wb be : Bool) (bl bh : Int) (pa pb : Option Addr) (na ca nb cb : Nat) (qa qb q : Bool) (ok : World → Prop) (hok : ∀ W V, ok W → Below W.heap.size W V → ok V)
    (k1 : ∀ V, ok V → Calls Tryz.prog 24 #[.agg #[.bool wa, .bool ae, .int .u64 al, .int .u64 ah, .slice pa na ca]] V fun e w' => e = .returned (.bool qa) ∧ Below V.heap.size V w') (k2 : ∀ V, ok V → Calls Tryz.prog 24 #[.agg #[.bool wb, .bool be, .int .u64 bl, .int .u64 bh, .slice pb nb cb]] V fun e w' => e = .returned (.bool qb) ∧ Below V.heap.size V w')
    (k3 : ∀ V, ok V → Calls Tryz.prog 66 #[.slice pa na ca, .slice pb nb cb] V fun e w' => e = .returned (.bool q) ∧ Below V.heap.size V w') (w : World) (h0 : ok w) :
    Calls Tryz.prog 27 #[.agg #[.bool wa, .bool ae, .int .u64 al, .int .u64 ah, .slice pa na ca], .agg #[.bool wb, .bool be, .int .u64 bl, .int .u64 bh, .slice pb nb cb]] w fun e w' => e = .returned (.bool (qa && (qb && (decide (wa = wb) && (decide ((ae, al, ah) = (be, bl, bh)) && q))))) ∧ Below w.heap.size w w' := by
  have hq := eq_fr ae al ah be bl bh
  generalize decide ((ae, al, ah) = (be, bl, bh)) = dc at *
  go_enter Tryz.func27, Tryz.ntmps27
  go_upto_region 1 with fail
  obtain ⟨W, hW⟩ : ∃ W, ((w.alloc (.cells #[.bool wa, .bool ae, .int .u64 al, .int .u64 ah, .slice pa na ca] 31)).alloc (.cells #[.bool wb, .bool be, .int .u64 bl, .int .u64 bh, .slice pb nb cb] 31)) = W := ⟨_, rfl⟩
  have a0 : W.cell? ⟨w.heap.size, 0, none⟩ = some (.bool wa) := by rw [← hW]; simp [go_sem]
  have a1 : W.cell? ⟨w.heap.size, 1, none⟩ = some (.bool ae) := by rw [← hW]; simp [go_sem]
  have a2 : W.cell? ⟨w.heap.size, 2, none⟩ = some (.int .u64 al) := by rw [← hW]; simp [go_sem]
  have a3 : W.cell? ⟨w.heap.size, 3, none⟩ = some (.int .u64 ah) := by rw [← hW]; simp [go_sem]
  have a4 : W.cell? ⟨w.heap.size, 4, none⟩ = some (.slice pa na ca) := by rw [← hW]; simp [go_sem]
  have b0 : W.cell? ⟨w.heap.size + 1, 0, none⟩ = some (.bool wb) := by rw [← hW]; simp [go_sem]
  have b1 : W.cell? ⟨w.heap.size + 1, 1, none⟩ = some (.bool be) := by rw [← hW]; simp [go_sem]
  have b2 : W.cell? ⟨w.heap.size + 1, 2, none⟩ = some (.int .u64 bl) := by rw [← hW]; simp [go_sem]
  have b3 : W.cell? ⟨w.heap.size + 1, 3, none⟩ = some (.int .u64 bh) := by rw [← hW]; simp [go_sem]
  have b4 : W.cell? ⟨w.heap.size + 1, 4, none⟩ = some (.slice pb nb cb) := by rw [← hW]; simp [go_sem]
  have bW : Below w.heap.size w W := by rw [← hW]; exact (sp_new (sp_new (Below.refl _ _) _) _)
  rw [hW]
  clear hW
  have oW := hok _ _ h0 bW
  cases qa
  case false =>
    go_wp2_with (first | (go_at_call 24; (with_reducible refine (k1 _ oW).mono ?_); rintro e v1 ⟨rfl, g⟩; replace oW := hok _ _ oW g; replace bW := sp_call bW g; replace a0 := sO g a0; replace a1 := sO g a1; replace a2 := sO g a2; replace a3 := sO g a3; replace a4 := sO g a4; replace b0 := sO g b0; replace b1 := sO g b1; replace b2 := sO g b2; replace b3 := sO g b3; replace b4 := sO g b4; clear g) | fail)
    go_ret
    exact ⟨by simp, bW⟩
  case true =>
  cases qb
  case false =>
    go_wp2_with (first | (go_at_call 24; (with_reducible refine (k1 _ oW).mono ?_); rintro e v1 ⟨rfl, g⟩; replace oW := hok _ _ oW g; replace bW := sp_call bW g; replace a0 := sO g a0; replace a1 := sO g a1; replace a2 := sO g a2; replace a3 := sO g a3; replace a4 := sO g a4; replace b0 := sO g b0; replace b1 := sO g b1; replace b2 := sO g b2; replace b3 := sO g b3; replace b4 := sO g b4; clear g; clear k1) | (go_at_call 24; (with_reducible refine (k2 _ oW).mono ?_); rintro e v2 ⟨rfl, g⟩; replace oW := hok _ _ oW g; replace bW := sp_call bW g; replace a0 := sO g a0; replace a1 := sO g a1; replace a2 := sO g a2; replace a3 := sO g a3; replace a4 := sO g a4; replace b0 := sO g b0; replace b1 := sO g b1; replace b2 := sO g b2; replace b3 := sO g b3; replace b4 := sO g b4; clear g; clear k2) | fail)
    go_ret
    exact ⟨by simp, bW⟩
  case true =>
  cases wa <;> cases wb
  case false.true | true.false =>
    go_wp2_with (first | (go_at_call 24; (with_reducible refine (k1 _ oW).mono ?_); rintro e v1 ⟨rfl, g⟩; replace oW := hok _ _ oW g; replace bW := sp_call bW g; replace a0 := sO g a0; replace a1 := sO g a1; replace a2 := sO g a2; replace a3 := sO g a3; replace a4 := sO g a4; replace b0 := sO g b0; replace b1 := sO g b1; replace b2 := sO g b2; replace b3 := sO g b3; replace b4 := sO g b4; clear g; clear k1) | (go_at_call 24; (with_reducible refine (k2 _ oW).mono ?_); rintro e v2 ⟨rfl, g⟩; replace oW := hok _ _ oW g; replace bW := sp_call bW g; replace a0 := sO g a0; replace a1 := sO g a1; replace a2 := sO g a2; replace a3 := sO g a3; replace a4 := sO g a4; replace b0 := sO g b0; replace b1 := sO g b1; replace b2 := sO g b2; replace b3 := sO g b3; replace b4 := sO g b4; clear g; clear k2) | fail)
    go_ret
    exact ⟨by simp, bW⟩
  all_goals
    cases dc
    case false =>
      go_wp2_with (first | (go_at_call 24; (with_reducible refine (k1 _ oW).mono ?_); rintro e v1 ⟨rfl, g⟩; replace oW := hok _ _ oW g; replace bW := sp_call bW g; replace a0 := sO g a0; replace a1 := sO g a1; replace a2 := sO g a2; replace a3 := sO g a3; replace a4 := sO g a4; replace b0 := sO g b0; replace b1 := sO g b1; replace b2 := sO g b2; replace b3 := sO g b3; replace b4 := sO g b4; clear g; clear k1) | (go_at_call 24; (with_reducible refine (k2 _ oW).mono ?_); rintro e v2 ⟨rfl, g⟩; replace oW := hok _ _ oW g; replace bW := sp_call bW g; replace a0 := sO g a0; replace a1 := sO g a1; replace a2 := sO g a2; replace a3 := sO g a3; replace a4 := sO g a4; replace b0 := sO g b0; replace b1 := sO g b1; replace b2 := sO g b2; replace b3 := sO g b3; replace b4 := sO g b4; clear g; clear k2) | fail)
      go_ret
      exact ⟨by simp, bW⟩
    case true =>
      go_wp2_with (first | (go_at_call 24; (with_reducible refine (k1 _ oW).mono ?_); rintro e v1 ⟨rfl, g⟩; replace oW := hok _ _ oW g; replace bW := sp_call bW g; replace a0 := sO g a0; replace a1 := sO g a1; replace a2 := sO g a2; replace a3 := sO g a3; replace a4 := sO g a4; replace b0 := sO g b0; replace b1 := sO g b1; replace b2 := sO g b2; replace b3 := sO g b3; replace b4 := sO g b4; clear g; clear k1) | (go_at_call 24; (with_reducible refine (k2 _ oW).mono ?_); rintro e v2 ⟨rfl, g⟩; replace oW := hok _ _ oW g; replace bW := sp_call bW g; replace a0 := sO g a0; replace a1 := sO g a1; replace a2 := sO g a2; replace a3 := sO g a3; replace a4 := sO g a4; replace b0 := sO g b0; replace b1 := sO g b1; replace b2 := sO g b2; replace b3 := sO g b3; replace b4 := sO g b4; clear g; clear k2) | (go_at_call 66; (with_reducible refine (k3 _ oW).mono ?_); rintro e v3 ⟨rfl, g⟩; replace oW := hok _ _ oW g; replace bW := sp_call bW g; replace a0 := sO g a0; replace a1 := sO g a1; replace a2 := sO g a2; replace a3 := sO g a3; replace a4 := sO g a4; replace b0 := sO g b0; replace b1 := sO g b1; replace b2 := sO g b2; replace b3 := sO g b3; replace b4 := sO g b4; clear g) | fail)
      go_ret
      exact ⟨by simp, bW⟩
def samF (A B : Frm) : Bool := frR A && (frR B && decide (A = B))
theorem samF_is (A B : Frm) : (frR A && (frR B && (decide (A.1 = B.1) && (decide ((A.2.1.1, A.2.1.2.1, A.2.1.2.2) = (B.2.1.1, B.2.1.2.1, B.2.1.2.2)) && decide (A.2.2 = B.2.2))))) = samF A B := by
  obtain ⟨a, ⟨b, c, d⟩, l⟩ := A
  obtain ⟨a', ⟨b', c', d'⟩, l'⟩ := B
  unfold samF
  congr 2
  rw [Bool.eq_iff_iff]
  simp [and_assoc]
theorem form_same (A B : Frm) (hA : fOk A) (hB : fOk B) (va vb : Value) (w : World) (ta : TAt w va A.2.2) (tb : TAt w vb B.2.2) :
    Calls Tryz.prog 27 #[.agg #[.bool A.1, .bool A.2.1.1, .int .u64 A.2.1.2.1, .int .u64 A.2.1.2.2, va], .agg #[.bool B.1, .bool B.2.1.1, .int .u64 B.2.1.2.1, .int .u64 B.2.1.2.2, vb]] w fun e w' => e = .returned (.bool (samF A B)) ∧ Below w.heap.size w w' := by
  obtain ⟨pa, ca, rfl⟩ := ta.len
  obtain ⟨pb, cb, rfl⟩ := tb.len
  have h := lisameG A.1 A.2.1.1 A.2.1.2.1 A.2.1.2.2 B.1 B.2.1.1 B.2.1.2.1 B.2.1.2.2 pa pb A.2.2.length ca B.2.2.length cb (frR A) (frR B) (decide (A.2.2 = B.2.2)) (fun V => TAt V (.slice pa A.2.2.length ca) A.2.2 ∧ TAt V (.slice pb B.2.2.length cb) B.2.2) (fun W V h g => ⟨h.1.on g, h.2.on g⟩)
    (fun V h => form_right A hA _ V h.1) (fun V h => form_right B hB _ V h.2) (fun V h => lieq _ _ (Nat.le_trans hA.2.2 (by omega)) (Nat.le_trans hB.2.2 (by omega)) _ _ V h.1 h.2) w ⟨ta, tb⟩
  rw [samF_is] at h
  exact h
set_option maxRecDepth 100000 in
set_option maxHeartbeats 6400000 in
theorem rright_wh (x1 : Bool) (x2 x3 : Int) (pa : Option Addr) (len ca : Nat) (w : World) :
    Calls Tryz.prog 25 #[.agg #[.bool true, .bool x1, .int .u64 x2, .int .u64 x3, .slice pa len ca]] w fun e w' => e = .returned (.bool (decide ((x1, x2, x3) = (false, 0, 0)) && decide (len = 0))) ∧ Below w.heap.size w w' := by
  have hq := eq_fr x1 x2 x3 false 0 0
  generalize decide ((x1, x2, x3) = (false, 0, 0)) = dc at *
  have bW : Below w.heap.size w (w.alloc (.cells #[.bool true, .bool x1, .int .u64 x2, .int .u64 x3, .slice pa len ca] 38)) := sp_new (Below.refl _ _) _
  cases dc
  · go_enter Tryz.func25, Tryz.ntmps25
    go_wp2_with fail
    go_ret
    exact ⟨by simp, bW⟩
  · by_cases h : len = 0
    · subst h
      go_enter Tryz.func25, Tryz.ntmps25
      go_wp2_with fail
      go_ret
      exact ⟨by simp, bW⟩
    · have h' : ¬ (len : Int) = 0 := by omega
      go_enter Tryz.func25, Tryz.ntmps25
      go_wp2_with fail
      go_ret
      exact ⟨by simp [h], bW⟩
set_option maxRecDepth 100000 in
set_option maxHeartbeats 6400000 in
theorem rright_no (x1 : Bool) (x2 x3 : Int) (wc : wdR (x1, x2, x3)) (pa : Option Addr) (len ca : Nat) (h : (liN (x1, x2, x3) && decide (len ≤ 16)) = false) (w : World) :
    Calls Tryz.prog 25 #[.agg #[.bool false, .bool x1, .int .u64 x2, .int .u64 x3, .slice pa len ca]] w fun e w' => e = .returned (.bool false) ∧ Below w.heap.size w w' := by
  have k0 := rright9 (x1, x2, x3) wc
  have bW : Below w.heap.size w (w.alloc (.cells #[.bool false, .bool x1, .int .u64 x2, .int .u64 x3, .slice pa len ca] 38)) := sp_new (Below.refl _ _) _
  cases x1
  case true =>
    go_enter Tryz.func25, Tryz.ntmps25
    go_wp2_with fail
    go_ret
    exact ⟨rfl, bW⟩
  case false =>
  dsimp only at k0
  cases hr : liR (false, x2, x3)
  case false =>
    rw [hr] at k0
    go_enter Tryz.func25, Tryz.ntmps25
    go_wp2_with (first | (go_at_call 47; refine (k0 _).mono ?_; rintro e v0 ⟨rfl, g⟩; replace bW := sp_call bW g; clear g k0) | fail)
    go_ret
    exact ⟨rfl, bW⟩
  case true =>
    rw [hr] at k0
    have hl : ¬ len ≤ 16 := by intro q; simp [liN, hr, q] at h
    have hl' : (16 : Int) < (len : Int) := by omega
    obtain ⟨W, hW⟩ : ∃ W, w.alloc (.cells #[.bool false, .bool false, .int .u64 x2, .int .u64 x3, .slice pa len ca] 38) = W := ⟨_, rfl⟩
    have a0 : W.cell? ⟨w.heap.size, 0, none⟩ = some (.bool false) := by rw [← hW]; simp [go_sem]
    have a1 : W.cell? ⟨w.heap.size, 1, none⟩ = some (.bool false) := by rw [← hW]; simp [go_sem]
    have a2 : W.cell? ⟨w.heap.size, 2, none⟩ = some (.int .u64 x2) := by rw [← hW]; simp [go_sem]
    have a3 : W.cell? ⟨w.heap.size, 3, none⟩ = some (.int .u64 x3) := by rw [← hW]; simp [go_sem]
    have a4 : W.cell? ⟨w.heap.size, 4, none⟩ = some (.slice pa len ca) := by rw [← hW]; simp [go_sem]
    rw [hW] at bW
    go_enter Tryz.func25, Tryz.ntmps25
    go_upto_region 1 with fail
    (try rw [hW])
    clear hW
    go_wp2_with (first | (go_at_call 47; refine (k0 _).mono ?_; rintro e v0 ⟨rfl, g⟩; replace a0 := sO g a0; replace a1 := sO g a1; replace a2 := sO g a2; replace a3 := sO g a3; replace a4 := sO g a4; replace bW := sp_call bW g; clear g k0) | fail)
    go_ret
    exact ⟨rfl, bW⟩
theorem rrightA (A : Frm) (hA : fOk A) (va : Value) (w : World) (ta : TAt w va A.2.2) :
    Calls Tryz.prog 25 #[.agg #[.bool A.1, .bool A.2.1.1, .int .u64 A.2.1.2.1, .int .u64 A.2.1.2.2, va]] w fun e w' => e = .returned (.bool (frR A)) ∧ Below w.heap.size w w' := by
  obtain ⟨x0, ⟨x1, x2, x3⟩, ls⟩ := A
  obtain ⟨wc, hw, hl⟩ := hA
  dsimp only at *
  cases x0
  case true =>
    obtain ⟨pa, ca, rfl⟩ := ta.len
    have h := rright_wh x1 x2 x3 pa ls.length ca w
    have e : frR (true, (x1, x2, x3), ls) = (decide ((x1, x2, x3) = (false, 0, 0)) && decide (ls.length = 0)) := by
      unfold frR fR
      rw [if_pos rfl, Bool.eq_iff_iff]
      simp
    rw [e]
    exact h
  case false =>
    have e : frR (false, (x1, x2, x3), ls) = (liN (x1, x2, x3) && (decide (ls.length ≤ 16) && rT liN liZ (-1) ls)) := by
      unfold frR fR
      rw [if_neg (by simp)]
    rw [e]
    cases h : (liN (x1, x2, x3) && decide (ls.length ≤ 16))
    case false =>
      obtain ⟨pa, ca, rfl⟩ := ta.len
      have e2 : (liN (x1, x2, x3) && (decide (ls.length ≤ 16) && rT liN liZ (-1) ls)) = false := by rw [← Bool.and_assoc, h, Bool.false_and]
      rw [e2]
      exact rright_no x1 x2 x3 wc pa ls.length ca h w
    case true =>
      have h' := h
      simp only [Bool.and_eq_true, decide_eq_true_eq] at h'
      rw [← Bool.and_assoc, h, Bool.true_and]
      exact rright_loop x1 x2 x3 ls h'.2 hw h'.1 wc va w ta
set_option maxRecDepth 100000 in
set_option maxHeartbeats 6400000 in
theorem rsameG (wa ae : Bool) (al ah : Int) (wb be : Bool) (bl bh : Int) (va vb : Value) (az bz : List (Int × Bool × Int × Int)) (lz : az.length ≤ 400) (qa qb : Bool) 
    (k1 : ∀ V, TAt V va az → Calls Tryz.prog 25 #[.agg #[.bool wa, .bool ae, .int .u64 al, .int .u64 ah, va]] V fun e w' => e = .returned (.bool qa) ∧ Below V.heap.size V w') (k2 : ∀ V, TAt V vb bz → Calls Tryz.prog 25 #[.agg #[.bool wb, .bool be, .int .u64 bl, .int .u64 bh, vb]] V fun e w' => e = .returned (.bool qb) ∧ Below V.heap.size V w')
    (w : World) (ta : TAt w va az) (tb : TAt w vb bz) :
    Calls Tryz.prog 28 #[.agg #[.bool wa, .bool ae, .int .u64 al, .int .u64 ah, va], .agg #[.bool wb, .bool be, .int .u64 bl, .int .u64 bh, vb]] w fun e w' => e = .returned (.bool (qa && (qb && (decide (wa = wb) && (decide ((ae, al, ah) = (be, bl, bh)) && decide (az = bz)))))) ∧ Below w.heap.size w w' := by
  have hq := neq_fr ae al ah be bl bh
  generalize decide ((ae, al, ah) = (be, bl, bh)) = dc at *
  obtain ⟨pa, ca, rfl⟩ := ta.len
  obtain ⟨pb, cb, rfl⟩ := tb.len
  obtain ⟨na, hna⟩ : ∃ n, az.length = n := ⟨_, rfl⟩
  obtain ⟨nb, hnb⟩ : ∃ n, bz.length = n := ⟨_, rfl⟩
  rw [hna] at ta k1 lz ⊢
  rw [hnb] at tb k2 ⊢
  obtain ⟨ok, hok'⟩ : ∃ ok : World → Prop, ok = fun V => TAt V (.slice pa na ca) az ∧ TAt V (.slice pb nb cb) bz := ⟨_, rfl⟩
  have hok : ∀ W V, ok W → Below W.heap.size W V → ok V := fun W V h g => by rw [hok'] at h ⊢; exact ⟨h.1.on g, h.2.on g⟩
  have h0 : ok w := by rw [hok']; exact ⟨ta, tb⟩
  replace k1 := fun V (h : ok V) => k1 V (by rw [hok'] at h; exact h.1)
  replace k2 := fun V (h : ok V) => k2 V (by rw [hok'] at h; exact h.2)
  have okT : Hid (∀ V, ok V → TAt V (.slice pa na ca) az ∧ TAt V (.slice pb nb cb) bz) := fun V h => by rw [hok'] at h; exact h
  have hna' : Hid (az.length = na) := hna
  have hnb' : Hid (bz.length = nb) := hnb
  clear hok' ta tb hna hnb
  go_enter Tryz.func28, Tryz.ntmps28
  go_upto_region 1 with fail
  obtain ⟨W, hW⟩ : ∃ W, ((w.alloc (.cells #[.bool wa, .bool ae, .int .u64 al, .int .u64 ah, .slice pa na ca] 38)).alloc (.cells #[.bool wb, .bool be, .int .u64 bl, .int .u64 bh, .slice pb nb cb] 38)) = W := ⟨_, rfl⟩
  have a0 : W.cell? ⟨w.heap.size, 0, none⟩ = some (.bool wa) := by rw [← hW]; simp [go_sem]
  have a1 : W.cell? ⟨w.heap.size, 1, none⟩ = some (.bool ae) := by rw [← hW]; simp [go_sem]
  have a2 : W.cell? ⟨w.heap.size, 2, none⟩ = some (.int .u64 al) := by rw [← hW]; simp [go_sem]
  have a3 : W.cell? ⟨w.heap.size, 3, none⟩ = some (.int .u64 ah) := by rw [← hW]; simp [go_sem]
  have a4 : W.cell? ⟨w.heap.size, 4, none⟩ = some (.slice pa na ca) := by rw [← hW]; simp [go_sem]
  have b0 : W.cell? ⟨w.heap.size + 1, 0, none⟩ = some (.bool wb) := by rw [← hW]; simp [go_sem]
  have b1 : W.cell? ⟨w.heap.size + 1, 1, none⟩ = some (.bool be) := by rw [← hW]; simp [go_sem]
  have b2 : W.cell? ⟨w.heap.size + 1, 2, none⟩ = some (.int .u64 bl) := by rw [← hW]; simp [go_sem]
  have b3 : W.cell? ⟨w.heap.size + 1, 3, none⟩ = some (.int .u64 bh) := by rw [← hW]; simp [go_sem]
  have b4 : W.cell? ⟨w.heap.size + 1, 4, none⟩ = some (.slice pb nb cb) := by rw [← hW]; simp [go_sem]
  have bW : Below w.heap.size w W := by rw [← hW]; exact (sp_new (sp_new (Below.refl _ _) _) _)
  rw [hW]
  clear hW
  have oW := hok _ _ h0 bW
  cases qa
  case false =>
    go_wp2_with (first | (go_at_call 25; (with_reducible refine (k1 _ oW).mono ?_); rintro e v1 ⟨rfl, g⟩; replace oW := hok _ _ oW g; replace bW := sp_call bW g; replace a0 := sO g a0; replace a1 := sO g a1; replace a2 := sO g a2; replace a3 := sO g a3; replace a4 := sO g a4; replace b0 := sO g b0; replace b1 := sO g b1; replace b2 := sO g b2; replace b3 := sO g b3; replace b4 := sO g b4; clear g) | fail)
    go_ret
    exact ⟨by simp, bW⟩
  case true =>
  cases qb
  case false =>
    go_wp2_with (first | (go_at_call 25; (with_reducible refine (k1 _ oW).mono ?_); rintro e v1 ⟨rfl, g⟩; replace oW := hok _ _ oW g; replace bW := sp_call bW g; replace a0 := sO g a0; replace a1 := sO g a1; replace a2 := sO g a2; replace a3 := sO g a3; replace a4 := sO g a4; replace b0 := sO g b0; replace b1 := sO g b1; replace b2 := sO g b2; replace b3 := sO g b3; replace b4 := sO g b4; clear g; clear k1) | (go_at_call 25; (with_reducible refine (k2 _ oW).mono ?_); rintro e v2 ⟨rfl, g⟩; replace oW := hok _ _ oW g; replace bW := sp_call bW g; replace a0 := sO g a0; replace a1 := sO g a1; replace a2 := sO g a2; replace a3 := sO g a3; replace a4 := sO g a4; replace b0 := sO g b0; replace b1 := sO g b1; replace b2 := sO g b2; replace b3 := sO g b3; replace b4 := sO g b4; clear g; clear k2) | fail)
    go_ret
    exact ⟨by simp, bW⟩
  case true =>
  cases wa <;> cases wb
  case false.true | true.false =>
    go_wp2_with (first | (go_at_call 25; (with_reducible refine (k1 _ oW).mono ?_); rintro e v1 ⟨rfl, g⟩; replace oW := hok _ _ oW g; replace bW := sp_call bW g; replace a0 := sO g a0; replace a1 := sO g a1; replace a2 := sO g a2; replace a3 := sO g a3; replace a4 := sO g a4; replace b0 := sO g b0; replace b1 := sO g b1; replace b2 := sO g b2; replace b3 := sO g b3; replace b4 := sO g b4; clear g; clear k1) | (go_at_call 25; (with_reducible refine (k2 _ oW).mono ?_); rintro e v2 ⟨rfl, g⟩; replace oW := hok _ _ oW g; replace bW := sp_call bW g; replace a0 := sO g a0; replace a1 := sO g a1; replace a2 := sO g a2; replace a3 := sO g a3; replace a4 := sO g a4; replace b0 := sO g b0; replace b1 := sO g b1; replace b2 := sO g b2; replace b3 := sO g b3; replace b4 := sO g b4; clear g; clear k2) | fail)
    go_ret
    exact ⟨by simp, bW⟩
  all_goals
    cases dc
    case false =>
      go_wp2_with (first | (go_at_call 25; (with_reducible refine (k1 _ oW).mono ?_); rintro e v1 ⟨rfl, g⟩; replace oW := hok _ _ oW g; replace bW := sp_call bW g; replace a0 := sO g a0; replace a1 := sO g a1; replace a2 := sO g a2; replace a3 := sO g a3; replace a4 := sO g a4; replace b0 := sO g b0; replace b1 := sO g b1; replace b2 := sO g b2; replace b3 := sO g b3; replace b4 := sO g b4; clear g; clear k1) | (go_at_call 25; (with_reducible refine (k2 _ oW).mono ?_); rintro e v2 ⟨rfl, g⟩; replace oW := hok _ _ oW g; replace bW := sp_call bW g; replace a0 := sO g a0; replace a1 := sO g a1; replace a2 := sO g a2; replace a3 := sO g a3; replace a4 := sO g a4; replace b0 := sO g b0; replace b1 := sO g b1; replace b2 := sO g b2; replace b3 := sO g b3; replace b4 := sO g b4; clear g; clear k2) | fail)
      go_ret
      exact ⟨by simp, bW⟩
    case true =>
      by_cases hn : na = nb
      case neg =>
        have hn' : ¬ (na : Int) = (nb : Int) := by omega
        have nz : Hid (az ≠ bz) := fun e => hn (by rw [← hna'.out, ← hnb'.out, e])
        go_wp2_with (first | (go_at_call 25; (with_reducible refine (k1 _ oW).mono ?_); rintro e v1 ⟨rfl, g⟩; replace oW := hok _ _ oW g; replace bW := sp_call bW g; replace a0 := sO g a0; replace a1 := sO g a1; replace a2 := sO g a2; replace a3 := sO g a3; replace a4 := sO g a4; replace b0 := sO g b0; replace b1 := sO g b1; replace b2 := sO g b2; replace b3 := sO g b3; replace b4 := sO g b4; clear g; clear k1) | (go_at_call 25; (with_reducible refine (k2 _ oW).mono ?_); rintro e v2 ⟨rfl, g⟩; replace oW := hok _ _ oW g; replace bW := sp_call bW g; replace a0 := sO g a0; replace a1 := sO g a1; replace a2 := sO g a2; replace a3 := sO g a3; replace a4 := sO g a4; replace b0 := sO g b0; replace b1 := sO g b1; replace b2 := sO g b2; replace b3 := sO g b3; replace b4 := sO g b4; clear g; clear k2) | fail)
        go_ret
        exact ⟨by simp [nz.out], bW⟩
      case pos =>
        subst hn
        go_upto_region 3 with (first | (go_at_call 25; (with_reducible refine (k1 _ oW).mono ?_); rintro e v1 ⟨rfl, g⟩; replace oW := hok _ _ oW g; replace bW := sp_call bW g; replace a0 := sO g a0; replace a1 := sO g a1; replace a2 := sO g a2; replace a3 := sO g a3; replace a4 := sO g a4; replace b0 := sO g b0; replace b1 := sO g b1; replace b2 := sO g b2; replace b3 := sO g b3; replace b4 := sO g b4; clear g; clear k1) | (go_at_call 25; (with_reducible refine (k2 _ oW).mono ?_); rintro e v2 ⟨rfl, g⟩; replace oW := hok _ _ oW g; replace bW := sp_call bW g; replace a0 := sO g a0; replace a1 := sO g a1; replace a2 := sO g a2; replace a3 := sO g a3; replace a4 := sO g a4; replace b0 := sO g b0; replace b1 := sO g b1; replace b2 := sO g b2; replace b3 := sO g b3; replace b4 := sO g b4; clear g; clear k2) | fail)
        obtain ⟨p, hp⟩ : ∃ p, w.heap.size = p := ⟨_, rfl⟩
        rw [hp] at a4 b4
        (try rw [hp])
        clear a0 a1 a2 a3 b0 b1 b2 b3
        have bW' : Hid (Below w.heap.size w v2) := bW
        have oW' : Hid (ok v2) := oW
        have a4' : Hid (v2.cell? ⟨p, 4, none⟩ = some (.slice pa na ca)) := a4
        have b4' : Hid (v2.cell? ⟨p + 1, 4, none⟩ = some (.slice pb na cb)) := b4
        clear bW oW a4 b4
        go_wp2_with fail
        go_loopw [5] (fun i wr => ∃ (V : World) (j : Nat), V = wr ∧ j ≤ na ∧ i = .int .i64 j ∧ Below v2.heap.size v2 wr ∧ Hid (∀ m, m < j → az[m]? = bz[m]?)) (fun i _ => na - (intOf i).toNat)
        case atStart => exact ⟨_, 0, rfl, by omega, rfl, Below.refl _ _, (fun m hm => by omega : ∀ m, m < 0 → az[m]? = bz[m]?)⟩
        case round =>
          obtain ⟨V, j, rfl, hj, rfl, bV, heq⟩ := hrel
          have a4 := sO bV a4'.out
          have b4 := sO bV b4'.out
          have fin : Hid (Below w.heap.size w V) := sp_call bW'.out bV
          by_cases cj : j < na
          case neg =>
            have ej : j = na := by omega
            have same : az = bz := List.ext_getElem? fun m => by
              by_cases hm : m < j
              · exact heq.out m hm
              · rw [List.getElem?_eq_none (by rw [hna'.out]; omega), List.getElem?_eq_none (by rw [hnb'.out]; omega)]
            subst ej
            clear heq
            go_wp2_with fail
            go_ret
            exact ⟨by simp [same], by first | exact fin.out | (rw [← hp]; exact fin.out)⟩
          case pos =>
            have cj' : (j : Int) < (na : Int) := by omega
            have wj : IntKind.i64.wrap ((j : Int) + 1) = ((j + 1 : Nat) : Int) := by rw [IntKind.wrap_i64]; omega
            obtain ⟨s, hs⟩ : ∃ t, az[j]? = some t := ⟨_, List.getElem?_eq_getElem (by rw [hna'.out]; exact cj)⟩
            obtain ⟨t, ht⟩ : ∃ t, bz[j]? = some t := ⟨_, List.getElem?_eq_getElem (by rw [hnb'.out]; exact cj)⟩
            obtain ⟨tA, tB⟩ := okT.out V (hok _ _ oW'.out bV)
            obtain ⟨ba, oa, e1, sc0, sc1, sc2, sc3⟩ : ∃ (b o : Nat), pa = some ⟨b, o, none⟩ ∧ V.cell? ⟨b, o + j * 4, none⟩ = some (.int .i64 s.1) ∧ V.cell? ⟨b, o + j * 4 + 1, none⟩ = some (.bool s.2.1) ∧ V.cell? ⟨b, o + j * 4 + 2, none⟩ = some (.int .u64 s.2.2.1) ∧ V.cell? ⟨b, o + j * 4 + 3, none⟩ = some (.int .u64 s.2.2.2) := by
              rcases tA with ⟨_, h⟩ | ⟨b, o, cap, h1, h2, h3⟩
              · rw [h] at hs; simp at hs
              · cases h1; exact ⟨b, o, rfl, h3 j s hs⟩
            obtain ⟨bb, ob, e2, tc0, tc1, tc2, tc3⟩ : ∃ (b o : Nat), pb = some ⟨b, o, none⟩ ∧ V.cell? ⟨b, o + j * 4, none⟩ = some (.int .i64 t.1) ∧ V.cell? ⟨b, o + j * 4 + 1, none⟩ = some (.bool t.2.1) ∧ V.cell? ⟨b, o + j * 4 + 2, none⟩ = some (.int .u64 t.2.2.1) ∧ V.cell? ⟨b, o + j * 4 + 3, none⟩ = some (.int .u64 t.2.2.2) := by
              rcases tB with ⟨_, h⟩ | ⟨b, o, cap, h1, h2, h3⟩
              · rw [h] at ht; simp at ht
              · cases h1; exact ⟨b, o, rfl, h3 j t ht⟩
            subst e1 e2
            have ix1 := tixR ba oa na ca j cj
            have ix2 := tixR bb ob na cb j cj
            have ne := neq_rterm s.1 s.2.1 s.2.2.1 s.2.2.2 t.1 t.2.1 t.2.2.1 t.2.2.2
            obtain ⟨s0, s1, s2, s3⟩ := s
            obtain ⟨t0, t1, t2, t3⟩ := t
            dsimp only at sc0 sc1 sc2 sc3 tc0 tc1 tc2 tc3 ne
            clear tA tB
            by_cases es : (s0, s1, s2, s3) = (t0, t1, t2, t3)
            case neg =>
              rw [decide_eq_false es] at ne
              have nz : Hid (az ≠ bz) := fun e => es (by rw [e, ht] at hs; cases hs; rfl)
              clear hs ht heq
              go_upto_region 6 with fail
              have hall : ∀ X9, Below V.heap.size V X9 → (X9.cell? ⟨p, 4, none⟩ = some (.slice (some ⟨ba, oa, none⟩) na ca) ∧ X9.cell? ⟨p + 1, 4, none⟩ = some (.slice (some ⟨bb, ob, none⟩) na cb) ∧ X9.cell? ⟨ba, oa + j * 4, none⟩ = some (.int .i64 s0) ∧ X9.cell? ⟨ba, oa + j * 4 + 1, none⟩ = some (.bool s1) ∧ X9.cell? ⟨ba, oa + j * 4 + 2, none⟩ = some (.int .u64 s2) ∧ X9.cell? ⟨ba, oa + j * 4 + 3, none⟩ = some (.int .u64 s3) ∧ X9.cell? ⟨bb, ob + j * 4, none⟩ = some (.int .i64 t0) ∧ X9.cell? ⟨bb, ob + j * 4 + 1, none⟩ = some (.bool t1) ∧ X9.cell? ⟨bb, ob + j * 4 + 2, none⟩ = some (.int .u64 t2) ∧ X9.cell? ⟨bb, ob + j * 4 + 3, none⟩ = some (.int .u64 t3)) := fun X9 g9 => ⟨sO g9 a4, sO g9 b4, sO g9 sc0, sO g9 sc1, sO g9 sc2, sO g9 sc3, sO g9 tc0, sO g9 tc1, sO g9 tc2, sO g9 tc3⟩
              have cc : Below V.heap.size V V.drew := (Below.refl _ _).drew
              refine wp_region_held_drew (S := (fun w' => w'.cell? ⟨p, 4, none⟩ = some (.slice (some ⟨ba, oa, none⟩) na ca) ∧ w'.cell? ⟨p + 1, 4, none⟩ = some (.slice (some ⟨bb, ob, none⟩) na cb) ∧ w'.cell? ⟨ba, oa + j * 4, none⟩ = some (.int .i64 s0) ∧ w'.cell? ⟨ba, oa + j * 4 + 1, none⟩ = some (.bool s1) ∧ w'.cell? ⟨ba, oa + j * 4 + 2, none⟩ = some (.int .u64 s2) ∧ w'.cell? ⟨ba, oa + j * 4 + 3, none⟩ = some (.int .u64 s3) ∧ w'.cell? ⟨bb, ob + j * 4, none⟩ = some (.int .i64 t0) ∧ w'.cell? ⟨bb, ob + j * 4 + 1, none⟩ = some (.bool t1) ∧ w'.cell? ⟨bb, ob + j * 4 + 2, none⟩ = some (.int .u64 t2) ∧ w'.cell? ⟨bb, ob + j * 4 + 3, none⟩ = some (.int .u64 t3))) (by kernel_rfl) (hall _ cc) (fun hH => ?_)
              refine wpAnyH_take (i := 0) (oi := _) (v := .pointer (some ⟨p, 4, none⟩)) rfl (by kernel_rfl) (by kernel_rfl) (by kernel_rfl) (fun _ _ _ h => h) (Or.inl ⟨by rfl, fun w' hSw => by obtain ⟨za4, zb4, zsc0, zsc1, zsc2, zsc3, ztc0, ztc1, ztc2, ztc3⟩ := hSw; go_simp⟩) hH ?_
              simp only [Act.put, List.getElem_toArray, List.getElem_cons_zero, List.getElem_cons_succ, List.setIfInBounds_toArray, List.set_cons_zero, List.set_cons_succ]
              refine wpAnyH_take (i := 1) (oi := _) (v := .slice (some ⟨ba, oa, none⟩) na ca) rfl (by kernel_rfl) (by kernel_rfl) (by kernel_rfl) (fun _ _ _ h => h) (Or.inl ⟨by rfl, fun w' hSw => by obtain ⟨za4, zb4, zsc0, zsc1, zsc2, zsc3, ztc0, ztc1, ztc2, ztc3⟩ := hSw; go_simp⟩) hH ?_
              simp only [Act.put, List.getElem_toArray, List.getElem_cons_zero, List.getElem_cons_succ, List.setIfInBounds_toArray, List.set_cons_zero, List.set_cons_succ]
              refine wpAnyH_take (i := 2) (oi := _) (v := .int .i64 j) rfl (by kernel_rfl) (by kernel_rfl) (by kernel_rfl) (fun _ _ _ h => h) (Or.inl ⟨by rfl, fun w' hSw => by obtain ⟨za4, zb4, zsc0, zsc1, zsc2, zsc3, ztc0, ztc1, ztc2, ztc3⟩ := hSw; go_simp⟩) hH ?_
              simp only [Act.put, List.getElem_toArray, List.getElem_cons_zero, List.getElem_cons_succ, List.setIfInBounds_toArray, List.set_cons_zero, List.set_cons_succ]
              refine wpAnyH_take (i := 3) (oi := _) (v := .pointer (some ⟨ba, oa + j * 4, none⟩)) rfl (by kernel_rfl) (by kernel_rfl) (by kernel_rfl) (fun _ _ _ h => h) (Or.inl ⟨by rfl, fun w' hSw => by obtain ⟨za4, zb4, zsc0, zsc1, zsc2, zsc3, ztc0, ztc1, ztc2, ztc3⟩ := hSw; go_simp⟩) hH ?_
              simp only [Act.put, List.getElem_toArray, List.getElem_cons_zero, List.getElem_cons_succ, List.setIfInBounds_toArray, List.set_cons_zero, List.set_cons_succ]
              refine wpAnyH_take (i := 4) (oi := _) (v := .agg #[.int .i64 s0, .bool s1, .int .u64 s2, .int .u64 s3]) rfl (by kernel_rfl) (by kernel_rfl) (by kernel_rfl) (fun _ _ _ h => h) (Or.inl ⟨by rfl, fun w' hSw => by obtain ⟨za4, zb4, zsc0, zsc1, zsc2, zsc3, ztc0, ztc1, ztc2, ztc3⟩ := hSw; go_simp⟩) hH ?_
              simp only [Act.put, List.getElem_toArray, List.getElem_cons_zero, List.getElem_cons_succ, List.setIfInBounds_toArray, List.set_cons_zero, List.set_cons_succ]
              refine wpAnyH_take (i := 5) (oi := _) (v := .pointer (some ⟨p + 1, 4, none⟩)) rfl (by kernel_rfl) (by kernel_rfl) (by kernel_rfl) (fun _ _ _ h => h) (Or.inl ⟨by rfl, fun w' hSw => by obtain ⟨za4, zb4, zsc0, zsc1, zsc2, zsc3, ztc0, ztc1, ztc2, ztc3⟩ := hSw; go_simp⟩) hH ?_
              simp only [Act.put, List.getElem_toArray, List.getElem_cons_zero, List.getElem_cons_succ, List.setIfInBounds_toArray, List.set_cons_zero, List.set_cons_succ]
              refine wpAnyH_take (i := 6) (oi := _) (v := .slice (some ⟨bb, ob, none⟩) na cb) rfl (by kernel_rfl) (by kernel_rfl) (by kernel_rfl) (fun _ _ _ h => h) (Or.inl ⟨by rfl, fun w' hSw => by obtain ⟨za4, zb4, zsc0, zsc1, zsc2, zsc3, ztc0, ztc1, ztc2, ztc3⟩ := hSw; go_simp⟩) hH ?_
              simp only [Act.put, List.getElem_toArray, List.getElem_cons_zero, List.getElem_cons_succ, List.setIfInBounds_toArray, List.set_cons_zero, List.set_cons_succ]
              refine wpAnyH_take (i := 7) (oi := _) (v := .int .i64 j) rfl (by kernel_rfl) (by kernel_rfl) (by kernel_rfl) (fun _ _ _ h => h) (Or.inl ⟨by rfl, fun w' hSw => by obtain ⟨za4, zb4, zsc0, zsc1, zsc2, zsc3, ztc0, ztc1, ztc2, ztc3⟩ := hSw; go_simp⟩) hH ?_
              simp only [Act.put, List.getElem_toArray, List.getElem_cons_zero, List.getElem_cons_succ, List.setIfInBounds_toArray, List.set_cons_zero, List.set_cons_succ]
              refine wpAnyH_take (i := 8) (oi := _) (v := .pointer (some ⟨bb, ob + j * 4, none⟩)) rfl (by kernel_rfl) (by kernel_rfl) (by kernel_rfl) (fun _ _ _ h => h) (Or.inl ⟨by rfl, fun w' hSw => by obtain ⟨za4, zb4, zsc0, zsc1, zsc2, zsc3, ztc0, ztc1, ztc2, ztc3⟩ := hSw; go_simp⟩) hH ?_
              simp only [Act.put, List.getElem_toArray, List.getElem_cons_zero, List.getElem_cons_succ, List.setIfInBounds_toArray, List.set_cons_zero, List.set_cons_succ]
              refine wpAnyH_take (i := 9) (oi := _) (v := .agg #[.int .i64 t0, .bool t1, .int .u64 t2, .int .u64 t3]) rfl (by kernel_rfl) (by kernel_rfl) (by kernel_rfl) (fun _ _ _ h => h) (Or.inl ⟨by rfl, fun w' hSw => by obtain ⟨za4, zb4, zsc0, zsc1, zsc2, zsc3, ztc0, ztc1, ztc2, ztc3⟩ := hSw; go_simp⟩) hH ?_
              simp only [Act.put, List.getElem_toArray, List.getElem_cons_zero, List.getElem_cons_succ, List.setIfInBounds_toArray, List.set_cons_zero, List.set_cons_succ]
              refine wpAnyH_take (i := 10) (oi := _) (v := .bool true) rfl (by kernel_rfl) (by kernel_rfl) (by kernel_rfl) (fun _ _ _ h => h) (Or.inl ⟨by rfl, fun w' hSw => by obtain ⟨za4, zb4, zsc0, zsc1, zsc2, zsc3, ztc0, ztc1, ztc2, ztc3⟩ := hSw; go_simp⟩) hH ?_
              simp only [Act.put, List.getElem_toArray, List.getElem_cons_zero, List.getElem_cons_succ, List.setIfInBounds_toArray, List.set_cons_zero, List.set_cons_succ]
              refine wpAnyH_done (by kernel_rfl) ?_ _
              go_wp2_with fail
              go_ret
              exact ⟨by simp [nz.out], by first | exact sp_call fin.out cc | (rw [← hp]; exact sp_call fin.out cc)⟩
            case pos =>
              rw [decide_eq_true es] at ne
              have nx : Hid (∀ m, m < j + 1 → az[m]? = bz[m]?) := fun m hm => by
                by_cases e : m = j
                · rw [e, hs, ht, es]
                · exact heq.out m (by omega)
              clear hs ht heq
              go_upto_region 6 with fail
              have hall : ∀ X9, Below V.heap.size V X9 → (X9.cell? ⟨p, 4, none⟩ = some (.slice (some ⟨ba, oa, none⟩) na ca) ∧ X9.cell? ⟨p + 1, 4, none⟩ = some (.slice (some ⟨bb, ob, none⟩) na cb) ∧ X9.cell? ⟨ba, oa + j * 4, none⟩ = some (.int .i64 s0) ∧ X9.cell? ⟨ba, oa + j * 4 + 1, none⟩ = some (.bool s1) ∧ X9.cell? ⟨ba, oa + j * 4 + 2, none⟩ = some (.int .u64 s2) ∧ X9.cell? ⟨ba, oa + j * 4 + 3, none⟩ = some (.int .u64 s3) ∧ X9.cell? ⟨bb, ob + j * 4, none⟩ = some (.int .i64 t0) ∧ X9.cell? ⟨bb, ob + j * 4 + 1, none⟩ = some (.bool t1) ∧ X9.cell? ⟨bb, ob + j * 4 + 2, none⟩ = some (.int .u64 t2) ∧ X9.cell? ⟨bb, ob + j * 4 + 3, none⟩ = some (.int .u64 t3)) := fun X9 g9 => ⟨sO g9 a4, sO g9 b4, sO g9 sc0, sO g9 sc1, sO g9 sc2, sO g9 sc3, sO g9 tc0, sO g9 tc1, sO g9 tc2, sO g9 tc3⟩
              have cc : Below V.heap.size V V.drew := (Below.refl _ _).drew
              refine wp_region_held_drew (S := (fun w' => w'.cell? ⟨p, 4, none⟩ = some (.slice (some ⟨ba, oa, none⟩) na ca) ∧ w'.cell? ⟨p + 1, 4, none⟩ = some (.slice (some ⟨bb, ob, none⟩) na cb) ∧ w'.cell? ⟨ba, oa + j * 4, none⟩ = some (.int .i64 s0) ∧ w'.cell? ⟨ba, oa + j * 4 + 1, none⟩ = some (.bool s1) ∧ w'.cell? ⟨ba, oa + j * 4 + 2, none⟩ = some (.int .u64 s2) ∧ w'.cell? ⟨ba, oa + j * 4 + 3, none⟩ = some (.int .u64 s3) ∧ w'.cell? ⟨bb, ob + j * 4, none⟩ = some (.int .i64 t0) ∧ w'.cell? ⟨bb, ob + j * 4 + 1, none⟩ = some (.bool t1) ∧ w'.cell? ⟨bb, ob + j * 4 + 2, none⟩ = some (.int .u64 t2) ∧ w'.cell? ⟨bb, ob + j * 4 + 3, none⟩ = some (.int .u64 t3))) (by kernel_rfl) (hall _ cc) (fun hH => ?_)
              refine wpAnyH_take (i := 0) (oi := _) (v := .pointer (some ⟨p, 4, none⟩)) rfl (by kernel_rfl) (by kernel_rfl) (by kernel_rfl) (fun _ _ _ h => h) (Or.inl ⟨by rfl, fun w' hSw => by obtain ⟨za4, zb4, zsc0, zsc1, zsc2, zsc3, ztc0, ztc1, ztc2, ztc3⟩ := hSw; go_simp⟩) hH ?_
              simp only [Act.put, List.getElem_toArray, List.getElem_cons_zero, List.getElem_cons_succ, List.setIfInBounds_toArray, List.set_cons_zero, List.set_cons_succ]
              refine wpAnyH_take (i := 1) (oi := _) (v := .slice (some ⟨ba, oa, none⟩) na ca) rfl (by kernel_rfl) (by kernel_rfl) (by kernel_rfl) (fun _ _ _ h => h) (Or.inl ⟨by rfl, fun w' hSw => by obtain ⟨za4, zb4, zsc0, zsc1, zsc2, zsc3, ztc0, ztc1, ztc2, ztc3⟩ := hSw; go_simp⟩) hH ?_
              simp only [Act.put, List.getElem_toArray, List.getElem_cons_zero, List.getElem_cons_succ, List.setIfInBounds_toArray, List.set_cons_zero, List.set_cons_succ]
              refine wpAnyH_take (i := 2) (oi := _) (v := .int .i64 j) rfl (by kernel_rfl) (by kernel_rfl) (by kernel_rfl) (fun _ _ _ h => h) (Or.inl ⟨by rfl, fun w' hSw => by obtain ⟨za4, zb4, zsc0, zsc1, zsc2, zsc3, ztc0, ztc1, ztc2, ztc3⟩ := hSw; go_simp⟩) hH ?_
              simp only [Act.put, List.getElem_toArray, List.getElem_cons_zero, List.getElem_cons_succ, List.setIfInBounds_toArray, List.set_cons_zero, List.set_cons_succ]
              refine wpAnyH_take (i := 3) (oi := _) (v := .pointer (some ⟨ba, oa + j * 4, none⟩)) rfl (by kernel_rfl) (by kernel_rfl) (by kernel_rfl) (fun _ _ _ h => h) (Or.inl ⟨by rfl, fun w' hSw => by obtain ⟨za4, zb4, zsc0, zsc1, zsc2, zsc3, ztc0, ztc1, ztc2, ztc3⟩ := hSw; go_simp⟩) hH ?_
              simp only [Act.put, List.getElem_toArray, List.getElem_cons_zero, List.getElem_cons_succ, List.setIfInBounds_toArray, List.set_cons_zero, List.set_cons_succ]
              refine wpAnyH_take (i := 4) (oi := _) (v := .agg #[.int .i64 s0, .bool s1, .int .u64 s2, .int .u64 s3]) rfl (by kernel_rfl) (by kernel_rfl) (by kernel_rfl) (fun _ _ _ h => h) (Or.inl ⟨by rfl, fun w' hSw => by obtain ⟨za4, zb4, zsc0, zsc1, zsc2, zsc3, ztc0, ztc1, ztc2, ztc3⟩ := hSw; go_simp⟩) hH ?_
              simp only [Act.put, List.getElem_toArray, List.getElem_cons_zero, List.getElem_cons_succ, List.setIfInBounds_toArray, List.set_cons_zero, List.set_cons_succ]
              refine wpAnyH_take (i := 5) (oi := _) (v := .pointer (some ⟨p + 1, 4, none⟩)) rfl (by kernel_rfl) (by kernel_rfl) (by kernel_rfl) (fun _ _ _ h => h) (Or.inl ⟨by rfl, fun w' hSw => by obtain ⟨za4, zb4, zsc0, zsc1, zsc2, zsc3, ztc0, ztc1, ztc2, ztc3⟩ := hSw; go_simp⟩) hH ?_
              simp only [Act.put, List.getElem_toArray, List.getElem_cons_zero, List.getElem_cons_succ, List.setIfInBounds_toArray, List.set_cons_zero, List.set_cons_succ]
              refine wpAnyH_take (i := 6) (oi := _) (v := .slice (some ⟨bb, ob, none⟩) na cb) rfl (by kernel_rfl) (by kernel_rfl) (by kernel_rfl) (fun _ _ _ h => h) (Or.inl ⟨by rfl, fun w' hSw => by obtain ⟨za4, zb4, zsc0, zsc1, zsc2, zsc3, ztc0, ztc1, ztc2, ztc3⟩ := hSw; go_simp⟩) hH ?_
              simp only [Act.put, List.getElem_toArray, List.getElem_cons_zero, List.getElem_cons_succ, List.setIfInBounds_toArray, List.set_cons_zero, List.set_cons_succ]
              refine wpAnyH_take (i := 7) (oi := _) (v := .int .i64 j) rfl (by kernel_rfl) (by kernel_rfl) (by kernel_rfl) (fun _ _ _ h => h) (Or.inl ⟨by rfl, fun w' hSw => by obtain ⟨za4, zb4, zsc0, zsc1, zsc2, zsc3, ztc0, ztc1, ztc2, ztc3⟩ := hSw; go_simp⟩) hH ?_
              simp only [Act.put, List.getElem_toArray, List.getElem_cons_zero, List.getElem_cons_succ, List.setIfInBounds_toArray, List.set_cons_zero, List.set_cons_succ]
              refine wpAnyH_take (i := 8) (oi := _) (v := .pointer (some ⟨bb, ob + j * 4, none⟩)) rfl (by kernel_rfl) (by kernel_rfl) (by kernel_rfl) (fun _ _ _ h => h) (Or.inl ⟨by rfl, fun w' hSw => by obtain ⟨za4, zb4, zsc0, zsc1, zsc2, zsc3, ztc0, ztc1, ztc2, ztc3⟩ := hSw; go_simp⟩) hH ?_
              simp only [Act.put, List.getElem_toArray, List.getElem_cons_zero, List.getElem_cons_succ, List.setIfInBounds_toArray, List.set_cons_zero, List.set_cons_succ]
              refine wpAnyH_take (i := 9) (oi := _) (v := .agg #[.int .i64 t0, .bool t1, .int .u64 t2, .int .u64 t3]) rfl (by kernel_rfl) (by kernel_rfl) (by kernel_rfl) (fun _ _ _ h => h) (Or.inl ⟨by rfl, fun w' hSw => by obtain ⟨za4, zb4, zsc0, zsc1, zsc2, zsc3, ztc0, ztc1, ztc2, ztc3⟩ := hSw; go_simp⟩) hH ?_
              simp only [Act.put, List.getElem_toArray, List.getElem_cons_zero, List.getElem_cons_succ, List.setIfInBounds_toArray, List.set_cons_zero, List.set_cons_succ]
              refine wpAnyH_take (i := 10) (oi := _) (v := .bool false) rfl (by kernel_rfl) (by kernel_rfl) (by kernel_rfl) (fun _ _ _ h => h) (Or.inl ⟨by rfl, fun w' hSw => by obtain ⟨za4, zb4, zsc0, zsc1, zsc2, zsc3, ztc0, ztc1, ztc2, ztc3⟩ := hSw; go_simp⟩) hH ?_
              simp only [Act.put, List.getElem_toArray, List.getElem_cons_zero, List.getElem_cons_succ, List.setIfInBounds_toArray, List.set_cons_zero, List.set_cons_succ]
              refine wpAnyH_done (by kernel_rfl) ?_ _
              go_wp2_with fail
              exact ⟨⟨_, j + 1, rfl, by omega, by first | rfl | go_num | simp, sp_call bV cc, nx⟩, by simp [intOf]; omega⟩
end Go.Proofs.YteafnkimcidkhaaGreat


namespace Go.Proofs.YteafnkimcidkhaaGreat
open Go.RowKit
set_option linter.unusedVariables false
set_option linter.unusedSimpArgs false
theorem rsame9 (A B : Frm) (hA : fOk A) (hB : fOk B) (va vb : Value) (w : World) (ta : TAt w va A.2.2) (tb : TAt w vb B.2.2) :
    Calls Tryz.prog 28 #[.agg #[.bool A.1, .bool A.2.1.1, .int .u64 A.2.1.2.1, .int .u64 A.2.1.2.2, va], .agg #[.bool B.1, .bool B.2.1.1, .int .u64 B.2.1.2.1, .int .u64 B.2.1.2.2, vb]] w fun e w' => e = .returned (.bool (samF A B)) ∧ Below w.heap.size w w' := by
  have h := rsameG A.1 A.2.1.1 A.2.1.2.1 A.2.1.2.2 B.1 B.2.1.1 B.2.1.2.1 B.2.1.2.2 va vb A.2.2 B.2.2 hA.2.2 (frR A) (frR B) (fun V h => rrightA A hA va V h) (fun V h => rrightA B hB vb V h) w ta tb
  rw [samF_is] at h
  exact h
set_option maxRecDepth 100000 in
set_option maxHeartbeats 6400000 in
theorem lsame_of (x0 x1 : Bool) (x2 x3 : Int) (y0 y1 : Bool) (y2 y3 : Int) (pa pb : Option Addr) (na ca nb cb : Nat) (az : List (Int × Bool × Int × Int)) (q : Bool) (w : World)
    (k1 : ∀ V, Below w.heap.size w V → Calls Tryz.prog 26 #[.agg #[.bool x0, .bool x1, .int .u64 x2, .int .u64 x3, .slice pa na ca]] V fun e w' => (∃ pr cr, e = .returned (.agg #[.bool x0, .bool x1, .int .u64 x2, .int .u64 x3, .slice pr az.length cr]) ∧ TAt w' (.slice pr az.length cr) az) ∧ Below V.heap.size V w')
    (k2 : ∀ V v, TAt V v az → Below w.heap.size w V → Calls Tryz.prog 28 #[.agg #[.bool x0, .bool x1, .int .u64 x2, .int .u64 x3, v], .agg #[.bool y0, .bool y1, .int .u64 y2, .int .u64 y3, .slice pb nb cb]] V fun e w' => e = .returned (.bool q) ∧ Below V.heap.size V w') :
    Calls Tryz.prog 19 #[.agg #[.bool x0, .bool x1, .int .u64 x2, .int .u64 x3, .slice pa na ca], .agg #[.bool y0, .bool y1, .int .u64 y2, .int .u64 y3, .slice pb nb cb]] w fun e w' => e = .returned (.bool q) ∧ Below w.heap.size w w' := by
  obtain ⟨p, hp⟩ : ∃ p, w.heap.size = p := ⟨_, rfl⟩
  obtain ⟨W, hW⟩ : ∃ W, (w.alloc (.cells #[.bool x0, .bool x1, .int .u64 x2, .int .u64 x3, .slice pa na ca] 31)).alloc (.cells #[.bool y0, .bool y1, .int .u64 y2, .int .u64 y3, .slice pb nb cb] 38) = W := ⟨_, rfl⟩
  have bW : Below w.heap.size w W := by rw [← hW]; exact sp_new (sp_new (Below.refl _ _) _) _
  have a0 : W.cell? ⟨p, 0, none⟩ = some (.bool x0) := by rw [← hW, ← hp]; simp [go_sem]
  have a1 : W.cell? ⟨p, 1, none⟩ = some (.bool x1) := by rw [← hW, ← hp]; simp [go_sem]
  have a2 : W.cell? ⟨p, 2, none⟩ = some (.int .u64 x2) := by rw [← hW, ← hp]; simp [go_sem]
  have a3 : W.cell? ⟨p, 3, none⟩ = some (.int .u64 x3) := by rw [← hW, ← hp]; simp [go_sem]
  have a4 : W.cell? ⟨p, 4, none⟩ = some (.slice pa na ca) := by rw [← hW, ← hp]; simp [go_sem]
  have b0 : W.cell? ⟨p + 1, 0, none⟩ = some (.bool y0) := by rw [← hW, ← hp]; simp [go_sem]
  have b1 : W.cell? ⟨p + 1, 1, none⟩ = some (.bool y1) := by rw [← hW, ← hp]; simp [go_sem]
  have b2 : W.cell? ⟨p + 1, 2, none⟩ = some (.int .u64 y2) := by rw [← hW, ← hp]; simp [go_sem]
  have b3 : W.cell? ⟨p + 1, 3, none⟩ = some (.int .u64 y3) := by rw [← hW, ← hp]; simp [go_sem]
  have b4 : W.cell? ⟨p + 1, 4, none⟩ = some (.slice pb nb cb) := by rw [← hW, ← hp]; simp [go_sem]
  go_enter Tryz.func19, Tryz.ntmps19
  go_upto_region 1 with fail
  (try rw [hW])
  (try rw [hp])
  clear hW
  have hall : ∀ X9, Below W.heap.size W X9 → (X9.cell? ⟨p, 0, none⟩ = some (.bool x0) ∧ X9.cell? ⟨p, 1, none⟩ = some (.bool x1) ∧ X9.cell? ⟨p, 2, none⟩ = some (.int .u64 x2) ∧ X9.cell? ⟨p, 3, none⟩ = some (.int .u64 x3) ∧ X9.cell? ⟨p, 4, none⟩ = some (.slice pa na ca) ∧ X9.cell? ⟨p + 1, 0, none⟩ = some (.bool y0) ∧ X9.cell? ⟨p + 1, 1, none⟩ = some (.bool y1) ∧ X9.cell? ⟨p + 1, 2, none⟩ = some (.int .u64 y2) ∧ X9.cell? ⟨p + 1, 3, none⟩ = some (.int .u64 y3) ∧ X9.cell? ⟨p + 1, 4, none⟩ = some (.slice pb nb cb)) := fun X9 g9 => ⟨sO g9 a0, sO g9 a1, sO g9 a2, sO g9 a3, sO g9 a4, sO g9 b0, sO g9 b1, sO g9 b2, sO g9 b3, sO g9 b4⟩
  have cc : Below W.heap.size W W.drew := (Below.refl _ _).drew
  refine wp_region_held_drew (S := (fun w' => w'.cell? ⟨p, 0, none⟩ = some (.bool x0) ∧ w'.cell? ⟨p, 1, none⟩ = some (.bool x1) ∧ w'.cell? ⟨p, 2, none⟩ = some (.int .u64 x2) ∧ w'.cell? ⟨p, 3, none⟩ = some (.int .u64 x3) ∧ w'.cell? ⟨p, 4, none⟩ = some (.slice pa na ca) ∧ w'.cell? ⟨p + 1, 0, none⟩ = some (.bool y0) ∧ w'.cell? ⟨p + 1, 1, none⟩ = some (.bool y1) ∧ w'.cell? ⟨p + 1, 2, none⟩ = some (.int .u64 y2) ∧ w'.cell? ⟨p + 1, 3, none⟩ = some (.int .u64 y3) ∧ w'.cell? ⟨p + 1, 4, none⟩ = some (.slice pb nb cb))) (by kernel_rfl) (hall _ cc) (fun hH => ?_)
  refine wpAnyH_take (i := 0) (oi := _) (v := .agg #[.bool x0, .bool x1, .int .u64 x2, .int .u64 x3, .slice pa na ca]) rfl (by kernel_rfl) (by kernel_rfl) (by kernel_rfl) (fun _ _ _ h => h) (Or.inl ⟨by rfl, fun w' hSw => by obtain ⟨za0, za1, za2, za3, za4, zb0, zb1, zb2, zb3, zb4⟩ := hSw; go_simp⟩) hH ?_
  simp only [Act.put, List.getElem_toArray, List.getElem_cons_zero, List.getElem_cons_succ, List.setIfInBounds_toArray, List.set_cons_zero, List.set_cons_succ]
  refine wpAnyH_take (i := 2) (oi := _) (v := .agg #[.bool y0, .bool y1, .int .u64 y2, .int .u64 y3, .slice pb nb cb]) rfl (by kernel_rfl) (by kernel_rfl) (by kernel_rfl) (fun _ _ _ h => h) (Or.inl ⟨by rfl, fun w' hSw => by obtain ⟨za0, za1, za2, za3, za4, zb0, zb1, zb2, zb3, zb4⟩ := hSw; go_simp⟩) hH ?_
  simp only [Act.put, List.getElem_toArray, List.getElem_cons_zero, List.getElem_cons_succ, List.setIfInBounds_toArray, List.set_cons_zero, List.set_cons_succ]
  generalize hY : W.drew = Y0 at *
  clear hY
  refine wpAnyH_ready (rs := [1]) (by kernel_rfl) (by simp) (AllReadyH.cons (o := _) rfl (fun K hK => ?_) AllReadyH.nil)
  go_simp
  refine (k1 _ (sp_call bW cc)).mono ?_
  rintro e Y1 ⟨⟨pr, cr, rfl, tr⟩, g⟩
  replace cc := sp_call cc g
  clear g
  go_wp2_with fail
  refine hK.out _ _ (hall _ cc) (fun hH => ?_)
  clear hK K
  try simp only [Act.put, List.getElem_toArray, List.getElem_cons_zero, List.getElem_cons_succ, List.setIfInBounds_toArray, List.set_cons_zero, List.set_cons_succ]
  refine wpAnyH_ready (rs := [3]) (by kernel_rfl) (by simp) (AllReadyH.cons (o := _) rfl (fun K hK => ?_) AllReadyH.nil)
  go_simp
  refine (k2 _ _ tr (sp_call bW cc)).mono ?_
  rintro e Y2 ⟨rfl, g⟩
  replace cc := sp_call cc g
  clear g
  go_wp2_with fail
  refine hK.out _ _ (hall _ cc) (fun hH => ?_)
  clear hK K
  try simp only [Act.put, List.getElem_toArray, List.getElem_cons_zero, List.getElem_cons_succ, List.setIfInBounds_toArray, List.set_cons_zero, List.set_cons_succ]
  refine wpAnyH_take (i := 4) (oi := _) (v := .bool q) rfl (by kernel_rfl) (by kernel_rfl) (by kernel_rfl) (fun _ _ _ h => h) (Or.inl ⟨by rfl, fun w' hSw => by obtain ⟨za0, za1, za2, za3, za4, zb0, zb1, zb2, zb3, zb4⟩ := hSw; go_simp⟩) hH ?_
  simp only [Act.put, List.getElem_toArray, List.getElem_cons_zero, List.getElem_cons_succ, List.setIfInBounds_toArray, List.set_cons_zero, List.set_cons_succ]
  refine wpAnyH_done (by kernel_rfl) ?_ _
  go_wp2_with fail
  go_ret
  exact ⟨rfl, by first | exact sp_call bW cc | (rw [← hp]; exact sp_call bW cc)⟩
theorem lsame9 (A B : Frm) (hA : fOk A) (hB : fOk B) (va vb : Value) (w : World) (ta : TAt w va A.2.2) (tb : TAt w vb B.2.2) :
    Calls Tryz.prog 19 #[.agg #[.bool A.1, .bool A.2.1.1, .int .u64 A.2.1.2.1, .int .u64 A.2.1.2.2, va], .agg #[.bool B.1, .bool B.2.1.1, .int .u64 B.2.1.2.1, .int .u64 B.2.1.2.2, vb]] w fun e w' => e = .returned (.bool (samF A B)) ∧ Below w.heap.size w w' := by
  have ta0 := ta
  have tb0 := tb
  obtain ⟨pa, ca, rfl⟩ := ta.len
  obtain ⟨pb, cb, rfl⟩ := tb.len
  exact lsame_of A.1 A.2.1.1 A.2.1.2.1 A.2.1.2.2 B.1 B.2.1.1 B.2.1.2.1 B.2.1.2.2 pa pb _ ca _ cb A.2.2 _ w (fun V g => (rref9 A _ hA.2.2 V (ta0.on g)).mono fun e w' k => by
      obtain ⟨⟨rv, he, ht, _⟩, g2⟩ := k
      obtain ⟨pr, cr, rfl⟩ := ht.len
      exact ⟨⟨pr, cr, he, ht⟩, g2⟩) (fun V v h g => rsame9 A B hA hB v _ V h (tb0.on g))
set_option maxRecDepth 100000 in
set_option maxHeartbeats 6400000 in
theorem rof9 (r : Bool × Int × Int) (hr : wdR r) (w : World) : Calls Tryz.prog 21 #[.agg #[.bool r.1, .int .u64 r.2.1, .int .u64 r.2.2]] w fun e w' => e = .returned (.agg #[.bool (ofP' r).1, .bool (ofP' r).2.1.1, .int .u64 (ofP' r).2.1.2.1, .int .u64 (ofP' r).2.1.2.2, .slice none 0 0]) ∧ Below w.heap.size w w' := by
  have k0 := rright9 r hr
  have kw := rwhole9
  obtain ⟨r0, r1, r2⟩ := r
  dsimp only at k0 ⊢
  obtain ⟨W, hW⟩ : ∃ W, (w.alloc (.cells #[.bool r0, .int .u64 r1, .int .u64 r2] 24)).alloc (.cells #[.bool false, .bool false, .int .u64 0, .int .u64 0, .slice none 0 0] 38) = W := ⟨_, rfl⟩
  have bW : Below w.heap.size w W := by rw [← hW]; exact sp_new (sp_new (Below.refl _ _) _) _
  have a0 : W.cell? ⟨w.heap.size, 0, none⟩ = some (.bool r0) := by rw [← hW]; simp [go_sem]
  have a1 : W.cell? ⟨w.heap.size, 1, none⟩ = some (.int .u64 r1) := by rw [← hW]; simp [go_sem]
  have a2 : W.cell? ⟨w.heap.size, 2, none⟩ = some (.int .u64 r2) := by rw [← hW]; simp [go_sem]
  have q : W.heap[w.heap.size + 1]? = some (.cells #[.bool false, .bool false, .int .u64 0, .int .u64 0, .slice none 0 0] 38 (0, 0)) := by
    have := World.alloc_heap_new (w.alloc (.cells #[.bool r0, .int .u64 r1, .int .u64 r2] 24)) (.cells #[.bool false, .bool false, .int .u64 0, .int .u64 0, .slice none 0 0] 38)
    rw [hW] at this
    simpa using this
  have fin : ∀ V : World, Below w.heap.size w V → ∀ x0 x1 x2 x3 x4 : Value, Below w.heap.size w (((((V.setCell ⟨w.heap.size + 1, 0, none⟩ x0).setCell ⟨w.heap.size + 1, 1, none⟩ x1).setCell ⟨w.heap.size + 1, 2, none⟩ x2).setCell ⟨w.heap.size + 1, 3, none⟩ x3).setCell ⟨w.heap.size + 1, 4, none⟩ x4) := fun V h x0 x1 x2 x3 x4 => ((((h.setCell (p := ⟨w.heap.size + 1, 0, none⟩) (by simp) _).setCell (p := ⟨w.heap.size + 1, 1, none⟩) (by simp) _).setCell (p := ⟨w.heap.size + 1, 2, none⟩) (by simp) _).setCell (p := ⟨w.heap.size + 1, 3, none⟩) (by simp) _).setCell (p := ⟨w.heap.size + 1, 4, none⟩) (by simp) _
  cases r0
  case true =>
    have e : ofP' (true, r1, r2) = whF := if_neg (by simp [liN])
    rw [e]
    go_enter Tryz.func21, Tryz.ntmps21
    go_upto_region 1 with fail
    (try rw [hW])
    clear hW
    go_wp2_with (first | (go_at_call 62; refine (kw _).mono ?_; rintro e v1 ⟨rfl, g⟩; replace q := carryF g q; replace bW := sp_call bW g; clear g; obtain ⟨q0, q1, q2, q3, q4, qf⟩ := lj_c5 q) | fail)
    exact bodyPost_ret (v := .agg #[.bool true, .bool false, .int .u64 0, .int .u64 0, .slice none 0 0]) (by simp [results, Tryz.results21, go_sem, q0, q1, q2, q3, q4]) rfl ⟨rfl, fin _ bW _ _ _ _ _⟩
  case false =>
  cases hl : liR (false, r1, r2)
  case false =>
    have e : ofP' (false, r1, r2) = whF := if_neg (by simp [liN, hl])
    rw [e]
    rw [hl] at k0
    go_enter Tryz.func21, Tryz.ntmps21
    go_upto_region 1 with fail
    (try rw [hW])
    clear hW
    go_wp2_with (first
      | (go_at_call 47; refine (k0 _).mono ?_; rintro e v0 ⟨rfl, g⟩; replace q := carryF g q; replace a0 := sO g a0; replace a1 := sO g a1; replace a2 := sO g a2; replace bW := sp_call bW g; clear g)
      | (go_at_call 62; refine (kw _).mono ?_; rintro e v1 ⟨rfl, g⟩; replace q := carryF g q; replace bW := sp_call bW g; clear g; obtain ⟨q0, q1, q2, q3, q4, qf⟩ := lj_c5 q) | fail)
    exact bodyPost_ret (v := .agg #[.bool true, .bool false, .int .u64 0, .int .u64 0, .slice none 0 0]) (by simp [results, Tryz.results21, go_sem, q0, q1, q2, q3, q4]) rfl ⟨rfl, fin _ bW _ _ _ _ _⟩
  case true =>
    have e : ofP' (false, r1, r2) = (false, (false, r1, r2), []) := if_pos (by simp [liN, hl])
    rw [e]
    rw [hl] at k0
    go_enter Tryz.func21, Tryz.ntmps21
    go_upto_region 1 with fail
    (try rw [hW])
    clear hW
    go_upto_region 3 with (first
      | (go_at_call 47; refine (k0 _).mono ?_; rintro e v0 ⟨rfl, g⟩; replace q := carryF g q; replace a0 := sO g a0; replace a1 := sO g a1; replace a2 := sO g a2; replace bW := sp_call bW g; clear g)
      | fail)
    obtain ⟨q0, q1, q2, q3, q4, qf⟩ := lj_c5 q
    go_wp2_with fail
    exact bodyPost_ret (v := .agg #[.bool false, .bool false, .int .u64 r1, .int .u64 r2, .slice none 0 0]) (by simp [results, Tryz.results21, go_sem, q0, q1, q2, q3, q4]) rfl ⟨rfl, fin _ bW _ _ _ _ _⟩
theorem rof_11 : rOfF false 4607182418800017408 4607182418800017408 = (false, 4607182418800017408, 4607182418800017408) := by decide +kernel
theorem word_11 : Word 4607182418800017408 := ⟨by decide, by decide⟩
set_option maxRecDepth 100000 in
set_option maxHeartbeats 6400000 in
theorem rofvar9 (n : Int) (w : World) : Calls Tryz.prog 23 #[.int .i64 n] w fun e w' => Told (ovP n) w.heap.size e w' ∧ Below w.heap.size w w' := by
  have kw := rwhole9
  have kz := rzero9
  have ko := rofF_any false 4607182418800017408 4607182418800017408 word_11 word_11
  rw [rof_11] at ko
  obtain ⟨W, hW⟩ : ∃ W, w.alloc (.cells #[.bool false, .bool false, .int .u64 0, .int .u64 0, .slice none 0 0] 38) = W := ⟨_, rfl⟩
  have bW : Below w.heap.size w W := by rw [← hW]; exact sp_new (Below.refl _ _) _
  have q : W.heap[w.heap.size]? = some (.cells #[.bool false, .bool false, .int .u64 0, .int .u64 0, .slice none 0 0] 38 (0, 0)) := by
    have := World.alloc_heap_new w (.cells #[.bool false, .bool false, .int .u64 0, .int .u64 0, .slice none 0 0] 38)
    rw [hW] at this
    exact this
  have fin : ∀ V : World, Below w.heap.size w V → ∀ x0 x1 x2 x3 x4 : Value, Below w.heap.size w (((((V.setCell ⟨w.heap.size, 0, none⟩ x0).setCell ⟨w.heap.size, 1, none⟩ x1).setCell ⟨w.heap.size, 2, none⟩ x2).setCell ⟨w.heap.size, 3, none⟩ x3).setCell ⟨w.heap.size, 4, none⟩ x4) := fun V h x0 x1 x2 x3 x4 => ((((h.setCell (p := ⟨w.heap.size, 0, none⟩) (by simp) _).setCell (p := ⟨w.heap.size, 1, none⟩) (by simp) _).setCell (p := ⟨w.heap.size, 2, none⟩) (by simp) _).setCell (p := ⟨w.heap.size, 3, none⟩) (by simp) _).setCell (p := ⟨w.heap.size, 4, none⟩) (by simp) _
  by_cases h : n < 0
  case pos =>
    have e : ovP n = whF := if_pos h
    rw [e]
    go_enter Tryz.func23, Tryz.ntmps23
    go_upto_region 1 with fail
    (try rw [hW])
    clear hW
    go_wp2_with (first | (go_at_call 62; refine (kw _).mono ?_; rintro e v1 ⟨rfl, g⟩; replace q := carryF g q; replace bW := sp_call bW g; clear g; obtain ⟨q0, q1, q2, q3, q4, qf⟩ := lj_c5 q) | fail)
    exact bodyPost_ret (v := .agg #[.bool true, .bool false, .int .u64 0, .int .u64 0, .slice none 0 0]) (by simp [results, Tryz.results23, go_sem, q0, q1, q2, q3, q4]) rfl ⟨whole_told _ _, fin _ bW _ _ _ _ _⟩
  case neg =>
    have e : ovP n = (false, (false, 0, 0), [(n, false, 4607182418800017408, 4607182418800017408)]) := if_neg h
    rw [e]
    go_enter Tryz.func23, Tryz.ntmps23
    go_upto_region 1 with fail
    (try rw [hW])
    clear hW
    go_wp2_with (first
      | (go_at_call 64; refine (kz _).mono ?_; rintro e v1 ⟨rfl, g⟩; replace q := carryF g q; replace bW := sp_call bW g; clear g)
      | (go_at_call 42; refine (ko _).mono ?_; rintro e v2 ⟨rfl, g⟩; replace q := carryF g q; replace bW := sp_call bW g; clear g; have gN := sp_new (Below.refl _ v2) (.cells #[.int .i64 n, .bool false, .int .u64 4607182418800017408, .int .u64 4607182418800017408] 100); have qN := carryF gN q; have bN := sp_call bW gN; obtain ⟨q0, q1, q2, q3, q4, qf⟩ := lj_c5 qN)
      | fail)
    have up : Up v2.heap.size (.slice (some ⟨v2.heap.size, 0, none⟩) 1 1) := fun b o k c e => by cases e; exact Nat.le_refl _
    have lt : w.heap.size < v2.heap.size := (Array.getElem?_eq_some_iff.1 q).1
    have tt : TAt (v2.alloc (.cells #[.int .i64 n, .bool false, .int .u64 4607182418800017408, .int .u64 4607182418800017408] 100)) (.slice (some ⟨v2.heap.size, 0, none⟩) 1 1) [(n, false, 4607182418800017408, 4607182418800017408)] := Or.inr ⟨v2.heap.size, 0, 1, rfl, Nat.le_refl _, fun j t hj => by
      match j, hj with
      | 0, hj => simp at hj; subst hj; simp [go_sem]⟩
    exact bodyPost_ret (v := .agg #[.bool false, .bool false, .int .u64 0, .int .u64 0, .slice (some ⟨v2.heap.size, 0, none⟩) 1 1]) (by simp [results, Tryz.results23, go_sem, q0, q1, q2, q3, q4]) rfl ⟨⟨_, rfl, ((((tt.set up lt).set up lt).set up lt).set up lt).set up lt, up.le (Nat.le_of_lt lt)⟩, fin _ bN _ _ _ _ _⟩
end Go.Proofs.YteafnkimcidkhaaGreat


namespace Go.Proofs.YteafnkimcidkhaaGreat
open Go.ChangeShapes Go.WideShapes Go.ChangeAt Go.RowKit Go.Joins Go.Deep
set_option linter.unusedVariables false
set_option linter.unusedSimpArgs false
set_option maxRecDepth 100000 in
theorem sc2 : Tryz.prog.cellsOf 2 = 1 := by kernel_rfl
section
variable {H : Type} {enc : TypeId × Value → H} {w : World} {base : Nat} {spare : Nat → Bool} {held : Bool}
end
end Go.Proofs.YteafnkimcidkhaaGreat


namespace Go.Proofs.YteafnkimcidkhaaGreat
open Go.RowKit Go.Shelf
set_option linter.unusedVariables false
set_option linter.unusedSimpArgs false
theorem few_ok {c : Bool × Int × Int} {wh : Bool} {ls : List (Int × Bool × Int × Int)} (hc : wdR c) (hw : ∀ t ∈ ls, tmW t) : fOk (wh, c, ls.take 40) := by
  refine ⟨hc, fun t ht => ?_, ?_⟩
  · have := hw t (List.mem_of_mem_take ht)
    exact ⟨this.2.1, this.2.2⟩
  · simp only [List.length_take]
    omega
end Go.Proofs.YteafnkimcidkhaaGreat


namespace Go.Proofs.YteafnkimcidkhaaGreat
open Go.RowKit
set_option linter.unusedVariables false
set_option linter.unusedSimpArgs false
theorem of_right (r : Bool × Int × Int) : frR (ofP' r) = true := by
  unfold ofP'
  split
  · rename_i h
    unfold frR fR
    rw [if_neg (by simp)]
    simp [h, rT]
  · rfl
theorem one_num : liN (false, 4607182418800017408, 4607182418800017408) = true := by decide +kernel
theorem zero_num : liN (false, 0, 0) = true := by decide +kernel
theorem ov_right (n : Int) : frR (ovP n) = true := by
  unfold ovP
  split
  · rfl
  · rename_i h
    unfold frR fR
    rw [if_neg (by simp)]
    simp only [zero_num, rT_cons, one_num]
    rw [decide_eq_false (show ¬ n ≤ -1 by omega)]
    rfl
theorem sam_self {A : Frm} (h : frR A = true) : samF A A = true := by simp [samF, h]
theorem told_sl {F : Frm} {n : Nat} {e : Ending} {w' : World} (h : Told F n e w') : ∃ p c, e = .returned (.agg #[.bool F.1, .bool F.2.1.1, .int .u64 F.2.1.2.1, .int .u64 F.2.1.2.2, .slice p F.2.2.length c]) ∧ TAt w' (.slice p F.2.2.length c) F.2.2 := by
  obtain ⟨rv, he, ht, _⟩ := h
  obtain ⟨p, c, rfl⟩ := ht.len
  exact ⟨p, c, he, ht⟩
theorem law_forms (e : Bool) (a b : Int) (wa : Word a) (wb : Word b) (n : Int) (n1 : n ≤ 9223372036854775807) (xh xe : Bool) (xa xb : Int) (s : Value) (ls : List (Int × Bool × Int × Int)) (yh ye : Bool) (ya yb : Int) (t : Value) (lt : List (Int × Bool × Int × Int)) (wd : Word xa ∧ Word xb ∧ Word ya ∧ Word yb) (hw : ∀ t ∈ ls, tmW t) (hv : ∀ t ∈ lt, tmW t) (w : World) (hT : TAt w s ls ∧ TAt w t lt) :
    Calls Tryz.prog 4 #[.agg #[.bool e, .int .u64 a, .int .u64 b], .int .i64 n, .agg #[.bool xh, .bool xe, .int .u64 xa, .int .u64 xb, s, .bool yh, .bool ye, .int .u64 ya, .int .u64 yb, t]] w fun e w' => e = .returned (.bool true) ∧ Below w.heap.size w w' := by
  have hr : wdR (e, a, b) := ⟨wa, wb⟩
  have oX : fOk (xh, (xe, xa, xb), ls.take 40) := few_ok ⟨wd.1, wd.2.1⟩ hw
  have oY : fOk (yh, (ye, ya, yb), lt.take 40) := few_ok ⟨wd.2.2.1, wd.2.2.2⟩ hv
  have o1 := ofP_ok' hr
  have o2 := ovP_ok n1
  have s1 := sam_self (of_right (e, a, b))
  have s2 := sam_self (ov_right n)
  have nl : ∀ V, TAt V (.slice none 0 0) (ofP' (e, a, b)).2.2 := fun V => Or.inl ⟨rfl, by unfold ofP'; split <;> rfl⟩
  refine lifo e a b n xh xe xa xb s ls yh ye ya yb t lt (ls.take 40) (lt.take 40) (ofP' (e, a, b)).1 (ofP' (e, a, b)).2.1.1 (ofP' (e, a, b)).2.1.2.1 (ofP' (e, a, b)).2.1.2.2 (ovP n).1 (ovP n).2.1.1 (ovP n).2.1.2.1 (ovP n).2.1.2.2 (ovP n).2.2 (frR (xh, (xe, xa, xb), ls.take 40)) (samF (xh, (xe, xa, xb), ls.take 40) (yh, (ye, ya, yb), lt.take 40))
    (fun V h => fewB xh xe xa xb s ls V h) (fun V h => fewB yh ye ya yb t lt V h) lilive_any (fun V => form_of (e, a, b) hr V) (fun V => rof9 (e, a, b) hr V)
    (fun V => ?_) (fun V => (form_var n V).mono fun e w' k => ⟨told_sl k.1, k.2⟩) (fun V => (rofvar9 n V).mono fun e w' k => ⟨told_sl k.1, k.2⟩) (fun V v u h1 h2 => ?_)
    (fun V v h => form_right (xh, (xe, xa, xb), ls.take 40) oX v V h) (fun V v h => (rref9 (xh, (xe, xa, xb), ls.take 40) v oX.2.2 V h).mono fun e w' k => ⟨told_sl k.1, k.2⟩) (fun V v h => rrightA (xh, (xe, xa, xb), ls.take 40) oX v V h)
    (fun V v u h1 h2 => form_same (xh, (xe, xa, xb), ls.take 40) (yh, (ye, ya, yb), lt.take 40) oX oY v u V h1 h2) (fun V v h => (rref9 (yh, (ye, ya, yb), lt.take 40) v oY.2.2 V h).mono fun e w' k => ⟨told_sl k.1, k.2⟩) (fun V v u h1 h2 => rsame9 (xh, (xe, xa, xb), ls.take 40) (yh, (ye, ya, yb), lt.take 40) oX oY v u V h1 h2) w hT.1 hT.2
  · have := lsame9 (ofP' (e, a, b)) (ofP' (e, a, b)) o1 o1 _ _ V (nl V) (nl V)
    rw [s1] at this
    exact this
  · have := lsame9 (ovP n) (ovP n) o2 o2 v u V h1 h2
    rw [s2] at this
    exact this
end Go.Proofs.YteafnkimcidkhaaGreat


namespace Go.Proofs.YteafnkimcidkhaaGreat
open Go.ChangeShapes Go.WideShapes Go.ChangeAt Go.RowKit Go.Joins Go.Deep
set_option linter.unusedVariables false
set_option linter.unusedSimpArgs false
section
variable {H : Type} {enc : TypeId × Value → H} {W : World}
set_option maxRecDepth 100000 in
theorem gct : Tryz.prog.cellTypes Tryz.prog.depth 32 = some [4, 4, 22, 22, 29, 4, 4, 22, 22, 29] := by kernel_rfl
set_option maxRecDepth 100000 in
theorem gcs : Tryz.prog.cellsOf 32 = 10 := by kernel_rfl
set_option maxRecDepth 100000 in
theorem gc1 : Tryz.prog.cellsOf 31 = 5 := by kernel_rfl
set_option maxRecDepth 100000 in
theorem tr_form {base : Nat} {sp : Nat → Bool} {hd : Bool} {n : Nat} {c0 c1 c2 c3 c4 : Value} {y : DataW H × List MemPlace} (hs : ∀ a l c, c4 = .slice (some a) l c → a.spot = none) (hf : DataW.trod enc Tryz.prog W 0 (fun _ => true) true n 31 [c0, c1, c2, c3, c4] = some y) :
    ∃ (wh e : Bool) (a b : Int) (ls : List (Int × Bool × Int × Int)), c0 = .bool wh ∧ c1 = .bool e ∧ c2 = .int .u64 a ∧ c3 = .int .u64 b ∧ Word a ∧ Word b ∧ TAt W c4 ls ∧ (∀ t ∈ ls, tmW t) ∧ ∀ x ∈ y.2, x.block < W.heap.size := by
  obtain ⟨y0, y1, y2, n0, hx, _, h0, h1, h2⟩ := trod_struct3 Tryz.underlying31 hf
  simp only [Value.cells, sc4, sc24, lsc3] at h0 h1 h2
  obtain ⟨wh, rfl, rfl⟩ := sp_bool h0
  obtain ⟨e, a, b, ec, hy, wa, wb⟩ := tr_fr (by simp) h1
  simp at ec
  obtain ⟨rfl, rfl, rfl⟩ := ec
  obtain ⟨ls, hT, hw, hp⟩ := tr_terms hs (by simpa using h2)
  refine ⟨wh, e, a, b, ls, rfl, rfl, rfl, rfl, wa, wb, hT, hw, fun x hxx => ?_⟩
  rw [hx] at hxx
  simp only [hy] at hxx
  simp at hxx
  exact hp x hxx
set_option maxRecDepth 100000 in
theorem open_a2form {base : Nat} {v : Value} {d : DataW H} {p : List MemPlace} (hv : Value.okWide Tryz.prog W .any base 32 v) (h : DataW.Trod enc Tryz.prog W 0 (fun _ => true) true 32 v d p) :
    ∃ (wh e : Bool) (a b : Int) (s : Value) (ls : List (Int × Bool × Int × Int)) (wh' e' : Bool) (a' b' : Int) (s' : Value) (ls' : List (Int × Bool × Int × Int)), v = .agg #[.bool wh, .bool e, .int .u64 a, .int .u64 b, s, .bool wh', .bool e', .int .u64 a', .int .u64 b', s'] ∧ (Word a ∧ Word b ∧ Word a' ∧ Word b') ∧ (TAt W s ls ∧ TAt W s' ls') ∧ (∀ t ∈ ls, tmW t) ∧ (∀ t ∈ ls', tmW t) ∧ ∀ x ∈ p, x.block < W.heap.size := by
  have hv0 := hv
  simp only [Value.okWide, Tryz.underlying32] at hv0
  obtain ⟨cs, rfl, hsz, ts, hts, _, hrow⟩ := hv0
  rw [gct] at hts
  cases hts
  rw [gcs] at hsz
  obtain ⟨c0, c1, c2, c3, c4, d0, d1, d2, d3, d4, rfl⟩ : ∃ c0 c1 c2 c3 c4 d0 d1 d2 d3 d4, cs = #[c0, c1, c2, c3, c4, d0, d1, d2, d3, d4] := by
    obtain ⟨l⟩ := cs
    match l, hsz with
    | [c0, c1, c2, c3, c4, d0, d1, d2, d3, d4], _ => exact ⟨c0, c1, c2, c3, c4, d0, d1, d2, d3, d4, rfl⟩
  obtain ⟨fuel, hf⟩ := h
  simp only [Value.cells] at hf
  obtain ⟨xs, k, rfl, hx, hlen, hxl, hall⟩ := DataW.trod_array Tryz.underlying32 hf
  have s4 : ∀ a l c, c4 = .slice (some a) l c → a.spot = none := by
    intro a l c e4
    obtain ⟨u, hu, ho⟩ := hrow 4 c4 (by simp)
    simp at hu
    subst hu
    subst e4
    simp [Cell.okWide, Cell.ok, World.has, Tryz.underlying29] at ho
    exact ho.2.2.2.1
  have s9 : ∀ a l c, d4 = .slice (some a) l c → a.spot = none := by
    intro a l c e4
    obtain ⟨u, hu, ho⟩ := hrow 9 d4 (by simp)
    simp at hu
    subst hu
    subst e4
    simp [Cell.okWide, Cell.ok, World.has, Tryz.underlying29] at ho
    exact ho.2.2.2.1
  obtain ⟨y0, y1, rfl⟩ : ∃ y0 y1, xs = [y0, y1] := by
    match xs, hxl with
    | [a, b], _ => exact ⟨a, b, rfl⟩
  have q0 := hall 0 (by omega)
  have q1 := hall 1 (by omega)
  rw [gc1] at q0 q1
  simp at q0 q1
  obtain ⟨wh, e, a, b, ls, rfl, rfl, rfl, rfl, wa, wb, hT, hw, hp⟩ := tr_form (sp := fun _ => true) (hd := true) (base := 0) s4 q0
  obtain ⟨wh', e', a', b', ls', rfl, rfl, rfl, rfl, wa', wb', hT', hw', hp'⟩ := tr_form (sp := fun _ => true) (hd := true) (base := 0) s9 q1
  refine ⟨wh, e, a, b, c4, ls, wh', e', a', b', d4, ls', rfl, ⟨wa, wb, wa', wb'⟩, ⟨hT, hT'⟩, hw, hw', fun x hxp => ?_⟩
  simp only [Prod.mk.injEq] at hx
  rw [hx.2] at hxp
  simp at hxp
  rcases hxp with h | h
  · exact hp x h
  · exact hp' x h
end
end Go.Proofs.YteafnkimcidkhaaGreat


