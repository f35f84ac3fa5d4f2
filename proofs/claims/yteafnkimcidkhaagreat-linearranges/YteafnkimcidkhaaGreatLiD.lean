/- linear.Right, isBounded, firstVar, taken. -/
import Derived.Test.YteafnkimcidkhaaGreatLiC
namespace Go.Proofs.YteafnkimcidkhaaGreat
open Go.RowKit
set_option linter.unusedVariables false
set_option linter.unusedSimpArgs false
/-- A form is right. -/
def fR (N Z : Bool × Int × Int → Bool) (wh : Bool) (c : Bool × Int × Int) (ls : List (Int × Bool × Int × Int)) : Bool := if wh then decide (c = (false, 0, 0) ∧ ls = []) else N c && (decide (ls.length ≤ 16) && rT N Z (-1) ls)
theorem TAt.len {W : World} {v : Value} {ls : List (Int × Bool × Int × Int)} (h : TAt W v ls) : ∃ (p : Option Addr) (cap : Nat), v = .slice p ls.length cap := by
  rcases h with ⟨rfl, rfl⟩ | ⟨b, o, cap, rfl, hc, h⟩
  · exact ⟨none, 0, rfl⟩
  · exact ⟨_, cap, rfl⟩
set_option maxRecDepth 100000 in
set_option maxHeartbeats 6400000 in
theorem liright (N Z : Bool × Int × Int → Bool) (wh ce : Bool) (cl ch : Int) (ls : List (Int × Bool × Int × Int)) (hn : ls.length ≤ 1000) (v : Value) (k1 : ∀ V, Calls Tryz.prog 60 #[.agg #[.bool ce, .int .u64 cl, .int .u64 ch]] V fun e w' => e = .returned (.bool (N (ce, cl, ch))) ∧ Below V.heap.size V w') (k2 : ∀ V, TAt V v ls → Calls Tryz.prog 65 #[v] V fun e w' => e = .returned (.bool (decide (ls.length ≤ 16) && rT N Z (-1) ls)) ∧ Below V.heap.size V w') (w : World) (hv : TAt w v ls) :
    Calls Tryz.prog 24 #[.agg #[.bool wh, .bool ce, .int .u64 cl, .int .u64 ch, v]] w fun e w' => e = .returned (.bool (fR N Z wh (ce, cl, ch) ls)) ∧ Below w.heap.size w w' := by
  obtain ⟨p, cap, rfl⟩ := hv.len
  unfold fR
  cases wh
  · simp only [Bool.false_eq_true, if_false]
    generalize N (ce, cl, ch) = nb at *
    generalize hR : (decide (ls.length ≤ 16) && rT N Z (-1) ls) = R at *
    clear hR
    have bW := sp_new (Below.refl _ w) (Obj.cells #[.bool false, .bool ce, .int .u64 cl, .int .u64 ch, .slice p ls.length cap] 31 (0, 0))
    have hv2 := hv.on bW
    cases nb
    · go_enter Tryz.func24, Tryz.ntmps24
      go_wp2_with (first
        | (go_at_call 60; (with_reducible refine (k1 _).mono ?_); rintro e v1 ⟨rfl, g1⟩)
        | fail)
      go_ret
      exact ⟨rfl, sp_call bW g1⟩
    · go_enter Tryz.func24, Tryz.ntmps24
      go_wp2_with (first
        | (go_at_call 60; (with_reducible refine (k1 _).mono ?_); rintro e v1 ⟨rfl, g1⟩; have hv3 := hv2.on g1; have n4 := sp_cell_on g1 (show World.cell? _ ⟨w.heap.size, 4, none⟩ = some (.slice p ls.length cap) by simp [go_sem]))
        | (go_at_call 65; (with_reducible refine (k2 _ hv3).mono ?_); rintro e v2 ⟨rfl, g2⟩)
        | fail)
      go_ret
      exact ⟨by first | rfl | simp, sp_call (sp_call bW g1) g2⟩
  · simp only [if_true]
    by_cases h : (ce, cl, ch) = (false, 0, 0) ∧ ls = []
    · rw [decide_eq_true h]
      obtain ⟨h1, rfl⟩ := h
      simp only [Prod.mk.injEq] at h1
      obtain ⟨rfl, rfl, rfl⟩ := h1
      go_enter Tryz.func24, Tryz.ntmps24
      go_wp2_with fail
      go_ret
      exact ⟨by first | rfl | simp, sp_new (Below.refl _ _) _⟩
    · rw [decide_eq_false h]
      by_cases hc : (ce, cl, ch) = (false, 0, 0)
      · have hl : ¬ ls.length = 0 := fun q => h ⟨hc, List.length_eq_zero_iff.1 q⟩
        have hl' : ¬ (ls.length : Int) = 0 := by omega
        have hl2 : decide ((ls.length : Int) = 0) = false := decide_eq_false hl'
        simp only [Prod.mk.injEq] at hc
        obtain ⟨rfl, rfl, rfl⟩ := hc
        clear h
        go_enter Tryz.func24, Tryz.ntmps24
        go_wp2_with fail
        go_ret
        exact ⟨by first | rfl | simp [hl], sp_new (Below.refl _ _) _⟩
      · clear h
        go_enter Tryz.func24, Tryz.ntmps24
        go_wp2_with fail
        all_goals first | (go_ret; exact ⟨rfl, sp_new (Below.refl _ _) _⟩) | (exfalso; simp_all; done)
set_option maxRecDepth 100000 in
set_option maxHeartbeats 6400000 in
theorem libound (wh ce : Bool) (cl ch : Int) (p : Option Addr) (k cap : Nat) (ok : World → Prop) (hok : ∀ W V, ok W → Below W.heap.size W V → ok V) (r : Bool) (k1 : ∀ V, ok V → Calls Tryz.prog 24 #[.agg #[.bool wh, .bool ce, .int .u64 cl, .int .u64 ch, .slice p k cap]] V fun e w' => e = .returned (.bool r) ∧ Below V.heap.size V w') (w : World) (hw : ok w) :
    Calls Tryz.prog 73 #[.agg #[.bool wh, .bool ce, .int .u64 cl, .int .u64 ch, .slice p k cap]] w fun e w' => e = .returned (.bool (r && !wh)) ∧ Below w.heap.size w w' := by
  have bW := sp_new (Below.refl _ w) (Obj.cells #[.bool wh, .bool ce, .int .u64 cl, .int .u64 ch, .slice p k cap] 31 (0, 0))
  have hw2 := hok _ _ hw bW
  cases r
  · go_enter Tryz.func73, Tryz.ntmps73
    go_wp2_with (first
      | (go_at_call 24; (with_reducible refine (k1 _ hw2).mono ?_); rintro e v1 ⟨rfl, g1⟩)
      | fail)
    go_ret
    exact ⟨rfl, sp_call bW g1⟩
  · go_enter Tryz.func73, Tryz.ntmps73
    go_wp2_with (first
      | (go_at_call 24; (with_reducible refine (k1 _ hw2).mono ?_); rintro e v1 ⟨rfl, g1⟩; have n0 := sp_cell_on g1 (show World.cell? _ ⟨w.heap.size, 0, none⟩ = some (.bool wh) by simp [go_sem]))
      | fail)
    go_ret
    exact ⟨by first | rfl | simp, sp_call bW g1⟩
end Go.Proofs.YteafnkimcidkhaaGreat
