/- linear.firstVar, taken. -/
import Derived.Test.YteafnkimcidkhaaGreatLiC
namespace Go.Proofs.YteafnkimcidkhaaGreat
open Go.RowKit
set_option linter.unusedVariables false
set_option linter.unusedSimpArgs false
/-- The first variable; its Coef, and the terms behind it. -/
def fv : List (Int × Bool × Int × Int) → Int
  | [] => 9223372036854775807
  | t :: _ => t.1
def tk (ls : List (Int × Bool × Int × Int)) (q : Int) : (Bool × Int × Int) × List (Int × Bool × Int × Int) := match ls with
  | [] => ((false, 0, 0), [])
  | t :: ts => if t.1 = q then (t.2, ts) else ((false, 0, 0), t :: ts)
theorem TAt.tail {W : World} {b o cap : Nat} {t : Int × Bool × Int × Int} {ts : List (Int × Bool × Int × Int)} (h : TAt W (.slice (some ⟨b, o, none⟩) (ts.length + 1) cap) (t :: ts)) : TAt W (.slice (some ⟨b, o + 4, none⟩) ts.length (cap - 1)) ts := by
  rcases h with ⟨h, _⟩ | ⟨b', o', cap', e, hc, h⟩
  · cases h
  · simp only [List.length_cons, Value.slice.injEq, Option.some.injEq, Addr.mk.injEq] at e
    obtain ⟨⟨rfl, rfl, _⟩, _, rfl⟩ := e
    refine Or.inr ⟨b, o + 4, cap - 1, rfl, by simp only [List.length_cons] at hc; omega, fun j x hj => ?_⟩
    have := h (j + 1) x (by simpa using hj)
    rw [show o + (j + 1) * 4 = o + 4 + j * 4 by omega] at this
    exact this
set_option maxRecDepth 100000 in
set_option maxHeartbeats 6400000 in
theorem lifirst (ls : List (Int × Bool × Int × Int)) (hn : ls.length ≤ 1000) (v : Value) (w : World) (hv : TAt w v ls) :
    Calls Tryz.prog 167 #[v] w fun e w' => e = .returned (.int .i64 (fv ls)) ∧ w' = w := by
  rcases hv with ⟨rfl, rfl⟩ | ⟨b, o, cap, rfl, hc, ht⟩
  · go_enter Tryz.func167, Tryz.ntmps167
    go_wp2_with fail
    go_ret
    exact ⟨rfl, rfl⟩
  · cases ls with
    | nil =>
      go_enter Tryz.func167, Tryz.ntmps167
      go_wp2_with fail
      go_ret
      exact ⟨rfl, rfl⟩
    | cons t ts =>
      obtain ⟨c0, _⟩ := ht 0 t rfl
      simp only [Nat.zero_mul, Nat.add_zero] at c0
      have l1 : (t :: ts).length = ts.length + 1 := rfl
      rw [l1] at hc hn ⊢
      have z1 : ¬ ((ts.length : Int) + 1 = 0) := by omega
      have z2 : (0 : Int) < (ts.length : Int) + 1 := by omega
      clear ht l1
      go_enter Tryz.func167, Tryz.ntmps167
      go_wp2_with fail
      go_ret
      exact ⟨rfl, rfl⟩
set_option maxRecDepth 100000 in
set_option maxHeartbeats 6400000 in
theorem litaken (ls : List (Int × Bool × Int × Int)) (hn : ls.length ≤ 1000) (v : Value) (q : Int) (w : World) (hv : TAt w v ls) :
    Calls Tryz.prog 168 #[v, .int .i64 q] w fun e w' => ∃ v', e = .returned (.tuple #[.agg #[.bool (tk ls q).1.1, .int .u64 (tk ls q).1.2.1, .int .u64 (tk ls q).1.2.2], v']) ∧ (∀ W0, TAt W0 v ls → TAt W0 v' (tk ls q).2) ∧ Below w.heap.size w w' := by
  have bW := fun o => sp_new (Below.refl _ w) o
  rcases hv with ⟨rfl, rfl⟩ | ⟨b, o, cap, rfl, hc, ht⟩
  · go_enter Tryz.func168, Tryz.ntmps168
    go_wp2_with fail
    exact bodyPost_ret (v := .tuple #[.agg #[.bool false, .int .u64 0, .int .u64 0], .slice none 0 0]) (by simp [results, Tryz.results168, go_sem]) rfl ⟨_, rfl, fun W0 h => h, sp_new (Below.refl _ _) _⟩
  · cases ls with
    | nil =>
      go_enter Tryz.func168, Tryz.ntmps168
      go_wp2_with fail
      exact bodyPost_ret (v := .tuple #[.agg #[.bool false, .int .u64 0, .int .u64 0], .slice (some ⟨b, o, none⟩) 0 cap]) (by simp [results, Tryz.results168, go_sem]) rfl ⟨_, rfl, fun W0 h => h, sp_new (Below.refl _ _) _⟩
    | cons t ts =>
      obtain ⟨c0, c1, c2, c3⟩ := ht 0 t rfl
      simp only [Nat.zero_mul, Nat.add_zero] at c0 c1 c2 c3
      have l1 : (t :: ts).length = ts.length + 1 := rfl
      rw [l1] at hc hn ⊢
      have z1 : ¬ ((ts.length : Int) + 1 = 0) := by omega
      have z2 : (0 : Int) < (ts.length : Int) + 1 := by omega
      have z3 : decide ((ts.length : Int) + 1 = 0) = false := decide_eq_false z1
      clear ht l1
      obtain ⟨tv, te, tl, th⟩ := t
      dsimp only at *
      by_cases hq : tv = q
      · subst hq
        have e1 : tk ((tv, te, tl, th) :: ts) tv = ((te, tl, th), ts) := by unfold tk; simp
        rw [e1]
        have hT := fun W0 => TAt.tail (W := W0) (b := b) (o := o) (cap := cap) (t := (tv, te, tl, th)) (ts := ts)
        by_cases hc1 : cap = 1
        · subst hc1
          have lt : ts.length = 0 := by omega
          have ets : ts = [] := List.length_eq_zero_iff.1 lt
          subst ets
          have hT0 : ∀ W0, TAt W0 (.slice (some ⟨b, o, none⟩) (([] : List (Int × Bool × Int × Int)).length + 1) 1) [(tv, te, tl, th)] → TAt W0 (.slice (some ⟨b, o, none⟩) 0 0) [] := fun W0 _ => Or.inr ⟨b, o, 0, rfl, Nat.le_refl _, fun j t hj => by simp at hj⟩
          clear hT lt z1 z2 z3
          go_enter Tryz.func168, Tryz.ntmps168
          go_upto_region 1 with fail
          obtain ⟨W, hW⟩ : ∃ W, (w.alloc (.cells #[.bool false, .int .u64 0, .int .u64 0] 24)) = W := ⟨_, rfl⟩
          have r0 : W.cell? ⟨w.heap.size, 0, none⟩ = some (.bool false) := by rw [← hW]; simp [go_sem]
          have r1 : W.cell? ⟨w.heap.size, 1, none⟩ = some (.int .u64 0) := by rw [← hW]; simp [go_sem]
          have r2 : W.cell? ⟨w.heap.size, 2, none⟩ = some (.int .u64 0) := by rw [← hW]; simp [go_sem]
          have bW : Below w.heap.size w W := by rw [← hW]; exact (sp_new (Below.refl _ _) _)
          have zW : W.heap.size = w.heap.size + 1 := by rw [← hW]; simp
          have fz : ∀ j, W.frozen? ⟨w.heap.size, j, none⟩ = false := by intro j; rw [← hW]; simp [go_sem]
          rw [hW]
          clear hW
          replace zW := Nat.le_of_eq zW.symm
          replace c0 := sp_cell_on bW c0; replace c1 := sp_cell_on bW c1; replace c2 := sp_cell_on bW c2; replace c3 := sp_cell_on bW c3
          go_upto_region 3 with fail
          go_region
          all_goals go_wp2
          all_goals exact bodyPost_ret (v := .tuple #[.agg #[.bool te, .int .u64 tl, .int .u64 th], .slice (some ⟨b, o, none⟩) 0 0]) (by simp [results, Tryz.results168, go_sem, r0, r1, r2]) rfl ⟨_, rfl, hT0, (sp_set3 bW (by omega) _ _ _).drew⟩
        · have hc2 : 2 ≤ cap := by omega
          have hc3 : ¬ ((cap : Int) - 1 = 0) := by omega
          have hc4 : ¬ (cap - 1 = 0) := by omega
          go_enter Tryz.func168, Tryz.ntmps168
          go_upto_region 1 with fail
          obtain ⟨W, hW⟩ : ∃ W, (w.alloc (.cells #[.bool false, .int .u64 0, .int .u64 0] 24)) = W := ⟨_, rfl⟩
          have r0 : W.cell? ⟨w.heap.size, 0, none⟩ = some (.bool false) := by rw [← hW]; simp [go_sem]
          have r1 : W.cell? ⟨w.heap.size, 1, none⟩ = some (.int .u64 0) := by rw [← hW]; simp [go_sem]
          have r2 : W.cell? ⟨w.heap.size, 2, none⟩ = some (.int .u64 0) := by rw [← hW]; simp [go_sem]
          have bW : Below w.heap.size w W := by rw [← hW]; exact (sp_new (Below.refl _ _) _)
          have zW : W.heap.size = w.heap.size + 1 := by rw [← hW]; simp
          have fz : ∀ j, W.frozen? ⟨w.heap.size, j, none⟩ = false := by intro j; rw [← hW]; simp [go_sem]
          rw [hW]
          clear hW
          replace zW := Nat.le_of_eq zW.symm
          replace c0 := sp_cell_on bW c0; replace c1 := sp_cell_on bW c1; replace c2 := sp_cell_on bW c2; replace c3 := sp_cell_on bW c3
          go_upto_region 3 with fail
          go_region
          all_goals go_wp2
          all_goals exact bodyPost_ret (v := .tuple #[.agg #[.bool te, .int .u64 tl, .int .u64 th], .slice (some ⟨b, o + 4, none⟩) ts.length (cap - 1)]) (by simp [results, Tryz.results168, go_sem, r0, r1, r2]) rfl ⟨_, rfl, hT, (sp_set3 bW (by omega) _ _ _).drew⟩
      · have e1 : tk ((tv, te, tl, th) :: ts) q = ((false, 0, 0), (tv, te, tl, th) :: ts) := by unfold tk; simp [hq]
        rw [e1]
        have hq1 : (tv == q) = false := by simpa using hq
        have hq2 : (tv != q) = true := by simp [bne, hq1]
        go_enter Tryz.func168, Tryz.ntmps168
        go_upto_region 1 with fail
        obtain ⟨W, hW⟩ : ∃ W, (w.alloc (.cells #[.bool false, .int .u64 0, .int .u64 0] 24)) = W := ⟨_, rfl⟩
        have r0 : W.cell? ⟨w.heap.size, 0, none⟩ = some (.bool false) := by rw [← hW]; simp [go_sem]
        have r1 : W.cell? ⟨w.heap.size, 1, none⟩ = some (.int .u64 0) := by rw [← hW]; simp [go_sem]
        have r2 : W.cell? ⟨w.heap.size, 2, none⟩ = some (.int .u64 0) := by rw [← hW]; simp [go_sem]
        have bW : Below w.heap.size w W := by rw [← hW]; exact (sp_new (Below.refl _ _) _)
        have zW : W.heap.size = w.heap.size + 1 := by rw [← hW]; simp
        have fz : ∀ j, W.frozen? ⟨w.heap.size, j, none⟩ = false := by intro j; rw [← hW]; simp [go_sem]
        rw [hW]
        clear hW
        replace zW := Nat.le_of_eq zW.symm
        replace c0 := sp_cell_on bW c0; replace c1 := sp_cell_on bW c1; replace c2 := sp_cell_on bW c2; replace c3 := sp_cell_on bW c3
        go_wp2_with fail
        exact bodyPost_ret (v := .tuple #[.agg #[.bool false, .int .u64 0, .int .u64 0], .slice (some ⟨b, o, none⟩) (ts.length + 1) cap]) (by simp [results, Tryz.results168, go_sem, r0, r1, r2]) rfl ⟨_, rfl, fun W0 h => h, sp_set3 bW (by omega) _ _ _⟩
end Go.Proofs.YteafnkimcidkhaaGreat
