/- Texts of the proof, put together. -/
import Derived.Test.YteafnkimcidkhaaGreatYRG1
namespace Go.Proofs.YteafnkimcidkhaaGreat
open Go.RowKit
set_option linter.unusedVariables false
set_option linter.unusedSimpArgs false
def TAt (W : World) (v : Value) (ls : List (Int × Bool × Int × Int)) : Prop := (v = .slice none 0 0 ∧ ls = []) ∨ ∃ (b o cap : Nat), v = .slice (some ⟨b, o, none⟩) ls.length cap ∧ ls.length ≤ cap ∧ ∀ (j : Nat) t, ls[j]? = some t → W.cell? ⟨b, o + j * 4, none⟩ = some (.int .i64 t.1) ∧ W.cell? ⟨b, o + j * 4 + 1, none⟩ = some (.bool t.2.1) ∧ W.cell? ⟨b, o + j * 4 + 2, none⟩ = some (.int .u64 t.2.2.1) ∧ W.cell? ⟨b, o + j * 4 + 3, none⟩ = some (.int .u64 t.2.2.2)
theorem TAt.on {W V : World} {v : Value} {ls : List (Int × Bool × Int × Int)} (h : TAt W v ls) (g : Below W.heap.size W V) : TAt V v ls := by
 rcases h with h | ⟨b, o, cap, rfl, hc, h⟩
 ·exact Or.inl h
 ·exact Or.inr ⟨b, o, cap, rfl, hc, fun j t hj => by
  obtain ⟨h0, h1, h2, h3⟩ := h j t hj
  exact ⟨sO g h0, sO g h1, sO g h2, sO g h3⟩⟩
theorem TAt.but {S : Nat → Prop} {W V : World} {v : Value} {ls : List (Int × Bool × Int × Int)} (h : TAt W v ls) (g : But S W V) (hS : ∀ k, S k → W.heap.size ≤ k) : TAt V v ls := by
 rcases h with h | ⟨b, o, cap, rfl, hc, h⟩
 ·exact Or.inl h
 ·refine Or.inr ⟨b, o, cap, rfl, hc, fun j t hj => ?_⟩
  obtain ⟨h0, h1, h2, h3⟩ := h j t hj
  have lb : b < W.heap.size := World.block_lt_of_cell? W _ h0
  have ns : ¬ S b := fun q => absurd (hS b q) (by omega)
  exact ⟨g.cell ns h0, g.cell ns h1, g.cell ns h2, g.cell ns h3⟩
def rT (N Z : Bool × Int × Int → Bool) : Int → List (Int × Bool × Int × Int) → Bool
 | _, [] => true
 | q, t :: ls => !decide (t.1 ≤ q) && N t.2 && !Z t.2 && rT N Z t.1 ls
theorem rT_cons (N Z : Bool × Int × Int → Bool) (q : Int) (t : Int × Bool × Int × Int) (ls : List (Int × Bool × Int × Int)) : rT N Z q (t :: ls) = (!decide (t.1 ≤ q) && N t.2 && !Z t.2 && rT N Z t.1 ls) := rfl
set_option maxRecDepth 100000 in
set_option maxHeartbeats 6400000 in
theorem liwhole (w : World) : Calls Tryz.prog 61 #[] w fun e w' => e = .returned (.agg #[.bool true, .bool false, .int .u64 0, .int .u64 0, .slice none 0 0]) ∧ Below w.heap.size w w' := by
 go_enter Tryz.func61, Tryz.ntmps61
 go_wp2_with fail
 exact bodyPost_ret (v := .agg #[.bool true, .bool false, .int .u64 0, .int .u64 0, .slice none 0 0]) (by simp [results, Tryz.results61, go_sem]) rfl ⟨rfl, sp_new (Below.refl _ _) _⟩
set_option maxRecDepth 100000 in
set_option maxHeartbeats 6400000 in
theorem litms (N Z : Bool × Int × Int → Bool) (ls : List (Int × Bool × Int × Int)) (hn : ls.length ≤ 1000) (v : Value) (hN : ∀ t ∈ ls, ∀ V, Calls Tryz.prog 60 #[.agg #[.bool t.2.1, .int .u64 t.2.2.1, .int .u64 t.2.2.2]] V fun e w' => e = .returned (.bool (N t.2)) ∧ Below V.heap.size V w') (hZ : ∀ t ∈ ls, ∀ V, Calls Tryz.prog 120 #[.agg #[.bool t.2.1, .int .u64 t.2.2.1, .int .u64 t.2.2.2]] V fun e w' => e = .returned (.bool (Z t.2)) ∧ Below V.heap.size V w') (w : World) (hv : TAt w v ls) :
  Calls Tryz.prog 65 #[v] w fun e w' => e = .returned (.bool (decide (ls.length ≤ 16) && rT N Z (-1) ls)) ∧ Below w.heap.size w w' := by
 rcases hv with ⟨rfl, rfl⟩ | ⟨b, o, cap, rfl, hcap, ht⟩
 ·go_enter Tryz.func65, Tryz.ntmps65
  go_wp2_with fail
  refine wp_loop_rounds 1 ?_
  rw [rounds_succ]
  go_wp2_with fail
  go_ret
  exact ⟨rfl, Below.refl _ _⟩
 by_cases h16 : ls.length ≤ 16
 ·rw [decide_eq_true h16, Bool.true_and]
  obtain ⟨R, HR⟩ : ∃ R, Hid (rT N Z (-1) ls = R) := ⟨_, rfl⟩
  rw [HR.out]
  have h16' : ¬ (16 : Int) < (ls.length : Int) := by omega
  go_enter Tryz.func65, Tryz.ntmps65
  go_wp2_with fail
  go_loopw [3, 11] (fun bh i wr => ∃ (WR : World) (j : Nat) (q : Int), WR = wr ∧ j ≤ ls.length ∧ bh = .int .i64 q ∧ i = .int .i64 j ∧ Hid (rT N Z q (ls.drop j) = R) ∧ Below w.heap.size w wr) (fun _ i _ => ls.length - (intOf i).toNat)
  case atStart => exact ⟨_, 0, _, rfl, by omega, rfl, rfl, HR, Below.refl _ _⟩
  case round =>
   obtain ⟨WR, j, q, rfl, hj, rfl, rfl, hr, cc⟩ := hrel
   clear HR
   by_cases cj : j < ls.length
   ·have ci : (j : Int) < (ls.length : Int) := by omega
    obtain ⟨t, et⟩ : ∃ t, ls[j]? = some t := ⟨_, List.getElem?_eq_getElem cj⟩
    obtain ⟨c0, c1, c2, c3⟩ := ht j t et
    replace c0 := sO cc c0
    replace c1 := sO cc c1
    replace c2 := sO cc c2
    replace c3 := sO cc c3
    have mt := List.mem_of_getElem? et
    have k1 := hN t mt
    have k2 := hZ t mt
    have dr : ls.drop j = t :: ls.drop (j + 1) := by
     have e1 := List.drop_eq_getElem_cons cj
     have e2 := List.getElem?_eq_getElem cj
     rw [et] at e2
     rw [e1, ← Option.some.inj e2]
    have hr2 := hr.out
    rw [dr, rT_cons] at hr2
    clear hr dr mt et ht hN hZ
    obtain ⟨tv, te, tl, th⟩ := t
    dsimp only at *
    generalize N (te, tl, th) = nb at *
    generalize Z (te, tl, th) = zb at *
    by_cases hq : tv ≤ q
    ·rw [decide_eq_true hq] at hr2
     have hR : R = false := by rw [← hr2]; simp
     clear hr2
     subst hR
     go_wp2_with fail
     go_ret
     exact ⟨rfl, sp_new cc _⟩
    ·rw [decide_eq_false hq] at hr2
     simp only [Bool.not_false, Bool.true_and] at hr2
     cases nb
     ·have hR : R = false := by rw [← hr2]; simp
      clear hr2
      subst hR
      go_wp2_with (first
       | (go_at_call 60; (with_reducible refine (k1 _).mono ?_); rintro e v1 ⟨rfl, g1⟩; have z1 := g1.size; simp only [World.size_alloc] at z1; have n0 := sO g1 (show World.cell? _ ⟨WR.heap.size, 0, none⟩ = some (.int .i64 tv) by simp [go_sem]); have n1 := sO g1 (show World.cell? _ ⟨WR.heap.size, 1, none⟩ = some (.bool te) by simp [go_sem]); have n2 := sO g1 (show World.cell? _ ⟨WR.heap.size, 2, none⟩ = some (.int .u64 tl) by simp [go_sem]); have n3 := sO g1 (show World.cell? _ ⟨WR.heap.size, 3, none⟩ = some (.int .u64 th) by simp [go_sem]); have cv := sp_call (sp_new cc _) g1; clear g1)
       | fail)
      go_ret
      exact ⟨rfl, cv⟩
     ·cases zb
      ·have HR : Hid (rT N Z tv (ls.drop (j + 1)) = R) := by rw [← hr2]; simp [Hid]
       clear hr2
       go_wp2_with (first
        | (go_at_call 60; (with_reducible refine (k1 _).mono ?_); rintro e v1 ⟨rfl, g1⟩; have z1 := g1.size; simp only [World.size_alloc] at z1; have n0 := sO g1 (show World.cell? _ ⟨WR.heap.size, 0, none⟩ = some (.int .i64 tv) by simp [go_sem]); have n1 := sO g1 (show World.cell? _ ⟨WR.heap.size, 1, none⟩ = some (.bool te) by simp [go_sem]); have n2 := sO g1 (show World.cell? _ ⟨WR.heap.size, 2, none⟩ = some (.int .u64 tl) by simp [go_sem]); have n3 := sO g1 (show World.cell? _ ⟨WR.heap.size, 3, none⟩ = some (.int .u64 th) by simp [go_sem]); have cv := sp_call (sp_new cc _) g1; clear g1)
        | (go_at_call 120; (with_reducible refine (k2 _).mono ?_); rintro e v2 ⟨rfl, g2⟩; replace n0 := sO g2 n0; replace n1 := sO g2 n1; replace n2 := sO g2 n2; replace n3 := sO g2 n3; replace cv := sp_call cv g2; clear g2)
        | fail)
       go_roundw
       case rel => exact ⟨_, j + 1, _, rfl, by omega, rfl, by go_num, HR, cv⟩
       case measure => simp [intOf]; omega
      ·have hR : R = false := by rw [← hr2]; simp
       clear hr2
       subst hR
       go_wp2_with (first
        | (go_at_call 60; (with_reducible refine (k1 _).mono ?_); rintro e v1 ⟨rfl, g1⟩; have z1 := g1.size; simp only [World.size_alloc] at z1; have n0 := sO g1 (show World.cell? _ ⟨WR.heap.size, 0, none⟩ = some (.int .i64 tv) by simp [go_sem]); have n1 := sO g1 (show World.cell? _ ⟨WR.heap.size, 1, none⟩ = some (.bool te) by simp [go_sem]); have n2 := sO g1 (show World.cell? _ ⟨WR.heap.size, 2, none⟩ = some (.int .u64 tl) by simp [go_sem]); have n3 := sO g1 (show World.cell? _ ⟨WR.heap.size, 3, none⟩ = some (.int .u64 th) by simp [go_sem]); have cv := sp_call (sp_new cc _) g1; clear g1)
        | (go_at_call 120; (with_reducible refine (k2 _).mono ?_); rintro e v2 ⟨rfl, g2⟩; replace n0 := sO g2 n0; replace n1 := sO g2 n1; replace n2 := sO g2 n2; replace n3 := sO g2 n3; replace cv := sp_call cv g2; clear g2)
        | fail)
       go_ret
       exact ⟨rfl, cv⟩
   ·have ej : j = ls.length := by omega
    subst ej
    have hR : true = R := by have := hr.out; rw [List.drop_length] at this; exact this
    subst hR
    clear hr
    go_wp2_with fail
    go_ret
    exact ⟨rfl, cc⟩
 ·rw [decide_eq_false h16, Bool.false_and]
  have h16' : (16 : Int) < (ls.length : Int) := by omega
  go_enter Tryz.func65, Tryz.ntmps65
  go_wp2_with fail
  go_ret
  exact ⟨rfl, Below.refl _ _⟩
end Go.Proofs.YteafnkimcidkhaaGreat


namespace Go.Proofs.YteafnkimcidkhaaGreat
open Go.RowKit
set_option linter.unusedVariables false
set_option linter.unusedSimpArgs false
def fv : List (Int × Bool × Int × Int) → Int
 | [] => 9223372036854775807
 | t :: _ => t.1
def tk (ls : List (Int × Bool × Int × Int)) (q : Int) : (Bool × Int × Int) × List (Int × Bool × Int × Int) := match ls with
 | [] => ((false, 0, 0), [])
 | t :: ts => if t.1 = q then (t.2, ts) else ((false, 0, 0), t :: ts)
theorem TAt.tail {W : World} {b o cap : Nat} {t : Int × Bool × Int × Int} {ts : List (Int × Bool × Int × Int)} (h : TAt W (.slice (some ⟨b, o, none⟩) (ts.length + 1) cap) (t :: ts)) : TAt W (.slice (some ⟨b, o + 4, none⟩) ts.length (cap - 1)) ts := by
 rcases h with ⟨h, _⟩ | ⟨b', o', cap', e, hc, h⟩
 ·cases h
 ·simp only [List.length_cons, Value.slice.injEq, Option.some.injEq, Addr.mk.injEq] at e
  obtain ⟨⟨rfl, rfl, _⟩, _, rfl⟩ := e
  refine Or.inr ⟨b, o + 4, cap - 1, rfl, by simp only [List.length_cons] at hc; omega, fun j x hj => ?_⟩
  have := h (j + 1) x (by simpa using hj)
  rw [show o + (j + 1) * 4 = o + 4 + j * 4 by omega] at this
  exact this
set_option maxRecDepth 100000 in
set_option maxHeartbeats 6400000 in
theorem lifirst (ls : List (Int × Bool × Int × Int)) (hn : ls.length ≤ 1000) (v : Value) (w : World) (hv : TAt w v ls) :
  Calls Tryz.prog 167 #[v] w fun e w' => e = .returned (.int .i64 (fv ls)) ∧ w' = w := by
 rcases hv with ⟨rfl, rfl⟩ | ⟨b, o, cap, rfl, hc, ht⟩
 ·go_enter Tryz.func167, Tryz.ntmps167
  go_wp2_with fail
  go_ret
  exact ⟨rfl, rfl⟩
 ·cases ls with
  | nil =>
   go_enter Tryz.func167, Tryz.ntmps167
   go_wp2_with fail
   go_ret
   exact ⟨rfl, rfl⟩
  | cons t ts =>
   obtain ⟨c0, _⟩ := ht 0 t rfl
   simp only [Nat.zero_mul, Nat.add_zero] at c0
   have l1 : (t :: ts).length = ts.length + 1 := rfl
   rw [l1] at hc hn ⊢
   have z1 : ¬ ((ts.length : Int) + 1 = 0) := by omega
   have z2 : (0 : Int) < (ts.length : Int) + 1 := by omega
   clear ht l1
   go_enter Tryz.func167, Tryz.ntmps167
   go_wp2_with fail
   go_ret
   exact ⟨rfl, rfl⟩
set_option maxRecDepth 100000 in
set_option maxHeartbeats 6400000 in
theorem litaken (ls : List (Int × Bool × Int × Int)) (hn : ls.length ≤ 1000) (v : Value) (q : Int) (w : World) (hv : TAt w v ls) :
  Calls Tryz.prog 168 #[v, .int .i64 q] w fun e w' => ∃ v', e = .returned (.tuple #[.agg #[.bool (tk ls q).1.1, .int .u64 (tk ls q).1.2.1, .int .u64 (tk ls q).1.2.2], v']) ∧ (∀ W0, TAt W0 v ls → TAt W0 v' (tk ls q).2) ∧ Below w.heap.size w w' := by
 have bW := fun o => sp_new (Below.refl _ w) o
 rcases hv with ⟨rfl, rfl⟩ | ⟨b, o, cap, rfl, hc, ht⟩
 ·go_enter Tryz.func168, Tryz.ntmps168
  go_wp2_with fail
  exact bodyPost_ret (v := .tuple #[.agg #[.bool false, .int .u64 0, .int .u64 0], .slice none 0 0]) (by simp [results, Tryz.results168, go_sem]) rfl ⟨_, rfl, fun W0 h => h, sp_new (Below.refl _ _) _⟩
 ·cases ls with
  | nil =>
   go_enter Tryz.func168, Tryz.ntmps168
   go_wp2_with fail
   exact bodyPost_ret (v := .tuple #[.agg #[.bool false, .int .u64 0, .int .u64 0], .slice (some ⟨b, o, none⟩) 0 cap]) (by simp [results, Tryz.results168, go_sem]) rfl ⟨_, rfl, fun W0 h => h, sp_new (Below.refl _ _) _⟩
  | cons t ts =>
   obtain ⟨c0, c1, c2, c3⟩ := ht 0 t rfl
   simp only [Nat.zero_mul, Nat.add_zero] at c0 c1 c2 c3
   have l1 : (t :: ts).length = ts.length + 1 := rfl
   rw [l1] at hc hn ⊢
   have z1 : ¬ ((ts.length : Int) + 1 = 0) := by omega
   have z2 : (0 : Int) < (ts.length : Int) + 1 := by omega
   have z3 : decide ((ts.length : Int) + 1 = 0) = false := decide_eq_false z1
   clear ht l1
   obtain ⟨tv, te, tl, th⟩ := t
   dsimp only at *
   by_cases hq : tv = q
   ·subst hq
    have e1 : tk ((tv, te, tl, th) :: ts) tv = ((te, tl, th), ts) := by unfold tk; simp
    rw [e1]
    have hT := fun W0 => TAt.tail (W := W0) (b := b) (o := o) (cap := cap) (t := (tv, te, tl, th)) (ts := ts)
    by_cases hc1 : cap = 1
    ·subst hc1
     have lt : ts.length = 0 := by omega
     have ets : ts = [] := List.length_eq_zero_iff.1 lt
     subst ets
     have hT0 : ∀ W0, TAt W0 (.slice (some ⟨b, o, none⟩) (([] : List (Int × Bool × Int × Int)).length + 1) 1) [(tv, te, tl, th)] → TAt W0 (.slice (some ⟨b, o, none⟩) 0 0) [] := fun W0 _ => Or.inr ⟨b, o, 0, rfl, Nat.le_refl _, fun j t hj => by simp at hj⟩
     clear hT lt z1 z2 z3
     go_enter Tryz.func168, Tryz.ntmps168
     go_upto_region 1 with fail
     obtain ⟨W, hW⟩ : ∃ W, (w.alloc (.cells #[.bool false, .int .u64 0, .int .u64 0] 24)) = W := ⟨_, rfl⟩
     have r0 : W.cell? ⟨w.heap.size, 0, none⟩ = some (.bool false) := by rw [← hW]; simp [go_sem]
     have r1 : W.cell? ⟨w.heap.size, 1, none⟩ = some (.int .u64 0) := by rw [← hW]; simp [go_sem]
     have r2 : W.cell? ⟨w.heap.size, 2, none⟩ = some (.int .u64 0) := by rw [← hW]; simp [go_sem]
     have bW : Below w.heap.size w W := by rw [← hW]; exact (sp_new (Below.refl _ _) _)
     have zW : W.heap.size = w.heap.size + 1 := by rw [← hW]; simp
     have fz : ∀ j, W.frozen? ⟨w.heap.size, j, none⟩ = false := by intro j; rw [← hW]; simp [go_sem]
     rw [hW]
     clear hW
     replace zW := Nat.le_of_eq zW.symm
     replace c0 := sO bW c0; replace c1 := sO bW c1; replace c2 := sO bW c2; replace c3 := sO bW c3
     go_upto_region 3 with fail
     go_region
     all_goals go_wp2
     all_goals exact bodyPost_ret (v := .tuple #[.agg #[.bool te, .int .u64 tl, .int .u64 th], .slice (some ⟨b, o, none⟩) 0 0]) (by simp [results, Tryz.results168, go_sem, r0, r1, r2]) rfl ⟨_, rfl, hT0, (sp_set3 bW (by omega) _ _ _).drew⟩
    ·have hc2 : 2 ≤ cap := by omega
     have hc3 : ¬ ((cap : Int) - 1 = 0) := by omega
     have hc4 : ¬ (cap - 1 = 0) := by omega
     go_enter Tryz.func168, Tryz.ntmps168
     go_upto_region 1 with fail
     obtain ⟨W, hW⟩ : ∃ W, (w.alloc (.cells #[.bool false, .int .u64 0, .int .u64 0] 24)) = W := ⟨_, rfl⟩
     have r0 : W.cell? ⟨w.heap.size, 0, none⟩ = some (.bool false) := by rw [← hW]; simp [go_sem]
     have r1 : W.cell? ⟨w.heap.size, 1, none⟩ = some (.int .u64 0) := by rw [← hW]; simp [go_sem]
     have r2 : W.cell? ⟨w.heap.size, 2, none⟩ = some (.int .u64 0) := by rw [← hW]; simp [go_sem]
     have bW : Below w.heap.size w W := by rw [← hW]; exact (sp_new (Below.refl _ _) _)
     have zW : W.heap.size = w.heap.size + 1 := by rw [← hW]; simp
     have fz : ∀ j, W.frozen? ⟨w.heap.size, j, none⟩ = false := by intro j; rw [← hW]; simp [go_sem]
     rw [hW]
     clear hW
     replace zW := Nat.le_of_eq zW.symm
     replace c0 := sO bW c0; replace c1 := sO bW c1; replace c2 := sO bW c2; replace c3 := sO bW c3
     go_upto_region 3 with fail
     go_region
     all_goals go_wp2
     all_goals exact bodyPost_ret (v := .tuple #[.agg #[.bool te, .int .u64 tl, .int .u64 th], .slice (some ⟨b, o + 4, none⟩) ts.length (cap - 1)]) (by simp [results, Tryz.results168, go_sem, r0, r1, r2]) rfl ⟨_, rfl, hT, (sp_set3 bW (by omega) _ _ _).drew⟩
   ·have e1 : tk ((tv, te, tl, th) :: ts) q = ((false, 0, 0), (tv, te, tl, th) :: ts) := by unfold tk; simp [hq]
    rw [e1]
    have hq1 : (tv == q) = false := by simpa using hq
    have hq2 : (tv != q) = true := by simp [bne, hq1]
    go_enter Tryz.func168, Tryz.ntmps168
    go_upto_region 1 with fail
    obtain ⟨W, hW⟩ : ∃ W, (w.alloc (.cells #[.bool false, .int .u64 0, .int .u64 0] 24)) = W := ⟨_, rfl⟩
    have r0 : W.cell? ⟨w.heap.size, 0, none⟩ = some (.bool false) := by rw [← hW]; simp [go_sem]
    have r1 : W.cell? ⟨w.heap.size, 1, none⟩ = some (.int .u64 0) := by rw [← hW]; simp [go_sem]
    have r2 : W.cell? ⟨w.heap.size, 2, none⟩ = some (.int .u64 0) := by rw [← hW]; simp [go_sem]
    have bW : Below w.heap.size w W := by rw [← hW]; exact (sp_new (Below.refl _ _) _)
    have zW : W.heap.size = w.heap.size + 1 := by rw [← hW]; simp
    have fz : ∀ j, W.frozen? ⟨w.heap.size, j, none⟩ = false := by intro j; rw [← hW]; simp [go_sem]
    rw [hW]
    clear hW
    replace zW := Nat.le_of_eq zW.symm
    replace c0 := sO bW c0; replace c1 := sO bW c1; replace c2 := sO bW c2; replace c3 := sO bW c3
    go_wp2_with fail
    exact bodyPost_ret (v := .tuple #[.agg #[.bool false, .int .u64 0, .int .u64 0], .slice (some ⟨b, o, none⟩) (ts.length + 1) cap]) (by simp [results, Tryz.results168, go_sem, r0, r1, r2]) rfl ⟨_, rfl, fun W0 h => h, sp_set3 bW (by omega) _ _ _⟩
end Go.Proofs.YteafnkimcidkhaaGreat


namespace Go.Proofs.YteafnkimcidkhaaGreat
open Go.RowKit
set_option linter.unusedVariables false
set_option linter.unusedSimpArgs false
def fR (N Z : Bool × Int × Int → Bool) (wh : Bool) (c : Bool × Int × Int) (ls : List (Int × Bool × Int × Int)) : Bool := if wh then decide (c = (false, 0, 0) ∧ ls = []) else N c && (decide (ls.length ≤ 16) && rT N Z (-1) ls)
theorem TAt.len {W : World} {v : Value} {ls : List (Int × Bool × Int × Int)} (h : TAt W v ls) : ∃ (p : Option Addr) (cap : Nat), v = .slice p ls.length cap := by
 rcases h with ⟨rfl, rfl⟩ | ⟨b, o, cap, rfl, hc, h⟩
 ·exact ⟨none, 0, rfl⟩
 ·exact ⟨_, cap, rfl⟩
set_option maxRecDepth 100000 in
set_option maxHeartbeats 6400000 in
theorem liright (N Z : Bool × Int × Int → Bool) (wh ce : Bool) (cl ch : Int) (ls : List (Int × Bool × Int × Int)) (hn : ls.length ≤ 1000) (v : Value) (k1 : ∀ V, Calls Tryz.prog 60 #[.agg #[.bool ce, .int .u64 cl, .int .u64 ch]] V fun e w' => e = .returned (.bool (N (ce, cl, ch))) ∧ Below V.heap.size V w') (k2 : ∀ V, TAt V v ls → Calls Tryz.prog 65 #[v] V fun e w' => e = .returned (.bool (decide (ls.length ≤ 16) && rT N Z (-1) ls)) ∧ Below V.heap.size V w') (w : World) (hv : TAt w v ls) :
  Calls Tryz.prog 24 #[.agg #[.bool wh, .bool ce, .int .u64 cl, .int .u64 ch, v]] w fun e w' => e = .returned (.bool (fR N Z wh (ce, cl, ch) ls)) ∧ Below w.heap.size w w' := by
 obtain ⟨p, cap, rfl⟩ := hv.len
 unfold fR
 cases wh
 ·simp only [Bool.false_eq_true, if_false]
  generalize N (ce, cl, ch) = nb at *
  generalize hR : (decide (ls.length ≤ 16) && rT N Z (-1) ls) = R at *
  clear hR
  have bW := sp_new (Below.refl _ w) (Obj.cells #[.bool false, .bool ce, .int .u64 cl, .int .u64 ch, .slice p ls.length cap] 31 (0, 0))
  have hv2 := hv.on bW
  cases nb
  ·go_enter Tryz.func24, Tryz.ntmps24
   go_wp2_with (first
    | (go_at_call 60; (with_reducible refine (k1 _).mono ?_); rintro e v1 ⟨rfl, g1⟩)
    | fail)
   go_ret
   exact ⟨rfl, sp_call bW g1⟩
  ·go_enter Tryz.func24, Tryz.ntmps24
   go_wp2_with (first
    | (go_at_call 60; (with_reducible refine (k1 _).mono ?_); rintro e v1 ⟨rfl, g1⟩; have hv3 := hv2.on g1; have n4 := sO g1 (show World.cell? _ ⟨w.heap.size, 4, none⟩ = some (.slice p ls.length cap) by simp [go_sem]))
    | (go_at_call 65; (with_reducible refine (k2 _ hv3).mono ?_); rintro e v2 ⟨rfl, g2⟩)
    | fail)
   go_ret
   exact ⟨by first | rfl | simp, sp_call (sp_call bW g1) g2⟩
 ·simp only [if_true]
  by_cases h : (ce, cl, ch) = (false, 0, 0) ∧ ls = []
  ·rw [decide_eq_true h]
   obtain ⟨h1, rfl⟩ := h
   simp only [Prod.mk.injEq] at h1
   obtain ⟨rfl, rfl, rfl⟩ := h1
   go_enter Tryz.func24, Tryz.ntmps24
   go_wp2_with fail
   go_ret
   exact ⟨by first | rfl | simp, sp_new (Below.refl _ _) _⟩
  ·rw [decide_eq_false h]
   by_cases hc : (ce, cl, ch) = (false, 0, 0)
   ·have hl : ¬ ls.length = 0 := fun q => h ⟨hc, List.length_eq_zero_iff.1 q⟩
    have hl' : ¬ (ls.length : Int) = 0 := by omega
    have hl2 : decide ((ls.length : Int) = 0) = false := decide_eq_false hl'
    simp only [Prod.mk.injEq] at hc
    obtain ⟨rfl, rfl, rfl⟩ := hc
    clear h
    go_enter Tryz.func24, Tryz.ntmps24
    go_wp2_with fail
    go_ret
    exact ⟨by first | rfl | simp [hl], sp_new (Below.refl _ _) _⟩
   ·clear h
    go_enter Tryz.func24, Tryz.ntmps24
    go_wp2_with fail
    all_goals first | (go_ret; exact ⟨rfl, sp_new (Below.refl _ _) _⟩) | (exfalso; simp_all; done)
set_option maxRecDepth 100000 in
set_option maxHeartbeats 6400000 in
theorem libound (wh ce : Bool) (cl ch : Int) (p : Option Addr) (k cap : Nat) (ok : World → Prop) (hok : ∀ W V, ok W → Below W.heap.size W V → ok V) (r : Bool) (k1 : ∀ V, ok V → Calls Tryz.prog 24 #[.agg #[.bool wh, .bool ce, .int .u64 cl, .int .u64 ch, .slice p k cap]] V fun e w' => e = .returned (.bool r) ∧ Below V.heap.size V w') (w : World) (hw : ok w) :
  Calls Tryz.prog 73 #[.agg #[.bool wh, .bool ce, .int .u64 cl, .int .u64 ch, .slice p k cap]] w fun e w' => e = .returned (.bool (r && !wh)) ∧ Below w.heap.size w w' := by
 have bW := sp_new (Below.refl _ w) (Obj.cells #[.bool wh, .bool ce, .int .u64 cl, .int .u64 ch, .slice p k cap] 31 (0, 0))
 have hw2 := hok _ _ hw bW
 cases r
 ·go_enter Tryz.func73, Tryz.ntmps73
  go_wp2_with (first
   | (go_at_call 24; (with_reducible refine (k1 _ hw2).mono ?_); rintro e v1 ⟨rfl, g1⟩)
   | fail)
  go_ret
  exact ⟨rfl, sp_call bW g1⟩
 ·go_enter Tryz.func73, Tryz.ntmps73
  go_wp2_with (first
   | (go_at_call 24; (with_reducible refine (k1 _ hw2).mono ?_); rintro e v1 ⟨rfl, g1⟩; have n0 := sO g1 (show World.cell? _ ⟨w.heap.size, 0, none⟩ = some (.bool wh) by simp [go_sem]))
   | fail)
  go_ret
  exact ⟨by first | rfl | simp, sp_call bW g1⟩
end Go.Proofs.YteafnkimcidkhaaGreat



