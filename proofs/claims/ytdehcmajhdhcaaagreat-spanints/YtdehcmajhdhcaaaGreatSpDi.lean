/- span.widen on a line. -/
import Derived.Test.YtdehcmajhdhcaaaGreatSpJi
import Derived.Test.YtdehcmajhdhcaaaGreatSpWi
import Derived.Test.YtdehcmajhdhcaaaGreatSpDp
import Derived.Deep.QuietTactic
import Derived.BigQuiet
import Derived.Deep.DeepCutAuto
namespace Go.Proofs.YtdehcmajhdhcaaaGreat
open Go.RowKit
set_option linter.unusedVariables false
set_option linter.unusedSimpArgs false
theorem sp_dNw {w W : World} (h : Below w.heap.size w W) (n : Nat) : Below w.heap.size w (W.drewN n) := ⟨h.os, h.tape, h.output, h.size, h.block⟩
set_option maxRecDepth 100000 in
set_option maxHeartbeats 6400000 in
theorem widen_i {L : Ln} {A : Ways} {B : Nat} {w0 : World} (H : Actsi L A B w0) (e1 e2 : Bool) (a b c d : Int) (da : A.dom a) (db : A.dom b) (dc : A.dom c) (dd : A.dom d) (dl : A.dom L.least) (dm : A.dom L.most) (ts : List Int) (hn : ts.length ≤ 9223372036854775807) (dts : ∀ x ∈ ts, A.dom x) (bk off cap : Nat) (w : World) (ok : Below B w0 w)
    (hts : ∀ j x, ts[j]? = some x → w.cell? ⟨bk, off + j, none⟩ = some (.int .i64 x)) :
    Calls Tryz.prog 127 #[.agg (lvi L), .agg #[.bool e1, .int .i64 a, .int .i64 b], .agg #[.bool e2, .int .i64 c, .int .i64 d], .slice (some ⟨bk, off, none⟩) ts.length cap] w fun e w' => e = .returned (sVi (widenP A L (e1, a, b) (e2, c, d) ts)) ∧ Below w.heap.size w w' := by
  have hB := H.hB
  have eo := H.eo
  have e1' := H.e1
  by_cases he : (e1 || e2) = true
  · have hj := join_i H e1 e2 a b c d da db dc dd
    unfold widenP
    rw [if_pos he]
    unfold sVi at *
    generalize joinP A (e1, a, b) (e2, c, d) = J at *
    obtain ⟨je, jl, jh⟩ := J
    dsimp only at *
    unfold lvi at *
    clear H
    have bF : Below w.heap.size w ((((w.alloc (.cells #[.int .i64 L.least, .int .i64 L.most, .int .i64 L.past, .func (.func L.ko) #[] L.co, .func (.func L.kp) #[] L.cp, .func (.func L.k1) #[] L.c1, .func (.func L.kv) #[] L.cv, .func (.func L.kn) #[] L.cn, .func (.func L.ku) #[] L.cu, .func (.func L.kt) #[] L.ct, .func (.func L.kz) #[] L.cz] 136)).alloc (.cells #[.bool e1, .int .i64 a, .int .i64 b] 139)).alloc (.cells #[.bool e2, .int .i64 c, .int .i64 d] 139)).alloc (.cells #[.bool false, .int .i64 0, .int .i64 0] 139)) := (sp_new (sp_new (sp_new (sp_new (Below.refl _ _) _) _) _) _)
    have okF : Below B w0 ((((w.alloc (.cells #[.int .i64 L.least, .int .i64 L.most, .int .i64 L.past, .func (.func L.ko) #[] L.co, .func (.func L.kp) #[] L.cp, .func (.func L.k1) #[] L.c1, .func (.func L.kv) #[] L.cv, .func (.func L.kn) #[] L.cn, .func (.func L.ku) #[] L.cu, .func (.func L.kt) #[] L.ct, .func (.func L.kz) #[] L.cz] 136)).alloc (.cells #[.bool e1, .int .i64 a, .int .i64 b] 139)).alloc (.cells #[.bool e2, .int .i64 c, .int .i64 d] 139)).alloc (.cells #[.bool false, .int .i64 0, .int .i64 0] 139)) := (ok_new hB (ok_new hB (ok_new hB (ok_new hB ok _) _) _) _)
    cases e1
    · cases e2
      · simp at he
      · skip
        go_enter Tryz.func127, Tryz.ntmps127
        go_wp2_with (first
          | (go_at_call 125; refine (hj _ okF).mono ?_; rintro e w1 ⟨rfl, g⟩; obtain ⟨hc, hf⟩ := bcelli g)
          | fail)
        have zg := g.size
        exact bodyPost_ret (v := .agg #[.bool je, .int .i64 jl, .int .i64 jh]) (by simp [results, Tryz.results127, go_sem, hc]) rfl ⟨rfl, sp_set3 (sp_call bF g) (by omega) _ _ _⟩
    · skip
      go_enter Tryz.func127, Tryz.ntmps127
      go_wp2_with (first
        | (go_at_call 125; refine (hj _ okF).mono ?_; rintro e w1 ⟨rfl, g⟩; obtain ⟨hc, hf⟩ := bcelli g)
        | fail)
      have zg := g.size
      exact bodyPost_ret (v := .agg #[.bool je, .int .i64 jl, .int .i64 jh]) (by simp [results, Tryz.results127, go_sem, hc]) rfl ⟨rfl, sp_set3 (sp_call bF g) (by omega) _ _ _⟩
  · obtain ⟨rfl, rfl⟩ : e1 = false ∧ e2 = false := by
      cases e1 <;> cases e2 <;> simp at he ⊢
    clear he
    obtain ⟨R, HR⟩ : ∃ R, Hid (R = sVi (widenP A L (false, a, b) (false, c, d) ts)) := ⟨_, rfl⟩
    rw [← HR.out]
    have hone := fun x V dx ok => H.one x V dx ok
    have hord := fun x y V dx dy ok => H.ord x y V dx dy ok
    have hgr := fun x y dx dy V ok => greater_i H x y dx dy V ok
    have hsm := fun x y dx dy V ok => smaller_i H x y dx dy V ok
    have f1 : ∀ V, Below B w0 V → Calls Tryz.prog L.ko (#[.int .i64 c, .int .i64 a] ++ L.co) V fun e V' => e = .returned (.int .i64 (A.ord c a)) ∧ Below V.heap.size V V' := fun V ok => H.ord c a V dc da ok
    have f2 : ∀ V, Below B w0 V → Calls Tryz.prog L.ko (#[.int .i64 d, .int .i64 b] ++ L.co) V fun e V' => e = .returned (.int .i64 (A.ord d b)) ∧ Below V.heap.size V V' := fun V ok => H.ord d b V dd db ok
    unfold lvi at *
    go_enter Tryz.func127, Tryz.ntmps127
    go_upto_region 3 with fail
    obtain ⟨W, hW⟩ : ∃ W, ((((w.alloc (.cells #[.int .i64 L.least, .int .i64 L.most, .int .i64 L.past, .func (.func L.ko) #[] L.co, .func (.func L.kp) #[] L.cp, .func (.func L.k1) #[] L.c1, .func (.func L.kv) #[] L.cv, .func (.func L.kn) #[] L.cn, .func (.func L.ku) #[] L.cu, .func (.func L.kt) #[] L.ct, .func (.func L.kz) #[] L.cz] 136)).alloc (.cells #[.bool false, .int .i64 a, .int .i64 b] 139)).alloc (.cells #[.bool false, .int .i64 c, .int .i64 d] 139)).alloc (.cells #[.bool false, .int .i64 0, .int .i64 0] 139)) = W := ⟨_, rfl⟩
    have l0 : W.cell? ⟨w.heap.size, 0, none⟩ = some (.int .i64 L.least) := by rw [← hW]; simp [go_sem]
    have l1 : W.cell? ⟨w.heap.size, 1, none⟩ = some (.int .i64 L.most) := by rw [← hW]; simp [go_sem]
    have l2 : W.cell? ⟨w.heap.size, 2, none⟩ = some (.int .i64 L.past) := by rw [← hW]; simp [go_sem]
    have l3 : W.cell? ⟨w.heap.size, 3, none⟩ = some (.func (.func L.ko) #[] L.co) := by rw [← hW]; simp [go_sem]
    have l4 : W.cell? ⟨w.heap.size, 4, none⟩ = some (.func (.func L.kp) #[] L.cp) := by rw [← hW]; simp [go_sem]
    have l5 : W.cell? ⟨w.heap.size, 5, none⟩ = some (.func (.func L.k1) #[] L.c1) := by rw [← hW]; simp [go_sem]
    have l6 : W.cell? ⟨w.heap.size, 6, none⟩ = some (.func (.func L.kv) #[] L.cv) := by rw [← hW]; simp [go_sem]
    have l7 : W.cell? ⟨w.heap.size, 7, none⟩ = some (.func (.func L.kn) #[] L.cn) := by rw [← hW]; simp [go_sem]
    have l8 : W.cell? ⟨w.heap.size, 8, none⟩ = some (.func (.func L.ku) #[] L.cu) := by rw [← hW]; simp [go_sem]
    have l9 : W.cell? ⟨w.heap.size, 9, none⟩ = some (.func (.func L.kt) #[] L.ct) := by rw [← hW]; simp [go_sem]
    have l10 : W.cell? ⟨w.heap.size, 10, none⟩ = some (.func (.func L.kz) #[] L.cz) := by rw [← hW]; simp [go_sem]
    have a0 : W.cell? ⟨w.heap.size + 1, 0, none⟩ = some (.bool false) := by rw [← hW]; simp [go_sem]
    have a1 : W.cell? ⟨w.heap.size + 1, 1, none⟩ = some (.int .i64 a) := by rw [← hW]; simp [go_sem]
    have a2 : W.cell? ⟨w.heap.size + 1, 2, none⟩ = some (.int .i64 b) := by rw [← hW]; simp [go_sem]
    have b0 : W.cell? ⟨w.heap.size + 1 + 1, 0, none⟩ = some (.bool false) := by rw [← hW]; simp [go_sem]
    have b1 : W.cell? ⟨w.heap.size + 1 + 1, 1, none⟩ = some (.int .i64 c) := by rw [← hW]; simp [go_sem]
    have b2 : W.cell? ⟨w.heap.size + 1 + 1, 2, none⟩ = some (.int .i64 d) := by rw [← hW]; simp [go_sem]
    have r0 : W.cell? ⟨w.heap.size + 1 + 1 + 1, 0, none⟩ = some (.bool false) := by rw [← hW]; simp [go_sem]
    have r1 : W.cell? ⟨w.heap.size + 1 + 1 + 1, 1, none⟩ = some (.int .i64 0) := by rw [← hW]; simp [go_sem]
    have r2 : W.cell? ⟨w.heap.size + 1 + 1 + 1, 2, none⟩ = some (.int .i64 0) := by rw [← hW]; simp [go_sem]
    have okW : Below B w0 W := by rw [← hW]; exact (ok_new hB (ok_new hB (ok_new hB (ok_new hB ok _) _) _) _)
    have bW : Below w.heap.size w W := by rw [← hW]; exact (sp_new (sp_new (sp_new (sp_new (Below.refl _ _) _) _) _) _)
    have zW : W.heap.size = w.heap.size + 4 := by rw [← hW]; simp
    have fz : ∀ j, W.frozen? ⟨w.heap.size + 1 + 1 + 1, j, none⟩ = false := by intro j; rw [← hW]; simp [go_sem]
    rw [hW]
    clear hW
    replace zW := Nat.le_of_eq zW.symm
    have ht : ∀ j x, ts[j]? = some x → W.cell? ⟨bk, off + j, none⟩ = some (.int .i64 x) := fun j x hj => sp_cell_on bW (hts j x hj)
    clear hts ok
    go_quiet (fail)
    go_upto_region 5 with fail
    have bD := bW
    have okD := okW
    go_loopw [9, 10, 29] (fun lo hi i wr => ∃ j : Nat, j ≤ ts.length ∧ lo = .int .i64 (lowP A L c (ts.take j)) ∧ hi = .int .i64 (highP A L d (ts.take j)) ∧ i = .int .i64 j ∧ Below W.heap.size W wr) (fun _ _ i _ => ts.length - (intOf i).toNat)
    case atStart => exact ⟨0, by omega, rfl, rfl, rfl, by first | exact Below.refl _ _ | exact (Below.refl _ _).drew | exact sp_dNw (Below.refl _ _) _⟩
    case round =>
      obtain ⟨j, hj, rfl, rfl, rfl, bV⟩ := hrel
      replace okW := ok_call hB okW bV
      replace l0 := sp_cell_on bV l0
      replace l1 := sp_cell_on bV l1
      replace l2 := sp_cell_on bV l2
      replace l3 := sp_cell_on bV l3
      replace l4 := sp_cell_on bV l4
      replace l5 := sp_cell_on bV l5
      replace l6 := sp_cell_on bV l6
      replace l7 := sp_cell_on bV l7
      replace l8 := sp_cell_on bV l8
      replace l9 := sp_cell_on bV l9
      replace l10 := sp_cell_on bV l10
      replace b0 := sp_cell_on bV b0
      replace b1 := sp_cell_on bV b1
      replace b2 := sp_cell_on bV b2
      by_cases cj : j < ts.length
      · have ci : (j : Int) < (ts.length : Int) := by omega
        obtain ⟨x, ex⟩ : ∃ x, ts[j]? = some x := ⟨_, List.getElem?_eq_getElem cj⟩
        have dx : A.dom x := dts x (List.mem_of_getElem? ex)
        have tx := sp_cell_on bV (ht j x ex)
        have tk : ts.take (j + 1) = ts.take j ++ [x] := by rw [List.take_add_one, ex]; rfl
        have sl := lowP_snoc A L c (ts.take j) x
        have sh := highP_snoc A L d (ts.take j) x
        rw [← tk] at sl sh
        have dlo : A.dom (lowP A L c (ts.take j)) := lowP_dom dl _ (fun y hy => dts y (List.mem_of_mem_take hy))
        have dhi : A.dom (highP A L d (ts.take j)) := highP_dom dm _ (fun y hy => dts y (List.mem_of_mem_take hy))
        have k1 : ∀ V, Below B w0 V → Calls Tryz.prog L.k1 (#[.int .i64 x] ++ L.c1) V fun e V' => e = .returned (.bool (A.one x)) ∧ Below V.heap.size V V' := fun V ok => H.one x V dx ok
        have k2 : ∀ V, Below B w0 V → Calls Tryz.prog L.ko (#[.int .i64 x, .int .i64 c] ++ L.co) V fun e V' => e = .returned (.int .i64 (A.ord x c)) ∧ Below V.heap.size V V' := fun V ok => H.ord x c V dx dc ok
        have k3 : ∀ V, Below B w0 V → Calls Tryz.prog L.ko (#[.int .i64 x, .int .i64 d] ++ L.co) V fun e V' => e = .returned (.int .i64 (A.ord x d)) ∧ Below V.heap.size V V' := fun V ok => H.ord x d V dx dd ok
        have k4 := fun V ok => hgr (lowP A L c (ts.take j)) x dlo dx V ok
        have k5 := fun V ok => hsm (highP A L d (ts.take j)) x dhi dx V ok
        rw [show (if 0 < A.ord x (lowP A L c (ts.take j)) then x else lowP A L c (ts.take j)) = grt A (lowP A L c (ts.take j)) x from rfl] at k4
        rw [show (if A.ord x (highP A L d (ts.take j)) < 0 then x else highP A L d (ts.take j)) = sml A (highP A L d (ts.take j)) x from rfl] at k5
        replace sl : Hid _ := sl
        replace sh : Hid _ := sh
        generalize grt A (lowP A L c (ts.take j)) x = G at *
        generalize sml A (highP A L d (ts.take j)) x = S at *
        generalize lowP A L c (ts.take j) = lo at *
        generalize highP A L d (ts.take j) = hi at *
        generalize A.ord x c = o1 at *
        generalize A.ord x d = o2 at *
        generalize A.one x = on at *
        clear hord hone hgr hsm f1 f2 dts tk ex HR
        have bV0 := bV
        cases on
        · skip
          go_wp2_with (first
            | (go_at_fn L.k1; with_reducible refine (k1 _ okW).mono ?_; rintro e v1 ⟨rfl, g⟩; replace bV := sp_call bV g; replace okW := ok_call hB okW g; replace l0 := sp_cell_on g l0; replace l1 := sp_cell_on g l1; replace l2 := sp_cell_on g l2; replace l3 := sp_cell_on g l3; replace l4 := sp_cell_on g l4; replace l5 := sp_cell_on g l5; replace l6 := sp_cell_on g l6; replace l7 := sp_cell_on g l7; replace l8 := sp_cell_on g l8; replace l9 := sp_cell_on g l9; replace l10 := sp_cell_on g l10; replace b0 := sp_cell_on g b0; replace b1 := sp_cell_on g b1; replace b2 := sp_cell_on g b2; replace tx := sp_cell_on g tx; clear g)
            | fail)
          go_roundw
          case rel => exact ⟨j + 1, by omega, by rw [sl.out]; simp [*], by rw [sh.out]; simp [*], by go_num, bV⟩
          case measure => simp [intOf]; omega
        · by_cases q1 : o1 ≤ 0
          · have q1d : decide (o1 ≤ 0) = true := decide_eq_true q1
            by_cases q2 : 0 ≤ o2
            · have q2d : decide (0 ≤ o2) = true := decide_eq_true q2
              go_wp2_with (first
                | (go_at_fn L.k1; with_reducible refine (k1 _ okW).mono ?_; rintro e v1 ⟨rfl, g⟩; replace bV := sp_call bV g; replace okW := ok_call hB okW g; replace l0 := sp_cell_on g l0; replace l1 := sp_cell_on g l1; replace l2 := sp_cell_on g l2; replace l3 := sp_cell_on g l3; replace l4 := sp_cell_on g l4; replace l5 := sp_cell_on g l5; replace l6 := sp_cell_on g l6; replace l7 := sp_cell_on g l7; replace l8 := sp_cell_on g l8; replace l9 := sp_cell_on g l9; replace l10 := sp_cell_on g l10; replace b0 := sp_cell_on g b0; replace b1 := sp_cell_on g b1; replace b2 := sp_cell_on g b2; replace tx := sp_cell_on g tx; clear g)
                | (go_at_fn L.ko; with_reducible refine (k2 _ okW).mono ?_; rintro e v2 ⟨rfl, g⟩; replace bV := sp_call bV g; replace okW := ok_call hB okW g; replace l0 := sp_cell_on g l0; replace l1 := sp_cell_on g l1; replace l2 := sp_cell_on g l2; replace l3 := sp_cell_on g l3; replace l4 := sp_cell_on g l4; replace l5 := sp_cell_on g l5; replace l6 := sp_cell_on g l6; replace l7 := sp_cell_on g l7; replace l8 := sp_cell_on g l8; replace l9 := sp_cell_on g l9; replace l10 := sp_cell_on g l10; replace b0 := sp_cell_on g b0; replace b1 := sp_cell_on g b1; replace b2 := sp_cell_on g b2; replace tx := sp_cell_on g tx; clear g)
                | (go_at_fn L.ko; with_reducible refine (k3 _ okW).mono ?_; rintro e v3 ⟨rfl, g⟩; replace bV := sp_call bV g; replace okW := ok_call hB okW g; replace l0 := sp_cell_on g l0; replace l1 := sp_cell_on g l1; replace l2 := sp_cell_on g l2; replace l3 := sp_cell_on g l3; replace l4 := sp_cell_on g l4; replace l5 := sp_cell_on g l5; replace l6 := sp_cell_on g l6; replace l7 := sp_cell_on g l7; replace l8 := sp_cell_on g l8; replace l9 := sp_cell_on g l9; replace l10 := sp_cell_on g l10; replace b0 := sp_cell_on g b0; replace b1 := sp_cell_on g b1; replace b2 := sp_cell_on g b2; replace tx := sp_cell_on g tx; clear g)
                | (go_at_call 208; with_reducible refine (k4 _ okW).mono ?_; rintro e v4 ⟨rfl, g⟩; replace bV := sp_call bV g; replace okW := ok_call hB okW g; replace l0 := sp_cell_on g l0; replace l1 := sp_cell_on g l1; replace l2 := sp_cell_on g l2; replace l3 := sp_cell_on g l3; replace l4 := sp_cell_on g l4; replace l5 := sp_cell_on g l5; replace l6 := sp_cell_on g l6; replace l7 := sp_cell_on g l7; replace l8 := sp_cell_on g l8; replace l9 := sp_cell_on g l9; replace l10 := sp_cell_on g l10; replace b0 := sp_cell_on g b0; replace b1 := sp_cell_on g b1; replace b2 := sp_cell_on g b2; replace tx := sp_cell_on g tx; clear g)
                | (go_at_call 209; with_reducible refine (k5 _ okW).mono ?_; rintro e v5 ⟨rfl, g⟩; replace bV := sp_call bV g; replace okW := ok_call hB okW g; replace l0 := sp_cell_on g l0; replace l1 := sp_cell_on g l1; replace l2 := sp_cell_on g l2; replace l3 := sp_cell_on g l3; replace l4 := sp_cell_on g l4; replace l5 := sp_cell_on g l5; replace l6 := sp_cell_on g l6; replace l7 := sp_cell_on g l7; replace l8 := sp_cell_on g l8; replace l9 := sp_cell_on g l9; replace l10 := sp_cell_on g l10; replace b0 := sp_cell_on g b0; replace b1 := sp_cell_on g b1; replace b2 := sp_cell_on g b2; replace tx := sp_cell_on g tx; clear g)
                | fail)
              go_roundw
              case rel => exact ⟨j + 1, by omega, by rw [sl.out]; simp [*], by rw [sh.out]; simp [*], by go_num, bV⟩
              case measure => simp [intOf]; omega
            · have q2d : decide (0 ≤ o2) = false := decide_eq_false q2
              go_wp2_with (first
                | (go_at_fn L.k1; with_reducible refine (k1 _ okW).mono ?_; rintro e v1 ⟨rfl, g⟩; replace bV := sp_call bV g; replace okW := ok_call hB okW g; replace l0 := sp_cell_on g l0; replace l1 := sp_cell_on g l1; replace l2 := sp_cell_on g l2; replace l3 := sp_cell_on g l3; replace l4 := sp_cell_on g l4; replace l5 := sp_cell_on g l5; replace l6 := sp_cell_on g l6; replace l7 := sp_cell_on g l7; replace l8 := sp_cell_on g l8; replace l9 := sp_cell_on g l9; replace l10 := sp_cell_on g l10; replace b0 := sp_cell_on g b0; replace b1 := sp_cell_on g b1; replace b2 := sp_cell_on g b2; replace tx := sp_cell_on g tx; clear g)
                | (go_at_fn L.ko; with_reducible refine (k2 _ okW).mono ?_; rintro e v2 ⟨rfl, g⟩; replace bV := sp_call bV g; replace okW := ok_call hB okW g; replace l0 := sp_cell_on g l0; replace l1 := sp_cell_on g l1; replace l2 := sp_cell_on g l2; replace l3 := sp_cell_on g l3; replace l4 := sp_cell_on g l4; replace l5 := sp_cell_on g l5; replace l6 := sp_cell_on g l6; replace l7 := sp_cell_on g l7; replace l8 := sp_cell_on g l8; replace l9 := sp_cell_on g l9; replace l10 := sp_cell_on g l10; replace b0 := sp_cell_on g b0; replace b1 := sp_cell_on g b1; replace b2 := sp_cell_on g b2; replace tx := sp_cell_on g tx; clear g)
                | (go_at_fn L.ko; with_reducible refine (k3 _ okW).mono ?_; rintro e v3 ⟨rfl, g⟩; replace bV := sp_call bV g; replace okW := ok_call hB okW g; replace l0 := sp_cell_on g l0; replace l1 := sp_cell_on g l1; replace l2 := sp_cell_on g l2; replace l3 := sp_cell_on g l3; replace l4 := sp_cell_on g l4; replace l5 := sp_cell_on g l5; replace l6 := sp_cell_on g l6; replace l7 := sp_cell_on g l7; replace l8 := sp_cell_on g l8; replace l9 := sp_cell_on g l9; replace l10 := sp_cell_on g l10; replace b0 := sp_cell_on g b0; replace b1 := sp_cell_on g b1; replace b2 := sp_cell_on g b2; replace tx := sp_cell_on g tx; clear g)
                | (go_at_call 208; with_reducible refine (k4 _ okW).mono ?_; rintro e v4 ⟨rfl, g⟩; replace bV := sp_call bV g; replace okW := ok_call hB okW g; replace l0 := sp_cell_on g l0; replace l1 := sp_cell_on g l1; replace l2 := sp_cell_on g l2; replace l3 := sp_cell_on g l3; replace l4 := sp_cell_on g l4; replace l5 := sp_cell_on g l5; replace l6 := sp_cell_on g l6; replace l7 := sp_cell_on g l7; replace l8 := sp_cell_on g l8; replace l9 := sp_cell_on g l9; replace l10 := sp_cell_on g l10; replace b0 := sp_cell_on g b0; replace b1 := sp_cell_on g b1; replace b2 := sp_cell_on g b2; replace tx := sp_cell_on g tx; clear g)
                | fail)
              go_roundw
              case rel => exact ⟨j + 1, by omega, by rw [sl.out]; simp [*], by rw [sh.out]; simp [*], by go_num, bV⟩
              case measure => simp [intOf]; omega
          · have q1d : decide (o1 ≤ 0) = false := decide_eq_false q1
            by_cases q2 : 0 ≤ o2
            · have q2d : decide (0 ≤ o2) = true := decide_eq_true q2
              go_wp2_with (first
                | (go_at_fn L.k1; with_reducible refine (k1 _ okW).mono ?_; rintro e v1 ⟨rfl, g⟩; replace bV := sp_call bV g; replace okW := ok_call hB okW g; replace l0 := sp_cell_on g l0; replace l1 := sp_cell_on g l1; replace l2 := sp_cell_on g l2; replace l3 := sp_cell_on g l3; replace l4 := sp_cell_on g l4; replace l5 := sp_cell_on g l5; replace l6 := sp_cell_on g l6; replace l7 := sp_cell_on g l7; replace l8 := sp_cell_on g l8; replace l9 := sp_cell_on g l9; replace l10 := sp_cell_on g l10; replace b0 := sp_cell_on g b0; replace b1 := sp_cell_on g b1; replace b2 := sp_cell_on g b2; replace tx := sp_cell_on g tx; clear g)
                | (go_at_fn L.ko; with_reducible refine (k2 _ okW).mono ?_; rintro e v2 ⟨rfl, g⟩; replace bV := sp_call bV g; replace okW := ok_call hB okW g; replace l0 := sp_cell_on g l0; replace l1 := sp_cell_on g l1; replace l2 := sp_cell_on g l2; replace l3 := sp_cell_on g l3; replace l4 := sp_cell_on g l4; replace l5 := sp_cell_on g l5; replace l6 := sp_cell_on g l6; replace l7 := sp_cell_on g l7; replace l8 := sp_cell_on g l8; replace l9 := sp_cell_on g l9; replace l10 := sp_cell_on g l10; replace b0 := sp_cell_on g b0; replace b1 := sp_cell_on g b1; replace b2 := sp_cell_on g b2; replace tx := sp_cell_on g tx; clear g)
                | (go_at_fn L.ko; with_reducible refine (k3 _ okW).mono ?_; rintro e v3 ⟨rfl, g⟩; replace bV := sp_call bV g; replace okW := ok_call hB okW g; replace l0 := sp_cell_on g l0; replace l1 := sp_cell_on g l1; replace l2 := sp_cell_on g l2; replace l3 := sp_cell_on g l3; replace l4 := sp_cell_on g l4; replace l5 := sp_cell_on g l5; replace l6 := sp_cell_on g l6; replace l7 := sp_cell_on g l7; replace l8 := sp_cell_on g l8; replace l9 := sp_cell_on g l9; replace l10 := sp_cell_on g l10; replace b0 := sp_cell_on g b0; replace b1 := sp_cell_on g b1; replace b2 := sp_cell_on g b2; replace tx := sp_cell_on g tx; clear g)
                | (go_at_call 209; with_reducible refine (k5 _ okW).mono ?_; rintro e v5 ⟨rfl, g⟩; replace bV := sp_call bV g; replace okW := ok_call hB okW g; replace l0 := sp_cell_on g l0; replace l1 := sp_cell_on g l1; replace l2 := sp_cell_on g l2; replace l3 := sp_cell_on g l3; replace l4 := sp_cell_on g l4; replace l5 := sp_cell_on g l5; replace l6 := sp_cell_on g l6; replace l7 := sp_cell_on g l7; replace l8 := sp_cell_on g l8; replace l9 := sp_cell_on g l9; replace l10 := sp_cell_on g l10; replace b0 := sp_cell_on g b0; replace b1 := sp_cell_on g b1; replace b2 := sp_cell_on g b2; replace tx := sp_cell_on g tx; clear g)
                | fail)
              go_roundw
              case rel => exact ⟨j + 1, by omega, by rw [sl.out]; simp [*], by rw [sh.out]; simp [*], by go_num, bV⟩
              case measure => simp [intOf]; omega
            · have q2d : decide (0 ≤ o2) = false := decide_eq_false q2
              go_wp2_with (first
                | (go_at_fn L.k1; with_reducible refine (k1 _ okW).mono ?_; rintro e v1 ⟨rfl, g⟩; replace bV := sp_call bV g; replace okW := ok_call hB okW g; replace l0 := sp_cell_on g l0; replace l1 := sp_cell_on g l1; replace l2 := sp_cell_on g l2; replace l3 := sp_cell_on g l3; replace l4 := sp_cell_on g l4; replace l5 := sp_cell_on g l5; replace l6 := sp_cell_on g l6; replace l7 := sp_cell_on g l7; replace l8 := sp_cell_on g l8; replace l9 := sp_cell_on g l9; replace l10 := sp_cell_on g l10; replace b0 := sp_cell_on g b0; replace b1 := sp_cell_on g b1; replace b2 := sp_cell_on g b2; replace tx := sp_cell_on g tx; clear g)
                | (go_at_fn L.ko; with_reducible refine (k2 _ okW).mono ?_; rintro e v2 ⟨rfl, g⟩; replace bV := sp_call bV g; replace okW := ok_call hB okW g; replace l0 := sp_cell_on g l0; replace l1 := sp_cell_on g l1; replace l2 := sp_cell_on g l2; replace l3 := sp_cell_on g l3; replace l4 := sp_cell_on g l4; replace l5 := sp_cell_on g l5; replace l6 := sp_cell_on g l6; replace l7 := sp_cell_on g l7; replace l8 := sp_cell_on g l8; replace l9 := sp_cell_on g l9; replace l10 := sp_cell_on g l10; replace b0 := sp_cell_on g b0; replace b1 := sp_cell_on g b1; replace b2 := sp_cell_on g b2; replace tx := sp_cell_on g tx; clear g)
                | (go_at_fn L.ko; with_reducible refine (k3 _ okW).mono ?_; rintro e v3 ⟨rfl, g⟩; replace bV := sp_call bV g; replace okW := ok_call hB okW g; replace l0 := sp_cell_on g l0; replace l1 := sp_cell_on g l1; replace l2 := sp_cell_on g l2; replace l3 := sp_cell_on g l3; replace l4 := sp_cell_on g l4; replace l5 := sp_cell_on g l5; replace l6 := sp_cell_on g l6; replace l7 := sp_cell_on g l7; replace l8 := sp_cell_on g l8; replace l9 := sp_cell_on g l9; replace l10 := sp_cell_on g l10; replace b0 := sp_cell_on g b0; replace b1 := sp_cell_on g b1; replace b2 := sp_cell_on g b2; replace tx := sp_cell_on g tx; clear g)
                | fail)
              go_roundw
              case rel => exact ⟨j + 1, by omega, by rw [sl.out]; simp [*], by rw [sh.out]; simp [*], by go_num, bV⟩
              case measure => simp [intOf]; omega
      · have ci : ¬ (j : Int) < (ts.length : Int) := by omega
        rw [List.take_of_length_le (by omega)] at *
        replace HR := HR.out
        unfold widenP sVi at HR
        simp only [Bool.or_self, Bool.false_eq_true, if_false] at HR
        have zV := bV.size
        replace fz := fun jj => (bV.frozen (p := ⟨w.heap.size + 1 + 1 + 1, jj, none⟩) (by simp; omega)).trans (fz jj)
        replace bW := sp_call bW bV
        replace a0 := sp_cell_on bV a0
        replace a1 := sp_cell_on bV a1
        replace a2 := sp_cell_on bV a2
        replace r0 := sp_cell_on bV r0
        replace r1 := sp_cell_on bV r1
        replace r2 := sp_cell_on bV r2
        clear hone hord hgr hsm dts ht bV
        generalize lowP A L c ts = lo at *
        generalize highP A L d ts = hi at *
        generalize A.ord c a = o1 at *
        generalize A.ord d b = o2 at *
        by_cases q1 : 0 ≤ o1
        · have q1d : decide (0 ≤ o1) = true := decide_eq_true q1
          by_cases q2 : o2 ≤ 0
          · have q2d : decide (o2 ≤ 0) = true := decide_eq_true q2
            rw [if_pos q1, if_pos q2] at HR
            replace HR : Hid _ := HR
            go_wp2_with (first
              | (go_at_fn L.ko; with_reducible refine (f1 _ okW).mono ?_; rintro e v1 ⟨rfl, g⟩; replace okW := ok_call hB okW g; replace fz := fun jj => (g.frozen (p := ⟨w.heap.size + 1 + 1 + 1, jj, none⟩) (by simp; omega)).trans (fz jj); have zz := g.size; replace bW := sp_call bW g; replace l0 := sp_cell_on g l0; replace l1 := sp_cell_on g l1; replace l2 := sp_cell_on g l2; replace l3 := sp_cell_on g l3; replace l4 := sp_cell_on g l4; replace l5 := sp_cell_on g l5; replace l6 := sp_cell_on g l6; replace l7 := sp_cell_on g l7; replace l8 := sp_cell_on g l8; replace l9 := sp_cell_on g l9; replace l10 := sp_cell_on g l10; replace b0 := sp_cell_on g b0; replace b1 := sp_cell_on g b1; replace b2 := sp_cell_on g b2; replace a0 := sp_cell_on g a0; replace a1 := sp_cell_on g a1; replace a2 := sp_cell_on g a2; replace r0 := sp_cell_on g r0; replace r1 := sp_cell_on g r1; replace r2 := sp_cell_on g r2; clear g)
              | (go_at_fn L.ko; with_reducible refine (f2 _ okW).mono ?_; rintro e v2 ⟨rfl, g⟩; replace okW := ok_call hB okW g; replace fz := fun jj => (g.frozen (p := ⟨w.heap.size + 1 + 1 + 1, jj, none⟩) (by simp; omega)).trans (fz jj); have zz2 := g.size; replace bW := sp_call bW g; replace l0 := sp_cell_on g l0; replace l1 := sp_cell_on g l1; replace l2 := sp_cell_on g l2; replace l3 := sp_cell_on g l3; replace l4 := sp_cell_on g l4; replace l5 := sp_cell_on g l5; replace l6 := sp_cell_on g l6; replace l7 := sp_cell_on g l7; replace l8 := sp_cell_on g l8; replace l9 := sp_cell_on g l9; replace l10 := sp_cell_on g l10; replace b0 := sp_cell_on g b0; replace b1 := sp_cell_on g b1; replace b2 := sp_cell_on g b2; replace a0 := sp_cell_on g a0; replace a1 := sp_cell_on g a1; replace a2 := sp_cell_on g a2; replace r0 := sp_cell_on g r0; replace r1 := sp_cell_on g r1; replace r2 := sp_cell_on g r2; clear g)
              | fail)
            exact bodyPost_ret (v := .agg #[.bool false, .int .i64 a, .int .i64 b]) (by simp [results, Tryz.results127, go_sem, r0, r1, r2]) rfl ⟨by rw [HR.out], sp_set3 bW (by omega) _ _ _⟩
          · have q2d : decide (o2 ≤ 0) = false := decide_eq_false q2
            rw [if_pos q1, if_neg q2] at HR
            replace HR : Hid _ := HR
            go_wp2_with (first
              | (go_at_fn L.ko; with_reducible refine (f1 _ okW).mono ?_; rintro e v1 ⟨rfl, g⟩; replace okW := ok_call hB okW g; replace fz := fun jj => (g.frozen (p := ⟨w.heap.size + 1 + 1 + 1, jj, none⟩) (by simp; omega)).trans (fz jj); have zz := g.size; replace bW := sp_call bW g; replace l0 := sp_cell_on g l0; replace l1 := sp_cell_on g l1; replace l2 := sp_cell_on g l2; replace l3 := sp_cell_on g l3; replace l4 := sp_cell_on g l4; replace l5 := sp_cell_on g l5; replace l6 := sp_cell_on g l6; replace l7 := sp_cell_on g l7; replace l8 := sp_cell_on g l8; replace l9 := sp_cell_on g l9; replace l10 := sp_cell_on g l10; replace b0 := sp_cell_on g b0; replace b1 := sp_cell_on g b1; replace b2 := sp_cell_on g b2; replace a0 := sp_cell_on g a0; replace a1 := sp_cell_on g a1; replace a2 := sp_cell_on g a2; replace r0 := sp_cell_on g r0; replace r1 := sp_cell_on g r1; replace r2 := sp_cell_on g r2; clear g)
              | (go_at_fn L.ko; with_reducible refine (f2 _ okW).mono ?_; rintro e v2 ⟨rfl, g⟩; replace okW := ok_call hB okW g; replace fz := fun jj => (g.frozen (p := ⟨w.heap.size + 1 + 1 + 1, jj, none⟩) (by simp; omega)).trans (fz jj); have zz2 := g.size; replace bW := sp_call bW g; replace l0 := sp_cell_on g l0; replace l1 := sp_cell_on g l1; replace l2 := sp_cell_on g l2; replace l3 := sp_cell_on g l3; replace l4 := sp_cell_on g l4; replace l5 := sp_cell_on g l5; replace l6 := sp_cell_on g l6; replace l7 := sp_cell_on g l7; replace l8 := sp_cell_on g l8; replace l9 := sp_cell_on g l9; replace l10 := sp_cell_on g l10; replace b0 := sp_cell_on g b0; replace b1 := sp_cell_on g b1; replace b2 := sp_cell_on g b2; replace a0 := sp_cell_on g a0; replace a1 := sp_cell_on g a1; replace a2 := sp_cell_on g a2; replace r0 := sp_cell_on g r0; replace r1 := sp_cell_on g r1; replace r2 := sp_cell_on g r2; clear g)
              | fail)
            exact bodyPost_ret (v := .agg #[.bool false, .int .i64 a, .int .i64 hi]) (by simp [results, Tryz.results127, go_sem, r0, r1, r2]) rfl ⟨by rw [HR.out], sp_set3 bW (by omega) _ _ _⟩
        · have q1d : decide (0 ≤ o1) = false := decide_eq_false q1
          by_cases q2 : o2 ≤ 0
          · have q2d : decide (o2 ≤ 0) = true := decide_eq_true q2
            rw [if_neg q1, if_pos q2] at HR
            replace HR : Hid _ := HR
            go_wp2_with (first
              | (go_at_fn L.ko; with_reducible refine (f1 _ okW).mono ?_; rintro e v1 ⟨rfl, g⟩; replace okW := ok_call hB okW g; replace fz := fun jj => (g.frozen (p := ⟨w.heap.size + 1 + 1 + 1, jj, none⟩) (by simp; omega)).trans (fz jj); have zz := g.size; replace bW := sp_call bW g; replace l0 := sp_cell_on g l0; replace l1 := sp_cell_on g l1; replace l2 := sp_cell_on g l2; replace l3 := sp_cell_on g l3; replace l4 := sp_cell_on g l4; replace l5 := sp_cell_on g l5; replace l6 := sp_cell_on g l6; replace l7 := sp_cell_on g l7; replace l8 := sp_cell_on g l8; replace l9 := sp_cell_on g l9; replace l10 := sp_cell_on g l10; replace b0 := sp_cell_on g b0; replace b1 := sp_cell_on g b1; replace b2 := sp_cell_on g b2; replace a0 := sp_cell_on g a0; replace a1 := sp_cell_on g a1; replace a2 := sp_cell_on g a2; replace r0 := sp_cell_on g r0; replace r1 := sp_cell_on g r1; replace r2 := sp_cell_on g r2; clear g)
              | (go_at_fn L.ko; with_reducible refine (f2 _ okW).mono ?_; rintro e v2 ⟨rfl, g⟩; replace okW := ok_call hB okW g; replace fz := fun jj => (g.frozen (p := ⟨w.heap.size + 1 + 1 + 1, jj, none⟩) (by simp; omega)).trans (fz jj); have zz2 := g.size; replace bW := sp_call bW g; replace l0 := sp_cell_on g l0; replace l1 := sp_cell_on g l1; replace l2 := sp_cell_on g l2; replace l3 := sp_cell_on g l3; replace l4 := sp_cell_on g l4; replace l5 := sp_cell_on g l5; replace l6 := sp_cell_on g l6; replace l7 := sp_cell_on g l7; replace l8 := sp_cell_on g l8; replace l9 := sp_cell_on g l9; replace l10 := sp_cell_on g l10; replace b0 := sp_cell_on g b0; replace b1 := sp_cell_on g b1; replace b2 := sp_cell_on g b2; replace a0 := sp_cell_on g a0; replace a1 := sp_cell_on g a1; replace a2 := sp_cell_on g a2; replace r0 := sp_cell_on g r0; replace r1 := sp_cell_on g r1; replace r2 := sp_cell_on g r2; clear g)
              | fail)
            exact bodyPost_ret (v := .agg #[.bool false, .int .i64 lo, .int .i64 b]) (by simp [results, Tryz.results127, go_sem, r0, r1, r2]) rfl ⟨by rw [HR.out], sp_set3 bW (by omega) _ _ _⟩
          · have q2d : decide (o2 ≤ 0) = false := decide_eq_false q2
            rw [if_neg q1, if_neg q2] at HR
            replace HR : Hid _ := HR
            go_wp2_with (first
              | (go_at_fn L.ko; with_reducible refine (f1 _ okW).mono ?_; rintro e v1 ⟨rfl, g⟩; replace okW := ok_call hB okW g; replace fz := fun jj => (g.frozen (p := ⟨w.heap.size + 1 + 1 + 1, jj, none⟩) (by simp; omega)).trans (fz jj); have zz := g.size; replace bW := sp_call bW g; replace l0 := sp_cell_on g l0; replace l1 := sp_cell_on g l1; replace l2 := sp_cell_on g l2; replace l3 := sp_cell_on g l3; replace l4 := sp_cell_on g l4; replace l5 := sp_cell_on g l5; replace l6 := sp_cell_on g l6; replace l7 := sp_cell_on g l7; replace l8 := sp_cell_on g l8; replace l9 := sp_cell_on g l9; replace l10 := sp_cell_on g l10; replace b0 := sp_cell_on g b0; replace b1 := sp_cell_on g b1; replace b2 := sp_cell_on g b2; replace a0 := sp_cell_on g a0; replace a1 := sp_cell_on g a1; replace a2 := sp_cell_on g a2; replace r0 := sp_cell_on g r0; replace r1 := sp_cell_on g r1; replace r2 := sp_cell_on g r2; clear g)
              | (go_at_fn L.ko; with_reducible refine (f2 _ okW).mono ?_; rintro e v2 ⟨rfl, g⟩; replace okW := ok_call hB okW g; replace fz := fun jj => (g.frozen (p := ⟨w.heap.size + 1 + 1 + 1, jj, none⟩) (by simp; omega)).trans (fz jj); have zz2 := g.size; replace bW := sp_call bW g; replace l0 := sp_cell_on g l0; replace l1 := sp_cell_on g l1; replace l2 := sp_cell_on g l2; replace l3 := sp_cell_on g l3; replace l4 := sp_cell_on g l4; replace l5 := sp_cell_on g l5; replace l6 := sp_cell_on g l6; replace l7 := sp_cell_on g l7; replace l8 := sp_cell_on g l8; replace l9 := sp_cell_on g l9; replace l10 := sp_cell_on g l10; replace b0 := sp_cell_on g b0; replace b1 := sp_cell_on g b1; replace b2 := sp_cell_on g b2; replace a0 := sp_cell_on g a0; replace a1 := sp_cell_on g a1; replace a2 := sp_cell_on g a2; replace r0 := sp_cell_on g r0; replace r1 := sp_cell_on g r1; replace r2 := sp_cell_on g r2; clear g)
              | fail)
            exact bodyPost_ret (v := .agg #[.bool false, .int .i64 lo, .int .i64 hi]) (by simp [results, Tryz.results127, go_sem, r0, r1, r2]) rfl ⟨by rw [HR.out], sp_set3 bW (by omega) _ _ _⟩
set_option maxRecDepth 100000 in
set_option maxHeartbeats 6400000 in
theorem widenN_i {L : Ln} {A : Ways} {B : Nat} {w0 : World} (H : Actsi L A B w0) (e1 e2 : Bool) (a b c d : Int) (da : A.dom a) (db : A.dom b) (dc : A.dom c) (dd : A.dom d) (w : World) (ok : Below B w0 w) :
    Calls Tryz.prog 127 #[.agg (lvi L), .agg #[.bool e1, .int .i64 a, .int .i64 b], .agg #[.bool e2, .int .i64 c, .int .i64 d], .slice none 0 0] w fun e w' => e = .returned (sVi (widenP A L (e1, a, b) (e2, c, d) [])) ∧ Below w.heap.size w w' := by
  have hB := H.hB
  have eo := H.eo
  have e1' := H.e1
  by_cases he : (e1 || e2) = true
  · have hj := join_i H e1 e2 a b c d da db dc dd
    unfold widenP
    rw [if_pos he]
    unfold sVi at *
    generalize joinP A (e1, a, b) (e2, c, d) = J at *
    obtain ⟨je, jl, jh⟩ := J
    dsimp only at *
    unfold lvi at *
    clear H
    have bF : Below w.heap.size w ((((w.alloc (.cells #[.int .i64 L.least, .int .i64 L.most, .int .i64 L.past, .func (.func L.ko) #[] L.co, .func (.func L.kp) #[] L.cp, .func (.func L.k1) #[] L.c1, .func (.func L.kv) #[] L.cv, .func (.func L.kn) #[] L.cn, .func (.func L.ku) #[] L.cu, .func (.func L.kt) #[] L.ct, .func (.func L.kz) #[] L.cz] 136)).alloc (.cells #[.bool e1, .int .i64 a, .int .i64 b] 139)).alloc (.cells #[.bool e2, .int .i64 c, .int .i64 d] 139)).alloc (.cells #[.bool false, .int .i64 0, .int .i64 0] 139)) := (sp_new (sp_new (sp_new (sp_new (Below.refl _ _) _) _) _) _)
    have okF : Below B w0 ((((w.alloc (.cells #[.int .i64 L.least, .int .i64 L.most, .int .i64 L.past, .func (.func L.ko) #[] L.co, .func (.func L.kp) #[] L.cp, .func (.func L.k1) #[] L.c1, .func (.func L.kv) #[] L.cv, .func (.func L.kn) #[] L.cn, .func (.func L.ku) #[] L.cu, .func (.func L.kt) #[] L.ct, .func (.func L.kz) #[] L.cz] 136)).alloc (.cells #[.bool e1, .int .i64 a, .int .i64 b] 139)).alloc (.cells #[.bool e2, .int .i64 c, .int .i64 d] 139)).alloc (.cells #[.bool false, .int .i64 0, .int .i64 0] 139)) := (ok_new hB (ok_new hB (ok_new hB (ok_new hB ok _) _) _) _)
    cases e1
    · cases e2
      · simp at he
      · skip
        go_enter Tryz.func127, Tryz.ntmps127
        go_wp2_with (first
          | (go_at_call 125; refine (hj _ okF).mono ?_; rintro e w1 ⟨rfl, g⟩; obtain ⟨hc, hf⟩ := bcelli g)
          | fail)
        have zg := g.size
        exact bodyPost_ret (v := .agg #[.bool je, .int .i64 jl, .int .i64 jh]) (by simp [results, Tryz.results127, go_sem, hc]) rfl ⟨rfl, sp_set3 (sp_call bF g) (by omega) _ _ _⟩
    · skip
      go_enter Tryz.func127, Tryz.ntmps127
      go_wp2_with (first
        | (go_at_call 125; refine (hj _ okF).mono ?_; rintro e w1 ⟨rfl, g⟩; obtain ⟨hc, hf⟩ := bcelli g)
        | fail)
      have zg := g.size
      exact bodyPost_ret (v := .agg #[.bool je, .int .i64 jl, .int .i64 jh]) (by simp [results, Tryz.results127, go_sem, hc]) rfl ⟨rfl, sp_set3 (sp_call bF g) (by omega) _ _ _⟩
  · obtain ⟨rfl, rfl⟩ : e1 = false ∧ e2 = false := by
      cases e1 <;> cases e2 <;> simp at he ⊢
    clear he
    obtain ⟨R, HR⟩ : ∃ R, Hid (R = sVi (widenP A L (false, a, b) (false, c, d) [])) := ⟨_, rfl⟩
    rw [← HR.out]
    have hone := fun x V dx ok => H.one x V dx ok
    have hord := fun x y V dx dy ok => H.ord x y V dx dy ok
    have hgr := fun x y dx dy V ok => greater_i H x y dx dy V ok
    have hsm := fun x y dx dy V ok => smaller_i H x y dx dy V ok
    have f1 : ∀ V, Below B w0 V → Calls Tryz.prog L.ko (#[.int .i64 c, .int .i64 a] ++ L.co) V fun e V' => e = .returned (.int .i64 (A.ord c a)) ∧ Below V.heap.size V V' := fun V ok => H.ord c a V dc da ok
    have f2 : ∀ V, Below B w0 V → Calls Tryz.prog L.ko (#[.int .i64 d, .int .i64 b] ++ L.co) V fun e V' => e = .returned (.int .i64 (A.ord d b)) ∧ Below V.heap.size V V' := fun V ok => H.ord d b V dd db ok
    unfold lvi at *
    go_enter Tryz.func127, Tryz.ntmps127
    go_upto_region 3 with fail
    obtain ⟨W, hW⟩ : ∃ W, ((((w.alloc (.cells #[.int .i64 L.least, .int .i64 L.most, .int .i64 L.past, .func (.func L.ko) #[] L.co, .func (.func L.kp) #[] L.cp, .func (.func L.k1) #[] L.c1, .func (.func L.kv) #[] L.cv, .func (.func L.kn) #[] L.cn, .func (.func L.ku) #[] L.cu, .func (.func L.kt) #[] L.ct, .func (.func L.kz) #[] L.cz] 136)).alloc (.cells #[.bool false, .int .i64 a, .int .i64 b] 139)).alloc (.cells #[.bool false, .int .i64 c, .int .i64 d] 139)).alloc (.cells #[.bool false, .int .i64 0, .int .i64 0] 139)) = W := ⟨_, rfl⟩
    have l0 : W.cell? ⟨w.heap.size, 0, none⟩ = some (.int .i64 L.least) := by rw [← hW]; simp [go_sem]
    have l1 : W.cell? ⟨w.heap.size, 1, none⟩ = some (.int .i64 L.most) := by rw [← hW]; simp [go_sem]
    have l2 : W.cell? ⟨w.heap.size, 2, none⟩ = some (.int .i64 L.past) := by rw [← hW]; simp [go_sem]
    have l3 : W.cell? ⟨w.heap.size, 3, none⟩ = some (.func (.func L.ko) #[] L.co) := by rw [← hW]; simp [go_sem]
    have l4 : W.cell? ⟨w.heap.size, 4, none⟩ = some (.func (.func L.kp) #[] L.cp) := by rw [← hW]; simp [go_sem]
    have l5 : W.cell? ⟨w.heap.size, 5, none⟩ = some (.func (.func L.k1) #[] L.c1) := by rw [← hW]; simp [go_sem]
    have l6 : W.cell? ⟨w.heap.size, 6, none⟩ = some (.func (.func L.kv) #[] L.cv) := by rw [← hW]; simp [go_sem]
    have l7 : W.cell? ⟨w.heap.size, 7, none⟩ = some (.func (.func L.kn) #[] L.cn) := by rw [← hW]; simp [go_sem]
    have l8 : W.cell? ⟨w.heap.size, 8, none⟩ = some (.func (.func L.ku) #[] L.cu) := by rw [← hW]; simp [go_sem]
    have l9 : W.cell? ⟨w.heap.size, 9, none⟩ = some (.func (.func L.kt) #[] L.ct) := by rw [← hW]; simp [go_sem]
    have l10 : W.cell? ⟨w.heap.size, 10, none⟩ = some (.func (.func L.kz) #[] L.cz) := by rw [← hW]; simp [go_sem]
    have a0 : W.cell? ⟨w.heap.size + 1, 0, none⟩ = some (.bool false) := by rw [← hW]; simp [go_sem]
    have a1 : W.cell? ⟨w.heap.size + 1, 1, none⟩ = some (.int .i64 a) := by rw [← hW]; simp [go_sem]
    have a2 : W.cell? ⟨w.heap.size + 1, 2, none⟩ = some (.int .i64 b) := by rw [← hW]; simp [go_sem]
    have b0 : W.cell? ⟨w.heap.size + 1 + 1, 0, none⟩ = some (.bool false) := by rw [← hW]; simp [go_sem]
    have b1 : W.cell? ⟨w.heap.size + 1 + 1, 1, none⟩ = some (.int .i64 c) := by rw [← hW]; simp [go_sem]
    have b2 : W.cell? ⟨w.heap.size + 1 + 1, 2, none⟩ = some (.int .i64 d) := by rw [← hW]; simp [go_sem]
    have r0 : W.cell? ⟨w.heap.size + 1 + 1 + 1, 0, none⟩ = some (.bool false) := by rw [← hW]; simp [go_sem]
    have r1 : W.cell? ⟨w.heap.size + 1 + 1 + 1, 1, none⟩ = some (.int .i64 0) := by rw [← hW]; simp [go_sem]
    have r2 : W.cell? ⟨w.heap.size + 1 + 1 + 1, 2, none⟩ = some (.int .i64 0) := by rw [← hW]; simp [go_sem]
    have okW : Below B w0 W := by rw [← hW]; exact (ok_new hB (ok_new hB (ok_new hB (ok_new hB ok _) _) _) _)
    have bW : Below w.heap.size w W := by rw [← hW]; exact (sp_new (sp_new (sp_new (sp_new (Below.refl _ _) _) _) _) _)
    have zW : W.heap.size = w.heap.size + 4 := by rw [← hW]; simp
    have fz : ∀ j, W.frozen? ⟨w.heap.size + 1 + 1 + 1, j, none⟩ = false := by intro j; rw [← hW]; simp [go_sem]
    rw [hW]
    clear hW
    replace zW := Nat.le_of_eq zW.symm
    clear ok
    go_quiet (fail)
    go_upto_region 5 with fail
    go_loopw [9, 10, 29] (fun lo hi i wr => lo = .int .i64 (lowP A L c []) ∧ hi = .int .i64 (highP A L d []) ∧ i = .int .i64 0 ∧ Below W.heap.size W wr) (fun _ _ _ _ => 0)
    case atStart => exact ⟨rfl, rfl, rfl, by first | exact Below.refl _ _ | exact (Below.refl _ _).drew | exact sp_dNw (Below.refl _ _) _⟩
    case round =>
      obtain ⟨rfl, rfl, rfl, bV⟩ := hrel
      replace okW := ok_call hB okW bV
      replace l0 := sp_cell_on bV l0
      replace l1 := sp_cell_on bV l1
      replace l2 := sp_cell_on bV l2
      replace l3 := sp_cell_on bV l3
      replace l4 := sp_cell_on bV l4
      replace l5 := sp_cell_on bV l5
      replace l6 := sp_cell_on bV l6
      replace l7 := sp_cell_on bV l7
      replace l8 := sp_cell_on bV l8
      replace l9 := sp_cell_on bV l9
      replace l10 := sp_cell_on bV l10
      replace b0 := sp_cell_on bV b0
      replace b1 := sp_cell_on bV b1
      replace b2 := sp_cell_on bV b2
      · skip
        replace HR := HR.out
        unfold widenP sVi at HR
        simp only [Bool.or_self, Bool.false_eq_true, if_false] at HR
        have zV := bV.size
        replace fz := fun jj => (bV.frozen (p := ⟨w.heap.size + 1 + 1 + 1, jj, none⟩) (by simp; omega)).trans (fz jj)
        replace bW := sp_call bW bV
        replace a0 := sp_cell_on bV a0
        replace a1 := sp_cell_on bV a1
        replace a2 := sp_cell_on bV a2
        replace r0 := sp_cell_on bV r0
        replace r1 := sp_cell_on bV r1
        replace r2 := sp_cell_on bV r2
        clear hone hord hgr hsm bV
        generalize lowP A L c [] = lo at *
        generalize highP A L d [] = hi at *
        generalize A.ord c a = o1 at *
        generalize A.ord d b = o2 at *
        by_cases q1 : 0 ≤ o1
        · have q1d : decide (0 ≤ o1) = true := decide_eq_true q1
          by_cases q2 : o2 ≤ 0
          · have q2d : decide (o2 ≤ 0) = true := decide_eq_true q2
            rw [if_pos q1, if_pos q2] at HR
            replace HR : Hid _ := HR
            go_wp2_with (first
              | (go_at_fn L.ko; with_reducible refine (f1 _ okW).mono ?_; rintro e v1 ⟨rfl, g⟩; replace okW := ok_call hB okW g; replace fz := fun jj => (g.frozen (p := ⟨w.heap.size + 1 + 1 + 1, jj, none⟩) (by simp; omega)).trans (fz jj); have zz := g.size; replace bW := sp_call bW g; replace l0 := sp_cell_on g l0; replace l1 := sp_cell_on g l1; replace l2 := sp_cell_on g l2; replace l3 := sp_cell_on g l3; replace l4 := sp_cell_on g l4; replace l5 := sp_cell_on g l5; replace l6 := sp_cell_on g l6; replace l7 := sp_cell_on g l7; replace l8 := sp_cell_on g l8; replace l9 := sp_cell_on g l9; replace l10 := sp_cell_on g l10; replace b0 := sp_cell_on g b0; replace b1 := sp_cell_on g b1; replace b2 := sp_cell_on g b2; replace a0 := sp_cell_on g a0; replace a1 := sp_cell_on g a1; replace a2 := sp_cell_on g a2; replace r0 := sp_cell_on g r0; replace r1 := sp_cell_on g r1; replace r2 := sp_cell_on g r2; clear g)
              | (go_at_fn L.ko; with_reducible refine (f2 _ okW).mono ?_; rintro e v2 ⟨rfl, g⟩; replace okW := ok_call hB okW g; replace fz := fun jj => (g.frozen (p := ⟨w.heap.size + 1 + 1 + 1, jj, none⟩) (by simp; omega)).trans (fz jj); have zz2 := g.size; replace bW := sp_call bW g; replace l0 := sp_cell_on g l0; replace l1 := sp_cell_on g l1; replace l2 := sp_cell_on g l2; replace l3 := sp_cell_on g l3; replace l4 := sp_cell_on g l4; replace l5 := sp_cell_on g l5; replace l6 := sp_cell_on g l6; replace l7 := sp_cell_on g l7; replace l8 := sp_cell_on g l8; replace l9 := sp_cell_on g l9; replace l10 := sp_cell_on g l10; replace b0 := sp_cell_on g b0; replace b1 := sp_cell_on g b1; replace b2 := sp_cell_on g b2; replace a0 := sp_cell_on g a0; replace a1 := sp_cell_on g a1; replace a2 := sp_cell_on g a2; replace r0 := sp_cell_on g r0; replace r1 := sp_cell_on g r1; replace r2 := sp_cell_on g r2; clear g)
              | fail)
            exact bodyPost_ret (v := .agg #[.bool false, .int .i64 a, .int .i64 b]) (by simp [results, Tryz.results127, go_sem, r0, r1, r2]) rfl ⟨by rw [HR.out], sp_set3 bW (by omega) _ _ _⟩
          · have q2d : decide (o2 ≤ 0) = false := decide_eq_false q2
            rw [if_pos q1, if_neg q2] at HR
            replace HR : Hid _ := HR
            go_wp2_with (first
              | (go_at_fn L.ko; with_reducible refine (f1 _ okW).mono ?_; rintro e v1 ⟨rfl, g⟩; replace okW := ok_call hB okW g; replace fz := fun jj => (g.frozen (p := ⟨w.heap.size + 1 + 1 + 1, jj, none⟩) (by simp; omega)).trans (fz jj); have zz := g.size; replace bW := sp_call bW g; replace l0 := sp_cell_on g l0; replace l1 := sp_cell_on g l1; replace l2 := sp_cell_on g l2; replace l3 := sp_cell_on g l3; replace l4 := sp_cell_on g l4; replace l5 := sp_cell_on g l5; replace l6 := sp_cell_on g l6; replace l7 := sp_cell_on g l7; replace l8 := sp_cell_on g l8; replace l9 := sp_cell_on g l9; replace l10 := sp_cell_on g l10; replace b0 := sp_cell_on g b0; replace b1 := sp_cell_on g b1; replace b2 := sp_cell_on g b2; replace a0 := sp_cell_on g a0; replace a1 := sp_cell_on g a1; replace a2 := sp_cell_on g a2; replace r0 := sp_cell_on g r0; replace r1 := sp_cell_on g r1; replace r2 := sp_cell_on g r2; clear g)
              | (go_at_fn L.ko; with_reducible refine (f2 _ okW).mono ?_; rintro e v2 ⟨rfl, g⟩; replace okW := ok_call hB okW g; replace fz := fun jj => (g.frozen (p := ⟨w.heap.size + 1 + 1 + 1, jj, none⟩) (by simp; omega)).trans (fz jj); have zz2 := g.size; replace bW := sp_call bW g; replace l0 := sp_cell_on g l0; replace l1 := sp_cell_on g l1; replace l2 := sp_cell_on g l2; replace l3 := sp_cell_on g l3; replace l4 := sp_cell_on g l4; replace l5 := sp_cell_on g l5; replace l6 := sp_cell_on g l6; replace l7 := sp_cell_on g l7; replace l8 := sp_cell_on g l8; replace l9 := sp_cell_on g l9; replace l10 := sp_cell_on g l10; replace b0 := sp_cell_on g b0; replace b1 := sp_cell_on g b1; replace b2 := sp_cell_on g b2; replace a0 := sp_cell_on g a0; replace a1 := sp_cell_on g a1; replace a2 := sp_cell_on g a2; replace r0 := sp_cell_on g r0; replace r1 := sp_cell_on g r1; replace r2 := sp_cell_on g r2; clear g)
              | fail)
            exact bodyPost_ret (v := .agg #[.bool false, .int .i64 a, .int .i64 hi]) (by simp [results, Tryz.results127, go_sem, r0, r1, r2]) rfl ⟨by rw [HR.out], sp_set3 bW (by omega) _ _ _⟩
        · have q1d : decide (0 ≤ o1) = false := decide_eq_false q1
          by_cases q2 : o2 ≤ 0
          · have q2d : decide (o2 ≤ 0) = true := decide_eq_true q2
            rw [if_neg q1, if_pos q2] at HR
            replace HR : Hid _ := HR
            go_wp2_with (first
              | (go_at_fn L.ko; with_reducible refine (f1 _ okW).mono ?_; rintro e v1 ⟨rfl, g⟩; replace okW := ok_call hB okW g; replace fz := fun jj => (g.frozen (p := ⟨w.heap.size + 1 + 1 + 1, jj, none⟩) (by simp; omega)).trans (fz jj); have zz := g.size; replace bW := sp_call bW g; replace l0 := sp_cell_on g l0; replace l1 := sp_cell_on g l1; replace l2 := sp_cell_on g l2; replace l3 := sp_cell_on g l3; replace l4 := sp_cell_on g l4; replace l5 := sp_cell_on g l5; replace l6 := sp_cell_on g l6; replace l7 := sp_cell_on g l7; replace l8 := sp_cell_on g l8; replace l9 := sp_cell_on g l9; replace l10 := sp_cell_on g l10; replace b0 := sp_cell_on g b0; replace b1 := sp_cell_on g b1; replace b2 := sp_cell_on g b2; replace a0 := sp_cell_on g a0; replace a1 := sp_cell_on g a1; replace a2 := sp_cell_on g a2; replace r0 := sp_cell_on g r0; replace r1 := sp_cell_on g r1; replace r2 := sp_cell_on g r2; clear g)
              | (go_at_fn L.ko; with_reducible refine (f2 _ okW).mono ?_; rintro e v2 ⟨rfl, g⟩; replace okW := ok_call hB okW g; replace fz := fun jj => (g.frozen (p := ⟨w.heap.size + 1 + 1 + 1, jj, none⟩) (by simp; omega)).trans (fz jj); have zz2 := g.size; replace bW := sp_call bW g; replace l0 := sp_cell_on g l0; replace l1 := sp_cell_on g l1; replace l2 := sp_cell_on g l2; replace l3 := sp_cell_on g l3; replace l4 := sp_cell_on g l4; replace l5 := sp_cell_on g l5; replace l6 := sp_cell_on g l6; replace l7 := sp_cell_on g l7; replace l8 := sp_cell_on g l8; replace l9 := sp_cell_on g l9; replace l10 := sp_cell_on g l10; replace b0 := sp_cell_on g b0; replace b1 := sp_cell_on g b1; replace b2 := sp_cell_on g b2; replace a0 := sp_cell_on g a0; replace a1 := sp_cell_on g a1; replace a2 := sp_cell_on g a2; replace r0 := sp_cell_on g r0; replace r1 := sp_cell_on g r1; replace r2 := sp_cell_on g r2; clear g)
              | fail)
            exact bodyPost_ret (v := .agg #[.bool false, .int .i64 lo, .int .i64 b]) (by simp [results, Tryz.results127, go_sem, r0, r1, r2]) rfl ⟨by rw [HR.out], sp_set3 bW (by omega) _ _ _⟩
          · have q2d : decide (o2 ≤ 0) = false := decide_eq_false q2
            rw [if_neg q1, if_neg q2] at HR
            replace HR : Hid _ := HR
            go_wp2_with (first
              | (go_at_fn L.ko; with_reducible refine (f1 _ okW).mono ?_; rintro e v1 ⟨rfl, g⟩; replace okW := ok_call hB okW g; replace fz := fun jj => (g.frozen (p := ⟨w.heap.size + 1 + 1 + 1, jj, none⟩) (by simp; omega)).trans (fz jj); have zz := g.size; replace bW := sp_call bW g; replace l0 := sp_cell_on g l0; replace l1 := sp_cell_on g l1; replace l2 := sp_cell_on g l2; replace l3 := sp_cell_on g l3; replace l4 := sp_cell_on g l4; replace l5 := sp_cell_on g l5; replace l6 := sp_cell_on g l6; replace l7 := sp_cell_on g l7; replace l8 := sp_cell_on g l8; replace l9 := sp_cell_on g l9; replace l10 := sp_cell_on g l10; replace b0 := sp_cell_on g b0; replace b1 := sp_cell_on g b1; replace b2 := sp_cell_on g b2; replace a0 := sp_cell_on g a0; replace a1 := sp_cell_on g a1; replace a2 := sp_cell_on g a2; replace r0 := sp_cell_on g r0; replace r1 := sp_cell_on g r1; replace r2 := sp_cell_on g r2; clear g)
              | (go_at_fn L.ko; with_reducible refine (f2 _ okW).mono ?_; rintro e v2 ⟨rfl, g⟩; replace okW := ok_call hB okW g; replace fz := fun jj => (g.frozen (p := ⟨w.heap.size + 1 + 1 + 1, jj, none⟩) (by simp; omega)).trans (fz jj); have zz2 := g.size; replace bW := sp_call bW g; replace l0 := sp_cell_on g l0; replace l1 := sp_cell_on g l1; replace l2 := sp_cell_on g l2; replace l3 := sp_cell_on g l3; replace l4 := sp_cell_on g l4; replace l5 := sp_cell_on g l5; replace l6 := sp_cell_on g l6; replace l7 := sp_cell_on g l7; replace l8 := sp_cell_on g l8; replace l9 := sp_cell_on g l9; replace l10 := sp_cell_on g l10; replace b0 := sp_cell_on g b0; replace b1 := sp_cell_on g b1; replace b2 := sp_cell_on g b2; replace a0 := sp_cell_on g a0; replace a1 := sp_cell_on g a1; replace a2 := sp_cell_on g a2; replace r0 := sp_cell_on g r0; replace r1 := sp_cell_on g r1; replace r2 := sp_cell_on g r2; clear g)
              | fail)
            exact bodyPost_ret (v := .agg #[.bool false, .int .i64 lo, .int .i64 hi]) (by simp [results, Tryz.results127, go_sem, r0, r1, r2]) rfl ⟨by rw [HR.out], sp_set3 bW (by omega) _ _ _⟩
end Go.Proofs.YtdehcmajhdhcaaaGreat
