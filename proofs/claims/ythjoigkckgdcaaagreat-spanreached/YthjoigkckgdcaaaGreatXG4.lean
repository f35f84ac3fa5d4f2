/- Texts of the proof, put together. -/
import Derived.Test.YthjoigkckgdcaaaGreatXSpFl
import Derived.Deep.DeepCutAuto
import Derived.Test.YthjoigkckgdcaaaGreatXSpSd
namespace Go.Proofs.YthjoigkckgdcaaaGreat
open Go.RowKit
set_option linter.unusedVariables false
set_option linter.unusedSimpArgs false
def ReOk (op f a b c d : Int) : Prop := ∃ (t l2 h2 T2 : Int) (E : Bool) (m v tr : Nat → Nat → Int), (∀ V, Calls Tryz.prog 34 #[.int .i64 f, .int .i64 op, .agg #[.bool false, .int .u64 a, .int .u64 b], .agg #[.bool false, .int .u64 c, .int .u64 d]] V fun e w' => e = .returned (.tuple #[.agg #[.bool E, .int .u64 l2, .int .u64 h2], .int .i64 T2]) ∧ Below V.heap.size V w') ∧ (∀ V, Calls Tryz.prog 70 #[.int .i64 f] V fun e w' => e = .returned (.int .i64 t) ∧ Below V.heap.size V w') ∧
  (∀ V, Calls Tryz.prog 69 #[.int .i64 op, .agg #[.int .i64 t, .int .i64 0, .int .u64 a], .agg #[.int .i64 t, .int .i64 0, .int .u64 c]] V fun e w' => e = .returned (.tuple #[.agg #[.int .i64 (m 0 0), .int .i64 0, .int .u64 (v 0 0)], .int .i64 (tr 0 0)]) ∧ Below V.heap.size V w') ∧ (∀ V, Calls Tryz.prog 69 #[.int .i64 op, .agg #[.int .i64 t, .int .i64 0, .int .u64 a], .agg #[.int .i64 t, .int .i64 0, .int .u64 d]] V fun e w' => e = .returned (.tuple #[.agg #[.int .i64 (m 0 1), .int .i64 0, .int .u64 (v 0 1)], .int .i64 (tr 0 1)]) ∧ Below V.heap.size V w') ∧ (∀ V, Calls Tryz.prog 69 #[.int .i64 op, .agg #[.int .i64 t, .int .i64 0, .int .u64 b], .agg #[.int .i64 t, .int .i64 0, .int .u64 c]] V fun e w' => e = .returned (.tuple #[.agg #[.int .i64 (m 1 0), .int .i64 0, .int .u64 (v 1 0)], .int .i64 (tr 1 0)]) ∧ Below V.heap.size V w') ∧ (∀ V, Calls Tryz.prog 69 #[.int .i64 op, .agg #[.int .i64 t, .int .i64 0, .int .u64 b], .agg #[.int .i64 t, .int .i64 0, .int .u64 d]] V fun e w' => e = .returned (.tuple #[.agg #[.int .i64 (m 1 1), .int .i64 0, .int .u64 (v 1 1)], .int .i64 (tr 1 1)]) ∧ Below V.heap.size V w') ∧
  (T2 = 0 → E = false ∧ (v 0 0 = l2 ∨ v 0 1 = l2 ∨ v 1 0 = l2 ∨ v 1 1 = l2) ∧ (v 0 0 = h2 ∨ v 0 1 = h2 ∨ v 1 0 = h2 ∨ v 1 1 = h2))
def among (v : Nat → Nat → Int) (x : Int) : Nat → Nat → Bool
  | 0, 0 => false
  | 0, 1 => v 0 0 == x
  | 0, _ => v 0 0 == x || v 0 1 == x
  | 1, 0 => v 0 0 == x || v 0 1 == x
  | 1, 1 => (v 0 0 == x || v 0 1 == x) || v 1 0 == x
  | _, _ => ((v 0 0 == x || v 0 1 == x) || v 1 0 == x) || v 1 1 == x
theorem among_step00 (v : Nat → Nat → Int) (x : Int) : among v x 0 1 = (among v x 0 0 || v 0 0 == x) := by simp [among]
theorem among_step01 (v : Nat → Nat → Int) (x : Int) : among v x 0 2 = (among v x 0 1 || v 0 1 == x) := by simp [among]
theorem among_step10 (v : Nat → Nat → Int) (x : Int) : among v x 1 1 = (among v x 1 0 || v 1 0 == x) := by simp [among]
theorem among_step11 (v : Nat → Nat → Int) (x : Int) : among v x 1 2 = (among v x 1 1 || v 1 1 == x) := by simp [among]
theorem re_cells3 {v : World} {b : Nat} {t : TypeId} {x0 x1 x2 : Value} (q : v.heap[b]? = some (.cells #[x0, x1, x2] t (0, 0))) : v.cell? ⟨b, 0, none⟩ = some x0 ∧ v.cell? ⟨b, 1, none⟩ = some x1 ∧ v.cell? ⟨b, 2, none⟩ = some x2 ∧ ∀ j, v.frozen? ⟨b, j, none⟩ = false :=
  ⟨by simp [World.cell?, q], by simp [World.cell?, q], by simp [World.cell?, q], fun j => by simp [World.frozen?, q]⟩
theorem re_set3 {W : World} {b : Nat} {t : TypeId} {z : Nat × Nat} {y0 y1 y2 : Value} (q : W.heap[b]? = some (.cells #[y0, y1, y2] t z)) (x0 x1 x2 : Value) : (((W.setCell ⟨b, 0, none⟩ x0).setCell ⟨b, 1, none⟩ x1).setCell ⟨b, 2, none⟩ x2).heap[b]? = some (.cells #[x0, x1, x2] t z) := by
  have h := (at_set (at_set (at_set q 0 x0) 1 x1) 2 x2)
  simpa using h
set_option maxRecDepth 100000 in
set_option maxHeartbeats 6400000 in
theorem re_all (op p f : Int) (e1 : Bool) (a b : Int) (e2 : Bool) (c d : Int) (RR : Bool) (kf : ∀ V, Calls Tryz.prog 15 #[.int .i64 p] V fun e w' => e = .returned (.int .i64 f) ∧ Below V.heap.size V w') (kr : ∀ V, Calls Tryz.prog 22 #[.agg #[.int .i64 p, .bool e1, .int .u64 a, .int .u64 b, .bool e2, .int .u64 c, .int .u64 d]] V fun e w' => e = .returned (.bool RR) ∧ Below V.heap.size V w') (hl : ∀ V, Calls Tryz.prog 23 #[] V fun e w' => e = .returned (.bool true) ∧ Below V.heap.size V w') (main : RR = true → e1 = false → e2 = false → 8 ≤ op → op ≤ 10 → ReOk op f a b c d) (w : World) :
    Calls Tryz.prog 14 #[.int .i64 op, .agg #[.int .i64 p, .bool e1, .int .u64 a, .int .u64 b, .bool e2, .int .u64 c, .int .u64 d]] w fun e w' => e = .returned (.bool true) ∧ Below w.heap.size w w' := by
  go_enter Tryz.func14, Tryz.ntmps14
  go_upto_region 1 with fail
  obtain ⟨W, hW⟩ : ∃ W, (w.alloc (.cells #[.int .i64 p, .bool e1, .int .u64 a, .int .u64 b, .bool e2, .int .u64 c, .int .u64 d] 27)) = W := ⟨_, rfl⟩
  have x0 : W.cell? ⟨w.heap.size, 0, none⟩ = some (.int .i64 p) := by rw [← hW]; simp [go_sem]
  have x1 : W.cell? ⟨w.heap.size, 1, none⟩ = some (.bool e1) := by rw [← hW]; simp [go_sem]
  have x2 : W.cell? ⟨w.heap.size, 2, none⟩ = some (.int .u64 a) := by rw [← hW]; simp [go_sem]
  have x3 : W.cell? ⟨w.heap.size, 3, none⟩ = some (.int .u64 b) := by rw [← hW]; simp [go_sem]
  have x4 : W.cell? ⟨w.heap.size, 4, none⟩ = some (.bool e2) := by rw [← hW]; simp [go_sem]
  have x5 : W.cell? ⟨w.heap.size, 5, none⟩ = some (.int .u64 c) := by rw [← hW]; simp [go_sem]
  have x6 : W.cell? ⟨w.heap.size, 6, none⟩ = some (.int .u64 d) := by rw [← hW]; simp [go_sem]
  have bW : Below w.heap.size w W := by rw [← hW]; exact (sp_new (Below.refl _ _) _)
  have zW : W.heap.size = w.heap.size + 1 := by rw [← hW]; simp
  rw [hW]
  clear hW
  go_upto_region 2 with (first
    | (go_at_call 15; refine (kf _).mono ?_; rintro e v0 ⟨rfl, g⟩; replace bW := sp_call bW g; replace x0 := sO g x0; replace x1 := sO g x1; replace x2 := sO g x2; replace x3 := sO g x3; replace x4 := sO g x4; replace x5 := sO g x5; replace x6 := sO g x6; clear g)
    | fail)
  cases RR
  · skip
    clear main
    go_wp2_with (first
      | (go_at_call 22; refine (kr _).mono ?_; rintro e v1 ⟨rfl, g⟩; replace bW := sp_call bW g; replace x0 := sO g x0; replace x1 := sO g x1; replace x2 := sO g x2; replace x3 := sO g x3; replace x4 := sO g x4; replace x5 := sO g x5; replace x6 := sO g x6; clear g)
      | (go_at_call 23; refine (hl _).mono ?_; rintro e vl ⟨rfl, g⟩; replace bW := sp_call bW g; replace x0 := sO g x0; replace x1 := sO g x1; replace x2 := sO g x2; replace x3 := sO g x3; replace x4 := sO g x4; replace x5 := sO g x5; replace x6 := sO g x6; clear g)
      | fail)
    go_ret
    exact ⟨rfl, bW⟩
  cases e1
  rotate_left
  · skip
    clear main
    go_wp2_with (first
      | (go_at_call 22; refine (kr _).mono ?_; rintro e v1 ⟨rfl, g⟩; replace bW := sp_call bW g; replace x0 := sO g x0; replace x1 := sO g x1; replace x2 := sO g x2; replace x3 := sO g x3; replace x4 := sO g x4; replace x5 := sO g x5; replace x6 := sO g x6; clear g)
      | (go_at_call 23; refine (hl _).mono ?_; rintro e vl ⟨rfl, g⟩; replace bW := sp_call bW g; replace x0 := sO g x0; replace x1 := sO g x1; replace x2 := sO g x2; replace x3 := sO g x3; replace x4 := sO g x4; replace x5 := sO g x5; replace x6 := sO g x6; clear g)
      | fail)
    go_ret
    exact ⟨rfl, bW⟩
  cases e2
  rotate_left
  · skip
    clear main
    go_wp2_with (first
      | (go_at_call 22; refine (kr _).mono ?_; rintro e v1 ⟨rfl, g⟩; replace bW := sp_call bW g; replace x0 := sO g x0; replace x1 := sO g x1; replace x2 := sO g x2; replace x3 := sO g x3; replace x4 := sO g x4; replace x5 := sO g x5; replace x6 := sO g x6; clear g)
      | (go_at_call 23; refine (hl _).mono ?_; rintro e vl ⟨rfl, g⟩; replace bW := sp_call bW g; replace x0 := sO g x0; replace x1 := sO g x1; replace x2 := sO g x2; replace x3 := sO g x3; replace x4 := sO g x4; replace x5 := sO g x5; replace x6 := sO g x6; clear g)
      | fail)
    go_ret
    exact ⟨rfl, bW⟩
  by_cases ho : op < 8
  · skip
    clear main
    go_wp2_with (first
      | (go_at_call 22; refine (kr _).mono ?_; rintro e v1 ⟨rfl, g⟩; replace bW := sp_call bW g; replace x0 := sO g x0; replace x1 := sO g x1; replace x2 := sO g x2; replace x3 := sO g x3; replace x4 := sO g x4; replace x5 := sO g x5; replace x6 := sO g x6; clear g)
      | (go_at_call 23; refine (hl _).mono ?_; rintro e vl ⟨rfl, g⟩; replace bW := sp_call bW g; replace x0 := sO g x0; replace x1 := sO g x1; replace x2 := sO g x2; replace x3 := sO g x3; replace x4 := sO g x4; replace x5 := sO g x5; replace x6 := sO g x6; clear g)
      | fail)
    go_ret
    exact ⟨rfl, bW⟩
  by_cases hi : 10 < op
  · skip
    clear main
    go_wp2_with (first
      | (go_at_call 22; refine (kr _).mono ?_; rintro e v1 ⟨rfl, g⟩; replace bW := sp_call bW g; replace x0 := sO g x0; replace x1 := sO g x1; replace x2 := sO g x2; replace x3 := sO g x3; replace x4 := sO g x4; replace x5 := sO g x5; replace x6 := sO g x6; clear g)
      | (go_at_call 23; refine (hl _).mono ?_; rintro e vl ⟨rfl, g⟩; replace bW := sp_call bW g; replace x0 := sO g x0; replace x1 := sO g x1; replace x2 := sO g x2; replace x3 := sO g x3; replace x4 := sO g x4; replace x5 := sO g x5; replace x6 := sO g x6; clear g)
      | fail)
    go_ret
    exact ⟨rfl, bW⟩
  obtain ⟨t, l2, h2, T2, E, m, v, tr, k6, kt, k00, k01, k10, k11, hT⟩ := main rfl rfl rfl (by omega) (by omega)
  clear main
  go_upto_region 4 with (first
    | (go_at_call 22; refine (kr _).mono ?_; rintro e v1 ⟨rfl, g⟩; replace bW := sp_call bW g; replace x0 := sO g x0; replace x1 := sO g x1; replace x2 := sO g x2; replace x3 := sO g x3; replace x4 := sO g x4; replace x5 := sO g x5; replace x6 := sO g x6; clear g)
    | fail)
  have cc : Below v1.heap.size v1 v1 := Below.refl _ _
  go_cut [6, 7] from 40 to 49 (fun s u X => ∃ (W5 : World) (b6 : Nat), W5 = X ∧ s = .pointer (some ⟨b6, 0, none⟩) ∧ u = .int .i64 T2 ∧ v1.heap.size ≤ b6 ∧ X.cell? ⟨b6, 0, none⟩ = some (.bool E) ∧ X.cell? ⟨b6, 1, none⟩ = some (.int .u64 l2) ∧ X.cell? ⟨b6, 2, none⟩ = some (.int .u64 h2) ∧ Below v1.heap.size v1 X)
  case first =>
   go_wp2_with (first
     | (go_at_call 34; refine (k6 _).mono ?_; rintro e u1 ⟨rfl, g⟩; replace cc := sp_call cc g; clear g)
     | fail)
   go_meet
   have zg := cc.size
   exact ⟨_, _, rfl, rfl, rfl, by omega, by simp [go_sem], by simp [go_sem], by simp [go_sem], by (repeat (first | with_reducible exact Below.refl _ _ | with_reducible assumption | with_reducible refine sp_new ?_ _ | with_reducible refine sp_set1f ?_ (by omega) _))⟩
  case rest =>
   obtain ⟨W5, b6, rfl, rfl, rfl, hb6, y0, y1, y2, cX⟩ := hcut
   replace x0 := sO cX x0; replace x1 := sO cX x1; replace x2 := sO cX x2; replace x3 := sO cX x3; replace x4 := sO cX x4; replace x5 := sO cX x5; replace x6 := sO cX x6
   replace bW := sp_call bW cX
   clear cX cc k6 kf kr
   by_cases hz : T2 = 0
   rotate_left
   · have hz' : (T2 != 0) = true := by simpa using hz
     clear k00 k01 k10 k11 hT
     go_wp2_with (first
       | (go_at_call 23; refine (hl _).mono ?_; rintro e vl ⟨rfl, g⟩; replace bW := sp_call bW g; replace x0 := sO g x0; replace x1 := sO g x1; replace x2 := sO g x2; replace x3 := sO g x3; replace x4 := sO g x4; replace x5 := sO g x5; replace x6 := sO g x6; clear g)
       | fail)
     go_ret
     exact ⟨rfl, bW⟩
   subst hz
   obtain ⟨rfl, hlo, hhi⟩ := hT rfl
   clear hT
   go_upto_region 8 with fail
   go_cut [10] from 53 to 67 (fun s X => ∃ (W6 : World) (b10 : Nat), W6 = X ∧ s = .pointer (some ⟨b10, 0, none⟩) ∧ W5.heap.size ≤ b10 ∧ X.cell? ⟨b10, 0, none⟩ = some (.int .u64 a) ∧ X.cell? ⟨b10, 1, none⟩ = some (.int .u64 b) ∧ X.cell? ⟨b10, 2, none⟩ = some (.int .u64 c) ∧ X.cell? ⟨b10, 3, none⟩ = some (.int .u64 d) ∧ Below W5.heap.size W5 X)
   case first =>
    go_wp2_with fail
    go_meet
    exact ⟨_, _, rfl, rfl, Nat.le_refl _, by simp [go_sem], by simp [go_sem], by simp [go_sem], by simp [go_sem], by (repeat (first | with_reducible exact Below.refl _ _ | with_reducible assumption | with_reducible refine sp_new ?_ _ | with_reducible refine sp_set1f ?_ (by omega) _))⟩
   case rest =>
    obtain ⟨W6, b10, rfl, rfl, hb10, z0, z1, z2, z3, cX⟩ := hcut
    replace y0 := sO cX y0; replace y1 := sO cX y1; replace y2 := sO cX y2
    replace bW := sp_call bW cX
    clear cX x0 x1 x2 x3 x4 x5 x6
    go_wp2_with fail
    go_loopw [8, 9, 11] (fun lo hi i wr => ∃ k : Nat, (k = 0 ∨ k = 1 ∨ k = 2) ∧ lo = .bool (among v l2 k 0) ∧ hi = .bool (among v h2 k 0) ∧ i = .int .i64 k ∧ Below W6.heap.size W6 wr) (fun _ _ i _ => 2 - (intOf i).toNat)
    case atStart => exact ⟨0, by simp, rfl, rfl, rfl, Below.refl _ _⟩
    case round =>
     obtain ⟨i, hi_, rfl, rfl, rfl, cc⟩ := hrel
     rcases hi_ with rfl | rfl | rfl
     · go_wp2_with fail
       go_loopw [8, 9, 12] (fun lo hi k wr => ∃ (WR : World) (j : Nat), WR = wr ∧ (j = 0 ∨ j = 1 ∨ j = 2) ∧ lo = .bool (among v l2 0 j) ∧ hi = .bool (among v h2 0 j) ∧ k = .int .i64 j ∧ Below W6.heap.size W6 wr) (fun _ _ k _ => 2 - (intOf k).toNat)
       case atStart => exact ⟨_, 0, rfl, by simp, rfl, rfl, rfl, cc⟩
       case round =>
        clear cc
        obtain ⟨WR, j, rfl, hj_, rfl, rfl, rfl, cc⟩ := hrel
        rcases hj_ with rfl | rfl | rfl
        · skip
          go_upto_region 15 with fail
          replace z0 := sO cc z0; replace z1 := sO cc z1; replace z2 := sO cc z2; replace z3 := sO cc z3; replace y0 := sO cc y0; replace y1 := sO cc y1; replace y2 := sO cc y2
          have hall : ∀ X9, Below WR.heap.size WR X9 → (X9.cell? ⟨b10, 0, none⟩ = some (.int .u64 a) ∧ X9.cell? ⟨b10, 1, none⟩ = some (.int .u64 b) ∧ X9.cell? ⟨b10, 2, none⟩ = some (.int .u64 c) ∧ X9.cell? ⟨b10, 3, none⟩ = some (.int .u64 d)) := fun X9 cc => ⟨sO cc z0, sO cc z1, sO cc z2, sO cc z3⟩
          have cd : Below WR.heap.size WR WR.drew := (Below.refl _ _).drew
          go_cut [13, 14] from 76 to 94 (fun s u X => ∃ (W8 : World) (b13 : Nat), W8 = X ∧ s = .pointer (some ⟨b13, 0, none⟩) ∧ u = .int .i64 (tr 0 0) ∧ X.heap[b13]? = some (Obj.cells #[.int .i64 (m 0 0), .int .i64 0, .int .u64 (v 0 0)] 71 (0, 0)) ∧ WR.heap.size ≤ b13 ∧ Below WR.heap.size WR X)
          case first =>
           refine wp_region_held_drew (S := (fun w' => w'.cell? ⟨b10, 0, none⟩ = some (.int .u64 a) ∧ w'.cell? ⟨b10, 1, none⟩ = some (.int .u64 b) ∧ w'.cell? ⟨b10, 2, none⟩ = some (.int .u64 c) ∧ w'.cell? ⟨b10, 3, none⟩ = some (.int .u64 d))) (by kernel_rfl) (hall _ cd) (fun hH => ?_)
           refine wpAnyH_take (i := 0) (oi := _) (v := .int .i64 op) rfl (by kernel_rfl) (by kernel_rfl) (by kernel_rfl) (fun _ _ _ h => h) (Or.inl ⟨by rfl, fun w' hSw => by obtain ⟨zz0, zz1, zz2, zz3⟩ := hSw; go_simp⟩) hH ?_
           simp only [Act.put, gA, gB, gC, gD, gE, gG]
           refine wpAnyH_take (i := 1) (oi := _) (v := .int .i64 f) rfl (by kernel_rfl) (by kernel_rfl) (by kernel_rfl) (fun _ _ _ h => h) (Or.inl ⟨by rfl, fun w' hSw => by obtain ⟨zz0, zz1, zz2, zz3⟩ := hSw; go_simp⟩) hH ?_
           simp only [Act.put, gA, gB, gC, gD, gE, gG]
           refine wpAnyH_take (i := 3) (oi := _) (v := .int .i64 0) rfl (by kernel_rfl) (by kernel_rfl) (by kernel_rfl) (fun _ _ _ h => h) (Or.inl ⟨by rfl, fun w' hSw => by obtain ⟨zz0, zz1, zz2, zz3⟩ := hSw; go_simp⟩) hH ?_
           simp only [Act.put, gA, gB, gC, gD, gE, gG]
           refine wpAnyH_take (i := 4) (oi := _) (v := .pointer (some ⟨b10, 0, none⟩)) rfl (by kernel_rfl) (by kernel_rfl) (by kernel_rfl) (fun _ _ _ h => h) (Or.inl ⟨by rfl, fun w' hSw => by obtain ⟨zz0, zz1, zz2, zz3⟩ := hSw; go_simp⟩) hH ?_
           simp only [Act.put, gA, gB, gC, gD, gE, gG]
           refine wpAnyH_take (i := 5) (oi := _) (v := .pointer (some ⟨b10, 0, none⟩)) rfl (by kernel_rfl) (by kernel_rfl) (by kernel_rfl) (fun _ _ _ h => h) (Or.inl ⟨by rfl, fun w' hSw => by obtain ⟨zz0, zz1, zz2, zz3⟩ := hSw; go_simp⟩) hH ?_
           simp only [Act.put, gA, gB, gC, gD, gE, gG]
           refine wpAnyH_take (i := 6) (oi := _) (v := .int .u64 a) rfl (by kernel_rfl) (by kernel_rfl) (by kernel_rfl) (fun _ _ _ h => h) (Or.inl ⟨by rfl, fun w' hSw => by obtain ⟨zz0, zz1, zz2, zz3⟩ := hSw; go_simp⟩) hH ?_
           simp only [Act.put, gA, gB, gC, gD, gE, gG]
           refine wpAnyH_take (i := 8) (oi := _) (v := .int .i64 f) rfl (by kernel_rfl) (by kernel_rfl) (by kernel_rfl) (fun _ _ _ h => h) (Or.inl ⟨by rfl, fun w' hSw => by obtain ⟨zz0, zz1, zz2, zz3⟩ := hSw; go_simp⟩) hH ?_
           simp only [Act.put, gA, gB, gC, gD, gE, gG]
           refine wpAnyH_take (i := 10) (oi := _) (v := .int .i64 0) rfl (by kernel_rfl) (by kernel_rfl) (by kernel_rfl) (fun _ _ _ h => h) (Or.inl ⟨by rfl, fun w' hSw => by obtain ⟨zz0, zz1, zz2, zz3⟩ := hSw; go_simp⟩) hH ?_
           simp only [Act.put, gA, gB, gC, gD, gE, gG]
           refine wpAnyH_take (i := 11) (oi := _) (v := .pointer (some ⟨b10, 2, none⟩)) rfl (by kernel_rfl) (by kernel_rfl) (by kernel_rfl) (fun _ _ _ h => h) (Or.inl ⟨by rfl, fun w' hSw => by obtain ⟨zz0, zz1, zz2, zz3⟩ := hSw; go_simp⟩) hH ?_
           simp only [Act.put, gA, gB, gC, gD, gE, gG]
           refine wpAnyH_take (i := 12) (oi := _) (v := .pointer (some ⟨b10, 2, none⟩)) rfl (by kernel_rfl) (by kernel_rfl) (by kernel_rfl) (fun _ _ _ h => h) (Or.inl ⟨by rfl, fun w' hSw => by obtain ⟨zz0, zz1, zz2, zz3⟩ := hSw; go_simp⟩) hH ?_
           simp only [Act.put, gA, gB, gC, gD, gE, gG]
           refine wpAnyH_take (i := 13) (oi := _) (v := .int .u64 c) rfl (by kernel_rfl) (by kernel_rfl) (by kernel_rfl) (fun _ _ _ h => h) (Or.inl ⟨by rfl, fun w' hSw => by obtain ⟨zz0, zz1, zz2, zz3⟩ := hSw; go_simp⟩) hH ?_
           simp only [Act.put, gA, gB, gC, gD, gE, gG]
           generalize hY : WR.drew = Y0 at *
           clear hY
           refine wpAnyH_ready (rs := [2, 19]) (by kernel_rfl) (by simp) (AllReadyH.cons (o := _) rfl (fun K hK => ?_) (AllReadyH.cons (o := _) rfl (fun K hK => ?_) AllReadyH.nil))
           ·skip
            go_simp
            refine (kt _).mono ?_
            rintro e Y1 ⟨rfl, g⟩
            replace cd := sp_call cd g
            clear g
            go_wp2_with fail
            refine hK.out _ _ (hall _ cd) (fun hH => ?_)
            clear hK K
            try simp only [Act.put, gA, gB, gC, gD, gE, gG]
            refine wpAnyH_take (i := 7) (oi := _) (v := .agg #[.int .i64 t, .int .i64 0, .int .u64 a]) rfl (by kernel_rfl) (by kernel_rfl) (by kernel_rfl) (fun _ _ _ h => h) (Or.inl ⟨by rfl, fun w' hSw => by obtain ⟨zz0, zz1, zz2, zz3⟩ := hSw; go_simp⟩) hH ?_
            simp only [Act.put, gA, gB, gC, gD, gE, gG]
            refine wpAnyH_ready (rs := [9, 19]) (by kernel_rfl) (by simp) (AllReadyH.cons (o := _) rfl (fun K hK => ?_) (AllReadyH.cons (o := _) rfl (fun K hK => ?_) AllReadyH.nil))
            ·skip
             go_simp
             refine (kt _).mono ?_
             rintro e Y2 ⟨rfl, g⟩
             replace cd := sp_call cd g
             clear g
             go_wp2_with fail
             refine hK.out _ _ (hall _ cd) (fun hH => ?_)
             clear hK K
             try simp only [Act.put, gA, gB, gC, gD, gE, gG]
             refine wpAnyH_take (i := 14) (oi := _) (v := .agg #[.int .i64 t, .int .i64 0, .int .u64 c]) rfl (by kernel_rfl) (by kernel_rfl) (by kernel_rfl) (fun _ _ _ h => h) (Or.inl ⟨by rfl, fun w' hSw => by obtain ⟨zz0, zz1, zz2, zz3⟩ := hSw; go_simp⟩) hH ?_
             simp only [Act.put, gA, gB, gC, gD, gE, gG]
             refine wpAnyH_ready (rs := [15, 19]) (by kernel_rfl) (by simp) (AllReadyH.cons (o := _) rfl (fun K hK => ?_) (AllReadyH.cons (o := _) rfl (fun K hK => ?_) AllReadyH.nil))
             ·skip
              go_simp
              refine (k00 _).mono ?_
              rintro e Y3 ⟨rfl, g⟩
              replace cd := sp_call cd g
              clear g
              go_wp2_with fail
              refine hK.out _ _ (hall _ cd) (fun hH => ?_)
              clear hK K
              try simp only [Act.put, gA, gB, gC, gD, gE, gG]
              refine wpAnyH_take (i := 16) (oi := _) (v := .tuple #[.agg #[.int .i64 (m 0 0), .int .i64 0, .int .u64 (v 0 0)], .int .i64 (tr 0 0)]) rfl (by kernel_rfl) (by kernel_rfl) (by kernel_rfl) (fun _ _ _ h => h) (Or.inl ⟨by rfl, fun w' hSw => by obtain ⟨zz0, zz1, zz2, zz3⟩ := hSw; go_simp⟩) hH ?_
              simp only [Act.put, gA, gB, gC, gD, gE, gG]
              refine wpAnyH_take (i := 17) (oi := _) (v := .agg #[.int .i64 (m 0 0), .int .i64 0, .int .u64 (v 0 0)]) rfl (by kernel_rfl) (by kernel_rfl) (by kernel_rfl) (fun _ _ _ h => h) (Or.inl ⟨by rfl, fun w' hSw => by obtain ⟨zz0, zz1, zz2, zz3⟩ := hSw; go_simp⟩) hH ?_
              simp only [Act.put, gA, gB, gC, gD, gE, gG]
              refine wpAnyH_take (i := 18) (oi := _) (v := .int .i64 (tr 0 0)) rfl (by kernel_rfl) (by kernel_rfl) (by kernel_rfl) (fun _ _ _ h => h) (Or.inl ⟨by rfl, fun w' hSw => by obtain ⟨zz0, zz1, zz2, zz3⟩ := hSw; go_simp⟩) hH ?_
              simp only [Act.put, gA, gB, gC, gD, gE, gG]
              refine wpAnyH_ready (rs := [19]) (by kernel_rfl) (by simp) (AllReadyH.cons (o := _) rfl (fun K hK => ?_) AllReadyH.nil)
              go_simp
              have zzY3 := cd.size
              have qa := World.alloc_heap_new Y3 (Obj.cells #[.int .i64 0, .int .i64 0, .int .u64 0] 71 (0, 0))
              replace cd := sp_new cd (Obj.cells #[.int .i64 0, .int .i64 0, .int .u64 0] 71 (0, 0))
              generalize hY : Y3.alloc (Obj.cells #[.int .i64 0, .int .i64 0, .int .u64 0] 71 (0, 0)) = Y4 at *
              clear hY
              refine hK.out _ _ (hall _ cd) (fun hH => ?_)
              clear hK K
              try simp only [Act.put, gA, gB, gC, gD, gE, gG]
              refine wpAnyH_ready (rs := [20]) (by kernel_rfl) (by simp) (AllReadyH.cons (o := _) rfl (fun K hK => ?_) AllReadyH.nil)
              obtain ⟨q0, q1, q2, qf⟩ := re_cells3 qa
              go_simp
              clear q0 q1 q2 qf
              replace qa := re_set3 qa (.int .i64 (m 0 0)) (.int .i64 0) (.int .u64 (v 0 0))
              replace cd := sp_set3 (b := Y3.heap.size) cd zzY3 (.int .i64 (m 0 0)) (.int .i64 0) (.int .u64 (v 0 0))
              generalize hY : (((Y4.setCell ⟨Y3.heap.size, 0, none⟩ (.int .i64 (m 0 0))).setCell ⟨Y3.heap.size, 1, none⟩ (.int .i64 0)).setCell ⟨Y3.heap.size, 2, none⟩ (.int .u64 (v 0 0))) = Y5 at *
              clear hY
              refine hK.out _ _ (hall _ cd) (fun hH => ?_)
              clear hK K
              try simp only [Act.put, gA, gB, gC, gD, gE, gG]
              refine wpAnyH_take (i := 21) (oi := _) (v := .int .i64 (tr 0 0)) rfl (by kernel_rfl) (by kernel_rfl) (by kernel_rfl) (fun _ _ _ h => h) (Or.inl ⟨by rfl, fun w' hSw => by obtain ⟨zz0, zz1, zz2, zz3⟩ := hSw; go_simp⟩) hH ?_
              simp only [Act.put, gA, gB, gC, gD, gE, gG]
              refine wpAnyH_done (by kernel_rfl) ?_ _
              go_wp2_with fail
              go_meet
              exact ⟨_, _, rfl, rfl, rfl, qa, zzY3, cd⟩
             ·skip
              go_simp
              have zzY2 := cd.size
              have qa := World.alloc_heap_new Y2 (Obj.cells #[.int .i64 0, .int .i64 0, .int .u64 0] 71 (0, 0))
              replace cd := sp_new cd (Obj.cells #[.int .i64 0, .int .i64 0, .int .u64 0] 71 (0, 0))
              generalize hY : Y2.alloc (Obj.cells #[.int .i64 0, .int .i64 0, .int .u64 0] 71 (0, 0)) = Y6 at *
              clear hY
              refine hK.out _ _ (hall _ cd) (fun hH => ?_)
              clear hK K
              try simp only [Act.put, gA, gB, gC, gD, gE, gG]
              refine wpAnyH_ready (rs := [15]) (by kernel_rfl) (by simp) (AllReadyH.cons (o := _) rfl (fun K hK => ?_) AllReadyH.nil)
              go_simp
              refine (k00 _).mono ?_
              rintro e Y7 ⟨rfl, g⟩
              replace cd := sp_call cd g
              replace qa := carryF g qa
              clear g
              go_wp2_with fail
              refine hK.out _ _ (hall _ cd) (fun hH => ?_)
              clear hK K
              try simp only [Act.put, gA, gB, gC, gD, gE, gG]
              refine wpAnyH_take (i := 16) (oi := _) (v := .tuple #[.agg #[.int .i64 (m 0 0), .int .i64 0, .int .u64 (v 0 0)], .int .i64 (tr 0 0)]) rfl (by kernel_rfl) (by kernel_rfl) (by kernel_rfl) (fun _ _ _ h => h) (Or.inl ⟨by rfl, fun w' hSw => by obtain ⟨zz0, zz1, zz2, zz3⟩ := hSw; go_simp⟩) hH ?_
              simp only [Act.put, gA, gB, gC, gD, gE, gG]
              refine wpAnyH_take (i := 17) (oi := _) (v := .agg #[.int .i64 (m 0 0), .int .i64 0, .int .u64 (v 0 0)]) rfl (by kernel_rfl) (by kernel_rfl) (by kernel_rfl) (fun _ _ _ h => h) (Or.inl ⟨by rfl, fun w' hSw => by obtain ⟨zz0, zz1, zz2, zz3⟩ := hSw; go_simp⟩) hH ?_
              simp only [Act.put, gA, gB, gC, gD, gE, gG]
              refine wpAnyH_take (i := 18) (oi := _) (v := .int .i64 (tr 0 0)) rfl (by kernel_rfl) (by kernel_rfl) (by kernel_rfl) (fun _ _ _ h => h) (Or.inl ⟨by rfl, fun w' hSw => by obtain ⟨zz0, zz1, zz2, zz3⟩ := hSw; go_simp⟩) hH ?_
              simp only [Act.put, gA, gB, gC, gD, gE, gG]
              refine wpAnyH_ready (rs := [20]) (by kernel_rfl) (by simp) (AllReadyH.cons (o := _) rfl (fun K hK => ?_) AllReadyH.nil)
              obtain ⟨q0, q1, q2, qf⟩ := re_cells3 qa
              go_simp
              clear q0 q1 q2 qf
              replace qa := re_set3 qa (.int .i64 (m 0 0)) (.int .i64 0) (.int .u64 (v 0 0))
              replace cd := sp_set3 (b := Y2.heap.size) cd zzY2 (.int .i64 (m 0 0)) (.int .i64 0) (.int .u64 (v 0 0))
              generalize hY : (((Y7.setCell ⟨Y2.heap.size, 0, none⟩ (.int .i64 (m 0 0))).setCell ⟨Y2.heap.size, 1, none⟩ (.int .i64 0)).setCell ⟨Y2.heap.size, 2, none⟩ (.int .u64 (v 0 0))) = Y8 at *
              clear hY
              refine hK.out _ _ (hall _ cd) (fun hH => ?_)
              clear hK K
              try simp only [Act.put, gA, gB, gC, gD, gE, gG]
              refine wpAnyH_take (i := 21) (oi := _) (v := .int .i64 (tr 0 0)) rfl (by kernel_rfl) (by kernel_rfl) (by kernel_rfl) (fun _ _ _ h => h) (Or.inl ⟨by rfl, fun w' hSw => by obtain ⟨zz0, zz1, zz2, zz3⟩ := hSw; go_simp⟩) hH ?_
              simp only [Act.put, gA, gB, gC, gD, gE, gG]
              refine wpAnyH_done (by kernel_rfl) ?_ _
              go_wp2_with fail
              go_meet
              exact ⟨_, _, rfl, rfl, rfl, qa, zzY2, cd⟩
            ·skip
             go_simp
             have zzY1 := cd.size
             have qa := World.alloc_heap_new Y1 (Obj.cells #[.int .i64 0, .int .i64 0, .int .u64 0] 71 (0, 0))
             replace cd := sp_new cd (Obj.cells #[.int .i64 0, .int .i64 0, .int .u64 0] 71 (0, 0))
             generalize hY : Y1.alloc (Obj.cells #[.int .i64 0, .int .i64 0, .int .u64 0] 71 (0, 0)) = Y9 at *
             clear hY
             refine hK.out _ _ (hall _ cd) (fun hH => ?_)
             clear hK K
             try simp only [Act.put, gA, gB, gC, gD, gE, gG]
             refine wpAnyH_ready (rs := [9]) (by kernel_rfl) (by simp) (AllReadyH.cons (o := _) rfl (fun K hK => ?_) AllReadyH.nil)
             go_simp
             refine (kt _).mono ?_
             rintro e Y10 ⟨rfl, g⟩
             replace cd := sp_call cd g
             replace qa := carryF g qa
             clear g
             go_wp2_with fail
             refine hK.out _ _ (hall _ cd) (fun hH => ?_)
             clear hK K
             try simp only [Act.put, gA, gB, gC, gD, gE, gG]
             refine wpAnyH_take (i := 14) (oi := _) (v := .agg #[.int .i64 t, .int .i64 0, .int .u64 c]) rfl (by kernel_rfl) (by kernel_rfl) (by kernel_rfl) (fun _ _ _ h => h) (Or.inl ⟨by rfl, fun w' hSw => by obtain ⟨zz0, zz1, zz2, zz3⟩ := hSw; go_simp⟩) hH ?_
             simp only [Act.put, gA, gB, gC, gD, gE, gG]
             refine wpAnyH_ready (rs := [15]) (by kernel_rfl) (by simp) (AllReadyH.cons (o := _) rfl (fun K hK => ?_) AllReadyH.nil)
             go_simp
             refine (k00 _).mono ?_
             rintro e Y11 ⟨rfl, g⟩
             replace cd := sp_call cd g
             replace qa := carryF g qa
             clear g
             go_wp2_with fail
             refine hK.out _ _ (hall _ cd) (fun hH => ?_)
             clear hK K
             try simp only [Act.put, gA, gB, gC, gD, gE, gG]
             refine wpAnyH_take (i := 16) (oi := _) (v := .tuple #[.agg #[.int .i64 (m 0 0), .int .i64 0, .int .u64 (v 0 0)], .int .i64 (tr 0 0)]) rfl (by kernel_rfl) (by kernel_rfl) (by kernel_rfl) (fun _ _ _ h => h) (Or.inl ⟨by rfl, fun w' hSw => by obtain ⟨zz0, zz1, zz2, zz3⟩ := hSw; go_simp⟩) hH ?_
             simp only [Act.put, gA, gB, gC, gD, gE, gG]
             refine wpAnyH_take (i := 17) (oi := _) (v := .agg #[.int .i64 (m 0 0), .int .i64 0, .int .u64 (v 0 0)]) rfl (by kernel_rfl) (by kernel_rfl) (by kernel_rfl) (fun _ _ _ h => h) (Or.inl ⟨by rfl, fun w' hSw => by obtain ⟨zz0, zz1, zz2, zz3⟩ := hSw; go_simp⟩) hH ?_
             simp only [Act.put, gA, gB, gC, gD, gE, gG]
             refine wpAnyH_take (i := 18) (oi := _) (v := .int .i64 (tr 0 0)) rfl (by kernel_rfl) (by kernel_rfl) (by kernel_rfl) (fun _ _ _ h => h) (Or.inl ⟨by rfl, fun w' hSw => by obtain ⟨zz0, zz1, zz2, zz3⟩ := hSw; go_simp⟩) hH ?_
             simp only [Act.put, gA, gB, gC, gD, gE, gG]
             refine wpAnyH_ready (rs := [20]) (by kernel_rfl) (by simp) (AllReadyH.cons (o := _) rfl (fun K hK => ?_) AllReadyH.nil)
             obtain ⟨q0, q1, q2, qf⟩ := re_cells3 qa
             go_simp
             clear q0 q1 q2 qf
             replace qa := re_set3 qa (.int .i64 (m 0 0)) (.int .i64 0) (.int .u64 (v 0 0))
             replace cd := sp_set3 (b := Y1.heap.size) cd zzY1 (.int .i64 (m 0 0)) (.int .i64 0) (.int .u64 (v 0 0))
             generalize hY : (((Y11.setCell ⟨Y1.heap.size, 0, none⟩ (.int .i64 (m 0 0))).setCell ⟨Y1.heap.size, 1, none⟩ (.int .i64 0)).setCell ⟨Y1.heap.size, 2, none⟩ (.int .u64 (v 0 0))) = Y12 at *
             clear hY
             refine hK.out _ _ (hall _ cd) (fun hH => ?_)
             clear hK K
             try simp only [Act.put, gA, gB, gC, gD, gE, gG]
             refine wpAnyH_take (i := 21) (oi := _) (v := .int .i64 (tr 0 0)) rfl (by kernel_rfl) (by kernel_rfl) (by kernel_rfl) (fun _ _ _ h => h) (Or.inl ⟨by rfl, fun w' hSw => by obtain ⟨zz0, zz1, zz2, zz3⟩ := hSw; go_simp⟩) hH ?_
             simp only [Act.put, gA, gB, gC, gD, gE, gG]
             refine wpAnyH_done (by kernel_rfl) ?_ _
             go_wp2_with fail
             go_meet
             exact ⟨_, _, rfl, rfl, rfl, qa, zzY1, cd⟩
           ·skip
            go_simp
            have zzY0 := cd.size
            have qa := World.alloc_heap_new Y0 (Obj.cells #[.int .i64 0, .int .i64 0, .int .u64 0] 71 (0, 0))
            replace cd := sp_new cd (Obj.cells #[.int .i64 0, .int .i64 0, .int .u64 0] 71 (0, 0))
            generalize hY : Y0.alloc (Obj.cells #[.int .i64 0, .int .i64 0, .int .u64 0] 71 (0, 0)) = Y13 at *
            clear hY
            refine hK.out _ _ (hall _ cd) (fun hH => ?_)
            clear hK K
            try simp only [Act.put, gA, gB, gC, gD, gE, gG]
            refine wpAnyH_ready (rs := [2]) (by kernel_rfl) (by simp) (AllReadyH.cons (o := _) rfl (fun K hK => ?_) AllReadyH.nil)
            go_simp
            refine (kt _).mono ?_
            rintro e Y14 ⟨rfl, g⟩
            replace cd := sp_call cd g
            replace qa := carryF g qa
            clear g
            go_wp2_with fail
            refine hK.out _ _ (hall _ cd) (fun hH => ?_)
            clear hK K
            try simp only [Act.put, gA, gB, gC, gD, gE, gG]
            refine wpAnyH_take (i := 7) (oi := _) (v := .agg #[.int .i64 t, .int .i64 0, .int .u64 a]) rfl (by kernel_rfl) (by kernel_rfl) (by kernel_rfl) (fun _ _ _ h => h) (Or.inl ⟨by rfl, fun w' hSw => by obtain ⟨zz0, zz1, zz2, zz3⟩ := hSw; go_simp⟩) hH ?_
            simp only [Act.put, gA, gB, gC, gD, gE, gG]
            refine wpAnyH_ready (rs := [9]) (by kernel_rfl) (by simp) (AllReadyH.cons (o := _) rfl (fun K hK => ?_) AllReadyH.nil)
            go_simp
            refine (kt _).mono ?_
            rintro e Y15 ⟨rfl, g⟩
            replace cd := sp_call cd g
            replace qa := carryF g qa
            clear g
            go_wp2_with fail
            refine hK.out _ _ (hall _ cd) (fun hH => ?_)
            clear hK K
            try simp only [Act.put, gA, gB, gC, gD, gE, gG]
            refine wpAnyH_take (i := 14) (oi := _) (v := .agg #[.int .i64 t, .int .i64 0, .int .u64 c]) rfl (by kernel_rfl) (by kernel_rfl) (by kernel_rfl) (fun _ _ _ h => h) (Or.inl ⟨by rfl, fun w' hSw => by obtain ⟨zz0, zz1, zz2, zz3⟩ := hSw; go_simp⟩) hH ?_
            simp only [Act.put, gA, gB, gC, gD, gE, gG]
            refine wpAnyH_ready (rs := [15]) (by kernel_rfl) (by simp) (AllReadyH.cons (o := _) rfl (fun K hK => ?_) AllReadyH.nil)
            go_simp
            refine (k00 _).mono ?_
            rintro e Y16 ⟨rfl, g⟩
            replace cd := sp_call cd g
            replace qa := carryF g qa
            clear g
            go_wp2_with fail
            refine hK.out _ _ (hall _ cd) (fun hH => ?_)
            clear hK K
            try simp only [Act.put, gA, gB, gC, gD, gE, gG]
            refine wpAnyH_take (i := 16) (oi := _) (v := .tuple #[.agg #[.int .i64 (m 0 0), .int .i64 0, .int .u64 (v 0 0)], .int .i64 (tr 0 0)]) rfl (by kernel_rfl) (by kernel_rfl) (by kernel_rfl) (fun _ _ _ h => h) (Or.inl ⟨by rfl, fun w' hSw => by obtain ⟨zz0, zz1, zz2, zz3⟩ := hSw; go_simp⟩) hH ?_
            simp only [Act.put, gA, gB, gC, gD, gE, gG]
            refine wpAnyH_take (i := 17) (oi := _) (v := .agg #[.int .i64 (m 0 0), .int .i64 0, .int .u64 (v 0 0)]) rfl (by kernel_rfl) (by kernel_rfl) (by kernel_rfl) (fun _ _ _ h => h) (Or.inl ⟨by rfl, fun w' hSw => by obtain ⟨zz0, zz1, zz2, zz3⟩ := hSw; go_simp⟩) hH ?_
            simp only [Act.put, gA, gB, gC, gD, gE, gG]
            refine wpAnyH_take (i := 18) (oi := _) (v := .int .i64 (tr 0 0)) rfl (by kernel_rfl) (by kernel_rfl) (by kernel_rfl) (fun _ _ _ h => h) (Or.inl ⟨by rfl, fun w' hSw => by obtain ⟨zz0, zz1, zz2, zz3⟩ := hSw; go_simp⟩) hH ?_
            simp only [Act.put, gA, gB, gC, gD, gE, gG]
            refine wpAnyH_ready (rs := [20]) (by kernel_rfl) (by simp) (AllReadyH.cons (o := _) rfl (fun K hK => ?_) AllReadyH.nil)
            obtain ⟨q0, q1, q2, qf⟩ := re_cells3 qa
            go_simp
            clear q0 q1 q2 qf
            replace qa := re_set3 qa (.int .i64 (m 0 0)) (.int .i64 0) (.int .u64 (v 0 0))
            replace cd := sp_set3 (b := Y0.heap.size) cd zzY0 (.int .i64 (m 0 0)) (.int .i64 0) (.int .u64 (v 0 0))
            generalize hY : (((Y16.setCell ⟨Y0.heap.size, 0, none⟩ (.int .i64 (m 0 0))).setCell ⟨Y0.heap.size, 1, none⟩ (.int .i64 0)).setCell ⟨Y0.heap.size, 2, none⟩ (.int .u64 (v 0 0))) = Y17 at *
            clear hY
            refine hK.out _ _ (hall _ cd) (fun hH => ?_)
            clear hK K
            try simp only [Act.put, gA, gB, gC, gD, gE, gG]
            refine wpAnyH_take (i := 21) (oi := _) (v := .int .i64 (tr 0 0)) rfl (by kernel_rfl) (by kernel_rfl) (by kernel_rfl) (fun _ _ _ h => h) (Or.inl ⟨by rfl, fun w' hSw => by obtain ⟨zz0, zz1, zz2, zz3⟩ := hSw; go_simp⟩) hH ?_
            simp only [Act.put, gA, gB, gC, gD, gE, gG]
            refine wpAnyH_done (by kernel_rfl) ?_ _
            go_wp2_with fail
            go_meet
            exact ⟨_, _, rfl, rfl, rfl, qa, zzY0, cd⟩
          case rest =>
           obtain ⟨W8, b13, rfl, rfl, rfl, qa, hb13, cX⟩ := hcut
           obtain ⟨s0, s1, s2, _⟩ := re_cells3 qa
           replace y0 := sO cX y0; replace y1 := sO cX y1; replace y2 := sO cX y2
           replace cc := sp_call cc cX
           clear cX hall cd
           have amL := among_step00 v l2
           have amH := among_step00 v h2
           rcases hL : among v l2 0 0 with _ | _
           all_goals rcases hH : among v h2 0 0 with _ | _
           all_goals go_wp2_with fail
           all_goals go_roundw
           all_goals first
             | exact ⟨_, 1, rfl, by simp, by simp [amL, hL], by simp [amH, hH], rfl, cc⟩
             | (simp [intOf]; done)
        · skip
          go_upto_region 15 with fail
          replace z0 := sO cc z0; replace z1 := sO cc z1; replace z2 := sO cc z2; replace z3 := sO cc z3; replace y0 := sO cc y0; replace y1 := sO cc y1; replace y2 := sO cc y2
          have hall : ∀ X9, Below WR.heap.size WR X9 → (X9.cell? ⟨b10, 0, none⟩ = some (.int .u64 a) ∧ X9.cell? ⟨b10, 1, none⟩ = some (.int .u64 b) ∧ X9.cell? ⟨b10, 2, none⟩ = some (.int .u64 c) ∧ X9.cell? ⟨b10, 3, none⟩ = some (.int .u64 d)) := fun X9 cc => ⟨sO cc z0, sO cc z1, sO cc z2, sO cc z3⟩
          have cd : Below WR.heap.size WR WR.drew := (Below.refl _ _).drew
          go_cut [13, 14] from 76 to 94 (fun s u X => ∃ (W8 : World) (b13 : Nat), W8 = X ∧ s = .pointer (some ⟨b13, 0, none⟩) ∧ u = .int .i64 (tr 0 1) ∧ X.heap[b13]? = some (Obj.cells #[.int .i64 (m 0 1), .int .i64 0, .int .u64 (v 0 1)] 71 (0, 0)) ∧ WR.heap.size ≤ b13 ∧ Below WR.heap.size WR X)
          case first =>
           refine wp_region_held_drew (S := (fun w' => w'.cell? ⟨b10, 0, none⟩ = some (.int .u64 a) ∧ w'.cell? ⟨b10, 1, none⟩ = some (.int .u64 b) ∧ w'.cell? ⟨b10, 2, none⟩ = some (.int .u64 c) ∧ w'.cell? ⟨b10, 3, none⟩ = some (.int .u64 d))) (by kernel_rfl) (hall _ cd) (fun hH => ?_)
           refine wpAnyH_take (i := 0) (oi := _) (v := .int .i64 op) rfl (by kernel_rfl) (by kernel_rfl) (by kernel_rfl) (fun _ _ _ h => h) (Or.inl ⟨by rfl, fun w' hSw => by obtain ⟨zz0, zz1, zz2, zz3⟩ := hSw; go_simp⟩) hH ?_
           simp only [Act.put, gA, gB, gC, gD, gE, gG]
           refine wpAnyH_take (i := 1) (oi := _) (v := .int .i64 f) rfl (by kernel_rfl) (by kernel_rfl) (by kernel_rfl) (fun _ _ _ h => h) (Or.inl ⟨by rfl, fun w' hSw => by obtain ⟨zz0, zz1, zz2, zz3⟩ := hSw; go_simp⟩) hH ?_
           simp only [Act.put, gA, gB, gC, gD, gE, gG]
           refine wpAnyH_take (i := 3) (oi := _) (v := .int .i64 0) rfl (by kernel_rfl) (by kernel_rfl) (by kernel_rfl) (fun _ _ _ h => h) (Or.inl ⟨by rfl, fun w' hSw => by obtain ⟨zz0, zz1, zz2, zz3⟩ := hSw; go_simp⟩) hH ?_
           simp only [Act.put, gA, gB, gC, gD, gE, gG]
           refine wpAnyH_take (i := 4) (oi := _) (v := .pointer (some ⟨b10, 0, none⟩)) rfl (by kernel_rfl) (by kernel_rfl) (by kernel_rfl) (fun _ _ _ h => h) (Or.inl ⟨by rfl, fun w' hSw => by obtain ⟨zz0, zz1, zz2, zz3⟩ := hSw; go_simp⟩) hH ?_
           simp only [Act.put, gA, gB, gC, gD, gE, gG]
           refine wpAnyH_take (i := 5) (oi := _) (v := .pointer (some ⟨b10, 0, none⟩)) rfl (by kernel_rfl) (by kernel_rfl) (by kernel_rfl) (fun _ _ _ h => h) (Or.inl ⟨by rfl, fun w' hSw => by obtain ⟨zz0, zz1, zz2, zz3⟩ := hSw; go_simp⟩) hH ?_
           simp only [Act.put, gA, gB, gC, gD, gE, gG]
           refine wpAnyH_take (i := 6) (oi := _) (v := .int .u64 a) rfl (by kernel_rfl) (by kernel_rfl) (by kernel_rfl) (fun _ _ _ h => h) (Or.inl ⟨by rfl, fun w' hSw => by obtain ⟨zz0, zz1, zz2, zz3⟩ := hSw; go_simp⟩) hH ?_
           simp only [Act.put, gA, gB, gC, gD, gE, gG]
           refine wpAnyH_take (i := 8) (oi := _) (v := .int .i64 f) rfl (by kernel_rfl) (by kernel_rfl) (by kernel_rfl) (fun _ _ _ h => h) (Or.inl ⟨by rfl, fun w' hSw => by obtain ⟨zz0, zz1, zz2, zz3⟩ := hSw; go_simp⟩) hH ?_
           simp only [Act.put, gA, gB, gC, gD, gE, gG]
           refine wpAnyH_take (i := 10) (oi := _) (v := .int .i64 1) rfl (by kernel_rfl) (by kernel_rfl) (by kernel_rfl) (fun _ _ _ h => h) (Or.inl ⟨by rfl, fun w' hSw => by obtain ⟨zz0, zz1, zz2, zz3⟩ := hSw; go_simp⟩) hH ?_
           simp only [Act.put, gA, gB, gC, gD, gE, gG]
           refine wpAnyH_take (i := 11) (oi := _) (v := .pointer (some ⟨b10, 2, none⟩)) rfl (by kernel_rfl) (by kernel_rfl) (by kernel_rfl) (fun _ _ _ h => h) (Or.inl ⟨by rfl, fun w' hSw => by obtain ⟨zz0, zz1, zz2, zz3⟩ := hSw; go_simp⟩) hH ?_
           simp only [Act.put, gA, gB, gC, gD, gE, gG]
           refine wpAnyH_take (i := 12) (oi := _) (v := .pointer (some ⟨b10, 3, none⟩)) rfl (by kernel_rfl) (by kernel_rfl) (by kernel_rfl) (fun _ _ _ h => h) (Or.inl ⟨by rfl, fun w' hSw => by obtain ⟨zz0, zz1, zz2, zz3⟩ := hSw; go_simp⟩) hH ?_
           simp only [Act.put, gA, gB, gC, gD, gE, gG]
           refine wpAnyH_take (i := 13) (oi := _) (v := .int .u64 d) rfl (by kernel_rfl) (by kernel_rfl) (by kernel_rfl) (fun _ _ _ h => h) (Or.inl ⟨by rfl, fun w' hSw => by obtain ⟨zz0, zz1, zz2, zz3⟩ := hSw; go_simp⟩) hH ?_
           simp only [Act.put, gA, gB, gC, gD, gE, gG]
           generalize hY : WR.drew = Y0 at *
           clear hY
           refine wpAnyH_ready (rs := [2, 19]) (by kernel_rfl) (by simp) (AllReadyH.cons (o := _) rfl (fun K hK => ?_) (AllReadyH.cons (o := _) rfl (fun K hK => ?_) AllReadyH.nil))
           ·skip
            go_simp
            refine (kt _).mono ?_
            rintro e Y1 ⟨rfl, g⟩
            replace cd := sp_call cd g
            clear g
            go_wp2_with fail
            refine hK.out _ _ (hall _ cd) (fun hH => ?_)
            clear hK K
            try simp only [Act.put, gA, gB, gC, gD, gE, gG]
            refine wpAnyH_take (i := 7) (oi := _) (v := .agg #[.int .i64 t, .int .i64 0, .int .u64 a]) rfl (by kernel_rfl) (by kernel_rfl) (by kernel_rfl) (fun _ _ _ h => h) (Or.inl ⟨by rfl, fun w' hSw => by obtain ⟨zz0, zz1, zz2, zz3⟩ := hSw; go_simp⟩) hH ?_
            simp only [Act.put, gA, gB, gC, gD, gE, gG]
            refine wpAnyH_ready (rs := [9, 19]) (by kernel_rfl) (by simp) (AllReadyH.cons (o := _) rfl (fun K hK => ?_) (AllReadyH.cons (o := _) rfl (fun K hK => ?_) AllReadyH.nil))
            ·skip
             go_simp
             refine (kt _).mono ?_
             rintro e Y2 ⟨rfl, g⟩
             replace cd := sp_call cd g
             clear g
             go_wp2_with fail
             refine hK.out _ _ (hall _ cd) (fun hH => ?_)
             clear hK K
             try simp only [Act.put, gA, gB, gC, gD, gE, gG]
             refine wpAnyH_take (i := 14) (oi := _) (v := .agg #[.int .i64 t, .int .i64 0, .int .u64 d]) rfl (by kernel_rfl) (by kernel_rfl) (by kernel_rfl) (fun _ _ _ h => h) (Or.inl ⟨by rfl, fun w' hSw => by obtain ⟨zz0, zz1, zz2, zz3⟩ := hSw; go_simp⟩) hH ?_
             simp only [Act.put, gA, gB, gC, gD, gE, gG]
             refine wpAnyH_ready (rs := [15, 19]) (by kernel_rfl) (by simp) (AllReadyH.cons (o := _) rfl (fun K hK => ?_) (AllReadyH.cons (o := _) rfl (fun K hK => ?_) AllReadyH.nil))
             ·skip
              go_simp
              refine (k01 _).mono ?_
              rintro e Y3 ⟨rfl, g⟩
              replace cd := sp_call cd g
              clear g
              go_wp2_with fail
              refine hK.out _ _ (hall _ cd) (fun hH => ?_)
              clear hK K
              try simp only [Act.put, gA, gB, gC, gD, gE, gG]
              refine wpAnyH_take (i := 16) (oi := _) (v := .tuple #[.agg #[.int .i64 (m 0 1), .int .i64 0, .int .u64 (v 0 1)], .int .i64 (tr 0 1)]) rfl (by kernel_rfl) (by kernel_rfl) (by kernel_rfl) (fun _ _ _ h => h) (Or.inl ⟨by rfl, fun w' hSw => by obtain ⟨zz0, zz1, zz2, zz3⟩ := hSw; go_simp⟩) hH ?_
              simp only [Act.put, gA, gB, gC, gD, gE, gG]
              refine wpAnyH_take (i := 17) (oi := _) (v := .agg #[.int .i64 (m 0 1), .int .i64 0, .int .u64 (v 0 1)]) rfl (by kernel_rfl) (by kernel_rfl) (by kernel_rfl) (fun _ _ _ h => h) (Or.inl ⟨by rfl, fun w' hSw => by obtain ⟨zz0, zz1, zz2, zz3⟩ := hSw; go_simp⟩) hH ?_
              simp only [Act.put, gA, gB, gC, gD, gE, gG]
              refine wpAnyH_take (i := 18) (oi := _) (v := .int .i64 (tr 0 1)) rfl (by kernel_rfl) (by kernel_rfl) (by kernel_rfl) (fun _ _ _ h => h) (Or.inl ⟨by rfl, fun w' hSw => by obtain ⟨zz0, zz1, zz2, zz3⟩ := hSw; go_simp⟩) hH ?_
              simp only [Act.put, gA, gB, gC, gD, gE, gG]
              refine wpAnyH_ready (rs := [19]) (by kernel_rfl) (by simp) (AllReadyH.cons (o := _) rfl (fun K hK => ?_) AllReadyH.nil)
              go_simp
              have zzY3 := cd.size
              have qa := World.alloc_heap_new Y3 (Obj.cells #[.int .i64 0, .int .i64 0, .int .u64 0] 71 (0, 0))
              replace cd := sp_new cd (Obj.cells #[.int .i64 0, .int .i64 0, .int .u64 0] 71 (0, 0))
              generalize hY : Y3.alloc (Obj.cells #[.int .i64 0, .int .i64 0, .int .u64 0] 71 (0, 0)) = Y4 at *
              clear hY
              refine hK.out _ _ (hall _ cd) (fun hH => ?_)
              clear hK K
              try simp only [Act.put, gA, gB, gC, gD, gE, gG]
              refine wpAnyH_ready (rs := [20]) (by kernel_rfl) (by simp) (AllReadyH.cons (o := _) rfl (fun K hK => ?_) AllReadyH.nil)
              obtain ⟨q0, q1, q2, qf⟩ := re_cells3 qa
              go_simp
              clear q0 q1 q2 qf
              replace qa := re_set3 qa (.int .i64 (m 0 1)) (.int .i64 0) (.int .u64 (v 0 1))
              replace cd := sp_set3 (b := Y3.heap.size) cd zzY3 (.int .i64 (m 0 1)) (.int .i64 0) (.int .u64 (v 0 1))
              generalize hY : (((Y4.setCell ⟨Y3.heap.size, 0, none⟩ (.int .i64 (m 0 1))).setCell ⟨Y3.heap.size, 1, none⟩ (.int .i64 0)).setCell ⟨Y3.heap.size, 2, none⟩ (.int .u64 (v 0 1))) = Y5 at *
              clear hY
              refine hK.out _ _ (hall _ cd) (fun hH => ?_)
              clear hK K
              try simp only [Act.put, gA, gB, gC, gD, gE, gG]
              refine wpAnyH_take (i := 21) (oi := _) (v := .int .i64 (tr 0 1)) rfl (by kernel_rfl) (by kernel_rfl) (by kernel_rfl) (fun _ _ _ h => h) (Or.inl ⟨by rfl, fun w' hSw => by obtain ⟨zz0, zz1, zz2, zz3⟩ := hSw; go_simp⟩) hH ?_
              simp only [Act.put, gA, gB, gC, gD, gE, gG]
              refine wpAnyH_done (by kernel_rfl) ?_ _
              go_wp2_with fail
              go_meet
              exact ⟨_, _, rfl, rfl, rfl, qa, zzY3, cd⟩
             ·skip
              go_simp
              have zzY2 := cd.size
              have qa := World.alloc_heap_new Y2 (Obj.cells #[.int .i64 0, .int .i64 0, .int .u64 0] 71 (0, 0))
              replace cd := sp_new cd (Obj.cells #[.int .i64 0, .int .i64 0, .int .u64 0] 71 (0, 0))
              generalize hY : Y2.alloc (Obj.cells #[.int .i64 0, .int .i64 0, .int .u64 0] 71 (0, 0)) = Y6 at *
              clear hY
              refine hK.out _ _ (hall _ cd) (fun hH => ?_)
              clear hK K
              try simp only [Act.put, gA, gB, gC, gD, gE, gG]
              refine wpAnyH_ready (rs := [15]) (by kernel_rfl) (by simp) (AllReadyH.cons (o := _) rfl (fun K hK => ?_) AllReadyH.nil)
              go_simp
              refine (k01 _).mono ?_
              rintro e Y7 ⟨rfl, g⟩
              replace cd := sp_call cd g
              replace qa := carryF g qa
              clear g
              go_wp2_with fail
              refine hK.out _ _ (hall _ cd) (fun hH => ?_)
              clear hK K
              try simp only [Act.put, gA, gB, gC, gD, gE, gG]
              refine wpAnyH_take (i := 16) (oi := _) (v := .tuple #[.agg #[.int .i64 (m 0 1), .int .i64 0, .int .u64 (v 0 1)], .int .i64 (tr 0 1)]) rfl (by kernel_rfl) (by kernel_rfl) (by kernel_rfl) (fun _ _ _ h => h) (Or.inl ⟨by rfl, fun w' hSw => by obtain ⟨zz0, zz1, zz2, zz3⟩ := hSw; go_simp⟩) hH ?_
              simp only [Act.put, gA, gB, gC, gD, gE, gG]
              refine wpAnyH_take (i := 17) (oi := _) (v := .agg #[.int .i64 (m 0 1), .int .i64 0, .int .u64 (v 0 1)]) rfl (by kernel_rfl) (by kernel_rfl) (by kernel_rfl) (fun _ _ _ h => h) (Or.inl ⟨by rfl, fun w' hSw => by obtain ⟨zz0, zz1, zz2, zz3⟩ := hSw; go_simp⟩) hH ?_
              simp only [Act.put, gA, gB, gC, gD, gE, gG]
              refine wpAnyH_take (i := 18) (oi := _) (v := .int .i64 (tr 0 1)) rfl (by kernel_rfl) (by kernel_rfl) (by kernel_rfl) (fun _ _ _ h => h) (Or.inl ⟨by rfl, fun w' hSw => by obtain ⟨zz0, zz1, zz2, zz3⟩ := hSw; go_simp⟩) hH ?_
              simp only [Act.put, gA, gB, gC, gD, gE, gG]
              refine wpAnyH_ready (rs := [20]) (by kernel_rfl) (by simp) (AllReadyH.cons (o := _) rfl (fun K hK => ?_) AllReadyH.nil)
              obtain ⟨q0, q1, q2, qf⟩ := re_cells3 qa
              go_simp
              clear q0 q1 q2 qf
              replace qa := re_set3 qa (.int .i64 (m 0 1)) (.int .i64 0) (.int .u64 (v 0 1))
              replace cd := sp_set3 (b := Y2.heap.size) cd zzY2 (.int .i64 (m 0 1)) (.int .i64 0) (.int .u64 (v 0 1))
              generalize hY : (((Y7.setCell ⟨Y2.heap.size, 0, none⟩ (.int .i64 (m 0 1))).setCell ⟨Y2.heap.size, 1, none⟩ (.int .i64 0)).setCell ⟨Y2.heap.size, 2, none⟩ (.int .u64 (v 0 1))) = Y8 at *
              clear hY
              refine hK.out _ _ (hall _ cd) (fun hH => ?_)
              clear hK K
              try simp only [Act.put, gA, gB, gC, gD, gE, gG]
              refine wpAnyH_take (i := 21) (oi := _) (v := .int .i64 (tr 0 1)) rfl (by kernel_rfl) (by kernel_rfl) (by kernel_rfl) (fun _ _ _ h => h) (Or.inl ⟨by rfl, fun w' hSw => by obtain ⟨zz0, zz1, zz2, zz3⟩ := hSw; go_simp⟩) hH ?_
              simp only [Act.put, gA, gB, gC, gD, gE, gG]
              refine wpAnyH_done (by kernel_rfl) ?_ _
              go_wp2_with fail
              go_meet
              exact ⟨_, _, rfl, rfl, rfl, qa, zzY2, cd⟩
            ·skip
             go_simp
             have zzY1 := cd.size
             have qa := World.alloc_heap_new Y1 (Obj.cells #[.int .i64 0, .int .i64 0, .int .u64 0] 71 (0, 0))
             replace cd := sp_new cd (Obj.cells #[.int .i64 0, .int .i64 0, .int .u64 0] 71 (0, 0))
             generalize hY : Y1.alloc (Obj.cells #[.int .i64 0, .int .i64 0, .int .u64 0] 71 (0, 0)) = Y9 at *
             clear hY
             refine hK.out _ _ (hall _ cd) (fun hH => ?_)
             clear hK K
             try simp only [Act.put, gA, gB, gC, gD, gE, gG]
             refine wpAnyH_ready (rs := [9]) (by kernel_rfl) (by simp) (AllReadyH.cons (o := _) rfl (fun K hK => ?_) AllReadyH.nil)
             go_simp
             refine (kt _).mono ?_
             rintro e Y10 ⟨rfl, g⟩
             replace cd := sp_call cd g
             replace qa := carryF g qa
             clear g
             go_wp2_with fail
             refine hK.out _ _ (hall _ cd) (fun hH => ?_)
             clear hK K
             try simp only [Act.put, gA, gB, gC, gD, gE, gG]
             refine wpAnyH_take (i := 14) (oi := _) (v := .agg #[.int .i64 t, .int .i64 0, .int .u64 d]) rfl (by kernel_rfl) (by kernel_rfl) (by kernel_rfl) (fun _ _ _ h => h) (Or.inl ⟨by rfl, fun w' hSw => by obtain ⟨zz0, zz1, zz2, zz3⟩ := hSw; go_simp⟩) hH ?_
             simp only [Act.put, gA, gB, gC, gD, gE, gG]
             refine wpAnyH_ready (rs := [15]) (by kernel_rfl) (by simp) (AllReadyH.cons (o := _) rfl (fun K hK => ?_) AllReadyH.nil)
             go_simp
             refine (k01 _).mono ?_
             rintro e Y11 ⟨rfl, g⟩
             replace cd := sp_call cd g
             replace qa := carryF g qa
             clear g
             go_wp2_with fail
             refine hK.out _ _ (hall _ cd) (fun hH => ?_)
             clear hK K
             try simp only [Act.put, gA, gB, gC, gD, gE, gG]
             refine wpAnyH_take (i := 16) (oi := _) (v := .tuple #[.agg #[.int .i64 (m 0 1), .int .i64 0, .int .u64 (v 0 1)], .int .i64 (tr 0 1)]) rfl (by kernel_rfl) (by kernel_rfl) (by kernel_rfl) (fun _ _ _ h => h) (Or.inl ⟨by rfl, fun w' hSw => by obtain ⟨zz0, zz1, zz2, zz3⟩ := hSw; go_simp⟩) hH ?_
             simp only [Act.put, gA, gB, gC, gD, gE, gG]
             refine wpAnyH_take (i := 17) (oi := _) (v := .agg #[.int .i64 (m 0 1), .int .i64 0, .int .u64 (v 0 1)]) rfl (by kernel_rfl) (by kernel_rfl) (by kernel_rfl) (fun _ _ _ h => h) (Or.inl ⟨by rfl, fun w' hSw => by obtain ⟨zz0, zz1, zz2, zz3⟩ := hSw; go_simp⟩) hH ?_
             simp only [Act.put, gA, gB, gC, gD, gE, gG]
             refine wpAnyH_take (i := 18) (oi := _) (v := .int .i64 (tr 0 1)) rfl (by kernel_rfl) (by kernel_rfl) (by kernel_rfl) (fun _ _ _ h => h) (Or.inl ⟨by rfl, fun w' hSw => by obtain ⟨zz0, zz1, zz2, zz3⟩ := hSw; go_simp⟩) hH ?_
             simp only [Act.put, gA, gB, gC, gD, gE, gG]
             refine wpAnyH_ready (rs := [20]) (by kernel_rfl) (by simp) (AllReadyH.cons (o := _) rfl (fun K hK => ?_) AllReadyH.nil)
             obtain ⟨q0, q1, q2, qf⟩ := re_cells3 qa
             go_simp
             clear q0 q1 q2 qf
             replace qa := re_set3 qa (.int .i64 (m 0 1)) (.int .i64 0) (.int .u64 (v 0 1))
             replace cd := sp_set3 (b := Y1.heap.size) cd zzY1 (.int .i64 (m 0 1)) (.int .i64 0) (.int .u64 (v 0 1))
             generalize hY : (((Y11.setCell ⟨Y1.heap.size, 0, none⟩ (.int .i64 (m 0 1))).setCell ⟨Y1.heap.size, 1, none⟩ (.int .i64 0)).setCell ⟨Y1.heap.size, 2, none⟩ (.int .u64 (v 0 1))) = Y12 at *
             clear hY
             refine hK.out _ _ (hall _ cd) (fun hH => ?_)
             clear hK K
             try simp only [Act.put, gA, gB, gC, gD, gE, gG]
             refine wpAnyH_take (i := 21) (oi := _) (v := .int .i64 (tr 0 1)) rfl (by kernel_rfl) (by kernel_rfl) (by kernel_rfl) (fun _ _ _ h => h) (Or.inl ⟨by rfl, fun w' hSw => by obtain ⟨zz0, zz1, zz2, zz3⟩ := hSw; go_simp⟩) hH ?_
             simp only [Act.put, gA, gB, gC, gD, gE, gG]
             refine wpAnyH_done (by kernel_rfl) ?_ _
             go_wp2_with fail
             go_meet
             exact ⟨_, _, rfl, rfl, rfl, qa, zzY1, cd⟩
           ·skip
            go_simp
            have zzY0 := cd.size
            have qa := World.alloc_heap_new Y0 (Obj.cells #[.int .i64 0, .int .i64 0, .int .u64 0] 71 (0, 0))
            replace cd := sp_new cd (Obj.cells #[.int .i64 0, .int .i64 0, .int .u64 0] 71 (0, 0))
            generalize hY : Y0.alloc (Obj.cells #[.int .i64 0, .int .i64 0, .int .u64 0] 71 (0, 0)) = Y13 at *
            clear hY
            refine hK.out _ _ (hall _ cd) (fun hH => ?_)
            clear hK K
            try simp only [Act.put, gA, gB, gC, gD, gE, gG]
            refine wpAnyH_ready (rs := [2]) (by kernel_rfl) (by simp) (AllReadyH.cons (o := _) rfl (fun K hK => ?_) AllReadyH.nil)
            go_simp
            refine (kt _).mono ?_
            rintro e Y14 ⟨rfl, g⟩
            replace cd := sp_call cd g
            replace qa := carryF g qa
            clear g
            go_wp2_with fail
            refine hK.out _ _ (hall _ cd) (fun hH => ?_)
            clear hK K
            try simp only [Act.put, gA, gB, gC, gD, gE, gG]
            refine wpAnyH_take (i := 7) (oi := _) (v := .agg #[.int .i64 t, .int .i64 0, .int .u64 a]) rfl (by kernel_rfl) (by kernel_rfl) (by kernel_rfl) (fun _ _ _ h => h) (Or.inl ⟨by rfl, fun w' hSw => by obtain ⟨zz0, zz1, zz2, zz3⟩ := hSw; go_simp⟩) hH ?_
            simp only [Act.put, gA, gB, gC, gD, gE, gG]
            refine wpAnyH_ready (rs := [9]) (by kernel_rfl) (by simp) (AllReadyH.cons (o := _) rfl (fun K hK => ?_) AllReadyH.nil)
            go_simp
            refine (kt _).mono ?_
            rintro e Y15 ⟨rfl, g⟩
            replace cd := sp_call cd g
            replace qa := carryF g qa
            clear g
            go_wp2_with fail
            refine hK.out _ _ (hall _ cd) (fun hH => ?_)
            clear hK K
            try simp only [Act.put, gA, gB, gC, gD, gE, gG]
            refine wpAnyH_take (i := 14) (oi := _) (v := .agg #[.int .i64 t, .int .i64 0, .int .u64 d]) rfl (by kernel_rfl) (by kernel_rfl) (by kernel_rfl) (fun _ _ _ h => h) (Or.inl ⟨by rfl, fun w' hSw => by obtain ⟨zz0, zz1, zz2, zz3⟩ := hSw; go_simp⟩) hH ?_
            simp only [Act.put, gA, gB, gC, gD, gE, gG]
            refine wpAnyH_ready (rs := [15]) (by kernel_rfl) (by simp) (AllReadyH.cons (o := _) rfl (fun K hK => ?_) AllReadyH.nil)
            go_simp
            refine (k01 _).mono ?_
            rintro e Y16 ⟨rfl, g⟩
            replace cd := sp_call cd g
            replace qa := carryF g qa
            clear g
            go_wp2_with fail
            refine hK.out _ _ (hall _ cd) (fun hH => ?_)
            clear hK K
            try simp only [Act.put, gA, gB, gC, gD, gE, gG]
            refine wpAnyH_take (i := 16) (oi := _) (v := .tuple #[.agg #[.int .i64 (m 0 1), .int .i64 0, .int .u64 (v 0 1)], .int .i64 (tr 0 1)]) rfl (by kernel_rfl) (by kernel_rfl) (by kernel_rfl) (fun _ _ _ h => h) (Or.inl ⟨by rfl, fun w' hSw => by obtain ⟨zz0, zz1, zz2, zz3⟩ := hSw; go_simp⟩) hH ?_
            simp only [Act.put, gA, gB, gC, gD, gE, gG]
            refine wpAnyH_take (i := 17) (oi := _) (v := .agg #[.int .i64 (m 0 1), .int .i64 0, .int .u64 (v 0 1)]) rfl (by kernel_rfl) (by kernel_rfl) (by kernel_rfl) (fun _ _ _ h => h) (Or.inl ⟨by rfl, fun w' hSw => by obtain ⟨zz0, zz1, zz2, zz3⟩ := hSw; go_simp⟩) hH ?_
            simp only [Act.put, gA, gB, gC, gD, gE, gG]
            refine wpAnyH_take (i := 18) (oi := _) (v := .int .i64 (tr 0 1)) rfl (by kernel_rfl) (by kernel_rfl) (by kernel_rfl) (fun _ _ _ h => h) (Or.inl ⟨by rfl, fun w' hSw => by obtain ⟨zz0, zz1, zz2, zz3⟩ := hSw; go_simp⟩) hH ?_
            simp only [Act.put, gA, gB, gC, gD, gE, gG]
            refine wpAnyH_ready (rs := [20]) (by kernel_rfl) (by simp) (AllReadyH.cons (o := _) rfl (fun K hK => ?_) AllReadyH.nil)
            obtain ⟨q0, q1, q2, qf⟩ := re_cells3 qa
            go_simp
            clear q0 q1 q2 qf
            replace qa := re_set3 qa (.int .i64 (m 0 1)) (.int .i64 0) (.int .u64 (v 0 1))
            replace cd := sp_set3 (b := Y0.heap.size) cd zzY0 (.int .i64 (m 0 1)) (.int .i64 0) (.int .u64 (v 0 1))
            generalize hY : (((Y16.setCell ⟨Y0.heap.size, 0, none⟩ (.int .i64 (m 0 1))).setCell ⟨Y0.heap.size, 1, none⟩ (.int .i64 0)).setCell ⟨Y0.heap.size, 2, none⟩ (.int .u64 (v 0 1))) = Y17 at *
            clear hY
            refine hK.out _ _ (hall _ cd) (fun hH => ?_)
            clear hK K
            try simp only [Act.put, gA, gB, gC, gD, gE, gG]
            refine wpAnyH_take (i := 21) (oi := _) (v := .int .i64 (tr 0 1)) rfl (by kernel_rfl) (by kernel_rfl) (by kernel_rfl) (fun _ _ _ h => h) (Or.inl ⟨by rfl, fun w' hSw => by obtain ⟨zz0, zz1, zz2, zz3⟩ := hSw; go_simp⟩) hH ?_
            simp only [Act.put, gA, gB, gC, gD, gE, gG]
            refine wpAnyH_done (by kernel_rfl) ?_ _
            go_wp2_with fail
            go_meet
            exact ⟨_, _, rfl, rfl, rfl, qa, zzY0, cd⟩
          case rest =>
           obtain ⟨W8, b13, rfl, rfl, rfl, qa, hb13, cX⟩ := hcut
           obtain ⟨s0, s1, s2, _⟩ := re_cells3 qa
           replace y0 := sO cX y0; replace y1 := sO cX y1; replace y2 := sO cX y2
           replace cc := sp_call cc cX
           clear cX hall cd
           have amL := among_step01 v l2
           have amH := among_step01 v h2
           rcases hL : among v l2 0 1 with _ | _
           all_goals rcases hH : among v h2 0 1 with _ | _
           all_goals go_wp2_with fail
           all_goals go_roundw
           all_goals first
             | exact ⟨_, 2, rfl, by simp, by simp [amL, hL], by simp [amH, hH], rfl, cc⟩
             | (simp [intOf]; done)
        · go_wp2_with fail
          go_roundw
          all_goals first
            | exact ⟨1, by simp, rfl, rfl, rfl, cc⟩
            | (simp [intOf]; done)
     · go_wp2_with fail
       go_loopw [8, 9, 12] (fun lo hi k wr => ∃ (WR : World) (j : Nat), WR = wr ∧ (j = 0 ∨ j = 1 ∨ j = 2) ∧ lo = .bool (among v l2 1 j) ∧ hi = .bool (among v h2 1 j) ∧ k = .int .i64 j ∧ Below W6.heap.size W6 wr) (fun _ _ k _ => 2 - (intOf k).toNat)
       case atStart => exact ⟨_, 0, rfl, by simp, rfl, rfl, rfl, cc⟩
       case round =>
        clear cc
        obtain ⟨WR, j, rfl, hj_, rfl, rfl, rfl, cc⟩ := hrel
        rcases hj_ with rfl | rfl | rfl
        · skip
          go_upto_region 15 with fail
          replace z0 := sO cc z0; replace z1 := sO cc z1; replace z2 := sO cc z2; replace z3 := sO cc z3; replace y0 := sO cc y0; replace y1 := sO cc y1; replace y2 := sO cc y2
          have hall : ∀ X9, Below WR.heap.size WR X9 → (X9.cell? ⟨b10, 0, none⟩ = some (.int .u64 a) ∧ X9.cell? ⟨b10, 1, none⟩ = some (.int .u64 b) ∧ X9.cell? ⟨b10, 2, none⟩ = some (.int .u64 c) ∧ X9.cell? ⟨b10, 3, none⟩ = some (.int .u64 d)) := fun X9 cc => ⟨sO cc z0, sO cc z1, sO cc z2, sO cc z3⟩
          have cd : Below WR.heap.size WR WR.drew := (Below.refl _ _).drew
          go_cut [13, 14] from 76 to 94 (fun s u X => ∃ (W8 : World) (b13 : Nat), W8 = X ∧ s = .pointer (some ⟨b13, 0, none⟩) ∧ u = .int .i64 (tr 1 0) ∧ X.heap[b13]? = some (Obj.cells #[.int .i64 (m 1 0), .int .i64 0, .int .u64 (v 1 0)] 71 (0, 0)) ∧ WR.heap.size ≤ b13 ∧ Below WR.heap.size WR X)
          case first =>
           refine wp_region_held_drew (S := (fun w' => w'.cell? ⟨b10, 0, none⟩ = some (.int .u64 a) ∧ w'.cell? ⟨b10, 1, none⟩ = some (.int .u64 b) ∧ w'.cell? ⟨b10, 2, none⟩ = some (.int .u64 c) ∧ w'.cell? ⟨b10, 3, none⟩ = some (.int .u64 d))) (by kernel_rfl) (hall _ cd) (fun hH => ?_)
           refine wpAnyH_take (i := 0) (oi := _) (v := .int .i64 op) rfl (by kernel_rfl) (by kernel_rfl) (by kernel_rfl) (fun _ _ _ h => h) (Or.inl ⟨by rfl, fun w' hSw => by obtain ⟨zz0, zz1, zz2, zz3⟩ := hSw; go_simp⟩) hH ?_
           simp only [Act.put, gA, gB, gC, gD, gE, gG]
           refine wpAnyH_take (i := 1) (oi := _) (v := .int .i64 f) rfl (by kernel_rfl) (by kernel_rfl) (by kernel_rfl) (fun _ _ _ h => h) (Or.inl ⟨by rfl, fun w' hSw => by obtain ⟨zz0, zz1, zz2, zz3⟩ := hSw; go_simp⟩) hH ?_
           simp only [Act.put, gA, gB, gC, gD, gE, gG]
           refine wpAnyH_take (i := 3) (oi := _) (v := .int .i64 1) rfl (by kernel_rfl) (by kernel_rfl) (by kernel_rfl) (fun _ _ _ h => h) (Or.inl ⟨by rfl, fun w' hSw => by obtain ⟨zz0, zz1, zz2, zz3⟩ := hSw; go_simp⟩) hH ?_
           simp only [Act.put, gA, gB, gC, gD, gE, gG]
           refine wpAnyH_take (i := 4) (oi := _) (v := .pointer (some ⟨b10, 0, none⟩)) rfl (by kernel_rfl) (by kernel_rfl) (by kernel_rfl) (fun _ _ _ h => h) (Or.inl ⟨by rfl, fun w' hSw => by obtain ⟨zz0, zz1, zz2, zz3⟩ := hSw; go_simp⟩) hH ?_
           simp only [Act.put, gA, gB, gC, gD, gE, gG]
           refine wpAnyH_take (i := 5) (oi := _) (v := .pointer (some ⟨b10, 1, none⟩)) rfl (by kernel_rfl) (by kernel_rfl) (by kernel_rfl) (fun _ _ _ h => h) (Or.inl ⟨by rfl, fun w' hSw => by obtain ⟨zz0, zz1, zz2, zz3⟩ := hSw; go_simp⟩) hH ?_
           simp only [Act.put, gA, gB, gC, gD, gE, gG]
           refine wpAnyH_take (i := 6) (oi := _) (v := .int .u64 b) rfl (by kernel_rfl) (by kernel_rfl) (by kernel_rfl) (fun _ _ _ h => h) (Or.inl ⟨by rfl, fun w' hSw => by obtain ⟨zz0, zz1, zz2, zz3⟩ := hSw; go_simp⟩) hH ?_
           simp only [Act.put, gA, gB, gC, gD, gE, gG]
           refine wpAnyH_take (i := 8) (oi := _) (v := .int .i64 f) rfl (by kernel_rfl) (by kernel_rfl) (by kernel_rfl) (fun _ _ _ h => h) (Or.inl ⟨by rfl, fun w' hSw => by obtain ⟨zz0, zz1, zz2, zz3⟩ := hSw; go_simp⟩) hH ?_
           simp only [Act.put, gA, gB, gC, gD, gE, gG]
           refine wpAnyH_take (i := 10) (oi := _) (v := .int .i64 0) rfl (by kernel_rfl) (by kernel_rfl) (by kernel_rfl) (fun _ _ _ h => h) (Or.inl ⟨by rfl, fun w' hSw => by obtain ⟨zz0, zz1, zz2, zz3⟩ := hSw; go_simp⟩) hH ?_
           simp only [Act.put, gA, gB, gC, gD, gE, gG]
           refine wpAnyH_take (i := 11) (oi := _) (v := .pointer (some ⟨b10, 2, none⟩)) rfl (by kernel_rfl) (by kernel_rfl) (by kernel_rfl) (fun _ _ _ h => h) (Or.inl ⟨by rfl, fun w' hSw => by obtain ⟨zz0, zz1, zz2, zz3⟩ := hSw; go_simp⟩) hH ?_
           simp only [Act.put, gA, gB, gC, gD, gE, gG]
           refine wpAnyH_take (i := 12) (oi := _) (v := .pointer (some ⟨b10, 2, none⟩)) rfl (by kernel_rfl) (by kernel_rfl) (by kernel_rfl) (fun _ _ _ h => h) (Or.inl ⟨by rfl, fun w' hSw => by obtain ⟨zz0, zz1, zz2, zz3⟩ := hSw; go_simp⟩) hH ?_
           simp only [Act.put, gA, gB, gC, gD, gE, gG]
           refine wpAnyH_take (i := 13) (oi := _) (v := .int .u64 c) rfl (by kernel_rfl) (by kernel_rfl) (by kernel_rfl) (fun _ _ _ h => h) (Or.inl ⟨by rfl, fun w' hSw => by obtain ⟨zz0, zz1, zz2, zz3⟩ := hSw; go_simp⟩) hH ?_
           simp only [Act.put, gA, gB, gC, gD, gE, gG]
           generalize hY : WR.drew = Y0 at *
           clear hY
           refine wpAnyH_ready (rs := [2, 19]) (by kernel_rfl) (by simp) (AllReadyH.cons (o := _) rfl (fun K hK => ?_) (AllReadyH.cons (o := _) rfl (fun K hK => ?_) AllReadyH.nil))
           ·skip
            go_simp
            refine (kt _).mono ?_
            rintro e Y1 ⟨rfl, g⟩
            replace cd := sp_call cd g
            clear g
            go_wp2_with fail
            refine hK.out _ _ (hall _ cd) (fun hH => ?_)
            clear hK K
            try simp only [Act.put, gA, gB, gC, gD, gE, gG]
            refine wpAnyH_take (i := 7) (oi := _) (v := .agg #[.int .i64 t, .int .i64 0, .int .u64 b]) rfl (by kernel_rfl) (by kernel_rfl) (by kernel_rfl) (fun _ _ _ h => h) (Or.inl ⟨by rfl, fun w' hSw => by obtain ⟨zz0, zz1, zz2, zz3⟩ := hSw; go_simp⟩) hH ?_
            simp only [Act.put, gA, gB, gC, gD, gE, gG]
            refine wpAnyH_ready (rs := [9, 19]) (by kernel_rfl) (by simp) (AllReadyH.cons (o := _) rfl (fun K hK => ?_) (AllReadyH.cons (o := _) rfl (fun K hK => ?_) AllReadyH.nil))
            ·skip
             go_simp
             refine (kt _).mono ?_
             rintro e Y2 ⟨rfl, g⟩
             replace cd := sp_call cd g
             clear g
             go_wp2_with fail
             refine hK.out _ _ (hall _ cd) (fun hH => ?_)
             clear hK K
             try simp only [Act.put, gA, gB, gC, gD, gE, gG]
             refine wpAnyH_take (i := 14) (oi := _) (v := .agg #[.int .i64 t, .int .i64 0, .int .u64 c]) rfl (by kernel_rfl) (by kernel_rfl) (by kernel_rfl) (fun _ _ _ h => h) (Or.inl ⟨by rfl, fun w' hSw => by obtain ⟨zz0, zz1, zz2, zz3⟩ := hSw; go_simp⟩) hH ?_
             simp only [Act.put, gA, gB, gC, gD, gE, gG]
             refine wpAnyH_ready (rs := [15, 19]) (by kernel_rfl) (by simp) (AllReadyH.cons (o := _) rfl (fun K hK => ?_) (AllReadyH.cons (o := _) rfl (fun K hK => ?_) AllReadyH.nil))
             ·skip
              go_simp
              refine (k10 _).mono ?_
              rintro e Y3 ⟨rfl, g⟩
              replace cd := sp_call cd g
              clear g
              go_wp2_with fail
              refine hK.out _ _ (hall _ cd) (fun hH => ?_)
              clear hK K
              try simp only [Act.put, gA, gB, gC, gD, gE, gG]
              refine wpAnyH_take (i := 16) (oi := _) (v := .tuple #[.agg #[.int .i64 (m 1 0), .int .i64 0, .int .u64 (v 1 0)], .int .i64 (tr 1 0)]) rfl (by kernel_rfl) (by kernel_rfl) (by kernel_rfl) (fun _ _ _ h => h) (Or.inl ⟨by rfl, fun w' hSw => by obtain ⟨zz0, zz1, zz2, zz3⟩ := hSw; go_simp⟩) hH ?_
              simp only [Act.put, gA, gB, gC, gD, gE, gG]
              refine wpAnyH_take (i := 17) (oi := _) (v := .agg #[.int .i64 (m 1 0), .int .i64 0, .int .u64 (v 1 0)]) rfl (by kernel_rfl) (by kernel_rfl) (by kernel_rfl) (fun _ _ _ h => h) (Or.inl ⟨by rfl, fun w' hSw => by obtain ⟨zz0, zz1, zz2, zz3⟩ := hSw; go_simp⟩) hH ?_
              simp only [Act.put, gA, gB, gC, gD, gE, gG]
              refine wpAnyH_take (i := 18) (oi := _) (v := .int .i64 (tr 1 0)) rfl (by kernel_rfl) (by kernel_rfl) (by kernel_rfl) (fun _ _ _ h => h) (Or.inl ⟨by rfl, fun w' hSw => by obtain ⟨zz0, zz1, zz2, zz3⟩ := hSw; go_simp⟩) hH ?_
              simp only [Act.put, gA, gB, gC, gD, gE, gG]
              refine wpAnyH_ready (rs := [19]) (by kernel_rfl) (by simp) (AllReadyH.cons (o := _) rfl (fun K hK => ?_) AllReadyH.nil)
              go_simp
              have zzY3 := cd.size
              have qa := World.alloc_heap_new Y3 (Obj.cells #[.int .i64 0, .int .i64 0, .int .u64 0] 71 (0, 0))
              replace cd := sp_new cd (Obj.cells #[.int .i64 0, .int .i64 0, .int .u64 0] 71 (0, 0))
              generalize hY : Y3.alloc (Obj.cells #[.int .i64 0, .int .i64 0, .int .u64 0] 71 (0, 0)) = Y4 at *
              clear hY
              refine hK.out _ _ (hall _ cd) (fun hH => ?_)
              clear hK K
              try simp only [Act.put, gA, gB, gC, gD, gE, gG]
              refine wpAnyH_ready (rs := [20]) (by kernel_rfl) (by simp) (AllReadyH.cons (o := _) rfl (fun K hK => ?_) AllReadyH.nil)
              obtain ⟨q0, q1, q2, qf⟩ := re_cells3 qa
              go_simp
              clear q0 q1 q2 qf
              replace qa := re_set3 qa (.int .i64 (m 1 0)) (.int .i64 0) (.int .u64 (v 1 0))
              replace cd := sp_set3 (b := Y3.heap.size) cd zzY3 (.int .i64 (m 1 0)) (.int .i64 0) (.int .u64 (v 1 0))
              generalize hY : (((Y4.setCell ⟨Y3.heap.size, 0, none⟩ (.int .i64 (m 1 0))).setCell ⟨Y3.heap.size, 1, none⟩ (.int .i64 0)).setCell ⟨Y3.heap.size, 2, none⟩ (.int .u64 (v 1 0))) = Y5 at *
              clear hY
              refine hK.out _ _ (hall _ cd) (fun hH => ?_)
              clear hK K
              try simp only [Act.put, gA, gB, gC, gD, gE, gG]
              refine wpAnyH_take (i := 21) (oi := _) (v := .int .i64 (tr 1 0)) rfl (by kernel_rfl) (by kernel_rfl) (by kernel_rfl) (fun _ _ _ h => h) (Or.inl ⟨by rfl, fun w' hSw => by obtain ⟨zz0, zz1, zz2, zz3⟩ := hSw; go_simp⟩) hH ?_
              simp only [Act.put, gA, gB, gC, gD, gE, gG]
              refine wpAnyH_done (by kernel_rfl) ?_ _
              go_wp2_with fail
              go_meet
              exact ⟨_, _, rfl, rfl, rfl, qa, zzY3, cd⟩
             ·skip
              go_simp
              have zzY2 := cd.size
              have qa := World.alloc_heap_new Y2 (Obj.cells #[.int .i64 0, .int .i64 0, .int .u64 0] 71 (0, 0))
              replace cd := sp_new cd (Obj.cells #[.int .i64 0, .int .i64 0, .int .u64 0] 71 (0, 0))
              generalize hY : Y2.alloc (Obj.cells #[.int .i64 0, .int .i64 0, .int .u64 0] 71 (0, 0)) = Y6 at *
              clear hY
              refine hK.out _ _ (hall _ cd) (fun hH => ?_)
              clear hK K
              try simp only [Act.put, gA, gB, gC, gD, gE, gG]
              refine wpAnyH_ready (rs := [15]) (by kernel_rfl) (by simp) (AllReadyH.cons (o := _) rfl (fun K hK => ?_) AllReadyH.nil)
              go_simp
              refine (k10 _).mono ?_
              rintro e Y7 ⟨rfl, g⟩
              replace cd := sp_call cd g
              replace qa := carryF g qa
              clear g
              go_wp2_with fail
              refine hK.out _ _ (hall _ cd) (fun hH => ?_)
              clear hK K
              try simp only [Act.put, gA, gB, gC, gD, gE, gG]
              refine wpAnyH_take (i := 16) (oi := _) (v := .tuple #[.agg #[.int .i64 (m 1 0), .int .i64 0, .int .u64 (v 1 0)], .int .i64 (tr 1 0)]) rfl (by kernel_rfl) (by kernel_rfl) (by kernel_rfl) (fun _ _ _ h => h) (Or.inl ⟨by rfl, fun w' hSw => by obtain ⟨zz0, zz1, zz2, zz3⟩ := hSw; go_simp⟩) hH ?_
              simp only [Act.put, gA, gB, gC, gD, gE, gG]
              refine wpAnyH_take (i := 17) (oi := _) (v := .agg #[.int .i64 (m 1 0), .int .i64 0, .int .u64 (v 1 0)]) rfl (by kernel_rfl) (by kernel_rfl) (by kernel_rfl) (fun _ _ _ h => h) (Or.inl ⟨by rfl, fun w' hSw => by obtain ⟨zz0, zz1, zz2, zz3⟩ := hSw; go_simp⟩) hH ?_
              simp only [Act.put, gA, gB, gC, gD, gE, gG]
              refine wpAnyH_take (i := 18) (oi := _) (v := .int .i64 (tr 1 0)) rfl (by kernel_rfl) (by kernel_rfl) (by kernel_rfl) (fun _ _ _ h => h) (Or.inl ⟨by rfl, fun w' hSw => by obtain ⟨zz0, zz1, zz2, zz3⟩ := hSw; go_simp⟩) hH ?_
              simp only [Act.put, gA, gB, gC, gD, gE, gG]
              refine wpAnyH_ready (rs := [20]) (by kernel_rfl) (by simp) (AllReadyH.cons (o := _) rfl (fun K hK => ?_) AllReadyH.nil)
              obtain ⟨q0, q1, q2, qf⟩ := re_cells3 qa
              go_simp
              clear q0 q1 q2 qf
              replace qa := re_set3 qa (.int .i64 (m 1 0)) (.int .i64 0) (.int .u64 (v 1 0))
              replace cd := sp_set3 (b := Y2.heap.size) cd zzY2 (.int .i64 (m 1 0)) (.int .i64 0) (.int .u64 (v 1 0))
              generalize hY : (((Y7.setCell ⟨Y2.heap.size, 0, none⟩ (.int .i64 (m 1 0))).setCell ⟨Y2.heap.size, 1, none⟩ (.int .i64 0)).setCell ⟨Y2.heap.size, 2, none⟩ (.int .u64 (v 1 0))) = Y8 at *
              clear hY
              refine hK.out _ _ (hall _ cd) (fun hH => ?_)
              clear hK K
              try simp only [Act.put, gA, gB, gC, gD, gE, gG]
              refine wpAnyH_take (i := 21) (oi := _) (v := .int .i64 (tr 1 0)) rfl (by kernel_rfl) (by kernel_rfl) (by kernel_rfl) (fun _ _ _ h => h) (Or.inl ⟨by rfl, fun w' hSw => by obtain ⟨zz0, zz1, zz2, zz3⟩ := hSw; go_simp⟩) hH ?_
              simp only [Act.put, gA, gB, gC, gD, gE, gG]
              refine wpAnyH_done (by kernel_rfl) ?_ _
              go_wp2_with fail
              go_meet
              exact ⟨_, _, rfl, rfl, rfl, qa, zzY2, cd⟩
            ·skip
             go_simp
             have zzY1 := cd.size
             have qa := World.alloc_heap_new Y1 (Obj.cells #[.int .i64 0, .int .i64 0, .int .u64 0] 71 (0, 0))
             replace cd := sp_new cd (Obj.cells #[.int .i64 0, .int .i64 0, .int .u64 0] 71 (0, 0))
             generalize hY : Y1.alloc (Obj.cells #[.int .i64 0, .int .i64 0, .int .u64 0] 71 (0, 0)) = Y9 at *
             clear hY
             refine hK.out _ _ (hall _ cd) (fun hH => ?_)
             clear hK K
             try simp only [Act.put, gA, gB, gC, gD, gE, gG]
             refine wpAnyH_ready (rs := [9]) (by kernel_rfl) (by simp) (AllReadyH.cons (o := _) rfl (fun K hK => ?_) AllReadyH.nil)
             go_simp
             refine (kt _).mono ?_
             rintro e Y10 ⟨rfl, g⟩
             replace cd := sp_call cd g
             replace qa := carryF g qa
             clear g
             go_wp2_with fail
             refine hK.out _ _ (hall _ cd) (fun hH => ?_)
             clear hK K
             try simp only [Act.put, gA, gB, gC, gD, gE, gG]
             refine wpAnyH_take (i := 14) (oi := _) (v := .agg #[.int .i64 t, .int .i64 0, .int .u64 c]) rfl (by kernel_rfl) (by kernel_rfl) (by kernel_rfl) (fun _ _ _ h => h) (Or.inl ⟨by rfl, fun w' hSw => by obtain ⟨zz0, zz1, zz2, zz3⟩ := hSw; go_simp⟩) hH ?_
             simp only [Act.put, gA, gB, gC, gD, gE, gG]
             refine wpAnyH_ready (rs := [15]) (by kernel_rfl) (by simp) (AllReadyH.cons (o := _) rfl (fun K hK => ?_) AllReadyH.nil)
             go_simp
             refine (k10 _).mono ?_
             rintro e Y11 ⟨rfl, g⟩
             replace cd := sp_call cd g
             replace qa := carryF g qa
             clear g
             go_wp2_with fail
             refine hK.out _ _ (hall _ cd) (fun hH => ?_)
             clear hK K
             try simp only [Act.put, gA, gB, gC, gD, gE, gG]
             refine wpAnyH_take (i := 16) (oi := _) (v := .tuple #[.agg #[.int .i64 (m 1 0), .int .i64 0, .int .u64 (v 1 0)], .int .i64 (tr 1 0)]) rfl (by kernel_rfl) (by kernel_rfl) (by kernel_rfl) (fun _ _ _ h => h) (Or.inl ⟨by rfl, fun w' hSw => by obtain ⟨zz0, zz1, zz2, zz3⟩ := hSw; go_simp⟩) hH ?_
             simp only [Act.put, gA, gB, gC, gD, gE, gG]
             refine wpAnyH_take (i := 17) (oi := _) (v := .agg #[.int .i64 (m 1 0), .int .i64 0, .int .u64 (v 1 0)]) rfl (by kernel_rfl) (by kernel_rfl) (by kernel_rfl) (fun _ _ _ h => h) (Or.inl ⟨by rfl, fun w' hSw => by obtain ⟨zz0, zz1, zz2, zz3⟩ := hSw; go_simp⟩) hH ?_
             simp only [Act.put, gA, gB, gC, gD, gE, gG]
             refine wpAnyH_take (i := 18) (oi := _) (v := .int .i64 (tr 1 0)) rfl (by kernel_rfl) (by kernel_rfl) (by kernel_rfl) (fun _ _ _ h => h) (Or.inl ⟨by rfl, fun w' hSw => by obtain ⟨zz0, zz1, zz2, zz3⟩ := hSw; go_simp⟩) hH ?_
             simp only [Act.put, gA, gB, gC, gD, gE, gG]
             refine wpAnyH_ready (rs := [20]) (by kernel_rfl) (by simp) (AllReadyH.cons (o := _) rfl (fun K hK => ?_) AllReadyH.nil)
             obtain ⟨q0, q1, q2, qf⟩ := re_cells3 qa
             go_simp
             clear q0 q1 q2 qf
             replace qa := re_set3 qa (.int .i64 (m 1 0)) (.int .i64 0) (.int .u64 (v 1 0))
             replace cd := sp_set3 (b := Y1.heap.size) cd zzY1 (.int .i64 (m 1 0)) (.int .i64 0) (.int .u64 (v 1 0))
             generalize hY : (((Y11.setCell ⟨Y1.heap.size, 0, none⟩ (.int .i64 (m 1 0))).setCell ⟨Y1.heap.size, 1, none⟩ (.int .i64 0)).setCell ⟨Y1.heap.size, 2, none⟩ (.int .u64 (v 1 0))) = Y12 at *
             clear hY
             refine hK.out _ _ (hall _ cd) (fun hH => ?_)
             clear hK K
             try simp only [Act.put, gA, gB, gC, gD, gE, gG]
             refine wpAnyH_take (i := 21) (oi := _) (v := .int .i64 (tr 1 0)) rfl (by kernel_rfl) (by kernel_rfl) (by kernel_rfl) (fun _ _ _ h => h) (Or.inl ⟨by rfl, fun w' hSw => by obtain ⟨zz0, zz1, zz2, zz3⟩ := hSw; go_simp⟩) hH ?_
             simp only [Act.put, gA, gB, gC, gD, gE, gG]
             refine wpAnyH_done (by kernel_rfl) ?_ _
             go_wp2_with fail
             go_meet
             exact ⟨_, _, rfl, rfl, rfl, qa, zzY1, cd⟩
           ·skip
            go_simp
            have zzY0 := cd.size
            have qa := World.alloc_heap_new Y0 (Obj.cells #[.int .i64 0, .int .i64 0, .int .u64 0] 71 (0, 0))
            replace cd := sp_new cd (Obj.cells #[.int .i64 0, .int .i64 0, .int .u64 0] 71 (0, 0))
            generalize hY : Y0.alloc (Obj.cells #[.int .i64 0, .int .i64 0, .int .u64 0] 71 (0, 0)) = Y13 at *
            clear hY
            refine hK.out _ _ (hall _ cd) (fun hH => ?_)
            clear hK K
            try simp only [Act.put, gA, gB, gC, gD, gE, gG]
            refine wpAnyH_ready (rs := [2]) (by kernel_rfl) (by simp) (AllReadyH.cons (o := _) rfl (fun K hK => ?_) AllReadyH.nil)
            go_simp
            refine (kt _).mono ?_
            rintro e Y14 ⟨rfl, g⟩
            replace cd := sp_call cd g
            replace qa := carryF g qa
            clear g
            go_wp2_with fail
            refine hK.out _ _ (hall _ cd) (fun hH => ?_)
            clear hK K
            try simp only [Act.put, gA, gB, gC, gD, gE, gG]
            refine wpAnyH_take (i := 7) (oi := _) (v := .agg #[.int .i64 t, .int .i64 0, .int .u64 b]) rfl (by kernel_rfl) (by kernel_rfl) (by kernel_rfl) (fun _ _ _ h => h) (Or.inl ⟨by rfl, fun w' hSw => by obtain ⟨zz0, zz1, zz2, zz3⟩ := hSw; go_simp⟩) hH ?_
            simp only [Act.put, gA, gB, gC, gD, gE, gG]
            refine wpAnyH_ready (rs := [9]) (by kernel_rfl) (by simp) (AllReadyH.cons (o := _) rfl (fun K hK => ?_) AllReadyH.nil)
            go_simp
            refine (kt _).mono ?_
            rintro e Y15 ⟨rfl, g⟩
            replace cd := sp_call cd g
            replace qa := carryF g qa
            clear g
            go_wp2_with fail
            refine hK.out _ _ (hall _ cd) (fun hH => ?_)
            clear hK K
            try simp only [Act.put, gA, gB, gC, gD, gE, gG]
            refine wpAnyH_take (i := 14) (oi := _) (v := .agg #[.int .i64 t, .int .i64 0, .int .u64 c]) rfl (by kernel_rfl) (by kernel_rfl) (by kernel_rfl) (fun _ _ _ h => h) (Or.inl ⟨by rfl, fun w' hSw => by obtain ⟨zz0, zz1, zz2, zz3⟩ := hSw; go_simp⟩) hH ?_
            simp only [Act.put, gA, gB, gC, gD, gE, gG]
            refine wpAnyH_ready (rs := [15]) (by kernel_rfl) (by simp) (AllReadyH.cons (o := _) rfl (fun K hK => ?_) AllReadyH.nil)
            go_simp
            refine (k10 _).mono ?_
            rintro e Y16 ⟨rfl, g⟩
            replace cd := sp_call cd g
            replace qa := carryF g qa
            clear g
            go_wp2_with fail
            refine hK.out _ _ (hall _ cd) (fun hH => ?_)
            clear hK K
            try simp only [Act.put, gA, gB, gC, gD, gE, gG]
            refine wpAnyH_take (i := 16) (oi := _) (v := .tuple #[.agg #[.int .i64 (m 1 0), .int .i64 0, .int .u64 (v 1 0)], .int .i64 (tr 1 0)]) rfl (by kernel_rfl) (by kernel_rfl) (by kernel_rfl) (fun _ _ _ h => h) (Or.inl ⟨by rfl, fun w' hSw => by obtain ⟨zz0, zz1, zz2, zz3⟩ := hSw; go_simp⟩) hH ?_
            simp only [Act.put, gA, gB, gC, gD, gE, gG]
            refine wpAnyH_take (i := 17) (oi := _) (v := .agg #[.int .i64 (m 1 0), .int .i64 0, .int .u64 (v 1 0)]) rfl (by kernel_rfl) (by kernel_rfl) (by kernel_rfl) (fun _ _ _ h => h) (Or.inl ⟨by rfl, fun w' hSw => by obtain ⟨zz0, zz1, zz2, zz3⟩ := hSw; go_simp⟩) hH ?_
            simp only [Act.put, gA, gB, gC, gD, gE, gG]
            refine wpAnyH_take (i := 18) (oi := _) (v := .int .i64 (tr 1 0)) rfl (by kernel_rfl) (by kernel_rfl) (by kernel_rfl) (fun _ _ _ h => h) (Or.inl ⟨by rfl, fun w' hSw => by obtain ⟨zz0, zz1, zz2, zz3⟩ := hSw; go_simp⟩) hH ?_
            simp only [Act.put, gA, gB, gC, gD, gE, gG]
            refine wpAnyH_ready (rs := [20]) (by kernel_rfl) (by simp) (AllReadyH.cons (o := _) rfl (fun K hK => ?_) AllReadyH.nil)
            obtain ⟨q0, q1, q2, qf⟩ := re_cells3 qa
            go_simp
            clear q0 q1 q2 qf
            replace qa := re_set3 qa (.int .i64 (m 1 0)) (.int .i64 0) (.int .u64 (v 1 0))
            replace cd := sp_set3 (b := Y0.heap.size) cd zzY0 (.int .i64 (m 1 0)) (.int .i64 0) (.int .u64 (v 1 0))
            generalize hY : (((Y16.setCell ⟨Y0.heap.size, 0, none⟩ (.int .i64 (m 1 0))).setCell ⟨Y0.heap.size, 1, none⟩ (.int .i64 0)).setCell ⟨Y0.heap.size, 2, none⟩ (.int .u64 (v 1 0))) = Y17 at *
            clear hY
            refine hK.out _ _ (hall _ cd) (fun hH => ?_)
            clear hK K
            try simp only [Act.put, gA, gB, gC, gD, gE, gG]
            refine wpAnyH_take (i := 21) (oi := _) (v := .int .i64 (tr 1 0)) rfl (by kernel_rfl) (by kernel_rfl) (by kernel_rfl) (fun _ _ _ h => h) (Or.inl ⟨by rfl, fun w' hSw => by obtain ⟨zz0, zz1, zz2, zz3⟩ := hSw; go_simp⟩) hH ?_
            simp only [Act.put, gA, gB, gC, gD, gE, gG]
            refine wpAnyH_done (by kernel_rfl) ?_ _
            go_wp2_with fail
            go_meet
            exact ⟨_, _, rfl, rfl, rfl, qa, zzY0, cd⟩
          case rest =>
           obtain ⟨W8, b13, rfl, rfl, rfl, qa, hb13, cX⟩ := hcut
           obtain ⟨s0, s1, s2, _⟩ := re_cells3 qa
           replace y0 := sO cX y0; replace y1 := sO cX y1; replace y2 := sO cX y2
           replace cc := sp_call cc cX
           clear cX hall cd
           have amL := among_step10 v l2
           have amH := among_step10 v h2
           rcases hL : among v l2 1 0 with _ | _
           all_goals rcases hH : among v h2 1 0 with _ | _
           all_goals go_wp2_with fail
           all_goals go_roundw
           all_goals first
             | exact ⟨_, 1, rfl, by simp, by simp [amL, hL], by simp [amH, hH], rfl, cc⟩
             | (simp [intOf]; done)
        · skip
          go_upto_region 15 with fail
          replace z0 := sO cc z0; replace z1 := sO cc z1; replace z2 := sO cc z2; replace z3 := sO cc z3; replace y0 := sO cc y0; replace y1 := sO cc y1; replace y2 := sO cc y2
          have hall : ∀ X9, Below WR.heap.size WR X9 → (X9.cell? ⟨b10, 0, none⟩ = some (.int .u64 a) ∧ X9.cell? ⟨b10, 1, none⟩ = some (.int .u64 b) ∧ X9.cell? ⟨b10, 2, none⟩ = some (.int .u64 c) ∧ X9.cell? ⟨b10, 3, none⟩ = some (.int .u64 d)) := fun X9 cc => ⟨sO cc z0, sO cc z1, sO cc z2, sO cc z3⟩
          have cd : Below WR.heap.size WR WR.drew := (Below.refl _ _).drew
          go_cut [13, 14] from 76 to 94 (fun s u X => ∃ (W8 : World) (b13 : Nat), W8 = X ∧ s = .pointer (some ⟨b13, 0, none⟩) ∧ u = .int .i64 (tr 1 1) ∧ X.heap[b13]? = some (Obj.cells #[.int .i64 (m 1 1), .int .i64 0, .int .u64 (v 1 1)] 71 (0, 0)) ∧ WR.heap.size ≤ b13 ∧ Below WR.heap.size WR X)
          case first =>
           refine wp_region_held_drew (S := (fun w' => w'.cell? ⟨b10, 0, none⟩ = some (.int .u64 a) ∧ w'.cell? ⟨b10, 1, none⟩ = some (.int .u64 b) ∧ w'.cell? ⟨b10, 2, none⟩ = some (.int .u64 c) ∧ w'.cell? ⟨b10, 3, none⟩ = some (.int .u64 d))) (by kernel_rfl) (hall _ cd) (fun hH => ?_)
           refine wpAnyH_take (i := 0) (oi := _) (v := .int .i64 op) rfl (by kernel_rfl) (by kernel_rfl) (by kernel_rfl) (fun _ _ _ h => h) (Or.inl ⟨by rfl, fun w' hSw => by obtain ⟨zz0, zz1, zz2, zz3⟩ := hSw; go_simp⟩) hH ?_
           simp only [Act.put, gA, gB, gC, gD, gE, gG]
           refine wpAnyH_take (i := 1) (oi := _) (v := .int .i64 f) rfl (by kernel_rfl) (by kernel_rfl) (by kernel_rfl) (fun _ _ _ h => h) (Or.inl ⟨by rfl, fun w' hSw => by obtain ⟨zz0, zz1, zz2, zz3⟩ := hSw; go_simp⟩) hH ?_
           simp only [Act.put, gA, gB, gC, gD, gE, gG]
           refine wpAnyH_take (i := 3) (oi := _) (v := .int .i64 1) rfl (by kernel_rfl) (by kernel_rfl) (by kernel_rfl) (fun _ _ _ h => h) (Or.inl ⟨by rfl, fun w' hSw => by obtain ⟨zz0, zz1, zz2, zz3⟩ := hSw; go_simp⟩) hH ?_
           simp only [Act.put, gA, gB, gC, gD, gE, gG]
           refine wpAnyH_take (i := 4) (oi := _) (v := .pointer (some ⟨b10, 0, none⟩)) rfl (by kernel_rfl) (by kernel_rfl) (by kernel_rfl) (fun _ _ _ h => h) (Or.inl ⟨by rfl, fun w' hSw => by obtain ⟨zz0, zz1, zz2, zz3⟩ := hSw; go_simp⟩) hH ?_
           simp only [Act.put, gA, gB, gC, gD, gE, gG]
           refine wpAnyH_take (i := 5) (oi := _) (v := .pointer (some ⟨b10, 1, none⟩)) rfl (by kernel_rfl) (by kernel_rfl) (by kernel_rfl) (fun _ _ _ h => h) (Or.inl ⟨by rfl, fun w' hSw => by obtain ⟨zz0, zz1, zz2, zz3⟩ := hSw; go_simp⟩) hH ?_
           simp only [Act.put, gA, gB, gC, gD, gE, gG]
           refine wpAnyH_take (i := 6) (oi := _) (v := .int .u64 b) rfl (by kernel_rfl) (by kernel_rfl) (by kernel_rfl) (fun _ _ _ h => h) (Or.inl ⟨by rfl, fun w' hSw => by obtain ⟨zz0, zz1, zz2, zz3⟩ := hSw; go_simp⟩) hH ?_
           simp only [Act.put, gA, gB, gC, gD, gE, gG]
           refine wpAnyH_take (i := 8) (oi := _) (v := .int .i64 f) rfl (by kernel_rfl) (by kernel_rfl) (by kernel_rfl) (fun _ _ _ h => h) (Or.inl ⟨by rfl, fun w' hSw => by obtain ⟨zz0, zz1, zz2, zz3⟩ := hSw; go_simp⟩) hH ?_
           simp only [Act.put, gA, gB, gC, gD, gE, gG]
           refine wpAnyH_take (i := 10) (oi := _) (v := .int .i64 1) rfl (by kernel_rfl) (by kernel_rfl) (by kernel_rfl) (fun _ _ _ h => h) (Or.inl ⟨by rfl, fun w' hSw => by obtain ⟨zz0, zz1, zz2, zz3⟩ := hSw; go_simp⟩) hH ?_
           simp only [Act.put, gA, gB, gC, gD, gE, gG]
           refine wpAnyH_take (i := 11) (oi := _) (v := .pointer (some ⟨b10, 2, none⟩)) rfl (by kernel_rfl) (by kernel_rfl) (by kernel_rfl) (fun _ _ _ h => h) (Or.inl ⟨by rfl, fun w' hSw => by obtain ⟨zz0, zz1, zz2, zz3⟩ := hSw; go_simp⟩) hH ?_
           simp only [Act.put, gA, gB, gC, gD, gE, gG]
           refine wpAnyH_take (i := 12) (oi := _) (v := .pointer (some ⟨b10, 3, none⟩)) rfl (by kernel_rfl) (by kernel_rfl) (by kernel_rfl) (fun _ _ _ h => h) (Or.inl ⟨by rfl, fun w' hSw => by obtain ⟨zz0, zz1, zz2, zz3⟩ := hSw; go_simp⟩) hH ?_
           simp only [Act.put, gA, gB, gC, gD, gE, gG]
           refine wpAnyH_take (i := 13) (oi := _) (v := .int .u64 d) rfl (by kernel_rfl) (by kernel_rfl) (by kernel_rfl) (fun _ _ _ h => h) (Or.inl ⟨by rfl, fun w' hSw => by obtain ⟨zz0, zz1, zz2, zz3⟩ := hSw; go_simp⟩) hH ?_
           simp only [Act.put, gA, gB, gC, gD, gE, gG]
           generalize hY : WR.drew = Y0 at *
           clear hY
           refine wpAnyH_ready (rs := [2, 19]) (by kernel_rfl) (by simp) (AllReadyH.cons (o := _) rfl (fun K hK => ?_) (AllReadyH.cons (o := _) rfl (fun K hK => ?_) AllReadyH.nil))
           ·skip
            go_simp
            refine (kt _).mono ?_
            rintro e Y1 ⟨rfl, g⟩
            replace cd := sp_call cd g
            clear g
            go_wp2_with fail
            refine hK.out _ _ (hall _ cd) (fun hH => ?_)
            clear hK K
            try simp only [Act.put, gA, gB, gC, gD, gE, gG]
            refine wpAnyH_take (i := 7) (oi := _) (v := .agg #[.int .i64 t, .int .i64 0, .int .u64 b]) rfl (by kernel_rfl) (by kernel_rfl) (by kernel_rfl) (fun _ _ _ h => h) (Or.inl ⟨by rfl, fun w' hSw => by obtain ⟨zz0, zz1, zz2, zz3⟩ := hSw; go_simp⟩) hH ?_
            simp only [Act.put, gA, gB, gC, gD, gE, gG]
            refine wpAnyH_ready (rs := [9, 19]) (by kernel_rfl) (by simp) (AllReadyH.cons (o := _) rfl (fun K hK => ?_) (AllReadyH.cons (o := _) rfl (fun K hK => ?_) AllReadyH.nil))
            ·skip
             go_simp
             refine (kt _).mono ?_
             rintro e Y2 ⟨rfl, g⟩
             replace cd := sp_call cd g
             clear g
             go_wp2_with fail
             refine hK.out _ _ (hall _ cd) (fun hH => ?_)
             clear hK K
             try simp only [Act.put, gA, gB, gC, gD, gE, gG]
             refine wpAnyH_take (i := 14) (oi := _) (v := .agg #[.int .i64 t, .int .i64 0, .int .u64 d]) rfl (by kernel_rfl) (by kernel_rfl) (by kernel_rfl) (fun _ _ _ h => h) (Or.inl ⟨by rfl, fun w' hSw => by obtain ⟨zz0, zz1, zz2, zz3⟩ := hSw; go_simp⟩) hH ?_
             simp only [Act.put, gA, gB, gC, gD, gE, gG]
             refine wpAnyH_ready (rs := [15, 19]) (by kernel_rfl) (by simp) (AllReadyH.cons (o := _) rfl (fun K hK => ?_) (AllReadyH.cons (o := _) rfl (fun K hK => ?_) AllReadyH.nil))
             ·skip
              go_simp
              refine (k11 _).mono ?_
              rintro e Y3 ⟨rfl, g⟩
              replace cd := sp_call cd g
              clear g
              go_wp2_with fail
              refine hK.out _ _ (hall _ cd) (fun hH => ?_)
              clear hK K
              try simp only [Act.put, gA, gB, gC, gD, gE, gG]
              refine wpAnyH_take (i := 16) (oi := _) (v := .tuple #[.agg #[.int .i64 (m 1 1), .int .i64 0, .int .u64 (v 1 1)], .int .i64 (tr 1 1)]) rfl (by kernel_rfl) (by kernel_rfl) (by kernel_rfl) (fun _ _ _ h => h) (Or.inl ⟨by rfl, fun w' hSw => by obtain ⟨zz0, zz1, zz2, zz3⟩ := hSw; go_simp⟩) hH ?_
              simp only [Act.put, gA, gB, gC, gD, gE, gG]
              refine wpAnyH_take (i := 17) (oi := _) (v := .agg #[.int .i64 (m 1 1), .int .i64 0, .int .u64 (v 1 1)]) rfl (by kernel_rfl) (by kernel_rfl) (by kernel_rfl) (fun _ _ _ h => h) (Or.inl ⟨by rfl, fun w' hSw => by obtain ⟨zz0, zz1, zz2, zz3⟩ := hSw; go_simp⟩) hH ?_
              simp only [Act.put, gA, gB, gC, gD, gE, gG]
              refine wpAnyH_take (i := 18) (oi := _) (v := .int .i64 (tr 1 1)) rfl (by kernel_rfl) (by kernel_rfl) (by kernel_rfl) (fun _ _ _ h => h) (Or.inl ⟨by rfl, fun w' hSw => by obtain ⟨zz0, zz1, zz2, zz3⟩ := hSw; go_simp⟩) hH ?_
              simp only [Act.put, gA, gB, gC, gD, gE, gG]
              refine wpAnyH_ready (rs := [19]) (by kernel_rfl) (by simp) (AllReadyH.cons (o := _) rfl (fun K hK => ?_) AllReadyH.nil)
              go_simp
              have zzY3 := cd.size
              have qa := World.alloc_heap_new Y3 (Obj.cells #[.int .i64 0, .int .i64 0, .int .u64 0] 71 (0, 0))
              replace cd := sp_new cd (Obj.cells #[.int .i64 0, .int .i64 0, .int .u64 0] 71 (0, 0))
              generalize hY : Y3.alloc (Obj.cells #[.int .i64 0, .int .i64 0, .int .u64 0] 71 (0, 0)) = Y4 at *
              clear hY
              refine hK.out _ _ (hall _ cd) (fun hH => ?_)
              clear hK K
              try simp only [Act.put, gA, gB, gC, gD, gE, gG]
              refine wpAnyH_ready (rs := [20]) (by kernel_rfl) (by simp) (AllReadyH.cons (o := _) rfl (fun K hK => ?_) AllReadyH.nil)
              obtain ⟨q0, q1, q2, qf⟩ := re_cells3 qa
              go_simp
              clear q0 q1 q2 qf
              replace qa := re_set3 qa (.int .i64 (m 1 1)) (.int .i64 0) (.int .u64 (v 1 1))
              replace cd := sp_set3 (b := Y3.heap.size) cd zzY3 (.int .i64 (m 1 1)) (.int .i64 0) (.int .u64 (v 1 1))
              generalize hY : (((Y4.setCell ⟨Y3.heap.size, 0, none⟩ (.int .i64 (m 1 1))).setCell ⟨Y3.heap.size, 1, none⟩ (.int .i64 0)).setCell ⟨Y3.heap.size, 2, none⟩ (.int .u64 (v 1 1))) = Y5 at *
              clear hY
              refine hK.out _ _ (hall _ cd) (fun hH => ?_)
              clear hK K
              try simp only [Act.put, gA, gB, gC, gD, gE, gG]
              refine wpAnyH_take (i := 21) (oi := _) (v := .int .i64 (tr 1 1)) rfl (by kernel_rfl) (by kernel_rfl) (by kernel_rfl) (fun _ _ _ h => h) (Or.inl ⟨by rfl, fun w' hSw => by obtain ⟨zz0, zz1, zz2, zz3⟩ := hSw; go_simp⟩) hH ?_
              simp only [Act.put, gA, gB, gC, gD, gE, gG]
              refine wpAnyH_done (by kernel_rfl) ?_ _
              go_wp2_with fail
              go_meet
              exact ⟨_, _, rfl, rfl, rfl, qa, zzY3, cd⟩
             ·skip
              go_simp
              have zzY2 := cd.size
              have qa := World.alloc_heap_new Y2 (Obj.cells #[.int .i64 0, .int .i64 0, .int .u64 0] 71 (0, 0))
              replace cd := sp_new cd (Obj.cells #[.int .i64 0, .int .i64 0, .int .u64 0] 71 (0, 0))
              generalize hY : Y2.alloc (Obj.cells #[.int .i64 0, .int .i64 0, .int .u64 0] 71 (0, 0)) = Y6 at *
              clear hY
              refine hK.out _ _ (hall _ cd) (fun hH => ?_)
              clear hK K
              try simp only [Act.put, gA, gB, gC, gD, gE, gG]
              refine wpAnyH_ready (rs := [15]) (by kernel_rfl) (by simp) (AllReadyH.cons (o := _) rfl (fun K hK => ?_) AllReadyH.nil)
              go_simp
              refine (k11 _).mono ?_
              rintro e Y7 ⟨rfl, g⟩
              replace cd := sp_call cd g
              replace qa := carryF g qa
              clear g
              go_wp2_with fail
              refine hK.out _ _ (hall _ cd) (fun hH => ?_)
              clear hK K
              try simp only [Act.put, gA, gB, gC, gD, gE, gG]
              refine wpAnyH_take (i := 16) (oi := _) (v := .tuple #[.agg #[.int .i64 (m 1 1), .int .i64 0, .int .u64 (v 1 1)], .int .i64 (tr 1 1)]) rfl (by kernel_rfl) (by kernel_rfl) (by kernel_rfl) (fun _ _ _ h => h) (Or.inl ⟨by rfl, fun w' hSw => by obtain ⟨zz0, zz1, zz2, zz3⟩ := hSw; go_simp⟩) hH ?_
              simp only [Act.put, gA, gB, gC, gD, gE, gG]
              refine wpAnyH_take (i := 17) (oi := _) (v := .agg #[.int .i64 (m 1 1), .int .i64 0, .int .u64 (v 1 1)]) rfl (by kernel_rfl) (by kernel_rfl) (by kernel_rfl) (fun _ _ _ h => h) (Or.inl ⟨by rfl, fun w' hSw => by obtain ⟨zz0, zz1, zz2, zz3⟩ := hSw; go_simp⟩) hH ?_
              simp only [Act.put, gA, gB, gC, gD, gE, gG]
              refine wpAnyH_take (i := 18) (oi := _) (v := .int .i64 (tr 1 1)) rfl (by kernel_rfl) (by kernel_rfl) (by kernel_rfl) (fun _ _ _ h => h) (Or.inl ⟨by rfl, fun w' hSw => by obtain ⟨zz0, zz1, zz2, zz3⟩ := hSw; go_simp⟩) hH ?_
              simp only [Act.put, gA, gB, gC, gD, gE, gG]
              refine wpAnyH_ready (rs := [20]) (by kernel_rfl) (by simp) (AllReadyH.cons (o := _) rfl (fun K hK => ?_) AllReadyH.nil)
              obtain ⟨q0, q1, q2, qf⟩ := re_cells3 qa
              go_simp
              clear q0 q1 q2 qf
              replace qa := re_set3 qa (.int .i64 (m 1 1)) (.int .i64 0) (.int .u64 (v 1 1))
              replace cd := sp_set3 (b := Y2.heap.size) cd zzY2 (.int .i64 (m 1 1)) (.int .i64 0) (.int .u64 (v 1 1))
              generalize hY : (((Y7.setCell ⟨Y2.heap.size, 0, none⟩ (.int .i64 (m 1 1))).setCell ⟨Y2.heap.size, 1, none⟩ (.int .i64 0)).setCell ⟨Y2.heap.size, 2, none⟩ (.int .u64 (v 1 1))) = Y8 at *
              clear hY
              refine hK.out _ _ (hall _ cd) (fun hH => ?_)
              clear hK K
              try simp only [Act.put, gA, gB, gC, gD, gE, gG]
              refine wpAnyH_take (i := 21) (oi := _) (v := .int .i64 (tr 1 1)) rfl (by kernel_rfl) (by kernel_rfl) (by kernel_rfl) (fun _ _ _ h => h) (Or.inl ⟨by rfl, fun w' hSw => by obtain ⟨zz0, zz1, zz2, zz3⟩ := hSw; go_simp⟩) hH ?_
              simp only [Act.put, gA, gB, gC, gD, gE, gG]
              refine wpAnyH_done (by kernel_rfl) ?_ _
              go_wp2_with fail
              go_meet
              exact ⟨_, _, rfl, rfl, rfl, qa, zzY2, cd⟩
            ·skip
             go_simp
             have zzY1 := cd.size
             have qa := World.alloc_heap_new Y1 (Obj.cells #[.int .i64 0, .int .i64 0, .int .u64 0] 71 (0, 0))
             replace cd := sp_new cd (Obj.cells #[.int .i64 0, .int .i64 0, .int .u64 0] 71 (0, 0))
             generalize hY : Y1.alloc (Obj.cells #[.int .i64 0, .int .i64 0, .int .u64 0] 71 (0, 0)) = Y9 at *
             clear hY
             refine hK.out _ _ (hall _ cd) (fun hH => ?_)
             clear hK K
             try simp only [Act.put, gA, gB, gC, gD, gE, gG]
             refine wpAnyH_ready (rs := [9]) (by kernel_rfl) (by simp) (AllReadyH.cons (o := _) rfl (fun K hK => ?_) AllReadyH.nil)
             go_simp
             refine (kt _).mono ?_
             rintro e Y10 ⟨rfl, g⟩
             replace cd := sp_call cd g
             replace qa := carryF g qa
             clear g
             go_wp2_with fail
             refine hK.out _ _ (hall _ cd) (fun hH => ?_)
             clear hK K
             try simp only [Act.put, gA, gB, gC, gD, gE, gG]
             refine wpAnyH_take (i := 14) (oi := _) (v := .agg #[.int .i64 t, .int .i64 0, .int .u64 d]) rfl (by kernel_rfl) (by kernel_rfl) (by kernel_rfl) (fun _ _ _ h => h) (Or.inl ⟨by rfl, fun w' hSw => by obtain ⟨zz0, zz1, zz2, zz3⟩ := hSw; go_simp⟩) hH ?_
             simp only [Act.put, gA, gB, gC, gD, gE, gG]
             refine wpAnyH_ready (rs := [15]) (by kernel_rfl) (by simp) (AllReadyH.cons (o := _) rfl (fun K hK => ?_) AllReadyH.nil)
             go_simp
             refine (k11 _).mono ?_
             rintro e Y11 ⟨rfl, g⟩
             replace cd := sp_call cd g
             replace qa := carryF g qa
             clear g
             go_wp2_with fail
             refine hK.out _ _ (hall _ cd) (fun hH => ?_)
             clear hK K
             try simp only [Act.put, gA, gB, gC, gD, gE, gG]
             refine wpAnyH_take (i := 16) (oi := _) (v := .tuple #[.agg #[.int .i64 (m 1 1), .int .i64 0, .int .u64 (v 1 1)], .int .i64 (tr 1 1)]) rfl (by kernel_rfl) (by kernel_rfl) (by kernel_rfl) (fun _ _ _ h => h) (Or.inl ⟨by rfl, fun w' hSw => by obtain ⟨zz0, zz1, zz2, zz3⟩ := hSw; go_simp⟩) hH ?_
             simp only [Act.put, gA, gB, gC, gD, gE, gG]
             refine wpAnyH_take (i := 17) (oi := _) (v := .agg #[.int .i64 (m 1 1), .int .i64 0, .int .u64 (v 1 1)]) rfl (by kernel_rfl) (by kernel_rfl) (by kernel_rfl) (fun _ _ _ h => h) (Or.inl ⟨by rfl, fun w' hSw => by obtain ⟨zz0, zz1, zz2, zz3⟩ := hSw; go_simp⟩) hH ?_
             simp only [Act.put, gA, gB, gC, gD, gE, gG]
             refine wpAnyH_take (i := 18) (oi := _) (v := .int .i64 (tr 1 1)) rfl (by kernel_rfl) (by kernel_rfl) (by kernel_rfl) (fun _ _ _ h => h) (Or.inl ⟨by rfl, fun w' hSw => by obtain ⟨zz0, zz1, zz2, zz3⟩ := hSw; go_simp⟩) hH ?_
             simp only [Act.put, gA, gB, gC, gD, gE, gG]
             refine wpAnyH_ready (rs := [20]) (by kernel_rfl) (by simp) (AllReadyH.cons (o := _) rfl (fun K hK => ?_) AllReadyH.nil)
             obtain ⟨q0, q1, q2, qf⟩ := re_cells3 qa
             go_simp
             clear q0 q1 q2 qf
             replace qa := re_set3 qa (.int .i64 (m 1 1)) (.int .i64 0) (.int .u64 (v 1 1))
             replace cd := sp_set3 (b := Y1.heap.size) cd zzY1 (.int .i64 (m 1 1)) (.int .i64 0) (.int .u64 (v 1 1))
             generalize hY : (((Y11.setCell ⟨Y1.heap.size, 0, none⟩ (.int .i64 (m 1 1))).setCell ⟨Y1.heap.size, 1, none⟩ (.int .i64 0)).setCell ⟨Y1.heap.size, 2, none⟩ (.int .u64 (v 1 1))) = Y12 at *
             clear hY
             refine hK.out _ _ (hall _ cd) (fun hH => ?_)
             clear hK K
             try simp only [Act.put, gA, gB, gC, gD, gE, gG]
             refine wpAnyH_take (i := 21) (oi := _) (v := .int .i64 (tr 1 1)) rfl (by kernel_rfl) (by kernel_rfl) (by kernel_rfl) (fun _ _ _ h => h) (Or.inl ⟨by rfl, fun w' hSw => by obtain ⟨zz0, zz1, zz2, zz3⟩ := hSw; go_simp⟩) hH ?_
             simp only [Act.put, gA, gB, gC, gD, gE, gG]
             refine wpAnyH_done (by kernel_rfl) ?_ _
             go_wp2_with fail
             go_meet
             exact ⟨_, _, rfl, rfl, rfl, qa, zzY1, cd⟩
           ·skip
            go_simp
            have zzY0 := cd.size
            have qa := World.alloc_heap_new Y0 (Obj.cells #[.int .i64 0, .int .i64 0, .int .u64 0] 71 (0, 0))
            replace cd := sp_new cd (Obj.cells #[.int .i64 0, .int .i64 0, .int .u64 0] 71 (0, 0))
            generalize hY : Y0.alloc (Obj.cells #[.int .i64 0, .int .i64 0, .int .u64 0] 71 (0, 0)) = Y13 at *
            clear hY
            refine hK.out _ _ (hall _ cd) (fun hH => ?_)
            clear hK K
            try simp only [Act.put, gA, gB, gC, gD, gE, gG]
            refine wpAnyH_ready (rs := [2]) (by kernel_rfl) (by simp) (AllReadyH.cons (o := _) rfl (fun K hK => ?_) AllReadyH.nil)
            go_simp
            refine (kt _).mono ?_
            rintro e Y14 ⟨rfl, g⟩
            replace cd := sp_call cd g
            replace qa := carryF g qa
            clear g
            go_wp2_with fail
            refine hK.out _ _ (hall _ cd) (fun hH => ?_)
            clear hK K
            try simp only [Act.put, gA, gB, gC, gD, gE, gG]
            refine wpAnyH_take (i := 7) (oi := _) (v := .agg #[.int .i64 t, .int .i64 0, .int .u64 b]) rfl (by kernel_rfl) (by kernel_rfl) (by kernel_rfl) (fun _ _ _ h => h) (Or.inl ⟨by rfl, fun w' hSw => by obtain ⟨zz0, zz1, zz2, zz3⟩ := hSw; go_simp⟩) hH ?_
            simp only [Act.put, gA, gB, gC, gD, gE, gG]
            refine wpAnyH_ready (rs := [9]) (by kernel_rfl) (by simp) (AllReadyH.cons (o := _) rfl (fun K hK => ?_) AllReadyH.nil)
            go_simp
            refine (kt _).mono ?_
            rintro e Y15 ⟨rfl, g⟩
            replace cd := sp_call cd g
            replace qa := carryF g qa
            clear g
            go_wp2_with fail
            refine hK.out _ _ (hall _ cd) (fun hH => ?_)
            clear hK K
            try simp only [Act.put, gA, gB, gC, gD, gE, gG]
            refine wpAnyH_take (i := 14) (oi := _) (v := .agg #[.int .i64 t, .int .i64 0, .int .u64 d]) rfl (by kernel_rfl) (by kernel_rfl) (by kernel_rfl) (fun _ _ _ h => h) (Or.inl ⟨by rfl, fun w' hSw => by obtain ⟨zz0, zz1, zz2, zz3⟩ := hSw; go_simp⟩) hH ?_
            simp only [Act.put, gA, gB, gC, gD, gE, gG]
            refine wpAnyH_ready (rs := [15]) (by kernel_rfl) (by simp) (AllReadyH.cons (o := _) rfl (fun K hK => ?_) AllReadyH.nil)
            go_simp
            refine (k11 _).mono ?_
            rintro e Y16 ⟨rfl, g⟩
            replace cd := sp_call cd g
            replace qa := carryF g qa
            clear g
            go_wp2_with fail
            refine hK.out _ _ (hall _ cd) (fun hH => ?_)
            clear hK K
            try simp only [Act.put, gA, gB, gC, gD, gE, gG]
            refine wpAnyH_take (i := 16) (oi := _) (v := .tuple #[.agg #[.int .i64 (m 1 1), .int .i64 0, .int .u64 (v 1 1)], .int .i64 (tr 1 1)]) rfl (by kernel_rfl) (by kernel_rfl) (by kernel_rfl) (fun _ _ _ h => h) (Or.inl ⟨by rfl, fun w' hSw => by obtain ⟨zz0, zz1, zz2, zz3⟩ := hSw; go_simp⟩) hH ?_
            simp only [Act.put, gA, gB, gC, gD, gE, gG]
            refine wpAnyH_take (i := 17) (oi := _) (v := .agg #[.int .i64 (m 1 1), .int .i64 0, .int .u64 (v 1 1)]) rfl (by kernel_rfl) (by kernel_rfl) (by kernel_rfl) (fun _ _ _ h => h) (Or.inl ⟨by rfl, fun w' hSw => by obtain ⟨zz0, zz1, zz2, zz3⟩ := hSw; go_simp⟩) hH ?_
            simp only [Act.put, gA, gB, gC, gD, gE, gG]
            refine wpAnyH_take (i := 18) (oi := _) (v := .int .i64 (tr 1 1)) rfl (by kernel_rfl) (by kernel_rfl) (by kernel_rfl) (fun _ _ _ h => h) (Or.inl ⟨by rfl, fun w' hSw => by obtain ⟨zz0, zz1, zz2, zz3⟩ := hSw; go_simp⟩) hH ?_
            simp only [Act.put, gA, gB, gC, gD, gE, gG]
            refine wpAnyH_ready (rs := [20]) (by kernel_rfl) (by simp) (AllReadyH.cons (o := _) rfl (fun K hK => ?_) AllReadyH.nil)
            obtain ⟨q0, q1, q2, qf⟩ := re_cells3 qa
            go_simp
            clear q0 q1 q2 qf
            replace qa := re_set3 qa (.int .i64 (m 1 1)) (.int .i64 0) (.int .u64 (v 1 1))
            replace cd := sp_set3 (b := Y0.heap.size) cd zzY0 (.int .i64 (m 1 1)) (.int .i64 0) (.int .u64 (v 1 1))
            generalize hY : (((Y16.setCell ⟨Y0.heap.size, 0, none⟩ (.int .i64 (m 1 1))).setCell ⟨Y0.heap.size, 1, none⟩ (.int .i64 0)).setCell ⟨Y0.heap.size, 2, none⟩ (.int .u64 (v 1 1))) = Y17 at *
            clear hY
            refine hK.out _ _ (hall _ cd) (fun hH => ?_)
            clear hK K
            try simp only [Act.put, gA, gB, gC, gD, gE, gG]
            refine wpAnyH_take (i := 21) (oi := _) (v := .int .i64 (tr 1 1)) rfl (by kernel_rfl) (by kernel_rfl) (by kernel_rfl) (fun _ _ _ h => h) (Or.inl ⟨by rfl, fun w' hSw => by obtain ⟨zz0, zz1, zz2, zz3⟩ := hSw; go_simp⟩) hH ?_
            simp only [Act.put, gA, gB, gC, gD, gE, gG]
            refine wpAnyH_done (by kernel_rfl) ?_ _
            go_wp2_with fail
            go_meet
            exact ⟨_, _, rfl, rfl, rfl, qa, zzY0, cd⟩
          case rest =>
           obtain ⟨W8, b13, rfl, rfl, rfl, qa, hb13, cX⟩ := hcut
           obtain ⟨s0, s1, s2, _⟩ := re_cells3 qa
           replace y0 := sO cX y0; replace y1 := sO cX y1; replace y2 := sO cX y2
           replace cc := sp_call cc cX
           clear cX hall cd
           have amL := among_step11 v l2
           have amH := among_step11 v h2
           rcases hL : among v l2 1 1 with _ | _
           all_goals rcases hH : among v h2 1 1 with _ | _
           all_goals go_wp2_with fail
           all_goals go_roundw
           all_goals first
             | exact ⟨_, 2, rfl, by simp, by simp [amL, hL], by simp [amH, hH], rfl, cc⟩
             | (simp [intOf]; done)
        · go_wp2_with fail
          go_roundw
          all_goals first
            | exact ⟨2, by simp, rfl, rfl, rfl, cc⟩
            | (simp [intOf]; done)
     · replace y0 := sO cc y0; replace y1 := sO cc y1; replace y2 := sO cc y2
       replace bW := sp_call bW cc
       have eL : among v l2 2 0 = true := by unfold among; rcases hlo with h | h | h | h <;> simp [h]
       have eH : among v h2 2 0 = true := by unfold among; rcases hhi with h | h | h | h <;> simp [h]
       rw [eL, eH]
       go_wp2_with (first
         | (go_at_call 23; refine (hl _).mono ?_; rintro e vl ⟨rfl, g⟩; replace bW := sp_call bW g; replace y0 := sO g y0; replace y1 := sO g y1; replace y2 := sO g y2; clear g)
         | fail)
       go_ret
       exact ⟨rfl, bW⟩
end Go.Proofs.YthjoigkckgdcaaaGreat


namespace Go.Proofs.YthjoigkckgdcaaaGreat
open Go.RowKit
set_option linter.unusedVariables false
set_option linter.unusedSimpArgs false
theorem reached_v {s : Bool} {op x y : Int} (hop : op = 8 ∨ op = 9 ∨ op = 10 ∨ op = 11) (x1 : -fI s < x) (x2 : x < fI s) (y1 : -fI s < y) (y2 : y < fI s) (hz : ¬ (op = 11 ∧ y = 0)) (r1 : -fI s < R s op x y) (r2 : R s op x y < fI s) : (floatV s (gF op s (mk s x) (mk s y))).2.1 = mk s (R s op x y) := by
  rw [floatV_res (R_res hop x1 x2 y1 y2 hz), if_neg (by omega)]
set_option maxRecDepth 100000 in
theorem law_reached (op p : Int) (e1 : Bool) (a b : Int) (e2 : Bool) (c d : Int) (ha : Word a) (hb : Word b) (hc : Word c) (hd : Word d) (w : World) :
    Calls Tryz.prog 14 #[.int .i64 op, .agg #[.int .i64 p, .bool e1, .int .u64 a, .int .u64 b, .bool e2, .int .u64 c, .int .u64 d]] w fun e w' => e = .returned (.bool true) ∧ Below w.heap.size w w' := by
  obtain ⟨s, hs⟩ : ∃ s, (p == 1) = s := ⟨_, rfl⟩
  have KF : ∀ V, Calls Tryz.prog 15 #[.int .i64 p] V fun e w' => e = .returned (.int .i64 (fb s)) ∧ Below V.heap.size V w' := fun V => by
    have := format8 p V
    rw [hs] at this
    exact this.mono fun e w' h => b_eq h
  have TR := tright_any p s hs e1 a b e2 c d ha hb hc hd
  refine re_all op p (fb s) e1 a b e2 c d _ KF TR live_any (fun r h1 h2 o1 o2 => ?_) w
  have hop : op = 8 ∨ op = 9 ∨ op = 10 ∨ op = 11 := by omega
  have n11 : ¬ op = 11 := by omega
  have t := fI_two s
  rw [Bool.and_eq_true] at r
  subst h1
  subst h2
  obtain ⟨a', b', a1, ab, b2, rfl, rfl⟩ := right_mk ha hb r.1
  obtain ⟨c', d', c1, cd, d2, rfl, rfl⟩ := right_mk hc hd r.2
  have KT := fun V => (typeOf8 s V).mono fun e w' h => b_eq h
  have K6 := twoF_any (fb s) op hop (mk s a') (mk s b') (mk s c') (mk s d') ha hb hc hd
  rw [fb_eq] at K6
  have K00 := rtwof_any op hop s (mk s a') (mk s c') ha hc
  have K01 := rtwof_any op hop s (mk s a') (mk s d') ha hd
  have K10 := rtwof_any op hop s (mk s b') (mk s c') hb hc
  have K11 := rtwof_any op hop s (mk s b') (mk s d') hb hd
  unfold vV at K00 K01 K10 K11
  let fv : Nat → Nat → Int × Int × Int := fun i k => floatV s (gF op s (match i with | 0 => mk s a' | _ => mk s b') (match k with | 0 => mk s c' | _ => mk s d'))
  refine ⟨tOf s, _, _, _, _, fun i k => (fv i k).1, fun i k => (fv i k).2.1, fun i k => (fv i k).2.2, K6, KT, K00, K01, K10, K11, fun T0 => ?_⟩
  show _ ∧ ((floatV s (gF op s (mk s a') (mk s c'))).2.1 = _ ∨ (floatV s (gF op s (mk s a') (mk s d'))).2.1 = _ ∨ (floatV s (gF op s (mk s b') (mk s c'))).2.1 = _ ∨ (floatV s (gF op s (mk s b') (mk s d'))).2.1 = _) ∧ ((floatV s (gF op s (mk s a') (mk s c'))).2.1 = _ ∨ (floatV s (gF op s (mk s a') (mk s d'))).2.1 = _ ∨ (floatV s (gF op s (mk s b') (mk s c'))).2.1 = _ ∨ (floatV s (gF op s (mk s b') (mk s d'))).2.1 = _)
  unfold trapsF at T0
  rw [if_neg (fun h => n11 h.1)] at T0
  have ep : prs op a' b' c' d' = [(a', c'), (a', d'), (b', c'), (b', d')] := by unfold prs; rw [if_neg n11]; rfl
  rcases range_is (s := s) hop a1 ab b2 c1 cd d2 with ⟨e, _⟩ | ⟨l, h, hl, hh, hall, l1, h1, er, ht⟩
  · rw [ep] at e; cases e
  rw [ep] at hl hh hall
  rcases ht with ⟨e, _⟩ | ⟨_, l2, h2⟩
  · rw [e] at T0; cases T0
  have lh : l ≤ h := by have := hall (a', c') (by simp); omega
  rw [er, if_neg (by omega), show max l (-(fI s - 1)) = l by omega, show min h (fI s - 1) = h by omega]
  have all : ∀ p ∈ [(a', c'), (a', d'), (b', c'), (b', d')], (floatV s (gF op s (mk s p.1) (mk s p.2))).2.1 = mk s (R s op p.1 p.2) := fun p hp => by
    have hr := hall p hp
    simp only [List.mem_cons, List.not_mem_nil, or_false] at hp
    rcases hp with rfl | rfl | rfl | rfl
    all_goals exact reached_v hop (by dsimp only; omega) (by dsimp only; omega) (by dsimp only; omega) (by dsimp only; omega) (fun h => n11 h.1) (by omega) (by omega)
  have e0 := all (a', c') (by simp)
  have e1 := all (a', d') (by simp)
  have e2 := all (b', c') (by simp)
  have e3 := all (b', d') (by simp)
  dsimp only at e0 e1 e2 e3
  rw [e0, e1, e2, e3]
  refine ⟨rfl, ?_, ?_⟩
  · obtain ⟨p, hp, rfl⟩ := hl
    simp only [List.mem_cons, List.not_mem_nil, or_false] at hp
    rcases hp with rfl | rfl | rfl | rfl <;> simp
  · obtain ⟨p, hp, rfl⟩ := hh
    simp only [List.mem_cons, List.not_mem_nil, or_false] at hp
    rcases hp with rfl | rfl | rfl | rfl <;> simp
end Go.Proofs.YthjoigkckgdcaaaGreat


