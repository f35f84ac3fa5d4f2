/- SpanCounts, walked. -/
import Derived.Test.YthjoigkckgdcaaaGreatUSpY
import Derived.Deep.DeepCutAuto
namespace Go.Proofs.YthjoigkckgdcaaaGreat
open Go.RowKit
set_option linter.unusedVariables false
set_option linter.unusedSimpArgs false
theorem cw_st {w W : World} (h : Below w.heap.size w W) {b j : Nat} (hb : w.heap.size ≤ b) (x : Value) : Below w.heap.size w (W.setCell ⟨b, j, none⟩ x) := h.setCell (p := ⟨b, j, none⟩) hb x
def KC9 (F : Nat) (args : Array Value) (r : Value) : Prop := ∀ V, Calls Tryz.prog F args V fun e w' => e = .returned r ∧ Below V.heap.size V w'
def CwOk (op : Int) (e1 : Bool) (a b : Int) (e2 : Bool) (c d : Int) : Prop := ∃ (pe qe me ne : Bool) (pl ph tp ql qh tq ml mh nl nh : Int), KC9 62 #[.int .i64 op, .agg #[.bool e1, .int .i64 a, .int .i64 b], .agg #[.bool e2, .int .i64 c, .int .i64 d]] (.tuple #[.agg #[.bool pe, .int .i64 pl, .int .i64 ph], .int .i64 tp]) ∧ KC9 63 #[.int .i64 op, .agg #[.bool e1, .int .i64 a, .int .i64 b], .agg #[.bool e2, .int .i64 c, .int .i64 d]] (.tuple #[.agg #[.bool pe, .int .i64 pl, .int .i64 ph], .int .i64 tp]) ∧ KC9 64 #[.int .i64 op, .agg #[.bool e1, .int .i64 a, .int .i64 b]] (.tuple #[.agg #[.bool qe, .int .i64 ql, .int .i64 qh], .int .i64 tq]) ∧ KC9 65 #[.int .i64 op, .agg #[.bool e1, .int .i64 a, .int .i64 b]] (.tuple #[.agg #[.bool qe, .int .i64 ql, .int .i64 qh], .int .i64 tq]) ∧ KC9 66 #[.int .i64 op, .agg #[.bool e1, .int .i64 a, .int .i64 b], .agg #[.bool e2, .int .i64 c, .int .i64 d]] (.tuple #[.agg #[.bool me, .int .i64 ml, .int .i64 mh], .agg #[.bool ne, .int .i64 nl, .int .i64 nh]]) ∧ KC9 67 #[.int .i64 op, .agg #[.bool e1, .int .i64 a, .int .i64 b], .agg #[.bool e2, .int .i64 c, .int .i64 d]] (.tuple #[.agg #[.bool me, .int .i64 ml, .int .i64 mh], .agg #[.bool ne, .int .i64 nl, .int .i64 nh]])
set_option maxRecDepth 100000 in
set_option maxHeartbeats 6400000 in
theorem cw_all (op : Int) (e1 : Bool) (a b : Int) (e2 : Bool) (c d : Int) (R1 R2 : Bool) (k1 : KC9 47 #[.agg #[.bool e1, .int .i64 a, .int .i64 b]] (.bool R1)) (k2 : KC9 47 #[.agg #[.bool e2, .int .i64 c, .int .i64 d]] (.bool R2)) (hl : KC9 23 #[] (.bool true)) (main : R1 = true → R2 = true → CwOk op e1 a b e2 c d) (w : World) :
    Calls Tryz.prog 8 #[.int .i64 op, .agg #[.bool e1, .int .i64 a, .int .i64 b], .agg #[.bool e2, .int .i64 c, .int .i64 d]] w fun e w' => e = .returned (.bool true) ∧ Below w.heap.size w w' := by
  go_enter Tryz.func8, Tryz.ntmps8
  go_upto_region 1 with fail
  obtain ⟨W, hW⟩ : ∃ W, ((w.alloc (.cells #[.bool e1, .int .i64 a, .int .i64 b] 47)).alloc (.cells #[.bool e2, .int .i64 c, .int .i64 d] 47)) = W := ⟨_, rfl⟩
  have a0 : W.cell? ⟨w.heap.size, 0, none⟩ = some (.bool e1) := by rw [← hW]; simp [go_sem]
  have a1 : W.cell? ⟨w.heap.size, 1, none⟩ = some (.int .i64 a) := by rw [← hW]; simp [go_sem]
  have a2 : W.cell? ⟨w.heap.size, 2, none⟩ = some (.int .i64 b) := by rw [← hW]; simp [go_sem]
  have b0 : W.cell? ⟨w.heap.size + 1, 0, none⟩ = some (.bool e2) := by rw [← hW]; simp [go_sem]
  have b1 : W.cell? ⟨w.heap.size + 1, 1, none⟩ = some (.int .i64 c) := by rw [← hW]; simp [go_sem]
  have b2 : W.cell? ⟨w.heap.size + 1, 2, none⟩ = some (.int .i64 d) := by rw [← hW]; simp [go_sem]
  have bW : Below w.heap.size w W := by rw [← hW]; exact (sp_new (sp_new (Below.refl _ _) _) _)
  have zW : W.heap.size = w.heap.size + 2 := by rw [← hW]; simp
  rw [hW]
  clear hW
  cases R1
  · clear k2
    clear main
    go_wp2_with (first
      | (go_at_call 47; refine (k1 _).mono ?_; rintro e v1 ⟨rfl, g⟩; replace bW := sp_call bW g; replace a0 := sO g a0; replace a1 := sO g a1; replace a2 := sO g a2; replace b0 := sO g b0; replace b1 := sO g b1; replace b2 := sO g b2; clear g; clear k1)
      | (go_at_call 23; refine (hl _).mono ?_; rintro e vl ⟨rfl, g⟩; replace bW := sp_call bW g; clear g)
      | fail)
    go_ret
    exact ⟨rfl, bW⟩
  cases R2
  · skip
    clear main
    go_wp2_with (first
      | (go_at_call 47; refine (k1 _).mono ?_; rintro e v1 ⟨rfl, g⟩; replace bW := sp_call bW g; replace a0 := sO g a0; replace a1 := sO g a1; replace a2 := sO g a2; replace b0 := sO g b0; replace b1 := sO g b1; replace b2 := sO g b2; clear g; clear k1)
      | (go_at_call 47; refine (k2 _).mono ?_; rintro e v2 ⟨rfl, g⟩; replace bW := sp_call bW g; replace a0 := sO g a0; replace a1 := sO g a1; replace a2 := sO g a2; replace b0 := sO g b0; replace b1 := sO g b1; replace b2 := sO g b2; clear g)
      | (go_at_call 23; refine (hl _).mono ?_; rintro e vl ⟨rfl, g⟩; replace bW := sp_call bW g; clear g)
      | fail)
    go_ret
    exact ⟨rfl, bW⟩
  obtain ⟨pe, qe, me, ne, pl, ph, tp, ql, qh, tq, ml, mh, nl, nh, j1, j2, j3, j4, j5, j6⟩ := main rfl rfl
  clear main
  go_upto_region 3 with (first
    | (go_at_call 47; refine (k1 _).mono ?_; rintro e v1 ⟨rfl, g⟩; replace bW := sp_call bW g; replace a0 := sO g a0; replace a1 := sO g a1; replace a2 := sO g a2; replace b0 := sO g b0; replace b1 := sO g b1; replace b2 := sO g b2; clear g; clear k1)
    | (go_at_call 47; refine (k2 _).mono ?_; rintro e v2 ⟨rfl, g⟩; replace bW := sp_call bW g; replace a0 := sO g a0; replace a1 := sO g a1; replace a2 := sO g a2; replace b0 := sO g b0; replace b1 := sO g b1; replace b2 := sO g b2; clear g)
    | fail)
  have cc : Below v2.heap.size v2 v2 := Below.refl _ _
  go_cut [7, 8] from 28 to 34 (fun s u X => ∃ (W3 : World) (xx : Nat), W3 = X ∧ s = .pointer (some ⟨xx, 0, none⟩) ∧ u = .int .i64 tp ∧ X.cell? ⟨xx, 0, none⟩ = some (.bool pe) ∧ X.cell? ⟨xx, 1, none⟩ = some (.int .i64 pl) ∧ X.cell? ⟨xx, 2, none⟩ = some (.int .i64 ph) ∧ Below v2.heap.size v2 X)
  case first =>
   go_wp2_with (first
     | (go_at_call 62; refine (j1 _).mono ?_; rintro e u3 ⟨rfl, g⟩; replace cc := sp_call cc g; clear g)
     | fail)
   go_meet
   have zg := cc.size
   exact ⟨_, _, rfl, rfl, rfl, by simp [go_sem], by simp [go_sem], by simp [go_sem], by (repeat (first | with_reducible exact Below.refl _ _ | with_reducible assumption | with_reducible refine sp_new ?_ _ | with_reducible refine cw_st ?_ (by omega) _))⟩
  case rest =>
   obtain ⟨W3, xx, rfl, rfl, rfl, xx0, xx1, xx2, cX⟩ := hcut
   replace a0 := sO cX a0; replace a1 := sO cX a1; replace a2 := sO cX a2; replace b0 := sO cX b0; replace b1 := sO cX b1; replace b2 := sO cX b2
   replace bW := sp_call bW cX
   clear cX cc
   have cc : Below W3.heap.size W3 W3 := Below.refl _ _
   go_upto_region 4 with fail
   go_cut [9, 10] from 35 to 41 (fun s u X => ∃ (W4 : World) (yy : Nat), W4 = X ∧ s = .pointer (some ⟨yy, 0, none⟩) ∧ u = .int .i64 tp ∧ X.cell? ⟨yy, 0, none⟩ = some (.bool pe) ∧ X.cell? ⟨yy, 1, none⟩ = some (.int .i64 pl) ∧ X.cell? ⟨yy, 2, none⟩ = some (.int .i64 ph) ∧ Below W3.heap.size W3 X)
   case first =>
    go_wp2_with (first
      | (go_at_call 63; refine (j2 _).mono ?_; rintro e u3 ⟨rfl, g⟩; replace cc := sp_call cc g; clear g)
      | fail)
    go_meet
    have zg := cc.size
    exact ⟨_, _, rfl, rfl, rfl, by simp [go_sem], by simp [go_sem], by simp [go_sem], by (repeat (first | with_reducible exact Below.refl _ _ | with_reducible assumption | with_reducible refine sp_new ?_ _ | with_reducible refine cw_st ?_ (by omega) _))⟩
   case rest =>
    obtain ⟨W4, yy, rfl, rfl, rfl, yy0, yy1, yy2, cX⟩ := hcut
    replace a0 := sO cX a0; replace a1 := sO cX a1; replace a2 := sO cX a2; replace b0 := sO cX b0; replace b1 := sO cX b1; replace b2 := sO cX b2; replace xx0 := sO cX xx0; replace xx1 := sO cX xx1; replace xx2 := sO cX xx2
    replace bW := sp_call bW cX
    clear cX cc
    have cc : Below W4.heap.size W4 W4 := Below.refl _ _
    go_upto_region 5 with fail
    go_cut [11, 12] from 42 to 47 (fun s u X => ∃ (W5 : World) (zz : Nat), W5 = X ∧ s = .pointer (some ⟨zz, 0, none⟩) ∧ u = .int .i64 tq ∧ X.cell? ⟨zz, 0, none⟩ = some (.bool qe) ∧ X.cell? ⟨zz, 1, none⟩ = some (.int .i64 ql) ∧ X.cell? ⟨zz, 2, none⟩ = some (.int .i64 qh) ∧ Below W4.heap.size W4 X)
    case first =>
     go_wp2_with (first
       | (go_at_call 64; refine (j3 _).mono ?_; rintro e u3 ⟨rfl, g⟩; replace cc := sp_call cc g; clear g)
       | fail)
     go_meet
     have zg := cc.size
     exact ⟨_, _, rfl, rfl, rfl, by simp [go_sem], by simp [go_sem], by simp [go_sem], by (repeat (first | with_reducible exact Below.refl _ _ | with_reducible assumption | with_reducible refine sp_new ?_ _ | with_reducible refine cw_st ?_ (by omega) _))⟩
    case rest =>
     obtain ⟨W5, zz, rfl, rfl, rfl, zz0, zz1, zz2, cX⟩ := hcut
     replace a0 := sO cX a0; replace a1 := sO cX a1; replace a2 := sO cX a2; replace b0 := sO cX b0; replace b1 := sO cX b1; replace b2 := sO cX b2; replace xx0 := sO cX xx0; replace xx1 := sO cX xx1; replace xx2 := sO cX xx2; replace yy0 := sO cX yy0; replace yy1 := sO cX yy1; replace yy2 := sO cX yy2
     replace bW := sp_call bW cX
     clear cX cc
     have cc : Below W5.heap.size W5 W5 := Below.refl _ _
     go_upto_region 6 with fail
     go_cut [13, 14] from 48 to 53 (fun s u X => ∃ (W6 : World) (rr : Nat), W6 = X ∧ s = .pointer (some ⟨rr, 0, none⟩) ∧ u = .int .i64 tq ∧ X.cell? ⟨rr, 0, none⟩ = some (.bool qe) ∧ X.cell? ⟨rr, 1, none⟩ = some (.int .i64 ql) ∧ X.cell? ⟨rr, 2, none⟩ = some (.int .i64 qh) ∧ Below W5.heap.size W5 X)
     case first =>
      go_wp2_with (first
        | (go_at_call 65; refine (j4 _).mono ?_; rintro e u3 ⟨rfl, g⟩; replace cc := sp_call cc g; clear g)
        | fail)
      go_meet
      have zg := cc.size
      exact ⟨_, _, rfl, rfl, rfl, by simp [go_sem], by simp [go_sem], by simp [go_sem], by (repeat (first | with_reducible exact Below.refl _ _ | with_reducible assumption | with_reducible refine sp_new ?_ _ | with_reducible refine cw_st ?_ (by omega) _))⟩
     case rest =>
      obtain ⟨W6, rr, rfl, rfl, rfl, rr0, rr1, rr2, cX⟩ := hcut
      replace a0 := sO cX a0; replace a1 := sO cX a1; replace a2 := sO cX a2; replace b0 := sO cX b0; replace b1 := sO cX b1; replace b2 := sO cX b2; replace xx0 := sO cX xx0; replace xx1 := sO cX xx1; replace xx2 := sO cX xx2; replace yy0 := sO cX yy0; replace yy1 := sO cX yy1; replace yy2 := sO cX yy2; replace zz0 := sO cX zz0; replace zz1 := sO cX zz1; replace zz2 := sO cX zz2
      replace bW := sp_call bW cX
      clear cX cc
      have cc : Below W6.heap.size W6 W6 := Below.refl _ _
      go_upto_region 7 with fail
      go_cut [15, 16] from 54 to 60 (fun s u X => ∃ (W7 : World) (ss tt : Nat), W7 = X ∧ s = .pointer (some ⟨ss, 0, none⟩) ∧ u = .pointer (some ⟨tt, 0, none⟩) ∧ X.cell? ⟨ss, 0, none⟩ = some (.bool me) ∧ X.cell? ⟨ss, 1, none⟩ = some (.int .i64 ml) ∧ X.cell? ⟨ss, 2, none⟩ = some (.int .i64 mh) ∧ X.cell? ⟨tt, 0, none⟩ = some (.bool ne) ∧ X.cell? ⟨tt, 1, none⟩ = some (.int .i64 nl) ∧ X.cell? ⟨tt, 2, none⟩ = some (.int .i64 nh) ∧ Below W6.heap.size W6 X)
      case first =>
       go_wp2_with (first
         | (go_at_call 66; refine (j5 _).mono ?_; rintro e u3 ⟨rfl, g⟩; replace cc := sp_call cc g; clear g)
         | fail)
       go_meet
       have zg := cc.size
       exact ⟨_, _, _, rfl, rfl, rfl, by simp [go_sem], by simp [go_sem], by simp [go_sem], by simp [go_sem], by simp [go_sem], by simp [go_sem], by (repeat (first | with_reducible exact Below.refl _ _ | with_reducible assumption | with_reducible refine sp_new ?_ _ | with_reducible refine cw_st ?_ (by omega) _))⟩
      case rest =>
       obtain ⟨W7, ss, tt, rfl, rfl, rfl, ss0, ss1, ss2, tt0, tt1, tt2, cX⟩ := hcut
       replace a0 := sO cX a0; replace a1 := sO cX a1; replace a2 := sO cX a2; replace b0 := sO cX b0; replace b1 := sO cX b1; replace b2 := sO cX b2; replace xx0 := sO cX xx0; replace xx1 := sO cX xx1; replace xx2 := sO cX xx2; replace yy0 := sO cX yy0; replace yy1 := sO cX yy1; replace yy2 := sO cX yy2; replace zz0 := sO cX zz0; replace zz1 := sO cX zz1; replace zz2 := sO cX zz2; replace rr0 := sO cX rr0; replace rr1 := sO cX rr1; replace rr2 := sO cX rr2
       replace bW := sp_call bW cX
       clear cX cc
       have cc : Below W7.heap.size W7 W7 := Below.refl _ _
       go_upto_region 8 with fail
       go_cut [17, 18] from 61 to 67 (fun s u X => ∃ (W8 : World) (hh kk : Nat), W8 = X ∧ s = .pointer (some ⟨hh, 0, none⟩) ∧ u = .pointer (some ⟨kk, 0, none⟩) ∧ X.cell? ⟨hh, 0, none⟩ = some (.bool me) ∧ X.cell? ⟨hh, 1, none⟩ = some (.int .i64 ml) ∧ X.cell? ⟨hh, 2, none⟩ = some (.int .i64 mh) ∧ X.cell? ⟨kk, 0, none⟩ = some (.bool ne) ∧ X.cell? ⟨kk, 1, none⟩ = some (.int .i64 nl) ∧ X.cell? ⟨kk, 2, none⟩ = some (.int .i64 nh) ∧ Below W7.heap.size W7 X)
       case first =>
        go_wp2_with (first
          | (go_at_call 67; refine (j6 _).mono ?_; rintro e u3 ⟨rfl, g⟩; replace cc := sp_call cc g; clear g)
          | fail)
        go_meet
        have zg := cc.size
        exact ⟨_, _, _, rfl, rfl, rfl, by simp [go_sem], by simp [go_sem], by simp [go_sem], by simp [go_sem], by simp [go_sem], by simp [go_sem], by (repeat (first | with_reducible exact Below.refl _ _ | with_reducible assumption | with_reducible refine sp_new ?_ _ | with_reducible refine cw_st ?_ (by omega) _))⟩
       case rest =>
        obtain ⟨W8, hh, kk, rfl, rfl, rfl, hh0, hh1, hh2, kk0, kk1, kk2, cX⟩ := hcut
        replace a0 := sO cX a0; replace a1 := sO cX a1; replace a2 := sO cX a2; replace b0 := sO cX b0; replace b1 := sO cX b1; replace b2 := sO cX b2; replace xx0 := sO cX xx0; replace xx1 := sO cX xx1; replace xx2 := sO cX xx2; replace yy0 := sO cX yy0; replace yy1 := sO cX yy1; replace yy2 := sO cX yy2; replace zz0 := sO cX zz0; replace zz1 := sO cX zz1; replace zz2 := sO cX zz2; replace rr0 := sO cX rr0; replace rr1 := sO cX rr1; replace rr2 := sO cX rr2; replace ss0 := sO cX ss0; replace ss1 := sO cX ss1; replace ss2 := sO cX ss2; replace tt0 := sO cX tt0; replace tt1 := sO cX tt1; replace tt2 := sO cX tt2
        replace bW := sp_call bW cX
        clear cX cc
        have cc : Below W8.heap.size W8 W8 := Below.refl _ _
        go_wp2_with (first
          | (go_at_call 23; refine (hl _).mono ?_; rintro e vl ⟨rfl, g⟩; replace bW := sp_call bW g; replace xx0 := sO g xx0; replace xx1 := sO g xx1; replace xx2 := sO g xx2; replace yy0 := sO g yy0; replace yy1 := sO g yy1; replace yy2 := sO g yy2; replace zz0 := sO g zz0; replace zz1 := sO g zz1; replace zz2 := sO g zz2; replace rr0 := sO g rr0; replace rr1 := sO g rr1; replace rr2 := sO g rr2; replace ss0 := sO g ss0; replace ss1 := sO g ss1; replace ss2 := sO g ss2; replace tt0 := sO g tt0; replace tt1 := sO g tt1; replace tt2 := sO g tt2; replace hh0 := sO g hh0; replace hh1 := sO g hh1; replace hh2 := sO g hh2; replace kk0 := sO g kk0; replace kk1 := sO g kk1; replace kk2 := sO g kk2; clear g)
          | fail)
        go_ret
        exact ⟨by first | rfl | simp, bW⟩
end Go.Proofs.YthjoigkckgdcaaaGreat

