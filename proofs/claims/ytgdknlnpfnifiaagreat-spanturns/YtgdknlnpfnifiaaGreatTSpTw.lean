/- SpanTurns, walked. -/
import Derived.Test.YtgdknlnpfnifiaaGreatTG18
import Derived.Deep.DeepCutAuto
namespace Go.Proofs.YtgdknlnpfnifiaaGreat
open Go.RowKit
set_option linter.unusedVariables false
set_option linter.unusedSimpArgs false
def KT9 (F : Nat) (args : Array Value) (r : Value) : Prop := ∀ V, Calls Tryz.prog F args V fun e w' => e = .returned r ∧ Below V.heap.size V w'
def TuOk (f t : Int) (e1 : Bool) (a b : Int) : Prop := ∃ (pe ne ge : Bool) (pl ph tp nl nh tn gl gh : Int), KT9 13 #[.int .i64 f, .int .i64 t, .agg #[.bool e1, .int .u64 a, .int .u64 b]] (.tuple #[.agg #[.bool pe, .int .u64 pl, .int .u64 ph], .int .i64 tp]) ∧ KT9 14 #[.int .i64 f, .int .i64 t, .agg #[.bool e1, .int .u64 a, .int .u64 b]] (.tuple #[.agg #[.bool pe, .int .u64 pl, .int .u64 ph], .int .i64 tp]) ∧ KT9 15 #[.int .i64 f, .agg #[.bool e1, .int .u64 a, .int .u64 b]] (.tuple #[.agg #[.bool ne, .int .i64 nl, .int .i64 nh], .int .i64 tn]) ∧ KT9 16 #[.int .i64 f, .agg #[.bool e1, .int .u64 a, .int .u64 b]] (.tuple #[.agg #[.bool ne, .int .i64 nl, .int .i64 nh], .int .i64 tn]) ∧ KT9 17 #[.int .i64 f, .agg #[.bool ne, .int .i64 nl, .int .i64 nh]] (.agg #[.bool ge, .int .u64 gl, .int .u64 gh]) ∧ KT9 18 #[.int .i64 f, .agg #[.bool ne, .int .i64 nl, .int .i64 nh]] (.agg #[.bool ge, .int .u64 gl, .int .u64 gh])
set_option maxRecDepth 100000 in
set_option maxHeartbeats 6400000 in
theorem tu_all (p q f t : Int) (e1 : Bool) (a b : Int) (RT : Bool) (k1 : KT9 5 #[.int .i64 p] (.int .i64 f)) (k2 : KT9 5 #[.int .i64 q] (.int .i64 t)) (kr : KT9 12 #[.int .i64 f, .agg #[.bool e1, .int .u64 a, .int .u64 b]] (.bool RT)) (hl : KT9 7 #[] (.bool true)) (main : RT = true → TuOk f t e1 a b) (w : World) :
    Calls Tryz.prog 4 #[.int .i64 p, .int .i64 q, .agg #[.bool e1, .int .u64 a, .int .u64 b]] w fun e w' => e = .returned (.bool true) ∧ Below w.heap.size w w' := by
  unfold KT9 at k1 k2 kr hl
  go_enter Tryz.func4, Tryz.ntmps4
  go_upto_region 1 with fail
  obtain ⟨W, hW⟩ : ∃ W, (w.alloc (.cells #[.bool e1, .int .u64 a, .int .u64 b] 26)) = W := ⟨_, rfl⟩
  have x0 : W.cell? ⟨w.heap.size, 0, none⟩ = some (.bool e1) := by rw [← hW]; simp [go_sem]
  have x1 : W.cell? ⟨w.heap.size, 1, none⟩ = some (.int .u64 a) := by rw [← hW]; simp [go_sem]
  have x2 : W.cell? ⟨w.heap.size, 2, none⟩ = some (.int .u64 b) := by rw [← hW]; simp [go_sem]
  have bW : Below w.heap.size w W := by rw [← hW]; exact (sp_new (Below.refl _ _) _)
  have zW : W.heap.size = w.heap.size + 1 := by rw [← hW]; simp
  rw [hW]
  clear hW
  cases RT
  · clear main
    go_wp2_with (first
      | (go_at_call 5; (with_reducible refine (k1 _).mono ?_); rintro e v0 ⟨rfl, g⟩; replace bW := sp_call bW g; replace x0 := sO g x0; replace x1 := sO g x1; replace x2 := sO g x2; clear g; clear k1)
      | (go_at_call 5; (with_reducible refine (k2 _).mono ?_); rintro e v1 ⟨rfl, g⟩; replace bW := sp_call bW g; replace x0 := sO g x0; replace x1 := sO g x1; replace x2 := sO g x2; clear g)
      | (go_at_call 12; (with_reducible refine (kr _).mono ?_); rintro e v2 ⟨rfl, g⟩; replace bW := sp_call bW g; replace x0 := sO g x0; replace x1 := sO g x1; replace x2 := sO g x2; clear g)
      | (go_at_call 7; (with_reducible refine (hl _).mono ?_); rintro e v3 ⟨rfl, g⟩; replace bW := sp_call bW g; replace x0 := sO g x0; replace x1 := sO g x1; replace x2 := sO g x2; clear g)
      | fail)
    go_ret
    exact ⟨rfl, bW⟩
  obtain ⟨pe, ne, ge, pl, ph, tp, nl, nh, tn, gl, gh, j1, j2, j3, j4, j5, j6⟩ := main rfl
  unfold KT9 at j1 j2 j3 j4 j5 j6
  clear main
  go_upto_region 4 with (first
    | (go_at_call 5; (with_reducible refine (k1 _).mono ?_); rintro e v0 ⟨rfl, g⟩; replace bW := sp_call bW g; replace x0 := sO g x0; replace x1 := sO g x1; replace x2 := sO g x2; clear g; clear k1)
    | (go_at_call 5; (with_reducible refine (k2 _).mono ?_); rintro e v1 ⟨rfl, g⟩; replace bW := sp_call bW g; replace x0 := sO g x0; replace x1 := sO g x1; replace x2 := sO g x2; clear g)
    | (go_at_call 12; (with_reducible refine (kr _).mono ?_); rintro e v2 ⟨rfl, g⟩; replace bW := sp_call bW g; replace x0 := sO g x0; replace x1 := sO g x1; replace x2 := sO g x2; clear g)
    | fail)
  clear k2 kr
  have cc : Below v2.heap.size v2 v2 := Below.refl _ _
  go_cut [7, 8] from 24 to 30 (fun s u X => ∃ (W3 : World) (xx : Nat), W3 = X ∧ s = .pointer (some ⟨xx, 0, none⟩) ∧ u = .int .i64 tp ∧ X.cell? ⟨xx, 0, none⟩ = some (.bool pe) ∧ X.cell? ⟨xx, 1, none⟩ = some (.int .u64 pl) ∧ X.cell? ⟨xx, 2, none⟩ = some (.int .u64 ph) ∧ Below v2.heap.size v2 X)
  case first =>
   go_wp2_with (first
     | (go_at_call 13; (with_reducible refine (j1 _).mono ?_); rintro e u3 ⟨rfl, g⟩; replace cc := sp_call cc g; clear g)
     | fail)
   go_meet
   have zg := cc.size
   exact ⟨_, _, rfl, rfl, rfl, by simp [go_sem], by simp [go_sem], by simp [go_sem], by (repeat (first | with_reducible exact Below.refl _ _ | with_reducible assumption | with_reducible refine sp_new ?_ _ | with_reducible refine tu_set1 ?_ (by omega) _))⟩
  case rest =>
   obtain ⟨W3, xx, rfl, rfl, rfl, xx0, xx1, xx2, cX⟩ := hcut
   replace x0 := sO cX x0; replace x1 := sO cX x1; replace x2 := sO cX x2
   replace bW := sp_call bW cX
   clear cX cc j1
   have cc : Below W3.heap.size W3 W3 := Below.refl _ _
   go_upto_region 5 with fail
   go_cut [9, 10] from 31 to 37 (fun s u X => ∃ (W4 : World) (yy : Nat), W4 = X ∧ s = .pointer (some ⟨yy, 0, none⟩) ∧ u = .int .i64 tp ∧ X.cell? ⟨yy, 0, none⟩ = some (.bool pe) ∧ X.cell? ⟨yy, 1, none⟩ = some (.int .u64 pl) ∧ X.cell? ⟨yy, 2, none⟩ = some (.int .u64 ph) ∧ Below W3.heap.size W3 X)
   case first =>
    go_wp2_with (first
      | (go_at_call 14; (with_reducible refine (j2 _).mono ?_); rintro e u3 ⟨rfl, g⟩; replace cc := sp_call cc g; clear g)
      | fail)
    go_meet
    have zg := cc.size
    exact ⟨_, _, rfl, rfl, rfl, by simp [go_sem], by simp [go_sem], by simp [go_sem], by (repeat (first | with_reducible exact Below.refl _ _ | with_reducible assumption | with_reducible refine sp_new ?_ _ | with_reducible refine tu_set1 ?_ (by omega) _))⟩
   case rest =>
    obtain ⟨W4, yy, rfl, rfl, rfl, yy0, yy1, yy2, cX⟩ := hcut
    replace x0 := sO cX x0; replace x1 := sO cX x1; replace x2 := sO cX x2; replace xx0 := sO cX xx0; replace xx1 := sO cX xx1; replace xx2 := sO cX xx2
    replace bW := sp_call bW cX
    clear cX cc j2
    have cc : Below W4.heap.size W4 W4 := Below.refl _ _
    go_upto_region 6 with fail
    go_cut [11, 12] from 38 to 43 (fun s u X => ∃ (W5 : World) (zz : Nat), W5 = X ∧ s = .pointer (some ⟨zz, 0, none⟩) ∧ u = .int .i64 tn ∧ X.cell? ⟨zz, 0, none⟩ = some (.bool ne) ∧ X.cell? ⟨zz, 1, none⟩ = some (.int .i64 nl) ∧ X.cell? ⟨zz, 2, none⟩ = some (.int .i64 nh) ∧ Below W4.heap.size W4 X)
    case first =>
     go_wp2_with (first
       | (go_at_call 15; (with_reducible refine (j3 _).mono ?_); rintro e u3 ⟨rfl, g⟩; replace cc := sp_call cc g; clear g)
       | fail)
     go_meet
     have zg := cc.size
     exact ⟨_, _, rfl, rfl, rfl, by simp [go_sem], by simp [go_sem], by simp [go_sem], by (repeat (first | with_reducible exact Below.refl _ _ | with_reducible assumption | with_reducible refine sp_new ?_ _ | with_reducible refine tu_set1 ?_ (by omega) _))⟩
    case rest =>
     obtain ⟨W5, zz, rfl, rfl, rfl, zz0, zz1, zz2, cX⟩ := hcut
     replace x0 := sO cX x0; replace x1 := sO cX x1; replace x2 := sO cX x2; replace xx0 := sO cX xx0; replace xx1 := sO cX xx1; replace xx2 := sO cX xx2; replace yy0 := sO cX yy0; replace yy1 := sO cX yy1; replace yy2 := sO cX yy2
     replace bW := sp_call bW cX
     clear cX cc j3
     have cc : Below W5.heap.size W5 W5 := Below.refl _ _
     go_upto_region 7 with fail
     go_cut [13, 14] from 44 to 49 (fun s u X => ∃ (W6 : World) (rr : Nat), W6 = X ∧ s = .pointer (some ⟨rr, 0, none⟩) ∧ u = .int .i64 tn ∧ X.cell? ⟨rr, 0, none⟩ = some (.bool ne) ∧ X.cell? ⟨rr, 1, none⟩ = some (.int .i64 nl) ∧ X.cell? ⟨rr, 2, none⟩ = some (.int .i64 nh) ∧ Below W5.heap.size W5 X)
     case first =>
      go_wp2_with (first
        | (go_at_call 16; (with_reducible refine (j4 _).mono ?_); rintro e u3 ⟨rfl, g⟩; replace cc := sp_call cc g; clear g)
        | fail)
      go_meet
      have zg := cc.size
      exact ⟨_, _, rfl, rfl, rfl, by simp [go_sem], by simp [go_sem], by simp [go_sem], by (repeat (first | with_reducible exact Below.refl _ _ | with_reducible assumption | with_reducible refine sp_new ?_ _ | with_reducible refine tu_set1 ?_ (by omega) _))⟩
     case rest =>
      obtain ⟨W6, rr, rfl, rfl, rfl, rr0, rr1, rr2, cX⟩ := hcut
      replace x0 := sO cX x0; replace x1 := sO cX x1; replace x2 := sO cX x2; replace xx0 := sO cX xx0; replace xx1 := sO cX xx1; replace xx2 := sO cX xx2; replace yy0 := sO cX yy0; replace yy1 := sO cX yy1; replace yy2 := sO cX yy2; replace zz0 := sO cX zz0; replace zz1 := sO cX zz1; replace zz2 := sO cX zz2
      replace bW := sp_call bW cX
      clear cX cc j4
      have cc : Below W6.heap.size W6 W6 := Below.refl _ _
      go_upto_region 8 with fail
      have hall : ∀ X9, Below W6.heap.size W6 X9 → (X9.cell? ⟨xx, 0, none⟩ = some (.bool pe) ∧ X9.cell? ⟨xx, 1, none⟩ = some (.int .u64 pl) ∧ X9.cell? ⟨xx, 2, none⟩ = some (.int .u64 ph) ∧ X9.cell? ⟨yy, 0, none⟩ = some (.bool pe) ∧ X9.cell? ⟨yy, 1, none⟩ = some (.int .u64 pl) ∧ X9.cell? ⟨yy, 2, none⟩ = some (.int .u64 ph) ∧ X9.cell? ⟨zz, 0, none⟩ = some (.bool ne) ∧ X9.cell? ⟨zz, 1, none⟩ = some (.int .i64 nl) ∧ X9.cell? ⟨zz, 2, none⟩ = some (.int .i64 nh) ∧ X9.cell? ⟨rr, 0, none⟩ = some (.bool ne) ∧ X9.cell? ⟨rr, 1, none⟩ = some (.int .i64 nl) ∧ X9.cell? ⟨rr, 2, none⟩ = some (.int .i64 nh)) := fun X9 cc => ⟨sO cc xx0, sO cc xx1, sO cc xx2, sO cc yy0, sO cc yy1, sO cc yy2, sO cc zz0, sO cc zz1, sO cc zz2, sO cc rr0, sO cc rr1, sO cc rr2⟩
      clear x0 x1 x2
      go_region_held3 (fun w' => w'.cell? ⟨xx, 0, none⟩ = some (.bool pe) ∧ w'.cell? ⟨xx, 1, none⟩ = some (.int .u64 pl) ∧ w'.cell? ⟨xx, 2, none⟩ = some (.int .u64 ph) ∧ w'.cell? ⟨yy, 0, none⟩ = some (.bool pe) ∧ w'.cell? ⟨yy, 1, none⟩ = some (.int .u64 pl) ∧ w'.cell? ⟨yy, 2, none⟩ = some (.int .u64 ph) ∧ w'.cell? ⟨zz, 0, none⟩ = some (.bool ne) ∧ w'.cell? ⟨zz, 1, none⟩ = some (.int .i64 nl) ∧ w'.cell? ⟨zz, 2, none⟩ = some (.int .i64 nh) ∧ w'.cell? ⟨rr, 0, none⟩ = some (.bool ne) ∧ w'.cell? ⟨rr, 1, none⟩ = some (.int .i64 nl) ∧ w'.cell? ⟨rr, 2, none⟩ = some (.int .i64 nh)) (exact hall _ (by first | with_reducible exact cc | with_reducible exact cc.drew))
        (first
          | (go_at_call 7; (with_reducible refine (hl _).mono ?_); rintro e u1 ⟨rfl, g⟩; replace cc := sp_call (show Below W6.heap.size W6 _ by first | with_reducible exact cc | with_reducible exact cc.drew) g; clear g)
          | (go_at_call 17; (with_reducible refine (j5 _).mono ?_); rintro e u2 ⟨rfl, g⟩; replace cc := sp_call (show Below W6.heap.size W6 _ by first | with_reducible exact cc | with_reducible exact cc.drew) g; clear g)
          | (go_at_call 18; (with_reducible refine (j6 _).mono ?_); rintro e u3 ⟨rfl, g⟩; replace cc := sp_call (show Below W6.heap.size W6 _ by first | with_reducible exact cc | with_reducible exact cc.drew) g; clear g)
          | fail)
      all_goals go_wp2
      all_goals go_ret
      all_goals exact ⟨by first | rfl | simp, sp_call bW cc⟩
end Go.Proofs.YtgdknlnpfnifiaaGreat

