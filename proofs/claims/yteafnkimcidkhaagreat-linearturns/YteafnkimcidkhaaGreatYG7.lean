/- Texts of the proof, put together. -/
import Derived.Test.YteafnkimcidkhaaGreatYSpFl
import Derived.Test.YteafnkimcidkhaaGreatYG5
import Derived.Deep.DrawnRows
import Derived.Test.YteafnkimcidkhaaGreatYSpWf
import Derived.Deep.DeepCutAuto
import Derived.Test.YteafnkimcidkhaaGreatYG6
import Derived.Test.YteafnkimcidkhaaGreatYG4
import Derived.Test.YteafnkimcidkhaaGreatYLiB
namespace Go.Proofs.YteafnkimcidkhaaGreat
open Go.RowKit
set_option linter.unusedVariables false
set_option linter.unusedSimpArgs false
def FlAt (f : Int) (L : Ln) (B : Nat) (w0 : World) : Prop := ∃ p q, L = LnF (f == 1) p q ∧ B ≤ w0.heap.size ∧ p < B ∧ q < B ∧ w0.cell? ⟨p, 0, none⟩ = some (.int .i64 f) ∧ LineAt w0 q L
theorem floats_at (f : Int) (w : World) : Calls Tryz.prog 100 #[.int .i64 f] w fun e w' => ∃ L, e = .returned (.agg (lvf L)) ∧ FlAt f L w'.heap.size w' ∧ Below w.heap.size w w' := by
 refine (floats_any f w).mono ?_
 rintro e w' ⟨q, rfl, h1, h2, h3, h4, h5, h6⟩
 exact ⟨_, rfl, ⟨w.heap.size, q, rfl, Nat.le_refl _, h4, h5, h1, h2⟩, h6⟩
theorem fl_acts {f : Int} {L : Ln} {B : Nat} {w0 : World} (h : FlAt f L B w0) : Actsf L (WyF (f == 1)) B w0 := by
 obtain ⟨p, q, rfl, h1, h2, h3, h4, h5⟩ := h
 exact acts_f f p q B w0 h1 h2 h4
set_option maxRecDepth 100000 in
set_option maxHeartbeats 6400000 in
theorem ofFloats_any (e1 : Bool) (a b : Int) (w : World) : Calls Tryz.prog 104 #[.agg #[.bool e1, .int .u64 a, .int .u64 b]] w fun e w' => e = .returned (.agg #[.bool e1, .int .u64 a, .int .u64 b]) ∧ Below w.heap.size w w' := by
 go_enter Tryz.func104, Tryz.ntmps104
 go_wp2_with fail
 exact bodyPost_ret (v := .agg #[.bool e1, .int .u64 a, .int .u64 b]) (by simp [results, Tryz.results104, go_sem]) rfl ⟨rfl, sp_new (sp_new (Below.refl _ _) _) _⟩
set_option maxRecDepth 100000 in
set_option maxHeartbeats 6400000 in
theorem floatRange_any (e1 : Bool) (a b : Int) (w : World) : Calls Tryz.prog 99 #[.agg #[.bool e1, .int .u64 a, .int .u64 b]] w fun e w' => e = .returned (.agg #[.bool e1, .int .u64 a, .int .u64 b]) ∧ Below w.heap.size w w' := by
 go_enter Tryz.func99, Tryz.ntmps99
 go_wp2_with fail
 exact bodyPost_ret (v := .agg #[.bool e1, .int .u64 a, .int .u64 b]) (by simp [results, Tryz.results99, go_sem]) rfl ⟨rfl, sp_new (sp_new (Below.refl _ _) _) _⟩
set_option maxRecDepth 100000 in
set_option maxHeartbeats 6400000 in
theorem right_of (f : Int) (e1 : Bool) (a b : Int) (r : Bool) (h : ∀ L B w0, FlAt f L B w0 → ∀ V, Below B w0 V → Calls Tryz.prog 149 #[.agg (lvf L), .agg #[.bool e1, .int .u64 a, .int .u64 b]] V fun e w' => e = .returned (.bool r) ∧ Below V.heap.size V w') (w : World) :
  Calls Tryz.prog 123 #[.int .i64 f, .agg #[.bool e1, .int .u64 a, .int .u64 b]] w fun e w' => e = .returned (.bool r) ∧ Below w.heap.size w w' := by
 have h1 := floats_at f
 have ho1 := ofFloats_any
 have ho2 := ofFloats_any
 go_enter Tryz.func123, Tryz.ntmps123
 go_wp2_with fail
 obtain ⟨W, hW⟩ : ∃ W, (w.alloc (.cells #[.bool e1, .int .u64 a, .int .u64 b] 24)) = W := ⟨_, rfl⟩
 have a0 : W.cell? ⟨w.heap.size, 0, none⟩ = some (.bool e1) := by rw [← hW]; simp [go_sem]
 have a1 : W.cell? ⟨w.heap.size, 1, none⟩ = some (.int .u64 a) := by rw [← hW]; simp [go_sem]
 have a2 : W.cell? ⟨w.heap.size, 2, none⟩ = some (.int .u64 b) := by rw [← hW]; simp [go_sem]
 have bW : Below w.heap.size w W := by rw [← hW]; exact (sp_new (Below.refl _ _) _)
 have zW : W.heap.size = w.heap.size + 1 := by rw [← hW]; simp
 rw [hW]
 clear hW
 go_region_held3 (fun w' => w'.cell? ⟨w.heap.size, 0, none⟩ = some (.bool e1) ∧ w'.cell? ⟨w.heap.size, 1, none⟩ = some (.int .u64 a) ∧ w'.cell? ⟨w.heap.size, 2, none⟩ = some (.int .u64 b)) (exact ⟨a0, a1, a2⟩)
  (first
   | (go_at_call 100; refine (h1 _).mono ?_; rintro e v1 ⟨L, rfl, hL, g⟩; replace g : Below W.heap.size W v1 := ⟨g.os, g.tape, g.output, g.size, g.block⟩; replace bW := sp_call bW g; replace a0 := sO g a0; replace a1 := sO g a1; replace a2 := sO g a2; have oL : Below v1.heap.size v1 v1 := Below.refl _ _; clear g)
   | (go_at_call 104; refine (ho1 _ _ _ _).mono ?_; rintro e v2 ⟨rfl, g⟩; replace g : Below v1.heap.size v1 v2 := ⟨g.os, g.tape, g.output, g.size, g.block⟩; replace bW := sp_call bW g; replace a0 := sO g a0; replace a1 := sO g a1; replace a2 := sO g a2; replace oL := sp_call oL g; clear g; clear ho1)
   | (go_at_call 149; refine (h L _ _ hL _ (by first | exact oL | exact oL.drew)).mono ?_; rintro e v9 ⟨rfl, g⟩; replace g : Below v2.heap.size v2 v9 := ⟨g.os, g.tape, g.output, g.size, g.block⟩; replace bW := sp_call bW g; replace a0 := sO g a0; replace a1 := sO g a1; replace a2 := sO g a2; clear g)
   | fail)
 all_goals go_wp2
 all_goals go_ret
 all_goals exact ⟨rfl, bW⟩
theorem right_any (f : Int) (e1 : Bool) (a b : Int) (ha : Word a) (hb : Word b) (w : World) : Calls Tryz.prog 123 #[.int .i64 f, .agg #[.bool e1, .int .u64 a, .int .u64 b]] w fun e w' => e = .returned (.bool (rightP (WyF (f == 1)) (e1, a, b))) ∧ Below w.heap.size w w' :=
 right_of f e1 a b _ (fun L B w0 hL V ok => right_f (fl_acts hL) e1 a b ha hb V ok) w
end Go.Proofs.YteafnkimcidkhaaGreat



namespace Go.Proofs.YteafnkimcidkhaaGreat
open Go.RowKit
set_option linter.unusedVariables false
set_option linter.unusedSimpArgs false
end Go.Proofs.YteafnkimcidkhaaGreat


namespace Go.Proofs.YteafnkimcidkhaaGreat
open Go.RowKit Go.Shelf
set_option linter.unusedVariables false
set_option linter.unusedSimpArgs false
attribute [local go_sem] Oper.semAt_some
structure TIf (A : Ways) (L : Ln) (T : Int) (p : Nat) (W0 : World) (pre : List Int) (V : World) : Prop where
 c0 : V.cell? ⟨p, 0, none⟩ = some (.bool (hullP A pre).1)
 c1 : V.cell? ⟨p, 1, none⟩ = some (.int .u64 (hullP A pre).2.1)
 c2 : V.cell? ⟨p, 2, none⟩ = some (.int .u64 (hullP A pre).2.2)
 ct : V.cell? ⟨p + 1, 0, none⟩ = some (.int .i64 (trapP A L T pre))
 fp : ∀ j, V.frozen? ⟨p, j, none⟩ = false
 ft : V.frozen? ⟨p + 1, 0, none⟩ = false
 but : But (fun k => k = p ∨ k = p + 1) W0 V
theorem TIf.next {A : Ways} {L : Ln} {T : Int} {p : Nat} {W0 V : World} {pre : List Int} {u0 u1 u2 : Value} {t : Int} {je : Bool} {jl jh : Int} (h0 : V.cell? ⟨p, 0, none⟩ = some u0) (h1 : V.cell? ⟨p, 1, none⟩ = some u1) (h2 : V.cell? ⟨p, 2, none⟩ = some u2)
  (ht : V.cell? ⟨p + 1, 0, none⟩ = some (.int .i64 t)) (fp : ∀ j, V.frozen? ⟨p, j, none⟩ = false) (ft : V.frozen? ⟨p + 1, 0, none⟩ = false) (hb : But (fun k => k = p ∨ k = p + 1) W0 V) (e1 : hullP A pre = (je, jl, jh)) (e2 : trapP A L T pre = t) :
  TIf A L T p W0 pre (((V.setCell ⟨p, 0, none⟩ (.bool je)).setCell ⟨p, 1, none⟩ (.int .u64 jl)).setCell ⟨p, 2, none⟩ (.int .u64 jh)) := by
 refine ⟨?_, ?_, ?_, ?_, ?_, ?_, ((hb.set (.inl rfl) _).set (.inl rfl) _).set (.inl rfl) _⟩
 ·rw [e1]; simp [go_sem, h0, h1, h2]
 ·rw [e1]; simp [go_sem, h0, h1, h2]
 ·rw [e1]; simp [go_sem, h0, h1, h2]
 ·rw [e2]; exact sp_keep3 ht (by omega) _ _ _
 ·intro j; simp [go_sem, fp]
 ·simp [go_sem, ft]
end Go.Proofs.YteafnkimcidkhaaGreat


namespace Go.Proofs.YteafnkimcidkhaaGreat
open Go.RowKit Go.Shelf
set_option linter.unusedVariables false
set_option linter.unusedSimpArgs false
attribute [local go_sem] Oper.semAt_some
def Box3f (W : World) (b : Nat) (s : Bool × Int × Int) : Prop := W.cell? ⟨b, 0, none⟩ = some (.bool s.1) ∧ W.cell? ⟨b, 1, none⟩ = some (.int .u64 s.2.1) ∧ W.cell? ⟨b, 2, none⟩ = some (.int .u64 s.2.2)
theorem Box3f.but {S : Nat → Prop} {A B : World} {b : Nat} {s : Bool × Int × Int} (h : Box3f A b s) (hb : But S A B) (hs : ¬ S b) : Box3f B b s := ⟨hb.cell hs h.1, hb.cell hs h.2.1, hb.cell hs h.2.2⟩
end Go.Proofs.YteafnkimcidkhaaGreat


namespace Go.Proofs.YteafnkimcidkhaaGreat
open Go.RowKit Go.Shelf
set_option linter.unusedVariables false
set_option linter.unusedSimpArgs false
attribute [local go_sem] Oper.semAt_some
end Go.Proofs.YteafnkimcidkhaaGreat


namespace Go.Proofs.YteafnkimcidkhaaGreat
open Go.RowKit
set_option linter.unusedVariables false
set_option linter.unusedSimpArgs false
end Go.Proofs.YteafnkimcidkhaaGreat


namespace Go.Proofs.YteafnkimcidkhaaGreat
open Go.RowKit
set_option linter.unusedVariables false
set_option linter.unusedSimpArgs false
end Go.Proofs.YteafnkimcidkhaaGreat


namespace Go.Proofs.YteafnkimcidkhaaGreat
open Go.RowKit
set_option linter.unusedVariables false
set_option linter.unusedSimpArgs false
theorem carry1f {X v : World} {b : Nat} {o : Obj} (g : Below X.heap.size X v) (q : X.heap[b]? = some o) : v.heap[b]? = some o := (g.block b (Array.getElem?_eq_some_iff.1 q).1).trans q
theorem carry2f {X v : World} {b : Nat} {o o' : Obj} (g : Below (X.alloc o').heap.size (X.alloc o') v) (q : X.heap[b]? = some o) : v.heap[b]? = some o := carry1f g ((Below.heap_alloc X o' b (Array.getElem?_eq_some_iff.1 q).1).trans q)
theorem carry3f {X v : World} {b : Nat} {o o' : Obj} (g : Below (X.alloc o').drew.heap.size (X.alloc o').drew v) (q : X.heap[b]? = some o) : v.heap[b]? = some o := carry2f (X := X) (o' := o') ⟨g.os, g.tape, g.output, g.size, g.block⟩ q
theorem zcellsf {v : World} {b : Nat} {t : TypeId} (q : v.heap[b]? = some (.cells #[.bool false, .int .u64 0, .int .u64 0] t (0, 0))) : v.cell? ⟨b, 0, none⟩ = some (.bool false) ∧ v.cell? ⟨b, 1, none⟩ = some (.int .u64 0) ∧ v.cell? ⟨b, 2, none⟩ = some (.int .u64 0) ∧ ∀ j, v.frozen? ⟨b, j, none⟩ = false := by
 refine ⟨by simp [World.cell?, q], by simp [World.cell?, q], by simp [World.cell?, q], fun j => by simp [World.frozen?, q]⟩
end Go.Proofs.YteafnkimcidkhaaGreat



namespace Go.Proofs.YteafnkimcidkhaaGreat
open Go.RowKit
set_option linter.unusedVariables false
set_option linter.unusedSimpArgs false
end Go.Proofs.YteafnkimcidkhaaGreat



namespace Go.Proofs.YteafnkimcidkhaaGreat
open Go.RowKit
set_option linter.unusedVariables false
set_option linter.unusedSimpArgs false
set_option maxRecDepth 100000 in
set_option maxHeartbeats 6400000 in
theorem of_f {L : Ln} {A : Ways} {B : Nat} {w0 : World} (H : Actsf L A B w0) (x y : Int) (dx : A.dom x) (dy : A.dom y) (dpx : A.dom (A.pl x)) (dpy : A.dom (A.pl y)) (w : World) (ok : Below B w0 w) :
   Calls Tryz.prog 101 #[.agg (lvf L), .int .u64 x, .int .u64 y] w fun e w' => e = .returned (sVf (ofP A x y)) ∧ Below w.heap.size w w' := by
 have h1 := fun V ok => H.pl x V dx ok
 have h2 := fun V ok => H.pl y V dy ok
 have h3 := fun V ok => right_f H false (A.pl x) (A.pl y) dpx dpy V ok
 have h4 := none_f
 have hB := H.hB
 have ep := H.ep
 obtain ⟨R, HR⟩ : ∃ R, Hid (R = sVf (ofP A x y)) := ⟨_, rfl⟩
 rw [← HR.out]
 replace HR := HR.out
 unfold sVf ofP at HR
 unfold lvf at *
 clear H
 generalize rightP A (false, A.pl x, A.pl y) = rt at *
 generalize A.pl x = px at *
 generalize A.pl y = py at *
 replace HR : Hid _ := HR
 go_enter Tryz.func101, Tryz.ntmps101
 go_upto_region 1 with fail
 obtain ⟨W, hW⟩ : ∃ W, ((w.alloc (.cells #[.int .u64 L.least, .int .u64 L.most, .int .i64 L.past, .func (.func L.ko) #[] L.co, .func (.func L.kp) #[] L.cp, .func (.func L.k1) #[] L.c1, .func (.func L.kv) #[] L.cv, .func (.func L.kn) #[] L.cn, .func (.func L.ku) #[] L.cu, .func (.func L.kt) #[] L.ct, .func (.func L.kz) #[] L.cz] 134)).alloc (.cells #[.bool false, .int .u64 0, .int .u64 0] 126)) = W := ⟨_, rfl⟩
 have l0 : W.cell? ⟨w.heap.size, 0, none⟩ = some (.int .u64 L.least) := by rw [← hW]; simp [go_sem]
 have l1 : W.cell? ⟨w.heap.size, 1, none⟩ = some (.int .u64 L.most) := by rw [← hW]; simp [go_sem]
 have l2 : W.cell? ⟨w.heap.size, 2, none⟩ = some (.int .i64 L.past) := by rw [← hW]; simp [go_sem]
 have l3 : W.cell? ⟨w.heap.size, 3, none⟩ = some (.func (.func L.ko) #[] L.co) := by rw [← hW]; simp [go_sem]
 have l4 : W.cell? ⟨w.heap.size, 4, none⟩ = some (.func (.func L.kp) #[] L.cp) := by rw [← hW]; simp [go_sem]
 have l5 : W.cell? ⟨w.heap.size, 5, none⟩ = some (.func (.func L.k1) #[] L.c1) := by rw [← hW]; simp [go_sem]
 have l6 : W.cell? ⟨w.heap.size, 6, none⟩ = some (.func (.func L.kv) #[] L.cv) := by rw [← hW]; simp [go_sem]
 have l7 : W.cell? ⟨w.heap.size, 7, none⟩ = some (.func (.func L.kn) #[] L.cn) := by rw [← hW]; simp [go_sem]
 have l8 : W.cell? ⟨w.heap.size, 8, none⟩ = some (.func (.func L.ku) #[] L.cu) := by rw [← hW]; simp [go_sem]
 have l9 : W.cell? ⟨w.heap.size, 9, none⟩ = some (.func (.func L.kt) #[] L.ct) := by rw [← hW]; simp [go_sem]
 have l10 : W.cell? ⟨w.heap.size, 10, none⟩ = some (.func (.func L.kz) #[] L.cz) := by rw [← hW]; simp [go_sem]
 have r0 : W.cell? ⟨w.heap.size + 1, 0, none⟩ = some (.bool false) := by rw [← hW]; simp [go_sem]
 have r1 : W.cell? ⟨w.heap.size + 1, 1, none⟩ = some (.int .u64 0) := by rw [← hW]; simp [go_sem]
 have r2 : W.cell? ⟨w.heap.size + 1, 2, none⟩ = some (.int .u64 0) := by rw [← hW]; simp [go_sem]
 have okW : Below B w0 W := by rw [← hW]; exact (ok_new hB (ok_new hB ok _) _)
 have bW : Below w.heap.size w W := by rw [← hW]; exact (sp_new (sp_new (Below.refl _ _) _) _)
 have zW : W.heap.size = w.heap.size + 2 := by rw [← hW]; simp
 have fz : ∀ j, W.frozen? ⟨w.heap.size + 1, j, none⟩ = false := by intro j; rw [← hW]; simp [go_sem]
 rw [hW]
 clear hW
 have okc : ∀ X, Below W.heap.size W X → Below B w0 X := fun X cc => ok_call hB okW cc
 have hall : ∀ X, Below W.heap.size W X → (X.cell? ⟨w.heap.size, 0, none⟩ = some (.int .u64 L.least) ∧ X.cell? ⟨w.heap.size, 1, none⟩ = some (.int .u64 L.most) ∧ X.cell? ⟨w.heap.size, 2, none⟩ = some (.int .i64 L.past) ∧ X.cell? ⟨w.heap.size, 3, none⟩ = some (.func (.func L.ko) #[] L.co) ∧ X.cell? ⟨w.heap.size, 4, none⟩ = some (.func (.func L.kp) #[] L.cp) ∧ X.cell? ⟨w.heap.size, 5, none⟩ = some (.func (.func L.k1) #[] L.c1) ∧ X.cell? ⟨w.heap.size, 6, none⟩ = some (.func (.func L.kv) #[] L.cv) ∧ X.cell? ⟨w.heap.size, 7, none⟩ = some (.func (.func L.kn) #[] L.cn) ∧ X.cell? ⟨w.heap.size, 8, none⟩ = some (.func (.func L.ku) #[] L.cu) ∧ X.cell? ⟨w.heap.size, 9, none⟩ = some (.func (.func L.kt) #[] L.ct) ∧ X.cell? ⟨w.heap.size, 10, none⟩ = some (.func (.func L.kz) #[] L.cz)) := fun X cc => ⟨sO cc l0, sO cc l1, sO cc l2, sO cc l3, sO cc l4, sO cc l5, sO cc l6, sO cc l7, sO cc l8, sO cc l9, sO cc l10⟩
 have cc : Below W.heap.size W W := Below.refl _ _
 replace zW := Nat.le_of_eq zW.symm
 go_cut [7] from 8 to 16 (fun s X => ∃ b : Nat, s = .pointer (some ⟨b, 0, none⟩) ∧ W.heap.size ≤ b ∧ X.cell? ⟨b, 0, none⟩ = some (.bool false) ∧ X.cell? ⟨b, 1, none⟩ = some (.int .u64 px) ∧ X.cell? ⟨b, 2, none⟩ = some (.int .u64 py) ∧ Below W.heap.size W X)
 case first =>
  go_region_held3 (fun w' => w'.cell? ⟨w.heap.size, 0, none⟩ = some (.int .u64 L.least) ∧ w'.cell? ⟨w.heap.size, 1, none⟩ = some (.int .u64 L.most) ∧ w'.cell? ⟨w.heap.size, 2, none⟩ = some (.int .i64 L.past) ∧ w'.cell? ⟨w.heap.size, 3, none⟩ = some (.func (.func L.ko) #[] L.co) ∧ w'.cell? ⟨w.heap.size, 4, none⟩ = some (.func (.func L.kp) #[] L.cp) ∧ w'.cell? ⟨w.heap.size, 5, none⟩ = some (.func (.func L.k1) #[] L.c1) ∧ w'.cell? ⟨w.heap.size, 6, none⟩ = some (.func (.func L.kv) #[] L.cv) ∧ w'.cell? ⟨w.heap.size, 7, none⟩ = some (.func (.func L.kn) #[] L.cn) ∧ w'.cell? ⟨w.heap.size, 8, none⟩ = some (.func (.func L.ku) #[] L.cu) ∧ w'.cell? ⟨w.heap.size, 9, none⟩ = some (.func (.func L.kt) #[] L.ct) ∧ w'.cell? ⟨w.heap.size, 10, none⟩ = some (.func (.func L.kz) #[] L.cz)) (first | exact hall _ (by first | exact cc | exact cc.drew | exact sp_new cc _ | exact (sp_new cc _).drew | exact sp_new cc.drew _ | exact sp_new (sp_new cc _) _ | exact sp_set3 cc (by omega) _ _ _ | exact (sp_set3 cc (by omega) _ _ _).drew) | trivial)
    (first
     | (go_at_fn L.kp; refine (h1 _ (okc _ (by first | exact cc | exact cc.drew | exact sp_new cc _ | exact (sp_new cc _).drew | exact sp_new cc.drew _ | exact sp_new (sp_new cc _) _))).mono ?_; rintro e v1 ⟨rfl, g⟩; replace cc := sp_call (show Below W.heap.size W _ by first | exact cc | exact cc.drew | exact sp_new cc _ | exact (sp_new cc _).drew | exact sp_new cc.drew _ | exact sp_new (sp_new cc _) _) g; have zcv1 := cc.size; (try first | (have qb := carry1f (o := (Obj.cells #[.bool false, .int .u64 0, .int .u64 0] 126 (0, 0))) g (by assumption)) | (have qb := carry2f (o := (Obj.cells #[.bool false, .int .u64 0, .int .u64 0] 126 (0, 0))) g (by assumption)) | (have qb := carry3f (o := (Obj.cells #[.bool false, .int .u64 0, .int .u64 0] 126 (0, 0))) g (by assumption)) | skip); (try first | (have qb : v1.heap[W.heap.size]? = some (Obj.cells #[.bool false, .int .u64 0, .int .u64 0] 126 (0, 0)) := carry1f g (World.alloc_heap_new W (Obj.cells #[.bool false, .int .u64 0, .int .u64 0] 126 (0, 0)))) | (have qb : v1.heap[W.heap.size]? = some (Obj.cells #[.bool false, .int .u64 0, .int .u64 0] 126 (0, 0)) := carry1f g (World.alloc_heap_new W.drew (Obj.cells #[.bool false, .int .u64 0, .int .u64 0] 126 (0, 0)))) | (have qb : v1.heap[W.heap.size]? = some (Obj.cells #[.bool false, .int .u64 0, .int .u64 0] 126 (0, 0)) := carry1f g (show (World.drew (World.alloc W (Obj.cells #[.bool false, .int .u64 0, .int .u64 0] 126 (0, 0)))).heap[W.heap.size]? = some (Obj.cells #[.bool false, .int .u64 0, .int .u64 0] 126 (0, 0)) from World.alloc_heap_new W (Obj.cells #[.bool false, .int .u64 0, .int .u64 0] 126 (0, 0)))) | skip); skip)
     | (go_at_fn L.kp; refine (h2 _ (okc _ (by first | exact cc | exact cc.drew | exact sp_new cc _ | exact (sp_new cc _).drew | exact sp_new cc.drew _ | exact sp_new (sp_new cc _) _))).mono ?_; rintro e v2 ⟨rfl, g⟩; replace cc := sp_call (show Below W.heap.size W _ by first | exact cc | exact cc.drew | exact sp_new cc _ | exact (sp_new cc _).drew | exact sp_new cc.drew _ | exact sp_new (sp_new cc _) _) g; have zcv2 := cc.size; (try first | (have qb := carry1f (o := (Obj.cells #[.bool false, .int .u64 0, .int .u64 0] 126 (0, 0))) g (by assumption)) | (have qb := carry2f (o := (Obj.cells #[.bool false, .int .u64 0, .int .u64 0] 126 (0, 0))) g (by assumption)) | (have qb := carry3f (o := (Obj.cells #[.bool false, .int .u64 0, .int .u64 0] 126 (0, 0))) g (by assumption)) | skip); (try first | (have qb : v2.heap[v1.heap.size]? = some (Obj.cells #[.bool false, .int .u64 0, .int .u64 0] 126 (0, 0)) := carry1f g (World.alloc_heap_new v1 (Obj.cells #[.bool false, .int .u64 0, .int .u64 0] 126 (0, 0)))) | (have qb : v2.heap[v1.heap.size]? = some (Obj.cells #[.bool false, .int .u64 0, .int .u64 0] 126 (0, 0)) := carry1f g (World.alloc_heap_new v1.drew (Obj.cells #[.bool false, .int .u64 0, .int .u64 0] 126 (0, 0)))) | (have qb : v2.heap[v1.heap.size]? = some (Obj.cells #[.bool false, .int .u64 0, .int .u64 0] 126 (0, 0)) := carry1f g (show (World.drew (World.alloc v1 (Obj.cells #[.bool false, .int .u64 0, .int .u64 0] 126 (0, 0)))).heap[v1.heap.size]? = some (Obj.cells #[.bool false, .int .u64 0, .int .u64 0] 126 (0, 0)) from World.alloc_heap_new v1 (Obj.cells #[.bool false, .int .u64 0, .int .u64 0] 126 (0, 0)))) | skip); (try first | (have hq := zcellsf (v := v2) (by assumption); obtain ⟨q0, q1, q2, qf⟩ := hq) | skip); skip)
     | fail)
  all_goals go_wp2_with fail
  all_goals go_meet
  all_goals exact ⟨_, rfl, by omega, by first | (simp [go_sem]; done) | (simp [go_sem, q0, q1, q2]; done), by first | (simp [go_sem]; done) | (simp [go_sem, q0, q1, q2]; done), by first | (simp [go_sem]; done) | (simp [go_sem, q0, q1, q2]; done), by first | exact sp_new cc _ | exact sp_set3 cc (by omega) _ _ _⟩
 case rest =>
  obtain ⟨bq, rfl, hbq, t0, t1, t2, cX⟩ := hcut
  have hl := hall _ cX
  clear l0 l1 l2 l3 l4 l5 l6 l7 l8 l9 l10
  obtain ⟨l0, l1, l2, l3, l4, l5, l6, l7, l8, l9, l10⟩ := hl
  replace r0 := sO cX r0
  replace r1 := sO cX r1
  replace r2 := sO cX r2
  replace fz := fun j => (cX.frozen (p := ⟨w.heap.size + 1, j, none⟩) (by simp; omega)).trans (fz j)
  have zX := cX.size
  have bX := sp_call bW cX
  clear hall cc
  cases rt
  · go_wp2_with (first
     | (go_at_call 149; refine (h3 _ (okc _ cX)).mono ?_; rintro e v3 ⟨rfl, g⟩; replace fz := fun j => (g.frozen (p := ⟨w.heap.size + 1, j, none⟩) (by simp; omega)).trans (fz j); have z3 := g.size; replace bX := sp_call bX g; replace t0 := sO g t0; replace t1 := sO g t1; replace t2 := sO g t2; replace r0 := sO g r0; replace r1 := sO g r1; replace r2 := sO g r2; clear g)
     | (go_at_call 150; refine (h4 _).mono ?_; rintro e v4 ⟨rfl, g⟩; replace fz := fun j => (g.frozen (p := ⟨w.heap.size + 1, j, none⟩) (by simp; omega)).trans (fz j); replace bX := sp_call bX g; replace r0 := sO g r0; replace r1 := sO g r1; replace r2 := sO g r2; clear g)
     | fail)
    exact bodyPost_ret (v := .agg #[.bool true, .int .u64 0, .int .u64 0]) (by simp [results, Tryz.results101, go_sem, r0, r1, r2]) rfl ⟨by rw [HR.out]; simp, sp_set3 bX (by omega) _ _ _⟩
  · go_wp2_with (first
     | (go_at_call 149; refine (h3 _ (okc _ cX)).mono ?_; rintro e v3 ⟨rfl, g⟩; replace fz := fun j => (g.frozen (p := ⟨w.heap.size + 1, j, none⟩) (by simp; omega)).trans (fz j); have z3 := g.size; replace bX := sp_call bX g; replace t0 := sO g t0; replace t1 := sO g t1; replace t2 := sO g t2; replace r0 := sO g r0; replace r1 := sO g r1; replace r2 := sO g r2; clear g)
     | fail)
    exact bodyPost_ret (v := .agg #[.bool false, .int .u64 px, .int .u64 py]) (by simp [results, Tryz.results101, go_sem, r0, r1, r2]) rfl ⟨by rw [HR.out]; simp, sp_set3 bX (by omega) _ _ _⟩
end Go.Proofs.YteafnkimcidkhaaGreat



namespace Go.Proofs.YteafnkimcidkhaaGreat
open Go.RowKit
set_option linter.unusedVariables false
set_option linter.unusedSimpArgs false
set_option maxRecDepth 100000 in
set_option maxHeartbeats 6400000 in
theorem fof_of (f : Int) (x y : Int) (me : Bool) (mlo mhi : Int) (h : ∀ L B w0, FlAt f L B w0 → ∀ V, Below B w0 V → Calls Tryz.prog 101 #[.agg (lvf L), .int .u64 x, .int .u64 y] V fun e w' => e = .returned (.agg #[.bool me, .int .u64 mlo, .int .u64 mhi]) ∧ Below V.heap.size V w') (w : World) :
  Calls Tryz.prog 50 #[.int .i64 f, .int .u64 x, .int .u64 y] w fun e w' => e = .returned (.agg #[.bool me, .int .u64 mlo, .int .u64 mhi]) ∧ Below w.heap.size w w' := by
 have h1 := floats_at f
 have h5 := floatRange_any me mlo mhi
 go_enter Tryz.func50, Tryz.ntmps50
 go_wp2_with fail
 obtain ⟨W, hW⟩ : ∃ W, w.alloc (.cells #[.bool false, .int .u64 0, .int .u64 0] 24) = W := ⟨_, rfl⟩
 have r0 : W.cell? ⟨w.heap.size, 0, none⟩ = some (.bool false) := by rw [← hW]; simp [go_sem]
 have r1 : W.cell? ⟨w.heap.size, 1, none⟩ = some (.int .u64 0) := by rw [← hW]; simp [go_sem]
 have r2 : W.cell? ⟨w.heap.size, 2, none⟩ = some (.int .u64 0) := by rw [← hW]; simp [go_sem]
 have fz : ∀ j, W.frozen? ⟨w.heap.size, j, none⟩ = false := by intro j; rw [← hW]; simp [go_sem]
 have bW : Below w.heap.size w W := by rw [← hW]; exact sp_new (Below.refl _ _) _
 have zW : w.heap.size < W.heap.size := by rw [← hW]; simp
 rw [hW]
 clear hW
 refine (h1 _).mono ?_
 rintro e v1 ⟨L, rfl, hL, g1⟩
 go_wp2_with fail
 refine (h L _ _ hL _ (Below.refl _ _)).mono ?_
 rintro e v2 ⟨rfl, g2⟩
 go_wp2_with fail
 refine (h5 _).mono ?_
 rintro e v3 ⟨rfl, g3⟩
 have g := sp_call (sp_call g1 g2) g3
 replace fz := fun j => (g.frozen (p := ⟨w.heap.size, j, none⟩) zW).trans (fz j)
 replace bW := sp_call bW g
 replace r0 := sO g r0; replace r1 := sO g r1; replace r2 := sO g r2
 go_wp2_with fail
 exact bodyPost_ret (v := .agg #[.bool me, .int .u64 mlo, .int .u64 mhi]) (by simp [results, Tryz.results50, go_sem, r0, r1, r2]) rfl ⟨rfl, sp_set3 bW (by omega) _ _ _⟩
end Go.Proofs.YteafnkimcidkhaaGreat



namespace Go.Proofs.YteafnkimcidkhaaGreat
set_option linter.unusedVariables false
set_option linter.unusedSimpArgs false
theorem made_num (s b : Bool) (z : Int) (h0 : 0 ≤ z) (h : z ≤ fI s) : (cls s (sgnd s b z) == 0 || cls s (sgnd s b z) == 5) = false := by
 have l := fI_lt s
 rw [cls_made s b z h0 (by omega), if_neg (by omega)]
 split
 ·rfl
 ·split
  ·rfl
  ·split <;> rfl
structure Res (s : Bool) (v r : Int) : Prop where
 lo : -fI s ≤ r
 hi : r ≤ fI s
 pl : plainF s v = mk s r
 num : (cls s v == 0 || cls s v == 5) = false
 inf : (cls s v == 4) = decide (r = fI s ∨ r = -fI s)
theorem made_res (s b : Bool) (z : Int) (h0 : 0 ≤ z) (h : z ≤ fI s) : Res s (sgnd s b z) (if b then -z else z) := by
 have l := fI_lt s
 have t := fI_two s
 have e : plainF s (sgnd s b z) = mk s (if b then -z else z) := by
  by_cases c : z = 0
  ·subst c
   rw [show (0 : Int) = ((0 : Nat) : Int) from rfl, n_plain s b 0 (by omega)]
   cases b <;> rfl
  ·have m : mk s (if b then -z else z) = sgnd s b z := by
    unfold mk
    cases b
    ·have : ¬ z < 0 := by omega
     simp [this, sgnd]
    ·have : -z < 0 := by omega
     rw [if_pos rfl, if_pos this, Int.neg_neg]
   rw [← m]
   exact plain_mk (by split <;> omega) (by split <;> omega)
 refine ⟨by split <;> omega, by split <;> omega, e, made_num s b z h0 h, ?_⟩
 rw [cls_made s b z h0 (by omega), if_neg (by omega)]
 by_cases c : z = fI s
 ·rw [if_pos c, decide_eq_true (by cases b <;> simp <;> omega)]; rfl
 ·rw [if_neg c, decide_eq_false (by cases b <;> simp <;> omega)]
  split
  ·rfl
  ·split <;> rfl
theorem rnd_res (s : Bool) (m : Int) (b : Bool) (n : Nat) (e : Int) : ∃ r, Res s (rnd s m b n e) r := by
 obtain ⟨z, e1, z0, z1⟩ := rnd_made s m b n e
 rw [e1]; exact ⟨_, made_res s b z z0 z1⟩
theorem sumT_res (s : Bool) (m : Int) (xb : Bool) (xw : Nat) (xe : Int) (yb : Bool) (yw : Nat) (ye : Int) : ∃ r, Res s (sumT s m xb xw xe yb yw ye) r := by
 unfold sumT
 split
 ·exact rnd_res _ _ _ _ _
 ·split
  ·exact ⟨_, made_res s _ 0 (Int.le_refl _) (fI_pos s)⟩
  ·split <;> exact rnd_res _ _ _ _ _
end Go.Proofs.YteafnkimcidkhaaGreat
namespace Go.Proofs.YteafnkimcidkhaaGreat
open Go.RowKit
set_option linter.unusedVariables false
set_option linter.unusedSimpArgs false
theorem word_0 : Word 0 := ⟨by decide, by decide⟩
theorem ofF_any (f x y : Int) (hx : Word x) (hy : Word y) (w : World) :
  Calls Tryz.prog 50 #[.int .i64 f, .int .u64 x, .int .u64 y] w fun e w' => e = .returned (.agg #[.bool (ofP (WyF (f == 1)) x y).1, .int .u64 (ofP (WyF (f == 1)) x y).2.1, .int .u64 (ofP (WyF (f == 1)) x y).2.2]) ∧ Below w.heap.size w w' :=
 fof_of f x y _ _ _ (fun L B w0 hL V ok => of_f (fl_acts hL) x y hx hy (n_plainw _ _ hx) (n_plainw _ _ hy) V ok) w
end Go.Proofs.YteafnkimcidkhaaGreat



namespace Go.Proofs.YteafnkimcidkhaaGreat
open Go.RowKit
set_option linter.unusedVariables false
set_option linter.unusedSimpArgs false
def wdR (r : Bool × Int × Int) : Prop := Word r.2.1 ∧ Word r.2.2
def liR (a : Bool × Int × Int) : Bool := rightP (WyF false) a
def liN (a : Bool × Int × Int) : Bool := liR a && !a.1
def liZ (a : Bool × Int × Int) : Bool := decide (a.1 = false ∧ a.2.1 = 0 ∧ a.2.2 = 0)
def lesP (x y : Int) : Int := if 0 < (cmpF false x y).1 then y else x
def greP (x y : Int) : Int := if (cmpF false x y).1 < 0 then y else x
def loP (g : Int → Int → Int → Int) (a b c d : Int) : Int := lesP (lesP (lesP (lesP (g 2 a c) (g 2 a c)) (g 2 a d)) (g 2 b c)) (g 2 b d)
def hiP (g : Int → Int → Int → Int) (a b c d : Int) : Int := greP (greP (greP (greP (g 1 b d) (g 1 a c)) (g 1 a d)) (g 1 b c)) (g 1 b d)
def outP (g : Int → Int → Int → Int) (x y : Bool × Int × Int) : (Bool × Int × Int) × Bool :=
 if (liR x && liR y) = false then ((false, 0, 0), false) else if (x.1 || y.1) = true then ((true, 0, 0), true)
 else if (ofP (WyF false) (loP g x.2.1 x.2.2 y.2.1 y.2.2) (hiP g x.2.1 x.2.2 y.2.1 y.2.2)).1 = true then ((false, 0, 0), false)
 else (ofP (WyF false) (loP g x.2.1 x.2.2 y.2.1 y.2.2) (hiP g x.2.1 x.2.2 y.2.1 y.2.2), true)
theorem isrange_any (a : Bool × Int × Int) (h : wdR a) (w : World) : Calls Tryz.prog 77 #[.agg #[.bool a.1, .int .u64 a.2.1, .int .u64 a.2.2]] w fun e w' => e = .returned (.bool (liR a)) ∧ Below w.heap.size w w' := by
 obtain ⟨e, x, y⟩ := a
 exact lirange e x y _ (fun V => right_any 0 e x y h.1 h.2 V) w
theorem hasnum_any (a : Bool × Int × Int) (h : wdR a) (w : World) : Calls Tryz.prog 60 #[.agg #[.bool a.1, .int .u64 a.2.1, .int .u64 a.2.2]] w fun e w' => e = .returned (.bool (liN a)) ∧ Below w.heap.size w w' := by
 obtain ⟨e, x, y⟩ := a
 exact lihas e x y _ (fun V => isrange_any (e, x, y) h V) w
theorem iszero_any (a : Bool × Int × Int) (w : World) : Calls Tryz.prog 120 #[.agg #[.bool a.1, .int .u64 a.2.1, .int .u64 a.2.2]] w fun e w' => e = .returned (.bool (liZ a)) ∧ Below w.heap.size w w' := by
 obtain ⟨e, x, y⟩ := a
 exact lizero e x y w
theorem lesser_any (x y : Int) (hx : Word x) (hy : Word y) (w : World) : Calls Tryz.prog 105 #[.int .u64 x, .int .u64 y] w fun e w' => e = .returned (.int .u64 (lesP x y)) ∧ Below w.heap.size w w' :=
 lilesser x y _ _ (fun V => compare_fl 0 x y hx hy V) w
theorem greater_any (x y : Int) (hx : Word x) (hy : Word y) (w : World) : Calls Tryz.prog 106 #[.int .u64 x, .int .u64 y] w fun e w' => e = .returned (.int .u64 (greP x y)) ∧ Below w.heap.size w w' :=
 ligreater x y _ _ (fun V => compare_fl 0 x y hx hy V) w
theorem lesP_word {x y : Int} (hx : Word x) (hy : Word y) : Word (lesP x y) := by unfold lesP; split <;> assumption
theorem greP_word {x y : Int} (hx : Word x) (hy : Word y) : Word (greP x y) := by unfold greP; split <;> assumption
theorem out_any (kb : Nat) (eby : ∀ args w, (callFunc kb args).run Tryz.prog w = .ok (.enter kb args) w) (g : Int → Int → Int → Int) (gw : ∀ m x y, Word x → Word y → Word (g m x y)) (hg : ∀ m x y, Word x → Word y → ∀ V, Calls Tryz.prog kb #[.int .i64 0, .int .i64 m, .int .u64 x, .int .u64 y] V fun e w' => e = .returned (.int .u64 (g m x y)) ∧ Below V.heap.size V w') (x y : Bool × Int × Int) (hx : wdR x) (hy : wdR y) (w : World) :
  Calls Tryz.prog 53 #[.func (.func kb) #[] #[], .agg #[.bool x.1, .int .u64 x.2.1, .int .u64 x.2.2], .agg #[.bool y.1, .int .u64 y.2.1, .int .u64 y.2.2]] w fun e w' => e = .returned (.tuple #[.agg #[.bool (outP g x y).1.1, .int .u64 (outP g x y).1.2.1, .int .u64 (outP g x y).1.2.2], .bool (outP g x y).2]) ∧ Below w.heap.size w w' := by
 obtain ⟨e1, a, b⟩ := x
 obtain ⟨e2, c, d⟩ := y
 obtain ⟨ha, hb⟩ := hx
 obtain ⟨hc, hd⟩ := hy
 simp only at ha hb hc hd
 by_cases h : (liR (e1, a, b) && liR (e2, c, d)) = false
 ·have := liout_no kb eby e1 a b e2 c d _ _ h (isrange_any (e1, a, b) ⟨ha, hb⟩) (isrange_any (e2, c, d) ⟨hc, hd⟩) w
  refine this.mono fun e w' q => ⟨?_, q.2⟩
  rw [q.1]
  simp only [outP, if_pos h]
 ·have h' : liR (e1, a, b) = true ∧ liR (e2, c, d) = true := by simpa using h
  have r1 := isrange_any (e1, a, b) ⟨ha, hb⟩
  have r2 := isrange_any (e2, c, d) ⟨hc, hd⟩
  rw [h'.1] at r1
  rw [h'.2] at r2
  by_cases he : (e1 || e2) = true
  ·have := liout_em kb eby e1 a b e2 c d he r1 r2 w
   refine this.mono fun e w' q => ⟨?_, q.2⟩
   rw [q.1]
   simp only [outP, if_neg h, if_pos he]
  ·obtain ⟨rfl, rfl⟩ : e1 = false ∧ e2 = false := by simpa using he
   have w0 := gw 2 a c ha hc
   have w1 := gw 2 a d ha hd
   have w2 := gw 2 b c hb hc
   have w3 := gw 2 b d hb hd
   have v0 := gw 1 a c ha hc
   have v1 := gw 1 a d ha hd
   have v2 := gw 1 b c hb hc
   have v3 := gw 1 b d hb hd
   have this := liout_ok kb eby a b c d _ _ _ _ _ _ _ _ _ _ _ _ _ _ _ _ _ _ _ r1 r2 (hg 2 a c ha hc) (hg 1 a c ha hc) (hg 2 a d ha hd) (hg 1 a d ha hd) (hg 2 b c hb hc) (hg 1 b c hb hc) (hg 2 b d hb hd) (hg 1 b d hb hd)
    (lesser_any _ _ w0 w0) (greater_any _ _ v3 v0) (lesser_any _ _ (lesP_word w0 w0) w1) (greater_any _ _ (greP_word v3 v0) v1) (lesser_any _ _ (lesP_word (lesP_word w0 w0) w1) w2) (greater_any _ _ (greP_word (greP_word v3 v0) v1) v2)
    (lesser_any _ _ (lesP_word (lesP_word (lesP_word w0 w0) w1) w2) w3) (greater_any _ _ (greP_word (greP_word (greP_word v3 v0) v1) v2) v3)
    (ofF_any 0 _ _ (lesP_word (lesP_word (lesP_word (lesP_word w0 w0) w1) w2) w3) (greP_word (greP_word (greP_word (greP_word v3 v0) v1) v2) v3)) w
   refine this.mono fun e w' q => ⟨?_, q.2⟩
   rw [q.1]
   simp only [outP, if_neg h, if_neg he]
   show Ending.returned (if (ofP (WyF false) (loP g a b c d) (hiP g a b c d)).1 = true then _ else .tuple #[.agg #[.bool (ofP (WyF false) (loP g a b c d) (hiP g a b c d)).1, .int .u64 (ofP (WyF false) (loP g a b c d) (hiP g a b c d)).2.1, .int .u64 (ofP (WyF false) (loP g a b c d) (hiP g a b c d)).2.2], .bool true]) = _
   generalize ofP (WyF false) (loP g a b c d) (hiP g a b c d) = r
   cases h1 : r.1
   ·simp [h1]
   ·simp
theorem ofP_wd {x y : Int} (hx : Word x) (hy : Word y) : wdR (ofP (WyF false) x y) := by
 unfold ofP
 split
 ·exact ⟨n_plainw _ _ hx, n_plainw _ _ hy⟩
 ·exact ⟨word_0, word_0⟩
theorem outP_wd {g : Int → Int → Int → Int} (gw : ∀ m x y, Word x → Word y → Word (g m x y)) {x y : Bool × Int × Int} (hx : wdR x) (hy : wdR y) : wdR (outP g x y).1 := by
 unfold outP
 split
 ·exact ⟨word_0, word_0⟩
 ·split
  ·exact ⟨word_0, word_0⟩
  ·split
   ·exact ⟨word_0, word_0⟩
   ·obtain ⟨ha, hb⟩ := hx
    obtain ⟨hc, hd⟩ := hy
    exact ofP_wd (lesP_word (lesP_word (lesP_word (lesP_word (gw _ _ _ ha hc) (gw _ _ _ ha hc)) (gw _ _ _ ha hd)) (gw _ _ _ hb hc)) (gw _ _ _ hb hd)) (greP_word (greP_word (greP_word (greP_word (gw _ _ _ hb hd) (gw _ _ _ ha hc)) (gw _ _ _ ha hd)) (gw _ _ _ hb hc)) (gw _ _ _ hb hd))
def sumP : Bool × Int × Int → Bool × Int × Int → (Bool × Int × Int) × Bool := outP (addF false)
def trnP (x : Bool × Int × Int) : Bool × Int × Int := (false, plainF false (negF false x.2.2), plainF false (negF false x.2.1))
theorem lsum_any (x y : Bool × Int × Int) (hx : wdR x) (hy : wdR y) (w : World) :
  Calls Tryz.prog 13 #[.agg #[.bool x.1, .int .u64 x.2.1, .int .u64 x.2.2], .agg #[.bool y.1, .int .u64 y.2.1, .int .u64 y.2.2]] w fun e w' => e = .returned (.tuple #[.agg #[.bool (sumP x y).1.1, .int .u64 (sumP x y).1.2.1, .int .u64 (sumP x y).1.2.2], .bool (sumP x y).2]) ∧ Below w.heap.size w w' :=
 lisum _ _ _ _ _ _ _ _ _ _ (fun V => out_any 54 (fun a v => enters_of Tryz.func54 (by kernel_rfl) rfl a v) (addF false) (fun m x y h1 h2 => addF_word false m x y h1 h2) (fun m x y h1 h2 V => add_fl 0 m x y h1 h2 V) x y hx hy V) w
theorem negated_any (x : Int) (hx : Word x) (w : World) : Calls Tryz.prog 122 #[.int .u64 x] w fun e w' => e = .returned (.int .u64 (plainF false (negF false x))) ∧ Below w.heap.size w w' :=
 linegd x _ _ (fun V => neg_fl 0 x hx V) (fun V => plain_any 0 _ (negF_word false x hx) V) w
theorem turned_any (x : Bool × Int × Int) (hx : wdR x) (w : World) : Calls Tryz.prog 71 #[.agg #[.bool x.1, .int .u64 x.2.1, .int .u64 x.2.2]] w fun e w' => e = .returned (.agg #[.bool false, .int .u64 (trnP x).2.1, .int .u64 (trnP x).2.2]) ∧ Below w.heap.size w w' :=
 liturned x.1 x.2.1 x.2.2 _ _ (fun V => negated_any _ hx.2 V) (fun V => negated_any _ hx.1 V) w
theorem trnP_wd {x : Bool × Int × Int} (hx : wdR x) : wdR (trnP x) := ⟨n_plainw _ _ (negF_word _ _ hx.2), n_plainw _ _ (negF_word _ _ hx.1)⟩
end Go.Proofs.YteafnkimcidkhaaGreat



