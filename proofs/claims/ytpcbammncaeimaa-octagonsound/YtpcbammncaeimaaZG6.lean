/- Texts of the proof, put together. -/
import Derived.Test.YtpcbammncaeimaaZG5
import Derived.Test.YtpcbammncaeimaaZSpWi
import Derived.Deep.DeepCutAuto
import Derived.Test.YtpcbammncaeimaaZG2
import Derived.Deep.RegionWith
namespace Go.Proofs.Ytpcbammncaeimaa
open Go.RowKit
set_option linter.unusedVariables false
set_option linter.unusedSimpArgs false
end Go.Proofs.Ytpcbammncaeimaa


namespace Go.Proofs.Ytpcbammncaeimaa
open Go.RowKit
set_option linter.unusedVariables false
set_option linter.unusedSimpArgs false
theorem carry1i {X v : World} {b : Nat} {o : Obj} (g : Below X.heap.size X v) (q : X.heap[b]? = some o) : v.heap[b]? = some o := (g.block b (Array.getElem?_eq_some_iff.1 q).1).trans q
theorem carry2i {X v : World} {b : Nat} {o o' : Obj} (g : Below (X.alloc o').heap.size (X.alloc o') v) (q : X.heap[b]? = some o) : v.heap[b]? = some o := carry1i g ((Below.heap_alloc X o' b (Array.getElem?_eq_some_iff.1 q).1).trans q)
theorem carry3i {X v : World} {b : Nat} {o o' : Obj} (g : Below (X.alloc o').drew.heap.size (X.alloc o').drew v) (q : X.heap[b]? = some o) : v.heap[b]? = some o := carry2i (X := X) (o' := o') ⟨g.os, g.tape, g.output, g.size, g.block⟩ q
theorem zcellsi {v : World} {b : Nat} {t : TypeId} (q : v.heap[b]? = some (.cells #[.bool false, .int .i64 0, .int .i64 0] t (0, 0))) : v.cell? ⟨b, 0, none⟩ = some (.bool false) ∧ v.cell? ⟨b, 1, none⟩ = some (.int .i64 0) ∧ v.cell? ⟨b, 2, none⟩ = some (.int .i64 0) ∧ ∀ j, v.frozen? ⟨b, j, none⟩ = false := by
  refine ⟨by simp [World.cell?, q], by simp [World.cell?, q], by simp [World.cell?, q], fun j => by simp [World.frozen?, q]⟩
end Go.Proofs.Ytpcbammncaeimaa


namespace Go.Proofs.Ytpcbammncaeimaa
open Go.RowKit
set_option linter.unusedVariables false
set_option linter.unusedSimpArgs false
end Go.Proofs.Ytpcbammncaeimaa


namespace Go.Proofs.Ytpcbammncaeimaa
open Go.RowKit
set_option linter.unusedVariables false
set_option linter.unusedSimpArgs false
def LnI : Ln := { least := -2147483648, most := 2147483647, past := 4, ko := 101, kp := 103, k1 := 104, kv := 105, kn := 106, ku := 107, kt := 108, kz := 109, co := #[], cp := #[], c1 := #[], cv := #[], cn := #[], cu := #[], ct := #[], cz := #[] }
def cmpI (x y : Int) : Int := if x < y then -1 else if x > y then 1 else 0
def in32 (x : Int) : Bool := decide (-2147483648 ≤ x ∧ x ≤ 2147483647)
def WyI : Ways := { dom := fun x => -9223372036854775808 ≤ x ∧ x ≤ 9223372036854775807, ord := cmpI, pl := fun x => x, one := in32, prv := fun x => x - 1, nxt := fun x => x + 1 }
set_option maxRecDepth 100000 in
theorem ints_any (w : World) : Calls Try.prog 83 #[] w fun e w' => e = .returned (.agg (lvi LnI)) ∧ Below w.heap.size w w' := by
  go_enter Try.func83, Try.ntmps83
  go_wp2_with fail
  refine bodyPost_ret (v := .agg (lvi LnI)) (by simp [results, Try.results83, go_sem, lvi, LnI]) rfl ?_
  exact ⟨rfl, sp_new (Below.refl _ _) _⟩
set_option maxRecDepth 100000 in
theorem isNaN_any (x : Int) (w : World) : Calls Try.prog 113 #[.int .i64 x] w fun e w' => e = .returned (.bool false) ∧ w' = w := by
  go_enter Try.func113, Try.ntmps113
  go_wp2_with fail
  go_ret
  exact ⟨rfl, rfl⟩
set_option maxRecDepth 100000 in
theorem cmpc_any (x y : Int) (w : World) : Calls Try.prog 102 #[.int .i64 x, .int .i64 y] w fun e w' => e = .returned (.int .i64 (cmpI x y)) ∧ w' = w := by
  have hx := isNaN_any x
  have hy := isNaN_any y
  unfold cmpI
  rcases (show x < y ∨ x > y ∨ x = y by omega) with c | c | c
  · rw [if_pos c]
    go_enter Try.func102, Try.ntmps102
    go_wp2_with (first
      | (go_at_call 113; refine (hx _).mono ?_; rintro e w1 ⟨rfl, rfl⟩; clear hx)
      | (go_at_call 113; refine (hy _).mono ?_; rintro e w2 ⟨rfl, rfl⟩)
      | fail)
    go_ret
    exact ⟨rfl, rfl⟩
  · rw [if_neg (by omega), if_pos c]
    have c' : ¬ x < y := by omega
    have c2 : y < x := c
    go_enter Try.func102, Try.ntmps102
    go_wp2_with (first
      | (go_at_call 113; refine (hx _).mono ?_; rintro e w1 ⟨rfl, rfl⟩; clear hx)
      | (go_at_call 113; refine (hy _).mono ?_; rintro e w2 ⟨rfl, rfl⟩)
      | fail)
    go_ret
    exact ⟨rfl, rfl⟩
  · subst c
    rw [if_neg (by omega), if_neg (by omega)]
    go_enter Try.func102, Try.ntmps102
    go_wp2_with (first
      | (go_at_call 113; refine (hx _).mono ?_; rintro e w1 ⟨rfl, rfl⟩)
      | fail)
    go_ret
    exact ⟨rfl, rfl⟩
set_option maxRecDepth 100000 in
theorem order_i (x y : Int) (w : World) : Calls Try.prog 101 #[.int .i64 x, .int .i64 y] w fun e w' => e = .returned (.int .i64 (cmpI x y)) ∧ Below w.heap.size w w' := by
  have hc := cmpc_any x y
  generalize cmpI x y = c at *
  go_enter Try.func101, Try.ntmps101
  go_wp2_with (go_at_call 102; refine (hc _).mono ?_; rintro e w1 ⟨rfl, rfl⟩)
  go_ret
  exact ⟨rfl, Below.refl _ _⟩
set_option maxRecDepth 100000 in
theorem plain_i (x : Int) (w : World) : Calls Try.prog 103 #[.int .i64 x] w fun e w' => e = .returned (.int .i64 x) ∧ Below w.heap.size w w' := by
  go_enter Try.func103, Try.ntmps103
  go_wp2_with fail
  go_ret
  exact ⟨rfl, Below.refl _ _⟩
set_option maxRecDepth 100000 in
theorem isOne_i (x : Int) (w : World) : Calls Try.prog 104 #[.int .i64 x] w fun e w' => e = .returned (.bool (in32 x)) ∧ Below w.heap.size w w' := by
  unfold in32
  by_cases c1 : -2147483648 ≤ x
  · by_cases c2 : x ≤ 2147483647
    · rw [decide_eq_true ⟨c1, c2⟩]
      have t : decide (x ≤ 2147483647) = true := decide_eq_true c2
      go_enter Try.func104, Try.ntmps104
      go_wp2_with fail
      go_ret
      exact ⟨rfl, Below.refl _ _⟩
    · rw [decide_eq_false (fun h => c2 h.2)]
      have t : decide (x ≤ 2147483647) = false := decide_eq_false c2
      clear c2
      go_enter Try.func104, Try.ntmps104
      go_wp2_with fail
      go_ret
      exact ⟨rfl, Below.refl _ _⟩
  · rw [decide_eq_false (fun h => c1 h.1)]
    have c3 : x < -2147483648 := by omega
    clear c1
    go_enter Try.func104, Try.ntmps104
    go_wp2_with fail
    go_ret
    exact ⟨rfl, Below.refl _ _⟩
set_option maxRecDepth 100000 in
theorem prev_i (x : Int) (h1 : -2147483648 ≤ x) (h2 : x ≤ 2147483647) (w : World) : Calls Try.prog 105 #[.int .i64 x] w fun e w' => e = .returned (.int .i64 (x - 1)) ∧ Below w.heap.size w w' := by
  go_enter Try.func105, Try.ntmps105
  go_wp2_with fail
  go_ret
  exact ⟨rfl, Below.refl _ _⟩
set_option maxRecDepth 100000 in
theorem next_i (x : Int) (h1 : -2147483648 ≤ x) (h2 : x ≤ 2147483647) (w : World) : Calls Try.prog 106 #[.int .i64 x] w fun e w' => e = .returned (.int .i64 (x + 1)) ∧ Below w.heap.size w w' := by
  go_enter Try.func106, Try.ntmps106
  go_wp2_with fail
  go_ret
  exact ⟨rfl, Below.refl _ _⟩
theorem acts_i (w0 : World) : Actsi LnI WyI 0 w0 where
  hB := Nat.zero_le _
  ord := fun x y V _ _ _ => order_i x y V
  pl := fun x V _ _ => plain_i x V
  one := fun x V _ _ => isOne_i x V
  prv := fun x V _ h _ => prev_i x (by have := of_decide_eq_true h; omega) (by have := of_decide_eq_true h; omega) V
  nxt := fun x V _ h _ => next_i x (by have := of_decide_eq_true h; omega) (by have := of_decide_eq_true h; omega) V
  eo := enters_of Try.func101 (by kernel_rfl) rfl
  ep := enters_of Try.func103 (by kernel_rfl) rfl
  e1 := enters_of Try.func104 (by kernel_rfl) rfl
  ev := enters_of Try.func105 (by kernel_rfl) rfl
  en := enters_of Try.func106 (by kernel_rfl) rfl
end Go.Proofs.Ytpcbammncaeimaa


namespace Go.Proofs.Ytpcbammncaeimaa
open Go.RowKit
set_option linter.unusedVariables false
set_option linter.unusedSimpArgs false
set_option maxRecDepth 100000 in
theorem ofInts_any (e1 : Bool) (a b : Int) (w : World) : Calls Try.prog 86 #[.agg #[.bool e1, .int .i64 a, .int .i64 b]] w fun e w' => e = .returned (.agg #[.bool e1, .int .i64 a, .int .i64 b]) ∧ Below w.heap.size w w' := by
  go_enter Try.func86, Try.ntmps86
  go_wp2_with fail
  exact bodyPost_ret (v := .agg #[.bool e1, .int .i64 a, .int .i64 b]) (by simp [results, Try.results86, go_sem]) rfl ⟨rfl, sp_new (sp_new (Below.refl _ _) _) _⟩
set_option maxRecDepth 100000 in
theorem intRange_any (e1 : Bool) (a b : Int) (w : World) : Calls Try.prog 82 #[.agg #[.bool e1, .int .i64 a, .int .i64 b]] w fun e w' => e = .returned (.agg #[.bool e1, .int .i64 a, .int .i64 b]) ∧ Below w.heap.size w w' := by
  go_enter Try.func82, Try.ntmps82
  go_wp2_with fail
  exact bodyPost_ret (v := .agg #[.bool e1, .int .i64 a, .int .i64 b]) (by simp [results, Try.results82, go_sem]) rfl ⟨rfl, sp_new (sp_new (Below.refl _ _) _) _⟩
end Go.Proofs.Ytpcbammncaeimaa


namespace Go.Proofs.Ytpcbammncaeimaa
open Go.RowKit
set_option linter.unusedVariables false
set_option linter.unusedSimpArgs false
set_option maxRecDepth 100000 in
set_option maxHeartbeats 6400000 in
theorem of_i {L : Ln} {A : Ways} {B : Nat} {w0 : World} (H : Actsi L A B w0) (x y : Int) (dx : A.dom x) (dy : A.dom y) (dpx : A.dom (A.pl x)) (dpy : A.dom (A.pl y)) (w : World) (ok : Below B w0 w) :
    Calls Try.prog 84 #[.agg (lvi L), .int .i64 x, .int .i64 y] w fun e w' => e = .returned (sVi (ofP A x y)) ∧ Below w.heap.size w w' := by
  have h1 := fun V ok => H.pl x V dx ok
  have h2 := fun V ok => H.pl y V dy ok
  have h3 := fun V ok => right_i H false (A.pl x) (A.pl y) dpx dpy V ok
  have h4 := none_i
  have hB := H.hB
  have ep := H.ep
  obtain ⟨R, HR⟩ : ∃ R, Hid (R = sVi (ofP A x y)) := ⟨_, rfl⟩
  rw [← HR.out]
  replace HR := HR.out
  unfold sVi ofP at HR
  unfold lvi at *
  clear H
  generalize rightP A (false, A.pl x, A.pl y) = rt at *
  generalize A.pl x = px at *
  generalize A.pl y = py at *
  replace HR : Hid _ := HR
  go_enter Try.func84, Try.ntmps84
  go_upto_region 1 with fail
  obtain ⟨W, hW⟩ : ∃ W, ((w.alloc (.cells #[.int .i64 L.least, .int .i64 L.most, .int .i64 L.past, .func (.func L.ko) #[] L.co, .func (.func L.kp) #[] L.cp, .func (.func L.k1) #[] L.c1, .func (.func L.kv) #[] L.cv, .func (.func L.kn) #[] L.cn, .func (.func L.ku) #[] L.cu, .func (.func L.kt) #[] L.ct, .func (.func L.kz) #[] L.cz] 109)).alloc (.cells #[.bool false, .int .i64 0, .int .i64 0] 101)) = W := ⟨_, rfl⟩
  have l0 : W.cell? ⟨w.heap.size, 0, none⟩ = some (.int .i64 L.least) := by rw [← hW]; simp [go_sem]
  have l1 : W.cell? ⟨w.heap.size, 1, none⟩ = some (.int .i64 L.most) := by rw [← hW]; simp [go_sem]
  have l2 : W.cell? ⟨w.heap.size, 2, none⟩ = some (.int .i64 L.past) := by rw [← hW]; simp [go_sem]
  have l3 : W.cell? ⟨w.heap.size, 3, none⟩ = some (.func (.func L.ko) #[] L.co) := by rw [← hW]; simp [go_sem]
  have l4 : W.cell? ⟨w.heap.size, 4, none⟩ = some (.func (.func L.kp) #[] L.cp) := by rw [← hW]; simp [go_sem]
  have l5 : W.cell? ⟨w.heap.size, 5, none⟩ = some (.func (.func L.k1) #[] L.c1) := by rw [← hW]; simp [go_sem]
  have l6 : W.cell? ⟨w.heap.size, 6, none⟩ = some (.func (.func L.kv) #[] L.cv) := by rw [← hW]; simp [go_sem]
  have l7 : W.cell? ⟨w.heap.size, 7, none⟩ = some (.func (.func L.kn) #[] L.cn) := by rw [← hW]; simp [go_sem]
  have l8 : W.cell? ⟨w.heap.size, 8, none⟩ = some (.func (.func L.ku) #[] L.cu) := by rw [← hW]; simp [go_sem]
  have l9 : W.cell? ⟨w.heap.size, 9, none⟩ = some (.func (.func L.kt) #[] L.ct) := by rw [← hW]; simp [go_sem]
  have l10 : W.cell? ⟨w.heap.size, 10, none⟩ = some (.func (.func L.kz) #[] L.cz) := by rw [← hW]; simp [go_sem]
  have r0 : W.cell? ⟨w.heap.size + 1, 0, none⟩ = some (.bool false) := by rw [← hW]; simp [go_sem]
  have r1 : W.cell? ⟨w.heap.size + 1, 1, none⟩ = some (.int .i64 0) := by rw [← hW]; simp [go_sem]
  have r2 : W.cell? ⟨w.heap.size + 1, 2, none⟩ = some (.int .i64 0) := by rw [← hW]; simp [go_sem]
  have okW : Below B w0 W := by rw [← hW]; exact (ok_new hB (ok_new hB ok _) _)
  have bW : Below w.heap.size w W := by rw [← hW]; exact (sp_new (sp_new (Below.refl _ _) _) _)
  have zW : W.heap.size = w.heap.size + 2 := by rw [← hW]; simp
  have fz : ∀ j, W.frozen? ⟨w.heap.size + 1, j, none⟩ = false := by intro j; rw [← hW]; simp [go_sem]
  rw [hW]
  clear hW
  have okc : ∀ X, Below W.heap.size W X → Below B w0 X := fun X cc => ok_call hB okW cc
  have hall : ∀ X, Below W.heap.size W X → (X.cell? ⟨w.heap.size, 0, none⟩ = some (.int .i64 L.least) ∧ X.cell? ⟨w.heap.size, 1, none⟩ = some (.int .i64 L.most) ∧ X.cell? ⟨w.heap.size, 2, none⟩ = some (.int .i64 L.past) ∧ X.cell? ⟨w.heap.size, 3, none⟩ = some (.func (.func L.ko) #[] L.co) ∧ X.cell? ⟨w.heap.size, 4, none⟩ = some (.func (.func L.kp) #[] L.cp) ∧ X.cell? ⟨w.heap.size, 5, none⟩ = some (.func (.func L.k1) #[] L.c1) ∧ X.cell? ⟨w.heap.size, 6, none⟩ = some (.func (.func L.kv) #[] L.cv) ∧ X.cell? ⟨w.heap.size, 7, none⟩ = some (.func (.func L.kn) #[] L.cn) ∧ X.cell? ⟨w.heap.size, 8, none⟩ = some (.func (.func L.ku) #[] L.cu) ∧ X.cell? ⟨w.heap.size, 9, none⟩ = some (.func (.func L.kt) #[] L.ct) ∧ X.cell? ⟨w.heap.size, 10, none⟩ = some (.func (.func L.kz) #[] L.cz)) := fun X cc => ⟨sO cc l0, sO cc l1, sO cc l2, sO cc l3, sO cc l4, sO cc l5, sO cc l6, sO cc l7, sO cc l8, sO cc l9, sO cc l10⟩
  have cc : Below W.heap.size W W := Below.refl _ _
  replace zW := Nat.le_of_eq zW.symm
  go_cut [7] from 8 to 16 (fun s X => ∃ b : Nat, s = .pointer (some ⟨b, 0, none⟩) ∧ W.heap.size ≤ b ∧ X.cell? ⟨b, 0, none⟩ = some (.bool false) ∧ X.cell? ⟨b, 1, none⟩ = some (.int .i64 px) ∧ X.cell? ⟨b, 2, none⟩ = some (.int .i64 py) ∧ Below W.heap.size W X)
  case first =>
   go_region_held3 (fun w' => w'.cell? ⟨w.heap.size, 0, none⟩ = some (.int .i64 L.least) ∧ w'.cell? ⟨w.heap.size, 1, none⟩ = some (.int .i64 L.most) ∧ w'.cell? ⟨w.heap.size, 2, none⟩ = some (.int .i64 L.past) ∧ w'.cell? ⟨w.heap.size, 3, none⟩ = some (.func (.func L.ko) #[] L.co) ∧ w'.cell? ⟨w.heap.size, 4, none⟩ = some (.func (.func L.kp) #[] L.cp) ∧ w'.cell? ⟨w.heap.size, 5, none⟩ = some (.func (.func L.k1) #[] L.c1) ∧ w'.cell? ⟨w.heap.size, 6, none⟩ = some (.func (.func L.kv) #[] L.cv) ∧ w'.cell? ⟨w.heap.size, 7, none⟩ = some (.func (.func L.kn) #[] L.cn) ∧ w'.cell? ⟨w.heap.size, 8, none⟩ = some (.func (.func L.ku) #[] L.cu) ∧ w'.cell? ⟨w.heap.size, 9, none⟩ = some (.func (.func L.kt) #[] L.ct) ∧ w'.cell? ⟨w.heap.size, 10, none⟩ = some (.func (.func L.kz) #[] L.cz)) (first | exact hall _ (by first | exact cc | exact cc.drew | exact sp_new cc _ | exact (sp_new cc _).drew | exact sp_new cc.drew _ | exact sp_new (sp_new cc _) _ | exact sp_set3 cc (by omega) _ _ _ | exact (sp_set3 cc (by omega) _ _ _).drew) | trivial)
     (first
       | (go_at_fn L.kp; refine (h1 _ (okc _ (by first | exact cc | exact cc.drew | exact sp_new cc _ | exact (sp_new cc _).drew | exact sp_new cc.drew _ | exact sp_new (sp_new cc _) _))).mono ?_; rintro e v1 ⟨rfl, g⟩; replace cc := sp_call (show Below W.heap.size W _ by first | exact cc | exact cc.drew | exact sp_new cc _ | exact (sp_new cc _).drew | exact sp_new cc.drew _ | exact sp_new (sp_new cc _) _) g; have zcv1 := cc.size; (try first | (have qb := carry1i (o := (Obj.cells #[.bool false, .int .i64 0, .int .i64 0] 101 (0, 0))) g (by assumption)) | (have qb := carry2i (o := (Obj.cells #[.bool false, .int .i64 0, .int .i64 0] 101 (0, 0))) g (by assumption)) | (have qb := carry3i (o := (Obj.cells #[.bool false, .int .i64 0, .int .i64 0] 101 (0, 0))) g (by assumption)) | skip); (try first | (have qb : v1.heap[W.heap.size]? = some (Obj.cells #[.bool false, .int .i64 0, .int .i64 0] 101 (0, 0)) := carry1i g (World.alloc_heap_new W (Obj.cells #[.bool false, .int .i64 0, .int .i64 0] 101 (0, 0)))) | (have qb : v1.heap[W.heap.size]? = some (Obj.cells #[.bool false, .int .i64 0, .int .i64 0] 101 (0, 0)) := carry1i g (World.alloc_heap_new W.drew (Obj.cells #[.bool false, .int .i64 0, .int .i64 0] 101 (0, 0)))) | (have qb : v1.heap[W.heap.size]? = some (Obj.cells #[.bool false, .int .i64 0, .int .i64 0] 101 (0, 0)) := carry1i g (show (World.drew (World.alloc W (Obj.cells #[.bool false, .int .i64 0, .int .i64 0] 101 (0, 0)))).heap[W.heap.size]? = some (Obj.cells #[.bool false, .int .i64 0, .int .i64 0] 101 (0, 0)) from World.alloc_heap_new W (Obj.cells #[.bool false, .int .i64 0, .int .i64 0] 101 (0, 0)))) | skip); skip)
       | (go_at_fn L.kp; refine (h2 _ (okc _ (by first | exact cc | exact cc.drew | exact sp_new cc _ | exact (sp_new cc _).drew | exact sp_new cc.drew _ | exact sp_new (sp_new cc _) _))).mono ?_; rintro e v2 ⟨rfl, g⟩; replace cc := sp_call (show Below W.heap.size W _ by first | exact cc | exact cc.drew | exact sp_new cc _ | exact (sp_new cc _).drew | exact sp_new cc.drew _ | exact sp_new (sp_new cc _) _) g; have zcv2 := cc.size; (try first | (have qb := carry1i (o := (Obj.cells #[.bool false, .int .i64 0, .int .i64 0] 101 (0, 0))) g (by assumption)) | (have qb := carry2i (o := (Obj.cells #[.bool false, .int .i64 0, .int .i64 0] 101 (0, 0))) g (by assumption)) | (have qb := carry3i (o := (Obj.cells #[.bool false, .int .i64 0, .int .i64 0] 101 (0, 0))) g (by assumption)) | skip); (try first | (have qb : v2.heap[v1.heap.size]? = some (Obj.cells #[.bool false, .int .i64 0, .int .i64 0] 101 (0, 0)) := carry1i g (World.alloc_heap_new v1 (Obj.cells #[.bool false, .int .i64 0, .int .i64 0] 101 (0, 0)))) | (have qb : v2.heap[v1.heap.size]? = some (Obj.cells #[.bool false, .int .i64 0, .int .i64 0] 101 (0, 0)) := carry1i g (World.alloc_heap_new v1.drew (Obj.cells #[.bool false, .int .i64 0, .int .i64 0] 101 (0, 0)))) | (have qb : v2.heap[v1.heap.size]? = some (Obj.cells #[.bool false, .int .i64 0, .int .i64 0] 101 (0, 0)) := carry1i g (show (World.drew (World.alloc v1 (Obj.cells #[.bool false, .int .i64 0, .int .i64 0] 101 (0, 0)))).heap[v1.heap.size]? = some (Obj.cells #[.bool false, .int .i64 0, .int .i64 0] 101 (0, 0)) from World.alloc_heap_new v1 (Obj.cells #[.bool false, .int .i64 0, .int .i64 0] 101 (0, 0)))) | skip); (try first | (have hq := zcellsi (v := v2) (by assumption); obtain ⟨q0, q1, q2, qf⟩ := hq) | skip); skip)
       | fail)
   all_goals go_wp2_with fail
   all_goals go_meet
   all_goals exact ⟨_, rfl, by omega, by first | (simp [go_sem]; done) | (simp [go_sem, q0, q1, q2]; done), by first | (simp [go_sem]; done) | (simp [go_sem, q0, q1, q2]; done), by first | (simp [go_sem]; done) | (simp [go_sem, q0, q1, q2]; done), by first | exact sp_new cc _ | exact sp_set3 cc (by omega) _ _ _⟩
  case rest =>
   obtain ⟨bq, rfl, hbq, t0, t1, t2, cX⟩ := hcut
   have hl := hall _ cX
   clear l0 l1 l2 l3 l4 l5 l6 l7 l8 l9 l10
   obtain ⟨l0, l1, l2, l3, l4, l5, l6, l7, l8, l9, l10⟩ := hl
   replace r0 := sO cX r0
   replace r1 := sO cX r1
   replace r2 := sO cX r2
   replace fz := fun j => (cX.frozen (p := ⟨w.heap.size + 1, j, none⟩) (by simp; omega)).trans (fz j)
   have zX := cX.size
   have bX := sp_call bW cX
   clear hall cc
   cases rt
   · go_wp2_with (first
       | (go_at_call 85; refine (h3 _ (okc _ cX)).mono ?_; rintro e v3 ⟨rfl, g⟩; replace fz := fun j => (g.frozen (p := ⟨w.heap.size + 1, j, none⟩) (by simp; omega)).trans (fz j); have z3 := g.size; replace bX := sp_call bX g; replace t0 := sO g t0; replace t1 := sO g t1; replace t2 := sO g t2; replace r0 := sO g r0; replace r1 := sO g r1; replace r2 := sO g r2; clear g)
       | (go_at_call 111; refine (h4 _).mono ?_; rintro e v4 ⟨rfl, g⟩; replace fz := fun j => (g.frozen (p := ⟨w.heap.size + 1, j, none⟩) (by simp; omega)).trans (fz j); replace bX := sp_call bX g; replace r0 := sO g r0; replace r1 := sO g r1; replace r2 := sO g r2; clear g)
       | fail)
     exact bodyPost_ret (v := .agg #[.bool true, .int .i64 0, .int .i64 0]) (by simp [results, Try.results84, go_sem, r0, r1, r2]) rfl ⟨by rw [HR.out]; simp, sp_set3 bX (by omega) _ _ _⟩
   · go_wp2_with (first
       | (go_at_call 85; refine (h3 _ (okc _ cX)).mono ?_; rintro e v3 ⟨rfl, g⟩; replace fz := fun j => (g.frozen (p := ⟨w.heap.size + 1, j, none⟩) (by simp; omega)).trans (fz j); have z3 := g.size; replace bX := sp_call bX g; replace t0 := sO g t0; replace t1 := sO g t1; replace t2 := sO g t2; replace r0 := sO g r0; replace r1 := sO g r1; replace r2 := sO g r2; clear g)
       | fail)
     exact bodyPost_ret (v := .agg #[.bool false, .int .i64 px, .int .i64 py]) (by simp [results, Try.results84, go_sem, r0, r1, r2]) rfl ⟨by rw [HR.out]; simp, sp_set3 bX (by omega) _ _ _⟩
end Go.Proofs.Ytpcbammncaeimaa


namespace Go.Proofs.Ytpcbammncaeimaa
open Go.RowKit
set_option linter.unusedVariables false
set_option linter.unusedSimpArgs false
set_option maxRecDepth 100000 in
set_option maxHeartbeats 3200000 in
theorem intOf_of (x y : Int) (me : Bool) (mlo mhi : Int) (h : ∀ V, Calls Try.prog 84 #[.agg (lvi LnI), .int .i64 x, .int .i64 y] V fun e w' => e = .returned (.agg #[.bool me, .int .i64 mlo, .int .i64 mhi]) ∧ Below V.heap.size V w') (w : World) :
    Calls Try.prog 54 #[.int .i64 x, .int .i64 y] w fun e w' => e = .returned (.agg #[.bool me, .int .i64 mlo, .int .i64 mhi]) ∧ Below w.heap.size w w' := by
  have h1 := ints_any
  have h5 := intRange_any me mlo mhi
  generalize lvi LnI = LV at *
  go_enter Try.func54, Try.ntmps54
  go_wp2_with fail
  obtain ⟨W, hW⟩ : ∃ W, w.alloc (.cells #[.bool false, .int .i64 0, .int .i64 0] 39) = W := ⟨_, rfl⟩
  have r0 : W.cell? ⟨w.heap.size, 0, none⟩ = some (.bool false) := by rw [← hW]; simp [go_sem]
  have r1 : W.cell? ⟨w.heap.size, 1, none⟩ = some (.int .i64 0) := by rw [← hW]; simp [go_sem]
  have r2 : W.cell? ⟨w.heap.size, 2, none⟩ = some (.int .i64 0) := by rw [← hW]; simp [go_sem]
  have fz : ∀ j, W.frozen? ⟨w.heap.size, j, none⟩ = false := by intro j; rw [← hW]; simp [go_sem]
  have bW : Below w.heap.size w W := by rw [← hW]; exact sp_new (Below.refl _ _) _
  have zW : w.heap.size < W.heap.size := by rw [← hW]; simp
  rw [hW]
  clear hW
  refine (h1 _).mono ?_
  rintro e v1 ⟨rfl, g1⟩
  go_wp2_with fail
  refine (h _).mono ?_
  rintro e v2 ⟨rfl, g2⟩
  go_wp2_with fail
  refine (h5 _).mono ?_
  rintro e v3 ⟨rfl, g3⟩
  have g := sp_call (sp_call g1 g2) g3
  replace fz := fun j => (g.frozen (p := ⟨w.heap.size, j, none⟩) zW).trans (fz j)
  replace bW := sp_call bW g
  replace r0 := sO g r0; replace r1 := sO g r1; replace r2 := sO g r2
  go_wp2_with fail
  exact bodyPost_ret (v := .agg #[.bool me, .int .i64 mlo, .int .i64 mhi]) (by simp [results, Try.results54, go_sem, r0, r1, r2]) rfl ⟨rfl, sp_set3 bW (by omega) _ _ _⟩
set_option maxRecDepth 100000 in
set_option maxHeartbeats 3200000 in
theorem intRight_of (e1 : Bool) (a b : Int) (r : Bool) (h : ∀ V, Calls Try.prog 85 #[.agg (lvi LnI), .agg #[.bool e1, .int .i64 a, .int .i64 b]] V fun e w' => e = .returned (.bool r) ∧ Below V.heap.size V w') (w : World) :
    Calls Try.prog 56 #[.agg #[.bool e1, .int .i64 a, .int .i64 b]] w fun e w' => e = .returned (.bool r) ∧ Below w.heap.size w w' := by
  have h1 := ints_any
  have ho1 := ofInts_any
  have ho2 := ofInts_any
  generalize lvi LnI = LV at *
  go_enter Try.func56, Try.ntmps56
  go_wp2_with fail
  obtain ⟨W, hW⟩ : ∃ W, (w.alloc (.cells #[.bool e1, .int .i64 a, .int .i64 b] 39)) = W := ⟨_, rfl⟩
  have a0 : W.cell? ⟨w.heap.size, 0, none⟩ = some (.bool e1) := by rw [← hW]; simp [go_sem]
  have a1 : W.cell? ⟨w.heap.size, 1, none⟩ = some (.int .i64 a) := by rw [← hW]; simp [go_sem]
  have a2 : W.cell? ⟨w.heap.size, 2, none⟩ = some (.int .i64 b) := by rw [← hW]; simp [go_sem]
  have bW : Below w.heap.size w W := by rw [← hW]; exact (sp_new (Below.refl _ _) _)
  have zW : W.heap.size = w.heap.size + 1 := by rw [← hW]; simp
  rw [hW]
  clear hW
  go_region_held3 (fun w' => w'.cell? ⟨w.heap.size, 0, none⟩ = some (.bool e1) ∧ w'.cell? ⟨w.heap.size, 1, none⟩ = some (.int .i64 a) ∧ w'.cell? ⟨w.heap.size, 2, none⟩ = some (.int .i64 b)) (exact ⟨a0, a1, a2⟩)
    (first
      | (go_at_call 83; refine (h1 _).mono ?_; rintro e v1 ⟨rfl, g⟩; replace g : Below W.heap.size W v1 := ⟨g.os, g.tape, g.output, g.size, g.block⟩; replace bW := sp_call bW g; replace a0 := sO g a0; replace a1 := sO g a1; replace a2 := sO g a2; clear g)
      | (go_at_call 86; refine (ho1 _ _ _ _).mono ?_; rintro e v2 ⟨rfl, g⟩; replace g : Below v1.heap.size v1 v2 := ⟨g.os, g.tape, g.output, g.size, g.block⟩; replace bW := sp_call bW g; replace a0 := sO g a0; replace a1 := sO g a1; replace a2 := sO g a2; clear g)
      | (go_at_call 85; refine (h _).mono ?_; rintro e v9 ⟨rfl, g⟩; replace g : Below v2.heap.size v2 v9 := ⟨g.os, g.tape, g.output, g.size, g.block⟩; replace bW := sp_call bW g; replace a0 := sO g a0; replace a1 := sO g a1; replace a2 := sO g a2; clear g)
      | fail)
  all_goals go_wp2
  all_goals go_ret
  all_goals exact ⟨rfl, bW⟩
end Go.Proofs.Ytpcbammncaeimaa


namespace Go.Proofs.Ytpcbammncaeimaa
open Go.RowKit
set_option linter.unusedVariables false
set_option linter.unusedSimpArgs false
theorem domI_of {x : Int} (h1 : -9223372036854775808 ≤ x) (h2 : x ≤ 9223372036854775807) : WyI.dom x := ⟨h1, h2⟩
theorem intOf_any (x y : Int) (hx : -9223372036854775808 ≤ x ∧ x ≤ 9223372036854775807) (hy : -9223372036854775808 ≤ y ∧ y ≤ 9223372036854775807) (w : World) :
    Calls Try.prog 54 #[.int .i64 x, .int .i64 y] w fun e w' => e = .returned (.agg #[.bool (ofP WyI x y).1, .int .i64 (ofP WyI x y).2.1, .int .i64 (ofP WyI x y).2.2]) ∧ Below w.heap.size w w' :=
  intOf_of x y _ _ _ (fun V => of_i (acts_i V) x y hx hy hx hy V (Below.refl _ _)) w
end Go.Proofs.Ytpcbammncaeimaa


namespace Go.Proofs.Ytpcbammncaeimaa
open Go.RowKit
set_option linter.unusedVariables false
set_option linter.unusedSimpArgs false
theorem iright_num {x y : Int} (h1 : -2147483648 ≤ x) (h2 : x ≤ y) (h3 : y ≤ 2147483647) : rightP WyI (false, x, y) = true := by
  have c : cmpI x y ≤ 0 := by unfold cmpI; split <;> (try split) <;> omega
  simp only [rightP, Bool.false_eq_true, if_false, Bool.and_eq_true, decide_eq_true_eq]
  refine ⟨?_, ?_, c⟩
  · show in32 x = true
    simp [in32]; omega
  · show in32 y = true
    simp [in32]; omega
set_option maxRecDepth 100000 in
set_option maxHeartbeats 1600000 in
theorem oset (b n : Nat) (hn : n ≤ 8) (M : Mx) (i : Nat) (hi : i < n) (lo hh : Int) (h1 : -2147483648 ≤ lo) (h2 : lo ≤ hh) (h3 : hh ≤ 2147483647) (u : Nat → Int) (fu : Fit n (low (low M (2 * i) (2 * i) (2 * hh)) (2 * i + 1) (2 * i + 1) (-2 * lo)) u) (su : ∀ a, -1099511627776 ≤ u a ∧ u a ≤ 1099511627776) (hM : ∀ a c, a < 2 * n → c < 2 * n → M a c ≤ 4611686018427387903) (w : World) (h : OctAt w b n false M) :
    Calls Try.prog 26 #[.pointer (some ⟨b, 0, none⟩), .int .i64 i, .agg #[.bool false, .int .i64 lo, .int .i64 hh]] w fun r w' => r = .returned (.int .i64 0) ∧ (∃ M', OctAt w' b n false M' ∧ Tgt n (low (low M (2 * i) (2 * i) (2 * hh)) (2 * i + 1) (2 * i + 1) (-2 * lo)) M') ∧ Onl b w w' := by
  have s1 := oside i (by omega) false
  have s2 := oside i (by omega) true
  have hb : b < w.heap.size := World.block_lt_of_cell? w _ h.hv
  obtain ⟨W, hW⟩ : ∃ W, (w.alloc (.cells #[.bool false, .int .i64 lo, .int .i64 hh] 39)).alloc (.cells #[.int .i64 i] 3) = W := ⟨_, rfl⟩
  have gW : Below w.heap.size w W := by rw [← hW]; exact ((Below.refl _ _).alloc (Nat.le_refl _) _).alloc (by simp) _
  have a0 : W.cell? ⟨w.heap.size, 0, none⟩ = some (.bool false) := by rw [← hW]; simp [go_sem]
  have a1 : W.cell? ⟨w.heap.size, 1, none⟩ = some (.int .i64 lo) := by rw [← hW]; simp [go_sem]
  have a2 : W.cell? ⟨w.heap.size, 2, none⟩ = some (.int .i64 hh) := by rw [← hW]; simp [go_sem]
  have p0 : W.cell? ⟨w.heap.size + 1, 0, none⟩ = some (.int .i64 i) := by rw [← hW]; simp [go_sem]
  have hO := h.on gW
  have cc : Onl b w W := Onl.of gW
  have nb : w.heap.size ≠ b := by omega
  have kf := ofault b n false M 0 0 (by omega) (by omega) (by omega) (by omega) (w.heap.size + 1) 1 (by omega) (fun _ => i) (fun j hj => hi) _ hO (fun j hj => by
    have : j = 0 := by omega
    subst this
    exact p0)
  have kr := intRight_of false lo hh _ (fun V => right_i (acts_i V) false lo hh (domI_of (by omega) (by omega)) (domI_of (by omega) (by omega)) V (Below.refl _ _))
  rw [iright_num h1 h2 h3] at kr
  have kl1 := fun V hV => olower b n M (2 * i) (2 * i) (by omega) (by omega) (2 * hh) V hV
  have kl2 := fun V hV => olower b n (low M (2 * i) (2 * i) (2 * hh)) (2 * i + 1) (2 * i + 1) (by omega) (by omega) (-2 * lo) V hV
  have kt := fun V hV => otight b n hn (low (low M (2 * i) (2 * i) (2 * hh)) (2 * i + 1) (2 * i + 1) (-2 * lo)) u fu su (fun a d ha hd => Int.le_trans (low_le _ _ _ _ _ _) (Int.le_trans (low_le _ _ _ _ _ _) (hM a d ha hd))) V hV
  have w1 : IntKind.i64.wrap (2 * hh) = 2 * hh := by rw [IntKind.wrap_i64]; omega
  have w2 : IntKind.i64.wrap (-2 * lo) = -2 * lo := by rw [IntKind.wrap_i64]; omega
  clear fu hM h
  generalize low (low M (2 * i) (2 * i) (2 * hh)) (2 * i + 1) (2 * i + 1) (-2 * lo) = L2 at *
  generalize low M (2 * i) (2 * i) (2 * hh) = L1 at *
  have e1 : 2 * i + false.toNat = 2 * i := rfl
  have e2 : 2 * i + true.toNat = 2 * i + 1 := rfl
  rw [e1] at s1
  rw [e2] at s2
  clear e1 e2
  generalize 2 * i + 1 = y at *
  generalize 2 * i = x at *
  go_enter Try.func26, Try.ntmps26
  go_upto_region 9 with (first
    | (go_at_call 55; (try rw [hW]); refine kf.mono ?_; rintro r v2 ⟨rfl, hw2⟩; subst v2; clear kf hW gW)
    | (go_at_call 56; refine (kr _).mono ?_; rintro r v3 ⟨rfl, g⟩; replace a0 := sO g a0; replace a1 := sO g a1; replace a2 := sO g a2; replace hO := hO.on g; replace cc := cc.on g; clear g kr)
    | fail)
  clear p0 a0
  go_cut [30] from 22 to 30 (fun s X => ∃ W1, W1 = X ∧ s = .tuple #[] ∧ OctAt X b n false L1 ∧ X.cell? ⟨w.heap.size, 1, none⟩ = some (.int .i64 lo) ∧ Onl b w X)
  case first =>
    go_region_with
      (first
        | (go_at_call 53; refine (s1 _).mono ?_; rintro r v4 ⟨rfl, hw4⟩; subst v4)
        | (go_at_call 58; refine (kl1 _ (by first | exact hO | exact hO.drew | exact hO.drewN _)).mono ?_; rintro r v5 ⟨rfl, hO2, c5⟩; replace cc := (show Onl b w _ by first | exact cc | exact cc.drew | exact cc.drewN _).trans c5; replace a1 := c5.cell nb (show World.cell? _ ⟨w.heap.size, 1, none⟩ = _ from a1); clear c5)
        | fail)
    all_goals go_wp2_with fail
    all_goals go_meet
    all_goals exact ⟨_, rfl, rfl, hO2, a1, cc⟩
  case rest =>
    obtain ⟨W1, rfl, rfl, hO2, b1, c2⟩ := hcut
    clear hO cc a1 a2 s1 kl1
    go_upto_region 10 with fail
    go_cut [39] from 31 to 39 (fun s X => ∃ W2, W2 = X ∧ s = .tuple #[] ∧ OctAt X b n false L2 ∧ Onl b w X)
    case first =>
      go_region_with
        (first
          | (go_at_call 53; refine (s2 _).mono ?_; rintro r v4 ⟨rfl, hw4⟩; subst v4)
          | (go_at_call 58; refine (kl2 _ (by first | exact hO2 | exact hO2.drew | exact hO2.drewN _)).mono ?_; rintro r v5 ⟨rfl, hO3, c5⟩; replace c2 := (show Onl b w _ by first | exact c2 | exact c2.drew | exact c2.drewN _).trans c5; clear c5)
          | fail)
      all_goals go_wp2_with fail
      all_goals go_meet
      all_goals exact ⟨_, rfl, rfl, hO3, c2⟩
    case rest =>
      obtain ⟨W2, rfl, rfl, hO3, c3⟩ := hcut
      clear hO2 c2 b1 s2 kl2
      go_wp2_with (first
        | (go_at_call 59; refine (kt _ hO3).mono ?_; rintro r v6 ⟨rfl, hO4, c6⟩; replace c3 := c3.trans c6; clear c6)
        | fail)
      go_ret
      exact ⟨rfl, hO4, c3⟩
end Go.Proofs.Ytpcbammncaeimaa


namespace Go.Proofs.Ytpcbammncaeimaa
open Go.RowKit
set_option linter.unusedVariables false
set_option linter.unusedSimpArgs false
def rI (e : Bool) (a b : Int) : Bool := if e then (a == 0 && b == 0) else decide (a ≤ b) && (decide (-2147483648 ≤ a) && decide (b ≤ 2147483647))
set_option maxRecDepth 100000 in
set_option maxHeartbeats 1600000 in
theorem rright_i (e : Bool) (a b : Int) (w : World) : Calls Try.prog 93 #[.agg #[.bool e, .int .i64 a, .int .i64 b]] w fun r w' => r = .returned (.bool (rI e a b)) ∧ Below w.heap.size w w' := by
  unfold rI
  cases e
  · rcases q1 : decide (a ≤ b) with _ | _
    · go_enter Try.func93, Try.ntmps93
      go_wp2_with fail
      go_ret
      exact ⟨by simp, sp_new (Below.refl _ _) _⟩
    · rcases q2 : decide (-2147483648 ≤ a) with _ | _
      · go_enter Try.func93, Try.ntmps93
        go_wp2_with fail
        go_ret
        exact ⟨by simp, sp_new (Below.refl _ _) _⟩
      · rcases q3 : decide (b ≤ 2147483647) with _ | _
        · go_enter Try.func93, Try.ntmps93
          go_wp2_with fail
          go_ret
          exact ⟨by simp, sp_new (Below.refl _ _) _⟩
        · go_enter Try.func93, Try.ntmps93
          go_wp2_with fail
          go_ret
          exact ⟨by simp, sp_new (Below.refl _ _) _⟩
  · rcases q1 : (a == 0) with _ | _
    · go_enter Try.func93, Try.ntmps93
      go_wp2_with fail
      go_ret
      exact ⟨by simp, sp_new (Below.refl _ _) _⟩
    · rcases q2 : (b == 0) with _ | _
      all_goals
        go_enter Try.func93, Try.ntmps93
        go_wp2_with fail
        go_ret
        exact ⟨by simp, sp_new (Below.refl _ _) _⟩
def hI (e : Bool) (a b x : Int) : Bool := !e && (decide (a ≤ x) && decide (x ≤ b))
end Go.Proofs.Ytpcbammncaeimaa


