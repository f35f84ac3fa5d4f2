/- SpanTurns: the small callees; what is told of ints. -/
import Derived.Test.YtgdknlnpfnifiaaGreatTG17
import Derived.Test.YtgdknlnpfnifiaaGreatTSpTa
import Derived.Test.YtgdknlnpfnifiaaGreatTSpTc
import Derived.Test.YtgdknlnpfnifiaaGreatTG20
import Derived.Test.YtgdknlnpfnifiaaGreatTG9
import Derived.Test.YtgdknlnpfnifiaaGreatTG21
namespace Go.Proofs.YtgdknlnpfnifiaaGreat
open Go.RowKit
set_option linter.unusedVariables false
set_option linter.unusedSimpArgs false
theorem refm_00 (w : World) : Calls Tryz.prog 47 #[.int .i64 0, .int .i64 0] w fun e w' => e = .returned (.func (.func 114) #[] #[]) ∧ Below w.heap.size w w' := by
  go_enter Tryz.func47, Tryz.ntmps47
  go_wp2_with fail
  go_ret
  exact ⟨rfl, Below.refl _ _⟩
theorem refm_11 (w : World) : Calls Tryz.prog 47 #[.int .i64 1, .int .i64 1] w fun e w' => e = .returned (.func (.func 114) #[] #[]) ∧ Below w.heap.size w w' := by
  go_enter Tryz.func47, Tryz.ntmps47
  go_wp2_with fail
  go_ret
  exact ⟨rfl, Below.refl _ _⟩
theorem refm_10 (w : World) : Calls Tryz.prog 47 #[.int .i64 1, .int .i64 0] w fun e w' => e = .returned (.func (.func 113) #[] #[]) ∧ Below w.heap.size w w' := by
  go_enter Tryz.func47, Tryz.ntmps47
  go_wp2_with fail
  go_ret
  exact ⟨rfl, Below.refl _ _⟩
theorem refm_01 (w : World) : Calls Tryz.prog 47 #[.int .i64 0, .int .i64 1] w fun e w' => e = .returned (.func (.func 111) #[] #[]) ∧ Below w.heap.size w w' := by
  go_enter Tryz.func47, Tryz.ntmps47
  go_wp2_with fail
  go_ret
  exact ⟨rfl, Below.refl _ _⟩
theorem rf1_any (x : Int) (hx : Word x) (w : World) : Calls Tryz.prog 111 #[.int .u64 x] w fun e w' => e = .returned (.int .u64 (cvtF false true 0 x)) ∧ Below w.heap.size w w' := by
  have h := narrow_any 0 x hx
  generalize cvtF false true 0 x = r at *
  go_enter Tryz.func111, Tryz.ntmps111
  go_wp2_with (go_at_call 112; refine (h _).mono ?_; rintro e v1 ⟨rfl, g⟩)
  go_ret
  exact ⟨rfl, g⟩
theorem rf2_any (x : Int) (w : World) : Calls Tryz.prog 114 #[.int .u64 x] w fun e w' => e = .returned (.int .u64 x) ∧ Below w.heap.size w w' := by
  go_enter Tryz.func114, Tryz.ntmps114
  go_wp2_with fail
  go_ret
  exact ⟨rfl, Below.refl _ _⟩
theorem wop_any (f x : Int) (hx : Word x) (w : World) : Calls Tryz.prog 51 #[.int .i64 f, .int .u64 x] w fun e w' => e = .returned (.int .i64 (wpF (f == 1) x)) ∧ Below w.heap.size w w' := by
  have h1 := toInt_any f x hx
  have h2 := compare_fl f x 0 hx word_0
  unfold wpF
  generalize toI (f == 1) x = n at *
  generalize cmpF (f == 1) x 0 = c at *
  obtain ⟨c, cb⟩ := c
  dsimp only at *
  generalize inI (f == 1) x = i at *
  cases i
  · simp only [Bool.false_eq_true, if_false] at *
    by_cases k : c < 0
    · rw [if_pos k]
      go_enter Tryz.func51, Tryz.ntmps51
      go_wp2_with (first
        | (go_at_call 116; refine (h1 _).mono ?_; rintro e v1 ⟨rfl, g1⟩)
        | (go_at_call 83; refine (h2 _).mono ?_; rintro e v2 ⟨rfl, g2⟩)
        | fail)
      go_ret
      exact ⟨rfl, sp_call g1 g2⟩
    · rw [if_neg k]
      go_enter Tryz.func51, Tryz.ntmps51
      go_wp2_with (first
        | (go_at_call 116; refine (h1 _).mono ?_; rintro e v1 ⟨rfl, g1⟩)
        | (go_at_call 83; refine (h2 _).mono ?_; rintro e v2 ⟨rfl, g2⟩)
        | fail)
      go_ret
      exact ⟨rfl, sp_call g1 g2⟩
  · simp only [if_true] at *
    go_enter Tryz.func51, Tryz.ntmps51
    go_wp2_with (first
      | (go_at_call 116; refine (h1 _).mono ?_; rintro e v1 ⟨rfl, g1⟩)
      | fail)
    go_ret
    exact ⟨rfl, g1⟩
theorem ti1_any (f : Int) (q : Nat) (x : Int) (X : World) (hx : Word x) (c : X.cell? ⟨q, 0, none⟩ = some (.int .i64 f)) : Calls Tryz.prog 50 #[.int .u64 x, .pointer (some ⟨q, 0, none⟩)] X fun e X' => e = .returned (.int .i64 (wpF (f == 1) x)) ∧ Below X.heap.size X X' := by
  have h := wop_any f x hx
  generalize wpF (f == 1) x = r at *
  go_enter Tryz.func50, Tryz.ntmps50
  go_wp2_with (first
    | (go_at_call 51; refine (h _).mono ?_; rintro e v1 ⟨rfl, g⟩)
    | fail)
  go_ret
  exact ⟨rfl, g⟩
def fiF (s : Bool) (n : Int) : Int := rnd s 0 (decide (n < 0)) n.natAbs 0
theorem fi1_any (f : Int) (q : Nat) (x : Int) (X : World) (hx : -9223372036854775808 ≤ x ∧ x ≤ 9223372036854775807) (c : X.cell? ⟨q, 0, none⟩ = some (.int .i64 f)) : Calls Tryz.prog 59 #[.int .i64 x, .pointer (some ⟨q, 0, none⟩)] X fun e X' => e = .returned (.int .u64 (fiF (f == 1) x)) ∧ Below X.heap.size X X' := by
  have h := fromInt_any f 0 x hx.1 hx.2
  unfold fiF
  generalize rnd (f == 1) 0 (decide (x < 0)) x.natAbs 0 = r at *
  clear hx
  go_enter Tryz.func59, Tryz.ntmps59
  go_wp2_with (first
    | (go_at_call 60; refine (h _).mono ?_; rintro e v1 ⟨rfl, g⟩)
    | fail)
  go_ret
  exact ⟨rfl, g⟩
theorem acts_c (w0 : World) : Actsi LnC WyI 0 w0 :=
  ⟨(acts_i w0).hB, (acts_i w0).ord, (acts_i w0).pl, (acts_i w0).one, (acts_i w0).prv, (acts_i w0).nxt, (acts_i w0).eo, (acts_i w0).ep, (acts_i w0).e1, (acts_i w0).ev, (acts_i w0).en⟩
def TF (t : Bool) (xs : List Int) : Bool × Int × Int := meetP (WyF t) (hullP (WyF t) xs) (false, (LF t).least, (LF t).most)
def TI (xs : List Int) : Bool × Int × Int := meetP WyI (hullP WyI xs) (false, LnC.least, LnC.most)
theorem toldU (t : Bool) (xs : List Int) (hx : ∀ x ∈ xs, Word x) : ∀ L B w0, FlAt (fb t) L B w0 → ∀ V gf lb, Below B w0 V → (∀ args w, (callFunc gf args).run Tryz.prog w = .ok (.enter gf args) w) → (∀ S W0, Below V.heap.size V W0 → (∀ k, S k → V.heap.size ≤ k ∧ k < W0.heap.size) → Feeds Tryz.prog gf lb (fun x : Int => #[Value.int .u64 x]) S xs W0) →
    Calls Tryz.prog 45 #[.agg (lvf L), .func (.func gf) #[] lb] V fun e w' => e = .returned (.tuple #[.agg #[.bool (TF t xs).1, .int .u64 (TF t xs).2.1, .int .u64 (TF t xs).2.2], .int .i64 (trapP (WyF t) (LF t) 2 xs)]) ∧ Below V.heap.size V w' := by
  intro L B w0 hL V gf lb ok eg hseq
  have H := fl_acts hL
  have hT : ∀ w, Calls Tryz.prog 86 #[.int .i64 L.past] w fun e w' => e = .returned (.int .i64 2) ∧ w' = w := by
    rw [(fl_least hL).2.2]; exact trapsOf_f2
  have dl : (WyF t).dom L.least := by rw [(fl_least hL).1, fb_eq]; exact word_least t
  have dm : (WyF t).dom L.most := by rw [(fl_least hL).2.1, fb_eq]; exact word_most t
  obtain ⟨p, q, rfl, _⟩ := hL
  rw [fb_eq] at *
  exact told_f H 2 hT gf lb xs word_0 dl dm (fun x h => ⟨hx x h, n_plainw t _ (hx x h)⟩) V ok eg hseq
theorem toldC (xs : List Int) (hx : ∀ x ∈ xs, WyI.dom x) : ∀ V gf lb, (∀ args w, (callFunc gf args).run Tryz.prog w = .ok (.enter gf args) w) → (∀ S W0, Below V.heap.size V W0 → (∀ k, S k → V.heap.size ≤ k ∧ k < W0.heap.size) → Feeds Tryz.prog gf lb (fun x : Int => #[Value.int .i64 x]) S xs W0) →
    Calls Tryz.prog 53 #[.agg (lvi LnC), .func (.func gf) #[] lb] V fun e w' => e = .returned (.tuple #[.agg #[.bool (TI xs).1, .int .i64 (TI xs).2.1, .int .i64 (TI xs).2.2], .int .i64 (trapP WyI LnC 4 xs)]) ∧ Below V.heap.size V w' := by
  intro V gf lb eg hseq
  exact told_i (acts_c V) 4 trapsOf_f3 gf lb xs ⟨by decide, by decide⟩ ⟨by decide, by decide⟩ ⟨by decide, by decide⟩ (fun x h => ⟨hx x h, hx x h⟩) V (Below.refl _ _) eg hseq
theorem told_two {u v : Int} (h : u ≤ v) : TI [u, v] = (if v < -2147483648 ∨ 2147483647 < u then (true, 0, 0) else (false, max u (-2147483648), min v 2147483647)) ∧ trapP WyI LnC 4 [u, v] = if u < -2147483648 ∨ 2147483647 < v then 4 else 0 := by
  have e : hullP WyI [u, v] = (false, u, v) := by
    show joinP WyI (joinP WyI (true, 0, 0) (false, u, u)) (false, v, v) = (false, u, v)
    show (false, sml WyI u v, grt WyI u v) = (false, u, v)
    have e1 : sml WyI u v = u := by
      show (if cmpI v u < 0 then v else u) = u
      rw [if_neg (by rw [neg_cmp]; omega)]
    have e2 : grt WyI u v = v := by
      show (if 0 < cmpI v u then v else u) = v
      by_cases k : u < v
      · rw [if_pos ((pos_cmp v u).2 k)]
      · rw [if_neg (by rw [pos_cmp]; omega)]; omega
    rw [e1, e2]
  constructor
  · unfold TI
    rw [e]
    show (if (false || false || decide (0 < cmpI (grt WyI u (-2147483648)) (sml WyI v 2147483647))) = true then ((true, 0, 0) : Bool × Int × Int) else (false, grt WyI u (-2147483648), sml WyI v 2147483647)) = _
    have e1 : grt WyI u (-2147483648) = max u (-2147483648) := by
      show (if 0 < cmpI (-2147483648) u then -2147483648 else u) = _
      by_cases k : u < -2147483648
      · rw [if_pos ((pos_cmp _ _).2 k)]; omega
      · rw [if_neg (by rw [pos_cmp]; omega)]; omega
    have e2 : sml WyI v 2147483647 = min v 2147483647 := by
      show (if cmpI 2147483647 v < 0 then 2147483647 else v) = _
      by_cases k : 2147483647 < v
      · rw [if_pos ((neg_cmp _ _).2 k)]; omega
      · rw [if_neg (by rw [neg_cmp]; omega)]; omega
    rw [e1, e2]
    by_cases k : v < -2147483648 ∨ 2147483647 < u
    · rw [if_pos k, if_pos (by simp only [Bool.false_or, decide_eq_true_eq]; rw [pos_cmp]; omega)]
    · rw [if_neg k, if_neg (by simp only [Bool.false_or, decide_eq_true_eq]; rw [pos_cmp]; omega)]
  · have p : ∀ x, pastP WyI LnC x = decide (x < -2147483648 ∨ 2147483647 < x) := fun x => by
      show (decide (cmpI x (-2147483648) < 0) || decide (0 < cmpI x 2147483647)) = _
      rw [Bool.eq_iff_iff]
      simp only [Bool.or_eq_true, decide_eq_true_eq]
      rw [neg_cmp, pos_cmp]
    show (if pastP WyI LnC v then (4 : Int) else if pastP WyI LnC u then 4 else 0) = _
    rw [p, p]
    by_cases k1 : v < -2147483648 ∨ 2147483647 < v
    · rw [if_pos (decide_eq_true k1), if_pos (by omega)]
    · rw [if_neg (by simpa using k1)]
      by_cases k2 : u < -2147483648 ∨ 2147483647 < u
      · rw [if_pos (decide_eq_true k2), if_pos (by omega)]
      · rw [if_neg (by simpa using k2), if_neg (by omega)]
def rTI (ok is la lb : Bool) (x y : Int) : (Bool × Int × Int) × Int :=
  (if ok = false ∧ la = false then (true, 0, 0) else if is = false ∧ lb = true then (true, 0, 0) else ((rOfI (if ok then x else -2147483648) (if is then y else 2147483647)).1, (rOfI (if ok then x else -2147483648) (if is then y else 2147483647)).2.1, (rOfI (if ok then x else -2147483648) (if is then y else 2147483647)).2.2), if ok = true ∧ is = true then 0 else 4)
theorem told_wp {s : Bool} {a b : Int} (a1 : -fI s < a) (hab : a ≤ b) (b2 : b < fI s) : (TI [wpF s (mk s a), wpF s (mk s b)], trapP WyI LnC 4 [wpF s (mk s a), wpF s (mk s b)]) = rTI (inI s (mk s a)) (inI s (mk s b)) (lessF s (mk s a) 0) (lessF s (mk s b) 0) (if inI s (mk s a) then toI s (mk s a) else 0) (if inI s (mk s b) then toI s (mk s b) else 0) := by
  have t := fI_two s
  have m := trn_mono s hab
  have r0 : Res s 0 0 := res_mk (s := s) (r := 0) (by omega) (by omega)
  obtain ⟨i1, j1⟩ := toI_mk a1 (show a < fI s by omega)
  obtain ⟨i2, j2⟩ := toI_mk (show -fI s < b by omega) b2
  have g1 := trn_sign s a
  have g2 := trn_sign s b
  rw [wp_mk a1 (by omega), wp_mk (by omega) b2, less_res (res_mk a1 (by omega)) r0, less_res (res_mk (by omega) b2) r0]
  obtain ⟨e1, e2⟩ := told_two (u := max (-2147483649) (min 2147483648 (trn s a))) (v := max (-2147483649) (min 2147483648 (trn s b))) (by omega)
  rw [e1, e2]
  have rof : ∀ x y, -2147483648 ≤ x → x ≤ y → y ≤ 2147483647 → rOfI x y = (false, x, y) := fun x y h1 h2 h3 => by
    unfold rOfI
    rw [if_pos (by unfold rI; simp; omega)]
  unfold rTI
  generalize trn s a = A at *
  generalize trn s b = B at *
  generalize toI s (mk s a) = x at *
  generalize toI s (mk s b) = y at *
  by_cases k1 : -2147483648 ≤ A ∧ A ≤ 2147483647
  · rw [decide_eq_true k1] at i1
    rw [i1]
    have x1 := j1 i1
    by_cases k2 : -2147483648 ≤ B ∧ B ≤ 2147483647
    · rw [decide_eq_true k2] at i2
      rw [i2]
      have y1 := j2 i2
      simp only [Bool.true_eq_false, false_and, if_false, if_true, and_self]
      rw [rof x y (by omega) (by omega) (by omega), if_neg (by omega), if_neg (by omega), x1, y1]
      simp only [Prod.mk.injEq, true_and, and_true]
      omega
    · rw [decide_eq_false k2] at i2
      rw [i2]
      have nb : ¬ b < 0 := fun q => by have := g2.1 q; omega
      rw [decide_eq_false nb]
      simp only [Bool.true_eq_false, Bool.false_eq_true, false_and, and_false, if_false, if_true, and_self, true_and]
      rw [rof x 2147483647 (by omega) (by omega) (by omega), if_neg (by omega), if_pos (by omega), x1]
      simp only [Prod.mk.injEq, true_and, and_true]
      omega
  · rw [decide_eq_false k1] at i1
    rw [i1]
    by_cases na : a < 0
    · have q1 := g1.1 na
      rw [decide_eq_true na]
      by_cases k2 : -2147483648 ≤ B ∧ B ≤ 2147483647
      · rw [decide_eq_true k2] at i2
        rw [i2]
        have y1 := j2 i2
        simp only [Bool.true_eq_false, Bool.false_eq_true, false_and, and_false, if_false, if_true, and_self, true_and]
        rw [rof (-2147483648) y (by omega) (by omega) (by omega), if_neg (by omega), if_pos (by omega), y1]
        simp only [Prod.mk.injEq, true_and, and_true]
        omega
      · rw [decide_eq_false k2] at i2
        rw [i2]
        by_cases nb : b < 0
        · have q2 := g2.1 nb
          rw [decide_eq_true nb]
          simp only [Bool.true_eq_false, Bool.false_eq_true, false_and, and_false, if_false, if_true, and_self, true_and]
          rw [if_pos (by omega), if_pos (by omega)]
        · have q2 := g2.2 nb
          rw [decide_eq_false nb]
          simp only [Bool.true_eq_false, Bool.false_eq_true, false_and, and_false, if_false, if_true, and_self, true_and]
          rw [rof (-2147483648) 2147483647 (by omega) (by omega) (by omega), if_neg (by omega), if_pos (by omega)]
          simp only [Prod.mk.injEq, true_and, and_true]
          omega
    · have q1 := g1.2 na
      have q2 := g2.2 (show ¬ b < 0 by omega)
      rw [decide_eq_false na]
      have nk2 : ¬ (-2147483648 ≤ B ∧ B ≤ 2147483647) := by omega
      rw [decide_eq_false nk2] at i2
      rw [i2]
      simp only [Bool.true_eq_false, Bool.false_eq_true, false_and, and_false, if_false, if_true, and_self, true_and]
      rw [if_pos (by omega), if_pos (by omega)]
end Go.Proofs.YtgdknlnpfnifiaaGreat


