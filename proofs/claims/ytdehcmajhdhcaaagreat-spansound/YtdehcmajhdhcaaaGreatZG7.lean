/- Texts of the proof, put together. -/
import Derived.Test.YtdehcmajhdhcaaaGreatZG3
import Derived.Deep.DeepCutAuto
import Derived.Test.YtdehcmajhdhcaaaGreatZFlR
import Derived.Test.YtdehcmajhdhcaaaGreatZSpKf
import Derived.Test.YtdehcmajhdhcaaaGreatZSpLv
namespace Go.Proofs.YtdehcmajhdhcaaaGreat
open Go.RowKit
set_option linter.unusedVariables false
set_option linter.unusedSimpArgs false
end Go.Proofs.YtdehcmajhdhcaaaGreat
namespace Go.Proofs.YtdehcmajhdhcaaaGreat
open Go.RowKit
set_option linter.unusedVariables false
set_option linter.unusedSimpArgs false
theorem fb_eq (s : Bool) : (fb s == 1) = s := by cases s <;> rfl
theorem b_dN {e r : Ending} {V w' : World} (h : e = r ∧ ∃ n, w' = V.drewN n) : e = r ∧ Below V.heap.size V w' := by
 obtain ⟨h1, n, rfl⟩ := h
 exact ⟨h1, sp_dNk (Below.refl _ _) n⟩
theorem b_eq {e r : Ending} {V w' : World} (h : e = r ∧ w' = V) : e = r ∧ Below V.heap.size V w' := ⟨h.1, by rw [h.2]; exact Below.refl _ _⟩
set_option maxRecDepth 100000 in
theorem format8 (p : Int) (w : World) : Calls Tryz.prog 15 #[.int .i64 p] w fun e w' => e = .returned (.int .i64 (fb (p == 1))) ∧ w' = w := by
 by_cases c : p = 1
 ·subst c
  go_enter Tryz.func15, Tryz.ntmps15
  go_wp2_with fail
  go_ret
  exact ⟨rfl, rfl⟩
 ·have c1 : (p == 1) = false := by simp [c]
  rw [c1]
  clear c
  go_enter Tryz.func15, Tryz.ntmps15
  go_wp2_with fail
  go_ret
  exact ⟨rfl, rfl⟩
set_option maxRecDepth 100000 in
theorem typeOf8 (s : Bool) (w : World) : Calls Tryz.prog 70 #[.int .i64 (fb s)] w fun e w' => e = .returned (.int .i64 (tOf s)) ∧ w' = w := by
 cases s
 ·show Calls Tryz.prog 70 #[.int .i64 0] w _
  go_enter Tryz.func70, Tryz.ntmps70
  go_wp2_with fail
  go_ret
  exact ⟨rfl, rfl⟩
 ·show Calls Tryz.prog 70 #[.int .i64 1] w _
  go_enter Tryz.func70, Tryz.ntmps70
  go_wp2_with fail
  go_ret
  exact ⟨rfl, rfl⟩
set_option maxRecDepth 100000 in
theorem rbit_1 (w : World) : Calls Tryz.prog 71 #[.int .i64 1] w fun e w' => e = .returned (.int .i64 1) ∧ w' = w := by
 go_enter Tryz.func71, Tryz.ntmps71
 go_wp2_with fail
 go_ret
 exact ⟨rfl, rfl⟩
set_option maxRecDepth 100000 in
theorem rbit_2 (w : World) : Calls Tryz.prog 71 #[.int .i64 2] w fun e w' => e = .returned (.int .i64 2) ∧ w' = w := by
 go_enter Tryz.func71, Tryz.ntmps71
 go_wp2_with fail
 go_ret
 exact ⟨rfl, rfl⟩
theorem rtwof_any (op : Int) (hop : op = 8 ∨ op = 9 ∨ op = 10 ∨ op = 11) (s : Bool) (a b : Int) (h1 : Word a) (h2 : Word b) (w : World) : Calls Tryz.prog 69 #[.int .i64 op, .agg #[.int .i64 (tOf s), .int .i64 0, .int .u64 a], .agg #[.int .i64 (tOf s), .int .i64 0, .int .u64 b]] w fun e w' => e = .returned (vV (floatV s (gF op s a b))) ∧ Below w.heap.size w w' := by
 have hr := gF_word op s a b h1 h2
 rcases hop with rfl | rfl | rfl | rfl
 ·exact rtwof_add s a b h1 h2 hr w
 ·exact rtwof_sub s a b h1 h2 hr w
 ·exact rtwof_mul s a b h1 h2 hr w
 ·exact rtwof_div s a b h1 h2 hr w
theorem floatV_res {s : Bool} {v r : Int} (h : Res s v r) : floatV s v = if r = fI s ∨ r = -fI s then (0, 0, 2) else (tOf s, mk s r, 0) := by
 obtain ⟨_, _, p, n, i⟩ := h
 unfold floatV
 rw [n, i, p]
 by_cases c : r = fI s ∨ r = -fI s
 ·rw [if_pos c, decide_eq_true c]; rfl
 ·rw [if_neg c, decide_eq_false c]; rfl
theorem floatV_zero {s : Bool} {x : Int} (h1 : -fI s < x) (h2 : x < fI s) : floatV s (gF 11 s (mk s x) (mk s 0)) = if x = 0 then (0, 0, 1) else (0, 0, 2) := by
 have t := fI_two s
 have fa : finF s (mk s x) = true := by rw [fin_mk (by omega) (by omega)]; exact decide_eq_true ⟨h1, h2⟩
 have fz : finF s (mk s 0) = true := by rw [fin_mk (by omega) (by omega)]; exact decide_eq_true ⟨by omega, by omega⟩
 obtain ⟨a1, a2⟩ := n_num fa
 obtain ⟨b1, b2⟩ := n_num fz
 have za := zero_mk (s := s) (r := x) (by omega) (by omega)
 have zb := zero_mk (s := s) (r := 0) (by omega) (by omega)
 have e : gF 11 s (mk s x) (mk s 0) = if x = 0 then fNan s else sgnd s (sgn s (mk s x) != sgn s (mk s 0)) (fI s) := by
  unfold gF
  rw [if_neg (by decide), if_neg (by decide), if_neg (by decide)]
  unfold divF
  rw [a1, b1, a2, b2, za, zb]
  by_cases c : x = 0
  ·simp [c]
  ·simp [c]
 rw [e]
 by_cases c : x = 0
 ·rw [if_pos c, if_pos c]
  unfold floatV
  have : (cls s (fNan s) == 0 || cls s (fNan s) == 5) = true := by cases s <;> decide +kernel
  rw [this]; rfl
 ·rw [if_neg c, if_neg c, floatV_res (made_res s _ (fI s) (by omega) (by omega)), if_pos (by split <;> omega)]
end Go.Proofs.YtdehcmajhdhcaaaGreat
