/- SpanSingle: all ways. -/
import Derived.Test.YthjoigkckgdcaaaGreatSpSSa
import Derived.Test.YthjoigkckgdcaaaGreatFlR
import Derived.Test.YthjoigkckgdcaaaGreatSpKf
import Derived.Test.YthjoigkckgdcaaaGreatSpLv
namespace Go.Proofs.YthjoigkckgdcaaaGreat
open Go.RowKit
set_option linter.unusedVariables false
set_option linter.unusedSimpArgs false
theorem fb_eq (s : Bool) : (fb s == 1) = s := by cases s <;> rfl
theorem b_dN {e r : Ending} {V w' : World} (h : e = r ∧ ∃ n, w' = V.drewN n) : e = r ∧ Below V.heap.size V w' := by
  obtain ⟨h1, n, rfl⟩ := h
  exact ⟨h1, sp_dNk (Below.refl _ _) n⟩
theorem b_eq {e r : Ending} {V w' : World} (h : e = r ∧ w' = V) : e = r ∧ Below V.heap.size V w' := ⟨h.1, by rw [h.2]; exact Below.refl _ _⟩
set_option maxRecDepth 100000 in
theorem format8 (p : Int) (w : World) : Calls Tryz.prog 15 #[.int .i64 p] w fun e w' => e = .returned (.int .i64 (fb (p == 1))) ∧ w' = w := by
  by_cases c : p = 1
  · subst c
    go_enter Tryz.func15, Tryz.ntmps15
    go_wp2_with fail
    go_ret
    exact ⟨rfl, rfl⟩
  · have c1 : (p == 1) = false := by simp [c]
    rw [c1]
    clear c
    go_enter Tryz.func15, Tryz.ntmps15
    go_wp2_with fail
    go_ret
    exact ⟨rfl, rfl⟩
set_option maxRecDepth 100000 in
theorem typeOf8 (s : Bool) (w : World) : Calls Tryz.prog 70 #[.int .i64 (fb s)] w fun e w' => e = .returned (.int .i64 (tOf s)) ∧ w' = w := by
  cases s
  · show Calls Tryz.prog 70 #[.int .i64 0] w _
    go_enter Tryz.func70, Tryz.ntmps70
    go_wp2_with fail
    go_ret
    exact ⟨rfl, rfl⟩
  · show Calls Tryz.prog 70 #[.int .i64 1] w _
    go_enter Tryz.func70, Tryz.ntmps70
    go_wp2_with fail
    go_ret
    exact ⟨rfl, rfl⟩
set_option maxRecDepth 100000 in
theorem rbit_1 (w : World) : Calls Tryz.prog 71 #[.int .i64 1] w fun e w' => e = .returned (.int .i64 1) ∧ w' = w := by
  go_enter Tryz.func71, Tryz.ntmps71
  go_wp2_with fail
  go_ret
  exact ⟨rfl, rfl⟩
set_option maxRecDepth 100000 in
theorem rbit_2 (w : World) : Calls Tryz.prog 71 #[.int .i64 2] w fun e w' => e = .returned (.int .i64 2) ∧ w' = w := by
  go_enter Tryz.func71, Tryz.ntmps71
  go_wp2_with fail
  go_ret
  exact ⟨rfl, rfl⟩
theorem rtwof_any (op : Int) (hop : op = 8 ∨ op = 9 ∨ op = 10 ∨ op = 11) (s : Bool) (a b : Int) (h1 : Word a) (h2 : Word b) (w : World) : Calls Tryz.prog 69 #[.int .i64 op, .agg #[.int .i64 (tOf s), .int .i64 0, .int .u64 a], .agg #[.int .i64 (tOf s), .int .i64 0, .int .u64 b]] w fun e w' => e = .returned (vV (floatV s (gF op s a b))) ∧ Below w.heap.size w w' := by
  have hr := gF_word op s a b h1 h2
  rcases hop with rfl | rfl | rfl | rfl
  · exact rtwof_add s a b h1 h2 hr w
  · exact rtwof_sub s a b h1 h2 hr w
  · exact rtwof_mul s a b h1 h2 hr w
  · exact rtwof_div s a b h1 h2 hr w
theorem floatV_res {s : Bool} {v r : Int} (h : Res s v r) : floatV s v = if r = fI s ∨ r = -fI s then (0, 0, 2) else (tOf s, mk s r, 0) := by
  obtain ⟨_, _, p, n, i⟩ := h
  unfold floatV
  rw [n, i, p]
  by_cases c : r = fI s ∨ r = -fI s
  · rw [if_pos c, decide_eq_true c]; rfl
  · rw [if_neg c, decide_eq_false c]; rfl
theorem floatV_zero {s : Bool} {x : Int} (h1 : -fI s < x) (h2 : x < fI s) : floatV s (gF 11 s (mk s x) (mk s 0)) = if x = 0 then (0, 0, 1) else (0, 0, 2) := by
  have t := fI_two s
  have fa : finF s (mk s x) = true := by rw [fin_mk (by omega) (by omega)]; exact decide_eq_true ⟨h1, h2⟩
  have fz : finF s (mk s 0) = true := by rw [fin_mk (by omega) (by omega)]; exact decide_eq_true ⟨by omega, by omega⟩
  obtain ⟨a1, a2⟩ := n_num fa
  obtain ⟨b1, b2⟩ := n_num fz
  have za := zero_mk (s := s) (r := x) (by omega) (by omega)
  have zb := zero_mk (s := s) (r := 0) (by omega) (by omega)
  have e : gF 11 s (mk s x) (mk s 0) = if x = 0 then fNan s else sgnd s (sgn s (mk s x) != sgn s (mk s 0)) (fI s) := by
    unfold gF
    rw [if_neg (by decide), if_neg (by decide), if_neg (by decide)]
    unfold divF
    rw [a1, b1, a2, b2, za, zb]
    by_cases c : x = 0
    · simp [c]
    · simp [c]
  rw [e]
  by_cases c : x = 0
  · rw [if_pos c, if_pos c]
    unfold floatV
    have : (cls s (fNan s) == 0 || cls s (fNan s) == 5) = true := by cases s <;> decide +kernel
    rw [this]; rfl
  · rw [if_neg c, if_neg c, floatV_res (made_res s _ (fI s) (by omega) (by omega)), if_pos (by split <;> omega)]
set_option maxRecDepth 100000 in
theorem law_single (op p x y : Int) (hx : Word x) (hy : Word y) (w : World) :
    Calls Tryz.prog 11 #[.int .i64 op, .int .i64 p, .agg #[.int .u64 x, .int .u64 y]] w fun e w' => e = .returned (.bool true) ∧ Below w.heap.size w w' := by
  obtain ⟨s, hs⟩ : ∃ s, (p == 1) = s := ⟨_, rfl⟩
  have KF : ∀ V, Calls Tryz.prog 15 #[.int .i64 p] V fun e w' => e = .returned (.int .i64 (fb s)) ∧ Below V.heap.size V w' := fun V => by
    have := format8 p V
    rw [hs] at this
    exact this.mono fun e w' h => b_eq h
  have K1 := fun V => (rfinite_any s x hx V).mono fun e w' h => b_dN h
  have K2 := fun V => (rfinite_any s y hy V).mono fun e w' h => b_dN h
  cases f1 : finF s x
  · rw [f1] at K1; exact ss_n1 op p (fb s) x y KF K1 live_any w
  rw [f1] at K1
  cases f2 : finF s y
  · rw [f2] at K2; exact ss_n2 op p (fb s) x y KF K1 K2 live_any w
  rw [f2] at K2
  by_cases h0 : op < 8
  · exact ss_lo op p (fb s) x y KF K1 K2 h0 live_any w
  by_cases h1 : 11 < op
  · exact ss_hi op p (fb s) x y KF K1 K2 h0 h1 live_any w
  have hop : op = 8 ∨ op = 9 ∨ op = 10 ∨ op = 11 := by omega
  have t := fI_two s
  have P1 := fun V => (rplain3_any s x hx V).mono fun e w' h => b_dN h
  have P2 := fun V => (rplain3_any s y hy V).mono fun e w' h => b_dN h
  have q1 : ∃ r, -fI s < r ∧ r < fI s ∧ plainF s x = mk s r := by
    obtain ⟨r, r1, r2, e⟩ := num_mk s x hx (n_num f1).1
    obtain ⟨b, z, ez, hz⟩ := n_made s x hx f1
    have e2 := n_plain s b z hz
    rw [← ez, e] at e2
    have fr : finF s (mk s r) = true := by
      rw [e2]; split
      · exact n_fin s false 0 (by omega)
      · exact f1
    rw [fin_mk r1 r2] at fr
    have := of_decide_eq_true fr
    exact ⟨r, this.1, this.2, e⟩
  have q2 : ∃ r, -fI s < r ∧ r < fI s ∧ plainF s y = mk s r := by
    obtain ⟨r, r1, r2, e⟩ := num_mk s y hy (n_num f2).1
    obtain ⟨b, z, ez, hz⟩ := n_made s y hy f2
    have e2 := n_plain s b z hz
    rw [← ez, e] at e2
    have fr : finF s (mk s r) = true := by
      rw [e2]; split
      · exact n_fin s false 0 (by omega)
      · exact f2
    rw [fin_mk r1 r2] at fr
    have := of_decide_eq_true fr
    exact ⟨r, this.1, this.2, e⟩
  obtain ⟨a, a1, a2, ea⟩ := q1
  obtain ⟨b, b1, b2, eb⟩ := q2
  rw [ea] at P1
  rw [eb] at P2
  have wa : Word (mk s a) := mk_word (by omega) (by omega)
  have wb : Word (mk s b) := mk_word (by omega) (by omega)
  have KT := fun V => (typeOf8 s V).mono fun e w' h => b_eq h
  have K5 := rtwof_any op hop s (mk s a) (mk s b) wa wb
  have K6 := twoF_any (fb s) op hop (mk s a) (mk s a) (mk s b) (mk s b) wa wa wb wb
  have O1 := ofF_any (fb s) (mk s a) (mk s a) wa wa
  have O2 := ofF_any (fb s) (mk s b) (mk s b) wb wb
  rw [fb_eq] at K6 O1 O2
  rw [of_oneF a1 a2] at O1
  rw [of_oneF b1 b2] at O2
  unfold vV at K5
  by_cases z : op = 11 ∧ b = 0
  · obtain ⟨rfl, rfl⟩ := z
    rw [range_zeroF, traps_zeroF a1 a2] at K6
    rw [floatV_zero a1 a2] at K5
    by_cases c : a = 0
    · rw [if_pos c] at K5 K6
      exact ss_trap 11 p (fb s) x y (mk s a) (mk s 0) (tOf s) 0 0 1 0 0 1 KF K1 K2 h0 h1 P1 P2 KT K5 O1 O2 K6 live_any (by decide) (fun V => (rbit_1 V).mono fun e w' h => b_eq h) w
    · rw [if_neg c] at K5 K6
      exact ss_trap 11 p (fb s) x y (mk s a) (mk s 0) (tOf s) 0 0 2 0 0 2 KF K1 K2 h0 h1 P1 P2 KT K5 O1 O2 K6 live_any (by decide) (fun V => (rbit_2 V).mono fun e w' h => b_eq h) w
  · obtain ⟨r, hr⟩ := by_res hop a1 a2 b1 b2 z
    rw [range_oneF hop b1 b2 z hr, traps_oneF hop b1 b2 z hr] at K6
    rw [floatV_res hr] at K5
    by_cases c : r = fI s ∨ r = -fI s
    · rw [if_pos c] at K5
      simp only [if_pos c] at K6
      exact ss_trap op p (fb s) x y (mk s a) (mk s b) (tOf s) 0 0 2 0 0 2 KF K1 K2 h0 h1 P1 P2 KT K5 O1 O2 K6 live_any (by decide) (fun V => (rbit_2 V).mono fun e w' h => b_eq h) w
    · rw [if_neg c] at K5
      simp only [if_neg c] at K6
      have r1 := hr.lo
      have r2 := hr.hi
      have O3 := ofF_any (fb s) (mk s r) (mk s r) (mk_word r1 r2) (mk_word r1 r2)
      rw [fb_eq, of_oneF (by omega) (by omega)] at O3
      exact ss_ok op p (fb s) x y (mk s a) (mk s b) (tOf s) (tOf s) (mk s r) KF K1 K2 h0 h1 P1 P2 KT K5 O1 O2 K6 live_any O3 w
end Go.Proofs.YthjoigkckgdcaaaGreat

