/- SpanSound: all ways. -/
import Derived.Test.YthjoigkckgdcaaaGreatSpSo
import Derived.Test.YthjoigkckgdcaaaGreatSpSta
import Derived.Test.YthjoigkckgdcaaaGreatSpSS
import Derived.Test.YthjoigkckgdcaaaGreatSpFm
import Derived.Test.YthjoigkckgdcaaaGreatFlT
namespace Go.Proofs.YthjoigkckgdcaaaGreat
open Go.RowKit
set_option linter.unusedVariables false
set_option linter.unusedSimpArgs false
/-- The pair is right just if both ranges are. -/
theorem tright_any (p : Int) (s : Bool) (hs : (p == 1) = s) (e1 : Bool) (a b : Int) (e2 : Bool) (c d : Int) (ha : Word a) (hb : Word b) (hc : Word c) (hd : Word d) (w : World) :
    Calls Tryz.prog 22 #[.agg #[.int .i64 p, .bool e1, .int .u64 a, .int .u64 b, .bool e2, .int .u64 c, .int .u64 d]] w fun e w' => e = .returned (.bool (rRF s e1 a b && rRF s e2 c d)) ∧ Below w.heap.size w w' := by
  have KF : ∀ V, Calls Tryz.prog 15 #[.int .i64 p] V fun e w' => e = .returned (.int .i64 (fb s)) ∧ Below V.heap.size V w' := fun V => by
    have := format8 p V
    rw [hs] at this
    exact this.mono fun e w' h => b_eq h
  have R1 := rrightF_any s e1 a b ha hb
  have R2 := rrightF_any s e2 c d hc hd
  cases r1 : rRF s e1 a b
  · rw [r1] at R1
    exact tright_f p (fb s) e1 a b e2 c d KF R1 w
  · rw [r1] at R1
    exact tright_t p (fb s) e1 a b e2 c d _ KF R1 R2 w
theorem rbit_12 (x : Int) (w : World) : Calls Tryz.prog 71 #[.int .i64 (if x = 0 then 1 else 2)] w fun e w' => e = .returned (.int .i64 (if x = 0 then 1 else 2)) ∧ Below w.heap.size w w' := by
  by_cases h : x = 0
  · rw [if_pos h]; exact (rbit_1 w).mono fun e w' h => b_eq h
  · rw [if_neg h]; exact (rbit_2 w).mono fun e w' h => b_eq h
set_option maxRecDepth 100000 in
theorem law_sound (op p : Int) (e1 : Bool) (a b : Int) (e2 : Bool) (c d x y : Int) (ha : Word a) (hb : Word b) (hc : Word c) (hd : Word d) (hx : Word x) (hy : Word y) (w : World) :
    Calls Tryz.prog 9 #[.int .i64 op, .agg #[.int .i64 p, .bool e1, .int .u64 a, .int .u64 b, .bool e2, .int .u64 c, .int .u64 d], .agg #[.int .u64 x, .int .u64 y]] w fun e w' => e = .returned (.bool true) ∧ Below w.heap.size w w' := by
  obtain ⟨s, hs⟩ : ∃ s, (p == 1) = s := ⟨_, rfl⟩
  have KF : ∀ V, Calls Tryz.prog 15 #[.int .i64 p] V fun e w' => e = .returned (.int .i64 (fb s)) ∧ Below V.heap.size V w' := fun V => by
    have := format8 p V
    rw [hs] at this
    exact this.mono fun e w' h => b_eq h
  have P1 := fun V => (rplain3_any s x hx V).mono fun e w' h => b_dN h
  have P2 := fun V => (rplain3_any s y hy V).mono fun e w' h => b_dN h
  have wx : Word (plainF s x) := n_plainw s x hx
  have wy : Word (plainF s y) := n_plainw s y hy
  have TR := tright_any p s hs e1 a b e2 c d ha hb hc hd
  have K1 := rhasF_any s e1 a b (plainF s x) ha hb wx
  have K2 := rhasF_any s e2 c d (plainF s y) hc hd wy
  refine so_all op p (fb s) e1 a b e2 c d x y _ _ _ _ _ KF P1 P2 TR K1 K2 live_any (fun r h0 h1 q1 q2 => ?_) w
  have hop : op = 8 ∨ op = 9 ∨ op = 10 ∨ op = 11 := by omega
  have t := fI_two s
  rw [Bool.and_eq_true] at r
  obtain rfl : e1 = false := by cases e1 with | false => rfl | true => simp [hRF] at q1
  obtain rfl : e2 = false := by cases e2 with | false => rfl | true => simp [hRF] at q2
  obtain ⟨a', b', a1, ab, b2, rfl, rfl⟩ := right_mk ha hb r.1
  obtain ⟨c', d', c1, cd, d2, rfl, rfl⟩ := right_mk hc hd r.2
  obtain ⟨n, n1, n2, en, an, nb⟩ := has_mk hx a1 ab b2 q1
  obtain ⟨m, m1, m2, em, cm, md⟩ := has_mk hy c1 cd d2 q2
  have KT := fun V => (typeOf8 s V).mono fun e w' h => b_eq h
  have K5 := rtwof_any op hop s (plainF s x) (plainF s y) wx wy
  have K6 := twoF_any (fb s) op hop (mk s a') (mk s b') (mk s c') (mk s d') ha hb hc hd
  rw [fb_eq] at K6
  unfold vV at K5
  by_cases hz : op = 11 ∧ m = 0
  · obtain ⟨rfl, rfl⟩ := hz
    have fv : floatV s (gF 11 s (plainF s x) (plainF s y)) = (0, 0, if n = 0 then 1 else 2) := by
      rw [en, em, floatV_zero n1 n2]
      split <;> rfl
    rw [fv] at K5
    exact Or.inl ⟨_, _, _, _, _, _, _, _, _, KT, K5, K6, by split <;> rfl, rbit_12 n, sound_zero a1 b2 c1 d2 an nb cm md⟩
  · have res := R_res hop n1 n2 m1 m2 hz
    have fv := floatV_res res
    rw [← en, ← em] at fv
    rw [fv] at K5
    by_cases o : R s op n m = fI s ∨ R s op n m = -fI s
    · rw [if_pos o] at K5
      exact Or.inl ⟨_, _, _, 2, _, _, _, 2, _, KT, K5, K6, rfl, fun V => (rbit_2 V).mono fun e w' h => b_eq h, sound_over hop a1 ab b2 c1 cd d2 an nb cm md hz o⟩
    · rw [if_neg o] at K5
      have rl := res.lo
      have rh := res.hi
      obtain ⟨l, h, l1, lh, h2, er, lr, rh2⟩ := sound_in hop a1 ab b2 c1 cd d2 an nb cm md hz (by omega) (by omega)
      rw [er] at K6
      have K7 := hasF_any (fb s) false (mk s l) (mk s h) (mk s (R s op n m)) (mk_word (by omega) (by omega)) (mk_word (by omega) (by omega)) (mk_word (by omega) (by omega))
      rw [fb_eq, hasF (by omega) (by omega) (by omega) (by omega) (by omega) (by omega), decide_eq_true ⟨lr, rh2⟩] at K7
      exact Or.inr ⟨_, _, _, _, _, _, _, KT, K5, K6, K7⟩
end Go.Proofs.YthjoigkckgdcaaaGreat

