/- SpanReached: all ways. -/
import Derived.Test.YthjoigkckgdcaaaGreatSpRe
import Derived.Test.YthjoigkckgdcaaaGreatSpSd
namespace Go.Proofs.YthjoigkckgdcaaaGreat
open Go.RowKit
set_option linter.unusedVariables false
set_option linter.unusedSimpArgs false
theorem reached_v {s : Bool} {op x y : Int} (hop : op = 8 ∨ op = 9 ∨ op = 10 ∨ op = 11) (x1 : -fI s < x) (x2 : x < fI s) (y1 : -fI s < y) (y2 : y < fI s) (hz : ¬ (op = 11 ∧ y = 0)) (r1 : -fI s < R s op x y) (r2 : R s op x y < fI s) : (floatV s (gF op s (mk s x) (mk s y))).2.1 = mk s (R s op x y) := by
  rw [floatV_res (R_res hop x1 x2 y1 y2 hz), if_neg (by omega)]
set_option maxRecDepth 100000 in
theorem law_reached (op p : Int) (e1 : Bool) (a b : Int) (e2 : Bool) (c d : Int) (ha : Word a) (hb : Word b) (hc : Word c) (hd : Word d) (w : World) :
    Calls Tryz.prog 14 #[.int .i64 op, .agg #[.int .i64 p, .bool e1, .int .u64 a, .int .u64 b, .bool e2, .int .u64 c, .int .u64 d]] w fun e w' => e = .returned (.bool true) ∧ Below w.heap.size w w' := by
  obtain ⟨s, hs⟩ : ∃ s, (p == 1) = s := ⟨_, rfl⟩
  have KF : ∀ V, Calls Tryz.prog 15 #[.int .i64 p] V fun e w' => e = .returned (.int .i64 (fb s)) ∧ Below V.heap.size V w' := fun V => by
    have := format8 p V
    rw [hs] at this
    exact this.mono fun e w' h => b_eq h
  have TR := tright_any p s hs e1 a b e2 c d ha hb hc hd
  refine re_all op p (fb s) e1 a b e2 c d _ KF TR live_any (fun r h1 h2 o1 o2 => ?_) w
  have hop : op = 8 ∨ op = 9 ∨ op = 10 ∨ op = 11 := by omega
  have n11 : ¬ op = 11 := by omega
  have t := fI_two s
  rw [Bool.and_eq_true] at r
  subst h1
  subst h2
  obtain ⟨a', b', a1, ab, b2, rfl, rfl⟩ := right_mk ha hb r.1
  obtain ⟨c', d', c1, cd, d2, rfl, rfl⟩ := right_mk hc hd r.2
  have KT := fun V => (typeOf8 s V).mono fun e w' h => b_eq h
  have K6 := twoF_any (fb s) op hop (mk s a') (mk s b') (mk s c') (mk s d') ha hb hc hd
  rw [fb_eq] at K6
  have K00 := rtwof_any op hop s (mk s a') (mk s c') ha hc
  have K01 := rtwof_any op hop s (mk s a') (mk s d') ha hd
  have K10 := rtwof_any op hop s (mk s b') (mk s c') hb hc
  have K11 := rtwof_any op hop s (mk s b') (mk s d') hb hd
  unfold vV at K00 K01 K10 K11
  let fv : Nat → Nat → Int × Int × Int := fun i k => floatV s (gF op s (match i with | 0 => mk s a' | _ => mk s b') (match k with | 0 => mk s c' | _ => mk s d'))
  refine ⟨tOf s, _, _, _, _, fun i k => (fv i k).1, fun i k => (fv i k).2.1, fun i k => (fv i k).2.2, K6, KT, K00, K01, K10, K11, fun T0 => ?_⟩
  show _ ∧ ((floatV s (gF op s (mk s a') (mk s c'))).2.1 = _ ∨ (floatV s (gF op s (mk s a') (mk s d'))).2.1 = _ ∨ (floatV s (gF op s (mk s b') (mk s c'))).2.1 = _ ∨ (floatV s (gF op s (mk s b') (mk s d'))).2.1 = _) ∧ ((floatV s (gF op s (mk s a') (mk s c'))).2.1 = _ ∨ (floatV s (gF op s (mk s a') (mk s d'))).2.1 = _ ∨ (floatV s (gF op s (mk s b') (mk s c'))).2.1 = _ ∨ (floatV s (gF op s (mk s b') (mk s d'))).2.1 = _)
  unfold trapsF at T0
  rw [if_neg (fun h => n11 h.1)] at T0
  have ep : prs op a' b' c' d' = [(a', c'), (a', d'), (b', c'), (b', d')] := by unfold prs; rw [if_neg n11]; rfl
  rcases range_is (s := s) hop a1 ab b2 c1 cd d2 with ⟨e, _⟩ | ⟨l, h, hl, hh, hall, l1, h1, er, ht⟩
  · rw [ep] at e; cases e
  rw [ep] at hl hh hall
  rcases ht with ⟨e, _⟩ | ⟨_, l2, h2⟩
  · rw [e] at T0; cases T0
  have lh : l ≤ h := by have := hall (a', c') (by simp); omega
  rw [er, if_neg (by omega), show max l (-(fI s - 1)) = l by omega, show min h (fI s - 1) = h by omega]
  have all : ∀ p ∈ [(a', c'), (a', d'), (b', c'), (b', d')], (floatV s (gF op s (mk s p.1) (mk s p.2))).2.1 = mk s (R s op p.1 p.2) := fun p hp => by
    have hr := hall p hp
    simp only [List.mem_cons, List.not_mem_nil, or_false] at hp
    rcases hp with rfl | rfl | rfl | rfl
    all_goals exact reached_v hop (by dsimp only; omega) (by dsimp only; omega) (by dsimp only; omega) (by dsimp only; omega) (fun h => n11 h.1) (by omega) (by omega)
  have e0 := all (a', c') (by simp)
  have e1 := all (a', d') (by simp)
  have e2 := all (b', c') (by simp)
  have e3 := all (b', d') (by simp)
  dsimp only at e0 e1 e2 e3
  rw [e0, e1, e2, e3]
  refine ⟨rfl, ?_, ?_⟩
  · obtain ⟨p, hp, rfl⟩ := hl
    simp only [List.mem_cons, List.not_mem_nil, or_false] at hp
    rcases hp with rfl | rfl | rfl | rfl <;> simp
  · obtain ⟨p, hp, rfl⟩ := hh
    simp only [List.mem_cons, List.not_mem_nil, or_false] at hp
    rcases hp with rfl | rfl | rfl | rfl <;> simp
end Go.Proofs.YthjoigkckgdcaaaGreat

