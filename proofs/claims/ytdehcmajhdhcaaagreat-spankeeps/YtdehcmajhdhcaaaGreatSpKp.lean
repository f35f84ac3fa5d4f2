/- SpanKeeps: all ways. -/
import Derived.Test.YtdehcmajhdhcaaaGreatSpKe
import Derived.Test.YtdehcmajhdhcaaaGreatSpHo
import Derived.Test.YtdehcmajhdhcaaaGreatSpSta
import Derived.Test.YtdehcmajhdhcaaaGreatSpSS
import Derived.Test.YtdehcmajhdhcaaaGreatSpFm
import Derived.Test.YtdehcmajhdhcaaaGreatSpLv
import Derived.Test.YtdehcmajhdhcaaaGreatFlV
namespace Go.Proofs.YtdehcmajhdhcaaaGreat
open Go.RowKit
set_option linter.unusedVariables false
set_option linter.unusedSimpArgs false
/-- The pair is right just if both ranges are. -/
theorem kright_any (p : Int) (s : Bool) (hs : (p == 1) = s) (e1 : Bool) (a b : Int) (e2 : Bool) (c d : Int) (ha : Word a) (hb : Word b) (hc : Word c) (hd : Word d) (w : World) :
    Calls Tryz.prog 22 #[.agg #[.int .i64 p, .bool e1, .int .u64 a, .int .u64 b, .bool e2, .int .u64 c, .int .u64 d]] w fun e w' => e = .returned (.bool (rRF s e1 a b && rRF s e2 c d)) ∧ Below w.heap.size w w' := by
  have KF : ∀ V, Calls Tryz.prog 15 #[.int .i64 p] V fun e w' => e = .returned (.int .i64 (fb s)) ∧ Below V.heap.size V w' := fun V => by
    have := format8 p V
    rw [hs] at this
    exact this.mono fun e w' h => b_eq h
  have R1 := rrightF_any s e1 a b ha hb
  have R2 := rrightF_any s e2 c d hc hd
  cases r1 : rRF s e1 a b
  · rw [r1] at R1
    exact tright_f p (fb s) e1 a b e2 c d KF R1 w
  · rw [r1] at R1
    exact tright_t p (fb s) e1 a b e2 c d _ KF R1 R2 w
theorem hold_rank {s : Bool} {op n m : Int} (n1 : -fI s < n) (n2 : n < fI s) (m1 : -fI s < m) (m2 : m < fI s) (h : holdB op (cmpF s (mk s n) (mk s m)).1 = true) : holdI op n m := by
  rw [cmp_mk (by omega) (by omega) (by omega) (by omega)] at h
  dsimp only at h
  have k : (n < m ∧ cmpI n m = -1) ∨ (m < n ∧ cmpI n m = 1) ∨ (n = m ∧ cmpI n m = 0) := by
    unfold cmpI
    split
    · left; exact ⟨by omega, rfl⟩
    · split
      · right; left; exact ⟨by omega, rfl⟩
      · right; right; exact ⟨by omega, rfl⟩
  refine ⟨?_, ?_, ?_, ?_, ?_, ?_⟩
  all_goals
    rintro rfl
    rcases k with ⟨q, e⟩ | ⟨q, e⟩ | ⟨q, e⟩ <;> rw [e] at h <;> first | omega | exact absurd h (by decide)
set_option maxRecDepth 100000 in
theorem law_keeps (op p : Int) (e1 : Bool) (a b : Int) (e2 : Bool) (c d x y : Int) (ha : Word a) (hb : Word b) (hc : Word c) (hd : Word d) (hx : Word x) (hy : Word y) (w : World) :
    Calls Tryz.prog 10 #[.int .i64 op, .agg #[.int .i64 p, .bool e1, .int .u64 a, .int .u64 b, .bool e2, .int .u64 c, .int .u64 d], .agg #[.int .u64 x, .int .u64 y]] w fun e w' => e = .returned (.bool true) ∧ Below w.heap.size w w' := by
  obtain ⟨s, hs⟩ : ∃ s, (p == 1) = s := ⟨_, rfl⟩
  have KF : ∀ V, Calls Tryz.prog 15 #[.int .i64 p] V fun e w' => e = .returned (.int .i64 (fb s)) ∧ Below V.heap.size V w' := fun V => by
    have := format8 p V
    rw [hs] at this
    exact this.mono fun e w' h => b_eq h
  have P1 := fun V => (rplain3_any s x hx V).mono fun e w' h => b_dN h
  have P2 := fun V => (rplain3_any s y hy V).mono fun e w' h => b_dN h
  have wx : Word (plainF s x) := n_plainw s x hx
  have wy : Word (plainF s y) := n_plainw s y hy
  have KT := fun V => (typeOf8 s V).mono fun e w' h => b_eq h
  refine ke_all op p (fb s) e1 a b e2 c d x y _ _ _ _ _ _ _ KF P1 P2 (kright_any p s hs e1 a b e2 c d ha hb hc hd) (rhasF_any s e1 a b (plainF s x) ha hb wx) (rhasF_any s e2 c d (plainF s y) hc hd wy) KT (fun h12 h17 V => rholds_any s op (plainF s x) (plainF s y) h12 h17 wx wy V) live_any (fun r h12 h17 q1 q2 hh => ?_) w
  have t := fI_two s
  rw [Bool.and_eq_true] at r
  obtain rfl : e1 = false := by cases e1 with | false => rfl | true => simp [hRF] at q1
  obtain rfl : e2 = false := by cases e2 with | false => rfl | true => simp [hRF] at q2
  obtain ⟨a', b', a1, ab, b2, rfl, rfl⟩ := right_mk ha hb r.1
  obtain ⟨c', d', c1, cd, d2, rfl, rfl⟩ := right_mk hc hd r.2
  obtain ⟨n, n1, n2, en, an, nb⟩ := has_mk hx a1 ab b2 q1
  obtain ⟨m, m1, m2, em, cm, md⟩ := has_mk hy c1 cd d2 q2
  rw [en, em] at hh
  obtain ⟨k1, k2⟩ := keeps (s := s) h12 h17 a1 b2 an nb c1 d2 cm md (hold_rank n1 n2 m1 m2 hh)
  have KR := refineF_any (fb s) op h12 h17 false (mk s a') (mk s b') false (mk s c') (mk s d') ha hb hc hd
  rw [fb_eq] at KR
  replace KR := KR (one_mk a1 (by omega)) (one_mk (by omega) b2) (one_mk c1 (by omega)) (one_mk (by omega) d2)
  have hk1 := has_kept a1 b2 k1
  have hk2 := has_kept c1 d2 k2
  have wk1 := within_kept a1 b2 k1
  have wk2 := within_kept c1 d2 k2
  obtain ⟨u1, u2⟩ := word_kept a1 b2 k1
  obtain ⟨v1, v2⟩ := word_kept c1 d2 k2
  generalize (refineP (WyF s) (LF s) op (false, mk s a', mk s b') (false, mk s c', mk s d')).1 = P at *
  generalize (refineP (WyF s) (LF s) op (false, mk s a', mk s b') (false, mk s c', mk s d')).2 = Q at *
  obtain ⟨pe, pl, ph⟩ := P
  obtain ⟨qe, ql, qh⟩ := Q
  dsimp only at *
  have H1 := hasF_any (fb s) pe pl ph (plainF s x) u1 u2 wx
  have H2 := hasF_any (fb s) qe ql qh (plainF s y) v1 v2 wy
  have W1 := withinF_any (fb s) pe pl ph false (mk s a') (mk s b') u1 u2 ha hb
  have W2 := withinF_any (fb s) qe ql qh false (mk s c') (mk s d') v1 v2 hc hd
  rw [fb_eq, en, hk1, ← en] at H1
  rw [fb_eq, em, hk2, ← em] at H2
  rw [fb_eq, wk1] at W1
  rw [fb_eq, wk2] at W2
  exact ⟨_, _, _, _, _, _, KR, H1, H2, W1, W2⟩
end Go.Proofs.YtdehcmajhdhcaaaGreat

