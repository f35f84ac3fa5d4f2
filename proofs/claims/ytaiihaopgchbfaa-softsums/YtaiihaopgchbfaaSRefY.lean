/- The reference's Add. -/
import Derived.Test.YtaiihaopgchbfaaSRefP
import Derived.Test.YtaiihaopgchbfaaSoftS
namespace Go.Proofs.Ytaiihaopgchbfaa
open Go.RowKit
set_option linter.unusedVariables false
set_option linter.unusedSimpArgs false
theorem kinds3Y (k : Int) : ((k == 0 || k == 5) = true ∧ (k == 4) = false) ∨ ((k == 0 || k == 5) = false ∧ (k == 4) = true) ∨ ((k == 0 || k == 5) = false ∧ (k == 4) = false) := by
  by_cases c1 : k = 0
  · subst c1; decide
  · by_cases c2 : k = 5
    · subst c2; decide
    · by_cases c3 : k = 4
      · subst c3; decide
      · simp [c1, c2, c3]
theorem wide_notY {s : Bool} {a : Int} (h : (cls s a == 0 || cls s a == 5) = false) : wideB s a = false := by
  cases c : wideB s a
  · rfl
  · exfalso
    have : cls s a = 0 := by unfold cls; rw [c]; rfl
    rw [this] at h
    exact absurd h (by decide)
theorem fin_wordY {s : Bool} {u p : Int} (h : Fin s u p) : Word u ∧ u < 9007199254740992 ∧ -1074 ≤ p ∧ p ≤ 2000 := by
  obtain ⟨a, b, c, d, e⟩ := h
  cases s
  · have b' : u < 9007199254740992 := b
    have c' : -1074 ≤ p := c
    exact ⟨⟨a, by omega⟩, b', c', d⟩
  · have b' : u < 16777216 := b
    have c' : -149 ≤ p := c
    exact ⟨⟨a, by omega⟩, by omega, by omega, d⟩
theorem rup_int (v : Value) (n A : Nat) (z : Int) (hn : n ≤ 100) (hz0 : 0 ≤ z) (hz : z ≤ 5000) (w : World) (h : BitV w v n A) :
    Calls Try.prog 27 #[v, .int .i64 z] w fun e w' => ∃ g cap, e = .returned (.slice (some ⟨g, 0, none⟩) (z.toNat + n) cap) ∧ g < w'.heap.size ∧ RowB w' g (z.toNat + n) (fun i => (A * 2 ^ z.toNat).testBit i) ∧ Below w.heap.size w w' := by
  obtain ⟨k, rfl⟩ := Int.eq_ofNat_of_zero_le hz0
  rw [Int.toNat_natCast]
  exact rup_any v n A k hn (by omega) w h
theorem below_callY {w W w1 : World} (h : Below w.heap.size w W) (hb : Below W.heap.size W w1) : Below w.heap.size w w1 := h.trans (hb.mono h.size)
theorem drewNY (w : World) (n : Nat) : Below w.heap.size w (w.drewN n) := below_drewN (Below.refl _ _) n
set_option maxRecDepth 20000 in
set_option maxHeartbeats 25600000 in
theorem radd_core (f m a b : Int) (g1 g2 : Bool) (X Y : Nat) (p1 p2 z1 z2 e S0 : Int) (nX nY N1 N2 SA SB : Nat) (V : Int)
    (hp1 : -1074 ≤ p1) (hp1' : p1 ≤ 2000) (hp2 : -1074 ≤ p2) (hp2' : p2 ≤ 2000)
    (hz : p2 < p1 ∧ z1 = p1 - p2 ∧ z2 = 0 ∧ e = p2 ∨ ¬ p2 < p1 ∧ z1 = 0 ∧ z2 = p2 - p1 ∧ e = p1)
    (hX : X < 2 ^ nX) (hY : Y < 2 ^ nY) (hSA : SA < 2 ^ N1) (hSB : SB < 2 ^ N2) (hN1 : N1 ≤ 10000) (hN2 : N2 ≤ 10000)
    (hb1 : ∀ w, Calls Try.prog 22 #[.int .i64 f, .int .u64 a] w fun e w' => e = .returned (.bool g1) ∧ w' = w)
    (hb2 : ∀ w, Calls Try.prog 22 #[.int .i64 f, .int .u64 b] w fun e w' => e = .returned (.bool g2) ∧ w' = w)
    (hn1 : ∀ w, Calls Try.prog 23 #[.int .i64 f, .int .u64 a] w fun e w' => e = .returned (.bool false) ∧ ∃ n, w' = w.drewN n)
    (hn2 : ∀ w, Calls Try.prog 23 #[.int .i64 f, .int .u64 b] w fun e w' => e = .returned (.bool false) ∧ ∃ n, w' = w.drewN n)
    (hi1 : ∀ w, Calls Try.prog 24 #[.int .i64 f, .int .u64 a] w fun e w' => e = .returned (.bool false) ∧ ∃ n, w' = w.drewN n)
    (hi2 : ∀ w, Calls Try.prog 24 #[.int .i64 f, .int .u64 b] w fun e w' => e = .returned (.bool false) ∧ ∃ n, w' = w.drewN n)
    (v1 : ∀ w, Calls Try.prog 26 #[.int .i64 f, .int .u64 a] w fun e w' => e = .returned (.tuple #[.int .u64 (X : Int), .int .i64 p1]) ∧ w' = w.drew)
    (v2 : ∀ w, Calls Try.prog 26 #[.int .i64 f, .int .u64 b] w fun e w' => e = .returned (.tuple #[.int .u64 (Y : Int), .int .i64 p2]) ∧ w' = w.drew)
    (hbX : ∀ w : World, Calls Try.prog 28 #[.int .u64 (X : Int)] w fun e w' => ∃ v, e = .returned v ∧ BitV w' v nX X ∧ Below w.heap.size w w')
    (hbY : ∀ w : World, Calls Try.prog 28 #[.int .u64 (Y : Int)] w fun e w' => ∃ v, e = .returned v ∧ BitV w' v nY Y ∧ Below w.heap.size w w')
    (hu1 : ∀ v w, BitV w v nX X → Calls Try.prog 27 #[v, .int .i64 z1] w fun e w' => ∃ g cap, e = .returned (.slice (some ⟨g, 0, none⟩) N1 cap) ∧ g < w'.heap.size ∧ RowB w' g N1 (fun i => SA.testBit i) ∧ Below w.heap.size w w')
    (hu2 : ∀ v w, BitV w v nY Y → Calls Try.prog 27 #[v, .int .i64 z2] w fun e w' => ∃ g cap, e = .returned (.slice (some ⟨g, 0, none⟩) N2 cap) ∧ g < w'.heap.size ∧ RowB w' g N2 (fun i => SB.testBit i) ∧ Below w.heap.size w w')
    (hsg : ∀ w, Calls Try.prog 32 #[.int .i64 f, .bool (m == 2)] w fun e w' => e = .returned (.int .u64 S0) ∧ w' = w)
    (q1 : g1 = g2 → ∀ v n w, n ≤ 20001 → BitV w v n (SA + SB) → Calls Try.prog 29 #[.int .i64 f, .int .i64 m, .bool g1, v, .int .i64 e] w fun r w' => r = .returned (.int .u64 V) ∧ ∃ k, w' = w.drewN k)
    (q2 : g1 ≠ g2 → SA = SB → S0 = V)
    (q3 : g1 ≠ g2 → SB < SA → ∀ v w, BitV w v N1 (SA - SB) → Calls Try.prog 29 #[.int .i64 f, .int .i64 m, .bool g1, v, .int .i64 e] w fun r w' => r = .returned (.int .u64 V) ∧ ∃ k, w' = w.drewN k)
    (q4 : g1 ≠ g2 → SA < SB → ∀ v w, BitV w v N2 (SB - SA) → Calls Try.prog 29 #[.int .i64 f, .int .i64 m, .bool g2, v, .int .i64 e] w fun r w' => r = .returned (.int .u64 V) ∧ ∃ k, w' = w.drewN k)
    (w : World) :
    Calls Try.prog 8 #[.int .i64 f, .int .i64 m, .int .u64 a, .int .u64 b] w fun r w' => r = .returned (.int .u64 V) ∧ Below w.heap.size w w' := by
  have hcm := fun (ga ca gb cb : Nat) (w : World) (ra : RowB w ga N1 (fun i => SA.testBit i)) (rb : RowB w gb N2 (fun i => SB.testBit i)) => rcmp_any ga N1 ca SA gb N2 cb SB hSA hSB hN1 hN2 w ra rb
  have hpl := fun (ga ca gb cb : Nat) (w : World) (ra : RowB w ga N1 (fun i => SA.testBit i)) (rb : RowB w gb N2 (fun i => SB.testBit i)) (za : ga < w.heap.size) (zb : gb < w.heap.size) => rplus_any ga N1 ca SA gb N2 cb SB hSA hSB hN1 hN2 w ra rb za zb
  have hm1 := fun (h : SB ≤ SA) (ga ca gb cb : Nat) (w : World) (ra : RowB w ga N1 (fun i => SA.testBit i)) (rb : RowB w gb N2 (fun i => SB.testBit i)) (za : ga < w.heap.size) (zb : gb < w.heap.size) => rminus_any ga N1 ca SA gb N2 cb SB hSA hSB hN1 hN2 h w ra rb za zb
  have hm2 := fun (h : SA ≤ SB) (ga ca gb cb : Nat) (w : World) (ra : RowB w ga N1 (fun i => SA.testBit i)) (rb : RowB w gb N2 (fun i => SB.testBit i)) (za : ga < w.heap.size) (zb : gb < w.heap.size) => rminus_any gb N2 cb SB ga N1 ca SA hSB hSA hN2 hN1 h w rb ra zb za
  clear hSA hSB hX hY
  have tri : g1 = g2 ∨ (g1 ≠ g2 ∧ SA = SB) ∨ (g1 ≠ g2 ∧ SB < SA) ∨ (g1 ≠ g2 ∧ SA < SB) := by
    by_cases c : g1 = g2
    · exact Or.inl c
    · rcases Nat.lt_trichotomy SA SB with d | d | d
      · exact Or.inr (Or.inr (Or.inr ⟨c, d⟩))
      · exact Or.inr (Or.inl ⟨c, d⟩)
      · exact Or.inr (Or.inr (Or.inl ⟨c, d⟩))
  rcases tri with c | ⟨c, d⟩ | ⟨c, d⟩ | ⟨c, d⟩
  · have R := q1 c
    subst c
    clear q1 q2 q3 q4 hm1 hm2 hcm hsg
    rcases hz with ⟨t, rfl, rfl, rfl⟩ | ⟨t, rfl, rfl, rfl⟩ <;> cases g1
    all_goals
      go_enter Try.func8, Try.ntmps8
      go_wp2_with (first
         | (go_at_call_of 22 a; refine (hb1 _).mono ?_; rintro r w1 ⟨rfl, hw⟩; rw [hw]; clear hw w1)
         | (go_at_call_of 22 b; refine (hb2 _).mono ?_; rintro r w1 ⟨rfl, hw⟩; rw [hw]; clear hw w1)
         | (go_at_call_of 23 a; refine (hn1 _).mono ?_; rintro r w1 ⟨rfl, n3, rfl⟩)
         | (go_at_call_of 23 b; refine (hn2 _).mono ?_; rintro r w1 ⟨rfl, n4, rfl⟩)
         | (go_at_call_of 24 a; refine (hi1 _).mono ?_; rintro r w1 ⟨rfl, n5, rfl⟩)
         | (go_at_call_of 24 b; refine (hi2 _).mono ?_; rintro r w1 ⟨rfl, n6, rfl⟩)
         | (go_at_call_of 26 a; refine (v1 _).mono ?_; rintro r w1 ⟨rfl, rfl⟩)
         | (go_at_call_of 26 b; refine (v2 _).mono ?_; rintro r w1 ⟨rfl, rfl⟩)
         | (go_at_call_of 28 X; refine (hbX _).mono ?_; rintro r wa ⟨va, rfl, bva, La⟩; replace La : Below w.heap.size w wa := below_callY (drewNY w _) La)
         | (go_at_call_of 27 va; refine (hu1 va _ bva).mono ?_; rintro r wb ⟨ga, ca, rfl, za, ra, Lb⟩; replace Lb := below_callY La Lb; clear La bva)
         | (go_at_call_of 28 Y; refine (hbY _).mono ?_; rintro r wc ⟨vb, rfl, bvb, Lc⟩; replace ra := ra.below Lc za; replace za := Nat.lt_of_lt_of_le za Lc.size; replace Lc := below_callY Lb Lc; clear Lb)
         | (go_at_call_of 27 vb; refine (hu2 vb _ bvb).mono ?_; rintro r wd ⟨gb, cb, rfl, zb, rb, Ld⟩; replace ra := ra.below Ld za; replace za := Nat.lt_of_lt_of_le za Ld.size; replace Ld := below_callY Lc Ld; clear Lc bvb)
         | (go_at_call 30; refine (hpl _ _ _ _ _ ra rb za zb).mono ?_; rintro r we ⟨vs, rfl, ⟨ns, hns, bvs⟩, Le⟩; replace Le := below_callY Ld Le)
         | (go_at_call 29; refine (R vs ns _ hns bvs).mono ?_; rintro r wf ⟨rfl, kk, rfl⟩))
      go_ret
      exact ⟨rfl, below_drewN Le _⟩
  · have R := q2 c d
    subst R
    have d0 : cmpR SA SB = 0 := by unfold cmpR; rw [if_neg (by omega), if_pos d]
    simp only [d0] at hcm
    clear q1 q2 q3 q4 hm1 hm2 hpl d0
    rcases hz with ⟨t, rfl, rfl, rfl⟩ | ⟨t, rfl, rfl, rfl⟩ <;> cases g1 <;> cases g2
    all_goals
      first
        | exact absurd rfl c
        | (clear c d
           go_enter Try.func8, Try.ntmps8
           go_wp2_with (first
         | (go_at_call_of 22 a; refine (hb1 _).mono ?_; rintro r w1 ⟨rfl, hw⟩; rw [hw]; clear hw w1)
         | (go_at_call_of 22 b; refine (hb2 _).mono ?_; rintro r w1 ⟨rfl, hw⟩; rw [hw]; clear hw w1)
         | (go_at_call_of 23 a; refine (hn1 _).mono ?_; rintro r w1 ⟨rfl, n3, rfl⟩)
         | (go_at_call_of 23 b; refine (hn2 _).mono ?_; rintro r w1 ⟨rfl, n4, rfl⟩)
         | (go_at_call_of 24 a; refine (hi1 _).mono ?_; rintro r w1 ⟨rfl, n5, rfl⟩)
         | (go_at_call_of 24 b; refine (hi2 _).mono ?_; rintro r w1 ⟨rfl, n6, rfl⟩)
         | (go_at_call_of 26 a; refine (v1 _).mono ?_; rintro r w1 ⟨rfl, rfl⟩)
         | (go_at_call_of 26 b; refine (v2 _).mono ?_; rintro r w1 ⟨rfl, rfl⟩)
         | (go_at_call_of 28 X; refine (hbX _).mono ?_; rintro r wa ⟨va, rfl, bva, La⟩; replace La : Below w.heap.size w wa := below_callY (drewNY w _) La)
         | (go_at_call_of 27 va; refine (hu1 va _ bva).mono ?_; rintro r wb ⟨ga, ca, rfl, za, ra, Lb⟩; replace Lb := below_callY La Lb; clear La bva)
         | (go_at_call_of 28 Y; refine (hbY _).mono ?_; rintro r wc ⟨vb, rfl, bvb, Lc⟩; replace ra := ra.below Lc za; replace za := Nat.lt_of_lt_of_le za Lc.size; replace Lc := below_callY Lb Lc; clear Lb)
         | (go_at_call_of 27 vb; refine (hu2 vb _ bvb).mono ?_; rintro r wd ⟨gb, cb, rfl, zb, rb, Ld⟩; replace ra := ra.below Ld za; replace za := Nat.lt_of_lt_of_le za Ld.size; replace Ld := below_callY Lc Ld; clear Lc bvb)
         | (go_at_call 31; refine (hcm ga ca gb cb _ ra rb).mono ?_; rintro r w1 ⟨rfl, kc, rfl⟩)
         | (go_at_call 32; refine (hsg _).mono ?_; rintro r w1 ⟨rfl, hw⟩; rw [hw]; clear hw w1))
           go_ret
           exact ⟨rfl, below_drewN Ld _⟩)
  · have R := q3 c d
    have d0 : cmpR SA SB = 1 := by unfold cmpR; rw [if_neg (by omega), if_neg (by omega)]
    simp only [d0] at hcm
    have hm := hm1 (by omega)
    clear q1 q2 q3 q4 hm1 hm2 hpl d0 hsg
    rcases hz with ⟨t, rfl, rfl, rfl⟩ | ⟨t, rfl, rfl, rfl⟩ <;> cases g1 <;> cases g2
    all_goals
      first
        | exact absurd rfl c
        | (clear c d
           go_enter Try.func8, Try.ntmps8
           go_wp2_with (first
         | (go_at_call_of 22 a; refine (hb1 _).mono ?_; rintro r w1 ⟨rfl, hw⟩; rw [hw]; clear hw w1)
         | (go_at_call_of 22 b; refine (hb2 _).mono ?_; rintro r w1 ⟨rfl, hw⟩; rw [hw]; clear hw w1)
         | (go_at_call_of 23 a; refine (hn1 _).mono ?_; rintro r w1 ⟨rfl, n3, rfl⟩)
         | (go_at_call_of 23 b; refine (hn2 _).mono ?_; rintro r w1 ⟨rfl, n4, rfl⟩)
         | (go_at_call_of 24 a; refine (hi1 _).mono ?_; rintro r w1 ⟨rfl, n5, rfl⟩)
         | (go_at_call_of 24 b; refine (hi2 _).mono ?_; rintro r w1 ⟨rfl, n6, rfl⟩)
         | (go_at_call_of 26 a; refine (v1 _).mono ?_; rintro r w1 ⟨rfl, rfl⟩)
         | (go_at_call_of 26 b; refine (v2 _).mono ?_; rintro r w1 ⟨rfl, rfl⟩)
         | (go_at_call_of 28 X; refine (hbX _).mono ?_; rintro r wa ⟨va, rfl, bva, La⟩; replace La : Below w.heap.size w wa := below_callY (drewNY w _) La)
         | (go_at_call_of 27 va; refine (hu1 va _ bva).mono ?_; rintro r wb ⟨ga, ca, rfl, za, ra, Lb⟩; replace Lb := below_callY La Lb; clear La bva)
         | (go_at_call_of 28 Y; refine (hbY _).mono ?_; rintro r wc ⟨vb, rfl, bvb, Lc⟩; replace ra := ra.below Lc za; replace za := Nat.lt_of_lt_of_le za Lc.size; replace Lc := below_callY Lb Lc; clear Lb)
         | (go_at_call_of 27 vb; refine (hu2 vb _ bvb).mono ?_; rintro r wd ⟨gb, cb, rfl, zb, rb, Ld⟩; replace ra := ra.below Ld za; replace za := Nat.lt_of_lt_of_le za Ld.size; replace Ld := below_callY Lc Ld; clear Lc bvb)
         | (go_at_call 31; refine (hcm ga ca gb cb _ ra rb).mono ?_; rintro r w1 ⟨rfl, kc, rfl⟩)
         | (go_at_call 33; refine (hm ga ca gb cb (wd.drewN kc) ra rb za zb).mono ?_; rintro r we ⟨vs, rfl, bvs, Le⟩; replace Le := below_callY (below_drewN Ld kc) Le)
         | (go_at_call 29; refine (R vs _ bvs).mono ?_; rintro r wf ⟨rfl, kk, rfl⟩))
           go_ret
           exact ⟨rfl, below_drewN Le _⟩)
  · have R := q4 c d
    have d0 : cmpR SA SB = -1 := by unfold cmpR; rw [if_pos (by omega)]
    simp only [d0] at hcm
    have hm := hm2 (by omega)
    clear q1 q2 q3 q4 hm1 hm2 hpl d0 hsg
    rcases hz with ⟨t, rfl, rfl, rfl⟩ | ⟨t, rfl, rfl, rfl⟩ <;> cases g1 <;> cases g2
    all_goals
      first
        | exact absurd rfl c
        | (clear c d
           go_enter Try.func8, Try.ntmps8
           go_wp2_with (first
         | (go_at_call_of 22 a; refine (hb1 _).mono ?_; rintro r w1 ⟨rfl, hw⟩; rw [hw]; clear hw w1)
         | (go_at_call_of 22 b; refine (hb2 _).mono ?_; rintro r w1 ⟨rfl, hw⟩; rw [hw]; clear hw w1)
         | (go_at_call_of 23 a; refine (hn1 _).mono ?_; rintro r w1 ⟨rfl, n3, rfl⟩)
         | (go_at_call_of 23 b; refine (hn2 _).mono ?_; rintro r w1 ⟨rfl, n4, rfl⟩)
         | (go_at_call_of 24 a; refine (hi1 _).mono ?_; rintro r w1 ⟨rfl, n5, rfl⟩)
         | (go_at_call_of 24 b; refine (hi2 _).mono ?_; rintro r w1 ⟨rfl, n6, rfl⟩)
         | (go_at_call_of 26 a; refine (v1 _).mono ?_; rintro r w1 ⟨rfl, rfl⟩)
         | (go_at_call_of 26 b; refine (v2 _).mono ?_; rintro r w1 ⟨rfl, rfl⟩)
         | (go_at_call_of 28 X; refine (hbX _).mono ?_; rintro r wa ⟨va, rfl, bva, La⟩; replace La : Below w.heap.size w wa := below_callY (drewNY w _) La)
         | (go_at_call_of 27 va; refine (hu1 va _ bva).mono ?_; rintro r wb ⟨ga, ca, rfl, za, ra, Lb⟩; replace Lb := below_callY La Lb; clear La bva)
         | (go_at_call_of 28 Y; refine (hbY _).mono ?_; rintro r wc ⟨vb, rfl, bvb, Lc⟩; replace ra := ra.below Lc za; replace za := Nat.lt_of_lt_of_le za Lc.size; replace Lc := below_callY Lb Lc; clear Lb)
         | (go_at_call_of 27 vb; refine (hu2 vb _ bvb).mono ?_; rintro r wd ⟨gb, cb, rfl, zb, rb, Ld⟩; replace ra := ra.below Ld za; replace za := Nat.lt_of_lt_of_le za Ld.size; replace Ld := below_callY Lc Ld; clear Lc bvb)
         | (go_at_call 31; refine (hcm ga ca gb cb _ ra rb).mono ?_; rintro r w1 ⟨rfl, kc, rfl⟩)
         | (go_at_call 33; refine (hm ga ca gb cb (wd.drewN kc) ra rb za zb).mono ?_; rintro r we ⟨vs, rfl, bvs, Le⟩; replace Le := below_callY (below_drewN Ld kc) Le)
         | (go_at_call 29; refine (R vs _ bvs).mono ?_; rintro r wf ⟨rfl, kk, rfl⟩))
           go_ret
           exact ⟨rfl, below_drewN Le _⟩)
set_option maxRecDepth 20000 in
set_option maxHeartbeats 6400000 in
theorem raddF_any (s : Bool) (m a b : Int) (h1 : Word a) (h2 : Word b) (w : World) :
    Calls Try.prog 8 #[.int .i64 (fb s), .int .i64 m, .int .u64 a, .int .u64 b] w fun r w' => r = .returned (.int .u64 (addF s m a b)) ∧ Below w.heap.size w w' := by
  have hb1 := rbelow_any s a
  have hb2 := rbelow_any s b
  have hn1 := risNan_any s a h1
  have hn2 := risNan_any s b h2
  have hi1 := risInf_any s a h1
  have hi2 := risInf_any s b h2
  have hnan := rnan_any s
  have hsg := rsign_any s (m == 2)
  have hrd := fun (below : Bool) (v : Value) (n A : Nat) => rounded_any s m below v n A
  have hv1 := fun h => rvalue_any s a h1 (wide_notY h)
  have hv2 := fun h => rvalue_any s b h2 (wide_notY h)
  have f1 := fin_of s a h1
  have f2 := fin_of s b h2
  have K1 := kinds3Y (cls s a)
  have K2 := kinds3Y (cls s b)
  have S0 : (if (m == 2) = true then fS s else 0) = sgnd s (m == 2) 0 := by unfold sgnd; split <;> simp
  rw [S0] at hsg
  clear S0
  unfold addF
  generalize hN1 : (cls s a == 0 || cls s a == 5) = N1 at *
  generalize hN2 : (cls s b == 0 || cls s b == 5) = N2 at *
  generalize hI1 : (cls s a == 4) = I1 at *
  generalize hI2 : (cls s b == 4) = I2 at *
  clear hN1 hN2 hI1 hI2
  generalize hfb : fb s = f at *
  generalize sgn s a = g1 at *
  generalize sgn s b = g2 at *
  generalize fNan s = Q at *
  rcases K1 with ⟨rfl, rfl⟩ | ⟨rfl, rfl⟩ | ⟨rfl, rfl⟩ <;> rcases K2 with ⟨rfl, rfl⟩ | ⟨rfl, rfl⟩ | ⟨rfl, rfl⟩
  case inr.inr.inr.inr =>
    have F1 := fin_wordY (f1 rfl rfl).1
    have F2 := fin_wordY (f2 rfl rfl).1
    have v1 := hv1 rfl
    have v2 := hv2 rfl
    clear hv1 hv2 f1 f2 hnan
    simp only [Bool.or_self, Bool.and_self, Bool.false_and, Bool.false_eq_true, if_false]
    generalize whl s a = u1 at *
    generalize whl s b = u2 at *
    generalize pwr s a = p1 at *
    generalize pwr s b = p2 at *
    obtain ⟨a1, a2, a3, a4⟩ := F1
    obtain ⟨d1, d2, d3, d4⟩ := F2
    obtain ⟨X, rfl⟩ := Int.eq_ofNat_of_zero_le a1.1
    obtain ⟨Y, rfl⟩ := Int.eq_ofNat_of_zero_le d1.1
    rw [Int.toNat_natCast, Int.toNat_natCast]
    have lX : blen X ≤ 53 := blen_le_of (by omega : X < 2 ^ 53)
    have lY : blen Y ≤ 53 := blen_le_of (by omega : Y < 2 ^ 53)
    have hX := lt_blen X
    have hY := lt_blen Y
    have hbX : ∀ w : World, Calls Try.prog 28 #[.int .u64 (X : Int)] w fun e w' => ∃ v, e = .returned v ∧ BitV w' v (blen X) X ∧ Below w.heap.size w w' := fun w => (rbits_any X (by omega) w).mono fun e w' ⟨v, h1, h2, h3⟩ => ⟨v, h1, own_bits h2 hX, h3⟩
    have hbY : ∀ w : World, Calls Try.prog 28 #[.int .u64 (Y : Int)] w fun e w' => ∃ v, e = .returned v ∧ BitV w' v (blen Y) Y ∧ Below w.heap.size w w' := fun w => (rbits_any Y (by omega) w).mono fun e w' ⟨v, h1, h2, h3⟩ => ⟨v, h1, own_bits h2 hY, h3⟩
    have main : ∀ z1 z2 e : Int, 0 ≤ z1 → z1 ≤ 5000 → 0 ≤ z2 → z2 ≤ 5000 → -2000 ≤ e → e ≤ 2000 → (p2 < p1 ∧ z1 = p1 - p2 ∧ z2 = 0 ∧ e = p2 ∨ ¬ p2 < p1 ∧ z1 = 0 ∧ z2 = p2 - p1 ∧ e = p1) →
        Calls Try.prog 8 #[.int .i64 f, .int .i64 m, .int .u64 a, .int .u64 b] w fun r w' => r = .returned (.int .u64 (if g1 = g2 then rnd s m g1 (X * 2 ^ z1.toNat + Y * 2 ^ z2.toNat) e
          else if X * 2 ^ z1.toNat = Y * 2 ^ z2.toNat then sgnd s (m == 2) 0
          else if Y * 2 ^ z2.toNat < X * 2 ^ z1.toNat then rnd s m g1 (X * 2 ^ z1.toNat - Y * 2 ^ z2.toNat) e
          else rnd s m g2 (Y * 2 ^ z2.toNat - X * 2 ^ z1.toNat) e)) ∧ Below w.heap.size w w' := by
      intro z1 z2 e r1 r2 r3 r4 r5 r6 hz
      refine radd_core f m a b g1 g2 X Y p1 p2 z1 z2 e (sgnd s (m == 2) 0) (blen X) (blen Y) (z1.toNat + blen X) (z2.toNat + blen Y) (X * 2 ^ z1.toNat) (Y * 2 ^ z2.toNat) _ a3 a4 d3 d4 hz hX hY ?_ ?_ (by omega) (by omega) hb1 hb2 hn1 hn2 hi1 hi2 v1 v2 hbX hbY ?_ ?_ hsg ?_ ?_ ?_ ?_ w
      · rw [Nat.add_comm, Nat.pow_add]; exact Nat.mul_lt_mul_of_pos_right hX (Nat.two_pow_pos _)
      · rw [Nat.add_comm, Nat.pow_add]; exact Nat.mul_lt_mul_of_pos_right hY (Nat.two_pow_pos _)
      · exact fun v w h => rup_int v _ _ z1 (by omega) r1 r2 w h
      · exact fun v w h => rup_int v _ _ z2 (by omega) r3 r4 w h
      · intro c v n w hn h
        rw [if_pos c]
        exact hrd g1 v n _ (by omega) e (by omega) (by omega) w h
      · intro c d
        rw [if_neg c, if_pos d]
      · intro c d v w h
        rw [if_neg c, if_neg (by omega), if_pos d]
        exact hrd g1 v _ _ (by omega) e (by omega) (by omega) w h
      · intro c d v w h
        rw [if_neg c, if_neg (by omega), if_neg (by omega)]
        exact hrd g2 v _ _ (by omega) e (by omega) (by omega) w h
    unfold sumT
    by_cases t : p2 < p1
    · rw [show min p1 p2 = p2 by omega, Int.sub_self]
      exact main (p1 - p2) 0 p2 (by omega) (by omega) (by omega) (by omega) (by omega) (by omega) (Or.inl ⟨t, rfl, rfl, rfl⟩)
    · rw [show min p1 p2 = p1 by omega, Int.sub_self]
      exact main 0 (p2 - p1) p1 (by omega) (by omega) (by omega) (by omega) (by omega) (by omega) (Or.inr ⟨t, rfl, rfl, rfl⟩)
  all_goals
    clear hrd hv1 hv2 f1 f2 hsg
    cases g1 <;> cases g2
  all_goals
    go_enter Try.func8, Try.ntmps8
    go_wp2_with (first
         | (go_at_call_of 22 a; refine (hb1 _).mono ?_; rintro r w1 ⟨rfl, hw⟩; rw [hw]; clear hw w1)
         | (go_at_call_of 22 b; refine (hb2 _).mono ?_; rintro r w1 ⟨rfl, hw⟩; rw [hw]; clear hw w1)
         | (go_at_call_of 23 a; refine (hn1 _).mono ?_; rintro r w1 ⟨rfl, n3, rfl⟩)
         | (go_at_call_of 23 b; refine (hn2 _).mono ?_; rintro r w1 ⟨rfl, n4, rfl⟩)
         | (go_at_call_of 24 a; refine (hi1 _).mono ?_; rintro r w1 ⟨rfl, n5, rfl⟩)
         | (go_at_call_of 24 b; refine (hi2 _).mono ?_; rintro r w1 ⟨rfl, n6, rfl⟩)
         | (go_at_call 25; refine (hnan _).mono ?_; rintro r w1 ⟨rfl, rfl⟩))
    go_ret
    exact ⟨rfl, drewNY w _⟩
end Go.Proofs.Ytaiihaopgchbfaa

