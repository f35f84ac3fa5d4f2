/- The reference's Div. -/
import Derived.Test.YtmfmjinplieehaaSRefW
namespace Go.Proofs.Ytmfmjinplieehaa
open Go.RowKit
set_option linter.unusedVariables false
set_option linter.unusedSimpArgs false
/-- What a float is, as the reference asks it: no number, infinite, zero, none of these. -/
theorem kinds4X (k : Int) : ((k == 0 || k == 5) = true ∧ (k == 4) = false ∧ (k == 1) = false) ∨ ((k == 0 || k == 5) = false ∧ (k == 4) = true ∧ (k == 1) = false) ∨ ((k == 0 || k == 5) = false ∧ (k == 4) = false ∧ (k == 1) = true) ∨ ((k == 0 || k == 5) = false ∧ (k == 4) = false ∧ (k == 1) = false) := by
  by_cases c1 : k = 0
  · subst c1; decide
  · by_cases c2 : k = 5
    · subst c2; decide
    · by_cases c3 : k = 4
      · subst c3; decide
      · by_cases c4 : k = 1
        · subst c4; decide
        · simp [c1, c2, c3, c4]
theorem wide_notX {s : Bool} {a : Int} (h : (cls s a == 0 || cls s a == 5) = false) : wideB s a = false := by
  cases c : wideB s a
  · rfl
  · exfalso
    have : cls s a = 0 := by unfold cls; rw [c]; rfl
    rw [this] at h
    exact absurd h (by decide)
theorem fin_wordX {s : Bool} {u p : Int} (h : Fin s u p) : Word u ∧ u < 9007199254740992 ∧ -1074 ≤ p ∧ p ≤ 2000 := by
  obtain ⟨a, b, c, d, e⟩ := h
  cases s
  · have b' : u < 9007199254740992 := b
    have c' : -1074 ≤ p := c
    exact ⟨⟨a, by omega⟩, b', c', d⟩
  · have b' : u < 16777216 := b
    have c' : -149 ≤ p := c
    exact ⟨⟨a, by omega⟩, by omega, by omega, d⟩
theorem whl_none {s : Bool} {a : Int} (h : Word a) (c : (cls s a == 1) = true) : whl s a = 0 := by
  have c' : cls s a = 1 := by simpa using c
  have w : wideB s a = false := by
    cases d : wideB s a
    · rfl
    · exfalso
      have : cls s a = 0 := by unfold cls; rw [d]; rfl
      omega
  have z : zOf s a = 0 := by
    unfold cls at c'
    rw [w, if_neg (by decide)] at c'
    by_cases g : zOf s a = 0
    · exact g
    · exfalso
      rw [if_neg g] at c'
      split at c'
      · omega
      · split at c'
        · omega
        · split at c' <;> omega
  obtain ⟨p1, _, _⟩ := put s a h w
  unfold whl
  rw [z, if_neg (by simp)]
  rw [p1, z]
  unfold sgnd
  cases s <;> split <;> rfl
theorem divT_none (s : Bool) (m : Int) (b : Bool) (xe : Int) (yw : Nat) (ye : Int) : divT s m b 0 xe yw ye = sgnd s b 0 := by
  unfold divT
  rw [Nat.zero_mul, Nat.zero_div, Nat.zero_mod]
  exact rnd_zero s m b _
theorem own_row {w : World} {base n A q cap : Nat} (h : w.ownsRow base 4 1 (.slice (some ⟨q, 0, none⟩) n cap) n (Bl n A)) : q < w.heap.size ∧ RowB w q n (fun i => A.testBit i) := by
  refine ⟨?_, fun i hi => by rw [h.cellAt i (by omega), Bl_get _ _ _ hi]⟩
  rcases h.2 with ⟨hn, _⟩ | ⟨g, cap', cur, e, _, hg, _⟩
  · exact absurd hn (by simp)
  · have : q = g := by simp at e; exact e.1
    rw [this]
    exact lt_of_block hg
theorem own_some {w : World} {base n size : Nat} {e : TypeId} {v : Value} {xs : List Value} (h : w.ownsRow base e size v n xs) (hn : 0 < n) : ∃ g cap, v = .slice (some ⟨g, 0, none⟩) n cap := by
  rcases h.2 with ⟨_, h0⟩ | ⟨g, cap, _, hv, _⟩
  · omega
  · exact ⟨g, cap, hv⟩
theorem below_call' {w W w1 : World} (h : Below w.heap.size w W) (hb : Below W.heap.size W w1) : Below w.heap.size w w1 := h.trans (hb.mono h.size)
set_option maxRecDepth 20000 in
set_option maxHeartbeats 12800000 in
theorem rdivF_any (s : Bool) (m a b : Int) (h1 : Word a) (h2 : Word b) (w : World) :
    Calls Try.prog 17 #[.int .i64 (fb s), .int .i64 m, .int .u64 a, .int .u64 b] w fun r w' => r = .returned (.int .u64 (divF s m a b)) ∧ Below w.heap.size w w' := by
  obtain ⟨i0, hi, hz0, hz1, hz2⟩ := info_parts Try.infoB
  have hb1 := rbelow_any s a
  have hb2 := rbelow_any s b
  have hc1 := rclass_any s a h1
  have hc2 := rclass_any s b h2
  have hn1 := risNan_any s a h1
  have hn2 := risNan_any s b h2
  have hi1 := risInf_any s a h1
  have hi2 := risInf_any s b h2
  have hnan := rnan_any s
  have hinf := rinf_any s (sgn s a != sgn s b)
  have hsg := rsign_any s (sgn s a != sgn s b)
  have hrd := fun (v : Value) (n A : Nat) => rounded_any s m (sgn s a != sgn s b) v n A
  have hv1 := fun h => rvalue_any s a h1 (wide_notX h)
  have hv2 := fun h => rvalue_any s b h2 (wide_notX h)
  have f1 := fin_of s a h1
  have f2 := fin_of s b h2
  have K1 := kinds4X (cls s a)
  have K2 := kinds4X (cls s b)
  have W1 := @whl_none s a h1
  have D0 := divT_none s m (sgn s a != sgn s b) (pwr s a) (whl s b).toNat (pwr s b)
  have S0 : (if (sgn s a != sgn s b) = true then fS s else 0) = sgnd s (sgn s a != sgn s b) 0 := by unfold sgnd; split <;> simp
  rw [S0] at hsg
  clear S0
  unfold divF
  generalize hN1 : (cls s a == 0 || cls s a == 5) = N1 at *
  generalize hN2 : (cls s b == 0 || cls s b == 5) = N2 at *
  generalize hI1 : (cls s a == 4) = I1 at *
  generalize hI2 : (cls s b == 4) = I2 at *
  generalize hZ1 : (cls s a == 1) = Z1 at *
  generalize hZ2 : (cls s b == 1) = Z2 at *
  generalize cls s a = c1 at *
  generalize cls s b = c2 at *
  clear hN1 hN2 hI1 hI2
  generalize fb s = f at *
  generalize sgn s a = g1 at *
  generalize sgn s b = g2 at *
  generalize fNan s = Q at *
  generalize hV : sgnd s (g1 != g2) (fI s) = VI at *
  generalize hV0 : sgnd s (g1 != g2) 0 = V0 at *
  clear hV
  rcases K1 with ⟨rfl, rfl, rfl⟩ | ⟨rfl, rfl, rfl⟩ | ⟨rfl, rfl, rfl⟩ | ⟨rfl, rfl, rfl⟩ <;> rcases K2 with ⟨rfl, rfl, rfl⟩ | ⟨rfl, rfl, rfl⟩ | ⟨rfl, rfl, rfl⟩ | ⟨rfl, rfl, rfl⟩
  case inr.inr.inr.inr.inr.inr =>
    have F1 := fin_wordX (f1 rfl rfl).1
    have F2 := fin_wordX (f2 rfl rfl).1
    have z1 := (f1 rfl rfl).2 rfl
    have z2 := (f2 rfl rfl).2 rfl
    have v1 := hv1 rfl
    have v2 := hv2 rfl
    clear hv1 hv2 f1 f2 hnan hinf hsg W1 D0 hV0
    generalize whl s a = u1 at *
    generalize whl s b = u2 at *
    generalize pwr s a = p1 at *
    generalize pwr s b = p2 at *
    obtain ⟨a1, a2, a3, a4⟩ := F1
    obtain ⟨d1, d2, d3, d4⟩ := F2
    obtain ⟨X, rfl⟩ := Int.eq_ofNat_of_zero_le a1.1
    have u2p : 0 < u2 := by have := d1.1; omega
    have hbt := rbits_any X (by omega)
    have hX := lt_blen X
    have hX1 : 1 ≤ blen X := (blen_le (by omega)).2
    have hX2 : blen X ≤ 64 := blen_le_of (Nat.lt_of_lt_of_le (by omega : X < 2 ^ 53) (by decide))
    rw [Int.toNat_natCast]
    unfold divT
    generalize blen X = nl at *
    have HX : Hid _ := hX
    clear hX
    have hlt : 2 * (X * 2 ^ 130 / u2.toNat) + (decide (X * 2 ^ 130 % u2.toNat ≠ 0)).toNat < 2 ^ (1 + (nl + 130)) := by
      have q1 : X * 2 ^ 130 / u2.toNat ≤ X * 2 ^ 130 := Nat.div_le_self _ _
      have q2 : X * 2 ^ 130 < 2 ^ nl * 2 ^ 130 := Nat.mul_lt_mul_of_pos_right HX.out (by decide)
      rw [← Nat.pow_add] at q2
      rw [Nat.pow_add 2 1]
      have q3 := Bool.toNat_le (decide (X * 2 ^ 130 % u2.toNat ≠ 0))
      omega
    have HLT : Hid _ := hlt
    clear hlt
    have hquot := fun q cap w row hq => rquot_any q nl cap X u2 d1 u2p d2 HX.out hX2 w row hq
    generalize hQ : X * 2 ^ 130 / u2.toNat = QQ at *
    generalize hM : decide (X * 2 ^ 130 % u2.toNat ≠ 0) = MM at *
    clear hQ hM
    have hcons : ∀ n A : Nat, #[Value.bool MM].toList ++ Bl n A = Bl (1 + n) (2 * A + MM.toNat) := fun n A => by rw [Nat.add_comm 1 n, ← Bl_cons]; rfl
    have HC : Hid _ := hcons
    have lenH : (Bl (nl + 130) QQ).length = (nl + 130) * 1 := by rw [Bl_len, Nat.mul_one]
    have l1H : 1 + (nl + 130) ≤ maxLen := by unfold maxLen; omega
    have l2H : (1 + (nl + 130)) * 1 ≤ 140737488355328 := by omega
    have l3H : 1 + (nl + 130) ≤ 100000 := by omega
    have l4H : -100000 ≤ p1 - p2 - 131 := by omega
    have l5H : p1 - p2 - 131 ≤ 100000 := by omega
    obtain ⟨V, hV⟩ : ∃ V : Int, rnd s m (g1 != g2) (2 * QQ + MM.toNat) (p1 - p2 - 131) = V := ⟨_, rfl⟩
    have HV : Hid _ := hV
    simp only [Bool.or_self, Bool.and_self, Bool.false_eq_true, if_false]
    rw [hV]
    clear hV
    clear hcons a2 z1
    go_enter Try.func17, Try.ntmps17
    go_wp2_with (first
         | (go_at_call_of 44 a; refine (hb1 _).mono ?_; rintro r w1 ⟨rfl, hw⟩; rw [hw]; clear hw w1)
         | (go_at_call_of 44 b; refine (hb2 _).mono ?_; rintro r w1 ⟨rfl, hw⟩; rw [hw]; clear hw w1)
         | (go_at_call_of 45 a; refine (hc1 _).mono ?_; rintro r w1 ⟨rfl, n1, rfl⟩)
         | (go_at_call_of 45 b; refine (hc2 _).mono ?_; rintro r w1 ⟨rfl, n2, rfl⟩)
         | (go_at_call_of 46 a; refine (hn1 _).mono ?_; rintro r w1 ⟨rfl, n3, rfl⟩)
         | (go_at_call_of 46 b; refine (hn2 _).mono ?_; rintro r w1 ⟨rfl, n4, rfl⟩)
         | (go_at_call_of 48 a; refine (hi1 _).mono ?_; rintro r w1 ⟨rfl, n5, rfl⟩)
         | (go_at_call_of 48 b; refine (hi2 _).mono ?_; rintro r w1 ⟨rfl, n6, rfl⟩)
         | (go_at_call_of 50 a; refine (v1 _).mono ?_; rintro r w1 ⟨rfl, rfl⟩)
         | (go_at_call_of 50 b; refine (v2 _).mono ?_; rintro r w1 ⟨rfl, rfl⟩)
         | (go_at_call 55; refine (hbt _).mono ?_; rintro r w2 ⟨v, rfl, own, L2⟩; obtain ⟨q, cap, rfl⟩ := own_some own hX1; obtain ⟨hq, row⟩ := own_row own; have s2 : w.heap.size ≤ w2.heap.size := L2.size)
         | (go_at_call 54; refine (hquot _ _ _ row hq).mono ?_; rintro r w3 ⟨o, rfl, ho1, ho2, row3, L3⟩; have s3 : w.heap.size ≤ w3.heap.size := Nat.le_trans s2 L3.size; have own3 := World.ownsRow_lit (e := 4) (size := 1) (base := w.heap.size) w3 #[.bool MM] 1 s3 (by decide) rfl; have row4 := row_bl (row3.below (below_new (Below.refl w3.heap.size w3) (.cells #[.bool MM] 4)) ho2); have s4 := Nat.le_trans s3 (below_new (Below.refl w3.heap.size w3) (.cells #[.bool MM] 4)).size)
         | (at_builtin; refine wpList_append_own _ rfl _ _ 66 rfl w.heap.size 4 i0 (.bool false) 1 1 Try.underlying66 hi hz0 hz1 hz2 rfl (by decide) _ _ _ rfl own3 ⟨o, 0, none⟩ (nl + 130) (nl + 130) (Bl (nl + 130) QQ) rfl lenH row4 (Bl_one _ _) l1H l2H s4 ?_; intro v4 w4 hown4 hgrow4 _; have hown5 := hown4; rw [HC.out] at hown5; have bv4 := own_bits hown5 HLT.out; clear hown4 hown5; have hR := hrd v4 (1 + (nl + 130)) _ l3H (p1 - p2 - 131) l4H l5H w4 bv4; rw [HV.out] at hR)
         | (go_at_call 37; refine hR.mono ?_; rintro r w5 ⟨rfl, kk, rfl⟩))
    go_ret
    have q1 : Below w.heap.size w w2 := (below_drewN (Below.refl _ _) _).trans L2
    exact ⟨rfl, below_drewN ((below_new (below_call' q1 L3) _).grown hgrow4 s4 (own_block own3)) _⟩
  all_goals
    try rw [W1 rfl, Int.toNat_zero, D0]
    clear hrd hv1 hv2 f1 f2 W1 D0 hV0
    go_enter Try.func17, Try.ntmps17
    go_wp2_with (first
         | (go_at_call_of 44 a; refine (hb1 _).mono ?_; rintro r w1 ⟨rfl, hw⟩; rw [hw]; clear hw w1)
         | (go_at_call_of 44 b; refine (hb2 _).mono ?_; rintro r w1 ⟨rfl, hw⟩; rw [hw]; clear hw w1)
         | (go_at_call_of 45 a; refine (hc1 _).mono ?_; rintro r w1 ⟨rfl, n1, rfl⟩)
         | (go_at_call_of 45 b; refine (hc2 _).mono ?_; rintro r w1 ⟨rfl, n2, rfl⟩)
         | (go_at_call_of 46 a; refine (hn1 _).mono ?_; rintro r w1 ⟨rfl, n3, rfl⟩)
         | (go_at_call_of 46 b; refine (hn2 _).mono ?_; rintro r w1 ⟨rfl, n4, rfl⟩)
         | (go_at_call_of 48 a; refine (hi1 _).mono ?_; rintro r w1 ⟨rfl, n5, rfl⟩)
         | (go_at_call_of 48 b; refine (hi2 _).mono ?_; rintro r w1 ⟨rfl, n6, rfl⟩)
         | (go_at_call 47; refine (hnan _).mono ?_; rintro r w1 ⟨rfl, rfl⟩)
         | (go_at_call 53; refine (hsg _).mono ?_; rintro r w1 ⟨rfl, hw⟩; rw [hw]; clear hw w1)
         | (go_at_call 49; refine (hinf _).mono ?_; rintro r w1 ⟨rfl, n7, rfl⟩))
    go_ret
    exact ⟨rfl, below_drewN (Below.refl _ _) _⟩
end Go.Proofs.Ytmfmjinplieehaa

