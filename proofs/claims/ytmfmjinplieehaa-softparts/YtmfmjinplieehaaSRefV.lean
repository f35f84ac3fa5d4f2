/- The reference's Mul. -/
import Derived.Test.YtmfmjinplieehaaSRefU
namespace Go.Proofs.Ytmfmjinplieehaa
open Go.RowKit
set_option linter.unusedVariables false
set_option linter.unusedSimpArgs false
/-- What a float is, as the reference asks it: no number, infinite, zero, none of these. -/
theorem kinds4 (k : Int) : ((k == 0 || k == 5) = true ∧ (k == 4) = false ∧ (k == 1) = false) ∨ ((k == 0 || k == 5) = false ∧ (k == 4) = true ∧ (k == 1) = false) ∨ ((k == 0 || k == 5) = false ∧ (k == 4) = false ∧ (k == 1) = true) ∨ ((k == 0 || k == 5) = false ∧ (k == 4) = false ∧ (k == 1) = false) := by
  by_cases c1 : k = 0
  · subst c1; decide
  · by_cases c2 : k = 5
    · subst c2; decide
    · by_cases c3 : k = 4
      · subst c3; decide
      · by_cases c4 : k = 1
        · subst c4; decide
        · simp [c1, c2, c3, c4]
theorem wide_not {s : Bool} {a : Int} (h : (cls s a == 0 || cls s a == 5) = false) : wideB s a = false := by
  cases c : wideB s a
  · rfl
  · exfalso
    have : cls s a = 0 := by unfold cls; rw [c]; rfl
    rw [this] at h
    exact absurd h (by decide)
theorem fin_word {s : Bool} {u p : Int} (h : Fin s u p) : Word u ∧ u < 9007199254740992 ∧ -1074 ≤ p ∧ p ≤ 2000 := by
  obtain ⟨a, b, c, d, e⟩ := h
  cases s
  · have b' : u < 9007199254740992 := b
    have c' : -1074 ≤ p := c
    exact ⟨⟨a, by omega⟩, b', c', d⟩
  · have b' : u < 16777216 := b
    have c' : -149 ≤ p := c
    exact ⟨⟨a, by omega⟩, by omega, by omega, d⟩
set_option maxRecDepth 20000 in
set_option maxHeartbeats 6400000 in
theorem rmulF_any (s : Bool) (m a b : Int) (h1 : Word a) (h2 : Word b) (w : World) :
    Calls Try.prog 15 #[.int .i64 (fb s), .int .i64 m, .int .u64 a, .int .u64 b] w fun r w' => r = .returned (.int .u64 (mulF s m a b)) ∧ Below w.heap.size w w' := by
  have hb1 := rbelow_any s a
  have hb2 := rbelow_any s b
  have hc1 := rclass_any s a h1
  have hc2 := rclass_any s b h2
  have hn1 := risNan_any s a h1
  have hn2 := risNan_any s b h2
  have hi1 := risInf_any s a h1
  have hi2 := risInf_any s b h2
  have hnan := rnan_any s
  have hinf := rinf_any s (sgn s a != sgn s b)
  have hrd := fun (v : Value) (n A : Nat) => rounded_any s m (sgn s a != sgn s b) v n A
  have hv1 := fun h => rvalue_any s a h1 (wide_not h)
  have hv2 := fun h => rvalue_any s b h2 (wide_not h)
  have f1 := fin_of s a h1
  have f2 := fin_of s b h2
  have K1 := kinds4 (cls s a)
  have K2 := kinds4 (cls s b)
  unfold mulF
  generalize hN1 : (cls s a == 0 || cls s a == 5) = N1 at *
  generalize hN2 : (cls s b == 0 || cls s b == 5) = N2 at *
  generalize hI1 : (cls s a == 4) = I1 at *
  generalize hI2 : (cls s b == 4) = I2 at *
  generalize hZ1 : (cls s a == 1) = Z1 at *
  generalize hZ2 : (cls s b == 1) = Z2 at *
  generalize cls s a = c1 at *
  generalize cls s b = c2 at *
  clear hN1 hN2 hI1 hI2
  generalize fb s = f at *
  generalize sgn s a = g1 at *
  generalize sgn s b = g2 at *
  generalize fNan s = Q at *
  generalize hV : sgnd s (g1 != g2) (fI s) = VI at *
  clear hV
  rcases K1 with ⟨rfl, rfl, rfl⟩ | ⟨rfl, rfl, rfl⟩ | ⟨rfl, rfl, rfl⟩ | ⟨rfl, rfl, rfl⟩ <;> rcases K2 with ⟨rfl, rfl, rfl⟩ | ⟨rfl, rfl, rfl⟩ | ⟨rfl, rfl, rfl⟩ | ⟨rfl, rfl, rfl⟩
  all_goals
    first
    | (have F1 := fin_word (f1 rfl rfl).1
       have F2 := fin_word (f2 rfl rfl).1
       have v1 := hv1 rfl
       have v2 := hv2 rfl
       clear hv1 hv2 f1 f2 hnan hinf
       generalize whl s a = u1 at *
       generalize whl s b = u2 at *
       generalize pwr s a = p1 at *
       generalize pwr s b = p2 at *
       obtain ⟨a1, a2, a3, a4⟩ := F1
       obtain ⟨d1, d2, d3, d4⟩ := F2
       have hmu := rmul_any u1 u2 a1 d1
       have hbits := fun (h l : Int) (wh : Word h) (wl : Word l) => bits_any h l wh wl
       go_enter Try.func15, Try.ntmps15
       go_wp2_with (first
         | (go_at_call_of 44 a; refine (hb1 _).mono ?_; rintro r w1 ⟨rfl, hw⟩; rw [hw]; clear hw w1)
         | (go_at_call_of 44 b; refine (hb2 _).mono ?_; rintro r w1 ⟨rfl, hw⟩; rw [hw]; clear hw w1)
         | (go_at_call_of 45 a; refine (hc1 _).mono ?_; rintro r w1 ⟨rfl, n1, rfl⟩)
         | (go_at_call_of 45 b; refine (hc2 _).mono ?_; rintro r w1 ⟨rfl, n2, rfl⟩)
         | (go_at_call_of 46 a; refine (hn1 _).mono ?_; rintro r w1 ⟨rfl, n3, rfl⟩)
         | (go_at_call_of 46 b; refine (hn2 _).mono ?_; rintro r w1 ⟨rfl, n4, rfl⟩)
         | (go_at_call_of 48 a; refine (hi1 _).mono ?_; rintro r w1 ⟨rfl, n5, rfl⟩)
         | (go_at_call_of 48 b; refine (hi2 _).mono ?_; rintro r w1 ⟨rfl, n6, rfl⟩)
         | (go_at_call_of 50 a; refine (v1 _).mono ?_; rintro r w1 ⟨rfl, rfl⟩)
         | (go_at_call_of 50 b; refine (v2 _).mono ?_; rintro r w1 ⟨rfl, rfl⟩)
         | (go_at_call 51; refine (hmu _).mono ?_; rintro r w2 ⟨xh, xl, rfl, wh, wl, hm, hbe⟩)
         | (go_at_call 36; refine (hbits _ _ wh wl _).mono ?_; rintro r w3 ⟨bb, rfl, hs1, hs2, row, fre, hbe2⟩; have bv : BitV w3 (.slice (some ⟨bb, 0, none⟩) 128 128) 128 (N xh xl) := ⟨N_lt wh wl, Or.inr ⟨bb, 128, rfl, hs2, row⟩⟩)
         | (go_at_call 37; refine (hrd _ _ _ (by decide) _ (by omega) (by omega) _ bv).mono ?_; rintro r w4 ⟨rfl, kk, rfl⟩))
       go_ret
       refine ⟨u64r_eq ?_, ?_⟩
       · have e : N xh xl = u1.toNat * u2.toNat := nn_mul a1 d1 wh wl hm.out
         rw [e]
       · have q1 : Below w.heap.size w w2 := (below_drewN (Below.refl _ _) _).trans hbe
         exact below_drewN ((below_new q1 _).trans (hbe2.mono (below_new q1 _).size)) _)
    | (clear hrd hv1 hv2 f1 f2
       go_enter Try.func15, Try.ntmps15
       go_wp2_with (first
         | (go_at_call_of 44 a; refine (hb1 _).mono ?_; rintro r w1 ⟨rfl, hw⟩; rw [hw]; clear hw w1)
         | (go_at_call_of 44 b; refine (hb2 _).mono ?_; rintro r w1 ⟨rfl, hw⟩; rw [hw]; clear hw w1)
         | (go_at_call_of 45 a; refine (hc1 _).mono ?_; rintro r w1 ⟨rfl, n1, rfl⟩)
         | (go_at_call_of 45 b; refine (hc2 _).mono ?_; rintro r w1 ⟨rfl, n2, rfl⟩)
         | (go_at_call_of 46 a; refine (hn1 _).mono ?_; rintro r w1 ⟨rfl, n3, rfl⟩)
         | (go_at_call_of 46 b; refine (hn2 _).mono ?_; rintro r w1 ⟨rfl, n4, rfl⟩)
         | (go_at_call_of 48 a; refine (hi1 _).mono ?_; rintro r w1 ⟨rfl, n5, rfl⟩)
         | (go_at_call_of 48 b; refine (hi2 _).mono ?_; rintro r w1 ⟨rfl, n6, rfl⟩)
         | (go_at_call 47; refine (hnan _).mono ?_; rintro r w1 ⟨rfl, rfl⟩)
         | (go_at_call 49; refine (hinf _).mono ?_; rintro r w1 ⟨rfl, n7, rfl⟩))
       go_ret
       exact ⟨rfl, below_drewN (Below.refl _ _) _⟩)
end Go.Proofs.Ytmfmjinplieehaa

