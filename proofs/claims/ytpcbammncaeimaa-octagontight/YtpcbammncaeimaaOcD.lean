/- octagon: goOver. -/
import Derived.Test.YtpcbammncaeimaaOcB
namespace Go.Proofs.Ytpcbammncaeimaa
open Go.RowKit
set_option linter.unusedVariables false
set_option linter.unusedSimpArgs false
theorem pm_at {m a c : Nat} (G M : Mx) {i j : Nat} (h : ¬ ((i < a ∧ j < m) ∨ (i = a ∧ j < c))) : pm m a c G M i j = M i j := by unfold pm; rw [if_neg h]
theorem pm_is {m a c : Nat} {G M : Mx} {i j : Nat} (h : G i j = M i j) : pm m a c G M i j = M i j := by unfold pm; split <;> simp [h]
set_option maxRecDepth 100000 in
set_option maxHeartbeats 1600000 in
theorem ogo (b n m : Nat) (e : Bool) (M : Mx) (hm : 2 * n = m) (h16 : m ≤ 16) (k : Nat) (hk : k < m) (hd : 0 ≤ M (ot k) k) (hs : ∀ a c, a < m → c < m → -4611686018427387904 ≤ M a c ∧ M a c ≤ 4611686018427387903) (w : World) (h : OctAt w b n e M) :
    Calls Try.prog 87 #[.pointer (some ⟨b, 0, none⟩), .int .i64 k] w fun r w' => r = .returned (.tuple #[]) ∧ OctAt w' b n e (pm m m 0 (gov M k) M) ∧ Onl b w w' := by
  have k1 := fun V M hV => osides b n m e M hm h16 V hV
  have k2 := fun V M a ha hV => orow b n m e M hm h16 a ha V hV
  have k3 := oother k (by omega)
  have hok : ot k < m := by have := ot_lt (n := n) (a := k) (by omega); omega
  clear hm
  obtain ⟨q, hq⟩ : ∃ q, ot k = q := ⟨_, rfl⟩
  have gr : ∀ c, gov M k q c = M q c := fun c => by rw [← hq]; exact gov_row hd c
  have gd : ∀ a c, gov M k a c = min (M a c) (M a k + M q c) := fun a c => by rw [← hq]; rfl
  rw [hq] at k3 hok
  clear hq hd
  generalize gov M k = G at *
  go_enter Try.func87, Try.ntmps87
  go_wp2_with (first
    | (go_at_call 80; refine (k3 _).mono ?_; rintro r w1 ⟨rfl, hw⟩; subst w1)
    | (go_at_call 42; refine (k2 _ _ q hok h).mono ?_; rintro r w1 ⟨rfl, k0, rfl⟩; replace h := h.drewN k0)
    | (go_at_call 41; refine (k1 _ _ h).mono ?_; rintro r w2 ⟨rfl, hw2⟩; subst w2)
    | fail)
  have c0 : Onl b w (w.drewN k0) := (Onl.refl _ _).drewN _
  clear k1 k3
  go_loopw [15] (fun i wr => ∃ (WR : World) (a : Nat), WR = wr ∧ a ≤ m ∧ i = .int .i64 a ∧ OctAt wr b n e (pm m a 0 G M) ∧ Onl b w wr) (fun i _ => m - (intOf i).toNat)
  case atStart => exact ⟨_, 0, rfl, by omega, rfl, by rw [pm_0]; exact h, c0⟩
  case round =>
    obtain ⟨WR, a, rfl, ha, rfl, hO, cc⟩ := hrel
    clear h c0
    by_cases ca : a < m
    · have ca' : (a : Int) < (m : Int) := by omega
      have hz1 := oiz b (2 + a * 16) m m k hk
      have y0 := hO.hm a k (by omega) (by omega)
      rw [pm_at G M (by omega)] at y0
      go_wp2_with (first
        | (go_at_call 42; refine (k2 _ _ a ca hO).mono ?_; rintro r w2 ⟨rfl, k9, rfl⟩; replace hO := hO.drewN k9; replace cc := cc.drewN k9; replace y0 : (WR.drewN k9).cell? ⟨b, 2 + a * 16 + k, none⟩ = some (.int .i64 (M a k)) := y0)
        | fail)
      go_loopw [27] (fun i wr => ∃ (WS : World) (c : Nat), WS = wr ∧ c ≤ m ∧ i = .int .i64 c ∧ OctAt wr b n e (pm m a c G M) ∧ Onl b w wr) (fun i _ => m - (intOf i).toNat)
      case atStart => exact ⟨_, 0, rfl, by omega, rfl, hO, cc⟩
      case round =>
        clear hO cc y0
        obtain ⟨WS, c, rfl, hc, rfl, hO, cc⟩ := hrel
        by_cases cx : c < m
        · have cx' : (c : Int) < (m : Int) := by omega
          have hz := oiz b (2 + a * 16) m m c cx
          have hzq := oiz b (2 + q * 16) m m c cx
          have hfz := hO.hf (2 + a * 16 + c)
          have x0 := hO.hm a c (by omega) (by omega)
          have z0 := hO.hm q c (by omega) (by omega)
          rw [pm_at G M (by omega)] at x0
          rw [pm_is (gr c)] at z0
          have wc : IntKind.i64.wrap ((c : Int) + 1) = ((c + 1 : Nat) : Int) := by rw [IntKind.wrap_i64]; omega
          have b1 := hs a k ca hk
          have b2 := hs q c hok cx
          have ws : IntKind.i64.wrap (M a k + M q c) = M a k + M q c := by rw [IntKind.wrap_i64]; omega
          have eg := gd a c
          have hset := (hO.set (x := a) (y := c) (by omega) (by omega) (G a c)).congr (pm_step G M cx)
          have hon := cc.set (j := 2 + a * 16 + c) (.int .i64 (G a c))
          generalize M a c = x at *
          generalize M a k = y at *
          generalize M q c = z at *
          generalize G a c = g at *
          clear b1 b2 hs gr gd k2 hz1
          go_wp2_with fail
          go_region
          go_wp2_with fail
          rw [show (if y + z < x then y + z else x) = g by rw [eg]; split <;> omega]
          exact ⟨⟨_, c + 1, rfl, by omega, by simp, hset.drew, hon.drew⟩, by simp [intOf]; omega⟩
        · have ec : c = m := by omega
          subst ec
          clear cx hc
          have wa : IntKind.i64.wrap ((a : Int) + 1) = ((a + 1 : Nat) : Int) := by rw [IntKind.wrap_i64]; omega
          go_wp2_with fail
          go_roundw
          case rel => exact ⟨_, a + 1, rfl, by omega, by first | rfl | go_num, hO.congr (pm_row G M), cc⟩
          case measure => simp [intOf]; omega
    · have ea : a = m := by omega
      subst ea
      clear ca ha
      go_wp2_with fail
      exact bodyPost_end (results_none rfl _ _ _) rfl ⟨rfl, hO, cc⟩
end Go.Proofs.Ytpcbammncaeimaa
