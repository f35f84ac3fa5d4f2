/- octagon: contradicts, halve. -/
import Derived.Test.YtpcbammncaeimaaOcD
namespace Go.Proofs.Ytpcbammncaeimaa
open Go.RowKit
set_option linter.unusedVariables false
set_option linter.unusedSimpArgs false
set_option maxRecDepth 100000 in
set_option maxHeartbeats 1600000 in
theorem ocon (b n m : Nat) (e : Bool) (M : Mx) (hm : 2 * n = m) (h16 : m ≤ 16) (hd : ∀ a, a < m → 0 ≤ M a (ot a)) (w : World) (h : OctAt w b n e M) :
    Calls Try.prog 88 #[.pointer (some ⟨b, 0, none⟩)] w fun r w' => r = .returned (.bool false) ∧ ∃ k, w' = w.drewN k := by
  have k1 := fun V hV => osides b n m e M hm h16 V hV
  have k3 := fun a (ha : a < m) => oother a (by omega)
  have hlt : ∀ a, a < m → ot a < 16 := fun a ha => by have := ot_lt (n := n) (a := a) (by omega); omega
  clear hm
  go_enter Try.func88, Try.ntmps88
  go_wp2_with (first
    | (go_at_call 41; refine (k1 _ h).mono ?_; rintro r w2 ⟨rfl, hw2⟩; subst w2)
    | fail)
  clear k1
  go_loopw [6] (fun i wr => ∃ (WR : World) (a : Nat), WR = wr ∧ a ≤ m ∧ i = .int .i64 a ∧ OctAt wr b n e M ∧ Hid (∃ k, wr = w.drewN k)) (fun i _ => m - (intOf i).toNat)
  case atStart => exact ⟨_, 0, rfl, by omega, rfl, h, ⟨0, rfl⟩⟩
  case round =>
    obtain ⟨WR, a, rfl, ha, rfl, hO, hk⟩ := hrel
    clear h
    by_cases ca : a < m
    · have ca' : (a : Int) < (m : Int) := by omega
      have k3a := k3 a ca
      have x1 := oix b a (by omega)
      have x2 := oiy b (2 + a * 16) (ot a) (hlt a ca)
      have y0 := hO.hm a (ot a) (by omega) (hlt a ca)
      have y1 : ¬ M a (ot a) < 0 := by have := hd a ca; omega
      have wc : IntKind.i64.wrap ((a : Int) + 1) = ((a + 1 : Nat) : Int) := by rw [IntKind.wrap_i64]; omega
      generalize M a (ot a) = y at *
      generalize ot a = q at *
      clear hd hlt k3
      go_upto_region 4 with fail
      go_quiet (first
        | (go_at_call 80; exact Calls.quiet_of ((k3a _).mono fun r w' q => ⟨q.1, 0, q.2⟩))
        | fail)
      go_wp2_with fail
      obtain ⟨k, hk⟩ := hk.out
      exact ⟨⟨_, a + 1, rfl, by omega, by simp, hO.drewN _, ⟨_, by rw [hk, World.drewN_drewN]⟩⟩, by simp [intOf]; omega⟩
    · have ea : a = m := by omega
      subst ea
      clear ca ha
      go_wp2_with fail
      go_ret
      exact ⟨rfl, hk.out⟩
theorem hlv_now {m a c : Nat} (M : Mx) (i : Nat) : fh (pm m a c (hlv M) M i i) = fh (M i i) := by
  unfold pm
  split
  · exact hlv_fh M i
  · rfl
set_option maxRecDepth 100000 in
set_option maxHeartbeats 1600000 in
theorem ohal (b n m : Nat) (e : Bool) (M : Mx) (hm : 2 * n = m) (h16 : m ≤ 16) (hs : ∀ a c, a < m → c < m → -4611686018427387904 ≤ M a c ∧ M a c ≤ 4611686018427387903) (w : World) (h : OctAt w b n e M) :
    Calls Try.prog 89 #[.pointer (some ⟨b, 0, none⟩)] w fun r w' => (∃ l, r = .returned (.bool l) ∧ (l = false → ∀ a c, a < m → c < m → hlv M a c = M a c) ∧ (l = true → ∃ a c, a < m ∧ c < m ∧ hlv M a c < M a c)) ∧ OctAt w' b n e (pm m m 0 (hlv M) M) ∧ Onl b w w' := by
  have k1 := fun V M hV => osides b n m e M hm h16 V hV
  have k2 := fun V M a ha hV => orow b n m e M hm h16 a ha V hV
  clear hm
  obtain ⟨G, hG⟩ : ∃ G, hlv M = G := ⟨_, rfl⟩
  have gd : ∀ a c, G a c = min (M a c) (fh (M a a) + fh (M c c)) := fun a c => by rw [← hG]; rfl
  have hf : ∀ a c i, fh (pm m a c G M i i) = fh (M i i) := fun a c i => by rw [← hG]; exact hlv_now M i
  rw [hG]
  clear hG
  go_enter Try.func89, Try.ntmps89
  go_wp2_with (first
    | (go_at_call 41; refine (k1 _ _ h).mono ?_; rintro r w2 ⟨rfl, hw2⟩; subst w2)
    | fail)
  clear k1
  go_loopw [3, 10] (fun l i wr => ∃ (WR : World) (a : Nat) (lw : Bool), WR = wr ∧ a ≤ m ∧ l = .bool lw ∧ i = .int .i64 a ∧ Hid (lw = false → ∀ x y, x < m → y < m → pm m a 0 G M x y = M x y) ∧ Hid (lw = true → ∃ x y, x < m ∧ y < m ∧ G x y < M x y) ∧ OctAt wr b n e (pm m a 0 G M) ∧ Onl b w wr) (fun _ i _ => m - (intOf i).toNat)
  case atStart => exact ⟨_, 0, false, rfl, by omega, rfl, rfl, (fun _ x y _ _ => by rw [pm_0]), (fun q => by cases q), by rw [pm_0]; exact h, Onl.refl _ _⟩
  case round =>
    obtain ⟨WR, a, lw, rfl, ha, rfl, rfl, hl0, hl1, hO, cc⟩ := hrel
    clear h
    by_cases ca : a < m
    · have ca' : (a : Int) < (m : Int) := by omega
      go_wp2_with (first
        | (go_at_call 42; refine (k2 _ _ a ca hO).mono ?_; rintro r w2 ⟨rfl, k9, rfl⟩; replace hO := hO.drewN k9; replace cc := cc.drewN k9)
        | fail)
      go_loopw [3, 18] (fun l i wr => ∃ (WS : World) (c : Nat) (lw : Bool), WS = wr ∧ c ≤ m ∧ l = .bool lw ∧ i = .int .i64 c ∧ Hid (lw = false → ∀ x y, x < m → y < m → pm m a c G M x y = M x y) ∧ Hid (lw = true → ∃ x y, x < m ∧ y < m ∧ G x y < M x y) ∧ OctAt wr b n e (pm m a c G M) ∧ Onl b w wr) (fun _ i _ => m - (intOf i).toNat)
      case atStart => exact ⟨_, 0, lw, rfl, by omega, rfl, rfl, hl0, hl1, hO, cc⟩
      case round =>
        clear hO cc hl0 hl1
        obtain ⟨WS, c, lv, rfl, hc, rfl, rfl, hl0, hl1, hO, cc⟩ := hrel
        by_cases cx : c < m
        · have cx' : (c : Int) < (m : Int) := by omega
          have hz := oiz b (2 + a * 16) m m c cx
          have x1 := oix b a (by omega)
          have x2 := oiy b (2 + a * 16) a (by omega)
          have x3 := oix b c (by omega)
          have x4 := oiy b (2 + c * 16) c (by omega)
          have hfz := hO.hf (2 + a * 16 + c)
          have y1 := hO.hm a a (by omega) (by omega)
          have y2 := hO.hm c c (by omega) (by omega)
          have y3 := hO.hm a c (by omega) (by omega)
          rw [pm_at G M (show ¬ ((a < a ∧ c < m) ∨ (a = a ∧ c < c)) by omega)] at y3
          have f1 := hf a c a
          have f2 := hf a c c
          have wc : IntKind.i64.wrap ((c : Int) + 1) = ((c + 1 : Nat) : Int) := by rw [IntKind.wrap_i64]; omega
          have eg := gd a c
          have hset := fun k0 => ((hO.drewN k0).set (x := a) (y := c) (by omega) (by omega) (G a c)).congr (pm_step G M cx)
          have hon := fun k0 => (cc.drewN k0).set (j := 2 + a * 16 + c) (.int .i64 (G a c))
          have hskip : G a c = M a c → ∀ x y, pm m a c G M x y = pm m a (c + 1) G M x y := fun q x y => by
            unfold pm
            by_cases r : x = a ∧ y = c
            · rw [r.1, r.2, if_neg (by omega), if_pos (by omega), q]
            · by_cases r2 : (x < a ∧ y < m) ∨ (x = a ∧ y < c)
              · rw [if_pos r2, if_pos (by omega)]
              · rw [if_neg r2, if_neg (by omega)]
          have b1 := hs a a ca ca
          have b2 := hs c c cx cx
          have ws : IntKind.i64.wrap (fh (M a a) + fh (M c c)) = fh (M a a) + fh (M c c) := by rw [IntKind.wrap_i64]; unfold fh; omega
          have r1 : -9223372036854775808 ≤ pm m a c G M a a ∧ pm m a c G M a a ≤ 9223372036854775807 := by unfold fh at f1; omega
          have r2 : -9223372036854775808 ≤ pm m a c G M c c ∧ pm m a c G M c c ≤ 9223372036854775807 := by unfold fh at f2; omega
          have h1 := ohalf _ r1.1 r1.2
          have h2 := ohalf _ r2.1 r2.2
          rw [f1] at h1
          rw [f2] at h2
          clear hf gd hs b1 b2 r1 r2 f1 f2 k2
          by_cases hlt : fh (M a a) + fh (M c c) < M a c
          · have n1 : ∃ x y, x < m ∧ y < m ∧ G x y < M x y := ⟨a, c, ca, cx, by rw [eg]; omega⟩
            have eg2 : G a c = fh (M a a) + fh (M c c) := by rw [eg]; omega
            clear eg hskip
            generalize pm m a c G M a a = X at *
            generalize pm m a c G M c c = Y at *
            generalize fh (M a a) = F1 at *
            generalize fh (M c c) = F2 at *
            generalize M a c = z at *
            rw [eg2] at hset hon
            clear eg2
            go_upto_region 9 with fail
            go_quiet (first
              | (go_at_call_of 112 X; exact Calls.quiet_of ((h1 _).mono fun r w' q => ⟨q.1, 0, q.2⟩))
              | (go_at_call_of 112 Y; exact Calls.quiet_of ((h2 _).mono fun r w' q => ⟨q.1, 0, q.2⟩))
              | fail)
            go_wp2_with fail
            exact ⟨⟨_, c + 1, true, rfl, by omega, rfl, by simp, (fun q => by cases q), (fun _ => n1), hset _, hon _⟩, by simp [intOf]; omega⟩
          · have eg2 : G a c = M a c := by rw [eg]; omega
            replace hskip := hskip eg2
            clear eg eg2 hset hon
            generalize pm m a c G M a a = X at *
            generalize pm m a c G M c c = Y at *
            generalize fh (M a a) = F1 at *
            generalize fh (M c c) = F2 at *
            generalize M a c = z at *
            go_upto_region 9 with fail
            go_quiet (first
              | (go_at_call_of 112 X; exact Calls.quiet_of ((h1 _).mono fun r w' q => ⟨q.1, 0, q.2⟩))
              | (go_at_call_of 112 Y; exact Calls.quiet_of ((h2 _).mono fun r w' q => ⟨q.1, 0, q.2⟩))
              | fail)
            go_wp2_with fail
            exact ⟨⟨_, c + 1, lv, rfl, by omega, rfl, by simp, (fun q x y hx hy => (hskip x y).symm.trans (hl0.out q x y hx hy)), hl1, (hO.drewN _).congr fun i j _ _ => hskip i j, cc.drewN _⟩, by simp [intOf]; omega⟩
        · have ec : c = m := by omega
          subst ec
          clear cx hc
          have wa : IntKind.i64.wrap ((a : Int) + 1) = ((a + 1 : Nat) : Int) := by rw [IntKind.wrap_i64]; omega
          go_wp2_with fail
          go_roundw
          case rel => exact ⟨_, a + 1, lv, rfl, by omega, rfl, by first | rfl | go_num, (fun q x y hx hy => (pm_row G M x y (by omega) (by omega)).symm.trans (hl0.out q x y hx hy)), hl1, hO.congr (pm_row G M), cc⟩
          case measure => simp [intOf]; omega
    · have ea : a = m := by omega
      subst ea
      clear ca ha
      go_wp2_with fail
      go_ret
      exact ⟨⟨lw, rfl, (fun q x y hx hy => (pm_all G M hx hy).symm.trans (hl0.out q x y hx hy)), hl1.out⟩, hO, cc⟩
end Go.Proofs.Ytpcbammncaeimaa
