/- octagon: goOver of any bounds, contradicts, drain. -/
import Derived.Test.YtpcbammncaeimaaOcS
import Derived.Test.YtpcbammncaeimaaOdM
namespace Go.Proofs.Ytpcbammncaeimaa
open Go.RowKit
set_option linter.unusedVariables false
set_option linter.unusedSimpArgs false
/-- Bounds not above others, of the sides that are there. -/
def Lm (m : Nat) (A B : Mx) : Prop := ∀ a b, a < m → b < m → A a b ≤ B a b
theorem Lm.up {m : Nat} {X M : Mx} (h : Lm m X M) {x y : Nat} (hx : x < m) (hy : y < m) {v : Int} (hv : v ≤ X x y) : Lm m (up1 X x y v) M := fun i j hi hj => by
  unfold up1
  split
  · rename_i q
    rw [q.1, q.2]
    exact Int.le_trans hv (h x y hx hy)
  · exact h i j hi hj
set_option maxRecDepth 100000 in
set_option maxHeartbeats 1600000 in
theorem ogo2 (b n m : Nat) (e : Bool) (M : Mx) (hm : 2 * n = m) (h16 : m ≤ 16) (k : Nat) (hk : k < m) (w : World) (h : OctAt w b n e M) :
    Calls Try.prog 87 #[.pointer (some ⟨b, 0, none⟩), .int .i64 k] w fun r w' => r = .returned (.tuple #[]) ∧ (∃ X, OctAt w' b n e X ∧ Lm m X M) ∧ Onl b w w' := by
  have k1 := fun V M hV => osides b n m e M hm h16 V hV
  have k2 := fun V M a ha hV => orow b n m e M hm h16 a ha V hV
  have k3 := oother k (by omega)
  have hok : ot k < m := by have := ot_lt (n := n) (a := k) (by omega); omega
  clear hm
  obtain ⟨q, hq⟩ : ∃ q, ot k = q := ⟨_, rfl⟩
  rw [hq] at k3 hok
  clear hq
  go_enter Try.func87, Try.ntmps87
  go_wp2_with (first
    | (go_at_call 80; refine (k3 _).mono ?_; rintro r w1 ⟨rfl, hw⟩; subst w1)
    | (go_at_call 42; refine (k2 _ _ q hok h).mono ?_; rintro r w1 ⟨rfl, k0, rfl⟩; replace h := h.drewN k0)
    | (go_at_call 41; refine (k1 _ _ h).mono ?_; rintro r w2 ⟨rfl, hw2⟩; subst w2)
    | fail)
  have c0 : Onl b w (w.drewN k0) := (Onl.refl _ _).drewN _
  clear k1 k3
  go_loopw [15] (fun i wr => ∃ (WR : World) (a : Nat) (X : Mx), WR = wr ∧ a ≤ m ∧ i = .int .i64 a ∧ OctAt wr b n e X ∧ Hid (Lm m X M) ∧ Onl b w wr) (fun i _ => m - (intOf i).toNat)
  case atStart => exact ⟨_, 0, M, rfl, by omega, rfl, h, (fun _ _ _ _ => Int.le_refl _), c0⟩
  case round =>
    obtain ⟨WR, a, X, rfl, ha, rfl, hO, hX, cc⟩ := hrel
    clear h c0
    by_cases ca : a < m
    · have ca' : (a : Int) < (m : Int) := by omega
      have hz1 := oiz b (2 + a * 16) m m k hk
      have y0 := hO.hm a k (by omega) (by omega)
      obtain ⟨y, hy⟩ : ∃ y, X a k = y := ⟨_, rfl⟩
      rw [hy] at y0
      clear hy
      go_wp2_with (first
        | (go_at_call 42; refine (k2 _ _ a ca hO).mono ?_; rintro r w2 ⟨rfl, k9, rfl⟩; replace hO := hO.drewN k9; replace cc := cc.drewN k9; replace y0 : (WR.drewN k9).cell? ⟨b, 2 + a * 16 + k, none⟩ = some (.int .i64 y) := y0)
        | fail)
      go_loopw [27] (fun i wr => ∃ (WS : World) (c : Nat) (Y : Mx), WS = wr ∧ c ≤ m ∧ i = .int .i64 c ∧ OctAt wr b n e Y ∧ Hid (Lm m Y M) ∧ Onl b w wr) (fun i _ => m - (intOf i).toNat)
      case atStart => exact ⟨_, 0, X, rfl, by omega, rfl, hO, hX, cc⟩
      case round =>
        clear hO cc y0 hX
        obtain ⟨WS, c, Y, rfl, hc, rfl, hO, hY, cc⟩ := hrel
        by_cases cx : c < m
        · have cx' : (c : Int) < (m : Int) := by omega
          have hz := oiz b (2 + a * 16) m m c cx
          have hzq := oiz b (2 + q * 16) m m c cx
          have hfz := hO.hf (2 + a * 16 + c)
          have x0 := hO.hm a c (by omega) (by omega)
          have z0 := hO.hm q c (by omega) (by omega)
          have wc : IntKind.i64.wrap ((c : Int) + 1) = ((c + 1 : Nat) : Int) := by rw [IntKind.wrap_i64]; omega
          obtain ⟨s, hs⟩ : ∃ s, IntKind.i64.wrap (y + Y q c) = s := ⟨_, rfl⟩
          have hset := hO.set (x := a) (y := c) (by omega) (by omega) (if s < Y a c then s else Y a c)
          have hY2 : Hid (Lm m (up1 Y a c (if s < Y a c then s else Y a c)) M) := hY.out.up ca cx (by split <;> omega)
          have hon := cc.set (j := 2 + a * 16 + c) (.int .i64 (if s < Y a c then s else Y a c))
          generalize up1 Y a c (if s < Y a c then s else Y a c) = Y2 at *
          generalize Y a c = x at *
          generalize Y q c = z at *
          clear k2 hz1 hY
          go_wp2_with fail
          go_region
          go_wp2_with fail
          exact ⟨⟨_, c + 1, Y2, rfl, by omega, by simp, hset.drew, hY2, hon.drew⟩, by simp [intOf]; omega⟩
        · have ec : c = m := by omega
          subst ec
          clear cx hc
          have wa : IntKind.i64.wrap ((a : Int) + 1) = ((a + 1 : Nat) : Int) := by rw [IntKind.wrap_i64]; omega
          go_wp2_with fail
          go_roundw
          case rel => exact ⟨_, a + 1, Y, rfl, by omega, by first | rfl | go_num, hO, hY, cc⟩
          case measure => simp [intOf]; omega
    · have ea : a = m := by omega
      subst ea
      clear ca ha
      go_wp2_with fail
      exact bodyPost_end (results_none rfl _ _ _) rfl ⟨rfl, ⟨X, hO, hX.out⟩, cc⟩
set_option maxRecDepth 100000 in
set_option maxHeartbeats 1600000 in
theorem ocon2 (b n m : Nat) (e : Bool) (M : Mx) (hm : 2 * n = m) (h16 : m ≤ 16) (w : World) (h : OctAt w b n e M) :
    Calls Try.prog 88 #[.pointer (some ⟨b, 0, none⟩)] w fun r w' => (∃ l, r = .returned (.bool l) ∧ (l = false → ∀ a, a < m → 0 ≤ M a (ot a)) ∧ (l = true → ∃ a, a < m ∧ M a (ot a) < 0)) ∧ ∃ k, w' = w.drewN k := by
  have k1 := fun V hV => osides b n m e M hm h16 V hV
  have k3 := fun a (ha : a < m) => oother a (by omega)
  have hlt : ∀ a, a < m → ot a < 16 := fun a ha => by have := ot_lt (n := n) (a := a) (by omega); omega
  clear hm
  go_enter Try.func88, Try.ntmps88
  go_wp2_with (first
    | (go_at_call 41; refine (k1 _ h).mono ?_; rintro r w2 ⟨rfl, hw2⟩; subst w2)
    | fail)
  clear k1
  go_loopw [6] (fun i wr => ∃ (WR : World) (a : Nat), WR = wr ∧ a ≤ m ∧ i = .int .i64 a ∧ OctAt wr b n e M ∧ Hid (∀ x, x < a → 0 ≤ M x (ot x)) ∧ Hid (∃ k, wr = w.drewN k)) (fun i _ => m - (intOf i).toNat)
  case atStart => exact ⟨_, 0, rfl, by omega, rfl, h, (fun x hx => by omega), ⟨0, rfl⟩⟩
  case round =>
    obtain ⟨WR, a, rfl, ha, rfl, hO, hP, hk⟩ := hrel
    clear h
    by_cases ca : a < m
    · have ca' : (a : Int) < (m : Int) := by omega
      have k3a := k3 a ca
      have x1 := oix b a (by omega)
      have x2 := oiy b (2 + a * 16) (ot a) (hlt a ca)
      have y0 := hO.hm a (ot a) (by omega) (hlt a ca)
      have wc : IntKind.i64.wrap ((a : Int) + 1) = ((a + 1 : Nat) : Int) := by rw [IntKind.wrap_i64]; omega
      by_cases y1 : M a (ot a) < 0
      · have hN : Hid (∃ a, a < m ∧ M a (ot a) < 0) := ⟨a, ca, y1⟩
        generalize M a (ot a) = y at *
        generalize ot a = q at *
        clear hlt k3
        go_upto_region 4 with fail
        go_quiet (first
          | (go_at_call 80; exact Calls.quiet_of ((k3a _).mono fun r w' q => ⟨q.1, 0, q.2⟩))
          | fail)
        go_wp2_with fail
        obtain ⟨k, hk⟩ := hk.out
        go_ret
        exact ⟨⟨true, rfl, (fun q => by cases q), fun _ => hN.out⟩, _, by rw [hk, World.drewN_drewN]⟩
      · have hP2 : Hid (∀ x, x < a + 1 → 0 ≤ M x (ot x)) := fun x hx => by
          by_cases q : x = a
          · rw [q]; omega
          · exact hP.out x (by omega)
        generalize M a (ot a) = y at *
        generalize ot a = q at *
        clear hlt k3
        go_upto_region 4 with fail
        go_quiet (first
          | (go_at_call 80; exact Calls.quiet_of ((k3a _).mono fun r w' q => ⟨q.1, 0, q.2⟩))
          | fail)
        go_wp2_with fail
        obtain ⟨k, hk⟩ := hk.out
        exact ⟨⟨_, a + 1, rfl, by omega, by simp, hO.drewN _, hP2, ⟨_, by rw [hk, World.drewN_drewN]⟩⟩, by simp [intOf]; omega⟩
    · have ea : a = m := by omega
      subst ea
      clear ca ha
      go_wp2_with fail
      go_ret
      exact ⟨⟨false, rfl, (fun _ => hP.out), fun q => by cases q⟩, hk.out⟩
end Go.Proofs.Ytpcbammncaeimaa
