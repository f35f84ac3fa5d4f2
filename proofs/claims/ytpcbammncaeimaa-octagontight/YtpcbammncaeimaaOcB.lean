/- octagon: fill. -/
import Derived.Test.YtpcbammncaeimaaOcA
namespace Go.Proofs.Ytpcbammncaeimaa
open Go.RowKit
set_option linter.unusedVariables false
set_option linter.unusedSimpArgs false
theorem OctAt.congr {W : World} {b n : Nat} {e : Bool} {M M' : Mx} (h : OctAt W b n e M) (q : ∀ i j, i < 16 → j < 16 → M i j = M' i j) : OctAt W b n e M' := ⟨h.hv, h.he, fun i j hi hj => by rw [← q i j hi hj]; exact h.hm i j hi hj, h.hf⟩
/-- One bound is another one. -/
def up1 (M : Mx) (x y : Nat) (v : Int) : Mx := fun i j => if i = x ∧ j = y then v else M i j
theorem OctAt.set {W : World} {b n : Nat} {e : Bool} {M : Mx} (h : OctAt W b n e M) {x y : Nat} (hx : x < 16) (hy : y < 16) (v : Int) : OctAt (W.setCell ⟨b, 2 + x * 16 + y, none⟩ (.int .i64 v)) b n e (up1 M x y v) := by
  refine ⟨?_, ?_, fun i j hi hj => ?_, fun k => by rw [World.frozen?_setCell]; exact h.hf k⟩
  · rw [World.cell?_setCell_other _ _ _ _ (by simp <;> omega)]; exact h.hv
  · rw [World.cell?_setCell_other _ _ _ _ (by simp <;> omega)]; exact h.he
  · unfold up1
    by_cases q : i = x ∧ j = y
    · rw [if_pos q, q.1, q.2]
      exact World.cell?_setCell_same _ _ _ (h.hm x y hx hy)
    · rw [if_neg q, World.cell?_setCell_other _ _ _ _ (by simp <;> omega)]
      exact h.hm i j hi hj
/-- Bounds of which those ahead of (a, c) are new. -/
def pm (m a c : Nat) (G M : Mx) : Mx := fun i j => if (i < a ∧ j < m) ∨ (i = a ∧ j < c) then G i j else M i j
theorem pm_step {m a c : Nat} (G M : Mx) (hc : c < m) : ∀ i j, i < 16 → j < 16 → up1 (pm m a c G M) a c (G a c) i j = pm m a (c + 1) G M i j := by
  intro i j _ _
  unfold up1 pm
  by_cases q : i = a ∧ j = c
  · rw [if_pos q, if_pos (by omega), q.1, q.2]
  · rw [if_neg q]
    by_cases r : (i < a ∧ j < m) ∨ (i = a ∧ j < c)
    · rw [if_pos r, if_pos (by omega)]
    · rw [if_neg r, if_neg (by omega)]
theorem pm_row {m a : Nat} (G M : Mx) : ∀ i j, i < 16 → j < 16 → pm m a m G M i j = pm m (a + 1) 0 G M i j := by
  intro i j _ _
  unfold pm
  by_cases r : (i < a ∧ j < m) ∨ (i = a ∧ j < m)
  · rw [if_pos r, if_pos (by omega)]
  · rw [if_neg r, if_neg (by omega)]
theorem pm_0 (m : Nat) (G M : Mx) : pm m 0 0 G M = M := by
  funext i j
  unfold pm
  rw [if_neg (by omega)]
theorem pm_all {m : Nat} (G M : Mx) {i j : Nat} (hi : i < m) (hj : j < m) : pm m m 0 G M i j = G i j := by
  unfold pm
  rw [if_pos (by omega)]
set_option maxRecDepth 100000 in
set_option maxHeartbeats 3200000 in
theorem ofill (b n m : Nat) (e : Bool) (M : Mx) (hm : 2 * n = m) (h16 : m ≤ 16) (kf : Nat) (caps : Array Value) (eby : ∀ args w, (callFunc kf args).run Try.prog w = .ok (.enter kf args) w) (G : Mx) (I : World → Prop) (hI : ∀ V V', I V → Onl b V V' → I V')
    (hby : ∀ (a c : Nat) V, a < m → c < m → I V → Calls Try.prog kf (#[.int .i64 a, .int .i64 c] ++ caps) V fun r V' => r = .returned (.int .i64 (G a c)) ∧ ∃ k, V' = V.drewN k)
    (w : World) (h : OctAt w b n e M) (h0 : I w) :
    Calls Try.prog 64 #[.pointer (some ⟨b, 0, none⟩), .func (.func kf) #[] caps] w fun r w' => r = .returned (.tuple #[]) ∧ OctAt w' b n e (pm m m 0 G M) ∧ Onl b w w' := by
  have k1 := fun V M hV => osides b n m e M hm h16 V hV
  have k2 := fun V M a ha hV => orow b n m e M hm h16 a ha V hV
  clear hm
  go_enter Try.func64, Try.ntmps64
  go_wp2_with (first
    | (go_at_call 41; refine (k1 _ _ h).mono ?_; rintro r w1 ⟨rfl, hw⟩; subst w1)
    | fail)
  clear k1
  go_loopw [9] (fun i wr => ∃ (WR : World) (a : Nat), WR = wr ∧ a ≤ m ∧ i = .int .i64 a ∧ OctAt wr b n e (pm m a 0 G M) ∧ Onl b w wr) (fun i _ => m - (intOf i).toNat)
  case atStart => exact ⟨_, 0, rfl, by omega, rfl, by rw [pm_0]; exact h, Onl.refl _ _⟩
  case round =>
    obtain ⟨WR, a, rfl, ha, rfl, hO, cc⟩ := hrel
    by_cases ca : a < m
    · have ca' : (a : Int) < (m : Int) := by omega
      go_wp2_with (first
        | (go_at_call 42; refine (k2 _ _ a ca hO).mono ?_; rintro r w1 ⟨rfl, k, rfl⟩)
        | fail)
      replace hO := hO.drewN k
      replace cc := cc.drewN k
      obtain ⟨W0, hW0⟩ : ∃ W0, WR.drewN k = W0 := ⟨_, rfl⟩
      rw [hW0] at hO cc ⊢
      clear hW0
      go_loopw [17] (fun i wr => ∃ (WS : World) (c : Nat), WS = wr ∧ c ≤ m ∧ i = .int .i64 c ∧ OctAt wr b n e (pm m a c G M) ∧ Onl b w wr) (fun i _ => m - (intOf i).toNat)
      case atStart => exact ⟨_, 0, rfl, by omega, rfl, hO, cc⟩
      case round =>
        clear hO cc
        obtain ⟨WS, c, rfl, hc, rfl, hO, cc⟩ := hrel
        by_cases cx : c < m
        · have cx' : (c : Int) < (m : Int) := by omega
          have hz := oiz b (2 + a * 16) m m c cx
          have hfz := hO.hf (2 + a * 16 + c)
          have hcl := hO.hm a c (by omega) (by omega)
          have wc : IntKind.i64.wrap ((c : Int) + 1) = ((c + 1 : Nat) : Int) := by rw [IntKind.wrap_i64]; omega
          go_wp2_with (first
            | (go_at_fn kf; refine (hby a c _ ca cx (hI _ _ h0 cc)).mono ?_; rintro r w1 ⟨rfl, k, rfl⟩)
            | fail)
          exact ⟨⟨_, c + 1, rfl, by omega, by simp, ((hO.drewN k).set (by omega) (by omega) _).congr (pm_step G M cx), (cc.drewN k).set _⟩, by simp [intOf]; omega⟩
        · have ec : c = m := by omega
          subst ec
          clear cx hc
          have wa : IntKind.i64.wrap ((a : Int) + 1) = ((a + 1 : Nat) : Int) := by rw [IntKind.wrap_i64]; omega
          go_wp2_with fail
          go_roundw
          case rel => exact ⟨_, a + 1, rfl, by omega, by first | rfl | go_num, hO.congr (pm_row G M), cc⟩
          case measure => simp [intOf]; omega
    · have ea : a = m := by omega
      subst ea
      clear ca ha
      go_wp2_with fail
      exact bodyPost_end (results_none rfl _ _ _) rfl ⟨rfl, hO, cc⟩
/-- Bounds of the whole box. -/
def bx : Mx := fun a b => if a = ot b then 0 else 17179869184
set_option maxRecDepth 100000 in
theorem obox (a c : Nat) (ha : a < 16) (hc : c < 16) (w : World) : Calls Try.prog 65 #[.int .i64 a, .int .i64 c] w fun r w' => r = .returned (.int .i64 (bx a c)) ∧ w' = w := by
  have k := oother c hc
  unfold bx
  by_cases h : a = ot c
  · rw [if_pos h]
    rw [← h] at k
    go_enter Try.func65, Try.ntmps65
    go_wp2_with (first
      | (go_at_call 80; refine (k _).mono ?_; rintro r w1 ⟨rfl, hw⟩; subst w1)
      | fail)
    go_ret
    exact ⟨rfl, rfl⟩
  · rw [if_neg h]
    have h' : ¬ (a : Int) = (ot c : Int) := by omega
    generalize ot c = d at *
    go_enter Try.func65, Try.ntmps65
    go_wp2_with (first
      | (go_at_call 80; refine (k _).mono ?_; rintro r w1 ⟨rfl, hw⟩; subst w1)
      | fail)
    go_ret
    exact ⟨rfl, rfl⟩
end Go.Proofs.Ytpcbammncaeimaa
