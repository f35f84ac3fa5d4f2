/- octagon: alike, Within. -/
import Derived.Test.YtpcbammncaeimaaOcH
namespace Go.Proofs.Ytpcbammncaeimaa
open Go.RowKit
set_option linter.unusedVariables false
set_option linter.unusedSimpArgs false
set_option maxRecDepth 100000 in
theorem oalike (b1 b2 n : Nat) (e1 e2 : Bool) (A B : Mx) (w : World) (h1 : OctAt w b1 n e1 A) (h2 : OctAt w b2 n e2 B) : Calls Try.prog 45 #[.pointer (some ⟨b1, 0, none⟩), .pointer (some ⟨b2, 0, none⟩)] w fun r w' => r = .returned (.bool true) ∧ ∃ k, w' = w.drewN k := by
  have v1 := h1.hv
  have v2 := h2.hv
  clear h1 h2
  go_enter Try.func45, Try.ntmps45
  go_upto_region 1 with fail
  go_quiet (fail)
  go_wp2_with fail
  go_ret
  exact ⟨rfl, _, rfl⟩
set_option maxRecDepth 100000 in
set_option maxHeartbeats 1600000 in
theorem owithin (b1 b2 n m : Nat) (hm : 2 * n = m) (h16 : m ≤ 16) (A B : Mx) (hAB : ∀ a c, a < m → c < m → A a c ≤ B a c) (w : World) (h1 : OctAt w b1 n false A) (h2 : OctAt w b2 n false B) :
    Calls Try.prog 16 #[.pointer (some ⟨b1, 0, none⟩), .pointer (some ⟨b2, 0, none⟩)] w fun r w' => r = .returned (.bool true) ∧ Below w.heap.size w w' := by
  have ka := oalike b1 b2 n false false A B w h1 h2
  have ks := fun V hV => osides b1 n m false A hm h16 V hV
  have k1 := fun V a ha hV => orow b1 n m false A hm h16 a ha V hV
  have k2 := fun V a ha hV => orow b2 n m false B hm h16 a ha V hV
  have e1 := h1.he
  have e2 := h2.he
  clear hm
  go_enter Try.func16, Try.ntmps16
  go_wp2_with (first
    | (go_at_call 45; refine ka.mono ?_; rintro r w1 ⟨rfl, k, rfl⟩; replace h1 := h1.drewN k; replace h2 := h2.drewN k; replace e1 := h1.he; replace e2 := h2.he)
    | (go_at_call 41; refine (ks _ h1).mono ?_; rintro r w2 ⟨rfl, hw2⟩; subst w2)
    | fail)
  clear ka ks e1 e2
  go_loopw [31] (fun i wr => ∃ (WR : World) (a : Nat), WR = wr ∧ a ≤ m ∧ i = .int .i64 a ∧ OctAt wr b1 n false A ∧ OctAt wr b2 n false B ∧ Below w.heap.size w wr) (fun i _ => m - (intOf i).toNat)
  case atStart => exact ⟨_, 0, rfl, by omega, rfl, h1, h2, ⟨rfl, rfl, rfl, Nat.le_refl _, fun _ _ => rfl⟩⟩
  case round =>
    clear h1 h2
    obtain ⟨WR, a, rfl, ha, rfl, h1, h2, cc⟩ := hrel
    by_cases ca : a < m
    · have ca' : (a : Int) < (m : Int) := by omega
      go_wp2_with (first
        | (go_at_call_of 42 b2; refine (k2 _ a ca h2).mono ?_; rintro r w3 ⟨rfl, q, rfl⟩; replace h1 := h1.drewN q; replace h2 := h2.drewN q; replace cc : Below w.heap.size w (WR.drewN q) := ⟨cc.os, cc.tape, cc.output, cc.size, cc.block⟩)
        | (go_at_call_of 42 b1; refine (k1 _ a ca h1).mono ?_; rintro r w4 ⟨rfl, q2, rfl⟩; replace h1 := h1.drewN q2; replace h2 := h2.drewN q2; replace cc : Below w.heap.size w ((WR.drewN q).drewN q2) := ⟨cc.os, cc.tape, cc.output, cc.size, cc.block⟩)
        | fail)
      go_loopw [41] (fun i wr => ∃ (WS : World) (c : Nat), WS = wr ∧ c ≤ m ∧ i = .int .i64 c ∧ OctAt wr b1 n false A ∧ OctAt wr b2 n false B ∧ Below w.heap.size w wr) (fun i _ => m - (intOf i).toNat)
      case atStart => exact ⟨_, 0, rfl, by omega, rfl, by simpa using h1, by simpa using h2, by simpa using cc⟩
      case round =>
        clear h1 h2 cc
        obtain ⟨WS, c, rfl, hc, rfl, h1, h2, cc⟩ := hrel
        by_cases cx : c < m
        · have cx' : (c : Int) < (m : Int) := by omega
          have z1 := oiz b1 (2 + a * 16) m m c cx
          have z2 := oiz b2 (2 + a * 16) m m c cx
          have y1 := h1.hm a c (by omega) (by omega)
          have y2 := h2.hm a c (by omega) (by omega)
          have le := hAB a c ca cx
          have le' : ¬ B a c < A a c := by omega
          have wc : IntKind.i64.wrap ((c : Int) + 1) = ((c + 1 : Nat) : Int) := by rw [IntKind.wrap_i64]; omega
          clear k1 k2 hAB le
          generalize A a c = p at *
          generalize B a c = q at *
          go_wp2_with fail
          exact ⟨⟨_, c + 1, rfl, by omega, by simp, h1, h2, cc⟩, by simp [intOf]; omega⟩
        · have ec : c = m := by omega
          subst ec
          clear cx hc
          have wa : IntKind.i64.wrap ((a : Int) + 1) = ((a + 1 : Nat) : Int) := by rw [IntKind.wrap_i64]; omega
          go_wp2_with fail
          go_roundw
          case rel => exact ⟨_, a + 1, rfl, by omega, by first | rfl | go_num, h1, h2, cc⟩
          case measure => simp [intOf]; omega
    · have ea : a = m := by omega
      subst ea
      clear ca ha
      go_wp2_with fail
      go_ret
      exact ⟨rfl, cc⟩
end Go.Proofs.Ytpcbammncaeimaa
