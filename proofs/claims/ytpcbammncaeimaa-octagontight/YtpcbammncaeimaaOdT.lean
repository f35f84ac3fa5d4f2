/- octagon: tighten of any bounds. -/
import Derived.Test.YtpcbammncaeimaaOdD
namespace Go.Proofs.Ytpcbammncaeimaa
open Go.RowKit
set_option linter.unusedVariables false
set_option linter.unusedSimpArgs false
/-- Whether one that lies in a block is empty. -/
def rdE (W : World) (b : Nat) : Bool := match W.cell? ⟨b, 1, none⟩ with | some (.bool e) => e | _ => false
theorem OctAt.rdE {W : World} {b n : Nat} {e : Bool} {M : Mx} (h : OctAt W b n e M) : rdE W b = e := by
  unfold Go.Proofs.Ytpcbammncaeimaa.rdE
  rw [h.he]
def msr (n : Nat) (W : World) (b : Nat) : Nat := if rdE W b = true then 0 else gap n (rdM W b) (fun _ => -137438953472) + 1
theorem msr_f {W : World} {b n : Nat} {M : Mx} (hn : n ≤ 8) (h : OctAt W b n false M) : msr n W b = gap n M (fun _ => -137438953472) + 1 := by
  unfold msr
  rw [h.rdE, if_neg (by simp), gap_agr (h.rd hn)]
theorem msr_t {W : World} {b n : Nat} {M : Mx} (h : OctAt W b n true M) : msr n W b = 0 := by
  unfold msr
  rw [h.rdE, if_pos rfl]
/-- What holds of bounds on the way. -/
structure Cw (n : Nat) (S A : Mx) : Prop where
  up : ∀ a b, a < 2 * n → b < 2 * n → A a b ≤ 68719476736
  lo : ∀ a b, a < 2 * n → b < 2 * n → -274877906944 ≤ A a b
  le : Le n A S
  ab : ∀ T, Cl n T → Le n T S → Le n T A
theorem Agr.pos {n : Nat} {A B : Mx} (h : Agr n A B) (p : Pos n A) : Pos n B := fun a ha => by rw [← h a _ ha (ot_lt ha)]; exact p a ha
theorem Cw.step {n : Nat} {S A C : Mx} (h : Cw n S A) (hp : ∀ j, j ≤ 2 * n → Pos n (govs A j)) (hC : Agr n C (hlv (govs A (2 * n)))) : Cw n S C where
  up := fun a b ha hb => by rw [hC a b ha hb]; exact Int.le_trans (hlv_le _ _ _) (Int.le_trans (govs_le A a b _) (h.up a b ha hb))
  lo := fun a b ha hb => by
    rw [hC a b ha hb]
    have h1 := govs_end h.up hp ha hb
    have h2 := govs_end h.up hp ha ha
    have h3 := govs_end h.up hp hb hb
    unfold hlv fh
    omega
  le := fun a b ha hb => by rw [hC a b ha hb]; exact Int.le_trans (hlv_le _ _ _) (Int.le_trans (govs_le A a b _) (h.le a b ha hb))
  ab := fun T c l a b ha hb => by rw [hC a b ha hb]; exact hlv_abv c (govs_abv c (h.ab T c l) _ (Nat.le_refl _)) a b ha hb
set_option maxRecDepth 100000 in
set_option maxHeartbeats 3200000 in
theorem otightE (b n : Nat) (hn : n ≤ 8) (S : Mx) (hU : ∀ a c, a < 2 * n → c < 2 * n → S a c ≤ 68719476736) (hL : ∀ a c, a < 2 * n → c < 2 * n → -68719476736 ≤ S a c) (w : World) (h : OctAt w b n false S) :
    Calls Try.prog 59 #[.pointer (some ⟨b, 0, none⟩)] w fun r w' => r = .returned (.tuple #[]) ∧ (∃ e T, OctAt w' b n e T ∧ Res n S e T) ∧ Onl b w w' := by
  obtain ⟨m, hm⟩ : ∃ m, 2 * n = m := ⟨_, rfl⟩
  have h16 : m ≤ 16 := by omega
  have k1 := fun V M hV => osides b n m false M hm h16 V hV
  have kg := fun V M k hk hd hs hV => ogo b n m false M hm h16 k hk hd hs V hV
  have kg2 := fun V M k hk hV => ogo2 b n m false M hm h16 k hk V hV
  have kc := fun V M hV => ocon2 b n m false M hm h16 V hV
  have kd := fun V M hV => odrain b n false M V hV
  have kh := fun V M hs hV => ohal b n m false M hm h16 hs V hV
  have hm' : Hid (2 * n = m) := hm
  have hC : Cw n S S := ⟨hU, fun a c ha hc => by have := hL a c ha hc; omega, Le.refl _ _, fun T _ l => l⟩
  clear hU hL
  go_enter Try.func59, Try.ntmps59
  go_wp2_with fail
  refine wp_scope_straight ?_
  go_wp2_with fail
  refine wp_label ?_
  go_wp2_with fail
  go_loopw [3] (fun p wr => ∃ (WR : World), WR = wr ∧ ((∃ A, OctAt wr b n false A ∧ Hid (Cw n S A)) ∨ (OctAt wr b n true (fun _ _ => 0) ∧ Hid (Non n S))) ∧ Onl b w wr) (fun _ wr => msr n wr b)
  case atStart => exact ⟨_, rfl, Or.inl ⟨S, h, hC⟩, Onl.refl _ _⟩
  case round =>
    clear h hC
    obtain ⟨WR, rfl, ⟨A, hO, hA⟩ | ⟨hO, hN⟩, cc⟩ := hrel
    · have he := hO.he
      have hms : Hid (msr n WR b = gap n A (fun _ => -137438953472) + 1) := msr_f hn hO
      clear hm
      go_wp2_with (first
        | (go_at_call 41; refine (k1 _ _ hO).mono ?_; rintro r w2 ⟨rfl, hw2⟩; subst w2)
        | fail)
      go_loopw [10] (fun i wr => ∃ (WS : World) (k : Nat) (B : Mx), WS = wr ∧ k ≤ m ∧ i = .int .i64 k ∧ OctAt wr b n false B ∧ Hid (Agr n B (govs A k)) ∧ Hid (∀ j, j < k → Pos n (govs A j)) ∧ Hid (0 < k → Pos n (govs A k)) ∧ Onl b w wr) (fun i _ => m - (intOf i).toNat)
      case atStart => exact ⟨_, 0, A, rfl, by omega, rfl, hO, (fun a c _ _ => rfl), (fun j hj => by omega), (fun q => by omega), cc⟩
      case round =>
        clear hO cc he
        obtain ⟨WS, k, B, rfl, hk, rfl, hO, hB, hPj, hPk, cc⟩ := hrel
        by_cases ck : k < m
        · have ck' : (k : Int) < (m : Int) := by omega
          have wc : IntKind.i64.wrap ((k : Int) + 1) = ((k + 1 : Nat) : Int) := by rw [IntKind.wrap_i64]; omega
          by_cases hpos : Pos n (govs A k)
          · have hPk2 : Hid (∀ j, j < k + 1 → Pos n (govs A j)) := fun j hj => by
              by_cases q : j = k
              · rw [q]; exact hpos
              · exact hPj.out j (by omega)
            have pB : Pos n B := hB.out.symm.pos hpos
            have hd : 0 ≤ B (ot k) k := by
              have := pB (ot k) (ot_lt (by have := hm'.out; omega))
              rwa [ot_ot] at this
            have hs : ∀ a c, a < m → c < m → -4611686018427387904 ≤ B a c ∧ B a c ≤ 4611686018427387903 := fun a c ha hc => by
              have e1 := hm'.out
              rw [hB.out a c (by omega) (by omega)]
              have l1 := govs_low hA.out.up hA.out.lo (by omega) k (by omega) (fun j hj => hPk2.out j (by omega)) a c (by omega) (by omega)
              have l2 := Int.le_trans (govs_le A a c k) (hA.out.up a c (by omega) (by omega))
              omega
            have hB3 : Hid (Agr n (pm m m 0 (gov B k) B) (govs A (k + 1))) := by
              rw [← hm'.out]
              exact (pm_agr n _ _).trans (hB.out.gov (by have := hm'.out; omega))
            have q1 := kg _ _ k ck hd hs hO
            have q2 := fun V hV => kc V (pm m m 0 (gov B k) B) hV
            have q3 := fun V hV => kd V (pm m m 0 (gov B k) B) hV
            clear hB pB hd hs hO kg kg2 kc kh k1 kd hPj hPk hpos
            generalize pm m m 0 (gov B k) B = C at *
            go_wp2_with (first
              | (go_at_call 87; refine q1.mono ?_; rintro r w2 ⟨rfl, hO, c2⟩; replace cc := cc.trans c2; clear c2)
              | (go_at_call 88; refine (q2 _ hO).mono ?_; rintro r w3 ⟨⟨l, rfl, l0, l1⟩, k9, rfl⟩; replace hO := hO.drewN k9; replace cc := cc.drewN k9; cases l)
              | (go_at_call 57; refine (q3 _ hO).mono ?_; rintro r w4 ⟨rfl, hO4, c4⟩; replace cc := cc.trans c4; clear c4)
              | fail)
            · have hl := l0 (by first | rfl | trivial)
              refine ⟨⟨_, k + 1, C, rfl, by omega, by simp, hO, hB3, hPk2, (fun _ => hB3.out.pos fun a ha => hl a (by have := hm'.out; omega)), cc⟩, by simp [intOf]; omega⟩
            · obtain ⟨a, ha, hl⟩ := l1 (by first | rfl | trivial)
              have hN : Non n S := by
                have e1 := hm'.out
                have hk1 : k + 1 ≤ 2 * n := by omega
                refine non_of (X := govs A (k + 1)) (fun T c l => govs_abv c (hA.out.ab T c l) (k + 1) hk1) (a := a) (by omega) ?_
                rw [← hB3.out a (ot a) (by omega) (ot_lt (by omega))]
                exact hl
              exact ⟨⟨_, rfl, Or.inr ⟨hO4, hN⟩, cc⟩, by rw [hms.out, msr_t hO4]; omega⟩
          · have hk0 : k = 0 := by
              by_cases q : 0 < k
              · exact absurd (hPk.out q) hpos
              · omega
            subst hk0
            have hneg : Hid (∃ a, a < m ∧ B a (ot a) < 0) := by
              refine Classical.byContradiction fun q => hpos fun a ha => ?_
              rw [← hB.out a _ ha (ot_lt ha)]
              refine Int.not_lt.1 fun r => q ⟨a, by have := hm'.out; omega, r⟩
            have q1 := kg2 _ _ 0 ck hO
            have q2 := fun V X hV => kc V X hV
            have q3 := fun V X hV => kd V X hV
            clear hO kg kg2 kc kh k1 kd hPj hPk hpos
            go_wp2_with (first
              | (go_at_call 87; refine q1.mono ?_; rintro r w2 ⟨rfl, ⟨X, hO, hX⟩, c2⟩; replace cc := cc.trans c2; clear c2)
              | (go_at_call 88; refine (q2 _ _ hO).mono ?_; rintro r w3 ⟨⟨l, rfl, l0, l1⟩, k9, rfl⟩; replace hO := hO.drewN k9; replace cc := cc.drewN k9; cases l)
              | (go_at_call 57; refine (q3 _ _ hO).mono ?_; rintro r w4 ⟨rfl, hO4, c4⟩; replace cc := cc.trans c4; clear c4)
              | fail)
            · have hl := l0 (by first | rfl | trivial)
              obtain ⟨a, ha, hlt⟩ := hneg.out
              have e1 := hm'.out
              have := hX a (ot a) ha (by have := ot_lt (n := n) (a := a) (by omega); omega)
              have := hl a ha
              omega
            · have hN : Non n S := by
                obtain ⟨a, ha, hlt⟩ := hneg.out
                have e1 := hm'.out
                refine non_of (X := A) (fun T c l => hA.out.ab T c l) (a := a) (by omega) ?_
                rw [show A a (ot a) = B a (ot a) from (hB.out a (ot a) (by omega) (ot_lt (by omega))).symm]
                exact hlt
              exact ⟨⟨_, rfl, Or.inr ⟨hO4, hN⟩, cc⟩, by rw [hms.out, msr_t hO4]; omega⟩
        · have ek : k = m := by omega
          subst ek
          clear ck hk
          have ek := hm'.out
          have hP : Hid (∀ j, j ≤ 2 * n → Pos n (govs A j)) := fun j hj => by
            by_cases q : j = k
            · subst q
              by_cases q0 : 0 < j
              · exact hPk.out q0
              · intro a ha; omega
            · exact hPj.out j (by omega)
          have hs : ∀ a c, a < k → c < k → -4611686018427387904 ≤ B a c ∧ B a c ≤ 4611686018427387903 := fun a c ha hc => by
            rw [hB.out a c (by omega) (by omega)]
            have l1 := govs_low hA.out.up hA.out.lo (by omega) k (by omega) (fun j hj => hP.out j (by omega)) a c (by omega) (by omega)
            have l2 := Int.le_trans (govs_le A a c k) (hA.out.up a c (by omega) (by omega))
            omega
          have q1 := kh _ _ hs hO
          have hH : Hid (Agr n (pm k k 0 (hlv B) B) (hlv (govs A k))) := by
            have := (pm_agr n (hlv B) B).trans hB.out.hlv
            rw [ek] at this
            exact this
          have hstep : (∃ a c, a < k ∧ c < k ∧ hlv B a c < B a c) → Hid (∃ a c, a < 2 * n ∧ c < 2 * n ∧ hlv (govs A k) a c < govs A k a c) := fun ⟨a, c, ha, hc, hl⟩ => ⟨a, c, by omega, by omega, by rw [← hB.out.hlv a c (by omega) (by omega), ← hB.out a c (by omega) (by omega)]; exact hl⟩
          have hlast : (∀ a c, a < k → c < k → hlv B a c = B a c) → Hid (∀ a c, a < 2 * n → c < 2 * n → hlv (govs A k) a c = govs A k a c) := fun hl a c ha hc => by rw [← hB.out.hlv a c ha hc, ← hB.out a c ha hc]; exact hl a c (by omega) (by omega)
          clear ek hs hO hB kg kg2 kc kd kh k1 hPj hPk
          generalize hC : pm k k 0 (hlv B) B = C at *
          clear hC
          generalize hlv B = HB at *
          go_upto_region 8 with fail
          go_wp2_with (first
            | (go_at_call 89; refine q1.mono ?_; rintro r w2 ⟨⟨l, rfl, l0, l1⟩, hO, c2⟩; replace cc := cc.trans c2; clear c2; cases l)
            | fail)
          · have hl := (hlast (l0 (by first | rfl | trivial))).out
            have e1 := hm'.out
            have hT : Bst n S C := (code_last hA.out.le hA.out.ab hP.out (fun a c ha hc => by rw [e1]; exact hl a c ha hc)).to fun a c ha hc => by rw [e1, ← hl a c ha hc]; exact (hH.out a c ha hc).symm
            refine (show ∀ (Q : Exit → Act → World → Prop) (a : Act) (W : World), Q .ret a W → Exit.noGoto Q .ret a W from fun _ _ _ q => q) _ _ _ ?_
            exact bodyPost_ret (results_none rfl _ _ _) rfl ⟨rfl, ⟨false, C, hO, Or.inl ⟨rfl, hT⟩⟩, cc⟩
          · obtain ⟨x, y, hx, hy, hl⟩ := (hstep (l1 (by first | rfl | trivial))).out
            have e1 := hm'.out
            have hC2 : Cw n S C := hA.out.step hP.out (by rw [e1]; exact hH.out)
            refine ⟨⟨_, rfl, Or.inl ⟨C, hO, hC2⟩, cc⟩, ?_⟩
            rw [hms.out, msr_f hn hO]
            have := gap_lt2 (n := n) (K := 137438953472) (M := A) (M' := C) (fun a c ha hc => by rw [hH.out a c ha hc]; exact Int.le_trans (hlv_le _ _ _) (govs_le A a c k)) hx hy (by rw [hH.out x y hx hy]; exact Int.lt_of_lt_of_le hl (govs_le A x y k)) (by have := hC2.lo x y hx hy; omega)
            omega
    · have he := hO.he
      clear k1 kg kg2 kc kd kh
      go_wp2_with fail
      refine (show ∀ (Q : Exit → Act → World → Prop) (a : Act) (W : World), Q .normal a W → Exit.noGoto Q .normal a W from fun _ _ _ q => q) _ _ _ ?_
      exact bodyPost_end (results_none rfl _ _ _) rfl ⟨rfl, ⟨true, _, hO, Or.inr ⟨rfl, hN.out⟩⟩, cc⟩
set_option maxRecDepth 100000 in
theorem otightX (b n : Nat) (M : Mx) (w : World) (h : OctAt w b n true M) :
    Calls Try.prog 59 #[.pointer (some ⟨b, 0, none⟩)] w fun r w' => r = .returned (.tuple #[]) ∧ OctAt w' b n true M ∧ Onl b w w' := by
  have he := h.he
  go_enter Try.func59, Try.ntmps59
  go_wp2_with fail
  refine wp_scope_straight ?_
  go_wp2_with fail
  refine wp_label ?_
  go_wp2_with fail
  go_loopw [3] (fun p wr => wr = w) (fun _ _ => 0)
  case atStart => rfl
  case round =>
    subst hrel
    go_wp2_with fail
    refine (show ∀ (Q : Exit → Act → World → Prop) (a : Act) (W : World), Q .normal a W → Exit.noGoto Q .normal a W from fun _ _ _ q => q) _ _ _ ?_
    exact bodyPost_end (results_none rfl _ _ _) rfl ⟨rfl, h, Onl.refl _ _⟩
end Go.Proofs.Ytpcbammncaeimaa
