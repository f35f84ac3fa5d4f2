/- octagon: tighten. -/
import Derived.Test.YtpcbammncaeimaaOcE
import Derived.Scope
namespace Go.Proofs.Ytpcbammncaeimaa
open Go.RowKit
set_option linter.unusedVariables false
set_option linter.unusedSimpArgs false
/-- The same bounds. -/
def Agr (n : Nat) (A B : Mx) : Prop := ∀ a c, a < 2 * n → c < 2 * n → A a c = B a c
theorem Agr.symm {n : Nat} {A B : Mx} (h : Agr n A B) : Agr n B A := fun a c ha hc => (h a c ha hc).symm
theorem Agr.trans {n : Nat} {A B C : Mx} (h : Agr n A B) (k : Agr n B C) : Agr n A C := fun a c ha hc => (h a c ha hc).trans (k a c ha hc)
theorem Agr.fit {n : Nat} {A B : Mx} (h : Agr n A B) {u : Nat → Int} (f : Fit n A u) : Fit n B u := ⟨f.1, fun a b ha hb => by rw [← h a b ha hb]; exact f.2 a b ha hb⟩
theorem Agr.gov {n : Nat} {A B : Mx} (h : Agr n A B) {k : Nat} (hk : k < 2 * n) : Agr n (gov A k) (gov B k) := fun a c ha hc => by
  show min (A a c) (A a k + A (ot k) c) = min (B a c) (B a k + B (ot k) c)
  rw [h a c ha hc, h a k ha hk, h (ot k) c (ot_lt hk) hc]
theorem Agr.hlv {n : Nat} {A B : Mx} (h : Agr n A B) : Agr n (hlv A) (hlv B) := fun a c ha hc => by
  show min (A a c) (fh (A a a) + fh (A c c)) = min (B a c) (fh (B a a) + fh (B c c))
  rw [h a c ha hc, h a a ha ha, h c c hc hc]
theorem Agr.clo {n : Nat} {A B : Mx} (h : Agr n A B) (c : Clo n A) : Clo n B := fun k hk a b ha hb => by
  rw [← h a b ha hb, ← h a k ha hk, ← h (ot k) b (ot_lt hk) hb]
  exact c k hk a b ha hb
theorem Agr.hal {n : Nat} {A B : Mx} (h : Agr n A B) (c : Hal n A) : Hal n B := fun a b ha hb => by
  rw [← h a b ha hb, ← h a a ha ha, ← h b b hb hb]
  exact c a b ha hb
theorem pm_agr (n : Nat) (G M : Mx) : Agr n (pm (2 * n) (2 * n) 0 G M) G := fun a c ha hc => pm_all G M ha hc
theorem Tgt.to {n : Nat} {M A B : Mx} (t : Tgt n M A) (h : Agr n A B) : Tgt n M B where
  le := fun a b ha hb => by rw [← h a b ha hb]; exact t.le a b ha hb
  fit := fun u hu => h.fit (t.fit u hu)
  clo := h.clo t.clo
  hal := h.hal t.hal
  same := fun c k a b ha hb => by rw [← h a b ha hb]; exact t.same c k a b ha hb
theorem Tgt.of {n : Nat} {A B M : Mx} (t : Tgt n A M) (h : Agr n A B) : Tgt n B M where
  le := fun a b ha hb => by rw [← h a b ha hb]; exact t.le a b ha hb
  fit := fun u hu => t.fit u (h.symm.fit hu)
  clo := t.clo
  hal := t.hal
  same := fun c k a b ha hb => by rw [← h a b ha hb]; exact t.same (h.symm.clo c) (h.symm.hal k) a b ha hb
theorem gap_agr {n : Nat} {A B : Mx} (h : Agr n A B) (u : Nat → Int) : gap n A u = gap n B u := by
  unfold gap
  congr 1
  refine List.map_congr_left fun a ha => ?_
  congr 1
  refine List.map_congr_left fun b hb => ?_
  rw [h a b (by simpa using ha) (by simpa using hb)]
/-- The bounds that lie in a block. -/
def rdM (W : World) (b : Nat) : Mx := fun i j => match W.cell? ⟨b, 2 + i * 16 + j, none⟩ with | some (.int _ v) => v | _ => 0
theorem OctAt.rd {W : World} {b n : Nat} {e : Bool} {M : Mx} (h : OctAt W b n e M) (hn : n ≤ 8) : Agr n (rdM W b) M := fun i j hi hj => by
  unfold rdM
  rw [h.hm i j (by omega) (by omega)]
theorem Fit.low {n : Nat} {M : Mx} {u : Nat → Int} (f : Fit n M u) (su : ∀ a, -1099511627776 ≤ u a ∧ u a ≤ 1099511627776) {a c : Nat} (ha : a < 2 * n) (hc : c < 2 * n) : -2199023255552 ≤ M a c := by
  have := f.2 a c ha hc
  have := su a
  have := su c
  omega
set_option maxRecDepth 100000 in
set_option maxHeartbeats 1600000 in
theorem otight (b n : Nat) (hn : n ≤ 8) (M : Mx) (u : Nat → Int) (fu : Fit n M u) (su : ∀ a, -1099511627776 ≤ u a ∧ u a ≤ 1099511627776) (hi : ∀ a c, a < 2 * n → c < 2 * n → M a c ≤ 4611686018427387903) (w : World) (h : OctAt w b n false M) :
    Calls Try.prog 59 #[.pointer (some ⟨b, 0, none⟩)] w fun r w' => r = .returned (.tuple #[]) ∧ (∃ M', OctAt w' b n false M' ∧ Tgt n M M') ∧ Onl b w w' := by
  obtain ⟨m, hm⟩ : ∃ m, 2 * n = m := ⟨_, rfl⟩
  have h16 : m ≤ 16 := by omega
  have k1 := fun V M hV => osides b n m false M hm h16 V hV
  have kg := fun V M k hk hd hs hV => ogo b n m false M hm h16 k hk hd hs V hV
  have kc := fun V M hd hV => ocon b n m false M hm h16 hd V hV
  have kh := fun V M hs hV => ohal b n m false M hm h16 hs V hV
  have hm' : Hid (2 * n = m) := hm
  go_enter Try.func59, Try.ntmps59
  go_wp2_with fail
  refine wp_scope_straight ?_
  go_wp2_with fail
  refine wp_label ?_
  go_wp2_with fail
  go_loopw [3] (fun p wr => ∃ (WR : World) (A : Mx), WR = wr ∧ OctAt wr b n false A ∧ Onl b w wr ∧ Hid (Fit n A u ∧ (∀ a c, a < 2 * n → c < 2 * n → A a c ≤ 4611686018427387903) ∧ ∀ M', Tgt n A M' → Tgt n M M')) (fun _ wr => gap n (rdM wr b) u)
  case atStart => exact ⟨_, M, rfl, h, Onl.refl _ _, fu, hi, fun _ q => q⟩
  case round =>
    clear h fu hi
    obtain ⟨WR, A, rfl, hO, cc, hA⟩ := hrel
    have he := hO.he
    have hgap : Hid (gap n (rdM WR b) u = gap n A u) := gap_agr (hO.rd hn) u
    clear hm
    go_wp2_with (first
      | (go_at_call 41; refine (k1 _ _ hO).mono ?_; rintro r w2 ⟨rfl, hw2⟩; subst w2)
      | fail)
    have hA' := hA.out
    obtain ⟨fA, iA, _⟩ := hA'
    have hlow : ∀ (B : Mx), Fit n B u → (∀ a c, a < 2 * n → c < 2 * n → B a c ≤ A a c) → ∀ a c, a < m → c < m → -4611686018427387904 ≤ B a c ∧ B a c ≤ 4611686018427387903 := fun B fB lB a c ha hc => by
      have := hm'.out
      have l1 := fB.low su (a := a) (c := c) (by omega) (by omega)
      have l2 := lB a c (by omega) (by omega)
      have l3 := iA a c (by omega) (by omega)
      omega
    clear fA
    go_loopw [10] (fun i wr => ∃ (WS : World) (k : Nat) (B : Mx), WS = wr ∧ k ≤ m ∧ i = .int .i64 k ∧ OctAt wr b n false B ∧ Hid (Agr n B (govs A k)) ∧ Onl b w wr) (fun i _ => m - (intOf i).toNat)
    case atStart => exact ⟨_, 0, A, rfl, by omega, rfl, hO, (fun a c _ _ => rfl), cc⟩
    case round =>
      clear hO cc he
      obtain ⟨WS, k, B, rfl, hk, rfl, hO, hB, cc⟩ := hrel
      by_cases ck : k < m
      · have ck' : (k : Int) < (m : Int) := by omega
        have fB : Fit n B u := hB.out.symm.fit (govs_fit hA.out.1 k (by have := hm'.out; omega))
        have hd : 0 ≤ B (ot k) k := by
          have := fB.opp (a := ot k) (ot_lt (by have := hm'.out; omega))
          rwa [ot_ot] at this
        have hs := hlow B fB fun a c ha hc => by rw [hB.out a c ha hc]; exact govs_le A a c k
        have hB2 : Agr n (pm m m 0 (gov B k) B) (govs A (k + 1)) := by
          rw [← hm'.out]
          exact (pm_agr n _ _).trans (hB.out.gov (by have := hm'.out; omega))
        have fB2 : Fit n (pm m m 0 (gov B k) B) u := hB2.symm.fit (govs_fit hA.out.1 (k + 1) (by have := hm'.out; omega))
        have hd2 : ∀ a, a < m → 0 ≤ pm m m 0 (gov B k) B a (ot a) := fun a ha => fB2.opp (by have := hm'.out; omega)
        have wc : IntKind.i64.wrap ((k : Int) + 1) = ((k + 1 : Nat) : Int) := by rw [IntKind.wrap_i64]; omega
        have q1 := kg _ _ k ck hd hs hO
        have q2 := fun V hV => kc V _ hd2 hV
        have hB3 : Hid (Agr n (pm m m 0 (gov B k) B) (govs A (k + 1))) := hB2
        clear hB hB2 fB fB2 hd hd2 hs hO hlow iA kg kc kh k1
        generalize pm m m 0 (gov B k) B = C at *
        go_wp2_with (first
          | (go_at_call 87; refine q1.mono ?_; rintro r w2 ⟨rfl, hO, c2⟩; replace cc := cc.trans c2; clear c2)
          | (go_at_call 88; refine (q2 _ hO).mono ?_; rintro r w3 ⟨rfl, k9, rfl⟩; replace hO := hO.drewN k9; replace cc := cc.drewN k9)
          | fail)
        exact ⟨⟨_, k + 1, C, rfl, by omega, by simp, hO, hB3, cc⟩, by simp [intOf]; omega⟩
      · have ek : k = m := by omega
        subst ek
        clear ck hk
        have ek := hm'.out
        have fG : Fit n (govs A k) u := govs_fit hA.out.1 k (by omega)
        have fB : Fit n B u := hB.out.symm.fit fG
        have hs := hlow B fB fun a c ha hc => by rw [hB.out a c ha hc]; exact govs_le A a c k
        have q1 := kh _ _ hs hO
        have hH : Hid (Agr n (pm k k 0 (hlv B) B) (hlv (govs A k))) := by
          have := (pm_agr n (hlv B) B).trans hB.out.hlv
          rw [ek] at this
          exact this
        have hstep : (∃ a c, a < k ∧ c < k ∧ hlv B a c < B a c) → Hid (∃ a c, a < 2 * n ∧ c < 2 * n ∧ hlv (govs A k) a c < govs A k a c) := fun ⟨a, c, ha, hc, hl⟩ => ⟨a, c, by omega, by omega, by rw [← hB.out.hlv a c (by omega) (by omega), ← hB.out a c (by omega) (by omega)]; exact hl⟩
        have hlast : (∀ a c, a < k → c < k → hlv B a c = B a c) → Hid (∀ a c, a < 2 * n → c < 2 * n → hlv (govs A k) a c = govs A k a c) := fun hl a c ha hc => by rw [← hB.out.hlv a c ha hc, ← hB.out a c ha hc]; exact hl a c (by omega) (by omega)
        clear ek hs hO hlow fB hB kg kc kh k1
        generalize hC : pm k k 0 (hlv B) B = C at *
        clear hC
        generalize hlv B = HB at *
        go_upto_region 8 with fail
        go_wp2_with (first
          | (go_at_call 89; refine q1.mono ?_; rintro r w2 ⟨⟨l, rfl, l0, l1⟩, hO, c2⟩; replace cc := cc.trans c2; clear c2; cases l)
          | fail)
        · have hl := (hlast (l0 (by first | rfl | trivial))).out
          have e1 := hm'.out
          have hT : Tgt n M C := hA.out.2.2 C ((tgt_last hA.out.1 (fun a c ha hc => by rw [e1]; exact hl a c ha hc)).to fun a c ha hc => by rw [e1, ← hl a c ha hc]; exact (hH.out a c ha hc).symm)
          refine (show ∀ (Q : Exit → Act → World → Prop) (a : Act) (W : World), Q .ret a W → Exit.noGoto Q .ret a W from fun _ _ _ q => q) _ _ _ ?_
          exact bodyPost_ret (results_none rfl _ _ _) rfl ⟨rfl, ⟨C, hO, hT⟩, cc⟩
        · obtain ⟨x, y, hx, hy, hl⟩ := (hstep (l1 (by first | rfl | trivial))).out
          have e1 := hm'.out
          refine ⟨⟨_, C, rfl, hO, cc, hH.out.symm.fit (hlv_fit fG), fun a c ha hc => ?_, fun M' t => hA.out.2.2 M' (tgt_step hA.out.1 hx hy (by rw [e1]; exact hl) (by rw [e1]; exact t.of hH.out))⟩, ?_⟩
          · rw [hH.out a c ha hc]
            exact Int.le_trans (hlv_le _ _ _) (Int.le_trans (govs_le A a c k) (hA.out.2.1 a c ha hc))
          · rw [hgap.out, gap_agr ((hO.rd hn).trans hH.out) u]
            exact gap_lt (fun a b => Int.le_trans (hlv_le _ _ _) (govs_le A a b k)) (hlv_fit fG) hx hy (Int.lt_of_lt_of_le hl (govs_le A x y k))
end Go.Proofs.Ytpcbammncaeimaa
