/- Texts of the proof, put together. -/
import Derived.Test.YtpcbammncaeimaaZG1
import Derived.Test.YtpcbammncaeimaaZG2
import Derived.Test.YtpcbammncaeimaaZG3
import Derived.Test.YtpcbammncaeimaaZG4
import Derived.Test.YtpcbammncaeimaaZG5
import Derived.Test.YtpcbammncaeimaaZSpWi
import Derived.Test.YtpcbammncaeimaaZG6
import Derived.Test.YtpcbammncaeimaaZG7
import Derived.Test.YtpcbammncaeimaaZG8
import Derived.Test.YtpcbammncaeimaaZG9
import Derived.Test.YtpcbammncaeimaaZOdV
import Derived.Test.YtpcbammncaeimaaZG10
import Derived.Test.YtpcbammncaeimaaZG11
import Derived.Test.YtpcbammncaeimaaZG12
import Derived.Test.YtpcbammncaeimaaZG13
import Derived.Test.YtpcbammncaeimaaZOeE
import Derived.Test.YtpcbammncaeimaaZG14
import Derived.Test.YtpcbammncaeimaaZG15
import Derived.Test.YtpcbammncaeimaaZG16
import Derived.OpenShut
namespace Go.Proofs.Ytpcbammncaeimaa
open Go.RowKit
set_option linter.unusedVariables false
set_option linter.unusedSimpArgs false
set_option maxRecDepth 100000 in
set_option maxHeartbeats 1600000 in
theorem owithin (b1 b2 n m : Nat) (hm : 2 * n = m) (h16 : m ≤ 16) (A B : Mx) (hAB : ∀ a c, a < m → c < m → A a c ≤ B a c) (w : World) (h1 : OctAt w b1 n false A) (h2 : OctAt w b2 n false B) :
    Calls Try.prog 16 #[.pointer (some ⟨b1, 0, none⟩), .pointer (some ⟨b2, 0, none⟩)] w fun r w' => r = .returned (.bool true) ∧ Below w.heap.size w w' := by
  have ka := oalike b1 b2 n false false A B w h1 h2
  have ks := fun V hV => osides b1 n m false A hm h16 V hV
  have k1 := fun V a ha hV => orow b1 n m false A hm h16 a ha V hV
  have k2 := fun V a ha hV => orow b2 n m false B hm h16 a ha V hV
  have e1 := h1.he
  have e2 := h2.he
  clear hm
  go_enter Try.func16, Try.ntmps16
  go_wp2_with (first
    | (go_at_call 45; refine ka.mono ?_; rintro r w1 ⟨rfl, k, rfl⟩; replace h1 := h1.drewN k; replace h2 := h2.drewN k; replace e1 := h1.he; replace e2 := h2.he)
    | (go_at_call 41; refine (ks _ h1).mono ?_; rintro r w2 ⟨rfl, hw2⟩; subst w2)
    | fail)
  clear ka ks e1 e2
  go_loopw [31] (fun i wr => ∃ (WR : World) (a : Nat), WR = wr ∧ a ≤ m ∧ i = .int .i64 a ∧ OctAt wr b1 n false A ∧ OctAt wr b2 n false B ∧ Below w.heap.size w wr) (fun i _ => m - (intOf i).toNat)
  case atStart => exact ⟨_, 0, rfl, by omega, rfl, h1, h2, ⟨rfl, rfl, rfl, Nat.le_refl _, fun _ _ => rfl⟩⟩
  case round =>
    clear h1 h2
    obtain ⟨WR, a, rfl, ha, rfl, h1, h2, cc⟩ := hrel
    by_cases ca : a < m
    · have ca' : (a : Int) < (m : Int) := by omega
      go_wp2_with (first
        | (go_at_call_of 42 b2; refine (k2 _ a ca h2).mono ?_; rintro r w3 ⟨rfl, q, rfl⟩; replace h1 := h1.drewN q; replace h2 := h2.drewN q; replace cc : Below w.heap.size w (WR.drewN q) := ⟨cc.os, cc.tape, cc.output, cc.size, cc.block⟩)
        | (go_at_call_of 42 b1; refine (k1 _ a ca h1).mono ?_; rintro r w4 ⟨rfl, q2, rfl⟩; replace h1 := h1.drewN q2; replace h2 := h2.drewN q2; replace cc : Below w.heap.size w ((WR.drewN q).drewN q2) := ⟨cc.os, cc.tape, cc.output, cc.size, cc.block⟩)
        | fail)
      go_loopw [41] (fun i wr => ∃ (WS : World) (c : Nat), WS = wr ∧ c ≤ m ∧ i = .int .i64 c ∧ OctAt wr b1 n false A ∧ OctAt wr b2 n false B ∧ Below w.heap.size w wr) (fun i _ => m - (intOf i).toNat)
      case atStart => exact ⟨_, 0, rfl, by omega, rfl, by simpa using h1, by simpa using h2, by simpa using cc⟩
      case round =>
        clear h1 h2 cc
        obtain ⟨WS, c, rfl, hc, rfl, h1, h2, cc⟩ := hrel
        by_cases cx : c < m
        · have cx' : (c : Int) < (m : Int) := by omega
          have z1 := oiz b1 (2 + a * 16) m m c cx
          have z2 := oiz b2 (2 + a * 16) m m c cx
          have y1 := h1.hm a c (by omega) (by omega)
          have y2 := h2.hm a c (by omega) (by omega)
          have le := hAB a c ca cx
          have le' : ¬ B a c < A a c := by omega
          have wc : IntKind.i64.wrap ((c : Int) + 1) = ((c + 1 : Nat) : Int) := by rw [IntKind.wrap_i64]; omega
          clear k1 k2 hAB le
          generalize A a c = p at *
          generalize B a c = q at *
          go_wp2_with fail
          exact ⟨⟨_, c + 1, rfl, by omega, by simp, h1, h2, cc⟩, by simp [intOf]; omega⟩
        · have ec : c = m := by omega
          subst ec
          clear cx hc
          have wa : IntKind.i64.wrap ((a : Int) + 1) = ((a + 1 : Nat) : Int) := by rw [IntKind.wrap_i64]; omega
          go_wp2_with fail
          go_roundw
          case rel => exact ⟨_, a + 1, rfl, by omega, by first | rfl | go_num, h1, h2, cc⟩
          case measure => simp [intOf]; omega
    · have ea : a = m := by omega
      subst ea
      clear ca ha
      go_wp2_with fail
      go_ret
      exact ⟨rfl, cc⟩
end Go.Proofs.Ytpcbammncaeimaa

namespace Go.Proofs.Ytpcbammncaeimaa
open Go.RowKit
set_option linter.unusedVariables false
set_option linter.unusedSimpArgs false
def Wi (n : Nat) (e1 : Bool) (A : Mx) (e2 : Bool) (B : Mx) : Prop := e1 = true ∨ (e1 = false ∧ e2 = false ∧ Le n A B)
theorem Agr.le {n : Nat} {A B : Mx} (h : Agr n A B) : Le n A B := fun a b ha hb => by rw [h a b ha hb]; exact Int.le_refl _
theorem Agr.ge {n : Nat} {A B : Mx} (h : Agr n A B) : Le n B A := fun a b ha hb => by rw [h a b ha hb]; exact Int.le_refl _
theorem mx_le1 (n : Nat) (A B : Mx) : Le n A (mxS A B) := fun a b _ _ => by unfold mxS; split <;> omega
theorem mx_le2 (n : Nat) (A B : Mx) : Le n B (mxS A B) := fun a b _ _ => by unfold mxS; split <;> omega
theorem mx_turn (n : Nat) (A B : Mx) : Le n (mxS A B) (mxS B A) := fun a b _ _ => by unfold mxS; split <;> split <;> omega
theorem mn_le1 (n : Nat) (A B : Mx) : Le n (mnS A B) A := fun a b _ _ => by unfold mnS; split <;> omega
theorem mn_le2 (n : Nat) (A B : Mx) : Le n (mnS A B) B := fun a b _ _ => by unfold mnS; split <;> omega
theorem wd_le {n : Nat} {A B : Mx} (h : Tt n B) : Le n (mxS A B) (wdS A B) := fun a b ha hb => by
  have := h.up a b ha hb
  unfold mxS wdS kep
  split <;> split <;> omega
theorem join_wi {n : Nat} {e1 e2 e' : Bool} {A B T : Mx} (t1 : e1 = false → Tt n A) (t2 : e2 = false → Tt n B) (h : JoinR n e1 A e2 B e' T) : Wi n e1 A e' T ∧ Wi n e2 B e' T := by
  rcases h with ⟨rfl, rfl, k⟩ | ⟨rfl, rfl, rfl, k⟩ | ⟨rfl, rfl, rfl, k⟩
  · refine ⟨Or.inl rfl, ?_⟩
    cases e'
    · exact Or.inr ⟨rfl, rfl, (k rfl).ge⟩
    · exact Or.inl rfl
  · exact ⟨Or.inr ⟨rfl, rfl, k.ge⟩, Or.inl rfl⟩
  · exact ⟨Or.inr ⟨rfl, rfl, k.top _ (t1 rfl).cl (mx_le1 n A B)⟩, Or.inr ⟨rfl, rfl, k.top _ (t2 rfl).cl (mx_le2 n A B)⟩⟩
theorem meet_wi {n : Nat} {e1 e2 e' : Bool} {A B T : Mx} (h : MeetR n e1 A e2 B e' T) : Wi n e' T e1 A ∧ Wi n e' T e2 B := by
  rcases h with ⟨_, rfl⟩ | ⟨rfl, rfl, ⟨rfl, k⟩ | ⟨rfl, _⟩⟩
  · exact ⟨Or.inl rfl, Or.inl rfl⟩
  · exact ⟨Or.inr ⟨rfl, rfl, k.le.trans (mn_le1 n A B)⟩, Or.inr ⟨rfl, rfl, k.le.trans (mn_le2 n A B)⟩⟩
  · exact ⟨Or.inl rfl, Or.inl rfl⟩
theorem widen_wi {n : Nat} {e1 e2 e' e9 : Bool} {A B T T9 : Mx} (t2 : e2 = false → Tt n B) (h : JoinR n e1 A e2 B e' T) (g : WidenR n e1 A e2 B e9 T9) : Wi n e' T e9 T9 := by
  rcases h with ⟨rfl, rfl, k⟩ | ⟨rfl, rfl, rfl, k⟩ | ⟨rfl, rfl, rfl, k⟩
  · rcases g with ⟨_, rfl, l⟩ | ⟨q, _⟩ | ⟨q, _⟩
    · cases e9
      · exact Or.inr ⟨rfl, rfl, (k rfl).le.trans (l rfl).ge⟩
      · exact Or.inl rfl
    · cases q
    · cases q
  · rcases g with ⟨q, _⟩ | ⟨_, _, rfl, l⟩ | ⟨_, q, _⟩
    · cases q
    · exact Or.inr ⟨rfl, rfl, k.le.trans l.ge⟩
    · cases q
  · rcases g with ⟨q, _⟩ | ⟨_, q, _⟩ | ⟨_, _, ⟨rfl, l⟩ | ⟨_, l⟩⟩
    · cases q
    · cases q
    · exact Or.inr ⟨rfl, rfl, l.top _ k.cl (k.le.trans (wd_le (t2 rfl)))⟩
    · exact absurd (k.le.trans (wd_le (t2 rfl))) (l _ k.cl)
theorem joins_wi {n : Nat} {e1 e2 e' e9 : Bool} {A B T T9 : Mx} (h : JoinR n e1 A e2 B e' T) (g : JoinR n e2 B e1 A e9 T9) : Wi n e' T e9 T9 := by
  rcases h with ⟨rfl, rfl, k⟩ | ⟨rfl, rfl, rfl, k⟩ | ⟨rfl, rfl, rfl, k⟩
  · rcases g with ⟨rfl, rfl, l⟩ | ⟨rfl, _, rfl, l⟩ | ⟨_, q, _⟩
    · exact Or.inl rfl
    · exact Or.inr ⟨rfl, rfl, (k rfl).le.trans l.ge⟩
    · cases q
  · rcases g with ⟨_, rfl, l⟩ | ⟨q, _⟩ | ⟨q, _⟩
    · exact Or.inr ⟨rfl, rfl, k.le.trans (l rfl).ge⟩
    · cases q
    · cases q
  · rcases g with ⟨q, _⟩ | ⟨_, q, _⟩ | ⟨_, _, rfl, l⟩
    · cases q
    · cases q
    · exact Or.inr ⟨rfl, rfl, l.top _ k.cl (k.le.trans (mx_turn n A B))⟩
set_option maxRecDepth 100000 in
set_option maxHeartbeats 1600000 in
theorem owithinT (b1 b2 n : Nat) (hn : n ≤ 8) (e1 e2 : Bool) (A B : Mx) (hw : Wi n e1 A e2 B) (w : World) (h1 : OctAt w b1 n e1 A) (h2 : OctAt w b2 n e2 B) :
    Calls Try.prog 16 #[.pointer (some ⟨b1, 0, none⟩), .pointer (some ⟨b2, 0, none⟩)] w fun r w' => r = .returned (.bool true) ∧ Below w.heap.size w w' := by
  rcases hw with rfl | ⟨rfl, rfl, hl⟩
  · have ka := oalike b1 b2 n true e2 A B w h1 h2
    have q1 := h1.he
    have q2 := h2.he
    go_enter Try.func16, Try.ntmps16
    go_wp2_with (first
      | (go_at_call 45; refine ka.mono ?_; rintro r w1 ⟨rfl, k, rfl⟩; replace h1 := h1.drewN k; replace h2 := h2.drewN k; replace q1 := h1.he; replace q2 := h2.he)
      | fail)
    go_ret
    exact ⟨rfl, ⟨rfl, rfl, rfl, Nat.le_refl _, fun _ _ => rfl⟩⟩
  · exact owithin b1 b2 n (2 * n) rfl (by omega) A B hl w h1 h2
set_option maxRecDepth 100000 in
set_option maxHeartbeats 6400000 in
theorem law_joins (nn : Int) (h0 : 0 ≤ nn) (h1 : nn ≤ 255) (s1 s2 : Value) (d1 d2 : List Dd) (w : World) (hs : SlDd w s1 d1 ∧ SlDd w s2 d2) :
    Calls Try.prog 8 #[.int .u8 nn, .agg #[s1, s2]] w fun r w' => r = .returned (.bool true) ∧ Below w.heap.size w w' := by
  obtain ⟨hs1, hs2⟩ := hs
  obtain ⟨n, hn⟩ : ∃ n : Nat, (n : Int) = nn % 4 + 1 := ⟨(nn % 4 + 1).toNat, by omega⟩
  have kp := fun sv ds V q => oplay nn h0 h1 sv ds V q n hn
  have hn4 : n ≤ 4 := by omega
  have hn8 : Hid (n ≤ 8) := (by omega : n ≤ 8)
  have kl := olive
  clear h0 h1 hn hn4
  go_enter Try.func8, Try.ntmps8
  go_upto_region 1 with fail
  generalize hW : w.alloc _ = W0
  have gW : Below w.heap.size w W0 := by rw [← hW]; exact (Below.refl _ _).alloc (Nat.le_refl _) _
  obtain ⟨b0, hb0⟩ : ∃ b0, w.heap.size = b0 := ⟨_, rfl⟩
  have a0 : W0.cell? ⟨b0, 0, none⟩ = some s1 := by rw [← hW, ← hb0]; simp [go_sem]
  have a1 : W0.cell? ⟨b0, 1, none⟩ = some s2 := by rw [← hW, ← hb0]; simp [go_sem]
  replace hs1 := hs1.on gW
  replace hs2 := hs2.on gW
  have cc : Hid (Below w.heap.size w W0) := gW
  rw [hb0]
  clear gW hW hb0
  have kp1 := kp s1 d1 W0 hs1
  go_upto_region 2 with (first
    | (go_at_call 11; refine kp1.mono ?_; rintro r w1 ⟨bo, R, ba, Ra, e, T, T2, f, U, U2, rfl, hB⟩)
    | fail)
  have hO := hB.o
  have tO : Hid (e = false → Tt n T) := fun q => (hB.s.2 q).2
  have g1 := hB.bl
  replace hs2 := hs2.on g1
  replace cc : Hid (Below w.heap.size w w1) := sp_call cc.out g1
  replace a1 := sO g1 a1
  clear kp1 hB g1 hs1 a0
  have kp2 := kp s2 d2 w1 hs2
  clear kp
  go_upto_region 3 with (first
    | (go_at_call 11; refine kp2.mono ?_; rintro r w2 ⟨bp, R', ba', Ra', f1, P, P2, f2, U', U2', rfl, hB⟩)
    | fail)
  replace hO := hO.on hB.bl
  have hP := hB.o
  have tP : Hid (f1 = false → Tt n P) := fun q => (hB.s.2 q).2
  replace cc : Hid (Below w.heap.size w w2) := sp_call cc.out hB.bl
  clear kp2 hB hs2 a1
  go_upto_region 5 with (first
    | (go_at_call 12; refine (kl _).mono ?_; rintro r w3 ⟨rfl, g⟩; replace hO := hO.on g; replace hP := hP.on g; replace cc : Hid (Below w.heap.size w w3) := sp_call cc.out g; clear g)
    | fail)
  clear kl
  have kj := ojoin bo bp n hn8.out e f1 T P tO.out tP.out w3 hO hP
  have km := fun V q1 q2 => omeet bo bp n hn8.out e f1 T P tO.out tP.out V q1 q2
  have kw := fun V q1 q2 => owiden bo bp n hn8.out e f1 T P tO.out tP.out V q1 q2
  have kk := fun V q1 q2 => ojoin bp bo n hn8.out f1 e P T tP.out tO.out V q1 q2
  go_upto_region 6 with (first
    | (go_at_call 27; refine kj.mono ?_; rintro r w4 ⟨⟨bj, ej, J, rfl, lj, hJ, rj⟩, g⟩; replace hO := hO.on g; replace hP := hP.on g; replace cc : Hid (Below w.heap.size w w4) := sp_call cc.out g; clear g lj kj)
    | (go_at_call 28; refine (km _ hO hP).mono ?_; rintro r w5 ⟨⟨bm, em, M, rfl, lm, hM, rm⟩, g⟩; replace hO := hO.on g; replace hP := hP.on g; replace hJ := hJ.on g; replace cc : Hid (Below w.heap.size w w5) := sp_call cc.out g; clear g lm km)
    | (go_at_call 29; refine (kw _ hO hP).mono ?_; rintro r w6 ⟨⟨bw, ew, Wd, rfl, lw, hWd, rw'⟩, g⟩; replace hO := hO.on g; replace hP := hP.on g; replace hJ := hJ.on g; replace hM := hM.on g; replace cc : Hid (Below w.heap.size w w6) := sp_call cc.out g; clear g lw kw)
    | fail)
  go_upto_region 7 with (first
    | (go_at_call 27; refine (kk _ hP hO).mono ?_; rintro r w7 ⟨⟨bk, ek, K9, rfl, lk, hK, rk⟩, g⟩; replace hO := hO.on g; replace hP := hP.on g; replace hJ := hJ.on g; replace hM := hM.on g; replace hWd := hWd.on g; replace cc : Hid (Below w.heap.size w w7) := sp_call cc.out g; clear g lk kk)
    | fail)
  obtain ⟨JJ, hJJ⟩ : ∃ JJ : World → Prop, JJ = fun V => OctAt V bo n e T ∧ OctAt V bp n f1 P ∧ OctAt V bj n ej J ∧ OctAt V bm n em M ∧ OctAt V bw n ew Wd ∧ OctAt V bk n ek K9 ∧ Below w.heap.size w V := ⟨_, rfl⟩
  have jj : Hid (JJ w7) := by rw [hJJ]; exact ⟨hO, hP, hJ, hM, hWd, hK, cc.out⟩
  have mo : ∀ V V', JJ V → Below V.heap.size V V' → JJ V' := fun V V' h g => by
    rw [hJJ] at h ⊢
    exact ⟨h.1.on g, h.2.1.on g, h.2.2.1.on g, h.2.2.2.1.on g, h.2.2.2.2.1.on g, h.2.2.2.2.2.1.on g, sp_call h.2.2.2.2.2.2 g⟩
  have fin : ∀ V, JJ V → Below w.heap.size w V := fun V h => by rw [hJJ] at h; exact h.2.2.2.2.2.2
  have two : ∀ x y ex ey X Y, Wi n ex X ey Y → (∀ V, JJ V → OctAt V x n ex X ∧ OctAt V y n ey Y) → ∀ V, Hid (JJ V) → Calls Try.prog 16 #[.pointer (some ⟨x, 0, none⟩), .pointer (some ⟨y, 0, none⟩)] V fun r w' => r = .returned (.bool true) ∧ Hid (JJ w') :=
    fun x y ex ey X Y q h V hV => (owithinT x y n hn8.out ex ey X Y q V (h V hV.out).1 (h V hV.out).2).mono fun r w' k => ⟨k.1, mo _ _ hV.out k.2⟩
  have j1 := join_wi tO.out tP.out rj
  have j2 := meet_wi rm
  have c1 := two bo bj _ _ _ _ j1.1 (fun V h => by rw [hJJ] at h; exact ⟨h.1, h.2.2.1⟩)
  have c2 := two bp bj _ _ _ _ j1.2 (fun V h => by rw [hJJ] at h; exact ⟨h.2.1, h.2.2.1⟩)
  have c3 := two bm bo _ _ _ _ j2.1 (fun V h => by rw [hJJ] at h; exact ⟨h.2.2.2.1, h.1⟩)
  have c4 := two bm bp _ _ _ _ j2.2 (fun V h => by rw [hJJ] at h; exact ⟨h.2.2.2.1, h.2.1⟩)
  have c5 := two bj bw _ _ _ _ (widen_wi tP.out rj rw') (fun V h => by rw [hJJ] at h; exact ⟨h.2.2.1, h.2.2.2.2.1⟩)
  have c6 := two bj bk _ _ _ _ (joins_wi rj rk) (fun V h => by rw [hJJ] at h; exact ⟨h.2.2.1, h.2.2.2.2.2.1⟩)
  have c7 := two bk bj _ _ _ _ (joins_wi rk rj) (fun V h => by rw [hJJ] at h; exact ⟨h.2.2.2.2.2.1, h.2.2.1⟩)
  clear hJJ hO hP hJ hM hWd hK cc mo two j1 j2 rj rm rw' rk tO tP
  go_wp2_with (first
    | (go_at_call 16; refine (c1 _ jj).mono ?_; rintro r v1 ⟨rfl, j1⟩; clear c1 jj)
    | (go_at_call 16; refine (c2 _ j1).mono ?_; rintro r v2 ⟨rfl, j2⟩; clear c2 j1)
    | (go_at_call 16; refine (c3 _ j2).mono ?_; rintro r v3 ⟨rfl, j3⟩; clear c3 j2)
    | (go_at_call 16; refine (c4 _ j3).mono ?_; rintro r v4 ⟨rfl, j4⟩; clear c4 j3)
    | (go_at_call 16; refine (c5 _ j4).mono ?_; rintro r v5 ⟨rfl, j5⟩; clear c5 j4)
    | (go_at_call 16; refine (c6 _ j5).mono ?_; rintro r v6 ⟨rfl, j6⟩; clear c6 j5)
    | (go_at_call 16; refine (c7 _ j6).mono ?_; rintro r v7 ⟨rfl, j7⟩; clear c7 j6)
    | fail)
  go_ret
  exact ⟨rfl, fin _ j7.out⟩
end Go.Proofs.Ytpcbammncaeimaa


namespace Go.Proofs.Ytpcbammncaeimaa
open Go.ChangeShapes Go.WideShapes Go.ChangeAt Go.RowKit Go.Joins Go.Deep
set_option linter.unusedVariables false
set_option linter.unusedSimpArgs false
section
variable {H : Type} {enc : TypeId × Value → H} {W : World}
set_option maxRecDepth 100000 in
theorem qct : Try.prog.cellTypes Try.prog.depth 30 = some [22, 22] := by kernel_rfl
set_option maxRecDepth 100000 in
theorem qcs : Try.prog.cellsOf 30 = 2 := by kernel_rfl
set_option maxRecDepth 100000 in
theorem qc1 : Try.prog.cellsOf 22 = 1 := by kernel_rfl
set_option maxRecDepth 100000 in
theorem open_a2slds {base : Nat} {v : Value} {d : DataW H} {p : List MemPlace} (hv : Value.okWide Try.prog W .any base 30 v) (h : DataW.Trod enc Try.prog W 0 (fun _ => true) true 30 v d p) : ∃ s1 s2 d1 d2, v = .agg #[s1, s2] ∧ (SlDd W s1 d1 ∧ SlDd W s2 d2) ∧ ∀ x ∈ p, x.block < W.heap.size := by
  have hv0 := hv
  simp only [Value.okWide, Try.underlying30] at hv0
  obtain ⟨cs, rfl, hsz, ts, hts, _, hrow⟩ := hv0
  rw [qct] at hts
  cases hts
  rw [qcs] at hsz
  obtain ⟨c0, c1, rfl⟩ : ∃ c0 c1, cs = #[c0, c1] := by
    obtain ⟨l⟩ := cs
    match l, hsz with
    | [a, b], _ => exact ⟨a, b, rfl⟩
  obtain ⟨fuel, hf⟩ := h
  simp only [Value.cells] at hf
  obtain ⟨xs, k, rfl, hx, hlen, hxl, hall⟩ := DataW.trod_array Try.underlying30 hf
  have sp : ∀ (j : Nat) (c : Value), (#[c0, c1] : Array Value)[j]? = some c → ∀ a l q, c = Value.slice (some a) l q → a.spot = none := by
    intro j c hj a l q e4
    obtain ⟨u, hu, ho⟩ := hrow j c hj
    have hu' : u = 22 := by
      have : j < 2 := by
        have := (Array.getElem?_eq_some_iff.1 hj).1
        simpa using this
      match j, this with
      | 0, _ => simpa using hu.symm
      | 1, _ => simpa using hu.symm
    subst hu'
    subst e4
    simp [Cell.okWide, Cell.ok, World.has, Try.underlying22] at ho
    exact ho.2.2.2.1
  obtain ⟨y0, y1, rfl⟩ : ∃ y0 y1, xs = [y0, y1] := by
    match xs, hxl with
    | [a, b], _ => exact ⟨a, b, rfl⟩
  have q0 := hall 0 (by omega)
  have q1 := hall 1 (by omega)
  rw [qc1] at q0 q1
  simp at q0 q1
  obtain ⟨d1, e1, m1⟩ := tr_deeds (sp 0 c0 (by simp)) q0
  obtain ⟨d2, e2, m2⟩ := tr_deeds (sp 1 c1 (by simp)) q1
  refine ⟨c0, c1, d1, d2, rfl, ⟨e1, e2⟩, fun x hxp => ?_⟩
  simp only [Prod.mk.injEq] at hx
  rw [hx.2] at hxp
  simp at hxp
  rcases hxp with h | h
  · exact m1 x h
  · exact m2 x h
end
end Go.Proofs.Ytpcbammncaeimaa


