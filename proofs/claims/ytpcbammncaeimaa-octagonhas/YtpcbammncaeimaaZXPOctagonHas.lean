/- Texts of the proof, put together. -/
import Derived.Test.YtpcbammncaeimaaZG1
import Derived.Test.YtpcbammncaeimaaZG2
import Derived.Test.YtpcbammncaeimaaZG3
import Derived.Test.YtpcbammncaeimaaZG4
import Derived.Test.YtpcbammncaeimaaZG5
import Derived.Test.YtpcbammncaeimaaZSpWi
import Derived.Test.YtpcbammncaeimaaZG6
import Derived.Test.YtpcbammncaeimaaZG7
import Derived.Test.YtpcbammncaeimaaZG8
import Derived.Test.YtpcbammncaeimaaZG9
import Derived.Test.YtpcbammncaeimaaZOdV
import Derived.Test.YtpcbammncaeimaaZG10
import Derived.Test.YtpcbammncaeimaaZG11
import Derived.Test.YtpcbammncaeimaaZG12
import Derived.Test.YtpcbammncaeimaaZG13
import Derived.Test.YtpcbammncaeimaaZOeE
import Derived.Test.YtpcbammncaeimaaZG14
import Derived.Test.YtpcbammncaeimaaZG15
import Derived.Test.YtpcbammncaeimaaZG16
import Derived.OpenShut
namespace Go.Proofs.Ytpcbammncaeimaa
open Go.RowKit
set_option linter.unusedVariables false
set_option linter.unusedSimpArgs false
set_option maxRecDepth 100000 in
set_option maxHeartbeats 1600000 in
theorem owithin (b1 b2 n m : Nat) (hm : 2 * n = m) (h16 : m ≤ 16) (A B : Mx) (hAB : ∀ a c, a < m → c < m → A a c ≤ B a c) (w : World) (h1 : OctAt w b1 n false A) (h2 : OctAt w b2 n false B) :
    Calls Try.prog 16 #[.pointer (some ⟨b1, 0, none⟩), .pointer (some ⟨b2, 0, none⟩)] w fun r w' => r = .returned (.bool true) ∧ Below w.heap.size w w' := by
  have ka := oalike b1 b2 n false false A B w h1 h2
  have ks := fun V hV => osides b1 n m false A hm h16 V hV
  have k1 := fun V a ha hV => orow b1 n m false A hm h16 a ha V hV
  have k2 := fun V a ha hV => orow b2 n m false B hm h16 a ha V hV
  have e1 := h1.he
  have e2 := h2.he
  clear hm
  go_enter Try.func16, Try.ntmps16
  go_wp2_with (first
    | (go_at_call 45; refine ka.mono ?_; rintro r w1 ⟨rfl, k, rfl⟩; replace h1 := h1.drewN k; replace h2 := h2.drewN k; replace e1 := h1.he; replace e2 := h2.he)
    | (go_at_call 41; refine (ks _ h1).mono ?_; rintro r w2 ⟨rfl, hw2⟩; subst w2)
    | fail)
  clear ka ks e1 e2
  go_loopw [31] (fun i wr => ∃ (WR : World) (a : Nat), WR = wr ∧ a ≤ m ∧ i = .int .i64 a ∧ OctAt wr b1 n false A ∧ OctAt wr b2 n false B ∧ Below w.heap.size w wr) (fun i _ => m - (intOf i).toNat)
  case atStart => exact ⟨_, 0, rfl, by omega, rfl, h1, h2, ⟨rfl, rfl, rfl, Nat.le_refl _, fun _ _ => rfl⟩⟩
  case round =>
    clear h1 h2
    obtain ⟨WR, a, rfl, ha, rfl, h1, h2, cc⟩ := hrel
    by_cases ca : a < m
    · have ca' : (a : Int) < (m : Int) := by omega
      go_wp2_with (first
        | (go_at_call_of 42 b2; refine (k2 _ a ca h2).mono ?_; rintro r w3 ⟨rfl, q, rfl⟩; replace h1 := h1.drewN q; replace h2 := h2.drewN q; replace cc : Below w.heap.size w (WR.drewN q) := ⟨cc.os, cc.tape, cc.output, cc.size, cc.block⟩)
        | (go_at_call_of 42 b1; refine (k1 _ a ca h1).mono ?_; rintro r w4 ⟨rfl, q2, rfl⟩; replace h1 := h1.drewN q2; replace h2 := h2.drewN q2; replace cc : Below w.heap.size w ((WR.drewN q).drewN q2) := ⟨cc.os, cc.tape, cc.output, cc.size, cc.block⟩)
        | fail)
      go_loopw [41] (fun i wr => ∃ (WS : World) (c : Nat), WS = wr ∧ c ≤ m ∧ i = .int .i64 c ∧ OctAt wr b1 n false A ∧ OctAt wr b2 n false B ∧ Below w.heap.size w wr) (fun i _ => m - (intOf i).toNat)
      case atStart => exact ⟨_, 0, rfl, by omega, rfl, by simpa using h1, by simpa using h2, by simpa using cc⟩
      case round =>
        clear h1 h2 cc
        obtain ⟨WS, c, rfl, hc, rfl, h1, h2, cc⟩ := hrel
        by_cases cx : c < m
        · have cx' : (c : Int) < (m : Int) := by omega
          have z1 := oiz b1 (2 + a * 16) m m c cx
          have z2 := oiz b2 (2 + a * 16) m m c cx
          have y1 := h1.hm a c (by omega) (by omega)
          have y2 := h2.hm a c (by omega) (by omega)
          have le := hAB a c ca cx
          have le' : ¬ B a c < A a c := by omega
          have wc : IntKind.i64.wrap ((c : Int) + 1) = ((c + 1 : Nat) : Int) := by rw [IntKind.wrap_i64]; omega
          clear k1 k2 hAB le
          generalize A a c = p at *
          generalize B a c = q at *
          go_wp2_with fail
          exact ⟨⟨_, c + 1, rfl, by omega, by simp, h1, h2, cc⟩, by simp [intOf]; omega⟩
        · have ec : c = m := by omega
          subst ec
          clear cx hc
          have wa : IntKind.i64.wrap ((a : Int) + 1) = ((a + 1 : Nat) : Int) := by rw [IntKind.wrap_i64]; omega
          go_wp2_with fail
          go_roundw
          case rel => exact ⟨_, a + 1, rfl, by omega, by first | rfl | go_num, h1, h2, cc⟩
          case measure => simp [intOf]; omega
    · have ea : a = m := by omega
      subst ea
      clear ca ha
      go_wp2_with fail
      go_ret
      exact ⟨rfl, cc⟩
end Go.Proofs.Ytpcbammncaeimaa

namespace Go.Proofs.Ytpcbammncaeimaa
open Go.RowKit
set_option linter.unusedVariables false
set_option linter.unusedSimpArgs false
theorem drewN_bel (w : World) (k : Nat) : Below w.heap.size w (w.drewN k) := ⟨rfl, rfl, rfl, Nat.le_refl _, fun _ _ => rfl⟩
end Go.Proofs.Ytpcbammncaeimaa


namespace Go.Proofs.Ytpcbammncaeimaa
open Go.RowKit
set_option linter.unusedVariables false
set_option linter.unusedSimpArgs false
def Wi (n : Nat) (e1 : Bool) (A : Mx) (e2 : Bool) (B : Mx) : Prop := e1 = true ∨ (e1 = false ∧ e2 = false ∧ Le n A B)
theorem Agr.le {n : Nat} {A B : Mx} (h : Agr n A B) : Le n A B := fun a b ha hb => by rw [h a b ha hb]; exact Int.le_refl _
theorem Agr.ge {n : Nat} {A B : Mx} (h : Agr n A B) : Le n B A := fun a b ha hb => by rw [h a b ha hb]; exact Int.le_refl _
set_option maxRecDepth 100000 in
set_option maxHeartbeats 1600000 in
theorem owithinT (b1 b2 n : Nat) (hn : n ≤ 8) (e1 e2 : Bool) (A B : Mx) (hw : Wi n e1 A e2 B) (w : World) (h1 : OctAt w b1 n e1 A) (h2 : OctAt w b2 n e2 B) :
    Calls Try.prog 16 #[.pointer (some ⟨b1, 0, none⟩), .pointer (some ⟨b2, 0, none⟩)] w fun r w' => r = .returned (.bool true) ∧ Below w.heap.size w w' := by
  rcases hw with rfl | ⟨rfl, rfl, hl⟩
  · have ka := oalike b1 b2 n true e2 A B w h1 h2
    have q1 := h1.he
    have q2 := h2.he
    go_enter Try.func16, Try.ntmps16
    go_wp2_with (first
      | (go_at_call 45; refine ka.mono ?_; rintro r w1 ⟨rfl, k, rfl⟩; replace h1 := h1.drewN k; replace h2 := h2.drewN k; replace q1 := h1.he; replace q2 := h2.he)
      | fail)
    go_ret
    exact ⟨rfl, ⟨rfl, rfl, rfl, Nat.le_refl _, fun _ _ => rfl⟩⟩
  · exact owithin b1 b2 n (2 * n) rfl (by omega) A B hl w h1 h2
end Go.Proofs.Ytpcbammncaeimaa


namespace Go.Proofs.Ytpcbammncaeimaa
open Go.RowKit
set_option linter.unusedVariables false
set_option linter.unusedSimpArgs false
def SlI (w : World) (sl : Value) (ts : List Int) : Prop := (sl = .slice none 0 0 ∧ ts = []) ∨ ∃ bk off cap : Nat, sl = .slice (some ⟨bk, off, none⟩) ts.length cap ∧ ts.length ≤ 9223372036854775807 ∧ ∀ j x, ts[j]? = some x → w.cell? ⟨bk, off + j, none⟩ = some (.int .i64 x)
theorem SlI.on {w V : World} {sl : Value} {ts : List Int} (h : SlI w sl ts) (g : Below w.heap.size w V) : SlI V sl ts := by
  rcases h with h | ⟨bk, off, cap, h1, h2, h4⟩
  · exact Or.inl h
  · exact Or.inr ⟨bk, off, cap, h1, h2, fun j x hx => sO g (h4 j x hx)⟩
def InBx (ts : List Int) : Prop := ∀ (j : Nat) x, ts[j]? = some x → -8589934592 ≤ x ∧ x ≤ 8589934592
def TellB (r : Ending) (p : Prop) : Prop := ∃ v : Bool, r = .returned (.bool v) ∧ (v = true ↔ p)
theorem tell_t {p : Prop} (h : p) : TellB (.returned (.bool true)) p := ⟨true, rfl, by simp [h]⟩
theorem tell_f {p : Prop} (h : ¬ p) : TellB (.returned (.bool false)) p := ⟨false, rfl, by simp [h]⟩
set_option maxRecDepth 100000 in
set_option maxHeartbeats 1600000 in
theorem oallin (sl : Value) (ts : List Int) (w : World) (h : SlI w sl ts) : Calls Try.prog 40 #[sl] w fun r w' => TellB r (InBx ts) ∧ w' = w := by
  rcases h with ⟨rfl, rfl⟩ | ⟨bk, off, cap, rfl, hlen, hc0⟩
  · go_enter Try.func40, Try.ntmps40
    go_wp2_with fail
    go_loopw [7] (fun i wr => i = .int .i64 0 ∧ wr = w) (fun _ _ => 0)
    case atStart => exact ⟨rfl, rfl⟩
    case round =>
      obtain ⟨rfl, rfl⟩ := hrel
      go_wp2_with fail
      go_ret
      exact ⟨tell_t (fun j x hx => by simp at hx), rfl⟩
  · obtain ⟨len, hl⟩ : ∃ len, ts.length = len := ⟨_, rfl⟩
    rw [hl] at hlen ⊢
    have hc : Hid (∀ j x, ts[j]? = some x → w.cell? ⟨bk, off + j, none⟩ = some (.int .i64 x)) := hc0
    have hl' : Hid (ts.length = len) := hl
    clear hc0 hl
    go_enter Try.func40, Try.ntmps40
    go_wp2_with fail
    go_loopw [7] (fun i wr => ∃ k : Nat, k ≤ len ∧ i = .int .i64 k ∧ wr = w ∧ Hid (∀ j x, j < k → ts[j]? = some x → -8589934592 ≤ x ∧ x ≤ 8589934592)) (fun i _ => len - (intOf i).toNat)
    case atStart => exact ⟨0, by omega, rfl, rfl, (fun j x hj => by omega : ∀ j x, j < 0 → ts[j]? = some x → -8589934592 ≤ x ∧ x ≤ 8589934592)⟩
    case round =>
      obtain ⟨k, hk, rfl, rfl, hin⟩ := hrel
      by_cases ck : k < len
      · have ck' : (k : Int) < (len : Int) := by omega
        obtain ⟨x, hx⟩ : ∃ x, ts[k]? = some x := ⟨_, List.getElem?_eq_getElem (by rw [hl'.out]; exact ck)⟩
        have cx := hc.out k x hx
        have ix := oiz bk off len cap k ck
        have wk : IntKind.i64.wrap ((k : Int) + 1) = ((k + 1 : Nat) : Int) := by rw [IntKind.wrap_i64]; omega
        have nx : Hid (¬ (-8589934592 ≤ x ∧ x ≤ 8589934592) → ¬ InBx ts) := fun q p => q (p k x hx)
        have px : Hid ((-8589934592 ≤ x ∧ x ≤ 8589934592) → ∀ j y, j < k + 1 → ts[j]? = some y → -8589934592 ≤ y ∧ y ≤ 8589934592) := fun q j y hj hy => by
          by_cases e : j = k
          · subst e; rw [hx] at hy; cases hy; exact q
          · exact hin.out j y (by omega) hy
        clear hx hin
        by_cases l1 : x < -8589934592
        · go_wp2_with fail
          go_ret
          exact ⟨tell_f (nx.out (by omega)), rfl⟩
        · by_cases l2 : 8589934592 < x
          · go_wp2_with fail
            go_ret
            exact ⟨tell_f (nx.out (by omega)), rfl⟩
          · go_wp2_with fail
            exact ⟨⟨k + 1, by omega, by simp, by first | rfl | trivial, px.out ⟨by omega, by omega⟩⟩, by simp [intOf]; omega⟩
      · have ek : k = len := by omega
        subst ek
        go_wp2_with fail
        go_ret
        exact ⟨tell_t (fun j x hx => hin.out j x (by rw [← hl'.out]; exact (List.getElem?_eq_some_iff.1 hx).1) hx), rfl⟩
def pv (ts : List Int) (a : Nat) : Int := if a % 2 = 1 then -(ts.getD (a / 2) 0) else ts.getD (a / 2) 0
set_option maxRecDepth 100000 in
theorem oval (sl : Value) (ts : List Int) (a : Nat) (ha : a < 2 * ts.length) (h16 : a ≤ 16) (hb : InBx ts) (w : World) (h : SlI w sl ts) : Calls Try.prog 43 #[.int .i64 a, sl] w fun r w' => r = .returned (.int .i64 (pv ts a)) ∧ w' = w := by
  rcases h with ⟨rfl, rfl⟩ | ⟨bk, off, cap, rfl, hlen, hc⟩
  · simp at ha
  · obtain ⟨x, hx⟩ : ∃ x, ts[a / 2]? = some x := ⟨_, List.getElem?_eq_getElem (by omega)⟩
    have bx := hb _ x hx
    have cx := hc _ x hx
    have ix := oiz bk off ts.length cap (a / 2) (by omega)
    have gd : ts.getD (a / 2) 0 = x := by simp [List.getD, hx]
    have wn : IntKind.i64.wrap (-x) = -x := by rw [IntKind.wrap_i64]; omega
    unfold pv
    rw [gd]
    obtain ⟨k, hk⟩ : ∃ k, a / 2 = k := ⟨_, rfl⟩
    obtain ⟨len, hl⟩ : ∃ len, ts.length = len := ⟨_, rfl⟩
    rw [hl] at ix ⊢
    rw [hk] at cx ix
    have q2 : (a : Int).tdiv 2 = (k : Int) := by rw [Int.tdiv_eq_ediv_of_nonneg (by omega)]; omega
    have wq : IntKind.i64.wrap (k : Int) = (k : Int) := by rw [IntKind.wrap_i64]; omega
    clear hc gd hx hb hlen
    by_cases c : a % 2 = 1
    · have r2 : (a : Int).tmod 2 = 1 := by rw [Int.tmod_eq_emod_of_nonneg (by omega)]; omega
      rw [if_pos c]
      go_enter Try.func43, Try.ntmps43
      go_wp2_with fail
      go_ret
      exact ⟨rfl, rfl⟩
    · have r2 : (a : Int).tmod 2 = 0 := by rw [Int.tmod_eq_emod_of_nonneg (by omega)]; omega
      rw [if_neg c]
      go_enter Try.func43, Try.ntmps43
      go_wp2_with fail
      go_ret
      exact ⟨rfl, rfl⟩
end Go.Proofs.Ytpcbammncaeimaa


namespace Go.Proofs.Ytpcbammncaeimaa
open Go.RowKit
set_option linter.unusedVariables false
set_option linter.unusedSimpArgs false
def HasP (n : Nat) (e : Bool) (T : Mx) (ts : List Int) : Prop := e = false ∧ ts.length = n ∧ InBx ts ∧ ∀ a b, a < 2 * n → b < 2 * n → pv ts a + pv ts b ≤ T a b
theorem pv_in {ts : List Int} (h : InBx ts) {a : Nat} (ha : a < 2 * ts.length) : -8589934592 ≤ pv ts a ∧ pv ts a ≤ 8589934592 := by
  obtain ⟨x, hx⟩ : ∃ x, ts[a / 2]? = some x := ⟨_, List.getElem?_eq_getElem (by omega)⟩
  have bx := h _ x hx
  have gd : ts.getD (a / 2) 0 = x := by simp [List.getD, hx]
  unfold pv
  rw [gd]
  split <;> omega
theorem SlI.len {w : World} {sl : Value} {ts : List Int} (h : SlI w sl ts) : ∃ p c, sl = .slice p ts.length c := by
  rcases h with ⟨rfl, rfl⟩ | ⟨bk, off, cap, rfl, _⟩
  · exact ⟨none, 0, rfl⟩
  · exact ⟨_, _, rfl⟩
theorem OctAt.w {W V : World} {b n : Nat} {e : Bool} {M : Mx} {k : Nat} (h : OctAt W b n e M) (hv : V = W.drewN k) : OctAt V b n e M := hv ▸ h.drewN k
set_option maxRecDepth 100000 in
set_option maxHeartbeats 3200000 in
theorem ohas (b n : Nat) (hn : n ≤ 8) (e : Bool) (T : Mx) (sl : Value) (ts : List Int) (w : World) (h : OctAt w b n e T) (hs : SlI w sl ts) : Calls Try.prog 14 #[.pointer (some ⟨b, 0, none⟩), sl] w fun r w' => TellB r (HasP n e T ts) ∧ Below w.heap.size w w' := by
  have ka := oallin sl ts w hs
  have he := h.he
  have hv := h.hv
  cases e
  case true =>
    obtain ⟨p, c, rfl⟩ := hs.len
    go_enter Try.func14, Try.ntmps14
    go_wp2_with fail
    go_ret
    exact ⟨tell_f (fun q => by cases q.1), Below.refl _ _⟩
  case false =>
    by_cases cl : ts.length = n
    case neg =>
      have cl' : ¬ (ts.length : Int) = (n : Int) := by omega
      have nf : Hid (¬ HasP n false T ts) := fun q => cl q.2.1
      obtain ⟨p, c, rfl⟩ := hs.len
      generalize ts.length = len at *
      go_enter Try.func14, Try.ntmps14
      go_wp2_with fail
      go_ret
      exact ⟨tell_f nf.out, Below.refl _ _⟩
    case pos =>
      obtain ⟨m, hm⟩ : ∃ m, 2 * n = m := ⟨_, rfl⟩
      have ks := osides b n m false T hm (by omega) w h
      have kr := fun V a ha hV => orow b n m false T hm (by omega) a ha V hV
      by_cases ib : InBx ts
      case neg =>
        have ka' : Calls Try.prog 40 #[sl] w fun r w' => r = .returned (.bool false) ∧ w' = w := ka.mono fun r w' ⟨⟨v, q1, q2⟩, q3⟩ => ⟨by cases v; exact q1; exact absurd (q2.1 rfl) ib, q3⟩
        have nf : Hid (¬ HasP n false T ts) := fun q => ib q.2.2.1
        obtain ⟨p, c, rfl⟩ := hs.len
        rw [cl] at *
        clear ka hs ks kr
        go_enter Try.func14, Try.ntmps14
        go_wp2_with (first
          | (go_at_call 40; refine ka'.mono ?_; rintro r v2 ⟨rfl, hw⟩; subst v2)
          | fail)
        go_ret
        exact ⟨tell_f nf.out, Below.refl _ _⟩
      case pos =>
        have ka' : Calls Try.prog 40 #[sl] w fun r w' => r = .returned (.bool true) ∧ w' = w := ka.mono fun r w' ⟨⟨v, q1, q2⟩, q3⟩ => ⟨by cases v; exact absurd (q2.2 ib) (by simp); exact q1, q3⟩
        have kv := fun V a ha hV => oval sl ts a (by rw [cl, hm]; exact ha) (by omega) ib V hV
        have pb := fun a (ha : a < m) => pv_in ib (a := a) (by rw [cl, hm]; exact ha)
        have fin : Hid ((∀ a c, a < m → c < m → pv ts a + pv ts c ≤ T a c) → HasP n false T ts) := fun q => ⟨rfl, cl, ib, fun a c ha hc => q a c (by omega) (by omega)⟩
        have nfi : Hid (∀ a c, a < m → c < m → ¬ pv ts a + pv ts c ≤ T a c → ¬ HasP n false T ts) := fun a c ha hc q p => q (p.2.2.2 a c (by omega) (by omega))
        have h16 : Hid (m ≤ 16) := (by omega : m ≤ 16)
        obtain ⟨p, c, hsl⟩ := hs.len
        rw [cl] at hsl
        generalize pv ts = P at *
        subst hsl
        clear ka ib cl hm hn
        go_enter Try.func14, Try.ntmps14
        go_wp2_with (first
          | (go_at_call 40; refine ka'.mono ?_; rintro r v2 ⟨rfl, hw⟩; subst v2)
          | (go_at_call 41; refine ks.mono ?_; rintro r w2 ⟨rfl, hw2⟩; subst w2)
          | fail)
        clear ka' ks he hv
        go_loopw [32] (fun i wr => ∃ (WR : World) (a : Nat), WR = wr ∧ a ≤ m ∧ i = .int .i64 a ∧ OctAt wr b n false T ∧ SlI wr (.slice p n c) ts ∧ Hid (Below w.heap.size w wr) ∧ Hid (∀ x y, x < a → y < m → P x + P y ≤ T x y)) (fun i _ => m - (intOf i).toNat)
        case atStart => exact ⟨_, 0, rfl, by omega, rfl, h, hs, Below.refl _ _, (fun x y hx => by omega : ∀ x y, x < 0 → y < m → P x + P y ≤ T x y)⟩
        case round =>
          clear h hs
          obtain ⟨WR, a, rfl, ha, rfl, h, hs, cc, ok⟩ := hrel
          by_cases ca : a < m
          · have ca' : (a : Int) < (m : Int) := by omega
            have kva := fun V hV => kv V a ca hV
            go_wp2_with (first
              | (go_at_call 42; refine (kr _ a ca h).mono ?_; rintro r w3 ⟨rfl, q, hv⟩; replace h := h.w hv; have gd : Below WR.heap.size WR w3 := hv ▸ drewN_bel WR q; replace hs := hs.on gd; clear gd; replace cc := bel_dr cc hv; clear hv)
              | fail)
            go_loopw [39] (fun i wr => ∃ (WS : World) (d : Nat), WS = wr ∧ d ≤ m ∧ i = .int .i64 d ∧ OctAt wr b n false T ∧ SlI wr (.slice p n c) ts ∧ Hid (Below w.heap.size w wr) ∧ Hid (∀ y, y < d → P a + P y ≤ T a y)) (fun i _ => m - (intOf i).toNat)
            case atStart => exact ⟨_, 0, rfl, by omega, rfl, h, hs, cc, (fun y hy => by omega : ∀ y, y < 0 → P a + P y ≤ T a y)⟩
            case round =>
              clear h hs cc
              obtain ⟨WS, d, rfl, hd, rfl, h, hs, cc, ok2⟩ := hrel
              by_cases cd : d < m
              · have cd' : (d : Int) < (m : Int) := by omega
                have z1 := oiz b (2 + a * 16) m m d cd
                have y1 := h.hm a d (by have := h16.out; omega) (by have := h16.out; omega)
                have wd : IntKind.i64.wrap ((d : Int) + 1) = ((d + 1 : Nat) : Int) := by have := h16.out; rw [IntKind.wrap_i64]; omega
                have wp : IntKind.i64.wrap (P a + P d) = P a + P d := by have := pb a ca; have := pb d cd; rw [IntKind.wrap_i64]; omega
                have k1 := kv WS a ca hs
                have k2 := kv WS d cd hs
                have nf := fun q => nfi.out a d ca cd q
                have nx : Hid (P a + P d ≤ T a d → ∀ y, y < d + 1 → P a + P y ≤ T a y) := fun q y hy => by
                  by_cases e : y = d
                  · subst e; exact q
                  · exact ok2.out y (by omega)
                generalize T a d = t at *
                by_cases le : t < P a + P d
                · clear nx
                  replace nf := nf (by omega)
                  clear kv kva kr pb
                  go_wp2_with (first
                    | (go_at_call 43; refine k1.mono ?_; rintro r v2 ⟨rfl, hw⟩; subst v2; clear k1)
                    | (go_at_call 43; refine k2.mono ?_; rintro r v2 ⟨rfl, hw⟩; subst v2; clear k2)
                    | fail)
                  go_ret
                  exact ⟨tell_f nf, cc.out⟩
                · have nx2 : Hid (∀ y, y < d + 1 → P a + P y ≤ T a y) := nx.out (by omega)
                  clear nx nf kv kva kr pb
                  go_wp2_with (first
                    | (go_at_call 43; refine k1.mono ?_; rintro r v2 ⟨rfl, hw⟩; subst v2; clear k1)
                    | (go_at_call 43; refine k2.mono ?_; rintro r v2 ⟨rfl, hw⟩; subst v2; clear k2)
                    | fail)
                  exact ⟨⟨_, d + 1, rfl, by omega, by simp, h, hs, cc, nx2⟩, by simp [intOf]; omega⟩
              · have ed : d = m := by omega
                subst ed
                have wa : IntKind.i64.wrap ((a : Int) + 1) = ((a + 1 : Nat) : Int) := by have := h16.out; rw [IntKind.wrap_i64]; omega
                have ok3 : Hid (∀ x y, x < a + 1 → y < d → P x + P y ≤ T x y) := fun x y hx hy => by
                  by_cases e : x = a
                  · subst e; exact ok2.out y hy
                  · exact ok.out x y (by omega) hy
                clear kv kva kr pb
                go_wp2_with fail
                go_roundw
                case rel => exact ⟨_, a + 1, rfl, by omega, by first | rfl | go_num, h, hs, cc, ok3⟩
                case measure => simp [intOf]; omega
          · have ea : a = m := by omega
            subst ea
            clear kv kr pb
            go_wp2_with fail
            go_ret
            exact ⟨tell_t (fin.out fun x y hx hy => ok.out x y hx hy), cc.out⟩
end Go.Proofs.Ytpcbammncaeimaa


namespace Go.Proofs.Ytpcbammncaeimaa
open Go.RowKit
set_option linter.unusedVariables false
set_option linter.unusedSimpArgs false
set_option maxRecDepth 100000 in
set_option maxHeartbeats 1600000 in
theorem owithinB (b1 b2 n : Nat) (hn : n ≤ 8) (e1 e2 : Bool) (A B : Mx) (w : World) (h1 : OctAt w b1 n e1 A) (h2 : OctAt w b2 n e2 B) :
    Calls Try.prog 16 #[.pointer (some ⟨b1, 0, none⟩), .pointer (some ⟨b2, 0, none⟩)] w fun r w' => TellB r (Wi n e1 A e2 B) ∧ Below w.heap.size w w' := by
  cases e1
  case true => exact (owithinT b1 b2 n hn true e2 A B (Or.inl rfl) w h1 h2).mono fun r w' q => ⟨q.1 ▸ tell_t (Or.inl rfl), q.2⟩
  case false =>
  have ka := oalike b1 b2 n false e2 A B w h1 h2
  have q1 := h1.he
  have q2 := h2.he
  cases e2
  case true =>
    go_enter Try.func16, Try.ntmps16
    go_wp2_with (first
      | (go_at_call 45; refine ka.mono ?_; rintro r w1 ⟨rfl, k, rfl⟩; replace h1 := h1.drewN k; replace h2 := h2.drewN k; replace q1 := h1.he; replace q2 := h2.he)
      | fail)
    go_ret
    exact ⟨tell_f (fun q => by rcases q with q | ⟨_, q, _⟩ <;> cases q), ⟨rfl, rfl, rfl, Nat.le_refl _, fun _ _ => rfl⟩⟩
  case false =>
  obtain ⟨m, hm⟩ : ∃ m, 2 * n = m := ⟨_, rfl⟩
  have h16 : Hid (m ≤ 16) := (by omega : m ≤ 16)
  have fin : Hid ((∀ a c, a < m → c < m → A a c ≤ B a c) → Wi n false A false B) := fun q => Or.inr ⟨rfl, rfl, fun a c ha hc => q a c (by omega) (by omega)⟩
  have nfi : Hid (∀ a c, a < m → c < m → ¬ A a c ≤ B a c → ¬ Wi n false A false B) := fun a c ha hc q p => by
    rcases p with p | ⟨_, _, p⟩
    · cases p
    · exact q (p a c (by omega) (by omega))
  have ks := fun V hV => osides b1 n m false A hm h16.out V hV
  have k1 := fun V a ha hV => orow b1 n m false A hm h16.out a ha V hV
  have k2 := fun V a ha hV => orow b2 n m false B hm h16.out a ha V hV
  clear hm hn
  go_enter Try.func16, Try.ntmps16
  go_wp2_with (first
    | (go_at_call 45; refine ka.mono ?_; rintro r w1 ⟨rfl, k, rfl⟩; replace h1 := h1.drewN k; replace h2 := h2.drewN k; replace q1 := h1.he; replace q2 := h2.he)
    | (go_at_call 41; refine (ks _ h1).mono ?_; rintro r w2 ⟨rfl, hw2⟩; subst w2)
    | fail)
  clear ka ks q1 q2
  go_loopw [31] (fun i wr => ∃ (WR : World) (a : Nat), WR = wr ∧ a ≤ m ∧ i = .int .i64 a ∧ OctAt wr b1 n false A ∧ OctAt wr b2 n false B ∧ Hid (Below w.heap.size w wr) ∧ Hid (∀ x y, x < a → y < m → A x y ≤ B x y)) (fun i _ => m - (intOf i).toNat)
  case atStart => exact ⟨_, 0, rfl, by omega, rfl, h1, h2, (⟨rfl, rfl, rfl, Nat.le_refl _, fun _ _ => rfl⟩ : Below w.heap.size w (w.drewN k)), (fun x y hx => by omega : ∀ x y, x < 0 → y < m → A x y ≤ B x y)⟩
  case round =>
    clear h1 h2
    obtain ⟨WR, a, rfl, ha, rfl, h1, h2, cc, ok⟩ := hrel
    by_cases ca : a < m
    · have ca' : (a : Int) < (m : Int) := by omega
      go_wp2_with (first
        | (go_at_call_of 42 b2; refine (k2 _ a ca h2).mono ?_; rintro r w3 ⟨rfl, q, hv⟩; replace h1 := h1.w hv; replace h2 := h2.w hv; replace cc := bel_dr cc hv; clear hv)
        | (go_at_call_of 42 b1; refine (k1 _ a ca h1).mono ?_; rintro r w4 ⟨rfl, q, hv⟩; replace h1 := h1.w hv; replace h2 := h2.w hv; replace cc := bel_dr cc hv; clear hv)
        | fail)
      go_loopw [41] (fun i wr => ∃ (WS : World) (c : Nat), WS = wr ∧ c ≤ m ∧ i = .int .i64 c ∧ OctAt wr b1 n false A ∧ OctAt wr b2 n false B ∧ Hid (Below w.heap.size w wr) ∧ Hid (∀ y, y < c → A a y ≤ B a y)) (fun i _ => m - (intOf i).toNat)
      case atStart => exact ⟨_, 0, rfl, by omega, rfl, h1, h2, cc, (fun y hy => by omega : ∀ y, y < 0 → A a y ≤ B a y)⟩
      case round =>
        clear h1 h2 cc
        obtain ⟨WS, c, rfl, hc, rfl, h1, h2, cc, ok2⟩ := hrel
        by_cases cx : c < m
        · have cx' : (c : Int) < (m : Int) := by omega
          have z1 := oiz b1 (2 + a * 16) m m c cx
          have z2 := oiz b2 (2 + a * 16) m m c cx
          have y1 := h1.hm a c (by have := h16.out; omega) (by have := h16.out; omega)
          have y2 := h2.hm a c (by have := h16.out; omega) (by have := h16.out; omega)
          have nf := fun q => nfi.out a c ca cx q
          have nx : Hid (A a c ≤ B a c → ∀ y, y < c + 1 → A a y ≤ B a y) := fun q y hy => by
            by_cases e : y = c
            · subst e; exact q
            · exact ok2.out y (by omega)
          have wc : IntKind.i64.wrap ((c : Int) + 1) = ((c + 1 : Nat) : Int) := by have := h16.out; rw [IntKind.wrap_i64]; omega
          clear k1 k2
          by_cases le : B a c < A a c
          · replace nf := nf (by omega)
            clear nx
            generalize A a c = p at *
            generalize B a c = q at *
            go_wp2_with fail
            go_ret
            exact ⟨tell_f nf, cc.out⟩
          · have nx2 : Hid (∀ y, y < c + 1 → A a y ≤ B a y) := nx.out (by omega)
            clear nx nf
            generalize A a c = p at *
            generalize B a c = q at *
            go_wp2_with fail
            exact ⟨⟨_, c + 1, rfl, by omega, by simp, h1, h2, cc, nx2⟩, by simp [intOf]; omega⟩
        · have ec : c = m := by omega
          subst ec
          have wa : IntKind.i64.wrap ((a : Int) + 1) = ((a + 1 : Nat) : Int) := by have := h16.out; rw [IntKind.wrap_i64]; omega
          have ok3 : Hid (∀ x y, x < a + 1 → y < c → A x y ≤ B x y) := fun x y hx hy => by
            by_cases e : x = a
            · subst e; exact ok2.out y hy
            · exact ok.out x y (by omega) hy
          go_wp2_with fail
          go_roundw
          case rel => exact ⟨_, a + 1, rfl, by omega, by first | rfl | go_num, h1, h2, cc, ok3⟩
          case measure => simp [intOf]; omega
    · have ea : a = m := by omega
      subst ea
      go_wp2_with fail
      go_ret
      exact ⟨tell_t (fin.out fun x y hx hy => ok.out x y hx hy), cc.out⟩
set_option maxRecDepth 100000 in
theorem rat (sl : Value) (ts : List Int) (a : Nat) (ha : a < 2 * ts.length) (h16 : a ≤ 16) (hb : InBx ts) (w : World) (h : SlI w sl ts) : Calls Try.prog 44 #[sl, .int .i64 a] w fun r w' => r = .returned (.int .i64 (pv ts a)) ∧ w' = w := by
  rcases h with ⟨rfl, rfl⟩ | ⟨bk, off, cap, rfl, hlen, hc⟩
  · simp at ha
  · obtain ⟨x, hx⟩ : ∃ x, ts[a / 2]? = some x := ⟨_, List.getElem?_eq_getElem (by omega)⟩
    have bx := hb _ x hx
    have cx := hc _ x hx
    have ix := oiz bk off ts.length cap (a / 2) (by omega)
    have gd : ts.getD (a / 2) 0 = x := by simp [List.getD, hx]
    have wn : IntKind.i64.wrap (-x) = -x := by rw [IntKind.wrap_i64]; omega
    unfold pv
    rw [gd]
    obtain ⟨k, hk⟩ : ∃ k, a / 2 = k := ⟨_, rfl⟩
    obtain ⟨len, hl⟩ : ∃ len, ts.length = len := ⟨_, rfl⟩
    rw [hl] at ix ⊢
    rw [hk] at cx ix
    have q2 : (a : Int).tdiv 2 = (k : Int) := by rw [Int.tdiv_eq_ediv_of_nonneg (by omega)]; omega
    have wq : IntKind.i64.wrap (k : Int) = (k : Int) := by rw [IntKind.wrap_i64]; omega
    clear hc gd hx hb hlen
    by_cases c : a % 2 = 1
    · have r2 : (a : Int).tmod 2 = 1 := by rw [Int.tmod_eq_emod_of_nonneg (by omega)]; omega
      rw [if_pos c]
      go_enter Try.func44, Try.ntmps44
      go_wp2_with fail
      go_ret
      exact ⟨rfl, rfl⟩
    · have r2 : (a : Int).tmod 2 = 0 := by rw [Int.tmod_eq_emod_of_nonneg (by omega)]; omega
      rw [if_neg c]
      go_enter Try.func44, Try.ntmps44
      go_wp2_with fail
      go_ret
      exact ⟨rfl, rfl⟩
end Go.Proofs.Ytpcbammncaeimaa


namespace Go.Proofs.Ytpcbammncaeimaa
open Go.RowKit
set_option linter.unusedVariables false
set_option linter.unusedSimpArgs false
set_option maxRecDepth 100000 in
set_option maxHeartbeats 3200000 in
theorem rwithin (R1 R2 : Rf) (n : Nat) (hn : n ≤ 4) (e1 e2 : Bool) (A B : Mx) (w : World) (h1 : RefAt w R1 n e1 A) (h2 : RefAt w R2 n e2 B) :
    Calls Try.prog 17 #[.pointer (some ⟨R1.b, 0, none⟩), .pointer (some ⟨R2.b, 0, none⟩)] w fun r w' => TellB r (Wi n e1 A e2 B) ∧ Below w.heap.size w w' := by
  have ka := rfits R1 R2 n e1 e2 A B w h1 h2
  have q1 := h1.he
  have q2 := h2.he
  cases e1
  case true =>
    go_enter Try.func17, Try.ntmps17
    go_wp2_with (first
      | (go_at_call 46; refine ka.mono ?_; rintro r w1 ⟨rfl, k, rfl⟩; replace h1 := h1.drewN k; replace h2 := h2.drewN k; replace q1 := h1.he; replace q2 := h2.he)
      | fail)
    go_ret
    exact ⟨tell_t (Or.inl rfl), ⟨rfl, rfl, rfl, Nat.le_refl _, fun _ _ => rfl⟩⟩
  case false =>
  cases e2
  case true =>
    go_enter Try.func17, Try.ntmps17
    go_wp2_with (first
      | (go_at_call 46; refine ka.mono ?_; rintro r w1 ⟨rfl, k, rfl⟩; replace h1 := h1.drewN k; replace h2 := h2.drewN k; replace q1 := h1.he; replace q2 := h2.he)
      | fail)
    go_ret
    exact ⟨tell_f (fun q => by rcases q with q | ⟨_, q, _⟩ <;> cases q), ⟨rfl, rfl, rfl, Nat.le_refl _, fun _ _ => rfl⟩⟩
  case false =>
  obtain ⟨m, hm⟩ : ∃ m, 2 * n = m := ⟨_, rfl⟩
  have h8 : Hid (m ≤ 8) := (by omega : m ≤ 8)
  have hm' : Hid (2 * n = m) := hm
  have wm : IntKind.i64.wrap (2 * (n : Int)) = (m : Int) := by rw [IntKind.wrap_i64]; omega
  have fin : Hid ((∀ a c, a < m → c < m → A a c ≤ B a c) → Wi n false A false B) := fun q => Or.inr ⟨rfl, rfl, fun a c ha hc => q a c (by omega) (by omega)⟩
  have nfi : Hid (∀ a c, a < m → c < m → ¬ A a c ≤ B a c → ¬ Wi n false A false B) := fun a c ha hc q p => by
    rcases p with p | ⟨_, _, p⟩
    · cases p
    · exact q (p a c (by omega) (by omega))
  clear hm hn
  go_enter Try.func17, Try.ntmps17
  go_wp2_with (first
    | (go_at_call 46; refine ka.mono ?_; rintro r w1 ⟨rfl, k, rfl⟩; replace h1 := h1.drewN k; replace h2 := h2.drewN k; replace q1 := h1.he; replace q2 := h2.he)
    | fail)
  clear ka q1 q2
  go_loopw [5] (fun i wr => ∃ (WR : World) (a : Nat), WR = wr ∧ a ≤ m ∧ i = .int .i64 a ∧ RefAt wr R1 n false A ∧ RefAt wr R2 n false B ∧ Hid (Below w.heap.size w wr) ∧ Hid (∀ x y, x < a → y < m → A x y ≤ B x y)) (fun i _ => m - (intOf i).toNat)
  case atStart => exact ⟨_, 0, rfl, by omega, rfl, h1, h2, (⟨rfl, rfl, rfl, Nat.le_refl _, fun _ _ => rfl⟩ : Below w.heap.size w (w.drewN k)), (fun x y hx => by omega : ∀ x y, x < 0 → y < m → A x y ≤ B x y)⟩
  case round =>
    clear h1 h2
    obtain ⟨WR, a, rfl, ha, rfl, h1, h2, cc, ok⟩ := hrel
    have hv := h1.hn
    by_cases ca : a < m
    · have ca' : (a : Int) < (m : Int) := by omega
      go_wp2_with fail
      clear hv
      go_loopw [6] (fun i wr => ∃ (WS : World) (c : Nat), WS = wr ∧ c ≤ m ∧ i = .int .i64 c ∧ RefAt wr R1 n false A ∧ RefAt wr R2 n false B ∧ Hid (Below w.heap.size w wr) ∧ Hid (∀ y, y < c → A a y ≤ B a y)) (fun i _ => m - (intOf i).toNat)
      case atStart => exact ⟨_, 0, rfl, by omega, rfl, h1, h2, cc, (fun y hy => by omega : ∀ y, y < 0 → A a y ≤ B a y)⟩
      case round =>
        clear h1 h2 cc
        obtain ⟨WS, c, rfl, hc, rfl, h1, h2, cc, ok2⟩ := hrel
        have hv := h1.hn
        by_cases cx : c < m
        · have cx' : (c : Int) < (m : Int) := by omega
          have pn : a < 2 * n := by have := hm'.out; omega
          have qn : c < 2 * n := by have := hm'.out; omega
          have gs := h2.hs
          have gr1 := h2.hr a pn
          have gm1 := h2.hm a c pn qn
          have as1 := h1.hs
          have ar1 := h1.hr a pn
          have am1 := h1.hm a c pn qn
          rw [hm'.out] at gs gr1 as1 ar1
          have x1 := rix2 R1.pb m R1.pc a ca
          have x2 := rix (R1.rb a) m (R1.rc a) c cx
          have x3 := rix2 R2.pb m R2.pc a ca
          have x4 := rix (R2.rb a) m (R2.rc a) c cx
          have nf := fun q => nfi.out a c ca cx q
          have nx : Hid (A a c ≤ B a c → ∀ y, y < c + 1 → A a y ≤ B a y) := fun q y hy => by
            by_cases e : y = c
            · subst e; exact q
            · exact ok2.out y (by omega)
          have wc : IntKind.i64.wrap ((c : Int) + 1) = ((c + 1 : Nat) : Int) := by have := h8.out; rw [IntKind.wrap_i64]; omega
          clear pn qn
          by_cases le : B a c < A a c
          · replace nf := nf (by omega)
            clear nx
            generalize A a c = p at *
            generalize B a c = q at *
            go_upto_region 11 with fail
            go_quiet (fail)
            go_wp2_with fail
            go_ret
            exact ⟨tell_f nf, ⟨cc.out.os, cc.out.tape, cc.out.output, cc.out.size, cc.out.block⟩⟩
          · have nx2 : Hid (∀ y, y < c + 1 → A a y ≤ B a y) := nx.out (by omega)
            clear nx nf
            generalize A a c = p at *
            generalize B a c = q at *
            go_upto_region 11 with fail
            go_quiet (fail)
            go_wp2_with fail
            exact ⟨⟨_, c + 1, rfl, by omega, by simp, h1.drewN _, h2.drewN _, (⟨cc.out.os, cc.out.tape, cc.out.output, cc.out.size, cc.out.block⟩ : Below w.heap.size w (WS.drewN _)), nx2⟩, by simp [intOf]; omega⟩
        · have ec : c = m := by omega
          subst ec
          have wa : IntKind.i64.wrap ((a : Int) + 1) = ((a + 1 : Nat) : Int) := by have := h8.out; rw [IntKind.wrap_i64]; omega
          have ok3 : Hid (∀ x y, x < a + 1 → y < c → A x y ≤ B x y) := fun x y hx hy => by
            by_cases e : x = a
            · subst e; exact ok2.out y hy
            · exact ok.out x y (by omega) hy
          go_wp2_with fail
          go_roundw
          case rel => exact ⟨_, a + 1, rfl, by omega, by first | rfl | go_num, h1, h2, cc, ok3⟩
          case measure => simp [intOf]; omega
    · have ea : a = m := by omega
      subst ea
      go_wp2_with fail
      go_ret
      exact ⟨tell_t (fin.out fun x y hx hy => ok.out x y hx hy), cc.out⟩
end Go.Proofs.Ytpcbammncaeimaa


namespace Go.Proofs.Ytpcbammncaeimaa
open Go.RowKit
set_option linter.unusedVariables false
set_option linter.unusedSimpArgs false
set_option maxRecDepth 100000 in
set_option maxHeartbeats 3200000 in
theorem rhasP (R : Rf) (n : Nat) (hn1 : 1 ≤ n) (hn : n ≤ 4) (e : Bool) (T : Mx) (sl : Value) (ts : List Int) (w : World) (h : RefAt w R n e T) (hs : SlI w sl ts) : Calls Try.prog 15 #[.pointer (some ⟨R.b, 0, none⟩), sl] w fun r w' => TellB r (HasP n e T ts) ∧ Below w.heap.size w w' := by
  have he := h.he
  have hv := h.hn
  cases e
  case true =>
    obtain ⟨p, c, rfl⟩ := hs.len
    go_enter Try.func15, Try.ntmps15
    go_wp2_with fail
    go_ret
    exact ⟨tell_f (fun q => by cases q.1), Below.refl _ _⟩
  case false =>
  by_cases cl : ts.length = n
  case neg =>
    have cl' : ¬ (ts.length : Int) = (n : Int) := by omega
    have nf : Hid (¬ HasP n false T ts) := fun q => cl q.2.1
    obtain ⟨p, c, rfl⟩ := hs.len
    generalize ts.length = len at *
    go_enter Try.func15, Try.ntmps15
    go_wp2_with fail
    go_ret
    exact ⟨tell_f nf.out, Below.refl _ _⟩
  case pos =>
  rcases hs with ⟨rfl, rfl⟩ | ⟨bk, off, cap, rfl, hlen, hc0⟩
  · simp at cl; omega
  obtain ⟨m, hm⟩ : ∃ m, 2 * n = m := ⟨_, rfl⟩
  have h8 : Hid (m ≤ 8) := (by omega : m ≤ 8)
  have hm' : Hid (2 * n = m) := hm
  have wm : IntKind.i64.wrap (2 * (n : Int)) = (m : Int) := by rw [IntKind.wrap_i64]; omega
  have hn' : Hid (n ≤ 4) := hn
  have hl' : Hid (ts.length = n) := cl
  have hc : Hid (∀ j x, ts[j]? = some x → w.cell? ⟨bk, off + j, none⟩ = some (.int .i64 x)) := hc0
  have hs : Hid (SlI w (.slice (some ⟨bk, off, none⟩) n cap) ts) := Or.inr ⟨bk, off, cap, by rw [cl], hlen, hc0⟩
  rw [cl]
  clear hc0 hlen cl hm hn1 hn
  go_enter Try.func15, Try.ntmps15
  go_wp2_with fail
  go_loopw [5] (fun i wr => ∃ (W0 : World) (k : Nat), W0 = wr ∧ k ≤ n ∧ i = .int .i64 k ∧ W0 = w ∧ Hid (∀ j x, j < k → ts[j]? = some x → -8589934592 ≤ x ∧ x ≤ 8589934592)) (fun i _ => n - (intOf i).toNat)
  case atStart => exact ⟨_, 0, rfl, by omega, rfl, rfl, (fun j x hj => by omega : ∀ j x, j < 0 → ts[j]? = some x → -8589934592 ≤ x ∧ x ≤ 8589934592)⟩
  case round =>
    obtain ⟨W0, k, rfl, hk, rfl, hwr, hin⟩ := hrel
    subst hwr
    by_cases ck : k < n
    · have ck' : (k : Int) < (n : Int) := by omega
      obtain ⟨x, hx⟩ : ∃ x, ts[k]? = some x := ⟨_, List.getElem?_eq_getElem (by rw [hl'.out]; exact ck)⟩
      have cx := hc.out k x hx
      have ix := oiz bk off n cap k ck
      have wk : IntKind.i64.wrap ((k : Int) + 1) = ((k + 1 : Nat) : Int) := by have := hn'.out; rw [IntKind.wrap_i64]; omega
      have nx : Hid (¬ (-8589934592 ≤ x ∧ x ≤ 8589934592) → ¬ HasP n false T ts) := fun q p => q (p.2.2.1 k x hx)
      have px : Hid ((-8589934592 ≤ x ∧ x ≤ 8589934592) → ∀ j y, j < k + 1 → ts[j]? = some y → -8589934592 ≤ y ∧ y ≤ 8589934592) := fun q j y hj hy => by
        by_cases e : j = k
        · subst e; rw [hx] at hy; cases hy; exact q
        · exact hin.out j y (by omega) hy
      clear hx hin
      by_cases l1 : x < -8589934592
      · go_wp2_with fail
        go_ret
        exact ⟨tell_f (nx.out (by omega)), Below.refl _ _⟩
      · by_cases l2 : 8589934592 < x
        · go_wp2_with fail
          go_ret
          exact ⟨tell_f (nx.out (by omega)), Below.refl _ _⟩
        · go_wp2_with fail
          exact ⟨⟨_, k + 1, rfl, by omega, by simp, rfl, px.out ⟨by omega, by omega⟩⟩, by simp [intOf]; omega⟩
    · have ek : k = n := by omega
      subst ek
      have ib : InBx ts := fun j x hx => hin.out j x (by rw [← hl'.out]; exact (List.getElem?_eq_some_iff.1 hx).1) hx
      have kv := fun V a (ha : a < m) hV => rat (.slice (some ⟨bk, off, none⟩) k cap) ts a (by have := hl'.out; have := hm'.out; omega) (by have := h8.out; omega) ib V hV
      have pb := fun a (ha : a < m) => pv_in ib (a := a) (by have := hl'.out; have := hm'.out; omega)
      have fin : Hid ((∀ a c, a < m → c < m → pv ts a + pv ts c ≤ T a c) → HasP k false T ts) := fun q => ⟨rfl, hl'.out, ib, fun a c ha hc => q a c (by have := hm'.out; omega) (by have := hm'.out; omega)⟩
      have nfi : Hid (∀ a c, a < m → c < m → ¬ pv ts a + pv ts c ≤ T a c → ¬ HasP k false T ts) := fun a c ha hc q p => q (p.2.2.2 a c (by have := hm'.out; omega) (by have := hm'.out; omega))
      generalize pv ts = P at *
      have hs0 := hs.out
      clear ib hin hc he hk
      go_wp2_with fail
      clear hv
      go_loopw [6] (fun i wr => ∃ (WR : World) (a : Nat), WR = wr ∧ a ≤ m ∧ i = .int .i64 a ∧ RefAt wr R k false T ∧ SlI wr (.slice (some ⟨bk, off, none⟩) k cap) ts ∧ Hid (Below W0.heap.size W0 wr) ∧ Hid (∀ x y, x < a → y < m → P x + P y ≤ T x y)) (fun i _ => m - (intOf i).toNat)
      case atStart => exact ⟨_, 0, rfl, by omega, rfl, h, hs0, Below.refl _ _, (fun x y hx => by omega : ∀ x y, x < 0 → y < m → P x + P y ≤ T x y)⟩
      case round =>
        clear h hs0 hs
        obtain ⟨WR, a, rfl, ha, rfl, h, hs, cc, ok⟩ := hrel
        have hv := h.hn
        by_cases ca : a < m
        · have ca' : (a : Int) < (m : Int) := by omega
          go_wp2_with fail
          clear hv
          go_loopw [7] (fun i wr => ∃ (WS : World) (d : Nat), WS = wr ∧ d ≤ m ∧ i = .int .i64 d ∧ RefAt wr R k false T ∧ SlI wr (.slice (some ⟨bk, off, none⟩) k cap) ts ∧ Hid (Below W0.heap.size W0 wr) ∧ Hid (∀ y, y < d → P a + P y ≤ T a y)) (fun i _ => m - (intOf i).toNat)
          case atStart => exact ⟨_, 0, rfl, by omega, rfl, h, hs, cc, (fun y hy => by omega : ∀ y, y < 0 → P a + P y ≤ T a y)⟩
          case round =>
            clear h hs cc
            obtain ⟨WS, d, rfl, hd, rfl, h, hs, cc, ok2⟩ := hrel
            have hv := h.hn
            by_cases cd : d < m
            · have cd' : (d : Int) < (m : Int) := by omega
              have pn : a < 2 * k := by have := hm'.out; omega
              have qn : d < 2 * k := by have := hm'.out; omega
              have gs := h.hs
              have gr1 := h.hr a pn
              have gm1 := h.hm a d pn qn
              rw [hm'.out] at gs gr1
              have x1 := rix2 R.pb m R.pc a ca
              have x2 := rix (R.rb a) m (R.rc a) d cd
              have wd : IntKind.i64.wrap ((d : Int) + 1) = ((d + 1 : Nat) : Int) := by have := h8.out; rw [IntKind.wrap_i64]; omega
              have wp : IntKind.i64.wrap (P a + P d) = P a + P d := by have := pb a ca; have := pb d cd; rw [IntKind.wrap_i64]; omega
              have k1 := fun N => kv (WS.drewN N) a ca (hs.on (drewN_bel WS N))
              have k2 := fun N => kv (WS.drewN N) d cd (hs.on (drewN_bel WS N))
              have nf := fun q => nfi.out a d ca cd q
              have nx : Hid (P a + P d ≤ T a d → ∀ y, y < d + 1 → P a + P y ≤ T a y) := fun q y hy => by
                by_cases e : y = d
                · subst e; exact q
                · exact ok2.out y (by omega)
              clear pn qn
              generalize T a d = t at *
              by_cases le : t < P a + P d
              · replace nf := nf (by omega)
                clear nx kv pb
                go_upto_region 14 with fail
                go_quiet (first | (go_at_call_of 44 a; with_reducible exact Calls.quiet_of_same (k1 _)) | (go_at_call_of 44 d; with_reducible exact Calls.quiet_of_same (k2 _)))
                go_wp2_with fail
                go_ret
                exact ⟨tell_f nf, ⟨cc.out.os, cc.out.tape, cc.out.output, cc.out.size, cc.out.block⟩⟩
              · have nx2 : Hid (∀ y, y < d + 1 → P a + P y ≤ T a y) := nx.out (by omega)
                clear nx nf kv pb
                go_upto_region 14 with fail
                go_quiet (first | (go_at_call_of 44 a; with_reducible exact Calls.quiet_of_same (k1 _)) | (go_at_call_of 44 d; with_reducible exact Calls.quiet_of_same (k2 _)))
                go_wp2_with fail
                exact ⟨⟨_, d + 1, rfl, by omega, by simp, h.drewN _, hs.on (drewN_bel WS _), (⟨cc.out.os, cc.out.tape, cc.out.output, cc.out.size, cc.out.block⟩ : Below W0.heap.size W0 (WS.drewN _)), nx2⟩, by simp [intOf]; omega⟩
            · have ed : d = m := by omega
              subst ed
              have wa : IntKind.i64.wrap ((a : Int) + 1) = ((a + 1 : Nat) : Int) := by have := h8.out; rw [IntKind.wrap_i64]; omega
              have ok3 : Hid (∀ x y, x < a + 1 → y < d → P x + P y ≤ T x y) := fun x y hx hy => by
                by_cases e : x = a
                · subst e; exact ok2.out y hy
                · exact ok.out x y (by omega) hy
              clear kv pb
              go_wp2_with fail
              go_roundw
              case rel => exact ⟨_, a + 1, rfl, by omega, by first | rfl | go_num, h, hs, cc, ok3⟩
              case measure => simp [intOf]; omega
        · have ea : a = m := by omega
          subst ea
          clear kv pb
          go_wp2_with fail
          go_ret
          exact ⟨tell_t (fin.out fun x y hx hy => ok.out x y hx hy), cc.out⟩
end Go.Proofs.Ytpcbammncaeimaa


namespace Go.Proofs.Ytpcbammncaeimaa
open Go.RowKit
set_option linter.unusedVariables false
set_option linter.unusedSimpArgs false
theorem HasP.sm {n : Nat} {e : Bool} {T T2 : Mx} {ts : List Int} (s : Sm n e T e T2) : HasP n e T2 ts ↔ HasP n e T ts := by
  constructor
  · rintro ⟨rfl, a, b, c⟩
    exact ⟨rfl, a, b, fun x y hx hy => by rw [(s.2 rfl).1 x y hx hy]; exact c x y hx hy⟩
  · rintro ⟨rfl, a, b, c⟩
    exact ⟨rfl, a, b, fun x y hx hy => by rw [← (s.2 rfl).1 x y hx hy]; exact c x y hx hy⟩
theorem Wi.sm {n : Nat} {e f : Bool} {A A2 B B2 : Mx} (s : Sm n e A e A2) (t : Sm n f B f B2) : Wi n e A2 f B2 ↔ Wi n e A f B := by
  constructor
  · rintro (h | ⟨rfl, rfl, h⟩)
    · exact Or.inl h
    · exact Or.inr ⟨rfl, rfl, (s.2 rfl).1.le.trans (h.trans (t.2 rfl).1.ge)⟩
  · rintro (h | ⟨rfl, rfl, h⟩)
    · exact Or.inl h
    · exact Or.inr ⟨rfl, rfl, (s.2 rfl).1.ge.trans (h.trans (t.2 rfl).1.le)⟩
theorem TellB.to {r : Ending} {p q : Prop} (h : TellB r p) (e : p ↔ q) : TellB r q := by
  obtain ⟨v, h1, h2⟩ := h
  exact ⟨v, h1, h2.trans e⟩
theorem two_tell {v1 v2 : Bool} {p : Prop} (h1 : v1 = true ↔ p) (h2 : v2 = true ↔ p) : v2 = v1 := by
  have := h1.trans h2.symm
  cases v1 <;> cases v2 <;> simp_all
set_option maxRecDepth 100000 in
set_option maxHeartbeats 6400000 in
theorem law_has (nn : Int) (h0 : 0 ≤ nn) (h1 : nn ≤ 255) (s1 s2 : Value) (d1 d2 : List Dd) (sa : Value) (ts : List Int) (w : World) (hs : SlDd w s1 d1 ∧ SlDd w s2 d2) (ha : SlI w sa ts) :
    Calls Try.prog 4 #[.int .u8 nn, .agg #[s1, s2], sa] w fun r w' => r = .returned (.bool true) ∧ Below w.heap.size w w' := by
  obtain ⟨hs1, hs2⟩ := hs
  obtain ⟨n, hn⟩ : ∃ n : Nat, (n : Int) = nn % 4 + 1 := ⟨(nn % 4 + 1).toNat, by omega⟩
  have kp := fun sv ds V q => oplay nn h0 h1 sv ds V q n hn
  have hn4 : Hid (n ≤ 4) := (by omega : n ≤ 4)
  have hn1 : Hid (1 ≤ n) := (by omega : 1 ≤ n)
  have hn8 : Hid (n ≤ 8) := (by omega : n ≤ 8)
  have kl := olive
  clear h0 h1 hn
  go_enter Try.func4, Try.ntmps4
  go_upto_region 1 with fail
  generalize hW : w.alloc _ = W0
  have gW : Below w.heap.size w W0 := by rw [← hW]; exact (Below.refl _ _).alloc (Nat.le_refl _) _
  obtain ⟨b0, hb0⟩ : ∃ b0, w.heap.size = b0 := ⟨_, rfl⟩
  have a0 : W0.cell? ⟨b0, 0, none⟩ = some s1 := by rw [← hW, ← hb0]; simp [go_sem]
  have a1 : W0.cell? ⟨b0, 1, none⟩ = some s2 := by rw [← hW, ← hb0]; simp [go_sem]
  replace hs1 := hs1.on gW
  replace hs2 := hs2.on gW
  replace ha := ha.on gW
  have cc : Hid (Below w.heap.size w W0) := gW
  rw [hb0]
  clear gW hW hb0
  have kp1 := kp s1 d1 W0 hs1
  go_upto_region 2 with (first
    | (go_at_call 11; refine kp1.mono ?_; rintro r w1 ⟨bo, R, ba, Ra, e, T, T2, f, U, U2, rfl, hB⟩)
    | fail)
  have hO := hB.o
  have hR := hB.r
  have tO : Hid (Sm n e T e T2) := hB.s
  have g1 := hB.bl
  replace hs2 := hs2.on g1
  replace ha := ha.on g1
  replace cc : Hid (Below w.heap.size w w1) := sp_call cc.out g1
  replace a1 := sO g1 a1
  clear kp1 hB g1 hs1 a0
  have kp2 := kp s2 d2 w1 hs2
  clear kp
  go_upto_region 3 with (first
    | (go_at_call 11; refine kp2.mono ?_; rintro r w2 ⟨bp, R', ba', Ra', f1, P, P2, f2, U', U2', rfl, hB⟩)
    | fail)
  replace hO := hO.on hB.bl
  replace hR := hR.on hB.bl
  replace ha := ha.on hB.bl
  have hP := hB.o
  have hS := hB.r
  have tP : Hid (Sm n f1 P f1 P2) := hB.s
  replace cc : Hid (Below w.heap.size w w2) := sp_call cc.out hB.bl
  clear kp2 hB hs2 a1
  obtain ⟨JJ, hJJ⟩ : ∃ JJ : World → Prop, JJ = fun V => OctAt V bo n e T ∧ RefAt V R n e T2 ∧ OctAt V bp n f1 P ∧ RefAt V R' n f1 P2 ∧ SlI V sa ts ∧ Below w.heap.size w V := ⟨_, rfl⟩
  have jj : Hid (JJ w2) := by rw [hJJ]; exact ⟨hO, hR, hP, hS, ha, cc.out⟩
  have mo : ∀ V V', JJ V → Below V.heap.size V V' → JJ V' := fun V V' h g => by
    rw [hJJ] at h ⊢
    exact ⟨h.1.on g, h.2.1.on g, h.2.2.1.on g, h.2.2.2.1.on g, h.2.2.2.2.1.on g, sp_call h.2.2.2.2.2 g⟩
  have fin : ∀ V, JJ V → Below w.heap.size w V := fun V h => by rw [hJJ] at h; exact h.2.2.2.2.2
  have c0 : ∀ V, Hid (JJ V) → Calls Try.prog 12 #[] V fun r w' => r = .returned (.bool true) ∧ Hid (JJ w') := fun V hV => (kl V).mono fun r w' k => ⟨k.1, mo _ _ hV.out k.2⟩
  have c1 : ∀ V, Hid (JJ V) → Calls Try.prog 14 #[.pointer (some ⟨bo, 0, none⟩), sa] V fun r w' => TellB r (HasP n e T ts) ∧ Hid (JJ w') := fun V hV => by
    have hV1 := hV.out
    rw [hJJ] at hV1
    exact (ohas bo n hn8.out e T sa ts V hV1.1 hV1.2.2.2.2.1).mono fun r w' k => ⟨k.1, mo _ _ hV.out k.2⟩
  have c2 : ∀ V, Hid (JJ V) → Calls Try.prog 15 #[.pointer (some ⟨R.b, 0, none⟩), sa] V fun r w' => TellB r (HasP n e T ts) ∧ Hid (JJ w') := fun V hV => by
    have hV1 := hV.out
    rw [hJJ] at hV1
    exact (rhasP R n hn1.out hn4.out e T2 sa ts V hV1.2.1 hV1.2.2.2.2.1).mono fun r w' k => ⟨k.1.to (HasP.sm tO.out), mo _ _ hV.out k.2⟩
  have c3 : ∀ V, Hid (JJ V) → Calls Try.prog 16 #[.pointer (some ⟨bo, 0, none⟩), .pointer (some ⟨bp, 0, none⟩)] V fun r w' => TellB r (Wi n e T f1 P) ∧ Hid (JJ w') := fun V hV => by
    have hV1 := hV.out
    rw [hJJ] at hV1
    exact (owithinB bo bp n hn8.out e f1 T P V hV1.1 hV1.2.2.1).mono fun r w' k => ⟨k.1, mo _ _ hV.out k.2⟩
  have c4 : ∀ V, Hid (JJ V) → Calls Try.prog 17 #[.pointer (some ⟨R.b, 0, none⟩), .pointer (some ⟨R'.b, 0, none⟩)] V fun r w' => TellB r (Wi n e T f1 P) ∧ Hid (JJ w') := fun V hV => by
    have hV1 := hV.out
    rw [hJJ] at hV1
    exact (rwithin R R' n hn4.out e f1 T2 P2 V hV1.2.1 hV1.2.2.2.1).mono fun r w' k => ⟨k.1.to (Wi.sm tO.out tP.out), mo _ _ hV.out k.2⟩
  have c5 : ∀ V, Hid (JJ V) → Calls Try.prog 16 #[.pointer (some ⟨bp, 0, none⟩), .pointer (some ⟨bo, 0, none⟩)] V fun r w' => TellB r (Wi n f1 P e T) ∧ Hid (JJ w') := fun V hV => by
    have hV1 := hV.out
    rw [hJJ] at hV1
    exact (owithinB bp bo n hn8.out f1 e P T V hV1.2.2.1 hV1.1).mono fun r w' k => ⟨k.1, mo _ _ hV.out k.2⟩
  have c6 : ∀ V, Hid (JJ V) → Calls Try.prog 17 #[.pointer (some ⟨R'.b, 0, none⟩), .pointer (some ⟨R.b, 0, none⟩)] V fun r w' => TellB r (Wi n f1 P e T) ∧ Hid (JJ w') := fun V hV => by
    have hV1 := hV.out
    rw [hJJ] at hV1
    exact (rwithin R' R n hn4.out f1 e P2 T2 V hV1.2.2.2.1 hV1.2.1).mono fun r w' k => ⟨k.1.to (Wi.sm tP.out tO.out), mo _ _ hV.out k.2⟩
  generalize R.b = x1 at *
  generalize R'.b = x2 at *
  generalize HasP n e T ts = p1 at *
  generalize Wi n e T f1 P = p2 at *
  generalize Wi n f1 P e T = p3 at *
  clear hJJ hO hP hR hS ha cc mo tO tP kl
  go_wp2_with (first
    | (go_at_call 12; refine (c0 _ jj).mono ?_; rintro r v0 ⟨rfl, j0⟩; clear c0 jj)
    | (go_at_call 14; refine (c1 _ j0).mono ?_; rintro r v1 ⟨⟨q1, rfl, t1⟩, j1⟩; clear c1 j0)
    | (go_at_call 15; refine (c2 _ j1).mono ?_; rintro r v2 ⟨⟨q2, rfl, t2⟩, j2⟩; have ee := two_tell t1 t2; subst ee; clear c2 j1 t1 t2)
    | (go_at_call 16; refine (c3 _ j2).mono ?_; rintro r v3 ⟨⟨q3, rfl, t3⟩, j3⟩; clear c3 j2)
    | (go_at_call 17; refine (c4 _ j3).mono ?_; rintro r v4 ⟨⟨q4, rfl, t4⟩, j4⟩; have ee := two_tell t3 t4; subst ee; clear c4 j3 t3 t4)
    | (go_at_call 16; refine (c5 _ j4).mono ?_; rintro r v5 ⟨⟨q5, rfl, t5⟩, j5⟩; clear c5 j4)
    | (go_at_call 17; refine (c6 _ j5).mono ?_; rintro r v6 ⟨⟨q6, rfl, t6⟩, j6⟩; have ee := two_tell t5 t6; subst ee; clear c6 j5 t5 t6)
    | fail)
  go_ret
  exact ⟨rfl, fin _ j6.out⟩
end Go.Proofs.Ytpcbammncaeimaa


namespace Go.Proofs.Ytpcbammncaeimaa
open Go.ChangeShapes Go.WideShapes Go.ChangeAt Go.RowKit Go.Joins Go.Deep
set_option linter.unusedVariables false
set_option linter.unusedSimpArgs false
section
variable {H : Type} {enc : TypeId × Value → H} {W : World}
set_option maxRecDepth 100000 in
theorem qct : Try.prog.cellTypes Try.prog.depth 30 = some [22, 22] := by kernel_rfl
set_option maxRecDepth 100000 in
theorem qcs : Try.prog.cellsOf 30 = 2 := by kernel_rfl
set_option maxRecDepth 100000 in
theorem qc1 : Try.prog.cellsOf 22 = 1 := by kernel_rfl
set_option maxRecDepth 100000 in
theorem open_a2slds {base : Nat} {v : Value} {d : DataW H} {p : List MemPlace} (hv : Value.okWide Try.prog W .any base 30 v) (h : DataW.Trod enc Try.prog W 0 (fun _ => true) true 30 v d p) : ∃ s1 s2 d1 d2, v = .agg #[s1, s2] ∧ (SlDd W s1 d1 ∧ SlDd W s2 d2) ∧ ∀ x ∈ p, x.block < W.heap.size := by
  have hv0 := hv
  simp only [Value.okWide, Try.underlying30] at hv0
  obtain ⟨cs, rfl, hsz, ts, hts, _, hrow⟩ := hv0
  rw [qct] at hts
  cases hts
  rw [qcs] at hsz
  obtain ⟨c0, c1, rfl⟩ : ∃ c0 c1, cs = #[c0, c1] := by
    obtain ⟨l⟩ := cs
    match l, hsz with
    | [a, b], _ => exact ⟨a, b, rfl⟩
  obtain ⟨fuel, hf⟩ := h
  simp only [Value.cells] at hf
  obtain ⟨xs, k, rfl, hx, hlen, hxl, hall⟩ := DataW.trod_array Try.underlying30 hf
  have sp : ∀ (j : Nat) (c : Value), (#[c0, c1] : Array Value)[j]? = some c → ∀ a l q, c = Value.slice (some a) l q → a.spot = none := by
    intro j c hj a l q e4
    obtain ⟨u, hu, ho⟩ := hrow j c hj
    have hu' : u = 22 := by
      have : j < 2 := by
        have := (Array.getElem?_eq_some_iff.1 hj).1
        simpa using this
      match j, this with
      | 0, _ => simpa using hu.symm
      | 1, _ => simpa using hu.symm
    subst hu'
    subst e4
    simp [Cell.okWide, Cell.ok, World.has, Try.underlying22] at ho
    exact ho.2.2.2.1
  obtain ⟨y0, y1, rfl⟩ : ∃ y0 y1, xs = [y0, y1] := by
    match xs, hxl with
    | [a, b], _ => exact ⟨a, b, rfl⟩
  have q0 := hall 0 (by omega)
  have q1 := hall 1 (by omega)
  rw [qc1] at q0 q1
  simp at q0 q1
  obtain ⟨d1, e1, m1⟩ := tr_deeds (sp 0 c0 (by simp)) q0
  obtain ⟨d2, e2, m2⟩ := tr_deeds (sp 1 c1 (by simp)) q1
  refine ⟨c0, c1, d1, d2, rfl, ⟨e1, e2⟩, fun x hxp => ?_⟩
  simp only [Prod.mk.injEq] at hx
  rw [hx.2] at hxp
  simp at hxp
  rcases hxp with h | h
  · exact m1 x h
  · exact m2 x h
end
end Go.Proofs.Ytpcbammncaeimaa


