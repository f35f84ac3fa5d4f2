/- Texts of the proof, put together. -/
import Derived.Test.YtpcbammncaeimaaZG1
import Derived.Test.YtpcbammncaeimaaZG2
import Derived.Test.YtpcbammncaeimaaZG3
import Derived.Test.YtpcbammncaeimaaZG4
import Derived.Test.YtpcbammncaeimaaZG5
import Derived.Test.YtpcbammncaeimaaZSpWi
import Derived.Test.YtpcbammncaeimaaZG6
import Derived.Test.YtpcbammncaeimaaZG7
import Derived.Test.YtpcbammncaeimaaZG8
import Derived.Test.YtpcbammncaeimaaZG9
import Derived.Test.YtpcbammncaeimaaZOdV
import Derived.Test.YtpcbammncaeimaaZG10
import Derived.Test.YtpcbammncaeimaaZG11
import Derived.Test.YtpcbammncaeimaaZG12
import Derived.Test.YtpcbammncaeimaaZG13
import Derived.Test.YtpcbammncaeimaaZOeE
import Derived.Test.YtpcbammncaeimaaZG14
import Derived.Test.YtpcbammncaeimaaZG15
import Derived.Test.YtpcbammncaeimaaZG16
import Derived.Laws.OwnMore
import Derived.Deep.AppendLies
import Derived.ArgAppend
import Derived.ProofKit
import Derived.OpenShut
import Derived.ChangeOld
import Derived.Lib.SmallJoins
import Derived.Deep.Strs
namespace Go.Proofs.Ytpcbammncaeimaa
open Go.RowKit
set_option linter.unusedVariables false
set_option linter.unusedSimpArgs false
theorem drewN_bel (w : World) (k : Nat) : Below w.heap.size w (w.drewN k) := ⟨rfl, rfl, rfl, Nat.le_refl _, fun _ _ => rfl⟩
end Go.Proofs.Ytpcbammncaeimaa


namespace Go.Proofs.Ytpcbammncaeimaa
open Go.RowKit
set_option linter.unusedVariables false
set_option linter.unusedSimpArgs false
theorem Agr.le {n : Nat} {A B : Mx} (h : Agr n A B) : Le n A B := fun a b ha hb => by rw [h a b ha hb]; exact Int.le_refl _
theorem Agr.ge {n : Nat} {A B : Mx} (h : Agr n A B) : Le n B A := fun a b ha hb => by rw [h a b ha hb]; exact Int.le_refl _
theorem mx_le1 (n : Nat) (A B : Mx) : Le n A (mxS A B) := fun a b _ _ => by unfold mxS; split <;> omega
end Go.Proofs.Ytpcbammncaeimaa


namespace Go.Proofs.Ytpcbammncaeimaa
open Go.RowKit
set_option linter.unusedVariables false
set_option linter.unusedSimpArgs false
theorem le_low {n : Nat} {X M : Mx} {x y : Nat} {c : Int} (hx : x < 2 * n) (hy : y < 2 * n) : Le n X (low M x y c) ↔ Le n X M ∧ X x y ≤ c ∧ X y x ≤ c := by
  constructor
  · intro h
    refine ⟨fun a b ha hb => ?_, ?_, ?_⟩
    · have q := h a b ha hb
      simp only [low, low1, up1] at q
      repeat' split at q
      all_goals (first | omega | (rename_i k; obtain ⟨rfl, rfl⟩ := k; omega) | (rename_i k _; obtain ⟨rfl, rfl⟩ := k; omega) | (rename_i k l; obtain ⟨rfl, rfl⟩ := k; obtain ⟨rfl, l⟩ := l; omega))
    · have q := h x y hx hy
      simp only [low, low1, up1] at q
      repeat' split at q
      all_goals (first | omega | simp_all)
    · have q := h y x hy hx
      simp only [low, low1, up1] at q
      repeat' split at q
      all_goals (first | omega | simp_all)
  · intro ⟨h, h1, h2⟩ a b ha hb
    have q := h a b ha hb
    simp only [low, low1, up1]
    repeat' split
    all_goals (first | omega | (rename_i k; obtain ⟨rfl, rfl⟩ := k; omega) | (rename_i k _; obtain ⟨rfl, rfl⟩ := k; omega) | (rename_i k l; obtain ⟨rfl, rfl⟩ := k; obtain ⟨rfl, l⟩ := l; omega))
end Go.Proofs.Ytpcbammncaeimaa


namespace Go.Proofs.Ytpcbammncaeimaa
open Go.RowKit
set_option linter.unusedVariables false
set_option linter.unusedSimpArgs false
def SlI (w : World) (sl : Value) (ts : List Int) : Prop := (sl = .slice none 0 0 ∧ ts = []) ∨ ∃ bk off cap : Nat, sl = .slice (some ⟨bk, off, none⟩) ts.length cap ∧ ts.length ≤ 9223372036854775807 ∧ ∀ j x, ts[j]? = some x → w.cell? ⟨bk, off + j, none⟩ = some (.int .i64 x)
theorem SlI.on {w V : World} {sl : Value} {ts : List Int} (h : SlI w sl ts) (g : Below w.heap.size w V) : SlI V sl ts := by
  rcases h with h | ⟨bk, off, cap, h1, h2, h4⟩
  · exact Or.inl h
  · exact Or.inr ⟨bk, off, cap, h1, h2, fun j x hx => sO g (h4 j x hx)⟩
def InBx (ts : List Int) : Prop := ∀ (j : Nat) x, ts[j]? = some x → -8589934592 ≤ x ∧ x ≤ 8589934592
def TellB (r : Ending) (p : Prop) : Prop := ∃ v : Bool, r = .returned (.bool v) ∧ (v = true ↔ p)
theorem tell_t {p : Prop} (h : p) : TellB (.returned (.bool true)) p := ⟨true, rfl, by simp [h]⟩
theorem tell_f {p : Prop} (h : ¬ p) : TellB (.returned (.bool false)) p := ⟨false, rfl, by simp [h]⟩
set_option maxRecDepth 100000 in
set_option maxHeartbeats 1600000 in
theorem oallin (sl : Value) (ts : List Int) (w : World) (h : SlI w sl ts) : Calls Try.prog 40 #[sl] w fun r w' => TellB r (InBx ts) ∧ w' = w := by
  rcases h with ⟨rfl, rfl⟩ | ⟨bk, off, cap, rfl, hlen, hc0⟩
  · go_enter Try.func40, Try.ntmps40
    go_wp2_with fail
    go_loopw [7] (fun i wr => i = .int .i64 0 ∧ wr = w) (fun _ _ => 0)
    case atStart => exact ⟨rfl, rfl⟩
    case round =>
      obtain ⟨rfl, rfl⟩ := hrel
      go_wp2_with fail
      go_ret
      exact ⟨tell_t (fun j x hx => by simp at hx), rfl⟩
  · obtain ⟨len, hl⟩ : ∃ len, ts.length = len := ⟨_, rfl⟩
    rw [hl] at hlen ⊢
    have hc : Hid (∀ j x, ts[j]? = some x → w.cell? ⟨bk, off + j, none⟩ = some (.int .i64 x)) := hc0
    have hl' : Hid (ts.length = len) := hl
    clear hc0 hl
    go_enter Try.func40, Try.ntmps40
    go_wp2_with fail
    go_loopw [7] (fun i wr => ∃ k : Nat, k ≤ len ∧ i = .int .i64 k ∧ wr = w ∧ Hid (∀ j x, j < k → ts[j]? = some x → -8589934592 ≤ x ∧ x ≤ 8589934592)) (fun i _ => len - (intOf i).toNat)
    case atStart => exact ⟨0, by omega, rfl, rfl, (fun j x hj => by omega : ∀ j x, j < 0 → ts[j]? = some x → -8589934592 ≤ x ∧ x ≤ 8589934592)⟩
    case round =>
      obtain ⟨k, hk, rfl, rfl, hin⟩ := hrel
      by_cases ck : k < len
      · have ck' : (k : Int) < (len : Int) := by omega
        obtain ⟨x, hx⟩ : ∃ x, ts[k]? = some x := ⟨_, List.getElem?_eq_getElem (by rw [hl'.out]; exact ck)⟩
        have cx := hc.out k x hx
        have ix := oiz bk off len cap k ck
        have wk : IntKind.i64.wrap ((k : Int) + 1) = ((k + 1 : Nat) : Int) := by rw [IntKind.wrap_i64]; omega
        have nx : Hid (¬ (-8589934592 ≤ x ∧ x ≤ 8589934592) → ¬ InBx ts) := fun q p => q (p k x hx)
        have px : Hid ((-8589934592 ≤ x ∧ x ≤ 8589934592) → ∀ j y, j < k + 1 → ts[j]? = some y → -8589934592 ≤ y ∧ y ≤ 8589934592) := fun q j y hj hy => by
          by_cases e : j = k
          · subst e; rw [hx] at hy; cases hy; exact q
          · exact hin.out j y (by omega) hy
        clear hx hin
        by_cases l1 : x < -8589934592
        · go_wp2_with fail
          go_ret
          exact ⟨tell_f (nx.out (by omega)), rfl⟩
        · by_cases l2 : 8589934592 < x
          · go_wp2_with fail
            go_ret
            exact ⟨tell_f (nx.out (by omega)), rfl⟩
          · go_wp2_with fail
            exact ⟨⟨k + 1, by omega, by simp, by first | rfl | trivial, px.out ⟨by omega, by omega⟩⟩, by simp [intOf]; omega⟩
      · have ek : k = len := by omega
        subst ek
        go_wp2_with fail
        go_ret
        exact ⟨tell_t (fun j x hx => hin.out j x (by rw [← hl'.out]; exact (List.getElem?_eq_some_iff.1 hx).1) hx), rfl⟩
def pv (ts : List Int) (a : Nat) : Int := if a % 2 = 1 then -(ts.getD (a / 2) 0) else ts.getD (a / 2) 0
set_option maxRecDepth 100000 in
theorem oval (sl : Value) (ts : List Int) (a : Nat) (ha : a < 2 * ts.length) (h16 : a ≤ 16) (hb : InBx ts) (w : World) (h : SlI w sl ts) : Calls Try.prog 43 #[.int .i64 a, sl] w fun r w' => r = .returned (.int .i64 (pv ts a)) ∧ w' = w := by
  rcases h with ⟨rfl, rfl⟩ | ⟨bk, off, cap, rfl, hlen, hc⟩
  · simp at ha
  · obtain ⟨x, hx⟩ : ∃ x, ts[a / 2]? = some x := ⟨_, List.getElem?_eq_getElem (by omega)⟩
    have bx := hb _ x hx
    have cx := hc _ x hx
    have ix := oiz bk off ts.length cap (a / 2) (by omega)
    have gd : ts.getD (a / 2) 0 = x := by simp [List.getD, hx]
    have wn : IntKind.i64.wrap (-x) = -x := by rw [IntKind.wrap_i64]; omega
    unfold pv
    rw [gd]
    obtain ⟨k, hk⟩ : ∃ k, a / 2 = k := ⟨_, rfl⟩
    obtain ⟨len, hl⟩ : ∃ len, ts.length = len := ⟨_, rfl⟩
    rw [hl] at ix ⊢
    rw [hk] at cx ix
    have q2 : (a : Int).tdiv 2 = (k : Int) := by rw [Int.tdiv_eq_ediv_of_nonneg (by omega)]; omega
    have wq : IntKind.i64.wrap (k : Int) = (k : Int) := by rw [IntKind.wrap_i64]; omega
    clear hc gd hx hb hlen
    by_cases c : a % 2 = 1
    · have r2 : (a : Int).tmod 2 = 1 := by rw [Int.tmod_eq_emod_of_nonneg (by omega)]; omega
      rw [if_pos c]
      go_enter Try.func43, Try.ntmps43
      go_wp2_with fail
      go_ret
      exact ⟨rfl, rfl⟩
    · have r2 : (a : Int).tmod 2 = 0 := by rw [Int.tmod_eq_emod_of_nonneg (by omega)]; omega
      rw [if_neg c]
      go_enter Try.func43, Try.ntmps43
      go_wp2_with fail
      go_ret
      exact ⟨rfl, rfl⟩
end Go.Proofs.Ytpcbammncaeimaa


namespace Go.Proofs.Ytpcbammncaeimaa
open Go.RowKit
set_option linter.unusedVariables false
set_option linter.unusedSimpArgs false
def HasP (n : Nat) (e : Bool) (T : Mx) (ts : List Int) : Prop := e = false ∧ ts.length = n ∧ InBx ts ∧ ∀ a b, a < 2 * n → b < 2 * n → pv ts a + pv ts b ≤ T a b
theorem pv_in {ts : List Int} (h : InBx ts) {a : Nat} (ha : a < 2 * ts.length) : -8589934592 ≤ pv ts a ∧ pv ts a ≤ 8589934592 := by
  obtain ⟨x, hx⟩ : ∃ x, ts[a / 2]? = some x := ⟨_, List.getElem?_eq_getElem (by omega)⟩
  have bx := h _ x hx
  have gd : ts.getD (a / 2) 0 = x := by simp [List.getD, hx]
  unfold pv
  rw [gd]
  split <;> omega
theorem SlI.len {w : World} {sl : Value} {ts : List Int} (h : SlI w sl ts) : ∃ p c, sl = .slice p ts.length c := by
  rcases h with ⟨rfl, rfl⟩ | ⟨bk, off, cap, rfl, _⟩
  · exact ⟨none, 0, rfl⟩
  · exact ⟨_, _, rfl⟩
theorem OctAt.w {W V : World} {b n : Nat} {e : Bool} {M : Mx} {k : Nat} (h : OctAt W b n e M) (hv : V = W.drewN k) : OctAt V b n e M := hv ▸ h.drewN k
set_option maxRecDepth 100000 in
set_option maxHeartbeats 3200000 in
theorem ohas (b n : Nat) (hn : n ≤ 8) (e : Bool) (T : Mx) (sl : Value) (ts : List Int) (w : World) (h : OctAt w b n e T) (hs : SlI w sl ts) : Calls Try.prog 14 #[.pointer (some ⟨b, 0, none⟩), sl] w fun r w' => TellB r (HasP n e T ts) ∧ Below w.heap.size w w' := by
  have ka := oallin sl ts w hs
  have he := h.he
  have hv := h.hv
  cases e
  case true =>
    obtain ⟨p, c, rfl⟩ := hs.len
    go_enter Try.func14, Try.ntmps14
    go_wp2_with fail
    go_ret
    exact ⟨tell_f (fun q => by cases q.1), Below.refl _ _⟩
  case false =>
    by_cases cl : ts.length = n
    case neg =>
      have cl' : ¬ (ts.length : Int) = (n : Int) := by omega
      have nf : Hid (¬ HasP n false T ts) := fun q => cl q.2.1
      obtain ⟨p, c, rfl⟩ := hs.len
      generalize ts.length = len at *
      go_enter Try.func14, Try.ntmps14
      go_wp2_with fail
      go_ret
      exact ⟨tell_f nf.out, Below.refl _ _⟩
    case pos =>
      obtain ⟨m, hm⟩ : ∃ m, 2 * n = m := ⟨_, rfl⟩
      have ks := osides b n m false T hm (by omega) w h
      have kr := fun V a ha hV => orow b n m false T hm (by omega) a ha V hV
      by_cases ib : InBx ts
      case neg =>
        have ka' : Calls Try.prog 40 #[sl] w fun r w' => r = .returned (.bool false) ∧ w' = w := ka.mono fun r w' ⟨⟨v, q1, q2⟩, q3⟩ => ⟨by cases v; exact q1; exact absurd (q2.1 rfl) ib, q3⟩
        have nf : Hid (¬ HasP n false T ts) := fun q => ib q.2.2.1
        obtain ⟨p, c, rfl⟩ := hs.len
        rw [cl] at *
        clear ka hs ks kr
        go_enter Try.func14, Try.ntmps14
        go_wp2_with (first
          | (go_at_call 40; refine ka'.mono ?_; rintro r v2 ⟨rfl, hw⟩; subst v2)
          | fail)
        go_ret
        exact ⟨tell_f nf.out, Below.refl _ _⟩
      case pos =>
        have ka' : Calls Try.prog 40 #[sl] w fun r w' => r = .returned (.bool true) ∧ w' = w := ka.mono fun r w' ⟨⟨v, q1, q2⟩, q3⟩ => ⟨by cases v; exact absurd (q2.2 ib) (by simp); exact q1, q3⟩
        have kv := fun V a ha hV => oval sl ts a (by rw [cl, hm]; exact ha) (by omega) ib V hV
        have pb := fun a (ha : a < m) => pv_in ib (a := a) (by rw [cl, hm]; exact ha)
        have fin : Hid ((∀ a c, a < m → c < m → pv ts a + pv ts c ≤ T a c) → HasP n false T ts) := fun q => ⟨rfl, cl, ib, fun a c ha hc => q a c (by omega) (by omega)⟩
        have nfi : Hid (∀ a c, a < m → c < m → ¬ pv ts a + pv ts c ≤ T a c → ¬ HasP n false T ts) := fun a c ha hc q p => q (p.2.2.2 a c (by omega) (by omega))
        have h16 : Hid (m ≤ 16) := (by omega : m ≤ 16)
        obtain ⟨p, c, hsl⟩ := hs.len
        rw [cl] at hsl
        generalize pv ts = P at *
        subst hsl
        clear ka ib cl hm hn
        go_enter Try.func14, Try.ntmps14
        go_wp2_with (first
          | (go_at_call 40; refine ka'.mono ?_; rintro r v2 ⟨rfl, hw⟩; subst v2)
          | (go_at_call 41; refine ks.mono ?_; rintro r w2 ⟨rfl, hw2⟩; subst w2)
          | fail)
        clear ka' ks he hv
        go_loopw [32] (fun i wr => ∃ (WR : World) (a : Nat), WR = wr ∧ a ≤ m ∧ i = .int .i64 a ∧ OctAt wr b n false T ∧ SlI wr (.slice p n c) ts ∧ Hid (Below w.heap.size w wr) ∧ Hid (∀ x y, x < a → y < m → P x + P y ≤ T x y)) (fun i _ => m - (intOf i).toNat)
        case atStart => exact ⟨_, 0, rfl, by omega, rfl, h, hs, Below.refl _ _, (fun x y hx => by omega : ∀ x y, x < 0 → y < m → P x + P y ≤ T x y)⟩
        case round =>
          clear h hs
          obtain ⟨WR, a, rfl, ha, rfl, h, hs, cc, ok⟩ := hrel
          by_cases ca : a < m
          · have ca' : (a : Int) < (m : Int) := by omega
            have kva := fun V hV => kv V a ca hV
            go_wp2_with (first
              | (go_at_call 42; refine (kr _ a ca h).mono ?_; rintro r w3 ⟨rfl, q, hv⟩; replace h := h.w hv; have gd : Below WR.heap.size WR w3 := hv ▸ drewN_bel WR q; replace hs := hs.on gd; clear gd; replace cc := bel_dr cc hv; clear hv)
              | fail)
            go_loopw [39] (fun i wr => ∃ (WS : World) (d : Nat), WS = wr ∧ d ≤ m ∧ i = .int .i64 d ∧ OctAt wr b n false T ∧ SlI wr (.slice p n c) ts ∧ Hid (Below w.heap.size w wr) ∧ Hid (∀ y, y < d → P a + P y ≤ T a y)) (fun i _ => m - (intOf i).toNat)
            case atStart => exact ⟨_, 0, rfl, by omega, rfl, h, hs, cc, (fun y hy => by omega : ∀ y, y < 0 → P a + P y ≤ T a y)⟩
            case round =>
              clear h hs cc
              obtain ⟨WS, d, rfl, hd, rfl, h, hs, cc, ok2⟩ := hrel
              by_cases cd : d < m
              · have cd' : (d : Int) < (m : Int) := by omega
                have z1 := oiz b (2 + a * 16) m m d cd
                have y1 := h.hm a d (by have := h16.out; omega) (by have := h16.out; omega)
                have wd : IntKind.i64.wrap ((d : Int) + 1) = ((d + 1 : Nat) : Int) := by have := h16.out; rw [IntKind.wrap_i64]; omega
                have wp : IntKind.i64.wrap (P a + P d) = P a + P d := by have := pb a ca; have := pb d cd; rw [IntKind.wrap_i64]; omega
                have k1 := kv WS a ca hs
                have k2 := kv WS d cd hs
                have nf := fun q => nfi.out a d ca cd q
                have nx : Hid (P a + P d ≤ T a d → ∀ y, y < d + 1 → P a + P y ≤ T a y) := fun q y hy => by
                  by_cases e : y = d
                  · subst e; exact q
                  · exact ok2.out y (by omega)
                generalize T a d = t at *
                by_cases le : t < P a + P d
                · clear nx
                  replace nf := nf (by omega)
                  clear kv kva kr pb
                  go_wp2_with (first
                    | (go_at_call 43; refine k1.mono ?_; rintro r v2 ⟨rfl, hw⟩; subst v2; clear k1)
                    | (go_at_call 43; refine k2.mono ?_; rintro r v2 ⟨rfl, hw⟩; subst v2; clear k2)
                    | fail)
                  go_ret
                  exact ⟨tell_f nf, cc.out⟩
                · have nx2 : Hid (∀ y, y < d + 1 → P a + P y ≤ T a y) := nx.out (by omega)
                  clear nx nf kv kva kr pb
                  go_wp2_with (first
                    | (go_at_call 43; refine k1.mono ?_; rintro r v2 ⟨rfl, hw⟩; subst v2; clear k1)
                    | (go_at_call 43; refine k2.mono ?_; rintro r v2 ⟨rfl, hw⟩; subst v2; clear k2)
                    | fail)
                  exact ⟨⟨_, d + 1, rfl, by omega, by simp, h, hs, cc, nx2⟩, by simp [intOf]; omega⟩
              · have ed : d = m := by omega
                subst ed
                have wa : IntKind.i64.wrap ((a : Int) + 1) = ((a + 1 : Nat) : Int) := by have := h16.out; rw [IntKind.wrap_i64]; omega
                have ok3 : Hid (∀ x y, x < a + 1 → y < d → P x + P y ≤ T x y) := fun x y hx hy => by
                  by_cases e : x = a
                  · subst e; exact ok2.out y hy
                  · exact ok.out x y (by omega) hy
                clear kv kva kr pb
                go_wp2_with fail
                go_roundw
                case rel => exact ⟨_, a + 1, rfl, by omega, by first | rfl | go_num, h, hs, cc, ok3⟩
                case measure => simp [intOf]; omega
          · have ea : a = m := by omega
            subst ea
            clear kv kr pb
            go_wp2_with fail
            go_ret
            exact ⟨tell_t (fin.out fun x y hx hy => ok.out x y hx hy), cc.out⟩
end Go.Proofs.Ytpcbammncaeimaa


namespace Go.Proofs.Ytpcbammncaeimaa
set_option linter.unusedVariables false
set_option linter.unusedSimpArgs false
def pmx (ts : List Int) : Mx := fun a b => pv ts a + pv ts b
theorem pv_ot (ts : List Int) (a : Nat) : pv ts (ot a) = - pv ts a := by
  unfold pv ot
  by_cases h : a % 2 = 0
  · have e : (a + 1) / 2 = a / 2 := by omega
    rw [if_pos h, if_pos (by omega), if_neg (by omega), e]
  · have e : (a - 1) / 2 = a / 2 := by omega
    rw [if_neg h, if_neg (by omega), if_pos (by omega), e]
    omega
theorem pmx_cl (n : Nat) (ts : List Int) : Cl n (pmx ts) where
  clo := fun k hk a b ha hb => by unfold pmx; rw [pv_ot]; omega
  hal := fun a b ha hb => by unfold pmx fh; omega
  pos := fun a ha => by unfold pmx; rw [pv_ot]; omega
theorem res_has {n : Nat} {S T : Mx} {e : Bool} {ts : List Int} (h : Res n S e T) (hl : ts.length = n) (hb : InBx ts) (l : Le n (pmx ts) S) : HasP n e T ts := by
  rcases h with ⟨rfl, b⟩ | ⟨rfl, b⟩
  · exact ⟨rfl, hl, hb, fun a c ha hc => b.top _ (pmx_cl n ts) l a c ha hc⟩
  · exact absurd l (b _ (pmx_cl n ts))
theorem HasP.le {n : Nat} {e : Bool} {T : Mx} {ts : List Int} (h : HasP n e T ts) : Le n (pmx ts) T := fun a b ha hb => h.2.2.2 a b ha hb
theorem HasP.agr {n : Nat} {e : Bool} {T T' : Mx} {ts : List Int} (h : HasP n e T ts) (g : Agr n T' T) : HasP n e T' ts := ⟨h.1, h.2.1, h.2.2.1, fun a b ha hb => by rw [g a b ha hb]; exact h.2.2.2 a b ha hb⟩
def ofV (ts : List Int) (i : Int) (g : Bool) : Int := if Isv ts.length i then (if g = true then -(ts.getD i.toNat 0) else ts.getD i.toNat 0) else 0
theorem ofV_pv {ts : List Int} {i : Int} {g : Bool} (h : Isv ts.length i) : ofV ts i g = pv ts (sdn i g) := by
  unfold ofV pv sdn
  rw [if_pos h]
  cases g
  · have : (2 * i.toNat + false.toNat) / 2 = i.toNat := by simp
    rw [this, if_neg (by simp), if_neg (by simp)]
  · have : (2 * i.toNat + true.toNat) / 2 = i.toNat := by simp; omega
    rw [this, if_pos rfl, if_pos (by first | (simp; done) | (simp; omega))]
def CpGood (n : Nat) (d : Dd) : Prop := Isv n d.i ∧ Isv n d.k ∧ d.k ≠ d.i ∧ -8589934592 ≤ d.c ∧ d.c ≤ 8589934592
def ShGood (n : Nat) (d : Dd) : Prop := Isv n d.i ∧ -8589934592 ≤ d.c ∧ d.c ≤ 8589934592
open Classical in
noncomputable def mvQ (d : Dd) (ts : List Int) : List Int :=
  if d.kd = 3 ∧ CpGood ts.length d then ts.set d.i.toNat (ofV ts d.k d.ni + d.c)
  else if d.kd = 4 ∧ ShGood ts.length d then ts.set d.i.toNat (ofV ts d.i d.ni + d.c)
  else ts
def mvS (d : Dd) (ts : List Int) : Prop :=
  if d.kd = 0 then (¬ Isv ts.length d.i ∨ ¬ Isv ts.length d.k ∨ d.c < -34359738368 ∨ 34359738368 < d.c ∨ ofV ts d.i d.ni + ofV ts d.k d.nk ≤ d.c)
  else if d.kd = 1 then Isv ts.length d.i ∧ d.ea = false ∧ d.lo ≤ ts.getD d.i.toNat 0 ∧ ts.getD d.i.toNat 0 ≤ d.hh
  else d.kd ≠ 6
theorem pv_set {ts : List Int} {j : Nat} {x : Int} (hj : j < ts.length) (a : Nat) : pv (ts.set j x) a = if a / 2 = j then (if a % 2 = 1 then -x else x) else pv ts a := by
  unfold pv
  by_cases h : a / 2 = j
  · have : (ts.set j x).getD (a / 2) 0 = x := by rw [h]; simp [List.getD, hj]
    rw [this, if_pos h]
  · have : (ts.set j x).getD (a / 2) 0 = ts.getD (a / 2) 0 := by simp [List.getD, List.getElem?_set, Ne.symm h]
    rw [this, if_neg h]
theorem fgt_le {n i : Nat} {T : Mx} {ts qs : List Int} (hl : qs.length = n) (hb : InBx qs) (l : Le n (pmx ts) T) (o : ∀ a, a / 2 ≠ i → pv qs a = pv ts a) : Le n (pmx qs) (fgt i T) := fun a b ha hb' => by
  unfold fgt pmx
  by_cases h : a / 2 = i ∨ b / 2 = i
  · rw [if_pos h]
    have h1 := pv_in hb (a := a) (by omega)
    have h2 := pv_in hb (a := b) (by omega)
    unfold bx
    split
    · next e => subst e; rw [pv_ot]; omega
    · omega
  · rw [if_neg h, o a (by omega), o b (by omega)]
    exact l a b ha hb'
theorem step_has {n : Nat} {d : Dd} {T T' : Mx} {er : Int} {e' : Bool} {ts : List Int} (h : HasP n false T ts) (st : StpR n d false T false T er e' T') :
    (er = 0 ∨ (er = 2 ∧ HasP n e' T' ts)) ∧ (er = 0 → InBx (mvQ d ts) → mvS d ts → HasP n e' T' (mvQ d ts)) := by
  have hl := h.2.1
  have hb := h.2.2.1
  have le := h.le
  have act : ∀ (bad : Prop) (go : Mx → Bool → Mx → Prop), Act5 n bad go false T er e' T' → (¬ bad → go T e' T' → InBx (mvQ d ts) → mvS d ts → HasP n e' T' (mvQ d ts)) → (er = 0 ∨ (er = 2 ∧ HasP n e' T' ts)) ∧ (er = 0 → InBx (mvQ d ts) → mvS d ts → HasP n e' T' (mvQ d ts)) := by
    intro bad go a k
    rcases a with ⟨b, r, q, g⟩ | ⟨b, r, q⟩
    · subst q
      exact ⟨Or.inr ⟨r, h.agr (g rfl)⟩, fun z => by rw [r] at z; cases z⟩
    · refine ⟨Or.inl r, fun _ => k b ?_⟩
      rcases q with ⟨q, _⟩ | ⟨_, q⟩
      · cases q
      · exact q
  unfold StpR at st
  by_cases k0 : d.kd = 0
  · rw [if_pos k0] at st
    refine act _ _ st fun nb g ib ms => ?_
    have e : mvQ d ts = ts := by unfold mvQ; rw [if_neg (by omega), if_neg (by omega)]
    rw [e]
    have good := Classical.not_not.1 nb
    unfold mvS at ms
    rw [if_pos k0, hl] at ms
    have s := (by
      rcases ms with ms | ms | ms | ms | ms
      · exact absurd good.1 ms
      · exact absurd good.2.1 ms
      · omega
      · omega
      · exact ms : ofV ts d.i d.ni + ofV ts d.k d.nk ≤ d.c)
    rw [ofV_pv (by rw [hl]; exact good.1), ofV_pv (by rw [hl]; exact good.2.1)] at s
    refine res_has g hl hb ((le_low (sdn_lt good.1 _) (sdn_lt good.2.1 _)).2 ⟨le, s, ?_⟩)
    unfold pmx
    omega
  rw [if_neg k0] at st
  by_cases k1 : d.kd = 1
  · rw [if_pos k1] at st
    refine act _ _ st fun nb g ib ms => ?_
    have e : mvQ d ts = ts := by unfold mvQ; rw [if_neg (by omega), if_neg (by omega)]
    rw [e]
    have good := Classical.not_not.1 nb
    unfold mvS at ms
    rw [if_neg k0, if_pos k1, hl] at ms
    obtain ⟨_, q0, q1, q2⟩ := ms
    rcases g with ⟨p1, _⟩ | ⟨_, p2⟩
    · rw [p1] at q0; cases q0
    · have sd := isv_sd good.1
      have z1 : pv ts (2 * d.i.toNat) = ts.getD d.i.toNat 0 := by
        unfold pv
        rw [if_neg (by omega), show 2 * d.i.toNat / 2 = d.i.toNat by omega]
      have z2 : pv ts (2 * d.i.toNat + 1) = - ts.getD d.i.toNat 0 := by
        unfold pv
        rw [if_pos (by omega), show (2 * d.i.toNat + 1) / 2 = d.i.toNat by omega]
      generalize ts.getD d.i.toNat 0 = x at *
      refine res_has p2 hl hb ((le_low sd.2 sd.2).2 ⟨(le_low sd.1 sd.1).2 ⟨le, ?_, ?_⟩, ?_, ?_⟩) <;> (unfold pmx; omega)
  rw [if_neg k1] at st
  by_cases k2 : d.kd = 2
  · rw [if_pos k2] at st
    refine act _ _ st fun nb g ib ms => ?_
    have e : mvQ d ts = ts := by unfold mvQ; rw [if_neg (by omega), if_neg (by omega)]
    rw [e]
    exact res_has (Or.inl g) hl hb (fgt_le hl hb le fun _ _ => rfl)
  rw [if_neg k2] at st
  by_cases k3 : d.kd = 3
  · rw [if_pos k3] at st
    refine act _ _ st fun nb g ib ms => ?_
    have good : CpGood n d := by
      refine Classical.byContradiction fun q => nb ?_
      by_cases z : d.i = d.k
      · exact Or.inr z
      · exact Or.inl fun r => q ⟨r.1, r.2.1, fun y => z y.symm, r.2.2.1, r.2.2.2⟩
    have e : mvQ d ts = ts.set d.i.toNat (ofV ts d.k d.ni + d.c) := by unfold mvQ; rw [if_pos ⟨k3, by rw [hl]; exact good⟩]
    rw [e] at ib ⊢
    obtain ⟨g1, g2, g3, g4, g5⟩ := good
    have sdi := isv_sd g1
    have hj : d.i.toNat < ts.length := by omega
    obtain ⟨T1, b1, r1⟩ := g
    have hl2 : (ts.set d.i.toNat (ofV ts d.k d.ni + d.c)).length = n := by simp [hl]
    have l1 : Le n (pmx (ts.set d.i.toNat (ofV ts d.k d.ni + d.c))) T1 := b1.top _ (pmx_cl n _) (fgt_le hl2 ib le fun a ha => by rw [pv_set hj, if_neg ha])
    have x1 := sdn_lt g1 false
    have y1 := sdn_lt g2 d.ni
    have p1 : pv (ts.set d.i.toNat (ofV ts d.k d.ni + d.c)) (sdn d.i false) = ofV ts d.k d.ni + d.c := by
      rw [pv_set hj, if_pos (by unfold sdn; simp), if_neg (by unfold sdn; simp)]
    have p2 : pv (ts.set d.i.toNat (ofV ts d.k d.ni + d.c)) (sdn d.k d.ni) = ofV ts d.k d.ni := by
      rw [pv_set hj, if_neg, ofV_pv (by rw [hl]; exact g2)]
      unfold Isv at g1 g2
      unfold sdn
      have := Bool.toNat_le d.ni
      omega
    refine res_has r1 hl2 ib ((le_low (ot_lt x1) y1).2 ⟨(le_low x1 (ot_lt y1)).2 ⟨l1, ?_, ?_⟩, ?_, ?_⟩) <;> (unfold pmx; rw [pv_ot]; omega)
  rw [if_neg k3] at st
  by_cases k4 : d.kd = 4
  · rw [if_pos k4] at st
    refine act _ _ st fun nb g ib ms => ?_
    have good := Classical.not_not.1 nb
    have e : mvQ d ts = ts.set d.i.toNat (ofV ts d.i d.ni + d.c) := by unfold mvQ; rw [if_neg (by omega), if_pos ⟨k4, by rw [hl]; exact good⟩]
    rw [e] at ib ⊢
    have sdi := isv_sd good.1
    have hj : d.i.toNat < ts.length := by omega
    have hl2 : (ts.set d.i.toNat (ofV ts d.i d.ni + d.c)).length = n := by simp [hl]
    have ov : ofV ts d.i d.ni = if d.ni = true then - ts.getD d.i.toNat 0 else ts.getD d.i.toNat 0 := by unfold ofV; rw [if_pos (by rw [hl]; exact good.1)]
    have key : ∀ a, a < 2 * n → pv (ts.set d.i.toNat (ofV ts d.i d.ni + d.c)) a = pv ts (fr d.ni d.i.toNat a) + gn d.i.toNat d.c a := fun a ha => by
      rw [pv_set hj]
      by_cases z : a / 2 = d.i.toNat
      · rw [if_pos z, ov]
        have pe : pv ts a = if a % 2 = 1 then - ts.getD d.i.toNat 0 else ts.getD d.i.toNat 0 := by unfold pv; rw [z]
        have fe : pv ts (fr d.ni d.i.toNat a) = if d.ni = true then - pv ts a else pv ts a := by
          unfold fr
          by_cases w : d.ni = true
          · rw [if_pos ⟨w, z⟩, if_pos w, pv_ot]
          · rw [if_neg (fun q => w q.1), if_neg w]
        have ge : gn d.i.toNat d.c a = if a % 2 = 1 then -d.c else d.c := by
          unfold gn
          by_cases m : a % 2 = 1
          · rw [if_pos m, if_neg (by omega), if_pos (by omega)]
          · rw [if_neg m, if_pos (by omega)]
        rw [fe, pe, ge]
        generalize ts.getD d.i.toNat 0 = x
        by_cases m : a % 2 = 1
        · rw [if_pos m, if_pos m, if_pos m]
          split <;> omega
        · rw [if_neg m, if_neg m, if_neg m]
      · rw [if_neg z, fr_out z, gn_out z]
        omega
    refine res_has g hl2 ib fun a b ha hb' => ?_
    have h1 := pv_in ib (a := a) (by omega)
    have h2 := pv_in ib (a := b) (by omega)
    have h3 := le _ _ (fr_lt2 (g := d.ni) (i := d.i.toNat) ha) (fr_lt2 (g := d.ni) (i := d.i.toNat) hb')
    have q1 := key a ha
    have q2 := key b hb'
    unfold clp mv
    unfold pmx at h3 ⊢
    omega
  rw [if_neg k4] at st
  have e : mvQ d ts = ts := by unfold mvQ; rw [if_neg (by omega), if_neg (by omega)]
  rw [e]
  by_cases k5 : d.kd = 5
  · rw [if_pos k5] at st
    refine ⟨Or.inl st.1, fun _ _ _ => ?_⟩
    rcases st.2 with ⟨q, _⟩ | ⟨_, q, _⟩ | ⟨_, _, q⟩
    · cases q
    · cases q
    · exact res_has (Or.inl q) hl hb (le.trans (mx_le1 n T T))
  rw [if_neg k5] at st
  by_cases k6 : d.kd = 6
  · rw [if_pos k6] at st
    refine ⟨Or.inl st.1, fun _ _ ms => ?_⟩
    unfold mvS at ms
    rw [if_neg k0, if_neg k1] at ms
    exact absurd k6 ms
  rw [if_neg k6] at st
  refine ⟨Or.inl st.1, fun _ _ _ => ?_⟩
  rcases st.2 with ⟨q, _⟩ | ⟨_, q, _⟩ | ⟨_, _, q⟩
  · cases q
  · cases q
  · refine res_has q hl hb fun a b ha hb' => ?_
    unfold wdS kep
    rw [if_neg (by omega)]
    exact le a b ha hb'
end Go.Proofs.Ytpcbammncaeimaa


namespace Go.Proofs.Ytpcbammncaeimaa
open Go.RowKit
set_option linter.unusedVariables false
set_option linter.unusedSimpArgs false
set_option maxRecDepth 100000 in
theorem oof (sl : Value) (ts : List Int) (i : Int) (g : Bool) (hb : InBx ts) (w : World) (h : SlI w sl ts) (h3 : ts.length = 3) : Calls Try.prog 47 #[sl, .int .i64 i, .bool g] w fun r w' => r = .returned (.int .i64 (ofV ts i g)) ∧ w' = w := by
  rcases h with ⟨rfl, rfl⟩ | ⟨bk, off, cap, rfl, hlen, hc⟩
  · simp at h3
  unfold ofV
  rw [h3]
  by_cases hi : Isv 3 i
  · rw [if_pos hi]
    obtain ⟨k, rfl⟩ : ∃ k : Nat, i = k := ⟨i.toNat, by unfold Isv at hi; omega⟩
    have hk : k < 3 := by unfold Isv at hi; omega
    have hk' : (k : Int) < 3 := by omega
    obtain ⟨x, hx⟩ : ∃ x, ts[k]? = some x := ⟨_, List.getElem?_eq_getElem (by omega)⟩
    have bx := hb _ x hx
    have cx := hc _ x hx
    have ix := oiz bk off 3 cap k hk
    have gd : ts.getD (k : Int).toNat 0 = x := by simp [List.getD, hx]
    have wn : IntKind.i64.wrap (-x) = -x := by rw [IntKind.wrap_i64]; omega
    rw [gd]
    clear hc gd hx hb hlen hi
    cases g
    · rw [if_neg (by simp)]
      go_enter Try.func47, Try.ntmps47
      go_wp2_with fail
      go_ret
      exact ⟨rfl, rfl⟩
    · rw [if_pos rfl]
      go_enter Try.func47, Try.ntmps47
      go_wp2_with fail
      go_ret
      exact ⟨rfl, rfl⟩
  · rw [if_neg hi]
    unfold Isv at hi
    by_cases h0 : i < 0
    · clear hc hb hlen hi
      go_enter Try.func47, Try.ntmps47
      go_wp2_with fail
      go_ret
      exact ⟨rfl, rfl⟩
    · have h1 : (3 : Int) ≤ i := by omega
      clear hc hb hlen hi
      go_enter Try.func47, Try.ntmps47
      go_wp2_with fail
      go_ret
      exact ⟨rfl, rfl⟩
theorem SlI.c3 {w : World} {b cap : Nat} {ts : List Int} (h3 : ts.length = 3) (h : ∀ j x, ts[j]? = some x → w.cell? ⟨b, 0 + j, none⟩ = some (.int .i64 x)) : SlI w (.slice (some ⟨b, 0, none⟩) 3 cap) ts := Or.inr ⟨b, 0, cap, by rw [h3], by omega, h⟩
theorem SlI.at {w : World} {b o cap : Nat} {ts : List Int} (h : SlI w (.slice (some ⟨b, o, none⟩) 3 cap) ts) {j : Nat} {x : Int} (hx : ts[j]? = some x) : w.cell? ⟨b, o + j, none⟩ = some (.int .i64 x) := by
  rcases h with ⟨h, _⟩ | ⟨bk, off, c, h1, _, h4⟩
  · cases h
  · simp only [Value.slice.injEq, Option.some.injEq, Addr.mk.injEq] at h1
    obtain ⟨⟨rfl, rfl, _⟩, _, _⟩ := h1
    exact h4 j x hx
theorem SlI.set {w : World} {b o cap : Nat} {ts : List Int} (h : SlI w (.slice (some ⟨b, o, none⟩) 3 cap) ts) (h3 : ts.length = 3) {j : Nat} (hj : j < 3) (v : Int) : SlI (w.setCell ⟨b, o + j, none⟩ (.int .i64 v)) (.slice (some ⟨b, o, none⟩) 3 cap) (ts.set j v) := by
  refine Or.inr ⟨b, o, cap, by simp [h3], by simp [h3], fun k x hx => ?_⟩
  by_cases e : k = j
  · subst e
    rw [List.getElem?_set_self (by omega)] at hx
    cases hx
    obtain ⟨y, hy⟩ : ∃ y, ts[k]? = some y := ⟨_, List.getElem?_eq_getElem (by omega)⟩
    exact World.cell?_setCell_same _ _ _ (by rw [h.at hy])
  · rw [List.getElem?_set_ne (Ne.symm e)] at hx
    rw [World.cell?_setCell_other _ _ _ _ (by simp <;> omega)]
    exact h.at hx
theorem ofV_in {ts : List Int} (hb : InBx ts) (i : Int) (g : Bool) : -8589934592 ≤ ofV ts i g ∧ ofV ts i g ≤ 8589934592 := by
  unfold ofV
  split
  · next h =>
    unfold Isv at h
    have := hb i.toNat (ts.getD i.toNat 0) (by simp [List.getD, List.getElem?_eq_getElem (show i.toNat < ts.length by omega)])
    split <;> omega
  · omega
def MovP (w w' : World) (r : Ending) (d : Dd) (ts : List Int) : Prop := ∃ (bq cap : Nat) (st : Bool), w.heap.size ≤ bq ∧ r = .returned (.tuple #[.slice (some ⟨bq, 0, none⟩) 3 cap, .bool st]) ∧ SlI w' (.slice (some ⟨bq, 0, none⟩) 3 cap) (mvQ d ts) ∧ (st = true ↔ mvS d ts) ∧ Below w.heap.size w w'
theorem iff_t {p : Prop} (h : p) : (true = true ↔ p) := ⟨fun _ => h, fun _ => rfl⟩
theorem iff_f {p : Prop} (h : ¬ p) : (false = true ↔ p) := ⟨fun q => (by cases q), fun q => absurd q h⟩
theorem mi_info : (Try.prog.info? 2).map (fun i => (i.zero, i.size, i.bytes)) = some (some (.int .i64 0), 1, 8) := by kernel_rfl
end Go.Proofs.Ytpcbammncaeimaa


namespace Go.Proofs.Ytpcbammncaeimaa
open Go.RowKit
set_option linter.unusedVariables false
set_option linter.unusedSimpArgs false
set_option maxRecDepth 100000 in
set_option maxHeartbeats 64000000 in
theorem omd0 (bk : Nat) (ts : List Int) (D : Dd) (kd i k : Int) (ni nk : Bool) (c : Int) (ea : Bool) (lo hh : Int) (hD : D = { kd := kd, i := i, k := k, ni := ni, nk := nk, c := c, ea := ea, lo := lo, hh := hh }) (k0h : Hid (kd = 0)) (h3 : ts.length = 3) (hb : InBx ts) (w : World) (hs : SlI w (.slice (some ⟨bk, 0, none⟩) 3 3) ts) :
    Calls Try.prog 18 #[.slice (some ⟨bk, 0, none⟩) 3 3, .agg #[.int .i64 kd, .int .i64 i, .int .i64 k, .bool ni, .bool nk, .int .i64 c, .bool ea, .int .i64 lo, .int .i64 hh]] w fun r w' => MovP w w' r D ts := by
  obtain ⟨i0, hi, hz0, hz1, hz2⟩ := info_parts mi_info
  obtain ⟨bd, hbd⟩ : ∃ bd, w.heap.size = bd := ⟨_, rfl⟩
  obtain ⟨W, hW⟩ : ∃ W, w.alloc (.cells #[.int .i64 kd, .int .i64 i, .int .i64 k, .bool ni, .bool nk, .int .i64 c, .bool ea, .int .i64 lo, .int .i64 hh] 41) = W := ⟨_, rfl⟩
  have gW : Below w.heap.size w W := by rw [← hW]; exact (Below.refl _ _).alloc (Nat.le_refl _) _
  have c0 : W.cell? ⟨bd, 0, none⟩ = some (.int .i64 kd) := by rw [← hW, ← hbd]; simp [go_sem]
  have c1 : W.cell? ⟨bd, 1, none⟩ = some (.int .i64 i) := by rw [← hW, ← hbd]; simp [go_sem]
  have c2 : W.cell? ⟨bd, 2, none⟩ = some (.int .i64 k) := by rw [← hW, ← hbd]; simp [go_sem]
  have c3 : W.cell? ⟨bd, 3, none⟩ = some (.bool ni) := by rw [← hW, ← hbd]; simp [go_sem]
  have c4 : W.cell? ⟨bd, 4, none⟩ = some (.bool nk) := by rw [← hW, ← hbd]; simp [go_sem]
  have c5 : W.cell? ⟨bd, 5, none⟩ = some (.int .i64 c) := by rw [← hW, ← hbd]; simp [go_sem]
  have c6 : W.cell? ⟨bd, 6, none⟩ = some (.bool ea) := by rw [← hW, ← hbd]; simp [go_sem]
  have c7 : W.cell? ⟨bd, 7, none⟩ = some (.int .i64 lo) := by rw [← hW, ← hbd]; simp [go_sem]
  have c8 : W.cell? ⟨bd, 8, none⟩ = some (.int .i64 hh) := by rw [← hW, ← hbd]; simp [go_sem]
  have zW : w.heap.size + 1 ≤ W.heap.size := by rw [← hW]; simp
  have hs1 := hs.on gW
  go_enter Try.func18, Try.ntmps18
  go_upto_region 1 with fail
  (try rw [hW])
  (try rw [hbd])
  clear hW hs
  have hs2 := fun (W2 : World) (g : Below W.heap.size W W2) j u (hu : (ts.map (Value.int .i64))[j]? = some u) => (by
    rw [List.getElem?_map] at hu
    obtain ⟨x, hx, rfl⟩ := Option.map_eq_some_iff.1 hu
    rw [Addr.add_lit]
    exact (hs1.on g).at hx : W2.cell? ((⟨bk, 0, none⟩ : Addr).add j) = some u)
  go_upto_region 2 with (first
    | (at_builtin; refine wpList_append_grows _ rfl _ _ 31 rfl 2 i0 (.int .i64 0) 1 8 Try.underlying31 hi hz0 hz1 hz2 rfl (by decide) (some ⟨W.heap.size, 0, none⟩) 0 0 [] rfl (fun h => by cases h) rfl (fun b hb j u hu => by simp at hu) ⟨bk, 0, none⟩ 3 3 (ts.map (Value.int .i64)) rfl (by simp [h3]) (hs2 _ ((Below.refl _ _).alloc (Nat.le_refl _) _)) (by simp [Value.oneCell']) (by decide) (by decide) (by decide) ?_; intro v' W3 own gro)
    | fail)
  have own2 : W3.ownsRow (W.alloc (.cells #[] 2)).heap.size 2 1 v' 3 (ts.map (Value.int .i64)) := own
  obtain ⟨bq, cap, rfl, lq, zq⟩ := own2.form (by decide)
  have hq : SlI W3 (.slice (some ⟨bq, 0, none⟩) 3 cap) ts := SlI.c3 h3 (fun j x hx => by rw [Nat.zero_add, own2.cellAt j (by have := (List.getElem?_eq_some_iff.1 hx).1; omega)]; simp [hx])
  have fz : ∀ j, W3.frozen? ⟨bq, j, none⟩ = false := own2.frozenAt
  have gW3 : Below W.heap.size W W3 := ((Below.refl W.heap.size W).alloc (Nat.le_refl _) _).grown gro (by simp) (fun k h => by cases h)
  have hs3 := hs1.on gW3
  replace c0 := sO gW3 c0; replace c1 := sO gW3 c1; replace c2 := sO gW3 c2; replace c3 := sO gW3 c3; replace c4 := sO gW3 c4; replace c5 := sO gW3 c5; replace c6 := sO gW3 c6; replace c7 := sO gW3 c7; replace c8 := sO gW3 c8
  have ne : bd ≠ bq := by simp at lq; omega
  have cc : Below w.heap.size w W3 := sp_call gW gW3
  have lw : w.heap.size ≤ bq := by simp at lq; omega
  have finT : Hid (mvQ D ts = ts → ∀ N st, (st = true ↔ mvS D ts) → MovP w (W3.drewN N) (.returned (.tuple #[.slice (some ⟨bq, 0, none⟩) 3 cap, .bool st])) D ts) := fun e N st h => ⟨bq, cap, st, lw, rfl, by rw [e]; exact hq.on (drewN_bel W3 N), h, sp_call cc (drewN_bel W3 N)⟩
  have finS : Hid (∀ W4, Below W3.heap.size W3 W4 → ∀ (j : Nat) v, j < 3 → mvQ D ts = ts.set j v → mvS D ts → ∀ V, V = W4.setCell ⟨bq, 0 + j, none⟩ (.int .i64 v) → ∀ N, MovP w (V.drewN N) (.returned (.tuple #[.slice (some ⟨bq, 0, none⟩) 3 cap, .bool true])) D ts) := fun W4 g4 j v hj e h V hV N => ⟨bq, cap, true, lw, rfl, by rw [e, hV]; exact ((hq.on g4).set h3 hj v).on (drewN_bel _ N), by simp [h], by rw [hV]; exact sp_call ((sp_call cc g4).setCell (p := ⟨bq, 0 + j, none⟩) lw _) (drewN_bel _ N)⟩
  have qs : ∀ (j : Nat), j < 3 → ∃ x, W3.cell? ⟨bq, 0 + j, none⟩ = some (.int .i64 x) := fun j hj => by
    obtain ⟨x, hx⟩ : ∃ x, ts[j]? = some x := ⟨_, List.getElem?_eq_getElem (by omega)⟩
    exact ⟨x, hq.at hx⟩
  have kf := fun i g V hV => oof (.slice (some ⟨bk, 0, none⟩) 3 3) ts i g hb V hV h3
  have ob := fun i g => ofV_in hb i g
  have gx : ∀ (j : Nat), j < 3 → ∃ x, ts.getD j 0 = x ∧ W3.cell? ⟨bk, 0 + j, none⟩ = some (.int .i64 x) := fun j hj => by
    obtain ⟨x, hx⟩ : ∃ x, ts[j]? = some x := ⟨_, List.getElem?_eq_getElem (by omega)⟩
    exact ⟨x, by simp [List.getD, hx], hs3.at hx⟩
  have eQ0 : Hid ((kd ≠ 3 ∨ ¬ CpGood 3 D) → (kd ≠ 4 ∨ ¬ ShGood 3 D) → mvQ D ts = ts) := fun a b => by
    unfold mvQ
    rw [if_neg (by rw [h3, hD]; rintro ⟨p, q⟩; rcases a with a | a; exact a p; rw [hD] at a; exact a q), if_neg (by rw [h3, hD]; rintro ⟨p, q⟩; rcases b with b | b; exact b p; rw [hD] at b; exact b q)]
  have eQ3 : Hid (kd = 3 → CpGood 3 D → mvQ D ts = ts.set i.toNat (ofV ts k ni + c)) := fun a b => by
    unfold mvQ
    rw [if_pos ⟨by rw [hD]; exact a, by rw [h3]; exact b⟩, hD]
  have eQ4 : Hid (kd = 4 → ShGood 3 D → mvQ D ts = ts.set i.toNat (ofV ts i ni + c)) := fun a b => by
    unfold mvQ
    rw [if_neg (by rw [hD]; simp; omega), if_pos ⟨by rw [hD]; exact a, by rw [h3]; exact b⟩, hD]
  have eS : Hid (mvS D ts ↔ if kd = 0 then (¬ Isv 3 i ∨ ¬ Isv 3 k ∨ c < -34359738368 ∨ 34359738368 < c ∨ ofV ts i ni + ofV ts k nk ≤ c) else if kd = 1 then Isv 3 i ∧ ea = false ∧ lo ≤ ts.getD i.toNat 0 ∧ ts.getD i.toNat 0 ≤ hh else kd ≠ 6) := by
    unfold mvS
    rw [hD, h3]
    exact Iff.rfl
  have gC : Hid (CpGood 3 D ↔ Isv 3 i ∧ Isv 3 k ∧ k ≠ i ∧ -8589934592 ≤ c ∧ c ≤ 8589934592) := by unfold CpGood; rw [hD]; exact Iff.rfl
  have gS : Hid (ShGood 3 D ↔ Isv 3 i ∧ -8589934592 ≤ c ∧ c ≤ 8589934592) := by unfold ShGood; rw [hD]; exact Iff.rfl
  have lb : bq < W3.heap.size := zq
  clear hD own own2 gro gW gW3 hi hz0 hz1 hz2 hs1 hs2 hq zW zq lq lw cc hb h3
  have k1 := kf i ni
  have k2 := fun N => kf k nk (W3.drewN N) (hs3.on (drewN_bel W3 N))
  have k3 := kf k ni
  have b1 := ob i ni
  have b2 := ob k nk
  have b3 := ob k ni
  clear kf ob
  generalize ofV ts i ni = o1 at *
  generalize ofV ts k nk = o2 at *
  generalize ofV ts k ni = o3 at *
  have w12 : IntKind.i64.wrap (o1 + o2) = o1 + o2 := by rw [IntKind.wrap_i64]; omega
  have b1' : Hid (-8589934592 ≤ o1 ∧ o1 ≤ 8589934592) := b1
  have b3' : Hid (-8589934592 ≤ o3 ∧ o3 ≤ 8589934592) := b3
  clear b1 b2 b3
  have qI : Hid (∀ x, Isv 3 x ↔ 0 ≤ x ∧ x < 3) := fun x => Iff.rfl
  have k0 := k0h.out
  clear k0h
  subst k0
  have eS0 : Hid (mvS D ts ↔ (¬ Isv 3 i ∨ ¬ Isv 3 k ∨ c < -34359738368 ∨ 34359738368 < c ∨ o1 + o2 ≤ c)) := by have := eS.out; rw [if_pos rfl] at this; exact this
  clear eS eQ3 eQ4 finS qs gx k3 c6 c7 c8 ne fz lb hbd gC gS b1' b3'
  by_cases i1 : i < 0
  case pos =>
    have nI : Hid (¬ Isv 3 i) := fun q => by have := (qI.out i).1 q; omega
    go_upto_region 7 with (first
            | (go_at_call 47; with_reducible refine (k1 _ hs3).mono ?_; rintro r v4 ⟨rfl, hw4⟩; subst v4; clear k1)
            | fail)
    go_quiet (first | (go_at_call 47; with_reducible exact Calls.quiet_of_same (k2 _)) | fail)
    go_wp2_with fail
    exact bodyPost_ret (results_tmp2 rfl _ _ _) rfl (finT.out (eQ0.out (Or.inl (by omega)) (Or.inl (by omega))) _ _ (iff_t (eS0.out.2 (Or.inl nI.out))))
  by_cases i2 : i < 3
  case neg =>
    have nI : Hid (¬ Isv 3 i) := fun q => by have := (qI.out i).1 q; omega
    go_upto_region 7 with (first
            | (go_at_call 47; with_reducible refine (k1 _ hs3).mono ?_; rintro r v4 ⟨rfl, hw4⟩; subst v4; clear k1)
            | fail)
    go_quiet (first | (go_at_call 47; with_reducible exact Calls.quiet_of_same (k2 _)) | fail)
    go_wp2_with fail
    exact bodyPost_ret (results_tmp2 rfl _ _ _) rfl (finT.out (eQ0.out (Or.inl (by omega)) (Or.inl (by omega))) _ _ (iff_t (eS0.out.2 (Or.inl nI.out))))
  have yI : Hid (Isv 3 i) := (qI.out i).2 ⟨by omega, by omega⟩
  by_cases l1 : k < 0
  case pos =>
    have nK : Hid (¬ Isv 3 k) := fun q => by have := (qI.out k).1 q; omega
    have d1 : decide (k < 0) = true := by rw [decide_eq_true_iff]; omega
    go_upto_region 7 with (first
            | (go_at_call 47; with_reducible refine (k1 _ hs3).mono ?_; rintro r v4 ⟨rfl, hw4⟩; subst v4; clear k1)
            | fail)
    go_quiet (first | (go_at_call 47; with_reducible exact Calls.quiet_of_same (k2 _)) | fail)
    go_wp2_with fail
    exact bodyPost_ret (results_tmp2 rfl _ _ _) rfl (finT.out (eQ0.out (Or.inl (by omega)) (Or.inl (by omega))) _ _ (iff_t (eS0.out.2 (Or.inr (Or.inl nK.out)))))
  have d1 : decide (k < 0) = false := by rw [decide_eq_false_iff_not]; omega
  by_cases l2 : k < 3
  case neg =>
    have nK : Hid (¬ Isv 3 k) := fun q => by have := (qI.out k).1 q; omega
    have d2 : decide (3 ≤ k) = true := by rw [decide_eq_true_iff]; omega
    go_upto_region 7 with (first
            | (go_at_call 47; with_reducible refine (k1 _ hs3).mono ?_; rintro r v4 ⟨rfl, hw4⟩; subst v4; clear k1)
            | fail)
    go_quiet (first | (go_at_call 47; with_reducible exact Calls.quiet_of_same (k2 _)) | fail)
    go_wp2_with fail
    exact bodyPost_ret (results_tmp2 rfl _ _ _) rfl (finT.out (eQ0.out (Or.inl (by omega)) (Or.inl (by omega))) _ _ (iff_t (eS0.out.2 (Or.inr (Or.inl nK.out)))))
  have d2 : decide (3 ≤ k) = false := by rw [decide_eq_false_iff_not]; omega
  have yK : Hid (Isv 3 k) := (qI.out k).2 ⟨by omega, by omega⟩
  by_cases l3 : c < -34359738368
  case pos =>
    have d3 : decide (c < -34359738368) = true := by rw [decide_eq_true_iff]; omega
    replace l3 : Hid (c < -34359738368) := l3
    clear l1 l2
    go_upto_region 7 with (first
            | (go_at_call 47; with_reducible refine (k1 _ hs3).mono ?_; rintro r v4 ⟨rfl, hw4⟩; subst v4; clear k1)
            | fail)
    go_quiet (first | (go_at_call 47; with_reducible exact Calls.quiet_of_same (k2 _)) | fail)
    go_wp2_with fail
    exact bodyPost_ret (results_tmp2 rfl _ _ _) rfl (finT.out (eQ0.out (Or.inl (by omega)) (Or.inl (by omega))) _ _ (iff_t (eS0.out.2 (Or.inr (Or.inr (Or.inl l3.out))))))
  have d3 : decide (c < -34359738368) = false := by rw [decide_eq_false_iff_not]; omega
  by_cases l4 : 34359738368 < c
  case pos =>
    have d4 : decide (34359738368 < c) = true := by rw [decide_eq_true_iff]; omega
    replace l4 : Hid (34359738368 < c) := l4
    clear l1 l2 l3
    go_upto_region 7 with (first
            | (go_at_call 47; with_reducible refine (k1 _ hs3).mono ?_; rintro r v4 ⟨rfl, hw4⟩; subst v4; clear k1)
            | fail)
    go_quiet (first | (go_at_call 47; with_reducible exact Calls.quiet_of_same (k2 _)) | fail)
    go_wp2_with fail
    exact bodyPost_ret (results_tmp2 rfl _ _ _) rfl (finT.out (eQ0.out (Or.inl (by omega)) (Or.inl (by omega))) _ _ (iff_t (eS0.out.2 (Or.inr (Or.inr (Or.inr (Or.inl l4.out)))))))
  have d4 : decide (34359738368 < c) = false := by rw [decide_eq_false_iff_not]; omega
  by_cases l5 : o1 + o2 ≤ c
  case pos =>
    have d5 : decide (o1 + o2 ≤ c) = true := by rw [decide_eq_true_iff]; omega
    replace l5 : Hid (o1 + o2 ≤ c) := l5
    clear l1 l2 l3 l4
    go_upto_region 7 with (first
            | (go_at_call 47; with_reducible refine (k1 _ hs3).mono ?_; rintro r v4 ⟨rfl, hw4⟩; subst v4; clear k1)
            | fail)
    go_quiet (first | (go_at_call 47; with_reducible exact Calls.quiet_of_same (k2 _)) | fail)
    go_wp2_with fail
    exact bodyPost_ret (results_tmp2 rfl _ _ _) rfl (finT.out (eQ0.out (Or.inl (by omega)) (Or.inl (by omega))) _ _ (iff_t (eS0.out.2 (Or.inr (Or.inr (Or.inr (Or.inr l5.out)))))))
  have d5 : decide (o1 + o2 ≤ c) = false := by rw [decide_eq_false_iff_not]; omega
  replace l3 : Hid (¬ c < -34359738368) := l3
  replace l4 : Hid (¬ 34359738368 < c) := l4
  replace l5 : Hid (¬ o1 + o2 ≤ c) := l5
  clear l1 l2
  go_upto_region 7 with (first
        | (go_at_call 47; with_reducible refine (k1 _ hs3).mono ?_; rintro r v4 ⟨rfl, hw4⟩; subst v4; clear k1)
        | fail)
  go_quiet (first | (go_at_call 47; with_reducible exact Calls.quiet_of_same (k2 _)) | fail)
  go_wp2_with fail
  exact bodyPost_ret (results_tmp2 rfl _ _ _) rfl (finT.out (eQ0.out (Or.inl (by omega)) (Or.inl (by omega))) _ _ (iff_f (fun q => by rcases eS0.out.1 q with q | q | q | q | q; exact q yI.out; exact q yK.out; (have := l3.out; omega); (have := l4.out; omega); (have := l5.out; omega))))
end Go.Proofs.Ytpcbammncaeimaa


namespace Go.Proofs.Ytpcbammncaeimaa
open Go.RowKit
set_option linter.unusedVariables false
set_option linter.unusedSimpArgs false
set_option maxRecDepth 100000 in
set_option maxHeartbeats 64000000 in
theorem omd1 (bk : Nat) (ts : List Int) (D : Dd) (kd i k : Int) (ni nk : Bool) (c : Int) (ea : Bool) (lo hh : Int) (hD : D = { kd := kd, i := i, k := k, ni := ni, nk := nk, c := c, ea := ea, lo := lo, hh := hh }) (k1h : Hid (kd = 1)) (h3 : ts.length = 3) (hb : InBx ts) (w : World) (hs : SlI w (.slice (some ⟨bk, 0, none⟩) 3 3) ts) :
    Calls Try.prog 18 #[.slice (some ⟨bk, 0, none⟩) 3 3, .agg #[.int .i64 kd, .int .i64 i, .int .i64 k, .bool ni, .bool nk, .int .i64 c, .bool ea, .int .i64 lo, .int .i64 hh]] w fun r w' => MovP w w' r D ts := by
  obtain ⟨i0, hi, hz0, hz1, hz2⟩ := info_parts mi_info
  obtain ⟨bd, hbd⟩ : ∃ bd, w.heap.size = bd := ⟨_, rfl⟩
  obtain ⟨W, hW⟩ : ∃ W, w.alloc (.cells #[.int .i64 kd, .int .i64 i, .int .i64 k, .bool ni, .bool nk, .int .i64 c, .bool ea, .int .i64 lo, .int .i64 hh] 41) = W := ⟨_, rfl⟩
  have gW : Below w.heap.size w W := by rw [← hW]; exact (Below.refl _ _).alloc (Nat.le_refl _) _
  have c0 : W.cell? ⟨bd, 0, none⟩ = some (.int .i64 kd) := by rw [← hW, ← hbd]; simp [go_sem]
  have c1 : W.cell? ⟨bd, 1, none⟩ = some (.int .i64 i) := by rw [← hW, ← hbd]; simp [go_sem]
  have c2 : W.cell? ⟨bd, 2, none⟩ = some (.int .i64 k) := by rw [← hW, ← hbd]; simp [go_sem]
  have c3 : W.cell? ⟨bd, 3, none⟩ = some (.bool ni) := by rw [← hW, ← hbd]; simp [go_sem]
  have c4 : W.cell? ⟨bd, 4, none⟩ = some (.bool nk) := by rw [← hW, ← hbd]; simp [go_sem]
  have c5 : W.cell? ⟨bd, 5, none⟩ = some (.int .i64 c) := by rw [← hW, ← hbd]; simp [go_sem]
  have c6 : W.cell? ⟨bd, 6, none⟩ = some (.bool ea) := by rw [← hW, ← hbd]; simp [go_sem]
  have c7 : W.cell? ⟨bd, 7, none⟩ = some (.int .i64 lo) := by rw [← hW, ← hbd]; simp [go_sem]
  have c8 : W.cell? ⟨bd, 8, none⟩ = some (.int .i64 hh) := by rw [← hW, ← hbd]; simp [go_sem]
  have zW : w.heap.size + 1 ≤ W.heap.size := by rw [← hW]; simp
  have hs1 := hs.on gW
  go_enter Try.func18, Try.ntmps18
  go_upto_region 1 with fail
  (try rw [hW])
  (try rw [hbd])
  clear hW hs
  have hs2 := fun (W2 : World) (g : Below W.heap.size W W2) j u (hu : (ts.map (Value.int .i64))[j]? = some u) => (by
    rw [List.getElem?_map] at hu
    obtain ⟨x, hx, rfl⟩ := Option.map_eq_some_iff.1 hu
    rw [Addr.add_lit]
    exact (hs1.on g).at hx : W2.cell? ((⟨bk, 0, none⟩ : Addr).add j) = some u)
  go_upto_region 2 with (first
    | (at_builtin; refine wpList_append_grows _ rfl _ _ 31 rfl 2 i0 (.int .i64 0) 1 8 Try.underlying31 hi hz0 hz1 hz2 rfl (by decide) (some ⟨W.heap.size, 0, none⟩) 0 0 [] rfl (fun h => by cases h) rfl (fun b hb j u hu => by simp at hu) ⟨bk, 0, none⟩ 3 3 (ts.map (Value.int .i64)) rfl (by simp [h3]) (hs2 _ ((Below.refl _ _).alloc (Nat.le_refl _) _)) (by simp [Value.oneCell']) (by decide) (by decide) (by decide) ?_; intro v' W3 own gro)
    | fail)
  have own2 : W3.ownsRow (W.alloc (.cells #[] 2)).heap.size 2 1 v' 3 (ts.map (Value.int .i64)) := own
  obtain ⟨bq, cap, rfl, lq, zq⟩ := own2.form (by decide)
  have hq : SlI W3 (.slice (some ⟨bq, 0, none⟩) 3 cap) ts := SlI.c3 h3 (fun j x hx => by rw [Nat.zero_add, own2.cellAt j (by have := (List.getElem?_eq_some_iff.1 hx).1; omega)]; simp [hx])
  have fz : ∀ j, W3.frozen? ⟨bq, j, none⟩ = false := own2.frozenAt
  have gW3 : Below W.heap.size W W3 := ((Below.refl W.heap.size W).alloc (Nat.le_refl _) _).grown gro (by simp) (fun k h => by cases h)
  have hs3 := hs1.on gW3
  replace c0 := sO gW3 c0; replace c1 := sO gW3 c1; replace c2 := sO gW3 c2; replace c3 := sO gW3 c3; replace c4 := sO gW3 c4; replace c5 := sO gW3 c5; replace c6 := sO gW3 c6; replace c7 := sO gW3 c7; replace c8 := sO gW3 c8
  have ne : bd ≠ bq := by simp at lq; omega
  have cc : Below w.heap.size w W3 := sp_call gW gW3
  have lw : w.heap.size ≤ bq := by simp at lq; omega
  have finT : Hid (mvQ D ts = ts → ∀ N st, (st = true ↔ mvS D ts) → MovP w (W3.drewN N) (.returned (.tuple #[.slice (some ⟨bq, 0, none⟩) 3 cap, .bool st])) D ts) := fun e N st h => ⟨bq, cap, st, lw, rfl, by rw [e]; exact hq.on (drewN_bel W3 N), h, sp_call cc (drewN_bel W3 N)⟩
  have finS : Hid (∀ W4, Below W3.heap.size W3 W4 → ∀ (j : Nat) v, j < 3 → mvQ D ts = ts.set j v → mvS D ts → ∀ V, V = W4.setCell ⟨bq, 0 + j, none⟩ (.int .i64 v) → ∀ N, MovP w (V.drewN N) (.returned (.tuple #[.slice (some ⟨bq, 0, none⟩) 3 cap, .bool true])) D ts) := fun W4 g4 j v hj e h V hV N => ⟨bq, cap, true, lw, rfl, by rw [e, hV]; exact ((hq.on g4).set h3 hj v).on (drewN_bel _ N), by simp [h], by rw [hV]; exact sp_call ((sp_call cc g4).setCell (p := ⟨bq, 0 + j, none⟩) lw _) (drewN_bel _ N)⟩
  have qs : ∀ (j : Nat), j < 3 → ∃ x, W3.cell? ⟨bq, 0 + j, none⟩ = some (.int .i64 x) := fun j hj => by
    obtain ⟨x, hx⟩ : ∃ x, ts[j]? = some x := ⟨_, List.getElem?_eq_getElem (by omega)⟩
    exact ⟨x, hq.at hx⟩
  have kf := fun i g V hV => oof (.slice (some ⟨bk, 0, none⟩) 3 3) ts i g hb V hV h3
  have ob := fun i g => ofV_in hb i g
  have gx : ∀ (j : Nat), j < 3 → ∃ x, ts.getD j 0 = x ∧ W3.cell? ⟨bk, 0 + j, none⟩ = some (.int .i64 x) := fun j hj => by
    obtain ⟨x, hx⟩ : ∃ x, ts[j]? = some x := ⟨_, List.getElem?_eq_getElem (by omega)⟩
    exact ⟨x, by simp [List.getD, hx], hs3.at hx⟩
  have eQ0 : Hid ((kd ≠ 3 ∨ ¬ CpGood 3 D) → (kd ≠ 4 ∨ ¬ ShGood 3 D) → mvQ D ts = ts) := fun a b => by
    unfold mvQ
    rw [if_neg (by rw [h3, hD]; rintro ⟨p, q⟩; rcases a with a | a; exact a p; rw [hD] at a; exact a q), if_neg (by rw [h3, hD]; rintro ⟨p, q⟩; rcases b with b | b; exact b p; rw [hD] at b; exact b q)]
  have eQ3 : Hid (kd = 3 → CpGood 3 D → mvQ D ts = ts.set i.toNat (ofV ts k ni + c)) := fun a b => by
    unfold mvQ
    rw [if_pos ⟨by rw [hD]; exact a, by rw [h3]; exact b⟩, hD]
  have eQ4 : Hid (kd = 4 → ShGood 3 D → mvQ D ts = ts.set i.toNat (ofV ts i ni + c)) := fun a b => by
    unfold mvQ
    rw [if_neg (by rw [hD]; simp; omega), if_pos ⟨by rw [hD]; exact a, by rw [h3]; exact b⟩, hD]
  have eS : Hid (mvS D ts ↔ if kd = 0 then (¬ Isv 3 i ∨ ¬ Isv 3 k ∨ c < -34359738368 ∨ 34359738368 < c ∨ ofV ts i ni + ofV ts k nk ≤ c) else if kd = 1 then Isv 3 i ∧ ea = false ∧ lo ≤ ts.getD i.toNat 0 ∧ ts.getD i.toNat 0 ≤ hh else kd ≠ 6) := by
    unfold mvS
    rw [hD, h3]
    exact Iff.rfl
  have gC : Hid (CpGood 3 D ↔ Isv 3 i ∧ Isv 3 k ∧ k ≠ i ∧ -8589934592 ≤ c ∧ c ≤ 8589934592) := by unfold CpGood; rw [hD]; exact Iff.rfl
  have gS : Hid (ShGood 3 D ↔ Isv 3 i ∧ -8589934592 ≤ c ∧ c ≤ 8589934592) := by unfold ShGood; rw [hD]; exact Iff.rfl
  have lb : bq < W3.heap.size := zq
  clear hD own own2 gro gW gW3 hi hz0 hz1 hz2 hs1 hs2 hq zW zq lq lw cc hb h3
  have k1 := kf i ni
  have k2 := fun N => kf k nk (W3.drewN N) (hs3.on (drewN_bel W3 N))
  have k3 := kf k ni
  have b1 := ob i ni
  have b2 := ob k nk
  have b3 := ob k ni
  clear kf ob
  generalize ofV ts i ni = o1 at *
  generalize ofV ts k nk = o2 at *
  generalize ofV ts k ni = o3 at *
  have w12 : IntKind.i64.wrap (o1 + o2) = o1 + o2 := by rw [IntKind.wrap_i64]; omega
  have b1' : Hid (-8589934592 ≤ o1 ∧ o1 ≤ 8589934592) := b1
  have b3' : Hid (-8589934592 ≤ o3 ∧ o3 ≤ 8589934592) := b3
  clear b1 b2 b3
  have qI : Hid (∀ x, Isv 3 x ↔ 0 ≤ x ∧ x < 3) := fun x => Iff.rfl
  have k1' := k1h.out
  clear k1h
  subst k1'
  have eS1 : Hid (mvS D ts ↔ (Isv 3 i ∧ ea = false ∧ lo ≤ ts.getD i.toNat 0 ∧ ts.getD i.toNat 0 ≤ hh)) := by have := eS.out; rw [if_neg (by omega), if_pos rfl] at this; exact this
  clear eS eQ3 eQ4 finS qs k2 k3 w12 c2 c4 c5 ne fz lb hbd gC gS b1' b3'
  by_cases i1 : i < 0
  case pos =>
    have nI : Hid (¬ Isv 3 i) := fun q => by have := (qI.out i).1 q; omega
    go_upto_region 9 with (first
            | (go_at_call 47; with_reducible refine (k1 _ hs3).mono ?_; rintro r v4 ⟨rfl, hw4⟩; subst v4; clear k1)
            | fail)
    go_quiet (fail)
    go_wp2_with fail
    exact bodyPost_ret (results_tmp2 rfl _ _ _) rfl (finT.out (eQ0.out (Or.inl (by omega)) (Or.inl (by omega))) _ _ (iff_f (fun q => nI.out (eS1.out.1 q).1)))
  by_cases i2 : i < 3
  case neg =>
    have nI : Hid (¬ Isv 3 i) := fun q => by have := (qI.out i).1 q; omega
    go_upto_region 9 with (first
            | (go_at_call 47; with_reducible refine (k1 _ hs3).mono ?_; rintro r v4 ⟨rfl, hw4⟩; subst v4; clear k1)
            | fail)
    go_quiet (fail)
    go_wp2_with fail
    exact bodyPost_ret (results_tmp2 rfl _ _ _) rfl (finT.out (eQ0.out (Or.inl (by omega)) (Or.inl (by omega))) _ _ (iff_f (fun q => nI.out (eS1.out.1 q).1)))
  have yI : Hid (Isv 3 i) := (qI.out i).2 ⟨by omega, by omega⟩
  obtain ⟨j, rfl⟩ : ∃ j : Nat, i = j := ⟨i.toNat, by omega⟩
  have hj : j < 3 := by omega
  have hj' : (j : Int) < 3 := by omega
  obtain ⟨x, hx, cx⟩ := gx j hj
  have ix := oiz bk 0 3 3 j hj
  rw [Nat.zero_add] at ix cx
  have tn : (j : Int).toNat = j := rfl
  rw [tn, hx] at eS1
  clear gx hx tn
  cases ea
  case true =>
    go_upto_region 9 with (first
            | (go_at_call 47; with_reducible refine (k1 _ hs3).mono ?_; rintro r v4 ⟨rfl, hw4⟩; subst v4; clear k1)
            | fail)
    go_quiet (fail)
    go_wp2_with fail
    exact bodyPost_ret (results_tmp2 rfl _ _ _) rfl (finT.out (eQ0.out (Or.inl (by omega)) (Or.inl (by omega))) _ _ (iff_f (fun q => by cases (eS1.out.1 q).2.1)))
  by_cases l1 : x < lo
  case pos =>
    have l1' : decide (lo ≤ x) = false := by rw [decide_eq_false_iff_not]; omega
    go_upto_region 9 with (first
            | (go_at_call 47; with_reducible refine (k1 _ hs3).mono ?_; rintro r v4 ⟨rfl, hw4⟩; subst v4; clear k1)
            | fail)
    go_quiet (fail)
    go_wp2_with fail
    exact bodyPost_ret (results_tmp2 rfl _ _ _) rfl (finT.out (eQ0.out (Or.inl (by omega)) (Or.inl (by omega))) _ _ (iff_f (fun q => by have := (eS1.out.1 q).2.2.1; omega)))
  have l1' : decide (lo ≤ x) = true := by rw [decide_eq_true_iff]; omega
  by_cases l2 : hh < x
  case pos =>
    have l2' : decide (x ≤ hh) = false := by rw [decide_eq_false_iff_not]; omega
    go_upto_region 9 with (first
            | (go_at_call 47; with_reducible refine (k1 _ hs3).mono ?_; rintro r v4 ⟨rfl, hw4⟩; subst v4; clear k1)
            | fail)
    go_quiet (fail)
    go_wp2_with fail
    exact bodyPost_ret (results_tmp2 rfl _ _ _) rfl (finT.out (eQ0.out (Or.inl (by omega)) (Or.inl (by omega))) _ _ (iff_f (fun q => by have := (eS1.out.1 q).2.2.2; omega)))
  have l2' : decide (x ≤ hh) = true := by rw [decide_eq_true_iff]; omega
  go_upto_region 9 with (first
        | (go_at_call 47; with_reducible refine (k1 _ hs3).mono ?_; rintro r v4 ⟨rfl, hw4⟩; subst v4; clear k1)
        | fail)
  go_quiet (fail)
  go_wp2_with fail
  exact bodyPost_ret (results_tmp2 rfl _ _ _) rfl (finT.out (eQ0.out (Or.inl (by omega)) (Or.inl (by omega))) _ _ (iff_t (eS1.out.2 ⟨yI.out, by trivial, by omega, by omega⟩)))
end Go.Proofs.Ytpcbammncaeimaa


namespace Go.Proofs.Ytpcbammncaeimaa
open Go.RowKit
set_option linter.unusedVariables false
set_option linter.unusedSimpArgs false
set_option maxRecDepth 100000 in
set_option maxHeartbeats 64000000 in
theorem omd4 (bk : Nat) (ts : List Int) (D : Dd) (kd i k : Int) (ni nk : Bool) (c : Int) (ea : Bool) (lo hh : Int) (hD : D = { kd := kd, i := i, k := k, ni := ni, nk := nk, c := c, ea := ea, lo := lo, hh := hh }) (k4h : Hid (kd = 4)) (h3 : ts.length = 3) (hb : InBx ts) (w : World) (hs : SlI w (.slice (some ⟨bk, 0, none⟩) 3 3) ts) :
    Calls Try.prog 18 #[.slice (some ⟨bk, 0, none⟩) 3 3, .agg #[.int .i64 kd, .int .i64 i, .int .i64 k, .bool ni, .bool nk, .int .i64 c, .bool ea, .int .i64 lo, .int .i64 hh]] w fun r w' => MovP w w' r D ts := by
  obtain ⟨i0, hi, hz0, hz1, hz2⟩ := info_parts mi_info
  obtain ⟨bd, hbd⟩ : ∃ bd, w.heap.size = bd := ⟨_, rfl⟩
  obtain ⟨W, hW⟩ : ∃ W, w.alloc (.cells #[.int .i64 kd, .int .i64 i, .int .i64 k, .bool ni, .bool nk, .int .i64 c, .bool ea, .int .i64 lo, .int .i64 hh] 41) = W := ⟨_, rfl⟩
  have gW : Below w.heap.size w W := by rw [← hW]; exact (Below.refl _ _).alloc (Nat.le_refl _) _
  have c0 : W.cell? ⟨bd, 0, none⟩ = some (.int .i64 kd) := by rw [← hW, ← hbd]; simp [go_sem]
  have c1 : W.cell? ⟨bd, 1, none⟩ = some (.int .i64 i) := by rw [← hW, ← hbd]; simp [go_sem]
  have c2 : W.cell? ⟨bd, 2, none⟩ = some (.int .i64 k) := by rw [← hW, ← hbd]; simp [go_sem]
  have c3 : W.cell? ⟨bd, 3, none⟩ = some (.bool ni) := by rw [← hW, ← hbd]; simp [go_sem]
  have c4 : W.cell? ⟨bd, 4, none⟩ = some (.bool nk) := by rw [← hW, ← hbd]; simp [go_sem]
  have c5 : W.cell? ⟨bd, 5, none⟩ = some (.int .i64 c) := by rw [← hW, ← hbd]; simp [go_sem]
  have c6 : W.cell? ⟨bd, 6, none⟩ = some (.bool ea) := by rw [← hW, ← hbd]; simp [go_sem]
  have c7 : W.cell? ⟨bd, 7, none⟩ = some (.int .i64 lo) := by rw [← hW, ← hbd]; simp [go_sem]
  have c8 : W.cell? ⟨bd, 8, none⟩ = some (.int .i64 hh) := by rw [← hW, ← hbd]; simp [go_sem]
  have zW : w.heap.size + 1 ≤ W.heap.size := by rw [← hW]; simp
  have hs1 := hs.on gW
  go_enter Try.func18, Try.ntmps18
  go_upto_region 1 with fail
  (try rw [hW])
  (try rw [hbd])
  clear hW hs
  have hs2 := fun (W2 : World) (g : Below W.heap.size W W2) j u (hu : (ts.map (Value.int .i64))[j]? = some u) => (by
    rw [List.getElem?_map] at hu
    obtain ⟨x, hx, rfl⟩ := Option.map_eq_some_iff.1 hu
    rw [Addr.add_lit]
    exact (hs1.on g).at hx : W2.cell? ((⟨bk, 0, none⟩ : Addr).add j) = some u)
  go_upto_region 2 with (first
    | (at_builtin; refine wpList_append_grows _ rfl _ _ 31 rfl 2 i0 (.int .i64 0) 1 8 Try.underlying31 hi hz0 hz1 hz2 rfl (by decide) (some ⟨W.heap.size, 0, none⟩) 0 0 [] rfl (fun h => by cases h) rfl (fun b hb j u hu => by simp at hu) ⟨bk, 0, none⟩ 3 3 (ts.map (Value.int .i64)) rfl (by simp [h3]) (hs2 _ ((Below.refl _ _).alloc (Nat.le_refl _) _)) (by simp [Value.oneCell']) (by decide) (by decide) (by decide) ?_; intro v' W3 own gro)
    | fail)
  have own2 : W3.ownsRow (W.alloc (.cells #[] 2)).heap.size 2 1 v' 3 (ts.map (Value.int .i64)) := own
  obtain ⟨bq, cap, rfl, lq, zq⟩ := own2.form (by decide)
  have hq : SlI W3 (.slice (some ⟨bq, 0, none⟩) 3 cap) ts := SlI.c3 h3 (fun j x hx => by rw [Nat.zero_add, own2.cellAt j (by have := (List.getElem?_eq_some_iff.1 hx).1; omega)]; simp [hx])
  have fz : ∀ j, W3.frozen? ⟨bq, j, none⟩ = false := own2.frozenAt
  have gW3 : Below W.heap.size W W3 := ((Below.refl W.heap.size W).alloc (Nat.le_refl _) _).grown gro (by simp) (fun k h => by cases h)
  have hs3 := hs1.on gW3
  replace c0 := sO gW3 c0; replace c1 := sO gW3 c1; replace c2 := sO gW3 c2; replace c3 := sO gW3 c3; replace c4 := sO gW3 c4; replace c5 := sO gW3 c5; replace c6 := sO gW3 c6; replace c7 := sO gW3 c7; replace c8 := sO gW3 c8
  have ne : bd ≠ bq := by simp at lq; omega
  have cc : Below w.heap.size w W3 := sp_call gW gW3
  have lw : w.heap.size ≤ bq := by simp at lq; omega
  have finT : Hid (mvQ D ts = ts → ∀ N st, (st = true ↔ mvS D ts) → MovP w (W3.drewN N) (.returned (.tuple #[.slice (some ⟨bq, 0, none⟩) 3 cap, .bool st])) D ts) := fun e N st h => ⟨bq, cap, st, lw, rfl, by rw [e]; exact hq.on (drewN_bel W3 N), h, sp_call cc (drewN_bel W3 N)⟩
  have finS : Hid (∀ W4, Below W3.heap.size W3 W4 → ∀ (j : Nat) v, j < 3 → mvQ D ts = ts.set j v → mvS D ts → ∀ V, V = W4.setCell ⟨bq, 0 + j, none⟩ (.int .i64 v) → ∀ N, MovP w (V.drewN N) (.returned (.tuple #[.slice (some ⟨bq, 0, none⟩) 3 cap, .bool true])) D ts) := fun W4 g4 j v hj e h V hV N => ⟨bq, cap, true, lw, rfl, by rw [e, hV]; exact ((hq.on g4).set h3 hj v).on (drewN_bel _ N), by simp [h], by rw [hV]; exact sp_call ((sp_call cc g4).setCell (p := ⟨bq, 0 + j, none⟩) lw _) (drewN_bel _ N)⟩
  have qs : ∀ (j : Nat), j < 3 → ∃ x, W3.cell? ⟨bq, 0 + j, none⟩ = some (.int .i64 x) := fun j hj => by
    obtain ⟨x, hx⟩ : ∃ x, ts[j]? = some x := ⟨_, List.getElem?_eq_getElem (by omega)⟩
    exact ⟨x, hq.at hx⟩
  have kf := fun i g V hV => oof (.slice (some ⟨bk, 0, none⟩) 3 3) ts i g hb V hV h3
  have ob := fun i g => ofV_in hb i g
  have gx : ∀ (j : Nat), j < 3 → ∃ x, ts.getD j 0 = x ∧ W3.cell? ⟨bk, 0 + j, none⟩ = some (.int .i64 x) := fun j hj => by
    obtain ⟨x, hx⟩ : ∃ x, ts[j]? = some x := ⟨_, List.getElem?_eq_getElem (by omega)⟩
    exact ⟨x, by simp [List.getD, hx], hs3.at hx⟩
  have eQ0 : Hid ((kd ≠ 3 ∨ ¬ CpGood 3 D) → (kd ≠ 4 ∨ ¬ ShGood 3 D) → mvQ D ts = ts) := fun a b => by
    unfold mvQ
    rw [if_neg (by rw [h3, hD]; rintro ⟨p, q⟩; rcases a with a | a; exact a p; rw [hD] at a; exact a q), if_neg (by rw [h3, hD]; rintro ⟨p, q⟩; rcases b with b | b; exact b p; rw [hD] at b; exact b q)]
  have eQ3 : Hid (kd = 3 → CpGood 3 D → mvQ D ts = ts.set i.toNat (ofV ts k ni + c)) := fun a b => by
    unfold mvQ
    rw [if_pos ⟨by rw [hD]; exact a, by rw [h3]; exact b⟩, hD]
  have eQ4 : Hid (kd = 4 → ShGood 3 D → mvQ D ts = ts.set i.toNat (ofV ts i ni + c)) := fun a b => by
    unfold mvQ
    rw [if_neg (by rw [hD]; simp; omega), if_pos ⟨by rw [hD]; exact a, by rw [h3]; exact b⟩, hD]
  have eS : Hid (mvS D ts ↔ if kd = 0 then (¬ Isv 3 i ∨ ¬ Isv 3 k ∨ c < -34359738368 ∨ 34359738368 < c ∨ ofV ts i ni + ofV ts k nk ≤ c) else if kd = 1 then Isv 3 i ∧ ea = false ∧ lo ≤ ts.getD i.toNat 0 ∧ ts.getD i.toNat 0 ≤ hh else kd ≠ 6) := by
    unfold mvS
    rw [hD, h3]
    exact Iff.rfl
  have gC : Hid (CpGood 3 D ↔ Isv 3 i ∧ Isv 3 k ∧ k ≠ i ∧ -8589934592 ≤ c ∧ c ≤ 8589934592) := by unfold CpGood; rw [hD]; exact Iff.rfl
  have gS : Hid (ShGood 3 D ↔ Isv 3 i ∧ -8589934592 ≤ c ∧ c ≤ 8589934592) := by unfold ShGood; rw [hD]; exact Iff.rfl
  have lb : bq < W3.heap.size := zq
  clear hD own own2 gro gW gW3 hi hz0 hz1 hz2 hs1 hs2 hq zW zq lq lw cc hb h3
  have k1 := kf i ni
  have k2 := fun N => kf k nk (W3.drewN N) (hs3.on (drewN_bel W3 N))
  have k3 := kf k ni
  have b1 := ob i ni
  have b2 := ob k nk
  have b3 := ob k ni
  clear kf ob
  generalize ofV ts i ni = o1 at *
  generalize ofV ts k nk = o2 at *
  generalize ofV ts k ni = o3 at *
  have w12 : IntKind.i64.wrap (o1 + o2) = o1 + o2 := by rw [IntKind.wrap_i64]; omega
  have b1' : Hid (-8589934592 ≤ o1 ∧ o1 ≤ 8589934592) := b1
  have b3' : Hid (-8589934592 ≤ o3 ∧ o3 ≤ 8589934592) := b3
  clear b1 b2 b3
  have qI : Hid (∀ x, Isv 3 x ↔ 0 ≤ x ∧ x < 3) := fun x => Iff.rfl
  have k4' := k4h.out
  clear k4h
  subst k4'
  have eS2 : Hid (mvS D ts) := by have := eS.out; rw [if_neg (by omega), if_neg (by omega)] at this; exact this.2 (by omega)
  clear eS k2 w12 gx eQ3 c2 c4 c6 c7 c8 hbd gC b3'
  by_cases i1 : i < 0
  case pos =>
    have nI : Hid (¬ Isv 3 i) := fun q => by have := (qI.out i).1 q; omega
    clear finS qs ne fz lb b1' eQ4
    go_upto_region 16 with (first
          | (go_at_call 47; with_reducible refine (k1 _ hs3).mono ?_; rintro r v4 ⟨rfl, hw4⟩; subst v4; clear k1)
          | fail)
    go_quiet (fail)
    go_wp2_with fail
    exact bodyPost_ret (results_tmp2 rfl _ _ _) rfl (finT.out (eQ0.out (Or.inl (by omega)) (Or.inr (fun q => nI.out (gS.out.1 q).1))) _ _ (iff_t eS2.out))
  by_cases i2 : i < 3
  case neg =>
    have nI : Hid (¬ Isv 3 i) := fun q => by have := (qI.out i).1 q; omega
    clear finS qs ne fz lb b1' eQ4
    go_upto_region 16 with (first
          | (go_at_call 47; with_reducible refine (k1 _ hs3).mono ?_; rintro r v4 ⟨rfl, hw4⟩; subst v4; clear k1)
          | fail)
    go_quiet (fail)
    go_wp2_with fail
    exact bodyPost_ret (results_tmp2 rfl _ _ _) rfl (finT.out (eQ0.out (Or.inl (by omega)) (Or.inr (fun q => nI.out (gS.out.1 q).1))) _ _ (iff_t eS2.out))
  have yI : Hid (Isv 3 i) := (qI.out i).2 ⟨by omega, by omega⟩
  by_cases l1 : c < -8589934592
  case pos =>
    clear finS qs ne fz lb b1' eQ4
    go_upto_region 16 with (first
          | (go_at_call 47; with_reducible refine (k1 _ hs3).mono ?_; rintro r v4 ⟨rfl, hw4⟩; subst v4; clear k1)
          | fail)
    go_quiet (fail)
    go_wp2_with fail
    exact bodyPost_ret (results_tmp2 rfl _ _ _) rfl (finT.out (eQ0.out (Or.inl (by omega)) (Or.inr (fun q => by have := (gS.out.1 q).2.1; omega))) _ _ (iff_t eS2.out))
  by_cases l2 : 8589934592 < c
  case pos =>
    clear finS qs ne fz lb b1' eQ4
    go_upto_region 16 with (first
          | (go_at_call 47; with_reducible refine (k1 _ hs3).mono ?_; rintro r v4 ⟨rfl, hw4⟩; subst v4; clear k1)
          | fail)
    go_quiet (fail)
    go_wp2_with fail
    exact bodyPost_ret (results_tmp2 rfl _ _ _) rfl (finT.out (eQ0.out (Or.inl (by omega)) (Or.inr (fun q => by have := (gS.out.1 q).2.2; omega))) _ _ (iff_t eS2.out))
  obtain ⟨j, rfl⟩ : ∃ j : Nat, i = j := ⟨i.toNat, by omega⟩
  have hj : j < 3 := by omega
  have hj' : (j : Int) < 3 := by omega
  obtain ⟨y, cy⟩ := qs j hj
  have fj := fz (0 + j)
  have ix := oiz bq 0 3 cap j hj
  rw [Nat.zero_add] at ix cy fj
  have tn : (j : Int).toNat = j := rfl
  have eQ := eQ4.out rfl (gS.out.2 ⟨yI.out, by omega, by omega⟩)
  rw [tn] at eQ
  have wv : IntKind.i64.wrap (o1 + c) = o1 + c := by have := b1'.out; rw [IntKind.wrap_i64]; omega
  have eQh : Hid (mvQ D ts = ts.set j (o1 + c)) := eQ
  clear eQ eQ4 tn qs fz
  go_upto_region 16 with (first
      | (go_at_call 47; with_reducible refine (k1 _ hs3).mono ?_; rintro r v4 ⟨rfl, hw4⟩; subst v4; clear k1)
      | fail)
  generalize hV : W3.setCell _ _ = V
  have d0 : V.cell? ⟨bd, 0, none⟩ = some (.int .i64 4) := by rw [← hV, World.cell?_setCell_other _ _ _ _ (by simp [ne, Ne.symm ne])]; exact c0
  have hV' : Hid (V = W3.setCell ⟨bq, 0 + j, none⟩ (.int .i64 (o1 + c))) := by rw [Nat.zero_add]; exact hV.symm
  clear hV c0 c1 c3 c5 cy fj ix
  go_quiet (fail)
  go_wp2_with fail
  exact bodyPost_ret (results_tmp2 rfl _ _ _) rfl (finS.out W3 (Below.refl _ _) j _ hj eQh.out eS2.out _ hV'.out _)
end Go.Proofs.Ytpcbammncaeimaa


namespace Go.Proofs.Ytpcbammncaeimaa
open Go.RowKit
set_option linter.unusedVariables false
set_option linter.unusedSimpArgs false
set_option maxRecDepth 100000 in
set_option maxHeartbeats 64000000 in
theorem omd5 (bk : Nat) (ts : List Int) (D : Dd) (kd i k : Int) (ni nk : Bool) (c : Int) (ea : Bool) (lo hh : Int) (hD : D = { kd := kd, i := i, k := k, ni := ni, nk := nk, c := c, ea := ea, lo := lo, hh := hh }) (k0 : ¬ kd = 0) (k1' : ¬ kd = 1) (k3' : ¬ kd = 3) (k4' : ¬ kd = 4) (h3 : ts.length = 3) (hb : InBx ts) (w : World) (hs : SlI w (.slice (some ⟨bk, 0, none⟩) 3 3) ts) :
    Calls Try.prog 18 #[.slice (some ⟨bk, 0, none⟩) 3 3, .agg #[.int .i64 kd, .int .i64 i, .int .i64 k, .bool ni, .bool nk, .int .i64 c, .bool ea, .int .i64 lo, .int .i64 hh]] w fun r w' => MovP w w' r D ts := by
  obtain ⟨i0, hi, hz0, hz1, hz2⟩ := info_parts mi_info
  obtain ⟨bd, hbd⟩ : ∃ bd, w.heap.size = bd := ⟨_, rfl⟩
  obtain ⟨W, hW⟩ : ∃ W, w.alloc (.cells #[.int .i64 kd, .int .i64 i, .int .i64 k, .bool ni, .bool nk, .int .i64 c, .bool ea, .int .i64 lo, .int .i64 hh] 41) = W := ⟨_, rfl⟩
  have gW : Below w.heap.size w W := by rw [← hW]; exact (Below.refl _ _).alloc (Nat.le_refl _) _
  have c0 : W.cell? ⟨bd, 0, none⟩ = some (.int .i64 kd) := by rw [← hW, ← hbd]; simp [go_sem]
  have c1 : W.cell? ⟨bd, 1, none⟩ = some (.int .i64 i) := by rw [← hW, ← hbd]; simp [go_sem]
  have c2 : W.cell? ⟨bd, 2, none⟩ = some (.int .i64 k) := by rw [← hW, ← hbd]; simp [go_sem]
  have c3 : W.cell? ⟨bd, 3, none⟩ = some (.bool ni) := by rw [← hW, ← hbd]; simp [go_sem]
  have c4 : W.cell? ⟨bd, 4, none⟩ = some (.bool nk) := by rw [← hW, ← hbd]; simp [go_sem]
  have c5 : W.cell? ⟨bd, 5, none⟩ = some (.int .i64 c) := by rw [← hW, ← hbd]; simp [go_sem]
  have c6 : W.cell? ⟨bd, 6, none⟩ = some (.bool ea) := by rw [← hW, ← hbd]; simp [go_sem]
  have c7 : W.cell? ⟨bd, 7, none⟩ = some (.int .i64 lo) := by rw [← hW, ← hbd]; simp [go_sem]
  have c8 : W.cell? ⟨bd, 8, none⟩ = some (.int .i64 hh) := by rw [← hW, ← hbd]; simp [go_sem]
  have zW : w.heap.size + 1 ≤ W.heap.size := by rw [← hW]; simp
  have hs1 := hs.on gW
  go_enter Try.func18, Try.ntmps18
  go_upto_region 1 with fail
  (try rw [hW])
  (try rw [hbd])
  clear hW hs
  have hs2 := fun (W2 : World) (g : Below W.heap.size W W2) j u (hu : (ts.map (Value.int .i64))[j]? = some u) => (by
    rw [List.getElem?_map] at hu
    obtain ⟨x, hx, rfl⟩ := Option.map_eq_some_iff.1 hu
    rw [Addr.add_lit]
    exact (hs1.on g).at hx : W2.cell? ((⟨bk, 0, none⟩ : Addr).add j) = some u)
  go_upto_region 2 with (first
    | (at_builtin; refine wpList_append_grows _ rfl _ _ 31 rfl 2 i0 (.int .i64 0) 1 8 Try.underlying31 hi hz0 hz1 hz2 rfl (by decide) (some ⟨W.heap.size, 0, none⟩) 0 0 [] rfl (fun h => by cases h) rfl (fun b hb j u hu => by simp at hu) ⟨bk, 0, none⟩ 3 3 (ts.map (Value.int .i64)) rfl (by simp [h3]) (hs2 _ ((Below.refl _ _).alloc (Nat.le_refl _) _)) (by simp [Value.oneCell']) (by decide) (by decide) (by decide) ?_; intro v' W3 own gro)
    | fail)
  have own2 : W3.ownsRow (W.alloc (.cells #[] 2)).heap.size 2 1 v' 3 (ts.map (Value.int .i64)) := own
  obtain ⟨bq, cap, rfl, lq, zq⟩ := own2.form (by decide)
  have hq : SlI W3 (.slice (some ⟨bq, 0, none⟩) 3 cap) ts := SlI.c3 h3 (fun j x hx => by rw [Nat.zero_add, own2.cellAt j (by have := (List.getElem?_eq_some_iff.1 hx).1; omega)]; simp [hx])
  have fz : ∀ j, W3.frozen? ⟨bq, j, none⟩ = false := own2.frozenAt
  have gW3 : Below W.heap.size W W3 := ((Below.refl W.heap.size W).alloc (Nat.le_refl _) _).grown gro (by simp) (fun k h => by cases h)
  have hs3 := hs1.on gW3
  replace c0 := sO gW3 c0; replace c1 := sO gW3 c1; replace c2 := sO gW3 c2; replace c3 := sO gW3 c3; replace c4 := sO gW3 c4; replace c5 := sO gW3 c5; replace c6 := sO gW3 c6; replace c7 := sO gW3 c7; replace c8 := sO gW3 c8
  have ne : bd ≠ bq := by simp at lq; omega
  have cc : Below w.heap.size w W3 := sp_call gW gW3
  have lw : w.heap.size ≤ bq := by simp at lq; omega
  have finT : Hid (mvQ D ts = ts → ∀ N st, (st = true ↔ mvS D ts) → MovP w (W3.drewN N) (.returned (.tuple #[.slice (some ⟨bq, 0, none⟩) 3 cap, .bool st])) D ts) := fun e N st h => ⟨bq, cap, st, lw, rfl, by rw [e]; exact hq.on (drewN_bel W3 N), h, sp_call cc (drewN_bel W3 N)⟩
  have finS : Hid (∀ W4, Below W3.heap.size W3 W4 → ∀ (j : Nat) v, j < 3 → mvQ D ts = ts.set j v → mvS D ts → ∀ V, V = W4.setCell ⟨bq, 0 + j, none⟩ (.int .i64 v) → ∀ N, MovP w (V.drewN N) (.returned (.tuple #[.slice (some ⟨bq, 0, none⟩) 3 cap, .bool true])) D ts) := fun W4 g4 j v hj e h V hV N => ⟨bq, cap, true, lw, rfl, by rw [e, hV]; exact ((hq.on g4).set h3 hj v).on (drewN_bel _ N), by simp [h], by rw [hV]; exact sp_call ((sp_call cc g4).setCell (p := ⟨bq, 0 + j, none⟩) lw _) (drewN_bel _ N)⟩
  have qs : ∀ (j : Nat), j < 3 → ∃ x, W3.cell? ⟨bq, 0 + j, none⟩ = some (.int .i64 x) := fun j hj => by
    obtain ⟨x, hx⟩ : ∃ x, ts[j]? = some x := ⟨_, List.getElem?_eq_getElem (by omega)⟩
    exact ⟨x, hq.at hx⟩
  have kf := fun i g V hV => oof (.slice (some ⟨bk, 0, none⟩) 3 3) ts i g hb V hV h3
  have ob := fun i g => ofV_in hb i g
  have gx : ∀ (j : Nat), j < 3 → ∃ x, ts.getD j 0 = x ∧ W3.cell? ⟨bk, 0 + j, none⟩ = some (.int .i64 x) := fun j hj => by
    obtain ⟨x, hx⟩ : ∃ x, ts[j]? = some x := ⟨_, List.getElem?_eq_getElem (by omega)⟩
    exact ⟨x, by simp [List.getD, hx], hs3.at hx⟩
  have eQ0 : Hid ((kd ≠ 3 ∨ ¬ CpGood 3 D) → (kd ≠ 4 ∨ ¬ ShGood 3 D) → mvQ D ts = ts) := fun a b => by
    unfold mvQ
    rw [if_neg (by rw [h3, hD]; rintro ⟨p, q⟩; rcases a with a | a; exact a p; rw [hD] at a; exact a q), if_neg (by rw [h3, hD]; rintro ⟨p, q⟩; rcases b with b | b; exact b p; rw [hD] at b; exact b q)]
  have eQ3 : Hid (kd = 3 → CpGood 3 D → mvQ D ts = ts.set i.toNat (ofV ts k ni + c)) := fun a b => by
    unfold mvQ
    rw [if_pos ⟨by rw [hD]; exact a, by rw [h3]; exact b⟩, hD]
  have eQ4 : Hid (kd = 4 → ShGood 3 D → mvQ D ts = ts.set i.toNat (ofV ts i ni + c)) := fun a b => by
    unfold mvQ
    rw [if_neg (by rw [hD]; simp; omega), if_pos ⟨by rw [hD]; exact a, by rw [h3]; exact b⟩, hD]
  have eS : Hid (mvS D ts ↔ if kd = 0 then (¬ Isv 3 i ∨ ¬ Isv 3 k ∨ c < -34359738368 ∨ 34359738368 < c ∨ ofV ts i ni + ofV ts k nk ≤ c) else if kd = 1 then Isv 3 i ∧ ea = false ∧ lo ≤ ts.getD i.toNat 0 ∧ ts.getD i.toNat 0 ≤ hh else kd ≠ 6) := by
    unfold mvS
    rw [hD, h3]
    exact Iff.rfl
  have gC : Hid (CpGood 3 D ↔ Isv 3 i ∧ Isv 3 k ∧ k ≠ i ∧ -8589934592 ≤ c ∧ c ≤ 8589934592) := by unfold CpGood; rw [hD]; exact Iff.rfl
  have gS : Hid (ShGood 3 D ↔ Isv 3 i ∧ -8589934592 ≤ c ∧ c ≤ 8589934592) := by unfold ShGood; rw [hD]; exact Iff.rfl
  have lb : bq < W3.heap.size := zq
  clear hD own own2 gro gW gW3 hi hz0 hz1 hz2 hs1 hs2 hq zW zq lq lw cc hb h3
  have k1 := kf i ni
  have k2 := fun N => kf k nk (W3.drewN N) (hs3.on (drewN_bel W3 N))
  have k3 := kf k ni
  have b1 := ob i ni
  have b2 := ob k nk
  have b3 := ob k ni
  clear kf ob
  generalize ofV ts i ni = o1 at *
  generalize ofV ts k nk = o2 at *
  generalize ofV ts k ni = o3 at *
  have w12 : IntKind.i64.wrap (o1 + o2) = o1 + o2 := by rw [IntKind.wrap_i64]; omega
  have b1' : Hid (-8589934592 ≤ o1 ∧ o1 ≤ 8589934592) := b1
  have b3' : Hid (-8589934592 ≤ o3 ∧ o3 ≤ 8589934592) := b3
  clear b1 b2 b3
  have qI : Hid (∀ x, Isv 3 x ↔ 0 ≤ x ∧ x < 3) := fun x => Iff.rfl
  have eS2 : Hid (mvS D ts ↔ kd ≠ 6) := by have := eS.out; rw [if_neg k0, if_neg k1'] at this; exact this
  clear eS k2 w12 gx eQ3 eQ4 finS qs c2 c4 c6 c7 c8 ne fz lb hbd gC gS b1' b3'
  by_cases i1 : i < 0
  case pos =>
    have nI : Hid (¬ Isv 3 i) := fun q => by have := (qI.out i).1 q; omega
    by_cases k6 : kd = 6
    case pos =>
      subst k6
      go_upto_region 16 with (first
              | (go_at_call 47; with_reducible refine (k1 _ hs3).mono ?_; rintro r v4 ⟨rfl, hw4⟩; subst v4; clear k1)
              | fail)
      go_quiet (fail)
      go_wp2_with fail
      exact bodyPost_ret (results_tmp2 rfl _ _ _) rfl (finT.out (eQ0.out (Or.inl (by omega)) (Or.inl (by omega))) _ _ (iff_f (fun q => eS2.out.1 q rfl)))
    have n6 : (kd != 6) = true := by simp [k6]
    go_upto_region 16 with (first
          | (go_at_call 47; with_reducible refine (k1 _ hs3).mono ?_; rintro r v4 ⟨rfl, hw4⟩; subst v4; clear k1)
          | fail)
    go_quiet (fail)
    go_wp2_with fail
    exact bodyPost_ret (results_tmp2 rfl _ _ _) rfl (finT.out (eQ0.out (Or.inl (by omega)) (Or.inl (by omega))) _ _ (iff_t (eS2.out.2 k6)))
  by_cases i2 : i < 3
  case neg =>
    have nI : Hid (¬ Isv 3 i) := fun q => by have := (qI.out i).1 q; omega
    by_cases k6 : kd = 6
    case pos =>
      subst k6
      go_upto_region 16 with (first
              | (go_at_call 47; with_reducible refine (k1 _ hs3).mono ?_; rintro r v4 ⟨rfl, hw4⟩; subst v4; clear k1)
              | fail)
      go_quiet (fail)
      go_wp2_with fail
      exact bodyPost_ret (results_tmp2 rfl _ _ _) rfl (finT.out (eQ0.out (Or.inl (by omega)) (Or.inl (by omega))) _ _ (iff_f (fun q => eS2.out.1 q rfl)))
    have n6 : (kd != 6) = true := by simp [k6]
    go_upto_region 16 with (first
          | (go_at_call 47; with_reducible refine (k1 _ hs3).mono ?_; rintro r v4 ⟨rfl, hw4⟩; subst v4; clear k1)
          | fail)
    go_quiet (fail)
    go_wp2_with fail
    exact bodyPost_ret (results_tmp2 rfl _ _ _) rfl (finT.out (eQ0.out (Or.inl (by omega)) (Or.inl (by omega))) _ _ (iff_t (eS2.out.2 k6)))
  have yI : Hid (Isv 3 i) := (qI.out i).2 ⟨by omega, by omega⟩
  by_cases k6 : kd = 6
  case pos =>
    subst k6
    go_upto_region 16 with (first
          | (go_at_call 47; with_reducible refine (k1 _ hs3).mono ?_; rintro r v4 ⟨rfl, hw4⟩; subst v4; clear k1)
          | fail)
    go_quiet (fail)
    go_wp2_with fail
    exact bodyPost_ret (results_tmp2 rfl _ _ _) rfl (finT.out (eQ0.out (Or.inl (by omega)) (Or.inl (by omega))) _ _ (iff_f (fun q => eS2.out.1 q rfl)))
  have n6 : (kd != 6) = true := by simp [k6]
  go_upto_region 16 with (first
      | (go_at_call 47; with_reducible refine (k1 _ hs3).mono ?_; rintro r v4 ⟨rfl, hw4⟩; subst v4; clear k1)
      | fail)
  go_quiet (fail)
  go_wp2_with fail
  exact bodyPost_ret (results_tmp2 rfl _ _ _) rfl (finT.out (eQ0.out (Or.inl (by omega)) (Or.inl (by omega))) _ _ (iff_t (eS2.out.2 k6)))
end Go.Proofs.Ytpcbammncaeimaa


namespace Go.Proofs.Ytpcbammncaeimaa
open Go.RowKit
set_option linter.unusedVariables false
set_option linter.unusedSimpArgs false
set_option maxRecDepth 100000 in
set_option maxHeartbeats 64000000 in
theorem omd3 (bk : Nat) (ts : List Int) (D : Dd) (kd i k : Int) (ni nk : Bool) (c : Int) (ea : Bool) (lo hh : Int) (hD : D = { kd := kd, i := i, k := k, ni := ni, nk := nk, c := c, ea := ea, lo := lo, hh := hh }) (k3h : Hid (kd = 3)) (h3 : ts.length = 3) (hb : InBx ts) (w : World) (hs : SlI w (.slice (some ⟨bk, 0, none⟩) 3 3) ts) :
    Calls Try.prog 18 #[.slice (some ⟨bk, 0, none⟩) 3 3, .agg #[.int .i64 kd, .int .i64 i, .int .i64 k, .bool ni, .bool nk, .int .i64 c, .bool ea, .int .i64 lo, .int .i64 hh]] w fun r w' => MovP w w' r D ts := by
  obtain ⟨i0, hi, hz0, hz1, hz2⟩ := info_parts mi_info
  obtain ⟨bd, hbd⟩ : ∃ bd, w.heap.size = bd := ⟨_, rfl⟩
  obtain ⟨W, hW⟩ : ∃ W, w.alloc (.cells #[.int .i64 kd, .int .i64 i, .int .i64 k, .bool ni, .bool nk, .int .i64 c, .bool ea, .int .i64 lo, .int .i64 hh] 41) = W := ⟨_, rfl⟩
  have gW : Below w.heap.size w W := by rw [← hW]; exact (Below.refl _ _).alloc (Nat.le_refl _) _
  have c0 : W.cell? ⟨bd, 0, none⟩ = some (.int .i64 kd) := by rw [← hW, ← hbd]; simp [go_sem]
  have c1 : W.cell? ⟨bd, 1, none⟩ = some (.int .i64 i) := by rw [← hW, ← hbd]; simp [go_sem]
  have c2 : W.cell? ⟨bd, 2, none⟩ = some (.int .i64 k) := by rw [← hW, ← hbd]; simp [go_sem]
  have c3 : W.cell? ⟨bd, 3, none⟩ = some (.bool ni) := by rw [← hW, ← hbd]; simp [go_sem]
  have c4 : W.cell? ⟨bd, 4, none⟩ = some (.bool nk) := by rw [← hW, ← hbd]; simp [go_sem]
  have c5 : W.cell? ⟨bd, 5, none⟩ = some (.int .i64 c) := by rw [← hW, ← hbd]; simp [go_sem]
  have c6 : W.cell? ⟨bd, 6, none⟩ = some (.bool ea) := by rw [← hW, ← hbd]; simp [go_sem]
  have c7 : W.cell? ⟨bd, 7, none⟩ = some (.int .i64 lo) := by rw [← hW, ← hbd]; simp [go_sem]
  have c8 : W.cell? ⟨bd, 8, none⟩ = some (.int .i64 hh) := by rw [← hW, ← hbd]; simp [go_sem]
  have zW : w.heap.size + 1 ≤ W.heap.size := by rw [← hW]; simp
  have hs1 := hs.on gW
  go_enter Try.func18, Try.ntmps18
  go_upto_region 1 with fail
  (try rw [hW])
  (try rw [hbd])
  clear hW hs
  have hs2 := fun (W2 : World) (g : Below W.heap.size W W2) j u (hu : (ts.map (Value.int .i64))[j]? = some u) => (by
    rw [List.getElem?_map] at hu
    obtain ⟨x, hx, rfl⟩ := Option.map_eq_some_iff.1 hu
    rw [Addr.add_lit]
    exact (hs1.on g).at hx : W2.cell? ((⟨bk, 0, none⟩ : Addr).add j) = some u)
  go_upto_region 2 with (first
    | (at_builtin; refine wpList_append_grows _ rfl _ _ 31 rfl 2 i0 (.int .i64 0) 1 8 Try.underlying31 hi hz0 hz1 hz2 rfl (by decide) (some ⟨W.heap.size, 0, none⟩) 0 0 [] rfl (fun h => by cases h) rfl (fun b hb j u hu => by simp at hu) ⟨bk, 0, none⟩ 3 3 (ts.map (Value.int .i64)) rfl (by simp [h3]) (hs2 _ ((Below.refl _ _).alloc (Nat.le_refl _) _)) (by simp [Value.oneCell']) (by decide) (by decide) (by decide) ?_; intro v' W3 own gro)
    | fail)
  have own2 : W3.ownsRow (W.alloc (.cells #[] 2)).heap.size 2 1 v' 3 (ts.map (Value.int .i64)) := own
  obtain ⟨bq, cap, rfl, lq, zq⟩ := own2.form (by decide)
  have hq : SlI W3 (.slice (some ⟨bq, 0, none⟩) 3 cap) ts := SlI.c3 h3 (fun j x hx => by rw [Nat.zero_add, own2.cellAt j (by have := (List.getElem?_eq_some_iff.1 hx).1; omega)]; simp [hx])
  have fz : ∀ j, W3.frozen? ⟨bq, j, none⟩ = false := own2.frozenAt
  have gW3 : Below W.heap.size W W3 := ((Below.refl W.heap.size W).alloc (Nat.le_refl _) _).grown gro (by simp) (fun k h => by cases h)
  have hs3 := hs1.on gW3
  replace c0 := sO gW3 c0; replace c1 := sO gW3 c1; replace c2 := sO gW3 c2; replace c3 := sO gW3 c3; replace c4 := sO gW3 c4; replace c5 := sO gW3 c5; replace c6 := sO gW3 c6; replace c7 := sO gW3 c7; replace c8 := sO gW3 c8
  have ne : bd ≠ bq := by simp at lq; omega
  have cc : Below w.heap.size w W3 := sp_call gW gW3
  have lw : w.heap.size ≤ bq := by simp at lq; omega
  have finT : Hid (mvQ D ts = ts → ∀ N st, (st = true ↔ mvS D ts) → MovP w (W3.drewN N) (.returned (.tuple #[.slice (some ⟨bq, 0, none⟩) 3 cap, .bool st])) D ts) := fun e N st h => ⟨bq, cap, st, lw, rfl, by rw [e]; exact hq.on (drewN_bel W3 N), h, sp_call cc (drewN_bel W3 N)⟩
  have finS : Hid (∀ W4, Below W3.heap.size W3 W4 → ∀ (j : Nat) v, j < 3 → mvQ D ts = ts.set j v → mvS D ts → ∀ V, V = W4.setCell ⟨bq, 0 + j, none⟩ (.int .i64 v) → ∀ N, MovP w (V.drewN N) (.returned (.tuple #[.slice (some ⟨bq, 0, none⟩) 3 cap, .bool true])) D ts) := fun W4 g4 j v hj e h V hV N => ⟨bq, cap, true, lw, rfl, by rw [e, hV]; exact ((hq.on g4).set h3 hj v).on (drewN_bel _ N), by simp [h], by rw [hV]; exact sp_call ((sp_call cc g4).setCell (p := ⟨bq, 0 + j, none⟩) lw _) (drewN_bel _ N)⟩
  have qs : ∀ (j : Nat), j < 3 → ∃ x, W3.cell? ⟨bq, 0 + j, none⟩ = some (.int .i64 x) := fun j hj => by
    obtain ⟨x, hx⟩ : ∃ x, ts[j]? = some x := ⟨_, List.getElem?_eq_getElem (by omega)⟩
    exact ⟨x, hq.at hx⟩
  have kf := fun i g V hV => oof (.slice (some ⟨bk, 0, none⟩) 3 3) ts i g hb V hV h3
  have ob := fun i g => ofV_in hb i g
  have gx : ∀ (j : Nat), j < 3 → ∃ x, ts.getD j 0 = x ∧ W3.cell? ⟨bk, 0 + j, none⟩ = some (.int .i64 x) := fun j hj => by
    obtain ⟨x, hx⟩ : ∃ x, ts[j]? = some x := ⟨_, List.getElem?_eq_getElem (by omega)⟩
    exact ⟨x, by simp [List.getD, hx], hs3.at hx⟩
  have eQ0 : Hid ((kd ≠ 3 ∨ ¬ CpGood 3 D) → (kd ≠ 4 ∨ ¬ ShGood 3 D) → mvQ D ts = ts) := fun a b => by
    unfold mvQ
    rw [if_neg (by rw [h3, hD]; rintro ⟨p, q⟩; rcases a with a | a; exact a p; rw [hD] at a; exact a q), if_neg (by rw [h3, hD]; rintro ⟨p, q⟩; rcases b with b | b; exact b p; rw [hD] at b; exact b q)]
  have eQ3 : Hid (kd = 3 → CpGood 3 D → mvQ D ts = ts.set i.toNat (ofV ts k ni + c)) := fun a b => by
    unfold mvQ
    rw [if_pos ⟨by rw [hD]; exact a, by rw [h3]; exact b⟩, hD]
  have eQ4 : Hid (kd = 4 → ShGood 3 D → mvQ D ts = ts.set i.toNat (ofV ts i ni + c)) := fun a b => by
    unfold mvQ
    rw [if_neg (by rw [hD]; simp; omega), if_pos ⟨by rw [hD]; exact a, by rw [h3]; exact b⟩, hD]
  have eS : Hid (mvS D ts ↔ if kd = 0 then (¬ Isv 3 i ∨ ¬ Isv 3 k ∨ c < -34359738368 ∨ 34359738368 < c ∨ ofV ts i ni + ofV ts k nk ≤ c) else if kd = 1 then Isv 3 i ∧ ea = false ∧ lo ≤ ts.getD i.toNat 0 ∧ ts.getD i.toNat 0 ≤ hh else kd ≠ 6) := by
    unfold mvS
    rw [hD, h3]
    exact Iff.rfl
  have gC : Hid (CpGood 3 D ↔ Isv 3 i ∧ Isv 3 k ∧ k ≠ i ∧ -8589934592 ≤ c ∧ c ≤ 8589934592) := by unfold CpGood; rw [hD]; exact Iff.rfl
  have gS : Hid (ShGood 3 D ↔ Isv 3 i ∧ -8589934592 ≤ c ∧ c ≤ 8589934592) := by unfold ShGood; rw [hD]; exact Iff.rfl
  have lb : bq < W3.heap.size := zq
  clear hD own own2 gro gW gW3 hi hz0 hz1 hz2 hs1 hs2 hq zW zq lq lw cc hb h3
  have k1 := kf i ni
  have k2 := fun N => kf k nk (W3.drewN N) (hs3.on (drewN_bel W3 N))
  have k3 := kf k ni
  have b1 := ob i ni
  have b2 := ob k nk
  have b3 := ob k ni
  clear kf ob
  generalize ofV ts i ni = o1 at *
  generalize ofV ts k nk = o2 at *
  generalize ofV ts k ni = o3 at *
  have w12 : IntKind.i64.wrap (o1 + o2) = o1 + o2 := by rw [IntKind.wrap_i64]; omega
  have b1' : Hid (-8589934592 ≤ o1 ∧ o1 ≤ 8589934592) := b1
  have b3' : Hid (-8589934592 ≤ o3 ∧ o3 ≤ 8589934592) := b3
  clear b1 b2 b3
  have qI : Hid (∀ x, Isv 3 x ↔ 0 ≤ x ∧ x < 3) := fun x => Iff.rfl
  have k3' := k3h.out
  clear k3h
  subst k3'
  have eS2 : Hid (mvS D ts) := by have := eS.out; rw [if_neg (by omega), if_neg (by omega)] at this; exact this.2 (by omega)
  clear eS k2 w12 gx eQ4 c4 c6 c7 c8 hbd gS b1'
  by_cases i1 : i < 0
  case pos =>
    have nI : Hid (¬ Isv 3 i) := fun q => by have := (qI.out i).1 q; omega
    clear finS qs ne fz lb b3' eQ3 k3
    go_upto_region 16 with (first
          | (go_at_call 47; with_reducible refine (k1 _ hs3).mono ?_; rintro r v4 ⟨rfl, hw4⟩; subst v4; clear k1)
          | fail)
    go_quiet (fail)
    go_wp2_with fail
    exact bodyPost_ret (results_tmp2 rfl _ _ _) rfl (finT.out (eQ0.out (Or.inr (fun q => nI.out (gC.out.1 q).1)) (Or.inl (by omega))) _ _ (iff_t eS2.out))
  by_cases i2 : i < 3
  case neg =>
    have nI : Hid (¬ Isv 3 i) := fun q => by have := (qI.out i).1 q; omega
    clear finS qs ne fz lb b3' eQ3 k3
    go_upto_region 16 with (first
          | (go_at_call 47; with_reducible refine (k1 _ hs3).mono ?_; rintro r v4 ⟨rfl, hw4⟩; subst v4; clear k1)
          | fail)
    go_quiet (fail)
    go_wp2_with fail
    exact bodyPost_ret (results_tmp2 rfl _ _ _) rfl (finT.out (eQ0.out (Or.inr (fun q => nI.out (gC.out.1 q).1)) (Or.inl (by omega))) _ _ (iff_t eS2.out))
  have yI : Hid (Isv 3 i) := (qI.out i).2 ⟨by omega, by omega⟩
  by_cases l1 : k < 0
  case pos =>
    clear finS qs ne fz lb b3' eQ3 k3
    go_upto_region 16 with (first
          | (go_at_call 47; with_reducible refine (k1 _ hs3).mono ?_; rintro r v4 ⟨rfl, hw4⟩; subst v4; clear k1)
          | fail)
    go_quiet (fail)
    go_wp2_with fail
    exact bodyPost_ret (results_tmp2 rfl _ _ _) rfl (finT.out (eQ0.out (Or.inr (fun q => by have := (qI.out k).1 (gC.out.1 q).2.1; omega)) (Or.inl (by omega))) _ _ (iff_t eS2.out))
  by_cases l2 : 3 ≤ k
  case pos =>
    clear finS qs ne fz lb b3' eQ3 k3
    go_upto_region 16 with (first
          | (go_at_call 47; with_reducible refine (k1 _ hs3).mono ?_; rintro r v4 ⟨rfl, hw4⟩; subst v4; clear k1)
          | fail)
    go_quiet (fail)
    go_wp2_with fail
    exact bodyPost_ret (results_tmp2 rfl _ _ _) rfl (finT.out (eQ0.out (Or.inr (fun q => by have := (qI.out k).1 (gC.out.1 q).2.1; omega)) (Or.inl (by omega))) _ _ (iff_t eS2.out))
  by_cases l3 : k = i
  case pos =>
    clear finS qs ne fz lb b3' eQ3 k3
    have ll : Hid (k = i) := l3
    subst l3
    go_upto_region 16 with (first
          | (go_at_call 47; with_reducible refine (k1 _ hs3).mono ?_; rintro r v4 ⟨rfl, hw4⟩; subst v4; clear k1)
          | fail)
    go_quiet (fail)
    go_wp2_with fail
    exact bodyPost_ret (results_tmp2 rfl _ _ _) rfl (finT.out (eQ0.out (Or.inr (fun q => (gC.out.1 q).2.2.1 rfl)) (Or.inl (by omega))) _ _ (iff_t eS2.out))
  have ln : ¬ k = i := l3
  by_cases l4 : c < -8589934592
  case pos =>
    clear finS qs ne fz lb b3' eQ3 k3
    go_upto_region 16 with (first
          | (go_at_call 47; with_reducible refine (k1 _ hs3).mono ?_; rintro r v4 ⟨rfl, hw4⟩; subst v4; clear k1)
          | fail)
    go_quiet (fail)
    go_wp2_with fail
    exact bodyPost_ret (results_tmp2 rfl _ _ _) rfl (finT.out (eQ0.out (Or.inr (fun q => by have := (gC.out.1 q).2.2.2.1; omega)) (Or.inl (by omega))) _ _ (iff_t eS2.out))
  by_cases l5 : 8589934592 < c
  case pos =>
    clear finS qs ne fz lb b3' eQ3 k3
    go_upto_region 16 with (first
          | (go_at_call 47; with_reducible refine (k1 _ hs3).mono ?_; rintro r v4 ⟨rfl, hw4⟩; subst v4; clear k1)
          | fail)
    go_quiet (fail)
    go_wp2_with fail
    exact bodyPost_ret (results_tmp2 rfl _ _ _) rfl (finT.out (eQ0.out (Or.inr (fun q => by have := (gC.out.1 q).2.2.2.2; omega)) (Or.inl (by omega))) _ _ (iff_t eS2.out))
  have yC := gC.out.2 ⟨yI.out, (qI.out k).2 ⟨by omega, by omega⟩, ln, by omega, by omega⟩
  obtain ⟨j, rfl⟩ : ∃ j : Nat, i = j := ⟨i.toNat, by omega⟩
  have hj : j < 3 := by omega
  have hj' : (j : Int) < 3 := by omega
  obtain ⟨y, cy⟩ := qs j hj
  have fj := fz (0 + j)
  have ix := oiz bq 0 3 cap j hj
  rw [Nat.zero_add] at ix cy fj
  have tn : (j : Int).toNat = j := rfl
  have eQ := eQ3.out rfl yC
  rw [tn] at eQ
  have wv : IntKind.i64.wrap (o3 + c) = o3 + c := by have := b3'.out; rw [IntKind.wrap_i64]; omega
  have eQh : Hid (mvQ D ts = ts.set j (o3 + c)) := eQ
  clear eQ eQ3 tn qs fz yC
  go_upto_region 12 with (first
      | (go_at_call 47; with_reducible refine (k1 _ hs3).mono ?_; rintro r v4 ⟨rfl, hw4⟩; subst v4; clear k1)
      | fail)
  have k3' := fun V (h : Below W3.heap.size W3 V) => k3 V (hs3.on h)
  have hall : ∀ X9, Below W3.heap.size W3 X9 → ((fun w' => w'.cell? ⟨bd, 1, none⟩ = some (.int .i64 (j : Int)) ∧ w'.cell? ⟨bd, 2, none⟩ = some (.int .i64 k) ∧ w'.cell? ⟨bd, 3, none⟩ = some (.bool ni) ∧ w'.cell? ⟨bd, 5, none⟩ = some (.int .i64 c)) X9) := fun X9 cc => ⟨sO cc c1, sO cc c2, sO cc c3, sO cc c5⟩
  clear k3
  refine wp_region_held_drew (S := (fun w' => w'.cell? ⟨bd, 1, none⟩ = some (.int .i64 (j : Int)) ∧ w'.cell? ⟨bd, 2, none⟩ = some (.int .i64 k) ∧ w'.cell? ⟨bd, 3, none⟩ = some (.bool ni) ∧ w'.cell? ⟨bd, 5, none⟩ = some (.int .i64 c))) (by kernel_rfl) (hall _ ⟨rfl, rfl, rfl, Nat.le_refl _, fun _ _ => rfl⟩) (fun hH => ?_)
  refine wpAnyH_take (i := 0) (oi := _) (v := .slice (some ⟨bq, 0, none⟩) 3 cap) rfl (by kernel_rfl) (by kernel_rfl) (by kernel_rfl) (fun _ _ _ h => h) (Or.inl ⟨by rfl, fun w' hSw => by obtain ⟨z1, z2, z3, z5⟩ := hSw; go_simp⟩) hH ?_
  simp only [Act.put, List.getElem_toArray, List.getElem_cons_zero, List.getElem_cons_succ, List.setIfInBounds_toArray, List.set_cons_zero, List.set_cons_succ]
  refine wpAnyH_take (i := 1) (oi := _) (v := .pointer (some ⟨bd, 1, none⟩)) rfl (by kernel_rfl) (by kernel_rfl) (by kernel_rfl) (fun _ _ _ h => h) (Or.inl ⟨by rfl, fun w' hSw => by obtain ⟨z1, z2, z3, z5⟩ := hSw; go_simp⟩) hH ?_
  simp only [Act.put, List.getElem_toArray, List.getElem_cons_zero, List.getElem_cons_succ, List.setIfInBounds_toArray, List.set_cons_zero, List.set_cons_succ]
  refine wpAnyH_take (i := 2) (oi := _) (v := .int .i64 (j : Int)) rfl (by kernel_rfl) (by kernel_rfl) (by kernel_rfl) (fun _ _ _ h => h) (Or.inl ⟨by rfl, fun w' hSw => by obtain ⟨z1, z2, z3, z5⟩ := hSw; go_simp⟩) hH ?_
  simp only [Act.put, List.getElem_toArray, List.getElem_cons_zero, List.getElem_cons_succ, List.setIfInBounds_toArray, List.set_cons_zero, List.set_cons_succ]
  refine wpAnyH_take (i := 3) (oi := _) (v := .slice (some ⟨bk, 0, none⟩) 3 3) rfl (by kernel_rfl) (by kernel_rfl) (by kernel_rfl) (fun _ _ _ h => h) (Or.inl ⟨by rfl, fun w' hSw => by obtain ⟨z1, z2, z3, z5⟩ := hSw; go_simp⟩) hH ?_
  simp only [Act.put, List.getElem_toArray, List.getElem_cons_zero, List.getElem_cons_succ, List.setIfInBounds_toArray, List.set_cons_zero, List.set_cons_succ]
  refine wpAnyH_take (i := 4) (oi := _) (v := .pointer (some ⟨bd, 2, none⟩)) rfl (by kernel_rfl) (by kernel_rfl) (by kernel_rfl) (fun _ _ _ h => h) (Or.inl ⟨by rfl, fun w' hSw => by obtain ⟨z1, z2, z3, z5⟩ := hSw; go_simp⟩) hH ?_
  simp only [Act.put, List.getElem_toArray, List.getElem_cons_zero, List.getElem_cons_succ, List.setIfInBounds_toArray, List.set_cons_zero, List.set_cons_succ]
  refine wpAnyH_take (i := 5) (oi := _) (v := .int .i64 k) rfl (by kernel_rfl) (by kernel_rfl) (by kernel_rfl) (fun _ _ _ h => h) (Or.inl ⟨by rfl, fun w' hSw => by obtain ⟨z1, z2, z3, z5⟩ := hSw; go_simp⟩) hH ?_
  simp only [Act.put, List.getElem_toArray, List.getElem_cons_zero, List.getElem_cons_succ, List.setIfInBounds_toArray, List.set_cons_zero, List.set_cons_succ]
  refine wpAnyH_take (i := 6) (oi := _) (v := .pointer (some ⟨bd, 3, none⟩)) rfl (by kernel_rfl) (by kernel_rfl) (by kernel_rfl) (fun _ _ _ h => h) (Or.inl ⟨by rfl, fun w' hSw => by obtain ⟨z1, z2, z3, z5⟩ := hSw; go_simp⟩) hH ?_
  simp only [Act.put, List.getElem_toArray, List.getElem_cons_zero, List.getElem_cons_succ, List.setIfInBounds_toArray, List.set_cons_zero, List.set_cons_succ]
  refine wpAnyH_take (i := 7) (oi := _) (v := .bool ni) rfl (by kernel_rfl) (by kernel_rfl) (by kernel_rfl) (fun _ _ _ h => h) (Or.inl ⟨by rfl, fun w' hSw => by obtain ⟨z1, z2, z3, z5⟩ := hSw; go_simp⟩) hH ?_
  simp only [Act.put, List.getElem_toArray, List.getElem_cons_zero, List.getElem_cons_succ, List.setIfInBounds_toArray, List.set_cons_zero, List.set_cons_succ]
  refine wpAnyH_take (i := 9) (oi := _) (v := .pointer (some ⟨bd, 5, none⟩)) rfl (by kernel_rfl) (by kernel_rfl) (by kernel_rfl) (fun _ _ _ h => h) (Or.inl ⟨by rfl, fun w' hSw => by obtain ⟨z1, z2, z3, z5⟩ := hSw; go_simp⟩) hH ?_
  simp only [Act.put, List.getElem_toArray, List.getElem_cons_zero, List.getElem_cons_succ, List.setIfInBounds_toArray, List.set_cons_zero, List.set_cons_succ]
  refine wpAnyH_take (i := 10) (oi := _) (v := .int .i64 c) rfl (by kernel_rfl) (by kernel_rfl) (by kernel_rfl) (fun _ _ _ h => h) (Or.inl ⟨by rfl, fun w' hSw => by obtain ⟨z1, z2, z3, z5⟩ := hSw; go_simp⟩) hH ?_
  simp only [Act.put, List.getElem_toArray, List.getElem_cons_zero, List.getElem_cons_succ, List.setIfInBounds_toArray, List.set_cons_zero, List.set_cons_succ]
  generalize hY : W3.drew = Y0 at *
  have cY : Below W3.heap.size W3 Y0 := by rw [← hY]; exact ⟨rfl, rfl, rfl, Nat.le_refl _, fun _ _ => rfl⟩
  have hY' : Hid (W3.drew = Y0) := hY
  clear hY
  refine wpAnyH_ready (rs := [8]) (by kernel_rfl) (by simp) (AllReadyH.cons (o := _) rfl (fun K hK => ?_) AllReadyH.nil)
  go_simp
  refine (k3' _ cY).mono ?_
  rintro e Y1 ⟨rfl, hw⟩
  replace hw := hw.symm
  subst hw
  go_wp2_with fail
  refine hK.out _ _ (hall _ cY) (fun hH => ?_)
  clear hK K
  try simp only [Act.put, List.getElem_toArray, List.getElem_cons_zero, List.getElem_cons_succ, List.setIfInBounds_toArray, List.set_cons_zero, List.set_cons_succ]
  refine wpAnyH_take (i := 11) (oi := _) (v := .int .i64 (o3 + c)) rfl (by kernel_rfl) (by kernel_rfl) (by kernel_rfl) (fun _ _ _ h => h) (Or.inl ⟨by rfl, fun w' hSw => by obtain ⟨z1, z2, z3, z5⟩ := hSw; go_simp⟩) hH ?_
  simp only [Act.put, List.getElem_toArray, List.getElem_cons_zero, List.getElem_cons_succ, List.setIfInBounds_toArray, List.set_cons_zero, List.set_cons_succ]
  have cy0 := sO cY cy
  have fj0 : Y0.frozen? ⟨bq, j, none⟩ = false := (cY.frozen (p := ⟨bq, j, none⟩) lb).trans fj
  clear cy fj
  refine wpAnyH_ready (rs := [12]) (by kernel_rfl) (by simp) (AllReadyH.cons (o := _) rfl (fun K hK => ?_) AllReadyH.nil)
  go_simp
  refine hK.out _ _ (hall _ cY) (fun hH => ?_)
  clear hK K
  try simp only [Act.put, List.getElem_toArray, List.getElem_cons_zero, List.getElem_cons_succ, List.setIfInBounds_toArray, List.set_cons_zero, List.set_cons_succ]
  refine wpAnyH_ready (rs := [13]) (by kernel_rfl) (by simp) (AllReadyH.cons (o := _) rfl (fun K hK => ?_) AllReadyH.nil)
  go_simp
  generalize hV : Y0.setCell ⟨bq, j, none⟩ (.int .i64 (o3 + c)) = V
  have dd : ∀ m x, Y0.cell? ⟨bd, m, none⟩ = some x → V.cell? ⟨bd, m, none⟩ = some x := fun m x h => by rw [← hV, World.cell?_setCell_other _ _ _ _ (by simp [ne, Ne.symm ne])]; exact h
  have d0 : V.cell? ⟨bd, 0, none⟩ = some (.int .i64 3) := dd 0 _ (sO cY c0)
  have hV' : Hid (V = Y0.setCell ⟨bq, 0 + j, none⟩ (.int .i64 (o3 + c))) := by rw [Nat.zero_add]; exact hV.symm
  refine hK.out _ _ ⟨dd _ _ (hall _ cY).1, dd _ _ (hall _ cY).2.1, dd _ _ (hall _ cY).2.2.1, dd _ _ (hall _ cY).2.2.2⟩ (fun hH => ?_)
  clear hK K hV cy0 fj0 dd c0 c1 c2 c3 c5 ix
  try simp only [Act.put, List.getElem_toArray, List.getElem_cons_zero, List.getElem_cons_succ, List.setIfInBounds_toArray, List.set_cons_zero, List.set_cons_succ]
  refine wpAnyH_done (by kernel_rfl) ?_ _
  go_upto_region 16 with fail
  go_quiet (fail)
  go_wp2_with fail
  exact bodyPost_ret (results_tmp2 rfl _ _ _) rfl (finS.out Y0 cY j _ hj eQh.out eS2.out _ hV'.out _)
end Go.Proofs.Ytpcbammncaeimaa


namespace Go.Proofs.Ytpcbammncaeimaa
open Go.ChangeShapes Go.WideShapes Go.ChangeAt Go.RowKit Go.Joins Go.Deep
set_option linter.unusedVariables false
set_option linter.unusedSimpArgs false
section
variable {H : Type} {enc : TypeId × Value → H} {w : World} {base : Nat} {spare : Nat → Bool} {held : Bool}
theorem sp_okarr {P : Program} {t e : TypeId} {k : Nat} {r : Reach} {b0 : Nat} {v : Value} (ht : P.underlying t = some (.array k e)) (h : Value.okWide P w r b0 t v) : ∃ cs, v = .agg cs ∧ cs.size = P.cellsOf t := by
  simp only [Value.okWide, ht] at h
  obtain ⟨cs, h1, h2, _⟩ := h
  exact ⟨cs, h1, h2⟩
end
end Go.Proofs.Ytpcbammncaeimaa


namespace Go.Proofs.Ytpcbammncaeimaa
open Go.ChangeShapes Go.WideShapes Go.ChangeAt Go.RowKit Go.Joins Go.Deep
set_option linter.unusedVariables false
set_option linter.unusedSimpArgs false
theorem pick_lt {α : Type} [Inhabited α] {m : Nat} {P : Nat → α → Prop} (h : ∀ i, i < m → ∃ t, P i t) : ∃ q : Nat → α, ∀ i, i < m → P i (q i) :=
  ⟨fun i => if hi : i < m then Classical.choose (h i hi) else default, fun i hi => by simp only [dif_pos hi]; exact Classical.choose_spec (h i hi)⟩
set_option maxRecDepth 100000 in
theorem open_row {H : Type} {enc : TypeId × Value → H} {W : World} {base m : Nat} {t e : TypeId} {K : IntKind} {v : Value} {d : DataW H} {p : List MemPlace} (ht : Try.prog.underlying t = some (.array m e)) (he : Try.prog.underlying e = some (.int K)) (hce : Try.prog.cellsOf e = 1) (hct : Try.prog.cellsOf t = m)
    (hv : Value.okWide Try.prog W .any base t v) (h : DataW.Trod enc Try.prog W 0 (fun _ => true) true t v d p) :
    ∃ (A : Array Value) (z : Nat → Int), v = .agg A ∧ (∀ j, j < m → (Lit.int K (z j)).wf = true ∧ A[j]? = some (.int K (z j))) ∧ ∀ x ∈ p, x.block < W.heap.size := by
  obtain ⟨cs, rfl, hsz⟩ := sp_okarr ht hv
  rw [hct] at hsz
  obtain ⟨fuel, hf⟩ := h
  simp only [Value.cells] at hf
  obtain ⟨xs, k, rfl, hx, hlen, hxl, hall⟩ := DataW.trod_array ht hf
  have each : ∀ i, i < m → ∃ t : Int, ((Lit.int K t).wf = true ∧ cs[i]? = some (.int K t)) ∧ ∀ y, xs[i]? = some y → y.2 = [] := by
    intro i hi
    obtain ⟨y, hy⟩ : ∃ y, xs[i]? = some y := ⟨_, List.getElem?_eq_getElem (by omega)⟩
    have h1 := hall i hi
    rw [hce, hy, Nat.mul_one] at h1
    obtain ⟨c, hc⟩ : ∃ c, cs[i]? = some c := ⟨_, Array.getElem?_eq_getElem (by omega)⟩
    have hd : (cs.toList.drop i).take 1 = [c] := by
      have hi' : i < cs.toList.length := by simp; omega
      rw [List.drop_eq_getElem_cons hi', List.take_succ_cons, List.take_zero]
      have : cs.toList[i]? = some c := by simpa using hc
      rw [List.getElem?_eq_getElem hi'] at this
      simpa using this
    rw [hd] at h1
    obtain ⟨x, ex, rfl, wx⟩ := DataW.trod_int he h1
    simp at ex
    subst ex
    exact ⟨x, ⟨wx, hc⟩, fun y' hy' => by rw [hy] at hy'; cases hy'; rfl⟩
  obtain ⟨q, hq⟩ := pick_lt each
  simp only [Prod.mk.injEq] at hx
  refine ⟨cs, q, rfl, fun j hj => (hq j hj).1, fun x hxp => ?_⟩
  rw [hx.2] at hxp
  obtain ⟨y, hy, hxy⟩ := List.mem_flatMap.1 hxp
  obtain ⟨i, hi, rfl⟩ := List.getElem_of_mem hy
  rw [(hq i (by omega)).2 _ (List.getElem?_eq_getElem hi)] at hxy
  simp at hxy
end Go.Proofs.Ytpcbammncaeimaa


namespace Go.Proofs.Ytpcbammncaeimaa
open Go.ChangeShapes Go.WideShapes Go.ChangeAt Go.RowKit Go.Joins Go.Deep
set_option linter.unusedVariables false
set_option linter.unusedSimpArgs false
theorem omoved (bk : Nat) (ts : List Int) (d : Dd) (h3 : ts.length = 3) (hb : InBx ts) (w : World) (hs : SlI w (.slice (some ⟨bk, 0, none⟩) 3 3) ts) :
    Calls Try.prog 18 #[.slice (some ⟨bk, 0, none⟩) 3 3, d.v] w fun r w' => MovP w w' r d ts := by
  obtain ⟨kd, i, k, ni, nk, c, ea, lo, hh⟩ := d
  by_cases k0 : kd = 0
  · exact omd0 bk ts _ kd i k ni nk c ea lo hh rfl k0 h3 hb w hs
  by_cases k1 : kd = 1
  · exact omd1 bk ts _ kd i k ni nk c ea lo hh rfl k1 h3 hb w hs
  by_cases k3 : kd = 3
  · exact omd3 bk ts _ kd i k ni nk c ea lo hh rfl k3 h3 hb w hs
  by_cases k4 : kd = 4
  · exact omd4 bk ts _ kd i k ni nk c ea lo hh rfl k4 h3 hb w hs
  exact omd5 bk ts _ kd i k ni nk c ea lo hh rfl k0 k1 k3 k4 h3 hb w hs
section
variable {H : Type} {enc : TypeId × Value → H} {W : World}
set_option maxRecDepth 100000 in
theorem open_dd {base : Nat} {v : Value} {d : DataW H} {p : List MemPlace} (hv : Value.okWide Try.prog W .any base 41 v) (h : DataW.Trod enc Try.prog W 0 (fun _ => true) true 41 v d p) : ∃ x : Dd, v = x.v ∧ x.ok ∧ ∀ y ∈ p, y.block < W.heap.size := by
  obtain ⟨cs, rfl, hsz⟩ := okWide_struct Try.underlying41 hv
  rw [sc_deed] at hsz
  obtain ⟨fuel, hf⟩ := h
  simp only [Value.cells] at hf
  obtain ⟨l⟩ := cs
  obtain ⟨x, e1, m1, ok⟩ := tr_deed (by simpa using hsz) hf
  refine ⟨x, by rw [show l = x.cell from e1]; rfl, ok, fun y hy => ?_⟩
  simp only at m1
  rw [m1] at hy
  simp at hy
theorem bounds_i32 {x : Int} (h : (Lit.int .i32 x).wf = true) : -2147483648 ≤ x ∧ x ≤ 2147483647 := by
  simp [Lit.wf, IntKind.min, IntKind.max, IntKind.signed, IntKind.bits] at h
  omega
set_option maxRecDepth 100000 in
theorem open_a3 {base : Nat} {v : Value} {d : DataW H} {p : List MemPlace} (hv : Value.okWide Try.prog W .any base 37 v) (h : DataW.Trod enc Try.prog W 0 (fun _ => true) true 37 v d p) :
    ∃ x0 x1 x2 : Int, v = .agg #[.int .i32 x0, .int .i32 x1, .int .i32 x2] ∧ (-2147483648 ≤ x0 ∧ x0 ≤ 2147483647) ∧ (-2147483648 ≤ x1 ∧ x1 ≤ 2147483647) ∧ (-2147483648 ≤ x2 ∧ x2 ≤ 2147483647) ∧ ∀ x ∈ p, x.block < W.heap.size := by
  have hv0 := hv
  obtain ⟨A, z, rfl, hz, hp⟩ := open_row Try.underlying37 Try.underlying21 (by kernel_rfl) (by kernel_rfl) hv h
  obtain ⟨cs, hcs, hsz⟩ := sp_okarr Try.underlying37 hv0
  cases hcs
  rw [show Try.prog.cellsOf 37 = 3 by kernel_rfl] at hsz
  obtain ⟨a, b, c, rfl⟩ : ∃ a b c, A = #[a, b, c] := by
    obtain ⟨l⟩ := A
    match l, hsz with
    | [a, b, c], _ => exact ⟨a, b, c, rfl⟩
  have q0 := (hz 0 (by omega)).2
  have q1 := (hz 1 (by omega)).2
  have q2 := (hz 2 (by omega)).2
  simp at q0 q1 q2
  subst q0 q1 q2
  exact ⟨z 0, z 1, z 2, rfl, bounds_i32 (hz 0 (by omega)).1, bounds_i32 (hz 1 (by omega)).1, bounds_i32 (hz 2 (by omega)).1, hp⟩
end
end Go.Proofs.Ytpcbammncaeimaa


namespace Go.Proofs.Ytpcbammncaeimaa
open Go.RowKit
set_option linter.unusedVariables false
set_option linter.unusedSimpArgs false
theorem SlI.onl {w V : World} {b o cap m : Nat} {ts : List Int} (h : SlI w (.slice (some ⟨b, o, none⟩) m cap) ts) {bo : Nat} (g : Onl bo w V) (hb : b ≠ bo) : SlI V (.slice (some ⟨b, o, none⟩) m cap) ts := by
  rcases h with ⟨h, _⟩ | ⟨bk, off, c, h1, h2, h4⟩
  · cases h
  · simp only [Value.slice.injEq, Option.some.injEq, Addr.mk.injEq] at h1
    obtain ⟨⟨rfl, rfl, _⟩, e1, e2⟩ := h1
    refine Or.inr ⟨b, o, c, by rw [e1, e2], h2, fun j x hx => ?_⟩
    have := h4 j x hx
    have lt := World.block_lt_of_cell? w _ this
    have e := g.block b lt hb
    unfold World.cell? at this ⊢
    rw [e]
    exact this
theorem carryO {X v : World} {b : Nat} {o : Obj} (g : Below X.heap.size X v) (q : X.heap[b]? = some o) : v.heap[b]? = some o := (g.block b (Array.getElem?_eq_some_iff.1 q).1).trans q
theorem tellT {r : Ending} {p : Prop} (h : TellB r p) (hp : p) : r = .returned (.bool true) := by
  obtain ⟨v, rfl, q⟩ := h
  rw [q.2 hp]
theorem tellF {r : Ending} {p : Prop} (h : TellB r p) (hp : ¬ p) : r = .returned (.bool false) := by
  obtain ⟨v, rfl, q⟩ := h
  cases v
  · rfl
  · exact absurd (q.1 rfl) hp
theorem mvQ_len (d : Dd) (ts : List Int) : (mvQ d ts).length = ts.length := by
  unfold mvQ
  split
  · simp
  · split <;> simp
set_option maxRecDepth 100000 in
set_option maxHeartbeats 6400000 in
theorem law_sound (sv : Value) (ds : List Dd) (x0 x1 x2 : Int) (b0 : -2147483648 ≤ x0 ∧ x0 ≤ 2147483647) (b1 : -2147483648 ≤ x1 ∧ x1 ≤ 2147483647) (b2 : -2147483648 ≤ x2 ∧ x2 ≤ 2147483647) (d : Dd) (dok : d.ok) (w : World) (hs : SlDd w sv ds) :
    Calls Try.prog 5 #[sv, .agg #[.int .i32 x0, .int .i32 x1, .int .i32 x2], d.v] w fun r w' => r = .returned (.bool true) ∧ Below w.heap.size w w' := by
  have kp := fun V q => oplay 2 (by omega) (by omega) sv ds V q 3 (by omega)
  have kl := olive
  have ib : Hid (InBx [x0, x1, x2]) := fun j x hx => by
    match j, hx with
    | 0, hx => simp at hx; omega
    | 1, hx => simp at hx; omega
    | 2, hx => simp at hx; omega
  show Calls Try.prog 5 #[sv, .agg #[.int .i32 x0, .int .i32 x1, .int .i32 x2], .agg #[.int .i64 d.kd, .int .i64 d.i, .int .i64 d.k, .bool d.ni, .bool d.nk, .int .i64 d.c, .bool d.ea, .int .i64 d.lo, .int .i64 d.hh]] w _
  obtain ⟨W, hW⟩ : ∃ W, (w.alloc (.cells #[.int .i32 x0, .int .i32 x1, .int .i32 x2] 37)).alloc (.cells #[.int .i64 d.kd, .int .i64 d.i, .int .i64 d.k, .bool d.ni, .bool d.nk, .int .i64 d.c, .bool d.ea, .int .i64 d.lo, .int .i64 d.hh] 41) = W := ⟨_, rfl⟩
  have gW : Below w.heap.size w W := by rw [← hW]; exact sp_new (sp_new (Below.refl _ _) _) _
  obtain ⟨ba0, hba⟩ : ∃ b, w.heap.size = b := ⟨_, rfl⟩
  obtain ⟨bx, hbx⟩ : ∃ b, ba0 + 1 = b := ⟨_, rfl⟩
  have a0 : W.cell? ⟨ba0, 0, none⟩ = some (.int .i32 x0) := by rw [← hW, ← hba]; simp [go_sem]
  have a1 : W.cell? ⟨ba0, 1, none⟩ = some (.int .i32 x1) := by rw [← hW, ← hba]; simp [go_sem]
  have a2 : W.cell? ⟨ba0, 2, none⟩ = some (.int .i32 x2) := by rw [← hW, ← hba]; simp [go_sem]
  have hx : W.heap[bx]? = some (.cells #[.int .i64 d.kd, .int .i64 d.i, .int .i64 d.k, .bool d.ni, .bool d.nk, .int .i64 d.c, .bool d.ea, .int .i64 d.lo, .int .i64 d.hh] 41) := by
    have := World.alloc_heap_new (w.alloc (.cells #[.int .i32 x0, .int .i32 x1, .int .i32 x2] 37)) (.cells #[.int .i64 d.kd, .int .i64 d.i, .int .i64 d.k, .bool d.ni, .bool d.nk, .int .i64 d.c, .bool d.ea, .int .i64 d.lo, .int .i64 d.hh] 41)
    rw [hW] at this
    rw [← hbx, ← hba]
    simpa using this
  have hs1 := hs.on gW
  have wx0 : IntKind.i64.wrap x0 = x0 := by rw [IntKind.wrap_i64]; omega
  have wx1 : IntKind.i64.wrap x1 = x1 := by rw [IntKind.wrap_i64]; omega
  have wx2 : IntKind.i64.wrap x2 = x2 := by rw [IntKind.wrap_i64]; omega
  have cc : Hid (Below w.heap.size w W) := gW
  have kp1 := kp W hs1
  clear b0 b1 b2 gW hs kp
  go_enter Try.func5, Try.ntmps5
  go_upto_region 1 with fail
  (try rw [hW])
  (try rw [hba])
  (try rw [hbx])
  clear hW hs1
  go_upto_region 2 with (first
    | (go_at_call 11; refine kp1.mono ?_; rintro r w1 ⟨bo, R, ba, Ra, e, T, T2, f, U, U2, rfl, hB⟩)
    | fail)
  have hO := hB.o
  have tO : Hid (e = false → Tt 3 T) := fun q => (hB.s.2 q).2
  have g1 := hB.bl
  have zo := hB.z1.2
  have zb : w.heap.size ≤ bo := Nat.le_trans cc.out.size hB.z1.1
  replace hx := carryO g1 hx
  replace cc : Hid (Below w.heap.size w w1) := sp_call cc.out g1
  replace a0 := sO g1 a0; replace a1 := sO g1 a1; replace a2 := sO g1 a2
  clear kp1 hB g1
  go_upto_region 4 with (first
    | (go_at_call 12; refine (kl _).mono ?_; rintro r w2 ⟨rfl, g⟩; replace hO := hO.on g; replace hx := carryO g hx; replace zo := Nat.lt_of_lt_of_le zo g.size; replace cc : Hid (Below w.heap.size w w2) := sp_call cc.out g; replace a0 := sO g a0; replace a1 := sO g a1; replace a2 := sO g a2; clear g)
    | fail)
  clear kl
  go_upto_region 5 with fail
  obtain ⟨V0, hV⟩ : ∃ V, w2.alloc (.cells #[.int .i64 x0, .int .i64 x1, .int .i64 x2] 2) = V := ⟨_, rfl⟩
  have gA : Below w2.heap.size w2 V0 := by rw [← hV]; exact sp_new (Below.refl _ _) _
  have zV : w2.heap.size < V0.heap.size := by rw [← hV]; simp
  obtain ⟨bp, hbp⟩ : ∃ b, w2.heap.size = b := ⟨_, rfl⟩
  have sA : SlI V0 (.slice (some ⟨bp, 0, none⟩) 3 3) [x0, x1, x2] := SlI.c3 rfl (fun j x hx => by
    rw [← hV, ← hbp]
    match j, hx with
    | 0, hx => simp at hx; subst hx; simp [go_sem]
    | 1, hx => simp at hx; subst hx; simp [go_sem]
    | 2, hx => simp at hx; subst hx; simp [go_sem])
  (try rw [hV])
  (try rw [hbp])
  have nb : bp ≠ bo := by omega
  replace hO := hO.on gA
  replace hx := carryO gA hx
  replace zo := Nat.lt_of_lt_of_le zo gA.size
  replace cc : Hid (Below w.heap.size w V0) := sp_call cc.out gA
  clear hV a0 a1 a2 gA wx0 wx1 wx2
  have ts3 : ([x0, x1, x2] : List Int).length = 3 := rfl
  generalize ([x0, x1, x2] : List Int) = ts at *
  have kH := fun (V : World) (b' : Nat) (e' : Bool) (T' : Mx) (sl : Value) (qs : List Int) (h : OctAt V b' 3 e' T') (hs : SlI V sl qs) => ohas b' 3 (by omega) e' T' sl qs V h hs
  by_cases hp : HasP 3 e T ts
  case neg =>
    have k1 := (kH V0 bo e T _ ts hO sA).mono (fun r w' k => (⟨tellF k.1 hp, k.2⟩ : r = .returned (.bool false) ∧ Below V0.heap.size V0 w'))
    clear kH hp ib ts3 hO hx sA
    go_wp2_with (first
      | (go_at_call 14; refine k1.mono ?_; rintro r v1 ⟨rfl, g⟩; replace cc : Hid (Below w.heap.size w v1) := sp_call cc.out g; clear g k1)
      | fail)
    go_ret
    exact ⟨rfl, by first | exact cc.out | (rw [← hba]; exact cc.out)⟩
  have he := hp.1
  subst he
  have hp' : Hid (HasP 3 false T ts) := hp
  have tt0 : Hid (Tt 3 T) := tO.out rfl
  clear tO
  have k1 := (kH V0 bo false T _ ts hO sA).mono (fun r w' k => (⟨tellT k.1 hp, k.2⟩ : r = .returned (.bool true) ∧ Below V0.heap.size V0 w'))
  clear hp
  go_upto_region 7 with (first
    | (go_at_call 14; refine k1.mono ?_; rintro r v1 ⟨rfl, g⟩; replace hO := hO.on g; replace hx := carryO g hx; replace sA := sA.on g; replace zo := Nat.lt_of_lt_of_le zo g.size; replace cc : Hid (Below w.heap.size w v1) := sp_call cc.out g; clear g k1)
    | fail)
  have c0 : v1.cell? ⟨bx, 0, none⟩ = some (.int .i64 d.kd) := by simp [World.cell?, hx]
  have c1 : v1.cell? ⟨bx, 1, none⟩ = some (.int .i64 d.i) := by simp [World.cell?, hx]
  have c2 : v1.cell? ⟨bx, 2, none⟩ = some (.int .i64 d.k) := by simp [World.cell?, hx]
  have c3 : v1.cell? ⟨bx, 3, none⟩ = some (.bool d.ni) := by simp [World.cell?, hx]
  have c4 : v1.cell? ⟨bx, 4, none⟩ = some (.bool d.nk) := by simp [World.cell?, hx]
  have c5 : v1.cell? ⟨bx, 5, none⟩ = some (.int .i64 d.c) := by simp [World.cell?, hx]
  have c6 : v1.cell? ⟨bx, 6, none⟩ = some (.bool d.ea) := by simp [World.cell?, hx]
  have c7 : v1.cell? ⟨bx, 7, none⟩ = some (.int .i64 d.lo) := by simp [World.cell?, hx]
  have c8 : v1.cell? ⟨bx, 8, none⟩ = some (.int .i64 d.hh) := by simp [World.cell?, hx]
  have k2 : Calls Try.prog 18 #[.slice (some ⟨bp, 0, none⟩) 3 3, .agg #[.int .i64 d.kd, .int .i64 d.i, .int .i64 d.k, .bool d.ni, .bool d.nk, .int .i64 d.c, .bool d.ea, .int .i64 d.lo, .int .i64 d.hh]] v1 fun r w' => MovP v1 w' r d ts := omoved bp ts d ts3 ib.out v1 sA
  go_upto_region 8 with (first
    | (go_at_call 18; refine k2.mono ?_; rintro r v2 ⟨bq, cap, st, zq, rfl, sQ, ist, g⟩; clear k2)
    | fail)
  have nq : bq ≠ bo := by omega
  replace hO := hO.on g
  replace hx := carryO g hx
  replace sA := sA.on g
  replace zo := Nat.lt_of_lt_of_le zo g.size
  replace cc : Hid (Below w.heap.size w v2) := sp_call cc.out g
  clear g c0 c1 c2 c3 c4 c5 c6 c7 c8 zq
  have k3 := ofork bo 3 false T v2 hO
  generalize hbf : v2.heap.size = bf at k3
  go_upto_region 9 with (first
    | (go_at_call 19; refine k3.mono ?_; rintro r v3 ⟨rfl, hF, g⟩; clear k3)
    | fail)
  rw [← hbf] at g
  replace hO := hO.on g
  replace hx := carryO g hx
  replace sA := sA.on g
  replace sQ := sQ.on g
  replace zo := Nat.lt_of_lt_of_le zo g.size
  replace cc : Hid (Below w.heap.size w v3) := sp_call cc.out g
  clear g hbf
  have c0 : v3.cell? ⟨bx, 0, none⟩ = some (.int .i64 d.kd) := by simp [World.cell?, hx]
  have c1 : v3.cell? ⟨bx, 1, none⟩ = some (.int .i64 d.i) := by simp [World.cell?, hx]
  have c2 : v3.cell? ⟨bx, 2, none⟩ = some (.int .i64 d.k) := by simp [World.cell?, hx]
  have c3 : v3.cell? ⟨bx, 3, none⟩ = some (.bool d.ni) := by simp [World.cell?, hx]
  have c4 : v3.cell? ⟨bx, 4, none⟩ = some (.bool d.nk) := by simp [World.cell?, hx]
  have c5 : v3.cell? ⟨bx, 5, none⟩ = some (.int .i64 d.c) := by simp [World.cell?, hx]
  have c6 : v3.cell? ⟨bx, 6, none⟩ = some (.bool d.ea) := by simp [World.cell?, hx]
  have c7 : v3.cell? ⟨bx, 7, none⟩ = some (.int .i64 d.lo) := by simp [World.cell?, hx]
  have c8 : v3.cell? ⟨bx, 8, none⟩ = some (.int .i64 d.hh) := by simp [World.cell?, hx]
  have k4 : Calls Try.prog 20 #[.pointer (some ⟨bo, 0, none⟩), .pointer (some ⟨bf, 0, none⟩), .agg #[.int .i64 d.kd, .int .i64 d.i, .int .i64 d.k, .bool d.ni, .bool d.nk, .int .i64 d.c, .bool d.ea, .int .i64 d.lo, .int .i64 d.hh]] v3 fun r w' => OStp v3 w' r bo 3 d false T false T ∧ Onl bo v3 w' := ostep bo bf 3 (by omega) d dok.1 dok.2 false false T T (fun _ => tt0.out) (fun _ => tt0.out) v3 hO hF
  go_upto_region 10 with (first
    | (go_at_call 20; refine k4.mono ?_; rintro r v4 ⟨⟨b', er, e', T', rfl, hN, sr, _⟩, on⟩; clear k4)
    | fail)
  have snd := step_has hp'.out sr
  replace sA := sA.onl on nb
  replace sQ := sQ.onl on nq
  replace cc : Hid (Below w.heap.size w v4) := below_rg cc.out (onl_rgn on) zb
  clear hO hF hx on c0 c1 c2 c3 c4 c5 c6 c7 c8 sr hp'
  have l3 : (mvQ d ts).length = 3 := by rw [mvQ_len]; exact ts3
  obtain ⟨s1, s2⟩ := snd
  rcases s1 with er0 | ⟨er2, hh⟩
  case inr =>
    subst er2
    have k1 := (kH v4 b' e' T' _ ts hN sA).mono (fun r w' k => (⟨tellT k.1 hh, k.2⟩ : r = .returned (.bool true) ∧ Below v4.heap.size v4 w'))
    clear kH s2 hh hN sA sQ ist
    go_wp2_with (first
      | (go_at_call 14; refine k1.mono ?_; rintro r v5 ⟨rfl, g⟩; replace cc : Hid (Below w.heap.size w v5) := sp_call cc.out g; clear g k1)
      | fail)
    go_ret
    exact ⟨rfl, by first | exact cc.out | (rw [← hba]; exact cc.out)⟩
  subst er0
  replace s2 : Hid (InBx (mvQ d ts) → st = true → HasP 3 e' T' (mvQ d ts)) := fun a b => s2 rfl a (ist.1 b)
  have kq : ∀ p, Hid p → p = HasP 3 e' T' (mvQ d ts) → Calls Try.prog 14 #[.pointer (some ⟨b', 0, none⟩), .slice (some ⟨bq, 0, none⟩) 3 cap] v4 fun r w' => r = .returned (.bool true) ∧ Below v4.heap.size v4 w' := fun p hp e => (kH v4 b' e' T' _ _ hN sQ).mono (fun r w' k => ⟨tellT k.1 (e ▸ hp.out), k.2⟩)
  have hc : Hid (∀ j x, (mvQ d ts)[j]? = some x → v4.cell? ⟨bq, 0 + j, none⟩ = some (.int .i64 x)) := fun j x hx => sQ.at hx
  clear kH ist sA sQ hN
  generalize mvQ d ts = qs at *
  have l3' : Hid (qs.length = 3) := l3
  clear l3
  go_wp2_with fail
  go_loopw [16] (fun i wr => ∃ k : Nat, k ≤ 3 ∧ i = .int .i64 k ∧ wr = v4 ∧ Hid (∀ j x, j < k → qs[j]? = some x → -8589934592 ≤ x ∧ x ≤ 8589934592)) (fun i _ => 3 - (intOf i).toNat)
  case atStart => exact ⟨0, by omega, rfl, rfl, (fun j x hj => by omega : ∀ j x, j < 0 → qs[j]? = some x → -8589934592 ≤ x ∧ x ≤ 8589934592)⟩
  case round =>
    obtain ⟨k, hk, rfl, rfl, hin⟩ := hrel
    by_cases ck : k < 3
    · have ck' : (k : Int) < 3 := by omega
      obtain ⟨x, hx⟩ : ∃ x, qs[k]? = some x := ⟨_, List.getElem?_eq_getElem (by rw [l3'.out]; exact ck)⟩
      have cx := hc.out k x hx
      have ix := oiz bq 0 3 cap k ck
      simp only [Nat.zero_add] at cx ix
      have wk : IntKind.i64.wrap ((k : Int) + 1) = ((k + 1 : Nat) : Int) := by rw [IntKind.wrap_i64]; omega
      have px : Hid ((-8589934592 ≤ x ∧ x ≤ 8589934592) → ∀ j y, j < k + 1 → qs[j]? = some y → -8589934592 ≤ y ∧ y ≤ 8589934592) := fun q j y hj hy => by
        by_cases e : j = k
        · subst e; rw [hx] at hy; cases hy; exact q
        · exact hin.out j y (by omega) hy
      clear hx hin s2 kq
      by_cases l1 : x < -8589934592
      · go_wp2_with fail
        go_ret
        exact ⟨rfl, by first | exact cc.out | (rw [← hba]; exact cc.out)⟩
      · by_cases l2 : 8589934592 < x
        · go_wp2_with fail
          go_ret
          exact ⟨rfl, by first | exact cc.out | (rw [← hba]; exact cc.out)⟩
        · go_wp2_with fail
          exact ⟨⟨k + 1, by omega, by simp, by first | rfl | trivial, px.out ⟨by omega, by omega⟩⟩, by simp [intOf]; omega⟩
    · have ek : k = 3 := by omega
      subst ek
      have ibq : InBx qs := fun j x hx => hin.out j x (by rw [← l3'.out]; exact (List.getElem?_eq_some_iff.1 hx).1) hx
      have s3 := s2.out ibq
      clear s2 hin ibq hc
      cases st
      · go_wp2_with fail
        go_ret
        exact ⟨rfl, by first | exact cc.out | (rw [← hba]; exact cc.out)⟩
      · have k5 := kq _ (s3 rfl) rfl
        clear kq s3
        go_wp2_with (first
          | (go_at_call 14; refine k5.mono ?_; rintro r v5 ⟨rfl, g⟩; replace cc : Hid (Below w.heap.size w v5) := sp_call cc.out g; clear g k5)
          | fail)
        go_ret
        exact ⟨rfl, by first | exact cc.out | (rw [← hba]; exact cc.out)⟩
end Go.Proofs.Ytpcbammncaeimaa


