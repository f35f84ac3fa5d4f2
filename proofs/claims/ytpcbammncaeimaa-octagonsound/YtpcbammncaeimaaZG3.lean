/- Texts of the proof, put together. -/
import Derived.Test.YtpcbammncaeimaaZG1
import Derived.Test.YtpcbammncaeimaaZG2
import Derived.Deep.MidRow
namespace Go.Proofs.Ytpcbammncaeimaa
set_option linter.unusedVariables false
def Le (n : Nat) (A B : Mx) : Prop := ∀ a b, a < 2 * n → b < 2 * n → A a b ≤ B a b
theorem Le.refl (n : Nat) (A : Mx) : Le n A A := fun _ _ _ _ => Int.le_refl _
theorem Le.trans {n : Nat} {A B C : Mx} (h : Le n A B) (k : Le n B C) : Le n A C := fun a b ha hb => Int.le_trans (h a b ha hb) (k a b ha hb)
def Pos (n : Nat) (M : Mx) : Prop := ∀ a, a < 2 * n → 0 ≤ M a (ot a)
structure Cl (n : Nat) (T : Mx) : Prop where
  clo : Clo n T
  hal : Hal n T
  pos : Pos n T
structure Bst (n : Nat) (S T : Mx) : Prop where
  cl : Cl n T
  le : Le n T S
  top : ∀ T', Cl n T' → Le n T' S → Le n T' T
def Non (n : Nat) (S : Mx) : Prop := ∀ T', Cl n T' → Le n T' S → False
def Res (n : Nat) (S : Mx) (e : Bool) (T : Mx) : Prop := (e = false ∧ Bst n S T) ∨ (e = true ∧ Non n S)
theorem Res.one {n : Nat} {S S' T T' : Mx} {e e' : Bool} (h : Res n S e T) (h' : Res n S' e' T') (hs : ∀ X, Cl n X → (Le n X S ↔ Le n X S')) : e = e' ∧ (e = false → Le n T T' ∧ Le n T' T) := by
  rcases h with ⟨rfl, b⟩ | ⟨rfl, b⟩ <;> rcases h' with ⟨rfl, b'⟩ | ⟨rfl, b'⟩
  · exact ⟨rfl, fun _ => ⟨b'.top _ b.cl ((hs _ b.cl).1 b.le), b.top _ b'.cl ((hs _ b'.cl).2 b'.le)⟩⟩
  · exact absurd ((hs _ b.cl).1 b.le) (b' _ b.cl)
  · exact absurd ((hs _ b'.cl).2 b'.le) (b _ b'.cl)
  · exact ⟨rfl, fun q => by cases q⟩
theorem Res.at {n : Nat} {S S' T : Mx} {e : Bool} (h : Res n S e T) (hs : ∀ X, Cl n X → (Le n X S ↔ Le n X S')) : Res n S' e T := by
  rcases h with ⟨rfl, b⟩ | ⟨rfl, b⟩
  · exact Or.inl ⟨rfl, b.cl, (hs _ b.cl).1 b.le, fun X hX hl => b.top X hX ((hs _ hX).2 hl)⟩
  · exact Or.inr ⟨rfl, fun X hX hl => b X hX ((hs _ hX).2 hl)⟩
theorem Cl.turn {n : Nat} {T : Mx} (h : Cl n T) : Cl n (fun a b => T b a) where
  clo := fun k hk a b ha hb => by
    have := h.clo (ot k) (ot_lt hk) b a hb ha
    rw [ot_ot] at this
    show T b a ≤ T k a + T b (ot k)
    omega
  hal := fun a b ha hb => by
    have := h.hal b a hb ha
    show T b a ≤ fh (T a a) + fh (T b b)
    omega
  pos := fun a ha => by
    have := h.pos (ot a) (ot_lt ha)
    rw [ot_ot] at this
    exact this
structure Tt (n : Nat) (T : Mx) : Prop where
  cl : Cl n T
  sym : ∀ a b, a < 2 * n → b < 2 * n → T a b = T b a
  opp : ∀ a, a < 2 * n → T a (ot a) = 0
  up : ∀ a b, a < 2 * n → b < 2 * n → T a b ≤ 17179869184
theorem Tt.low {n : Nat} {T : Mx} (h : Tt n T) {a b : Nat} (ha : a < 2 * n) (hb : b < 2 * n) : -17179869184 ≤ T a b := by
  have h1 := h.cl.pos a ha
  have h2 := h.cl.clo b hb a (ot a) ha (ot_lt ha)
  have h3 := h.up (ot b) (ot a) (ot_lt hb) (ot_lt ha)
  omega
theorem Tt.even {n : Nat} {T : Mx} (h : Tt n T) {a : Nat} (ha : a < 2 * n) : T a a = 2 * fh (T a a) := by
  have := h.cl.hal a a ha ha
  unfold fh at this ⊢
  omega
theorem Bst.tt {n : Nat} {S T : Mx} (h : Bst n S T) (sy : ∀ a b, a < 2 * n → b < 2 * n → S a b = S b a) (so : ∀ a, a < 2 * n → S a (ot a) ≤ 0) (su : ∀ a b, a < 2 * n → b < 2 * n → T a b ≤ 17179869184) : Tt n T where
  cl := h.cl
  sym := fun a b ha hb => by
    have ht := h.top _ h.cl.turn (fun x y hx hy => by have := h.le y x hy hx; rw [sy x y hx hy]; exact this)
    have h1 := ht a b ha hb
    have h2 := ht b a hb ha
    simp only at h1 h2
    omega
  opp := fun a ha => by
    have h1 := h.cl.pos a ha
    have h2 := h.le a (ot a) ha (ot_lt ha)
    have h3 := so a ha
    omega
  up := su
theorem Tt.to {n : Nat} {A B : Mx} (h : Tt n A) (q : ∀ a b, a < 2 * n → b < 2 * n → A a b = B a b) : Tt n B where
  cl := {
    clo := fun k hk a b ha hb => by rw [← q a b ha hb, ← q a k ha hk, ← q (ot k) b (ot_lt hk) hb]; exact h.cl.clo k hk a b ha hb
    hal := fun a b ha hb => by rw [← q a b ha hb, ← q a a ha ha, ← q b b hb hb]; exact h.cl.hal a b ha hb
    pos := fun a ha => by rw [← q a _ ha (ot_lt ha)]; exact h.cl.pos a ha }
  sym := fun a b ha hb => by rw [← q a b ha hb, ← q b a hb ha]; exact h.sym a b ha hb
  opp := fun a ha => by rw [← q a _ ha (ot_lt ha)]; exact h.opp a ha
  up := fun a b ha hb => by rw [← q a b ha hb]; exact h.up a b ha hb
theorem gov_abv {n : Nat} {T M : Mx} (c : Cl n T) (h : Le n T M) {k : Nat} (hk : k < 2 * n) : Le n T (gov M k) := fun a b ha hb => by
  have h1 := h a b ha hb
  have h2 := h a k ha hk
  have h3 := h (ot k) b (ot_lt hk) hb
  have h4 := c.clo k hk a b ha hb
  unfold gov
  omega
theorem fh_mono {x y : Int} (h : x ≤ y) : fh x ≤ fh y := by unfold fh; omega
theorem hlv_abv {n : Nat} {T M : Mx} (c : Cl n T) (h : Le n T M) : Le n T (hlv M) := fun a b ha hb => by
  have h1 := h a b ha hb
  have h2 := fh_mono (h a a ha ha)
  have h3 := fh_mono (h b b hb hb)
  have h4 := c.hal a b ha hb
  unfold hlv
  omega
theorem govs_abv {n : Nat} {T M : Mx} (c : Cl n T) (h : Le n T M) : ∀ k, k ≤ 2 * n → Le n T (govs M k)
  | 0, _ => h
  | k + 1, hk => gov_abv c (govs_abv c h k (by omega)) (by omega)
theorem govs_via {n : Nat} {A : Mx} : ∀ k, k ≤ 2 * n → (∀ j, j < k → Pos n (govs A j)) → ∀ c, c < k → Via n (govs A k) c
  | 0, _, _, c, hc => by omega
  | k + 1, hk, hp, c, hc => by
    have o := hp k (by omega) (ot k) (ot_lt (show k < 2 * n by omega))
    rw [ot_ot] at o
    by_cases e : c = k
    · subst e
      exact gov_via o
    · exact gov_keep (by omega) (by omega) o (govs_via k (by omega) (fun j hj => hp j (by omega)) c (by omega))
theorem col_low {n : Nat} {M : Mx} {U : Int} (hU : ∀ a b, a < 2 * n → b < 2 * n → M a b ≤ U) (hp : Pos n M) {k : Nat} (hk : k < 2 * n) (v : Via n M k) {a : Nat} (ha : a < 2 * n) : -U ≤ M a k ∧ -U ≤ M (ot k) a := by
  constructor
  · have h1 := hp a ha
    have h2 := v a (ot a) ha (ot_lt ha)
    have h3 := hU (ot k) (ot a) (ot_lt hk) (ot_lt ha)
    omega
  · have h1 := hp (ot a) (ot_lt ha)
    rw [ot_ot] at h1
    have h2 := v (ot a) a (ot_lt ha) ha
    have h3 := hU (ot a) k (ot_lt ha) hk
    omega
theorem govs_low {n : Nat} {A : Mx} {U L : Int} (hU : ∀ a b, a < 2 * n → b < 2 * n → A a b ≤ U) (hL : ∀ a b, a < 2 * n → b < 2 * n → -L ≤ A a b) (hUL : 2 * U ≤ L) : ∀ k, k ≤ 2 * n → (∀ j, j ≤ k → Pos n (govs A j)) → ∀ a b, a < 2 * n → b < 2 * n → -L ≤ govs A k a b
  | 0, _, _, a, b, ha, hb => hL a b ha hb
  | k + 1, hk, hp, a, b, ha, hb => by
    have ih := govs_low hU hL hUL k (by omega) (fun j hj => hp j (by omega)) a b ha hb
    have v := govs_via (n := n) (A := A) (k + 1) hk (fun j hj => hp j (by omega)) k (by omega)
    have hU' : ∀ a b, a < 2 * n → b < 2 * n → govs A (k + 1) a b ≤ U := fun a b ha hb => Int.le_trans (govs_le A a b _) (hU a b ha hb)
    have kk : k < 2 * n := by omega
    have c1 := (col_low hU' (hp (k + 1) (by omega)) kk v ha).1
    have c2 := (col_low hU' (hp (k + 1) (by omega)) kk v hb).2
    have o := hp k (by omega) (ot k) (ot_lt kk)
    rw [ot_ot] at o
    have e1 : govs A (k + 1) a k = govs A k a k := gov_col o a
    have e2 : govs A (k + 1) (ot k) b = govs A k (ot k) b := gov_row o b
    have e3 : govs A (k + 1) a b = min (govs A k a b) (govs A k a k + govs A k (ot k) b) := rfl
    omega
theorem govs_end {n : Nat} {A : Mx} {U : Int} (hU : ∀ a b, a < 2 * n → b < 2 * n → A a b ≤ U) (hp : ∀ j, j ≤ 2 * n → Pos n (govs A j)) {a b : Nat} (ha : a < 2 * n) (hb : b < 2 * n) : -U ≤ govs A (2 * n) a b :=
  (col_low (fun a b ha hb => Int.le_trans (govs_le A a b _) (hU a b ha hb)) (hp _ (Nat.le_refl _)) hb (govs_via _ (Nat.le_refl _) (fun j hj => hp j (by omega)) b hb) ha).1
theorem gap_lt2 {n : Nat} {K : Int} {M M' : Mx} (le : ∀ a b, a < 2 * n → b < 2 * n → M' a b ≤ M a b) {x y : Nat} (hx : x < 2 * n) (hy : y < 2 * n) (hl : M' x y < M x y) (hK : -(2 * K) ≤ M' x y) : gap n M' (fun _ => -K) < gap n M (fun _ => -K) := by
  unfold gap
  refine sum_lt (y := x) (fun a ha => sum_le fun b hb => ?_) (by simpa using hx) (sum_lt (y := y) (fun b hb => ?_) (by simpa using hy) ?_)
  · have := le a b (by simpa using ha) (by simpa using hb); omega
  · have := le x b hx (by simpa using hb); omega
  · show (M' x y - (-K + -K)).toNat < (M x y - (-K + -K)).toNat
    omega
theorem code_last {n : Nat} {S A : Mx} (hle : Le n A S) (hab : ∀ T, Cl n T → Le n T S → Le n T A) (hp : ∀ j, j ≤ 2 * n → Pos n (govs A j)) (hh : ∀ a b, a < 2 * n → b < 2 * n → hlv (govs A (2 * n)) a b = govs A (2 * n) a b) : Bst n S (govs A (2 * n)) where
  cl := { clo := fun k hk => govs_via _ (Nat.le_refl _) (fun j hj => hp j (by omega)) k hk
          hal := fun a b ha hb => by have := hh a b ha hb; unfold hlv at this; omega
          pos := hp _ (Nat.le_refl _) }
  le := fun a b ha hb => Int.le_trans (govs_le A a b _) (hle a b ha hb)
  top := fun T c h => govs_abv c (hab T c h) _ (Nat.le_refl _)
theorem Bst.to {n : Nat} {S T T' : Mx} (h : Bst n S T) (q : ∀ a b, a < 2 * n → b < 2 * n → T a b = T' a b) : Bst n S T' where
  cl := {
    clo := fun k hk a b ha hb => by rw [← q a b ha hb, ← q a k ha hk, ← q (ot k) b (ot_lt hk) hb]; exact h.cl.clo k hk a b ha hb
    hal := fun a b ha hb => by rw [← q a b ha hb, ← q a a ha ha, ← q b b hb hb]; exact h.cl.hal a b ha hb
    pos := fun a ha => by rw [← q a _ ha (ot_lt ha)]; exact h.cl.pos a ha }
  le := fun a b ha hb => by rw [← q a b ha hb]; exact h.le a b ha hb
  top := fun X c l a b ha hb => by rw [← q a b ha hb]; exact h.top X c l a b ha hb
theorem non_of {n : Nat} {S X : Mx} (hab : ∀ T, Cl n T → Le n T S → Le n T X) {a : Nat} (ha : a < 2 * n) (hn : X a (ot a) < 0) : Non n S := fun T c l => by
  have h1 := hab T c l a (ot a) ha (ot_lt ha)
  have h2 := c.pos a ha
  omega
end Go.Proofs.Ytpcbammncaeimaa

namespace Go.Proofs.Ytpcbammncaeimaa
open Go.RowKit
set_option linter.unusedVariables false
set_option linter.unusedSimpArgs false
def Lm (m : Nat) (A B : Mx) : Prop := ∀ a b, a < m → b < m → A a b ≤ B a b
theorem Lm.up {m : Nat} {X M : Mx} (h : Lm m X M) {x y : Nat} (hx : x < m) (hy : y < m) {v : Int} (hv : v ≤ X x y) : Lm m (up1 X x y v) M := fun i j hi hj => by
  unfold up1
  split
  · rename_i q
    rw [q.1, q.2]
    exact Int.le_trans hv (h x y hx hy)
  · exact h i j hi hj
set_option maxRecDepth 100000 in
set_option maxHeartbeats 1600000 in
theorem ogo2 (b n m : Nat) (e : Bool) (M : Mx) (hm : 2 * n = m) (h16 : m ≤ 16) (k : Nat) (hk : k < m) (w : World) (h : OctAt w b n e M) :
    Calls Try.prog 87 #[.pointer (some ⟨b, 0, none⟩), .int .i64 k] w fun r w' => r = .returned (.tuple #[]) ∧ (∃ X, OctAt w' b n e X ∧ Lm m X M) ∧ Onl b w w' := by
  have k1 := fun V M hV => osides b n m e M hm h16 V hV
  have k2 := fun V M a ha hV => orow b n m e M hm h16 a ha V hV
  have k3 := oother k (by omega)
  have hok : ot k < m := by have := ot_lt (n := n) (a := k) (by omega); omega
  clear hm
  obtain ⟨q, hq⟩ : ∃ q, ot k = q := ⟨_, rfl⟩
  rw [hq] at k3 hok
  clear hq
  go_enter Try.func87, Try.ntmps87
  go_wp2_with (first
    | (go_at_call 80; refine (k3 _).mono ?_; rintro r w1 ⟨rfl, hw⟩; subst w1)
    | (go_at_call 42; refine (k2 _ _ q hok h).mono ?_; rintro r w1 ⟨rfl, k0, rfl⟩; replace h := h.drewN k0)
    | (go_at_call 41; refine (k1 _ _ h).mono ?_; rintro r w2 ⟨rfl, hw2⟩; subst w2)
    | fail)
  have c0 : Onl b w (w.drewN k0) := (Onl.refl _ _).drewN _
  clear k1 k3
  go_loopw [15] (fun i wr => ∃ (WR : World) (a : Nat) (X : Mx), WR = wr ∧ a ≤ m ∧ i = .int .i64 a ∧ OctAt wr b n e X ∧ Hid (Lm m X M) ∧ Onl b w wr) (fun i _ => m - (intOf i).toNat)
  case atStart => exact ⟨_, 0, M, rfl, by omega, rfl, h, (fun _ _ _ _ => Int.le_refl _), c0⟩
  case round =>
    obtain ⟨WR, a, X, rfl, ha, rfl, hO, hX, cc⟩ := hrel
    clear h c0
    by_cases ca : a < m
    · have ca' : (a : Int) < (m : Int) := by omega
      have hz1 := oiz b (2 + a * 16) m m k hk
      have y0 := hO.hm a k (by omega) (by omega)
      obtain ⟨y, hy⟩ : ∃ y, X a k = y := ⟨_, rfl⟩
      rw [hy] at y0
      clear hy
      go_wp2_with (first
        | (go_at_call 42; refine (k2 _ _ a ca hO).mono ?_; rintro r w2 ⟨rfl, k9, rfl⟩; replace hO := hO.drewN k9; replace cc := cc.drewN k9; replace y0 : (WR.drewN k9).cell? ⟨b, 2 + a * 16 + k, none⟩ = some (.int .i64 y) := y0)
        | fail)
      go_loopw [27] (fun i wr => ∃ (WS : World) (c : Nat) (Y : Mx), WS = wr ∧ c ≤ m ∧ i = .int .i64 c ∧ OctAt wr b n e Y ∧ Hid (Lm m Y M) ∧ Onl b w wr) (fun i _ => m - (intOf i).toNat)
      case atStart => exact ⟨_, 0, X, rfl, by omega, rfl, hO, hX, cc⟩
      case round =>
        clear hO cc y0 hX
        obtain ⟨WS, c, Y, rfl, hc, rfl, hO, hY, cc⟩ := hrel
        by_cases cx : c < m
        · have cx' : (c : Int) < (m : Int) := by omega
          have hz := oiz b (2 + a * 16) m m c cx
          have hzq := oiz b (2 + q * 16) m m c cx
          have hfz := hO.hf (2 + a * 16 + c)
          have x0 := hO.hm a c (by omega) (by omega)
          have z0 := hO.hm q c (by omega) (by omega)
          have wc : IntKind.i64.wrap ((c : Int) + 1) = ((c + 1 : Nat) : Int) := by rw [IntKind.wrap_i64]; omega
          obtain ⟨s, hs⟩ : ∃ s, IntKind.i64.wrap (y + Y q c) = s := ⟨_, rfl⟩
          have hset := hO.set (x := a) (y := c) (by omega) (by omega) (if s < Y a c then s else Y a c)
          have hY2 : Hid (Lm m (up1 Y a c (if s < Y a c then s else Y a c)) M) := hY.out.up ca cx (by split <;> omega)
          have hon := cc.set (j := 2 + a * 16 + c) (.int .i64 (if s < Y a c then s else Y a c))
          generalize up1 Y a c (if s < Y a c then s else Y a c) = Y2 at *
          generalize Y a c = x at *
          generalize Y q c = z at *
          clear k2 hz1 hY
          go_wp2_with fail
          go_region
          go_wp2_with fail
          exact ⟨⟨_, c + 1, Y2, rfl, by omega, by simp, hset.drew, hY2, hon.drew⟩, by simp [intOf]; omega⟩
        · have ec : c = m := by omega
          subst ec
          clear cx hc
          have wa : IntKind.i64.wrap ((a : Int) + 1) = ((a + 1 : Nat) : Int) := by rw [IntKind.wrap_i64]; omega
          go_wp2_with fail
          go_roundw
          case rel => exact ⟨_, a + 1, Y, rfl, by omega, by first | rfl | go_num, hO, hY, cc⟩
          case measure => simp [intOf]; omega
    · have ea : a = m := by omega
      subst ea
      clear ca ha
      go_wp2_with fail
      exact bodyPost_end (results_none rfl _ _ _) rfl ⟨rfl, ⟨X, hO, hX.out⟩, cc⟩
set_option maxRecDepth 100000 in
set_option maxHeartbeats 1600000 in
theorem ocon2 (b n m : Nat) (e : Bool) (M : Mx) (hm : 2 * n = m) (h16 : m ≤ 16) (w : World) (h : OctAt w b n e M) :
    Calls Try.prog 88 #[.pointer (some ⟨b, 0, none⟩)] w fun r w' => (∃ l, r = .returned (.bool l) ∧ (l = false → ∀ a, a < m → 0 ≤ M a (ot a)) ∧ (l = true → ∃ a, a < m ∧ M a (ot a) < 0)) ∧ ∃ k, w' = w.drewN k := by
  have k1 := fun V hV => osides b n m e M hm h16 V hV
  have k3 := fun a (ha : a < m) => oother a (by omega)
  have hlt : ∀ a, a < m → ot a < 16 := fun a ha => by have := ot_lt (n := n) (a := a) (by omega); omega
  clear hm
  go_enter Try.func88, Try.ntmps88
  go_wp2_with (first
    | (go_at_call 41; refine (k1 _ h).mono ?_; rintro r w2 ⟨rfl, hw2⟩; subst w2)
    | fail)
  clear k1
  go_loopw [6] (fun i wr => ∃ (WR : World) (a : Nat), WR = wr ∧ a ≤ m ∧ i = .int .i64 a ∧ OctAt wr b n e M ∧ Hid (∀ x, x < a → 0 ≤ M x (ot x)) ∧ Hid (∃ k, wr = w.drewN k)) (fun i _ => m - (intOf i).toNat)
  case atStart => exact ⟨_, 0, rfl, by omega, rfl, h, (fun x hx => by omega), ⟨0, rfl⟩⟩
  case round =>
    obtain ⟨WR, a, rfl, ha, rfl, hO, hP, hk⟩ := hrel
    clear h
    by_cases ca : a < m
    · have ca' : (a : Int) < (m : Int) := by omega
      have k3a := k3 a ca
      have x1 := oix b a (by omega)
      have x2 := oiy b (2 + a * 16) (ot a) (hlt a ca)
      have y0 := hO.hm a (ot a) (by omega) (hlt a ca)
      have wc : IntKind.i64.wrap ((a : Int) + 1) = ((a + 1 : Nat) : Int) := by rw [IntKind.wrap_i64]; omega
      by_cases y1 : M a (ot a) < 0
      · have hN : Hid (∃ a, a < m ∧ M a (ot a) < 0) := ⟨a, ca, y1⟩
        generalize M a (ot a) = y at *
        generalize ot a = q at *
        clear hlt k3
        go_upto_region 4 with fail
        go_quiet (first
          | (go_at_call 80; exact Calls.quiet_of ((k3a _).mono fun r w' q => ⟨q.1, 0, q.2⟩))
          | fail)
        go_wp2_with fail
        obtain ⟨k, hk⟩ := hk.out
        go_ret
        exact ⟨⟨true, rfl, (fun q => by cases q), fun _ => hN.out⟩, _, by rw [hk, World.drewN_drewN]⟩
      · have hP2 : Hid (∀ x, x < a + 1 → 0 ≤ M x (ot x)) := fun x hx => by
          by_cases q : x = a
          · rw [q]; omega
          · exact hP.out x (by omega)
        generalize M a (ot a) = y at *
        generalize ot a = q at *
        clear hlt k3
        go_upto_region 4 with fail
        go_quiet (first
          | (go_at_call 80; exact Calls.quiet_of ((k3a _).mono fun r w' q => ⟨q.1, 0, q.2⟩))
          | fail)
        go_wp2_with fail
        obtain ⟨k, hk⟩ := hk.out
        exact ⟨⟨_, a + 1, rfl, by omega, by simp, hO.drewN _, hP2, ⟨_, by rw [hk, World.drewN_drewN]⟩⟩, by simp [intOf]; omega⟩
    · have ea : a = m := by omega
      subst ea
      clear ca ha
      go_wp2_with fail
      go_ret
      exact ⟨⟨false, rfl, (fun _ => hP.out), fun q => by cases q⟩, hk.out⟩
end Go.Proofs.Ytpcbammncaeimaa

namespace Go.Proofs.Ytpcbammncaeimaa
open Go.RowKit
set_option linter.unusedVariables false
set_option linter.unusedSimpArgs false
theorem setCells_onl (b : Nat) : ∀ (vs : List Value) (o : Nat) (w : World), Onl b w (w.setCells b o vs)
  | [], _, w => Onl.refl _ _
  | v :: r, o, w => ((Onl.refl b w).set v).trans (setCells_onl b r (o + 1) _)
theorem OctAt.some {w : World} {b n : Nat} {e : Bool} {M : Mx} (h : OctAt w b n e M) (j : Nat) (hj : j < 258) : (w.cell? ⟨b, j, none⟩).isSome = true := by
  match j, hj with
  | 0, _ => rw [h.hv]; rfl
  | 1, _ => rw [h.he]; rfl
  | k + 2, hk =>
    have := h.hm (k / 16) (k % 16) (by omega) (by omega)
    rw [show 2 + k / 16 * 16 + k % 16 = k + 2 by omega] at this
    rw [this]; rfl
theorem OctAt.laid {w : World} {b n : Nat} {e : Bool} {M : Mx} (h : OctAt w b n e M) (n' : Nat) (e' : Bool) (M' : Mx) : OctAt (w.setCells b 0 (octC n' e' M')) b n' e' M' := by
  have hc : ∀ k (hk : k < 258), (w.setCells b 0 (octC n' e' M')).cell? ⟨b, k, none⟩ = (octC n' e' M')[k]? := fun k hk => by
    have := World.cell?_setCells_in b (octC n' e' M') 0 w (fun j hj => by rw [Nat.zero_add]; rw [octC_len] at hj; exact h.some j hj) k (by rw [octC_len]; exact hk)
    rw [Nat.zero_add] at this
    rw [this, List.getElem?_eq_getElem]
  refine ⟨by rw [hc 0 (by omega)]; rfl, by rw [hc 1 (by omega)]; rfl, fun i j hi hj => ?_, fun k => by rw [World.frozen?_setCells]; exact h.hf k⟩
  rw [hc _ (by omega), show 2 + i * 16 + j = 2 + (i * 16 + j) by omega, octC_at n' e' M' _ (by omega), show (i * 16 + j) / 16 = i by omega, show (i * 16 + j) % 16 = j by omega]
set_option maxRecDepth 100000 in
theorem ostore2 (b n : Nat) (e : Bool) (M : Mx) (n' : Nat) (e' : Bool) (M' : Mx) (w : World) (h : OctAt w b n e M) : (Instr.storeAt 70 (.pointer (some ⟨b, 0, none⟩)) (.agg (octC n' e' M').toArray)).run Try.prog w = .ok () (w.setCells b 0 (octC n' e' M')) := by
  have := run_storeAt_mid (P := Try.prog) w b 0 70 (octC n' e' M').toArray (fun j hj => by
    rw [List.size_toArray, octC_len] at hj
    rw [Nat.zero_add]
    exact ⟨h.some j hj, h.hf j⟩) (by rw [List.size_toArray, octC_len]; kernel_rfl) (by
    rw [Array.all_eq_true']
    intro x hx
    simp only [octC, List.mem_toArray, List.mem_cons, List.mem_map] at hx
    rcases hx with rfl | rfl | ⟨k, _, rfl⟩ <;> rfl)
  exact this
set_option maxRecDepth 100000 in
theorem ozero (n : Nat) : (#[.int .i64 n, .bool true] ++ Array.replicate 256 (.int .i64 0) : Array Value) = (octC n true (fun _ _ => 0)).toArray := by
  apply Array.toList_inj.1
  simp [octC, List.map_const']
set_option maxRecDepth 100000 in
set_option maxHeartbeats 800000 in
theorem odrain (b n : Nat) (e : Bool) (M : Mx) (w : World) (h : OctAt w b n e M) :
    Calls Try.prog 57 #[.pointer (some ⟨b, 0, none⟩)] w fun r w' => r = .returned (.tuple #[]) ∧ OctAt w' b n true (fun _ _ => 0) ∧ Onl b w w' := by
  have hv := h.hv
  have h1 := ostore2 b n e M n true (fun _ _ => 0) w h
  have h2 := h.laid n true (fun _ _ => 0)
  have h3 := setCells_onl b (octC n true (fun _ _ => 0)) 0 w
  have hz := ozero n
  generalize w.setCells b 0 (octC n true (fun _ _ => 0)) = W at *
  generalize (octC n true (fun _ _ => 0)).toArray = C at *
  clear h
  go_enter Try.func57, Try.ntmps57
  iterate 17 go_step
  refine wpList_build rfl 70 _ rfl (by kernel_rfl) ?_
  generalize hV : (Program.built Try.prog 70 _).getD #[] = V
  have hV2 : V = #[.int .i64 n, .bool true] ++ Array.replicate 256 (.int .i64 0) := hV.symm.trans (by kernel_rfl)
  rw [hz] at hV2
  subst hV2
  go_step
  go_step
  go_step
  go_step
  refine wp_store_by 70 (.tmp 8) (.tmp 7) rfl _ _ rfl rfl h1 ?_
  go_wp2_with fail
  exact bodyPost_end (results_none rfl _ _ _) rfl ⟨rfl, h2, h3⟩
end Go.Proofs.Ytpcbammncaeimaa

namespace Go.Proofs.Ytpcbammncaeimaa
open Go.RowKit
set_option linter.unusedVariables false
set_option linter.unusedSimpArgs false
def rdE (W : World) (b : Nat) : Bool := match W.cell? ⟨b, 1, none⟩ with | some (.bool e) => e | _ => false
theorem OctAt.rdE {W : World} {b n : Nat} {e : Bool} {M : Mx} (h : OctAt W b n e M) : rdE W b = e := by
  unfold Go.Proofs.Ytpcbammncaeimaa.rdE
  rw [h.he]
def msr (n : Nat) (W : World) (b : Nat) : Nat := if rdE W b = true then 0 else gap n (rdM W b) (fun _ => -137438953472) + 1
theorem msr_f {W : World} {b n : Nat} {M : Mx} (hn : n ≤ 8) (h : OctAt W b n false M) : msr n W b = gap n M (fun _ => -137438953472) + 1 := by
  unfold msr
  rw [h.rdE, if_neg (by simp), gap_agr (h.rd hn)]
theorem msr_t {W : World} {b n : Nat} {M : Mx} (h : OctAt W b n true M) : msr n W b = 0 := by
  unfold msr
  rw [h.rdE, if_pos rfl]
structure Cw (n : Nat) (S A : Mx) : Prop where
  up : ∀ a b, a < 2 * n → b < 2 * n → A a b ≤ 68719476736
  lo : ∀ a b, a < 2 * n → b < 2 * n → -274877906944 ≤ A a b
  le : Le n A S
  ab : ∀ T, Cl n T → Le n T S → Le n T A
theorem Agr.pos {n : Nat} {A B : Mx} (h : Agr n A B) (p : Pos n A) : Pos n B := fun a ha => by rw [← h a _ ha (ot_lt ha)]; exact p a ha
theorem Cw.step {n : Nat} {S A C : Mx} (h : Cw n S A) (hp : ∀ j, j ≤ 2 * n → Pos n (govs A j)) (hC : Agr n C (hlv (govs A (2 * n)))) : Cw n S C where
  up := fun a b ha hb => by rw [hC a b ha hb]; exact Int.le_trans (hlv_le _ _ _) (Int.le_trans (govs_le A a b _) (h.up a b ha hb))
  lo := fun a b ha hb => by
    rw [hC a b ha hb]
    have h1 := govs_end h.up hp ha hb
    have h2 := govs_end h.up hp ha ha
    have h3 := govs_end h.up hp hb hb
    unfold hlv fh
    omega
  le := fun a b ha hb => by rw [hC a b ha hb]; exact Int.le_trans (hlv_le _ _ _) (Int.le_trans (govs_le A a b _) (h.le a b ha hb))
  ab := fun T c l a b ha hb => by rw [hC a b ha hb]; exact hlv_abv c (govs_abv c (h.ab T c l) _ (Nat.le_refl _)) a b ha hb
set_option maxRecDepth 100000 in
set_option maxHeartbeats 3200000 in
theorem otightE (b n : Nat) (hn : n ≤ 8) (S : Mx) (hU : ∀ a c, a < 2 * n → c < 2 * n → S a c ≤ 68719476736) (hL : ∀ a c, a < 2 * n → c < 2 * n → -68719476736 ≤ S a c) (w : World) (h : OctAt w b n false S) :
    Calls Try.prog 59 #[.pointer (some ⟨b, 0, none⟩)] w fun r w' => r = .returned (.tuple #[]) ∧ (∃ e T, OctAt w' b n e T ∧ Res n S e T) ∧ Onl b w w' := by
  obtain ⟨m, hm⟩ : ∃ m, 2 * n = m := ⟨_, rfl⟩
  have h16 : m ≤ 16 := by omega
  have k1 := fun V M hV => osides b n m false M hm h16 V hV
  have kg := fun V M k hk hd hs hV => ogo b n m false M hm h16 k hk hd hs V hV
  have kg2 := fun V M k hk hV => ogo2 b n m false M hm h16 k hk V hV
  have kc := fun V M hV => ocon2 b n m false M hm h16 V hV
  have kd := fun V M hV => odrain b n false M V hV
  have kh := fun V M hs hV => ohal b n m false M hm h16 hs V hV
  have hm' : Hid (2 * n = m) := hm
  have hC : Cw n S S := ⟨hU, fun a c ha hc => by have := hL a c ha hc; omega, Le.refl _ _, fun T _ l => l⟩
  clear hU hL
  go_enter Try.func59, Try.ntmps59
  go_wp2_with fail
  refine wp_scope_straight ?_
  go_wp2_with fail
  refine wp_label ?_
  go_wp2_with fail
  go_loopw [3] (fun p wr => ∃ (WR : World), WR = wr ∧ ((∃ A, OctAt wr b n false A ∧ Hid (Cw n S A)) ∨ (OctAt wr b n true (fun _ _ => 0) ∧ Hid (Non n S))) ∧ Onl b w wr) (fun _ wr => msr n wr b)
  case atStart => exact ⟨_, rfl, Or.inl ⟨S, h, hC⟩, Onl.refl _ _⟩
  case round =>
    clear h hC
    obtain ⟨WR, rfl, ⟨A, hO, hA⟩ | ⟨hO, hN⟩, cc⟩ := hrel
    · have he := hO.he
      have hms : Hid (msr n WR b = gap n A (fun _ => -137438953472) + 1) := msr_f hn hO
      clear hm
      go_wp2_with (first
        | (go_at_call 41; refine (k1 _ _ hO).mono ?_; rintro r w2 ⟨rfl, hw2⟩; subst w2)
        | fail)
      go_loopw [10] (fun i wr => ∃ (WS : World) (k : Nat) (B : Mx), WS = wr ∧ k ≤ m ∧ i = .int .i64 k ∧ OctAt wr b n false B ∧ Hid (Agr n B (govs A k)) ∧ Hid (∀ j, j < k → Pos n (govs A j)) ∧ Hid (0 < k → Pos n (govs A k)) ∧ Onl b w wr) (fun i _ => m - (intOf i).toNat)
      case atStart => exact ⟨_, 0, A, rfl, by omega, rfl, hO, (fun a c _ _ => rfl), (fun j hj => by omega), (fun q => by omega), cc⟩
      case round =>
        clear hO cc he
        obtain ⟨WS, k, B, rfl, hk, rfl, hO, hB, hPj, hPk, cc⟩ := hrel
        by_cases ck : k < m
        · have ck' : (k : Int) < (m : Int) := by omega
          have wc : IntKind.i64.wrap ((k : Int) + 1) = ((k + 1 : Nat) : Int) := by rw [IntKind.wrap_i64]; omega
          by_cases hpos : Pos n (govs A k)
          · have hPk2 : Hid (∀ j, j < k + 1 → Pos n (govs A j)) := fun j hj => by
              by_cases q : j = k
              · rw [q]; exact hpos
              · exact hPj.out j (by omega)
            have pB : Pos n B := hB.out.symm.pos hpos
            have hd : 0 ≤ B (ot k) k := by
              have := pB (ot k) (ot_lt (by have := hm'.out; omega))
              rwa [ot_ot] at this
            have hs : ∀ a c, a < m → c < m → -4611686018427387904 ≤ B a c ∧ B a c ≤ 4611686018427387903 := fun a c ha hc => by
              have e1 := hm'.out
              rw [hB.out a c (by omega) (by omega)]
              have l1 := govs_low hA.out.up hA.out.lo (by omega) k (by omega) (fun j hj => hPk2.out j (by omega)) a c (by omega) (by omega)
              have l2 := Int.le_trans (govs_le A a c k) (hA.out.up a c (by omega) (by omega))
              omega
            have hB3 : Hid (Agr n (pm m m 0 (gov B k) B) (govs A (k + 1))) := by
              rw [← hm'.out]
              exact (pm_agr n _ _).trans (hB.out.gov (by have := hm'.out; omega))
            have q1 := kg _ _ k ck hd hs hO
            have q2 := fun V hV => kc V (pm m m 0 (gov B k) B) hV
            have q3 := fun V hV => kd V (pm m m 0 (gov B k) B) hV
            clear hB pB hd hs hO kg kg2 kc kh k1 kd hPj hPk hpos
            generalize pm m m 0 (gov B k) B = C at *
            go_wp2_with (first
              | (go_at_call 87; refine q1.mono ?_; rintro r w2 ⟨rfl, hO, c2⟩; replace cc := cc.trans c2; clear c2)
              | (go_at_call 88; refine (q2 _ hO).mono ?_; rintro r w3 ⟨⟨l, rfl, l0, l1⟩, k9, rfl⟩; replace hO := hO.drewN k9; replace cc := cc.drewN k9; cases l)
              | (go_at_call 57; refine (q3 _ hO).mono ?_; rintro r w4 ⟨rfl, hO4, c4⟩; replace cc := cc.trans c4; clear c4)
              | fail)
            · have hl := l0 (by first | rfl | trivial)
              refine ⟨⟨_, k + 1, C, rfl, by omega, by simp, hO, hB3, hPk2, (fun _ => hB3.out.pos fun a ha => hl a (by have := hm'.out; omega)), cc⟩, by simp [intOf]; omega⟩
            · obtain ⟨a, ha, hl⟩ := l1 (by first | rfl | trivial)
              have hN : Non n S := by
                have e1 := hm'.out
                have hk1 : k + 1 ≤ 2 * n := by omega
                refine non_of (X := govs A (k + 1)) (fun T c l => govs_abv c (hA.out.ab T c l) (k + 1) hk1) (a := a) (by omega) ?_
                rw [← hB3.out a (ot a) (by omega) (ot_lt (by omega))]
                exact hl
              exact ⟨⟨_, rfl, Or.inr ⟨hO4, hN⟩, cc⟩, by rw [hms.out, msr_t hO4]; omega⟩
          · have hk0 : k = 0 := by
              by_cases q : 0 < k
              · exact absurd (hPk.out q) hpos
              · omega
            subst hk0
            have hneg : Hid (∃ a, a < m ∧ B a (ot a) < 0) := by
              refine Classical.byContradiction fun q => hpos fun a ha => ?_
              rw [← hB.out a _ ha (ot_lt ha)]
              refine Int.not_lt.1 fun r => q ⟨a, by have := hm'.out; omega, r⟩
            have q1 := kg2 _ _ 0 ck hO
            have q2 := fun V X hV => kc V X hV
            have q3 := fun V X hV => kd V X hV
            clear hO kg kg2 kc kh k1 kd hPj hPk hpos
            go_wp2_with (first
              | (go_at_call 87; refine q1.mono ?_; rintro r w2 ⟨rfl, ⟨X, hO, hX⟩, c2⟩; replace cc := cc.trans c2; clear c2)
              | (go_at_call 88; refine (q2 _ _ hO).mono ?_; rintro r w3 ⟨⟨l, rfl, l0, l1⟩, k9, rfl⟩; replace hO := hO.drewN k9; replace cc := cc.drewN k9; cases l)
              | (go_at_call 57; refine (q3 _ _ hO).mono ?_; rintro r w4 ⟨rfl, hO4, c4⟩; replace cc := cc.trans c4; clear c4)
              | fail)
            · have hl := l0 (by first | rfl | trivial)
              obtain ⟨a, ha, hlt⟩ := hneg.out
              have e1 := hm'.out
              have := hX a (ot a) ha (by have := ot_lt (n := n) (a := a) (by omega); omega)
              have := hl a ha
              omega
            · have hN : Non n S := by
                obtain ⟨a, ha, hlt⟩ := hneg.out
                have e1 := hm'.out
                refine non_of (X := A) (fun T c l => hA.out.ab T c l) (a := a) (by omega) ?_
                rw [show A a (ot a) = B a (ot a) from (hB.out a (ot a) (by omega) (ot_lt (by omega))).symm]
                exact hlt
              exact ⟨⟨_, rfl, Or.inr ⟨hO4, hN⟩, cc⟩, by rw [hms.out, msr_t hO4]; omega⟩
        · have ek : k = m := by omega
          subst ek
          clear ck hk
          have ek := hm'.out
          have hP : Hid (∀ j, j ≤ 2 * n → Pos n (govs A j)) := fun j hj => by
            by_cases q : j = k
            · subst q
              by_cases q0 : 0 < j
              · exact hPk.out q0
              · intro a ha; omega
            · exact hPj.out j (by omega)
          have hs : ∀ a c, a < k → c < k → -4611686018427387904 ≤ B a c ∧ B a c ≤ 4611686018427387903 := fun a c ha hc => by
            rw [hB.out a c (by omega) (by omega)]
            have l1 := govs_low hA.out.up hA.out.lo (by omega) k (by omega) (fun j hj => hP.out j (by omega)) a c (by omega) (by omega)
            have l2 := Int.le_trans (govs_le A a c k) (hA.out.up a c (by omega) (by omega))
            omega
          have q1 := kh _ _ hs hO
          have hH : Hid (Agr n (pm k k 0 (hlv B) B) (hlv (govs A k))) := by
            have := (pm_agr n (hlv B) B).trans hB.out.hlv
            rw [ek] at this
            exact this
          have hstep : (∃ a c, a < k ∧ c < k ∧ hlv B a c < B a c) → Hid (∃ a c, a < 2 * n ∧ c < 2 * n ∧ hlv (govs A k) a c < govs A k a c) := fun ⟨a, c, ha, hc, hl⟩ => ⟨a, c, by omega, by omega, by rw [← hB.out.hlv a c (by omega) (by omega), ← hB.out a c (by omega) (by omega)]; exact hl⟩
          have hlast : (∀ a c, a < k → c < k → hlv B a c = B a c) → Hid (∀ a c, a < 2 * n → c < 2 * n → hlv (govs A k) a c = govs A k a c) := fun hl a c ha hc => by rw [← hB.out.hlv a c ha hc, ← hB.out a c ha hc]; exact hl a c (by omega) (by omega)
          clear ek hs hO hB kg kg2 kc kd kh k1 hPj hPk
          generalize hC : pm k k 0 (hlv B) B = C at *
          clear hC
          generalize hlv B = HB at *
          go_upto_region 8 with fail
          go_wp2_with (first
            | (go_at_call 89; refine q1.mono ?_; rintro r w2 ⟨⟨l, rfl, l0, l1⟩, hO, c2⟩; replace cc := cc.trans c2; clear c2; cases l)
            | fail)
          · have hl := (hlast (l0 (by first | rfl | trivial))).out
            have e1 := hm'.out
            have hT : Bst n S C := (code_last hA.out.le hA.out.ab hP.out (fun a c ha hc => by rw [e1]; exact hl a c ha hc)).to fun a c ha hc => by rw [e1, ← hl a c ha hc]; exact (hH.out a c ha hc).symm
            refine (show ∀ (Q : Exit → Act → World → Prop) (a : Act) (W : World), Q .ret a W → Exit.noGoto Q .ret a W from fun _ _ _ q => q) _ _ _ ?_
            exact bodyPost_ret (results_none rfl _ _ _) rfl ⟨rfl, ⟨false, C, hO, Or.inl ⟨rfl, hT⟩⟩, cc⟩
          · obtain ⟨x, y, hx, hy, hl⟩ := (hstep (l1 (by first | rfl | trivial))).out
            have e1 := hm'.out
            have hC2 : Cw n S C := hA.out.step hP.out (by rw [e1]; exact hH.out)
            refine ⟨⟨_, rfl, Or.inl ⟨C, hO, hC2⟩, cc⟩, ?_⟩
            rw [hms.out, msr_f hn hO]
            have := gap_lt2 (n := n) (K := 137438953472) (M := A) (M' := C) (fun a c ha hc => by rw [hH.out a c ha hc]; exact Int.le_trans (hlv_le _ _ _) (govs_le A a c k)) hx hy (by rw [hH.out x y hx hy]; exact Int.lt_of_lt_of_le hl (govs_le A x y k)) (by have := hC2.lo x y hx hy; omega)
            omega
    · have he := hO.he
      clear k1 kg kg2 kc kd kh
      go_wp2_with fail
      refine (show ∀ (Q : Exit → Act → World → Prop) (a : Act) (W : World), Q .normal a W → Exit.noGoto Q .normal a W from fun _ _ _ q => q) _ _ _ ?_
      exact bodyPost_end (results_none rfl _ _ _) rfl ⟨rfl, ⟨true, _, hO, Or.inr ⟨rfl, hN.out⟩⟩, cc⟩
set_option maxRecDepth 100000 in
theorem otightX (b n : Nat) (M : Mx) (w : World) (h : OctAt w b n true M) :
    Calls Try.prog 59 #[.pointer (some ⟨b, 0, none⟩)] w fun r w' => r = .returned (.tuple #[]) ∧ OctAt w' b n true M ∧ Onl b w w' := by
  have he := h.he
  go_enter Try.func59, Try.ntmps59
  go_wp2_with fail
  refine wp_scope_straight ?_
  go_wp2_with fail
  refine wp_label ?_
  go_wp2_with fail
  go_loopw [3] (fun p wr => wr = w) (fun _ _ => 0)
  case atStart => rfl
  case round =>
    subst hrel
    go_wp2_with fail
    refine (show ∀ (Q : Exit → Act → World → Prop) (a : Act) (W : World), Q .normal a W → Exit.noGoto Q .normal a W from fun _ _ _ q => q) _ _ _ ?_
    exact bodyPost_end (results_none rfl _ _ _) rfl ⟨rfl, h, Onl.refl _ _⟩
end Go.Proofs.Ytpcbammncaeimaa

