/- Tight bounds: the greatest ones below given ones, or none. Plain numbers alone. -/
import Derived.Test.YtpcbammncaeimaaOcM
namespace Go.Proofs.Ytpcbammncaeimaa
set_option linter.unusedVariables false
/-- Bounds that are not above others. -/
def Le (n : Nat) (A B : Mx) : Prop := ∀ a b, a < 2 * n → b < 2 * n → A a b ≤ B a b
theorem Le.refl (n : Nat) (A : Mx) : Le n A A := fun _ _ _ _ => Int.le_refl _
theorem Le.trans {n : Nat} {A B C : Mx} (h : Le n A B) (k : Le n B C) : Le n A C := fun a b ha hb => Int.le_trans (h a b ha hb) (k a b ha hb)
/-- No side is against its other one. -/
def Pos (n : Nat) (M : Mx) : Prop := ∀ a, a < 2 * n → 0 ≤ M a (ot a)
structure Cl (n : Nat) (T : Mx) : Prop where
  clo : Clo n T
  hal : Hal n T
  pos : Pos n T
/-- The greatest tight bounds below given ones. -/
structure Bst (n : Nat) (S T : Mx) : Prop where
  cl : Cl n T
  le : Le n T S
  top : ∀ T', Cl n T' → Le n T' S → Le n T' T
/-- There are none. -/
def Non (n : Nat) (S : Mx) : Prop := ∀ T', Cl n T' → Le n T' S → False
def Res (n : Nat) (S : Mx) (e : Bool) (T : Mx) : Prop := (e = false ∧ Bst n S T) ∨ (e = true ∧ Non n S)
theorem Res.one {n : Nat} {S S' T T' : Mx} {e e' : Bool} (h : Res n S e T) (h' : Res n S' e' T') (hs : ∀ X, Cl n X → (Le n X S ↔ Le n X S')) : e = e' ∧ (e = false → Le n T T' ∧ Le n T' T) := by
  rcases h with ⟨rfl, b⟩ | ⟨rfl, b⟩ <;> rcases h' with ⟨rfl, b'⟩ | ⟨rfl, b'⟩
  · exact ⟨rfl, fun _ => ⟨b'.top _ b.cl ((hs _ b.cl).1 b.le), b.top _ b'.cl ((hs _ b'.cl).2 b'.le)⟩⟩
  · exact absurd ((hs _ b.cl).1 b.le) (b' _ b.cl)
  · exact absurd ((hs _ b'.cl).2 b'.le) (b _ b'.cl)
  · exact ⟨rfl, fun q => by cases q⟩
theorem Res.at {n : Nat} {S S' T : Mx} {e : Bool} (h : Res n S e T) (hs : ∀ X, Cl n X → (Le n X S ↔ Le n X S')) : Res n S' e T := by
  rcases h with ⟨rfl, b⟩ | ⟨rfl, b⟩
  · exact Or.inl ⟨rfl, b.cl, (hs _ b.cl).1 b.le, fun X hX hl => b.top X hX ((hs _ hX).2 hl)⟩
  · exact Or.inr ⟨rfl, fun X hX hl => b X hX ((hs _ hX).2 hl)⟩
theorem Cl.turn {n : Nat} {T : Mx} (h : Cl n T) : Cl n (fun a b => T b a) where
  clo := fun k hk a b ha hb => by
    have := h.clo (ot k) (ot_lt hk) b a hb ha
    rw [ot_ot] at this
    show T b a ≤ T k a + T b (ot k)
    omega
  hal := fun a b ha hb => by
    have := h.hal b a hb ha
    show T b a ≤ fh (T a a) + fh (T b b)
    omega
  pos := fun a ha => by
    have := h.pos (ot a) (ot_lt ha)
    rw [ot_ot] at this
    exact this
/-- Tight bounds, as they lie between calls. -/
structure Tt (n : Nat) (T : Mx) : Prop where
  cl : Cl n T
  sym : ∀ a b, a < 2 * n → b < 2 * n → T a b = T b a
  opp : ∀ a, a < 2 * n → T a (ot a) = 0
  up : ∀ a b, a < 2 * n → b < 2 * n → T a b ≤ 17179869184
theorem Tt.low {n : Nat} {T : Mx} (h : Tt n T) {a b : Nat} (ha : a < 2 * n) (hb : b < 2 * n) : -17179869184 ≤ T a b := by
  have h1 := h.cl.pos a ha
  have h2 := h.cl.clo b hb a (ot a) ha (ot_lt ha)
  have h3 := h.up (ot b) (ot a) (ot_lt hb) (ot_lt ha)
  omega
theorem Tt.even {n : Nat} {T : Mx} (h : Tt n T) {a : Nat} (ha : a < 2 * n) : T a a = 2 * fh (T a a) := by
  have := h.cl.hal a a ha ha
  unfold fh at this ⊢
  omega
theorem Bst.tt {n : Nat} {S T : Mx} (h : Bst n S T) (sy : ∀ a b, a < 2 * n → b < 2 * n → S a b = S b a) (so : ∀ a, a < 2 * n → S a (ot a) ≤ 0) (su : ∀ a b, a < 2 * n → b < 2 * n → T a b ≤ 17179869184) : Tt n T where
  cl := h.cl
  sym := fun a b ha hb => by
    have ht := h.top _ h.cl.turn (fun x y hx hy => by have := h.le y x hy hx; rw [sy x y hx hy]; exact this)
    have h1 := ht a b ha hb
    have h2 := ht b a hb ha
    simp only at h1 h2
    omega
  opp := fun a ha => by
    have h1 := h.cl.pos a ha
    have h2 := h.le a (ot a) ha (ot_lt ha)
    have h3 := so a ha
    omega
  up := su
theorem Tt.to {n : Nat} {A B : Mx} (h : Tt n A) (q : ∀ a b, a < 2 * n → b < 2 * n → A a b = B a b) : Tt n B where
  cl := {
    clo := fun k hk a b ha hb => by rw [← q a b ha hb, ← q a k ha hk, ← q (ot k) b (ot_lt hk) hb]; exact h.cl.clo k hk a b ha hb
    hal := fun a b ha hb => by rw [← q a b ha hb, ← q a a ha ha, ← q b b hb hb]; exact h.cl.hal a b ha hb
    pos := fun a ha => by rw [← q a _ ha (ot_lt ha)]; exact h.cl.pos a ha }
  sym := fun a b ha hb => by rw [← q a b ha hb, ← q b a hb ha]; exact h.sym a b ha hb
  opp := fun a ha => by rw [← q a _ ha (ot_lt ha)]; exact h.opp a ha
  up := fun a b ha hb => by rw [← q a b ha hb]; exact h.up a b ha hb
/-- What is tight and below stays below. -/
theorem gov_abv {n : Nat} {T M : Mx} (c : Cl n T) (h : Le n T M) {k : Nat} (hk : k < 2 * n) : Le n T (gov M k) := fun a b ha hb => by
  have h1 := h a b ha hb
  have h2 := h a k ha hk
  have h3 := h (ot k) b (ot_lt hk) hb
  have h4 := c.clo k hk a b ha hb
  unfold gov
  omega
theorem fh_mono {x y : Int} (h : x ≤ y) : fh x ≤ fh y := by unfold fh; omega
theorem hlv_abv {n : Nat} {T M : Mx} (c : Cl n T) (h : Le n T M) : Le n T (hlv M) := fun a b ha hb => by
  have h1 := h a b ha hb
  have h2 := fh_mono (h a a ha ha)
  have h3 := fh_mono (h b b hb hb)
  have h4 := c.hal a b ha hb
  unfold hlv
  omega
theorem govs_abv {n : Nat} {T M : Mx} (c : Cl n T) (h : Le n T M) : ∀ k, k ≤ 2 * n → Le n T (govs M k)
  | 0, _ => h
  | k + 1, hk => gov_abv c (govs_abv c h k (by omega)) (by omega)
theorem govs_via {n : Nat} {A : Mx} : ∀ k, k ≤ 2 * n → (∀ j, j < k → Pos n (govs A j)) → ∀ c, c < k → Via n (govs A k) c
  | 0, _, _, c, hc => by omega
  | k + 1, hk, hp, c, hc => by
    have o := hp k (by omega) (ot k) (ot_lt (show k < 2 * n by omega))
    rw [ot_ot] at o
    by_cases e : c = k
    · subst e
      exact gov_via o
    · exact gov_keep (by omega) (by omega) o (govs_via k (by omega) (fun j hj => hp j (by omega)) c (by omega))
theorem col_low {n : Nat} {M : Mx} {U : Int} (hU : ∀ a b, a < 2 * n → b < 2 * n → M a b ≤ U) (hp : Pos n M) {k : Nat} (hk : k < 2 * n) (v : Via n M k) {a : Nat} (ha : a < 2 * n) : -U ≤ M a k ∧ -U ≤ M (ot k) a := by
  constructor
  · have h1 := hp a ha
    have h2 := v a (ot a) ha (ot_lt ha)
    have h3 := hU (ot k) (ot a) (ot_lt hk) (ot_lt ha)
    omega
  · have h1 := hp (ot a) (ot_lt ha)
    rw [ot_ot] at h1
    have h2 := v (ot a) a (ot_lt ha) ha
    have h3 := hU (ot a) k (ot_lt ha) hk
    omega
theorem govs_low {n : Nat} {A : Mx} {U L : Int} (hU : ∀ a b, a < 2 * n → b < 2 * n → A a b ≤ U) (hL : ∀ a b, a < 2 * n → b < 2 * n → -L ≤ A a b) (hUL : 2 * U ≤ L) : ∀ k, k ≤ 2 * n → (∀ j, j ≤ k → Pos n (govs A j)) → ∀ a b, a < 2 * n → b < 2 * n → -L ≤ govs A k a b
  | 0, _, _, a, b, ha, hb => hL a b ha hb
  | k + 1, hk, hp, a, b, ha, hb => by
    have ih := govs_low hU hL hUL k (by omega) (fun j hj => hp j (by omega)) a b ha hb
    have v := govs_via (n := n) (A := A) (k + 1) hk (fun j hj => hp j (by omega)) k (by omega)
    have hU' : ∀ a b, a < 2 * n → b < 2 * n → govs A (k + 1) a b ≤ U := fun a b ha hb => Int.le_trans (govs_le A a b _) (hU a b ha hb)
    have kk : k < 2 * n := by omega
    have c1 := (col_low hU' (hp (k + 1) (by omega)) kk v ha).1
    have c2 := (col_low hU' (hp (k + 1) (by omega)) kk v hb).2
    have o := hp k (by omega) (ot k) (ot_lt kk)
    rw [ot_ot] at o
    have e1 : govs A (k + 1) a k = govs A k a k := gov_col o a
    have e2 : govs A (k + 1) (ot k) b = govs A k (ot k) b := gov_row o b
    have e3 : govs A (k + 1) a b = min (govs A k a b) (govs A k a k + govs A k (ot k) b) := rfl
    omega
theorem govs_end {n : Nat} {A : Mx} {U : Int} (hU : ∀ a b, a < 2 * n → b < 2 * n → A a b ≤ U) (hp : ∀ j, j ≤ 2 * n → Pos n (govs A j)) {a b : Nat} (ha : a < 2 * n) (hb : b < 2 * n) : -U ≤ govs A (2 * n) a b :=
  (col_low (fun a b ha hb => Int.le_trans (govs_le A a b _) (hU a b ha hb)) (hp _ (Nat.le_refl _)) hb (govs_via _ (Nat.le_refl _) (fun j hj => hp j (by omega)) b hb) ha).1
theorem gap_lt2 {n : Nat} {K : Int} {M M' : Mx} (le : ∀ a b, a < 2 * n → b < 2 * n → M' a b ≤ M a b) {x y : Nat} (hx : x < 2 * n) (hy : y < 2 * n) (hl : M' x y < M x y) (hK : -(2 * K) ≤ M' x y) : gap n M' (fun _ => -K) < gap n M (fun _ => -K) := by
  unfold gap
  refine sum_lt (y := x) (fun a ha => sum_le fun b hb => ?_) (by simpa using hx) (sum_lt (y := y) (fun b hb => ?_) (by simpa using hy) ?_)
  · have := le a b (by simpa using ha) (by simpa using hb); omega
  · have := le x b hx (by simpa using hb); omega
  · show (M' x y - (-K + -K)).toNat < (M x y - (-K + -K)).toNat
    omega
/-- What the code's tighten does, in plain numbers. -/
theorem code_last {n : Nat} {S A : Mx} (hle : Le n A S) (hab : ∀ T, Cl n T → Le n T S → Le n T A) (hp : ∀ j, j ≤ 2 * n → Pos n (govs A j)) (hh : ∀ a b, a < 2 * n → b < 2 * n → hlv (govs A (2 * n)) a b = govs A (2 * n) a b) : Bst n S (govs A (2 * n)) where
  cl := { clo := fun k hk => govs_via _ (Nat.le_refl _) (fun j hj => hp j (by omega)) k hk
          hal := fun a b ha hb => by have := hh a b ha hb; unfold hlv at this; omega
          pos := hp _ (Nat.le_refl _) }
  le := fun a b ha hb => Int.le_trans (govs_le A a b _) (hle a b ha hb)
  top := fun T c h => govs_abv c (hab T c h) _ (Nat.le_refl _)
theorem Bst.to {n : Nat} {S T T' : Mx} (h : Bst n S T) (q : ∀ a b, a < 2 * n → b < 2 * n → T a b = T' a b) : Bst n S T' where
  cl := {
    clo := fun k hk a b ha hb => by rw [← q a b ha hb, ← q a k ha hk, ← q (ot k) b (ot_lt hk) hb]; exact h.cl.clo k hk a b ha hb
    hal := fun a b ha hb => by rw [← q a b ha hb, ← q a a ha ha, ← q b b hb hb]; exact h.cl.hal a b ha hb
    pos := fun a ha => by rw [← q a _ ha (ot_lt ha)]; exact h.cl.pos a ha }
  le := fun a b ha hb => by rw [← q a b ha hb]; exact h.le a b ha hb
  top := fun X c l a b ha hb => by rw [← q a b ha hb]; exact h.top X c l a b ha hb
theorem non_of {n : Nat} {S X : Mx} (hab : ∀ T, Cl n T → Le n T S → Le n T X) {a : Nat} (ha : a < 2 * n) (hn : X a (ot a) < 0) : Non n S := fun T c l => by
  have h1 := hab T c l a (ot a) ha (ot_lt ha)
  have h2 := c.pos a ha
  omega
end Go.Proofs.Ytpcbammncaeimaa
