/- Bounds of sums of two sides: lowered over others and by halves; plain numbers alone. -/
import Derived.Below
namespace Go.Proofs.Ytpcbammncaeimaa
set_option linter.unusedVariables false
/-- The side of the same variable with the other sign. -/
def ot (a : Nat) : Nat := if a % 2 = 0 then a + 1 else a - 1
theorem ot_ot (a : Nat) : ot (ot a) = a := by unfold ot; split <;> split <;> omega
theorem ot_lt {a n : Nat} (h : a < 2 * n) : ot a < 2 * n := by unfold ot; split <;> omega
/-- A bound for each two sides. -/
abbrev Mx := Nat → Nat → Int
/-- A half, not above it. -/
def fh (x : Int) : Int := x / 2
/-- Values of sides that are a point's, and fit bounds. -/
def Fit (n : Nat) (M : Mx) (u : Nat → Int) : Prop := (∀ a, u (ot a) = - u a) ∧ ∀ a b, a < 2 * n → b < 2 * n → u a + u b ≤ M a b
def Via (n : Nat) (M : Mx) (k : Nat) : Prop := ∀ a b, a < 2 * n → b < 2 * n → M a b ≤ M a k + M (ot k) b
def Clo (n : Nat) (M : Mx) : Prop := ∀ k, k < 2 * n → Via n M k
def Hal (n : Nat) (M : Mx) : Prop := ∀ a b, a < 2 * n → b < 2 * n → M a b ≤ fh (M a a) + fh (M b b)
/-- Bounds lowered over one side. -/
def gov (M : Mx) (k : Nat) : Mx := fun a b => min (M a b) (M a k + M (ot k) b)
/-- Bounds lowered by halves. -/
def hlv (M : Mx) : Mx := fun a b => min (M a b) (fh (M a a) + fh (M b b))
theorem Fit.opp {n : Nat} {M : Mx} {u : Nat → Int} (h : Fit n M u) {a : Nat} (ha : a < 2 * n) : 0 ≤ M a (ot a) := by
  have := h.2 a (ot a) ha (ot_lt ha)
  rw [h.1 a] at this
  omega
theorem gov_fit {n : Nat} {M : Mx} {u : Nat → Int} {k : Nat} (hk : k < 2 * n) (h : Fit n M u) : Fit n (gov M k) u := by
  refine ⟨h.1, fun a b ha hb => ?_⟩
  have h1 := h.2 a b ha hb
  have h2 := h.2 a k ha hk
  have h3 := h.2 (ot k) b (ot_lt hk) hb
  rw [h.1 k] at h3
  unfold gov
  omega
theorem gov_le (M : Mx) (k a b : Nat) : gov M k a b ≤ M a b := by unfold gov; omega
theorem gov_row {M : Mx} {k : Nat} (h : 0 ≤ M (ot k) k) (b : Nat) : gov M k (ot k) b = M (ot k) b := by unfold gov; omega
theorem gov_col {M : Mx} {k : Nat} (h : 0 ≤ M (ot k) k) (a : Nat) : gov M k a k = M a k := by unfold gov; omega
theorem gov_via {n : Nat} {M : Mx} {k : Nat} (h : 0 ≤ M (ot k) k) : Via n (gov M k) k := fun a b ha hb => by
  rw [gov_col h, gov_row h]
  unfold gov
  omega
theorem gov_keep {n : Nat} {M : Mx} {k c : Nat} (hk : k < 2 * n) (hc : c < 2 * n) (h : 0 ≤ M (ot k) k) (v : Via n M c) : Via n (gov M k) c := fun a b ha hb => by
  have h1 := v a b ha hb
  have h2 := v a k ha hk
  have h3 := v (ot k) b (ot_lt hk) hb
  have h4 := v (ot k) k (ot_lt hk) hk
  unfold gov
  omega
theorem gov_same {n : Nat} {M : Mx} {k : Nat} (v : Via n M k) {a b : Nat} (ha : a < 2 * n) (hb : b < 2 * n) : gov M k a b = M a b := by
  have := v a b ha hb
  unfold gov
  omega
theorem fh_le {x y : Int} (h : 2 * y ≤ x) : y ≤ fh x := by unfold fh; omega
theorem hlv_fit {n : Nat} {M : Mx} {u : Nat → Int} (h : Fit n M u) : Fit n (hlv M) u := by
  refine ⟨h.1, fun a b ha hb => ?_⟩
  have h1 := h.2 a b ha hb
  have h2 := fh_le (show 2 * u a ≤ M a a by have := h.2 a a ha ha; omega)
  have h3 := fh_le (show 2 * u b ≤ M b b by have := h.2 b b hb hb; omega)
  unfold hlv
  omega
theorem hlv_le (M : Mx) (a b : Nat) : hlv M a b ≤ M a b := by unfold hlv; omega
theorem hlv_fh (M : Mx) (a : Nat) : fh (hlv M a a) = fh (M a a) := by unfold hlv fh; omega
theorem hlv_same {n : Nat} {M : Mx} (h : Hal n M) {a b : Nat} (ha : a < 2 * n) (hb : b < 2 * n) : hlv M a b = M a b := by
  have := h a b ha hb
  unfold hlv
  omega
/-- All sides, one behind the other. -/
def govs (M : Mx) : Nat → Mx
  | 0 => M
  | k + 1 => gov (govs M k) k
theorem govs_fit {n : Nat} {M : Mx} {u : Nat → Int} (h : Fit n M u) : ∀ k, k ≤ 2 * n → Fit n (govs M k) u
  | 0, _ => h
  | k + 1, hk => gov_fit (by omega) (govs_fit h k (by omega))
theorem govs_le (M : Mx) (a b : Nat) : ∀ k, govs M k a b ≤ M a b
  | 0 => Int.le_refl _
  | k + 1 => Int.le_trans (gov_le _ _ _ _) (govs_le M a b k)
theorem govs_clo {n : Nat} {M : Mx} {u : Nat → Int} (h : Fit n M u) : ∀ k, k ≤ 2 * n → ∀ c, c < k → Via n (govs M k) c
  | 0, _, c, hc => by omega
  | k + 1, hk, c, hc => by
    have f := govs_fit h k (by omega)
    have o := f.opp (show ot k < 2 * n from ot_lt (by omega))
    rw [ot_ot] at o
    by_cases e : c = k
    · subst e
      exact gov_via o
    · exact gov_keep (by omega) (by omega) o (govs_clo h k (by omega) c (by omega))
theorem govs_same {n : Nat} {M : Mx} (h : Clo n M) {a b : Nat} (ha : a < 2 * n) (hb : b < 2 * n) : ∀ k, k ≤ 2 * n → govs M k a b = M a b
  | 0, _ => rfl
  | k + 1, hk => by
    have v := h k (by omega) a b ha hb
    show min (govs M k a b) (govs M k a k + govs M k (ot k) b) = M a b
    rw [govs_same h ha hb k (by omega), govs_same h ha (show k < 2 * n by omega) k (by omega), govs_same h (ot_lt (show k < 2 * n by omega)) hb k (by omega)]
    omega
/-- What tighten leaves. -/
structure Tgt (n : Nat) (M M' : Mx) : Prop where
  le : ∀ a b, a < 2 * n → b < 2 * n → M' a b ≤ M a b
  fit : ∀ u, Fit n M u → Fit n M' u
  clo : Clo n M'
  hal : Hal n M'
  same : Clo n M → Hal n M → ∀ a b, a < 2 * n → b < 2 * n → M' a b = M a b
theorem tgt_last {n : Nat} {M : Mx} {u : Nat → Int} (h : Fit n M u) (hh : ∀ a b, a < 2 * n → b < 2 * n → hlv (govs M (2 * n)) a b = govs M (2 * n) a b) : Tgt n M (govs M (2 * n)) where
  le := fun a b _ _ => govs_le M a b _
  fit := fun u hu => govs_fit hu _ (Nat.le_refl _)
  clo := fun k hk => govs_clo h _ (Nat.le_refl _) k hk
  hal := fun a b ha hb => by have := hh a b ha hb; unfold hlv at this; omega
  same := fun c _ a b ha hb => govs_same c ha hb _ (Nat.le_refl _)
theorem tgt_step {n : Nat} {M M' : Mx} {u : Nat → Int} (h : Fit n M u) {x y : Nat} (hx : x < 2 * n) (hy : y < 2 * n) (hl : hlv (govs M (2 * n)) x y < govs M (2 * n) x y) (t : Tgt n (hlv (govs M (2 * n))) M') : Tgt n M M' where
  le := fun a b ha hb => Int.le_trans (t.le a b ha hb) (Int.le_trans (hlv_le _ _ _) (govs_le M a b _))
  fit := fun u hu => t.fit u (hlv_fit (govs_fit hu _ (Nat.le_refl _)))
  clo := t.clo
  hal := t.hal
  same := fun c hm => by
    exfalso
    have e : ∀ a b, a < 2 * n → b < 2 * n → govs M (2 * n) a b = M a b := fun a b ha hb => govs_same c ha hb _ (Nat.le_refl _)
    have := hm x y hx hy
    unfold hlv at hl
    rw [e x y hx hy, e x x hx hx, e y y hy hy] at hl
    omega
/-- How far bounds are from a point. -/
def gap (n : Nat) (M : Mx) (u : Nat → Int) : Nat := ((List.range (2 * n)).map fun a => ((List.range (2 * n)).map fun b => (M a b - (u a + u b)).toNat).sum).sum
theorem sum_le {l : List Nat} {f g : Nat → Nat} (h : ∀ x ∈ l, f x ≤ g x) : (l.map f).sum ≤ (l.map g).sum := by
  induction l with
  | nil => simp
  | cons x l ih =>
    simp only [List.map_cons, List.sum_cons]
    have := h x (by simp)
    have := ih fun y hy => h y (by simp [hy])
    omega
theorem sum_lt {l : List Nat} {f g : Nat → Nat} (h : ∀ x ∈ l, f x ≤ g x) {y : Nat} (hy : y ∈ l) (hl : f y < g y) : (l.map f).sum < (l.map g).sum := by
  induction l with
  | nil => simp at hy
  | cons x l ih =>
    simp only [List.map_cons, List.sum_cons]
    have h1 := h x (by simp)
    have h2 := sum_le fun y hy => h y (List.mem_cons_of_mem x hy)
    rcases List.mem_cons.1 hy with rfl | hy
    · omega
    · have := ih (fun y hy => h y (by simp [hy])) hy
      omega
theorem gap_lt {n : Nat} {M M' : Mx} {u : Nat → Int} (le : ∀ a b, M' a b ≤ M a b) (h' : Fit n M' u) {x y : Nat} (hx : x < 2 * n) (hy : y < 2 * n) (hl : M' x y < M x y) : gap n M' u < gap n M u := by
  unfold gap
  refine sum_lt (y := x) (fun a _ => sum_le fun b _ => ?_) (by simpa using hx) (sum_lt (y := y) (fun b _ => ?_) (by simpa using hy) ?_)
  · have := le a b; omega
  · have := le x b; omega
  · have := h'.2 x y hx hy; omega
end Go.Proofs.Ytpcbammncaeimaa
