/- A shift, and back: plain numbers. -/
import Derived.Test.YtdfbmafeemflaaaOcU
import Derived.Test.YtdfbmafeemflaaaOcV
namespace Go.Proofs.Ytdfbmafeemflaaa
open Go.RowKit
set_option linter.unusedVariables false
set_option linter.unusedSimpArgs false
theorem fr_ot (g : Bool) (i a : Nat) : fr g i (ot a) = ot (fr g i a) := by
  have e : ot a / 2 = a / 2 := by unfold ot; split <;> omega
  unfold fr
  rw [e]
  split <;> rfl
theorem gn_ot (i : Nat) (c : Int) (a : Nat) : gn i c (ot a) = - gn i c a := by
  unfold gn ot
  by_cases h1 : a = 2 * i
  · rw [if_pos (show a % 2 = 0 by omega), if_neg (by omega), if_pos (by omega), if_pos h1]
  · by_cases h2 : a = 2 * i + 1
    · rw [if_neg (show ¬ a % 2 = 0 by omega), if_pos (by omega), if_neg h1, if_pos h2]
      omega
    · rw [if_neg h1, if_neg h2]
      split
      · rw [if_neg (by omega), if_neg (by omega)]; rfl
      · rw [if_neg (by omega), if_neg (by omega)]; rfl
theorem gn_bd {i : Nat} {c B : Int} (h1 : -B ≤ c) (h2 : c ≤ B) (a : Nat) : -B ≤ gn i c a ∧ gn i c a ≤ B := by unfold gn; split <;> (try split) <;> omega
theorem mv_clo {n : Nat} {M : Mx} (g : Bool) (i : Nat) (c : Int) (h : Clo n M) : Clo n (mv g i c M) := fun k hk a b ha hb => by
  have := h (fr g i k) (fr_lt2 hk) (fr g i a) (fr g i b) (fr_lt2 ha) (fr_lt2 hb)
  have e := gn_ot i c k
  show M (fr g i a) (fr g i b) + gn i c a + gn i c b ≤ M (fr g i a) (fr g i k) + gn i c a + gn i c k + (M (fr g i (ot k)) (fr g i b) + gn i c (ot k) + gn i c b)
  rw [fr_ot]
  omega
theorem mv_hal {n : Nat} {M : Mx} (g : Bool) (i : Nat) (c : Int) (h : Hal n M) : Hal n (mv g i c M) := fun a b ha hb => by
  have := h (fr g i a) (fr g i b) (fr_lt2 ha) (fr_lt2 hb)
  unfold fh at *
  show M (fr g i a) (fr g i b) + gn i c a + gn i c b ≤ (M (fr g i a) (fr g i a) + gn i c a + gn i c a) / 2 + (M (fr g i b) (fr g i b) + gn i c b + gn i c b) / 2
  omega
theorem mv_fit {n : Nat} {M : Mx} {u : Nat → Int} (g : Bool) (i : Nat) (c : Int) (h : Fit n M u) : Fit n (mv g i c M) (fun a => u (fr g i a) + gn i c a) := by
  refine ⟨fun a => ?_, fun a b ha hb => ?_⟩
  · show u (fr g i (ot a)) + gn i c (ot a) = -(u (fr g i a) + gn i c a)
    rw [fr_ot, gn_ot, h.1]
    omega
  · have := h.2 _ _ (fr_lt2 (g := g) (i := i) ha) (fr_lt2 (g := g) (i := i) hb)
    show u (fr g i a) + gn i c a + (u (fr g i b) + gn i c b) ≤ M (fr g i a) (fr g i b) + gn i c a + gn i c b
    omega
/-- What brings a shift back. -/
def bk (g : Bool) (c : Int) : Int := if g then c else -c
theorem fr_fr (g : Bool) (i a : Nat) : fr g i (fr g i a) = a := by
  unfold fr
  split
  · rename_i h
    rw [if_pos ⟨h.1, by have : ot a / 2 = a / 2 := (by unfold ot; split <;> omega); omega⟩, ot_ot]
  · first | rfl | (rename_i h; rw [if_neg h])
theorem gn_bk (g : Bool) (i : Nat) (c : Int) (a : Nat) : gn i c (fr g i a) + gn i (bk g c) a = 0 := by
  unfold bk
  cases g
  · simp only [Bool.false_eq_true, if_false, fr, false_and]
    unfold gn
    split
    · omega
    · split <;> omega
  · simp only [if_true]
    by_cases h : a / 2 = i
    · rw [show fr true i a = ot a from if_pos ⟨rfl, h⟩, gn_ot]
      omega
    · rw [show fr true i a = a from if_neg fun q => h q.2]
      unfold gn
      rw [if_neg (by omega), if_neg (by omega)]
      rfl
theorem mv_bk (g : Bool) (i : Nat) (c : Int) (M : Mx) (a b : Nat) : mv g i (bk g c) (mv g i c M) a b = M a b := by
  have h1 := gn_bk g i c a
  have h2 := gn_bk g i c b
  show M (fr g i (fr g i a)) (fr g i (fr g i b)) + gn i c (fr g i a) + gn i c (fr g i b) + gn i (bk g c) a + gn i (bk g c) b = M a b
  rw [fr_fr, fr_fr]
  omega
theorem Agr.mv {n : Nat} {A B : Mx} (h : Agr n A B) (g : Bool) (i : Nat) (c : Int) : Agr n (mv g i c A) (mv g i c B) := fun a b ha hb => by
  show A (fr g i a) (fr g i b) + gn i c a + gn i c b = B (fr g i a) (fr g i b) + gn i c a + gn i c b
  rw [h _ _ (fr_lt2 ha) (fr_lt2 hb)]
/-- Bounds of two variables ahead of the shift. -/
structure Rd (lo hh : Int) (M : Mx) : Prop where
  clo : Clo 2 M
  hal : Hal 2 M
  fit : Fit 2 M (fun a => if a % 2 = 0 then lo else -lo)
  up : ∀ a d, a < 4 → d < 4 → M a d ≤ 17179869184
  h0 : M 0 0 ≤ 2 * hh
  h1 : M 1 1 ≤ -2 * lo
theorem pt_ot (x : Int) (a : Nat) : (if ot a % 2 = 0 then x else -x) = -(if a % 2 = 0 then x else -x) := by
  unfold ot
  split
  · rw [if_neg (by omega)]
  · rw [if_pos (by omega)]; omega
theorem rd_bx {x : Int} (h1 : -32768 ≤ x) (h2 : x ≤ 32767) {M : Mx} (h : ∀ a c, a < 2 * 2 → c < 2 * 2 → M a c = bx a c) : Fit 2 M (fun a => if a % 2 = 0 then x else -x) := by
  refine ⟨pt_ot x, fun a b ha hb => ?_⟩
  rw [h a b ha hb]
  unfold bx
  split
  · rename_i e
    show (if a % 2 = 0 then x else -x) + (if b % 2 = 0 then x else -x) ≤ 0
    rw [e, pt_ot]
    omega
  · show (if a % 2 = 0 then x else -x) + (if b % 2 = 0 then x else -x) ≤ _
    split <;> split <;> omega
theorem rd_set {lo hh : Int} (h1 : -32768 ≤ lo) (h2 : lo ≤ hh) (h3 : hh ≤ 32767) {M : Mx} (h : ∀ a c, a < 2 * 2 → c < 2 * 2 → M a c = bx a c) : Fit 2 (low (low M 0 0 (2 * hh)) 1 1 (-2 * lo)) (fun a => if a % 2 = 0 then lo else -lo) :=
  low_fit (low_fit (rd_bx h1 (by omega) h) (by show lo + lo ≤ 2 * hh; omega)) (by show -lo + -lo ≤ -2 * lo; omega)
theorem rd_lim {lo hh : Int} {M M1 : Mx} (h1 : -32768 ≤ lo) (h2 : lo ≤ hh) (h3 : hh ≤ 32767) (h : ∀ a c, a < 2 * 2 → c < 2 * 2 → M a c = bx a c) (t : Tgt 2 (low (low M 0 0 (2 * hh)) 1 1 (-2 * lo)) M1) : Fit 2 (low M1 2 1 3) (fun a => if a % 2 = 0 then lo else -lo) :=
  low_fit (t.fit _ (rd_set h1 h2 h3 h)) (by show lo + -lo ≤ 3; omega)
theorem rd_is {lo hh : Int} {M M1 M2 : Mx} (h1 : -32768 ≤ lo) (h2 : lo ≤ hh) (h3 : hh ≤ 32767) (h : ∀ a c, a < 2 * 2 → c < 2 * 2 → M a c = bx a c) (t : Tgt 2 (low (low M 0 0 (2 * hh)) 1 1 (-2 * lo)) M1) (t2 : Tgt 2 (low M1 2 1 3) M2) : Rd lo hh M2 where
  clo := t2.clo
  hal := t2.hal
  fit := t2.fit _ (rd_lim h1 h2 h3 h t)
  up := fun a d ha hd => Int.le_trans (t2.le a d ha hd) (Int.le_trans (low_le _ _ _ _ _ _) (Int.le_trans (t.le a d ha hd) (Int.le_trans (low_le _ _ _ _ _ _) (Int.le_trans (low_le _ _ _ _ _ _) (by rw [h a d ha hd]; unfold bx; split <;> omega)))))
  h0 := Int.le_trans (t2.le 0 0 (by omega) (by omega)) (Int.le_trans (low_le _ _ _ _ _ _) (Int.le_trans (t.le 0 0 (by omega) (by omega)) (Int.le_trans (low_le _ _ _ _ _ _) (low_1 _ _ _ _))))
  h1 := Int.le_trans (t2.le 1 1 (by omega) (by omega)) (Int.le_trans (low_le _ _ _ _ _ _) (Int.le_trans (t.le 1 1 (by omega) (by omega)) (low_1 _ _ _ _)))
/-- Shift's matrix is the moved one. -/
def shL (g : Bool) (c : Int) (M : Mx) : Mx := low (low (pm (2 * 2) (2 * 2) 0 (mv g 0 c M) M) (2 * 0) (2 * 0) 17179869184) (2 * 0 + 1) (2 * 0 + 1) 17179869184
theorem shL_agr {g : Bool} {c : Int} {M : Mx} (h0 : mv g 0 c M 0 0 ≤ 17179869184) (h1 : mv g 0 c M 1 1 ≤ 17179869184) : Agr 2 (shL g c M) (mv g 0 c M) := fun a d ha hd => by
  have p0 : pm (2 * 2) (2 * 2) 0 (mv g 0 c M) M 0 0 = mv g 0 c M 0 0 := pm_all _ _ (by omega) (by omega)
  have p1 : pm (2 * 2) (2 * 2) 0 (mv g 0 c M) M 1 1 = mv g 0 c M 1 1 := pm_all _ _ (by omega) (by omega)
  have e1 : low (pm (2 * 2) (2 * 2) 0 (mv g 0 c M) M) 0 0 17179869184 = pm (2 * 2) (2 * 2) 0 (mv g 0 c M) M := by funext x y; exact low_same (by rw [p0]; exact h0) x y
  show low (low (pm (2 * 2) (2 * 2) 0 (mv g 0 c M) M) 0 0 17179869184) 1 1 17179869184 a d = _
  rw [e1, low_same (by rw [p1]; exact h1), pm_all _ _ ha hd]
theorem rd_mv {lo hh : Int} {M : Mx} (h1 : -32768 ≤ lo) (h2 : lo ≤ hh) (h3 : hh ≤ 32767) (r : Rd lo hh M) (g : Bool) {c : Int} (c1 : -2147483648 ≤ c) (c2 : c ≤ 2147483648) : mv g 0 c M 0 0 ≤ 17179869184 ∧ mv g 0 c M 1 1 ≤ 17179869184 := by
  have := r.h0
  have := r.h1
  cases g
  · constructor
    · show M 0 0 + c + c ≤ _; omega
    · show M 1 1 + -c + -c ≤ _; omega
  · constructor
    · show M 1 1 + c + c ≤ _; omega
    · show M 0 0 + -c + -c ≤ _; omega
theorem rd_sh {lo hh : Int} {M M3 : Mx} (h1 : -32768 ≤ lo) (h2 : lo ≤ hh) (h3 : hh ≤ 32767) (r : Rd lo hh M) {g : Bool} {c : Int} (c1 : -2147483648 ≤ c) (c2 : c ≤ 2147483648) (t : Tgt 2 (shL g c M) M3) : Agr 2 M3 (mv g 0 c M) := by
  have ag := shL_agr (rd_mv h1 h2 h3 r g c1 c2).1 (rd_mv h1 h2 h3 r g c1 c2).2
  exact Agr.trans (fun a d ha hd => t.same (ag.symm.clo (mv_clo g 0 c r.clo)) (ag.symm.hal (mv_hal g 0 c r.hal)) a d ha hd) ag
theorem rd_back {lo hh : Int} {M M3 : Mx} (h1 : -32768 ≤ lo) (h2 : lo ≤ hh) (h3 : hh ≤ 32767) (r : Rd lo hh M) {g : Bool} {c : Int} (a3 : Agr 2 M3 (mv g 0 c M)) : Agr 2 (shL g (bk g c) M3) M := by
  have e : Agr 2 (mv g 0 (bk g c) M3) M := (a3.mv g 0 (bk g c)).trans fun a d _ _ => mv_bk g 0 c M a d
  have := r.up 0 0 (by omega) (by omega)
  have := r.up 1 1 (by omega) (by omega)
  refine (shL_agr ?_ ?_).trans e
  · rw [e 0 0 (by omega) (by omega)]; assumption
  · rw [e 1 1 (by omega) (by omega)]; assumption
theorem rd_last {lo hh : Int} {M M3 M4 : Mx} (h1 : -32768 ≤ lo) (h2 : lo ≤ hh) (h3 : hh ≤ 32767) (r : Rd lo hh M) {g : Bool} {c : Int} (a3 : Agr 2 M3 (mv g 0 c M)) (t : Tgt 2 (shL g (bk g c) M3) M4) : Agr 2 M4 M := by
  have ag := rd_back h1 h2 h3 r a3
  exact Agr.trans (fun a d ha hd => t.same (ag.symm.clo r.clo) (ag.symm.hal r.hal) a d ha hd) ag
end Go.Proofs.Ytdfbmafeemflaaa
