/- A variable that is forgotten, and one that is shifted: plain numbers alone. -/
import Derived.Test.YtpcbammncaeimaaOdE
import Derived.Test.YtpcbammncaeimaaOcU
namespace Go.Proofs.Ytpcbammncaeimaa
set_option linter.unusedVariables false
set_option linter.unusedSimpArgs false
theorem ot_div (a : Nat) : ot a / 2 = a / 2 := by unfold ot; split <;> omega
/-- A variable is any number of the box: the bounds, tight. -/
def fre (i : Nat) (M : Mx) : Mx := fun a b => if a / 2 = i then (if b / 2 = i then bx a b else 8589934592 + fh (M b b)) else if b / 2 = i then 8589934592 + fh (M a a) else M a b
/-- The same, not tight. -/
def fgt (i : Nat) (M : Mx) : Mx := fun a b => if a / 2 = i ∨ b / 2 = i then bx a b else M a b
theorem half_via {n : Nat} {T : Mx} (t : Tt n T) {b k : Nat} (hb : b < 2 * n) (hk : k < 2 * n) : fh (T b b) ≤ T (ot k) b + fh (T k k) := by
  have h1 := t.cl.clo (ot k) (ot_lt hk) b b hb hb
  have h2 := t.cl.clo k hk k b hk hb
  rw [ot_ot] at h1
  rw [t.sym b (ot k) hb (ot_lt hk)] at h1
  unfold fh
  omega
theorem fh_bd {n : Nat} {T : Mx} (t : Tt n T) {a : Nat} (ha : a < 2 * n) : -8589934592 ≤ fh (T a a) ∧ fh (T a a) ≤ 8589934592 := by
  have h1 := t.up a a ha ha
  have h2 := t.low ha ha
  unfold fh
  omega
theorem fh_opp {n : Nat} {T : Mx} (t : Tt n T) {a : Nat} (ha : a < 2 * n) : 0 ≤ fh (T a a) + fh (T (ot a) (ot a)) := by
  have h1 := t.cl.hal a (ot a) ha (ot_lt ha)
  have h2 := t.cl.pos a ha
  omega
theorem bx_le (a b : Nat) : 0 ≤ bx a b ∧ bx a b ≤ 17179869184 := by unfold bx; split <;> omega
theorem bx_self (a : Nat) : bx a a = 17179869184 := by
  unfold bx
  rw [if_neg (by unfold ot; split <;> omega)]
theorem bx_ot (a : Nat) : bx a (ot a) = 0 := by
  unfold bx
  rw [ot_ot, if_pos rfl]
theorem bx_to (a : Nat) : bx (ot a) a = 0 := by
  unfold bx
  rw [if_pos rfl]
theorem two_of {a b : Nat} (h : a / 2 = b / 2) : b = a ∨ b = ot a := by unfold ot; split <;> omega
theorem fre_cl {n i : Nat} {T : Mx} (t : Tt n T) : Cl n (fre i T) where
  clo := fun k hk a b ha hb => by
    have od := ot_div k
    have h1 := t.cl.clo k hk a b ha hb
    have h2 := t.cl.hal a b ha hb
    have h3 := half_via t hb hk
    have h4 := half_via t ha (ot_lt hk)
    rw [ot_ot, t.sym k a hk ha] at h4
    have h5 := fh_opp t hk
    have q1 := fh_bd t ha
    have q2 := fh_bd t hb
    have q3 := fh_bd t hk
    unfold fre
    rw [od]
    by_cases ca : a / 2 = i
    · by_cases cb : b / 2 = i
      · by_cases ck : k / 2 = i
        · simp only [ca, cb, ck, if_true]
          have e1 := bx_self a
          have e2 := bx_ot a
          have e3 := bx_to a
          have e4 := bx_self (ot a)
          rcases two_of (ca.trans cb.symm) with rfl | rfl <;> rcases two_of (ca.trans ck.symm) with rfl | rfl <;> (try rw [ot_ot]) <;> omega
        · simp only [ca, cb, ck, if_true, if_false]
          have := (bx_le a b).2
          omega
      · by_cases ck : k / 2 = i
        · simp only [ca, cb, ck, if_true, if_false]
          have := (bx_le a k).1
          omega
        · simp only [ca, cb, ck, if_true, if_false]
          omega
    · by_cases cb : b / 2 = i
      · by_cases ck : k / 2 = i
        · simp only [ca, cb, ck, if_true, if_false]
          have := (bx_le (ot k) b).1
          omega
        · simp only [ca, cb, ck, if_true, if_false]
          omega
      · by_cases ck : k / 2 = i
        · simp only [ca, cb, ck, if_true, if_false]
          omega
        · simp only [ca, cb, ck, if_true, if_false]
          omega
  hal := fun a b ha hb => by
    have h2 := t.cl.hal a b ha hb
    have e1 := bx_self a
    have e2 := bx_self b
    have e3 := (bx_le a b).2
    have ea := t.even ha
    have eb := t.even hb
    unfold fre
    by_cases ca : a / 2 = i <;> by_cases cb : b / 2 = i <;> simp only [ca, cb, if_true, if_false] <;> unfold fh at * <;> omega
  pos := fun a ha => by
    unfold fre
    rw [ot_div]
    by_cases ca : a / 2 = i
    · simp only [ca, if_true]; exact (bx_le _ _).1
    · simp only [ca, if_false]; exact t.cl.pos a ha
theorem fre_le {n i : Nat} {T : Mx} (t : Tt n T) : Le n (fre i T) (fgt i T) := fun a b ha hb => by
  have q1 := fh_bd t ha
  have q2 := fh_bd t hb
  unfold fre fgt
  by_cases ca : a / 2 = i
  · by_cases cb : b / 2 = i
    · simp only [ca, cb, if_true, true_or]; omega
    · simp only [ca, cb, if_true, if_false, true_or]
      unfold bx
      rw [if_neg (fun q => cb (by rw [q, ot_div] at ca; exact ca))]
      omega
  · by_cases cb : b / 2 = i
    · simp only [ca, cb, if_true, if_false, or_true]
      unfold bx
      rw [if_neg (fun q => ca (by rw [q, ot_div]; exact cb))]
      omega
    · simp only [ca, cb, if_false, or_self]; omega
theorem fre_bst {n i : Nat} {T : Mx} (t : Tt n T) : Bst n (fgt i T) (fre i T) where
  cl := fre_cl t
  le := fre_le t
  top := fun X c l a b ha hb => by
    have h1 := c.hal a b ha hb
    have h2 := l a a ha ha
    have h3 := l b b hb hb
    have h4 := l a b ha hb
    have e1 := bx_self a
    have e2 := bx_self b
    unfold fgt at h2 h3 h4
    unfold fre
    by_cases ca : a / 2 = i <;> by_cases cb : b / 2 = i <;> simp only [ca, cb, if_true, if_false, or_self, true_or, or_true] at h2 h3 h4 ⊢ <;> unfold fh at * <;> omega
theorem fgt_sym {n i : Nat} {T : Mx} (t : Tt n T) (a b : Nat) (ha : a < 2 * n) (hb : b < 2 * n) : fgt i T a b = fgt i T b a := by
  have h := t.sym a b ha hb
  have e : bx a b = bx b a := by
    unfold bx
    by_cases q : a = ot b
    · rw [if_pos q, if_pos (by rw [q, ot_ot])]
    · rw [if_neg q, if_neg (fun r => q (by rw [r, ot_ot]))]
  unfold fgt
  by_cases ca : a / 2 = i <;> by_cases cb : b / 2 = i <;> simp [ca, cb, e, h]
theorem fgt_tt {n i : Nat} {T X : Mx} (t : Tt n T) (h : Bst n (fgt i T) X) : Tt n X := h.tt (fgt_sym t) (fun a ha => by
    unfold fgt
    split
    · exact Int.le_of_eq (bx_ot a)
    · exact Int.le_of_eq (t.opp a ha)) (fun a b ha hb => Int.le_trans (h.le a b ha hb) (by
    unfold fgt
    split
    · exact (bx_le a b).2
    · exact t.up a b ha hb))
/-- No bound is past the box. -/
def clp (M : Mx) : Mx := fun a b => min (M a b) 17179869184
theorem gn_out {i : Nat} {c : Int} {a : Nat} (h : a / 2 ≠ i) : gn i c a = 0 := by
  unfold gn
  rw [if_neg (by omega), if_neg (by omega)]
theorem fr_out {g : Bool} {i a : Nat} (h : a / 2 ≠ i) : fr g i a = a := by
  unfold fr
  rw [if_neg (fun q => h q.2)]
theorem low_self {M : Mx} {x : Nat} {v : Int} (a b : Nat) : low M x x v a b = if a = x ∧ b = x then min (M x x) v else M a b := by
  unfold low low1 up1
  by_cases q : a = x ∧ b = x
  · simp only [q, and_self, if_true]; omega
  · simp only [q, if_false]
/-- The bounds that Shift tightens. -/
def shS (g : Bool) (i : Nat) (c : Int) (M : Mx) : Mx := low (low (mv g i c M) (2 * i) (2 * i) 17179869184) (2 * i + 1) (2 * i + 1) 17179869184
theorem shS_at (g : Bool) (i : Nat) (c : Int) (M : Mx) (a b : Nat) : shS g i c M a b = if a = b ∧ a / 2 = i then min (mv g i c M a a) 17179869184 else mv g i c M a b := by
  unfold shS
  rw [low_self, low_self, low_self]
  by_cases q : a = b ∧ a / 2 = i
  · obtain ⟨rfl, q⟩ := q
    rw [if_pos (c := a = a ∧ a / 2 = i) ⟨rfl, q⟩]
    by_cases p : a = 2 * i
    · rw [if_neg (by omega), if_pos ⟨p, p⟩, p]
    · have p2 : a = 2 * i + 1 := by omega
      rw [if_pos ⟨p2, p2⟩, if_neg (by omega), p2]
  · rw [if_neg (c := a = b ∧ a / 2 = i) q, if_neg (by omega), if_neg (by omega)]
theorem shS_clp {n i : Nat} {T : Mx} (t : Tt n T) (g : Bool) (c : Int) (X : Mx) (cx : Cl n X) : Le n X (shS g i c T) ↔ Le n X (clp (mv g i c T)) := by
  constructor
  · intro l
    have dg : ∀ a, a < 2 * n → X a a ≤ 17179869184 := fun a ha => by
      have h1 := l a a ha ha
      rw [shS_at] at h1
      by_cases q : a / 2 = i
      · rw [if_pos ⟨rfl, q⟩] at h1; omega
      · rw [if_neg (fun p => q p.2)] at h1
        unfold mv at h1
        rw [gn_out q, fr_out q] at h1
        have := t.up a a ha ha
        omega
    intro a b ha hb
    have h1 := l a b ha hb
    have h2 := dg a ha
    have h3 := dg b hb
    have h4 := cx.hal a b ha hb
    rw [shS_at] at h1
    unfold clp
    have h5 : X a b ≤ mv g i c T a b := by
      by_cases q : a = b ∧ a / 2 = i
      · rw [if_pos q] at h1
        obtain ⟨rfl, _⟩ := q
        omega
      · rw [if_neg q] at h1; exact h1
    unfold fh at h4
    omega
  · intro l a b ha hb
    have h1 := l a b ha hb
    unfold clp at h1
    rw [shS_at]
    split
    · rename_i q
      obtain ⟨rfl, _⟩ := q
      exact h1
    · omega
theorem gn_bd2 {i : Nat} {c B : Int} (h1 : -B ≤ c) (h2 : c ≤ B) (a : Nat) : -B ≤ gn i c a ∧ gn i c a ≤ B := by unfold gn; split <;> (try split) <;> omega
theorem mv_bd {n i : Nat} {T : Mx} (t : Tt n T) (g : Bool) {c : Int} (h1 : -8589934592 ≤ c) (h2 : c ≤ 8589934592) {a b : Nat} (ha : a < 2 * n) (hb : b < 2 * n) : -34359738368 ≤ mv g i c T a b ∧ mv g i c T a b ≤ 34359738368 := by
  have q1 := gn_bd2 (i := i) (c := c) (B := 8589934592) h1 h2 a
  have q2 := gn_bd2 (i := i) (c := c) (B := 8589934592) h1 h2 b
  have q3 := t.up _ _ (fr_lt2 (g := g) (i := i) ha) (fr_lt2 (g := g) (i := i) hb)
  have q4 := t.low (fr_lt2 (g := g) (i := i) ha) (fr_lt2 (g := g) (i := i) hb)
  unfold mv
  omega
theorem shS_bd {n i : Nat} {T : Mx} (t : Tt n T) (g : Bool) {c : Int} (h1 : -8589934592 ≤ c) (h2 : c ≤ 8589934592) {a b : Nat} (ha : a < 2 * n) (hb : b < 2 * n) : -68719476736 ≤ shS g i c T a b ∧ shS g i c T a b ≤ 68719476736 := by
  have q1 := mv_bd (i := i) t g h1 h2 ha hb
  have q2 := mv_bd (i := i) t g h1 h2 ha ha
  rw [shS_at]
  split <;> omega
end Go.Proofs.Ytpcbammncaeimaa
