/- The reference's way to tight bounds: all told of one another, row by row, till nothing changes. Plain numbers alone. -/
import Derived.Test.YtpcbammncaeimaaOdM
namespace Go.Proofs.Ytpcbammncaeimaa
set_option linter.unusedVariables false
def ux (M : Mx) (x y : Nat) (v : Int) : Mx := fun i j => if i = x ∧ j = y then v else M i j
def mnr (X : Mx) (p q : Nat) : Nat → Int
  | 0 => X p q
  | r + 1 => min (mnr X p q r) (X p r + X (ot r) q)
def nv (m : Nat) (X : Mx) (p q : Nat) : Int := min (mnr X p q m) (fh (X p p) + fh (X q q))
def rowx (m : Nat) (X : Mx) (p : Nat) : Nat → Mx
  | 0 => X
  | q + 1 => ux (rowx m X p q) p q (nv m (rowx m X p q) p q)
def rows (m : Nat) (X : Mx) : Nat → Mx
  | 0 => X
  | p + 1 => rowx m (rows m X p) p m
theorem mnr_le (X : Mx) (p q : Nat) : ∀ r, mnr X p q r ≤ X p q
  | 0 => Int.le_refl _
  | r + 1 => by have := mnr_le X p q r; show min _ _ ≤ _; omega
theorem mnr_at (X : Mx) (p q : Nat) : ∀ k r, r < k → mnr X p q k ≤ X p r + X (ot r) q
  | k + 1, r, h => by
    show min _ _ ≤ _
    by_cases e : r = k
    · subst e; omega
    · have := mnr_at X p q k r (by omega); omega
theorem mnr_ge (X : Mx) (p q : Nat) (z : Int) (h0 : z ≤ X p q) : ∀ k, (∀ r, r < k → z ≤ X p r + X (ot r) q) → z ≤ mnr X p q k
  | 0, _ => h0
  | k + 1, h => by
    have h1 := mnr_ge X p q z h0 k fun r hr => h r (by omega)
    have h2 := h k (by omega)
    show _ ≤ min _ _
    omega
theorem nv_le (m : Nat) (X : Mx) (p q : Nat) : nv m X p q ≤ X p q := by have := mnr_le X p q m; unfold nv; omega
theorem nv_via {m : Nat} (X : Mx) (p q : Nat) {r : Nat} (h : r < m) : nv m X p q ≤ X p r + X (ot r) q := by have := mnr_at X p q m r h; unfold nv; omega
theorem nv_hal (m : Nat) (X : Mx) (p q : Nat) : nv m X p q ≤ fh (X p p) + fh (X q q) := by unfold nv; omega
theorem nv_ge {m : Nat} {X : Mx} {p q : Nat} {z : Int} (h0 : z ≤ X p q) (h1 : ∀ r, r < m → z ≤ X p r + X (ot r) q) (h2 : z ≤ fh (X p p) + fh (X q q)) : z ≤ nv m X p q := by have := mnr_ge X p q z h0 m h1; unfold nv; omega
theorem rowx_out {m : Nat} (X : Mx) (p : Nat) : ∀ (q : Nat) {a b : Nat}, a ≠ p ∨ q ≤ b → rowx m X p q a b = X a b
  | 0, _, _, _ => rfl
  | q + 1, a, b, h => by
    show ux _ _ _ _ a b = _
    unfold ux
    rw [if_neg (by omega)]
    exact rowx_out X p q (by omega)
theorem rowx_in {m : Nat} (X : Mx) (p : Nat) : ∀ (q : Nat) {b : Nat}, b < q → rowx m X p q p b = nv m (rowx m X p b) p b
  | q + 1, b, h => by
    show ux _ _ _ _ p b = _
    unfold ux
    by_cases e : b = q
    · subst e; rw [if_pos ⟨rfl, rfl⟩]
    · rw [if_neg (by omega)]; exact rowx_in X p q (by omega)
theorem rowx_done {m : Nat} (X : Mx) (p : Nat) {b q q' : Nat} (h : b < q) (h' : b < q') : rowx m X p q p b = rowx m X p q' p b := by rw [rowx_in X p q h, rowx_in X p q' h']
theorem rowx_le {m : Nat} (X : Mx) (p : Nat) : ∀ (q : Nat) (a b : Nat), rowx m X p q a b ≤ X a b
  | 0, _, _ => Int.le_refl _
  | q + 1, a, b => by
    have h := rowx_le (m := m) X p q a b
    show ux _ _ _ _ a b ≤ _
    unfold ux
    split
    · rename_i e
      obtain ⟨rfl, rfl⟩ := e
      exact Int.le_trans (nv_le _ _ _ _) h
    · exact h
theorem rows_le {m : Nat} (X : Mx) : ∀ (p : Nat) (a b : Nat), rows m X p a b ≤ X a b
  | 0, _, _ => Int.le_refl _
  | p + 1, a, b => Int.le_trans (rowx_le _ _ _ _ _) (rows_le X p a b)
theorem rows_out {m : Nat} (X : Mx) : ∀ (p : Nat) {a b : Nat}, p ≤ a → rows m X p a b = X a b
  | 0, _, _, _ => rfl
  | p + 1, a, b, h => by
    show rowx m _ p m a b = _
    rw [rowx_out _ _ _ (Or.inl (by omega))]
    exact rows_out X p (by omega)
theorem rows_row {m : Nat} (X : Mx) : ∀ (p : Nat) {a : Nat}, a < p → ∀ b, rows m X p a b = rows m X (a + 1) a b
  | p + 1, a, h, b => by
    by_cases e : a = p
    · rw [e]
    · show rowx m _ p m a b = _
      rw [rowx_out _ _ _ (Or.inl e)]
      exact rows_row X p (by omega) b
theorem ux_abv {n : Nat} {T X : Mx} (c : Cl n T) (l : Le n T X) {p q : Nat} (hp : p < 2 * n) (hq : q < 2 * n) : Le n T (ux X p q (nv (2 * n) X p q)) := fun a b ha hb => by
  unfold ux
  split
  · rename_i e
    obtain ⟨rfl, rfl⟩ := e
    refine nv_ge (l a b ha hb) (fun r hr => ?_) ?_
    · have h1 := c.clo r hr a b ha hb
      have h2 := l a r ha hr
      have h3 := l (ot r) b (ot_lt hr) hb
      omega
    · have h1 := c.hal a b ha hb
      have h2 := fh_mono (l a a ha ha)
      have h3 := fh_mono (l b b hb hb)
      omega
  · exact l a b ha hb
theorem rowx_abv {n : Nat} {T X : Mx} (c : Cl n T) (l : Le n T X) {p : Nat} (hp : p < 2 * n) : ∀ q, q ≤ 2 * n → Le n T (rowx (2 * n) X p q)
  | 0, _ => l
  | q + 1, h => ux_abv c (rowx_abv c l hp q (by omega)) hp (by omega)
theorem rows_abv {n : Nat} {T X : Mx} (c : Cl n T) (l : Le n T X) : ∀ p, p ≤ 2 * n → Le n T (rows (2 * n) X p)
  | 0, _ => l
  | p + 1, h => rowx_abv c (rows_abv c l p (by omega)) (by omega) _ (Nat.le_refl _)
/-- A row that was gone over with no contradiction: what was ahead, and what is behind. -/
theorem row_new {n : Nat} {X : Mx} {U : Int} {p : Nat} (hp : p < 2 * n) (hU : ∀ a b, a < 2 * n → b < 2 * n → X a b ≤ U) (hc : 0 ≤ rowx (2 * n) X p (2 * n) p (ot p)) {b : Nat} (hb : b < ot p) : -U ≤ rowx (2 * n) X p (2 * n) p b := by
  have ho := ot_lt hp
  rw [rowx_in X p _ ho] at hc
  have h1 := nv_via (m := 2 * n) (rowx (2 * n) X p (ot p)) p (ot p) (r := b) (by omega)
  rw [rowx_done X p (q := ot p) (q' := 2 * n) hb (by omega)] at h1
  have hne : ot b ≠ p := fun e => by rw [← e, ot_ot] at hb; omega
  rw [rowx_out X p _ (Or.inl hne)] at h1
  have h2 := hU (ot b) (ot p) (ot_lt (by omega)) ho
  omega
theorem row_old {n : Nat} {X : Mx} {U : Int} {p : Nat} (hp : p < 2 * n) (h0 : 0 ≤ U) (hU : ∀ a b, a < 2 * n → b < 2 * n → X a b ≤ U) (hc : 0 ≤ rowx (2 * n) X p (2 * n) p (ot p)) {b : Nat} (hb : ot p ≤ b) (hb2 : b < 2 * n) : -U ≤ X p b := by
  have ho := ot_lt hp
  rw [rowx_in X p _ ho] at hc
  have h1 := nv_via (m := 2 * n) (rowx (2 * n) X p (ot p)) p (ot p) (r := b) hb2
  rw [rowx_out X p (ot p) (Or.inr hb)] at h1
  by_cases e : ot b = p
  · have e2 : b = ot p := by rw [← e, ot_ot]
    subst e2
    rw [e, rowx_out X p (ot p) (Or.inr (Nat.le_refl _))] at h1
    omega
  · rw [rowx_out X p _ (Or.inl e)] at h1
    have h2 := hU (ot b) (ot p) (ot_lt hb2) ho
    omega
theorem ot_ne (p : Nat) : ot p ≠ p := by unfold ot; split <;> omega
theorem ot_gap {p r : Nat} (h1 : ot p < r) (h2 : r < p) : False := by unfold ot at h1; split at h1 <;> omega
theorem row_low {n : Nat} {X : Mx} {U L G : Int} {p : Nat} (hp : p < 2 * n) (h0 : 1 ≤ U) (hUL : U ≤ L) (hLG : L ≤ G) (hU : ∀ a b, a < 2 * n → b < 2 * n → X a b ≤ U) (hG : ∀ a b, a < 2 * n → b < 2 * n → -G ≤ X a b) (hL : ∀ a b, p < a → a < 2 * n → b < 2 * n → -L ≤ X a b)
    (hc : 0 ≤ rowx (2 * n) X p (2 * n) p (ot p)) : ∀ b, b < 2 * n → ot p < b → -(2 * G + U + b * L) ≤ rowx (2 * n) X p (2 * n) p b ∧ (b = p → -(U + G) ≤ rowx (2 * n) X p (2 * n) p b) := by
  intro b
  induction b using Nat.strongRecOn with
  | ind b ih =>
  intro hb hob
  have ho := ot_lt hp
  have bL : 0 ≤ (b : Int) * L := Int.mul_nonneg (by omega) (by omega)
  have new := fun r (hr : r < ot p) => row_new hp hU hc hr
  have old := fun r (hr : ot p ≤ r) (h2 : r < 2 * n) => row_old hp (by omega) hU hc hr h2
  rw [rowx_in X p _ hb]
  have zb : rowx (2 * n) X p b p b = X p b := rowx_out X p b (Or.inr (Nat.le_refl _))
  -- what is told over r
  have cand : ∀ r, r < 2 * n → (-(2 * G + U + b * L) ≤ rowx (2 * n) X p b p r + rowx (2 * n) X p b (ot r) b) ∧ (b = p → -(U + G) ≤ rowx (2 * n) X p b p r + rowx (2 * n) X p b (ot r) b) := by
    intro r hr
    by_cases e : ot r = p
    · have er : r = ot p := by rw [← e, ot_ot]
      rw [e, zb, er, rowx_done X p (q := b) (q' := 2 * n) hob ho]
      have := old b (by omega) hb
      omega
    · rw [rowx_out X p b (Or.inl e)]
      have g1 := hG (ot r) b (ot_lt hr) hb
      by_cases c1 : r < ot p
      · rw [rowx_done X p (q := b) (q' := 2 * n) (show r < b by omega) hr]
        have := new r c1
        omega
      · have c2 : ot p < r := by
          have : r ≠ ot p := fun q => e (by rw [q, ot_ot])
          omega
        by_cases c3 : r < b
        · rw [rowx_done X p (q := b) (q' := 2 * n) c3 hr]
          have i1 := ih r c3 hr c2
          by_cases c4 : r = p
          · have := i1.2 c4
            refine ⟨by omega, fun q => by omega⟩
          · have h4 : p < ot r := by
              unfold ot at c2 ⊢
              split at c2 <;> split <;> omega
            have l1 := hL (ot r) b h4 (ot_lt hr) hb
            have l2 := i1.1
            have rb : (r : Int) * L + L ≤ (b : Int) * L := by
              have : ((r + 1 : Nat) : Int) * L ≤ (b : Int) * L := Int.mul_le_mul_of_nonneg_right (by omega) (by omega)
              rw [Int.natCast_add, Int.add_mul] at this
              omega
            refine ⟨by omega, fun q => ?_⟩
            exact (ot_gap c2 (by omega)).elim
        · rw [rowx_out X p b (Or.inr (by omega))]
          have := old r (by omega) hr
          omega
  have hpp : -(U + G) ≤ rowx (2 * n) X p b p p := by
    by_cases c : p < b
    · rw [rowx_done X p (q := b) (q' := 2 * n) c hp]
      by_cases d : p < ot p
      · have := new p d; omega
      · have := (ih p c hp (by have := ot_ne p; omega)).2 rfl
        exact this
    · rw [rowx_out X p b (Or.inr (by omega))]
      have := hG p p hp hp
      omega
  have hbb : -G ≤ rowx (2 * n) X p b b b := by
    by_cases c : b = p
    · subst c
      rw [zb]
      exact hG _ _ hb hb
    · rw [rowx_out X p b (Or.inl c)]
      exact hG _ _ hb hb
  have x1 := old b (by omega) hb
  have x2 : -(U + G) ≤ fh (rowx (2 * n) X p b p p) + fh (rowx (2 * n) X p b b b) := by unfold fh; omega
  refine ⟨nv_ge (by rw [zb]; omega) (fun r hr => (cand r hr).1) (by omega), fun q => nv_ge (by rw [zb]; omega) (fun r hr => (cand r hr).2 q) (by omega)⟩
/-- A row on the way. -/
theorem row_way {n : Nat} {X : Mx} {G : Int} {p : Nat} (hp : p < 2 * n) (h1 : 1 ≤ G) (hG : ∀ a b, a < 2 * n → b < 2 * n → -G ≤ X a b) : ∀ q, q ≤ 2 * n → ∀ b, b < 2 * n → -((q + 1 : Nat) * G) ≤ rowx (2 * n) X p q p b
  | 0, _, b, hb => by have := hG p b hp hb; show -((1 : Int) * G) ≤ X p b; omega
  | q + 1, hq, b, hb => by
    have ih := row_way hp h1 hG q (by omega)
    have e1 : ((q + 1 + 1 : Nat) : Int) * G = (q + 1 : Nat) * G + G := by rw [Int.natCast_add (q + 1) 1, Int.add_mul]; omega
    have pq : 0 ≤ ((q + 1 : Nat) : Int) * G := Int.mul_nonneg (by omega) (by omega)
    have pg : G ≤ ((q + 1 : Nat) : Int) * G := by
      have := Int.mul_le_mul_of_nonneg_right (show (1 : Int) ≤ (q + 1 : Nat) by omega) (show 0 ≤ G by omega)
      omega
    rw [e1]
    generalize ((q + 1 : Nat) : Int) * G = c at *
    show _ ≤ ux _ _ _ _ p b
    unfold ux
    split
    · rename_i e
      obtain ⟨_, rfl⟩ := e
      have zb : rowx (2 * n) X p b p b = X p b := rowx_out X p b (Or.inr (Nat.le_refl _))
      have g0 := hG p b hp hb
      refine nv_ge (by rw [zb]; omega) (fun r hr => ?_) ?_
      · have i1 := ih r hr
        by_cases e : ot r = p
        · rw [e, zb]; omega
        · rw [rowx_out X p b (Or.inl e)]
          have := hG (ot r) b (ot_lt hr) hb
          omega
      · have i1 := ih p hp
        have i2 : -G ≤ rowx (2 * n) X p b b b := by
          by_cases c : b = p
          · subst c; rw [zb]; exact g0
          · rw [rowx_out X p b (Or.inl c)]; exact hG _ _ hb hb
        unfold fh
        omega
    · have := ih b hb
      omega
def Gl (L : Int) : Nat → Int
  | 0 => L
  | p + 1 => 2 * Gl L p + 9 * L
theorem Gl_ge {L : Int} (h : 0 ≤ L) : ∀ p, L ≤ Gl L p
  | 0 => Int.le_refl _
  | p + 1 => by have := Gl_ge h p; show _ ≤ 2 * Gl L p + 9 * L; omega
theorem Gl_mono {L : Int} (h : 0 ≤ L) {p q : Nat} (k : p ≤ q) : Gl L p ≤ Gl L q := by
  induction k with
  | refl => exact Int.le_refl _
  | step k ih => rename_i j; have := Gl_ge h j; show _ ≤ 2 * Gl L j + 9 * L; omega
theorem rows_low {n : Nat} (hn : n ≤ 4) {A : Mx} {U L : Int} (h0 : 1 ≤ U) (hUL : U ≤ L) (hU : ∀ a b, a < 2 * n → b < 2 * n → A a b ≤ U) (hL : ∀ a b, a < 2 * n → b < 2 * n → -L ≤ A a b) : ∀ p, p ≤ 2 * n → (∀ a, a < p → 0 ≤ rows (2 * n) A (a + 1) a (ot a)) → ∀ a b, a < 2 * n → b < 2 * n → -(Gl L p) ≤ rows (2 * n) A p a b
  | 0, _, _, a, b, ha, hb => hL a b ha hb
  | p + 1, hp, hc, a, b, ha, hb => by
    have ih := rows_low hn h0 hUL hU hL p (by omega) (fun a h => hc a (by omega))
    have g1 := Gl_ge (L := L) (by omega) p
    have hpn : p < 2 * n := by omega
    have hU' : ∀ a b, a < 2 * n → b < 2 * n → rows (2 * n) A p a b ≤ U := fun a b ha hb => Int.le_trans (rows_le A p a b) (hU a b ha hb)
    have ck : 0 ≤ rowx (2 * n) (rows (2 * n) A p) p (2 * n) p (ot p) := hc p (by omega)
    show -(2 * Gl L p + 9 * L) ≤ rowx (2 * n) (rows (2 * n) A p) p (2 * n) a b
    by_cases e : a = p
    · subst e
      by_cases c1 : b < ot a
      · have := row_new hpn hU' ck c1; omega
      · by_cases c2 : b = ot a
        · rw [c2]; omega
        · have l := (row_low hpn h0 hUL g1 hU' ih (fun x y hx hx2 hy => by rw [rows_out A a (by omega)]; exact hL x y hx2 hy) ck b hb (by omega)).1
          have bl : (b : Int) * L ≤ 8 * L := Int.mul_le_mul_of_nonneg_right (by omega) (by omega)
          omega
    · rw [rowx_out _ _ _ (Or.inl e)]
      have := ih a b ha hb
      omega
/-- What holds of bounds ahead of a round of all rows. -/
structure Rw (n : Nat) (S A : Mx) : Prop where
  up : ∀ a b, a < 2 * n → b < 2 * n → A a b ≤ 34359738368
  lo : ∀ a b, a < 2 * n → b < 2 * n → -87651692576768 ≤ A a b
  lt : ∀ a b, a < 2 * n → b < 2 * n → b < ot a → -34359738368 ≤ A a b
  le : Le n A S
  ab : ∀ T, Cl n T → Le n T S → Le n T A
theorem Rw.first {n : Nat} {S : Mx} (h : ∀ a b, a < 2 * n → b < 2 * n → -34359738368 ≤ S a b ∧ S a b ≤ 34359738368) : Rw n S S := ⟨fun a b ha hb => (h a b ha hb).2, fun a b ha hb => by have := (h a b ha hb).1; omega, fun a b ha hb _ => (h a b ha hb).1, Le.refl _ _, fun _ _ l => l⟩
theorem Rw.next {n : Nat} (hn : n ≤ 4) {S A C : Mx} (h : Rw n S A) (hc : ∀ a, a < 2 * n → 0 ≤ rows (2 * n) A (a + 1) a (ot a)) (hC : ∀ a b, a < 2 * n → b < 2 * n → C a b = rows (2 * n) A (2 * n) a b) : Rw n S C := by
  have upR : ∀ p a b, a < 2 * n → b < 2 * n → rows (2 * n) A p a b ≤ 34359738368 := fun p a b ha hb => Int.le_trans (rows_le A p a b) (h.up a b ha hb)
  have lowA : ∀ a b, a < 2 * n → b < 2 * n → -34359738368 ≤ A a b := fun a b ha hb => by
    by_cases c : b < ot a
    · exact h.lt a b ha hb c
    · have := row_old (X := rows (2 * n) A a) ha (by omega) (upR a) (hc a ha) (b := b) (by omega) hb
      rwa [rows_out A a (Nat.le_refl _)] at this
  refine ⟨fun a b ha hb => ?_, fun a b ha hb => ?_, fun a b ha hb hl => ?_, fun a b ha hb => ?_, fun T c l a b ha hb => ?_⟩ <;> rw [hC a b ha hb]
  · exact upR _ a b ha hb
  · have l := rows_low hn (U := 34359738368) (L := 34359738368) (by omega) (by omega) h.up lowA (2 * n) (Nat.le_refl _) (fun a ha => hc a ha) a b ha hb
    have g := Gl_mono (L := 34359738368) (by omega) (show 2 * n ≤ 8 by omega)
    have e : Gl 34359738368 8 = 87651692576768 := by decide
    omega
  · rw [rows_row A (2 * n) ha b]
    exact row_new ha (upR a) (hc a ha) hl
  · exact Int.le_trans (rows_le A _ a b) (h.le a b ha hb)
  · exact rows_abv c (h.ab T c l) _ (Nat.le_refl _) a b ha hb
theorem Rw.rows {n : Nat} (hn : n ≤ 4) {S A : Mx} (h : Rw n S A) {p : Nat} (hp : p ≤ 2 * n) (hc : ∀ a, a < p → 0 ≤ rows (2 * n) A (a + 1) a (ot a)) {a b : Nat} (ha : a < 2 * n) (hb : b < 2 * n) : -223599467763335168 ≤ rows (2 * n) A p a b := by
  have l := rows_low hn (U := 34359738368) (L := 87651692576768) (by omega) (by omega) h.up h.lo p hp hc a b ha hb
  have g := Gl_mono (L := 87651692576768) (by omega) (show p ≤ 8 by omega)
  have e : Gl 87651692576768 8 = 223599467763335168 := by decide
  omega
theorem Rw.rowx {n : Nat} (hn : n ≤ 4) {S A : Mx} (h : Rw n S A) {p : Nat} (hp : p < 2 * n) (hc : ∀ a, a < p → 0 ≤ Go.Proofs.Ytpcbammncaeimaa.rows (2 * n) A (a + 1) a (ot a)) {q : Nat} (hq : q ≤ 2 * n) {a b : Nat} (ha : a < 2 * n) (hb : b < 2 * n) : -2012395209870016512 ≤ Go.Proofs.Ytpcbammncaeimaa.rowx (2 * n) (Go.Proofs.Ytpcbammncaeimaa.rows (2 * n) A p) p q a b := by
  have hG : ∀ a b, a < 2 * n → b < 2 * n → -223599467763335168 ≤ Go.Proofs.Ytpcbammncaeimaa.rows (2 * n) A p a b := fun a b ha hb => h.rows hn (by omega) hc ha hb
  by_cases e : a = p
  · subst e
    have := row_way (G := 223599467763335168) hp (by omega) hG q hq b hb
    have q9 : ((q + 1 : Nat) : Int) * 223599467763335168 ≤ 9 * 223599467763335168 := Int.mul_le_mul_of_nonneg_right (by omega) (by omega)
    omega
  · rw [rowx_out _ _ _ (Or.inl e)]
    have := hG a b ha hb
    omega
theorem rows_mono {m : Nat} (A : Mx) {p p' : Nat} (h : p ≤ p') (a b : Nat) : rows m A p' a b ≤ rows m A p a b := by
  induction h with
  | refl => exact Int.le_refl _
  | step h ih => exact Int.le_trans (rowx_le _ _ _ _ _) ih
theorem rowx_mono {m : Nat} (X : Mx) (p : Nat) {q q' : Nat} (h : q ≤ q') (a b : Nat) : rowx m X p q' a b ≤ rowx m X p q a b := by
  induction h with
  | refl => exact Int.le_refl _
  | step h ih =>
    refine Int.le_trans ?_ ih
    show ux _ _ _ _ a b ≤ _
    unfold ux
    split
    · rename_i e
      obtain ⟨rfl, rfl⟩ := e
      exact nv_le _ _ _ _
    · exact Int.le_refl _
/-- A round that changed nothing: the bounds are tight. -/
theorem ref_last {n : Nat} {S A : Mx} (h : Rw n S A) (hc : ∀ a, a < 2 * n → 0 ≤ rows (2 * n) A (a + 1) a (ot a)) (hs : ∀ a b, a < 2 * n → b < 2 * n → rows (2 * n) A (2 * n) a b = A a b) : Bst n S A := by
  have mid : ∀ p q a b, p < 2 * n → q ≤ 2 * n → a < 2 * n → b < 2 * n → rowx (2 * n) (rows (2 * n) A p) p q a b = A a b := fun p q a b hp hq ha hb => by
    have h1 := rows_mono (m := 2 * n) A (show p + 1 ≤ 2 * n by omega) a b
    have h2 : rows (2 * n) A (p + 1) a b ≤ rowx (2 * n) (rows (2 * n) A p) p q a b := rowx_mono _ _ hq a b
    have h3 := rowx_le (m := 2 * n) (rows (2 * n) A p) p q a b
    have h4 := rows_le (m := 2 * n) A p a b
    rw [hs a b ha hb] at h1
    omega
  have key : ∀ a b, a < 2 * n → b < 2 * n → A a b = nv (2 * n) (rowx (2 * n) (rows (2 * n) A a) a b) a b := fun a b ha hb => by
    rw [← rowx_in (m := 2 * n) (rows (2 * n) A a) a (2 * n) hb, mid a (2 * n) a b ha (Nat.le_refl _) ha hb]
  refine ⟨⟨fun k hk a b ha hb => ?_, fun a b ha hb => ?_, fun a ha => ?_⟩, h.le, h.ab⟩
  · have := nv_via (m := 2 * n) (rowx (2 * n) (rows (2 * n) A a) a b) a b hk
    rw [← key a b ha hb, mid a b a k ha (by omega) ha hk, mid a b (ot k) b ha (by omega) (ot_lt hk) hb] at this
    exact this
  · have := nv_hal (2 * n) (rowx (2 * n) (rows (2 * n) A a) a b) a b
    rw [← key a b ha hb, mid a b a a ha (by omega) ha ha, mid a b b b ha (by omega) hb hb] at this
    exact this
  · have := hc a ha
    have e := rows_row (m := 2 * n) A (2 * n) ha (ot a)
    rw [hs a (ot a) ha (ot_lt ha)] at e
    omega
end Go.Proofs.Ytpcbammncaeimaa
