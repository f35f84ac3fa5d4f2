/- Texts of the proof, put together. -/
import Derived.Test.YtpcbammncaeimaaZG3
import Derived.Test.YtpcbammncaeimaaZG7
namespace Go.Proofs.Ytpcbammncaeimaa
set_option linter.unusedVariables false
def ux (M : Mx) (x y : Nat) (v : Int) : Mx := fun i j => if i = x ∧ j = y then v else M i j
def mnr (X : Mx) (p q : Nat) : Nat → Int
  | 0 => X p q
  | r + 1 => min (mnr X p q r) (X p r + X (ot r) q)
def nv (m : Nat) (X : Mx) (p q : Nat) : Int := min (mnr X p q m) (fh (X p p) + fh (X q q))
def rowx (m : Nat) (X : Mx) (p : Nat) : Nat → Mx
  | 0 => X
  | q + 1 => ux (rowx m X p q) p q (nv m (rowx m X p q) p q)
def rows (m : Nat) (X : Mx) : Nat → Mx
  | 0 => X
  | p + 1 => rowx m (rows m X p) p m
theorem mnr_le (X : Mx) (p q : Nat) : ∀ r, mnr X p q r ≤ X p q
  | 0 => Int.le_refl _
  | r + 1 => by have := mnr_le X p q r; show min _ _ ≤ _; omega
theorem mnr_at (X : Mx) (p q : Nat) : ∀ k r, r < k → mnr X p q k ≤ X p r + X (ot r) q
  | k + 1, r, h => by
    show min _ _ ≤ _
    by_cases e : r = k
    · subst e; omega
    · have := mnr_at X p q k r (by omega); omega
theorem mnr_ge (X : Mx) (p q : Nat) (z : Int) (h0 : z ≤ X p q) : ∀ k, (∀ r, r < k → z ≤ X p r + X (ot r) q) → z ≤ mnr X p q k
  | 0, _ => h0
  | k + 1, h => by
    have h1 := mnr_ge X p q z h0 k fun r hr => h r (by omega)
    have h2 := h k (by omega)
    show _ ≤ min _ _
    omega
theorem nv_le (m : Nat) (X : Mx) (p q : Nat) : nv m X p q ≤ X p q := by have := mnr_le X p q m; unfold nv; omega
theorem nv_via {m : Nat} (X : Mx) (p q : Nat) {r : Nat} (h : r < m) : nv m X p q ≤ X p r + X (ot r) q := by have := mnr_at X p q m r h; unfold nv; omega
theorem nv_hal (m : Nat) (X : Mx) (p q : Nat) : nv m X p q ≤ fh (X p p) + fh (X q q) := by unfold nv; omega
theorem nv_ge {m : Nat} {X : Mx} {p q : Nat} {z : Int} (h0 : z ≤ X p q) (h1 : ∀ r, r < m → z ≤ X p r + X (ot r) q) (h2 : z ≤ fh (X p p) + fh (X q q)) : z ≤ nv m X p q := by have := mnr_ge X p q z h0 m h1; unfold nv; omega
theorem rowx_out {m : Nat} (X : Mx) (p : Nat) : ∀ (q : Nat) {a b : Nat}, a ≠ p ∨ q ≤ b → rowx m X p q a b = X a b
  | 0, _, _, _ => rfl
  | q + 1, a, b, h => by
    show ux _ _ _ _ a b = _
    unfold ux
    rw [if_neg (by omega)]
    exact rowx_out X p q (by omega)
theorem rowx_in {m : Nat} (X : Mx) (p : Nat) : ∀ (q : Nat) {b : Nat}, b < q → rowx m X p q p b = nv m (rowx m X p b) p b
  | q + 1, b, h => by
    show ux _ _ _ _ p b = _
    unfold ux
    by_cases e : b = q
    · subst e; rw [if_pos ⟨rfl, rfl⟩]
    · rw [if_neg (by omega)]; exact rowx_in X p q (by omega)
theorem rowx_done {m : Nat} (X : Mx) (p : Nat) {b q q' : Nat} (h : b < q) (h' : b < q') : rowx m X p q p b = rowx m X p q' p b := by rw [rowx_in X p q h, rowx_in X p q' h']
theorem rowx_le {m : Nat} (X : Mx) (p : Nat) : ∀ (q : Nat) (a b : Nat), rowx m X p q a b ≤ X a b
  | 0, _, _ => Int.le_refl _
  | q + 1, a, b => by
    have h := rowx_le (m := m) X p q a b
    show ux _ _ _ _ a b ≤ _
    unfold ux
    split
    · rename_i e
      obtain ⟨rfl, rfl⟩ := e
      exact Int.le_trans (nv_le _ _ _ _) h
    · exact h
theorem rows_le {m : Nat} (X : Mx) : ∀ (p : Nat) (a b : Nat), rows m X p a b ≤ X a b
  | 0, _, _ => Int.le_refl _
  | p + 1, a, b => Int.le_trans (rowx_le _ _ _ _ _) (rows_le X p a b)
theorem rows_out {m : Nat} (X : Mx) : ∀ (p : Nat) {a b : Nat}, p ≤ a → rows m X p a b = X a b
  | 0, _, _, _ => rfl
  | p + 1, a, b, h => by
    show rowx m _ p m a b = _
    rw [rowx_out _ _ _ (Or.inl (by omega))]
    exact rows_out X p (by omega)
theorem rows_row {m : Nat} (X : Mx) : ∀ (p : Nat) {a : Nat}, a < p → ∀ b, rows m X p a b = rows m X (a + 1) a b
  | p + 1, a, h, b => by
    by_cases e : a = p
    · rw [e]
    · show rowx m _ p m a b = _
      rw [rowx_out _ _ _ (Or.inl e)]
      exact rows_row X p (by omega) b
theorem ux_abv {n : Nat} {T X : Mx} (c : Cl n T) (l : Le n T X) {p q : Nat} (hp : p < 2 * n) (hq : q < 2 * n) : Le n T (ux X p q (nv (2 * n) X p q)) := fun a b ha hb => by
  unfold ux
  split
  · rename_i e
    obtain ⟨rfl, rfl⟩ := e
    refine nv_ge (l a b ha hb) (fun r hr => ?_) ?_
    · have h1 := c.clo r hr a b ha hb
      have h2 := l a r ha hr
      have h3 := l (ot r) b (ot_lt hr) hb
      omega
    · have h1 := c.hal a b ha hb
      have h2 := fh_mono (l a a ha ha)
      have h3 := fh_mono (l b b hb hb)
      omega
  · exact l a b ha hb
theorem rowx_abv {n : Nat} {T X : Mx} (c : Cl n T) (l : Le n T X) {p : Nat} (hp : p < 2 * n) : ∀ q, q ≤ 2 * n → Le n T (rowx (2 * n) X p q)
  | 0, _ => l
  | q + 1, h => ux_abv c (rowx_abv c l hp q (by omega)) hp (by omega)
theorem rows_abv {n : Nat} {T X : Mx} (c : Cl n T) (l : Le n T X) : ∀ p, p ≤ 2 * n → Le n T (rows (2 * n) X p)
  | 0, _ => l
  | p + 1, h => rowx_abv c (rows_abv c l p (by omega)) (by omega) _ (Nat.le_refl _)
theorem row_new {n : Nat} {X : Mx} {U : Int} {p : Nat} (hp : p < 2 * n) (hU : ∀ a b, a < 2 * n → b < 2 * n → X a b ≤ U) (hc : 0 ≤ rowx (2 * n) X p (2 * n) p (ot p)) {b : Nat} (hb : b < ot p) : -U ≤ rowx (2 * n) X p (2 * n) p b := by
  have ho := ot_lt hp
  rw [rowx_in X p _ ho] at hc
  have h1 := nv_via (m := 2 * n) (rowx (2 * n) X p (ot p)) p (ot p) (r := b) (by omega)
  rw [rowx_done X p (q := ot p) (q' := 2 * n) hb (by omega)] at h1
  have hne : ot b ≠ p := fun e => by rw [← e, ot_ot] at hb; omega
  rw [rowx_out X p _ (Or.inl hne)] at h1
  have h2 := hU (ot b) (ot p) (ot_lt (by omega)) ho
  omega
theorem row_old {n : Nat} {X : Mx} {U : Int} {p : Nat} (hp : p < 2 * n) (h0 : 0 ≤ U) (hU : ∀ a b, a < 2 * n → b < 2 * n → X a b ≤ U) (hc : 0 ≤ rowx (2 * n) X p (2 * n) p (ot p)) {b : Nat} (hb : ot p ≤ b) (hb2 : b < 2 * n) : -U ≤ X p b := by
  have ho := ot_lt hp
  rw [rowx_in X p _ ho] at hc
  have h1 := nv_via (m := 2 * n) (rowx (2 * n) X p (ot p)) p (ot p) (r := b) hb2
  rw [rowx_out X p (ot p) (Or.inr hb)] at h1
  by_cases e : ot b = p
  · have e2 : b = ot p := by rw [← e, ot_ot]
    subst e2
    rw [e, rowx_out X p (ot p) (Or.inr (Nat.le_refl _))] at h1
    omega
  · rw [rowx_out X p _ (Or.inl e)] at h1
    have h2 := hU (ot b) (ot p) (ot_lt hb2) ho
    omega
theorem ot_ne (p : Nat) : ot p ≠ p := by unfold ot; split <;> omega
theorem ot_gap {p r : Nat} (h1 : ot p < r) (h2 : r < p) : False := by unfold ot at h1; split at h1 <;> omega
theorem row_low {n : Nat} {X : Mx} {U L G : Int} {p : Nat} (hp : p < 2 * n) (h0 : 1 ≤ U) (hUL : U ≤ L) (hLG : L ≤ G) (hU : ∀ a b, a < 2 * n → b < 2 * n → X a b ≤ U) (hG : ∀ a b, a < 2 * n → b < 2 * n → -G ≤ X a b) (hL : ∀ a b, p < a → a < 2 * n → b < 2 * n → -L ≤ X a b)
    (hc : 0 ≤ rowx (2 * n) X p (2 * n) p (ot p)) : ∀ b, b < 2 * n → ot p < b → -(2 * G + U + b * L) ≤ rowx (2 * n) X p (2 * n) p b ∧ (b = p → -(U + G) ≤ rowx (2 * n) X p (2 * n) p b) := by
  intro b
  induction b using Nat.strongRecOn with
  | ind b ih =>
  intro hb hob
  have ho := ot_lt hp
  have bL : 0 ≤ (b : Int) * L := Int.mul_nonneg (by omega) (by omega)
  have new := fun r (hr : r < ot p) => row_new hp hU hc hr
  have old := fun r (hr : ot p ≤ r) (h2 : r < 2 * n) => row_old hp (by omega) hU hc hr h2
  rw [rowx_in X p _ hb]
  have zb : rowx (2 * n) X p b p b = X p b := rowx_out X p b (Or.inr (Nat.le_refl _))
  -- what is told over r
  have cand : ∀ r, r < 2 * n → (-(2 * G + U + b * L) ≤ rowx (2 * n) X p b p r + rowx (2 * n) X p b (ot r) b) ∧ (b = p → -(U + G) ≤ rowx (2 * n) X p b p r + rowx (2 * n) X p b (ot r) b) := by
    intro r hr
    by_cases e : ot r = p
    · have er : r = ot p := by rw [← e, ot_ot]
      rw [e, zb, er, rowx_done X p (q := b) (q' := 2 * n) hob ho]
      have := old b (by omega) hb
      omega
    · rw [rowx_out X p b (Or.inl e)]
      have g1 := hG (ot r) b (ot_lt hr) hb
      by_cases c1 : r < ot p
      · rw [rowx_done X p (q := b) (q' := 2 * n) (show r < b by omega) hr]
        have := new r c1
        omega
      · have c2 : ot p < r := by
          have : r ≠ ot p := fun q => e (by rw [q, ot_ot])
          omega
        by_cases c3 : r < b
        · rw [rowx_done X p (q := b) (q' := 2 * n) c3 hr]
          have i1 := ih r c3 hr c2
          by_cases c4 : r = p
          · have := i1.2 c4
            refine ⟨by omega, fun q => by omega⟩
          · have h4 : p < ot r := by
              unfold ot at c2 ⊢
              split at c2 <;> split <;> omega
            have l1 := hL (ot r) b h4 (ot_lt hr) hb
            have l2 := i1.1
            have rb : (r : Int) * L + L ≤ (b : Int) * L := by
              have : ((r + 1 : Nat) : Int) * L ≤ (b : Int) * L := Int.mul_le_mul_of_nonneg_right (by omega) (by omega)
              rw [Int.natCast_add, Int.add_mul] at this
              omega
            refine ⟨by omega, fun q => ?_⟩
            exact (ot_gap c2 (by omega)).elim
        · rw [rowx_out X p b (Or.inr (by omega))]
          have := old r (by omega) hr
          omega
  have hpp : -(U + G) ≤ rowx (2 * n) X p b p p := by
    by_cases c : p < b
    · rw [rowx_done X p (q := b) (q' := 2 * n) c hp]
      by_cases d : p < ot p
      · have := new p d; omega
      · have := (ih p c hp (by have := ot_ne p; omega)).2 rfl
        exact this
    · rw [rowx_out X p b (Or.inr (by omega))]
      have := hG p p hp hp
      omega
  have hbb : -G ≤ rowx (2 * n) X p b b b := by
    by_cases c : b = p
    · subst c
      rw [zb]
      exact hG _ _ hb hb
    · rw [rowx_out X p b (Or.inl c)]
      exact hG _ _ hb hb
  have x1 := old b (by omega) hb
  have x2 : -(U + G) ≤ fh (rowx (2 * n) X p b p p) + fh (rowx (2 * n) X p b b b) := by unfold fh; omega
  refine ⟨nv_ge (by rw [zb]; omega) (fun r hr => (cand r hr).1) (by omega), fun q => nv_ge (by rw [zb]; omega) (fun r hr => (cand r hr).2 q) (by omega)⟩
theorem row_way {n : Nat} {X : Mx} {G : Int} {p : Nat} (hp : p < 2 * n) (h1 : 1 ≤ G) (hG : ∀ a b, a < 2 * n → b < 2 * n → -G ≤ X a b) : ∀ q, q ≤ 2 * n → ∀ b, b < 2 * n → -((q + 1 : Nat) * G) ≤ rowx (2 * n) X p q p b
  | 0, _, b, hb => by have := hG p b hp hb; show -((1 : Int) * G) ≤ X p b; omega
  | q + 1, hq, b, hb => by
    have ih := row_way hp h1 hG q (by omega)
    have e1 : ((q + 1 + 1 : Nat) : Int) * G = (q + 1 : Nat) * G + G := by rw [Int.natCast_add (q + 1) 1, Int.add_mul]; omega
    have pq : 0 ≤ ((q + 1 : Nat) : Int) * G := Int.mul_nonneg (by omega) (by omega)
    have pg : G ≤ ((q + 1 : Nat) : Int) * G := by
      have := Int.mul_le_mul_of_nonneg_right (show (1 : Int) ≤ (q + 1 : Nat) by omega) (show 0 ≤ G by omega)
      omega
    rw [e1]
    generalize ((q + 1 : Nat) : Int) * G = c at *
    show _ ≤ ux _ _ _ _ p b
    unfold ux
    split
    · rename_i e
      obtain ⟨_, rfl⟩ := e
      have zb : rowx (2 * n) X p b p b = X p b := rowx_out X p b (Or.inr (Nat.le_refl _))
      have g0 := hG p b hp hb
      refine nv_ge (by rw [zb]; omega) (fun r hr => ?_) ?_
      · have i1 := ih r hr
        by_cases e : ot r = p
        · rw [e, zb]; omega
        · rw [rowx_out X p b (Or.inl e)]
          have := hG (ot r) b (ot_lt hr) hb
          omega
      · have i1 := ih p hp
        have i2 : -G ≤ rowx (2 * n) X p b b b := by
          by_cases c : b = p
          · subst c; rw [zb]; exact g0
          · rw [rowx_out X p b (Or.inl c)]; exact hG _ _ hb hb
        unfold fh
        omega
    · have := ih b hb
      omega
def Gl (L : Int) : Nat → Int
  | 0 => L
  | p + 1 => 2 * Gl L p + 9 * L
theorem Gl_ge {L : Int} (h : 0 ≤ L) : ∀ p, L ≤ Gl L p
  | 0 => Int.le_refl _
  | p + 1 => by have := Gl_ge h p; show _ ≤ 2 * Gl L p + 9 * L; omega
theorem Gl_mono {L : Int} (h : 0 ≤ L) {p q : Nat} (k : p ≤ q) : Gl L p ≤ Gl L q := by
  induction k with
  | refl => exact Int.le_refl _
  | step k ih => rename_i j; have := Gl_ge h j; show _ ≤ 2 * Gl L j + 9 * L; omega
theorem rows_low {n : Nat} (hn : n ≤ 4) {A : Mx} {U L : Int} (h0 : 1 ≤ U) (hUL : U ≤ L) (hU : ∀ a b, a < 2 * n → b < 2 * n → A a b ≤ U) (hL : ∀ a b, a < 2 * n → b < 2 * n → -L ≤ A a b) : ∀ p, p ≤ 2 * n → (∀ a, a < p → 0 ≤ rows (2 * n) A (a + 1) a (ot a)) → ∀ a b, a < 2 * n → b < 2 * n → -(Gl L p) ≤ rows (2 * n) A p a b
  | 0, _, _, a, b, ha, hb => hL a b ha hb
  | p + 1, hp, hc, a, b, ha, hb => by
    have ih := rows_low hn h0 hUL hU hL p (by omega) (fun a h => hc a (by omega))
    have g1 := Gl_ge (L := L) (by omega) p
    have hpn : p < 2 * n := by omega
    have hU' : ∀ a b, a < 2 * n → b < 2 * n → rows (2 * n) A p a b ≤ U := fun a b ha hb => Int.le_trans (rows_le A p a b) (hU a b ha hb)
    have ck : 0 ≤ rowx (2 * n) (rows (2 * n) A p) p (2 * n) p (ot p) := hc p (by omega)
    show -(2 * Gl L p + 9 * L) ≤ rowx (2 * n) (rows (2 * n) A p) p (2 * n) a b
    by_cases e : a = p
    · subst e
      by_cases c1 : b < ot a
      · have := row_new hpn hU' ck c1; omega
      · by_cases c2 : b = ot a
        · rw [c2]; omega
        · have l := (row_low hpn h0 hUL g1 hU' ih (fun x y hx hx2 hy => by rw [rows_out A a (by omega)]; exact hL x y hx2 hy) ck b hb (by omega)).1
          have bl : (b : Int) * L ≤ 8 * L := Int.mul_le_mul_of_nonneg_right (by omega) (by omega)
          omega
    · rw [rowx_out _ _ _ (Or.inl e)]
      have := ih a b ha hb
      omega
structure Rw (n : Nat) (S A : Mx) : Prop where
  up : ∀ a b, a < 2 * n → b < 2 * n → A a b ≤ 34359738368
  lo : ∀ a b, a < 2 * n → b < 2 * n → -87651692576768 ≤ A a b
  lt : ∀ a b, a < 2 * n → b < 2 * n → b < ot a → -34359738368 ≤ A a b
  le : Le n A S
  ab : ∀ T, Cl n T → Le n T S → Le n T A
theorem Rw.first {n : Nat} {S : Mx} (h : ∀ a b, a < 2 * n → b < 2 * n → -34359738368 ≤ S a b ∧ S a b ≤ 34359738368) : Rw n S S := ⟨fun a b ha hb => (h a b ha hb).2, fun a b ha hb => by have := (h a b ha hb).1; omega, fun a b ha hb _ => (h a b ha hb).1, Le.refl _ _, fun _ _ l => l⟩
theorem Rw.next {n : Nat} (hn : n ≤ 4) {S A C : Mx} (h : Rw n S A) (hc : ∀ a, a < 2 * n → 0 ≤ rows (2 * n) A (a + 1) a (ot a)) (hC : ∀ a b, a < 2 * n → b < 2 * n → C a b = rows (2 * n) A (2 * n) a b) : Rw n S C := by
  have upR : ∀ p a b, a < 2 * n → b < 2 * n → rows (2 * n) A p a b ≤ 34359738368 := fun p a b ha hb => Int.le_trans (rows_le A p a b) (h.up a b ha hb)
  have lowA : ∀ a b, a < 2 * n → b < 2 * n → -34359738368 ≤ A a b := fun a b ha hb => by
    by_cases c : b < ot a
    · exact h.lt a b ha hb c
    · have := row_old (X := rows (2 * n) A a) ha (by omega) (upR a) (hc a ha) (b := b) (by omega) hb
      rwa [rows_out A a (Nat.le_refl _)] at this
  refine ⟨fun a b ha hb => ?_, fun a b ha hb => ?_, fun a b ha hb hl => ?_, fun a b ha hb => ?_, fun T c l a b ha hb => ?_⟩ <;> rw [hC a b ha hb]
  · exact upR _ a b ha hb
  · have l := rows_low hn (U := 34359738368) (L := 34359738368) (by omega) (by omega) h.up lowA (2 * n) (Nat.le_refl _) (fun a ha => hc a ha) a b ha hb
    have g := Gl_mono (L := 34359738368) (by omega) (show 2 * n ≤ 8 by omega)
    have e : Gl 34359738368 8 = 87651692576768 := by decide
    omega
  · rw [rows_row A (2 * n) ha b]
    exact row_new ha (upR a) (hc a ha) hl
  · exact Int.le_trans (rows_le A _ a b) (h.le a b ha hb)
  · exact rows_abv c (h.ab T c l) _ (Nat.le_refl _) a b ha hb
theorem Rw.rows {n : Nat} (hn : n ≤ 4) {S A : Mx} (h : Rw n S A) {p : Nat} (hp : p ≤ 2 * n) (hc : ∀ a, a < p → 0 ≤ rows (2 * n) A (a + 1) a (ot a)) {a b : Nat} (ha : a < 2 * n) (hb : b < 2 * n) : -223599467763335168 ≤ rows (2 * n) A p a b := by
  have l := rows_low hn (U := 34359738368) (L := 87651692576768) (by omega) (by omega) h.up h.lo p hp hc a b ha hb
  have g := Gl_mono (L := 87651692576768) (by omega) (show p ≤ 8 by omega)
  have e : Gl 87651692576768 8 = 223599467763335168 := by decide
  omega
theorem Rw.rowx {n : Nat} (hn : n ≤ 4) {S A : Mx} (h : Rw n S A) {p : Nat} (hp : p < 2 * n) (hc : ∀ a, a < p → 0 ≤ Go.Proofs.Ytpcbammncaeimaa.rows (2 * n) A (a + 1) a (ot a)) {q : Nat} (hq : q ≤ 2 * n) {a b : Nat} (ha : a < 2 * n) (hb : b < 2 * n) : -2012395209870016512 ≤ Go.Proofs.Ytpcbammncaeimaa.rowx (2 * n) (Go.Proofs.Ytpcbammncaeimaa.rows (2 * n) A p) p q a b := by
  have hG : ∀ a b, a < 2 * n → b < 2 * n → -223599467763335168 ≤ Go.Proofs.Ytpcbammncaeimaa.rows (2 * n) A p a b := fun a b ha hb => h.rows hn (by omega) hc ha hb
  by_cases e : a = p
  · subst e
    have := row_way (G := 223599467763335168) hp (by omega) hG q hq b hb
    have q9 : ((q + 1 : Nat) : Int) * 223599467763335168 ≤ 9 * 223599467763335168 := Int.mul_le_mul_of_nonneg_right (by omega) (by omega)
    omega
  · rw [rowx_out _ _ _ (Or.inl e)]
    have := hG a b ha hb
    omega
theorem rows_mono {m : Nat} (A : Mx) {p p' : Nat} (h : p ≤ p') (a b : Nat) : rows m A p' a b ≤ rows m A p a b := by
  induction h with
  | refl => exact Int.le_refl _
  | step h ih => exact Int.le_trans (rowx_le _ _ _ _ _) ih
theorem rowx_mono {m : Nat} (X : Mx) (p : Nat) {q q' : Nat} (h : q ≤ q') (a b : Nat) : rowx m X p q' a b ≤ rowx m X p q a b := by
  induction h with
  | refl => exact Int.le_refl _
  | step h ih =>
    refine Int.le_trans ?_ ih
    show ux _ _ _ _ a b ≤ _
    unfold ux
    split
    · rename_i e
      obtain ⟨rfl, rfl⟩ := e
      exact nv_le _ _ _ _
    · exact Int.le_refl _
theorem ref_last {n : Nat} {S A : Mx} (h : Rw n S A) (hc : ∀ a, a < 2 * n → 0 ≤ rows (2 * n) A (a + 1) a (ot a)) (hs : ∀ a b, a < 2 * n → b < 2 * n → rows (2 * n) A (2 * n) a b = A a b) : Bst n S A := by
  have mid : ∀ p q a b, p < 2 * n → q ≤ 2 * n → a < 2 * n → b < 2 * n → rowx (2 * n) (rows (2 * n) A p) p q a b = A a b := fun p q a b hp hq ha hb => by
    have h1 := rows_mono (m := 2 * n) A (show p + 1 ≤ 2 * n by omega) a b
    have h2 : rows (2 * n) A (p + 1) a b ≤ rowx (2 * n) (rows (2 * n) A p) p q a b := rowx_mono _ _ hq a b
    have h3 := rowx_le (m := 2 * n) (rows (2 * n) A p) p q a b
    have h4 := rows_le (m := 2 * n) A p a b
    rw [hs a b ha hb] at h1
    omega
  have key : ∀ a b, a < 2 * n → b < 2 * n → A a b = nv (2 * n) (rowx (2 * n) (rows (2 * n) A a) a b) a b := fun a b ha hb => by
    rw [← rowx_in (m := 2 * n) (rows (2 * n) A a) a (2 * n) hb, mid a (2 * n) a b ha (Nat.le_refl _) ha hb]
  refine ⟨⟨fun k hk a b ha hb => ?_, fun a b ha hb => ?_, fun a ha => ?_⟩, h.le, h.ab⟩
  · have := nv_via (m := 2 * n) (rowx (2 * n) (rows (2 * n) A a) a b) a b hk
    rw [← key a b ha hb, mid a b a k ha (by omega) ha hk, mid a b (ot k) b ha (by omega) (ot_lt hk) hb] at this
    exact this
  · have := nv_hal (2 * n) (rowx (2 * n) (rows (2 * n) A a) a b) a b
    rw [← key a b ha hb, mid a b a a ha (by omega) ha ha, mid a b b b ha (by omega) hb hb] at this
    exact this
  · have := hc a ha
    have e := rows_row (m := 2 * n) A (2 * n) ha (ot a)
    rw [hs a (ot a) ha (ot_lt ha)] at e
    omega
end Go.Proofs.Ytpcbammncaeimaa

namespace Go.Proofs.Ytpcbammncaeimaa
open Go.RowKit
set_option linter.unusedVariables false
set_option linter.unusedSimpArgs false
structure Rf where
  b : Nat
  pb : Nat
  pc : Nat
  rb : Nat → Nat
  rc : Nat → Nat
  lo : Nat
  hi : Nat
structure RefAt (W : World) (R : Rf) (n : Nat) (e : Bool) (M : Mx) : Prop where
  hn : W.cell? ⟨R.b, 0, none⟩ = some (.int .i64 n)
  hs : W.cell? ⟨R.b, 1, none⟩ = some (.slice (some ⟨R.pb, 0, none⟩) (2 * n) R.pc)
  he : W.cell? ⟨R.b, 2, none⟩ = some (.bool e)
  hr : ∀ a, a < 2 * n → W.cell? ⟨R.pb, a, none⟩ = some (.slice (some ⟨R.rb a, 0, none⟩) (2 * n) (R.rc a))
  hm : ∀ a c, a < 2 * n → c < 2 * n → W.cell? ⟨R.rb a, c, none⟩ = some (.int .i64 (M a c))
  fe : ∀ k, W.frozen? ⟨R.b, k, none⟩ = false
  fm : ∀ a k, a < 2 * n → W.frozen? ⟨R.rb a, k, none⟩ = false
  ib : R.lo ≤ R.b ∧ R.b < R.hi
  ip : R.lo ≤ R.pb ∧ R.pb < R.hi
  ir : ∀ a, a < 2 * n → R.lo ≤ R.rb a ∧ R.rb a < R.hi
  d1 : R.b ≠ R.pb
  d2 : ∀ a, a < 2 * n → R.rb a ≠ R.b
  d3 : ∀ a, a < 2 * n → R.rb a ≠ R.pb
  d4 : ∀ a c, a < 2 * n → c < 2 * n → R.rb a = R.rb c → a = c
structure Rgn (lo hi : Nat) (w w' : World) : Prop where
  os : w'.os = w.os
  tape : w'.tape = w.tape
  output : w'.output = w.output
  size : w.heap.size ≤ w'.heap.size
  block : ∀ k, k < w.heap.size → k < lo ∨ hi ≤ k → w'.heap[k]? = w.heap[k]?
theorem Rgn.refl (lo hi : Nat) (w : World) : Rgn lo hi w w := ⟨rfl, rfl, rfl, Nat.le_refl _, fun _ _ _ => rfl⟩
theorem Rgn.trans {lo hi : Nat} {x y z : World} (h : Rgn lo hi x y) (k : Rgn lo hi y z) : Rgn lo hi x z :=
  ⟨k.os.trans h.os, k.tape.trans h.tape, k.output.trans h.output, Nat.le_trans h.size k.size, fun i hi hb => (k.block i (Nat.lt_of_lt_of_le hi h.size) hb).trans (h.block i hi hb)⟩
theorem Rgn.drewN {lo hi : Nat} {x y : World} (h : Rgn lo hi x y) (n : Nat) : Rgn lo hi x (y.drewN n) := ⟨h.os, h.tape, h.output, h.size, h.block⟩
theorem Rgn.drew {lo hi : Nat} {x y : World} (h : Rgn lo hi x y) : Rgn lo hi x y.drew := ⟨h.os, h.tape, h.output, h.size, h.block⟩
theorem Rgn.set {lo hi : Nat} {x y : World} (h : Rgn lo hi x y) {b j : Nat} (h1 : lo ≤ b) (h2 : b < hi) (v : Value) : Rgn lo hi x (y.setCell ⟨b, j, none⟩ v) :=
  ⟨h.os, h.tape, h.output, by simpa [World.setCell] using h.size, fun k hk hb => (Below.heap_setCell y _ v k (by show k ≠ b; omega)).trans (h.block k hk hb)⟩
theorem Rgn.of {lo hi : Nat} {w w' : World} (g : Below w.heap.size w w') : Rgn lo hi w w' := ⟨g.os, g.tape, g.output, g.size, fun k hk _ => g.block k hk⟩
theorem RefAt.drewN {W : World} {R : Rf} {n : Nat} {e : Bool} {M : Mx} (h : RefAt W R n e M) (k : Nat) : RefAt (W.drewN k) R n e M := ⟨h.hn, h.hs, h.he, h.hr, h.hm, h.fe, h.fm, h.ib, h.ip, h.ir, h.d1, h.d2, h.d3, h.d4⟩
theorem RefAt.drew {W : World} {R : Rf} {n : Nat} {e : Bool} {M : Mx} (h : RefAt W R n e M) : RefAt W.drew R n e M := ⟨h.hn, h.hs, h.he, h.hr, h.hm, h.fe, h.fm, h.ib, h.ip, h.ir, h.d1, h.d2, h.d3, h.d4⟩
theorem RefAt.congr {W : World} {R : Rf} {n : Nat} {e : Bool} {M M' : Mx} (h : RefAt W R n e M) (q : ∀ a c, a < 2 * n → c < 2 * n → M a c = M' a c) : RefAt W R n e M' := ⟨h.hn, h.hs, h.he, h.hr, fun a c ha hc => by rw [← q a c ha hc]; exact h.hm a c ha hc, h.fe, h.fm, h.ib, h.ip, h.ir, h.d1, h.d2, h.d3, h.d4⟩
theorem RefAt.set {W : World} {R : Rf} {n : Nat} {e : Bool} {M : Mx} (h : RefAt W R n e M) {x y : Nat} (hx : x < 2 * n) (hy : y < 2 * n) (v : Int) : RefAt (W.setCell ⟨R.rb x, y, none⟩ (.int .i64 v)) R n e (ux M x y v) := by
  have n1 := h.d2 x hx
  have n2 := h.d3 x hx
  refine ⟨?_, ?_, ?_, fun a ha => ?_, fun a c ha hc => ?_, fun k => by rw [World.frozen?_setCell]; exact h.fe k, fun a k ha => by rw [World.frozen?_setCell]; exact h.fm a k ha, h.ib, h.ip, h.ir, h.d1, h.d2, h.d3, h.d4⟩
  · rw [World.cell?_setCell_other _ _ _ _ (by first | (simp; done) | (simp; omega))]; exact h.hn
  · rw [World.cell?_setCell_other _ _ _ _ (by first | (simp; done) | (simp; omega))]; exact h.hs
  · rw [World.cell?_setCell_other _ _ _ _ (by first | (simp; done) | (simp; omega))]; exact h.he
  · rw [World.cell?_setCell_other _ _ _ _ (by first | (simp; done) | (simp; omega))]; exact h.hr a ha
  · unfold ux
    by_cases q : a = x ∧ c = y
    · rw [if_pos q, q.1, q.2]
      exact World.cell?_setCell_same _ _ _ (h.hm x y hx hy)
    · rw [if_neg q, World.cell?_setCell_other _ _ _ _ (by simp; intro r; have := h.d4 x a hx ha r; omega)]
      exact h.hm a c ha hc
theorem RefAt.setE {W : World} {R : Rf} {n : Nat} {e : Bool} {M : Mx} (h : RefAt W R n e M) (v : Bool) : RefAt (W.setCell ⟨R.b, 2, none⟩ (.bool v)) R n v M := by
  refine ⟨?_, ?_, World.cell?_setCell_same _ _ _ h.he, fun a ha => ?_, fun a c ha hc => ?_, fun k => by rw [World.frozen?_setCell]; exact h.fe k, fun a k ha => by rw [World.frozen?_setCell]; exact h.fm a k ha, h.ib, h.ip, h.ir, h.d1, h.d2, h.d3, h.d4⟩
  · rw [World.cell?_setCell_other _ _ _ _ (by simp)]; exact h.hn
  · rw [World.cell?_setCell_other _ _ _ _ (by simp)]; exact h.hs
  · rw [World.cell?_setCell_other _ _ _ _ (by have := h.d1; first | (simp; done) | (simp; omega) | (simp [this]))]; exact h.hr a ha
  · rw [World.cell?_setCell_other _ _ _ _ (by have := h.d2 a ha; first | (simp; done) | (simp; omega) | (simp [Ne.symm this]))]; exact h.hm a c ha hc
theorem RefAt.blocks {W W' : World} {R : Rf} {n : Nat} {e : Bool} {M : Mx} (h : RefAt W R n e M) (g : ∀ k, k < W.heap.size → R.lo ≤ k → k < R.hi → W'.heap[k]? = W.heap[k]?) : RefAt W' R n e M := by
  have key : ∀ b j v, R.lo ≤ b → b < R.hi → W.cell? ⟨b, j, none⟩ = some v → W'.cell? ⟨b, j, none⟩ = some v := fun b j v h1 h2 q => (World.cell?_of_block (g b (World.block_lt_of_cell? W _ q) h1 h2)).trans q
  have hb : R.b < W.heap.size := World.block_lt_of_cell? W _ h.hn
  refine ⟨key _ _ _ h.ib.1 h.ib.2 h.hn, key _ _ _ h.ib.1 h.ib.2 h.hs, key _ _ _ h.ib.1 h.ib.2 h.he, fun a ha => key _ _ _ h.ip.1 h.ip.2 (h.hr a ha), fun a c ha hc => key _ _ _ (h.ir a ha).1 (h.ir a ha).2 (h.hm a c ha hc), fun k => (World.frozen?_of_block (g R.b hb h.ib.1 h.ib.2)).trans (h.fe k), fun a k ha => ?_, h.ib, h.ip, h.ir, h.d1, h.d2, h.d3, h.d4⟩
  have hr : R.rb a < W.heap.size := World.block_lt_of_cell? W _ (h.hm a a ha ha)
  exact (World.frozen?_of_block (g (R.rb a) hr (h.ir a ha).1 (h.ir a ha).2)).trans (h.fm a k ha)
theorem RefAt.on {W W' : World} {R : Rf} {n : Nat} {e : Bool} {M : Mx} (h : RefAt W R n e M) (g : Below W.heap.size W W') : RefAt W' R n e M := h.blocks fun k hk _ _ => g.block k hk
theorem RefAt.onl {W W' : World} {R : Rf} {n : Nat} {e : Bool} {M : Mx} (h : RefAt W R n e M) {b : Nat} (g : Onl b W W') (hb : b < R.lo ∨ R.hi ≤ b) : RefAt W' R n e M := h.blocks fun k hk h1 h2 => g.block k hk (by omega)
theorem RefAt.rgn {W W' : World} {R : Rf} {n : Nat} {e : Bool} {M : Mx} (h : RefAt W R n e M) {lo hi : Nat} (g : Rgn lo hi W W') (hb : hi ≤ R.lo ∨ R.hi ≤ lo) : RefAt W' R n e M := h.blocks fun k hk h1 h2 => g.block k hk (by omega)
theorem OctAt.rgn {W W' : World} {b n : Nat} {e : Bool} {M : Mx} (h : OctAt W b n e M) {lo hi : Nat} (g : Rgn lo hi W W') (hb : b < lo ∨ hi ≤ b) : OctAt W' b n e M := by
  have hk : b < W.heap.size := World.block_lt_of_cell? W _ h.hv
  have key : ∀ j v, W.cell? ⟨b, j, none⟩ = Option.some v → W'.cell? ⟨b, j, none⟩ = Option.some v := fun j v q => (World.cell?_of_block (g.block b hk hb)).trans q
  exact ⟨key _ _ h.hv, key _ _ h.he, fun i j hi hj => key _ _ (h.hm i j hi hj), fun k => (World.frozen?_of_block (g.block b hk hb)).trans (h.hf k)⟩
def rdR (W : World) (R : Rf) : Mx := fun i j => match W.cell? ⟨R.rb i, j, none⟩ with | some (.int _ v) => v | _ => 0
theorem RefAt.rd {W : World} {R : Rf} {n : Nat} {e : Bool} {M : Mx} (h : RefAt W R n e M) : Agr n (rdR W R) M := fun i j hi hj => by
  unfold rdR
  rw [h.hm i j hi hj]
set_option maxRecDepth 100000 in
theorem rix2 (b m c j : Nat) (hj : j < m) (w : World) : (Instr.indexAt 73 (.slice (some ⟨b, 0, none⟩) m c) (.int .i64 j)).run Try.prog w = .ok (.pointer (some ⟨b, j, none⟩)) w := by
  have e2 : ∀ w, (sizeOf (Try.prog.elem 73)).run Try.prog w = .ok 1 w := fun w => by kernel_rfl
  rw [run_indexAt_slice (h := by first | exact Try.underlying73 | rfl), if_pos ⟨by omega, by omega⟩, e2]
  show Result.ok (Value.pointer (some (Addr.add ⟨b, 0, none⟩ ((j : Int).toNat * 1)))) w = _
  rw [Go.WideShapes.add_plain, Int.toNat_natCast, Nat.mul_one, Nat.zero_add]
set_option maxRecDepth 100000 in
theorem rix (b m c j : Nat) (hj : j < m) (w : World) : (Instr.indexAt 31 (.slice (some ⟨b, 0, none⟩) m c) (.int .i64 j)).run Try.prog w = .ok (.pointer (some ⟨b, j, none⟩)) w := by
  have := oiz b 0 m c j hj w
  rw [Nat.zero_add] at this
  exact this
set_option maxRecDepth 100000 in
theorem rhalf (x : Int) (h1 : -9223372036854775807 ≤ x) (h2 : x ≤ 9223372036854775807) (w : World) : Calls Try.prog 76 #[.int .i64 x] w fun r w' => r = .returned (.int .i64 (fh x)) ∧ w' = w := by
  by_cases h : x % 2 = 0
  · have t1 : (x.tmod 2 == 0) = true := by rw [beq_iff_eq, Int.tmod_eq_emod]; split <;> omega
    have w2 : wrap64 (x.tdiv 2) = x.tdiv 2 := by unfold wrap64; rw [td2]; split <;> omega
    have w1 : x.tdiv 2 = fh x := by unfold fh; rw [td2]; split <;> omega
    obtain ⟨w3, _⟩ : Hid (x.tdiv 2 = fh x) ∧ True := ⟨w1, trivial⟩
    clear w1
    generalize fh x = z at *
    go_enter Try.func76, Try.ntmps76
    go_wp2_with fail
    go_ret
    exact ⟨by first | rfl | (rw [← w3.out]; rfl), rfl⟩
  · have t1 : (x.tmod 2 == 0) = false := by rw [beq_eq_false_iff_ne, Int.tmod_eq_emod]; split <;> omega
    have w0 : IntKind.i64.wrap (x - 1) = x - 1 := by rw [IntKind.wrap_i64]; omega
    have w2 : wrap64 ((x - 1).tdiv 2) = (x - 1).tdiv 2 := by unfold wrap64; rw [td2]; split <;> omega
    have w1 : (x - 1).tdiv 2 = fh x := by unfold fh; rw [td2]; split <;> omega
    obtain ⟨w3, _⟩ : Hid ((x - 1).tdiv 2 = fh x) ∧ True := ⟨w1, trivial⟩
    clear w1
    generalize fh x = z at *
    go_enter Try.func76, Try.ntmps76
    go_wp2_with fail
    go_ret
    exact ⟨by first | rfl | (rw [← w3.out]; rfl), rfl⟩
end Go.Proofs.Ytpcbammncaeimaa


