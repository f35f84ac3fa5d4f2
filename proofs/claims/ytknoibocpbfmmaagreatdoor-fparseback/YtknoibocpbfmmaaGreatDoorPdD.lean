/- Tokens of an expression, as the parser takes them: levels, ( ). -/
import Derived.Test.YtknoibocpbfmmaaGreatDoorPdC
namespace Go.Proofs.YtknoibocpbfmmaaGreatDoor
set_option linter.unusedVariables false
set_option linter.unusedSimpArgs false
/-- Tokens without their places. -/
def ky (ts : List Tk) : List Kt := ts.map (fun t => (t.1, t.2.1))
theorem ky_cons {ts : List Tk} {k : Nat} {s : ByteArray} {r : List Kt} (h : ky ts = (k, s) :: r) : ∃ a ts', ts = (k, s, a) :: ts' ∧ ky ts' = r := by
  cases ts with
  | nil => cases h
  | cons t ts =>
    obtain ⟨t1, t2, t3⟩ := t
    simp [ky] at h
    obtain ⟨⟨rfl, rfl⟩, h⟩ := h
    exact ⟨t3, ts, rfl, h⟩
theorem ky_app {ts : List Tk} {a b : List Kt} (h : ky ts = a ++ b) : ∃ t1 t2, ts = t1 ++ t2 ∧ ky t1 = a ∧ ky t2 = b := by
  obtain ⟨t1, t2, h1, h2, h3⟩ := List.map_eq_append_iff.1 h
  exact ⟨t1, t2, h1, h2, h3⟩
theorem ky_nil {ts : List Tk} (h : ky ts = []) : ts = [] := List.map_eq_nil_iff.1 h
theorem eP_up {n m : Nat} {lv o : Int} {ts : List Tk} {d : Int} {R : Rs Ex} (h : eP n lv o ts d = R) (hR : R ≠ .more) (hm : n ≤ m) : eP m lv o ts d = R := by
  obtain ⟨j, rfl⟩ := Nat.exists_eq_add_of_le hm
  exact (mo_upto (F := fun n => eP n lv o ts d) (fun n => (mo_ex n).1 lv o ts d) n j (by rw [h]; exact hR)).trans h
theorem lP_up {n m : Nat} {lv o : Int} {l : Ex} {ts : List Tk} {d : Int} {R : Rs Ex} (h : lP n lv o l ts d = R) (hR : R ≠ .more) (hm : n ≤ m) : lP m lv o l ts d = R := by
  obtain ⟨j, rfl⟩ := Nat.exists_eq_add_of_le hm
  exact (mo_upto (F := fun n => lP n lv o l ts d) (fun n => (mo_ex n).2.1 lv o l ts d) n j (by rw [h]; exact hR)).trans h
theorem sP_up {n m : Nat} {o : Int} {ts : List Tk} {d : Int} {R : Rs Ex} (h : sP n o ts d = R) (hR : R ≠ .more) (hm : n ≤ m) : sP m o ts d = R := by
  obtain ⟨j, rfl⟩ := Nat.exists_eq_add_of_le hm
  exact (mo_upto (F := fun n => sP n o ts d) (fun n => (mo_ex n).2.2.1 o ts d) n j (by rw [h]; exact hR)).trans h
theorem cP_up {n m : Nat} {o : Int} {ts : List Tk} {d : Int} {R : Rs Ex} (h : cP n o ts d = R) (hR : R ≠ .more) (hm : n ≤ m) : cP m o ts d = R := by
  obtain ⟨j, rfl⟩ := Nat.exists_eq_add_of_le hm
  exact (mo_upto (F := fun n => cP n o ts d) (fun n => (mo_ex n).2.2.2.2.2.2 o ts d) n j (by rw [h]; exact hR)).trans h
theorem ok_nm {α : Type} {x : α} {ts : List Tk} {d : Int} : Rs.ok x ts d ≠ .more := fun h => by cases h
/-- What stands behind an expression of that level goes into none of it. -/
structure Af (lv : Int) (r : List Tk) : Prop where
  op : (opOf (hd r).2.1).1 = 0 ∨ (opOf (hd r).2.1).2 ≤ lv
  lb : isTx r tLb = false
theorem Af.up {lv lw : Int} {r : List Tk} (h : Af lv r) (hl : lv ≤ lw) : Af lw r := ⟨h.op.imp id fun a => Int.le_trans a hl, h.lb⟩
def lev (op : Int) : Int := (ofT op).2.2
theorem lP_stop {lv o : Int} {l : Ex} {r : List Tk} {d : Int} (h : (opOf (hd r).2.1).1 = 0 ∨ (opOf (hd r).2.1).2 < lv) (n : Nat) : lP (n + 1) lv o l r d = .ok l r d := by
  rw [lP, if_pos h]
/-- An expression of a level as the parser takes it. -/
def Pz (e : Ex) : Prop := ∀ (ts r : List Tk), ky ts = exK e → Af (lev e.op) r → ∀ (lv o d : Int), lv ≤ lev e.op → ∃ d', ∀ (m : Nat) (R : Rs Ex), lP m lv o e r d' = R → R ≠ .more → ∃ n, eP n lv o (ts ++ r) d = R
/-- .. and as what stands ahead of all operators. -/
def Qz1 (e : Ex) (ks : List Kt) : Prop := ∀ (ts r : List Tk), ky ts = ks → isTx r tLb = false → ∀ (o d : Int), ∃ n d', sP n o (ts ++ r) d = .ok e r d'
theorem Qz1.pz {e : Ex} {ts r : List Tk} {ks : List Kt} (h : Qz1 e ks) (hk : ky ts = ks) (hr : isTx r tLb = false) (lv o d : Int) : ∃ d', ∀ (m : Nat) (R : Rs Ex), lP m lv o e r d' = R → R ≠ .more → ∃ n, eP n lv o (ts ++ r) d = R := by
  obtain ⟨n, d', hs⟩ := h ts r hk hr o d
  refine ⟨d', fun m R hm hR => ⟨max n m + 1, ?_⟩⟩
  rw [eP, sP_up hs ok_nm (Nat.le_max_left n m)]
  exact lP_up hm hR (Nat.le_max_right n m)
theorem isTx_hd (k : Nat) (s t : ByteArray) (a : Nat) (r : List Tk) : isTx ((k, s, a) :: r) t = decide (s = t) := rfl
/-- An expression in ( ). -/
theorem pz_enc {e : Ex} (h : Pz e) (h0 : 0 ≤ lev e.op) {ts : List Tk} (hk : ky ts = exK e) (a b : Nat) (r : List Tk) (o d : Int) : ∃ n d', cP n o ((5, tLp, a) :: (ts ++ (5, tRp, b) :: r)) d = .ok e r d' := by
  have af : Af (lev e.op) ((5, tRp, b) :: r) := ⟨Or.inl (by show (opOf tRp).1 = 0; decide), by rw [isTx_hd]; decide⟩
  obtain ⟨d', hx⟩ := h ts ((5, tRp, b) :: r) hk af 0 o d h0
  obtain ⟨n, hn⟩ := hx 1 _ (lP_stop (Or.inl (by show (opOf tRp).1 = 0; decide)) 0) ok_nm
  refine ⟨n + 1, d', ?_⟩
  rw [cP]
  unfold want
  rw [isTx_hd, if_pos (by decide)]
  show (eP n 0 o (ts ++ (5, tRp, b) :: r) d).thn _ = _
  rw [hn]
  show (if isTx ((5, tRp, b) :: r) tRp = true then Rs.ok e r d' else Rs.bad b) = _
  rw [isTx_hd, if_pos (by decide)]
theorem pz_par {e : Ex} (h : Pz e) (h0 : 0 ≤ lev e.op) {ks : List Kt} (hks : ks = exK e) : Qz1 e ((5, tLp) :: (ks ++ [(5, tRp)])) := by
  subst hks
  intro ts r hk hr o d
  obtain ⟨a, ts', rfl, hk2⟩ := ky_cons hk
  obtain ⟨t1, t2, rfl, h1, h2⟩ := ky_app hk2
  obtain ⟨b, t3, rfl, h3⟩ := ky_cons h2
  obtain rfl := ky_nil h3
  obtain ⟨n, d', hc⟩ := pz_enc h h0 h1 a b r (o + 1) (max d (o + 1))
  refine ⟨n + 3, d', ?_⟩
  have e1 : (5, tLp, a) :: (t1 ++ [(5, tRp, b)]) ++ r = (5, tLp, a) :: (t1 ++ (5, tRp, b) :: r) := by simp
  rw [e1, sP, isTx_hd, if_neg (by decide), isTx_hd, if_neg (by decide), gP]
  rw [if_neg (by show ¬ tyOf tLp ≠ 0; decide), if_neg (by show ¬ (5 : Nat) = 1; decide), isTx_hd, if_neg (by decide), isTx_hd, if_neg (by decide), isTx_hd, if_pos (by decide), iP]
  exact hc
theorem gP_call {e : Ex} (h : Pz e) (h0 : 0 ≤ lev e.op) {ks : List Kt} (hks : ks = exK e) {ts r : List Tk} (hk : ky ts = (5, tLp) :: (ks ++ [(5, tRp)])) (o d : Int) : ∃ n d', iP n o (ts ++ r) d = .ok e r d' := by
  subst hks
  obtain ⟨a, ts', rfl, hk2⟩ := ky_cons hk
  obtain ⟨t1, t2, rfl, h1, h2⟩ := ky_app hk2
  obtain ⟨b, t3, rfl, h3⟩ := ky_cons h2
  obtain rfl := ky_nil h3
  obtain ⟨n, d', hc⟩ := pz_enc h h0 h1 a b r (o + 1) (max d (o + 1))
  refine ⟨n + 1, d', ?_⟩
  have e1 : (5, tLp, a) :: (t1 ++ [(5, tRp, b)]) ++ r = (5, tLp, a) :: (t1 ++ (5, tRp, b) :: r) := by simp
  rw [e1, iP]
  exact hc
theorem lev_range (op : Int) : 0 ≤ lev op ∧ lev op ≤ 5 := by
  by_cases c : 8 ≤ op ∧ op ≤ 19
  · rcases op_range c with rfl | rfl | rfl | rfl | rfl | rfl | rfl | rfl | rfl | rfl | rfl | rfl <;> decide
  · have : ofT op = (op, tx0, 5) := by
      unfold ofT
      rw [List.find?_eq_none.2 (fun x hx => ?_)]
      · rfl
      · simp only [decide_eq_true_eq]
        rintro rfl
        simp [opT] at hx
        rcases hx with rfl | rfl | rfl | rfl | rfl | rfl | rfl | rfl | rfl | rfl | rfl | rfl <;> simp at c
    unfold lev; rw [this]; exact ⟨by show (0 : Int) ≤ 5; decide, by show (5 : Int) ≤ 5; decide⟩
theorem lev_five {op : Int} (h : ¬ (8 ≤ op ∧ op ≤ 19)) : lev op = 5 := by
  have : ofT op = (op, tx0, 5) := by
    unfold ofT
    rw [List.find?_eq_none.2 (fun x hx => ?_)]
    · rfl
    · simp only [decide_eq_true_eq]
      rintro rfl
      simp [opT] at hx
      rcases hx with rfl | rfl | rfl | rfl | rfl | rfl | rfl | rfl | rfl | rfl | rfl | rfl <;> simp at h
  unfold lev; rw [this]
/-- A kid that stands ahead of all operators: of the last level, or in ( ). -/
theorem qz_kid {e : Ex} (h : Pz e) (q : lev e.op = 5 → Qz1 e (exK e)) : Qz1 e (kdK 5 (exK e, e.op)) := by
  unfold kdK
  have := lev_range e.op
  split
  · exact pz_par h this.1 rfl
  · rename_i c
    have c' : ¬ lev e.op < 5 := c
    exact q (by omega)
/-- A kid of an operator's level at least, at any weaker one. -/
theorem pz_kid {e : Ex} (h : Pz e) (L : Int) {ts r : List Tk} (hk : ky ts = kdK L (exK e, e.op)) (ho : (opOf (hd r).2.1).1 = 0 ∨ (opOf (hd r).2.1).2 ≤ L) (hb : isTx r tLb = false) (lv o d : Int) (hl : lv ≤ L) :
    ∃ d', ∀ (m : Nat) (R : Rs Ex), lP m lv o e r d' = R → R ≠ .more → ∃ n, eP n lv o (ts ++ r) d = R := by
  unfold kdK at hk
  have hr := lev_range e.op
  split at hk
  · exact (pz_par h hr.1 rfl).pz hk hb lv o d
  · rename_i c
    have c' : ¬ lev e.op < L := c
    exact h ts r hk ⟨ho.imp id fun a => by omega, hb⟩ lv o d (by omega)
end Go.Proofs.YtknoibocpbfmmaaGreatDoor

