/- Texts of the proof, put together. -/
import Derived.Test.YtknoibocpbfmmaaGreatDoorZG1
namespace Go.Proofs.YtknoibocpbfmmaaGreatDoor
set_option linter.unusedVariables false
/-- What stands for the end. -/
abbrev eT (a : Nat) : Tk := (0, tx0, a)
def Bd {α : Type} (a : Nat) (r : Rs α) : Prop := r = .bad a ∨ r = .more
def Nv {α : Type} (r : Rs α) : Prop := ∀ x vs d, r ≠ .ok x vs d
/-- If it is told, the end alone is left. -/
def E1 {α : Type} (e : Nat) (r : Rs α) : Prop := ∀ x vs d, r = .ok x vs d → vs = [eT e]
theorem Bd.nv {α : Type} {a : Nat} {r : Rs α} (h : Bd a r) : Nv r := fun x vs d e => by rcases h with h | h <;> rw [h] at e <;> cases e
theorem Nv.e1 {α : Type} {a : Nat} {r : Rs α} (h : Nv r) : E1 a r := fun x vs d e => absurd e (h x vs d)
theorem Bd.e1 {α : Type} {a b : Nat} {r : Rs α} (h : Bd a r) : E1 b r := h.nv.e1
theorem Bd.thn {α β : Type} {a : Nat} {r : Rs α} (h : Bd a r) (f : α → List Tk → Int → Rs β) : Bd a (r.thn f) := by
  rcases h with h | h <;> rw [h]
  · exact Or.inl rfl
  · exact Or.inr rfl
theorem Nv.thn {α β : Type} {r : Rs α} (h : Nv r) (f : α → List Tk → Int → Rs β) : Nv (r.thn f) := fun x vs d e => by
  cases r with
  | ok y us k => exact h y us k rfl
  | bad p => cases e
  | more => cases e
theorem E1.thn {α β : Type} {e : Nat} {r : Rs α} (h : E1 e r) {f : α → List Tk → Int → Rs β} (hf : ∀ x d, E1 e (f x [eT e] d)) : E1 e (r.thn f) := fun x vs d q => by
  cases r with
  | ok y us k =>
    have := h y us k rfl
    subst this
    exact hf y k x vs d q
  | bad p => cases q
  | more => cases q
theorem E1.ok {α : Type} (e : Nat) (x : α) (d : Int) : E1 e (.ok x [eT e] d) := fun y vs d' q => by cases q; rfl
theorem end_no {s : ByteArray} (hs : s ≠ tx0) (a : Nat) : isTx [eT a] s = false := decide_eq_false (fun e => hs e.symm)
theorem end_want {α : Type} {s : ByteArray} (hs : s ≠ tx0) (a : Nat) (f : List Tk → Rs α) : Bd a (want s [eT a] f) := Or.inl (by
  unfold want; rw [end_no hs]; rfl)
theorem end_num (a : Nat) (d : Int) : Bd a (numP [eT a] d) := Or.inl rfl
theorem end_name {α : Type} (a : Nat) (f : ByteArray → List Tk → Rs α) : Bd a (nameP [eT a] f) := Or.inl rfl
/-- At the end no expression begins. -/
theorem end_ex : ∀ n : Nat,
    (∀ lv o a d, Bd a (eP n lv o [eT a] d)) ∧ (∀ o a d, Bd a (sP n o [eT a] d)) ∧ (∀ o a d, Bd a (gP n o [eT a] d)) ∧ (∀ o a d, Bd a (vP n o [eT a] d)) ∧ (∀ o a d, Bd a (iP n o [eT a] d)) ∧ (∀ o a d, Bd a (cP n o [eT a] d))
  | 0 => ⟨fun _ _ _ _ => Or.inr rfl, fun _ _ _ => Or.inr rfl, fun _ _ _ => Or.inr rfl, fun _ _ _ => Or.inr rfl, fun _ _ _ => Or.inr rfl, fun _ _ _ => Or.inr rfl⟩
  | n + 1 => by
    obtain ⟨he, hs, hg, hv, hi, hc⟩ := end_ex n
    refine ⟨fun lv o a d => ?_, fun o a d => ?_, fun o a d => ?_, fun o a d => ?_, fun o a d => ?_, fun o a d => ?_⟩
    · rw [eP]; exact (hs o a d).thn _
    · rw [sP, end_no tMi_ne, end_no tNo_ne]; exact hg o a d
    · rw [gP, if_neg (show ¬ tyOf (hd [eT a]).2.1 ≠ 0 from fun h => h rfl), if_neg (show ¬ (hd [eT a]).1 = 1 from Nat.zero_ne_one), end_no tSq_ne, end_no tAb_ne, end_no tLp_ne]
      exact end_num a d
    · rw [vP, if_neg (show ¬ (hd [eT a]).1 = 1 from Nat.zero_ne_one)]; exact Or.inl rfl
    · rw [iP]; exact hc _ a _
    · rw [cP]; exact end_want tLp_ne a _
theorem end_lP (n : Nat) (lv o : Int) (l : Ex) (a : Nat) (d : Int) : lP n lv o l [eT a] d = .ok l [eT a] d ∨ lP n lv o l [eT a] d = .more := by
  cases n with
  | zero => exact Or.inr rfl
  | succ n => rw [lP, if_pos (show (opOf (hd [eT a]).2.1).1 = 0 ∨ (opOf (hd [eT a]).2.1).2 < lv from Or.inl rfl)]; exact Or.inl rfl
theorem end_lPe (n : Nat) (lv o : Int) (l : Ex) (a : Nat) (d : Int) : E1 a (lP n lv o l [eT a] d) := fun x vs d' q => by
  rcases end_lP n lv o l a d with h | h <;> rw [h] at q <;> cases q
  rfl
/-- Of one token an expression leaves the end. -/
theorem one_ex (t : Tk) : ∀ n : Nat,
    (∀ o e d, E1 e (sP n o [t, eT e] d)) ∧ (∀ o e d, E1 e (gP n o [t, eT e] d)) ∧ (∀ o e d, E1 e (vP n o [t, eT e] d)) ∧ (∀ o e d, Nv (iP n o [t, eT e] d)) ∧ (∀ o e d, Nv (cP n o [t, eT e] d))
  | 0 => by refine ⟨?_, ?_, ?_, ?_, ?_⟩ <;> (intro o e d x vs d' q; simp [sP, gP, vP, iP, cP] at q)
  | n + 1 => by
    obtain ⟨hs, hg, hv, hi, hc⟩ := one_ex t n
    obtain ⟨ke, ks, kg, kv, ki, kc⟩ := end_ex n
    refine ⟨fun o e d => ?_, fun o e d => ?_, fun o e d => ?_, fun o e d => ?_, fun o e d => ?_⟩
    · rw [sP]
      split
      · exact ((ks o e d).thn _).e1
      · split
        · exact ((ks o e d).thn _).e1
        · exact hg o e d
    · rw [gP]
      split
      · split
        · exact ((ki o e d).thn _).e1
        · exact fun x vs d' q => by cases q
      · split
        · exact hv o e d
        · split
          · exact ((ki o e d).thn _).e1
          · split
            · exact ((ki o e d).thn _).e1
            · split
              · exact (hi o e d).e1
              · unfold numP
                split
                · exact E1.ok e _ d
                · exact fun x vs d' q => by cases q
    · rw [vP]
      split
      · rw [show [t, eT e].tail = [eT e] from rfl, end_no tLb_ne]
        exact E1.ok e _ d
      · exact fun x vs d' q => by cases q
    · rw [iP]; exact hc _ e _
    · rw [cP]
      unfold want
      split
      · exact ((ke 0 o e d).thn _).nv
      · exact fun x vs d' q => by cases q
/-- Tokens of some kind. -/
def Kd (u : List Tk) : Prop := ∀ a ∈ u, a.1 ≠ 0
theorem Kd.tl {a : Tk} {u : List Tk} (h : Kd (a :: u)) : Kd u := fun x hx => h x (List.mem_cons_of_mem _ hx)
/-- Two runs: over tokens with one more behind them, and without it. -/
def Ct {α : Type} (t : Tk) (e a : Nat) (r r' : Rs α) : Prop :=
  ∀ x vs d, r = .ok x vs d → (∃ v, Kd v ∧ vs = v ++ [t, eT e] ∧ r' = .ok x (v ++ [eT a]) d) ∨ (vs = [eT e] ∧ Bd a r')
section
variable {α β : Type} {t : Tk} {e a : Nat}
theorem Ct.nv {r r' : Rs α} (h : Nv r) : Ct t e a r r' := fun x vs d q => absurd q (h x vs d)
theorem Ct.bad {p : Nat} {r' : Rs α} : Ct t e a (.bad p) r' := fun x vs d q => by cases q
theorem Ct.fin {r r' : Rs α} (h : E1 e r) (k : Bd a r') : Ct t e a r r' := fun x vs d q => Or.inr ⟨h x vs d q, k⟩
theorem Ct.ok (x : α) {u : List Tk} (hu : Kd u) (d : Int) : Ct t e a (.ok x (u ++ [t, eT e]) d) (.ok x (u ++ [eT a]) d) := fun y vs d' q => by cases q; exact Or.inl ⟨u, hu, rfl, rfl⟩
theorem Ct.thn {r r' : Rs α} {f : α → List Tk → Int → Rs β} (h : Ct t e a r r') (hf : ∀ x v d, Kd v → Ct t e a (f x (v ++ [t, eT e]) d) (f x (v ++ [eT a]) d)) (he : ∀ x d, E1 e (f x [eT e] d)) : Ct t e a (r.thn f) (r'.thn f) := fun x vs d q => by
  cases r with
  | ok y us k =>
    rcases h y us k rfl with ⟨v, hv, rfl, e2⟩ | ⟨rfl, e2⟩
    · rw [e2]; exact hf y v k hv x vs d q
    · exact Or.inr ⟨he y k x vs d q, e2.thn f⟩
  | bad p => cases q
  | more => cases q
/-- The next token is of a text, or not. -/
theorem Ct.ite {u : List Tk} {s : ByteArray} (hs : s ≠ tx0) (hu : Kd u) {f g : List Tk → Rs α} (h1 : ∀ v, Kd v → Ct t e a (f (v ++ [t, eT e])) (f (v ++ [eT a]))) (h2 : Ct t e a (g (u ++ [t, eT e])) (g (u ++ [eT a]))) (hE : Nv (f [eT e]) ∨ E1 e (f [eT e]) ∧ Bd a (g [eT a])) :
    Ct t e a (if isTx (u ++ [t, eT e]) s = true then f (u ++ [t, eT e]).tail else g (u ++ [t, eT e])) (if isTx (u ++ [eT a]) s = true then f (u ++ [eT a]).tail else g (u ++ [eT a])) := by
  cases u with
  | nil =>
    rw [List.nil_append, List.nil_append, end_no hs]
    split
    · rcases hE with h | ⟨h, k⟩
      · exact Ct.nv h
      · exact Ct.fin h k
    · exact h2
  | cons b u =>
    by_cases c : isTx (b :: u) s = true
    · rw [if_pos (show isTx (b :: u ++ [t, eT e]) s = true from c), if_pos (show isTx (b :: u ++ [eT a]) s = true from c)]
      exact h1 u hu.tl
    · rw [if_neg (show ¬ isTx (b :: u ++ [t, eT e]) s = true from c), if_neg (show ¬ isTx (b :: u ++ [eT a]) s = true from c)]
      exact h2
theorem Ct.want {u : List Tk} {s : ByteArray} (hs : s ≠ tx0) (hu : Kd u) {f : List Tk → Rs α} (h1 : ∀ v, Kd v → Ct t e a (f (v ++ [t, eT e])) (f (v ++ [eT a]))) (hE : E1 e (f [eT e])) :
    Ct t e a (want s (u ++ [t, eT e]) f) (want s (u ++ [eT a]) f) :=
  Ct.ite (g := fun ts => .bad (hd ts).2.2) hs hu h1 Ct.bad (Or.inr ⟨hE, Or.inl rfl⟩)
/-- By the kind of the next token. -/
theorem Ct.kind {u : List Tk} {k : Nat} (hk : k ≠ 0) (hu : Kd u) {f : ByteArray → List Tk → Rs α} {g : List Tk → Rs α} (h1 : ∀ x v, Kd v → Ct t e a (f x (v ++ [t, eT e])) (f x (v ++ [eT a]))) (h2 : Ct t e a (g (u ++ [t, eT e])) (g (u ++ [eT a]))) (hE : ∀ x, Nv (f x [eT e]) ∨ E1 e (f x [eT e]) ∧ Bd a (g [eT a])) :
    Ct t e a (if (hd (u ++ [t, eT e])).1 = k then f (hd (u ++ [t, eT e])).2.1 (u ++ [t, eT e]).tail else g (u ++ [t, eT e])) (if (hd (u ++ [eT a])).1 = k then f (hd (u ++ [eT a])).2.1 (u ++ [eT a]).tail else g (u ++ [eT a])) := by
  cases u with
  | nil =>
    rw [List.nil_append, List.nil_append, if_neg (show ¬ (hd [eT a]).1 = k from fun h => hk h.symm)]
    split
    · rcases hE (hd [t, eT e]).2.1 with h | ⟨h, k⟩
      · exact Ct.nv h
      · exact Ct.fin h k
    · exact h2
  | cons b u =>
    by_cases c : b.1 = k
    · rw [if_pos (show (hd (b :: u ++ [t, eT e])).1 = k from c), if_pos (show (hd (b :: u ++ [eT a])).1 = k from c)]
      exact h1 b.2.1 u hu.tl
    · rw [if_neg (show ¬ (hd (b :: u ++ [t, eT e])).1 = k from c), if_neg (show ¬ (hd (b :: u ++ [eT a])).1 = k from c)]
      exact h2
theorem Ct.name {u : List Tk} (hu : Kd u) {f : ByteArray → List Tk → Rs α} (h1 : ∀ x v, Kd v → Ct t e a (f x (v ++ [t, eT e])) (f x (v ++ [eT a]))) (hE : ∀ x, E1 e (f x [eT e])) :
    Ct t e a (nameP (u ++ [t, eT e]) f) (nameP (u ++ [eT a]) f) :=
  Ct.kind (g := fun ts => .bad (hd ts).2.2) (by decide) hu h1 Ct.bad (fun x => Or.inr ⟨hE x, Or.inl rfl⟩)
theorem ct_num {u : List Tk} (hu : Kd u) (d : Int) : Ct t e a (numP (u ++ [t, eT e]) d) (numP (u ++ [eT a]) d) := by
  unfold numP
  cases u with
  | nil =>
    rw [List.nil_append, List.nil_append]
    split
    · exact Ct.fin (E1.ok e _ d) (end_num a d)
    · exact Ct.bad
  | cons b u =>
    by_cases c : b.1 = 3 ∨ b.1 = 4
    · rw [if_pos (show (hd (b :: u ++ [t, eT e])).1 = 3 ∨ (hd (b :: u ++ [t, eT e])).1 = 4 from c), if_pos (show (hd (b :: u ++ [eT a])).1 = 3 ∨ (hd (b :: u ++ [eT a])).1 = 4 from c)]
      exact Ct.ok _ hu.tl d
    · rw [if_neg (show ¬ ((hd (b :: u ++ [t, eT e])).1 = 3 ∨ (hd (b :: u ++ [t, eT e])).1 = 4) from c)]
      exact Ct.bad
end
theorem ct_ex (t : Tk) (e a : Nat) : ∀ n : Nat,
    (∀ lv o u d, Kd u → Ct t e a (eP n lv o (u ++ [t, eT e]) d) (eP n lv o (u ++ [eT a]) d)) ∧
    (∀ lv o l u d, Kd u → Ct t e a (lP n lv o l (u ++ [t, eT e]) d) (lP n lv o l (u ++ [eT a]) d)) ∧
    (∀ o u d, Kd u → Ct t e a (sP n o (u ++ [t, eT e]) d) (sP n o (u ++ [eT a]) d)) ∧
    (∀ o u d, Kd u → Ct t e a (gP n o (u ++ [t, eT e]) d) (gP n o (u ++ [eT a]) d)) ∧
    (∀ o u d, Kd u → Ct t e a (vP n o (u ++ [t, eT e]) d) (vP n o (u ++ [eT a]) d)) ∧
    (∀ o u d, Kd u → Ct t e a (iP n o (u ++ [t, eT e]) d) (iP n o (u ++ [eT a]) d)) ∧
    (∀ o u d, Kd u → Ct t e a (cP n o (u ++ [t, eT e]) d) (cP n o (u ++ [eT a]) d))
  | 0 => by refine ⟨?_, ?_, ?_, ?_, ?_, ?_, ?_⟩ <;> intros <;> intro x vs d' q <;> simp [eP, lP, sP, gP, vP, iP, cP] at q
  | n + 1 => by
    obtain ⟨he, hl, hs, hg, hv, hi, hc⟩ := ct_ex t e a n
    obtain ⟨ke, ks, kg, kv, ki, kc⟩ := end_ex n
    obtain ⟨os, og, ov, oi, oc⟩ := one_ex t n
    refine ⟨?_, ?_, ?_, ?_, ?_, ?_, ?_⟩
    · intro lv o u d hu
      rw [eP, eP]
      exact (hs o u d hu).thn (fun x v d hv => hl lv o x v d hv) (fun x d => end_lPe n lv o x e d)
    · intro lv o l u d hu
      rw [lP, lP]
      cases u with
      | nil =>
        rw [List.nil_append, List.nil_append, if_pos (show (opOf (hd [eT a]).2.1).1 = 0 ∨ (opOf (hd [eT a]).2.1).2 < lv from Or.inl rfl)]
        split
        · exact Ct.ok (u := []) l (fun x hx => absurd hx (by simp)) d
        · exact Ct.nv ((ke _ o e d).thn _).nv
      | cons b u =>
        by_cases c : (opOf b.2.1).1 = 0 ∨ (opOf b.2.1).2 < lv
        · rw [if_pos (show (opOf (hd (b :: u ++ [t, eT e])).2.1).1 = 0 ∨ (opOf (hd (b :: u ++ [t, eT e])).2.1).2 < lv from c), if_pos (show (opOf (hd (b :: u ++ [eT a])).2.1).1 = 0 ∨ (opOf (hd (b :: u ++ [eT a])).2.1).2 < lv from c)]
          exact Ct.ok l hu d
        · rw [if_neg (show ¬ ((opOf (hd (b :: u ++ [t, eT e])).2.1).1 = 0 ∨ (opOf (hd (b :: u ++ [t, eT e])).2.1).2 < lv) from c), if_neg (show ¬ ((opOf (hd (b :: u ++ [eT a])).2.1).1 = 0 ∨ (opOf (hd (b :: u ++ [eT a])).2.1).2 < lv) from c)]
          exact (he _ o u d hu.tl).thn (fun x v d hv => hl lv o _ v d hv) (fun x d => end_lPe n lv o _ e d)
    · intro o u d hu
      rw [sP, sP]
      refine Ct.ite (f := fun ts => (sP n o ts d).thn fun e ts d => .ok (over1 4 e) ts d) (g := fun ts => if isTx ts tNo then (sP n o ts.tail d).thn fun e ts d => .ok (over1 20 e) ts d else gP n o ts d) tMi_ne hu (fun v hv => (hs o v d hv).thn (fun x v d hv => Ct.ok _ hv d) (fun x d => E1.ok e _ d)) ?_ (Or.inl ((ks o e d).thn _).nv)
      exact Ct.ite (f := fun ts => (sP n o ts d).thn fun e ts d => .ok (over1 20 e) ts d) (g := fun ts => gP n o ts d) tNo_ne hu (fun v hv => (hs o v d hv).thn (fun x v d hv => Ct.ok _ hv d) (fun x d => E1.ok e _ d)) (hg o u d hu) (Or.inl ((ks o e d).thn _).nv)
    · intro o u d hu
      cases u with
      | nil => exact Ct.fin ((one_ex t (n + 1)).2.1 o e d) ((end_ex (n + 1)).2.2.1 o a d)
      | cons b u =>
        rw [gP, gP]
        by_cases c : tyOf b.2.1 ≠ 0
        · rw [if_pos (show tyOf (hd (b :: u ++ [t, eT e])).2.1 ≠ 0 from c), if_pos (show tyOf (hd (b :: u ++ [eT a])).2.1 ≠ 0 from c)]
          by_cases c2 : b.1 = 2
          · rw [if_pos (show (hd (b :: u ++ [t, eT e])).1 = 2 from c2), if_pos (show (hd (b :: u ++ [eT a])).1 = 2 from c2)]
            exact (hi o u d hu.tl).thn (fun x v d hv => Ct.ok _ hv d) (fun x d => E1.ok e _ d)
          · rw [if_neg (show ¬ (hd (b :: u ++ [t, eT e])).1 = 2 from c2)]
            exact Ct.bad
        · rw [if_neg (show ¬ tyOf (hd (b :: u ++ [t, eT e])).2.1 ≠ 0 from c), if_neg (show ¬ tyOf (hd (b :: u ++ [eT a])).2.1 ≠ 0 from c)]
          by_cases c2 : b.1 = 1
          · rw [if_pos (show (hd (b :: u ++ [t, eT e])).1 = 1 from c2), if_pos (show (hd (b :: u ++ [eT a])).1 = 1 from c2)]
            exact hv o (b :: u) d hu
          · rw [if_neg (show ¬ (hd (b :: u ++ [t, eT e])).1 = 1 from c2), if_neg (show ¬ (hd (b :: u ++ [eT a])).1 = 1 from c2)]
            refine Ct.ite (u := b :: u) (f := fun ts => (iP n o ts d).thn fun e ts d => .ok (over1 6 e) ts d) (g := fun ts => if isTx ts tAb then (iP n o ts.tail d).thn fun e ts d => .ok (over1 5 e) ts d else if isTx ts tLp then iP n o ts d else numP ts d) tSq_ne hu (fun v hv => (hi o v d hv).thn (fun x v d hv => Ct.ok _ hv d) (fun x d => E1.ok e _ d)) ?_ (Or.inl ((ki o e d).thn _).nv)
            refine Ct.ite (u := b :: u) (f := fun ts => (iP n o ts d).thn fun e ts d => .ok (over1 5 e) ts d) (g := fun ts => if isTx ts tLp then iP n o ts d else numP ts d) tAb_ne hu (fun v hv => (hi o v d hv).thn (fun x v d hv => Ct.ok _ hv d) (fun x d => E1.ok e _ d)) ?_ (Or.inl ((ki o e d).thn _).nv)
            by_cases c3 : isTx (b :: u) tLp = true
            · rw [if_pos (show isTx (b :: u ++ [t, eT e]) tLp = true from c3), if_pos (show isTx (b :: u ++ [eT a]) tLp = true from c3)]
              exact hi o (b :: u) d hu
            · rw [if_neg (show ¬ isTx (b :: u ++ [t, eT e]) tLp = true from c3), if_neg (show ¬ isTx (b :: u ++ [eT a]) tLp = true from c3)]
              exact ct_num hu d
    · intro o u d hu
      cases u with
      | nil => exact Ct.fin ((one_ex t (n + 1)).2.2.1 o e d) ((end_ex (n + 1)).2.2.2.1 o a d)
      | cons b u =>
        rw [vP, vP]
        by_cases c : b.1 = 1
        · rw [if_pos (show (hd (b :: u ++ [t, eT e])).1 = 1 from c), if_pos (show (hd (b :: u ++ [eT a])).1 = 1 from c)]
          refine Ct.ite (u := u) (f := fun ts => (eP n 0 o ts d).thn fun e us d => want tRb us fun us => .ok (⟨3, b.2.1, 0, e.row .nil⟩ : Ex) us d) (g := fun ts => .ok (⟨2, b.2.1, 0, .nil⟩ : Ex) ts d) tLb_ne hu.tl (fun v hv => (he 0 o v d hv).thn (fun x v d hv => Ct.want tRb_ne hv (fun w hw => Ct.ok _ hw d) (E1.ok e _ d)) (fun x d => (end_want tRb_ne e _).e1)) (Ct.ok _ hu.tl d) (Or.inl ((ke 0 o e d).thn _).nv)
        · rw [if_neg (show ¬ (hd (b :: u ++ [t, eT e])).1 = 1 from c)]
          exact Ct.bad
    · intro o u d hu
      rw [iP, iP]
      exact hc _ u _ hu
    · intro o u d hu
      rw [cP, cP]
      exact Ct.want tLp_ne hu (fun v hv => (he 0 o v d hv).thn (fun x v d hv => Ct.want tRp_ne hv (fun w hw => Ct.ok _ hw d) (E1.ok e _ d)) (fun x d => (end_want tRp_ne e _).e1)) ((ke 0 o e d).thn _).e1
end Go.Proofs.YtknoibocpbfmmaaGreatDoor

namespace Go.Proofs.YtknoibocpbfmmaaGreatDoor
set_option linter.unusedVariables false
theorem Nv.ite {α : Type} {s : ByteArray} (hs : s ≠ tx0) (e : Nat) {x y : Rs α} (h : Nv y) : Nv (if isTx [eT e] s = true then x else y) := by rw [end_no hs]; exact h
theorem E1.ite {α : Type} {s : ByteArray} (hs : s ≠ tx0) (e : Nat) {x y : Rs α} (h : E1 e y) : E1 e (if isTx [eT e] s = true then x else y) := by rw [end_no hs]; exact h
theorem end_bd (a : Nat) (d : Int) : Bd a (bdP [eT a] d) := by
  unfold bdP; rw [end_no tMi_ne]; exact end_num a d
theorem end_read (a : Nat) (d : Int) : Bd a (readP [eT a] d) := end_name a _
theorem end_asg (n : Nat) (a : Nat) (d : Int) : Bd a (asgP n [eT a] d) := end_name a _
theorem end_st : ∀ n : Nat, (∀ a d, Bd a (stP n [eT a] d)) ∧ (∀ a d, Bd a (blP n [eT a] d)) ∧ (∀ a d, Bd a (bsP n [eT a] d))
  | 0 => ⟨fun _ _ => Or.inr rfl, fun _ _ => Or.inr rfl, fun _ _ => Or.inr rfl⟩
  | n + 1 => by
    obtain ⟨hs, hb, hl⟩ := end_st n
    refine ⟨fun a d => ?_, fun a d => ?_, fun a d => ?_⟩
    · rw [stP, end_no tRd_ne, end_no tIf_ne, end_no tWh_ne]; exact end_asg n a d
    · rw [blP]; exact end_want tLc_ne a _
    · rw [bsP, end_no tRc_ne]; exact (hs a d).thn _
theorem end_dc (a : Nat) (d : Int) : Bd a (dcP [eT a] d) := Or.inl rfl
/-- One token is no statement. -/
theorem one_asg (t : Tk) (n : Nat) (e : Nat) (d : Int) : Nv (asgP n [t, eT e] d) := by
  unfold asgP nameP
  split
  · exact Nv.ite tLb_ne e (end_want tEq_ne e _).nv
  · exact fun x vs d' q => by cases q
theorem one_st (t : Tk) (n : Nat) (e : Nat) (d : Int) : Nv (stP n [t, eT e] d) := by
  cases n with
  | zero => exact fun x vs d' q => by cases q
  | succ n =>
    rw [stP]
    split
    · exact (end_read e d).nv
    · split
      · exact (((end_ex n).2.2.2.2.2 0 e d).thn _).nv
      · split
        · exact (((end_ex n).2.2.2.2.2 0 e d).thn _).nv
        · exact one_asg t n e d
theorem one_dc (t : Tk) (e : Nat) (d : Int) : Nv (dcP [t, eT e] d) := by
  unfold dcP
  split
  · exact (end_name e _).nv
  · exact fun x vs d' q => by cases q
theorem ct_bd {t : Tk} {e a : Nat} {u : List Tk} (hu : Kd u) (d : Int) : Ct t e a (bdP (u ++ [t, eT e]) d) (bdP (u ++ [eT a]) d) := by
  unfold bdP
  exact Ct.ite (f := fun ts => (numP ts d).thn fun e ts d => .ok (over1 4 e) ts d) (g := fun ts => numP ts d) tMi_ne hu (fun v hv => (ct_num hv d).thn (fun x v d hv => Ct.ok _ hv d) (fun x d => E1.ok e _ d)) (ct_num hu d) (Or.inl ((end_num e d).thn _).nv)
theorem ct_read {t : Tk} {e a : Nat} {u : List Tk} (hu : Kd u) (d : Int) : Ct t e a (readP (u ++ [t, eT e]) d) (readP (u ++ [eT a]) d) := by
  unfold readP
  refine Ct.name hu (fun x v hv => Ct.want tIn_ne hv (fun v hv => Ct.want tLb_ne hv (fun v hv => (ct_bd hv d).thn (fun l v d hv => Ct.want tCo_ne hv (fun v hv => (ct_bd hv d).thn (fun h v d hv => Ct.want tRb_ne hv (fun v hv => Ct.want tSe_ne hv (fun v hv => Ct.ok _ hv d) (E1.ok e _ d)) (end_want tSe_ne e _).e1) (fun h d => (end_want tRb_ne e _).e1)) ((end_bd e d).thn _).e1) (fun l d => (end_want tCo_ne e _).e1)) ((end_bd e d).thn _).e1) (end_want tLb_ne e _).e1) (fun x => (end_want tIn_ne e _).e1)
theorem ct_val {t : Tk} {e a : Nat} (n : Nat) (f : Ex → St) {u : List Tk} (hu : Kd u) (d : Int) :
    Ct t e a (want tEq (u ++ [t, eT e]) fun ts => (eP n 0 0 ts d).thn fun v ts d => want tSe ts fun ts => .ok (f v) ts d) (want tEq (u ++ [eT a]) fun ts => (eP n 0 0 ts d).thn fun v ts d => want tSe ts fun ts => .ok (f v) ts d) :=
  Ct.want tEq_ne hu (fun v hv => ((ct_ex t e a n).1 0 0 v d hv).thn (fun x v d hv => Ct.want tSe_ne hv (fun v hv => Ct.ok _ hv d) (E1.ok e _ d)) (fun x d => (end_want tSe_ne e _).e1)) (((end_ex n).1 0 0 e d).thn _).e1
theorem ct_asg {t : Tk} {e a : Nat} (n : Nat) {u : List Tk} (hu : Kd u) (d : Int) : Ct t e a (asgP n (u ++ [t, eT e]) d) (asgP n (u ++ [eT a]) d) := by
  unfold asgP
  refine Ct.name (f := fun x ts => if isTx ts tLb then (eP n 0 0 ts.tail d).thn fun i ts d => want tRb ts fun ts => want tEq ts fun ts => (eP n 0 0 ts d).thn fun v ts d => want tSe ts fun ts => .ok (⟨1, x, i.row .nil, v, exN, exN, .nil, .nil⟩ : St) ts d else want tEq ts fun ts => (eP n 0 0 ts d).thn fun v ts d => want tSe ts fun ts => .ok (⟨1, x, .nil, v, exN, exN, .nil, .nil⟩ : St) ts d) hu (fun x v hv => ?_) (fun x => ?_)
  · exact Ct.ite (f := fun ts => (eP n 0 0 ts d).thn fun i ts d => want tRb ts fun ts => want tEq ts fun ts => (eP n 0 0 ts d).thn fun v ts d => want tSe ts fun ts => .ok (⟨1, x, i.row .nil, v, exN, exN, .nil, .nil⟩ : St) ts d) (g := fun ts => want tEq ts fun ts => (eP n 0 0 ts d).thn fun v ts d => want tSe ts fun ts => .ok (⟨1, x, .nil, v, exN, exN, .nil, .nil⟩ : St) ts d) tLb_ne hv
      (fun v hv => ((ct_ex t e a n).1 0 0 v d hv).thn (fun i v d hv => Ct.want tRb_ne hv (fun v hv => ct_val n (fun w => ⟨1, x, i.row .nil, w, exN, exN, .nil, .nil⟩) hv d) (end_want tEq_ne e _).e1) (fun i d => (end_want tRb_ne e _).e1))
      (ct_val n (fun w => ⟨1, x, .nil, w, exN, exN, .nil, .nil⟩) hv d) (Or.inl (((end_ex n).1 0 0 e d).thn _).nv)
  · exact E1.ite tLb_ne e (end_want tEq_ne e _).e1
theorem ct_st (t : Tk) (e a : Nat) : ∀ n : Nat,
    (∀ u d, Kd u → Ct t e a (stP n (u ++ [t, eT e]) d) (stP n (u ++ [eT a]) d)) ∧
    (∀ u d, Kd u → Ct t e a (blP n (u ++ [t, eT e]) d) (blP n (u ++ [eT a]) d)) ∧
    (∀ u d, Kd u → Ct t e a (bsP n (u ++ [t, eT e]) d) (bsP n (u ++ [eT a]) d))
  | 0 => by refine ⟨?_, ?_, ?_⟩ <;> intros <;> intro x vs d' q <;> simp [stP, blP, bsP] at q
  | n + 1 => by
    obtain ⟨hs, hb, hl⟩ := ct_st t e a n
    obtain ⟨ks, kb, kl⟩ := end_st n
    have ec := (end_ex n).2.2.2.2.2 0 e
    have cc := fun u d hu => (ct_ex t e a n).2.2.2.2.2.2 0 u d hu
    refine ⟨?_, ?_, ?_⟩
    · intro u d hu
      rw [stP, stP]
      refine Ct.ite (f := fun ts => readP ts d) (g := fun ts => if isTx ts tIf then (cP n 0 ts.tail d).thn fun c ts d => (blP n ts d).thn fun t ts d => if isTx ts tEl then (blP n ts.tail d).thn fun e ts d => .ok (⟨3, tx0, .nil, c, exN, exN, t, e⟩ : St) ts d else .ok (⟨3, tx0, .nil, c, exN, exN, t, .nil⟩ : St) ts d
        else if isTx ts tWh then (cP n 0 ts.tail d).thn fun c ts d => (blP n ts d).thn fun t ts d => .ok (⟨4, tx0, .nil, c, exN, exN, t, .nil⟩ : St) ts d else asgP n ts d) tRd_ne hu (fun v hv => ct_read hv d) ?_ (Or.inl (end_read e d).nv)
      refine Ct.ite (f := fun ts => (cP n 0 ts d).thn fun c ts d => (blP n ts d).thn fun t ts d => if isTx ts tEl then (blP n ts.tail d).thn fun e ts d => .ok (⟨3, tx0, .nil, c, exN, exN, t, e⟩ : St) ts d else .ok (⟨3, tx0, .nil, c, exN, exN, t, .nil⟩ : St) ts d)
        (g := fun ts => if isTx ts tWh then (cP n 0 ts.tail d).thn fun c ts d => (blP n ts d).thn fun t ts d => .ok (⟨4, tx0, .nil, c, exN, exN, t, .nil⟩ : St) ts d else asgP n ts d) tIf_ne hu (fun v hv => (cc v d hv).thn (fun c v d hv => (hb v d hv).thn (fun b v d hv => ?_) (fun b d => ?_)) (fun c d => ((kb e d).thn _).e1)) ?_ (Or.inl ((ec d).thn _).nv)
      · exact Ct.ite (f := fun ts => (blP n ts d).thn fun e ts d => .ok (⟨3, tx0, .nil, c, exN, exN, b, e⟩ : St) ts d) (g := fun ts => .ok (⟨3, tx0, .nil, c, exN, exN, b, .nil⟩ : St) ts d) tEl_ne hv (fun v hv => (hb v d hv).thn (fun x v d hv => Ct.ok _ hv d) (fun x d => E1.ok e _ d)) (Ct.ok _ hv d) (Or.inl ((kb e d).thn _).nv)
      · rw [end_no tEl_ne]; exact E1.ok e _ d
      · exact Ct.ite (f := fun ts => (cP n 0 ts d).thn fun c ts d => (blP n ts d).thn fun t ts d => .ok (⟨4, tx0, .nil, c, exN, exN, t, .nil⟩ : St) ts d) (g := fun ts => asgP n ts d) tWh_ne hu (fun v hv => (cc v d hv).thn (fun c v d hv => (hb v d hv).thn (fun b v d hv => Ct.ok _ hv d) (fun b d => E1.ok e _ d)) (fun c d => ((kb e d).thn _).e1)) (ct_asg n hu d) (Or.inl ((ec d).thn _).nv)
    · intro u d hu
      rw [blP, blP]
      exact Ct.want tLc_ne hu (fun v hv => hl v d hv) (kl e d).e1
    · intro u d hu
      rw [bsP, bsP]
      refine Ct.ite (f := fun ts => .ok .nil ts d) (g := fun ts => (stP n ts d).thn fun s ts d => (bsP n ts d).thn fun l ts d => .ok (s.row l) ts d) tRc_ne hu (fun v hv => Ct.ok _ hv d) ?_ (Or.inr ⟨E1.ok e _ d, (ks a d).thn _⟩)
      exact (hs u d hu).thn (fun s v d hv => (hl v d hv).thn (fun l v d hv => Ct.ok _ hv d) (fun l d => E1.ok e _ d)) (fun s d => ((kl e d).thn _).e1)
theorem ct_dc {t : Tk} {e a : Nat} {u : List Tk} (hu : Kd u) (d : Int) : Ct t e a (dcP (u ++ [t, eT e]) d) (dcP (u ++ [eT a]) d) := by
  cases u with
  | nil => exact Ct.nv (one_dc t e d)
  | cons b u =>
    unfold dcP
    by_cases c : b.1 = 2
    · rw [if_pos (show (hd (b :: u ++ [t, eT e])).1 = 2 from c), if_pos (show (hd (b :: u ++ [eT a])).1 = 2 from c)]
      refine Ct.name (u := u) (f := fun x us => if isTx us tLb then if (hd us.tail).1 = 3 then want tRb us.tail.tail fun vs => want tSe vs fun vs => .ok (x, tyOf b.2.1, celN (hd us.tail).2.1) vs d else .bad (hd us.tail).2.2 else want tSe us fun us => .ok (x, tyOf b.2.1, 0) us d) hu.tl (fun x v hv => ?_) (fun x => ?_)
      · refine Ct.ite (f := fun us => if (hd us).1 = 3 then want tRb us.tail fun vs => want tSe vs fun vs => .ok (x, tyOf b.2.1, celN (hd us).2.1) vs d else .bad (hd us).2.2) (g := fun us => want tSe us fun us => .ok (x, tyOf b.2.1, 0) us d) tLb_ne hv (fun v hv => ?_) ?_ (Or.inl ?_)
        · refine Ct.kind (k := 3) (f := fun y us => want tRb us fun vs => want tSe vs fun vs => .ok (x, tyOf b.2.1, celN y) vs d) (g := fun us => .bad (hd us).2.2) (by decide) hv (fun y v hv => Ct.want tRb_ne hv (fun v hv => Ct.want tSe_ne hv (fun v hv => Ct.ok _ hv d) (E1.ok e _ d)) (end_want tSe_ne e _).e1) Ct.bad (fun y => Or.inl (end_want tRb_ne e _).nv)
        · exact Ct.want tSe_ne hv (fun v hv => Ct.ok _ hv d) (E1.ok e _ d)
        · exact fun x vs d' q => by cases q
      · exact E1.ite tLb_ne e (end_want tSe_ne e _).e1
    · rw [if_neg (show ¬ (hd (b :: u ++ [t, eT e])).1 = 2 from c)]
      exact Ct.bad
theorem end_ds (n : Nat) (e : Nat) (d : Int) : E1 e (dsP n [eT e] d) := by
  cases n with
  | zero => exact fun x vs d' q => by cases q
  | succ n => rw [dsP, if_neg (show ¬ tyOf (hd [eT e]).2.1 ≠ 0 from fun h => h rfl)]; exact E1.ok e _ d
theorem ct_ds (t : Tk) (e a : Nat) : ∀ (n : Nat) u d, Kd u → Ct t e a (dsP n (u ++ [t, eT e]) d) (dsP n (u ++ [eT a]) d)
  | 0, u, d, hu => fun x vs d' q => by cases q
  | n + 1, u, d, hu => by
    rw [dsP, dsP]
    cases u with
    | nil =>
      rw [List.nil_append, List.nil_append, if_neg (show ¬ tyOf (hd [eT a]).2.1 ≠ 0 from fun h => h rfl)]
      split
      · exact Ct.nv ((one_dc t e d).thn _)
      · exact Ct.ok (u := []) _ hu d
    | cons b u =>
      by_cases c : tyOf b.2.1 ≠ 0
      · rw [if_pos (show tyOf (hd (b :: u ++ [t, eT e])).2.1 ≠ 0 from c), if_pos (show tyOf (hd (b :: u ++ [eT a])).2.1 ≠ 0 from c)]
        exact (ct_dc hu d).thn (fun x v d hv => (ct_ds t e a n v d hv).thn (fun l v d hv => Ct.ok _ hv d) (fun l d => E1.ok e _ d)) (fun x d => (end_ds n e d).thn (fun l d => E1.ok e _ d))
      · rw [if_neg (show ¬ tyOf (hd (b :: u ++ [t, eT e])).2.1 ≠ 0 from c), if_neg (show ¬ tyOf (hd (b :: u ++ [eT a])).2.1 ≠ 0 from c)]
        exact Ct.ok _ hu d
/-- Statements up to the end: told only where the last token is taken. -/
theorem ct_ss (t : Tk) (ht : t.1 ≠ 0) (e a : Nat) : ∀ (n : Nat) u d, Kd u → ∀ x vs d', ssP n (u ++ [t, eT e]) d = .ok x vs d' → Bd a (ssP n (u ++ [eT a]) d)
  | 0, u, d, hu => fun x vs d' q => by cases q
  | n + 1, u, d, hu => by
    intro x vs d' q
    rw [ssP] at q ⊢
    cases u with
    | nil =>
      rw [List.nil_append, if_neg (show ¬ (hd [t, eT e]).1 = 0 from ht)] at q
      exact absurd q ((one_st t n e d).thn _ x vs d')
    | cons b u =>
      have c : ¬ b.1 = 0 := hu b (by simp)
      rw [if_neg (show ¬ (hd (b :: u ++ [t, eT e])).1 = 0 from c)] at q
      rw [if_neg (show ¬ (hd (b :: u ++ [eT a])).1 = 0 from c)]
      cases hr : stP n (b :: u ++ [t, eT e]) d with
      | bad p => rw [hr] at q; cases q
      | more => rw [hr] at q; cases q
      | ok y us k =>
        rw [hr] at q
        rcases (ct_st t e a n).1 (b :: u) d hu y us k hr with ⟨v, hv, rfl, e2⟩ | ⟨rfl, e2⟩
        · rw [e2]
          cases hr2 : ssP n (v ++ [t, eT e]) k with
          | bad p => simp only [Rs.thn] at q; rw [hr2] at q; cases q
          | more => simp only [Rs.thn] at q; rw [hr2] at q; cases q
          | ok z ws m => exact (ct_ss t ht e a n v k hv z ws m hr2).thn _
        · exact e2.thn _
/-- A program without its last token is none, at the end. -/
theorem ct_pg (t : Tk) (ht : t.1 ≠ 0) (e a n : Nat) (u : List Tk) (hu : Kd u) (x : Pg) (vs : List Tk) (d : Int) (h : pgP n (u ++ [t, eT e]) = .ok x vs d) : Bd a (pgP n (u ++ [eT a])) := by
  unfold pgP at h ⊢
  cases hr : dsP n (u ++ [t, eT e]) 0 with
  | bad p => rw [hr] at h; cases h
  | more => rw [hr] at h; cases h
  | ok y us k =>
    rw [hr] at h
    rcases ct_ds t e a n u 0 hu y us k hr with ⟨v, hv, rfl, e2⟩ | ⟨rfl, e2⟩
    · rw [e2]
      cases hr2 : ssP n (v ++ [t, eT e]) k with
      | bad p => simp only [Rs.thn] at h; rw [hr2] at h; cases h
      | more => simp only [Rs.thn] at h; rw [hr2] at h; cases h
      | ok z ws m => exact (ct_ss t ht e a n v k hv z ws m hr2).thn _
    · exact e2.thn _
end Go.Proofs.YtknoibocpbfmmaaGreatDoor

