/- A text without its last token: what the parser comes to. -/
import Derived.Test.YtknoibocpbfmmaaGreatDoorPaB
namespace Go.Proofs.YtknoibocpbfmmaaGreatDoor
set_option linter.unusedVariables false
/-- What stands for the end. -/
abbrev eT (a : Nat) : Tk := (0, tx0, a)
def Bd {α : Type} (a : Nat) (r : Rs α) : Prop := r = .bad a ∨ r = .more
def Nv {α : Type} (r : Rs α) : Prop := ∀ x vs d, r ≠ .ok x vs d
/-- If it is told, the end alone is left. -/
def E1 {α : Type} (e : Nat) (r : Rs α) : Prop := ∀ x vs d, r = .ok x vs d → vs = [eT e]
theorem Bd.nv {α : Type} {a : Nat} {r : Rs α} (h : Bd a r) : Nv r := fun x vs d e => by rcases h with h | h <;> rw [h] at e <;> cases e
theorem Nv.e1 {α : Type} {a : Nat} {r : Rs α} (h : Nv r) : E1 a r := fun x vs d e => absurd e (h x vs d)
theorem Bd.e1 {α : Type} {a b : Nat} {r : Rs α} (h : Bd a r) : E1 b r := h.nv.e1
theorem Bd.thn {α β : Type} {a : Nat} {r : Rs α} (h : Bd a r) (f : α → List Tk → Int → Rs β) : Bd a (r.thn f) := by
  rcases h with h | h <;> rw [h]
  · exact Or.inl rfl
  · exact Or.inr rfl
theorem Nv.thn {α β : Type} {r : Rs α} (h : Nv r) (f : α → List Tk → Int → Rs β) : Nv (r.thn f) := fun x vs d e => by
  cases r with
  | ok y us k => exact h y us k rfl
  | bad p => cases e
  | more => cases e
theorem E1.thn {α β : Type} {e : Nat} {r : Rs α} (h : E1 e r) {f : α → List Tk → Int → Rs β} (hf : ∀ x d, E1 e (f x [eT e] d)) : E1 e (r.thn f) := fun x vs d q => by
  cases r with
  | ok y us k =>
    have := h y us k rfl
    subst this
    exact hf y k x vs d q
  | bad p => cases q
  | more => cases q
theorem E1.ok {α : Type} (e : Nat) (x : α) (d : Int) : E1 e (.ok x [eT e] d) := fun y vs d' q => by cases q; rfl
theorem end_no {s : ByteArray} (hs : s ≠ tx0) (a : Nat) : isTx [eT a] s = false := decide_eq_false (fun e => hs e.symm)
theorem end_want {α : Type} {s : ByteArray} (hs : s ≠ tx0) (a : Nat) (f : List Tk → Rs α) : Bd a (want s [eT a] f) := Or.inl (by
  unfold want; rw [end_no hs]; rfl)
theorem end_num (a : Nat) (d : Int) : Bd a (numP [eT a] d) := Or.inl rfl
theorem end_name {α : Type} (a : Nat) (f : ByteArray → List Tk → Rs α) : Bd a (nameP [eT a] f) := Or.inl rfl
/-- At the end no expression begins. -/
theorem end_ex : ∀ n : Nat,
    (∀ lv o a d, Bd a (eP n lv o [eT a] d)) ∧ (∀ o a d, Bd a (sP n o [eT a] d)) ∧ (∀ o a d, Bd a (gP n o [eT a] d)) ∧ (∀ o a d, Bd a (vP n o [eT a] d)) ∧ (∀ o a d, Bd a (iP n o [eT a] d)) ∧ (∀ o a d, Bd a (cP n o [eT a] d))
  | 0 => ⟨fun _ _ _ _ => Or.inr rfl, fun _ _ _ => Or.inr rfl, fun _ _ _ => Or.inr rfl, fun _ _ _ => Or.inr rfl, fun _ _ _ => Or.inr rfl, fun _ _ _ => Or.inr rfl⟩
  | n + 1 => by
    obtain ⟨he, hs, hg, hv, hi, hc⟩ := end_ex n
    refine ⟨fun lv o a d => ?_, fun o a d => ?_, fun o a d => ?_, fun o a d => ?_, fun o a d => ?_, fun o a d => ?_⟩
    · rw [eP]; exact (hs o a d).thn _
    · rw [sP, end_no tMi_ne, end_no tNo_ne]; exact hg o a d
    · rw [gP, if_neg (show ¬ tyOf (hd [eT a]).2.1 ≠ 0 from fun h => h rfl), if_neg (show ¬ (hd [eT a]).1 = 1 from Nat.zero_ne_one), end_no tSq_ne, end_no tAb_ne, end_no tLp_ne]
      exact end_num a d
    · rw [vP, if_neg (show ¬ (hd [eT a]).1 = 1 from Nat.zero_ne_one)]; exact Or.inl rfl
    · rw [iP]; exact hc _ a _
    · rw [cP]; exact end_want tLp_ne a _
theorem end_lP (n : Nat) (lv o : Int) (l : Ex) (a : Nat) (d : Int) : lP n lv o l [eT a] d = .ok l [eT a] d ∨ lP n lv o l [eT a] d = .more := by
  cases n with
  | zero => exact Or.inr rfl
  | succ n => rw [lP, if_pos (show (opOf (hd [eT a]).2.1).1 = 0 ∨ (opOf (hd [eT a]).2.1).2 < lv from Or.inl rfl)]; exact Or.inl rfl
theorem end_lPe (n : Nat) (lv o : Int) (l : Ex) (a : Nat) (d : Int) : E1 a (lP n lv o l [eT a] d) := fun x vs d' q => by
  rcases end_lP n lv o l a d with h | h <;> rw [h] at q <;> cases q
  rfl
/-- Of one token an expression leaves the end. -/
theorem one_ex (t : Tk) : ∀ n : Nat,
    (∀ o e d, E1 e (sP n o [t, eT e] d)) ∧ (∀ o e d, E1 e (gP n o [t, eT e] d)) ∧ (∀ o e d, E1 e (vP n o [t, eT e] d)) ∧ (∀ o e d, Nv (iP n o [t, eT e] d)) ∧ (∀ o e d, Nv (cP n o [t, eT e] d))
  | 0 => by refine ⟨?_, ?_, ?_, ?_, ?_⟩ <;> (intro o e d x vs d' q; simp [sP, gP, vP, iP, cP] at q)
  | n + 1 => by
    obtain ⟨hs, hg, hv, hi, hc⟩ := one_ex t n
    obtain ⟨ke, ks, kg, kv, ki, kc⟩ := end_ex n
    refine ⟨fun o e d => ?_, fun o e d => ?_, fun o e d => ?_, fun o e d => ?_, fun o e d => ?_⟩
    · rw [sP]
      split
      · exact ((ks o e d).thn _).e1
      · split
        · exact ((ks o e d).thn _).e1
        · exact hg o e d
    · rw [gP]
      split
      · split
        · exact ((ki o e d).thn _).e1
        · exact fun x vs d' q => by cases q
      · split
        · exact hv o e d
        · split
          · exact ((ki o e d).thn _).e1
          · split
            · exact ((ki o e d).thn _).e1
            · split
              · exact (hi o e d).e1
              · unfold numP
                split
                · exact E1.ok e _ d
                · exact fun x vs d' q => by cases q
    · rw [vP]
      split
      · rw [show [t, eT e].tail = [eT e] from rfl, end_no tLb_ne]
        exact E1.ok e _ d
      · exact fun x vs d' q => by cases q
    · rw [iP]; exact hc _ e _
    · rw [cP]
      unfold want
      split
      · exact ((ke 0 o e d).thn _).nv
      · exact fun x vs d' q => by cases q
theorem one_eP (t : Tk) (n : Nat) (lv o : Int) (e : Nat) (d : Int) : E1 e (eP n lv o [t, eT e] d) := by
  cases n with
  | zero => exact fun x vs d' q => by cases q
  | succ n => rw [eP]; exact ((one_ex t n).1 o e d).thn fun x d => end_lPe n lv o x e d
/-- Tokens of some kind. -/
def Kd (u : List Tk) : Prop := ∀ a ∈ u, a.1 ≠ 0
theorem Kd.tl {a : Tk} {u : List Tk} (h : Kd (a :: u)) : Kd u := fun x hx => h x (List.mem_cons_of_mem _ hx)
/-- Two runs: over tokens with one more behind them, and without it. -/
def Ct {α : Type} (t : Tk) (e a : Nat) (r r' : Rs α) : Prop :=
  ∀ x vs d, r = .ok x vs d → (∃ v, Kd v ∧ vs = v ++ [t, eT e] ∧ r' = .ok x (v ++ [eT a]) d) ∨ (vs = [eT e] ∧ Bd a r')
section
variable {α β : Type} {t : Tk} {e a : Nat}
theorem Ct.nv {r r' : Rs α} (h : Nv r) : Ct t e a r r' := fun x vs d q => absurd q (h x vs d)
theorem Ct.bad {p : Nat} {r' : Rs α} : Ct t e a (.bad p) r' := fun x vs d q => by cases q
theorem Ct.fin {r r' : Rs α} (h : E1 e r) (k : Bd a r') : Ct t e a r r' := fun x vs d q => Or.inr ⟨h x vs d q, k⟩
theorem Ct.ok (x : α) {u : List Tk} (hu : Kd u) (d : Int) : Ct t e a (.ok x (u ++ [t, eT e]) d) (.ok x (u ++ [eT a]) d) := fun y vs d' q => by cases q; exact Or.inl ⟨u, hu, rfl, rfl⟩
theorem Ct.thn {r r' : Rs α} {f : α → List Tk → Int → Rs β} (h : Ct t e a r r') (hf : ∀ x v d, Kd v → Ct t e a (f x (v ++ [t, eT e]) d) (f x (v ++ [eT a]) d)) (he : ∀ x d, E1 e (f x [eT e] d)) : Ct t e a (r.thn f) (r'.thn f) := fun x vs d q => by
  cases r with
  | ok y us k =>
    rcases h y us k rfl with ⟨v, hv, rfl, e2⟩ | ⟨rfl, e2⟩
    · rw [e2]; exact hf y v k hv x vs d q
    · exact Or.inr ⟨he y k x vs d q, e2.thn f⟩
  | bad p => cases q
  | more => cases q
/-- The next token is of a text, or not. -/
theorem Ct.ite {u : List Tk} {s : ByteArray} (hs : s ≠ tx0) (hu : Kd u) {f g : List Tk → Rs α} (h1 : ∀ v, Kd v → Ct t e a (f (v ++ [t, eT e])) (f (v ++ [eT a]))) (h2 : Ct t e a (g (u ++ [t, eT e])) (g (u ++ [eT a]))) (hE : Nv (f [eT e]) ∨ E1 e (f [eT e]) ∧ Bd a (g [eT a])) :
    Ct t e a (if isTx (u ++ [t, eT e]) s = true then f (u ++ [t, eT e]).tail else g (u ++ [t, eT e])) (if isTx (u ++ [eT a]) s = true then f (u ++ [eT a]).tail else g (u ++ [eT a])) := by
  cases u with
  | nil =>
    rw [List.nil_append, List.nil_append, end_no hs]
    split
    · rcases hE with h | ⟨h, k⟩
      · exact Ct.nv h
      · exact Ct.fin h k
    · exact h2
  | cons b u =>
    by_cases c : isTx (b :: u) s = true
    · rw [if_pos (show isTx (b :: u ++ [t, eT e]) s = true from c), if_pos (show isTx (b :: u ++ [eT a]) s = true from c)]
      exact h1 u hu.tl
    · rw [if_neg (show ¬ isTx (b :: u ++ [t, eT e]) s = true from c), if_neg (show ¬ isTx (b :: u ++ [eT a]) s = true from c)]
      exact h2
theorem Ct.want {u : List Tk} {s : ByteArray} (hs : s ≠ tx0) (hu : Kd u) {f : List Tk → Rs α} (h1 : ∀ v, Kd v → Ct t e a (f (v ++ [t, eT e])) (f (v ++ [eT a]))) (hE : E1 e (f [eT e])) :
    Ct t e a (want s (u ++ [t, eT e]) f) (want s (u ++ [eT a]) f) :=
  Ct.ite (g := fun ts => .bad (hd ts).2.2) hs hu h1 Ct.bad (Or.inr ⟨hE, Or.inl rfl⟩)
/-- By the kind of the next token. -/
theorem Ct.kind {u : List Tk} {k : Nat} (hk : k ≠ 0) (hu : Kd u) {f : ByteArray → List Tk → Rs α} {g : List Tk → Rs α} (h1 : ∀ x v, Kd v → Ct t e a (f x (v ++ [t, eT e])) (f x (v ++ [eT a]))) (h2 : Ct t e a (g (u ++ [t, eT e])) (g (u ++ [eT a]))) (hE : ∀ x, Nv (f x [eT e]) ∨ E1 e (f x [eT e]) ∧ Bd a (g [eT a])) :
    Ct t e a (if (hd (u ++ [t, eT e])).1 = k then f (hd (u ++ [t, eT e])).2.1 (u ++ [t, eT e]).tail else g (u ++ [t, eT e])) (if (hd (u ++ [eT a])).1 = k then f (hd (u ++ [eT a])).2.1 (u ++ [eT a]).tail else g (u ++ [eT a])) := by
  cases u with
  | nil =>
    rw [List.nil_append, List.nil_append, if_neg (show ¬ (hd [eT a]).1 = k from fun h => hk h.symm)]
    split
    · rcases hE (hd [t, eT e]).2.1 with h | ⟨h, k⟩
      · exact Ct.nv h
      · exact Ct.fin h k
    · exact h2
  | cons b u =>
    by_cases c : b.1 = k
    · rw [if_pos (show (hd (b :: u ++ [t, eT e])).1 = k from c), if_pos (show (hd (b :: u ++ [eT a])).1 = k from c)]
      exact h1 b.2.1 u hu.tl
    · rw [if_neg (show ¬ (hd (b :: u ++ [t, eT e])).1 = k from c), if_neg (show ¬ (hd (b :: u ++ [eT a])).1 = k from c)]
      exact h2
theorem Ct.name {u : List Tk} (hu : Kd u) {f : ByteArray → List Tk → Rs α} (h1 : ∀ x v, Kd v → Ct t e a (f x (v ++ [t, eT e])) (f x (v ++ [eT a]))) (hE : ∀ x, E1 e (f x [eT e])) :
    Ct t e a (nameP (u ++ [t, eT e]) f) (nameP (u ++ [eT a]) f) :=
  Ct.kind (g := fun ts => .bad (hd ts).2.2) (by decide) hu h1 Ct.bad (fun x => Or.inr ⟨hE x, Or.inl rfl⟩)
theorem ct_num {u : List Tk} (hu : Kd u) (d : Int) : Ct t e a (numP (u ++ [t, eT e]) d) (numP (u ++ [eT a]) d) := by
  unfold numP
  cases u with
  | nil =>
    rw [List.nil_append, List.nil_append]
    split
    · exact Ct.fin (E1.ok e _ d) (end_num a d)
    · exact Ct.bad
  | cons b u =>
    by_cases c : b.1 = 3 ∨ b.1 = 4
    · rw [if_pos (show (hd (b :: u ++ [t, eT e])).1 = 3 ∨ (hd (b :: u ++ [t, eT e])).1 = 4 from c), if_pos (show (hd (b :: u ++ [eT a])).1 = 3 ∨ (hd (b :: u ++ [eT a])).1 = 4 from c)]
      exact Ct.ok _ hu.tl d
    · rw [if_neg (show ¬ ((hd (b :: u ++ [t, eT e])).1 = 3 ∨ (hd (b :: u ++ [t, eT e])).1 = 4) from c)]
      exact Ct.bad
end
theorem ct_ex (t : Tk) (e a : Nat) : ∀ n : Nat,
    (∀ lv o u d, Kd u → Ct t e a (eP n lv o (u ++ [t, eT e]) d) (eP n lv o (u ++ [eT a]) d)) ∧
    (∀ lv o l u d, Kd u → Ct t e a (lP n lv o l (u ++ [t, eT e]) d) (lP n lv o l (u ++ [eT a]) d)) ∧
    (∀ o u d, Kd u → Ct t e a (sP n o (u ++ [t, eT e]) d) (sP n o (u ++ [eT a]) d)) ∧
    (∀ o u d, Kd u → Ct t e a (gP n o (u ++ [t, eT e]) d) (gP n o (u ++ [eT a]) d)) ∧
    (∀ o u d, Kd u → Ct t e a (vP n o (u ++ [t, eT e]) d) (vP n o (u ++ [eT a]) d)) ∧
    (∀ o u d, Kd u → Ct t e a (iP n o (u ++ [t, eT e]) d) (iP n o (u ++ [eT a]) d)) ∧
    (∀ o u d, Kd u → Ct t e a (cP n o (u ++ [t, eT e]) d) (cP n o (u ++ [eT a]) d))
  | 0 => by refine ⟨?_, ?_, ?_, ?_, ?_, ?_, ?_⟩ <;> intros <;> intro x vs d' q <;> simp [eP, lP, sP, gP, vP, iP, cP] at q
  | n + 1 => by
    obtain ⟨he, hl, hs, hg, hv, hi, hc⟩ := ct_ex t e a n
    obtain ⟨ke, ks, kg, kv, ki, kc⟩ := end_ex n
    obtain ⟨os, og, ov, oi, oc⟩ := one_ex t n
    refine ⟨?_, ?_, ?_, ?_, ?_, ?_, ?_⟩
    · intro lv o u d hu
      rw [eP, eP]
      exact (hs o u d hu).thn (fun x v d hv => hl lv o x v d hv) (fun x d => end_lPe n lv o x e d)
    · intro lv o l u d hu
      rw [lP, lP]
      cases u with
      | nil =>
        rw [List.nil_append, List.nil_append, if_pos (show (opOf (hd [eT a]).2.1).1 = 0 ∨ (opOf (hd [eT a]).2.1).2 < lv from Or.inl rfl)]
        split
        · exact Ct.ok (u := []) l (fun x hx => absurd hx (by simp)) d
        · exact Ct.nv ((ke _ o e d).thn _).nv
      | cons b u =>
        by_cases c : (opOf b.2.1).1 = 0 ∨ (opOf b.2.1).2 < lv
        · rw [if_pos (show (opOf (hd (b :: u ++ [t, eT e])).2.1).1 = 0 ∨ (opOf (hd (b :: u ++ [t, eT e])).2.1).2 < lv from c), if_pos (show (opOf (hd (b :: u ++ [eT a])).2.1).1 = 0 ∨ (opOf (hd (b :: u ++ [eT a])).2.1).2 < lv from c)]
          exact Ct.ok l hu d
        · rw [if_neg (show ¬ ((opOf (hd (b :: u ++ [t, eT e])).2.1).1 = 0 ∨ (opOf (hd (b :: u ++ [t, eT e])).2.1).2 < lv) from c), if_neg (show ¬ ((opOf (hd (b :: u ++ [eT a])).2.1).1 = 0 ∨ (opOf (hd (b :: u ++ [eT a])).2.1).2 < lv) from c)]
          exact (he _ o u d hu.tl).thn (fun x v d hv => hl lv o _ v d hv) (fun x d => end_lPe n lv o _ e d)
    · intro o u d hu
      rw [sP, sP]
      refine Ct.ite (f := fun ts => (sP n o ts d).thn fun e ts d => .ok (over1 4 e) ts d) (g := fun ts => if isTx ts tNo then (sP n o ts.tail d).thn fun e ts d => .ok (over1 20 e) ts d else gP n o ts d) tMi_ne hu (fun v hv => (hs o v d hv).thn (fun x v d hv => Ct.ok _ hv d) (fun x d => E1.ok e _ d)) ?_ (Or.inl ((ks o e d).thn _).nv)
      exact Ct.ite (f := fun ts => (sP n o ts d).thn fun e ts d => .ok (over1 20 e) ts d) (g := fun ts => gP n o ts d) tNo_ne hu (fun v hv => (hs o v d hv).thn (fun x v d hv => Ct.ok _ hv d) (fun x d => E1.ok e _ d)) (hg o u d hu) (Or.inl ((ks o e d).thn _).nv)
    · intro o u d hu
      cases u with
      | nil => exact Ct.fin ((one_ex t (n + 1)).2.1 o e d) ((end_ex (n + 1)).2.2.1 o a d)
      | cons b u =>
        rw [gP, gP]
        by_cases c : tyOf b.2.1 ≠ 0
        · rw [if_pos (show tyOf (hd (b :: u ++ [t, eT e])).2.1 ≠ 0 from c), if_pos (show tyOf (hd (b :: u ++ [eT a])).2.1 ≠ 0 from c)]
          by_cases c2 : b.1 = 2
          · rw [if_pos (show (hd (b :: u ++ [t, eT e])).1 = 2 from c2), if_pos (show (hd (b :: u ++ [eT a])).1 = 2 from c2)]
            exact (hi o u d hu.tl).thn (fun x v d hv => Ct.ok _ hv d) (fun x d => E1.ok e _ d)
          · rw [if_neg (show ¬ (hd (b :: u ++ [t, eT e])).1 = 2 from c2)]
            exact Ct.bad
        · rw [if_neg (show ¬ tyOf (hd (b :: u ++ [t, eT e])).2.1 ≠ 0 from c), if_neg (show ¬ tyOf (hd (b :: u ++ [eT a])).2.1 ≠ 0 from c)]
          by_cases c2 : b.1 = 1
          · rw [if_pos (show (hd (b :: u ++ [t, eT e])).1 = 1 from c2), if_pos (show (hd (b :: u ++ [eT a])).1 = 1 from c2)]
            exact hv o (b :: u) d hu
          · rw [if_neg (show ¬ (hd (b :: u ++ [t, eT e])).1 = 1 from c2), if_neg (show ¬ (hd (b :: u ++ [eT a])).1 = 1 from c2)]
            refine Ct.ite (u := b :: u) (f := fun ts => (iP n o ts d).thn fun e ts d => .ok (over1 6 e) ts d) (g := fun ts => if isTx ts tAb then (iP n o ts.tail d).thn fun e ts d => .ok (over1 5 e) ts d else if isTx ts tLp then iP n o ts d else numP ts d) tSq_ne hu (fun v hv => (hi o v d hv).thn (fun x v d hv => Ct.ok _ hv d) (fun x d => E1.ok e _ d)) ?_ (Or.inl ((ki o e d).thn _).nv)
            refine Ct.ite (u := b :: u) (f := fun ts => (iP n o ts d).thn fun e ts d => .ok (over1 5 e) ts d) (g := fun ts => if isTx ts tLp then iP n o ts d else numP ts d) tAb_ne hu (fun v hv => (hi o v d hv).thn (fun x v d hv => Ct.ok _ hv d) (fun x d => E1.ok e _ d)) ?_ (Or.inl ((ki o e d).thn _).nv)
            by_cases c3 : isTx (b :: u) tLp = true
            · rw [if_pos (show isTx (b :: u ++ [t, eT e]) tLp = true from c3), if_pos (show isTx (b :: u ++ [eT a]) tLp = true from c3)]
              exact hi o (b :: u) d hu
            · rw [if_neg (show ¬ isTx (b :: u ++ [t, eT e]) tLp = true from c3), if_neg (show ¬ isTx (b :: u ++ [eT a]) tLp = true from c3)]
              exact ct_num hu d
    · intro o u d hu
      cases u with
      | nil => exact Ct.fin ((one_ex t (n + 1)).2.2.1 o e d) ((end_ex (n + 1)).2.2.2.1 o a d)
      | cons b u =>
        rw [vP, vP]
        by_cases c : b.1 = 1
        · rw [if_pos (show (hd (b :: u ++ [t, eT e])).1 = 1 from c), if_pos (show (hd (b :: u ++ [eT a])).1 = 1 from c)]
          refine Ct.ite (u := u) (f := fun ts => (eP n 0 o ts d).thn fun e us d => want tRb us fun us => .ok (⟨3, b.2.1, 0, e.row .nil⟩ : Ex) us d) (g := fun ts => .ok (⟨2, b.2.1, 0, .nil⟩ : Ex) ts d) tLb_ne hu.tl (fun v hv => (he 0 o v d hv).thn (fun x v d hv => Ct.want tRb_ne hv (fun w hw => Ct.ok _ hw d) (E1.ok e _ d)) (fun x d => (end_want tRb_ne e _).e1)) (Ct.ok _ hu.tl d) (Or.inl ((ke 0 o e d).thn _).nv)
        · rw [if_neg (show ¬ (hd (b :: u ++ [t, eT e])).1 = 1 from c)]
          exact Ct.bad
    · intro o u d hu
      rw [iP, iP]
      exact hc _ u _ hu
    · intro o u d hu
      rw [cP, cP]
      exact Ct.want tLp_ne hu (fun v hv => (he 0 o v d hv).thn (fun x v d hv => Ct.want tRp_ne hv (fun w hw => Ct.ok _ hw d) (E1.ok e _ d)) (fun x d => (end_want tRp_ne e _).e1)) ((ke 0 o e d).thn _).e1
end Go.Proofs.YtknoibocpbfmmaaGreatDoor
