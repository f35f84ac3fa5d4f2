/- Tokens with others behind them, in place of the end: what the parser comes to. -/
import Derived.Test.YtknoibocpbfmmaaGreatDoorPcB
namespace Go.Proofs.YtknoibocpbfmmaaGreatDoor
set_option linter.unusedVariables false
/-- A token further on. -/
abbrev sh (k : Nat) (t : Tk) : Tk := (t.1, t.2.1, t.2.2 + k)
/-- What begins as the end does. -/
def En (v : List Tk) : Prop := (hd v).1 = 0 ∧ (hd v).2.1 = tx0
/-- Two runs: up to the end, and with others behind it (and more fuel, and deeper). -/
def Jn {α : Type} (C : Prop) (e k : Nat) (v : List Tk) (m : Int) (r r' : Rs α) : Prop :=
  ∀ x vs d, r = .ok x vs d → ∃ w, Kd w ∧ vs = w ++ [eT e] ∧ ((w ≠ [] ∨ C) → r' = .ok x (w.map (sh k) ++ v) (max d m))
section
variable {α β : Type} {C C' : Prop} {e k : Nat} {v : List Tk} {m : Int}
theorem Jn.nv {r r' : Rs α} (h : Nv r) : Jn C e k v m r r' := fun x vs d q => absurd q (h x vs d)
theorem Jn.bad {p : Nat} {r' : Rs α} : Jn C e k v m (.bad p) r' := fun x vs d q => by cases q
theorem Jn.ok (x : α) {u : List Tk} (hu : Kd u) (d : Int) : Jn C e k v m (.ok x (u ++ [eT e]) d) (.ok x (u.map (sh k) ++ v) (max d m)) := fun y vs d' q => by cases q; exact ⟨u, hu, rfl, fun _ => rfl⟩
theorem Jn.thn {r r' : Rs α} {f f' : α → List Tk → Int → Rs β} (h : Jn C e k v m r r') (hf : ∀ x w d, Kd w → Jn C e k v m (f x (w ++ [eT e]) d) (f' x (w.map (sh k) ++ v) (max d m))) (he : ∀ x d, E1 e (f x [eT e] d)) : Jn C e k v m (r.thn f) (r'.thn f') := fun x vs d q => by
  cases r with
  | ok y us j =>
    obtain ⟨w, hw, rfl, e2⟩ := h y us j rfl
    by_cases c : w ≠ [] ∨ C
    · rw [e2 c]; exact hf y w j hw x vs d q
    · have h1 : w = [] := by
        by_cases a : w = []
        · exact a
        · exact absurd (Or.inl a) c
      subst h1
      refine ⟨[], hw, he y j x vs d q, fun a => absurd a ?_⟩
      exact c
  | bad p => cases q
  | more => cases q
theorem Jn.thnN {r r' : Rs α} {f f' : α → List Tk → Int → Rs β} (h : Jn C e k v m r r') (hf : ∀ x w d, Kd w → Jn C' e k v m (f x (w ++ [eT e]) d) (f' x (w.map (sh k) ++ v) (max d m))) (he : ∀ x d, Nv (f x [eT e] d)) : Jn C' e k v m (r.thn f) (r'.thn f') := fun x vs d q => by
  cases r with
  | ok y us j =>
    obtain ⟨w, hw, rfl, e2⟩ := h y us j rfl
    by_cases c : w ≠ []
    · rw [e2 (Or.inl c)]; exact hf y w j hw x vs d q
    · have h1 : w = [] := by
        by_cases a : w = []
        · exact a
        · exact absurd a c
      subst h1
      exact absurd q (he y j x vs d)
  | bad p => cases q
  | more => cases q
/-- The next token is of a text, or not. -/
theorem Jn.ite {u : List Tk} {s : ByteArray} (hs : s ≠ tx0) (hu : Kd u) {f g f' g' : List Tk → Rs α} (h1 : ∀ w, Kd w → Jn C e k v m (f (w ++ [eT e])) (f' (w.map (sh k) ++ v))) (h2 : Jn C e k v m (g (u ++ [eT e])) (g' (u.map (sh k) ++ v))) (hE : E1 e (g [eT e])) (hC : C → isTx v s = false) :
    Jn C e k v m (if isTx (u ++ [eT e]) s = true then f (u ++ [eT e]).tail else g (u ++ [eT e])) (if isTx (u.map (sh k) ++ v) s = true then f' (u.map (sh k) ++ v).tail else g' (u.map (sh k) ++ v)) := by
  cases u with
  | nil =>
    rw [List.nil_append, end_no hs, if_neg (by decide)]
    intro x vs d q
    obtain ⟨w, hw, e1, e2⟩ := h2 x vs d q
    have e3 := hE x vs d q
    refine ⟨[], hu, e3, fun c => ?_⟩
    rcases c with c | c
    · exact absurd rfl c
    · rw [List.map_nil, List.nil_append, hC c, if_neg (by decide)]
      have : w = [] := by
        rw [e3] at e1
        cases w with
        | nil => rfl
        | cons a w => simp at e1
      subst this
      exact e2 (Or.inr c)
  | cons b u =>
    by_cases c : isTx (b :: u) s = true
    · rw [if_pos (show isTx (b :: u ++ [eT e]) s = true from c), if_pos (show isTx ((b :: u).map (sh k) ++ v) s = true from c)]
      exact h1 u hu.tl
    · rw [if_neg (show ¬ isTx (b :: u ++ [eT e]) s = true from c), if_neg (show ¬ isTx ((b :: u).map (sh k) ++ v) s = true from c)]
      exact h2
theorem Jn.want {u : List Tk} {s : ByteArray} (hs : s ≠ tx0) (hu : Kd u) {f f' : List Tk → Rs α} (h1 : ∀ w, Kd w → Jn C e k v m (f (w ++ [eT e])) (f' (w.map (sh k) ++ v))) :
    Jn C e k v m (want s (u ++ [eT e]) f) (want s (u.map (sh k) ++ v) f') := by
  cases u with
  | nil => exact Jn.nv (end_want hs e f).nv
  | cons b u =>
    unfold Go.Proofs.YtknoibocpbfmmaaGreatDoor.want
    by_cases c : isTx (b :: u) s = true
    · rw [if_pos (show isTx (b :: u ++ [eT e]) s = true from c), if_pos (show isTx ((b :: u).map (sh k) ++ v) s = true from c)]
      exact h1 u hu.tl
    · rw [if_neg (show ¬ isTx (b :: u ++ [eT e]) s = true from c)]
      exact Jn.bad
theorem Jn.kind {u : List Tk} {j : Nat} (hj : j ≠ 0) (hu : Kd u) {f f' : ByteArray → List Tk → Rs α} {g g' : List Tk → Rs α} (h1 : ∀ x w, Kd w → Jn C e k v m (f x (w ++ [eT e])) (f' x (w.map (sh k) ++ v))) (h2 : ∀ p, g p = .bad (hd p).2.2) :
    Jn C e k v m (if (hd (u ++ [eT e])).1 = j then f (hd (u ++ [eT e])).2.1 (u ++ [eT e]).tail else g (u ++ [eT e])) (if (hd (u.map (sh k) ++ v)).1 = j then f' (hd (u.map (sh k) ++ v)).2.1 (u.map (sh k) ++ v).tail else g' (u.map (sh k) ++ v)) := by
  cases u with
  | nil =>
    rw [List.nil_append, if_neg (show ¬ (hd [eT e]).1 = j from fun h => hj h.symm), h2]
    exact Jn.bad
  | cons b u =>
    by_cases c : b.1 = j
    · rw [if_pos (show (hd (b :: u ++ [eT e])).1 = j from c), if_pos (show (hd ((b :: u).map (sh k) ++ v)).1 = j from c)]
      exact h1 b.2.1 u hu.tl
    · rw [if_neg (show ¬ (hd (b :: u ++ [eT e])).1 = j from c), h2]
      exact Jn.bad
theorem Jn.name {u : List Tk} (hu : Kd u) {f f' : ByteArray → List Tk → Rs α} (h1 : ∀ x w, Kd w → Jn C e k v m (f x (w ++ [eT e])) (f' x (w.map (sh k) ++ v))) :
    Jn C e k v m (nameP (u ++ [eT e]) f) (nameP (u.map (sh k) ++ v) f') :=
  Jn.kind (g := fun ts => .bad (hd ts).2.2) (g' := fun ts => .bad (hd ts).2.2) (by decide) hu h1 (fun _ => rfl)
theorem jn_num {u : List Tk} (hu : Kd u) (d : Int) : Jn C e k v m (numP (u ++ [eT e]) d) (numP (u.map (sh k) ++ v) (max d m)) := by
  cases u with
  | nil => exact Jn.nv (end_num e d).nv
  | cons b u =>
    unfold numP
    by_cases c : b.1 = 3 ∨ b.1 = 4
    · rw [if_pos (show (hd (b :: u ++ [eT e])).1 = 3 ∨ (hd (b :: u ++ [eT e])).1 = 4 from c), if_pos (show (hd ((b :: u).map (sh k) ++ v)).1 = 3 ∨ (hd ((b :: u).map (sh k) ++ v)).1 = 4 from c)]
      exact Jn.ok _ hu.tl d
    · rw [if_neg (show ¬ ((hd (b :: u ++ [eT e])).1 = 3 ∨ (hd (b :: u ++ [eT e])).1 = 4) from c)]
      exact Jn.bad
end
theorem En.no {v : List Tk} (h : En v) {s : ByteArray} (hs : s ≠ tx0) : isTx v s = false := decide_eq_false (fun e => hs (e.symm.trans h.2))
theorem jn_ex (e k : Nat) (v : List Tk) (m : Int) : ∀ n n' : Nat, n ≤ n' →
    (∀ lv o u d, Kd u → Jn (En v) e k v m (eP n lv o (u ++ [eT e]) d) (eP n' lv o (u.map (sh k) ++ v) (max d m))) ∧
    (∀ lv o l u d, Kd u → Jn (En v) e k v m (lP n lv o l (u ++ [eT e]) d) (lP n' lv o l (u.map (sh k) ++ v) (max d m))) ∧
    (∀ o u d, Kd u → Jn (En v) e k v m (sP n o (u ++ [eT e]) d) (sP n' o (u.map (sh k) ++ v) (max d m))) ∧
    (∀ o u d, Kd u → Jn (En v) e k v m (gP n o (u ++ [eT e]) d) (gP n' o (u.map (sh k) ++ v) (max d m))) ∧
    (∀ o u d, Kd u → Jn (En v) e k v m (vP n o (u ++ [eT e]) d) (vP n' o (u.map (sh k) ++ v) (max d m))) ∧
    (∀ o u d, Kd u → Jn (En v) e k v m (iP n o (u ++ [eT e]) d) (iP n' o (u.map (sh k) ++ v) (max d m))) ∧
    (∀ o u d, Kd u → Jn (En v) e k v m (cP n o (u ++ [eT e]) d) (cP n' o (u.map (sh k) ++ v) (max d m)))
  | 0, n', _ => by refine ⟨?_, ?_, ?_, ?_, ?_, ?_, ?_⟩ <;> intros <;> intro x vs d' q <;> simp [eP, lP, sP, gP, vP, iP, cP] at q
  | n + 1, 0, h => absurd h (by omega)
  | n + 1, n' + 1, h => by
    obtain ⟨he, hl, hs, hg, hv, hi, hc⟩ := jn_ex e k v m n n' (by omega)
    obtain ⟨ke, ks, kg, kv, ki, kc⟩ := end_ex n
    refine ⟨?_, ?_, ?_, ?_, ?_, ?_, ?_⟩
    · intro lv o u d hu
      rw [eP, eP]
      exact (hs o u d hu).thn (fun x w d hw => hl lv o x w d hw) (fun x d => end_lPe n lv o x e d)
    · intro lv o l u d hu
      rw [lP, lP]
      cases u with
      | nil =>
        rw [List.nil_append, if_pos (show (opOf (hd [eT e]).2.1).1 = 0 ∨ (opOf (hd [eT e]).2.1).2 < lv from Or.inl rfl)]
        intro x vs d' q
        cases q
        refine ⟨[], hu, rfl, fun c => ?_⟩
        rcases c with c | c
        · exact absurd rfl c
        · rw [List.map_nil, List.nil_append, if_pos (Or.inl (by rw [c.2]; rfl))]
      | cons b u =>
        by_cases c : (opOf b.2.1).1 = 0 ∨ (opOf b.2.1).2 < lv
        · rw [if_pos (show (opOf (hd (b :: u ++ [eT e])).2.1).1 = 0 ∨ (opOf (hd (b :: u ++ [eT e])).2.1).2 < lv from c), if_pos (show (opOf (hd ((b :: u).map (sh k) ++ v)).2.1).1 = 0 ∨ (opOf (hd ((b :: u).map (sh k) ++ v)).2.1).2 < lv from c)]
          exact Jn.ok l hu d
        · rw [if_neg (show ¬ ((opOf (hd (b :: u ++ [eT e])).2.1).1 = 0 ∨ (opOf (hd (b :: u ++ [eT e])).2.1).2 < lv) from c), if_neg (show ¬ ((opOf (hd ((b :: u).map (sh k) ++ v)).2.1).1 = 0 ∨ (opOf (hd ((b :: u).map (sh k) ++ v)).2.1).2 < lv) from c)]
          exact (he _ o u d hu.tl).thn (fun x w d hw => hl lv o _ w d hw) (fun x d => end_lPe n lv o _ e d)
    · intro o u d hu
      rw [sP, sP]
      refine Jn.ite (f := fun ts => (sP n o ts d).thn fun e ts d => .ok (over1 4 e) ts d) (f' := fun ts => (sP n' o ts (max d m)).thn fun e ts d => .ok (over1 4 e) ts d) (g := fun ts => if isTx ts tNo then (sP n o ts.tail d).thn fun e ts d => .ok (over1 20 e) ts d else gP n o ts d) (g' := fun ts => if isTx ts tNo then (sP n' o ts.tail (max d m)).thn fun e ts d => .ok (over1 20 e) ts d else gP n' o ts (max d m)) tMi_ne hu (fun w hw => (hs o w d hw).thn (fun x w d hw => Jn.ok _ hw d) (fun x d => E1.ok e _ d)) ?_ (E1.ite tNo_ne e (kg o e d).e1) (fun c => c.no tMi_ne)
      exact Jn.ite (f := fun ts => (sP n o ts d).thn fun e ts d => .ok (over1 20 e) ts d) (f' := fun ts => (sP n' o ts (max d m)).thn fun e ts d => .ok (over1 20 e) ts d) (g := fun ts => gP n o ts d) (g' := fun ts => gP n' o ts (max d m)) tNo_ne hu (fun w hw => (hs o w d hw).thn (fun x w d hw => Jn.ok _ hw d) (fun x d => E1.ok e _ d)) (hg o u d hu) (kg o e d).e1 (fun c => c.no tNo_ne)
    · intro o u d hu
      cases u with
      | nil => exact Jn.nv ((end_ex (n + 1)).2.2.1 o e d).nv
      | cons b u =>
        rw [gP, gP]
        by_cases c : tyOf b.2.1 ≠ 0
        · rw [if_pos (show tyOf (hd (b :: u ++ [eT e])).2.1 ≠ 0 from c), if_pos (show tyOf (hd ((b :: u).map (sh k) ++ v)).2.1 ≠ 0 from c)]
          by_cases c2 : b.1 = 2
          · rw [if_pos (show (hd (b :: u ++ [eT e])).1 = 2 from c2), if_pos (show (hd ((b :: u).map (sh k) ++ v)).1 = 2 from c2)]
            exact (hi o u d hu.tl).thn (fun x w d hw => Jn.ok _ hw d) (fun x d => E1.ok e _ d)
          · rw [if_neg (show ¬ (hd (b :: u ++ [eT e])).1 = 2 from c2)]
            exact Jn.bad
        · rw [if_neg (show ¬ tyOf (hd (b :: u ++ [eT e])).2.1 ≠ 0 from c), if_neg (show ¬ tyOf (hd ((b :: u).map (sh k) ++ v)).2.1 ≠ 0 from c)]
          by_cases c2 : b.1 = 1
          · rw [if_pos (show (hd (b :: u ++ [eT e])).1 = 1 from c2), if_pos (show (hd ((b :: u).map (sh k) ++ v)).1 = 1 from c2)]
            exact hv o (b :: u) d hu
          · rw [if_neg (show ¬ (hd (b :: u ++ [eT e])).1 = 1 from c2), if_neg (show ¬ (hd ((b :: u).map (sh k) ++ v)).1 = 1 from c2)]
            have eg : E1 e (if isTx [eT e] tLp = true then iP n o [eT e] d else numP [eT e] d) := E1.ite tLp_ne e (end_num e d).e1
            refine Jn.ite (u := b :: u) (f := fun ts => (iP n o ts d).thn fun e ts d => .ok (over1 6 e) ts d) (f' := fun ts => (iP n' o ts (max d m)).thn fun e ts d => .ok (over1 6 e) ts d) (g := fun ts => if isTx ts tAb then (iP n o ts.tail d).thn fun e ts d => .ok (over1 5 e) ts d else if isTx ts tLp then iP n o ts d else numP ts d) (g' := fun ts => if isTx ts tAb then (iP n' o ts.tail (max d m)).thn fun e ts d => .ok (over1 5 e) ts d else if isTx ts tLp then iP n' o ts (max d m) else numP ts (max d m)) tSq_ne hu (fun w hw => (hi o w d hw).thn (fun x w d hw => Jn.ok _ hw d) (fun x d => E1.ok e _ d)) ?_ (E1.ite tAb_ne e eg) (fun c => c.no tSq_ne)
            refine Jn.ite (u := b :: u) (f := fun ts => (iP n o ts d).thn fun e ts d => .ok (over1 5 e) ts d) (f' := fun ts => (iP n' o ts (max d m)).thn fun e ts d => .ok (over1 5 e) ts d) (g := fun ts => if isTx ts tLp then iP n o ts d else numP ts d) (g' := fun ts => if isTx ts tLp then iP n' o ts (max d m) else numP ts (max d m)) tAb_ne hu (fun w hw => (hi o w d hw).thn (fun x w d hw => Jn.ok _ hw d) (fun x d => E1.ok e _ d)) ?_ eg (fun c => c.no tAb_ne)
            by_cases c3 : isTx (b :: u) tLp = true
            · rw [if_pos (show isTx (b :: u ++ [eT e]) tLp = true from c3), if_pos (show isTx ((b :: u).map (sh k) ++ v) tLp = true from c3)]
              exact hi o (b :: u) d hu
            · rw [if_neg (show ¬ isTx (b :: u ++ [eT e]) tLp = true from c3), if_neg (show ¬ isTx ((b :: u).map (sh k) ++ v) tLp = true from c3)]
              exact jn_num hu d
    · intro o u d hu
      cases u with
      | nil => exact Jn.nv ((end_ex (n + 1)).2.2.2.1 o e d).nv
      | cons b u =>
        rw [vP, vP]
        by_cases c : b.1 = 1
        · rw [if_pos (show (hd (b :: u ++ [eT e])).1 = 1 from c), if_pos (show (hd ((b :: u).map (sh k) ++ v)).1 = 1 from c)]
          exact Jn.ite (u := u) (f := fun ts => (eP n 0 o ts d).thn fun e us d => want tRb us fun us => .ok (⟨3, b.2.1, 0, e.row .nil⟩ : Ex) us d) (f' := fun ts => (eP n' 0 o ts (max d m)).thn fun e us d => want tRb us fun us => .ok (⟨3, b.2.1, 0, e.row .nil⟩ : Ex) us d) (g := fun ts => .ok (⟨2, b.2.1, 0, .nil⟩ : Ex) ts d) (g' := fun ts => .ok (⟨2, b.2.1, 0, .nil⟩ : Ex) ts (max d m)) tLb_ne hu.tl (fun w hw => (he 0 o w d hw).thn (fun x w d hw => Jn.want tRb_ne hw (fun w hw => Jn.ok _ hw d)) (fun x d => (end_want tRb_ne e _).e1)) (Jn.ok _ hu.tl d) (E1.ok e _ d) (fun c => c.no tLb_ne)
        · rw [if_neg (show ¬ (hd (b :: u ++ [eT e])).1 = 1 from c)]
          exact Jn.bad
    · intro o u d hu
      rw [iP, iP]
      have := hc (o + 1) u (max d (o + 1)) hu
      rw [show max (max d m) (o + 1) = max (max d (o + 1)) m by omega]
      exact this
    · intro o u d hu
      rw [cP, cP]
      exact Jn.want tLp_ne hu (fun w hw => (he 0 o w d hw).thn (fun x w d hw => Jn.want tRp_ne hw (fun w hw => Jn.ok _ hw d)) (fun x d => (end_want tRp_ne e _).e1))
end Go.Proofs.YtknoibocpbfmmaaGreatDoor
