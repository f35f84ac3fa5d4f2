/- Texts of the proof, put together. -/
import Derived.Test.YtknoibocpbfmmaaGreatDoorWG1
namespace Go.Proofs.YtknoibocpbfmmaaGreatDoor
set_option linter.unusedVariables false
/-- A token further on. -/
abbrev sh (k : Nat) (t : Tk) : Tk := (t.1, t.2.1, t.2.2 + k)
/-- What begins as the end does. -/
def En (v : List Tk) : Prop := (hd v).1 = 0 ∧ (hd v).2.1 = tx0
/-- Two runs: up to the end, and with others behind it (and more fuel, and deeper). -/
def Jn {α : Type} (C : Prop) (e k : Nat) (v : List Tk) (m : Int) (r r' : Rs α) : Prop :=
 ∀ x vs d, r = .ok x vs d → ∃ w, Kd w ∧ vs = w ++ [eT e] ∧ ((w ≠ [] ∨ C) → r' = .ok x (w.map (sh k) ++ v) (max d m))
section
variable {α β : Type} {C C' : Prop} {e k : Nat} {v : List Tk} {m : Int}
theorem Jn.nv {r r' : Rs α} (h : Nv r) : Jn C e k v m r r' := fun x vs d q => absurd q (h x vs d)
theorem Jn.bad {p : Nat} {r' : Rs α} : Jn C e k v m (.bad p) r' := fun x vs d q => by cases q
theorem Jn.ok (x : α) {u : List Tk} (hu : Kd u) (d : Int) : Jn C e k v m (.ok x (u ++ [eT e]) d) (.ok x (u.map (sh k) ++ v) (max d m)) := fun y vs d' q => by cases q; exact ⟨u, hu, rfl, fun _ => rfl⟩
theorem Jn.thn {r r' : Rs α} {f f' : α → List Tk → Int → Rs β} (h : Jn C e k v m r r') (hf : ∀ x w d, Kd w → Jn C e k v m (f x (w ++ [eT e]) d) (f' x (w.map (sh k) ++ v) (max d m))) (he : ∀ x d, E1 e (f x [eT e] d)) : Jn C e k v m (r.thn f) (r'.thn f') := fun x vs d q => by
 cases r with
 | ok y us j =>
  obtain ⟨w, hw, rfl, e2⟩ := h y us j rfl
  by_cases c : w ≠ [] ∨ C
  ·rw [e2 c]; exact hf y w j hw x vs d q
  ·have h1 : w = [] := by
    by_cases a : w = []
    ·exact a
    ·exact absurd (Or.inl a) c
   subst h1
   refine ⟨[], hw, he y j x vs d q, fun a => absurd a ?_⟩
   exact c
 | bad p => cases q
 | more => cases q
theorem Jn.thnN {r r' : Rs α} {f f' : α → List Tk → Int → Rs β} (h : Jn C e k v m r r') (hf : ∀ x w d, Kd w → Jn C' e k v m (f x (w ++ [eT e]) d) (f' x (w.map (sh k) ++ v) (max d m))) (he : ∀ x d, Nv (f x [eT e] d)) : Jn C' e k v m (r.thn f) (r'.thn f') := fun x vs d q => by
 cases r with
 | ok y us j =>
  obtain ⟨w, hw, rfl, e2⟩ := h y us j rfl
  by_cases c : w ≠ []
  ·rw [e2 (Or.inl c)]; exact hf y w j hw x vs d q
  ·have h1 : w = [] := by
    by_cases a : w = []
    ·exact a
    ·exact absurd a c
   subst h1
   exact absurd q (he y j x vs d)
 | bad p => cases q
 | more => cases q
/-- The next token is of a text, or not. -/
theorem Jn.ite {u : List Tk} {s : ByteArray} (hs : s ≠ tx0) (hu : Kd u) {f g f' g' : List Tk → Rs α} (h1 : ∀ w, Kd w → Jn C e k v m (f (w ++ [eT e])) (f' (w.map (sh k) ++ v))) (h2 : Jn C e k v m (g (u ++ [eT e])) (g' (u.map (sh k) ++ v))) (hE : E1 e (g [eT e])) (hC : C → isTx v s = false) :
  Jn C e k v m (if isTx (u ++ [eT e]) s = true then f (u ++ [eT e]).tail else g (u ++ [eT e])) (if isTx (u.map (sh k) ++ v) s = true then f' (u.map (sh k) ++ v).tail else g' (u.map (sh k) ++ v)) := by
 cases u with
 | nil =>
  rw [List.nil_append, end_no hs, if_neg (by decide)]
  intro x vs d q
  obtain ⟨w, hw, e1, e2⟩ := h2 x vs d q
  have e3 := hE x vs d q
  refine ⟨[], hu, e3, fun c => ?_⟩
  rcases c with c | c
  ·exact absurd rfl c
  ·rw [List.map_nil, List.nil_append, hC c, if_neg (by decide)]
   have : w = [] := by
    rw [e3] at e1
    cases w with
    | nil => rfl
    | cons a w => simp at e1
   subst this
   exact e2 (Or.inr c)
 | cons b u =>
  by_cases c : isTx (b :: u) s = true
  ·rw [if_pos (show isTx (b :: u ++ [eT e]) s = true from c), if_pos (show isTx ((b :: u).map (sh k) ++ v) s = true from c)]
   exact h1 u hu.tl
  ·rw [if_neg (show ¬ isTx (b :: u ++ [eT e]) s = true from c), if_neg (show ¬ isTx ((b :: u).map (sh k) ++ v) s = true from c)]
   exact h2
theorem Jn.want {u : List Tk} {s : ByteArray} (hs : s ≠ tx0) (hu : Kd u) {f f' : List Tk → Rs α} (h1 : ∀ w, Kd w → Jn C e k v m (f (w ++ [eT e])) (f' (w.map (sh k) ++ v))) :
  Jn C e k v m (want s (u ++ [eT e]) f) (want s (u.map (sh k) ++ v) f') := by
 cases u with
 | nil => exact Jn.nv (end_want hs e f).nv
 | cons b u =>
  unfold Go.Proofs.YtknoibocpbfmmaaGreatDoor.want
  by_cases c : isTx (b :: u) s = true
  ·rw [if_pos (show isTx (b :: u ++ [eT e]) s = true from c), if_pos (show isTx ((b :: u).map (sh k) ++ v) s = true from c)]
   exact h1 u hu.tl
  ·rw [if_neg (show ¬ isTx (b :: u ++ [eT e]) s = true from c)]
   exact Jn.bad
theorem Jn.kind {u : List Tk} {j : Nat} (hj : j ≠ 0) (hu : Kd u) {f f' : ByteArray → List Tk → Rs α} {g g' : List Tk → Rs α} (h1 : ∀ x w, Kd w → Jn C e k v m (f x (w ++ [eT e])) (f' x (w.map (sh k) ++ v))) (h2 : ∀ p, g p = .bad (hd p).2.2) :
  Jn C e k v m (if (hd (u ++ [eT e])).1 = j then f (hd (u ++ [eT e])).2.1 (u ++ [eT e]).tail else g (u ++ [eT e])) (if (hd (u.map (sh k) ++ v)).1 = j then f' (hd (u.map (sh k) ++ v)).2.1 (u.map (sh k) ++ v).tail else g' (u.map (sh k) ++ v)) := by
 cases u with
 | nil =>
  rw [List.nil_append, if_neg (show ¬ (hd [eT e]).1 = j from fun h => hj h.symm), h2]
  exact Jn.bad
 | cons b u =>
  by_cases c : b.1 = j
  ·rw [if_pos (show (hd (b :: u ++ [eT e])).1 = j from c), if_pos (show (hd ((b :: u).map (sh k) ++ v)).1 = j from c)]
   exact h1 b.2.1 u hu.tl
  ·rw [if_neg (show ¬ (hd (b :: u ++ [eT e])).1 = j from c), h2]
   exact Jn.bad
theorem Jn.name {u : List Tk} (hu : Kd u) {f f' : ByteArray → List Tk → Rs α} (h1 : ∀ x w, Kd w → Jn C e k v m (f x (w ++ [eT e])) (f' x (w.map (sh k) ++ v))) :
  Jn C e k v m (nameP (u ++ [eT e]) f) (nameP (u.map (sh k) ++ v) f') :=
 Jn.kind (g := fun ts => .bad (hd ts).2.2) (g' := fun ts => .bad (hd ts).2.2) (by decide) hu h1 (fun _ => rfl)
theorem jn_num {u : List Tk} (hu : Kd u) (d : Int) : Jn C e k v m (numP (u ++ [eT e]) d) (numP (u.map (sh k) ++ v) (max d m)) := by
 cases u with
 | nil => exact Jn.nv (end_num e d).nv
 | cons b u =>
  unfold numP
  by_cases c : b.1 = 3 ∨ b.1 = 4
  ·rw [if_pos (show (hd (b :: u ++ [eT e])).1 = 3 ∨ (hd (b :: u ++ [eT e])).1 = 4 from c), if_pos (show (hd ((b :: u).map (sh k) ++ v)).1 = 3 ∨ (hd ((b :: u).map (sh k) ++ v)).1 = 4 from c)]
   exact Jn.ok _ hu.tl d
  ·rw [if_neg (show ¬ ((hd (b :: u ++ [eT e])).1 = 3 ∨ (hd (b :: u ++ [eT e])).1 = 4) from c)]
   exact Jn.bad
end
theorem En.no {v : List Tk} (h : En v) {s : ByteArray} (hs : s ≠ tx0) : isTx v s = false := decide_eq_false (fun e => hs (e.symm.trans h.2))
theorem jn_ex (e k : Nat) (v : List Tk) (m : Int) : ∀ n n' : Nat, n ≤ n' →
  (∀ lv o u d, Kd u → Jn (En v) e k v m (eP n lv o (u ++ [eT e]) d) (eP n' lv o (u.map (sh k) ++ v) (max d m))) ∧
  (∀ lv o l u d, Kd u → Jn (En v) e k v m (lP n lv o l (u ++ [eT e]) d) (lP n' lv o l (u.map (sh k) ++ v) (max d m))) ∧
  (∀ o u d, Kd u → Jn (En v) e k v m (sP n o (u ++ [eT e]) d) (sP n' o (u.map (sh k) ++ v) (max d m))) ∧
  (∀ o u d, Kd u → Jn (En v) e k v m (gP n o (u ++ [eT e]) d) (gP n' o (u.map (sh k) ++ v) (max d m))) ∧
  (∀ o u d, Kd u → Jn (En v) e k v m (vP n o (u ++ [eT e]) d) (vP n' o (u.map (sh k) ++ v) (max d m))) ∧
  (∀ o u d, Kd u → Jn (En v) e k v m (iP n o (u ++ [eT e]) d) (iP n' o (u.map (sh k) ++ v) (max d m))) ∧
  (∀ o u d, Kd u → Jn (En v) e k v m (cP n o (u ++ [eT e]) d) (cP n' o (u.map (sh k) ++ v) (max d m)))
 | 0, n', _ => by refine ⟨?_, ?_, ?_, ?_, ?_, ?_, ?_⟩ <;> intros <;> intro x vs d' q <;> simp [eP, lP, sP, gP, vP, iP, cP] at q
 | n + 1, 0, h => absurd h (by omega)
 | n + 1, n' + 1, h => by
  obtain ⟨he, hl, hs, hg, hv, hi, hc⟩ := jn_ex e k v m n n' (by omega)
  obtain ⟨ke, ks, kg, kv, ki, kc⟩ := end_ex n
  refine ⟨?_, ?_, ?_, ?_, ?_, ?_, ?_⟩
  ·intro lv o u d hu
   rw [eP, eP]
   exact (hs o u d hu).thn (fun x w d hw => hl lv o x w d hw) (fun x d => end_lPe n lv o x e d)
  ·intro lv o l u d hu
   rw [lP, lP]
   cases u with
   | nil =>
    rw [List.nil_append, if_pos (show (opOf (hd [eT e]).2.1).1 = 0 ∨ (opOf (hd [eT e]).2.1).2 < lv from Or.inl rfl)]
    intro x vs d' q
    cases q
    refine ⟨[], hu, rfl, fun c => ?_⟩
    rcases c with c | c
    ·exact absurd rfl c
    ·rw [List.map_nil, List.nil_append, if_pos (Or.inl (by rw [c.2]; rfl))]
   | cons b u =>
    by_cases c : (opOf b.2.1).1 = 0 ∨ (opOf b.2.1).2 < lv
    ·rw [if_pos (show (opOf (hd (b :: u ++ [eT e])).2.1).1 = 0 ∨ (opOf (hd (b :: u ++ [eT e])).2.1).2 < lv from c), if_pos (show (opOf (hd ((b :: u).map (sh k) ++ v)).2.1).1 = 0 ∨ (opOf (hd ((b :: u).map (sh k) ++ v)).2.1).2 < lv from c)]
     exact Jn.ok l hu d
    ·rw [if_neg (show ¬ ((opOf (hd (b :: u ++ [eT e])).2.1).1 = 0 ∨ (opOf (hd (b :: u ++ [eT e])).2.1).2 < lv) from c), if_neg (show ¬ ((opOf (hd ((b :: u).map (sh k) ++ v)).2.1).1 = 0 ∨ (opOf (hd ((b :: u).map (sh k) ++ v)).2.1).2 < lv) from c)]
     exact (he _ o u d hu.tl).thn (fun x w d hw => hl lv o _ w d hw) (fun x d => end_lPe n lv o _ e d)
  ·intro o u d hu
   rw [sP, sP]
   refine Jn.ite (f := fun ts => (sP n o ts d).thn fun e ts d => .ok (over1 4 e) ts d) (f' := fun ts => (sP n' o ts (max d m)).thn fun e ts d => .ok (over1 4 e) ts d) (g := fun ts => if isTx ts tNo then (sP n o ts.tail d).thn fun e ts d => .ok (over1 20 e) ts d else gP n o ts d) (g' := fun ts => if isTx ts tNo then (sP n' o ts.tail (max d m)).thn fun e ts d => .ok (over1 20 e) ts d else gP n' o ts (max d m)) tMi_ne hu (fun w hw => (hs o w d hw).thn (fun x w d hw => Jn.ok _ hw d) (fun x d => E1.ok e _ d)) ?_ (E1.ite tNo_ne e (kg o e d).e1) (fun c => c.no tMi_ne)
   exact Jn.ite (f := fun ts => (sP n o ts d).thn fun e ts d => .ok (over1 20 e) ts d) (f' := fun ts => (sP n' o ts (max d m)).thn fun e ts d => .ok (over1 20 e) ts d) (g := fun ts => gP n o ts d) (g' := fun ts => gP n' o ts (max d m)) tNo_ne hu (fun w hw => (hs o w d hw).thn (fun x w d hw => Jn.ok _ hw d) (fun x d => E1.ok e _ d)) (hg o u d hu) (kg o e d).e1 (fun c => c.no tNo_ne)
  ·intro o u d hu
   cases u with
   | nil => exact Jn.nv ((end_ex (n + 1)).2.2.1 o e d).nv
   | cons b u =>
    rw [gP, gP]
    by_cases c : tyOf b.2.1 ≠ 0
    ·rw [if_pos (show tyOf (hd (b :: u ++ [eT e])).2.1 ≠ 0 from c), if_pos (show tyOf (hd ((b :: u).map (sh k) ++ v)).2.1 ≠ 0 from c)]
     by_cases c2 : b.1 = 2
     ·rw [if_pos (show (hd (b :: u ++ [eT e])).1 = 2 from c2), if_pos (show (hd ((b :: u).map (sh k) ++ v)).1 = 2 from c2)]
      exact (hi o u d hu.tl).thn (fun x w d hw => Jn.ok _ hw d) (fun x d => E1.ok e _ d)
     ·rw [if_neg (show ¬ (hd (b :: u ++ [eT e])).1 = 2 from c2)]
      exact Jn.bad
    ·rw [if_neg (show ¬ tyOf (hd (b :: u ++ [eT e])).2.1 ≠ 0 from c), if_neg (show ¬ tyOf (hd ((b :: u).map (sh k) ++ v)).2.1 ≠ 0 from c)]
     by_cases c2 : b.1 = 1
     ·rw [if_pos (show (hd (b :: u ++ [eT e])).1 = 1 from c2), if_pos (show (hd ((b :: u).map (sh k) ++ v)).1 = 1 from c2)]
      exact hv o (b :: u) d hu
     ·rw [if_neg (show ¬ (hd (b :: u ++ [eT e])).1 = 1 from c2), if_neg (show ¬ (hd ((b :: u).map (sh k) ++ v)).1 = 1 from c2)]
      have eg : E1 e (if isTx [eT e] tLp = true then iP n o [eT e] d else numP [eT e] d) := E1.ite tLp_ne e (end_num e d).e1
      refine Jn.ite (u := b :: u) (f := fun ts => (iP n o ts d).thn fun e ts d => .ok (over1 6 e) ts d) (f' := fun ts => (iP n' o ts (max d m)).thn fun e ts d => .ok (over1 6 e) ts d) (g := fun ts => if isTx ts tAb then (iP n o ts.tail d).thn fun e ts d => .ok (over1 5 e) ts d else if isTx ts tLp then iP n o ts d else numP ts d) (g' := fun ts => if isTx ts tAb then (iP n' o ts.tail (max d m)).thn fun e ts d => .ok (over1 5 e) ts d else if isTx ts tLp then iP n' o ts (max d m) else numP ts (max d m)) tSq_ne hu (fun w hw => (hi o w d hw).thn (fun x w d hw => Jn.ok _ hw d) (fun x d => E1.ok e _ d)) ?_ (E1.ite tAb_ne e eg) (fun c => c.no tSq_ne)
      refine Jn.ite (u := b :: u) (f := fun ts => (iP n o ts d).thn fun e ts d => .ok (over1 5 e) ts d) (f' := fun ts => (iP n' o ts (max d m)).thn fun e ts d => .ok (over1 5 e) ts d) (g := fun ts => if isTx ts tLp then iP n o ts d else numP ts d) (g' := fun ts => if isTx ts tLp then iP n' o ts (max d m) else numP ts (max d m)) tAb_ne hu (fun w hw => (hi o w d hw).thn (fun x w d hw => Jn.ok _ hw d) (fun x d => E1.ok e _ d)) ?_ eg (fun c => c.no tAb_ne)
      by_cases c3 : isTx (b :: u) tLp = true
      ·rw [if_pos (show isTx (b :: u ++ [eT e]) tLp = true from c3), if_pos (show isTx ((b :: u).map (sh k) ++ v) tLp = true from c3)]
       exact hi o (b :: u) d hu
      ·rw [if_neg (show ¬ isTx (b :: u ++ [eT e]) tLp = true from c3), if_neg (show ¬ isTx ((b :: u).map (sh k) ++ v) tLp = true from c3)]
       exact jn_num hu d
  ·intro o u d hu
   cases u with
   | nil => exact Jn.nv ((end_ex (n + 1)).2.2.2.1 o e d).nv
   | cons b u =>
    rw [vP, vP]
    by_cases c : b.1 = 1
    ·rw [if_pos (show (hd (b :: u ++ [eT e])).1 = 1 from c), if_pos (show (hd ((b :: u).map (sh k) ++ v)).1 = 1 from c)]
     exact Jn.ite (u := u) (f := fun ts => (eP n 0 o ts d).thn fun e us d => want tRb us fun us => .ok (⟨3, b.2.1, 0, e.row .nil⟩ : Ex) us d) (f' := fun ts => (eP n' 0 o ts (max d m)).thn fun e us d => want tRb us fun us => .ok (⟨3, b.2.1, 0, e.row .nil⟩ : Ex) us d) (g := fun ts => .ok (⟨2, b.2.1, 0, .nil⟩ : Ex) ts d) (g' := fun ts => .ok (⟨2, b.2.1, 0, .nil⟩ : Ex) ts (max d m)) tLb_ne hu.tl (fun w hw => (he 0 o w d hw).thn (fun x w d hw => Jn.want tRb_ne hw (fun w hw => Jn.ok _ hw d)) (fun x d => (end_want tRb_ne e _).e1)) (Jn.ok _ hu.tl d) (E1.ok e _ d) (fun c => c.no tLb_ne)
    ·rw [if_neg (show ¬ (hd (b :: u ++ [eT e])).1 = 1 from c)]
     exact Jn.bad
  ·intro o u d hu
   rw [iP, iP]
   have := hc (o + 1) u (max d (o + 1)) hu
   rw [show max (max d m) (o + 1) = max (max d (o + 1)) m by omega]
   exact this
  ·intro o u d hu
   rw [cP, cP]
   exact Jn.want tLp_ne hu (fun w hw => (he 0 o w d hw).thn (fun x w d hw => Jn.want tRp_ne hw (fun w hw => Jn.ok _ hw d)) (fun x d => (end_want tRp_ne e _).e1))
end Go.Proofs.YtknoibocpbfmmaaGreatDoor


namespace Go.Proofs.YtknoibocpbfmmaaGreatDoor
set_option linter.unusedVariables false
/-- With less fuel what is told is told with more, too. -/
def Mo {α : Type} (r r' : Rs α) : Prop := r ≠ .more → r' = r
section
variable {α β : Type}
theorem Mo.refl (r : Rs α) : Mo r r := fun _ => rfl
theorem Mo.more (r : Rs α) : Mo .more r := fun h => absurd rfl h
theorem Mo.trans {r s t : Rs α} (h : Mo r s) (k : Mo s t) : Mo r t := fun a => by
 have e := h a
 rw [k (by rw [e]; exact a), e]
theorem Mo.thn {r r' : Rs α} {f f' : α → List Tk → Int → Rs β} (h : Mo r r') (hf : ∀ x ts d, Mo (f x ts d) (f' x ts d)) : Mo (r.thn f) (r'.thn f') := fun a => by
 cases r with
 | ok x ts d => rw [h (by simp)]; exact hf x ts d a
 | bad p => rw [h (by simp)]; rfl
 | more => exact absurd rfl a
theorem Mo.ite {c : Prop} [Decidable c] {x y x' y' : Rs α} (h : Mo x x') (k : Mo y y') : Mo (if c then x else y) (if c then x' else y') := by
 split
 ·exact h
 ·exact k
theorem Mo.want {s : ByteArray} {ts : List Tk} {f f' : List Tk → Rs α} (h : ∀ us, Mo (f us) (f' us)) : Mo (want s ts f) (want s ts f') := Mo.ite (h _) (Mo.refl _)
theorem Mo.name {ts : List Tk} {f f' : ByteArray → List Tk → Rs α} (h : ∀ x us, Mo (f x us) (f' x us)) : Mo (nameP ts f) (nameP ts f') := Mo.ite (h _ _) (Mo.refl _)
end
theorem mo_ex : ∀ n : Nat,
  (∀ lv o ts d, Mo (eP n lv o ts d) (eP (n + 1) lv o ts d)) ∧ (∀ lv o l ts d, Mo (lP n lv o l ts d) (lP (n + 1) lv o l ts d)) ∧ (∀ o ts d, Mo (sP n o ts d) (sP (n + 1) o ts d)) ∧ (∀ o ts d, Mo (gP n o ts d) (gP (n + 1) o ts d)) ∧
  (∀ o ts d, Mo (vP n o ts d) (vP (n + 1) o ts d)) ∧ (∀ o ts d, Mo (iP n o ts d) (iP (n + 1) o ts d)) ∧ (∀ o ts d, Mo (cP n o ts d) (cP (n + 1) o ts d))
 | 0 => ⟨fun _ _ _ _ => Mo.more _, fun _ _ _ _ _ => Mo.more _, fun _ _ _ => Mo.more _, fun _ _ _ => Mo.more _, fun _ _ _ => Mo.more _, fun _ _ _ => Mo.more _, fun _ _ _ => Mo.more _⟩
 | n + 1 => by
  obtain ⟨he, hl, hs, hg, hv, hi, hc⟩ := mo_ex n
  refine ⟨fun lv o ts d => ?_, fun lv o l ts d => ?_, fun o ts d => ?_, fun o ts d => ?_, fun o ts d => ?_, fun o ts d => ?_, fun o ts d => ?_⟩
  ·rw [eP.eq_2 (n := n), eP.eq_2 (n := n + 1)]
   exact (hs o ts d).thn fun l us d => hl lv o l us d
  ·rw [lP.eq_2 (n := n), lP.eq_2 (n := n + 1)]
   exact Mo.ite (Mo.refl _) ((he _ o _ d).thn fun r us d => hl lv o _ us d)
  ·rw [sP.eq_2 (n := n), sP.eq_2 (n := n + 1)]
   exact Mo.ite ((hs o _ d).thn fun e us d => Mo.refl _) (Mo.ite ((hs o _ d).thn fun e us d => Mo.refl _) (hg o ts d))
  ·rw [gP.eq_2 (n := n), gP.eq_2 (n := n + 1)]
   exact Mo.ite (Mo.ite ((hi o _ d).thn fun e us d => Mo.refl _) (Mo.refl _)) (Mo.ite (hv o ts d) (Mo.ite ((hi o _ d).thn fun e us d => Mo.refl _) (Mo.ite ((hi o _ d).thn fun e us d => Mo.refl _) (Mo.ite (hi o ts d) (Mo.refl _)))))
  ·rw [vP.eq_2 (n := n), vP.eq_2 (n := n + 1)]
   exact Mo.ite (Mo.ite ((he 0 o _ d).thn fun e us d => Mo.refl _) (Mo.refl _)) (Mo.refl _)
  ·rw [iP.eq_2 (n := n), iP.eq_2 (n := n + 1)]
   exact hc _ ts _
  ·rw [cP.eq_2 (n := n), cP.eq_2 (n := n + 1)]
   exact Mo.want fun us => (he 0 o us d).thn fun e vs d => Mo.refl _
theorem mo_asg (n : Nat) (ts : List Tk) (d : Int) : Mo (asgP n ts d) (asgP (n + 1) ts d) := by
 have he := (mo_ex n).1
 unfold asgP
 exact Mo.name fun x us => Mo.ite ((he 0 0 _ d).thn fun i vs d => Mo.want fun vs => Mo.want fun vs => (he 0 0 vs d).thn fun v us d => Mo.refl _) (Mo.want fun vs => (he 0 0 vs d).thn fun v us d => Mo.refl _)
theorem mo_st : ∀ n : Nat, (∀ ts d, Mo (stP n ts d) (stP (n + 1) ts d)) ∧ (∀ ts d, Mo (blP n ts d) (blP (n + 1) ts d)) ∧ (∀ ts d, Mo (bsP n ts d) (bsP (n + 1) ts d))
 | 0 => ⟨fun _ _ => Mo.more _, fun _ _ => Mo.more _, fun _ _ => Mo.more _⟩
 | n + 1 => by
  obtain ⟨hs, hb, hl⟩ := mo_st n
  have hc := (mo_ex n).2.2.2.2.2.2
  refine ⟨fun ts d => ?_, fun ts d => ?_, fun ts d => ?_⟩
  ·rw [stP.eq_2 (n := n), stP.eq_2 (n := n + 1)]
   exact Mo.ite (Mo.refl _) (Mo.ite ((hc 0 _ d).thn fun c us d => (hb us d).thn fun t vs d => Mo.ite ((hb _ d).thn fun e ws d => Mo.refl _) (Mo.refl _)) (Mo.ite ((hc 0 _ d).thn fun c us d => (hb us d).thn fun t vs d => Mo.refl _) (mo_asg n ts d)))
  ·rw [blP.eq_2 (n := n), blP.eq_2 (n := n + 1)]
   exact Mo.want fun us => hl us d
  ·rw [bsP.eq_2 (n := n), bsP.eq_2 (n := n + 1)]
   exact Mo.ite (Mo.refl _) ((hs ts d).thn fun s us d => (hl us d).thn fun l vs d => Mo.refl _)
theorem mo_ds : ∀ (n : Nat) ts d, Mo (dsP n ts d) (dsP (n + 1) ts d)
 | 0, _, _ => Mo.more _
 | n + 1, ts, d => by
  rw [dsP.eq_2 (n := n), dsP.eq_2 (n := n + 1)]
  exact Mo.ite ((Mo.refl _).thn fun x us d => (mo_ds n us d).thn fun l vs d => Mo.refl _) (Mo.refl _)
theorem mo_ss : ∀ (n : Nat) ts d, Mo (ssP n ts d) (ssP (n + 1) ts d)
 | 0, _, _ => Mo.more _
 | n + 1, ts, d => by
  rw [ssP.eq_2 (n := n), ssP.eq_2 (n := n + 1)]
  exact Mo.ite (Mo.refl _) (((mo_st n).1 ts d).thn fun x us d => (mo_ss n us d).thn fun l vs d => Mo.refl _)
theorem mo_pg (n : Nat) (ts : List Tk) : Mo (pgP n ts) (pgP (n + 1) ts) := by
 unfold pgP
 exact (mo_ds n ts 0).thn fun l us d => (mo_ss n us d).thn fun b vs d => Mo.refl _
theorem mo_upto {α : Type} {F : Nat → Rs α} (h : ∀ n, Mo (F n) (F (n + 1))) (n : Nat) : ∀ j, Mo (F n) (F (n + j))
 | 0 => Mo.refl _
 | j + 1 => (mo_upto h n j).trans (h (n + j))
/-- Both amounts are enough: both tell the same. -/
theorem mo_both {α : Type} {F : Nat → Rs α} (h : ∀ n, Mo (F n) (F (n + 1))) {n n' : Nat} (a : F n ≠ .more) (b : F n' ≠ .more) : F n = F n' := by
 rcases (show n ≤ n' ∨ n' ≤ n by omega) with c | c
 ·obtain ⟨j, rfl⟩ := Nat.le.dest c
  exact (mo_upto h n j a).symm
 ·obtain ⟨j, rfl⟩ := Nat.le.dest c
  exact mo_upto h n' j b
end Go.Proofs.YtknoibocpbfmmaaGreatDoor


namespace Go.Proofs.YtknoibocpbfmmaaGreatDoor
set_option linter.unusedVariables false
section
variable {α β : Type} {C : Prop} {e k : Nat} {v : List Tk} {m : Int}
theorem Jn.iteC {b : Tk} {u : List Tk} {s : ByteArray} (hu : Kd (b :: u)) {f g f' g' : List Tk → Rs α} (h1 : ∀ w, Kd w → Jn C e k v m (f (w ++ [eT e])) (f' (w.map (sh k) ++ v))) (h2 : Jn C e k v m (g (b :: u ++ [eT e])) (g' ((b :: u).map (sh k) ++ v))) :
  Jn C e k v m (if isTx (b :: u ++ [eT e]) s = true then f (b :: u ++ [eT e]).tail else g (b :: u ++ [eT e])) (if isTx ((b :: u).map (sh k) ++ v) s = true then f' ((b :: u).map (sh k) ++ v).tail else g' ((b :: u).map (sh k) ++ v)) := by
 by_cases c : isTx (b :: u) s = true
 ·rw [if_pos (show isTx (b :: u ++ [eT e]) s = true from c), if_pos (show isTx ((b :: u).map (sh k) ++ v) s = true from c)]
  exact h1 u hu.tl
 ·rw [if_neg (show ¬ isTx (b :: u ++ [eT e]) s = true from c), if_neg (show ¬ isTx ((b :: u).map (sh k) ++ v) s = true from c)]
  exact h2
theorem jn_bd {u : List Tk} (hu : Kd u) (d : Int) : Jn C e k v m (bdP (u ++ [eT e]) d) (bdP (u.map (sh k) ++ v) (max d m)) := by
 cases u with
 | nil => exact Jn.nv (end_bd e d).nv
 | cons b u =>
  unfold bdP
  exact Jn.iteC (f := fun ts => (numP ts d).thn fun e ts d => .ok (over1 4 e) ts d) (f' := fun ts => (numP ts (max d m)).thn fun e ts d => .ok (over1 4 e) ts d) (g := fun ts => numP ts d) (g' := fun ts => numP ts (max d m)) hu (fun w hw => (jn_num hw d).thn (fun x w d hw => Jn.ok _ hw d) (fun x d => E1.ok e _ d)) (jn_num hu d)
theorem jn_read {u : List Tk} (hu : Kd u) (d : Int) : Jn C e k v m (readP (u ++ [eT e]) d) (readP (u.map (sh k) ++ v) (max d m)) := by
 unfold readP
 exact Jn.name hu (fun x w hw => Jn.want tIn_ne hw (fun w hw => Jn.want tLb_ne hw (fun w hw => (jn_bd hw d).thn (fun l w d hw => Jn.want tCo_ne hw (fun w hw => (jn_bd hw d).thn (fun h w d hw => Jn.want tRb_ne hw (fun w hw => Jn.want tSe_ne hw (fun w hw => Jn.ok _ hw d))) (fun h d => (end_want tRb_ne e _).e1))) (fun l d => (end_want tCo_ne e _).e1))))
theorem jn_val {n n' : Nat} (h : n ≤ n') (f : Ex → St) {u : List Tk} (hu : Kd u) (d : Int) :
  Jn C e k v m (want tEq (u ++ [eT e]) fun ts => (eP n 0 0 ts d).thn fun v ts d => want tSe ts fun ts => .ok (f v) ts d) (want tEq (u.map (sh k) ++ v) fun ts => (eP n' 0 0 ts (max d m)).thn fun v ts d => want tSe ts fun ts => .ok (f v) ts d) :=
 Jn.want tEq_ne hu (fun w hw => ((jn_ex e k v m n n' h).1 0 0 w d hw).thnN (fun x w d hw => Jn.want tSe_ne hw (fun w hw => Jn.ok _ hw d)) (fun x d => (end_want tSe_ne e _).nv))
theorem jn_asg {n n' : Nat} (h : n ≤ n') {u : List Tk} (hu : Kd u) (d : Int) : Jn C e k v m (asgP n (u ++ [eT e]) d) (asgP n' (u.map (sh k) ++ v) (max d m)) := by
 unfold asgP
 refine Jn.name (f := fun x ts => if isTx ts tLb then (eP n 0 0 ts.tail d).thn fun i ts d => want tRb ts fun ts => want tEq ts fun ts => (eP n 0 0 ts d).thn fun v ts d => want tSe ts fun ts => .ok (⟨1, x, i.row .nil, v, exN, exN, .nil, .nil⟩ : St) ts d else want tEq ts fun ts => (eP n 0 0 ts d).thn fun v ts d => want tSe ts fun ts => .ok (⟨1, x, .nil, v, exN, exN, .nil, .nil⟩ : St) ts d)
  (f' := fun x ts => if isTx ts tLb then (eP n' 0 0 ts.tail (max d m)).thn fun i ts d => want tRb ts fun ts => want tEq ts fun ts => (eP n' 0 0 ts d).thn fun v ts d => want tSe ts fun ts => .ok (⟨1, x, i.row .nil, v, exN, exN, .nil, .nil⟩ : St) ts d else want tEq ts fun ts => (eP n' 0 0 ts (max d m)).thn fun v ts d => want tSe ts fun ts => .ok (⟨1, x, .nil, v, exN, exN, .nil, .nil⟩ : St) ts d) hu (fun x w hw => ?_)
 cases w with
 | nil => exact Jn.nv (Nv.ite tLb_ne e (end_want tEq_ne e _).nv)
 | cons b w =>
  exact Jn.iteC (f := fun ts => (eP n 0 0 ts d).thn fun i ts d => want tRb ts fun ts => want tEq ts fun ts => (eP n 0 0 ts d).thn fun v ts d => want tSe ts fun ts => .ok (⟨1, x, i.row .nil, v, exN, exN, .nil, .nil⟩ : St) ts d) (f' := fun ts => (eP n' 0 0 ts (max d m)).thn fun i ts d => want tRb ts fun ts => want tEq ts fun ts => (eP n' 0 0 ts d).thn fun v ts d => want tSe ts fun ts => .ok (⟨1, x, i.row .nil, v, exN, exN, .nil, .nil⟩ : St) ts d)
   (g := fun ts => want tEq ts fun ts => (eP n 0 0 ts d).thn fun v ts d => want tSe ts fun ts => .ok (⟨1, x, .nil, v, exN, exN, .nil, .nil⟩ : St) ts d) (g' := fun ts => want tEq ts fun ts => (eP n' 0 0 ts (max d m)).thn fun v ts d => want tSe ts fun ts => .ok (⟨1, x, .nil, v, exN, exN, .nil, .nil⟩ : St) ts d) hw
   (fun w hw => ((jn_ex e k v m n n' h).1 0 0 w d hw).thnN (fun i w d hw => Jn.want tRb_ne hw (fun w hw => jn_val h (fun y => ⟨1, x, i.row .nil, y, exN, exN, .nil, .nil⟩) hw d)) (fun i d => (end_want tRb_ne e _).nv))
   (jn_val h (fun y => ⟨1, x, .nil, y, exN, exN, .nil, .nil⟩) hw d)
end
theorem jn_st (e k : Nat) (v : List Tk) (m : Int) : ∀ n n' : Nat, n ≤ n' →
  (∀ u d, Kd u → Jn (isTx v tEl = false) e k v m (stP n (u ++ [eT e]) d) (stP n' (u.map (sh k) ++ v) (max d m))) ∧
  (∀ u d, Kd u → Jn (isTx v tEl = false) e k v m (blP n (u ++ [eT e]) d) (blP n' (u.map (sh k) ++ v) (max d m))) ∧
  (∀ u d, Kd u → Jn (isTx v tEl = false) e k v m (bsP n (u ++ [eT e]) d) (bsP n' (u.map (sh k) ++ v) (max d m)))
 | 0, _, _ => by refine ⟨?_, ?_, ?_⟩ <;> intros <;> intro x vs d' q <;> simp [stP, blP, bsP] at q
 | n + 1, 0, h => absurd h (by omega)
 | n + 1, n' + 1, h => by
  obtain ⟨hs, hb, hl⟩ := jn_st e k v m n n' (by omega)
  obtain ⟨ks, kb, kl⟩ := end_st n
  have ec := (end_ex n).2.2.2.2.2 0 e
  have cc := fun u d hu => (jn_ex e k v m n n' (by omega)).2.2.2.2.2.2 0 u d hu
  refine ⟨?_, ?_, ?_⟩
  ·intro u d hu
   cases u with
   | nil => exact Jn.nv ((end_st (n + 1)).1 e d).nv
   | cons b u =>
   rw [stP, stP]
   refine Jn.iteC (f := fun ts => readP ts d) (f' := fun ts => readP ts (max d m)) (g := fun ts => if isTx ts tIf then (cP n 0 ts.tail d).thn fun c ts d => (blP n ts d).thn fun t ts d => if isTx ts tEl then (blP n ts.tail d).thn fun e ts d => .ok (⟨3, tx0, .nil, c, exN, exN, t, e⟩ : St) ts d else .ok (⟨3, tx0, .nil, c, exN, exN, t, .nil⟩ : St) ts d
    else if isTx ts tWh then (cP n 0 ts.tail d).thn fun c ts d => (blP n ts d).thn fun t ts d => .ok (⟨4, tx0, .nil, c, exN, exN, t, .nil⟩ : St) ts d else asgP n ts d)
    (g' := fun ts => if isTx ts tIf then (cP n' 0 ts.tail (max d m)).thn fun c ts d => (blP n' ts d).thn fun t ts d => if isTx ts tEl then (blP n' ts.tail d).thn fun e ts d => .ok (⟨3, tx0, .nil, c, exN, exN, t, e⟩ : St) ts d else .ok (⟨3, tx0, .nil, c, exN, exN, t, .nil⟩ : St) ts d
    else if isTx ts tWh then (cP n' 0 ts.tail (max d m)).thn fun c ts d => (blP n' ts d).thn fun t ts d => .ok (⟨4, tx0, .nil, c, exN, exN, t, .nil⟩ : St) ts d else asgP n' ts (max d m)) hu (fun w hw => jn_read hw d) ?_
   refine Jn.iteC (f := fun ts => (cP n 0 ts d).thn fun c ts d => (blP n ts d).thn fun t ts d => if isTx ts tEl then (blP n ts.tail d).thn fun e ts d => .ok (⟨3, tx0, .nil, c, exN, exN, t, e⟩ : St) ts d else .ok (⟨3, tx0, .nil, c, exN, exN, t, .nil⟩ : St) ts d)
    (f' := fun ts => (cP n' 0 ts (max d m)).thn fun c ts d => (blP n' ts d).thn fun t ts d => if isTx ts tEl then (blP n' ts.tail d).thn fun e ts d => .ok (⟨3, tx0, .nil, c, exN, exN, t, e⟩ : St) ts d else .ok (⟨3, tx0, .nil, c, exN, exN, t, .nil⟩ : St) ts d)
    (g := fun ts => if isTx ts tWh then (cP n 0 ts.tail d).thn fun c ts d => (blP n ts d).thn fun t ts d => .ok (⟨4, tx0, .nil, c, exN, exN, t, .nil⟩ : St) ts d else asgP n ts d) (g' := fun ts => if isTx ts tWh then (cP n' 0 ts.tail (max d m)).thn fun c ts d => (blP n' ts d).thn fun t ts d => .ok (⟨4, tx0, .nil, c, exN, exN, t, .nil⟩ : St) ts d else asgP n' ts (max d m)) hu
    (fun w hw => (cc w d hw).thnN (fun c w d hw => (hb w d hw).thn (fun b w d hw => ?_) (fun b d => ?_)) (fun c d => ((kb e d).thn _).nv)) ?_
   ·exact Jn.ite (f := fun ts => (blP n ts d).thn fun e ts d => .ok (⟨3, tx0, .nil, c, exN, exN, b, e⟩ : St) ts d) (f' := fun ts => (blP n' ts (max d m)).thn fun e ts d => .ok (⟨3, tx0, .nil, c, exN, exN, b, e⟩ : St) ts d) (g := fun ts => .ok (⟨3, tx0, .nil, c, exN, exN, b, .nil⟩ : St) ts d) (g' := fun ts => .ok (⟨3, tx0, .nil, c, exN, exN, b, .nil⟩ : St) ts (max d m)) tEl_ne hw (fun w hw => (hb w d hw).thn (fun x w d hw => Jn.ok _ hw d) (fun x d => E1.ok e _ d)) (Jn.ok _ hw d) (E1.ok e _ d) id
   ·exact E1.ite tEl_ne e (E1.ok e _ d)
   ·exact Jn.iteC (f := fun ts => (cP n 0 ts d).thn fun c ts d => (blP n ts d).thn fun t ts d => .ok (⟨4, tx0, .nil, c, exN, exN, t, .nil⟩ : St) ts d) (f' := fun ts => (cP n' 0 ts (max d m)).thn fun c ts d => (blP n' ts d).thn fun t ts d => .ok (⟨4, tx0, .nil, c, exN, exN, t, .nil⟩ : St) ts d) (g := fun ts => asgP n ts d) (g' := fun ts => asgP n' ts (max d m)) hu (fun w hw => (cc w d hw).thnN (fun c w d hw => (hb w d hw).thn (fun b w d hw => Jn.ok _ hw d) (fun b d => E1.ok e _ d)) (fun c d => ((kb e d).thn _).nv)) (jn_asg (by omega) hu d)
  ·intro u d hu
   rw [blP, blP]
   exact Jn.want tLc_ne hu (fun w hw => hl w d hw)
  ·intro u d hu
   cases u with
   | nil => exact Jn.nv ((end_st (n + 1)).2.2 e d).nv
   | cons b u =>
   rw [bsP, bsP]
   refine Jn.iteC (f := fun ts => .ok .nil ts d) (f' := fun ts => .ok .nil ts (max d m)) (g := fun ts => (stP n ts d).thn fun s ts d => (bsP n ts d).thn fun l ts d => .ok (s.row l) ts d) (g' := fun ts => (stP n' ts (max d m)).thn fun s ts d => (bsP n' ts d).thn fun l ts d => .ok (s.row l) ts d) hu (fun w hw => Jn.ok _ hw d) ?_
   exact (hs (b :: u) d hu).thnN (fun s w d hw => (hl w d hw).thn (fun l w d hw => Jn.ok _ hw d) (fun l d => E1.ok e _ d)) (fun s d => ((kl e d).thn _).nv)
end Go.Proofs.YtknoibocpbfmmaaGreatDoor


namespace Go.Proofs.YtknoibocpbfmmaaGreatDoor
set_option linter.unusedVariables false
theorem jn_dc {C : Prop} {e k : Nat} {v : List Tk} {m : Int} {u : List Tk} (hu : Kd u) (d : Int) : Jn C e k v m (dcP (u ++ [eT e]) d) (dcP (u.map (sh k) ++ v) (max d m)) := by
 cases u with
 | nil => exact Jn.nv (end_dc e d).nv
 | cons b u =>
  unfold dcP
  by_cases c : b.1 = 2
  ·rw [if_pos (show (hd (b :: u ++ [eT e])).1 = 2 from c), if_pos (show (hd ((b :: u).map (sh k) ++ v)).1 = 2 from c)]
   refine Jn.name (u := u) (f := fun x us => if isTx us tLb then if (hd us.tail).1 = 3 then want tRb us.tail.tail fun vs => want tSe vs fun vs => .ok (x, tyOf b.2.1, celN (hd us.tail).2.1) vs d else .bad (hd us.tail).2.2 else want tSe us fun us => .ok (x, tyOf b.2.1, 0) us d)
    (f' := fun x us => if isTx us tLb then if (hd us.tail).1 = 3 then want tRb us.tail.tail fun vs => want tSe vs fun vs => .ok (x, tyOf b.2.1, celN (hd us.tail).2.1) vs (max d m) else .bad (hd us.tail).2.2 else want tSe us fun us => .ok (x, tyOf b.2.1, 0) us (max d m)) hu.tl (fun x w hw => ?_)
   cases w with
   | nil => exact Jn.nv (Nv.ite tLb_ne e (end_want tSe_ne e _).nv)
   | cons a w =>
    refine Jn.iteC (f := fun us => if (hd us).1 = 3 then want tRb us.tail fun vs => want tSe vs fun vs => .ok (x, tyOf b.2.1, celN (hd us).2.1) vs d else .bad (hd us).2.2) (f' := fun us => if (hd us).1 = 3 then want tRb us.tail fun vs => want tSe vs fun vs => .ok (x, tyOf b.2.1, celN (hd us).2.1) vs (max d m) else .bad (hd us).2.2)
     (g := fun us => want tSe us fun us => .ok (x, tyOf b.2.1, 0) us d) (g' := fun us => want tSe us fun us => .ok (x, tyOf b.2.1, 0) us (max d m)) hw (fun w hw => ?_) ?_
    ·exact Jn.kind (j := 3) (f := fun y us => want tRb us fun vs => want tSe vs fun vs => .ok (x, tyOf b.2.1, celN y) vs d) (f' := fun y us => want tRb us fun vs => want tSe vs fun vs => .ok (x, tyOf b.2.1, celN y) vs (max d m)) (g := fun us => .bad (hd us).2.2) (g' := fun us => .bad (hd us).2.2) (by decide) hw (fun y w hw => Jn.want tRb_ne hw (fun w hw => Jn.want tSe_ne hw (fun w hw => Jn.ok _ hw d))) (fun _ => rfl)
    ·exact Jn.want tSe_ne hw (fun w hw => Jn.ok _ hw d)
  ·rw [if_neg (show ¬ (hd (b :: u ++ [eT e])).1 = 2 from c)]
   exact Jn.bad
/-- Declarations up to what is none; with others behind them, the others' too. -/
theorem jn_ds (e k : Nat) (v : List Tk) (m : Int) : ∀ (n n' : Nat) u d, Kd u → n ≤ n' → ∀ x vs d', dsP n (u ++ [eT e]) d = .ok x vs d' → ∃ w, Kd w ∧ vs = w ++ [eT e] ∧ (w ≠ [] → dsP n' (u.map (sh k) ++ v) (max d m) = .ok x (w.map (sh k) ++ v) (max d' m)) ∧
  (w = [] → ∃ j, j ≤ u.length ∧ dsP (n' + j) (u.map (sh k) ++ v) (max d m) = (dsP n' v (max d' m)).thn fun l ts d => .ok (x ++ l) ts d)
 | 0, _, u, d, hu, _ => fun x vs d' q => by cases q
 | n + 1, 0, u, d, hu, h => absurd h (by omega)
 | n + 1, n' + 1, u, d, hu, h => by
  intro x vs d' q
  rw [dsP] at q
  cases u with
  | nil =>
   rw [List.nil_append, if_neg (show ¬ tyOf (hd [eT e]).2.1 ≠ 0 from fun h => h rfl)] at q
   cases q
   refine ⟨[], hu, rfl, fun a => absurd rfl a, fun _ => ⟨0, Nat.le_refl _, ?_⟩⟩
   rw [List.map_nil, List.nil_append, Nat.add_zero]
   cases dsP (n' + 1) v (max d m) <;> rfl
  | cons b u =>
   by_cases c : tyOf b.2.1 ≠ 0
   ·rw [if_pos (show tyOf (hd (b :: u ++ [eT e])).2.1 ≠ 0 from c)] at q
    cases hr : dcP (b :: u ++ [eT e]) d with
    | bad p => rw [hr] at q; cases q
    | more => rw [hr] at q; cases q
    | ok y us k1 =>
     obtain ⟨w, hw, rfl, e2⟩ := jn_dc (C := True) (k := k) (v := v) (m := m) hu d y us k1 hr
     have e3 := e2 (Or.inr trivial)
     rw [hr] at q
     simp only [Rs.thn] at q
     cases hr2 : dsP n (w ++ [eT e]) k1 with
     | bad p => rw [hr2] at q; cases q
     | more => rw [hr2] at q; cases q
     | ok l ws k2 =>
      rw [hr2] at q
      cases q
      obtain ⟨z, hz, rfl, h1, h2⟩ := jn_ds e k v m n n' w k1 hw (by omega) l _ d' hr2
      refine ⟨z, hz, rfl, fun a => ?_, fun a => ?_⟩
      ·rw [dsP, if_pos (show tyOf (hd ((b :: u).map (sh k) ++ v)).2.1 ≠ 0 from c), e3]
       simp only [Rs.thn]
       rw [h1 a]
      ·obtain ⟨w3, _, e9, g1, g2⟩ := jn_ds e k v m n (n' + 1) w k1 hw (by omega) l _ d' hr2
       obtain ⟨j, hj, h3⟩ := g2 (by subst a; exact (List.append_cancel_right e9).symm)
       have hl : w.length ≤ u.length := by
        have := dcP_sat (b :: u ++ [eT e]) d False ⟨_, _, rfl⟩
        rw [hr] at this
        have := this.2
        simp at this
        omega
       refine ⟨j + 1, by simp; omega, ?_⟩
       rw [show n' + 1 + (j + 1) = (n' + 1 + j) + 1 by omega, dsP, if_pos (show tyOf (hd ((b :: u).map (sh k) ++ v)).2.1 ≠ 0 from c), e3]
       simp only [Rs.thn]
       rw [h3]
       cases dsP (n' + 1) v (max d' m) <;> rfl
   ·rw [if_neg (show ¬ tyOf (hd (b :: u ++ [eT e])).2.1 ≠ 0 from c)] at q
    cases q
    refine ⟨b :: u, hu, rfl, fun _ => ?_, fun a => by cases a⟩
    rw [dsP, if_neg (show ¬ tyOf (hd ((b :: u).map (sh k) ++ v)).2.1 ≠ 0 from c)]
/-- Statements up to the end; with others behind them, the others' too. -/
theorem jn_ss (e k : Nat) (v : List Tk) (hv : isTx v tEl = false) (m : Int) : ∀ (n n' : Nat) u d, Kd u → n ≤ n' → ∀ x vs d', ssP n (u ++ [eT e]) d = .ok x vs d' → vs = [eT e] ∧ ∃ j, j ≤ u.length ∧ ssP (n' + j) (u.map (sh k) ++ v) (max d m) = (ssP n' v (max d' m)).thn fun l ts d => .ok (x.app l) ts d
 | 0, _, u, d, hu, _ => fun x vs d' q => by cases q
 | n + 1, 0, u, d, hu, h => absurd h (by omega)
 | n + 1, n' + 1, u, d, hu, h => by
  intro x vs d' q
  rw [ssP] at q
  cases u with
  | nil =>
   rw [List.nil_append, if_pos (show (hd [eT e]).1 = 0 from rfl)] at q
   cases q
   refine ⟨rfl, 0, Nat.le_refl _, ?_⟩
   rw [List.map_nil, List.nil_append, Nat.add_zero]
   cases ssP (n' + 1) v (max d m) <;> rfl
  | cons b u =>
   have c : ¬ b.1 = 0 := hu b (by simp)
   rw [if_neg (show ¬ (hd (b :: u ++ [eT e])).1 = 0 from c)] at q
   cases hr : stP n (b :: u ++ [eT e]) d with
   | bad p => rw [hr] at q; cases q
   | more => rw [hr] at q; cases q
   | ok y us k1 =>
    have e3 : ∀ N, n ≤ N → ∃ w, Kd w ∧ us = w ++ [eT e] ∧ stP N ((b :: u).map (sh k) ++ v) (max d m) = .ok y (w.map (sh k) ++ v) (max k1 m) := fun N hN => by
     obtain ⟨w, hw, e1, e2⟩ := (jn_st e k v m n N hN).1 (b :: u) d hu y us k1 hr
     exact ⟨w, hw, e1, e2 (Or.inr hv)⟩
    obtain ⟨w, hw, rfl, _⟩ := e3 n (Nat.le_refl _)
    rw [hr] at q
    simp only [Rs.thn] at q
    cases hr2 : ssP n (w ++ [eT e]) k1 with
    | bad p => rw [hr2] at q; cases q
    | more => rw [hr2] at q; cases q
    | ok l ws k2 =>
     rw [hr2] at q
     cases q
     obtain ⟨rfl, j, hj, h3⟩ := jn_ss e k v hv m n (n' + 1) w k1 hw (by omega) l _ d' hr2
     have hl : w.length ≤ u.length := by
      have := (st_sat n).1 (b :: u ++ [eT e]) d ⟨_, _, rfl⟩
      rw [hr] at this
      have := this.2
      simp at this
      omega
     refine ⟨rfl, j + 1, by simp; omega, ?_⟩
     obtain ⟨w2, _, e4, e5⟩ := e3 (n' + 1 + j) (by omega)
     have e6 : w2 = w := (List.append_cancel_right e4).symm
     subst e6
     rw [show n' + 1 + (j + 1) = (n' + 1 + j) + 1 by omega, ssP, if_neg (show ¬ (hd ((b :: u).map (sh k) ++ v)).1 = 0 from c), e5]
     simp only [Rs.thn]
     rw [h3]
     cases ssP (n' + 1) v (max d' m) <;> rfl
theorem map_sh0 : ∀ u : List Tk, u.map (sh 0) = u
 | [] => rfl
 | (a, b, c) :: u => congrArg ((a, b, c) :: ·) (map_sh0 u)
theorem ds_ok_up {n n' : Nat} (h : n ≤ n') {ts : List Tk} {d : Int} {x : List Dc} {us : List Tk} {d' : Int} (e : dsP n ts d = .ok x us d') : dsP n' ts d = .ok x us d' := by
 obtain ⟨j, rfl⟩ := Nat.le.dest h
 rw [← e]
 exact mo_upto (fun n => mo_ds n ts d) n j (by show dsP n ts d ≠ _; rw [e]; simp)
theorem ss_ok_up {n n' : Nat} (h : n ≤ n') {ts : List Tk} {d : Int} {x : So} {us : List Tk} {d' : Int} (e : ssP n ts d = .ok x us d') : ssP n' ts d = .ok x us d' := by
 obtain ⟨j, rfl⟩ := Nat.le.dest h
 rw [← e]
 exact mo_upto (fun n => mo_ss n ts d) n j (by show ssP n ts d ≠ _; rw [e]; simp)
theorem ss_ends (n a : Nat) (d : Int) : ssP (n + 1) [eT a] d = .ok .nil [eT a] d := by rw [ssP, if_pos (show (hd [eT a]).1 = 0 from rfl)]
theorem ds_ends (n a : Nat) (d : Int) : dsP (n + 1) [eT a] d = .ok [] [eT a] d := by rw [dsP, if_neg (show ¬ tyOf (hd [eT a]).2.1 ≠ 0 from fun h => h rfl)]
theorem pg_parts {N : Nat} {ts : List Tk} {p : Pg} {vs : List Tk} {d : Int} (h : pgP N ts = .ok p vs d) : ∃ us k, dsP N ts 0 = .ok p.1 us k ∧ ssP N us k = .ok p.2 vs d := by
 unfold pgP at h
 cases hr : dsP N ts 0 with
 | bad p => rw [hr] at h; cases h
 | more => rw [hr] at h; cases h
 | ok l us k =>
  rw [hr] at h
  simp only [Rs.thn] at h
  cases hr2 : ssP N us k with
  | bad p => rw [hr2] at h; cases h
  | more => rw [hr2] at h; cases h
  | ok b ws j => rw [hr2] at h; cases h; exact ⟨us, k, rfl, hr2⟩
theorem ds_ge (e : Nat) {N : Nat} {tb : List Tk} (hb : Kd tb) {x : List Dc} {vs : List Tk} {d d' : Int} (h : dsP N (tb ++ [eT e]) d = .ok x vs d') : d ≤ d' := by
 obtain ⟨w, hw, rfl, g1, g2⟩ := jn_ds e 0 [eT e] d N N tb d hb (Nat.le_refl _) x vs d' h
 rw [map_sh0, show max d d = d by omega] at g1 g2
 by_cases c : w = []
 ·obtain ⟨j, _, h4⟩ := g2 c
  have N1 : ∃ N1, N = N1 + 1 := by
   cases N with
   | zero => cases h
   | succ N => exact ⟨N, rfl⟩
  obtain ⟨N1, rfl⟩ := N1
  rw [ds_ends, ds_ok_up (by omega) h] at h4
  simp only [Rs.thn] at h4
  have := (Rs.ok.inj h4).2.2
  omega
 ·have := g1 c
  rw [h, map_sh0] at this
  have := (Rs.ok.inj this).2.2
  omega
theorem ss_ge (e : Nat) {N : Nat} {tb : List Tk} (hb : Kd tb) {x : So} {vs : List Tk} {d d' : Int} (h : ssP N (tb ++ [eT e]) d = .ok x vs d') : d ≤ d' := by
 obtain ⟨_, j, _, h3⟩ := jn_ss e 0 [eT e] (end_no tEl_ne e) d N (N + 1) tb d hb (by omega) x vs d' h
 rw [map_sh0, show max d d = d by omega, ss_ends, ss_ok_up (by omega) h] at h3
 simp only [Rs.thn] at h3
 have := (Rs.ok.inj h3).2.2
 omega
end Go.Proofs.YtknoibocpbfmmaaGreatDoor


