/- Texts of the proof, put together. -/
import Derived.Test.YtknoibocpbfmmaaGreatDoorRows
namespace Go.Proofs.YtknoibocpbfmmaaGreatDoor
set_option linter.unusedVariables false
/-- A token: its kind, its text, its place. -/
abbrev Tk := Nat × ByteArray × Nat
/-- Expressions in a row: each with what stands in it, and the others behind it. -/
inductive Fo where
 | nil
 | cons (op : Int) (tx : ByteArray) (ty : Int) (kids rest : Fo)
deriving DecidableEq
def Fo.len : Fo → Nat
 | .nil => 0
 | .cons _ _ _ _ r => r.len + 1
def Fo.app : Fo → Fo → Fo
 | .nil, g => g
 | .cons a b c k r, g => .cons a b c k (r.app g)
/-- An expression. -/
structure Ex where
 op : Int
 tx : ByteArray
 ty : Int
 ks : Fo
deriving DecidableEq
abbrev tx0 : ByteArray := ⟨#[]⟩
def exN : Ex := ⟨0, tx0, 0, .nil⟩
def Ex.row (e : Ex) (f : Fo) : Fo := .cons e.op e.tx e.ty e.ks f
def over1 (op : Int) (e : Ex) : Ex := ⟨op, tx0, 0, e.row .nil⟩
def over2 (op : Int) (e f : Ex) : Ex := ⟨op, tx0, 0, e.row (f.row .nil)⟩
/-- Statements in a row. -/
inductive So where
 | nil
 | cons (dO : Int) (name : ByteArray) (index : Fo) (value low high : Ex) (thn els rest : So)
deriving DecidableEq
def So.len : So → Nat
 | .nil => 0
 | .cons _ _ _ _ _ _ _ _ r => r.len + 1
def So.app : So → So → So
 | .nil, g => g
 | .cons a b c d e f t l r, g => .cons a b c d e f t l (r.app g)
/-- A declaration: its name, type, cells. -/
abbrev Dc := ByteArray × Int × Int
/-- A program. -/
abbrev Pg := List Dc × So
/-- What a part of a parser comes to: its tree, the tokens left, how deep ( ) were; or the place that is wrong; or no end yet. -/
inductive Rs (α : Type) where
 | ok (x : α) (ts : List Tk) (d : Int)
 | bad (p : Nat)
 | more
def Rs.thn {α β : Type} (r : Rs α) (f : α → List Tk → Int → Rs β) : Rs β :=
 match r with
 | .ok x ts d => f x ts d
 | .bad p => .bad p
 | .more => .more
def hd (ts : List Tk) : Tk := ts.headD (0, tx0, 0)
/-- Is the next token of that text? -/
def isTx (ts : List Tk) (s : ByteArray) : Bool := decide ((hd ts).2.1 = s)
def want {α : Type} (s : ByteArray) (ts : List Tk) (f : List Tk → Rs α) : Rs α := if isTx ts s then f ts.tail else .bad (hd ts).2.2
/-- The operator of a sign: its number (0: it is none), and its level. -/
def opOf (s : ByteArray) : Int × Int :=
 if s = ⟨#[124, 124]⟩ then (19, 0) else if s = ⟨#[38, 38]⟩ then (18, 1) else if s = ⟨#[60]⟩ then (12, 2) else if s = ⟨#[60, 61]⟩ then (13, 2) else if s = ⟨#[62]⟩ then (14, 2) else if s = ⟨#[62, 61]⟩ then (15, 2) else if s = ⟨#[61, 61]⟩ then (16, 2) else if s = ⟨#[33, 61]⟩ then (17, 2) else if s = ⟨#[43]⟩ then (8, 3) else if s = ⟨#[45]⟩ then (9, 3) else if s = ⟨#[42]⟩ then (10, 4) else if s = ⟨#[47]⟩ then (11, 4) else (0, 0)
/-- The type of a word; 0: it is none. -/
def tyOf (s : ByteArray) : Int := if s = ⟨#[105, 110, 116]⟩ then 1 else if s = ⟨#[102, 108, 111, 97, 116]⟩ then 2 else if s = ⟨#[100, 111, 117, 98, 108, 101]⟩ then 3 else 0
abbrev tSq : ByteArray := ⟨#[115, 113, 114, 116]⟩
abbrev tAb : ByteArray := ⟨#[97, 98, 115]⟩
abbrev tMi : ByteArray := ⟨#[45]⟩
abbrev tNo : ByteArray := ⟨#[33]⟩
abbrev tLp : ByteArray := ⟨#[40]⟩
abbrev tRp : ByteArray := ⟨#[41]⟩
abbrev tLb : ByteArray := ⟨#[91]⟩
abbrev tRb : ByteArray := ⟨#[93]⟩
abbrev tLc : ByteArray := ⟨#[123]⟩
abbrev tRc : ByteArray := ⟨#[125]⟩
abbrev tSe : ByteArray := ⟨#[59]⟩
abbrev tCo : ByteArray := ⟨#[44]⟩
abbrev tEq : ByteArray := ⟨#[61]⟩
abbrev tIn : ByteArray := ⟨#[105, 110]⟩
abbrev tRd : ByteArray := ⟨#[114, 101, 97, 100]⟩
abbrev tIf : ByteArray := ⟨#[105, 102]⟩
abbrev tEl : ByteArray := ⟨#[101, 108, 115, 101]⟩
abbrev tWh : ByteArray := ⟨#[119, 104, 105, 108, 101]⟩
/-- A number. -/
def numP (ts : List Tk) (d : Int) : Rs Ex := if (hd ts).1 = 3 ∨ (hd ts).1 = 4 then .ok ⟨1, (hd ts).2.1, 0, .nil⟩ ts.tail d else .bad (hd ts).2.2
mutual
/-- expression -/
def eP : Nat → Int → Int → List Tk → Int → Rs Ex
 | 0, _, _, _, _ => .more
 | n + 1, lv, o, ts, d => (sP n o ts d).thn fun l ts d => lP n lv o l ts d
/-- expression's loop -/
def lP : Nat → Int → Int → Ex → List Tk → Int → Rs Ex
 | 0, _, _, _, _, _ => .more
 | n + 1, lv, o, l, ts, d =>
  if (opOf (hd ts).2.1).1 = 0 ∨ (opOf (hd ts).2.1).2 < lv then .ok l ts d
  else (eP n ((opOf (hd ts).2.1).2 + 1) o ts.tail d).thn fun r us d => lP n lv o (over2 (opOf (hd ts).2.1).1 l r) us d
/-- signed -/
def sP : Nat → Int → List Tk → Int → Rs Ex
 | 0, _, _, _ => .more
 | n + 1, o, ts, d =>
  if isTx ts tMi then (sP n o ts.tail d).thn fun e ts d => .ok (over1 4 e) ts d
  else if isTx ts tNo then (sP n o ts.tail d).thn fun e ts d => .ok (over1 20 e) ts d
  else gP n o ts d
/-- strongest -/
def gP : Nat → Int → List Tk → Int → Rs Ex
 | 0, _, _, _ => .more
 | n + 1, o, ts, d =>
  if tyOf (hd ts).2.1 ≠ 0 then if (hd ts).1 = 2 then (iP n o ts.tail d).thn fun e us d => .ok ⟨7, tx0, tyOf (hd ts).2.1, e.row .nil⟩ us d else .bad (hd ts).2.2
  else if (hd ts).1 = 1 then vP n o ts d
  else if isTx ts tSq then (iP n o ts.tail d).thn fun e ts d => .ok (over1 6 e) ts d
  else if isTx ts tAb then (iP n o ts.tail d).thn fun e ts d => .ok (over1 5 e) ts d
  else if isTx ts tLp then iP n o ts d
  else numP ts d
/-- variable -/
def vP : Nat → Int → List Tk → Int → Rs Ex
 | 0, _, _, _ => .more
 | n + 1, o, ts, d =>
  if (hd ts).1 = 1 then
   if isTx ts.tail tLb then (eP n 0 o ts.tail.tail d).thn fun e us d => want tRb us fun us => .ok ⟨3, (hd ts).2.1, 0, e.row .nil⟩ us d
   else .ok ⟨2, (hd ts).2.1, 0, .nil⟩ ts.tail d
  else .bad (hd ts).2.2
/-- inner -/
def iP : Nat → Int → List Tk → Int → Rs Ex
 | 0, _, _, _ => .more
 | n + 1, o, ts, d => cP n (o + 1) ts (max d (o + 1))
/-- enclosed -/
def cP : Nat → Int → List Tk → Int → Rs Ex
 | 0, _, _, _ => .more
 | n + 1, o, ts, d => want tLp ts fun ts => (eP n 0 o ts d).thn fun e ts d => want tRp ts fun ts => .ok e ts d
end
/-- A bound. -/
def bdP (ts : List Tk) (d : Int) : Rs Ex := if isTx ts tMi then (numP ts.tail d).thn fun e ts d => .ok (over1 4 e) ts d else numP ts d
/-- A statement of one: all its parts. -/
structure St where
 dO : Int
 name : ByteArray
 index : Fo
 value : Ex
 low : Ex
 high : Ex
 thn : So
 els : So
def St.row (s : St) (r : So) : So := .cons s.dO s.name s.index s.value s.low s.high s.thn s.els r
/-- A name that must be there. -/
def nameP {α : Type} (ts : List Tk) (f : ByteArray → List Tk → Rs α) : Rs α := if (hd ts).1 = 1 then f (hd ts).2.1 ts.tail else .bad (hd ts).2.2
def readP (ts : List Tk) (d : Int) : Rs St :=
 nameP ts fun x ts => want tIn ts fun ts => want tLb ts fun ts => (bdP ts d).thn fun l ts d => want tCo ts fun ts => (bdP ts d).thn fun h ts d => want tRb ts fun ts => want tSe ts fun ts => .ok ⟨2, x, .nil, exN, l, h, .nil, .nil⟩ ts d
def asgP (n : Nat) (ts : List Tk) (d : Int) : Rs St :=
 nameP ts fun x ts =>
  if isTx ts tLb then (eP n 0 0 ts.tail d).thn fun i ts d => want tRb ts fun ts => want tEq ts fun ts => (eP n 0 0 ts d).thn fun v ts d => want tSe ts fun ts => .ok ⟨1, x, i.row .nil, v, exN, exN, .nil, .nil⟩ ts d
  else want tEq ts fun ts => (eP n 0 0 ts d).thn fun v ts d => want tSe ts fun ts => .ok ⟨1, x, .nil, v, exN, exN, .nil, .nil⟩ ts d
mutual
/-- statement -/
def stP : Nat → List Tk → Int → Rs St
 | 0, _, _ => .more
 | n + 1, ts, d =>
  if isTx ts tRd then readP ts.tail d
  else if isTx ts tIf then (cP n 0 ts.tail d).thn fun c ts d => (blP n ts d).thn fun t ts d => if isTx ts tEl then (blP n ts.tail d).thn fun e ts d => .ok ⟨3, tx0, .nil, c, exN, exN, t, e⟩ ts d else .ok ⟨3, tx0, .nil, c, exN, exN, t, .nil⟩ ts d
  else if isTx ts tWh then (cP n 0 ts.tail d).thn fun c ts d => (blP n ts d).thn fun t ts d => .ok ⟨4, tx0, .nil, c, exN, exN, t, .nil⟩ ts d
  else asgP n ts d
/-- block -/
def blP : Nat → List Tk → Int → Rs So
 | 0, _, _ => .more
 | n + 1, ts, d => want tLc ts fun ts => bsP n ts d
/-- block's loop -/
def bsP : Nat → List Tk → Int → Rs So
 | 0, _, _ => .more
 | n + 1, ts, d => if isTx ts tRc then .ok .nil ts.tail d else (stP n ts d).thn fun s ts d => (bsP n ts d).thn fun l ts d => .ok (s.row l) ts d
end
/-- The number that digits say; 65, if it may not be. -/
def decN (l : List UInt8) : Nat := l.foldl (fun n b => n * 10 + (b.toNat - 48)) 0
def celN (s : ByteArray) : Int := if decN s.data.toList < 1 ∨ 9223372036854775807 < decN s.data.toList then 65 else decN s.data.toList
/-- declaration -/
def dcP (ts : List Tk) (d : Int) : Rs Dc :=
 if (hd ts).1 = 2 then nameP ts.tail fun x us =>
  if isTx us tLb then if (hd us.tail).1 = 3 then want tRb us.tail.tail fun vs => want tSe vs fun vs => .ok (x, tyOf (hd ts).2.1, celN (hd us.tail).2.1) vs d else .bad (hd us.tail).2.2
  else want tSe us fun us => .ok (x, tyOf (hd ts).2.1, 0) us d
 else .bad (hd ts).2.2
/-- declarations -/
def dsP : Nat → List Tk → Int → Rs (List Dc)
 | 0, _, _ => .more
 | n + 1, ts, d => if tyOf (hd ts).2.1 ≠ 0 then (dcP ts d).thn fun x ts d => (dsP n ts d).thn fun l ts d => .ok (x :: l) ts d else .ok [] ts d
/-- statements up to the end -/
def ssP : Nat → List Tk → Int → Rs So
 | 0, _, _ => .more
 | n + 1, ts, d => if (hd ts).1 = 0 then .ok .nil ts d else (stP n ts d).thn fun s ts d => (ssP n ts d).thn fun l ts d => .ok (s.row l) ts d
def pgP (n : Nat) (ts : List Tk) : Rs Pg := (dsP n ts 0).thn fun l ts d => (ssP n ts d).thn fun b ts d => .ok (l, b) ts d
end Go.Proofs.YtknoibocpbfmmaaGreatDoor


namespace Go.Proofs.YtknoibocpbfmmaaGreatDoor
set_option linter.unusedVariables false
def Rs.sat {α : Type} (r : Rs α) (P : α → List Tk → Int → Prop) (M : Prop) : Prop :=
 match r with
 | .ok x ts d => P x ts d
 | .bad _ => True
 | .more => M
theorem Rs.sat.mono {α : Type} {r : Rs α} {P Q : α → List Tk → Int → Prop} {M N : Prop} (h : r.sat P M) (hP : ∀ x ts d, P x ts d → Q x ts d) (hM : M → N) : r.sat Q N := by
 cases r with
 | ok x ts d => exact hP _ _ _ h
 | bad p => trivial
 | more => exact hM h
theorem Rs.sat.thn {α β : Type} {r : Rs α} {P : α → List Tk → Int → Prop} {Q : β → List Tk → Int → Prop} {M : Prop} {f : α → List Tk → Int → Rs β} (h : r.sat P M) (hf : ∀ x ts d, P x ts d → (f x ts d).sat Q M) : (r.thn f).sat Q M := by
 cases r with
 | ok x ts d => exact hf _ _ _ h
 | bad p => trivial
 | more => exact h
/-- Tokens, with what stands for the end behind them. -/
def Tz (ts : List Tk) : Prop := ∃ l e, ts = l ++ [(0, tx0, e)]
theorem Tz.tail {ts : List Tk} (h : Tz ts) (k : (hd ts).1 ≠ 0 ∨ (hd ts).2.1 ≠ tx0) : Tz ts.tail ∧ ts.tail.length + 1 = ts.length := by
 obtain ⟨l, e, rfl⟩ := h
 cases l with
 | nil => exfalso; rcases k with k | k <;> exact k rfl
 | cons t l => exact ⟨⟨l, e, rfl⟩, rfl⟩
theorem isTx_ne {ts : List Tk} {s : ByteArray} (h : isTx ts s = true) (hs : s ≠ tx0) : (hd ts).2.1 ≠ tx0 := by
 unfold isTx at h
 have : (hd ts).2.1 = s := of_decide_eq_true h
 rw [this]; exact hs
theorem isTx_tail {ts : List Tk} {s : ByteArray} (h : isTx ts s = true) (hs : s ≠ tx0) (z : Tz ts) : Tz ts.tail ∧ ts.tail.length + 1 = ts.length := z.tail (Or.inr (isTx_ne h hs))
theorem kind_tail {ts : List Tk} {k : Nat} (h : (hd ts).1 = k) (hk : k ≠ 0) (z : Tz ts) : Tz ts.tail ∧ ts.tail.length + 1 = ts.length := z.tail (Or.inl (by rw [h]; exact hk))
theorem want_sat {α : Type} {s : ByteArray} {ts : List Tk} {f : List Tk → Rs α} {Q : α → List Tk → Int → Prop} {M : Prop} (hs : s ≠ tx0) (z : Tz ts) (h : ∀ us, Tz us → us.length + 1 = ts.length → (f us).sat Q M) : (want s ts f).sat Q M := by
 unfold want
 split
 ·rename_i c
  have := isTx_tail c hs z
  exact h _ this.1 this.2
 ·trivial
theorem op_ne {s : ByteArray} (h : (opOf s).1 ≠ 0) : s ≠ tx0 := by
 rintro rfl
 exact h rfl
theorem ty_ne {s : ByteArray} (h : tyOf s ≠ 0) : s ≠ tx0 := by
 rintro rfl
 exact h rfl
theorem numP_sat (ts : List Tk) (d : Int) (M : Prop) (z : Tz ts) : (numP ts d).sat (fun _ us _ => Tz us ∧ us.length < ts.length) M := by
 unfold numP
 split
 ·rename_i c
  have := z.tail (Or.inl (by omega))
  exact ⟨this.1, by omega⟩
 ·trivial
theorem tSq_ne : tSq ≠ tx0 := by decide
theorem tAb_ne : tAb ≠ tx0 := by decide
theorem tMi_ne : tMi ≠ tx0 := by decide
theorem tNo_ne : tNo ≠ tx0 := by decide
theorem tLp_ne : tLp ≠ tx0 := by decide
theorem tRp_ne : tRp ≠ tx0 := by decide
theorem tLb_ne : tLb ≠ tx0 := by decide
theorem tRb_ne : tRb ≠ tx0 := by decide
theorem tLc_ne : tLc ≠ tx0 := by decide
theorem tRc_ne : tRc ≠ tx0 := by decide
theorem tSe_ne : tSe ≠ tx0 := by decide
theorem tCo_ne : tCo ≠ tx0 := by decide
theorem tEq_ne : tEq ≠ tx0 := by decide
theorem tIn_ne : tIn ≠ tx0 := by decide
theorem tRd_ne : tRd ≠ tx0 := by decide
theorem tIf_ne : tIf ≠ tx0 := by decide
theorem tEl_ne : tEl ≠ tx0 := by decide
theorem tWh_ne : tWh ≠ tx0 := by decide
/-- What is less than a row of tokens, and ends as it does. -/
abbrev Lt (ts us : List Tk) : Prop := Tz us ∧ us.length < ts.length
abbrev Le (ts us : List Tk) : Prop := Tz us ∧ us.length ≤ ts.length
theorem ex_sat : ∀ n : Nat,
  (∀ lv o ts d, Tz ts → (eP n lv o ts d).sat (fun _ us _ => Lt ts us) (n < 8 * ts.length + 5)) ∧
  (∀ lv o l ts d, Tz ts → (lP n lv o l ts d).sat (fun _ us _ => Le ts us) (n < 8 * ts.length + 6)) ∧
  (∀ o ts d, Tz ts → (sP n o ts d).sat (fun _ us _ => Lt ts us) (n < 8 * ts.length + 4)) ∧
  (∀ o ts d, Tz ts → (gP n o ts d).sat (fun _ us _ => Lt ts us) (n < 8 * ts.length + 3)) ∧
  (∀ o ts d, Tz ts → (vP n o ts d).sat (fun _ us _ => Lt ts us) (n < 8 * ts.length + 1)) ∧
  (∀ o ts d, Tz ts → (iP n o ts d).sat (fun _ us _ => Lt ts us) (n < 8 * ts.length + 2)) ∧
  (∀ o ts d, Tz ts → (cP n o ts d).sat (fun _ us _ => Lt ts us) (n < 8 * ts.length + 1))
 | 0 => by
  refine ⟨?_, ?_, ?_, ?_, ?_, ?_, ?_⟩ <;> intros <;> simp only [eP, lP, sP, gP, vP, iP, cP, Rs.sat] <;> omega
 | n + 1 => by
  obtain ⟨he, hl, hs, hg, hv, hi, hc⟩ := ex_sat n
  refine ⟨?_, ?_, ?_, ?_, ?_, ?_, ?_⟩
  ·intro lv o ts d z
   rw [eP]
   refine Rs.sat.thn ((hs o ts d z).mono (fun _ _ _ h => h) (fun h => by omega)) fun x us d' h => ?_
   exact (hl lv o x us d' h.1).mono (fun _ _ _ k => ⟨k.1, by have := h.2; have := k.2; omega⟩) (fun k => by have := h.2; omega)
  ·intro lv o l ts d z
   rw [lP]
   split
   ·exact ⟨z, Nat.le_refl _⟩
   ·rename_i c
    have c1 : (opOf (hd ts).2.1).1 ≠ 0 := fun h => c (Or.inl h)
    have t := z.tail (Or.inr (op_ne c1))
    refine Rs.sat.thn ((he _ o _ d t.1).mono (fun _ _ _ h => h) (fun h => by omega)) fun x us d' h => ?_
    exact (hl lv o _ us d' h.1).mono (fun _ _ _ k => ⟨k.1, by have := h.2; have := k.2; omega⟩) (fun k => by have := h.2; omega)
  ·intro o ts d z
   rw [sP]
   split
   ·rename_i c
    have t := isTx_tail c tMi_ne z
    refine Rs.sat.thn ((hs o _ d t.1).mono (fun _ _ _ h => h) (fun h => by omega)) fun x us d' h => ?_
    exact ⟨h.1, by have := h.2; omega⟩
   ·split
    ·rename_i c
     have t := isTx_tail c tNo_ne z
     refine Rs.sat.thn ((hs o _ d t.1).mono (fun _ _ _ h => h) (fun h => by omega)) fun x us d' h => ?_
     exact ⟨h.1, by have := h.2; omega⟩
    ·exact (hg o ts d z).mono (fun _ _ _ h => h) (fun h => by omega)
  ·intro o ts d z
   rw [gP]
   split
   ·rename_i c
    split
    ·have t := z.tail (Or.inr (ty_ne c))
     refine Rs.sat.thn ((hi o _ d t.1).mono (fun _ _ _ h => h) (fun h => by omega)) fun x us d' h => ?_
     exact ⟨h.1, by have := h.2; omega⟩
    ·trivial
   ·split
    ·exact (hv o ts d z).mono (fun _ _ _ h => h) (fun h => by omega)
    ·split
     ·rename_i c
      have t := isTx_tail c tSq_ne z
      refine Rs.sat.thn ((hi o _ d t.1).mono (fun _ _ _ h => h) (fun h => by omega)) fun x us d' h => ?_
      exact ⟨h.1, by have := h.2; omega⟩
     ·split
      ·rename_i c
       have t := isTx_tail c tAb_ne z
       refine Rs.sat.thn ((hi o _ d t.1).mono (fun _ _ _ h => h) (fun h => by omega)) fun x us d' h => ?_
       exact ⟨h.1, by have := h.2; omega⟩
      ·split
       ·exact (hi o ts d z).mono (fun _ _ _ h => h) (fun h => by omega)
       ·exact numP_sat ts d _ z
  ·intro o ts d z
   rw [vP]
   split
   ·rename_i c
    have t := kind_tail c (by decide) z
    split
    ·rename_i c2
     have u := isTx_tail c2 tLb_ne t.1
     refine Rs.sat.thn ((he 0 o _ d u.1).mono (fun _ _ _ h => h) (fun h => by omega)) fun x us d' h => ?_
     exact want_sat tRb_ne h.1 fun vs zv hv' => ⟨zv, by have := h.2; omega⟩
    ·exact ⟨t.1, by omega⟩
   ·trivial
  ·intro o ts d z
   rw [iP]
   exact (hc _ ts _ z).mono (fun _ _ _ h => h) (fun h => by omega)
  ·intro o ts d z
   rw [cP]
   refine want_sat tLp_ne z fun us zu hu => ?_
   refine Rs.sat.thn ((he 0 o us d zu).mono (fun _ _ _ h => h) (fun h => by omega)) fun x vs d' h => ?_
   exact want_sat tRp_ne h.1 fun ws zw hw => ⟨zw, by have := h.2; omega⟩
theorem eP_sat (n : Nat) (lv o : Int) (ts : List Tk) (d : Int) (z : Tz ts) : (eP n lv o ts d).sat (fun _ us _ => Lt ts us) (n < 8 * ts.length + 5) := (ex_sat n).1 lv o ts d z
theorem cP_sat (n : Nat) (o : Int) (ts : List Tk) (d : Int) (z : Tz ts) : (cP n o ts d).sat (fun _ us _ => Lt ts us) (n < 8 * ts.length + 1) := (ex_sat n).2.2.2.2.2.2 o ts d z
theorem bdP_sat (ts : List Tk) (d : Int) (M : Prop) (z : Tz ts) : (bdP ts d).sat (fun _ us _ => Lt ts us) M := by
 unfold bdP
 split
 ·rename_i c
  have t := isTx_tail c tMi_ne z
  refine Rs.sat.thn (numP_sat _ d M t.1) fun x us d' h => ⟨h.1, by have := h.2; omega⟩
 ·exact numP_sat ts d M z
theorem nameP_sat {α : Type} {ts : List Tk} {f : ByteArray → List Tk → Rs α} {Q : α → List Tk → Int → Prop} {M : Prop} (z : Tz ts) (h : ∀ x us, Tz us → us.length + 1 = ts.length → (f x us).sat Q M) : (nameP ts f).sat Q M := by
 unfold nameP
 split
 ·rename_i c
  have := kind_tail c (by decide) z
  exact h _ _ this.1 this.2
 ·trivial
theorem readP_sat (ts : List Tk) (d : Int) (M : Prop) (z : Tz ts) : (readP ts d).sat (fun _ us _ => Lt ts us) M := by
 unfold readP
 refine nameP_sat z fun x a za la => want_sat tIn_ne za fun b zb lb => want_sat tLb_ne zb fun c zc lc => Rs.sat.thn (bdP_sat c d M zc) fun l e d1 he => want_sat tCo_ne he.1 fun f zf lf => Rs.sat.thn (bdP_sat f d1 M zf) fun h g d2 hg => want_sat tRb_ne hg.1 fun i zi li => want_sat tSe_ne zi fun j zj lj => ⟨zj, ?_⟩
 have := he.2; have := hg.2; omega
theorem asgP_sat (n : Nat) (ts : List Tk) (d : Int) (z : Tz ts) : (asgP n ts d).sat (fun _ us _ => Lt ts us) (n < 8 * ts.length + 5) := by
 unfold asgP
 refine nameP_sat z fun x a za la => ?_
 split
 ·rename_i c
  have t := isTx_tail c tLb_ne za
  refine Rs.sat.thn ((eP_sat n 0 0 _ d t.1).mono (fun _ _ _ h => h) (fun h => by omega)) fun i b d1 hb => want_sat tRb_ne hb.1 fun e ze le => want_sat tEq_ne ze fun f zf lf => Rs.sat.thn ((eP_sat n 0 0 f d1 zf).mono (fun _ _ _ h => h) (fun h => by have := hb.2; omega)) fun v g d2 hg => want_sat tSe_ne hg.1 fun j zj lj => ⟨zj, ?_⟩
  have := hb.2; have := hg.2; omega
 ·refine want_sat tEq_ne za fun f zf lf => Rs.sat.thn ((eP_sat n 0 0 f d zf).mono (fun _ _ _ h => h) (fun h => by omega)) fun v g d2 hg => want_sat tSe_ne hg.1 fun j zj lj => ⟨zj, ?_⟩
  have := hg.2; omega
theorem st_sat : ∀ n : Nat,
  (∀ ts d, Tz ts → (stP n ts d).sat (fun _ us _ => Lt ts us) (n < 8 * ts.length + 8)) ∧
  (∀ ts d, Tz ts → (blP n ts d).sat (fun _ us _ => Lt ts us) (n < 8 * ts.length + 10)) ∧
  (∀ ts d, Tz ts → (bsP n ts d).sat (fun _ us _ => Lt ts us) (n < 8 * ts.length + 9))
 | 0 => by
  refine ⟨?_, ?_, ?_⟩ <;> intros <;> simp only [stP, blP, bsP, Rs.sat] <;> omega
 | n + 1 => by
  obtain ⟨hs, hb, hl⟩ := st_sat n
  refine ⟨?_, ?_, ?_⟩
  ·intro ts d z
   rw [stP]
   split
   ·rename_i c
    have t := isTx_tail c tRd_ne z
    exact (readP_sat _ d _ t.1).mono (fun _ _ _ h => ⟨h.1, by have := h.2; omega⟩) id
   ·split
    ·rename_i c
     have t := isTx_tail c tIf_ne z
     refine Rs.sat.thn ((cP_sat n 0 _ d t.1).mono (fun _ _ _ h => h) (fun h => by omega)) fun x us d' h => Rs.sat.thn ((hb us d' h.1).mono (fun _ _ _ h => h) (fun k => by have := h.2; omega)) fun y vs d2 k => ?_
     split
     ·rename_i c2
      have t2 := isTx_tail c2 tEl_ne k.1
      refine Rs.sat.thn ((hb _ d2 t2.1).mono (fun _ _ _ h => h) (fun k3 => by have := h.2; have := k.2; omega)) fun y2 ws d3 k3 => ⟨k3.1, ?_⟩
      have := h.2; have := k.2; have := k3.2; omega
     ·exact ⟨k.1, by have := h.2; have := k.2; omega⟩
    ·split
     ·rename_i c
      have t := isTx_tail c tWh_ne z
      refine Rs.sat.thn ((cP_sat n 0 _ d t.1).mono (fun _ _ _ h => h) (fun h => by omega)) fun x us d' h => Rs.sat.thn ((hb us d' h.1).mono (fun _ _ _ h => h) (fun k => by have := h.2; omega)) fun y vs d2 k => ⟨k.1, ?_⟩
      have := h.2; have := k.2; omega
     ·exact (asgP_sat n ts d z).mono (fun _ _ _ h => h) (fun h => by omega)
  ·intro ts d z
   rw [blP]
   exact want_sat tLc_ne z fun us zu hu => (hl us d zu).mono (fun _ _ _ h => ⟨h.1, by have := h.2; omega⟩) (fun h => by omega)
  ·intro ts d z
   rw [bsP]
   split
   ·rename_i c
    have t := isTx_tail c tRc_ne z
    exact ⟨t.1, by omega⟩
   ·refine Rs.sat.thn ((hs ts d z).mono (fun _ _ _ h => h) (fun h => by omega)) fun x us d' h => Rs.sat.thn ((hl us d' h.1).mono (fun _ _ _ h => h) (fun k => by have := h.2; omega)) fun y vs d2 k => ⟨k.1, ?_⟩
    have := h.2; have := k.2; omega
theorem dcP_sat (ts : List Tk) (d : Int) (M : Prop) (z : Tz ts) : (dcP ts d).sat (fun _ us _ => Lt ts us) M := by
 unfold dcP
 split
 ·rename_i c
  have t := kind_tail c (by decide) z
  refine nameP_sat t.1 fun x a za la => ?_
  split
  ·rename_i c2
   have t2 := isTx_tail c2 tLb_ne za
   split
   ·rename_i c3
    have t3 := kind_tail c3 (by decide) t2.1
    exact want_sat tRb_ne t3.1 fun u zu lu => want_sat tSe_ne zu fun v zv lv => ⟨zv, by omega⟩
   ·trivial
  ·exact want_sat tSe_ne za fun v zv lv => ⟨zv, by omega⟩
 ·trivial
theorem dsP_sat : ∀ (n : Nat) ts d, Tz ts → (dsP n ts d).sat (fun _ us _ => Le ts us) (n < ts.length + 1)
 | 0, ts, d, z => by simp only [dsP, Rs.sat]; omega
 | n + 1, ts, d, z => by
  rw [dsP]
  split
  ·exact Rs.sat.thn (dcP_sat ts d _ z) fun x us d' h => Rs.sat.thn ((dsP_sat n us d' h.1).mono (fun _ _ _ h => h) (fun k => by have := h.2; omega)) fun y vs d2 k => ⟨k.1, by have := h.2; have := k.2; omega⟩
  ·exact ⟨z, Nat.le_refl _⟩
theorem ssP_sat : ∀ (n : Nat) ts d, Tz ts → (ssP n ts d).sat (fun _ us _ => Le ts us) (n < 8 * ts.length + 9)
 | 0, ts, d, z => by simp only [ssP, Rs.sat]; omega
 | n + 1, ts, d, z => by
  rw [ssP]
  split
  ·exact ⟨z, Nat.le_refl _⟩
  ·refine Rs.sat.thn (((st_sat n).1 ts d z).mono (fun _ _ _ h => h) (fun h => by omega)) fun x us d' h => Rs.sat.thn ((ssP_sat n us d' h.1).mono (fun _ _ _ h => h) (fun k => by have := h.2; omega)) fun y vs d2 k => ⟨k.1, by have := h.2; have := k.2; omega⟩
/-- So much fuel is enough for a program. -/
theorem pgP_sat (n : Nat) (ts : List Tk) (z : Tz ts) : (pgP n ts).sat (fun _ us _ => Le ts us) (n < 8 * ts.length + 9) := by
 unfold pgP
 refine Rs.sat.thn ((dsP_sat n ts 0 z).mono (fun _ _ _ h => h) (fun h => by omega)) fun x us d h => Rs.sat.thn ((ssP_sat n us d h.1).mono (fun _ _ _ h => h) (fun k => by have := h.2; omega)) fun y vs d2 k => ⟨k.1, by have := h.2; have := k.2; omega⟩
end Go.Proofs.YtknoibocpbfmmaaGreatDoor


namespace Go.Proofs.YtknoibocpbfmmaaGreatDoor
set_option linter.unusedVariables false
/-- What stands for the end. -/
abbrev eT (a : Nat) : Tk := (0, tx0, a)
def Bd {α : Type} (a : Nat) (r : Rs α) : Prop := r = .bad a ∨ r = .more
def Nv {α : Type} (r : Rs α) : Prop := ∀ x vs d, r ≠ .ok x vs d
/-- If it is told, the end alone is left. -/
def E1 {α : Type} (e : Nat) (r : Rs α) : Prop := ∀ x vs d, r = .ok x vs d → vs = [eT e]
theorem Bd.nv {α : Type} {a : Nat} {r : Rs α} (h : Bd a r) : Nv r := fun x vs d e => by rcases h with h | h <;> rw [h] at e <;> cases e
theorem Nv.e1 {α : Type} {a : Nat} {r : Rs α} (h : Nv r) : E1 a r := fun x vs d e => absurd e (h x vs d)
theorem Bd.e1 {α : Type} {a b : Nat} {r : Rs α} (h : Bd a r) : E1 b r := h.nv.e1
theorem Bd.thn {α β : Type} {a : Nat} {r : Rs α} (h : Bd a r) (f : α → List Tk → Int → Rs β) : Bd a (r.thn f) := by
 rcases h with h | h <;> rw [h]
 ·exact Or.inl rfl
 ·exact Or.inr rfl
theorem Nv.thn {α β : Type} {r : Rs α} (h : Nv r) (f : α → List Tk → Int → Rs β) : Nv (r.thn f) := fun x vs d e => by
 cases r with
 | ok y us k => exact h y us k rfl
 | bad p => cases e
 | more => cases e
theorem E1.thn {α β : Type} {e : Nat} {r : Rs α} (h : E1 e r) {f : α → List Tk → Int → Rs β} (hf : ∀ x d, E1 e (f x [eT e] d)) : E1 e (r.thn f) := fun x vs d q => by
 cases r with
 | ok y us k =>
  have := h y us k rfl
  subst this
  exact hf y k x vs d q
 | bad p => cases q
 | more => cases q
theorem E1.ok {α : Type} (e : Nat) (x : α) (d : Int) : E1 e (.ok x [eT e] d) := fun y vs d' q => by cases q; rfl
theorem end_no {s : ByteArray} (hs : s ≠ tx0) (a : Nat) : isTx [eT a] s = false := decide_eq_false (fun e => hs e.symm)
theorem end_want {α : Type} {s : ByteArray} (hs : s ≠ tx0) (a : Nat) (f : List Tk → Rs α) : Bd a (want s [eT a] f) := Or.inl (by
 unfold want; rw [end_no hs]; rfl)
theorem end_num (a : Nat) (d : Int) : Bd a (numP [eT a] d) := Or.inl rfl
theorem end_name {α : Type} (a : Nat) (f : ByteArray → List Tk → Rs α) : Bd a (nameP [eT a] f) := Or.inl rfl
/-- At the end no expression begins. -/
theorem end_ex : ∀ n : Nat,
  (∀ lv o a d, Bd a (eP n lv o [eT a] d)) ∧ (∀ o a d, Bd a (sP n o [eT a] d)) ∧ (∀ o a d, Bd a (gP n o [eT a] d)) ∧ (∀ o a d, Bd a (vP n o [eT a] d)) ∧ (∀ o a d, Bd a (iP n o [eT a] d)) ∧ (∀ o a d, Bd a (cP n o [eT a] d))
 | 0 => ⟨fun _ _ _ _ => Or.inr rfl, fun _ _ _ => Or.inr rfl, fun _ _ _ => Or.inr rfl, fun _ _ _ => Or.inr rfl, fun _ _ _ => Or.inr rfl, fun _ _ _ => Or.inr rfl⟩
 | n + 1 => by
  obtain ⟨he, hs, hg, hv, hi, hc⟩ := end_ex n
  refine ⟨fun lv o a d => ?_, fun o a d => ?_, fun o a d => ?_, fun o a d => ?_, fun o a d => ?_, fun o a d => ?_⟩
  ·rw [eP]; exact (hs o a d).thn _
  ·rw [sP, end_no tMi_ne, end_no tNo_ne]; exact hg o a d
  ·rw [gP, if_neg (show ¬ tyOf (hd [eT a]).2.1 ≠ 0 from fun h => h rfl), if_neg (show ¬ (hd [eT a]).1 = 1 from Nat.zero_ne_one), end_no tSq_ne, end_no tAb_ne, end_no tLp_ne]
   exact end_num a d
  ·rw [vP, if_neg (show ¬ (hd [eT a]).1 = 1 from Nat.zero_ne_one)]; exact Or.inl rfl
  ·rw [iP]; exact hc _ a _
  ·rw [cP]; exact end_want tLp_ne a _
theorem end_lP (n : Nat) (lv o : Int) (l : Ex) (a : Nat) (d : Int) : lP n lv o l [eT a] d = .ok l [eT a] d ∨ lP n lv o l [eT a] d = .more := by
 cases n with
 | zero => exact Or.inr rfl
 | succ n => rw [lP, if_pos (show (opOf (hd [eT a]).2.1).1 = 0 ∨ (opOf (hd [eT a]).2.1).2 < lv from Or.inl rfl)]; exact Or.inl rfl
theorem end_lPe (n : Nat) (lv o : Int) (l : Ex) (a : Nat) (d : Int) : E1 a (lP n lv o l [eT a] d) := fun x vs d' q => by
 rcases end_lP n lv o l a d with h | h <;> rw [h] at q <;> cases q
 rfl
/-- Tokens of some kind. -/
def Kd (u : List Tk) : Prop := ∀ a ∈ u, a.1 ≠ 0
theorem Kd.tl {a : Tk} {u : List Tk} (h : Kd (a :: u)) : Kd u := fun x hx => h x (List.mem_cons_of_mem _ hx)
/-- Two runs: over tokens with one more behind them, and without it. -/
def Ct {α : Type} (t : Tk) (e a : Nat) (r r' : Rs α) : Prop :=
 ∀ x vs d, r = .ok x vs d → (∃ v, Kd v ∧ vs = v ++ [t, eT e] ∧ r' = .ok x (v ++ [eT a]) d) ∨ (vs = [eT e] ∧ Bd a r')
section
variable {α β : Type} {t : Tk} {e a : Nat}
theorem Ct.nv {r r' : Rs α} (h : Nv r) : Ct t e a r r' := fun x vs d q => absurd q (h x vs d)
theorem Ct.bad {p : Nat} {r' : Rs α} : Ct t e a (.bad p) r' := fun x vs d q => by cases q
theorem Ct.fin {r r' : Rs α} (h : E1 e r) (k : Bd a r') : Ct t e a r r' := fun x vs d q => Or.inr ⟨h x vs d q, k⟩
theorem Ct.ok (x : α) {u : List Tk} (hu : Kd u) (d : Int) : Ct t e a (.ok x (u ++ [t, eT e]) d) (.ok x (u ++ [eT a]) d) := fun y vs d' q => by cases q; exact Or.inl ⟨u, hu, rfl, rfl⟩
theorem Ct.thn {r r' : Rs α} {f : α → List Tk → Int → Rs β} (h : Ct t e a r r') (hf : ∀ x v d, Kd v → Ct t e a (f x (v ++ [t, eT e]) d) (f x (v ++ [eT a]) d)) (he : ∀ x d, E1 e (f x [eT e] d)) : Ct t e a (r.thn f) (r'.thn f) := fun x vs d q => by
 cases r with
 | ok y us k =>
  rcases h y us k rfl with ⟨v, hv, rfl, e2⟩ | ⟨rfl, e2⟩
  ·rw [e2]; exact hf y v k hv x vs d q
  ·exact Or.inr ⟨he y k x vs d q, e2.thn f⟩
 | bad p => cases q
 | more => cases q
/-- The next token is of a text, or not. -/
theorem Ct.ite {u : List Tk} {s : ByteArray} (hs : s ≠ tx0) (hu : Kd u) {f g : List Tk → Rs α} (h1 : ∀ v, Kd v → Ct t e a (f (v ++ [t, eT e])) (f (v ++ [eT a]))) (h2 : Ct t e a (g (u ++ [t, eT e])) (g (u ++ [eT a]))) (hE : Nv (f [eT e]) ∨ E1 e (f [eT e]) ∧ Bd a (g [eT a])) :
  Ct t e a (if isTx (u ++ [t, eT e]) s = true then f (u ++ [t, eT e]).tail else g (u ++ [t, eT e])) (if isTx (u ++ [eT a]) s = true then f (u ++ [eT a]).tail else g (u ++ [eT a])) := by
 cases u with
 | nil =>
  rw [List.nil_append, List.nil_append, end_no hs]
  split
  ·rcases hE with h | ⟨h, k⟩
   ·exact Ct.nv h
   ·exact Ct.fin h k
  ·exact h2
 | cons b u =>
  by_cases c : isTx (b :: u) s = true
  ·rw [if_pos (show isTx (b :: u ++ [t, eT e]) s = true from c), if_pos (show isTx (b :: u ++ [eT a]) s = true from c)]
   exact h1 u hu.tl
  ·rw [if_neg (show ¬ isTx (b :: u ++ [t, eT e]) s = true from c), if_neg (show ¬ isTx (b :: u ++ [eT a]) s = true from c)]
   exact h2
theorem Ct.want {u : List Tk} {s : ByteArray} (hs : s ≠ tx0) (hu : Kd u) {f : List Tk → Rs α} (h1 : ∀ v, Kd v → Ct t e a (f (v ++ [t, eT e])) (f (v ++ [eT a]))) (hE : E1 e (f [eT e])) :
  Ct t e a (want s (u ++ [t, eT e]) f) (want s (u ++ [eT a]) f) :=
 Ct.ite (g := fun ts => .bad (hd ts).2.2) hs hu h1 Ct.bad (Or.inr ⟨hE, Or.inl rfl⟩)
/-- By the kind of the next token. -/
theorem Ct.kind {u : List Tk} {k : Nat} (hk : k ≠ 0) (hu : Kd u) {f : ByteArray → List Tk → Rs α} {g : List Tk → Rs α} (h1 : ∀ x v, Kd v → Ct t e a (f x (v ++ [t, eT e])) (f x (v ++ [eT a]))) (h2 : Ct t e a (g (u ++ [t, eT e])) (g (u ++ [eT a]))) (hE : ∀ x, Nv (f x [eT e]) ∨ E1 e (f x [eT e]) ∧ Bd a (g [eT a])) :
  Ct t e a (if (hd (u ++ [t, eT e])).1 = k then f (hd (u ++ [t, eT e])).2.1 (u ++ [t, eT e]).tail else g (u ++ [t, eT e])) (if (hd (u ++ [eT a])).1 = k then f (hd (u ++ [eT a])).2.1 (u ++ [eT a]).tail else g (u ++ [eT a])) := by
 cases u with
 | nil =>
  rw [List.nil_append, List.nil_append, if_neg (show ¬ (hd [eT a]).1 = k from fun h => hk h.symm)]
  split
  ·rcases hE (hd [t, eT e]).2.1 with h | ⟨h, k⟩
   ·exact Ct.nv h
   ·exact Ct.fin h k
  ·exact h2
 | cons b u =>
  by_cases c : b.1 = k
  ·rw [if_pos (show (hd (b :: u ++ [t, eT e])).1 = k from c), if_pos (show (hd (b :: u ++ [eT a])).1 = k from c)]
   exact h1 b.2.1 u hu.tl
  ·rw [if_neg (show ¬ (hd (b :: u ++ [t, eT e])).1 = k from c), if_neg (show ¬ (hd (b :: u ++ [eT a])).1 = k from c)]
   exact h2
theorem Ct.name {u : List Tk} (hu : Kd u) {f : ByteArray → List Tk → Rs α} (h1 : ∀ x v, Kd v → Ct t e a (f x (v ++ [t, eT e])) (f x (v ++ [eT a]))) (hE : ∀ x, E1 e (f x [eT e])) :
  Ct t e a (nameP (u ++ [t, eT e]) f) (nameP (u ++ [eT a]) f) :=
 Ct.kind (g := fun ts => .bad (hd ts).2.2) (by decide) hu h1 Ct.bad (fun x => Or.inr ⟨hE x, Or.inl rfl⟩)
end
end Go.Proofs.YtknoibocpbfmmaaGreatDoor


namespace Go.Proofs.YtknoibocpbfmmaaGreatDoor
set_option linter.unusedVariables false
theorem Nv.ite {α : Type} {s : ByteArray} (hs : s ≠ tx0) (e : Nat) {x y : Rs α} (h : Nv y) : Nv (if isTx [eT e] s = true then x else y) := by rw [end_no hs]; exact h
theorem E1.ite {α : Type} {s : ByteArray} (hs : s ≠ tx0) (e : Nat) {x y : Rs α} (h : E1 e y) : E1 e (if isTx [eT e] s = true then x else y) := by rw [end_no hs]; exact h
theorem end_bd (a : Nat) (d : Int) : Bd a (bdP [eT a] d) := by
 unfold bdP; rw [end_no tMi_ne]; exact end_num a d
theorem end_asg (n : Nat) (a : Nat) (d : Int) : Bd a (asgP n [eT a] d) := end_name a _
theorem end_st : ∀ n : Nat, (∀ a d, Bd a (stP n [eT a] d)) ∧ (∀ a d, Bd a (blP n [eT a] d)) ∧ (∀ a d, Bd a (bsP n [eT a] d))
 | 0 => ⟨fun _ _ => Or.inr rfl, fun _ _ => Or.inr rfl, fun _ _ => Or.inr rfl⟩
 | n + 1 => by
  obtain ⟨hs, hb, hl⟩ := end_st n
  refine ⟨fun a d => ?_, fun a d => ?_, fun a d => ?_⟩
  ·rw [stP, end_no tRd_ne, end_no tIf_ne, end_no tWh_ne]; exact end_asg n a d
  ·rw [blP]; exact end_want tLc_ne a _
  ·rw [bsP, end_no tRc_ne]; exact (hs a d).thn _
theorem end_dc (a : Nat) (d : Int) : Bd a (dcP [eT a] d) := Or.inl rfl
end Go.Proofs.YtknoibocpbfmmaaGreatDoor


