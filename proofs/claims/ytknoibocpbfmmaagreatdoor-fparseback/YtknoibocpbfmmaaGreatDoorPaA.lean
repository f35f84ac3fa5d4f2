/- Programs as plain trees, and what a row of tokens says, as a plain function. -/
import Derived.Test.YtknoibocpbfmmaaGreatDoorRows
namespace Go.Proofs.YtknoibocpbfmmaaGreatDoor
set_option linter.unusedVariables false
/-- A token: its kind, its text, its place. -/
abbrev Tk := Nat × ByteArray × Nat
/-- Expressions in a row: each with what stands in it, and the others behind it. -/
inductive Fo where
  | nil
  | cons (op : Int) (tx : ByteArray) (ty : Int) (kids rest : Fo)
deriving DecidableEq
def Fo.len : Fo → Nat
  | .nil => 0
  | .cons _ _ _ _ r => r.len + 1
def Fo.app : Fo → Fo → Fo
  | .nil, g => g
  | .cons a b c k r, g => .cons a b c k (r.app g)
/-- An expression. -/
structure Ex where
  op : Int
  tx : ByteArray
  ty : Int
  ks : Fo
deriving DecidableEq
abbrev tx0 : ByteArray := ⟨#[]⟩
def exN : Ex := ⟨0, tx0, 0, .nil⟩
def Ex.row (e : Ex) (f : Fo) : Fo := .cons e.op e.tx e.ty e.ks f
def over1 (op : Int) (e : Ex) : Ex := ⟨op, tx0, 0, e.row .nil⟩
def over2 (op : Int) (e f : Ex) : Ex := ⟨op, tx0, 0, e.row (f.row .nil)⟩
/-- Statements in a row. -/
inductive So where
  | nil
  | cons (dO : Int) (name : ByteArray) (index : Fo) (value low high : Ex) (thn els rest : So)
deriving DecidableEq
def So.len : So → Nat
  | .nil => 0
  | .cons _ _ _ _ _ _ _ _ r => r.len + 1
def So.app : So → So → So
  | .nil, g => g
  | .cons a b c d e f t l r, g => .cons a b c d e f t l (r.app g)
/-- A declaration: its name, type, cells. -/
abbrev Dc := ByteArray × Int × Int
/-- A program. -/
abbrev Pg := List Dc × So
/-- What a part of a parser comes to: its tree, the tokens left, how deep ( ) were; or the place that is wrong; or no end yet. -/
inductive Rs (α : Type) where
  | ok (x : α) (ts : List Tk) (d : Int)
  | bad (p : Nat)
  | more
def Rs.thn {α β : Type} (r : Rs α) (f : α → List Tk → Int → Rs β) : Rs β :=
  match r with
  | .ok x ts d => f x ts d
  | .bad p => .bad p
  | .more => .more
def hd (ts : List Tk) : Tk := ts.headD (0, tx0, 0)
/-- Is the next token of that text? -/
def isTx (ts : List Tk) (s : ByteArray) : Bool := decide ((hd ts).2.1 = s)
def want {α : Type} (s : ByteArray) (ts : List Tk) (f : List Tk → Rs α) : Rs α := if isTx ts s then f ts.tail else .bad (hd ts).2.2
/-- The operator of a sign: its number (0: it is none), and its level. -/
def opOf (s : ByteArray) : Int × Int :=
  if s = ⟨#[124, 124]⟩ then (19, 0) else if s = ⟨#[38, 38]⟩ then (18, 1) else if s = ⟨#[60]⟩ then (12, 2) else if s = ⟨#[60, 61]⟩ then (13, 2) else if s = ⟨#[62]⟩ then (14, 2) else if s = ⟨#[62, 61]⟩ then (15, 2) else if s = ⟨#[61, 61]⟩ then (16, 2) else if s = ⟨#[33, 61]⟩ then (17, 2) else if s = ⟨#[43]⟩ then (8, 3) else if s = ⟨#[45]⟩ then (9, 3) else if s = ⟨#[42]⟩ then (10, 4) else if s = ⟨#[47]⟩ then (11, 4) else (0, 0)
/-- The type of a word; 0: it is none. -/
def tyOf (s : ByteArray) : Int := if s = ⟨#[105, 110, 116]⟩ then 1 else if s = ⟨#[102, 108, 111, 97, 116]⟩ then 2 else if s = ⟨#[100, 111, 117, 98, 108, 101]⟩ then 3 else 0
abbrev tSq : ByteArray := ⟨#[115, 113, 114, 116]⟩
abbrev tAb : ByteArray := ⟨#[97, 98, 115]⟩
abbrev tMi : ByteArray := ⟨#[45]⟩
abbrev tNo : ByteArray := ⟨#[33]⟩
abbrev tLp : ByteArray := ⟨#[40]⟩
abbrev tRp : ByteArray := ⟨#[41]⟩
abbrev tLb : ByteArray := ⟨#[91]⟩
abbrev tRb : ByteArray := ⟨#[93]⟩
abbrev tLc : ByteArray := ⟨#[123]⟩
abbrev tRc : ByteArray := ⟨#[125]⟩
abbrev tSe : ByteArray := ⟨#[59]⟩
abbrev tCo : ByteArray := ⟨#[44]⟩
abbrev tEq : ByteArray := ⟨#[61]⟩
abbrev tIn : ByteArray := ⟨#[105, 110]⟩
abbrev tRd : ByteArray := ⟨#[114, 101, 97, 100]⟩
abbrev tIf : ByteArray := ⟨#[105, 102]⟩
abbrev tEl : ByteArray := ⟨#[101, 108, 115, 101]⟩
abbrev tWh : ByteArray := ⟨#[119, 104, 105, 108, 101]⟩
/-- A number. -/
def numP (ts : List Tk) (d : Int) : Rs Ex := if (hd ts).1 = 3 ∨ (hd ts).1 = 4 then .ok ⟨1, (hd ts).2.1, 0, .nil⟩ ts.tail d else .bad (hd ts).2.2
mutual
/-- expression -/
def eP : Nat → Int → Int → List Tk → Int → Rs Ex
  | 0, _, _, _, _ => .more
  | n + 1, lv, o, ts, d => (sP n o ts d).thn fun l ts d => lP n lv o l ts d
/-- expression's loop -/
def lP : Nat → Int → Int → Ex → List Tk → Int → Rs Ex
  | 0, _, _, _, _, _ => .more
  | n + 1, lv, o, l, ts, d =>
    if (opOf (hd ts).2.1).1 = 0 ∨ (opOf (hd ts).2.1).2 < lv then .ok l ts d
    else (eP n ((opOf (hd ts).2.1).2 + 1) o ts.tail d).thn fun r us d => lP n lv o (over2 (opOf (hd ts).2.1).1 l r) us d
/-- signed -/
def sP : Nat → Int → List Tk → Int → Rs Ex
  | 0, _, _, _ => .more
  | n + 1, o, ts, d =>
    if isTx ts tMi then (sP n o ts.tail d).thn fun e ts d => .ok (over1 4 e) ts d
    else if isTx ts tNo then (sP n o ts.tail d).thn fun e ts d => .ok (over1 20 e) ts d
    else gP n o ts d
/-- strongest -/
def gP : Nat → Int → List Tk → Int → Rs Ex
  | 0, _, _, _ => .more
  | n + 1, o, ts, d =>
    if tyOf (hd ts).2.1 ≠ 0 then if (hd ts).1 = 2 then (iP n o ts.tail d).thn fun e us d => .ok ⟨7, tx0, tyOf (hd ts).2.1, e.row .nil⟩ us d else .bad (hd ts).2.2
    else if (hd ts).1 = 1 then vP n o ts d
    else if isTx ts tSq then (iP n o ts.tail d).thn fun e ts d => .ok (over1 6 e) ts d
    else if isTx ts tAb then (iP n o ts.tail d).thn fun e ts d => .ok (over1 5 e) ts d
    else if isTx ts tLp then iP n o ts d
    else numP ts d
/-- variable -/
def vP : Nat → Int → List Tk → Int → Rs Ex
  | 0, _, _, _ => .more
  | n + 1, o, ts, d =>
    if (hd ts).1 = 1 then
      if isTx ts.tail tLb then (eP n 0 o ts.tail.tail d).thn fun e us d => want tRb us fun us => .ok ⟨3, (hd ts).2.1, 0, e.row .nil⟩ us d
      else .ok ⟨2, (hd ts).2.1, 0, .nil⟩ ts.tail d
    else .bad (hd ts).2.2
/-- inner -/
def iP : Nat → Int → List Tk → Int → Rs Ex
  | 0, _, _, _ => .more
  | n + 1, o, ts, d => cP n (o + 1) ts (max d (o + 1))
/-- enclosed -/
def cP : Nat → Int → List Tk → Int → Rs Ex
  | 0, _, _, _ => .more
  | n + 1, o, ts, d => want tLp ts fun ts => (eP n 0 o ts d).thn fun e ts d => want tRp ts fun ts => .ok e ts d
end
/-- A bound. -/
def bdP (ts : List Tk) (d : Int) : Rs Ex := if isTx ts tMi then (numP ts.tail d).thn fun e ts d => .ok (over1 4 e) ts d else numP ts d
/-- A statement of one: all its parts. -/
structure St where
  dO : Int
  name : ByteArray
  index : Fo
  value : Ex
  low : Ex
  high : Ex
  thn : So
  els : So
def St.row (s : St) (r : So) : So := .cons s.dO s.name s.index s.value s.low s.high s.thn s.els r
/-- A name that must be there. -/
def nameP {α : Type} (ts : List Tk) (f : ByteArray → List Tk → Rs α) : Rs α := if (hd ts).1 = 1 then f (hd ts).2.1 ts.tail else .bad (hd ts).2.2
def readP (ts : List Tk) (d : Int) : Rs St :=
  nameP ts fun x ts => want tIn ts fun ts => want tLb ts fun ts => (bdP ts d).thn fun l ts d => want tCo ts fun ts => (bdP ts d).thn fun h ts d => want tRb ts fun ts => want tSe ts fun ts => .ok ⟨2, x, .nil, exN, l, h, .nil, .nil⟩ ts d
def asgP (n : Nat) (ts : List Tk) (d : Int) : Rs St :=
  nameP ts fun x ts =>
    if isTx ts tLb then (eP n 0 0 ts.tail d).thn fun i ts d => want tRb ts fun ts => want tEq ts fun ts => (eP n 0 0 ts d).thn fun v ts d => want tSe ts fun ts => .ok ⟨1, x, i.row .nil, v, exN, exN, .nil, .nil⟩ ts d
    else want tEq ts fun ts => (eP n 0 0 ts d).thn fun v ts d => want tSe ts fun ts => .ok ⟨1, x, .nil, v, exN, exN, .nil, .nil⟩ ts d
mutual
/-- statement -/
def stP : Nat → List Tk → Int → Rs St
  | 0, _, _ => .more
  | n + 1, ts, d =>
    if isTx ts tRd then readP ts.tail d
    else if isTx ts tIf then (cP n 0 ts.tail d).thn fun c ts d => (blP n ts d).thn fun t ts d => if isTx ts tEl then (blP n ts.tail d).thn fun e ts d => .ok ⟨3, tx0, .nil, c, exN, exN, t, e⟩ ts d else .ok ⟨3, tx0, .nil, c, exN, exN, t, .nil⟩ ts d
    else if isTx ts tWh then (cP n 0 ts.tail d).thn fun c ts d => (blP n ts d).thn fun t ts d => .ok ⟨4, tx0, .nil, c, exN, exN, t, .nil⟩ ts d
    else asgP n ts d
/-- block -/
def blP : Nat → List Tk → Int → Rs So
  | 0, _, _ => .more
  | n + 1, ts, d => want tLc ts fun ts => bsP n ts d
/-- block's loop -/
def bsP : Nat → List Tk → Int → Rs So
  | 0, _, _ => .more
  | n + 1, ts, d => if isTx ts tRc then .ok .nil ts.tail d else (stP n ts d).thn fun s ts d => (bsP n ts d).thn fun l ts d => .ok (s.row l) ts d
end
/-- The number that digits say; 65, if it may not be. -/
def decN (l : List UInt8) : Nat := l.foldl (fun n b => n * 10 + (b.toNat - 48)) 0
def celN (s : ByteArray) : Int := if decN s.data.toList < 1 ∨ 9223372036854775807 < decN s.data.toList then 65 else decN s.data.toList
/-- declaration -/
def dcP (ts : List Tk) (d : Int) : Rs Dc :=
  if (hd ts).1 = 2 then nameP ts.tail fun x us =>
    if isTx us tLb then if (hd us.tail).1 = 3 then want tRb us.tail.tail fun vs => want tSe vs fun vs => .ok (x, tyOf (hd ts).2.1, celN (hd us.tail).2.1) vs d else .bad (hd us.tail).2.2
    else want tSe us fun us => .ok (x, tyOf (hd ts).2.1, 0) us d
  else .bad (hd ts).2.2
/-- declarations -/
def dsP : Nat → List Tk → Int → Rs (List Dc)
  | 0, _, _ => .more
  | n + 1, ts, d => if tyOf (hd ts).2.1 ≠ 0 then (dcP ts d).thn fun x ts d => (dsP n ts d).thn fun l ts d => .ok (x :: l) ts d else .ok [] ts d
/-- statements up to the end -/
def ssP : Nat → List Tk → Int → Rs So
  | 0, _, _ => .more
  | n + 1, ts, d => if (hd ts).1 = 0 then .ok .nil ts d else (stP n ts d).thn fun s ts d => (ssP n ts d).thn fun l ts d => .ok (s.row l) ts d
def pgP (n : Nat) (ts : List Tk) : Rs Pg := (dsP n ts 0).thn fun l ts d => (ssP n ts d).thn fun b ts d => .ok (l, b) ts d
end Go.Proofs.YtknoibocpbfmmaaGreatDoor
