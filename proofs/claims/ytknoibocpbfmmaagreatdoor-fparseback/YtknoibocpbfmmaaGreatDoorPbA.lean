/- What is right, as a plain function of a tree: how many points and expressions are counted. -/
import Derived.Test.YtknoibocpbfmmaaGreatDoorPaB
import Derived.Test.YtknoibocpbfmmaaGreatDoorFxP
namespace Go.Proofs.YtknoibocpbfmmaaGreatDoor
set_option linter.unusedVariables false
/-- Is a text one number, from end to end? -/
def isNum (s : ByteArray) : Bool := match scanL s.toList with
  | .ok [(k, a, n)] => decide (s.extract a (a + n) = s) && (k == 3 || k == 4)
  | _ => false
/-- Has an expression what its kind has? -/
def exOk (op : Int) (tx : ByteArray) (ty : Int) (n : Nat) : Bool :=
  if op = 1 then isNum tx && (decide (ty = 0) && decide (n = 0))
  else if op = 2 then isN tx.toList && (decide (ty = 0) && decide (n = 0))
  else if op = 3 then isN tx.toList && (decide (ty = 0) && decide (n = 1))
  else if op = 7 then decide (tx = tx0) && (decide (1 ≤ ty ∧ ty ≤ 3) && decide (n = 1))
  else if op = 4 ∨ op = 20 ∨ op = 5 ∨ op = 6 then decide (tx = tx0) && (decide (ty = 0) && decide (n = 1))
  else decide (8 ≤ op ∧ op ≤ 19) && (decide (tx = tx0) && (decide (ty = 0) && decide (n = 2)))
/-- Expressions in a row, so deep: how many are counted then; none: they are not right. -/
def ruF (deep : Nat) : Fo → Nat → Option Nat
  | .nil, x => some x
  | .cons op tx ty ks r, x => if (decide (x + 1 ≤ 2048) && (decide (deep ≤ 24) && exOk op tx ty ks.len)) = true then (ruF (deep + 1) ks (x + 1)).bind fun x => ruF deep r x else none
def ruE (deep : Nat) (e : Ex) (x : Nat) : Option Nat := ruF deep (e.row .nil) x
theorem ruE_eq (deep : Nat) (e : Ex) (x : Nat) : ruE deep e x = if (decide (x + 1 ≤ 2048) && (decide (deep ≤ 24) && exOk e.op e.tx e.ty e.ks.len)) = true then ruF (deep + 1) e.ks (x + 1) else none := by
  unfold ruE Ex.row
  rw [ruF]
  split
  · cases ruF (deep + 1) e.ks (x + 1) <;> rfl
  · rfl
theorem ruF_cons (deep : Nat) (e : Ex) (r : Fo) (x : Nat) : ruF deep (e.row r) x = (ruE deep e x).bind fun x => ruF deep r x := by
  rw [ruE_eq, Ex.row, ruF]
  split <;> rfl
def isNone (e : Ex) : Bool := decide (e.op = 0) && (decide (e.tx = tx0) && (decide (e.ty = 0) && decide (e.ks.len = 0)))
/-- Is it a number, perhaps with a sign? -/
def isBd (e : Ex) : Bool := if e.op = 4 then match e.ks with | .cons op _ _ _ _ => decide (op = 1) | .nil => false else decide (e.op = 1)
def ruB (e : Ex) (x : Nat) : Option Nat := (ruE 1 e x).bind fun x => if isBd e = true then some x else none
/-- What must be empty in a statement. -/
def bare (nm : ByteArray) (ix : Nat) (v l h : Ex) (t e : Nat) : Bool := decide (nm = tx0) && (decide (ix = 0) && (isNone v && (isNone l && (isNone h && (decide (t = 0) && decide (e = 0))))))
/-- Statements in a row, in a block so deep: points and expressions. -/
def ruS (deep : Nat) : So → Nat × Nat → Option (Nat × Nat)
  | .nil, c => some c
  | .cons d nm ix v l h t e r, c =>
    if c.1 + 1 ≤ 256 then
      (if d = 1 then if (isN nm.toList && decide (ix.len ≤ 1)) = true then (ruF 1 ix c.2).bind fun x => (ruE 1 v x).bind fun x => if bare tx0 0 exN l h t.len e.len = true then some (c.1 + 1, x) else none else none
      else if d = 2 then if isN nm.toList = true then (ruB l c.2).bind fun x => (ruB h x).bind fun x => if bare tx0 ix.len v exN exN t.len e.len = true then some (c.1 + 1, x) else none else none
      else if d = 3 then (ruE 1 v c.2).bind fun x => if deep + 1 ≤ 24 then (ruS (deep + 1) t (c.1 + 1, x)).bind fun c => (ruS (deep + 1) e c).bind fun c => if bare nm ix.len exN l h 0 0 = true then some c else none else none
      else if d = 4 then (ruE 1 v c.2).bind fun x => if deep + 1 ≤ 24 then (ruS (deep + 1) t (c.1 + 1, x)).bind fun c => if bare nm ix.len exN l h 0 e.len = true then some c else none else none
      else none).bind fun c => ruS deep r c
    else none
/-- A block so deep. -/
def ruK (deep : Nat) (l : So) (c : Nat × Nat) : Option (Nat × Nat) := if deep ≤ 24 then ruS deep l c else none
/-- A statement, so deep, behind its point. -/
def ruT (deep : Nat) (s : St) (c : Nat × Nat) : Option (Nat × Nat) :=
  if s.dO = 1 then if (isN s.name.toList && decide (s.index.len ≤ 1)) = true then (ruF 1 s.index c.2).bind fun x => (ruE 1 s.value x).bind fun x => if bare tx0 0 exN s.low s.high s.thn.len s.els.len = true then some (c.1, x) else none else none
  else if s.dO = 2 then if isN s.name.toList = true then (ruB s.low c.2).bind fun x => (ruB s.high x).bind fun x => if bare tx0 s.index.len s.value exN exN s.thn.len s.els.len = true then some (c.1, x) else none else none
  else if s.dO = 3 then (ruE 1 s.value c.2).bind fun x => (ruK (deep + 1) s.thn (c.1, x)).bind fun c => (ruK (deep + 1) s.els c).bind fun c => if bare s.name s.index.len exN s.low s.high 0 0 = true then some c else none
  else if s.dO = 4 then (ruE 1 s.value c.2).bind fun x => (ruK (deep + 1) s.thn (c.1, x)).bind fun c => if bare s.name s.index.len exN s.low s.high 0 s.els.len = true then some c else none
  else none
theorem ruS_cons (deep : Nat) (s : St) (r : So) (c : Nat × Nat) : ruS deep (s.row r) c = if c.1 + 1 ≤ 256 then (ruT deep s (c.1 + 1, c.2)).bind fun c => ruS deep r c else none := by
  rw [St.row, ruS]
  unfold ruT ruK
  by_cases c0 : c.1 + 1 ≤ 256
  · rw [if_pos c0, if_pos c0]
    congr 1
    by_cases c1 : s.dO = 1
    · rw [if_pos c1, if_pos c1]
    · rw [if_neg c1, if_neg c1]
      by_cases c2 : s.dO = 2
      · rw [if_pos c2, if_pos c2]
      · rw [if_neg c2, if_neg c2]
        by_cases c3 : s.dO = 3
        · rw [if_pos c3, if_pos c3]
          congr 1
          funext x
          by_cases c5 : deep + 1 ≤ 24
          · rw [if_pos c5, if_pos c5]
            congr 1
            funext y
            rw [if_pos c5]
          · rw [if_neg c5, if_neg c5]; rfl
        · rw [if_neg c3, if_neg c3]
          by_cases c4 : s.dO = 4
          · rw [if_pos c4, if_pos c4]
            congr 1
            funext x
            by_cases c5 : deep + 1 ≤ 24
            · rw [if_pos c5, if_pos c5]
            · rw [if_neg c5, if_neg c5]; rfl
          · rw [if_neg c4, if_neg c4]
  · rw [if_neg c0, if_neg c0]
def dcOk (d : Dc) : Bool := isN d.1.toList && (decide (1 ≤ d.2.1 ∧ d.2.1 ≤ 3) && decide (0 ≤ d.2.2 ∧ d.2.2 ≤ 64))
/-- A program's points; none: it is not right. -/
def ruP (p : Pg) : Option (Nat × Nat) := if (decide (p.1.length ≤ 24) && p.1.all dcOk) = true then ruK 1 p.2 (0, 0) else none
/-- What a text's parse comes to: the program, or the error and its place. -/
def parT (ts : List Tk) (r : Rs Pg) : Except (Nat × Nat) Pg := match r with
  | .ok p _ d => if decide (d ≤ 24) && (ruP p).isSome then .ok p else .error (5, 0)
  | .bad a => .error (4, a)
  | .more => .error (0, 0)
/-- The tokens of a text, as a parser has them. -/
def tks (s : ByteArray) (l : List (Nat × Nat × Nat)) : List Tk := l.map (fun x => (x.1, s.extract x.2.1 (x.2.1 + x.2.2), x.2.1)) ++ [(0, tx0, s.size)]
/-- fparse.Parse, of a text. -/
def prsL (s : ByteArray) : Except (Nat × Nat) Pg := match scanL s.toList with
  | .error e => .error e
  | .ok l => parT (tks s l) (pgP 16500 (tks s l))
end Go.Proofs.YtknoibocpbfmmaaGreatDoor
