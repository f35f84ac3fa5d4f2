/- A printed expression's text and its tokens, as plain functions. -/
import Derived.Test.YtknoibocpbfmmaaGreatDoorPdA
import Derived.Test.YtknoibocpbfmmaaGreatDoorPbB
namespace Go.Proofs.YtknoibocpbfmmaaGreatDoor
set_option linter.unusedVariables false
set_option linter.unusedSimpArgs false
theorem L_app (a b : ByteArray) : (a ++ b).data.toList = a.data.toList ++ b.data.toList := by simp
abbrev tSp : ByteArray := ⟨#[32]⟩
abbrev tAbp : ByteArray := ⟨#[97, 98, 115, 40]⟩
abbrev tSqp : ByteArray := ⟨#[115, 113, 114, 116, 40]⟩
/-- A kid's text: in ( ), if it is weaker than that level. -/
def kdT (lv : Int) (x : ByteArray × Int) : ByteArray := if (ofT x.2).2.2 < lv then tLp ++ x.1 ++ tRp else x.1
/-- Indexes' texts, behind what is there. -/
def ixT : List (ByteArray × Int) → ByteArray → ByteArray
  | [], a => a
  | x :: r, a => ixT r (a ++ (tLb ++ x.1 ++ tRb))
def kf0 {α : Type} (z : α) : List (α × Int) → α × Int
  | x :: _ => x
  | [] => (z, 0)
def kf1 {α : Type} (z : α) : List (α × Int) → α × Int
  | _ :: x :: _ => x
  | _ => (z, 0)
/-- An expression's text, by the texts of what stands in it. -/
def exTx (op : Int) (tx : ByteArray) (ty : Int) (ks : List (ByteArray × Int)) : ByteArray :=
  if op = 1 ∨ op = 2 ∨ op = 3 then tx ++ ixT ks tx0
  else if op = 4 then tMi ++ kdT 5 (kf0 tx0 ks)
  else if op = 20 then tNo ++ kdT 5 (kf0 tx0 ks)
  else if op = 5 then tAbp ++ (kf0 tx0 ks).1 ++ tRp
  else if op = 6 then tSqp ++ (kf0 tx0 ks).1 ++ tRp
  else if op = 7 then wdOf ty ++ tLp ++ (kf0 tx0 ks).1 ++ tRp
  else kdT (ofT op).2.2 (kf0 tx0 ks) ++ tSp ++ (ofT op).2.1 ++ tSp ++ kdT ((ofT op).2.2 + 1) (kf1 tx0 ks)
def foTx : Fo → List (ByteArray × Int)
  | .nil => []
  | .cons op tx ty ks r => (exTx op tx ty (foTx ks), op) :: foTx r
def exT (e : Ex) : ByteArray := exTx e.op e.tx e.ty (foTx e.ks)
/-- A token without its place. -/
abbrev Kt := Nat × ByteArray
def kdK (lv : Int) (x : List Kt × Int) : List Kt := if (ofT x.2).2.2 < lv then (5, tLp) :: (x.1 ++ [(5, tRp)]) else x.1
/-- An expression's tokens. -/
def exKx (op : Int) (tx : ByteArray) (ty : Int) (ks : List (List Kt × Int)) : List Kt :=
  if op = 1 then [((tok tx.data.toList).1, tx)]
  else if op = 2 then [(1, tx)]
  else if op = 3 then (1, tx) :: (5, tLb) :: ((kf0 [] ks).1 ++ [(5, tRb)])
  else if op = 4 then (5, tMi) :: kdK 5 (kf0 [] ks)
  else if op = 20 then (5, tNo) :: kdK 5 (kf0 [] ks)
  else if op = 5 then (2, tAb) :: (5, tLp) :: ((kf0 [] ks).1 ++ [(5, tRp)])
  else if op = 6 then (2, tSq) :: (5, tLp) :: ((kf0 [] ks).1 ++ [(5, tRp)])
  else if op = 7 then (2, wdOf ty) :: (5, tLp) :: ((kf0 [] ks).1 ++ [(5, tRp)])
  else kdK (ofT op).2.2 (kf0 [] ks) ++ (5, (ofT op).2.1) :: kdK ((ofT op).2.2 + 1) (kf1 [] ks)
def foKx : Fo → List (List Kt × Int)
  | .nil => []
  | .cons op tx ty ks r => (exKx op tx ty (foKx ks), op) :: foKx r
def exK (e : Ex) : List Kt := exKx e.op e.tx e.ty (foKx e.ks)
/-- Each expression has what its kind has. -/
def Fo.oks : Fo → Prop
  | .nil => True
  | .cons op tx ty ks r => exOk op tx ty ks.len = true ∧ ks.oks ∧ r.oks
theorem ru_oks : ∀ (f : Fo) (deep x y : Nat), ruF deep f x = some y → f.oks
  | .nil, _, _, _, _ => trivial
  | .cons op tx ty ks r, deep, x, y, h => by
    rw [ruF] at h
    split at h
    · rename_i c
      simp only [Bool.and_eq_true] at c
      cases h1 : ruF (deep + 1) ks (x + 1) with
      | none => rw [h1] at h; cases h
      | some z =>
        rw [h1] at h
        exact ⟨c.2.2, ru_oks ks _ _ _ h1, ru_oks r _ _ _ h⟩
    · cases h
/-- A kind's places and texts, one each. -/
theorem ok_cases {op : Int} {tx : ByteArray} {ty : Int} {n : Nat} (h : exOk op tx ty n = true) :
    op = 1 ∧ isNum tx = true ∧ ty = 0 ∧ n = 0 ∨ op = 2 ∧ isN tx.toList = true ∧ ty = 0 ∧ n = 0 ∨ op = 3 ∧ isN tx.toList = true ∧ ty = 0 ∧ n = 1 ∨ op = 7 ∧ tx = tx0 ∧ (1 ≤ ty ∧ ty ≤ 3) ∧ n = 1 ∨
    (op = 4 ∨ op = 20 ∨ op = 5 ∨ op = 6) ∧ tx = tx0 ∧ ty = 0 ∧ n = 1 ∨ (8 ≤ op ∧ op ≤ 19) ∧ tx = tx0 ∧ ty = 0 ∧ n = 2 := by
  unfold exOk at h
  by_cases c1 : op = 1
  · rw [if_pos c1] at h; simp at h; exact Or.inl ⟨c1, h⟩
  rw [if_neg c1] at h
  by_cases c2 : op = 2
  · rw [if_pos c2] at h; simp at h; exact Or.inr (Or.inl ⟨c2, h⟩)
  rw [if_neg c2] at h
  by_cases c3 : op = 3
  · rw [if_pos c3] at h; simp at h; exact Or.inr (Or.inr (Or.inl ⟨c3, h⟩))
  rw [if_neg c3] at h
  by_cases c7 : op = 7
  · rw [if_pos c7] at h; simp at h; exact Or.inr (Or.inr (Or.inr (Or.inl ⟨c7, h⟩)))
  rw [if_neg c7] at h
  by_cases c4 : op = 4 ∨ op = 20 ∨ op = 5 ∨ op = 6
  · rw [if_pos c4] at h; simp at h; exact Or.inr (Or.inr (Or.inr (Or.inr (Or.inl ⟨c4, h⟩))))
  rw [if_neg c4] at h
  simp at h
  exact Or.inr (Or.inr (Or.inr (Or.inr (Or.inr h))))
theorem len1 {f : Fo} (h : f.len = 1) : ∃ a b c k, f = .cons a b c k .nil := by
  cases f with
  | nil => cases h
  | cons a b c k r =>
    cases r with
    | nil => exact ⟨a, b, c, k, rfl⟩
    | cons => simp [Fo.len] at h
theorem len2 {f : Fo} (h : f.len = 2) : ∃ a b c k a' b' c' k', f = .cons a b c k (.cons a' b' c' k' .nil) := by
  cases f with
  | nil => cases h
  | cons a b c k r =>
    obtain ⟨a', b', c', k', rfl⟩ := len1 (f := r) (by simp [Fo.len] at h ⊢; omega)
    exact ⟨a, b, c, k, a', b', c', k', rfl⟩
theorem len0 {f : Fo} (h : f.len = 0) : f = .nil := by
  cases f with
  | nil => rfl
  | cons a b c k r => simp [Fo.len] at h
/-- A number's text is one token. -/
theorem num_tok {s : ByteArray} (h : isNum s = true) : ∃ k, (k = 3 ∨ k = 4) ∧ tok s.data.toList = (k, s.data.toList.length) ∧ s.data.toList ≠ [] := by
  unfold isNum at h
  split at h
  · rename_i k a n hs
    simp only [Bool.and_eq_true, decide_eq_true_eq, Bool.or_eq_true, beq_iff_eq] at h
    obtain ⟨he, hk⟩ := h
    unfold scanL at hs
    split at hs
    · cases hs
    obtain ⟨ep, ht⟩ := scanAt_single hs
    have e2 := congrArg (fun x : ByteArray => x.toList.length) he
    simp only [toL_cut, List.length_drop, List.length_take] at e2
    have n1 := tok_le (s.toList.drop (cnt 1 s.toList))
    have n0 := tok_pos (l := s.toList.drop (cnt 1 s.toList)) (by rw [ht]; show k ≠ 0; omega)
    rw [ht] at n1 n0
    simp only [List.length_drop] at n1 n0
    have a0 : a = 0 := by omega
    have c0 : cnt 1 s.toList = 0 := by omega
    rw [c0, List.drop_zero] at ht
    rw [c0] at n1
    have nl : n = s.toList.length := by omega
    rw [toL] at ht nl
    exact ⟨k, hk, by rw [ht, nl], fun e => by rw [toL, e] at n1; simp at n1; omega⟩
  · cases h
end Go.Proofs.YtknoibocpbfmmaaGreatDoor

