/- A text's tokens as a plain function of its bytes. -/
import Derived.Test.YtknoibocpbfmmaaGreatDoorFxC
namespace Go.Proofs.YtknoibocpbfmmaaGreatDoor
open Go.RowKit
set_option linter.unusedVariables false
set_option linter.unusedSimpArgs false
theorem cnt_2_14 : ∀ l, cnt 2 l ≤ cnt 14 l
  | [] => Nat.le_refl _
  | b :: t => by
    have ih := cnt_2_14 t
    simp only [cnt]
    rcases kb_five b.toNat with k | k | k | k | k <;> rw [k] <;> simp <;> omega
theorem sgnN_le (l : List UInt8) : sgnN l ≤ l.length := by
  unfold sgnN; (repeat' split) <;> omega
theorem tok_le (l : List UInt8) : (tok l).2 ≤ l.length := by
  have a := cnt_le 14 l
  have b := cnt_le 4 l
  have c := sgnN_le l
  unfold tok
  split
  · unfold wonL; (repeat' split) <;> simp <;> omega
  · split
    · unfold iorL
      split
      · rename_i h
        have d := cnt_le 4 (l.drop (cnt 4 l + 1))
        rw [List.length_drop] at d
        have e : cnt 4 l < l.length := by
          by_cases q : cnt 4 l < l.length
          · exact q
          · rw [List.getElem?_eq_none (by omega)] at h; simp at h
        simp; omega
      · exact b
    · split
      · exact c
      · simp
theorem tok_pos {l : List UInt8} (h : (tok l).1 ≠ 0) : 1 ≤ (tok l).2 := by
  have a := cnt_2_14 l
  revert h
  unfold tok
  split
  · unfold wonL; (repeat' split) <;> simp <;> omega
  · split
    · unfold iorL
      split <;> simp <;> omega
    · split <;> simp <;> omega
theorem tok_kind (l : List UInt8) : (tok l).1 ≤ 5 := by
  unfold tok wonL iorL; (repeat' split) <;> simp
/-- The tokens from a place on (at which no blank stands), of which so many are told: kinds, places, lengths; or the error and its place. -/
def scanAt (l : List UInt8) (a n : Nat) : Except (Nat × Nat) (List (Nat × Nat × Nat)) :=
  if l.length = 0 then .ok []
  else if hk : (tok l).1 = 0 then .error (3, a)
  else if n = 2048 then .error (5, a)
  else
    match scanAt ((l.drop (tok l).2).drop (cnt 1 (l.drop (tok l).2))) (a + (tok l).2 + cnt 1 (l.drop (tok l).2)) (n + 1) with
    | .ok r => .ok (((tok l).1, a, (tok l).2) :: r)
    | .error e => .error e
  termination_by l.length
  decreasing_by
    have := tok_pos hk
    simp only [List.length_drop]
    omega
def scanL (l : List UInt8) : Except (Nat × Nat) (List (Nat × Nat × Nat)) :=
  if 8192 < l.length then .error (5, 0) else scanAt (l.drop (cnt 1 l)) (cnt 1 l) 0
/-- What is told, and then the rest. -/
def andThen (t : List (Nat × Nat × Nat)) : Except (Nat × Nat) (List (Nat × Nat × Nat)) → Except (Nat × Nat) (List (Nat × Nat × Nat))
  | .ok r => .ok (t ++ r)
  | .error e => .error e
theorem scanAt_step (l : List UInt8) (a n : Nat) (t : List (Nat × Nat × Nat)) (h0 : l.length ≠ 0) (hk : (tok l).1 ≠ 0) (hn : n ≠ 2048) :
    andThen t (scanAt l a n) = andThen (t ++ [((tok l).1, a, (tok l).2)]) (scanAt ((l.drop (tok l).2).drop (cnt 1 (l.drop (tok l).2))) (a + (tok l).2 + cnt 1 (l.drop (tok l).2)) (n + 1)) := by
  rw [scanAt, if_neg h0, dif_neg hk, if_neg hn]
  cases scanAt ((l.drop (tok l).2).drop (cnt 1 (l.drop (tok l).2))) (a + (tok l).2 + cnt 1 (l.drop (tok l).2)) (n + 1) <;> simp [andThen]
theorem scanAt_end (l : List UInt8) (a n : Nat) (h0 : l.length = 0) : scanAt l a n = .ok [] := by rw [scanAt, if_pos h0]
theorem scanAt_bad (l : List UInt8) (a n : Nat) (h0 : l.length ≠ 0) (hk : (tok l).1 = 0) : scanAt l a n = .error (3, a) := by rw [scanAt, if_neg h0, dif_pos hk]
theorem scanAt_full (l : List UInt8) (a : Nat) (h0 : l.length ≠ 0) (hk : (tok l).1 ≠ 0) : scanAt l a 2048 = .error (5, a) := by rw [scanAt, if_neg h0, dif_neg hk, if_pos rfl]
/-- The cells of tokens in a slice. -/
def tcells (s : ByteArray) : List (Nat × Nat × Nat) → List Value
  | [] => []
  | (k, a, n) :: t => Value.int .i64 (k : Nat) :: Value.string (s.extract a (a + n)) :: Value.int .i64 (a : Nat) :: tcells s t
theorem tcells_len (s : ByteArray) : ∀ t, (tcells s t).length = t.length * 3
  | [] => rfl
  | (k, a, n) :: t => by simp only [tcells, List.length_cons, tcells_len s t]; omega
theorem tcells_app (s : ByteArray) : ∀ t u, tcells s (t ++ u) = tcells s t ++ tcells s u
  | [], u => rfl
  | (k, a, n) :: t, u => by simp only [tcells, List.cons_append, tcells_app s t u]
end Go.Proofs.YtknoibocpbfmmaaGreatDoor
