/- Which of two operators binds: the parse of 144 pairs, by the kernel. -/
import Derived.Test.YtknoibocpbfmmaaGreatDoorPfC
namespace Go.Proofs.YtknoibocpbfmmaaGreatDoor
set_option linter.unusedVariables false
set_option linter.unusedSimpArgs false
/-- The operators' signs, numbers, levels. -/
def sgL : List ByteArray := [⟨#[124, 124]⟩, ⟨#[38, 38]⟩, ⟨#[61, 61]⟩, ⟨#[33, 61]⟩, ⟨#[60]⟩, ⟨#[60, 61]⟩, ⟨#[62]⟩, ⟨#[62, 61]⟩, ⟨#[43]⟩, ⟨#[45]⟩, ⟨#[42]⟩, ⟨#[47]⟩]
def sgO : List Int := [19, 18, 16, 17, 12, 13, 14, 15, 8, 9, 10, 11]
def sgA : List Nat := [1, 2, 3, 3, 3, 3, 3, 3, 4, 4, 5, 5]
def sgT (P : Nat) : ByteArray := sgL.getD P tx0
def sgN (P : Nat) : Int := sgO.getD P 0
def sgV (P : Nat) : Nat := sgA.getD P 0
abbrev s1a : ByteArray := ⟨#[118, 32, 61, 32, 97, 32]⟩
abbrev s1b : ByteArray := ⟨#[32, 98, 32]⟩
abbrev s1c : ByteArray := ⟨#[32, 99, 59]⟩
abbrev s2a : ByteArray := ⟨#[118, 32, 61, 32, 40, 97, 32]⟩
abbrev s2b : ByteArray := ⟨#[32, 98, 41, 32]⟩
abbrev s3b : ByteArray := ⟨#[32, 40, 98, 32]⟩
abbrev s3c : ByteArray := ⟨#[32, 99, 41, 59]⟩
def tT1 (a b : ByteArray) : ByteArray := s1a ++ a ++ s1b ++ b ++ s1c
def tT2 (a b : ByteArray) : ByteArray := s2a ++ a ++ s2b ++ b ++ s1c
def tT3 (a b : ByteArray) : ByteArray := s1a ++ a ++ s3b ++ b ++ s3c
def pgOf (e : Ex) : Pg := ([], .cons 1 ⟨#[118]⟩ .nil e exN exN .nil .nil .nil)
def vA : Ex := exV ⟨#[97]⟩
def vB : Ex := exV ⟨#[98]⟩
def vC : Ex := exV ⟨#[99]⟩
def pgLt (P Q : Nat) : Pg := pgOf (over2 (sgN Q) (over2 (sgN P) vA vB) vC)
def pgRt (P Q : Nat) : Pg := pgOf (over2 (sgN P) vA (over2 (sgN Q) vB vC))
def pgXt (P Q : Nat) : Pg := if sgV Q ≤ sgV P then pgLt P Q else pgRt P Q
def chkP (s : ByteArray) (p : Pg) : Bool := match scanK s.data.toList with
  | .ok t => (match pgP 60 (tks s t) with
    | .ok p' us d => decide (p' = p) && (decide (d ≤ 24) && (ruP p).isSome)
    | _ => false)
  | _ => false
theorem chk_prs {s : ByteArray} {p : Pg} (h : chkP s p = true) : prsL s = .ok p := by
  unfold chkP at h
  cases hs : scanK s.data.toList with
  | error e => rw [hs] at h; cases h
  | ok t =>
    rw [hs] at h
    simp only at h
    cases hp : pgP 60 (tks s t) with
    | bad a => rw [hp] at h; cases h
    | more => rw [hp] at h; cases h
    | ok p' us d =>
      rw [hp] at h
      simp only [Bool.and_eq_true, decide_eq_true_eq] at h
      obtain ⟨rfl, hd, hr⟩ := h
      cases hc : ruP p' with
      | none => rw [hc] at hr; cases hr
      | some c => exact prs_of 60 hs hp hd hc
def tabR (P : Nat) : Bool := (List.range 12).all fun Q => chkP (tT1 (sgT P) (sgT Q)) (pgXt P Q) && (chkP (tT2 (sgT P) (sgT Q)) (pgLt P Q) && (chkP (tT3 (sgT P) (sgT Q)) (pgRt P Q) && !decide (pgLt P Q = pgRt P Q)))
set_option maxRecDepth 100000 in
theorem tab_all : ((List.range 12).all tabR) = true := by kernel_rfl
/-- What the three texts of two operators are. -/
theorem tab {P Q : Nat} (hP : P < 12) (hQ : Q < 12) : prsL (tT1 (sgT P) (sgT Q)) = .ok (pgXt P Q) ∧ prsL (tT2 (sgT P) (sgT Q)) = .ok (pgLt P Q) ∧ prsL (tT3 (sgT P) (sgT Q)) = .ok (pgRt P Q) ∧ pgLt P Q ≠ pgRt P Q := by
  have h := List.all_eq_true.1 (List.all_eq_true.1 tab_all P (List.mem_range.2 hP)) Q (List.mem_range.2 hQ)
  simp only [Bool.and_eq_true, Bool.not_eq_true', decide_eq_false_iff_not] at h
  exact ⟨chk_prs h.1, chk_prs h.2.1, chk_prs h.2.2.1, h.2.2.2⟩
theorem sg_size {P : Nat} (h : P < 12) : (sgT P).size ≤ 2 := by
  have : P = 0 ∨ P = 1 ∨ P = 2 ∨ P = 3 ∨ P = 4 ∨ P = 5 ∨ P = 6 ∨ P = 7 ∨ P = 8 ∨ P = 9 ∨ P = 10 ∨ P = 11 := by omega
  rcases this with rfl | rfl | rfl | rfl | rfl | rfl | rfl | rfl | rfl | rfl | rfl | rfl <;> decide
/-- The signs in memory. -/
theorem sg_cell {V : World} {b P : Nat} (q : V.heap[b]? = some (.cells #[.string ⟨#[124, 124]⟩, .string ⟨#[38, 38]⟩, .string ⟨#[61, 61]⟩, .string ⟨#[33, 61]⟩, .string ⟨#[60]⟩, .string ⟨#[60, 61]⟩, .string ⟨#[62]⟩, .string ⟨#[62, 61]⟩, .string ⟨#[43]⟩, .string ⟨#[45]⟩, .string ⟨#[42]⟩, .string ⟨#[47]⟩] 9 (0, 0))) (h : P < 12) : V.cell? ⟨b, P, none⟩ = some (.string (sgT P)) := by
  have : P = 0 ∨ P = 1 ∨ P = 2 ∨ P = 3 ∨ P = 4 ∨ P = 5 ∨ P = 6 ∨ P = 7 ∨ P = 8 ∨ P = 9 ∨ P = 10 ∨ P = 11 := by omega
  rcases this with rfl | rfl | rfl | rfl | rfl | rfl | rfl | rfl | rfl | rfl | rfl | rfl <;> simp [World.cell?, q, sgT, sgL]
theorem sv_cell {V : World} {b P : Nat} (q : V.heap[b]? = some (.cells #[.int .i64 1, .int .i64 2, .int .i64 3, .int .i64 3, .int .i64 3, .int .i64 3, .int .i64 3, .int .i64 3, .int .i64 4, .int .i64 4, .int .i64 5, .int .i64 5] 3 (0, 0))) (h : P < 12) : V.cell? ⟨b, P, none⟩ = some (.int .i64 (sgV P : Nat)) := by
  have : P = 0 ∨ P = 1 ∨ P = 2 ∨ P = 3 ∨ P = 4 ∨ P = 5 ∨ P = 6 ∨ P = 7 ∨ P = 8 ∨ P = 9 ∨ P = 10 ∨ P = 11 := by omega
  rcases this with rfl | rfl | rfl | rfl | rfl | rfl | rfl | rfl | rfl | rfl | rfl | rfl <;> simp [World.cell?, q, sgV, sgA]
end Go.Proofs.YtknoibocpbfmmaaGreatDoor

