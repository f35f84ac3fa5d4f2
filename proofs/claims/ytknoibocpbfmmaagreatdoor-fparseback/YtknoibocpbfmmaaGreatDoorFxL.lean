/- flex.Scan in two words; what plumblinelaw04's live asks. -/
import Derived.Test.YtknoibocpbfmmaaGreatDoorFxD
namespace Go.Proofs.YtknoibocpbfmmaaGreatDoor
open Go.RowKit
set_option linter.unusedVariables false
set_option linter.unusedSimpArgs false
theorem scan_ok (s : ByteArray) (t : List (Nat × Nat × Nat)) (h : scanL s.toList = .ok t) (w : World) :
    Calls Tryz.prog 16 #[.string s] w fun e w' => ∃ v, e = .returned (.tuple #[v, .int .i64 0, .int .i64 0]) ∧ w'.ownsRow w.heap.size 45 3 v t.length (tcells s t) ∧ Below w.heap.size w w' := by
  refine scan_Q s w _ (fun t' v w' h' o L => ?_) (fun E A w' h' L => ?_)
  · obtain rfl : t = t' := by rw [h] at h'; exact Except.ok.inj h'
    exact ⟨v, rfl, o, L⟩
  · rw [h] at h'; cases h'
theorem scan_err (s : ByteArray) (E A : Nat) (h : scanL s.toList = .error (E, A)) (w : World) :
    Calls Tryz.prog 16 #[.string s] w fun e w' => e = .returned (.tuple #[.slice none 0 0, .int .i64 E, .int .i64 A]) ∧ Below w.heap.size w w' := by
  refine scan_Q s w _ (fun t' v w' h' o L => ?_) (fun E' A' w' h' L => ?_)
  · rw [h] at h'; cases h'
  · rw [h] at h'
    obtain ⟨rfl, rfl⟩ := Prod.mk.inj (Except.error.inj h')
    exact ⟨rfl, L⟩
/-- The cells of what a slice owns. -/
theorem own_cells {w : World} {base n size : Nat} {e : TypeId} {v : Value} {xs : List Value} (h : w.ownsRow base e size v n xs) (hn : n ≠ 0) :
    ∃ g cap : Nat, v = .slice (some ⟨g, 0, none⟩) n cap ∧ g < w.heap.size ∧ n ≤ cap ∧ base ≤ g ∧ ∀ j x, xs[j]? = some x → w.cell? ⟨g, j, none⟩ = some x := by
  obtain ⟨h1, ⟨_, h2⟩ | ⟨g, cap, cur, rfl, h3, h4, h5, h6, h7, h8⟩⟩ := h
  · exact absurd h2 hn
  · refine ⟨g, cap, rfl, (Array.getElem?_eq_some_iff.mp h4).1, h5, h3, fun j x hx => ?_⟩
    rw [cell_of_row w g j cur e (0, 0) h4, ← Array.getElem?_toList]
    rw [← h8, List.getElem?_take] at hx
    split at hx
    · exact hx
    · cases hx
theorem tokx : tok [120, 61, 49, 46, 53, 59] = (1, 1) := by decide +kernel
theorem toke : tok [61, 49, 46, 53, 59] = (5, 1) := by decide +kernel
theorem tokn : tok [49, 46, 53, 59] = (4, 3) := by decide +kernel
theorem toks : tok [59] = (5, 1) := by decide +kernel
theorem live_scan : scanL [120, 61, 49, 46, 53, 59] = .ok [(1, 0, 1), (5, 1, 1), (4, 2, 3), (5, 5, 1)] := by
  unfold scanL
  rw [if_neg (by decide), show cnt 1 [120, 61, 49, 46, 53, 59] = 0 by decide +kernel, List.drop_zero]
  rw [scanAt, if_neg (by decide), tokx, dif_neg (by decide), if_neg (by decide)]
  simp only [List.drop_succ_cons, List.drop_zero, show cnt 1 [61, 49, 46, 53, 59] = 0 by decide +kernel]
  rw [scanAt, if_neg (by decide), toke, dif_neg (by decide), if_neg (by decide)]
  simp only [List.drop_succ_cons, List.drop_zero, show cnt 1 [49, 46, 53, 59] = 0 by decide +kernel]
  rw [scanAt, if_neg (by decide), tokn, dif_neg (by decide), if_neg (by decide)]
  simp only [List.drop_succ_cons, List.drop_zero, show cnt 1 [59] = 0 by decide +kernel]
  rw [scanAt, if_neg (by decide), toks, dif_neg (by decide), if_neg (by decide)]
  simp only [List.drop_succ_cons, List.drop_zero, show cnt 1 [] = 0 by decide +kernel]
  rw [scanAt_end _ _ _ rfl]
end Go.Proofs.YtknoibocpbfmmaaGreatDoor

