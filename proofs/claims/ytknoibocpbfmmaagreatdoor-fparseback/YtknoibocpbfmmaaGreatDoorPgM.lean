/- A right program's text: what Print tells where it is too long is that alone. -/
import Derived.Test.YtknoibocpbfmmaaGreatDoorPeI
namespace Go.Proofs.YtknoibocpbfmmaaGreatDoor
set_option linter.unusedVariables false
set_option linter.unusedSimpArgs false
theorem lx_scan {l : List UInt8} {ts : List (Nat × List UInt8)} (h : Lx l ts) : ∀ (a n : Nat) (e : Nat × Nat), scanAt (l.drop (cnt 1 l)) a n = .error e → e.1 = 5 := by
  induction h with
  | nil h =>
    intro a n e he
    rw [h, scanAt_end [] a n rfl] at he
    cases he
  | @cons l l' k m ts e0 h hk r ih =>
    intro a n e he
    rw [e0] at he
    have hk' : (tok l').1 ≠ 0 := by rw [h]; exact hk
    by_cases h0 : l'.length = 0
    · rw [scanAt_end l' a n h0] at he; cases he
    by_cases hn : n = 2048
    · subst hn; rw [scanAt_full l' a h0 hk'] at he; cases he; rfl
    rw [scanAt, if_neg h0, dif_neg hk', if_neg hn] at he
    have hm : (tok l').2 = m := by rw [h]
    rw [hm] at he
    cases hr : scanAt ((l'.drop m).drop (cnt 1 (l'.drop m))) (a + m + cnt 1 (l'.drop m)) (n + 1) with
    | ok r => rw [hr] at he; cases he
    | error e2 =>
      rw [hr] at he
      have he2 : (Except.error e2 : Except (Nat × Nat) (List (Nat × Nat × Nat))) = .error e := he
      cases he2
      exact ih _ _ _ hr
/-- A right program's text is the program, or too much. -/
theorem prs_text {p : Pg} {c : Nat × Nat} (h : ruP p = some c) {s : ByteArray} (hs : s.data.toList = pgL p) {x : Nat × Nat} (hq : prsL s = .error x) : x.1 = 5 := by
  have y := lx_pg h
  rw [← hs, ← toL] at y
  unfold prsL at hq
  cases hc : scanL s.toList with
  | error e =>
    rw [hc] at hq
    cases hq
    unfold scanL at hc
    split at hc
    · cases hc; rfl
    · exact lx_scan y _ _ _ hc
  | ok t =>
    rw [hc] at hq
    simp only at hq
    have z := (scanL_Lx hc).det y
    have hk : ky (t.map (fun x => (x.1, s.extract x.2.1 (x.2.1 + x.2.2), x.2.1))) = pgK p := by
      apply kL_inj
      rw [← z]
      simp only [ky, kL, List.map_map]
      apply List.map_congr_left
      intro w _
      simp only [Function.comp, ext_list']
      rw [Nat.add_sub_cancel_left]
    obtain ⟨n, d, hn⟩ := pg_parse h hk s.size
    have e : tks s t = t.map (fun x => (x.1, s.extract x.2.1 (x.2.1 + x.2.2), x.2.1)) ++ [eT s.size] := rfl
    rw [← e] at hn
    have nm := tks_nm (s := s) (scanL_len hc)
    cases hr : pgP 16500 (tks s t) with
    | bad a =>
      have := mo_both (F := fun n => pgP n (tks s t)) (fun n => mo_pg n _) (n := n) (n' := 16500) (by rw [hn]; exact ok_nm) (by rw [hr]; intro c; cases c)
      rw [hn, hr] at this
      cases this
    | more => exact absurd hr nm
    | ok p' us d' =>
      rw [hr] at hq
      unfold parT at hq
      simp only at hq
      split at hq
      · cases hq
      · cases hq; rfl
/-- What Print tells of a right program. -/
theorem prt_right {p : Pg} {c : Nat × Nat} (h : ruP p = some c) : (prtP p).2 = 5 ∨ (prtP p).2 = 0 ∧ prsL (prtP p).1 = .ok p := by
  unfold prtP
  rw [h]
  simp only
  cases hq : prsL ⟨(pgL p).toArray⟩ with
  | error x => exact Or.inl (prs_text h (by simp) hq)
  | ok q =>
    refine Or.inr ⟨rfl, ?_⟩
    show prsL ⟨(pgL p).toArray⟩ = _
    rw [hq, prs_back h (by simp) hq]
end Go.Proofs.YtknoibocpbfmmaaGreatDoor

