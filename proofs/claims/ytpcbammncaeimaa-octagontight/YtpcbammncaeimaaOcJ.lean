/- octagon: Range. -/
import Derived.Test.YtpcbammncaeimaaOcH
import Derived.Test.YtpcbammncaeimaaSpZ
namespace Go.Proofs.Ytpcbammncaeimaa
open Go.RowKit
set_option linter.unusedVariables false
set_option linter.unusedSimpArgs false
theorem iright_num2 {x y : Int} (h1 : -2147483648 ≤ x) (h2 : x ≤ y) (h3 : y ≤ 2147483647) : rightP WyI (false, x, y) = true := by
  have c : cmpI x y ≤ 0 := by unfold cmpI; split <;> (try split) <;> omega
  simp only [rightP, Bool.false_eq_true, if_false, Bool.and_eq_true, decide_eq_true_eq]
  refine ⟨?_, ?_, c⟩
  · show in32 x = true
    simp [in32]; omega
  · show in32 y = true
    simp [in32]; omega
theorem iof_num2 {x y : Int} (h1 : -2147483648 ≤ x) (h2 : x ≤ y) (h3 : y ≤ 2147483647) : ofP WyI x y = (false, x, y) := by
  show (if rightP WyI (false, x, y) = true then (false, x, y) else (true, 0, 0)) = _
  rw [if_pos (iright_num2 h1 h2 h3)]
set_option maxRecDepth 100000 in
set_option maxHeartbeats 800000 in
theorem orange (b n : Nat) (hn : n ≤ 8) (M : Mx) (i : Nat) (hi : i < n) (lo hh L H : Int) (eL : (M (2 * i + 1) (2 * i + 1)).tdiv 2 = L) (eH : (M (2 * i) (2 * i)).tdiv 2 = H) (el : max (-L) (-2147483648) = lo) (eh : min H 2147483647 = hh) (hlh : lo ≤ hh)
    (b1 : -4611686018427387904 ≤ M (2 * i + 1) (2 * i + 1)) (b2 : M (2 * i + 1) (2 * i + 1) ≤ 4611686018427387904) (b3 : -4611686018427387904 ≤ M (2 * i) (2 * i)) (b4 : M (2 * i) (2 * i) ≤ 4611686018427387904) (w : World) (h : OctAt w b n false M) :
    Calls Try.prog 25 #[.pointer (some ⟨b, 0, none⟩), .int .i64 i] w fun r w' => r = .returned (.agg #[.bool false, .int .i64 lo, .int .i64 hh]) ∧ Below w.heap.size w w' := by
  have s1 := oside i (by omega) true
  have s2 := oside i (by omega) false
  obtain ⟨W, hW⟩ : ∃ W, w.alloc (.cells #[.bool false, .int .i64 0, .int .i64 0] 39) = W := ⟨_, rfl⟩
  have gW : Below w.heap.size w W := by rw [← hW]; exact (Below.refl _ _).alloc (Nat.le_refl _) _
  have zW : w.heap.size + 1 ≤ W.heap.size := by rw [← hW]; simp
  have r0 : W.cell? ⟨w.heap.size, 0, none⟩ = some (.bool false) := by rw [← hW]; simp [go_sem]
  have r1 : W.cell? ⟨w.heap.size, 1, none⟩ = some (.int .i64 0) := by rw [← hW]; simp [go_sem]
  have r2 : W.cell? ⟨w.heap.size, 2, none⟩ = some (.int .i64 0) := by rw [← hW]; simp [go_sem]
  have fz : ∀ j, W.frozen? ⟨w.heap.size, j, none⟩ = false := by intro j; rw [← hW]; simp [go_sem]
  have hO := h.on gW
  have v1 := oisvar b n false M i hi W hO
  have he := hO.he
  have k1 := ogreat b n false M (2 * i + 1) (by omega) b1 b2 W hO
  have k2 := ogreat b n false M (2 * i) (by omega) b3 b4 W hO
  have lb : -4611686018427387904 ≤ L ∧ L ≤ 4611686018427387904 := by rw [← eL, td2]; split <;> omega
  have wn : IntKind.i64.wrap (-L) = -L := by rw [IntKind.wrap_i64]; omega
  have ki := intOf_any lo hh (by omega) (by omega)
  rw [iof_num2 (by omega) hlh (by omega)] at ki
  have kj : ∀ p q, p = lo → q = hh → ∀ V, Calls Try.prog 54 #[.int .i64 p, .int .i64 q] V fun r w' => r = .returned (.agg #[.bool false, .int .i64 lo, .int .i64 hh]) ∧ Below V.heap.size V w' := fun p q hp hq V => by rw [hp, hq]; exact ki V
  clear ki
  rw [eL] at k1
  rw [eH] at k2
  have e1 : 2 * i + false.toNat = 2 * i := rfl
  have e2 : 2 * i + true.toNat = 2 * i + 1 := rfl
  rw [e1] at s2
  rw [e2] at s1
  clear e1 e2 eL eH b1 b2 b3 b4 lb h hlh
  generalize 2 * i + 1 = y at *
  generalize 2 * i = x at *
  go_enter Try.func25, Try.ntmps25
  go_upto_region 1 with fail
  (try rw [hW])
  clear hW
  go_wp2_with (first
    | (go_at_call 51; refine v1.mono ?_; rintro r v2 ⟨rfl, hw2⟩; subst v2; clear v1)
    | (go_at_call 53; refine (s1 _).mono ?_; rintro r v3 ⟨rfl, hw3⟩; subst v3; clear s1)
    | (go_at_call 53; refine (s2 _).mono ?_; rintro r v3 ⟨rfl, hw3⟩; subst v3; clear s2)
    | (go_at_call_of 52 y; refine k1.mono ?_; rintro r v4 ⟨rfl, hw4⟩; subst v4; clear k1)
    | (go_at_call_of 52 x; refine k2.mono ?_; rintro r v4 ⟨rfl, hw4⟩; subst v4; clear k2)
    | (go_at_call 54; refine (kj _ _ (by omega) (by omega) _).mono ?_; rintro r v5 ⟨rfl, g⟩; replace fz : ∀ j, v5.frozen? ⟨w.heap.size, j, none⟩ = false := fun j => (g.frozen (p := ⟨w.heap.size, j, none⟩) (by first | (simp; done) | (simp; omega))).trans (fz j); replace r0 := sp_cell_on g r0; replace r1 := sp_cell_on g r1; replace r2 := sp_cell_on g r2; replace gW := sp_call gW g; clear g)
    | fail)
  all_goals exact bodyPost_ret (v := .agg #[.bool false, .int .i64 lo, .int .i64 hh]) (by simp [results, Try.results25, go_sem, r0, r1, r2]) rfl ⟨rfl, ((gW.setCell (p := ⟨w.heap.size, 0, none⟩) (Nat.le_refl _) _).setCell (p := ⟨w.heap.size, 1, none⟩) (Nat.le_refl _) _).setCell (p := ⟨w.heap.size, 2, none⟩) (Nat.le_refl _) _⟩
end Go.Proofs.Ytpcbammncaeimaa

