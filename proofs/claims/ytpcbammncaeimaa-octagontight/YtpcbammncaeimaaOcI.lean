/- octagon: Set, Range. -/
import Derived.Test.YtpcbammncaeimaaOcH
import Derived.Test.YtpcbammncaeimaaSpZ
import Derived.Deep.RegionWith
namespace Go.Proofs.Ytpcbammncaeimaa
open Go.RowKit
set_option linter.unusedVariables false
set_option linter.unusedSimpArgs false
theorem iright_num {x y : Int} (h1 : -2147483648 ≤ x) (h2 : x ≤ y) (h3 : y ≤ 2147483647) : rightP WyI (false, x, y) = true := by
  have c : cmpI x y ≤ 0 := by unfold cmpI; split <;> (try split) <;> omega
  simp only [rightP, Bool.false_eq_true, if_false, Bool.and_eq_true, decide_eq_true_eq]
  refine ⟨?_, ?_, c⟩
  · show in32 x = true
    simp [in32]; omega
  · show in32 y = true
    simp [in32]; omega
theorem iof_num {x y : Int} (h1 : -2147483648 ≤ x) (h2 : x ≤ y) (h3 : y ≤ 2147483647) : ofP WyI x y = (false, x, y) := by
  show (if rightP WyI (false, x, y) = true then (false, x, y) else (true, 0, 0)) = _
  rw [if_pos (iright_num h1 h2 h3)]
set_option maxRecDepth 100000 in
set_option maxHeartbeats 1600000 in
theorem oset (b n : Nat) (hn : n ≤ 8) (M : Mx) (i : Nat) (hi : i < n) (lo hh : Int) (h1 : -2147483648 ≤ lo) (h2 : lo ≤ hh) (h3 : hh ≤ 2147483647) (u : Nat → Int) (fu : Fit n (low (low M (2 * i) (2 * i) (2 * hh)) (2 * i + 1) (2 * i + 1) (-2 * lo)) u) (su : ∀ a, -1099511627776 ≤ u a ∧ u a ≤ 1099511627776) (hM : ∀ a c, a < 2 * n → c < 2 * n → M a c ≤ 4611686018427387903) (w : World) (h : OctAt w b n false M) :
    Calls Try.prog 26 #[.pointer (some ⟨b, 0, none⟩), .int .i64 i, .agg #[.bool false, .int .i64 lo, .int .i64 hh]] w fun r w' => r = .returned (.int .i64 0) ∧ (∃ M', OctAt w' b n false M' ∧ Tgt n (low (low M (2 * i) (2 * i) (2 * hh)) (2 * i + 1) (2 * i + 1) (-2 * lo)) M') ∧ Onl b w w' := by
  have s1 := oside i (by omega) false
  have s2 := oside i (by omega) true
  have hb : b < w.heap.size := World.block_lt_of_cell? w _ h.hv
  obtain ⟨W, hW⟩ : ∃ W, (w.alloc (.cells #[.bool false, .int .i64 lo, .int .i64 hh] 39)).alloc (.cells #[.int .i64 i] 3) = W := ⟨_, rfl⟩
  have gW : Below w.heap.size w W := by rw [← hW]; exact ((Below.refl _ _).alloc (Nat.le_refl _) _).alloc (by simp) _
  have a0 : W.cell? ⟨w.heap.size, 0, none⟩ = some (.bool false) := by rw [← hW]; simp [go_sem]
  have a1 : W.cell? ⟨w.heap.size, 1, none⟩ = some (.int .i64 lo) := by rw [← hW]; simp [go_sem]
  have a2 : W.cell? ⟨w.heap.size, 2, none⟩ = some (.int .i64 hh) := by rw [← hW]; simp [go_sem]
  have p0 : W.cell? ⟨w.heap.size + 1, 0, none⟩ = some (.int .i64 i) := by rw [← hW]; simp [go_sem]
  have hO := h.on gW
  have cc : Onl b w W := Onl.of gW
  have nb : w.heap.size ≠ b := by omega
  have kf := ofault b n false M 0 0 (by omega) (by omega) (by omega) (by omega) (w.heap.size + 1) 1 (by omega) (fun _ => i) (fun j hj => hi) _ hO (fun j hj => by
    have : j = 0 := by omega
    subst this
    exact p0)
  have kr := intRight_of false lo hh _ (fun V => right_i (acts_i V) false lo hh (domI_of (by omega) (by omega)) (domI_of (by omega) (by omega)) V (Below.refl _ _))
  rw [iright_num h1 h2 h3] at kr
  have kl1 := fun V hV => olower b n M (2 * i) (2 * i) (by omega) (by omega) (2 * hh) V hV
  have kl2 := fun V hV => olower b n (low M (2 * i) (2 * i) (2 * hh)) (2 * i + 1) (2 * i + 1) (by omega) (by omega) (-2 * lo) V hV
  have kt := fun V hV => otight b n hn (low (low M (2 * i) (2 * i) (2 * hh)) (2 * i + 1) (2 * i + 1) (-2 * lo)) u fu su (fun a d ha hd => Int.le_trans (low_le _ _ _ _ _ _) (Int.le_trans (low_le _ _ _ _ _ _) (hM a d ha hd))) V hV
  have w1 : IntKind.i64.wrap (2 * hh) = 2 * hh := by rw [IntKind.wrap_i64]; omega
  have w2 : IntKind.i64.wrap (-2 * lo) = -2 * lo := by rw [IntKind.wrap_i64]; omega
  clear fu hM h
  generalize low (low M (2 * i) (2 * i) (2 * hh)) (2 * i + 1) (2 * i + 1) (-2 * lo) = L2 at *
  generalize low M (2 * i) (2 * i) (2 * hh) = L1 at *
  have e1 : 2 * i + false.toNat = 2 * i := rfl
  have e2 : 2 * i + true.toNat = 2 * i + 1 := rfl
  rw [e1] at s1
  rw [e2] at s2
  clear e1 e2
  generalize 2 * i + 1 = y at *
  generalize 2 * i = x at *
  go_enter Try.func26, Try.ntmps26
  go_upto_region 9 with (first
    | (go_at_call 55; (try rw [hW]); refine kf.mono ?_; rintro r v2 ⟨rfl, hw2⟩; subst v2; clear kf hW gW)
    | (go_at_call 56; refine (kr _).mono ?_; rintro r v3 ⟨rfl, g⟩; replace a0 := sp_cell_on g a0; replace a1 := sp_cell_on g a1; replace a2 := sp_cell_on g a2; replace hO := hO.on g; replace cc := cc.on g; clear g kr)
    | fail)
  clear p0 a0
  go_cut [30] from 22 to 30 (fun s X => ∃ W1, W1 = X ∧ s = .tuple #[] ∧ OctAt X b n false L1 ∧ X.cell? ⟨w.heap.size, 1, none⟩ = some (.int .i64 lo) ∧ Onl b w X)
  case first =>
    go_region_with
      (first
        | (go_at_call 53; refine (s1 _).mono ?_; rintro r v4 ⟨rfl, hw4⟩; subst v4)
        | (go_at_call 58; refine (kl1 _ (by first | exact hO | exact hO.drew | exact hO.drewN _)).mono ?_; rintro r v5 ⟨rfl, hO2, c5⟩; replace cc := (show Onl b w _ by first | exact cc | exact cc.drew | exact cc.drewN _).trans c5; replace a1 := c5.cell nb (show World.cell? _ ⟨w.heap.size, 1, none⟩ = _ from a1); clear c5)
        | fail)
    all_goals go_wp2_with fail
    all_goals go_meet
    all_goals exact ⟨_, rfl, rfl, hO2, a1, cc⟩
  case rest =>
    obtain ⟨W1, rfl, rfl, hO2, b1, c2⟩ := hcut
    clear hO cc a1 a2 s1 kl1
    go_upto_region 10 with fail
    go_cut [39] from 31 to 39 (fun s X => ∃ W2, W2 = X ∧ s = .tuple #[] ∧ OctAt X b n false L2 ∧ Onl b w X)
    case first =>
      go_region_with
        (first
          | (go_at_call 53; refine (s2 _).mono ?_; rintro r v4 ⟨rfl, hw4⟩; subst v4)
          | (go_at_call 58; refine (kl2 _ (by first | exact hO2 | exact hO2.drew | exact hO2.drewN _)).mono ?_; rintro r v5 ⟨rfl, hO3, c5⟩; replace c2 := (show Onl b w _ by first | exact c2 | exact c2.drew | exact c2.drewN _).trans c5; clear c5)
          | fail)
      all_goals go_wp2_with fail
      all_goals go_meet
      all_goals exact ⟨_, rfl, rfl, hO3, c2⟩
    case rest =>
      obtain ⟨W2, rfl, rfl, hO3, c3⟩ := hcut
      clear hO2 c2 b1 s2 kl2
      go_wp2_with (first
        | (go_at_call 59; refine (kt _ hO3).mono ?_; rintro r v6 ⟨rfl, hO4, c6⟩; replace c3 := c3.trans c6; clear c6)
        | fail)
      go_ret
      exact ⟨rfl, hO4, c3⟩
end Go.Proofs.Ytpcbammncaeimaa

