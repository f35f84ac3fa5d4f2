/- plumblineref08.IntWiden. -/
import Derived.Test.YthjoigkckgdcaaaGreatSpRi
import Derived.Deep.DeepCutAuto
namespace Go.Proofs.YthjoigkckgdcaaaGreat
open Go.RowKit
set_option linter.unusedVariables false
set_option linter.unusedSimpArgs false
def rlowI (c : Int) (ts : List Int) : Int := ts.foldl (fun acc x => if in32 x && (decide (x ≤ c) && decide (acc < x)) then x else acc) (-2147483648)
def rhighI (d : Int) (ts : List Int) : Int := ts.foldl (fun acc x => if in32 x && (decide (d ≤ x) && decide (x < acc)) then x else acc) 2147483647
def rWidenI (p q : Bool × Int × Int) (ts : List Int) : Bool × Int × Int := if p.1 then q else if q.1 then p else (false, if q.2.1 < p.2.1 then rlowI q.2.1 ts else p.2.1, if p.2.2 < q.2.2 then rhighI q.2.2 ts else p.2.2)
theorem rlowI_snoc (c : Int) (ts : List Int) (x : Int) : rlowI c (ts ++ [x]) = if in32 x && (decide (x ≤ c) && decide (rlowI c ts < x)) then x else rlowI c ts := by simp [rlowI]
theorem rhighI_snoc (d : Int) (ts : List Int) (x : Int) : rhighI d (ts ++ [x]) = if in32 x && (decide (d ≤ x) && decide (x < rhighI d ts)) then x else rhighI d ts := by simp [rhighI]
set_option maxRecDepth 100000 in
set_option maxHeartbeats 6400000 in
theorem rwidenI_any (e1 : Bool) (a b : Int) (e2 : Bool) (c d : Int) (ts : List Int) (hn : ts.length ≤ 9223372036854775807) (bk off cap : Nat) (w : World) (hts : ∀ j x, ts[j]? = some x → w.cell? ⟨bk, off + j, none⟩ = some (.int .i64 x)) :
    Calls Tryz.prog 61 #[.agg #[.bool e1, .int .i64 a, .int .i64 b], .agg #[.bool e2, .int .i64 c, .int .i64 d], .slice (some ⟨bk, off, none⟩) ts.length cap] w fun r w' => r = .returned (.agg #[.bool (rWidenI (e1, a, b) (e2, c, d) ts).1, .int .i64 (rWidenI (e1, a, b) (e2, c, d) ts).2.1, .int .i64 (rWidenI (e1, a, b) (e2, c, d) ts).2.2]) ∧ Below w.heap.size w w' := by
  obtain ⟨R, HR⟩ : ∃ R, Hid (rWidenI (e1, a, b) (e2, c, d) ts = R) := ⟨_, rfl⟩
  rw [HR.out]
  replace HR := HR.out
  unfold rWidenI at HR
  dsimp only at HR
  cases e1
  · cases e2
    · simp only [Bool.false_eq_true, if_false] at HR
      replace HR : Hid _ := HR
      go_enter Tryz.func61, Tryz.ntmps61
      go_upto_region 5 with fail
      obtain ⟨W, hW⟩ : ∃ W, (((w.alloc (.cells #[.bool false, .int .i64 a, .int .i64 b] 47)).alloc (.cells #[.bool false, .int .i64 c, .int .i64 d] 47)).alloc (.cells #[.bool false, .int .i64 0, .int .i64 0] 47)) = W := ⟨_, rfl⟩
      have a0 : W.cell? ⟨w.heap.size, 0, none⟩ = some (.bool false) := by rw [← hW]; simp [go_sem]
      have a1 : W.cell? ⟨w.heap.size, 1, none⟩ = some (.int .i64 a) := by rw [← hW]; simp [go_sem]
      have a2 : W.cell? ⟨w.heap.size, 2, none⟩ = some (.int .i64 b) := by rw [← hW]; simp [go_sem]
      have b0 : W.cell? ⟨w.heap.size + 1, 0, none⟩ = some (.bool false) := by rw [← hW]; simp [go_sem]
      have b1 : W.cell? ⟨w.heap.size + 1, 1, none⟩ = some (.int .i64 c) := by rw [← hW]; simp [go_sem]
      have b2 : W.cell? ⟨w.heap.size + 1, 2, none⟩ = some (.int .i64 d) := by rw [← hW]; simp [go_sem]
      have r0 : W.cell? ⟨w.heap.size + 1 + 1, 0, none⟩ = some (.bool false) := by rw [← hW]; simp [go_sem]
      have r1 : W.cell? ⟨w.heap.size + 1 + 1, 1, none⟩ = some (.int .i64 0) := by rw [← hW]; simp [go_sem]
      have r2 : W.cell? ⟨w.heap.size + 1 + 1, 2, none⟩ = some (.int .i64 0) := by rw [← hW]; simp [go_sem]
      have bW : Below w.heap.size w W := by rw [← hW]; exact (sp_new (sp_new (sp_new (Below.refl _ _) _) _) _)
      have zW : W.heap.size = w.heap.size + 3 := by rw [← hW]; simp
      have fz : ∀ j, W.frozen? ⟨w.heap.size + 1 + 1, j, none⟩ = false := by intro j; rw [← hW]; simp [go_sem]
      have fa : ∀ j, W.frozen? ⟨w.heap.size, j, none⟩ = false := by intro j; rw [← hW]; simp [go_sem]
      rw [hW]
      clear hW
      replace zW := Nat.le_of_eq zW.symm
      have ht : ∀ j x, ts[j]? = some x → W.cell? ⟨bk, off + j, none⟩ = some (.int .i64 x) := fun j x hj => sp_cell_on bW (hts j x hj)
      clear hts
      go_upto_region 7 with fail
      go_loop [7, 8, 9] (fun lo hi i => ∃ j : Nat, j ≤ ts.length ∧ lo = .int .i64 (rlowI c (ts.take j)) ∧ hi = .int .i64 (rhighI d (ts.take j)) ∧ i = .int .i64 j) (fun _ _ i => ts.length - (intOf i).toNat)
      case atStart => exact ⟨0, by omega, rfl, rfl, rfl⟩
      case round =>
        obtain ⟨j, hj, rfl, rfl, rfl⟩ := hrel
        by_cases cj : j < ts.length
        · have ci : (j : Int) < (ts.length : Int) := by omega
          obtain ⟨x, ex⟩ : ∃ x, ts[j]? = some x := ⟨_, List.getElem?_eq_getElem cj⟩
          have tx := ht j x ex
          have tk : ts.take (j + 1) = ts.take j ++ [x] := by rw [List.take_add_one, ex]; rfl
          have sl := rlowI_snoc c (ts.take j) x
          have sh := rhighI_snoc d (ts.take j) x
          rw [← tk] at sl sh
          replace sl : Hid _ := sl
          replace sh : Hid _ := sh
          generalize rlowI c (ts.take j) = lo at *
          generalize rhighI d (ts.take j) = hi at *
          clear ht ex tk HR
          by_cases i1 : x < -2147483648
          · have i2 : in32 x = false := decide_eq_false (by omega)
            go_wp2_with fail
            go_round
            case rel => exact ⟨j + 1, by omega, by rw [sl.out]; simp [*], by rw [sh.out]; simp [*], by go_num⟩
            case measure => simp [intOf]; omega
          by_cases i3 : 2147483647 < x
          · have i2 : in32 x = false := decide_eq_false (by omega)
            go_wp2_with fail
            go_round
            case rel => exact ⟨j + 1, by omega, by rw [sl.out]; simp [*], by rw [sh.out]; simp [*], by go_num⟩
            case measure => simp [intOf]; omega
          have i2 : in32 x = true := decide_eq_true (by omega)
          rcases q1 : decide (x ≤ c) with _ | _ <;> rcases q2 : decide (lo < x) with _ | _ <;> rcases q3 : decide (d ≤ x) with _ | _ <;> rcases q4 : decide (x < hi) with _ | _
          all_goals
            go_wp2_with fail
            go_round
            case rel => exact ⟨j + 1, by omega, by rw [sl.out]; simp [*], by rw [sh.out]; simp [*], by go_num⟩
            case measure => simp [intOf]; omega
        · have ci : ¬ (j : Int) < (ts.length : Int) := by omega
          rw [List.take_of_length_le (by omega)] at *
          replace HR := HR.out
          clear ht
          generalize rlowI c ts = lo at *
          generalize rhighI d ts = hi at *
          by_cases q1 : c < a
          · by_cases q2 : b < d
            · skip
              rw [if_pos q1, if_pos q2] at HR
              replace HR : Hid _ := HR
              go_wp2_with fail
              exact bodyPost_ret (v := .agg #[.bool false, .int .i64 lo, .int .i64 hi]) (by simp [results, Tryz.results61, go_sem, r0, r1, r2, a0, a1, a2]) rfl ⟨by rw [← HR.out], by (repeat (first | with_reducible exact Below.refl _ _ | with_reducible assumption | with_reducible refine sp_set1i ?_ (by omega) _))⟩
            · skip
              rw [if_pos q1, if_neg q2] at HR
              replace HR : Hid _ := HR
              go_wp2_with fail
              exact bodyPost_ret (v := .agg #[.bool false, .int .i64 lo, .int .i64 b]) (by simp [results, Tryz.results61, go_sem, r0, r1, r2, a0, a1, a2]) rfl ⟨by rw [← HR.out], by (repeat (first | with_reducible exact Below.refl _ _ | with_reducible assumption | with_reducible refine sp_set1i ?_ (by omega) _))⟩
          · by_cases q2 : b < d
            · skip
              rw [if_neg q1, if_pos q2] at HR
              replace HR : Hid _ := HR
              go_wp2_with fail
              exact bodyPost_ret (v := .agg #[.bool false, .int .i64 a, .int .i64 hi]) (by simp [results, Tryz.results61, go_sem, r0, r1, r2, a0, a1, a2]) rfl ⟨by rw [← HR.out], by (repeat (first | with_reducible exact Below.refl _ _ | with_reducible assumption | with_reducible refine sp_set1i ?_ (by omega) _))⟩
            · skip
              rw [if_neg q1, if_neg q2] at HR
              replace HR : Hid _ := HR
              go_wp2_with fail
              exact bodyPost_ret (v := .agg #[.bool false, .int .i64 a, .int .i64 b]) (by simp [results, Tryz.results61, go_sem, r0, r1, r2, a0, a1, a2]) rfl ⟨by rw [← HR.out], by (repeat (first | with_reducible exact Below.refl _ _ | with_reducible assumption | with_reducible refine sp_set1i ?_ (by omega) _))⟩
    · simp only [if_true, Bool.false_eq_true, if_false] at HR
      subst HR
      clear hts
      go_enter Tryz.func61, Tryz.ntmps61
      go_wp2_with (first
        | fail)
      exact bodyPost_ret (v := .agg #[.bool false, .int .i64 a, .int .i64 b]) (by simp [results, Tryz.results61, go_sem]) rfl ⟨rfl, by (repeat (first | with_reducible exact Below.refl _ _ | with_reducible assumption | with_reducible refine sp_new ?_ _ | with_reducible refine sp_set1i ?_ (by omega) _))⟩
  · simp only [if_true] at HR
    subst HR
    clear hts
    go_enter Tryz.func61, Tryz.ntmps61
    go_wp2_with (first
      | fail)
    exact bodyPost_ret (v := .agg #[.bool e2, .int .i64 c, .int .i64 d]) (by simp [results, Tryz.results61, go_sem]) rfl ⟨rfl, by (repeat (first | with_reducible exact Below.refl _ _ | with_reducible assumption | with_reducible refine sp_new ?_ _ | with_reducible refine sp_set1i ?_ (by omega) _))⟩
set_option maxRecDepth 100000 in
set_option maxHeartbeats 6400000 in
theorem rwidenN_any (e1 : Bool) (a b : Int) (e2 : Bool) (c d : Int) (w : World) :
    Calls Tryz.prog 61 #[.agg #[.bool e1, .int .i64 a, .int .i64 b], .agg #[.bool e2, .int .i64 c, .int .i64 d], .slice none 0 0] w fun r w' => r = .returned (.agg #[.bool (rWidenI (e1, a, b) (e2, c, d) []).1, .int .i64 (rWidenI (e1, a, b) (e2, c, d) []).2.1, .int .i64 (rWidenI (e1, a, b) (e2, c, d) []).2.2]) ∧ Below w.heap.size w w' := by
  obtain ⟨R, HR⟩ : ∃ R, Hid (rWidenI (e1, a, b) (e2, c, d) [] = R) := ⟨_, rfl⟩
  rw [HR.out]
  replace HR := HR.out
  unfold rWidenI at HR
  dsimp only at HR
  cases e1
  · cases e2
    · simp only [Bool.false_eq_true, if_false] at HR
      rw [show rlowI c [] = -2147483648 from rfl, show rhighI d [] = 2147483647 from rfl] at HR
      replace HR : Hid _ := HR
      go_enter Tryz.func61, Tryz.ntmps61
      go_upto_region 5 with fail
      obtain ⟨W, hW⟩ : ∃ W, (((w.alloc (.cells #[.bool false, .int .i64 a, .int .i64 b] 47)).alloc (.cells #[.bool false, .int .i64 c, .int .i64 d] 47)).alloc (.cells #[.bool false, .int .i64 0, .int .i64 0] 47)) = W := ⟨_, rfl⟩
      have a0 : W.cell? ⟨w.heap.size, 0, none⟩ = some (.bool false) := by rw [← hW]; simp [go_sem]
      have a1 : W.cell? ⟨w.heap.size, 1, none⟩ = some (.int .i64 a) := by rw [← hW]; simp [go_sem]
      have a2 : W.cell? ⟨w.heap.size, 2, none⟩ = some (.int .i64 b) := by rw [← hW]; simp [go_sem]
      have b0 : W.cell? ⟨w.heap.size + 1, 0, none⟩ = some (.bool false) := by rw [← hW]; simp [go_sem]
      have b1 : W.cell? ⟨w.heap.size + 1, 1, none⟩ = some (.int .i64 c) := by rw [← hW]; simp [go_sem]
      have b2 : W.cell? ⟨w.heap.size + 1, 2, none⟩ = some (.int .i64 d) := by rw [← hW]; simp [go_sem]
      have r0 : W.cell? ⟨w.heap.size + 1 + 1, 0, none⟩ = some (.bool false) := by rw [← hW]; simp [go_sem]
      have r1 : W.cell? ⟨w.heap.size + 1 + 1, 1, none⟩ = some (.int .i64 0) := by rw [← hW]; simp [go_sem]
      have r2 : W.cell? ⟨w.heap.size + 1 + 1, 2, none⟩ = some (.int .i64 0) := by rw [← hW]; simp [go_sem]
      have bW : Below w.heap.size w W := by rw [← hW]; exact (sp_new (sp_new (sp_new (Below.refl _ _) _) _) _)
      have zW : W.heap.size = w.heap.size + 3 := by rw [← hW]; simp
      have fz : ∀ j, W.frozen? ⟨w.heap.size + 1 + 1, j, none⟩ = false := by intro j; rw [← hW]; simp [go_sem]
      have fa : ∀ j, W.frozen? ⟨w.heap.size, j, none⟩ = false := by intro j; rw [← hW]; simp [go_sem]
      rw [hW]
      clear hW
      replace zW := Nat.le_of_eq zW.symm
      go_upto_region 7 with fail
      go_loop [7, 8, 9] (fun lo hi i => lo = .int .i64 (-2147483648) ∧ hi = .int .i64 2147483647 ∧ i = .int .i64 0) (fun _ _ _ => 0)
      case atStart => exact ⟨rfl, rfl, rfl⟩
      case round =>
        obtain ⟨rfl, rfl, rfl⟩ := hrel
        replace HR := HR.out
        by_cases q1 : c < a
        · by_cases q2 : b < d
          · skip
            rw [if_pos q1, if_pos q2] at HR
            replace HR : Hid _ := HR
            go_wp2_with fail
            exact bodyPost_ret (v := .agg #[.bool false, .int .i64 (-2147483648), .int .i64 2147483647]) (by simp [results, Tryz.results61, go_sem, r0, r1, r2, a0, a1, a2]) rfl ⟨by rw [← HR.out], by (repeat (first | with_reducible exact Below.refl _ _ | with_reducible assumption | with_reducible refine sp_set1i ?_ (by omega) _))⟩
          · skip
            rw [if_pos q1, if_neg q2] at HR
            replace HR : Hid _ := HR
            go_wp2_with fail
            exact bodyPost_ret (v := .agg #[.bool false, .int .i64 (-2147483648), .int .i64 b]) (by simp [results, Tryz.results61, go_sem, r0, r1, r2, a0, a1, a2]) rfl ⟨by rw [← HR.out], by (repeat (first | with_reducible exact Below.refl _ _ | with_reducible assumption | with_reducible refine sp_set1i ?_ (by omega) _))⟩
        · by_cases q2 : b < d
          · skip
            rw [if_neg q1, if_pos q2] at HR
            replace HR : Hid _ := HR
            go_wp2_with fail
            exact bodyPost_ret (v := .agg #[.bool false, .int .i64 a, .int .i64 2147483647]) (by simp [results, Tryz.results61, go_sem, r0, r1, r2, a0, a1, a2]) rfl ⟨by rw [← HR.out], by (repeat (first | with_reducible exact Below.refl _ _ | with_reducible assumption | with_reducible refine sp_set1i ?_ (by omega) _))⟩
          · skip
            rw [if_neg q1, if_neg q2] at HR
            replace HR : Hid _ := HR
            go_wp2_with fail
            exact bodyPost_ret (v := .agg #[.bool false, .int .i64 a, .int .i64 b]) (by simp [results, Tryz.results61, go_sem, r0, r1, r2, a0, a1, a2]) rfl ⟨by rw [← HR.out], by (repeat (first | with_reducible exact Below.refl _ _ | with_reducible assumption | with_reducible refine sp_set1i ?_ (by omega) _))⟩
    · simp only [if_true, Bool.false_eq_true, if_false] at HR
      subst HR
      go_enter Tryz.func61, Tryz.ntmps61
      go_wp2_with (first
        | fail)
      exact bodyPost_ret (v := .agg #[.bool false, .int .i64 a, .int .i64 b]) (by simp [results, Tryz.results61, go_sem]) rfl ⟨rfl, by (repeat (first | with_reducible exact Below.refl _ _ | with_reducible assumption | with_reducible refine sp_new ?_ _ | with_reducible refine sp_set1i ?_ (by omega) _))⟩
  · simp only [if_true] at HR
    subst HR
    go_enter Tryz.func61, Tryz.ntmps61
    go_wp2_with (first
      | fail)
    exact bodyPost_ret (v := .agg #[.bool e2, .int .i64 c, .int .i64 d]) (by simp [results, Tryz.results61, go_sem]) rfl ⟨rfl, by (repeat (first | with_reducible exact Below.refl _ _ | with_reducible assumption | with_reducible refine sp_new ?_ _ | with_reducible refine sp_set1i ?_ (by omega) _))⟩
end Go.Proofs.YthjoigkckgdcaaaGreat
