/- plumblineref08 of ints: Bit, intClipped, intReckon, intCorners, intWithout. -/
import Derived.Test.YthjoigkckgdcaaaGreatSpRj
import Derived.Test.YthjoigkckgdcaaaGreatSpTI
import Derived.Deep.DeepCutAuto
import Derived.BigQuiet
namespace Go.Proofs.YthjoigkckgdcaaaGreat
open Go.RowKit
set_option linter.unusedVariables false
set_option linter.unusedSimpArgs false
theorem ro_dN {W : World} (n : Nat) : Below W.heap.size W (W.drewN n) := by
  induction n with
  | zero => exact Below.refl _ _
  | succ n ih => exact ⟨ih.os, ih.tape, ih.output, ih.size, ih.block⟩
theorem rbit_i4 (w : World) : Calls Tryz.prog 71 #[.int .i64 4] w fun e w' => e = .returned (.int .i64 8) ∧ w' = w := by
  go_enter Tryz.func71, Tryz.ntmps71
  go_wp2_with fail
  go_ret
  exact ⟨rfl, rfl⟩
theorem rbit_i5 (w : World) : Calls Tryz.prog 71 #[.int .i64 5] w fun e w' => e = .returned (.int .i64 16) ∧ w' = w := by
  go_enter Tryz.func71, Tryz.ntmps71
  go_wp2_with fail
  go_ret
  exact ⟨rfl, rfl⟩
/-- The least, the greatest, and the trap of results; what is told of them. -/
def cloI (x0 : Int) (xs : List Int) : Int := xs.foldl (fun acc x => if x < acc then x else acc) x0
def chiI (x0 : Int) (xs : List Int) : Int := xs.foldl (fun acc x => if acc < x then x else acc) x0
def ctI (xs : List Int) : Int := xs.foldl (fun acc x => if in32 x then acc else 8) 0
def clipI (x0 : Int) (xs : List Int) : Bool × Int × Int := if 2147483647 < cloI x0 xs then (true, 0, 0) else if chiI x0 xs < -2147483648 then (true, 0, 0) else rOfI (if cloI x0 xs < -2147483648 then -2147483648 else cloI x0 xs) (if 2147483647 < chiI x0 xs then 2147483647 else chiI x0 xs)
theorem cloI_snoc (x0 : Int) (ts : List Int) (x : Int) : cloI x0 (ts ++ [x]) = if x < cloI x0 ts then x else cloI x0 ts := by unfold cloI; rw [List.foldl_append]; rfl
theorem chiI_snoc (x0 : Int) (ts : List Int) (x : Int) : chiI x0 (ts ++ [x]) = if chiI x0 ts < x then x else chiI x0 ts := by unfold chiI; rw [List.foldl_append]; rfl
theorem ctI_snoc (ts : List Int) (x : Int) : ctI (ts ++ [x]) = if in32 x then ctI ts else 8 := by unfold ctI; rw [List.foldl_append]; rfl
set_option maxRecDepth 100000 in
set_option maxHeartbeats 6400000 in
theorem rclip_any (x0 : Int) (ts : List Int) (h0 : ts[0]? = some x0) (hn : ts.length ≤ 100) (bk cap : Nat) (w : World) (hts : ∀ j x, ts[j]? = some x → w.cell? ⟨bk, j, none⟩ = some (.int .i64 x)) :
    Calls Tryz.prog 129 #[.slice (some ⟨bk, 0, none⟩) ts.length cap] w fun e w' => e = .returned (.tuple #[.agg #[.bool (clipI x0 ts).1, .int .i64 (clipI x0 ts).2.1, .int .i64 (clipI x0 ts).2.2], .int .i64 (ctI ts)]) ∧ Below w.heap.size w w' := by
  obtain ⟨R, HR⟩ : ∃ R, Hid (clipI x0 ts = R) := ⟨_, rfl⟩
  rw [HR.out]
  replace HR := HR.out
  unfold clipI at HR
  obtain ⟨tr, HT⟩ : ∃ t, Hid (ctI ts = t) := ⟨_, rfl⟩
  rw [HT.out]
  have nb : ∀ V, Calls Tryz.prog 113 #[] V fun e w' => e = .returned (.agg #[.bool true, .int .i64 0, .int .i64 0]) ∧ Below V.heap.size V w' := fun V => (rnoneI V).mono fun e w' h => ⟨h.1, by rw [h.2]; exact sp_new (Below.refl _ _) _⟩
  have hof := fun x y => rofI_any x y
  have hb := rbit_i4
  replace HR : Hid _ := HR
  have lt : 0 < ts.length := by cases ts with | nil => simp at h0 | cons a l => simp
  have lt' : (0 : Int) < (ts.length : Int) := by omega
  go_enter Tryz.func129, Tryz.ntmps129
  go_upto_region 2 with fail
  obtain ⟨W, hW⟩ : ∃ W, (w.alloc (.cells #[.bool false, .int .i64 0, .int .i64 0] 47)) = W := ⟨_, rfl⟩
  have r0 : W.cell? ⟨w.heap.size, 0, none⟩ = some (.bool false) := by rw [← hW]; simp [go_sem]
  have r1 : W.cell? ⟨w.heap.size, 1, none⟩ = some (.int .i64 0) := by rw [← hW]; simp [go_sem]
  have r2 : W.cell? ⟨w.heap.size, 2, none⟩ = some (.int .i64 0) := by rw [← hW]; simp [go_sem]
  have bW : Below w.heap.size w W := by rw [← hW]; exact sp_new (Below.refl _ _) _
  have zW : w.heap.size < W.heap.size := by rw [← hW]; simp
  have fz : ∀ j, W.frozen? ⟨w.heap.size, j, none⟩ = false := by intro j; rw [← hW]; simp [go_sem]
  rw [hW]
  clear hW
  have ht : ∀ j x, ts[j]? = some x → W.cell? ⟨bk, j, none⟩ = some (.int .i64 x) := fun j x hj => sp_cell_on bW (hts j x hj)
  clear hts
  have t0 := ht 0 x0 h0
  clear h0
  go_cut [5, 6] from 8 to 13 (fun s u X => ∃ W2 : World, W2 = X ∧ s = .int .i64 x0 ∧ u = .int .i64 x0 ∧ Below W.heap.size W X)
  case first =>
   clear ht
   go_quiet (fail)
   all_goals go_wp2_with fail
   all_goals go_meet
   all_goals exact ⟨_, rfl, rfl, rfl, by first | exact Below.refl _ _ | exact ro_dN _⟩
  case rest =>
   obtain ⟨W2, rfl, rfl, rfl, cX⟩ := hcut
   replace r0 := sp_cell_on cX r0; replace r1 := sp_cell_on cX r1; replace r2 := sp_cell_on cX r2
   replace fz := fun j => (cX.frozen (p := ⟨w.heap.size, j, none⟩) (by simp; omega)).trans (fz j)
   replace ht : ∀ j x, ts[j]? = some x → W2.cell? ⟨bk, j, none⟩ = some (.int .i64 x) := fun j x hj => sp_cell_on cX (ht j x hj)
   replace bW := sp_call bW cX
   replace zW := Nat.lt_of_lt_of_le zW cX.size
   clear cX t0
   go_upto_region 4 with fail
   go_loop [4, 5, 6, 7] (fun t lo hi i => ∃ j : Nat, j ≤ ts.length ∧ t = .int .i64 (ctI (ts.take j)) ∧ lo = .int .i64 (cloI x0 (ts.take j)) ∧ hi = .int .i64 (chiI x0 (ts.take j)) ∧ i = .int .i64 j) (fun _ _ _ i => ts.length - (intOf i).toNat)
   case atStart => exact ⟨0, by omega, rfl, rfl, rfl, rfl⟩
   case round =>
     obtain ⟨j, hj, rfl, rfl, rfl, rfl⟩ := hrel
     by_cases cj : j < ts.length
     · have ci : (j : Int) < (ts.length : Int) := by omega
       obtain ⟨x, ex⟩ : ∃ x, ts[j]? = some x := ⟨_, List.getElem?_eq_getElem cj⟩
       have tx := ht j x ex
       have tk : ts.take (j + 1) = ts.take j ++ [x] := by rw [List.take_add_one, ex]; rfl
       have sl := cloI_snoc x0 (ts.take j) x
       have sh := chiI_snoc x0 (ts.take j) x
       have st := ctI_snoc (ts.take j) x
       rw [← tk] at sl sh st
       replace sl : Hid _ := sl
       replace sh : Hid _ := sh
       replace st : Hid _ := st
       generalize cloI x0 (ts.take j) = lo at *
       generalize chiI x0 (ts.take j) = hi at *
       generalize ctI (ts.take j) = tq at *
       clear ht ex tk HR HT
       have hx : (x < -2147483648 ∧ in32 x = false) ∨ (¬ x < -2147483648 ∧ 2147483647 < x ∧ in32 x = false) ∨ (¬ x < -2147483648 ∧ ¬ 2147483647 < x ∧ in32 x = true) := by
         by_cases i1 : x < -2147483648
         · exact .inl ⟨i1, decide_eq_false (by omega)⟩
         · by_cases i3 : 2147483647 < x
           · exact .inr (.inl ⟨i1, i3, decide_eq_false (by omega)⟩)
           · exact .inr (.inr ⟨i1, i3, decide_eq_true (by omega)⟩)
       rcases hx with ⟨i1, i2⟩ | ⟨i1, i3, i2⟩ | ⟨i1, i3, i2⟩ <;> by_cases q1 : x < lo <;> by_cases q2 : hi < x
       all_goals
         go_wp2_with (first
           | (go_at_call 71; refine (hb _).mono ?_; rintro e w3 ⟨rfl, rfl⟩)
           | fail)
         go_round
         case rel => exact ⟨j + 1, by omega, by rw [st.out]; simp [*], by rw [sl.out]; first | rw [if_pos (by omega)] | rw [if_neg (by omega)], by rw [sh.out]; first | rw [if_pos (by omega)] | rw [if_neg (by omega)], by go_num⟩
         case measure => simp [intOf]; omega
     · have ci : ¬ (j : Int) < (ts.length : Int) := by omega
       rw [List.take_of_length_le (by omega)] at *
       replace HR := HR.out
       clear ht
       generalize cloI x0 ts = lo at *
       generalize chiI x0 ts = hi at *
       rw [HT.out] at *
       by_cases q1 : 2147483647 < lo
       · rw [if_pos q1] at HR
         subst HR
         clear hof
         go_wp2_with (first
           | (go_at_call 113; refine (nb _).mono ?_; rintro e w9 ⟨rfl, g⟩; replace fz := fun j => (g.frozen (p := ⟨w.heap.size, j, none⟩) zW).trans (fz j); replace r0 := sp_cell_on g r0; replace r1 := sp_cell_on g r1; replace r2 := sp_cell_on g r2; replace bW := sp_call bW g; clear g)
           | fail)
         exact bodyPost_ret (v := .tuple #[.agg #[.bool true, .int .i64 0, .int .i64 0], .int .i64 tr]) (by simp [results, Tryz.results129, go_sem, r0, r1, r2]) rfl ⟨rfl, sp_set3 bW (by omega) _ _ _⟩
       rw [if_neg q1] at HR
       by_cases q2 : hi < -2147483648
       · rw [if_pos q2] at HR
         subst HR
         clear hof
         go_wp2_with (first
           | (go_at_call 113; refine (nb _).mono ?_; rintro e w9 ⟨rfl, g⟩; replace fz := fun j => (g.frozen (p := ⟨w.heap.size, j, none⟩) zW).trans (fz j); replace r0 := sp_cell_on g r0; replace r1 := sp_cell_on g r1; replace r2 := sp_cell_on g r2; replace bW := sp_call bW g; clear g)
           | fail)
         exact bodyPost_ret (v := .tuple #[.agg #[.bool true, .int .i64 0, .int .i64 0], .int .i64 tr]) (by simp [results, Tryz.results129, go_sem, r0, r1, r2]) rfl ⟨rfl, sp_set3 bW (by omega) _ _ _⟩
       rw [if_neg q2] at HR
       by_cases q3 : lo < -2147483648 <;> by_cases q4 : 2147483647 < hi
       all_goals
         first | rw [if_pos q3] at HR | rw [if_neg q3] at HR
         first | rw [if_pos q4] at HR | rw [if_neg q4] at HR
       · have hof1 := hof (-2147483648) 2147483647
         rw [HR] at hof1
         clear HR hof
         go_wp2_with (first
           | (go_at_call 49; refine (hof1 _).mono ?_; rintro e w9 ⟨rfl, g⟩; replace fz := fun j => (g.frozen (p := ⟨w.heap.size, j, none⟩) zW).trans (fz j); replace r0 := sp_cell_on g r0; replace r1 := sp_cell_on g r1; replace r2 := sp_cell_on g r2; replace bW := sp_call bW g; clear g)
           | fail)
         exact bodyPost_ret (v := .tuple #[.agg #[.bool R.1, .int .i64 R.2.1, .int .i64 R.2.2], .int .i64 tr]) (by simp [results, Tryz.results129, go_sem, r0, r1, r2]) rfl ⟨rfl, sp_set3 bW (by omega) _ _ _⟩
       · have hof1 := hof (-2147483648) hi
         rw [HR] at hof1
         clear HR hof
         go_wp2_with (first
           | (go_at_call 49; refine (hof1 _).mono ?_; rintro e w9 ⟨rfl, g⟩; replace fz := fun j => (g.frozen (p := ⟨w.heap.size, j, none⟩) zW).trans (fz j); replace r0 := sp_cell_on g r0; replace r1 := sp_cell_on g r1; replace r2 := sp_cell_on g r2; replace bW := sp_call bW g; clear g)
           | fail)
         exact bodyPost_ret (v := .tuple #[.agg #[.bool R.1, .int .i64 R.2.1, .int .i64 R.2.2], .int .i64 tr]) (by simp [results, Tryz.results129, go_sem, r0, r1, r2]) rfl ⟨rfl, sp_set3 bW (by omega) _ _ _⟩
       · have hof1 := hof lo 2147483647
         rw [HR] at hof1
         clear HR hof
         go_wp2_with (first
           | (go_at_call 49; refine (hof1 _).mono ?_; rintro e w9 ⟨rfl, g⟩; replace fz := fun j => (g.frozen (p := ⟨w.heap.size, j, none⟩) zW).trans (fz j); replace r0 := sp_cell_on g r0; replace r1 := sp_cell_on g r1; replace r2 := sp_cell_on g r2; replace bW := sp_call bW g; clear g)
           | fail)
         exact bodyPost_ret (v := .tuple #[.agg #[.bool R.1, .int .i64 R.2.1, .int .i64 R.2.2], .int .i64 tr]) (by simp [results, Tryz.results129, go_sem, r0, r1, r2]) rfl ⟨rfl, sp_set3 bW (by omega) _ _ _⟩
       · have hof1 := hof lo hi
         rw [HR] at hof1
         clear HR hof
         go_wp2_with (first
           | (go_at_call 49; refine (hof1 _).mono ?_; rintro e w9 ⟨rfl, g⟩; replace fz := fun j => (g.frozen (p := ⟨w.heap.size, j, none⟩) zW).trans (fz j); replace r0 := sp_cell_on g r0; replace r1 := sp_cell_on g r1; replace r2 := sp_cell_on g r2; replace bW := sp_call bW g; clear g)
           | fail)
         exact bodyPost_ret (v := .tuple #[.agg #[.bool R.1, .int .i64 R.2.1, .int .i64 R.2.2], .int .i64 tr]) (by simp [results, Tryz.results129, go_sem, r0, r1, r2]) rfl ⟨rfl, sp_set3 bW (by omega) _ _ _⟩
end Go.Proofs.YthjoigkckgdcaaaGreat
