/- plumblineref08.clipped of floats. -/
import Derived.Test.YtgdknlnpfnifiaaGreatTG4
import Derived.Deep.DeepCutAuto
import Derived.BigQuiet
namespace Go.Proofs.YtgdknlnpfnifiaaGreat
open Go.RowKit
set_option linter.unusedVariables false
set_option linter.unusedSimpArgs false
theorem ra_dN {W : World} (n : Nat) : Below W.heap.size W (W.drewN n) := ⟨rfl, rfl, rfl, Nat.le_refl _, fun _ _ => rfl⟩
theorem ra_b {e r : Ending} {V w' : World} (h : e = r ∧ ∃ n, w' = V.drewN n) : e = r ∧ Below V.heap.size V w' := by
  obtain ⟨h1, n, rfl⟩ := h
  exact ⟨h1, ra_dN n⟩
theorem ra_e {e r : Ending} {V w' : World} (h : e = r ∧ w' = V) : e = r ∧ Below V.heap.size V w' := ⟨h.1, by rw [h.2]; exact Below.refl _ _⟩
theorem rbit_f2 (w : World) : Calls Tryz.prog 21 #[.int .i64 2] w fun e w' => e = .returned (.int .i64 2) ∧ Below w.heap.size w w' := by
  go_enter Tryz.func21, Tryz.ntmps21
  go_wp2_with fail
  go_ret
  exact ⟨rfl, Below.refl _ _⟩
def cloF (s : Bool) (x0 : Int) (xs : List Int) : Int := xs.foldl (fun acc x => if lessF s x acc then x else acc) x0
def chiF (s : Bool) (x0 : Int) (xs : List Int) : Int := xs.foldl (fun acc x => if lessF s acc x then x else acc) x0
def ctF (s : Bool) (xs : List Int) : Int := xs.foldl (fun acc x => if finF s x then acc else 2) 0
def clipF (s : Bool) (x0 : Int) (xs : List Int) : Bool × Int × Int := if lessF s (fI s - 1) (cloF s x0 xs) then (true, 0, 0) else if lessF s (chiF s x0 xs) (negF s (fI s - 1)) then (true, 0, 0) else rOfF s (if lessF s (cloF s x0 xs) (negF s (fI s - 1)) then negF s (fI s - 1) else cloF s x0 xs) (if lessF s (fI s - 1) (chiF s x0 xs) then fI s - 1 else chiF s x0 xs)
theorem cloF_snoc (s : Bool) (x0 : Int) (ts : List Int) (x : Int) : cloF s x0 (ts ++ [x]) = if lessF s x (cloF s x0 ts) then x else cloF s x0 ts := by unfold cloF; rw [List.foldl_append]; rfl
theorem chiF_snoc (s : Bool) (x0 : Int) (ts : List Int) (x : Int) : chiF s x0 (ts ++ [x]) = if lessF s (chiF s x0 ts) x then x else chiF s x0 ts := by unfold chiF; rw [List.foldl_append]; rfl
theorem ctF_snoc (s : Bool) (ts : List Int) (x : Int) : ctF s (ts ++ [x]) = if finF s x then ctF s ts else 2 := by unfold ctF; rw [List.foldl_append]; rfl
theorem cloF_word {s : Bool} : ∀ (xs : List Int) (x0 : Int), Word x0 → (∀ x ∈ xs, Word x) → Word (cloF s x0 xs)
  | [], x0, h, _ => h
  | x :: xs, x0, h, hx => cloF_word xs _ (by dsimp only; split; exact hx x (by simp); exact h) (fun y hy => hx y (by simp [hy]))
theorem chiF_word {s : Bool} : ∀ (xs : List Int) (x0 : Int), Word x0 → (∀ x ∈ xs, Word x) → Word (chiF s x0 xs)
  | [], x0, h, _ => h
  | x :: xs, x0, h, hx => chiF_word xs _ (by dsimp only; split; exact hx x (by simp); exact h) (fun y hy => hx y (by simp [hy]))
set_option maxRecDepth 100000 in
set_option maxHeartbeats 6400000 in
theorem rclipF (s : Bool) (x0 : Int) (ts : List Int) (h0 : ts[0]? = some x0) (hn : ts.length ≤ 100) (hw : ∀ x ∈ ts, Word x) (bk cap : Nat) (w : World) (hts : ∀ j x, ts[j]? = some x → w.cell? ⟨bk, j, none⟩ = some (.int .u64 x)) :
    Calls Tryz.prog 29 #[.int .i64 (fb s), .slice (some ⟨bk, 0, none⟩) ts.length cap] w fun e w' => e = .returned (.tuple #[.agg #[.bool (clipF s x0 ts).1, .int .u64 (clipF s x0 ts).2.1, .int .u64 (clipF s x0 ts).2.2], .int .i64 (ctF s ts)]) ∧ Below w.heap.size w w' := by
  have hw0 : Word x0 := hw x0 (List.mem_of_getElem? h0)
  have wl : Word (negF s (fI s - 1)) := by cases s <;> exact ⟨by decide +kernel, by decide +kernel⟩
  have wm : Word (fI s - 1) := by cases s <;> exact ⟨by decide +kernel, by decide +kernel⟩
  have KL : ∀ a b, Word a → Word b → ∀ V, Calls Tryz.prog 41 #[.int .i64 (fb s), .int .u64 a, .int .u64 b] V fun e w' => e = .returned (.bool (lessF s a b)) ∧ Below V.heap.size V w' := fun a b ha hb V => (rless_any s a b ha hb V).mono fun e w' h => ra_b h
  have KF : ∀ a, Word a → ∀ V, Calls Tryz.prog 43 #[.int .i64 (fb s), .int .u64 a] V fun e w' => e = .returned (.bool (finF s a)) ∧ Below V.heap.size V w' := fun a ha V => (rfinite_any s a ha V).mono fun e w' h => ra_b h
  have KM : ∀ V, Calls Tryz.prog 37 #[.int .i64 (fb s)] V fun e w' => e = .returned (.int .u64 (fI s - 1)) ∧ Below V.heap.size V w' := fun V => (rmost_any s V).mono fun e w' h => ra_e h
  have KT : ∀ V, Calls Tryz.prog 34 #[.int .i64 (fb s)] V fun e w' => e = .returned (.int .u64 (negF s (fI s - 1))) ∧ Below V.heap.size V w' := fun V => (rleastF s V).mono fun e w' h => ra_b h
  have KO : ∀ x y, Word x → Word y → ∀ V, Calls Tryz.prog 33 #[.int .i64 (fb s), .int .u64 x, .int .u64 y] V fun e w' => e = .returned (.agg #[.bool (rOfF s x y).1, .int .u64 (rOfF s x y).2.1, .int .u64 (rOfF s x y).2.2]) ∧ Below V.heap.size V w' := fun x y hx hy => rofF_any s x y hx hy
  obtain ⟨R, HR⟩ : ∃ R, Hid (clipF s x0 ts = R) := ⟨_, rfl⟩
  rw [HR.out]
  replace HR := HR.out
  unfold clipF at HR
  obtain ⟨tr, HT⟩ : ∃ t, Hid (ctF s ts = t) := ⟨_, rfl⟩
  rw [HT.out]
  have nb : ∀ V, Calls Tryz.prog 28 #[] V fun e w' => e = .returned (.agg #[.bool true, .int .u64 0, .int .u64 0]) ∧ Below V.heap.size V w' := fun V => (rnoneF V).mono fun e w' h => ⟨h.1, by rw [h.2]; exact sp_new (Below.refl _ _) _⟩
  have hb := rbit_f2
  have fl := @cloF_word s
  have fh := @chiF_word s
  replace HR : Hid _ := HR
  generalize fI s - 1 = MO at *
  generalize negF s MO = LE at *
  have lt : 0 < ts.length := by cases ts with | nil => simp at h0 | cons a l => simp
  have lt' : (0 : Int) < (ts.length : Int) := by omega
  generalize fb s = f at *
  go_enter Tryz.func29, Tryz.ntmps29
  go_upto_region 2 with fail
  obtain ⟨W, hW⟩ : ∃ W, (w.alloc (.cells #[.bool false, .int .u64 0, .int .u64 0] 26)) = W := ⟨_, rfl⟩
  have r0 : W.cell? ⟨w.heap.size, 0, none⟩ = some (.bool false) := by rw [← hW]; simp [go_sem]
  have r1 : W.cell? ⟨w.heap.size, 1, none⟩ = some (.int .u64 0) := by rw [← hW]; simp [go_sem]
  have r2 : W.cell? ⟨w.heap.size, 2, none⟩ = some (.int .u64 0) := by rw [← hW]; simp [go_sem]
  have bW : Below w.heap.size w W := by rw [← hW]; exact sp_new (Below.refl _ _) _
  have zW : w.heap.size < W.heap.size := by rw [← hW]; simp
  have fz : ∀ j, W.frozen? ⟨w.heap.size, j, none⟩ = false := by intro j; rw [← hW]; simp [go_sem]
  rw [hW]
  clear hW
  have ht : ∀ j x, ts[j]? = some x → W.cell? ⟨bk, j, none⟩ = some (.int .u64 x) := fun j x hj => sO bW (hts j x hj)
  clear hts
  have t0 := ht 0 x0 h0
  clear h0
  go_cut [7, 8] from 10 to 15 (fun s u X => ∃ W2 : World, W2 = X ∧ s = .int .u64 x0 ∧ u = .int .u64 x0 ∧ Below W.heap.size W X)
  case first =>
   clear ht
   go_quiet (fail)
   all_goals go_wp2_with fail
   all_goals go_meet
   all_goals exact ⟨_, rfl, rfl, rfl, by first | exact Below.refl _ _ | exact ra_dN _⟩
  case rest =>
   obtain ⟨W2, rfl, rfl, rfl, cX⟩ := hcut
   replace r0 := sO cX r0; replace r1 := sO cX r1; replace r2 := sO cX r2
   replace fz := fun j => (cX.frozen (p := ⟨w.heap.size, j, none⟩) (by first | (simp; done) | (simp; omega))).trans (fz j)
   replace ht : ∀ j x, ts[j]? = some x → W2.cell? ⟨bk, j, none⟩ = some (.int .u64 x) := fun j x hj => sO cX (ht j x hj)
   replace bW := sp_call bW cX
   replace zW := Nat.lt_of_lt_of_le zW cX.size
   clear cX t0
   go_wp2_with fail
   go_loopw [6, 7, 8, 9] (fun t lo hi i wr => ∃ (WR : World) (j : Nat), WR = wr ∧ j ≤ ts.length ∧ t = .int .i64 (ctF s (ts.take j)) ∧ lo = .int .u64 (cloF s x0 (ts.take j)) ∧ hi = .int .u64 (chiF s x0 (ts.take j)) ∧ i = .int .i64 j ∧ Below W2.heap.size W2 wr) (fun _ _ _ i _ => ts.length - (intOf i).toNat)
   case atStart => exact ⟨_, 0, rfl, by omega, rfl, rfl, rfl, rfl, Below.refl _ _⟩
   case round =>
     obtain ⟨WR, j, rfl, hj, rfl, rfl, rfl, rfl, cc⟩ := hrel
     by_cases cj : j < ts.length
     · have ci : (j : Int) < (ts.length : Int) := by omega
       obtain ⟨x, ex⟩ : ∃ x, ts[j]? = some x := ⟨_, List.getElem?_eq_getElem cj⟩
       have tx := sO cc (ht j x ex)
       have tk : ts.take (j + 1) = ts.take j ++ [x] := by rw [List.take_add_one, ex]; rfl
       have sl := cloF_snoc s x0 (ts.take j) x
       have sh := chiF_snoc s x0 (ts.take j) x
       have st := ctF_snoc s (ts.take j) x
       rw [← tk] at sl sh st
       have wx : Word x := hw x (List.mem_of_getElem? ex)
       have wlo := fl (ts.take j) x0 hw0 (fun y hy => hw y (List.mem_of_mem_take hy))
       have whi := fh (ts.take j) x0 hw0 (fun y hy => hw y (List.mem_of_mem_take hy))
       replace sl : Hid _ := sl
       replace sh : Hid _ := sh
       replace st : Hid _ := st
       generalize cloF s x0 (ts.take j) = lo at *
       generalize chiF s x0 (ts.take j) = hi at *
       generalize ctF s (ts.take j) = tq at *
       have k1 := KL x lo wx wlo
       have k2 := KL hi x whi wx
       have k3 := KF x wx
       clear ht ex tk HR HT KL KF KM KT KO nb fl fh hw hw0 wl wm r0 r1 r2 fz bW zW wlo whi
       generalize lessF s x lo = b1 at *
       generalize lessF s hi x = b2 at *
       generalize finF s x = b3 at *
       cases b1 <;> cases b2 <;> cases b3
       all_goals
         go_wp2_with (first
           | (go_at_call 41; with_reducible refine (k1 _).mono ?_; rintro e u1 ⟨rfl, g⟩; replace cc := sp_call cc g; replace tx := sO g tx; clear g k1)
           | (go_at_call 41; with_reducible refine (k2 _).mono ?_; rintro e u2 ⟨rfl, g⟩; replace cc := sp_call cc g; replace tx := sO g tx; clear g)
           | (go_at_call 43; with_reducible refine (k3 _).mono ?_; rintro e u3 ⟨rfl, g⟩; replace cc := sp_call cc g; replace tx := sO g tx; clear g)
           | (go_at_call 21; with_reducible refine (hb _).mono ?_; rintro e u4 ⟨rfl, g⟩; replace cc := sp_call cc g; replace tx := sO g tx; clear g)
           | fail)
         go_roundw
         all_goals first
           | (simp [intOf]; omega)
           | exact ⟨_, j + 1, rfl, by omega, by rw [st.out]; simp, by rw [sl.out]; simp, by rw [sh.out]; simp, by go_num, cc⟩
     · have ci : ¬ (j : Int) < (ts.length : Int) := by omega
       rw [List.take_of_length_le (by omega)] at *
       have wlo := fl ts x0 hw0 hw
       have whi := fh ts x0 hw0 hw
       replace HR := HR.out
       rw [HT.out] at *
       replace r0 := sO cc r0; replace r1 := sO cc r1; replace r2 := sO cc r2
       replace fz := fun j => (cc.frozen (p := ⟨w.heap.size, j, none⟩) (by first | (simp; done) | (simp; omega))).trans (fz j)
       replace bW := sp_call bW cc
       replace zW := Nat.lt_of_lt_of_le zW cc.size
       clear ht cc fl fh HT
       generalize cloF s x0 ts = lo at *
       generalize chiF s x0 ts = hi at *
       have k1 := KL MO lo wm wlo
       have k2 := KL hi LE whi wl
       have k3 := KL lo LE wlo wl
       have k4 := KL MO hi wm whi
       have wo1 : Word (if lessF s lo LE then LE else lo) := by split <;> assumption
       have wo2 : Word (if lessF s MO hi then MO else hi) := by split <;> assumption
       have ko := KO _ _ wo1 wo2
       clear KL KF KO wo1 wo2
       cases c1 : lessF s MO lo
       · rw [c1] at HR k1
         rw [if_neg (by simp)] at HR
         cases c2 : lessF s hi LE
         · rw [c2] at HR k2
           rw [if_neg (by simp)] at HR
           rw [HR] at ko
           clear HR
           cases c3 : lessF s lo LE <;> cases c4 : lessF s MO hi
           · rw [c3] at ko k3
             rw [c4] at ko k4
             simp only [Bool.false_eq_true, if_false, if_true] at ko
             go_wp2_with (first
               | (go_at_call 37; with_reducible refine (KM _).mono ?_; rintro e q1 ⟨rfl, g⟩; replace fz := fun j => (g.frozen (p := ⟨w.heap.size, j, none⟩) (by first | (simp; done) | (simp; omega))).trans (fz j); replace bW := sp_call bW g; replace zW := Nat.lt_of_lt_of_le zW g.size; replace r0 := sO g r0; replace r1 := sO g r1; replace r2 := sO g r2; clear g)
               | (go_at_call 34; with_reducible refine (KT _).mono ?_; rintro e q2 ⟨rfl, g⟩; replace fz := fun j => (g.frozen (p := ⟨w.heap.size, j, none⟩) (by first | (simp; done) | (simp; omega))).trans (fz j); replace bW := sp_call bW g; replace zW := Nat.lt_of_lt_of_le zW g.size; replace r0 := sO g r0; replace r1 := sO g r1; replace r2 := sO g r2; clear g)
               | (go_at_call 41; with_reducible refine (k1 _).mono ?_; rintro e q3 ⟨rfl, g⟩; replace fz := fun j => (g.frozen (p := ⟨w.heap.size, j, none⟩) (by first | (simp; done) | (simp; omega))).trans (fz j); replace bW := sp_call bW g; replace zW := Nat.lt_of_lt_of_le zW g.size; replace r0 := sO g r0; replace r1 := sO g r1; replace r2 := sO g r2; clear g; clear k1)
               | (go_at_call 41; with_reducible refine (k2 _).mono ?_; rintro e q4 ⟨rfl, g⟩; replace fz := fun j => (g.frozen (p := ⟨w.heap.size, j, none⟩) (by first | (simp; done) | (simp; omega))).trans (fz j); replace bW := sp_call bW g; replace zW := Nat.lt_of_lt_of_le zW g.size; replace r0 := sO g r0; replace r1 := sO g r1; replace r2 := sO g r2; clear g; clear k2)
               | (go_at_call 41; with_reducible refine (k3 _).mono ?_; rintro e q5 ⟨rfl, g⟩; replace fz := fun j => (g.frozen (p := ⟨w.heap.size, j, none⟩) (by first | (simp; done) | (simp; omega))).trans (fz j); replace bW := sp_call bW g; replace zW := Nat.lt_of_lt_of_le zW g.size; replace r0 := sO g r0; replace r1 := sO g r1; replace r2 := sO g r2; clear g; clear k3)
               | (go_at_call 41; with_reducible refine (k4 _).mono ?_; rintro e q6 ⟨rfl, g⟩; replace fz := fun j => (g.frozen (p := ⟨w.heap.size, j, none⟩) (by first | (simp; done) | (simp; omega))).trans (fz j); replace bW := sp_call bW g; replace zW := Nat.lt_of_lt_of_le zW g.size; replace r0 := sO g r0; replace r1 := sO g r1; replace r2 := sO g r2; clear g; clear k4)
               | (go_at_call 33; with_reducible refine (ko _).mono ?_; rintro e q7 ⟨rfl, g⟩; replace fz := fun j => (g.frozen (p := ⟨w.heap.size, j, none⟩) (by first | (simp; done) | (simp; omega))).trans (fz j); replace bW := sp_call bW g; replace zW := Nat.lt_of_lt_of_le zW g.size; replace r0 := sO g r0; replace r1 := sO g r1; replace r2 := sO g r2; clear g)
               | (go_at_call 28; with_reducible refine (nb _).mono ?_; rintro e q8 ⟨rfl, g⟩; replace fz := fun j => (g.frozen (p := ⟨w.heap.size, j, none⟩) (by first | (simp; done) | (simp; omega))).trans (fz j); replace bW := sp_call bW g; replace zW := Nat.lt_of_lt_of_le zW g.size; replace r0 := sO g r0; replace r1 := sO g r1; replace r2 := sO g r2; clear g)
               | fail)
             exact bodyPost_ret (v := .tuple #[.agg #[.bool R.1, .int .u64 R.2.1, .int .u64 R.2.2], .int .i64 tr]) (by simp [results, Tryz.results29, go_sem, r0, r1, r2]) rfl ⟨rfl, sp_set3 bW (by omega) _ _ _⟩
           · rw [c3] at ko k3
             rw [c4] at ko k4
             simp only [Bool.false_eq_true, if_false, if_true] at ko
             go_wp2_with (first
               | (go_at_call 37; with_reducible refine (KM _).mono ?_; rintro e q1 ⟨rfl, g⟩; replace fz := fun j => (g.frozen (p := ⟨w.heap.size, j, none⟩) (by first | (simp; done) | (simp; omega))).trans (fz j); replace bW := sp_call bW g; replace zW := Nat.lt_of_lt_of_le zW g.size; replace r0 := sO g r0; replace r1 := sO g r1; replace r2 := sO g r2; clear g)
               | (go_at_call 34; with_reducible refine (KT _).mono ?_; rintro e q2 ⟨rfl, g⟩; replace fz := fun j => (g.frozen (p := ⟨w.heap.size, j, none⟩) (by first | (simp; done) | (simp; omega))).trans (fz j); replace bW := sp_call bW g; replace zW := Nat.lt_of_lt_of_le zW g.size; replace r0 := sO g r0; replace r1 := sO g r1; replace r2 := sO g r2; clear g)
               | (go_at_call 41; with_reducible refine (k1 _).mono ?_; rintro e q3 ⟨rfl, g⟩; replace fz := fun j => (g.frozen (p := ⟨w.heap.size, j, none⟩) (by first | (simp; done) | (simp; omega))).trans (fz j); replace bW := sp_call bW g; replace zW := Nat.lt_of_lt_of_le zW g.size; replace r0 := sO g r0; replace r1 := sO g r1; replace r2 := sO g r2; clear g; clear k1)
               | (go_at_call 41; with_reducible refine (k2 _).mono ?_; rintro e q4 ⟨rfl, g⟩; replace fz := fun j => (g.frozen (p := ⟨w.heap.size, j, none⟩) (by first | (simp; done) | (simp; omega))).trans (fz j); replace bW := sp_call bW g; replace zW := Nat.lt_of_lt_of_le zW g.size; replace r0 := sO g r0; replace r1 := sO g r1; replace r2 := sO g r2; clear g; clear k2)
               | (go_at_call 41; with_reducible refine (k3 _).mono ?_; rintro e q5 ⟨rfl, g⟩; replace fz := fun j => (g.frozen (p := ⟨w.heap.size, j, none⟩) (by first | (simp; done) | (simp; omega))).trans (fz j); replace bW := sp_call bW g; replace zW := Nat.lt_of_lt_of_le zW g.size; replace r0 := sO g r0; replace r1 := sO g r1; replace r2 := sO g r2; clear g; clear k3)
               | (go_at_call 41; with_reducible refine (k4 _).mono ?_; rintro e q6 ⟨rfl, g⟩; replace fz := fun j => (g.frozen (p := ⟨w.heap.size, j, none⟩) (by first | (simp; done) | (simp; omega))).trans (fz j); replace bW := sp_call bW g; replace zW := Nat.lt_of_lt_of_le zW g.size; replace r0 := sO g r0; replace r1 := sO g r1; replace r2 := sO g r2; clear g; clear k4)
               | (go_at_call 33; with_reducible refine (ko _).mono ?_; rintro e q7 ⟨rfl, g⟩; replace fz := fun j => (g.frozen (p := ⟨w.heap.size, j, none⟩) (by first | (simp; done) | (simp; omega))).trans (fz j); replace bW := sp_call bW g; replace zW := Nat.lt_of_lt_of_le zW g.size; replace r0 := sO g r0; replace r1 := sO g r1; replace r2 := sO g r2; clear g)
               | (go_at_call 28; with_reducible refine (nb _).mono ?_; rintro e q8 ⟨rfl, g⟩; replace fz := fun j => (g.frozen (p := ⟨w.heap.size, j, none⟩) (by first | (simp; done) | (simp; omega))).trans (fz j); replace bW := sp_call bW g; replace zW := Nat.lt_of_lt_of_le zW g.size; replace r0 := sO g r0; replace r1 := sO g r1; replace r2 := sO g r2; clear g)
               | fail)
             exact bodyPost_ret (v := .tuple #[.agg #[.bool R.1, .int .u64 R.2.1, .int .u64 R.2.2], .int .i64 tr]) (by simp [results, Tryz.results29, go_sem, r0, r1, r2]) rfl ⟨rfl, sp_set3 bW (by omega) _ _ _⟩
           · rw [c3] at ko k3
             rw [c4] at ko k4
             simp only [Bool.false_eq_true, if_false, if_true] at ko
             go_wp2_with (first
               | (go_at_call 37; with_reducible refine (KM _).mono ?_; rintro e q1 ⟨rfl, g⟩; replace fz := fun j => (g.frozen (p := ⟨w.heap.size, j, none⟩) (by first | (simp; done) | (simp; omega))).trans (fz j); replace bW := sp_call bW g; replace zW := Nat.lt_of_lt_of_le zW g.size; replace r0 := sO g r0; replace r1 := sO g r1; replace r2 := sO g r2; clear g)
               | (go_at_call 34; with_reducible refine (KT _).mono ?_; rintro e q2 ⟨rfl, g⟩; replace fz := fun j => (g.frozen (p := ⟨w.heap.size, j, none⟩) (by first | (simp; done) | (simp; omega))).trans (fz j); replace bW := sp_call bW g; replace zW := Nat.lt_of_lt_of_le zW g.size; replace r0 := sO g r0; replace r1 := sO g r1; replace r2 := sO g r2; clear g)
               | (go_at_call 41; with_reducible refine (k1 _).mono ?_; rintro e q3 ⟨rfl, g⟩; replace fz := fun j => (g.frozen (p := ⟨w.heap.size, j, none⟩) (by first | (simp; done) | (simp; omega))).trans (fz j); replace bW := sp_call bW g; replace zW := Nat.lt_of_lt_of_le zW g.size; replace r0 := sO g r0; replace r1 := sO g r1; replace r2 := sO g r2; clear g; clear k1)
               | (go_at_call 41; with_reducible refine (k2 _).mono ?_; rintro e q4 ⟨rfl, g⟩; replace fz := fun j => (g.frozen (p := ⟨w.heap.size, j, none⟩) (by first | (simp; done) | (simp; omega))).trans (fz j); replace bW := sp_call bW g; replace zW := Nat.lt_of_lt_of_le zW g.size; replace r0 := sO g r0; replace r1 := sO g r1; replace r2 := sO g r2; clear g; clear k2)
               | (go_at_call 41; with_reducible refine (k3 _).mono ?_; rintro e q5 ⟨rfl, g⟩; replace fz := fun j => (g.frozen (p := ⟨w.heap.size, j, none⟩) (by first | (simp; done) | (simp; omega))).trans (fz j); replace bW := sp_call bW g; replace zW := Nat.lt_of_lt_of_le zW g.size; replace r0 := sO g r0; replace r1 := sO g r1; replace r2 := sO g r2; clear g; clear k3)
               | (go_at_call 41; with_reducible refine (k4 _).mono ?_; rintro e q6 ⟨rfl, g⟩; replace fz := fun j => (g.frozen (p := ⟨w.heap.size, j, none⟩) (by first | (simp; done) | (simp; omega))).trans (fz j); replace bW := sp_call bW g; replace zW := Nat.lt_of_lt_of_le zW g.size; replace r0 := sO g r0; replace r1 := sO g r1; replace r2 := sO g r2; clear g; clear k4)
               | (go_at_call 33; with_reducible refine (ko _).mono ?_; rintro e q7 ⟨rfl, g⟩; replace fz := fun j => (g.frozen (p := ⟨w.heap.size, j, none⟩) (by first | (simp; done) | (simp; omega))).trans (fz j); replace bW := sp_call bW g; replace zW := Nat.lt_of_lt_of_le zW g.size; replace r0 := sO g r0; replace r1 := sO g r1; replace r2 := sO g r2; clear g)
               | (go_at_call 28; with_reducible refine (nb _).mono ?_; rintro e q8 ⟨rfl, g⟩; replace fz := fun j => (g.frozen (p := ⟨w.heap.size, j, none⟩) (by first | (simp; done) | (simp; omega))).trans (fz j); replace bW := sp_call bW g; replace zW := Nat.lt_of_lt_of_le zW g.size; replace r0 := sO g r0; replace r1 := sO g r1; replace r2 := sO g r2; clear g)
               | fail)
             exact bodyPost_ret (v := .tuple #[.agg #[.bool R.1, .int .u64 R.2.1, .int .u64 R.2.2], .int .i64 tr]) (by simp [results, Tryz.results29, go_sem, r0, r1, r2]) rfl ⟨rfl, sp_set3 bW (by omega) _ _ _⟩
           · rw [c3] at ko k3
             rw [c4] at ko k4
             simp only [Bool.false_eq_true, if_false, if_true] at ko
             go_wp2_with (first
               | (go_at_call 37; with_reducible refine (KM _).mono ?_; rintro e q1 ⟨rfl, g⟩; replace fz := fun j => (g.frozen (p := ⟨w.heap.size, j, none⟩) (by first | (simp; done) | (simp; omega))).trans (fz j); replace bW := sp_call bW g; replace zW := Nat.lt_of_lt_of_le zW g.size; replace r0 := sO g r0; replace r1 := sO g r1; replace r2 := sO g r2; clear g)
               | (go_at_call 34; with_reducible refine (KT _).mono ?_; rintro e q2 ⟨rfl, g⟩; replace fz := fun j => (g.frozen (p := ⟨w.heap.size, j, none⟩) (by first | (simp; done) | (simp; omega))).trans (fz j); replace bW := sp_call bW g; replace zW := Nat.lt_of_lt_of_le zW g.size; replace r0 := sO g r0; replace r1 := sO g r1; replace r2 := sO g r2; clear g)
               | (go_at_call 41; with_reducible refine (k1 _).mono ?_; rintro e q3 ⟨rfl, g⟩; replace fz := fun j => (g.frozen (p := ⟨w.heap.size, j, none⟩) (by first | (simp; done) | (simp; omega))).trans (fz j); replace bW := sp_call bW g; replace zW := Nat.lt_of_lt_of_le zW g.size; replace r0 := sO g r0; replace r1 := sO g r1; replace r2 := sO g r2; clear g; clear k1)
               | (go_at_call 41; with_reducible refine (k2 _).mono ?_; rintro e q4 ⟨rfl, g⟩; replace fz := fun j => (g.frozen (p := ⟨w.heap.size, j, none⟩) (by first | (simp; done) | (simp; omega))).trans (fz j); replace bW := sp_call bW g; replace zW := Nat.lt_of_lt_of_le zW g.size; replace r0 := sO g r0; replace r1 := sO g r1; replace r2 := sO g r2; clear g; clear k2)
               | (go_at_call 41; with_reducible refine (k3 _).mono ?_; rintro e q5 ⟨rfl, g⟩; replace fz := fun j => (g.frozen (p := ⟨w.heap.size, j, none⟩) (by first | (simp; done) | (simp; omega))).trans (fz j); replace bW := sp_call bW g; replace zW := Nat.lt_of_lt_of_le zW g.size; replace r0 := sO g r0; replace r1 := sO g r1; replace r2 := sO g r2; clear g; clear k3)
               | (go_at_call 41; with_reducible refine (k4 _).mono ?_; rintro e q6 ⟨rfl, g⟩; replace fz := fun j => (g.frozen (p := ⟨w.heap.size, j, none⟩) (by first | (simp; done) | (simp; omega))).trans (fz j); replace bW := sp_call bW g; replace zW := Nat.lt_of_lt_of_le zW g.size; replace r0 := sO g r0; replace r1 := sO g r1; replace r2 := sO g r2; clear g; clear k4)
               | (go_at_call 33; with_reducible refine (ko _).mono ?_; rintro e q7 ⟨rfl, g⟩; replace fz := fun j => (g.frozen (p := ⟨w.heap.size, j, none⟩) (by first | (simp; done) | (simp; omega))).trans (fz j); replace bW := sp_call bW g; replace zW := Nat.lt_of_lt_of_le zW g.size; replace r0 := sO g r0; replace r1 := sO g r1; replace r2 := sO g r2; clear g)
               | (go_at_call 28; with_reducible refine (nb _).mono ?_; rintro e q8 ⟨rfl, g⟩; replace fz := fun j => (g.frozen (p := ⟨w.heap.size, j, none⟩) (by first | (simp; done) | (simp; omega))).trans (fz j); replace bW := sp_call bW g; replace zW := Nat.lt_of_lt_of_le zW g.size; replace r0 := sO g r0; replace r1 := sO g r1; replace r2 := sO g r2; clear g)
               | fail)
             exact bodyPost_ret (v := .tuple #[.agg #[.bool R.1, .int .u64 R.2.1, .int .u64 R.2.2], .int .i64 tr]) (by simp [results, Tryz.results29, go_sem, r0, r1, r2]) rfl ⟨rfl, sp_set3 bW (by omega) _ _ _⟩
         · rw [c2] at HR k2
           rw [if_pos rfl] at HR
           subst HR
           clear ko k3 k4
           go_wp2_with (first
             | (go_at_call 37; with_reducible refine (KM _).mono ?_; rintro e q1 ⟨rfl, g⟩; replace fz := fun j => (g.frozen (p := ⟨w.heap.size, j, none⟩) (by first | (simp; done) | (simp; omega))).trans (fz j); replace bW := sp_call bW g; replace zW := Nat.lt_of_lt_of_le zW g.size; replace r0 := sO g r0; replace r1 := sO g r1; replace r2 := sO g r2; clear g)
             | (go_at_call 34; with_reducible refine (KT _).mono ?_; rintro e q2 ⟨rfl, g⟩; replace fz := fun j => (g.frozen (p := ⟨w.heap.size, j, none⟩) (by first | (simp; done) | (simp; omega))).trans (fz j); replace bW := sp_call bW g; replace zW := Nat.lt_of_lt_of_le zW g.size; replace r0 := sO g r0; replace r1 := sO g r1; replace r2 := sO g r2; clear g)
             | (go_at_call 41; with_reducible refine (k1 _).mono ?_; rintro e q3 ⟨rfl, g⟩; replace fz := fun j => (g.frozen (p := ⟨w.heap.size, j, none⟩) (by first | (simp; done) | (simp; omega))).trans (fz j); replace bW := sp_call bW g; replace zW := Nat.lt_of_lt_of_le zW g.size; replace r0 := sO g r0; replace r1 := sO g r1; replace r2 := sO g r2; clear g; clear k1)
             | (go_at_call 41; with_reducible refine (k2 _).mono ?_; rintro e q4 ⟨rfl, g⟩; replace fz := fun j => (g.frozen (p := ⟨w.heap.size, j, none⟩) (by first | (simp; done) | (simp; omega))).trans (fz j); replace bW := sp_call bW g; replace zW := Nat.lt_of_lt_of_le zW g.size; replace r0 := sO g r0; replace r1 := sO g r1; replace r2 := sO g r2; clear g; clear k2)
             | (go_at_call 41; with_reducible refine (k3 _).mono ?_; rintro e q5 ⟨rfl, g⟩; replace fz := fun j => (g.frozen (p := ⟨w.heap.size, j, none⟩) (by first | (simp; done) | (simp; omega))).trans (fz j); replace bW := sp_call bW g; replace zW := Nat.lt_of_lt_of_le zW g.size; replace r0 := sO g r0; replace r1 := sO g r1; replace r2 := sO g r2; clear g; clear k3)
             | (go_at_call 41; with_reducible refine (k4 _).mono ?_; rintro e q6 ⟨rfl, g⟩; replace fz := fun j => (g.frozen (p := ⟨w.heap.size, j, none⟩) (by first | (simp; done) | (simp; omega))).trans (fz j); replace bW := sp_call bW g; replace zW := Nat.lt_of_lt_of_le zW g.size; replace r0 := sO g r0; replace r1 := sO g r1; replace r2 := sO g r2; clear g; clear k4)
             | (go_at_call 33; with_reducible refine (ko _).mono ?_; rintro e q7 ⟨rfl, g⟩; replace fz := fun j => (g.frozen (p := ⟨w.heap.size, j, none⟩) (by first | (simp; done) | (simp; omega))).trans (fz j); replace bW := sp_call bW g; replace zW := Nat.lt_of_lt_of_le zW g.size; replace r0 := sO g r0; replace r1 := sO g r1; replace r2 := sO g r2; clear g)
             | (go_at_call 28; with_reducible refine (nb _).mono ?_; rintro e q8 ⟨rfl, g⟩; replace fz := fun j => (g.frozen (p := ⟨w.heap.size, j, none⟩) (by first | (simp; done) | (simp; omega))).trans (fz j); replace bW := sp_call bW g; replace zW := Nat.lt_of_lt_of_le zW g.size; replace r0 := sO g r0; replace r1 := sO g r1; replace r2 := sO g r2; clear g)
             | fail)
           exact bodyPost_ret (v := .tuple #[.agg #[.bool true, .int .u64 0, .int .u64 0], .int .i64 tr]) (by simp [results, Tryz.results29, go_sem, r0, r1, r2]) rfl ⟨rfl, sp_set3 bW (by omega) _ _ _⟩
       · rw [c1] at HR k1
         rw [if_pos rfl] at HR
         subst HR
         clear ko k2 k3 k4
         go_wp2_with (first
           | (go_at_call 37; with_reducible refine (KM _).mono ?_; rintro e q1 ⟨rfl, g⟩; replace fz := fun j => (g.frozen (p := ⟨w.heap.size, j, none⟩) (by first | (simp; done) | (simp; omega))).trans (fz j); replace bW := sp_call bW g; replace zW := Nat.lt_of_lt_of_le zW g.size; replace r0 := sO g r0; replace r1 := sO g r1; replace r2 := sO g r2; clear g)
           | (go_at_call 34; with_reducible refine (KT _).mono ?_; rintro e q2 ⟨rfl, g⟩; replace fz := fun j => (g.frozen (p := ⟨w.heap.size, j, none⟩) (by first | (simp; done) | (simp; omega))).trans (fz j); replace bW := sp_call bW g; replace zW := Nat.lt_of_lt_of_le zW g.size; replace r0 := sO g r0; replace r1 := sO g r1; replace r2 := sO g r2; clear g)
           | (go_at_call 41; with_reducible refine (k1 _).mono ?_; rintro e q3 ⟨rfl, g⟩; replace fz := fun j => (g.frozen (p := ⟨w.heap.size, j, none⟩) (by first | (simp; done) | (simp; omega))).trans (fz j); replace bW := sp_call bW g; replace zW := Nat.lt_of_lt_of_le zW g.size; replace r0 := sO g r0; replace r1 := sO g r1; replace r2 := sO g r2; clear g; clear k1)
           | (go_at_call 41; with_reducible refine (k2 _).mono ?_; rintro e q4 ⟨rfl, g⟩; replace fz := fun j => (g.frozen (p := ⟨w.heap.size, j, none⟩) (by first | (simp; done) | (simp; omega))).trans (fz j); replace bW := sp_call bW g; replace zW := Nat.lt_of_lt_of_le zW g.size; replace r0 := sO g r0; replace r1 := sO g r1; replace r2 := sO g r2; clear g; clear k2)
           | (go_at_call 41; with_reducible refine (k3 _).mono ?_; rintro e q5 ⟨rfl, g⟩; replace fz := fun j => (g.frozen (p := ⟨w.heap.size, j, none⟩) (by first | (simp; done) | (simp; omega))).trans (fz j); replace bW := sp_call bW g; replace zW := Nat.lt_of_lt_of_le zW g.size; replace r0 := sO g r0; replace r1 := sO g r1; replace r2 := sO g r2; clear g; clear k3)
           | (go_at_call 41; with_reducible refine (k4 _).mono ?_; rintro e q6 ⟨rfl, g⟩; replace fz := fun j => (g.frozen (p := ⟨w.heap.size, j, none⟩) (by first | (simp; done) | (simp; omega))).trans (fz j); replace bW := sp_call bW g; replace zW := Nat.lt_of_lt_of_le zW g.size; replace r0 := sO g r0; replace r1 := sO g r1; replace r2 := sO g r2; clear g; clear k4)
           | (go_at_call 33; with_reducible refine (ko _).mono ?_; rintro e q7 ⟨rfl, g⟩; replace fz := fun j => (g.frozen (p := ⟨w.heap.size, j, none⟩) (by first | (simp; done) | (simp; omega))).trans (fz j); replace bW := sp_call bW g; replace zW := Nat.lt_of_lt_of_le zW g.size; replace r0 := sO g r0; replace r1 := sO g r1; replace r2 := sO g r2; clear g)
           | (go_at_call 28; with_reducible refine (nb _).mono ?_; rintro e q8 ⟨rfl, g⟩; replace fz := fun j => (g.frozen (p := ⟨w.heap.size, j, none⟩) (by first | (simp; done) | (simp; omega))).trans (fz j); replace bW := sp_call bW g; replace zW := Nat.lt_of_lt_of_le zW g.size; replace r0 := sO g r0; replace r1 := sO g r1; replace r2 := sO g r2; clear g)
           | fail)
         exact bodyPost_ret (v := .tuple #[.agg #[.bool true, .int .u64 0, .int .u64 0], .int .i64 tr]) (by simp [results, Tryz.results29, go_sem, r0, r1, r2]) rfl ⟨rfl, sp_set3 bW (by omega) _ _ _⟩
end Go.Proofs.YtgdknlnpfnifiaaGreat


