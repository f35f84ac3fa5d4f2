/- Texts of the proof, put together. -/
import Derived.Test.YthjoigkckgdcaaaGreatUG3
import Derived.Test.YthjoigkckgdcaaaGreatUSpTI
import Derived.Deep.DeepCutAuto
import Derived.BigQuiet
import Derived.Laws.Append
import Derived.Deep.Upon
namespace Go.Proofs.YthjoigkckgdcaaaGreat
open Go.RowKit
set_option linter.unusedVariables false
set_option linter.unusedSimpArgs false
theorem ro_dN {W : World} (n : Nat) : Below W.heap.size W (W.drewN n) := by
  induction n with
  | zero => exact Below.refl _ _
  | succ n ih => exact ⟨ih.os, ih.tape, ih.output, ih.size, ih.block⟩
theorem rbit_i4 (w : World) : Calls Tryz.prog 71 #[.int .i64 4] w fun e w' => e = .returned (.int .i64 8) ∧ w' = w := by
  go_enter Tryz.func71, Tryz.ntmps71
  go_wp2_with fail
  go_ret
  exact ⟨rfl, rfl⟩
theorem rbit_i5 (w : World) : Calls Tryz.prog 71 #[.int .i64 5] w fun e w' => e = .returned (.int .i64 16) ∧ w' = w := by
  go_enter Tryz.func71, Tryz.ntmps71
  go_wp2_with fail
  go_ret
  exact ⟨rfl, rfl⟩
def cloI (x0 : Int) (xs : List Int) : Int := xs.foldl (fun acc x => if x < acc then x else acc) x0
def chiI (x0 : Int) (xs : List Int) : Int := xs.foldl (fun acc x => if acc < x then x else acc) x0
def ctI (xs : List Int) : Int := xs.foldl (fun acc x => if in32 x then acc else 8) 0
def clipI (x0 : Int) (xs : List Int) : Bool × Int × Int := if 2147483647 < cloI x0 xs then (true, 0, 0) else if chiI x0 xs < -2147483648 then (true, 0, 0) else rOfI (if cloI x0 xs < -2147483648 then -2147483648 else cloI x0 xs) (if 2147483647 < chiI x0 xs then 2147483647 else chiI x0 xs)
theorem cloI_snoc (x0 : Int) (ts : List Int) (x : Int) : cloI x0 (ts ++ [x]) = if x < cloI x0 ts then x else cloI x0 ts := by unfold cloI; rw [List.foldl_append]; rfl
theorem chiI_snoc (x0 : Int) (ts : List Int) (x : Int) : chiI x0 (ts ++ [x]) = if chiI x0 ts < x then x else chiI x0 ts := by unfold chiI; rw [List.foldl_append]; rfl
theorem ctI_snoc (ts : List Int) (x : Int) : ctI (ts ++ [x]) = if in32 x then ctI ts else 8 := by unfold ctI; rw [List.foldl_append]; rfl
set_option maxRecDepth 100000 in
set_option maxHeartbeats 6400000 in
theorem rclip_any (x0 : Int) (ts : List Int) (h0 : ts[0]? = some x0) (hn : ts.length ≤ 100) (bk cap : Nat) (w : World) (hts : ∀ j x, ts[j]? = some x → w.cell? ⟨bk, j, none⟩ = some (.int .i64 x)) :
    Calls Tryz.prog 129 #[.slice (some ⟨bk, 0, none⟩) ts.length cap] w fun e w' => e = .returned (.tuple #[.agg #[.bool (clipI x0 ts).1, .int .i64 (clipI x0 ts).2.1, .int .i64 (clipI x0 ts).2.2], .int .i64 (ctI ts)]) ∧ Below w.heap.size w w' := by
  obtain ⟨R, HR⟩ : ∃ R, Hid (clipI x0 ts = R) := ⟨_, rfl⟩
  rw [HR.out]
  replace HR := HR.out
  unfold clipI at HR
  obtain ⟨tr, HT⟩ : ∃ t, Hid (ctI ts = t) := ⟨_, rfl⟩
  rw [HT.out]
  have nb : ∀ V, Calls Tryz.prog 113 #[] V fun e w' => e = .returned (.agg #[.bool true, .int .i64 0, .int .i64 0]) ∧ Below V.heap.size V w' := fun V => (rnoneI V).mono fun e w' h => ⟨h.1, by rw [h.2]; exact sp_new (Below.refl _ _) _⟩
  have hof := fun x y => rofI_any x y
  have hb := rbit_i4
  replace HR : Hid _ := HR
  have lt : 0 < ts.length := by cases ts with | nil => simp at h0 | cons a l => simp
  have lt' : (0 : Int) < (ts.length : Int) := by omega
  go_enter Tryz.func129, Tryz.ntmps129
  go_upto_region 2 with fail
  obtain ⟨W, hW⟩ : ∃ W, (w.alloc (.cells #[.bool false, .int .i64 0, .int .i64 0] 47)) = W := ⟨_, rfl⟩
  have r0 : W.cell? ⟨w.heap.size, 0, none⟩ = some (.bool false) := by rw [← hW]; simp [go_sem]
  have r1 : W.cell? ⟨w.heap.size, 1, none⟩ = some (.int .i64 0) := by rw [← hW]; simp [go_sem]
  have r2 : W.cell? ⟨w.heap.size, 2, none⟩ = some (.int .i64 0) := by rw [← hW]; simp [go_sem]
  have bW : Below w.heap.size w W := by rw [← hW]; exact sp_new (Below.refl _ _) _
  have zW : w.heap.size < W.heap.size := by rw [← hW]; simp
  have fz : ∀ j, W.frozen? ⟨w.heap.size, j, none⟩ = false := by intro j; rw [← hW]; simp [go_sem]
  rw [hW]
  clear hW
  have ht : ∀ j x, ts[j]? = some x → W.cell? ⟨bk, j, none⟩ = some (.int .i64 x) := fun j x hj => sO bW (hts j x hj)
  clear hts
  have t0 := ht 0 x0 h0
  clear h0
  go_cut [5, 6] from 8 to 13 (fun s u X => ∃ W2 : World, W2 = X ∧ s = .int .i64 x0 ∧ u = .int .i64 x0 ∧ Below W.heap.size W X)
  case first =>
   clear ht
   go_quiet (fail)
   all_goals go_wp2_with fail
   all_goals go_meet
   all_goals exact ⟨_, rfl, rfl, rfl, by first | exact Below.refl _ _ | exact ro_dN _⟩
  case rest =>
   obtain ⟨W2, rfl, rfl, rfl, cX⟩ := hcut
   replace r0 := sO cX r0; replace r1 := sO cX r1; replace r2 := sO cX r2
   replace fz := fun j => (cX.frozen (p := ⟨w.heap.size, j, none⟩) (by simp; omega)).trans (fz j)
   replace ht : ∀ j x, ts[j]? = some x → W2.cell? ⟨bk, j, none⟩ = some (.int .i64 x) := fun j x hj => sO cX (ht j x hj)
   replace bW := sp_call bW cX
   replace zW := Nat.lt_of_lt_of_le zW cX.size
   clear cX t0
   go_upto_region 4 with fail
   go_loop [4, 5, 6, 7] (fun t lo hi i => ∃ j : Nat, j ≤ ts.length ∧ t = .int .i64 (ctI (ts.take j)) ∧ lo = .int .i64 (cloI x0 (ts.take j)) ∧ hi = .int .i64 (chiI x0 (ts.take j)) ∧ i = .int .i64 j) (fun _ _ _ i => ts.length - (intOf i).toNat)
   case atStart => exact ⟨0, by omega, rfl, rfl, rfl, rfl⟩
   case round =>
     obtain ⟨j, hj, rfl, rfl, rfl, rfl⟩ := hrel
     by_cases cj : j < ts.length
     · have ci : (j : Int) < (ts.length : Int) := by omega
       obtain ⟨x, ex⟩ : ∃ x, ts[j]? = some x := ⟨_, List.getElem?_eq_getElem cj⟩
       have tx := ht j x ex
       have tk : ts.take (j + 1) = ts.take j ++ [x] := by rw [List.take_add_one, ex]; rfl
       have sl := cloI_snoc x0 (ts.take j) x
       have sh := chiI_snoc x0 (ts.take j) x
       have st := ctI_snoc (ts.take j) x
       rw [← tk] at sl sh st
       replace sl : Hid _ := sl
       replace sh : Hid _ := sh
       replace st : Hid _ := st
       generalize cloI x0 (ts.take j) = lo at *
       generalize chiI x0 (ts.take j) = hi at *
       generalize ctI (ts.take j) = tq at *
       clear ht ex tk HR HT
       have hx : (x < -2147483648 ∧ in32 x = false) ∨ (¬ x < -2147483648 ∧ 2147483647 < x ∧ in32 x = false) ∨ (¬ x < -2147483648 ∧ ¬ 2147483647 < x ∧ in32 x = true) := by
         by_cases i1 : x < -2147483648
         · exact .inl ⟨i1, decide_eq_false (by omega)⟩
         · by_cases i3 : 2147483647 < x
           · exact .inr (.inl ⟨i1, i3, decide_eq_false (by omega)⟩)
           · exact .inr (.inr ⟨i1, i3, decide_eq_true (by omega)⟩)
       rcases hx with ⟨i1, i2⟩ | ⟨i1, i3, i2⟩ | ⟨i1, i3, i2⟩ <;> by_cases q1 : x < lo <;> by_cases q2 : hi < x
       all_goals
         go_wp2_with (first
           | (go_at_call 71; refine (hb _).mono ?_; rintro e w3 ⟨rfl, rfl⟩)
           | fail)
         go_round
         case rel => exact ⟨j + 1, by omega, by rw [st.out]; simp [*], by rw [sl.out]; first | rw [if_pos (by omega)] | rw [if_neg (by omega)], by rw [sh.out]; first | rw [if_pos (by omega)] | rw [if_neg (by omega)], by go_num⟩
         case measure => simp [intOf]; omega
     · have ci : ¬ (j : Int) < (ts.length : Int) := by omega
       rw [List.take_of_length_le (by omega)] at *
       replace HR := HR.out
       clear ht
       generalize cloI x0 ts = lo at *
       generalize chiI x0 ts = hi at *
       rw [HT.out] at *
       by_cases q1 : 2147483647 < lo
       · rw [if_pos q1] at HR
         subst HR
         clear hof
         go_wp2_with (first
           | (go_at_call 113; refine (nb _).mono ?_; rintro e w9 ⟨rfl, g⟩; replace fz := fun j => (g.frozen (p := ⟨w.heap.size, j, none⟩) zW).trans (fz j); replace r0 := sO g r0; replace r1 := sO g r1; replace r2 := sO g r2; replace bW := sp_call bW g; clear g)
           | fail)
         exact bodyPost_ret (v := .tuple #[.agg #[.bool true, .int .i64 0, .int .i64 0], .int .i64 tr]) (by simp [results, Tryz.results129, go_sem, r0, r1, r2]) rfl ⟨rfl, sp_set3 bW (by omega) _ _ _⟩
       rw [if_neg q1] at HR
       by_cases q2 : hi < -2147483648
       · rw [if_pos q2] at HR
         subst HR
         clear hof
         go_wp2_with (first
           | (go_at_call 113; refine (nb _).mono ?_; rintro e w9 ⟨rfl, g⟩; replace fz := fun j => (g.frozen (p := ⟨w.heap.size, j, none⟩) zW).trans (fz j); replace r0 := sO g r0; replace r1 := sO g r1; replace r2 := sO g r2; replace bW := sp_call bW g; clear g)
           | fail)
         exact bodyPost_ret (v := .tuple #[.agg #[.bool true, .int .i64 0, .int .i64 0], .int .i64 tr]) (by simp [results, Tryz.results129, go_sem, r0, r1, r2]) rfl ⟨rfl, sp_set3 bW (by omega) _ _ _⟩
       rw [if_neg q2] at HR
       by_cases q3 : lo < -2147483648 <;> by_cases q4 : 2147483647 < hi
       all_goals
         first | rw [if_pos q3] at HR | rw [if_neg q3] at HR
         first | rw [if_pos q4] at HR | rw [if_neg q4] at HR
       · have hof1 := hof (-2147483648) 2147483647
         rw [HR] at hof1
         clear HR hof
         go_wp2_with (first
           | (go_at_call 49; refine (hof1 _).mono ?_; rintro e w9 ⟨rfl, g⟩; replace fz := fun j => (g.frozen (p := ⟨w.heap.size, j, none⟩) zW).trans (fz j); replace r0 := sO g r0; replace r1 := sO g r1; replace r2 := sO g r2; replace bW := sp_call bW g; clear g)
           | fail)
         exact bodyPost_ret (v := .tuple #[.agg #[.bool R.1, .int .i64 R.2.1, .int .i64 R.2.2], .int .i64 tr]) (by simp [results, Tryz.results129, go_sem, r0, r1, r2]) rfl ⟨rfl, sp_set3 bW (by omega) _ _ _⟩
       · have hof1 := hof (-2147483648) hi
         rw [HR] at hof1
         clear HR hof
         go_wp2_with (first
           | (go_at_call 49; refine (hof1 _).mono ?_; rintro e w9 ⟨rfl, g⟩; replace fz := fun j => (g.frozen (p := ⟨w.heap.size, j, none⟩) zW).trans (fz j); replace r0 := sO g r0; replace r1 := sO g r1; replace r2 := sO g r2; replace bW := sp_call bW g; clear g)
           | fail)
         exact bodyPost_ret (v := .tuple #[.agg #[.bool R.1, .int .i64 R.2.1, .int .i64 R.2.2], .int .i64 tr]) (by simp [results, Tryz.results129, go_sem, r0, r1, r2]) rfl ⟨rfl, sp_set3 bW (by omega) _ _ _⟩
       · have hof1 := hof lo 2147483647
         rw [HR] at hof1
         clear HR hof
         go_wp2_with (first
           | (go_at_call 49; refine (hof1 _).mono ?_; rintro e w9 ⟨rfl, g⟩; replace fz := fun j => (g.frozen (p := ⟨w.heap.size, j, none⟩) zW).trans (fz j); replace r0 := sO g r0; replace r1 := sO g r1; replace r2 := sO g r2; replace bW := sp_call bW g; clear g)
           | fail)
         exact bodyPost_ret (v := .tuple #[.agg #[.bool R.1, .int .i64 R.2.1, .int .i64 R.2.2], .int .i64 tr]) (by simp [results, Tryz.results129, go_sem, r0, r1, r2]) rfl ⟨rfl, sp_set3 bW (by omega) _ _ _⟩
       · have hof1 := hof lo hi
         rw [HR] at hof1
         clear HR hof
         go_wp2_with (first
           | (go_at_call 49; refine (hof1 _).mono ?_; rintro e w9 ⟨rfl, g⟩; replace fz := fun j => (g.frozen (p := ⟨w.heap.size, j, none⟩) zW).trans (fz j); replace r0 := sO g r0; replace r1 := sO g r1; replace r2 := sO g r2; replace bW := sp_call bW g; clear g)
           | fail)
         exact bodyPost_ret (v := .tuple #[.agg #[.bool R.1, .int .i64 R.2.1, .int .i64 R.2.2], .int .i64 tr]) (by simp [results, Tryz.results129, go_sem, r0, r1, r2]) rfl ⟨rfl, sp_set3 bW (by omega) _ _ _⟩
end Go.Proofs.YthjoigkckgdcaaaGreat

namespace Go.Proofs.YthjoigkckgdcaaaGreat
open Go.RowKit
set_option linter.unusedVariables false
set_option linter.unusedSimpArgs false
set_option maxRecDepth 100000 in
set_option maxHeartbeats 6400000 in
theorem rreck_add (x y : Int) (h : okI 8 x y) (w : World) : Calls Tryz.prog 212 #[.int .i64 8, .int .i64 x, .int .i64 y] w fun e w' => e = .returned (.int .i64 (gI 8 x y)) ∧ w' = w := by
  obtain ⟨h1, h2, h3, h4, h5⟩ := h
  clear h5
  go_enter Tryz.func212, Tryz.ntmps212
  go_wp2_with fail
  go_ret
  exact ⟨by simp [gI], rfl⟩
set_option maxRecDepth 100000 in
set_option maxHeartbeats 6400000 in
theorem rreck_sub (x y : Int) (h : okI 9 x y) (w : World) : Calls Tryz.prog 212 #[.int .i64 9, .int .i64 x, .int .i64 y] w fun e w' => e = .returned (.int .i64 (gI 9 x y)) ∧ w' = w := by
  obtain ⟨h1, h2, h3, h4, h5⟩ := h
  clear h5
  go_enter Tryz.func212, Tryz.ntmps212
  go_wp2_with fail
  go_ret
  exact ⟨by simp [gI], rfl⟩
set_option maxRecDepth 100000 in
set_option maxHeartbeats 6400000 in
theorem rreck_mul (x y : Int) (h : okI 10 x y) (w : World) : Calls Tryz.prog 212 #[.int .i64 10, .int .i64 x, .int .i64 y] w fun e w' => e = .returned (.int .i64 (gI 10 x y)) ∧ w' = w := by
  obtain ⟨h1, h2, h3, h4, h5⟩ := h
  obtain ⟨b1, b2⟩ := mulI_bound h1 h2 h3 h4
  clear h5
  go_enter Tryz.func212, Tryz.ntmps212
  go_wp2_with fail
  go_ret
  exact ⟨by simp [gI], rfl⟩
set_option maxRecDepth 100000 in
set_option maxHeartbeats 6400000 in
theorem rreck_div (x y : Int) (h : okI 11 x y) (w : World) : Calls Tryz.prog 212 #[.int .i64 11, .int .i64 x, .int .i64 y] w fun e w' => e = .returned (.int .i64 (gI 11 x y)) ∧ w' = w := by
  obtain ⟨h1, h2, h3, h4, h5⟩ := h
  have h6 : ¬ y = 0 := h5 rfl
  have h7 : (y == 0) = false := by simp [h6]
  have b : -2147483648 ≤ x.tdiv y ∧ x.tdiv y ≤ 2147483648 := by
    have a := Int.natAbs_tdiv_le_natAbs x y
    omega
  clear h5
  go_enter Tryz.func212, Tryz.ntmps212
  go_wp2_with fail
  go_ret
  exact ⟨by simp [gI], rfl⟩
theorem rreckI (op : Int) (hop : op = 8 ∨ op = 9 ∨ op = 10 ∨ op = 11) (x y : Int) (h : okI op x y) (w : World) : Calls Tryz.prog 212 #[.int .i64 op, .int .i64 x, .int .i64 y] w fun e w' => e = .returned (.int .i64 (gI op x y)) ∧ w' = w := by
  rcases hop with rfl | rfl | rfl | rfl
  · exact rreck_add x y h w
  · exact rreck_sub x y h w
  · exact rreck_mul x y h w
  · exact rreck_div x y h w
def RowI (w : World) (v : Value) (xs : List Int) : Prop := (v = .slice none 0 0 ∧ xs = []) ∨ ∃ b : Nat, v = .slice (some ⟨b, 0, none⟩) xs.length xs.length ∧ 0 < xs.length ∧ ∀ j x, xs[j]? = some x → w.cell? ⟨b, j, none⟩ = some (.int .i64 x)
theorem RowI.on {w V : World} {v : Value} {xs : List Int} (h : RowI w v xs) (g : Below w.heap.size w V) : RowI V v xs := by
  rcases h with h | ⟨b, h1, h2, h3⟩
  · exact Or.inl h
  · exact Or.inr ⟨b, h1, h2, fun j x hx => sO g (h3 j x hx)⟩
def RowR (w : World) (v : Value) (xs : List Int) : Prop := (v = .slice none 0 0 ∧ xs = []) ∨ ∃ b cap : Nat, v = .slice (some ⟨b, 0, none⟩) xs.length cap ∧ 0 < xs.length ∧ ∀ j x, xs[j]? = some x → w.cell? ⟨b, j, none⟩ = some (.int .i64 x)
theorem RowI.r {w : World} {v : Value} {xs : List Int} (h : RowI w v xs) : RowR w v xs := by
  rcases h with h | ⟨b, h1, h2, h3⟩
  · exact Or.inl h
  · exact Or.inr ⟨b, _, h1, h2, h3⟩
set_option maxRecDepth 100000 in
set_option maxHeartbeats 6400000 in
theorem rcornI (op : Int) (hop : op = 8 ∨ op = 9 ∨ op = 10 ∨ op = 11) (a b c d : Int) (h : ∀ x y, x = a ∨ x = b → y = c ∨ y = d → okI op x y) (w : World) : Calls Tryz.prog 130 #[.int .i64 op, .agg #[.bool false, .int .i64 a, .int .i64 b], .agg #[.bool false, .int .i64 c, .int .i64 d]] w fun e w' => ∃ v, e = .returned v ∧ RowI w' v [gI op a c, gI op a d, gI op b c, gI op b d] ∧ Below w.heap.size w w' := by
  have k0 := rreckI op hop a c (h _ _ (by simp) (by simp))
  have k1 := rreckI op hop a d (h _ _ (by simp) (by simp))
  have k2 := rreckI op hop b c (h _ _ (by simp) (by simp))
  have k3 := rreckI op hop b d (h _ _ (by simp) (by simp))
  generalize gI op a c = r0 at *
  generalize gI op a d = r1 at *
  generalize gI op b c = r2 at *
  generalize gI op b d = r3 at *
  clear h
  go_enter Tryz.func130, Tryz.ntmps130
  go_upto_region 3 with fail
  obtain ⟨W, hW⟩ : ∃ W, (w.alloc (.cells #[.bool false, .int .i64 a, .int .i64 b] 47)).alloc (.cells #[.bool false, .int .i64 c, .int .i64 d] 47) = W := ⟨_, rfl⟩
  have a0 : W.cell? ⟨w.heap.size, 0, none⟩ = some (.bool false) := by rw [← hW]; simp [go_sem]
  have a1 : W.cell? ⟨w.heap.size, 1, none⟩ = some (.int .i64 a) := by rw [← hW]; simp [go_sem]
  have a2 : W.cell? ⟨w.heap.size, 2, none⟩ = some (.int .i64 b) := by rw [← hW]; simp [go_sem]
  have b0 : W.cell? ⟨w.heap.size + 1, 0, none⟩ = some (.bool false) := by rw [← hW]; simp [go_sem]
  have b1 : W.cell? ⟨w.heap.size + 1, 1, none⟩ = some (.int .i64 c) := by rw [← hW]; simp [go_sem]
  have b2 : W.cell? ⟨w.heap.size + 1, 2, none⟩ = some (.int .i64 d) := by rw [← hW]; simp [go_sem]
  have bW : Below w.heap.size w W := by rw [← hW]; exact sp_new (sp_new (Below.refl _ _) _) _
  rw [hW]
  clear hW
  go_region_held3 (fun w' => w'.cell? ⟨w.heap.size, 0, none⟩ = some (.bool false) ∧ w'.cell? ⟨w.heap.size, 1, none⟩ = some (.int .i64 a) ∧ w'.cell? ⟨w.heap.size, 2, none⟩ = some (.int .i64 b) ∧ w'.cell? ⟨w.heap.size + 1, 0, none⟩ = some (.bool false) ∧ w'.cell? ⟨w.heap.size + 1, 1, none⟩ = some (.int .i64 c) ∧ w'.cell? ⟨w.heap.size + 1, 2, none⟩ = some (.int .i64 d)) (first | exact ⟨a0, a1, a2, b0, b1, b2⟩ | exact ⟨sO (sp_new (Below.refl _ _) _) a0, sO (sp_new (Below.refl _ _) _) a1, sO (sp_new (Below.refl _ _) _) a2, sO (sp_new (Below.refl _ _) _) b0, sO (sp_new (Below.refl _ _) _) b1, sO (sp_new (Below.refl _ _) _) b2⟩)
    (first
      | (go_at_call 212; refine (k0 _).mono ?_; rintro e u0 ⟨rfl, rfl⟩; clear k0)
      | (go_at_call 212; refine (k1 _).mono ?_; rintro e u1 ⟨rfl, rfl⟩; clear k1)
      | (go_at_call 212; refine (k2 _).mono ?_; rintro e u2 ⟨rfl, rfl⟩; clear k2)
      | (go_at_call 212; refine (k3 _).mono ?_; rintro e u3 ⟨rfl, rfl⟩; clear k3)
      | fail)
  all_goals go_wp2
  all_goals go_ret
  all_goals refine ⟨_, rfl, Or.inr ⟨_, rfl, by simp, ?_⟩, ?_⟩
  · rintro j x hj
    rcases j with _ | _ | _ | _ | j
    all_goals simp at hj
    all_goals subst hj
    all_goals simp [go_sem]
  · exact sp_new (⟨bW.os, bW.tape, bW.output, bW.size, bW.block⟩ : Below w.heap.size w W.drew) _
theorem rcornN (op : Int) (a b c d : Int) (w : World) : Calls Tryz.prog 130 #[.int .i64 op, .agg #[.bool false, .int .i64 a, .int .i64 b], .agg #[.bool true, .int .i64 c, .int .i64 d]] w fun e w' => e = .returned (.slice none 0 0) ∧ Below w.heap.size w w' := by
  go_enter Tryz.func130, Tryz.ntmps130
  go_wp2_with fail
  go_ret
  exact ⟨rfl, sp_new (sp_new (Below.refl _ _) _) _⟩
end Go.Proofs.YthjoigkckgdcaaaGreat

namespace Go.Proofs.YthjoigkckgdcaaaGreat
open Go.RowKit
set_option linter.unusedVariables false
set_option linter.unusedSimpArgs false
def toldI (xs : List Int) : (Bool × Int × Int) × Int := match xs with | [] => ((true, 0, 0), 0) | x :: _ => (clipI x xs, ctI xs)
theorem rclipR (xs : List Int) (hne : xs ≠ []) (hn : xs.length ≤ 100) (v : Value) (w : World) (h : RowR w v xs) :
    Calls Tryz.prog 129 #[v] w fun e w' => e = .returned (.tuple #[.agg #[.bool (toldI xs).1.1, .int .i64 (toldI xs).1.2.1, .int .i64 (toldI xs).1.2.2], .int .i64 (toldI xs).2]) ∧ Below w.heap.size w w' := by
  rcases h with ⟨_, h⟩ | ⟨b, cap, rfl, _, h⟩
  · exact absurd h hne
  · cases xs with
    | nil => exact absurd rfl hne
    | cons x l => exact rclip_any x (x :: l) rfl hn b cap w h
set_option maxRecDepth 100000 in
set_option maxHeartbeats 6400000 in
theorem rtwoN (op : Int) (e1 : Bool) (a b : Int) (e2 : Bool) (c d : Int) (h : e1 = true ∨ e2 = true ∨ op < 8 ∨ 11 < op) (w : World) :
    Calls Tryz.prog 63 #[.int .i64 op, .agg #[.bool e1, .int .i64 a, .int .i64 b], .agg #[.bool e2, .int .i64 c, .int .i64 d]] w fun e w' => e = .returned (.tuple #[.agg #[.bool true, .int .i64 0, .int .i64 0], .int .i64 0]) ∧ Below w.heap.size w w' := by
  cases e1
  rotate_left
  · clear h
    go_enter Tryz.func63, Tryz.ntmps63
    go_wp2_with (first
      | (go_at_call 113; refine (rnoneI _).mono ?_; rintro e w9 ⟨rfl, rfl⟩)
      | fail)
    exact bodyPost_ret (v := .tuple #[.agg #[.bool true, .int .i64 0, .int .i64 0], .int .i64 0]) (by simp [results, Tryz.results63, go_sem]) rfl ⟨rfl, by (repeat (first | with_reducible exact Below.refl _ _ | with_reducible assumption | with_reducible refine sp_new ?_ _ | with_reducible refine sp_set1i ?_ (by omega) _))⟩
  cases e2
  rotate_left
  · clear h
    go_enter Tryz.func63, Tryz.ntmps63
    go_wp2_with (first
      | (go_at_call 113; refine (rnoneI _).mono ?_; rintro e w9 ⟨rfl, rfl⟩)
      | fail)
    exact bodyPost_ret (v := .tuple #[.agg #[.bool true, .int .i64 0, .int .i64 0], .int .i64 0]) (by simp [results, Tryz.results63, go_sem]) rfl ⟨rfl, by (repeat (first | with_reducible exact Below.refl _ _ | with_reducible assumption | with_reducible refine sp_new ?_ _ | with_reducible refine sp_set1i ?_ (by omega) _))⟩
  rcases h with h | h | h | h
  · cases h
  · cases h
  · skip
    go_enter Tryz.func63, Tryz.ntmps63
    go_wp2_with (first
      | (go_at_call 113; refine (rnoneI _).mono ?_; rintro e w9 ⟨rfl, rfl⟩)
      | fail)
    exact bodyPost_ret (v := .tuple #[.agg #[.bool true, .int .i64 0, .int .i64 0], .int .i64 0]) (by simp [results, Tryz.results63, go_sem]) rfl ⟨rfl, by (repeat (first | with_reducible exact Below.refl _ _ | with_reducible assumption | with_reducible refine sp_new ?_ _ | with_reducible refine sp_set1i ?_ (by omega) _))⟩
  · have h8 : ¬ op < 8 := by omega
    go_enter Tryz.func63, Tryz.ntmps63
    go_wp2_with (first
      | (go_at_call 113; refine (rnoneI _).mono ?_; rintro e w9 ⟨rfl, rfl⟩)
      | fail)
    exact bodyPost_ret (v := .tuple #[.agg #[.bool true, .int .i64 0, .int .i64 0], .int .i64 0]) (by simp [results, Tryz.results63, go_sem]) rfl ⟨rfl, by (repeat (first | with_reducible exact Below.refl _ _ | with_reducible assumption | with_reducible refine sp_new ?_ _ | with_reducible refine sp_set1i ?_ (by omega) _))⟩
set_option maxRecDepth 100000 in
set_option maxHeartbeats 6400000 in
theorem rtwo3 (op : Int) (hop : op = 8 ∨ op = 9 ∨ op = 10) (a b c d : Int) (h : ∀ x y, x = a ∨ x = b → y = c ∨ y = d → okI op x y) (w : World) :
    Calls Tryz.prog 63 #[.int .i64 op, .agg #[.bool false, .int .i64 a, .int .i64 b], .agg #[.bool false, .int .i64 c, .int .i64 d]] w fun e w' => e = .returned (.tuple #[.agg #[.bool (toldI [gI op a c, gI op a d, gI op b c, gI op b d]).1.1, .int .i64 (toldI [gI op a c, gI op a d, gI op b c, gI op b d]).1.2.1, .int .i64 (toldI [gI op a c, gI op a d, gI op b c, gI op b d]).1.2.2], .int .i64 (toldI [gI op a c, gI op a d, gI op b c, gI op b d]).2]) ∧ Below w.heap.size w w' := by
  have k1 := rcornI op (by omega) a b c d h
  have k2 := rclipR [gI op a c, gI op a d, gI op b c, gI op b d] (by simp) (by simp)
  generalize (toldI [gI op a c, gI op a d, gI op b c, gI op b d]) = R at *
  obtain ⟨⟨me, ml, mh⟩, tr⟩ := R
  dsimp only at *
  have n11 : (op != 11) = true := by simp; omega
  have n8 : ¬ op < 8 := by omega
  have n12 : ¬ 11 < op := by omega
  have n13 : ¬ op = 11 := by omega
  clear h hop
  go_enter Tryz.func63, Tryz.ntmps63
  go_upto_region 1 with fail
  obtain ⟨W, hW⟩ : ∃ W, (((w.alloc (.cells #[.bool false, .int .i64 a, .int .i64 b] 47)).alloc (.cells #[.bool false, .int .i64 c, .int .i64 d] 47)).alloc (.cells #[.bool false, .int .i64 0, .int .i64 0] 47)) = W := ⟨_, rfl⟩
  have a0 : W.cell? ⟨w.heap.size, 0, none⟩ = some (.bool false) := by rw [← hW]; simp [go_sem]
  have a1 : W.cell? ⟨w.heap.size, 1, none⟩ = some (.int .i64 a) := by rw [← hW]; simp [go_sem]
  have a2 : W.cell? ⟨w.heap.size, 2, none⟩ = some (.int .i64 b) := by rw [← hW]; simp [go_sem]
  have b0 : W.cell? ⟨w.heap.size + 1, 0, none⟩ = some (.bool false) := by rw [← hW]; simp [go_sem]
  have b1 : W.cell? ⟨w.heap.size + 1, 1, none⟩ = some (.int .i64 c) := by rw [← hW]; simp [go_sem]
  have b2 : W.cell? ⟨w.heap.size + 1, 2, none⟩ = some (.int .i64 d) := by rw [← hW]; simp [go_sem]
  have r0 : W.cell? ⟨w.heap.size + 1 + 1, 0, none⟩ = some (.bool false) := by rw [← hW]; simp [go_sem]
  have r1 : W.cell? ⟨w.heap.size + 1 + 1, 1, none⟩ = some (.int .i64 0) := by rw [← hW]; simp [go_sem]
  have r2 : W.cell? ⟨w.heap.size + 1 + 1, 2, none⟩ = some (.int .i64 0) := by rw [← hW]; simp [go_sem]
  have bW : Below w.heap.size w W := by rw [← hW]; exact (sp_new (sp_new (sp_new (Below.refl _ _) _) _) _)
  have zW : w.heap.size + 3 ≤ W.heap.size := by rw [← hW]; simp
  have fz : ∀ j, W.frozen? ⟨w.heap.size + 1 + 1, j, none⟩ = false := by intro j; rw [← hW]; simp [go_sem]
  rw [hW]
  clear hW
  go_wp2_with (first
    | (go_at_call 130; refine (k1 _).mono ?_; rintro e v1 ⟨vv, rfl, hrow, g⟩; replace fz := fun j => (g.frozen (p := ⟨w.heap.size + 1 + 1, j, none⟩) (by first | (simp; done) | (simp; omega))).trans (fz j); replace bW := sp_call bW g; have zq := g.size; replace zW := Nat.le_trans zW zq; clear zq; replace a0 := sO g a0; replace a1 := sO g a1; replace a2 := sO g a2; replace b0 := sO g b0; replace b1 := sO g b1; replace b2 := sO g b2; replace r0 := sO g r0; replace r1 := sO g r1; replace r2 := sO g r2; clear g)
    | (go_at_call 129; refine (k2 _ _ hrow.r).mono ?_; rintro e v2 ⟨rfl, g⟩; replace fz := fun j => (g.frozen (p := ⟨w.heap.size + 1 + 1, j, none⟩) (by first | (simp; done) | (simp; omega))).trans (fz j); replace bW := sp_call bW g; have zq := g.size; replace zW := Nat.le_trans zW zq; clear zq; replace a0 := sO g a0; replace a1 := sO g a1; replace a2 := sO g a2; replace b0 := sO g b0; replace b1 := sO g b1; replace b2 := sO g b2; replace r0 := sO g r0; replace r1 := sO g r1; replace r2 := sO g r2; clear g)
    | fail)
  exact bodyPost_ret (v := .tuple #[.agg #[.bool me, .int .i64 ml, .int .i64 mh], .int .i64 tr]) (by simp [results, Tryz.results63, go_sem, r0, r1, r2]) rfl ⟨rfl, sp_set3 bW (by omega) _ _ _⟩
theorem wp_append_at {P : Program} {o : Oper} {a : Act} {w : World} {K : Act → World → Prop} {Q : Exit → Act → World → Prop} (s x : Operand) (t : TypeId) (ho : o.op = .call { callee := .builtin .append, args := #[s, x], argTypes := #[t, t] }) (v1 v2 : Value) (hs : a.eval s = v1) (hx : a.eval x = v2) (v' : Value) (w' : World)
    (hr : (Builtin.append_ #[t, t] o.type #[v1, v2]).run P w = .ok v' w') (h : K (a.put o.dst v') w') : o.wp P a w K Q := by
  unfold Oper.wp execOp
  simp only [ho, resolve, invoke, builtin, Sem.run_bind, Sem.run_pure, Result.andThen_ok, List.map_toArray, List.map_cons, List.map_nil, hs, hx, hr]
  exact h
theorem cell_newI (W : World) (c : Array Value) (t : TypeId) (j : Nat) : (W.alloc (.cells c t)).cell? ⟨W.heap.size, j, none⟩ = c[j]? := by
  have := World.alloc_heap_new W (.cells c t)
  simp only [World.cell?, this]
  rfl
theorem rq_info : (Tryz.prog.info? 2).map (fun i => (i.zero, i.size, i.bytes)) = some (some (.int .i64 0), 1, 8) := by kernel_rfl
theorem app_rows {v1 v2 : Value} {xs ys : List Int} (W : World) (h1 : RowI W v1 xs) (h2 : RowI W v2 ys) (hx : xs.length ≤ 4) (hy : ys.length ≤ 4) (ty : TypeId) :
    ∃ v' W', (Builtin.append_ #[52, 52] ty #[v1, v2]).run Tryz.prog W = .ok v' W' ∧ RowR W' v' (xs ++ ys) ∧ Below W.heap.size W W' := by
  obtain ⟨i0, hi, hz0, hz1, hz2⟩ := info_parts rq_info
  have ht := Tryz.underlying52
  have cv : ∀ (b : Nat) (zs : List Int), (∀ j x, zs[j]? = some x → W.cell? ⟨b, j, none⟩ = some (.int .i64 x)) → ∀ j u, (zs.map (Value.int .i64))[j]? = some u → W.cell? ((⟨b, 0, none⟩ : Addr).add j) = some u := by
    intro b zs h j u hu
    rw [List.getElem?_map] at hu
    obtain ⟨x, hx, rfl⟩ := Option.map_eq_some_iff.1 hu
    have := h j x hx
    have e : ((⟨b, 0, none⟩ : Addr).add j) = ⟨b, j, none⟩ := by simp [Addr.add]; try (intro h; exact h.symm)
    rw [e]
    exact this
  rcases h1 with ⟨rfl, rfl⟩ | ⟨b1, rfl, l1, c1⟩
  · rcases h2 with ⟨rfl, rfl⟩ | ⟨b2, rfl, l2, c2⟩
    · refine ⟨_, _, run_append_nothing W _ _ _ _ i0 ht hi none 0 0 (Nat.le_refl _) _ (Src.ofNil W ht 0), Or.inl ⟨rfl, rfl⟩, Below.refl _ _⟩
    · refine ⟨_, _, run_append_nil W _ _ _ i0 _ ht hi hz0 ⟨b2, 0, none⟩ ys.length ys.length (ys.map (Value.int .i64)) (by rw [hz1]; simp) (cv b2 ys c2) l2 (by omega) (by rw [hz2]; omega), Or.inr ⟨_, _, by simp; exact ⟨rfl, rfl⟩, by simpa using l2, ?_⟩, ?_⟩
      · intro j x hj
        have hl : j < ys.length := (List.getElem?_eq_some_iff.1 (by simpa using hj)).1
        rw [List.nil_append] at hj
        refine (cell_newI W.drew _ _ j).trans ?_
        rw [Array.getElem?_append_left (by simpa using hl)]
        simp [hj]
      · exact sp_new (⟨rfl, rfl, rfl, Nat.le_refl _, fun _ _ => rfl⟩ : Below W.heap.size W W.drew) _
  · rcases h2 with ⟨rfl, rfl⟩ | ⟨b2, rfl, l2, c2⟩
    · exact ⟨_, _, run_append_nothing W _ _ _ _ i0 ht hi (some ⟨b1, 0, none⟩) xs.length xs.length (Nat.le_refl _) _ (Src.ofNil W ht 0), Or.inr ⟨b1, _, by simp; exact rfl, by simpa using l1, by simpa using c1⟩, Below.refl _ _⟩
    · refine ⟨_, _, run_append_grow W _ _ _ i0 _ ht hi hz0 ⟨b1, 0, none⟩ xs.length xs.length (xs.map (Value.int .i64)) (by rw [hz1]; simp) (cv b1 xs c1) ⟨b2, 0, none⟩ ys.length ys.length (ys.map (Value.int .i64)) (by rw [hz1]; simp) (cv b2 ys c2) (by omega) (by omega) ?_, Or.inr ⟨_, _, by simp; exact ⟨rfl, rfl⟩, by simp; omega, ?_⟩, ?_⟩
      · rw [hz2]
        have : Builtin.nextslicecap (xs.length + ys.length) xs.length ≤ 16 := by
          unfold Builtin.nextslicecap
          split <;> try split
          all_goals omega
        omega
      · intro j x hj
        have hl : j < xs.length + ys.length := by have := (List.getElem?_eq_some_iff.1 hj).1; simpa using this
        refine (cell_newI W.drew _ _ j).trans ?_
        rw [Array.getElem?_append_left (by simpa using hl)]
        have : (List.map (Value.int .i64) (xs ++ ys))[j]? = some (.int .i64 x) := by rw [List.getElem?_map, hj]; rfl
        simpa using this
      · exact sp_new (⟨rfl, rfl, rfl, Nat.le_refl _, fun _ _ => rfl⟩ : Below W.heap.size W W.drew) _
def cornL (op a b : Int) (p : Bool × Int × Int) : List Int := if p.1 then [] else [gI op a p.2.1, gI op a p.2.2, gI op b p.2.1, gI op b p.2.2]
theorem rcorn_any (op : Int) (hop : op = 8 ∨ op = 9 ∨ op = 10 ∨ op = 11) (a b : Int) (p : Bool × Int × Int) (h : p.1 = false → ∀ x y, x = a ∨ x = b → y = p.2.1 ∨ y = p.2.2 → okI op x y) (w : World) : Calls Tryz.prog 130 #[.int .i64 op, .agg #[.bool false, .int .i64 a, .int .i64 b], .agg #[.bool p.1, .int .i64 p.2.1, .int .i64 p.2.2]] w fun e w' => ∃ v, e = .returned v ∧ RowI w' v (cornL op a b p) ∧ Below w.heap.size w w' := by
  obtain ⟨e, l, r⟩ := p
  unfold cornL
  cases e
  · exact rcornI op hop a b l r (h rfl) w
  · exact (rcornN op a b l r w).mono fun e w' h => ⟨_, h.1, Or.inl ⟨rfl, rfl⟩, h.2⟩
set_option maxRecDepth 100000 in
set_option maxHeartbeats 6400000 in
theorem rtwod (a b c d : Int) (m1 m2 : Bool × Int × Int) (zr : Bool) (ko1 : ∀ V, Calls Tryz.prog 49 #[.int .i64 (-2147483648), .int .i64 (-1)] V fun e w' => e = .returned (.agg #[.bool false, .int .i64 (-2147483648), .int .i64 (-1)]) ∧ Below V.heap.size V w') (ko2 : ∀ V, Calls Tryz.prog 49 #[.int .i64 1, .int .i64 2147483647] V fun e w' => e = .returned (.agg #[.bool false, .int .i64 1, .int .i64 2147483647]) ∧ Below V.heap.size V w')
    (km1 : ∀ V, Calls Tryz.prog 55 #[.agg #[.bool false, .int .i64 c, .int .i64 d], .agg #[.bool false, .int .i64 (-2147483648), .int .i64 (-1)]] V fun e w' => e = .returned (.agg #[.bool m1.1, .int .i64 m1.2.1, .int .i64 m1.2.2]) ∧ Below V.heap.size V w') (km2 : ∀ V, Calls Tryz.prog 55 #[.agg #[.bool false, .int .i64 c, .int .i64 d], .agg #[.bool false, .int .i64 1, .int .i64 2147483647]] V fun e w' => e = .returned (.agg #[.bool m2.1, .int .i64 m2.2.1, .int .i64 m2.2.2]) ∧ Below V.heap.size V w')
    (kc1 : ∀ V, Calls Tryz.prog 130 #[.int .i64 11, .agg #[.bool false, .int .i64 a, .int .i64 b], .agg #[.bool m1.1, .int .i64 m1.2.1, .int .i64 m1.2.2]] V fun e w' => ∃ v, e = .returned v ∧ RowI w' v (cornL 11 a b m1) ∧ Below V.heap.size V w') (kc2 : ∀ V, Calls Tryz.prog 130 #[.int .i64 11, .agg #[.bool false, .int .i64 a, .int .i64 b], .agg #[.bool m2.1, .int .i64 m2.2.1, .int .i64 m2.2.2]] V fun e w' => ∃ v, e = .returned v ∧ RowI w' v (cornL 11 a b m2) ∧ Below V.heap.size V w')
    (kh : ∀ V, Calls Tryz.prog 53 #[.agg #[.bool false, .int .i64 c, .int .i64 d], .int .i64 0] V fun e w' => e = .returned (.bool zr) ∧ Below V.heap.size V w') (w : World) :
    Calls Tryz.prog 63 #[.int .i64 11, .agg #[.bool false, .int .i64 a, .int .i64 b], .agg #[.bool false, .int .i64 c, .int .i64 d]] w fun e w' => e = .returned (.tuple #[.agg #[.bool (toldI (cornL 11 a b m1 ++ cornL 11 a b m2)).1.1, .int .i64 (toldI (cornL 11 a b m1 ++ cornL 11 a b m2)).1.2.1, .int .i64 (toldI (cornL 11 a b m1 ++ cornL 11 a b m2)).1.2.2], .int .i64 (if (cornL 11 a b m1 ++ cornL 11 a b m2) = [] then (if zr then 16 else 0) else bits BinOp.or IntKind.i64 (if zr then 16 else 0) (toldI (cornL 11 a b m1 ++ cornL 11 a b m2)).2)]) ∧ Below w.heap.size w w' := by
  have hl1 : (cornL 11 a b m1).length ≤ 4 := by unfold cornL; split <;> simp
  have hl2 : (cornL 11 a b m2).length ≤ 4 := by unfold cornL; split <;> simp
  have k2 : ∀ (h : (cornL 11 a b m1 ++ cornL 11 a b m2) ≠ []) (v : Value) (V : World), RowR V v (cornL 11 a b m1 ++ cornL 11 a b m2) → _ := fun h v V r => rclipR (cornL 11 a b m1 ++ cornL 11 a b m2) h (by simp; omega) v V r
  have kb := rbit_i5
  have hnil : toldI [] = ((true, 0, 0), 0) := rfl
  generalize cornL 11 a b m1 = L1 at *
  generalize cornL 11 a b m2 = L2 at *
  obtain ⟨m1e, m1l, m1h⟩ := m1
  obtain ⟨m2e, m2l, m2h⟩ := m2
  dsimp only at *
  obtain ⟨T, HT⟩ : ∃ T : Int, Hid ((if zr then 16 else 0) = T) := ⟨_, rfl⟩
  rw [HT.out]
  obtain ⟨R, HR⟩ : ∃ R, Hid (toldI (L1 ++ L2) = R) := ⟨_, rfl⟩
  rw [HR.out] at k2 ⊢
  obtain ⟨⟨me, ml, mh⟩, tr⟩ := R
  dsimp only at *
  obtain ⟨FT, HF⟩ : ∃ F, Hid ((if L1 ++ L2 = [] then T else bits BinOp.or IntKind.i64 T tr) = F) := ⟨_, rfl⟩
  rw [HF.out]
  go_enter Tryz.func63, Tryz.ntmps63
  go_upto_region 1 with fail
  obtain ⟨W, hW⟩ : ∃ W, (((w.alloc (.cells #[.bool false, .int .i64 a, .int .i64 b] 47)).alloc (.cells #[.bool false, .int .i64 c, .int .i64 d] 47)).alloc (.cells #[.bool false, .int .i64 0, .int .i64 0] 47)) = W := ⟨_, rfl⟩
  have a0 : W.cell? ⟨w.heap.size, 0, none⟩ = some (.bool false) := by rw [← hW]; simp [go_sem]
  have a1 : W.cell? ⟨w.heap.size, 1, none⟩ = some (.int .i64 a) := by rw [← hW]; simp [go_sem]
  have a2 : W.cell? ⟨w.heap.size, 2, none⟩ = some (.int .i64 b) := by rw [← hW]; simp [go_sem]
  have b0 : W.cell? ⟨w.heap.size + 1, 0, none⟩ = some (.bool false) := by rw [← hW]; simp [go_sem]
  have b1 : W.cell? ⟨w.heap.size + 1, 1, none⟩ = some (.int .i64 c) := by rw [← hW]; simp [go_sem]
  have b2 : W.cell? ⟨w.heap.size + 1, 2, none⟩ = some (.int .i64 d) := by rw [← hW]; simp [go_sem]
  have r0 : W.cell? ⟨w.heap.size + 1 + 1, 0, none⟩ = some (.bool false) := by rw [← hW]; simp [go_sem]
  have r1 : W.cell? ⟨w.heap.size + 1 + 1, 1, none⟩ = some (.int .i64 0) := by rw [← hW]; simp [go_sem]
  have r2 : W.cell? ⟨w.heap.size + 1 + 1, 2, none⟩ = some (.int .i64 0) := by rw [← hW]; simp [go_sem]
  have bW : Below w.heap.size w W := by rw [← hW]; exact (sp_new (sp_new (sp_new (Below.refl _ _) _) _) _)
  have zW : w.heap.size + 3 ≤ W.heap.size := by rw [← hW]; simp
  have fz : ∀ j, W.frozen? ⟨w.heap.size + 1 + 1, j, none⟩ = false := by intro j; rw [← hW]; simp [go_sem]
  rw [hW]
  clear hW
  cases zr
  · have HT2 := HT.out
    simp at HT2
    subst HT2
    go_upto_region 8 with (first
      | (go_at_call 53; refine (kh _).mono ?_; rintro e u1 ⟨rfl, g⟩; replace fz := fun j => (g.frozen (p := ⟨w.heap.size + 1 + 1, j, none⟩) (by first | (simp; done) | (simp; omega))).trans (fz j); replace bW := sp_call bW g; have zq := g.size; replace zW := Nat.le_trans zW zq; clear zq; replace a0 := sO g a0; replace a1 := sO g a1; replace a2 := sO g a2; replace b0 := sO g b0; replace b1 := sO g b1; replace b2 := sO g b2; replace r0 := sO g r0; replace r1 := sO g r1; replace r2 := sO g r2; clear g)
      | (go_at_call 71; refine (kb _).mono ?_; rintro e u2 ⟨rfl, rfl⟩)
      | fail)
    clear kh kb HT
    generalize hWv : u1 = W at *
    clear hWv
    have hall : ∀ X9, Below W.heap.size W X9 → (X9.cell? ⟨w.heap.size, 0, none⟩ = some (.bool false) ∧ X9.cell? ⟨w.heap.size, 1, none⟩ = some (.int .i64 a) ∧ X9.cell? ⟨w.heap.size, 2, none⟩ = some (.int .i64 b) ∧ X9.cell? ⟨w.heap.size + 1, 0, none⟩ = some (.bool false) ∧ X9.cell? ⟨w.heap.size + 1, 1, none⟩ = some (.int .i64 c) ∧ X9.cell? ⟨w.heap.size + 1, 2, none⟩ = some (.int .i64 d)) := fun X9 cc => ⟨sO cc a0, sO cc a1, sO cc a2, sO cc b0, sO cc b1, sO cc b2⟩
    have cc : Below W.heap.size W W.drew := (Below.refl _ _).drew
    go_cut [9] from 39 to 51 (fun s X => ∃ (W3 : World), W3 = X ∧ RowR X s (L1 ++ L2) ∧ Below W.heap.size W X)
    case first =>
     refine wp_region_held_drew (S := (fun w' => w'.cell? ⟨w.heap.size, 0, none⟩ = some (.bool false) ∧ w'.cell? ⟨w.heap.size, 1, none⟩ = some (.int .i64 a) ∧ w'.cell? ⟨w.heap.size, 2, none⟩ = some (.int .i64 b) ∧ w'.cell? ⟨w.heap.size + 1, 0, none⟩ = some (.bool false) ∧ w'.cell? ⟨w.heap.size + 1, 1, none⟩ = some (.int .i64 c) ∧ w'.cell? ⟨w.heap.size + 1, 2, none⟩ = some (.int .i64 d))) (by kernel_rfl) (hall _ cc) (fun hH => ?_)
     refine wpAnyH_take (i := 0) (oi := _) (v := .int .i64 11) rfl (by kernel_rfl) (by kernel_rfl) (by kernel_rfl) (fun _ _ _ h => h) (Or.inl ⟨by rfl, fun w' hSw => by obtain ⟨za0, za1, za2, zb0, zb1, zb2⟩ := hSw; go_simp⟩) hH ?_
     simp only [Act.put, gA, gB, gC, gD, gE, gG]
     refine wpAnyH_take (i := 1) (oi := _) (v := .agg #[.bool false, .int .i64 a, .int .i64 b]) rfl (by kernel_rfl) (by kernel_rfl) (by kernel_rfl) (fun _ _ _ h => h) (Or.inl ⟨by rfl, fun w' hSw => by obtain ⟨za0, za1, za2, zb0, zb1, zb2⟩ := hSw; go_simp⟩) hH ?_
     simp only [Act.put, gA, gB, gC, gD, gE, gG]
     refine wpAnyH_take (i := 2) (oi := _) (v := .agg #[.bool false, .int .i64 c, .int .i64 d]) rfl (by kernel_rfl) (by kernel_rfl) (by kernel_rfl) (fun _ _ _ h => h) (Or.inl ⟨by rfl, fun w' hSw => by obtain ⟨za0, za1, za2, zb0, zb1, zb2⟩ := hSw; go_simp⟩) hH ?_
     simp only [Act.put, gA, gB, gC, gD, gE, gG]
     refine wpAnyH_take (i := 6) (oi := _) (v := .int .i64 11) rfl (by kernel_rfl) (by kernel_rfl) (by kernel_rfl) (fun _ _ _ h => h) (Or.inl ⟨by rfl, fun w' hSw => by obtain ⟨za0, za1, za2, zb0, zb1, zb2⟩ := hSw; go_simp⟩) hH ?_
     simp only [Act.put, gA, gB, gC, gD, gE, gG]
     refine wpAnyH_take (i := 7) (oi := _) (v := .agg #[.bool false, .int .i64 a, .int .i64 b]) rfl (by kernel_rfl) (by kernel_rfl) (by kernel_rfl) (fun _ _ _ h => h) (Or.inl ⟨by rfl, fun w' hSw => by obtain ⟨za0, za1, za2, zb0, zb1, zb2⟩ := hSw; go_simp⟩) hH ?_
     simp only [Act.put, gA, gB, gC, gD, gE, gG]
     refine wpAnyH_take (i := 8) (oi := _) (v := .agg #[.bool false, .int .i64 c, .int .i64 d]) rfl (by kernel_rfl) (by kernel_rfl) (by kernel_rfl) (fun _ _ _ h => h) (Or.inl ⟨by rfl, fun w' hSw => by obtain ⟨za0, za1, za2, zb0, zb1, zb2⟩ := hSw; go_simp⟩) hH ?_
     simp only [Act.put, gA, gB, gC, gD, gE, gG]
     generalize hY : W.drew = Y0 at *
     clear hY
     refine wpAnyH_ready (rs := [3]) (by kernel_rfl) (by simp) (AllReadyH.cons (o := _) rfl (fun K hK => ?_) AllReadyH.nil)
     go_simp
     refine (ko1 _).mono ?_
     rintro e Y1 ⟨rfl, g⟩
     replace cc := sp_call cc g
     clear g
     go_wp2_with fail
     refine hK.out _ _ (hall _ cc) (fun hH => ?_)
     clear hK K
     try simp only [Act.put, gA, gB, gC, gD, gE, gG]
     refine wpAnyH_ready (rs := [4]) (by kernel_rfl) (by simp) (AllReadyH.cons (o := _) rfl (fun K hK => ?_) AllReadyH.nil)
     go_simp
     refine (km1 _).mono ?_
     rintro e Y2 ⟨rfl, g⟩
     replace cc := sp_call cc g
     clear g
     go_wp2_with fail
     refine hK.out _ _ (hall _ cc) (fun hH => ?_)
     clear hK K
     try simp only [Act.put, gA, gB, gC, gD, gE, gG]
     refine wpAnyH_ready (rs := [5]) (by kernel_rfl) (by simp) (AllReadyH.cons (o := _) rfl (fun K hK => ?_) AllReadyH.nil)
     go_simp
     refine (kc1 _).mono ?_
     rintro e Y3 ⟨v1, rfl, row1, g⟩
     replace cc := sp_call cc g
     clear g
     go_wp2_with fail
     refine hK.out _ _ (hall _ cc) (fun hH => ?_)
     clear hK K
     try simp only [Act.put, gA, gB, gC, gD, gE, gG]
     refine wpAnyH_ready (rs := [9]) (by kernel_rfl) (by simp) (AllReadyH.cons (o := _) rfl (fun K hK => ?_) AllReadyH.nil)
     go_simp
     refine (ko2 _).mono ?_
     rintro e Y4 ⟨rfl, g⟩
     replace row1 := row1.on g
     replace cc := sp_call cc g
     clear g
     go_wp2_with fail
     refine hK.out _ _ (hall _ cc) (fun hH => ?_)
     clear hK K
     try simp only [Act.put, gA, gB, gC, gD, gE, gG]
     refine wpAnyH_ready (rs := [10]) (by kernel_rfl) (by simp) (AllReadyH.cons (o := _) rfl (fun K hK => ?_) AllReadyH.nil)
     go_simp
     refine (km2 _).mono ?_
     rintro e Y5 ⟨rfl, g⟩
     replace row1 := row1.on g
     replace cc := sp_call cc g
     clear g
     go_wp2_with fail
     refine hK.out _ _ (hall _ cc) (fun hH => ?_)
     clear hK K
     try simp only [Act.put, gA, gB, gC, gD, gE, gG]
     refine wpAnyH_ready (rs := [11]) (by kernel_rfl) (by simp) (AllReadyH.cons (o := _) rfl (fun K hK => ?_) AllReadyH.nil)
     go_simp
     refine (kc2 _).mono ?_
     rintro e Y6 ⟨v2, rfl, row2, g⟩
     replace row1 := row1.on g
     replace cc := sp_call cc g
     clear g
     go_wp2_with fail
     refine hK.out _ _ (hall _ cc) (fun hH => ?_)
     clear hK K
     try simp only [Act.put, gA, gB, gC, gD, gE, gG]
     obtain ⟨vv, Z, hr, rowz, gz⟩ := app_rows Y6 row1 row2 hl1 hl2 52
     refine wpAnyH_ready (rs := [12]) (by kernel_rfl) (by simp) (AllReadyH.cons (o := _) rfl (fun K hK => ?_) AllReadyH.nil)
     refine Eq.mpr (if_pos (by rfl)) ?_
     refine wp_append_at (.tmp 44) (.tmp 50) 52 rfl _ _ rfl rfl _ _ hr ?_
     replace cc := sp_call cc gz
     refine hK.out _ _ (hall _ cc) (fun hH => ?_)
     clear hK K
     simp only [Act.put, gA, gB, gC, gD, gE, gG]
     refine wpAnyH_take (i := 13) (oi := _) (v := vv) rfl (by kernel_rfl) (by kernel_rfl) (by kernel_rfl) (fun _ _ _ h => h) (Or.inl ⟨by rfl, fun w' hSw => by obtain ⟨za0, za1, za2, zb0, zb1, zb2⟩ := hSw; go_simp⟩) hH ?_
     simp only [Act.put, gA, gB, gC, gD, gE, gG]
     refine wpAnyH_done (by kernel_rfl) ?_ _
     go_wp2_with fail
     go_meet
     exact ⟨_, rfl, rowz, cc⟩
    case rest =>
     obtain ⟨W3, rfl, row, cX⟩ := hcut
     replace fz := fun j => (cX.frozen (p := ⟨w.heap.size + 1 + 1, j, none⟩) (by first | (simp; done) | (simp; omega))).trans (fz j)
     replace bW := sp_call bW cX
     replace zW := Nat.le_trans zW cX.size
     replace a0 := sO cX a0; replace a1 := sO cX a1; replace a2 := sO cX a2; replace b0 := sO cX b0; replace b1 := sO cX b1; replace b2 := sO cX b2; replace r0 := sO cX r0; replace r1 := sO cX r1; replace r2 := sO cX r2
     clear cX hall ko1 ko2 km1 km2 kc1 kc2
     by_cases hn : L1 ++ L2 = []
     · have hrow := row
       rcases hrow with ⟨rfl, _⟩ | ⟨bq, capq, _, hq, _⟩
       rotate_left
       · rw [hn] at hq; simp at hq
       have HF2 := HF.out
       rw [if_pos hn] at HF2
       have HR2 := HR.out
       rw [hn, hnil] at HR2
       simp only [Prod.mk.injEq] at HR2
       obtain ⟨⟨rfl, rfl, rfl⟩, rfl⟩ := HR2
       subst HF2
       clear HF HR k2 row
       have nb : ∀ V, Calls Tryz.prog 113 #[] V fun e w' => e = .returned (.agg #[.bool true, .int .i64 0, .int .i64 0]) ∧ Below V.heap.size V w' := fun V => (rnoneI V).mono fun e w' h => ⟨h.1, by rw [h.2]; exact sp_new (Below.refl _ _) _⟩
       go_wp2_with (first
         | (go_at_call 113; refine (nb _).mono ?_; rintro e w9 ⟨rfl, g⟩; replace fz := fun j => (g.frozen (p := ⟨w.heap.size + 1 + 1, j, none⟩) (by first | (simp; done) | (simp; omega))).trans (fz j); replace bW := sp_call bW g; have zq := g.size; replace zW := Nat.le_trans zW zq; replace r0 := sO g r0; replace r1 := sO g r1; replace r2 := sO g r2; clear g)
         | fail)
       exact bodyPost_ret (v := .tuple #[.agg #[.bool true, .int .i64 0, .int .i64 0], .int .i64 0]) (by simp [results, Tryz.results63, go_sem, r0, r1, r2]) rfl ⟨rfl, by (repeat (first | with_reducible exact Below.refl _ _ | with_reducible assumption | with_reducible refine sp_new ?_ _ | with_reducible refine sp_set1i ?_ (by omega) _))⟩
     · have HF2 := HF.out
       rw [if_neg hn] at HF2
       have hrow := row
       rcases hrow with ⟨_, hq⟩ | ⟨bq, capq, rfl, hq, _⟩
       · exact absurd hq hn
       have hq' : ((L1 ++ L2).length : Int) ≠ 0 := by omega
       have k3 := fun V (r : RowR V (.slice (some ⟨bq, 0, none⟩) (L1 ++ L2).length capq) (L1 ++ L2)) => k2 hn _ V r
       subst HF2
       clear HF HR k2
       generalize (L1 ++ L2).length = N at *
       have hq2 : ¬ N = 0 := by omega
       go_wp2_with fail
       refine (k3 _ row).mono ?_
       rintro e w9 ⟨rfl, g⟩
       replace fz : ∀ j, w9.frozen? ⟨w.heap.size + 1 + 1, j, none⟩ = false := fun j => (g.frozen (p := ⟨w.heap.size + 1 + 1, j, none⟩) (by first | (simp; done) | (simp; omega))).trans (fz j)
       replace bW := sp_call bW g
       have zq := g.size
       replace zW := Nat.le_trans zW zq
       have zl : w.heap.size + 1 + 1 < w9.heap.size := by omega
       replace r0 := sO g r0; replace r1 := sO g r1; replace r2 := sO g r2
       clear g
       go_wp2_with fail
       exact bodyPost_ret (v := .tuple #[.agg #[.bool me, .int .i64 ml, .int .i64 mh], .int .i64 (bits BinOp.or IntKind.i64 0 tr)]) (by simp [results, Tryz.results63, go_sem, r0, r1, r2, zl, Nat.ne_of_lt zl]) rfl ⟨rfl, by (repeat (first | with_reducible exact Below.refl _ _ | with_reducible assumption | with_reducible refine sp_new ?_ _ | with_reducible refine sp_set1i ?_ (by omega) _))⟩
  · have HT2 := HT.out
    simp at HT2
    subst HT2
    go_upto_region 8 with (first
      | (go_at_call 53; refine (kh _).mono ?_; rintro e u1 ⟨rfl, g⟩; replace fz := fun j => (g.frozen (p := ⟨w.heap.size + 1 + 1, j, none⟩) (by first | (simp; done) | (simp; omega))).trans (fz j); replace bW := sp_call bW g; have zq := g.size; replace zW := Nat.le_trans zW zq; clear zq; replace a0 := sO g a0; replace a1 := sO g a1; replace a2 := sO g a2; replace b0 := sO g b0; replace b1 := sO g b1; replace b2 := sO g b2; replace r0 := sO g r0; replace r1 := sO g r1; replace r2 := sO g r2; clear g)
      | (go_at_call 71; refine (kb _).mono ?_; rintro e u2 ⟨rfl, rfl⟩)
      | fail)
    clear kh kb HT
    generalize hWv : u2 = W at *
    clear hWv
    have hall : ∀ X9, Below W.heap.size W X9 → (X9.cell? ⟨w.heap.size, 0, none⟩ = some (.bool false) ∧ X9.cell? ⟨w.heap.size, 1, none⟩ = some (.int .i64 a) ∧ X9.cell? ⟨w.heap.size, 2, none⟩ = some (.int .i64 b) ∧ X9.cell? ⟨w.heap.size + 1, 0, none⟩ = some (.bool false) ∧ X9.cell? ⟨w.heap.size + 1, 1, none⟩ = some (.int .i64 c) ∧ X9.cell? ⟨w.heap.size + 1, 2, none⟩ = some (.int .i64 d)) := fun X9 cc => ⟨sO cc a0, sO cc a1, sO cc a2, sO cc b0, sO cc b1, sO cc b2⟩
    have cc : Below W.heap.size W W.drew := (Below.refl _ _).drew
    go_cut [9] from 39 to 51 (fun s X => ∃ (W3 : World), W3 = X ∧ RowR X s (L1 ++ L2) ∧ Below W.heap.size W X)
    case first =>
     refine wp_region_held_drew (S := (fun w' => w'.cell? ⟨w.heap.size, 0, none⟩ = some (.bool false) ∧ w'.cell? ⟨w.heap.size, 1, none⟩ = some (.int .i64 a) ∧ w'.cell? ⟨w.heap.size, 2, none⟩ = some (.int .i64 b) ∧ w'.cell? ⟨w.heap.size + 1, 0, none⟩ = some (.bool false) ∧ w'.cell? ⟨w.heap.size + 1, 1, none⟩ = some (.int .i64 c) ∧ w'.cell? ⟨w.heap.size + 1, 2, none⟩ = some (.int .i64 d))) (by kernel_rfl) (hall _ cc) (fun hH => ?_)
     refine wpAnyH_take (i := 0) (oi := _) (v := .int .i64 11) rfl (by kernel_rfl) (by kernel_rfl) (by kernel_rfl) (fun _ _ _ h => h) (Or.inl ⟨by rfl, fun w' hSw => by obtain ⟨za0, za1, za2, zb0, zb1, zb2⟩ := hSw; go_simp⟩) hH ?_
     simp only [Act.put, gA, gB, gC, gD, gE, gG]
     refine wpAnyH_take (i := 1) (oi := _) (v := .agg #[.bool false, .int .i64 a, .int .i64 b]) rfl (by kernel_rfl) (by kernel_rfl) (by kernel_rfl) (fun _ _ _ h => h) (Or.inl ⟨by rfl, fun w' hSw => by obtain ⟨za0, za1, za2, zb0, zb1, zb2⟩ := hSw; go_simp⟩) hH ?_
     simp only [Act.put, gA, gB, gC, gD, gE, gG]
     refine wpAnyH_take (i := 2) (oi := _) (v := .agg #[.bool false, .int .i64 c, .int .i64 d]) rfl (by kernel_rfl) (by kernel_rfl) (by kernel_rfl) (fun _ _ _ h => h) (Or.inl ⟨by rfl, fun w' hSw => by obtain ⟨za0, za1, za2, zb0, zb1, zb2⟩ := hSw; go_simp⟩) hH ?_
     simp only [Act.put, gA, gB, gC, gD, gE, gG]
     refine wpAnyH_take (i := 6) (oi := _) (v := .int .i64 11) rfl (by kernel_rfl) (by kernel_rfl) (by kernel_rfl) (fun _ _ _ h => h) (Or.inl ⟨by rfl, fun w' hSw => by obtain ⟨za0, za1, za2, zb0, zb1, zb2⟩ := hSw; go_simp⟩) hH ?_
     simp only [Act.put, gA, gB, gC, gD, gE, gG]
     refine wpAnyH_take (i := 7) (oi := _) (v := .agg #[.bool false, .int .i64 a, .int .i64 b]) rfl (by kernel_rfl) (by kernel_rfl) (by kernel_rfl) (fun _ _ _ h => h) (Or.inl ⟨by rfl, fun w' hSw => by obtain ⟨za0, za1, za2, zb0, zb1, zb2⟩ := hSw; go_simp⟩) hH ?_
     simp only [Act.put, gA, gB, gC, gD, gE, gG]
     refine wpAnyH_take (i := 8) (oi := _) (v := .agg #[.bool false, .int .i64 c, .int .i64 d]) rfl (by kernel_rfl) (by kernel_rfl) (by kernel_rfl) (fun _ _ _ h => h) (Or.inl ⟨by rfl, fun w' hSw => by obtain ⟨za0, za1, za2, zb0, zb1, zb2⟩ := hSw; go_simp⟩) hH ?_
     simp only [Act.put, gA, gB, gC, gD, gE, gG]
     generalize hY : W.drew = Y0 at *
     clear hY
     refine wpAnyH_ready (rs := [3]) (by kernel_rfl) (by simp) (AllReadyH.cons (o := _) rfl (fun K hK => ?_) AllReadyH.nil)
     go_simp
     refine (ko1 _).mono ?_
     rintro e Y1 ⟨rfl, g⟩
     replace cc := sp_call cc g
     clear g
     go_wp2_with fail
     refine hK.out _ _ (hall _ cc) (fun hH => ?_)
     clear hK K
     try simp only [Act.put, gA, gB, gC, gD, gE, gG]
     refine wpAnyH_ready (rs := [4]) (by kernel_rfl) (by simp) (AllReadyH.cons (o := _) rfl (fun K hK => ?_) AllReadyH.nil)
     go_simp
     refine (km1 _).mono ?_
     rintro e Y2 ⟨rfl, g⟩
     replace cc := sp_call cc g
     clear g
     go_wp2_with fail
     refine hK.out _ _ (hall _ cc) (fun hH => ?_)
     clear hK K
     try simp only [Act.put, gA, gB, gC, gD, gE, gG]
     refine wpAnyH_ready (rs := [5]) (by kernel_rfl) (by simp) (AllReadyH.cons (o := _) rfl (fun K hK => ?_) AllReadyH.nil)
     go_simp
     refine (kc1 _).mono ?_
     rintro e Y3 ⟨v1, rfl, row1, g⟩
     replace cc := sp_call cc g
     clear g
     go_wp2_with fail
     refine hK.out _ _ (hall _ cc) (fun hH => ?_)
     clear hK K
     try simp only [Act.put, gA, gB, gC, gD, gE, gG]
     refine wpAnyH_ready (rs := [9]) (by kernel_rfl) (by simp) (AllReadyH.cons (o := _) rfl (fun K hK => ?_) AllReadyH.nil)
     go_simp
     refine (ko2 _).mono ?_
     rintro e Y4 ⟨rfl, g⟩
     replace row1 := row1.on g
     replace cc := sp_call cc g
     clear g
     go_wp2_with fail
     refine hK.out _ _ (hall _ cc) (fun hH => ?_)
     clear hK K
     try simp only [Act.put, gA, gB, gC, gD, gE, gG]
     refine wpAnyH_ready (rs := [10]) (by kernel_rfl) (by simp) (AllReadyH.cons (o := _) rfl (fun K hK => ?_) AllReadyH.nil)
     go_simp
     refine (km2 _).mono ?_
     rintro e Y5 ⟨rfl, g⟩
     replace row1 := row1.on g
     replace cc := sp_call cc g
     clear g
     go_wp2_with fail
     refine hK.out _ _ (hall _ cc) (fun hH => ?_)
     clear hK K
     try simp only [Act.put, gA, gB, gC, gD, gE, gG]
     refine wpAnyH_ready (rs := [11]) (by kernel_rfl) (by simp) (AllReadyH.cons (o := _) rfl (fun K hK => ?_) AllReadyH.nil)
     go_simp
     refine (kc2 _).mono ?_
     rintro e Y6 ⟨v2, rfl, row2, g⟩
     replace row1 := row1.on g
     replace cc := sp_call cc g
     clear g
     go_wp2_with fail
     refine hK.out _ _ (hall _ cc) (fun hH => ?_)
     clear hK K
     try simp only [Act.put, gA, gB, gC, gD, gE, gG]
     obtain ⟨vv, Z, hr, rowz, gz⟩ := app_rows Y6 row1 row2 hl1 hl2 52
     refine wpAnyH_ready (rs := [12]) (by kernel_rfl) (by simp) (AllReadyH.cons (o := _) rfl (fun K hK => ?_) AllReadyH.nil)
     refine Eq.mpr (if_pos (by rfl)) ?_
     refine wp_append_at (.tmp 44) (.tmp 50) 52 rfl _ _ rfl rfl _ _ hr ?_
     replace cc := sp_call cc gz
     refine hK.out _ _ (hall _ cc) (fun hH => ?_)
     clear hK K
     simp only [Act.put, gA, gB, gC, gD, gE, gG]
     refine wpAnyH_take (i := 13) (oi := _) (v := vv) rfl (by kernel_rfl) (by kernel_rfl) (by kernel_rfl) (fun _ _ _ h => h) (Or.inl ⟨by rfl, fun w' hSw => by obtain ⟨za0, za1, za2, zb0, zb1, zb2⟩ := hSw; go_simp⟩) hH ?_
     simp only [Act.put, gA, gB, gC, gD, gE, gG]
     refine wpAnyH_done (by kernel_rfl) ?_ _
     go_wp2_with fail
     go_meet
     exact ⟨_, rfl, rowz, cc⟩
    case rest =>
     obtain ⟨W3, rfl, row, cX⟩ := hcut
     replace fz := fun j => (cX.frozen (p := ⟨w.heap.size + 1 + 1, j, none⟩) (by first | (simp; done) | (simp; omega))).trans (fz j)
     replace bW := sp_call bW cX
     replace zW := Nat.le_trans zW cX.size
     replace a0 := sO cX a0; replace a1 := sO cX a1; replace a2 := sO cX a2; replace b0 := sO cX b0; replace b1 := sO cX b1; replace b2 := sO cX b2; replace r0 := sO cX r0; replace r1 := sO cX r1; replace r2 := sO cX r2
     clear cX hall ko1 ko2 km1 km2 kc1 kc2
     by_cases hn : L1 ++ L2 = []
     · have hrow := row
       rcases hrow with ⟨rfl, _⟩ | ⟨bq, capq, _, hq, _⟩
       rotate_left
       · rw [hn] at hq; simp at hq
       have HF2 := HF.out
       rw [if_pos hn] at HF2
       have HR2 := HR.out
       rw [hn, hnil] at HR2
       simp only [Prod.mk.injEq] at HR2
       obtain ⟨⟨rfl, rfl, rfl⟩, rfl⟩ := HR2
       subst HF2
       clear HF HR k2 row
       have nb : ∀ V, Calls Tryz.prog 113 #[] V fun e w' => e = .returned (.agg #[.bool true, .int .i64 0, .int .i64 0]) ∧ Below V.heap.size V w' := fun V => (rnoneI V).mono fun e w' h => ⟨h.1, by rw [h.2]; exact sp_new (Below.refl _ _) _⟩
       go_wp2_with (first
         | (go_at_call 113; refine (nb _).mono ?_; rintro e w9 ⟨rfl, g⟩; replace fz := fun j => (g.frozen (p := ⟨w.heap.size + 1 + 1, j, none⟩) (by first | (simp; done) | (simp; omega))).trans (fz j); replace bW := sp_call bW g; have zq := g.size; replace zW := Nat.le_trans zW zq; replace r0 := sO g r0; replace r1 := sO g r1; replace r2 := sO g r2; clear g)
         | fail)
       exact bodyPost_ret (v := .tuple #[.agg #[.bool true, .int .i64 0, .int .i64 0], .int .i64 16]) (by simp [results, Tryz.results63, go_sem, r0, r1, r2]) rfl ⟨rfl, by (repeat (first | with_reducible exact Below.refl _ _ | with_reducible assumption | with_reducible refine sp_new ?_ _ | with_reducible refine sp_set1i ?_ (by omega) _))⟩
     · have HF2 := HF.out
       rw [if_neg hn] at HF2
       have hrow := row
       rcases hrow with ⟨_, hq⟩ | ⟨bq, capq, rfl, hq, _⟩
       · exact absurd hq hn
       have hq' : ((L1 ++ L2).length : Int) ≠ 0 := by omega
       have k3 := fun V (r : RowR V (.slice (some ⟨bq, 0, none⟩) (L1 ++ L2).length capq) (L1 ++ L2)) => k2 hn _ V r
       subst HF2
       clear HF HR k2
       generalize (L1 ++ L2).length = N at *
       have hq2 : ¬ N = 0 := by omega
       go_wp2_with fail
       refine (k3 _ row).mono ?_
       rintro e w9 ⟨rfl, g⟩
       replace fz : ∀ j, w9.frozen? ⟨w.heap.size + 1 + 1, j, none⟩ = false := fun j => (g.frozen (p := ⟨w.heap.size + 1 + 1, j, none⟩) (by first | (simp; done) | (simp; omega))).trans (fz j)
       replace bW := sp_call bW g
       have zq := g.size
       replace zW := Nat.le_trans zW zq
       have zl : w.heap.size + 1 + 1 < w9.heap.size := by omega
       replace r0 := sO g r0; replace r1 := sO g r1; replace r2 := sO g r2
       clear g
       go_wp2_with fail
       exact bodyPost_ret (v := .tuple #[.agg #[.bool me, .int .i64 ml, .int .i64 mh], .int .i64 (bits BinOp.or IntKind.i64 16 tr)]) (by simp [results, Tryz.results63, go_sem, r0, r1, r2, zl, Nat.ne_of_lt zl]) rfl ⟨rfl, by (repeat (first | with_reducible exact Below.refl _ _ | with_reducible assumption | with_reducible refine sp_new ?_ _ | with_reducible refine sp_set1i ?_ (by omega) _))⟩
end Go.Proofs.YthjoigkckgdcaaaGreat

namespace Go.Proofs.YthjoigkckgdcaaaGreat
open Go.RowKit
set_option linter.unusedVariables false
set_option linter.unusedSimpArgs false
theorem wpList_append_at {P : Program} {ops : Array Oper} {rest : List Oper} {o : Oper} {a : Act} {w : World} {Q : Exit → Act → World → Prop} (hgd : o.guard = none) (s x : Operand) (t : TypeId) (ho : o.op = .call { callee := .builtin .append, args := #[s, x], argTypes := #[t, t] }) (v1 v2 : Value) (hs : a.eval s = v1) (hx : a.eval x = v2) (v' : Value) (w' : World)
    (hr : (Builtin.append_ #[t, t] o.type #[v1, v2]).run P w = .ok v' w') (h : wpList P ops Q rest (a.put o.dst v') w') : wpList P ops Q (o :: rest) a w :=
  wpList_plain hgd fun K hK => wp_append_at s x t ho v1 v2 hs hx v' w' hr (hK _ _ h)
set_option maxRecDepth 100000 in
set_option maxHeartbeats 6400000 in
theorem roneN (op : Int) (e1 : Bool) (a b : Int) (h : e1 = true ∨ (¬ op = 4 ∧ ¬ op = 5)) (w : World) :
    Calls Tryz.prog 65 #[.int .i64 op, .agg #[.bool e1, .int .i64 a, .int .i64 b]] w fun e w' => e = .returned (.tuple #[.agg #[.bool true, .int .i64 0, .int .i64 0], .int .i64 0]) ∧ Below w.heap.size w w' := by
  cases e1
  · rcases h with h | ⟨h4, h5⟩
    · cases h
    go_enter Tryz.func65, Tryz.ntmps65
    go_wp2_with (first
      | (go_at_call 113; refine (rnoneI _).mono ?_; rintro e w9 ⟨rfl, rfl⟩)
      | fail)
    exact bodyPost_ret (v := .tuple #[.agg #[.bool true, .int .i64 0, .int .i64 0], .int .i64 0]) (by simp [results, Tryz.results65, go_sem]) rfl ⟨rfl, by (repeat (first | with_reducible exact Below.refl _ _ | with_reducible assumption | with_reducible refine sp_new ?_ _ | with_reducible refine sp_set1i ?_ (by omega) _))⟩
  · clear h
    go_enter Tryz.func65, Tryz.ntmps65
    go_wp2_with (first
      | (go_at_call 113; refine (rnoneI _).mono ?_; rintro e w9 ⟨rfl, rfl⟩)
      | fail)
    exact bodyPost_ret (v := .tuple #[.agg #[.bool true, .int .i64 0, .int .i64 0], .int .i64 0]) (by simp [results, Tryz.results65, go_sem]) rfl ⟨rfl, by (repeat (first | with_reducible exact Below.refl _ _ | with_reducible assumption | with_reducible refine sp_new ?_ _ | with_reducible refine sp_set1i ?_ (by omega) _))⟩
set_option maxRecDepth 100000 in
set_option maxHeartbeats 6400000 in
theorem roneG (a b : Int) (da : -2147483648 ≤ a) (da2 : a ≤ 2147483647) (db : -2147483648 ≤ b) (db2 : b ≤ 2147483647) (w : World) :
    Calls Tryz.prog 65 #[.int .i64 4, .agg #[.bool false, .int .i64 a, .int .i64 b]] w fun e w' => e = .returned (.tuple #[.agg #[.bool (toldI [-b, -a]).1.1, .int .i64 (toldI [-b, -a]).1.2.1, .int .i64 (toldI [-b, -a]).1.2.2], .int .i64 (toldI [-b, -a]).2]) ∧ Below w.heap.size w w' := by
  have k2 := rclipR [-b, -a] (by simp) (by simp)
  generalize (toldI [-b, -a]) = R at *
  obtain ⟨⟨me, ml, mh⟩, tr⟩ := R
  dsimp only at *
  go_enter Tryz.func65, Tryz.ntmps65
  go_upto_region 1 with fail
  obtain ⟨W, hW⟩ : ∃ W, ((w.alloc (.cells #[.bool false, .int .i64 a, .int .i64 b] 47)).alloc (.cells #[.bool false, .int .i64 0, .int .i64 0] 47)) = W := ⟨_, rfl⟩
  have a0 : W.cell? ⟨w.heap.size, 0, none⟩ = some (.bool false) := by rw [← hW]; simp [go_sem]
  have a1 : W.cell? ⟨w.heap.size, 1, none⟩ = some (.int .i64 a) := by rw [← hW]; simp [go_sem]
  have a2 : W.cell? ⟨w.heap.size, 2, none⟩ = some (.int .i64 b) := by rw [← hW]; simp [go_sem]
  have r0 : W.cell? ⟨w.heap.size + 1, 0, none⟩ = some (.bool false) := by rw [← hW]; simp [go_sem]
  have r1 : W.cell? ⟨w.heap.size + 1, 1, none⟩ = some (.int .i64 0) := by rw [← hW]; simp [go_sem]
  have r2 : W.cell? ⟨w.heap.size + 1, 2, none⟩ = some (.int .i64 0) := by rw [← hW]; simp [go_sem]
  have bW : Below w.heap.size w W := by rw [← hW]; exact (sp_new (sp_new (Below.refl _ _) _) _)
  have zW : w.heap.size + 2 ≤ W.heap.size := by rw [← hW]; simp
  have fz : ∀ j, W.frozen? ⟨w.heap.size + 1, j, none⟩ = false := by intro j; rw [← hW]; simp [go_sem]
  rw [hW]
  clear hW
  go_wp2_with fail
  have row : RowR (W.alloc (.cells #[.int .i64 (-b), .int .i64 (-a)] 2)) (.slice (some ⟨W.heap.size, 0, none⟩) 2 2) [-b, -a] := by
    refine Or.inr ⟨_, _, rfl, by simp, ?_⟩
    rintro j x hj
    rcases j with _ | _ | j
    all_goals simp at hj
    all_goals subst hj
    all_goals simp [go_sem]
  refine (k2 _ _ row).mono ?_
  rintro e v2 ⟨rfl, g⟩
  replace g : Below W.heap.size W v2 := sp_call (sp_new (Below.refl _ _) _) g
  replace fz := fun j => (g.frozen (p := ⟨w.heap.size + 1, j, none⟩) (by first | (simp; done) | (simp; omega))).trans (fz j)
  replace bW := sp_call bW g
  replace r0 := sO g r0; replace r1 := sO g r1; replace r2 := sO g r2
  clear g
  go_wp2_with fail
  exact bodyPost_ret (v := .tuple #[.agg #[.bool me, .int .i64 ml, .int .i64 mh], .int .i64 tr]) (by simp [results, Tryz.results65, go_sem, r0, r1, r2]) rfl ⟨rfl, sp_set3 bW (by omega) _ _ _⟩
def absL (a b : Int) (z : Bool) : List Int := [(if a < 0 then -a else a), (if b < 0 then -b else b)] ++ if z then [0] else []
set_option maxRecDepth 100000 in
set_option maxHeartbeats 6400000 in
theorem roneA (a b : Int) (da : -2147483648 ≤ a) (da2 : a ≤ 2147483647) (db : -2147483648 ≤ b) (db2 : b ≤ 2147483647) (zr : Bool) (kh : ∀ V, Calls Tryz.prog 53 #[.agg #[.bool false, .int .i64 a, .int .i64 b], .int .i64 0] V fun e w' => e = .returned (.bool zr) ∧ Below V.heap.size V w') (w : World) :
    Calls Tryz.prog 65 #[.int .i64 5, .agg #[.bool false, .int .i64 a, .int .i64 b]] w fun e w' => e = .returned (.tuple #[.agg #[.bool (toldI (absL a b zr)).1.1, .int .i64 (toldI (absL a b zr)).1.2.1, .int .i64 (toldI (absL a b zr)).1.2.2], .int .i64 (toldI (absL a b zr)).2]) ∧ Below w.heap.size w w' := by
  have k2 := rclipR (absL a b zr) (by simp [absL]) (by cases zr <;> simp [absL])
  obtain ⟨R, HR⟩ : ∃ R, Hid (toldI (absL a b zr) = R) := ⟨_, rfl⟩
  rw [HR.out] at k2 ⊢
  clear HR
  obtain ⟨⟨me, ml, mh⟩, tr⟩ := R
  dsimp only at *
  unfold absL at k2
  obtain ⟨a', ha'⟩ : ∃ x, Hid ((if a < 0 then -a else a) = x) := ⟨_, rfl⟩
  obtain ⟨b', hb'⟩ : ∃ x, Hid ((if b < 0 then -b else b) = x) := ⟨_, rfl⟩
  rw [ha'.out, hb'.out] at k2
  go_enter Tryz.func65, Tryz.ntmps65
  go_upto_region 1 with fail
  obtain ⟨W, hW⟩ : ∃ W, ((w.alloc (.cells #[.bool false, .int .i64 a, .int .i64 b] 47)).alloc (.cells #[.bool false, .int .i64 0, .int .i64 0] 47)) = W := ⟨_, rfl⟩
  have a0 : W.cell? ⟨w.heap.size, 0, none⟩ = some (.bool false) := by rw [← hW]; simp [go_sem]
  have a1 : W.cell? ⟨w.heap.size, 1, none⟩ = some (.int .i64 a) := by rw [← hW]; simp [go_sem]
  have a2 : W.cell? ⟨w.heap.size, 2, none⟩ = some (.int .i64 b) := by rw [← hW]; simp [go_sem]
  have r0 : W.cell? ⟨w.heap.size + 1, 0, none⟩ = some (.bool false) := by rw [← hW]; simp [go_sem]
  have r1 : W.cell? ⟨w.heap.size + 1, 1, none⟩ = some (.int .i64 0) := by rw [← hW]; simp [go_sem]
  have r2 : W.cell? ⟨w.heap.size + 1, 2, none⟩ = some (.int .i64 0) := by rw [← hW]; simp [go_sem]
  have bW : Below w.heap.size w W := by rw [← hW]; exact (sp_new (sp_new (Below.refl _ _) _) _)
  have zW : w.heap.size + 2 ≤ W.heap.size := by rw [← hW]; simp
  have fz : ∀ j, W.frozen? ⟨w.heap.size + 1, j, none⟩ = false := by intro j; rw [← hW]; simp [go_sem]
  rw [hW]
  clear hW
  go_upto_region 8 with fail
  obtain ⟨Y, hY⟩ : ∃ Y, W.alloc (.cells #[.int .i64 a, .int .i64 b] 2) = Y := ⟨_, rfl⟩
  obtain ⟨q, hq⟩ : ∃ q, W.heap.size = q := ⟨_, rfl⟩
  have y0 : Y.cell? ⟨q, 0, none⟩ = some (.int .i64 a) := by rw [← hY, ← hq]; simp [go_sem]
  have y1 : Y.cell? ⟨q, 1, none⟩ = some (.int .i64 b) := by rw [← hY, ← hq]; simp [go_sem]
  have fy : ∀ j, Y.frozen? ⟨q, j, none⟩ = false := by intro j; rw [← hY, ← hq]; simp [go_sem]
  have bY : Below W.heap.size W Y := by rw [← hY]; exact sp_new (Below.refl _ _) _
  have zY : q < Y.heap.size := by rw [← hY, ← hq]; simp
  rw [hY, hq]
  have zq : w.heap.size + 2 ≤ q := by omega
  replace fz : ∀ j, Y.frozen? ⟨w.heap.size + 1, j, none⟩ = false := fun j => (bY.frozen (p := ⟨w.heap.size + 1, j, none⟩) (by first | (simp; done) | (simp; omega))).trans (fz j)
  replace bW := sp_call bW bY
  replace a0 := sO bY a0; replace a1 := sO bY a1; replace a2 := sO bY a2; replace r0 := sO bY r0; replace r1 := sO bY r1; replace r2 := sO bY r2
  clear hY hq bY zW
  go_wp2_with fail
  go_loopw [7] (fun i wr => ∃ (WR : World) (j : Nat), WR = wr ∧ (j = 0 ∨ j = 1 ∨ j = 2) ∧ i = .int .i64 j ∧ wr.cell? ⟨q, 0, none⟩ = some (.int .i64 (if j = 0 then a else a')) ∧ wr.cell? ⟨q, 1, none⟩ = some (.int .i64 (if j = 2 then b' else b)) ∧ (∀ j, wr.frozen? ⟨q, j, none⟩ = false) ∧ (∀ j, wr.frozen? ⟨w.heap.size + 1, j, none⟩ = false) ∧ wr.cell? ⟨w.heap.size, 0, none⟩ = some (.bool false) ∧ wr.cell? ⟨w.heap.size, 1, none⟩ = some (.int .i64 a) ∧ wr.cell? ⟨w.heap.size, 2, none⟩ = some (.int .i64 b) ∧ wr.cell? ⟨w.heap.size + 1, 0, none⟩ = some (.bool false) ∧ wr.cell? ⟨w.heap.size + 1, 1, none⟩ = some (.int .i64 0) ∧ wr.cell? ⟨w.heap.size + 1, 2, none⟩ = some (.int .i64 0) ∧ q < wr.heap.size ∧ Below w.heap.size w wr) (fun i _ => 2 - (intOf i).toNat)
  case atStart => exact ⟨_, 0, rfl, by simp, rfl, by simpa using y0, by simpa using y1, fy, fz, a0, a1, a2, r0, r1, r2, zY, bW⟩
  case round =>
   clear y0 y1 fy fz a0 a1 a2 r0 r1 r2 zY bW
   obtain ⟨WR, j, rfl, hj, rfl, y0, y1, fy, fz, a0, a1, a2, r0, r1, r2, zY, bW⟩ := hrel
   rcases hj with rfl | rfl | rfl
   · simp only [if_true, show ¬ ((0 : Nat) = 2) by decide, if_false] at y0 y1
     have hv := ha'.out
     by_cases c0 : a < 0
     · rw [if_pos c0] at hv
       go_wp2_with fail
       go_roundw
       all_goals first
         | (simp [intOf]; done)
         | exact ⟨_, 1, rfl, by simp, rfl, by simp [go_sem, y0, y1, hv], by simp [go_sem, y0, y1, hv], by intro j; simp [go_sem, fy], by intro j; simp [go_sem, fz], sp_keep1 a0 (by omega) _, sp_keep1 a1 (by omega) _, sp_keep1 a2 (by omega) _, sp_keep1 r0 (by omega) _, sp_keep1 r1 (by omega) _, sp_keep1 r2 (by omega) _, by simpa using zY, sp_set1i bW (by omega) _⟩
     · rw [if_neg c0] at hv
       go_wp2_with fail
       go_roundw
       all_goals first
         | (simp [intOf]; done)
         | exact ⟨_, 1, rfl, by simp, rfl, by simp [y0, y1, hv], by simp [y0, y1, hv], fy, fz, a0, a1, a2, r0, r1, r2, zY, bW⟩
   · simp only [show ¬ ((1 : Nat) = 2) by decide, if_false, show ¬ ((1 : Nat) = 0) by decide] at y0 y1
     have hv := hb'.out
     by_cases c0 : b < 0
     · rw [if_pos c0] at hv
       go_wp2_with fail
       go_roundw
       all_goals first
         | (simp [intOf]; done)
         | exact ⟨_, 2, rfl, by simp, rfl, by simp [go_sem, y0, y1, hv], by simp [go_sem, y0, y1, hv], by intro j; simp [go_sem, fy], by intro j; simp [go_sem, fz], sp_keep1 a0 (by omega) _, sp_keep1 a1 (by omega) _, sp_keep1 a2 (by omega) _, sp_keep1 r0 (by omega) _, sp_keep1 r1 (by omega) _, sp_keep1 r2 (by omega) _, by simpa using zY, sp_set1i bW (by omega) _⟩
     · rw [if_neg c0] at hv
       go_wp2_with fail
       go_roundw
       all_goals first
         | (simp [intOf]; done)
         | exact ⟨_, 2, rfl, by simp, rfl, by simp [y0, y1, hv], by simp [y0, y1, hv], fy, fz, a0, a1, a2, r0, r1, r2, zY, bW⟩
   · simp only [if_true, show ¬ ((2 : Nat) = 0) by decide, if_false] at y0 y1
     have row : ∀ V : World, V.cell? ⟨q, 0, none⟩ = some (.int .i64 a') → V.cell? ⟨q, 1, none⟩ = some (.int .i64 b') → RowI V (.slice (some ⟨q, 0, none⟩) 2 2) [a', b'] := by
       intro V e0 e1
       refine Or.inr ⟨_, rfl, by simp, ?_⟩
       rintro j x hj
       rcases j with _ | _ | j
       all_goals simp at hj
       all_goals subst hj
       all_goals assumption
     cases zr
     · go_wp2_with (first
         | (go_at_call 53; refine (kh _).mono ?_; rintro e u1 ⟨rfl, g⟩; replace fz := fun j => (g.frozen (p := ⟨w.heap.size + 1, j, none⟩) (by first | (simp; done) | (simp; omega))).trans (fz j); replace bW := sp_call bW g; have zg := g.size; replace zY := Nat.lt_of_lt_of_le zY zg; replace y0 := sO g y0; replace y1 := sO g y1; replace r0 := sO g r0; replace r1 := sO g r1; replace r2 := sO g r2; clear g)
         | fail)
       refine (k2 _ _ (by simpa using (row _ y0 y1).r)).mono ?_
       rintro e u2 ⟨rfl, g⟩
       replace fz := fun j => (g.frozen (p := ⟨w.heap.size + 1, j, none⟩) (by first | (simp; done) | (simp; omega))).trans (fz j)
       replace bW := sp_call bW g
       replace r0 := sO g r0; replace r1 := sO g r1; replace r2 := sO g r2
       clear g
       go_wp2_with fail
       exact bodyPost_ret (v := .tuple #[.agg #[.bool me, .int .i64 ml, .int .i64 mh], .int .i64 tr]) (by simp [results, Tryz.results65, go_sem, r0, r1, r2]) rfl ⟨rfl, sp_set3 bW (by omega) _ _ _⟩
     · go_upto_region 14 with (first
         | (go_at_call 53; refine (kh _).mono ?_; rintro e u1 ⟨rfl, g⟩; replace fz := fun j => (g.frozen (p := ⟨w.heap.size + 1, j, none⟩) (by first | (simp; done) | (simp; omega))).trans (fz j); replace bW := sp_call bW g; have zg := g.size; replace zY := Nat.lt_of_lt_of_le zY zg; replace y0 := sO g y0; replace y1 := sO g y1; replace r0 := sO g r0; replace r1 := sO g r1; replace r2 := sO g r2; clear g)
         | fail)
       have r1' := row _ y0 y1
       have r2' : RowI (u1.alloc (.cells #[.int .i64 0] 2)) (.slice (some ⟨u1.heap.size, 0, none⟩) 1 1) [0] := by
         refine Or.inr ⟨_, rfl, by simp, ?_⟩
         rintro j x hj
         rcases j with _ | j
         all_goals simp at hj
         subst hj
         simp [go_sem]
       obtain ⟨vv, Z, hr, rowz, gz⟩ := app_rows _ (r1'.on (sp_new (Below.refl _ _) _)) r2' (by simp) (by simp) 52
       replace gz : Below u1.heap.size u1 Z := sp_call (sp_new (Below.refl _ _) _) gz
       go_wp2_with (first
         | (at_builtin; refine wpList_append_at rfl _ _ 52 rfl _ _ rfl rfl _ _ hr ?_)
         | (go_at_call 129; refine (k2 _ _ (by simpa using rowz)).mono ?_; rintro e u2 ⟨rfl, g⟩; replace g := sp_call gz g; replace fz := fun j => (g.frozen (p := ⟨w.heap.size + 1, j, none⟩) (by first | (simp; done) | (simp; omega))).trans (fz j); replace bW := sp_call bW g; replace r0 := sO g r0; replace r1 := sO g r1; replace r2 := sO g r2; clear g)
         | fail)
       exact bodyPost_ret (v := .tuple #[.agg #[.bool me, .int .i64 ml, .int .i64 mh], .int .i64 tr]) (by simp [results, Tryz.results65, go_sem, r0, r1, r2]) rfl ⟨rfl, sp_set3 bW (by omega) _ _ _⟩
end Go.Proofs.YthjoigkckgdcaaaGreat

