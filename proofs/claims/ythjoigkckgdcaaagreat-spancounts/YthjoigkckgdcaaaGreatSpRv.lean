/- plumblineref08.IntOne. -/
import Derived.Test.YthjoigkckgdcaaaGreatSpRq
namespace Go.Proofs.YthjoigkckgdcaaaGreat
open Go.RowKit
set_option linter.unusedVariables false
set_option linter.unusedSimpArgs false
theorem wpList_append_at {P : Program} {ops : Array Oper} {rest : List Oper} {o : Oper} {a : Act} {w : World} {Q : Exit → Act → World → Prop} (hgd : o.guard = none) (s x : Operand) (t : TypeId) (ho : o.op = .call { callee := .builtin .append, args := #[s, x], argTypes := #[t, t] }) (v1 v2 : Value) (hs : a.eval s = v1) (hx : a.eval x = v2) (v' : Value) (w' : World)
    (hr : (Builtin.append_ #[t, t] o.type #[v1, v2]).run P w = .ok v' w') (h : wpList P ops Q rest (a.put o.dst v') w') : wpList P ops Q (o :: rest) a w :=
  wpList_plain hgd fun K hK => wp_append_at s x t ho v1 v2 hs hx v' w' hr (hK _ _ h)
set_option maxRecDepth 100000 in
set_option maxHeartbeats 6400000 in
theorem roneN (op : Int) (e1 : Bool) (a b : Int) (h : e1 = true ∨ (¬ op = 4 ∧ ¬ op = 5)) (w : World) :
    Calls Tryz.prog 65 #[.int .i64 op, .agg #[.bool e1, .int .i64 a, .int .i64 b]] w fun e w' => e = .returned (.tuple #[.agg #[.bool true, .int .i64 0, .int .i64 0], .int .i64 0]) ∧ Below w.heap.size w w' := by
  cases e1
  · rcases h with h | ⟨h4, h5⟩
    · cases h
    go_enter Tryz.func65, Tryz.ntmps65
    go_wp2_with (first
      | (go_at_call 113; refine (rnoneI _).mono ?_; rintro e w9 ⟨rfl, rfl⟩)
      | fail)
    exact bodyPost_ret (v := .tuple #[.agg #[.bool true, .int .i64 0, .int .i64 0], .int .i64 0]) (by simp [results, Tryz.results65, go_sem]) rfl ⟨rfl, by (repeat (first | with_reducible exact Below.refl _ _ | with_reducible assumption | with_reducible refine sp_new ?_ _ | with_reducible refine sp_set1i ?_ (by omega) _))⟩
  · clear h
    go_enter Tryz.func65, Tryz.ntmps65
    go_wp2_with (first
      | (go_at_call 113; refine (rnoneI _).mono ?_; rintro e w9 ⟨rfl, rfl⟩)
      | fail)
    exact bodyPost_ret (v := .tuple #[.agg #[.bool true, .int .i64 0, .int .i64 0], .int .i64 0]) (by simp [results, Tryz.results65, go_sem]) rfl ⟨rfl, by (repeat (first | with_reducible exact Below.refl _ _ | with_reducible assumption | with_reducible refine sp_new ?_ _ | with_reducible refine sp_set1i ?_ (by omega) _))⟩
set_option maxRecDepth 100000 in
set_option maxHeartbeats 6400000 in
theorem roneG (a b : Int) (da : -2147483648 ≤ a) (da2 : a ≤ 2147483647) (db : -2147483648 ≤ b) (db2 : b ≤ 2147483647) (w : World) :
    Calls Tryz.prog 65 #[.int .i64 4, .agg #[.bool false, .int .i64 a, .int .i64 b]] w fun e w' => e = .returned (.tuple #[.agg #[.bool (toldI [-b, -a]).1.1, .int .i64 (toldI [-b, -a]).1.2.1, .int .i64 (toldI [-b, -a]).1.2.2], .int .i64 (toldI [-b, -a]).2]) ∧ Below w.heap.size w w' := by
  have k2 := rclipR [-b, -a] (by simp) (by simp)
  generalize (toldI [-b, -a]) = R at *
  obtain ⟨⟨me, ml, mh⟩, tr⟩ := R
  dsimp only at *
  go_enter Tryz.func65, Tryz.ntmps65
  go_upto_region 1 with fail
  obtain ⟨W, hW⟩ : ∃ W, ((w.alloc (.cells #[.bool false, .int .i64 a, .int .i64 b] 47)).alloc (.cells #[.bool false, .int .i64 0, .int .i64 0] 47)) = W := ⟨_, rfl⟩
  have a0 : W.cell? ⟨w.heap.size, 0, none⟩ = some (.bool false) := by rw [← hW]; simp [go_sem]
  have a1 : W.cell? ⟨w.heap.size, 1, none⟩ = some (.int .i64 a) := by rw [← hW]; simp [go_sem]
  have a2 : W.cell? ⟨w.heap.size, 2, none⟩ = some (.int .i64 b) := by rw [← hW]; simp [go_sem]
  have r0 : W.cell? ⟨w.heap.size + 1, 0, none⟩ = some (.bool false) := by rw [← hW]; simp [go_sem]
  have r1 : W.cell? ⟨w.heap.size + 1, 1, none⟩ = some (.int .i64 0) := by rw [← hW]; simp [go_sem]
  have r2 : W.cell? ⟨w.heap.size + 1, 2, none⟩ = some (.int .i64 0) := by rw [← hW]; simp [go_sem]
  have bW : Below w.heap.size w W := by rw [← hW]; exact (sp_new (sp_new (Below.refl _ _) _) _)
  have zW : w.heap.size + 2 ≤ W.heap.size := by rw [← hW]; simp
  have fz : ∀ j, W.frozen? ⟨w.heap.size + 1, j, none⟩ = false := by intro j; rw [← hW]; simp [go_sem]
  rw [hW]
  clear hW
  go_wp2_with fail
  have row : RowR (W.alloc (.cells #[.int .i64 (-b), .int .i64 (-a)] 2)) (.slice (some ⟨W.heap.size, 0, none⟩) 2 2) [-b, -a] := by
    refine Or.inr ⟨_, _, rfl, by simp, ?_⟩
    rintro j x hj
    rcases j with _ | _ | j
    all_goals simp at hj
    all_goals subst hj
    all_goals simp [go_sem]
  refine (k2 _ _ row).mono ?_
  rintro e v2 ⟨rfl, g⟩
  replace g : Below W.heap.size W v2 := sp_call (sp_new (Below.refl _ _) _) g
  replace fz := fun j => (g.frozen (p := ⟨w.heap.size + 1, j, none⟩) (by first | (simp; done) | (simp; omega))).trans (fz j)
  replace bW := sp_call bW g
  replace r0 := sp_cell_on g r0; replace r1 := sp_cell_on g r1; replace r2 := sp_cell_on g r2
  clear g
  go_wp2_with fail
  exact bodyPost_ret (v := .tuple #[.agg #[.bool me, .int .i64 ml, .int .i64 mh], .int .i64 tr]) (by simp [results, Tryz.results65, go_sem, r0, r1, r2]) rfl ⟨rfl, sp_set3 bW (by omega) _ _ _⟩
/-- What the numbers of Abs are: both ends', and 0, if it is between. -/
def absL (a b : Int) (z : Bool) : List Int := [(if a < 0 then -a else a), (if b < 0 then -b else b)] ++ if z then [0] else []
set_option maxRecDepth 100000 in
set_option maxHeartbeats 6400000 in
theorem roneA (a b : Int) (da : -2147483648 ≤ a) (da2 : a ≤ 2147483647) (db : -2147483648 ≤ b) (db2 : b ≤ 2147483647) (zr : Bool) (kh : ∀ V, Calls Tryz.prog 53 #[.agg #[.bool false, .int .i64 a, .int .i64 b], .int .i64 0] V fun e w' => e = .returned (.bool zr) ∧ Below V.heap.size V w') (w : World) :
    Calls Tryz.prog 65 #[.int .i64 5, .agg #[.bool false, .int .i64 a, .int .i64 b]] w fun e w' => e = .returned (.tuple #[.agg #[.bool (toldI (absL a b zr)).1.1, .int .i64 (toldI (absL a b zr)).1.2.1, .int .i64 (toldI (absL a b zr)).1.2.2], .int .i64 (toldI (absL a b zr)).2]) ∧ Below w.heap.size w w' := by
  have k2 := rclipR (absL a b zr) (by simp [absL]) (by cases zr <;> simp [absL])
  obtain ⟨R, HR⟩ : ∃ R, Hid (toldI (absL a b zr) = R) := ⟨_, rfl⟩
  rw [HR.out] at k2 ⊢
  clear HR
  obtain ⟨⟨me, ml, mh⟩, tr⟩ := R
  dsimp only at *
  unfold absL at k2
  obtain ⟨a', ha'⟩ : ∃ x, Hid ((if a < 0 then -a else a) = x) := ⟨_, rfl⟩
  obtain ⟨b', hb'⟩ : ∃ x, Hid ((if b < 0 then -b else b) = x) := ⟨_, rfl⟩
  rw [ha'.out, hb'.out] at k2
  go_enter Tryz.func65, Tryz.ntmps65
  go_upto_region 1 with fail
  obtain ⟨W, hW⟩ : ∃ W, ((w.alloc (.cells #[.bool false, .int .i64 a, .int .i64 b] 47)).alloc (.cells #[.bool false, .int .i64 0, .int .i64 0] 47)) = W := ⟨_, rfl⟩
  have a0 : W.cell? ⟨w.heap.size, 0, none⟩ = some (.bool false) := by rw [← hW]; simp [go_sem]
  have a1 : W.cell? ⟨w.heap.size, 1, none⟩ = some (.int .i64 a) := by rw [← hW]; simp [go_sem]
  have a2 : W.cell? ⟨w.heap.size, 2, none⟩ = some (.int .i64 b) := by rw [← hW]; simp [go_sem]
  have r0 : W.cell? ⟨w.heap.size + 1, 0, none⟩ = some (.bool false) := by rw [← hW]; simp [go_sem]
  have r1 : W.cell? ⟨w.heap.size + 1, 1, none⟩ = some (.int .i64 0) := by rw [← hW]; simp [go_sem]
  have r2 : W.cell? ⟨w.heap.size + 1, 2, none⟩ = some (.int .i64 0) := by rw [← hW]; simp [go_sem]
  have bW : Below w.heap.size w W := by rw [← hW]; exact (sp_new (sp_new (Below.refl _ _) _) _)
  have zW : w.heap.size + 2 ≤ W.heap.size := by rw [← hW]; simp
  have fz : ∀ j, W.frozen? ⟨w.heap.size + 1, j, none⟩ = false := by intro j; rw [← hW]; simp [go_sem]
  rw [hW]
  clear hW
  go_upto_region 8 with fail
  obtain ⟨Y, hY⟩ : ∃ Y, W.alloc (.cells #[.int .i64 a, .int .i64 b] 2) = Y := ⟨_, rfl⟩
  obtain ⟨q, hq⟩ : ∃ q, W.heap.size = q := ⟨_, rfl⟩
  have y0 : Y.cell? ⟨q, 0, none⟩ = some (.int .i64 a) := by rw [← hY, ← hq]; simp [go_sem]
  have y1 : Y.cell? ⟨q, 1, none⟩ = some (.int .i64 b) := by rw [← hY, ← hq]; simp [go_sem]
  have fy : ∀ j, Y.frozen? ⟨q, j, none⟩ = false := by intro j; rw [← hY, ← hq]; simp [go_sem]
  have bY : Below W.heap.size W Y := by rw [← hY]; exact sp_new (Below.refl _ _) _
  have zY : q < Y.heap.size := by rw [← hY, ← hq]; simp
  rw [hY, hq]
  have zq : w.heap.size + 2 ≤ q := by omega
  replace fz : ∀ j, Y.frozen? ⟨w.heap.size + 1, j, none⟩ = false := fun j => (bY.frozen (p := ⟨w.heap.size + 1, j, none⟩) (by first | (simp; done) | (simp; omega))).trans (fz j)
  replace bW := sp_call bW bY
  replace a0 := sp_cell_on bY a0; replace a1 := sp_cell_on bY a1; replace a2 := sp_cell_on bY a2; replace r0 := sp_cell_on bY r0; replace r1 := sp_cell_on bY r1; replace r2 := sp_cell_on bY r2
  clear hY hq bY zW
  go_wp2_with fail
  go_loopw [7] (fun i wr => ∃ (WR : World) (j : Nat), WR = wr ∧ (j = 0 ∨ j = 1 ∨ j = 2) ∧ i = .int .i64 j ∧ wr.cell? ⟨q, 0, none⟩ = some (.int .i64 (if j = 0 then a else a')) ∧ wr.cell? ⟨q, 1, none⟩ = some (.int .i64 (if j = 2 then b' else b)) ∧ (∀ j, wr.frozen? ⟨q, j, none⟩ = false) ∧ (∀ j, wr.frozen? ⟨w.heap.size + 1, j, none⟩ = false) ∧ wr.cell? ⟨w.heap.size, 0, none⟩ = some (.bool false) ∧ wr.cell? ⟨w.heap.size, 1, none⟩ = some (.int .i64 a) ∧ wr.cell? ⟨w.heap.size, 2, none⟩ = some (.int .i64 b) ∧ wr.cell? ⟨w.heap.size + 1, 0, none⟩ = some (.bool false) ∧ wr.cell? ⟨w.heap.size + 1, 1, none⟩ = some (.int .i64 0) ∧ wr.cell? ⟨w.heap.size + 1, 2, none⟩ = some (.int .i64 0) ∧ q < wr.heap.size ∧ Below w.heap.size w wr) (fun i _ => 2 - (intOf i).toNat)
  case atStart => exact ⟨_, 0, rfl, by simp, rfl, by simpa using y0, by simpa using y1, fy, fz, a0, a1, a2, r0, r1, r2, zY, bW⟩
  case round =>
   clear y0 y1 fy fz a0 a1 a2 r0 r1 r2 zY bW
   obtain ⟨WR, j, rfl, hj, rfl, y0, y1, fy, fz, a0, a1, a2, r0, r1, r2, zY, bW⟩ := hrel
   rcases hj with rfl | rfl | rfl
   · simp only [if_true, show ¬ ((0 : Nat) = 2) by decide, if_false] at y0 y1
     have hv := ha'.out
     by_cases c0 : a < 0
     · rw [if_pos c0] at hv
       go_wp2_with fail
       go_roundw
       all_goals first
         | (simp [intOf]; done)
         | exact ⟨_, 1, rfl, by simp, rfl, by simp [go_sem, y0, y1, hv], by simp [go_sem, y0, y1, hv], by intro j; simp [go_sem, fy], by intro j; simp [go_sem, fz], sp_keep1 a0 (by omega) _, sp_keep1 a1 (by omega) _, sp_keep1 a2 (by omega) _, sp_keep1 r0 (by omega) _, sp_keep1 r1 (by omega) _, sp_keep1 r2 (by omega) _, by simpa using zY, sp_set1i bW (by omega) _⟩
     · rw [if_neg c0] at hv
       go_wp2_with fail
       go_roundw
       all_goals first
         | (simp [intOf]; done)
         | exact ⟨_, 1, rfl, by simp, rfl, by simp [y0, y1, hv], by simp [y0, y1, hv], fy, fz, a0, a1, a2, r0, r1, r2, zY, bW⟩
   · simp only [show ¬ ((1 : Nat) = 2) by decide, if_false, show ¬ ((1 : Nat) = 0) by decide] at y0 y1
     have hv := hb'.out
     by_cases c0 : b < 0
     · rw [if_pos c0] at hv
       go_wp2_with fail
       go_roundw
       all_goals first
         | (simp [intOf]; done)
         | exact ⟨_, 2, rfl, by simp, rfl, by simp [go_sem, y0, y1, hv], by simp [go_sem, y0, y1, hv], by intro j; simp [go_sem, fy], by intro j; simp [go_sem, fz], sp_keep1 a0 (by omega) _, sp_keep1 a1 (by omega) _, sp_keep1 a2 (by omega) _, sp_keep1 r0 (by omega) _, sp_keep1 r1 (by omega) _, sp_keep1 r2 (by omega) _, by simpa using zY, sp_set1i bW (by omega) _⟩
     · rw [if_neg c0] at hv
       go_wp2_with fail
       go_roundw
       all_goals first
         | (simp [intOf]; done)
         | exact ⟨_, 2, rfl, by simp, rfl, by simp [y0, y1, hv], by simp [y0, y1, hv], fy, fz, a0, a1, a2, r0, r1, r2, zY, bW⟩
   · simp only [if_true, show ¬ ((2 : Nat) = 0) by decide, if_false] at y0 y1
     have row : ∀ V : World, V.cell? ⟨q, 0, none⟩ = some (.int .i64 a') → V.cell? ⟨q, 1, none⟩ = some (.int .i64 b') → RowI V (.slice (some ⟨q, 0, none⟩) 2 2) [a', b'] := by
       intro V e0 e1
       refine Or.inr ⟨_, rfl, by simp, ?_⟩
       rintro j x hj
       rcases j with _ | _ | j
       all_goals simp at hj
       all_goals subst hj
       all_goals assumption
     cases zr
     · go_wp2_with (first
         | (go_at_call 53; refine (kh _).mono ?_; rintro e u1 ⟨rfl, g⟩; replace fz := fun j => (g.frozen (p := ⟨w.heap.size + 1, j, none⟩) (by first | (simp; done) | (simp; omega))).trans (fz j); replace bW := sp_call bW g; have zg := g.size; replace zY := Nat.lt_of_lt_of_le zY zg; replace y0 := sp_cell_on g y0; replace y1 := sp_cell_on g y1; replace r0 := sp_cell_on g r0; replace r1 := sp_cell_on g r1; replace r2 := sp_cell_on g r2; clear g)
         | fail)
       refine (k2 _ _ (by simpa using (row _ y0 y1).r)).mono ?_
       rintro e u2 ⟨rfl, g⟩
       replace fz := fun j => (g.frozen (p := ⟨w.heap.size + 1, j, none⟩) (by first | (simp; done) | (simp; omega))).trans (fz j)
       replace bW := sp_call bW g
       replace r0 := sp_cell_on g r0; replace r1 := sp_cell_on g r1; replace r2 := sp_cell_on g r2
       clear g
       go_wp2_with fail
       exact bodyPost_ret (v := .tuple #[.agg #[.bool me, .int .i64 ml, .int .i64 mh], .int .i64 tr]) (by simp [results, Tryz.results65, go_sem, r0, r1, r2]) rfl ⟨rfl, sp_set3 bW (by omega) _ _ _⟩
     · go_upto_region 14 with (first
         | (go_at_call 53; refine (kh _).mono ?_; rintro e u1 ⟨rfl, g⟩; replace fz := fun j => (g.frozen (p := ⟨w.heap.size + 1, j, none⟩) (by first | (simp; done) | (simp; omega))).trans (fz j); replace bW := sp_call bW g; have zg := g.size; replace zY := Nat.lt_of_lt_of_le zY zg; replace y0 := sp_cell_on g y0; replace y1 := sp_cell_on g y1; replace r0 := sp_cell_on g r0; replace r1 := sp_cell_on g r1; replace r2 := sp_cell_on g r2; clear g)
         | fail)
       have r1' := row _ y0 y1
       have r2' : RowI (u1.alloc (.cells #[.int .i64 0] 2)) (.slice (some ⟨u1.heap.size, 0, none⟩) 1 1) [0] := by
         refine Or.inr ⟨_, rfl, by simp, ?_⟩
         rintro j x hj
         rcases j with _ | j
         all_goals simp at hj
         subst hj
         simp [go_sem]
       obtain ⟨vv, Z, hr, rowz, gz⟩ := app_rows _ (r1'.on (sp_new (Below.refl _ _) _)) r2' (by simp) (by simp) 52
       replace gz : Below u1.heap.size u1 Z := sp_call (sp_new (Below.refl _ _) _) gz
       go_wp2_with (first
         | (at_builtin; refine wpList_append_at rfl _ _ 52 rfl _ _ rfl rfl _ _ hr ?_)
         | (go_at_call 129; refine (k2 _ _ (by simpa using rowz)).mono ?_; rintro e u2 ⟨rfl, g⟩; replace g := sp_call gz g; replace fz := fun j => (g.frozen (p := ⟨w.heap.size + 1, j, none⟩) (by first | (simp; done) | (simp; omega))).trans (fz j); replace bW := sp_call bW g; replace r0 := sp_cell_on g r0; replace r1 := sp_cell_on g r1; replace r2 := sp_cell_on g r2; clear g)
         | fail)
       exact bodyPost_ret (v := .tuple #[.agg #[.bool me, .int .i64 ml, .int .i64 mh], .int .i64 tr]) (by simp [results, Tryz.results65, go_sem, r0, r1, r2]) rfl ⟨rfl, sp_set3 bW (by omega) _ _ _⟩
end Go.Proofs.YthjoigkckgdcaaaGreat
