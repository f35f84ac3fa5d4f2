/- plumblineref08.IntTwo and IntOne. -/
import Derived.Test.YthjoigkckgdcaaaGreatSpRp
namespace Go.Proofs.YthjoigkckgdcaaaGreat
open Go.RowKit
set_option linter.unusedVariables false
set_option linter.unusedSimpArgs false
/-- What is told of results: nothing, where there are none. -/
def toldI (xs : List Int) : (Bool × Int × Int) × Int := match xs with | [] => ((true, 0, 0), 0) | x :: _ => (clipI x xs, ctI xs)
theorem rclipR (xs : List Int) (hne : xs ≠ []) (hn : xs.length ≤ 100) (v : Value) (w : World) (h : RowR w v xs) :
    Calls Tryz.prog 129 #[v] w fun e w' => e = .returned (.tuple #[.agg #[.bool (toldI xs).1.1, .int .i64 (toldI xs).1.2.1, .int .i64 (toldI xs).1.2.2], .int .i64 (toldI xs).2]) ∧ Below w.heap.size w w' := by
  rcases h with ⟨_, h⟩ | ⟨b, cap, rfl, _, h⟩
  · exact absurd h hne
  · cases xs with
    | nil => exact absurd rfl hne
    | cons x l => exact rclip_any x (x :: l) rfl hn b cap w h
set_option maxRecDepth 100000 in
set_option maxHeartbeats 6400000 in
theorem rtwoN (op : Int) (e1 : Bool) (a b : Int) (e2 : Bool) (c d : Int) (h : e1 = true ∨ e2 = true ∨ op < 8 ∨ 11 < op) (w : World) :
    Calls Tryz.prog 63 #[.int .i64 op, .agg #[.bool e1, .int .i64 a, .int .i64 b], .agg #[.bool e2, .int .i64 c, .int .i64 d]] w fun e w' => e = .returned (.tuple #[.agg #[.bool true, .int .i64 0, .int .i64 0], .int .i64 0]) ∧ Below w.heap.size w w' := by
  cases e1
  rotate_left
  · clear h
    go_enter Tryz.func63, Tryz.ntmps63
    go_wp2_with (first
      | (go_at_call 113; refine (rnoneI _).mono ?_; rintro e w9 ⟨rfl, rfl⟩)
      | fail)
    exact bodyPost_ret (v := .tuple #[.agg #[.bool true, .int .i64 0, .int .i64 0], .int .i64 0]) (by simp [results, Tryz.results63, go_sem]) rfl ⟨rfl, by (repeat (first | with_reducible exact Below.refl _ _ | with_reducible assumption | with_reducible refine sp_new ?_ _ | with_reducible refine sp_set1i ?_ (by omega) _))⟩
  cases e2
  rotate_left
  · clear h
    go_enter Tryz.func63, Tryz.ntmps63
    go_wp2_with (first
      | (go_at_call 113; refine (rnoneI _).mono ?_; rintro e w9 ⟨rfl, rfl⟩)
      | fail)
    exact bodyPost_ret (v := .tuple #[.agg #[.bool true, .int .i64 0, .int .i64 0], .int .i64 0]) (by simp [results, Tryz.results63, go_sem]) rfl ⟨rfl, by (repeat (first | with_reducible exact Below.refl _ _ | with_reducible assumption | with_reducible refine sp_new ?_ _ | with_reducible refine sp_set1i ?_ (by omega) _))⟩
  rcases h with h | h | h | h
  · cases h
  · cases h
  · skip
    go_enter Tryz.func63, Tryz.ntmps63
    go_wp2_with (first
      | (go_at_call 113; refine (rnoneI _).mono ?_; rintro e w9 ⟨rfl, rfl⟩)
      | fail)
    exact bodyPost_ret (v := .tuple #[.agg #[.bool true, .int .i64 0, .int .i64 0], .int .i64 0]) (by simp [results, Tryz.results63, go_sem]) rfl ⟨rfl, by (repeat (first | with_reducible exact Below.refl _ _ | with_reducible assumption | with_reducible refine sp_new ?_ _ | with_reducible refine sp_set1i ?_ (by omega) _))⟩
  · have h8 : ¬ op < 8 := by omega
    go_enter Tryz.func63, Tryz.ntmps63
    go_wp2_with (first
      | (go_at_call 113; refine (rnoneI _).mono ?_; rintro e w9 ⟨rfl, rfl⟩)
      | fail)
    exact bodyPost_ret (v := .tuple #[.agg #[.bool true, .int .i64 0, .int .i64 0], .int .i64 0]) (by simp [results, Tryz.results63, go_sem]) rfl ⟨rfl, by (repeat (first | with_reducible exact Below.refl _ _ | with_reducible assumption | with_reducible refine sp_new ?_ _ | with_reducible refine sp_set1i ?_ (by omega) _))⟩
set_option maxRecDepth 100000 in
set_option maxHeartbeats 6400000 in
theorem rtwo3 (op : Int) (hop : op = 8 ∨ op = 9 ∨ op = 10) (a b c d : Int) (h : ∀ x y, x = a ∨ x = b → y = c ∨ y = d → okI op x y) (w : World) :
    Calls Tryz.prog 63 #[.int .i64 op, .agg #[.bool false, .int .i64 a, .int .i64 b], .agg #[.bool false, .int .i64 c, .int .i64 d]] w fun e w' => e = .returned (.tuple #[.agg #[.bool (toldI [gI op a c, gI op a d, gI op b c, gI op b d]).1.1, .int .i64 (toldI [gI op a c, gI op a d, gI op b c, gI op b d]).1.2.1, .int .i64 (toldI [gI op a c, gI op a d, gI op b c, gI op b d]).1.2.2], .int .i64 (toldI [gI op a c, gI op a d, gI op b c, gI op b d]).2]) ∧ Below w.heap.size w w' := by
  have k1 := rcornI op (by omega) a b c d h
  have k2 := rclipR [gI op a c, gI op a d, gI op b c, gI op b d] (by simp) (by simp)
  generalize (toldI [gI op a c, gI op a d, gI op b c, gI op b d]) = R at *
  obtain ⟨⟨me, ml, mh⟩, tr⟩ := R
  dsimp only at *
  have n11 : (op != 11) = true := by simp; omega
  have n8 : ¬ op < 8 := by omega
  have n12 : ¬ 11 < op := by omega
  have n13 : ¬ op = 11 := by omega
  clear h hop
  go_enter Tryz.func63, Tryz.ntmps63
  go_upto_region 1 with fail
  obtain ⟨W, hW⟩ : ∃ W, (((w.alloc (.cells #[.bool false, .int .i64 a, .int .i64 b] 47)).alloc (.cells #[.bool false, .int .i64 c, .int .i64 d] 47)).alloc (.cells #[.bool false, .int .i64 0, .int .i64 0] 47)) = W := ⟨_, rfl⟩
  have a0 : W.cell? ⟨w.heap.size, 0, none⟩ = some (.bool false) := by rw [← hW]; simp [go_sem]
  have a1 : W.cell? ⟨w.heap.size, 1, none⟩ = some (.int .i64 a) := by rw [← hW]; simp [go_sem]
  have a2 : W.cell? ⟨w.heap.size, 2, none⟩ = some (.int .i64 b) := by rw [← hW]; simp [go_sem]
  have b0 : W.cell? ⟨w.heap.size + 1, 0, none⟩ = some (.bool false) := by rw [← hW]; simp [go_sem]
  have b1 : W.cell? ⟨w.heap.size + 1, 1, none⟩ = some (.int .i64 c) := by rw [← hW]; simp [go_sem]
  have b2 : W.cell? ⟨w.heap.size + 1, 2, none⟩ = some (.int .i64 d) := by rw [← hW]; simp [go_sem]
  have r0 : W.cell? ⟨w.heap.size + 1 + 1, 0, none⟩ = some (.bool false) := by rw [← hW]; simp [go_sem]
  have r1 : W.cell? ⟨w.heap.size + 1 + 1, 1, none⟩ = some (.int .i64 0) := by rw [← hW]; simp [go_sem]
  have r2 : W.cell? ⟨w.heap.size + 1 + 1, 2, none⟩ = some (.int .i64 0) := by rw [← hW]; simp [go_sem]
  have bW : Below w.heap.size w W := by rw [← hW]; exact (sp_new (sp_new (sp_new (Below.refl _ _) _) _) _)
  have zW : w.heap.size + 3 ≤ W.heap.size := by rw [← hW]; simp
  have fz : ∀ j, W.frozen? ⟨w.heap.size + 1 + 1, j, none⟩ = false := by intro j; rw [← hW]; simp [go_sem]
  rw [hW]
  clear hW
  go_wp2_with (first
    | (go_at_call 130; refine (k1 _).mono ?_; rintro e v1 ⟨vv, rfl, hrow, g⟩; replace fz := fun j => (g.frozen (p := ⟨w.heap.size + 1 + 1, j, none⟩) (by first | (simp; done) | (simp; omega))).trans (fz j); replace bW := sp_call bW g; have zq := g.size; replace zW := Nat.le_trans zW zq; clear zq; replace a0 := sp_cell_on g a0; replace a1 := sp_cell_on g a1; replace a2 := sp_cell_on g a2; replace b0 := sp_cell_on g b0; replace b1 := sp_cell_on g b1; replace b2 := sp_cell_on g b2; replace r0 := sp_cell_on g r0; replace r1 := sp_cell_on g r1; replace r2 := sp_cell_on g r2; clear g)
    | (go_at_call 129; refine (k2 _ _ hrow.r).mono ?_; rintro e v2 ⟨rfl, g⟩; replace fz := fun j => (g.frozen (p := ⟨w.heap.size + 1 + 1, j, none⟩) (by first | (simp; done) | (simp; omega))).trans (fz j); replace bW := sp_call bW g; have zq := g.size; replace zW := Nat.le_trans zW zq; clear zq; replace a0 := sp_cell_on g a0; replace a1 := sp_cell_on g a1; replace a2 := sp_cell_on g a2; replace b0 := sp_cell_on g b0; replace b1 := sp_cell_on g b1; replace b2 := sp_cell_on g b2; replace r0 := sp_cell_on g r0; replace r1 := sp_cell_on g r1; replace r2 := sp_cell_on g r2; clear g)
    | fail)
  exact bodyPost_ret (v := .tuple #[.agg #[.bool me, .int .i64 ml, .int .i64 mh], .int .i64 tr]) (by simp [results, Tryz.results63, go_sem, r0, r1, r2]) rfl ⟨rfl, sp_set3 bW (by omega) _ _ _⟩
theorem wp_append_at {P : Program} {o : Oper} {a : Act} {w : World} {K : Act → World → Prop} {Q : Exit → Act → World → Prop} (s x : Operand) (t : TypeId) (ho : o.op = .call { callee := .builtin .append, args := #[s, x], argTypes := #[t, t] }) (v1 v2 : Value) (hs : a.eval s = v1) (hx : a.eval x = v2) (v' : Value) (w' : World)
    (hr : (Builtin.append_ #[t, t] o.type #[v1, v2]).run P w = .ok v' w') (h : K (a.put o.dst v') w') : o.wp P a w K Q := by
  unfold Oper.wp execOp
  simp only [ho, resolve, invoke, builtin, Sem.run_bind, Sem.run_pure, Result.andThen_ok, List.map_toArray, List.map_cons, List.map_nil, hs, hx, hr]
  exact h
theorem cell_newI (W : World) (c : Array Value) (t : TypeId) (j : Nat) : (W.alloc (.cells c t)).cell? ⟨W.heap.size, j, none⟩ = c[j]? := by
  have := World.alloc_heap_new W (.cells c t)
  simp only [World.cell?, this]
  rfl
theorem rq_info : (Tryz.prog.info? 2).map (fun i => (i.zero, i.size, i.bytes)) = some (some (.int .i64 0), 1, 8) := by kernel_rfl
/-- What append makes of two rows of ints. -/
theorem app_rows {v1 v2 : Value} {xs ys : List Int} (W : World) (h1 : RowI W v1 xs) (h2 : RowI W v2 ys) (hx : xs.length ≤ 4) (hy : ys.length ≤ 4) (ty : TypeId) :
    ∃ v' W', (Builtin.append_ #[52, 52] ty #[v1, v2]).run Tryz.prog W = .ok v' W' ∧ RowR W' v' (xs ++ ys) ∧ Below W.heap.size W W' := by
  obtain ⟨i0, hi, hz0, hz1, hz2⟩ := info_parts rq_info
  have ht := Tryz.underlying52
  have cv : ∀ (b : Nat) (zs : List Int), (∀ j x, zs[j]? = some x → W.cell? ⟨b, j, none⟩ = some (.int .i64 x)) → ∀ j u, (zs.map (Value.int .i64))[j]? = some u → W.cell? ((⟨b, 0, none⟩ : Addr).add j) = some u := by
    intro b zs h j u hu
    rw [List.getElem?_map] at hu
    obtain ⟨x, hx, rfl⟩ := Option.map_eq_some_iff.1 hu
    have := h j x hx
    have e : ((⟨b, 0, none⟩ : Addr).add j) = ⟨b, j, none⟩ := by simp [Addr.add]; try (intro h; exact h.symm)
    rw [e]
    exact this
  rcases h1 with ⟨rfl, rfl⟩ | ⟨b1, rfl, l1, c1⟩
  · rcases h2 with ⟨rfl, rfl⟩ | ⟨b2, rfl, l2, c2⟩
    · refine ⟨_, _, run_append_nothing W _ _ _ _ i0 ht hi none 0 0 (Nat.le_refl _) _ (Src.ofNil W ht 0), Or.inl ⟨rfl, rfl⟩, Below.refl _ _⟩
    · refine ⟨_, _, run_append_nil W _ _ _ i0 _ ht hi hz0 ⟨b2, 0, none⟩ ys.length ys.length (ys.map (Value.int .i64)) (by rw [hz1]; simp) (cv b2 ys c2) l2 (by omega) (by rw [hz2]; omega), Or.inr ⟨_, _, by simp; exact ⟨rfl, rfl⟩, by simpa using l2, ?_⟩, ?_⟩
      · intro j x hj
        have hl : j < ys.length := (List.getElem?_eq_some_iff.1 (by simpa using hj)).1
        rw [List.nil_append] at hj
        refine (cell_newI W.drew _ _ j).trans ?_
        rw [Array.getElem?_append_left (by simpa using hl)]
        simp [hj]
      · exact sp_new (⟨rfl, rfl, rfl, Nat.le_refl _, fun _ _ => rfl⟩ : Below W.heap.size W W.drew) _
  · rcases h2 with ⟨rfl, rfl⟩ | ⟨b2, rfl, l2, c2⟩
    · exact ⟨_, _, run_append_nothing W _ _ _ _ i0 ht hi (some ⟨b1, 0, none⟩) xs.length xs.length (Nat.le_refl _) _ (Src.ofNil W ht 0), Or.inr ⟨b1, _, by simp; exact rfl, by simpa using l1, by simpa using c1⟩, Below.refl _ _⟩
    · refine ⟨_, _, run_append_grow W _ _ _ i0 _ ht hi hz0 ⟨b1, 0, none⟩ xs.length xs.length (xs.map (Value.int .i64)) (by rw [hz1]; simp) (cv b1 xs c1) ⟨b2, 0, none⟩ ys.length ys.length (ys.map (Value.int .i64)) (by rw [hz1]; simp) (cv b2 ys c2) (by omega) (by omega) ?_, Or.inr ⟨_, _, by simp; exact ⟨rfl, rfl⟩, by simp; omega, ?_⟩, ?_⟩
      · rw [hz2]
        have : Builtin.nextslicecap (xs.length + ys.length) xs.length ≤ 16 := by
          unfold Builtin.nextslicecap
          split <;> try split
          all_goals omega
        omega
      · intro j x hj
        have hl : j < xs.length + ys.length := by have := (List.getElem?_eq_some_iff.1 hj).1; simpa using this
        refine (cell_newI W.drew _ _ j).trans ?_
        rw [Array.getElem?_append_left (by simpa using hl)]
        have : (List.map (Value.int .i64) (xs ++ ys))[j]? = some (.int .i64 x) := by rw [List.getElem?_map, hj]; rfl
        simpa using this
      · exact sp_new (⟨rfl, rfl, rfl, Nat.le_refl _, fun _ _ => rfl⟩ : Below W.heap.size W W.drew) _
/-- The results of both ends with both ends of a range that may be Empty. -/
def cornL (op a b : Int) (p : Bool × Int × Int) : List Int := if p.1 then [] else [gI op a p.2.1, gI op a p.2.2, gI op b p.2.1, gI op b p.2.2]
theorem rcorn_any (op : Int) (hop : op = 8 ∨ op = 9 ∨ op = 10 ∨ op = 11) (a b : Int) (p : Bool × Int × Int) (h : p.1 = false → ∀ x y, x = a ∨ x = b → y = p.2.1 ∨ y = p.2.2 → okI op x y) (w : World) : Calls Tryz.prog 130 #[.int .i64 op, .agg #[.bool false, .int .i64 a, .int .i64 b], .agg #[.bool p.1, .int .i64 p.2.1, .int .i64 p.2.2]] w fun e w' => ∃ v, e = .returned v ∧ RowI w' v (cornL op a b p) ∧ Below w.heap.size w w' := by
  obtain ⟨e, l, r⟩ := p
  unfold cornL
  cases e
  · exact rcornI op hop a b l r (h rfl) w
  · exact (rcornN op a b l r w).mono fun e w' h => ⟨_, h.1, Or.inl ⟨rfl, rfl⟩, h.2⟩
set_option maxRecDepth 100000 in
set_option maxHeartbeats 6400000 in
theorem rtwod (a b c d : Int) (m1 m2 : Bool × Int × Int) (zr : Bool) (ko1 : ∀ V, Calls Tryz.prog 49 #[.int .i64 (-2147483648), .int .i64 (-1)] V fun e w' => e = .returned (.agg #[.bool false, .int .i64 (-2147483648), .int .i64 (-1)]) ∧ Below V.heap.size V w') (ko2 : ∀ V, Calls Tryz.prog 49 #[.int .i64 1, .int .i64 2147483647] V fun e w' => e = .returned (.agg #[.bool false, .int .i64 1, .int .i64 2147483647]) ∧ Below V.heap.size V w')
    (km1 : ∀ V, Calls Tryz.prog 55 #[.agg #[.bool false, .int .i64 c, .int .i64 d], .agg #[.bool false, .int .i64 (-2147483648), .int .i64 (-1)]] V fun e w' => e = .returned (.agg #[.bool m1.1, .int .i64 m1.2.1, .int .i64 m1.2.2]) ∧ Below V.heap.size V w') (km2 : ∀ V, Calls Tryz.prog 55 #[.agg #[.bool false, .int .i64 c, .int .i64 d], .agg #[.bool false, .int .i64 1, .int .i64 2147483647]] V fun e w' => e = .returned (.agg #[.bool m2.1, .int .i64 m2.2.1, .int .i64 m2.2.2]) ∧ Below V.heap.size V w')
    (kc1 : ∀ V, Calls Tryz.prog 130 #[.int .i64 11, .agg #[.bool false, .int .i64 a, .int .i64 b], .agg #[.bool m1.1, .int .i64 m1.2.1, .int .i64 m1.2.2]] V fun e w' => ∃ v, e = .returned v ∧ RowI w' v (cornL 11 a b m1) ∧ Below V.heap.size V w') (kc2 : ∀ V, Calls Tryz.prog 130 #[.int .i64 11, .agg #[.bool false, .int .i64 a, .int .i64 b], .agg #[.bool m2.1, .int .i64 m2.2.1, .int .i64 m2.2.2]] V fun e w' => ∃ v, e = .returned v ∧ RowI w' v (cornL 11 a b m2) ∧ Below V.heap.size V w')
    (kh : ∀ V, Calls Tryz.prog 53 #[.agg #[.bool false, .int .i64 c, .int .i64 d], .int .i64 0] V fun e w' => e = .returned (.bool zr) ∧ Below V.heap.size V w') (w : World) :
    Calls Tryz.prog 63 #[.int .i64 11, .agg #[.bool false, .int .i64 a, .int .i64 b], .agg #[.bool false, .int .i64 c, .int .i64 d]] w fun e w' => e = .returned (.tuple #[.agg #[.bool (toldI (cornL 11 a b m1 ++ cornL 11 a b m2)).1.1, .int .i64 (toldI (cornL 11 a b m1 ++ cornL 11 a b m2)).1.2.1, .int .i64 (toldI (cornL 11 a b m1 ++ cornL 11 a b m2)).1.2.2], .int .i64 (if (cornL 11 a b m1 ++ cornL 11 a b m2) = [] then (if zr then 16 else 0) else bits BinOp.or IntKind.i64 (if zr then 16 else 0) (toldI (cornL 11 a b m1 ++ cornL 11 a b m2)).2)]) ∧ Below w.heap.size w w' := by
  have hl1 : (cornL 11 a b m1).length ≤ 4 := by unfold cornL; split <;> simp
  have hl2 : (cornL 11 a b m2).length ≤ 4 := by unfold cornL; split <;> simp
  have k2 : ∀ (h : (cornL 11 a b m1 ++ cornL 11 a b m2) ≠ []) (v : Value) (V : World), RowR V v (cornL 11 a b m1 ++ cornL 11 a b m2) → _ := fun h v V r => rclipR (cornL 11 a b m1 ++ cornL 11 a b m2) h (by simp; omega) v V r
  have kb := rbit_i5
  have hnil : toldI [] = ((true, 0, 0), 0) := rfl
  generalize cornL 11 a b m1 = L1 at *
  generalize cornL 11 a b m2 = L2 at *
  obtain ⟨m1e, m1l, m1h⟩ := m1
  obtain ⟨m2e, m2l, m2h⟩ := m2
  dsimp only at *
  obtain ⟨T, HT⟩ : ∃ T : Int, Hid ((if zr then 16 else 0) = T) := ⟨_, rfl⟩
  rw [HT.out]
  obtain ⟨R, HR⟩ : ∃ R, Hid (toldI (L1 ++ L2) = R) := ⟨_, rfl⟩
  rw [HR.out] at k2 ⊢
  obtain ⟨⟨me, ml, mh⟩, tr⟩ := R
  dsimp only at *
  obtain ⟨FT, HF⟩ : ∃ F, Hid ((if L1 ++ L2 = [] then T else bits BinOp.or IntKind.i64 T tr) = F) := ⟨_, rfl⟩
  rw [HF.out]
  go_enter Tryz.func63, Tryz.ntmps63
  go_upto_region 1 with fail
  obtain ⟨W, hW⟩ : ∃ W, (((w.alloc (.cells #[.bool false, .int .i64 a, .int .i64 b] 47)).alloc (.cells #[.bool false, .int .i64 c, .int .i64 d] 47)).alloc (.cells #[.bool false, .int .i64 0, .int .i64 0] 47)) = W := ⟨_, rfl⟩
  have a0 : W.cell? ⟨w.heap.size, 0, none⟩ = some (.bool false) := by rw [← hW]; simp [go_sem]
  have a1 : W.cell? ⟨w.heap.size, 1, none⟩ = some (.int .i64 a) := by rw [← hW]; simp [go_sem]
  have a2 : W.cell? ⟨w.heap.size, 2, none⟩ = some (.int .i64 b) := by rw [← hW]; simp [go_sem]
  have b0 : W.cell? ⟨w.heap.size + 1, 0, none⟩ = some (.bool false) := by rw [← hW]; simp [go_sem]
  have b1 : W.cell? ⟨w.heap.size + 1, 1, none⟩ = some (.int .i64 c) := by rw [← hW]; simp [go_sem]
  have b2 : W.cell? ⟨w.heap.size + 1, 2, none⟩ = some (.int .i64 d) := by rw [← hW]; simp [go_sem]
  have r0 : W.cell? ⟨w.heap.size + 1 + 1, 0, none⟩ = some (.bool false) := by rw [← hW]; simp [go_sem]
  have r1 : W.cell? ⟨w.heap.size + 1 + 1, 1, none⟩ = some (.int .i64 0) := by rw [← hW]; simp [go_sem]
  have r2 : W.cell? ⟨w.heap.size + 1 + 1, 2, none⟩ = some (.int .i64 0) := by rw [← hW]; simp [go_sem]
  have bW : Below w.heap.size w W := by rw [← hW]; exact (sp_new (sp_new (sp_new (Below.refl _ _) _) _) _)
  have zW : w.heap.size + 3 ≤ W.heap.size := by rw [← hW]; simp
  have fz : ∀ j, W.frozen? ⟨w.heap.size + 1 + 1, j, none⟩ = false := by intro j; rw [← hW]; simp [go_sem]
  rw [hW]
  clear hW
  cases zr
  · have HT2 := HT.out
    simp at HT2
    subst HT2
    go_upto_region 8 with (first
      | (go_at_call 53; refine (kh _).mono ?_; rintro e u1 ⟨rfl, g⟩; replace fz := fun j => (g.frozen (p := ⟨w.heap.size + 1 + 1, j, none⟩) (by first | (simp; done) | (simp; omega))).trans (fz j); replace bW := sp_call bW g; have zq := g.size; replace zW := Nat.le_trans zW zq; clear zq; replace a0 := sp_cell_on g a0; replace a1 := sp_cell_on g a1; replace a2 := sp_cell_on g a2; replace b0 := sp_cell_on g b0; replace b1 := sp_cell_on g b1; replace b2 := sp_cell_on g b2; replace r0 := sp_cell_on g r0; replace r1 := sp_cell_on g r1; replace r2 := sp_cell_on g r2; clear g)
      | (go_at_call 71; refine (kb _).mono ?_; rintro e u2 ⟨rfl, rfl⟩)
      | fail)
    clear kh kb HT
    generalize hWv : u1 = W at *
    clear hWv
    have hall : ∀ X9, Below W.heap.size W X9 → (X9.cell? ⟨w.heap.size, 0, none⟩ = some (.bool false) ∧ X9.cell? ⟨w.heap.size, 1, none⟩ = some (.int .i64 a) ∧ X9.cell? ⟨w.heap.size, 2, none⟩ = some (.int .i64 b) ∧ X9.cell? ⟨w.heap.size + 1, 0, none⟩ = some (.bool false) ∧ X9.cell? ⟨w.heap.size + 1, 1, none⟩ = some (.int .i64 c) ∧ X9.cell? ⟨w.heap.size + 1, 2, none⟩ = some (.int .i64 d)) := fun X9 cc => ⟨sp_cell_on cc a0, sp_cell_on cc a1, sp_cell_on cc a2, sp_cell_on cc b0, sp_cell_on cc b1, sp_cell_on cc b2⟩
    have cc : Below W.heap.size W W.drew := (Below.refl _ _).drew
    go_cut [9] from 39 to 51 (fun s X => ∃ (W3 : World), W3 = X ∧ RowR X s (L1 ++ L2) ∧ Below W.heap.size W X)
    case first =>
     refine wp_region_held_drew (S := (fun w' => w'.cell? ⟨w.heap.size, 0, none⟩ = some (.bool false) ∧ w'.cell? ⟨w.heap.size, 1, none⟩ = some (.int .i64 a) ∧ w'.cell? ⟨w.heap.size, 2, none⟩ = some (.int .i64 b) ∧ w'.cell? ⟨w.heap.size + 1, 0, none⟩ = some (.bool false) ∧ w'.cell? ⟨w.heap.size + 1, 1, none⟩ = some (.int .i64 c) ∧ w'.cell? ⟨w.heap.size + 1, 2, none⟩ = some (.int .i64 d))) (by kernel_rfl) (hall _ cc) (fun hH => ?_)
     refine wpAnyH_take (i := 0) (oi := _) (v := .int .i64 11) rfl (by kernel_rfl) (by kernel_rfl) (by kernel_rfl) (fun _ _ _ h => h) (Or.inl ⟨by rfl, fun w' hSw => by obtain ⟨za0, za1, za2, zb0, zb1, zb2⟩ := hSw; go_simp⟩) hH ?_
     simp only [Act.put, List.getElem_toArray, List.getElem_cons_zero, List.getElem_cons_succ, List.setIfInBounds_toArray, List.set_cons_zero, List.set_cons_succ]
     refine wpAnyH_take (i := 1) (oi := _) (v := .agg #[.bool false, .int .i64 a, .int .i64 b]) rfl (by kernel_rfl) (by kernel_rfl) (by kernel_rfl) (fun _ _ _ h => h) (Or.inl ⟨by rfl, fun w' hSw => by obtain ⟨za0, za1, za2, zb0, zb1, zb2⟩ := hSw; go_simp⟩) hH ?_
     simp only [Act.put, List.getElem_toArray, List.getElem_cons_zero, List.getElem_cons_succ, List.setIfInBounds_toArray, List.set_cons_zero, List.set_cons_succ]
     refine wpAnyH_take (i := 2) (oi := _) (v := .agg #[.bool false, .int .i64 c, .int .i64 d]) rfl (by kernel_rfl) (by kernel_rfl) (by kernel_rfl) (fun _ _ _ h => h) (Or.inl ⟨by rfl, fun w' hSw => by obtain ⟨za0, za1, za2, zb0, zb1, zb2⟩ := hSw; go_simp⟩) hH ?_
     simp only [Act.put, List.getElem_toArray, List.getElem_cons_zero, List.getElem_cons_succ, List.setIfInBounds_toArray, List.set_cons_zero, List.set_cons_succ]
     refine wpAnyH_take (i := 6) (oi := _) (v := .int .i64 11) rfl (by kernel_rfl) (by kernel_rfl) (by kernel_rfl) (fun _ _ _ h => h) (Or.inl ⟨by rfl, fun w' hSw => by obtain ⟨za0, za1, za2, zb0, zb1, zb2⟩ := hSw; go_simp⟩) hH ?_
     simp only [Act.put, List.getElem_toArray, List.getElem_cons_zero, List.getElem_cons_succ, List.setIfInBounds_toArray, List.set_cons_zero, List.set_cons_succ]
     refine wpAnyH_take (i := 7) (oi := _) (v := .agg #[.bool false, .int .i64 a, .int .i64 b]) rfl (by kernel_rfl) (by kernel_rfl) (by kernel_rfl) (fun _ _ _ h => h) (Or.inl ⟨by rfl, fun w' hSw => by obtain ⟨za0, za1, za2, zb0, zb1, zb2⟩ := hSw; go_simp⟩) hH ?_
     simp only [Act.put, List.getElem_toArray, List.getElem_cons_zero, List.getElem_cons_succ, List.setIfInBounds_toArray, List.set_cons_zero, List.set_cons_succ]
     refine wpAnyH_take (i := 8) (oi := _) (v := .agg #[.bool false, .int .i64 c, .int .i64 d]) rfl (by kernel_rfl) (by kernel_rfl) (by kernel_rfl) (fun _ _ _ h => h) (Or.inl ⟨by rfl, fun w' hSw => by obtain ⟨za0, za1, za2, zb0, zb1, zb2⟩ := hSw; go_simp⟩) hH ?_
     simp only [Act.put, List.getElem_toArray, List.getElem_cons_zero, List.getElem_cons_succ, List.setIfInBounds_toArray, List.set_cons_zero, List.set_cons_succ]
     generalize hY : W.drew = Y0 at *
     clear hY
     refine wpAnyH_ready (rs := [3]) (by kernel_rfl) (by simp) (AllReadyH.cons (o := _) rfl (fun K hK => ?_) AllReadyH.nil)
     go_simp
     refine (ko1 _).mono ?_
     rintro e Y1 ⟨rfl, g⟩
     replace cc := sp_call cc g
     clear g
     go_wp2_with fail
     refine hK.out _ _ (hall _ cc) (fun hH => ?_)
     clear hK K
     try simp only [Act.put, List.getElem_toArray, List.getElem_cons_zero, List.getElem_cons_succ, List.setIfInBounds_toArray, List.set_cons_zero, List.set_cons_succ]
     refine wpAnyH_ready (rs := [4]) (by kernel_rfl) (by simp) (AllReadyH.cons (o := _) rfl (fun K hK => ?_) AllReadyH.nil)
     go_simp
     refine (km1 _).mono ?_
     rintro e Y2 ⟨rfl, g⟩
     replace cc := sp_call cc g
     clear g
     go_wp2_with fail
     refine hK.out _ _ (hall _ cc) (fun hH => ?_)
     clear hK K
     try simp only [Act.put, List.getElem_toArray, List.getElem_cons_zero, List.getElem_cons_succ, List.setIfInBounds_toArray, List.set_cons_zero, List.set_cons_succ]
     refine wpAnyH_ready (rs := [5]) (by kernel_rfl) (by simp) (AllReadyH.cons (o := _) rfl (fun K hK => ?_) AllReadyH.nil)
     go_simp
     refine (kc1 _).mono ?_
     rintro e Y3 ⟨v1, rfl, row1, g⟩
     replace cc := sp_call cc g
     clear g
     go_wp2_with fail
     refine hK.out _ _ (hall _ cc) (fun hH => ?_)
     clear hK K
     try simp only [Act.put, List.getElem_toArray, List.getElem_cons_zero, List.getElem_cons_succ, List.setIfInBounds_toArray, List.set_cons_zero, List.set_cons_succ]
     refine wpAnyH_ready (rs := [9]) (by kernel_rfl) (by simp) (AllReadyH.cons (o := _) rfl (fun K hK => ?_) AllReadyH.nil)
     go_simp
     refine (ko2 _).mono ?_
     rintro e Y4 ⟨rfl, g⟩
     replace row1 := row1.on g
     replace cc := sp_call cc g
     clear g
     go_wp2_with fail
     refine hK.out _ _ (hall _ cc) (fun hH => ?_)
     clear hK K
     try simp only [Act.put, List.getElem_toArray, List.getElem_cons_zero, List.getElem_cons_succ, List.setIfInBounds_toArray, List.set_cons_zero, List.set_cons_succ]
     refine wpAnyH_ready (rs := [10]) (by kernel_rfl) (by simp) (AllReadyH.cons (o := _) rfl (fun K hK => ?_) AllReadyH.nil)
     go_simp
     refine (km2 _).mono ?_
     rintro e Y5 ⟨rfl, g⟩
     replace row1 := row1.on g
     replace cc := sp_call cc g
     clear g
     go_wp2_with fail
     refine hK.out _ _ (hall _ cc) (fun hH => ?_)
     clear hK K
     try simp only [Act.put, List.getElem_toArray, List.getElem_cons_zero, List.getElem_cons_succ, List.setIfInBounds_toArray, List.set_cons_zero, List.set_cons_succ]
     refine wpAnyH_ready (rs := [11]) (by kernel_rfl) (by simp) (AllReadyH.cons (o := _) rfl (fun K hK => ?_) AllReadyH.nil)
     go_simp
     refine (kc2 _).mono ?_
     rintro e Y6 ⟨v2, rfl, row2, g⟩
     replace row1 := row1.on g
     replace cc := sp_call cc g
     clear g
     go_wp2_with fail
     refine hK.out _ _ (hall _ cc) (fun hH => ?_)
     clear hK K
     try simp only [Act.put, List.getElem_toArray, List.getElem_cons_zero, List.getElem_cons_succ, List.setIfInBounds_toArray, List.set_cons_zero, List.set_cons_succ]
     obtain ⟨vv, Z, hr, rowz, gz⟩ := app_rows Y6 row1 row2 hl1 hl2 52
     refine wpAnyH_ready (rs := [12]) (by kernel_rfl) (by simp) (AllReadyH.cons (o := _) rfl (fun K hK => ?_) AllReadyH.nil)
     refine Eq.mpr (if_pos (by rfl)) ?_
     refine wp_append_at (.tmp 44) (.tmp 50) 52 rfl _ _ rfl rfl _ _ hr ?_
     replace cc := sp_call cc gz
     refine hK.out _ _ (hall _ cc) (fun hH => ?_)
     clear hK K
     simp only [Act.put, List.getElem_toArray, List.getElem_cons_zero, List.getElem_cons_succ, List.setIfInBounds_toArray, List.set_cons_zero, List.set_cons_succ]
     refine wpAnyH_take (i := 13) (oi := _) (v := vv) rfl (by kernel_rfl) (by kernel_rfl) (by kernel_rfl) (fun _ _ _ h => h) (Or.inl ⟨by rfl, fun w' hSw => by obtain ⟨za0, za1, za2, zb0, zb1, zb2⟩ := hSw; go_simp⟩) hH ?_
     simp only [Act.put, List.getElem_toArray, List.getElem_cons_zero, List.getElem_cons_succ, List.setIfInBounds_toArray, List.set_cons_zero, List.set_cons_succ]
     refine wpAnyH_done (by kernel_rfl) ?_ _
     go_wp2_with fail
     go_meet
     exact ⟨_, rfl, rowz, cc⟩
    case rest =>
     obtain ⟨W3, rfl, row, cX⟩ := hcut
     replace fz := fun j => (cX.frozen (p := ⟨w.heap.size + 1 + 1, j, none⟩) (by first | (simp; done) | (simp; omega))).trans (fz j)
     replace bW := sp_call bW cX
     replace zW := Nat.le_trans zW cX.size
     replace a0 := sp_cell_on cX a0; replace a1 := sp_cell_on cX a1; replace a2 := sp_cell_on cX a2; replace b0 := sp_cell_on cX b0; replace b1 := sp_cell_on cX b1; replace b2 := sp_cell_on cX b2; replace r0 := sp_cell_on cX r0; replace r1 := sp_cell_on cX r1; replace r2 := sp_cell_on cX r2
     clear cX hall ko1 ko2 km1 km2 kc1 kc2
     by_cases hn : L1 ++ L2 = []
     · have hrow := row
       rcases hrow with ⟨rfl, _⟩ | ⟨bq, capq, _, hq, _⟩
       rotate_left
       · rw [hn] at hq; simp at hq
       have HF2 := HF.out
       rw [if_pos hn] at HF2
       have HR2 := HR.out
       rw [hn, hnil] at HR2
       simp only [Prod.mk.injEq] at HR2
       obtain ⟨⟨rfl, rfl, rfl⟩, rfl⟩ := HR2
       subst HF2
       clear HF HR k2 row
       have nb : ∀ V, Calls Tryz.prog 113 #[] V fun e w' => e = .returned (.agg #[.bool true, .int .i64 0, .int .i64 0]) ∧ Below V.heap.size V w' := fun V => (rnoneI V).mono fun e w' h => ⟨h.1, by rw [h.2]; exact sp_new (Below.refl _ _) _⟩
       go_wp2_with (first
         | (go_at_call 113; refine (nb _).mono ?_; rintro e w9 ⟨rfl, g⟩; replace fz := fun j => (g.frozen (p := ⟨w.heap.size + 1 + 1, j, none⟩) (by first | (simp; done) | (simp; omega))).trans (fz j); replace bW := sp_call bW g; have zq := g.size; replace zW := Nat.le_trans zW zq; replace r0 := sp_cell_on g r0; replace r1 := sp_cell_on g r1; replace r2 := sp_cell_on g r2; clear g)
         | fail)
       exact bodyPost_ret (v := .tuple #[.agg #[.bool true, .int .i64 0, .int .i64 0], .int .i64 0]) (by simp [results, Tryz.results63, go_sem, r0, r1, r2]) rfl ⟨rfl, by (repeat (first | with_reducible exact Below.refl _ _ | with_reducible assumption | with_reducible refine sp_new ?_ _ | with_reducible refine sp_set1i ?_ (by omega) _))⟩
     · have HF2 := HF.out
       rw [if_neg hn] at HF2
       have hrow := row
       rcases hrow with ⟨_, hq⟩ | ⟨bq, capq, rfl, hq, _⟩
       · exact absurd hq hn
       have hq' : ((L1 ++ L2).length : Int) ≠ 0 := by omega
       have k3 := fun V (r : RowR V (.slice (some ⟨bq, 0, none⟩) (L1 ++ L2).length capq) (L1 ++ L2)) => k2 hn _ V r
       subst HF2
       clear HF HR k2
       generalize (L1 ++ L2).length = N at *
       have hq2 : ¬ N = 0 := by omega
       go_wp2_with fail
       refine (k3 _ row).mono ?_
       rintro e w9 ⟨rfl, g⟩
       replace fz : ∀ j, w9.frozen? ⟨w.heap.size + 1 + 1, j, none⟩ = false := fun j => (g.frozen (p := ⟨w.heap.size + 1 + 1, j, none⟩) (by first | (simp; done) | (simp; omega))).trans (fz j)
       replace bW := sp_call bW g
       have zq := g.size
       replace zW := Nat.le_trans zW zq
       have zl : w.heap.size + 1 + 1 < w9.heap.size := by omega
       replace r0 := sp_cell_on g r0; replace r1 := sp_cell_on g r1; replace r2 := sp_cell_on g r2
       clear g
       go_wp2_with fail
       exact bodyPost_ret (v := .tuple #[.agg #[.bool me, .int .i64 ml, .int .i64 mh], .int .i64 (bits BinOp.or IntKind.i64 0 tr)]) (by simp [results, Tryz.results63, go_sem, r0, r1, r2, zl, Nat.ne_of_lt zl]) rfl ⟨rfl, by (repeat (first | with_reducible exact Below.refl _ _ | with_reducible assumption | with_reducible refine sp_new ?_ _ | with_reducible refine sp_set1i ?_ (by omega) _))⟩
  · have HT2 := HT.out
    simp at HT2
    subst HT2
    go_upto_region 8 with (first
      | (go_at_call 53; refine (kh _).mono ?_; rintro e u1 ⟨rfl, g⟩; replace fz := fun j => (g.frozen (p := ⟨w.heap.size + 1 + 1, j, none⟩) (by first | (simp; done) | (simp; omega))).trans (fz j); replace bW := sp_call bW g; have zq := g.size; replace zW := Nat.le_trans zW zq; clear zq; replace a0 := sp_cell_on g a0; replace a1 := sp_cell_on g a1; replace a2 := sp_cell_on g a2; replace b0 := sp_cell_on g b0; replace b1 := sp_cell_on g b1; replace b2 := sp_cell_on g b2; replace r0 := sp_cell_on g r0; replace r1 := sp_cell_on g r1; replace r2 := sp_cell_on g r2; clear g)
      | (go_at_call 71; refine (kb _).mono ?_; rintro e u2 ⟨rfl, rfl⟩)
      | fail)
    clear kh kb HT
    generalize hWv : u2 = W at *
    clear hWv
    have hall : ∀ X9, Below W.heap.size W X9 → (X9.cell? ⟨w.heap.size, 0, none⟩ = some (.bool false) ∧ X9.cell? ⟨w.heap.size, 1, none⟩ = some (.int .i64 a) ∧ X9.cell? ⟨w.heap.size, 2, none⟩ = some (.int .i64 b) ∧ X9.cell? ⟨w.heap.size + 1, 0, none⟩ = some (.bool false) ∧ X9.cell? ⟨w.heap.size + 1, 1, none⟩ = some (.int .i64 c) ∧ X9.cell? ⟨w.heap.size + 1, 2, none⟩ = some (.int .i64 d)) := fun X9 cc => ⟨sp_cell_on cc a0, sp_cell_on cc a1, sp_cell_on cc a2, sp_cell_on cc b0, sp_cell_on cc b1, sp_cell_on cc b2⟩
    have cc : Below W.heap.size W W.drew := (Below.refl _ _).drew
    go_cut [9] from 39 to 51 (fun s X => ∃ (W3 : World), W3 = X ∧ RowR X s (L1 ++ L2) ∧ Below W.heap.size W X)
    case first =>
     refine wp_region_held_drew (S := (fun w' => w'.cell? ⟨w.heap.size, 0, none⟩ = some (.bool false) ∧ w'.cell? ⟨w.heap.size, 1, none⟩ = some (.int .i64 a) ∧ w'.cell? ⟨w.heap.size, 2, none⟩ = some (.int .i64 b) ∧ w'.cell? ⟨w.heap.size + 1, 0, none⟩ = some (.bool false) ∧ w'.cell? ⟨w.heap.size + 1, 1, none⟩ = some (.int .i64 c) ∧ w'.cell? ⟨w.heap.size + 1, 2, none⟩ = some (.int .i64 d))) (by kernel_rfl) (hall _ cc) (fun hH => ?_)
     refine wpAnyH_take (i := 0) (oi := _) (v := .int .i64 11) rfl (by kernel_rfl) (by kernel_rfl) (by kernel_rfl) (fun _ _ _ h => h) (Or.inl ⟨by rfl, fun w' hSw => by obtain ⟨za0, za1, za2, zb0, zb1, zb2⟩ := hSw; go_simp⟩) hH ?_
     simp only [Act.put, List.getElem_toArray, List.getElem_cons_zero, List.getElem_cons_succ, List.setIfInBounds_toArray, List.set_cons_zero, List.set_cons_succ]
     refine wpAnyH_take (i := 1) (oi := _) (v := .agg #[.bool false, .int .i64 a, .int .i64 b]) rfl (by kernel_rfl) (by kernel_rfl) (by kernel_rfl) (fun _ _ _ h => h) (Or.inl ⟨by rfl, fun w' hSw => by obtain ⟨za0, za1, za2, zb0, zb1, zb2⟩ := hSw; go_simp⟩) hH ?_
     simp only [Act.put, List.getElem_toArray, List.getElem_cons_zero, List.getElem_cons_succ, List.setIfInBounds_toArray, List.set_cons_zero, List.set_cons_succ]
     refine wpAnyH_take (i := 2) (oi := _) (v := .agg #[.bool false, .int .i64 c, .int .i64 d]) rfl (by kernel_rfl) (by kernel_rfl) (by kernel_rfl) (fun _ _ _ h => h) (Or.inl ⟨by rfl, fun w' hSw => by obtain ⟨za0, za1, za2, zb0, zb1, zb2⟩ := hSw; go_simp⟩) hH ?_
     simp only [Act.put, List.getElem_toArray, List.getElem_cons_zero, List.getElem_cons_succ, List.setIfInBounds_toArray, List.set_cons_zero, List.set_cons_succ]
     refine wpAnyH_take (i := 6) (oi := _) (v := .int .i64 11) rfl (by kernel_rfl) (by kernel_rfl) (by kernel_rfl) (fun _ _ _ h => h) (Or.inl ⟨by rfl, fun w' hSw => by obtain ⟨za0, za1, za2, zb0, zb1, zb2⟩ := hSw; go_simp⟩) hH ?_
     simp only [Act.put, List.getElem_toArray, List.getElem_cons_zero, List.getElem_cons_succ, List.setIfInBounds_toArray, List.set_cons_zero, List.set_cons_succ]
     refine wpAnyH_take (i := 7) (oi := _) (v := .agg #[.bool false, .int .i64 a, .int .i64 b]) rfl (by kernel_rfl) (by kernel_rfl) (by kernel_rfl) (fun _ _ _ h => h) (Or.inl ⟨by rfl, fun w' hSw => by obtain ⟨za0, za1, za2, zb0, zb1, zb2⟩ := hSw; go_simp⟩) hH ?_
     simp only [Act.put, List.getElem_toArray, List.getElem_cons_zero, List.getElem_cons_succ, List.setIfInBounds_toArray, List.set_cons_zero, List.set_cons_succ]
     refine wpAnyH_take (i := 8) (oi := _) (v := .agg #[.bool false, .int .i64 c, .int .i64 d]) rfl (by kernel_rfl) (by kernel_rfl) (by kernel_rfl) (fun _ _ _ h => h) (Or.inl ⟨by rfl, fun w' hSw => by obtain ⟨za0, za1, za2, zb0, zb1, zb2⟩ := hSw; go_simp⟩) hH ?_
     simp only [Act.put, List.getElem_toArray, List.getElem_cons_zero, List.getElem_cons_succ, List.setIfInBounds_toArray, List.set_cons_zero, List.set_cons_succ]
     generalize hY : W.drew = Y0 at *
     clear hY
     refine wpAnyH_ready (rs := [3]) (by kernel_rfl) (by simp) (AllReadyH.cons (o := _) rfl (fun K hK => ?_) AllReadyH.nil)
     go_simp
     refine (ko1 _).mono ?_
     rintro e Y1 ⟨rfl, g⟩
     replace cc := sp_call cc g
     clear g
     go_wp2_with fail
     refine hK.out _ _ (hall _ cc) (fun hH => ?_)
     clear hK K
     try simp only [Act.put, List.getElem_toArray, List.getElem_cons_zero, List.getElem_cons_succ, List.setIfInBounds_toArray, List.set_cons_zero, List.set_cons_succ]
     refine wpAnyH_ready (rs := [4]) (by kernel_rfl) (by simp) (AllReadyH.cons (o := _) rfl (fun K hK => ?_) AllReadyH.nil)
     go_simp
     refine (km1 _).mono ?_
     rintro e Y2 ⟨rfl, g⟩
     replace cc := sp_call cc g
     clear g
     go_wp2_with fail
     refine hK.out _ _ (hall _ cc) (fun hH => ?_)
     clear hK K
     try simp only [Act.put, List.getElem_toArray, List.getElem_cons_zero, List.getElem_cons_succ, List.setIfInBounds_toArray, List.set_cons_zero, List.set_cons_succ]
     refine wpAnyH_ready (rs := [5]) (by kernel_rfl) (by simp) (AllReadyH.cons (o := _) rfl (fun K hK => ?_) AllReadyH.nil)
     go_simp
     refine (kc1 _).mono ?_
     rintro e Y3 ⟨v1, rfl, row1, g⟩
     replace cc := sp_call cc g
     clear g
     go_wp2_with fail
     refine hK.out _ _ (hall _ cc) (fun hH => ?_)
     clear hK K
     try simp only [Act.put, List.getElem_toArray, List.getElem_cons_zero, List.getElem_cons_succ, List.setIfInBounds_toArray, List.set_cons_zero, List.set_cons_succ]
     refine wpAnyH_ready (rs := [9]) (by kernel_rfl) (by simp) (AllReadyH.cons (o := _) rfl (fun K hK => ?_) AllReadyH.nil)
     go_simp
     refine (ko2 _).mono ?_
     rintro e Y4 ⟨rfl, g⟩
     replace row1 := row1.on g
     replace cc := sp_call cc g
     clear g
     go_wp2_with fail
     refine hK.out _ _ (hall _ cc) (fun hH => ?_)
     clear hK K
     try simp only [Act.put, List.getElem_toArray, List.getElem_cons_zero, List.getElem_cons_succ, List.setIfInBounds_toArray, List.set_cons_zero, List.set_cons_succ]
     refine wpAnyH_ready (rs := [10]) (by kernel_rfl) (by simp) (AllReadyH.cons (o := _) rfl (fun K hK => ?_) AllReadyH.nil)
     go_simp
     refine (km2 _).mono ?_
     rintro e Y5 ⟨rfl, g⟩
     replace row1 := row1.on g
     replace cc := sp_call cc g
     clear g
     go_wp2_with fail
     refine hK.out _ _ (hall _ cc) (fun hH => ?_)
     clear hK K
     try simp only [Act.put, List.getElem_toArray, List.getElem_cons_zero, List.getElem_cons_succ, List.setIfInBounds_toArray, List.set_cons_zero, List.set_cons_succ]
     refine wpAnyH_ready (rs := [11]) (by kernel_rfl) (by simp) (AllReadyH.cons (o := _) rfl (fun K hK => ?_) AllReadyH.nil)
     go_simp
     refine (kc2 _).mono ?_
     rintro e Y6 ⟨v2, rfl, row2, g⟩
     replace row1 := row1.on g
     replace cc := sp_call cc g
     clear g
     go_wp2_with fail
     refine hK.out _ _ (hall _ cc) (fun hH => ?_)
     clear hK K
     try simp only [Act.put, List.getElem_toArray, List.getElem_cons_zero, List.getElem_cons_succ, List.setIfInBounds_toArray, List.set_cons_zero, List.set_cons_succ]
     obtain ⟨vv, Z, hr, rowz, gz⟩ := app_rows Y6 row1 row2 hl1 hl2 52
     refine wpAnyH_ready (rs := [12]) (by kernel_rfl) (by simp) (AllReadyH.cons (o := _) rfl (fun K hK => ?_) AllReadyH.nil)
     refine Eq.mpr (if_pos (by rfl)) ?_
     refine wp_append_at (.tmp 44) (.tmp 50) 52 rfl _ _ rfl rfl _ _ hr ?_
     replace cc := sp_call cc gz
     refine hK.out _ _ (hall _ cc) (fun hH => ?_)
     clear hK K
     simp only [Act.put, List.getElem_toArray, List.getElem_cons_zero, List.getElem_cons_succ, List.setIfInBounds_toArray, List.set_cons_zero, List.set_cons_succ]
     refine wpAnyH_take (i := 13) (oi := _) (v := vv) rfl (by kernel_rfl) (by kernel_rfl) (by kernel_rfl) (fun _ _ _ h => h) (Or.inl ⟨by rfl, fun w' hSw => by obtain ⟨za0, za1, za2, zb0, zb1, zb2⟩ := hSw; go_simp⟩) hH ?_
     simp only [Act.put, List.getElem_toArray, List.getElem_cons_zero, List.getElem_cons_succ, List.setIfInBounds_toArray, List.set_cons_zero, List.set_cons_succ]
     refine wpAnyH_done (by kernel_rfl) ?_ _
     go_wp2_with fail
     go_meet
     exact ⟨_, rfl, rowz, cc⟩
    case rest =>
     obtain ⟨W3, rfl, row, cX⟩ := hcut
     replace fz := fun j => (cX.frozen (p := ⟨w.heap.size + 1 + 1, j, none⟩) (by first | (simp; done) | (simp; omega))).trans (fz j)
     replace bW := sp_call bW cX
     replace zW := Nat.le_trans zW cX.size
     replace a0 := sp_cell_on cX a0; replace a1 := sp_cell_on cX a1; replace a2 := sp_cell_on cX a2; replace b0 := sp_cell_on cX b0; replace b1 := sp_cell_on cX b1; replace b2 := sp_cell_on cX b2; replace r0 := sp_cell_on cX r0; replace r1 := sp_cell_on cX r1; replace r2 := sp_cell_on cX r2
     clear cX hall ko1 ko2 km1 km2 kc1 kc2
     by_cases hn : L1 ++ L2 = []
     · have hrow := row
       rcases hrow with ⟨rfl, _⟩ | ⟨bq, capq, _, hq, _⟩
       rotate_left
       · rw [hn] at hq; simp at hq
       have HF2 := HF.out
       rw [if_pos hn] at HF2
       have HR2 := HR.out
       rw [hn, hnil] at HR2
       simp only [Prod.mk.injEq] at HR2
       obtain ⟨⟨rfl, rfl, rfl⟩, rfl⟩ := HR2
       subst HF2
       clear HF HR k2 row
       have nb : ∀ V, Calls Tryz.prog 113 #[] V fun e w' => e = .returned (.agg #[.bool true, .int .i64 0, .int .i64 0]) ∧ Below V.heap.size V w' := fun V => (rnoneI V).mono fun e w' h => ⟨h.1, by rw [h.2]; exact sp_new (Below.refl _ _) _⟩
       go_wp2_with (first
         | (go_at_call 113; refine (nb _).mono ?_; rintro e w9 ⟨rfl, g⟩; replace fz := fun j => (g.frozen (p := ⟨w.heap.size + 1 + 1, j, none⟩) (by first | (simp; done) | (simp; omega))).trans (fz j); replace bW := sp_call bW g; have zq := g.size; replace zW := Nat.le_trans zW zq; replace r0 := sp_cell_on g r0; replace r1 := sp_cell_on g r1; replace r2 := sp_cell_on g r2; clear g)
         | fail)
       exact bodyPost_ret (v := .tuple #[.agg #[.bool true, .int .i64 0, .int .i64 0], .int .i64 16]) (by simp [results, Tryz.results63, go_sem, r0, r1, r2]) rfl ⟨rfl, by (repeat (first | with_reducible exact Below.refl _ _ | with_reducible assumption | with_reducible refine sp_new ?_ _ | with_reducible refine sp_set1i ?_ (by omega) _))⟩
     · have HF2 := HF.out
       rw [if_neg hn] at HF2
       have hrow := row
       rcases hrow with ⟨_, hq⟩ | ⟨bq, capq, rfl, hq, _⟩
       · exact absurd hq hn
       have hq' : ((L1 ++ L2).length : Int) ≠ 0 := by omega
       have k3 := fun V (r : RowR V (.slice (some ⟨bq, 0, none⟩) (L1 ++ L2).length capq) (L1 ++ L2)) => k2 hn _ V r
       subst HF2
       clear HF HR k2
       generalize (L1 ++ L2).length = N at *
       have hq2 : ¬ N = 0 := by omega
       go_wp2_with fail
       refine (k3 _ row).mono ?_
       rintro e w9 ⟨rfl, g⟩
       replace fz : ∀ j, w9.frozen? ⟨w.heap.size + 1 + 1, j, none⟩ = false := fun j => (g.frozen (p := ⟨w.heap.size + 1 + 1, j, none⟩) (by first | (simp; done) | (simp; omega))).trans (fz j)
       replace bW := sp_call bW g
       have zq := g.size
       replace zW := Nat.le_trans zW zq
       have zl : w.heap.size + 1 + 1 < w9.heap.size := by omega
       replace r0 := sp_cell_on g r0; replace r1 := sp_cell_on g r1; replace r2 := sp_cell_on g r2
       clear g
       go_wp2_with fail
       exact bodyPost_ret (v := .tuple #[.agg #[.bool me, .int .i64 ml, .int .i64 mh], .int .i64 (bits BinOp.or IntKind.i64 16 tr)]) (by simp [results, Tryz.results63, go_sem, r0, r1, r2, zl, Nat.ne_of_lt zl]) rfl ⟨rfl, by (repeat (first | with_reducible exact Below.refl _ _ | with_reducible assumption | with_reducible refine sp_new ?_ _ | with_reducible refine sp_set1i ?_ (by omega) _))⟩
end Go.Proofs.YthjoigkckgdcaaaGreat
