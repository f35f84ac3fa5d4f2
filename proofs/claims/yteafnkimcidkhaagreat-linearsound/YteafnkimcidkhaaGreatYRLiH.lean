/- linear.reckoned. -/
import Derived.Test.YteafnkimcidkhaaGreatYRLiG
import Derived.OwnWalkIn
import Derived.Laws.AppendOwn
namespace Go.Proofs.YteafnkimcidkhaaGreat
open Go.RowKit Go.Shelf
set_option linter.unusedVariables false
set_option linter.unusedSimpArgs false
attribute [local go_sem] Oper.semAt_some
def recL (BY : Bool × Int × Int → Bool × Int × Int → (Bool × Int × Int) × Bool) : List (Int × (Bool × Int × Int) × (Bool × Int × Int)) → List (Int × Bool × Int × Int)
 | [] => []
 | x :: r => if (BY x.2.1 x.2.2).1 = (false, 0, 0) then recL BY r else (x.1, (BY x.2.1 x.2.2).1) :: recL BY r
theorem recL_snoc (BY : Bool × Int × Int → Bool × Int × Int → (Bool × Int × Int) × Bool) (l : List (Int × (Bool × Int × Int) × (Bool × Int × Int))) (x : Int × (Bool × Int × Int) × (Bool × Int × Int)) : recL BY (l ++ [x]) = recL BY l ++ (if (BY x.2.1 x.2.2).1 = (false, 0, 0) then [] else [(x.1, (BY x.2.1 x.2.2).1)]) := by
 induction l with
 | nil => simp only [List.nil_append, recL]
 | cons y r ih =>
  simp only [List.cons_append, recL, ih]
  split
  ·rfl
  ·rfl
def tcs : List (Int × Bool × Int × Int) → List Value
 | [] => []
 | t :: r => .int .i64 t.1 :: .bool t.2.1 :: .int .u64 t.2.2.1 :: .int .u64 t.2.2.2 :: tcs r
theorem tcs_app : ∀ (a b : List (Int × Bool × Int × Int)), tcs (a ++ b) = tcs a ++ tcs b
 | [], b => rfl
 | t :: r, b => by simp only [List.cons_append, tcs, tcs_app r b]
theorem tcs_get : ∀ (l : List (Int × Bool × Int × Int)) (j : Nat) (t : Int × Bool × Int × Int), l[j]? = some t → (tcs l)[j * 4]? = some (.int .i64 t.1) ∧ (tcs l)[j * 4 + 1]? = some (.bool t.2.1) ∧ (tcs l)[j * 4 + 2]? = some (.int .u64 t.2.2.1) ∧ (tcs l)[j * 4 + 3]? = some (.int .u64 t.2.2.2)
 | [], j, t, h => by simp at h
 | x :: r, 0, t, h => by simp at h; subst h; simp [tcs]
 | x :: r, j + 1, t, h => by
  have := tcs_get r j t (by simpa using h)
  rw [show (j + 1) * 4 = j * 4 + 4 by omega]
  simpa [tcs] using this
theorem lo_cells {w : World} {base n size : Nat} {e : TypeId} {v : Value} {xs : List Value} (h : w.ownsRow base e size v n xs) : (v = .slice none 0 0 ∧ n = 0) ∨ ∃ g cap : Nat, v = .slice (some ⟨g, 0, none⟩) n cap ∧ g < w.heap.size ∧ n ≤ cap ∧ base ≤ g ∧ ∀ j x, xs[j]? = some x → w.cell? ⟨g, j, none⟩ = some x := by
 obtain ⟨h1, ⟨h0, h2⟩ | ⟨g, cap, cur, rfl, h3, h4, h5, h6, h7, h8⟩⟩ := h
 ·exact Or.inl ⟨h0, h2⟩
 ·refine Or.inr ⟨g, cap, rfl, (Array.getElem?_eq_some_iff.mp h4).1, h5, h3, fun j x hx => ?_⟩
  rw [cell_of_row w g j cur e (0, 0) h4, ← Array.getElem?_toList]
  rw [← h8, List.getElem?_take] at hx
  split at hx
  ·exact hx
  ·cases hx
theorem lo_tat {w : World} {base : Nat} {e : TypeId} {v : Value} {ls : List (Int × Bool × Int × Int)} (h : w.ownsRow base e 4 v ls.length (tcs ls)) : TAt w v ls := by
 rcases lo_cells h with ⟨h1, h2⟩ | ⟨g, cap, h1, _, h2, _, h3⟩
 ·exact Or.inl ⟨h1, List.length_eq_zero_iff.1 h2⟩
 ·refine Or.inr ⟨g, 0, cap, h1, h2, fun j t hj => ?_⟩
  obtain ⟨c0, c1, c2, c3⟩ := tcs_get ls j t hj
  simp only [Nat.zero_add]
  exact ⟨h3 _ _ c0, h3 _ _ c1, h3 _ _ c2, h3 _ _ c3⟩
theorem lo_on {w w1 : World} {base n size : Nat} {e : TypeId} {v : Value} {xs : List Value} (hb : Below w.heap.size w w1) (h : w.ownsRow base e size v n xs) : w1.ownsRow base e size v n xs := by
 obtain ⟨h1, h2⟩ := h
 refine ⟨h1, h2.imp id ?_⟩
 rintro ⟨g, cap, cur, e1, e2, e3, e4⟩
 exact ⟨g, cap, cur, e1, e2, (hb.block g (Array.getElem?_eq_some_iff.mp e3).1).trans e3, e4⟩
theorem lo_shape {w : World} {base n size : Nat} {e : TypeId} {v : Value} {xs : List Value} (h : w.ownsRow base e size v n xs) : ∃ (o : Option Addr) (cap : Nat), v = .slice o n cap := by
 rcases h.2 with ⟨rfl, rfl⟩ | ⟨g, cap, cur, rfl, _⟩
 ·exact ⟨none, 0, rfl⟩
 ·exact ⟨_, _, rfl⟩
theorem li_set1 {w W : World} (h : Below w.heap.size w W) {b j : Nat} (hb : w.heap.size ≤ b) (x : Value) : Below w.heap.size w (W.setCell ⟨b, j, none⟩ x) := h.setCell (p := ⟨b, j, none⟩) hb x
def RecOk (BY : Bool × Int × Int → Bool × Int × Int → (Bool × Int × Int) × Bool) (ca cb : Bool × Int × Int) (az bz : List (Int × Bool × Int × Int)) : Prop := (BY ca cb).2 = true ∧ (∀ x ∈ mg (az.length + bz.length) az bz, (BY x.2.1 x.2.2).2 = true) ∧ (recL BY (mg (az.length + bz.length) az bz)).length ≤ 16
set_option maxRecDepth 100000 in
set_option maxHeartbeats 6400000 in
theorem lirec_no (wa ae : Bool) (al ah : Int) (va : Value) (az : List (Int × Bool × Int × Int)) (wb be : Bool) (bl bh : Int) (vb : Value) (bz : List (Int × Bool × Int × Int)) (hn : az.length + bz.length ≤ 1000) (oa : vOk az) (ob : vOk bz) (kb : Nat) (caps : Array Value) (eby : ∀ args w, (callFunc kb args).run Tryz.prog w = .ok (.enter kb args) w)
  (g1 g2 : Bool) (kA : ∀ V, TAt V va az → Calls Tryz.prog 73 #[.agg #[.bool wa, .bool ae, .int .u64 al, .int .u64 ah, va]] V fun e w' => e = .returned (.bool g1) ∧ Below V.heap.size V w') (kB : ∀ V, TAt V vb bz → Calls Tryz.prog 73 #[.agg #[.bool wb, .bool be, .int .u64 bl, .int .u64 bh, vb]] V fun e w' => e = .returned (.bool g2) ∧ Below V.heap.size V w') (kw : ∀ V, Calls Tryz.prog 61 #[] V fun e w' => e = .returned (.agg #[.bool true, .bool false, .int .u64 0, .int .u64 0, .slice none 0 0]) ∧ Below V.heap.size V w') (h : (g1 && g2) = false) (w : World) (ta : TAt w va az) (tb : TAt w vb bz) :
  Calls Tryz.prog 67 #[.agg #[.bool wa, .bool ae, .int .u64 al, .int .u64 ah, va], .agg #[.bool wb, .bool be, .int .u64 bl, .int .u64 bh, vb], .func (.func kb) #[] caps] w fun e w' => e = .returned (.agg #[.bool true, .bool false, .int .u64 0, .int .u64 0, .slice none 0 0]) ∧ Below w.heap.size w w' := by
 obtain ⟨pa, ca, rfl⟩ := ta.len
 obtain ⟨pb, cb, rfl⟩ := tb.len
 cases g1
 ·go_enter Tryz.func67, Tryz.ntmps67
  go_upto_region 1 with fail
  obtain ⟨W, hW⟩ : ∃ W, ((((w.alloc (.cells #[.bool wa, .bool ae, .int .u64 al, .int .u64 ah, .slice pa az.length ca] 31)).alloc (.cells #[.bool wb, .bool be, .int .u64 bl, .int .u64 bh, .slice pb bz.length cb] 31)).alloc (.cells #[.func (.func kb) #[] caps] 26)).alloc (.cells #[.bool false, .bool false, .int .u64 0, .int .u64 0, .slice none 0 0] 31)) = W := ⟨_, rfl⟩
  have a0 : W.cell? ⟨w.heap.size, 0, none⟩ = some (.bool wa) := by rw [← hW]; simp [go_sem]
  have a1 : W.cell? ⟨w.heap.size, 1, none⟩ = some (.bool ae) := by rw [← hW]; simp [go_sem]
  have a2 : W.cell? ⟨w.heap.size, 2, none⟩ = some (.int .u64 al) := by rw [← hW]; simp [go_sem]
  have a3 : W.cell? ⟨w.heap.size, 3, none⟩ = some (.int .u64 ah) := by rw [← hW]; simp [go_sem]
  have a4 : W.cell? ⟨w.heap.size, 4, none⟩ = some (.slice pa az.length ca) := by rw [← hW]; simp [go_sem]
  have b0 : W.cell? ⟨w.heap.size + 1, 0, none⟩ = some (.bool wb) := by rw [← hW]; simp [go_sem]
  have b1 : W.cell? ⟨w.heap.size + 1, 1, none⟩ = some (.bool be) := by rw [← hW]; simp [go_sem]
  have b2 : W.cell? ⟨w.heap.size + 1, 2, none⟩ = some (.int .u64 bl) := by rw [← hW]; simp [go_sem]
  have b3 : W.cell? ⟨w.heap.size + 1, 3, none⟩ = some (.int .u64 bh) := by rw [← hW]; simp [go_sem]
  have b4 : W.cell? ⟨w.heap.size + 1, 4, none⟩ = some (.slice pb bz.length cb) := by rw [← hW]; simp [go_sem]
  have f0 : W.cell? ⟨w.heap.size + 1 + 1, 0, none⟩ = some (.func (.func kb) #[] caps) := by rw [← hW]; simp [go_sem]
  have r0 : W.cell? ⟨w.heap.size + 1 + 1 + 1, 0, none⟩ = some (.bool false) := by rw [← hW]; simp [go_sem]
  have r1 : W.cell? ⟨w.heap.size + 1 + 1 + 1, 1, none⟩ = some (.bool false) := by rw [← hW]; simp [go_sem]
  have r2 : W.cell? ⟨w.heap.size + 1 + 1 + 1, 2, none⟩ = some (.int .u64 0) := by rw [← hW]; simp [go_sem]
  have r3 : W.cell? ⟨w.heap.size + 1 + 1 + 1, 3, none⟩ = some (.int .u64 0) := by rw [← hW]; simp [go_sem]
  have r4 : W.cell? ⟨w.heap.size + 1 + 1 + 1, 4, none⟩ = some (.slice none 0 0) := by rw [← hW]; simp [go_sem]
  have bW : Below w.heap.size w W := by rw [← hW]; exact (sp_new (sp_new (sp_new (sp_new (Below.refl _ _) _) _) _) _)
  have zW : w.heap.size + 4 ≤ W.heap.size := by rw [← hW]; simp
  have fz : ∀ j, W.frozen? ⟨w.heap.size + 1 + 1 + 1, j, none⟩ = false := by intro j; rw [← hW]; simp [go_sem]
  rw [hW]
  clear hW
  replace ta := ta.on bW
  replace tb := tb.on bW
  go_wp2_with (first
  | (go_at_call 73; (with_reducible refine (kA _ ta).mono ?_); rintro e v1 ⟨rfl, g⟩; replace fz : ∀ j, v1.frozen? ⟨w.heap.size + 1 + 1 + 1, j, none⟩ = false := fun j => (g.frozen (p := ⟨w.heap.size + 1 + 1 + 1, j, none⟩) (by first | (simp; done) | (simp; omega))).trans (fz j); replace ta := ta.on g; replace tb := tb.on g; replace bW := sp_call bW g; replace zW := Nat.le_trans zW g.size; replace a0 := sO g a0; replace a1 := sO g a1; replace a2 := sO g a2; replace a3 := sO g a3; replace a4 := sO g a4; replace b0 := sO g b0; replace b1 := sO g b1; replace b2 := sO g b2; replace b3 := sO g b3; replace b4 := sO g b4; replace f0 := sO g f0; replace r0 := sO g r0; replace r1 := sO g r1; replace r2 := sO g r2; replace r3 := sO g r3; replace r4 := sO g r4; clear g; clear kA)
  | (go_at_call 73; (with_reducible refine (kB _ tb).mono ?_); rintro e v2 ⟨rfl, g⟩; replace fz : ∀ j, v2.frozen? ⟨w.heap.size + 1 + 1 + 1, j, none⟩ = false := fun j => (g.frozen (p := ⟨w.heap.size + 1 + 1 + 1, j, none⟩) (by first | (simp; done) | (simp; omega))).trans (fz j); replace ta := ta.on g; replace tb := tb.on g; replace bW := sp_call bW g; replace zW := Nat.le_trans zW g.size; replace a0 := sO g a0; replace a1 := sO g a1; replace a2 := sO g a2; replace a3 := sO g a3; replace a4 := sO g a4; replace b0 := sO g b0; replace b1 := sO g b1; replace b2 := sO g b2; replace b3 := sO g b3; replace b4 := sO g b4; replace f0 := sO g f0; replace r0 := sO g r0; replace r1 := sO g r1; replace r2 := sO g r2; replace r3 := sO g r3; replace r4 := sO g r4; clear g)
  | (go_at_call 61; (with_reducible refine (kw _).mono ?_); rintro e v3 ⟨rfl, g⟩; replace fz : ∀ j, v3.frozen? ⟨w.heap.size + 1 + 1 + 1, j, none⟩ = false := fun j => (g.frozen (p := ⟨w.heap.size + 1 + 1 + 1, j, none⟩) (by first | (simp; done) | (simp; omega))).trans (fz j); replace ta := ta.on g; replace tb := tb.on g; replace bW := sp_call bW g; replace zW := Nat.le_trans zW g.size; replace a0 := sO g a0; replace a1 := sO g a1; replace a2 := sO g a2; replace a3 := sO g a3; replace a4 := sO g a4; replace b0 := sO g b0; replace b1 := sO g b1; replace b2 := sO g b2; replace b3 := sO g b3; replace b4 := sO g b4; replace f0 := sO g f0; replace r0 := sO g r0; replace r1 := sO g r1; replace r2 := sO g r2; replace r3 := sO g r3; replace r4 := sO g r4; clear g)
  | fail)
  exact bodyPost_ret (v := .agg #[.bool true, .bool false, .int .u64 0, .int .u64 0, .slice none 0 0]) (by simp [results, Tryz.results67, go_sem, r0, r1, r2, r3, r4]) rfl ⟨rfl, (by (repeat (first | with_reducible assumption | with_reducible refine li_set1 ?_ (by omega) _ | with_reducible refine sp_new ?_ _)))⟩
 ·cases g2
  ·go_enter Tryz.func67, Tryz.ntmps67
   go_upto_region 1 with fail
   obtain ⟨W, hW⟩ : ∃ W, ((((w.alloc (.cells #[.bool wa, .bool ae, .int .u64 al, .int .u64 ah, .slice pa az.length ca] 31)).alloc (.cells #[.bool wb, .bool be, .int .u64 bl, .int .u64 bh, .slice pb bz.length cb] 31)).alloc (.cells #[.func (.func kb) #[] caps] 26)).alloc (.cells #[.bool false, .bool false, .int .u64 0, .int .u64 0, .slice none 0 0] 31)) = W := ⟨_, rfl⟩
   have a0 : W.cell? ⟨w.heap.size, 0, none⟩ = some (.bool wa) := by rw [← hW]; simp [go_sem]
   have a1 : W.cell? ⟨w.heap.size, 1, none⟩ = some (.bool ae) := by rw [← hW]; simp [go_sem]
   have a2 : W.cell? ⟨w.heap.size, 2, none⟩ = some (.int .u64 al) := by rw [← hW]; simp [go_sem]
   have a3 : W.cell? ⟨w.heap.size, 3, none⟩ = some (.int .u64 ah) := by rw [← hW]; simp [go_sem]
   have a4 : W.cell? ⟨w.heap.size, 4, none⟩ = some (.slice pa az.length ca) := by rw [← hW]; simp [go_sem]
   have b0 : W.cell? ⟨w.heap.size + 1, 0, none⟩ = some (.bool wb) := by rw [← hW]; simp [go_sem]
   have b1 : W.cell? ⟨w.heap.size + 1, 1, none⟩ = some (.bool be) := by rw [← hW]; simp [go_sem]
   have b2 : W.cell? ⟨w.heap.size + 1, 2, none⟩ = some (.int .u64 bl) := by rw [← hW]; simp [go_sem]
   have b3 : W.cell? ⟨w.heap.size + 1, 3, none⟩ = some (.int .u64 bh) := by rw [← hW]; simp [go_sem]
   have b4 : W.cell? ⟨w.heap.size + 1, 4, none⟩ = some (.slice pb bz.length cb) := by rw [← hW]; simp [go_sem]
   have f0 : W.cell? ⟨w.heap.size + 1 + 1, 0, none⟩ = some (.func (.func kb) #[] caps) := by rw [← hW]; simp [go_sem]
   have r0 : W.cell? ⟨w.heap.size + 1 + 1 + 1, 0, none⟩ = some (.bool false) := by rw [← hW]; simp [go_sem]
   have r1 : W.cell? ⟨w.heap.size + 1 + 1 + 1, 1, none⟩ = some (.bool false) := by rw [← hW]; simp [go_sem]
   have r2 : W.cell? ⟨w.heap.size + 1 + 1 + 1, 2, none⟩ = some (.int .u64 0) := by rw [← hW]; simp [go_sem]
   have r3 : W.cell? ⟨w.heap.size + 1 + 1 + 1, 3, none⟩ = some (.int .u64 0) := by rw [← hW]; simp [go_sem]
   have r4 : W.cell? ⟨w.heap.size + 1 + 1 + 1, 4, none⟩ = some (.slice none 0 0) := by rw [← hW]; simp [go_sem]
   have bW : Below w.heap.size w W := by rw [← hW]; exact (sp_new (sp_new (sp_new (sp_new (Below.refl _ _) _) _) _) _)
   have zW : w.heap.size + 4 ≤ W.heap.size := by rw [← hW]; simp
   have fz : ∀ j, W.frozen? ⟨w.heap.size + 1 + 1 + 1, j, none⟩ = false := by intro j; rw [← hW]; simp [go_sem]
   rw [hW]
   clear hW
   replace ta := ta.on bW
   replace tb := tb.on bW
   go_wp2_with (first
  | (go_at_call 73; (with_reducible refine (kA _ ta).mono ?_); rintro e v1 ⟨rfl, g⟩; replace fz : ∀ j, v1.frozen? ⟨w.heap.size + 1 + 1 + 1, j, none⟩ = false := fun j => (g.frozen (p := ⟨w.heap.size + 1 + 1 + 1, j, none⟩) (by first | (simp; done) | (simp; omega))).trans (fz j); replace ta := ta.on g; replace tb := tb.on g; replace bW := sp_call bW g; replace zW := Nat.le_trans zW g.size; replace a0 := sO g a0; replace a1 := sO g a1; replace a2 := sO g a2; replace a3 := sO g a3; replace a4 := sO g a4; replace b0 := sO g b0; replace b1 := sO g b1; replace b2 := sO g b2; replace b3 := sO g b3; replace b4 := sO g b4; replace f0 := sO g f0; replace r0 := sO g r0; replace r1 := sO g r1; replace r2 := sO g r2; replace r3 := sO g r3; replace r4 := sO g r4; clear g; clear kA)
  | (go_at_call 73; (with_reducible refine (kB _ tb).mono ?_); rintro e v2 ⟨rfl, g⟩; replace fz : ∀ j, v2.frozen? ⟨w.heap.size + 1 + 1 + 1, j, none⟩ = false := fun j => (g.frozen (p := ⟨w.heap.size + 1 + 1 + 1, j, none⟩) (by first | (simp; done) | (simp; omega))).trans (fz j); replace ta := ta.on g; replace tb := tb.on g; replace bW := sp_call bW g; replace zW := Nat.le_trans zW g.size; replace a0 := sO g a0; replace a1 := sO g a1; replace a2 := sO g a2; replace a3 := sO g a3; replace a4 := sO g a4; replace b0 := sO g b0; replace b1 := sO g b1; replace b2 := sO g b2; replace b3 := sO g b3; replace b4 := sO g b4; replace f0 := sO g f0; replace r0 := sO g r0; replace r1 := sO g r1; replace r2 := sO g r2; replace r3 := sO g r3; replace r4 := sO g r4; clear g)
  | (go_at_call 61; (with_reducible refine (kw _).mono ?_); rintro e v3 ⟨rfl, g⟩; replace fz : ∀ j, v3.frozen? ⟨w.heap.size + 1 + 1 + 1, j, none⟩ = false := fun j => (g.frozen (p := ⟨w.heap.size + 1 + 1 + 1, j, none⟩) (by first | (simp; done) | (simp; omega))).trans (fz j); replace ta := ta.on g; replace tb := tb.on g; replace bW := sp_call bW g; replace zW := Nat.le_trans zW g.size; replace a0 := sO g a0; replace a1 := sO g a1; replace a2 := sO g a2; replace a3 := sO g a3; replace a4 := sO g a4; replace b0 := sO g b0; replace b1 := sO g b1; replace b2 := sO g b2; replace b3 := sO g b3; replace b4 := sO g b4; replace f0 := sO g f0; replace r0 := sO g r0; replace r1 := sO g r1; replace r2 := sO g r2; replace r3 := sO g r3; replace r4 := sO g r4; clear g)
   | fail)
   exact bodyPost_ret (v := .agg #[.bool true, .bool false, .int .u64 0, .int .u64 0, .slice none 0 0]) (by simp [results, Tryz.results67, go_sem, r0, r1, r2, r3, r4]) rfl ⟨rfl, (by (repeat (first | with_reducible assumption | with_reducible refine li_set1 ?_ (by omega) _ | with_reducible refine sp_new ?_ _)))⟩
  ·cases h
set_option maxRecDepth 100000 in
set_option maxHeartbeats 6400000 in
theorem lirec_c (wa ae : Bool) (al ah : Int) (va : Value) (az : List (Int × Bool × Int × Int)) (wb be : Bool) (bl bh : Int) (vb : Value) (bz : List (Int × Bool × Int × Int)) (hn : az.length + bz.length ≤ 1000) (oa : vOk az) (ob : vOk bz) (kb : Nat) (caps : Array Value) (eby : ∀ args w, (callFunc kb args).run Tryz.prog w = .ok (.enter kb args) w)
  (kA : ∀ V, TAt V va az → Calls Tryz.prog 73 #[.agg #[.bool wa, .bool ae, .int .u64 al, .int .u64 ah, va]] V fun e w' => e = .returned (.bool true) ∧ Below V.heap.size V w') (kB : ∀ V, TAt V vb bz → Calls Tryz.prog 73 #[.agg #[.bool wb, .bool be, .int .u64 bl, .int .u64 bh, vb]] V fun e w' => e = .returned (.bool true) ∧ Below V.heap.size V w') (kw : ∀ V, Calls Tryz.prog 61 #[] V fun e w' => e = .returned (.agg #[.bool true, .bool false, .int .u64 0, .int .u64 0, .slice none 0 0]) ∧ Below V.heap.size V w') (ce : Bool) (cl ch : Int) (w : World) (k3 : ∀ V, Below w.heap.size w V → Calls Tryz.prog kb (#[.agg #[.bool ae, .int .u64 al, .int .u64 ah], .agg #[.bool be, .int .u64 bl, .int .u64 bh]] ++ caps) V fun e V' => e = .returned (.tuple #[.agg #[.bool ce, .int .u64 cl, .int .u64 ch], .bool false]) ∧ Below V.heap.size V V') (ta : TAt w va az) (tb : TAt w vb bz) :
  Calls Tryz.prog 67 #[.agg #[.bool wa, .bool ae, .int .u64 al, .int .u64 ah, va], .agg #[.bool wb, .bool be, .int .u64 bl, .int .u64 bh, vb], .func (.func kb) #[] caps] w fun e w' => e = .returned (.agg #[.bool true, .bool false, .int .u64 0, .int .u64 0, .slice none 0 0]) ∧ Below w.heap.size w w' := by
 obtain ⟨pa, ca, rfl⟩ := ta.len
 obtain ⟨pb, cb, rfl⟩ := tb.len
 go_enter Tryz.func67, Tryz.ntmps67
 go_upto_region 1 with fail
 obtain ⟨W, hW⟩ : ∃ W, ((((w.alloc (.cells #[.bool wa, .bool ae, .int .u64 al, .int .u64 ah, .slice pa az.length ca] 31)).alloc (.cells #[.bool wb, .bool be, .int .u64 bl, .int .u64 bh, .slice pb bz.length cb] 31)).alloc (.cells #[.func (.func kb) #[] caps] 26)).alloc (.cells #[.bool false, .bool false, .int .u64 0, .int .u64 0, .slice none 0 0] 31)) = W := ⟨_, rfl⟩
 have a0 : W.cell? ⟨w.heap.size, 0, none⟩ = some (.bool wa) := by rw [← hW]; simp [go_sem]
 have a1 : W.cell? ⟨w.heap.size, 1, none⟩ = some (.bool ae) := by rw [← hW]; simp [go_sem]
 have a2 : W.cell? ⟨w.heap.size, 2, none⟩ = some (.int .u64 al) := by rw [← hW]; simp [go_sem]
 have a3 : W.cell? ⟨w.heap.size, 3, none⟩ = some (.int .u64 ah) := by rw [← hW]; simp [go_sem]
 have a4 : W.cell? ⟨w.heap.size, 4, none⟩ = some (.slice pa az.length ca) := by rw [← hW]; simp [go_sem]
 have b0 : W.cell? ⟨w.heap.size + 1, 0, none⟩ = some (.bool wb) := by rw [← hW]; simp [go_sem]
 have b1 : W.cell? ⟨w.heap.size + 1, 1, none⟩ = some (.bool be) := by rw [← hW]; simp [go_sem]
 have b2 : W.cell? ⟨w.heap.size + 1, 2, none⟩ = some (.int .u64 bl) := by rw [← hW]; simp [go_sem]
 have b3 : W.cell? ⟨w.heap.size + 1, 3, none⟩ = some (.int .u64 bh) := by rw [← hW]; simp [go_sem]
 have b4 : W.cell? ⟨w.heap.size + 1, 4, none⟩ = some (.slice pb bz.length cb) := by rw [← hW]; simp [go_sem]
 have f0 : W.cell? ⟨w.heap.size + 1 + 1, 0, none⟩ = some (.func (.func kb) #[] caps) := by rw [← hW]; simp [go_sem]
 have r0 : W.cell? ⟨w.heap.size + 1 + 1 + 1, 0, none⟩ = some (.bool false) := by rw [← hW]; simp [go_sem]
 have r1 : W.cell? ⟨w.heap.size + 1 + 1 + 1, 1, none⟩ = some (.bool false) := by rw [← hW]; simp [go_sem]
 have r2 : W.cell? ⟨w.heap.size + 1 + 1 + 1, 2, none⟩ = some (.int .u64 0) := by rw [← hW]; simp [go_sem]
 have r3 : W.cell? ⟨w.heap.size + 1 + 1 + 1, 3, none⟩ = some (.int .u64 0) := by rw [← hW]; simp [go_sem]
 have r4 : W.cell? ⟨w.heap.size + 1 + 1 + 1, 4, none⟩ = some (.slice none 0 0) := by rw [← hW]; simp [go_sem]
 have bW : Below w.heap.size w W := by rw [← hW]; exact (sp_new (sp_new (sp_new (sp_new (Below.refl _ _) _) _) _) _)
 have zW : w.heap.size + 4 ≤ W.heap.size := by rw [← hW]; simp
 have fz : ∀ j, W.frozen? ⟨w.heap.size + 1 + 1 + 1, j, none⟩ = false := by intro j; rw [← hW]; simp [go_sem]
 rw [hW]
 clear hW
 replace ta := ta.on bW
 replace tb := tb.on bW
 go_wp2_with (first
  | (go_at_call 73; (with_reducible refine (kA _ ta).mono ?_); rintro e v1 ⟨rfl, g⟩; replace fz : ∀ j, v1.frozen? ⟨w.heap.size + 1 + 1 + 1, j, none⟩ = false := fun j => (g.frozen (p := ⟨w.heap.size + 1 + 1 + 1, j, none⟩) (by first | (simp; done) | (simp; omega))).trans (fz j); replace ta := ta.on g; replace tb := tb.on g; replace bW := sp_call bW g; replace zW := Nat.le_trans zW g.size; replace a0 := sO g a0; replace a1 := sO g a1; replace a2 := sO g a2; replace a3 := sO g a3; replace a4 := sO g a4; replace b0 := sO g b0; replace b1 := sO g b1; replace b2 := sO g b2; replace b3 := sO g b3; replace b4 := sO g b4; replace f0 := sO g f0; replace r0 := sO g r0; replace r1 := sO g r1; replace r2 := sO g r2; replace r3 := sO g r3; replace r4 := sO g r4; clear g; clear kA)
  | (go_at_call 73; (with_reducible refine (kB _ tb).mono ?_); rintro e v2 ⟨rfl, g⟩; replace fz : ∀ j, v2.frozen? ⟨w.heap.size + 1 + 1 + 1, j, none⟩ = false := fun j => (g.frozen (p := ⟨w.heap.size + 1 + 1 + 1, j, none⟩) (by first | (simp; done) | (simp; omega))).trans (fz j); replace ta := ta.on g; replace tb := tb.on g; replace bW := sp_call bW g; replace zW := Nat.le_trans zW g.size; replace a0 := sO g a0; replace a1 := sO g a1; replace a2 := sO g a2; replace a3 := sO g a3; replace a4 := sO g a4; replace b0 := sO g b0; replace b1 := sO g b1; replace b2 := sO g b2; replace b3 := sO g b3; replace b4 := sO g b4; replace f0 := sO g f0; replace r0 := sO g r0; replace r1 := sO g r1; replace r2 := sO g r2; replace r3 := sO g r3; replace r4 := sO g r4; clear g)
  | (go_at_fn kb; (with_reducible refine (k3 _ bW).mono ?_); rintro e v4 ⟨rfl, g⟩; replace fz : ∀ j, v4.frozen? ⟨w.heap.size + 1 + 1 + 1, j, none⟩ = false := fun j => (g.frozen (p := ⟨w.heap.size + 1 + 1 + 1, j, none⟩) (by first | (simp; done) | (simp; omega))).trans (fz j); replace ta := ta.on g; replace tb := tb.on g; replace bW := sp_call bW g; replace zW := Nat.le_trans zW g.size; replace a0 := sO g a0; replace a1 := sO g a1; replace a2 := sO g a2; replace a3 := sO g a3; replace a4 := sO g a4; replace b0 := sO g b0; replace b1 := sO g b1; replace b2 := sO g b2; replace b3 := sO g b3; replace b4 := sO g b4; replace f0 := sO g f0; replace r0 := sO g r0; replace r1 := sO g r1; replace r2 := sO g r2; replace r3 := sO g r3; replace r4 := sO g r4; clear g)
  | (go_at_call 61; (with_reducible refine (kw _).mono ?_); rintro e v3 ⟨rfl, g0⟩; have g := sp_call (sp_new (Below.refl _ v4) _) g0; clear g0; replace fz : ∀ j, v3.frozen? ⟨w.heap.size + 1 + 1 + 1, j, none⟩ = false := fun j => (g.frozen (p := ⟨w.heap.size + 1 + 1 + 1, j, none⟩) (by first | (simp; done) | (simp; omega))).trans (fz j); replace ta := ta.on g; replace tb := tb.on g; replace bW := sp_call bW g; replace zW := Nat.le_trans zW g.size; replace a0 := sO g a0; replace a1 := sO g a1; replace a2 := sO g a2; replace a3 := sO g a3; replace a4 := sO g a4; replace b0 := sO g b0; replace b1 := sO g b1; replace b2 := sO g b2; replace b3 := sO g b3; replace b4 := sO g b4; replace f0 := sO g f0; replace r0 := sO g r0; replace r1 := sO g r1; replace r2 := sO g r2; replace r3 := sO g r3; replace r4 := sO g r4; clear g)
  | fail)
 exact bodyPost_ret (v := .agg #[.bool true, .bool false, .int .u64 0, .int .u64 0, .slice none 0 0]) (by simp [results, Tryz.results67, go_sem, r0, r1, r2, r3, r4]) rfl ⟨rfl, (by (repeat (first | with_reducible assumption | with_reducible refine li_set1 ?_ (by omega) _ | with_reducible refine sp_new ?_ _)))⟩
end Go.Proofs.YteafnkimcidkhaaGreat



