/- linear.reckoned, gone through. -/
import Derived.Test.YteafnkimcidkhaaGreatYRLiH
namespace Go.Proofs.YteafnkimcidkhaaGreat
open Go.RowKit Go.Shelf
set_option linter.unusedVariables false
set_option linter.unusedSimpArgs false
attribute [local go_sem] Oper.semAt_some
structure RecI (w W3 : World) (b9 kb : Nat) (caps : Array Value) (ce : Bool) (cl ch : Int) (BY : Bool × Int × Int → Bool × Int × Int → (Bool × Int × Int) × Bool) (pre : List (Int × (Bool × Int × Int) × (Bool × Int × Int))) (v : Value) (V : World) : Prop where
 f0 : V.cell? ⟨w.heap.size + 1 + 1, 0, none⟩ = some (.func (.func kb) #[] caps)
 r0 : V.cell? ⟨w.heap.size + 1 + 1 + 1, 0, none⟩ = some (.bool false)
 r1 : V.cell? ⟨w.heap.size + 1 + 1 + 1, 1, none⟩ = some (.bool false)
 r2 : V.cell? ⟨w.heap.size + 1 + 1 + 1, 2, none⟩ = some (.int .u64 0)
 r3 : V.cell? ⟨w.heap.size + 1 + 1 + 1, 3, none⟩ = some (.int .u64 0)
 r4 : V.cell? ⟨w.heap.size + 1 + 1 + 1, 4, none⟩ = some (.slice none 0 0)
 fz : ∀ j, V.frozen? ⟨w.heap.size + 1 + 1 + 1, j, none⟩ = false
 q0 : V.cell? ⟨b9, 0, none⟩ = some (.bool false)
 q1 : V.cell? ⟨b9, 1, none⟩ = some (.bool ce)
 q2 : V.cell? ⟨b9, 2, none⟩ = some (.int .u64 cl)
 q3 : V.cell? ⟨b9, 3, none⟩ = some (.int .u64 ch)
 q4 : V.cell? ⟨b9, 4, none⟩ = some v
 qf : ∀ j, V.frozen? ⟨b9, j, none⟩ = false
 own : V.ownsRow (W3.heap.size + 2) 99 4 v (recL BY pre).length (tcs (recL BY pre))
 all : ∀ x ∈ pre, (BY x.2.1 x.2.2).2 = true
 bel : Below w.heap.size w V
 siz : W3.heap.size ≤ V.heap.size
structure RecS (w W3 : World) (b9 : Nat) (V : World) : Prop where
 r0 : V.cell? ⟨w.heap.size + 1 + 1 + 1, 0, none⟩ = some (.bool true)
 r1 : V.cell? ⟨w.heap.size + 1 + 1 + 1, 1, none⟩ = some (.bool false)
 r2 : V.cell? ⟨w.heap.size + 1 + 1 + 1, 2, none⟩ = some (.int .u64 0)
 r3 : V.cell? ⟨w.heap.size + 1 + 1 + 1, 3, none⟩ = some (.int .u64 0)
 r4 : V.cell? ⟨w.heap.size + 1 + 1 + 1, 4, none⟩ = some (.slice none 0 0)
 bel : Below w.heap.size w V
 siz : W3.heap.size ≤ V.heap.size
theorem RecI.grow {w W3 : World} {b9 kb : Nat} {caps : Array Value} {ce : Bool} {cl ch : Int} {BY : Bool × Int × Int → Bool × Int × Int → (Bool × Int × Int) × Bool} {pre : List (Int × (Bool × Int × Int) × (Bool × Int × Int))} {v : Value} {V V' : World} (h : RecI w W3 b9 kb caps ce cl ch BY pre v V) (hb : Below V.heap.size V V') : RecI w W3 b9 kb caps ce cl ch BY pre v V' :=
 ⟨sO hb h.f0, sO hb h.r0, sO hb h.r1, sO hb h.r2, sO hb h.r3, sO hb h.r4, fun j => (hb.frozen (p := ⟨w.heap.size + 1 + 1 + 1, j, none⟩) (World.block_lt_of_cell? V ⟨w.heap.size + 1 + 1 + 1, 0, none⟩ h.r0)).trans (h.fz j), sO hb h.q0, sO hb h.q1, sO hb h.q2, sO hb h.q3, sO hb h.q4, fun j => (hb.frozen (p := ⟨b9, j, none⟩) (World.block_lt_of_cell? V ⟨b9, 0, none⟩ h.q0)).trans (h.qf j), lo_on hb h.own, h.all, sp_call h.bel hb, Nat.le_trans h.siz hb.size⟩
theorem only_cell {l : Nat} {V V' : World} (ho : OnlyAt l V V') {b j : Nat} (hb : b ≠ l) : V'.cell? ⟨b, j, none⟩ = V.cell? ⟨b, j, none⟩ := World.cell?_of_block (ho.block b hb)
theorem only_frozen {l : Nat} {V V' : World} (ho : OnlyAt l V V') {b j : Nat} (hb : b ≠ l) : V'.frozen? ⟨b, j, none⟩ = V.frozen? ⟨b, j, none⟩ := World.frozen?_of_block (ho.block b hb)
theorem only_own {l base n size : Nat} {e : TypeId} {v : Value} {xs : List Value} {V V' : World} (ho : OnlyAt l V V') (hl : l < base) (h : V.ownsRow base e size v n xs) : V'.ownsRow base e size v n xs := by
 obtain ⟨h1, h2⟩ := h
 refine ⟨h1, h2.imp id ?_⟩
 rintro ⟨g, cap, cur, e1, e2, e3, e4⟩
 exact ⟨g, cap, cur, e1, e2, (ho.block g (by omega)).trans e3, e4⟩
def Up (n : Nat) (v : Value) : Prop := ∀ b o k c, v = .slice (some ⟨b, o, none⟩) k c → n ≤ b
theorem Up.le {m n : Nat} {v : Value} (h : Up n v) (hm : m ≤ n) : Up m v := fun b o k c e => Nat.le_trans hm (h b o k c e)
theorem lo_up {w : World} {base n : Nat} {e : TypeId} {v : Value} {xs : List Value} (h : w.ownsRow base e 4 v n xs) : Up base v := by
 intro b o k c hv
 rcases lo_cells h with ⟨h1, h2⟩ | ⟨g, cap, h1, _, h2, hb, h3⟩
 ·rw [h1] at hv; cases hv
 ·rw [h1] at hv; cases hv; exact hb
theorem TAt.set {n b j : Nat} {V : World} {v x : Value} {ls : List (Int × Bool × Int × Int)} (h : TAt V v ls) (hu : Up n v) (hb : b < n) : TAt (V.setCell ⟨b, j, none⟩ x) v ls := by
 rcases h with h | ⟨b', o, cap, h1, h2, h3⟩
 ·exact Or.inl h
 ·have ne := hu _ _ _ _ h1
  refine Or.inr ⟨b', o, cap, h1, h2, fun i t hi => ?_⟩
  obtain ⟨c0, c1, c2, c3⟩ := h3 i t hi
  exact ⟨sp_keep1 c0 (by omega) _, sp_keep1 c1 (by omega) _, sp_keep1 c2 (by omega) _, sp_keep1 c3 (by omega) _⟩
theorem own_put {base n size D : Nat} {e : TypeId} {v : Value} {xs : List Value} {V : World} {r : _} {o : Obj} (hD : V.heap[D]? = some (.deferred r)) (h : V.ownsRow base e size v n xs) : (V.putObj D o).ownsRow base e size v n xs := by
 obtain ⟨h1, h2⟩ := h
 refine ⟨h1, h2.imp id ?_⟩
 rintro ⟨g, cap, cur, e1, e2, e3, e4⟩
 refine ⟨g, cap, cur, e1, e2, ((OnlyAt.put _ _ _).block g ?_).trans e3, e4⟩
 rintro rfl
 rw [hD] at e3
 cases e3
theorem RecI.only {w W3 : World} {b9 kb : Nat} {caps : Array Value} {ce : Bool} {cl ch : Int} {BY : Bool × Int × Int → Bool × Int × Int → (Bool × Int × Int) × Bool} {pre : List (Int × (Bool × Int × Int) × (Bool × Int × Int))} {v : Value} {V V' : World} (h : RecI w W3 b9 kb caps ce cl ch BY pre v V) (z1 : w.heap.size + 4 ≤ W3.heap.size) (z2 : b9 < W3.heap.size) (ho : OnlyAt (W3.heap.size + 1) V V') : RecI w W3 b9 kb caps ce cl ch BY pre v V' :=
 ⟨(only_cell ho (by omega)).trans h.f0, (only_cell ho (by omega)).trans h.r0, (only_cell ho (by omega)).trans h.r1, (only_cell ho (by omega)).trans h.r2, (only_cell ho (by omega)).trans h.r3, (only_cell ho (by omega)).trans h.r4, fun j => (only_frozen ho (by omega)).trans (h.fz j), (only_cell ho (by omega)).trans h.q0, (only_cell ho (by omega)).trans h.q1, (only_cell ho (by omega)).trans h.q2, (only_cell ho (by omega)).trans h.q3, (only_cell ho (by omega)).trans h.q4, fun j => (only_frozen ho (by omega)).trans (h.qf j), only_own ho (by omega) h.own, h.all, h.bel.trans (ho.below (by omega)), by rw [ho.size]; exact h.siz⟩
theorem RecS.grow {w W3 : World} {b9 : Nat} {V V' : World} (h : RecS w W3 b9 V) (hb : Below V.heap.size V V') : RecS w W3 b9 V' :=
 ⟨sO hb h.r0, sO hb h.r1, sO hb h.r2, sO hb h.r3, sO hb h.r4, sp_call h.bel hb, Nat.le_trans h.siz hb.size⟩
theorem RecS.only {w W3 : World} {b9 : Nat} {V V' : World} (h : RecS w W3 b9 V) (z1 : w.heap.size + 4 ≤ W3.heap.size) (ho : OnlyAt (W3.heap.size + 1) V V') : RecS w W3 b9 V' :=
 ⟨(only_cell ho (by omega)).trans h.r0, (only_cell ho (by omega)).trans h.r1, (only_cell ho (by omega)).trans h.r2, (only_cell ho (by omega)).trans h.r3, (only_cell ho (by omega)).trans h.r4, h.bel.trans (ho.below (by omega)), by rw [ho.size]; exact h.siz⟩
theorem recL_le (BY : Bool × Int × Int → Bool × Int × Int → (Bool × Int × Int) × Bool) : ∀ l : List (Int × (Bool × Int × Int) × (Bool × Int × Int)), (recL BY l).length ≤ l.length
 | [] => Nat.le_refl _
 | x :: r => by
  have := recL_le BY r
  unfold recL
  split
  ·simp only [List.length_cons]; omega
  ·simp only [List.length_cons]; omega
theorem mg_len : ∀ (k : Nat) (az bz : List (Int × Bool × Int × Int)), (mg k az bz).length ≤ k
 | 0, _, _ => Nat.le_refl _
 | k + 1, az, bz => by
  unfold mg
  split
  ·simp
  ·have := mg_len k (tk az (min (fv az) (fv bz))).2 (tk bz (min (fv az) (fv bz))).2
   simp only [List.length_cons]
   omega
theorem li_info : (Tryz.prog.info? 99).map (fun i => (i.zero, i.size, i.bytes)) = some (some (.agg #[.int .i64 0, .bool false, .int .u64 0, .int .u64 0]), 4, 32) := by kernel_rfl
theorem term_cell (w : World) (x y z u : Value) (t : TypeId) : ∀ j v, [x, y, z, u][j]? = some v → (w.alloc (.cells #[x, y, z, u] t)).cell? (Addr.add ⟨w.heap.size, 0, none⟩ j) = some v := by
 intro j v h
 match j, h with
 | 0, h => simp at h; subst h; simp [go_sem, Addr.add]
 | 1, h => simp at h; subst h; simp [go_sem, Addr.add]
 | 2, h => simp at h; subst h; simp [go_sem, Addr.add]
 | 3, h => simp at h; subst h; simp [go_sem, Addr.add]
 | j + 4, h => simp at h
theorem term_one (k l h : Int) (e : Bool) : ∀ u ∈ [Value.int .i64 k, .bool e, .int .u64 l, .int .u64 h], u.oneCell' = true := by
 intro u hu; simp at hu; rcases hu with rfl | rfl | rfl | rfl <;> rfl
theorem but_low {S : Nat → Prop} {m : Nat} {A B : World} (h : Below m A B) (hS : ∀ k, ¬ S k → k < m) : But S A B := ⟨h.os, h.tape, h.output, h.size, fun k _ hs => h.block k (hS k hs)⟩
theorem low_cell {m : Nat} {A B : World} (h : Below m A B) {b j : Nat} {v : Value} (hb : b < m) (c : A.cell? ⟨b, j, none⟩ = some v) : B.cell? ⟨b, j, none⟩ = some v := (h.cell (p := ⟨b, j, none⟩) hb).trans c
theorem set_own {base n size b j : Nat} {e : TypeId} {v x : Value} {xs : List Value} {V : World} (hb : b < base) (h : V.ownsRow base e size v n xs) : (V.setCell ⟨b, j, none⟩ x).ownsRow base e size v n xs := by
 obtain ⟨h1, h2⟩ := h
 refine ⟨h1, h2.imp id ?_⟩
 rintro ⟨g, cap, cur, e1, e2, e3, e4⟩
 exact ⟨g, cap, cur, e1, e2, (Below.heap_setCell V ⟨b, j, none⟩ x g (by simp; omega)).trans e3, e4⟩
set_option maxRecDepth 100000 in
set_option maxHeartbeats 6400000 in
theorem lirec_ok (wa ae : Bool) (al ah : Int) (va : Value) (az : List (Int × Bool × Int × Int)) (wb be : Bool) (bl bh : Int) (vb : Value) (bz : List (Int × Bool × Int × Int)) (hn : az.length + bz.length ≤ 1000) (oa : vOk az) (ob : vOk bz) (kb : Nat) (caps : Array Value) (eby : ∀ args w, (callFunc kb args).run Tryz.prog w = .ok (.enter kb args) w)
  (kA : ∀ V, TAt V va az → Calls Tryz.prog 73 #[.agg #[.bool wa, .bool ae, .int .u64 al, .int .u64 ah, va]] V fun e w' => e = .returned (.bool true) ∧ Below V.heap.size V w') (kB : ∀ V, TAt V vb bz → Calls Tryz.prog 73 #[.agg #[.bool wb, .bool be, .int .u64 bl, .int .u64 bh, vb]] V fun e w' => e = .returned (.bool true) ∧ Below V.heap.size V w') (kw : ∀ V, Calls Tryz.prog 61 #[] V fun e w' => e = .returned (.agg #[.bool true, .bool false, .int .u64 0, .int .u64 0, .slice none 0 0]) ∧ Below V.heap.size V w') (BY : Bool × Int × Int → Bool × Int × Int → (Bool × Int × Int) × Bool) (okp : Bool × Int × Int → Prop) (h1 : okp (ae, al, ah)) (h2 : okp (be, bl, bh)) (w : World) (hby : ∀ x y V, okp x → okp y → Below w.heap.size w V → Calls Tryz.prog kb (#[.agg #[.bool x.1, .int .u64 x.2.1, .int .u64 x.2.2], .agg #[.bool y.1, .int .u64 y.2.1, .int .u64 y.2.2]] ++ caps) V fun e V' => e = .returned (.tuple #[.agg #[.bool (BY x y).1.1, .int .u64 (BY x y).1.2.1, .int .u64 (BY x y).1.2.2], .bool (BY x y).2]) ∧ Below V.heap.size V V')
  (hxs : ∀ x ∈ mg (az.length + bz.length) az bz, okp x.2.1 ∧ okp x.2.2) (kz : ∀ (x : Bool × Int × Int) V, Calls Tryz.prog 120 #[.agg #[.bool x.1, .int .u64 x.2.1, .int .u64 x.2.2]] V fun e w' => e = .returned (.bool (decide (x.1 = false ∧ x.2.1 = 0 ∧ x.2.2 = 0))) ∧ Below V.heap.size V w') (hok : (BY (ae, al, ah) (be, bl, bh)).2 = true) (ta : TAt w va az) (tb : TAt w vb bz) :
  Calls Tryz.prog 67 #[.agg #[.bool wa, .bool ae, .int .u64 al, .int .u64 ah, va], .agg #[.bool wb, .bool be, .int .u64 bl, .int .u64 bh, vb], .func (.func kb) #[] caps] w fun e w' => ((RecOk BY (ae, al, ah) (be, bl, bh) az bz ∧ ∃ v', e = .returned (.agg #[.bool false, .bool (BY (ae, al, ah) (be, bl, bh)).1.1, .int .u64 (BY (ae, al, ah) (be, bl, bh)).1.2.1, .int .u64 (BY (ae, al, ah) (be, bl, bh)).1.2.2, v']) ∧ TAt w' v' (recL BY (mg (az.length + bz.length) az bz)) ∧ Up w.heap.size v') ∨ (¬ RecOk BY (ae, al, ah) (be, bl, bh) az bz ∧ e = .returned (.agg #[.bool true, .bool false, .int .u64 0, .int .u64 0, .slice none 0 0]))) ∧ Below w.heap.size w w' := by
 have ta0 := ta
 have tb0 := tb
 obtain ⟨pa, ca, rfl⟩ := ta.len
 obtain ⟨pb, cb, rfl⟩ := tb.len
 have k3 := fun V hV => hby (ae, al, ah) (be, bl, bh) V h1 h2 hV
 have ht := litog
 have hf := tog_feeds
 rw [hok] at k3
 generalize hC : BY (ae, al, ah) (be, bl, bh) = CC at *
 obtain ⟨⟨ce, cl, ch⟩, cok⟩ := CC
 dsimp only at *
 refine (callsIn_wide (n := 3)).1 ?_
 refine callsIn_of_wp_marks Tryz.func67 rfl trivial ?_ rfl
 refine wpIn_wide.2 ?_
 simp only [Tryz.ntmps67, List.size_toArray, List.length_cons, List.length_nil, Nat.reduceAdd, Nat.reduceSub, Array.replicate_succ, Array.replicate_zero, List.push_toArray, List.append_toArray, List.nil_append, List.cons_append]
 go_upto_region 1 with fail
 obtain ⟨W, hW⟩ : ∃ W, ((((w.alloc (.cells #[.bool wa, .bool ae, .int .u64 al, .int .u64 ah, .slice pa az.length ca] 31)).alloc (.cells #[.bool wb, .bool be, .int .u64 bl, .int .u64 bh, .slice pb bz.length cb] 31)).alloc (.cells #[.func (.func kb) #[] caps] 26)).alloc (.cells #[.bool false, .bool false, .int .u64 0, .int .u64 0, .slice none 0 0] 31)) = W := ⟨_, rfl⟩
 have a0 : W.cell? ⟨w.heap.size, 0, none⟩ = some (.bool wa) := by rw [← hW]; simp [go_sem]
 have a1 : W.cell? ⟨w.heap.size, 1, none⟩ = some (.bool ae) := by rw [← hW]; simp [go_sem]
 have a2 : W.cell? ⟨w.heap.size, 2, none⟩ = some (.int .u64 al) := by rw [← hW]; simp [go_sem]
 have a3 : W.cell? ⟨w.heap.size, 3, none⟩ = some (.int .u64 ah) := by rw [← hW]; simp [go_sem]
 have a4 : W.cell? ⟨w.heap.size, 4, none⟩ = some (.slice pa az.length ca) := by rw [← hW]; simp [go_sem]
 have b0 : W.cell? ⟨w.heap.size + 1, 0, none⟩ = some (.bool wb) := by rw [← hW]; simp [go_sem]
 have b1 : W.cell? ⟨w.heap.size + 1, 1, none⟩ = some (.bool be) := by rw [← hW]; simp [go_sem]
 have b2 : W.cell? ⟨w.heap.size + 1, 2, none⟩ = some (.int .u64 bl) := by rw [← hW]; simp [go_sem]
 have b3 : W.cell? ⟨w.heap.size + 1, 3, none⟩ = some (.int .u64 bh) := by rw [← hW]; simp [go_sem]
 have b4 : W.cell? ⟨w.heap.size + 1, 4, none⟩ = some (.slice pb bz.length cb) := by rw [← hW]; simp [go_sem]
 have f0 : W.cell? ⟨w.heap.size + 1 + 1, 0, none⟩ = some (.func (.func kb) #[] caps) := by rw [← hW]; simp [go_sem]
 have r0 : W.cell? ⟨w.heap.size + 1 + 1 + 1, 0, none⟩ = some (.bool false) := by rw [← hW]; simp [go_sem]
 have r1 : W.cell? ⟨w.heap.size + 1 + 1 + 1, 1, none⟩ = some (.bool false) := by rw [← hW]; simp [go_sem]
 have r2 : W.cell? ⟨w.heap.size + 1 + 1 + 1, 2, none⟩ = some (.int .u64 0) := by rw [← hW]; simp [go_sem]
 have r3 : W.cell? ⟨w.heap.size + 1 + 1 + 1, 3, none⟩ = some (.int .u64 0) := by rw [← hW]; simp [go_sem]
 have r4 : W.cell? ⟨w.heap.size + 1 + 1 + 1, 4, none⟩ = some (.slice none 0 0) := by rw [← hW]; simp [go_sem]
 have bW : Below w.heap.size w W := by rw [← hW]; exact (sp_new (sp_new (sp_new (sp_new (Below.refl _ _) _) _) _) _)
 have zW : w.heap.size + 4 ≤ W.heap.size := by rw [← hW]; simp
 have fz : ∀ j, W.frozen? ⟨w.heap.size + 1 + 1 + 1, j, none⟩ = false := by intro j; rw [← hW]; simp [go_sem]
 rw [hW]
 clear hW
 replace ta := ta.on bW
 replace tb := tb.on bW
 go_upto_region 7 with (first
  | (go_at_call 73; (with_reducible refine (kA _ ta).mono ?_); rintro e v1 ⟨rfl, g⟩; replace fz : ∀ j, v1.frozen? ⟨w.heap.size + 1 + 1 + 1, j, none⟩ = false := fun j => (g.frozen (p := ⟨w.heap.size + 1 + 1 + 1, j, none⟩) (by first | (simp; done) | (simp; omega))).trans (fz j); replace ta := ta.on g; replace tb := tb.on g; replace bW := sp_call bW g; replace zW := Nat.le_trans zW g.size; replace a0 := sO g a0; replace a1 := sO g a1; replace a2 := sO g a2; replace a3 := sO g a3; replace a4 := sO g a4; replace b0 := sO g b0; replace b1 := sO g b1; replace b2 := sO g b2; replace b3 := sO g b3; replace b4 := sO g b4; replace f0 := sO g f0; replace r0 := sO g r0; replace r1 := sO g r1; replace r2 := sO g r2; replace r3 := sO g r3; replace r4 := sO g r4; clear g; clear kA)
  | (go_at_call 73; (with_reducible refine (kB _ tb).mono ?_); rintro e v2 ⟨rfl, g⟩; replace fz : ∀ j, v2.frozen? ⟨w.heap.size + 1 + 1 + 1, j, none⟩ = false := fun j => (g.frozen (p := ⟨w.heap.size + 1 + 1 + 1, j, none⟩) (by first | (simp; done) | (simp; omega))).trans (fz j); replace ta := ta.on g; replace tb := tb.on g; replace bW := sp_call bW g; replace zW := Nat.le_trans zW g.size; replace a0 := sO g a0; replace a1 := sO g a1; replace a2 := sO g a2; replace a3 := sO g a3; replace a4 := sO g a4; replace b0 := sO g b0; replace b1 := sO g b1; replace b2 := sO g b2; replace b3 := sO g b3; replace b4 := sO g b4; replace f0 := sO g f0; replace r0 := sO g r0; replace r1 := sO g r1; replace r2 := sO g r2; replace r3 := sO g r3; replace r4 := sO g r4; clear g)
  | (go_at_fn kb; (with_reducible refine (k3 _ bW).mono ?_); rintro e v4 ⟨rfl, g⟩; replace fz : ∀ j, v4.frozen? ⟨w.heap.size + 1 + 1 + 1, j, none⟩ = false := fun j => (g.frozen (p := ⟨w.heap.size + 1 + 1 + 1, j, none⟩) (by first | (simp; done) | (simp; omega))).trans (fz j); replace ta := ta.on g; replace tb := tb.on g; replace bW := sp_call bW g; replace zW := Nat.le_trans zW g.size; replace a0 := sO g a0; replace a1 := sO g a1; replace a2 := sO g a2; replace a3 := sO g a3; replace a4 := sO g a4; replace b0 := sO g b0; replace b1 := sO g b1; replace b2 := sO g b2; replace b3 := sO g b3; replace b4 := sO g b4; replace f0 := sO g f0; replace r0 := sO g r0; replace r1 := sO g r1; replace r2 := sO g r2; replace r3 := sO g r3; replace r4 := sO g r4; clear g)
  | fail)
 obtain ⟨X, hX⟩ : ∃ X, (v4.alloc (.cells #[.bool ce, .int .u64 cl, .int .u64 ch] 24)).alloc (.cells #[.bool false, .bool ce, .int .u64 cl, .int .u64 ch, .slice none 0 0] 31) = X := ⟨_, rfl⟩
 have g : Below v4.heap.size v4 X := by rw [← hX]; exact sp_new (sp_new (Below.refl _ _) _) _
 have q0 : X.cell? ⟨v4.heap.size + 1, 0, none⟩ = some (.bool false) := by rw [← hX]; simp [go_sem]
 have q1 : X.cell? ⟨v4.heap.size + 1, 1, none⟩ = some (.bool ce) := by rw [← hX]; simp [go_sem]
 have q2 : X.cell? ⟨v4.heap.size + 1, 2, none⟩ = some (.int .u64 cl) := by rw [← hX]; simp [go_sem]
 have q3 : X.cell? ⟨v4.heap.size + 1, 3, none⟩ = some (.int .u64 ch) := by rw [← hX]; simp [go_sem]
 have q4 : X.cell? ⟨v4.heap.size + 1, 4, none⟩ = some (.slice none 0 0) := by rw [← hX]; simp [go_sem]
 have qf : ∀ j, X.frozen? ⟨v4.heap.size + 1, j, none⟩ = false := by intro j; rw [← hX]; simp [go_sem]
 have zX : X.heap.size = v4.heap.size + 2 := by rw [← hX]; simp
 rw [hX]
 clear hX
 generalize hB9 : v4.heap.size + 1 = b9 at *
 have zb9 : w.heap.size + 4 ≤ b9 := by omega
 replace fz : ∀ j, X.frozen? ⟨w.heap.size + 1 + 1 + 1, j, none⟩ = false := fun j => (g.frozen (p := ⟨w.heap.size + 1 + 1 + 1, j, none⟩) (by first | (simp; done) | (simp; omega))).trans (fz j); replace ta := ta.on g; replace tb := tb.on g; replace bW := sp_call bW g; replace zW := Nat.le_trans zW g.size; replace a0 := sO g a0; replace a1 := sO g a1; replace a2 := sO g a2; replace a3 := sO g a3; replace a4 := sO g a4; replace b0 := sO g b0; replace b1 := sO g b1; replace b2 := sO g b2; replace b3 := sO g b3; replace b4 := sO g b4; replace f0 := sO g f0; replace r0 := sO g r0; replace r1 := sO g r1; replace r2 := sO g r2; replace r3 := sO g r3; replace r4 := sO g r4; clear g
 replace zX : b9 < X.heap.size := by omega
 clear hB9
 go_wp2_with (first
  | (go_at_call 121; (with_reducible refine (ht _ _ _ _ _ _ _).mono ?_); rintro e W3 ⟨pp, rfl, p0, p1, zp, zq, g⟩; have z3 := g.size; replace fz : ∀ j, W3.frozen? ⟨w.heap.size + 1 + 1 + 1, j, none⟩ = false := fun j => (g.frozen (p := ⟨w.heap.size + 1 + 1 + 1, j, none⟩) (by first | (simp; done) | (simp; omega))).trans (fz j); replace ta := ta.on g; replace tb := tb.on g; replace bW := sp_call bW g; replace zW := Nat.le_trans zW g.size; replace a0 := sO g a0; replace a1 := sO g a1; replace a2 := sO g a2; replace a3 := sO g a3; replace a4 := sO g a4; replace b0 := sO g b0; replace b1 := sO g b1; replace b2 := sO g b2; replace b3 := sO g b3; replace b4 := sO g b4; replace f0 := sO g f0; replace r0 := sO g r0; replace r1 := sO g r1; replace r2 := sO g r2; replace r3 := sO g r3; replace r4 := sO g r4; replace q0 := sO g q0; replace q1 := sO g q1; replace q2 := sO g q2; replace q3 := sO g q3; replace q4 := sO g q4; replace qf : ∀ j, W3.frozen? ⟨b9, j, none⟩ = false := fun j => (g.frozen (p := ⟨b9, j, none⟩) (by first | (simp; done) | (simp; omega))).trans (qf j); replace zX := Nat.lt_of_lt_of_le zX g.size; clear g)
  | fail)
 have zs := bW.size
 refine (wpIn_wide (n := 3)).1 ?_
 refine feed_outS (n := 3) rfl (enters_of Tryz.func166 (by kernel_rfl) rfl) (hf pp (pp + 1) _ _ az bz hn oa ob w W3 bW ta0 tb0 p0 p1) (fun _ => rfl) (fun k => k = w.heap.size + 1 + 1 + 1 ∨ k = b9 ∨ W3.heap.size + 2 ≤ k) zs (fun k hk => by rcases hk with rfl | rfl | hk <;> omega) (by omega) (by omega)
  (fun (pre : List (Int × (Bool × Int × Int) × (Bool × Int × Int))) V => ∃ v, RecI w W3 b9 kb caps ce cl ch BY pre v V) ?gI ?lI (fun V => RecS w W3 b9 V ∧ ∃ x ∈ mg (az.length + bz.length) az bz, (BY x.2.1 x.2.2).2 = false) ?gS ?lS ?h0
  (fun l x a' V => ∃ p, p ≠ l ∧ a' = { tmps := #[.agg #[.bool wa, .bool ae, .int .u64 al, .int .u64 ah, .slice pa az.length ca], .agg #[.bool wb, .bool be, .int .u64 bl, .int .u64 bh, .slice pb bz.length cb], .func (.func kb) #[] caps, .pointer (some ⟨w.heap.size, 0, none⟩), .pointer (some ⟨w.heap.size + 1, 0, none⟩), .pointer (some ⟨w.heap.size + 1 + 1, 0, none⟩), .pointer (some ⟨w.heap.size + 1 + 1 + 1, 0, none⟩), .pointer (some ⟨v4.heap.size, 0, none⟩), .bool true, .pointer (some ⟨b9, 0, none⟩), .int .i64 x.1, .pointer (some ⟨p, 0, none⟩), undef, undef, .agg #[.bool wa, .bool ae, .int .u64 al, .int .u64 ah, .slice pa az.length ca], .bool true, .bool false, .bool false, .agg #[.bool wb, .bool be, .int .u64 bl, .int .u64 bh, .slice pb bz.length cb], .bool true, .bool false, .bool false, undef, .tuple #[.agg #[.bool ce, .int .u64 cl, .int .u64 ch], .bool true], .func (.func kb) #[] caps, .pointer (some ⟨w.heap.size, 1, none⟩), .agg #[.bool ae, .int .u64 al, .int .u64 ah], .pointer (some ⟨w.heap.size + 1, 1, none⟩), .agg #[.bool be, .int .u64 bl, .int .u64 bh], .tuple #[.agg #[.bool ce, .int .u64 cl, .int .u64 ch], .bool true], .agg #[.bool ce, .int .u64 cl, .int .u64 ch], .bool true, .bool true, .bool false, undef, .agg #[.bool ce, .int .u64 cl, .int .u64 ch], .agg #[.bool false, .bool ce, .int .u64 cl, .int .u64 ch, .slice none 0 0], .pointer (some ⟨w.heap.size, 4, none⟩), .slice pa az.length ca, .pointer (some ⟨w.heap.size + 1, 4, none⟩), .slice pb bz.length cb, .func (.func 166) #[] #[.pointer (some ⟨pp, 0, none⟩), .pointer (some ⟨pp + 1, 0, none⟩)], .int .i64 x.1, .agg #[.bool x.2.1.1, .int .u64 x.2.1.2.1, .int .u64 x.2.1.2.2, .bool x.2.2.1, .int .u64 x.2.2.2.1, .int .u64 x.2.2.2.2], undef, undef, undef, undef, undef, undef, undef, undef, undef, undef, undef, undef, undef, undef, undef, undef, undef, undef, undef, undef, undef, undef, undef, undef, undef, undef, undef, undef, undef], defers := [] } ∧ V.cell? ⟨p, 0, none⟩ = some (.bool x.2.1.1) ∧ V.cell? ⟨p, 1, none⟩ = some (.int .u64 x.2.1.2.1) ∧ V.cell? ⟨p, 2, none⟩ = some (.int .u64 x.2.1.2.2) ∧ V.cell? ⟨p, 3, none⟩ = some (.bool x.2.2.1) ∧ V.cell? ⟨p, 4, none⟩ = some (.int .u64 x.2.2.2.1) ∧ V.cell? ⟨p, 5, none⟩ = some (.int .u64 x.2.2.2.2)) ?hAx ?assign ?body ?done ?stop
 case gI =>
  rintro pre V V' ⟨v, h⟩ hb
  exact ⟨v, h.grow hb⟩
 case lI =>
  rintro pre V V' ⟨v, h⟩ ho
  exact ⟨v, h.only zW zX ho⟩
 case gS =>
  rintro _ V V' ⟨h, hx⟩ hb
  exact ⟨h.grow hb, hx⟩
 case lS =>
  rintro V V' ⟨h, hx⟩ ho
  exact ⟨h.only zW ho, hx⟩
 case h0 =>
  exact ⟨.slice none 0 0, f0, r0, r1, r2, r3, r4, fz, q0, q1, q2, q3, q4, qf, World.ownsRow_nil _ _ _ _, fun x hx => by simp at hx, bW, Nat.le_refl _⟩
 case hAx =>
  rintro l x a' V V' ⟨p, hp, ha, y0, y1, y2, y3, y4, y5⟩ ho
  exact ⟨p, hp, ha, (only_cell ho hp).trans y0, (only_cell ho hp).trans y1, (only_cell ho hp).trans y2, (only_cell ho hp).trans y3, (only_cell ho hp).trans y4, (only_cell ho hp).trans y5⟩
 case assign =>
  rintro m l pre x V KK hl ll hp ⟨v, hI⟩ hKK
  gi_wp2
  exact hKK _ _ ((But.refl _ _).alloc _) ⟨v, hI.grow (sp_new (Below.refl _ _) _)⟩ ⟨V.heap.size, by omega, rfl, by simp [go_sem], by simp [go_sem], by simp [go_sem], by simp [go_sem], by simp [go_sem], by simp [go_sem]⟩
 case body =>
  rintro m l pre x a' V hl hrec hp ⟨v, hI⟩ ⟨p, hpl, rfl, y0, y1, y2, y3, y4, y5⟩
  subst hl
  have mem : x ∈ mg (az.length + bz.length) az bz := List.IsPrefix.subset hp (by simp)
  obtain ⟨o1, o2⟩ := hxs x mem
  have kx := fun V' (h : Below V.heap.size V V') => hby x.2.1 x.2.2 V' o1 o2 (sp_call hI.bel h)
  have lV : W3.heap.size + 2 ≤ V.heap.size := by obtain ⟨r, hr⟩ := hrec; have := (Array.getElem?_eq_some_iff.1 hr).1; omega
  have lp : (recL BY pre).length ≤ 1000 := by
   have a1 := recL_le BY pre
   have a2 := mg_len (az.length + bz.length) az bz
   obtain ⟨tl, htl⟩ := hp
   rw [← htl] at a2
   simp only [List.length_append] at a2
   omega
  have sn := recL_snoc BY pre x
  have bad : ∀ (_ : (BY x.2.1 x.2.2).2 = false), ∃ x ∈ mg (az.length + bz.length) az bz, (BY x.2.1 x.2.2).2 = false := fun h => ⟨x, mem, h⟩
  have good : (BY x.2.1 x.2.2).2 = true → ∀ z ∈ pre ++ [x], (BY z.2.1 z.2.2).2 = true := fun h z hz => by
   rcases List.mem_append.1 hz with hz | hz
   ·exact hI.all z hz
   ·rw [List.mem_singleton.1 hz]; exact h
  clear a0 a1 a2 a3 a4 b0 b1 b2 b3 b4 f0 r0 r1 r2 r3 r4 q0 q1 q2 q3 q4 qf fz p0 p1 ta tb hby hxs k3 kB ht hf h1 h2 o1 o2 hp mem
  obtain ⟨f0, r0, r1, r2, r3, r4, fz, q0, q1, q2, q3, q4, qf, own, all, bel, siz⟩ := hI
  obtain ⟨xv, ⟨xe, xl, xh⟩, ⟨ye, yl, yh⟩⟩ := x
  dsimp only at *
  generalize hRR : BY (xe, xl, xh) (ye, yl, yh) = RR at *
  obtain ⟨⟨ne, nl, nh⟩, nok⟩ := RR
  dsimp only at *
  obtain ⟨vo, vc, rfl⟩ := lo_shape own
  cases nok
  ·have hbad := bad rfl
   clear bad good sn
   gi_wp2_with (first
    | (refine ⟨trivial, (fun h => by cases h), ?_⟩; (with_reducible refine (CallsIn.inRound _ (callsIn_wide.2 (kx _ (Below.refl _ _)))).mono ?_); rintro e V1 ⟨rfl, g⟩; have bu := But.of (S := fun k => k = w.heap.size + 1 + 1 + 1 ∨ k = b9 ∨ W3.heap.size + 2 ≤ k) g; replace fz : ∀ j, V1.frozen? ⟨w.heap.size + 1 + 1 + 1, j, none⟩ = false := fun j => (g.frozen (p := ⟨w.heap.size + 1 + 1 + 1, j, none⟩) (by first | (simp; done) | (simp; omega))).trans (fz j); replace qf : ∀ j, V1.frozen? ⟨b9, j, none⟩ = false := fun j => (g.frozen (p := ⟨b9, j, none⟩) (by first | (simp; done) | (simp; omega))).trans (qf j); replace own := lo_on g own; replace bel := sp_call bel g; replace lV := Nat.le_trans lV g.size; replace f0 := sO g f0; replace r0 := sO g r0; replace r1 := sO g r1; replace r2 := sO g r2; replace r3 := sO g r3; replace r4 := sO g r4; replace q0 := sO g q0; replace q1 := sO g q1; replace q2 := sO g q2; replace q3 := sO g q3; replace q4 := sO g q4; clear g kx)
    | (refine ⟨trivial, (fun h => by cases h), ?_⟩; gi_at_call 61; (with_reducible refine (CallsIn.inRound _ (callsIn_wide.2 (kw _))).mono ?_); rintro e V2 ⟨rfl, g0⟩; have gw := sp_call (sp_new (Below.refl _ V1) _) g0; have g := gw; replace fz : ∀ j, V2.frozen? ⟨w.heap.size + 1 + 1 + 1, j, none⟩ = false := fun j => (g.frozen (p := ⟨w.heap.size + 1 + 1 + 1, j, none⟩) (by first | (simp; done) | (simp; omega))).trans (fz j); replace qf : ∀ j, V2.frozen? ⟨b9, j, none⟩ = false := fun j => (g.frozen (p := ⟨b9, j, none⟩) (by first | (simp; done) | (simp; omega))).trans (qf j); replace own := lo_on g own; replace bel := sp_call bel g; replace lV := Nat.le_trans lV g.size; replace f0 := sO g f0; replace r0 := sO g r0; replace r1 := sO g r1; replace r2 := sO g r2; replace r3 := sO g r3; replace r4 := sO g r4; replace q0 := sO g q0; replace q1 := sO g q1; replace q2 := sO g q2; replace q3 := sO g q3; replace q4 := sO g q4; clear g g0)
    | fail)
   refine ⟨((((((bu.call gw).set (Or.inl rfl) _).set (Or.inl rfl) _).set (Or.inl rfl) _).set (Or.inl rfl) _).set (Or.inl rfl) _), ⟨?_, ?_, ?_, ?_, ?_, (by (repeat (first | with_reducible assumption | with_reducible refine li_set1 ?_ (by omega) _ | with_reducible refine sp_new ?_ _))), by simp; omega⟩⟩
   ·simp [go_sem, r0, r1, r2, r3, r4]
   ·simp [go_sem, r0, r1, r2, r3, r4]
   ·simp [go_sem, r0, r1, r2, r3, r4]
   ·simp [go_sem, r0, r1, r2, r3, r4]
   ·simp [go_sem, r0, r1, r2, r3, r4]
  ·have hgood := good rfl
   clear bad good
   have kq := kz (ne, nl, nh)
   dsimp only at kq
   have l1 : (recL BY pre).length + 1 ≤ maxLen := by unfold maxLen; omega
   have l2 : ((recL BY pre).length + 1) * 32 ≤ 140737488355328 := by omega
   obtain ⟨i0, hi, hz0, hz1, hz2⟩ := info_parts li_info
   by_cases hz : (ne, nl, nh) = (false, 0, 0)
   ·rw [if_pos hz, List.append_nil] at sn
    have hz' : ne = false ∧ nl = 0 ∧ nh = 0 := by simpa [Prod.mk.injEq] using hz
    rw [decide_eq_true hz'] at kq
    clear hz hz'
    gi_wp2_with (first
     | (refine ⟨trivial, (fun h => by cases h), ?_⟩; (with_reducible refine (CallsIn.inRound _ (callsIn_wide.2 (kx _ (Below.refl _ _)))).mono ?_); rintro e V1 ⟨rfl, g⟩; have bu := But.of (S := fun k => k = w.heap.size + 1 + 1 + 1 ∨ k = b9 ∨ W3.heap.size + 2 ≤ k) g; replace fz : ∀ j, V1.frozen? ⟨w.heap.size + 1 + 1 + 1, j, none⟩ = false := fun j => (g.frozen (p := ⟨w.heap.size + 1 + 1 + 1, j, none⟩) (by first | (simp; done) | (simp; omega))).trans (fz j); replace qf : ∀ j, V1.frozen? ⟨b9, j, none⟩ = false := fun j => (g.frozen (p := ⟨b9, j, none⟩) (by first | (simp; done) | (simp; omega))).trans (qf j); replace own := lo_on g own; replace bel := sp_call bel g; replace lV := Nat.le_trans lV g.size; replace f0 := sO g f0; replace r0 := sO g r0; replace r1 := sO g r1; replace r2 := sO g r2; replace r3 := sO g r3; replace r4 := sO g r4; replace q0 := sO g q0; replace q1 := sO g q1; replace q2 := sO g q2; replace q3 := sO g q3; replace q4 := sO g q4; clear g kx)
     | (refine ⟨trivial, (fun h => by cases h), ?_⟩; gi_at_call 120; (with_reducible refine (CallsIn.inRound _ (callsIn_wide.2 (kq _))).mono ?_); rintro e V2 ⟨rfl, g0⟩; have gw := sp_call (sp_new (Below.refl _ V1) _) g0; have c0 := sO g0 (show World.cell? _ ⟨V1.heap.size, 0, none⟩ = some (.bool ne) by simp [go_sem]); have c1 := sO g0 (show World.cell? _ ⟨V1.heap.size, 1, none⟩ = some (.int .u64 nl) by simp [go_sem]); have c2 := sO g0 (show World.cell? _ ⟨V1.heap.size, 2, none⟩ = some (.int .u64 nh) by simp [go_sem]); have g := gw; replace fz : ∀ j, V2.frozen? ⟨w.heap.size + 1 + 1 + 1, j, none⟩ = false := fun j => (g.frozen (p := ⟨w.heap.size + 1 + 1 + 1, j, none⟩) (by first | (simp; done) | (simp; omega))).trans (fz j); replace qf : ∀ j, V2.frozen? ⟨b9, j, none⟩ = false := fun j => (g.frozen (p := ⟨b9, j, none⟩) (by first | (simp; done) | (simp; omega))).trans (qf j); replace own := lo_on g own; replace bel := sp_call bel g; replace lV := Nat.le_trans lV g.size; replace f0 := sO g f0; replace r0 := sO g r0; replace r1 := sO g r1; replace r2 := sO g r2; replace r3 := sO g r3; replace r4 := sO g r4; replace q0 := sO g q0; replace q1 := sO g q1; replace q2 := sO g q2; replace q3 := sO g q3; replace q4 := sO g q4; clear g g0)
     | fail)
    exact ⟨bu.call gw, _, f0, r0, r1, r2, r3, r4, fz, q0, q1, q2, q3, q4, qf, by rw [sn]; exact own, hgood, bel, by omega⟩
   ·rw [if_neg hz] at sn
    have hz' : ¬ (ne = false ∧ nl = 0 ∧ nh = 0) := fun h => hz (by rw [h.1, h.2.1, h.2.2])
    rw [decide_eq_false hz'] at kq
    clear hz hz'
    gi_wp2_with (first
     | (refine ⟨trivial, (fun h => by cases h), ?_⟩; (with_reducible refine (CallsIn.inRound _ (callsIn_wide.2 (kx _ (Below.refl _ _)))).mono ?_); rintro e V1 ⟨rfl, g⟩; have bu := But.of (S := fun k => k = w.heap.size + 1 + 1 + 1 ∨ k = b9 ∨ W3.heap.size + 2 ≤ k) g; replace fz : ∀ j, V1.frozen? ⟨w.heap.size + 1 + 1 + 1, j, none⟩ = false := fun j => (g.frozen (p := ⟨w.heap.size + 1 + 1 + 1, j, none⟩) (by first | (simp; done) | (simp; omega))).trans (fz j); replace qf : ∀ j, V1.frozen? ⟨b9, j, none⟩ = false := fun j => (g.frozen (p := ⟨b9, j, none⟩) (by first | (simp; done) | (simp; omega))).trans (qf j); replace own := lo_on g own; replace bel := sp_call bel g; replace lV := Nat.le_trans lV g.size; replace f0 := sO g f0; replace r0 := sO g r0; replace r1 := sO g r1; replace r2 := sO g r2; replace r3 := sO g r3; replace r4 := sO g r4; replace q0 := sO g q0; replace q1 := sO g q1; replace q2 := sO g q2; replace q3 := sO g q3; replace q4 := sO g q4; clear g kx)
     | (refine ⟨trivial, (fun h => by cases h), ?_⟩; gi_at_call 120; (with_reducible refine (CallsIn.inRound _ (callsIn_wide.2 (kq _))).mono ?_); rintro e V2 ⟨rfl, g0⟩; have gw := sp_call (sp_new (Below.refl _ V1) _) g0; have c0 := sO g0 (show World.cell? _ ⟨V1.heap.size, 0, none⟩ = some (.bool ne) by simp [go_sem]); have c1 := sO g0 (show World.cell? _ ⟨V1.heap.size, 1, none⟩ = some (.int .u64 nl) by simp [go_sem]); have c2 := sO g0 (show World.cell? _ ⟨V1.heap.size, 2, none⟩ = some (.int .u64 nh) by simp [go_sem]); have g := gw; replace fz : ∀ j, V2.frozen? ⟨w.heap.size + 1 + 1 + 1, j, none⟩ = false := fun j => (g.frozen (p := ⟨w.heap.size + 1 + 1 + 1, j, none⟩) (by first | (simp; done) | (simp; omega))).trans (fz j); replace qf : ∀ j, V2.frozen? ⟨b9, j, none⟩ = false := fun j => (g.frozen (p := ⟨b9, j, none⟩) (by first | (simp; done) | (simp; omega))).trans (qf j); replace own := lo_on g own; replace bel := sp_call bel g; replace lV := Nat.le_trans lV g.size; replace f0 := sO g f0; replace r0 := sO g r0; replace r1 := sO g r1; replace r2 := sO g r2; replace r3 := sO g r3; replace r4 := sO g r4; replace q0 := sO g q0; replace q1 := sO g q1; replace q2 := sO g q2; replace q3 := sO g q3; replace q4 := sO g q4; clear g g0)
     | (gi_at_builtin; refine wpListIn_append_own _ rfl _ _ 29 rfl (W3.heap.size + 2) 99 i0 (.agg #[.int .i64 0, .bool false, .int .u64 0, .int .u64 0]) 4 32 Tryz.underlying29 hi hz0 hz1 hz2 rfl (by decide) _ _ _ rfl (own.alloc _) ⟨V2.heap.size, 0, none⟩ 1 1 [.int .i64 xv, .bool ne, .int .u64 nl, .int .u64 nh] rfl rfl (term_cell _ _ _ _ _ _) (term_one _ _ _ _) l1 l2 (by rw [World.size_alloc]; omega) ?_; intro v' V3 hown' hgrow hnil; clear hnil; obtain ⟨vo2, vc2, rfl⟩ := lo_shape hown'; have gg : Below (W3.heap.size + 2) V2 V3 := ((Below.refl _ V2).alloc lV _).grown hgrow (by rw [World.size_alloc]; omega) (fun k hk => (own.lt k hk).1); have p4 := low_cell gg (show b9 < W3.heap.size + 2 by omega) q4; have pf : ∀ j, V3.frozen? ⟨b9, j, none⟩ = false := (fun j => (gg.frozen (p := ⟨b9, j, none⟩) (by simp; omega)).trans (qf j)))
     | fail)
    have lo : ∀ {b j : Nat} {u : Value}, b < W3.heap.size + 2 → V2.cell? ⟨b, j, none⟩ = some u → V3.cell? ⟨b, j, none⟩ = some u := fun h c => low_cell gg h c
    have fz3 : ∀ j, V3.frozen? ⟨w.heap.size + 1 + 1 + 1, j, none⟩ = false := fun j => (gg.frozen (p := ⟨w.heap.size + 1 + 1 + 1, j, none⟩) (by simp; omega)).trans (fz j)
    have zg := gg.size
    have p0 := lo (by omega) q0
    have p1 := lo (by omega) q1
    have p2 := lo (by omega) q2
    have p3 := lo (by omega) q3
    refine ⟨(((bu.call gw).trans (but_low gg (fun k hk => Nat.lt_of_not_le (fun h => hk (Or.inr (Or.inr h)))))).set (Or.inr (Or.inl rfl)) _), .slice vo2 ((recL BY pre).length + 1) vc2, sp_keep1 (lo (by omega) f0) (by omega) _, sp_keep1 (lo (by omega) r0) (by omega) _, sp_keep1 (lo (by omega) r1) (by omega) _, sp_keep1 (lo (by omega) r2) (by omega) _, sp_keep1 (lo (by omega) r3) (by omega) _, sp_keep1 (lo (by omega) r4) (by omega) _, fun j => by simp [go_sem, fz3], by simp [go_sem, p0], by simp [go_sem, p1], by simp [go_sem, p2], by simp [go_sem, p3], by simp [go_sem, p4], fun j => by simp [go_sem, pf], ?_, hgood, li_set1 (bel.trans (gg.mono (by omega))) (by omega) _, by simp; omega⟩
    rw [sn, List.length_append, tcs_app]
    exact set_own (by omega) hown'
 case done =>
  rintro D V hD ⟨v, hI⟩ hK
  have lD : D < V.heap.size := (Array.getElem?_eq_some_iff.1 hK).1
  clear a0 a1 a2 a3 a4 b0 b1 b2 b3 b4 f0 r0 r1 r2 r3 r4 q0 q1 q2 q3 q4 qf fz p0 p1 ta tb hby hxs k3 kB ht hf h1 h2 bW
  obtain ⟨f0, r0, r1, r2, r3, r4, fz, q0, q1, q2, q3, q4, qf, own, all, bel, siz⟩ := hI
  obtain ⟨vo, vc, rfl⟩ := lo_shape own
  have lm := mg_len (az.length + bz.length) az bz
  have lr := recL_le BY (mg (az.length + bz.length) az bz)
  by_cases h16 : (recL BY (mg (az.length + bz.length) az bz)).length ≤ 16
  ·have h16' : ¬ (16 : Int) < ((recL BY (mg (az.length + bz.length) az bz)).length : Int) := by omega
   have rok : RecOk BY (ae, al, ah) (be, bl, bh) az bz := by unfold RecOk; exact ⟨by rw [hC]; exact hok, all, h16⟩
   gi_wp2
   go_wp2_with fail
   obtain ⟨X, hX⟩ : ∃ X, (((((V.setCell ⟨w.heap.size + 1 + 1 + 1, 0, none⟩ (.bool false)).setCell ⟨w.heap.size + 1 + 1 + 1, 1, none⟩ (.bool ce)).setCell ⟨w.heap.size + 1 + 1 + 1, 2, none⟩ (.int .u64 cl)).setCell ⟨w.heap.size + 1 + 1 + 1, 3, none⟩ (.int .u64 ch)).setCell ⟨w.heap.size + 1 + 1 + 1, 4, none⟩ (.slice vo (recL BY (mg (az.length + bz.length) az bz)).length vc)) = X := ⟨_, rfl⟩
   have x0 : X.cell? ⟨w.heap.size + 1 + 1 + 1, 0, none⟩ = some (.bool false) := by rw [← hX]; simp [go_sem, r0, r1, r2, r3, r4]
   have x1 : X.cell? ⟨w.heap.size + 1 + 1 + 1, 1, none⟩ = some (.bool ce) := by rw [← hX]; simp [go_sem, r0, r1, r2, r3, r4]
   have x2 : X.cell? ⟨w.heap.size + 1 + 1 + 1, 2, none⟩ = some (.int .u64 cl) := by rw [← hX]; simp [go_sem, r0, r1, r2, r3, r4]
   have x3 : X.cell? ⟨w.heap.size + 1 + 1 + 1, 3, none⟩ = some (.int .u64 ch) := by rw [← hX]; simp [go_sem, r0, r1, r2, r3, r4]
   have x4 : X.cell? ⟨w.heap.size + 1 + 1 + 1, 4, none⟩ = some (.slice vo (recL BY (mg (az.length + bz.length) az bz)).length vc) := by rw [← hX]; simp [go_sem, r0, r1, r2, r3, r4]
   have hKX : X.heap[D]? = some (.deferred (some [])) := by
    rw [← hX]
    exact ((Below.heap_setCell _ _ _ D (by simp; omega)).trans ((Below.heap_setCell _ _ _ D (by simp; omega)).trans ((Below.heap_setCell _ _ _ D (by simp; omega)).trans ((Below.heap_setCell _ _ _ D (by simp; omega)).trans ((Below.heap_setCell _ _ _ D (by simp; omega)).trans hK)))))
   have bX : Below w.heap.size w X := by rw [← hX]; exact (li_set1 (li_set1 (li_set1 (li_set1 (li_set1 bel (by omega) _) (by omega) _) (by omega) _) (by omega) _) (by omega) _)
   have oX : X.ownsRow (W3.heap.size + 2) 99 4 (.slice vo (recL BY (mg (az.length + bz.length) az bz)).length vc) (recL BY (mg (az.length + bz.length) az bz)).length (tcs (recL BY (mg (az.length + bz.length) az bz))) := by rw [← hX]; exact (set_own (by omega) (set_own (by omega) (set_own (by omega) (set_own (by omega) (set_own (by omega) own)))))
   rw [hX]
   clear hX
   refine ⟨by simp, .inl ⟨_, _, rfl, run_takeDeferred hKX, ?_⟩⟩
   have y : ∀ j, (X.putObj D (.deferred none)).cell? ⟨w.heap.size + 1 + 1 + 1, j, none⟩ = X.cell? ⟨w.heap.size + 1 + 1 + 1, j, none⟩ := fun j => World.cell?_of_block (World.putObj_heap_other (by simp; omega))
   exact ⟨.agg #[.bool false, .bool ce, .int .u64 cl, .int .u64 ch, .slice vo (recL BY (mg (az.length + bz.length) az bz)).length vc], by simp [results, Tryz.results67, go_sem, y, x0, x1, x2, x3, x4], Or.inl ⟨rok, _, rfl, lo_tat (own_put hKX oX), (lo_up oX).le (by omega)⟩, bX.trans ((OnlyAt.put _ _ _).below (by omega))⟩
  ·have h16' : (16 : Int) < ((recL BY (mg (az.length + bz.length) az bz)).length : Int) := by omega
   have rok : ¬ RecOk BY (ae, al, ah) (be, bl, bh) az bz := by unfold RecOk; exact fun h => h16 h.2.2
   gi_wp2
   go_wp2_with (first
    | (go_at_call 61; (with_reducible refine (kw _).mono ?_); rintro e V2 ⟨rfl, g⟩; replace fz : ∀ j, V2.frozen? ⟨w.heap.size + 1 + 1 + 1, j, none⟩ = false := (fun j => (g.frozen (p := ⟨w.heap.size + 1 + 1 + 1, j, none⟩) (by simp; omega)).trans (fz j)); replace r0 := sO g r0; replace r1 := sO g r1; replace r2 := sO g r2; replace r3 := sO g r3; replace r4 := sO g r4; replace bel := sp_call bel g; replace hK := (g.block D lD).trans hK; have zg := g.size)
    | fail)
   obtain ⟨X, hX⟩ : ∃ X, (((((V2.setCell ⟨w.heap.size + 1 + 1 + 1, 0, none⟩ (.bool true)).setCell ⟨w.heap.size + 1 + 1 + 1, 1, none⟩ (.bool false)).setCell ⟨w.heap.size + 1 + 1 + 1, 2, none⟩ (.int .u64 0)).setCell ⟨w.heap.size + 1 + 1 + 1, 3, none⟩ (.int .u64 0)).setCell ⟨w.heap.size + 1 + 1 + 1, 4, none⟩ (.slice none 0 0)) = X := ⟨_, rfl⟩
   have x0 : X.cell? ⟨w.heap.size + 1 + 1 + 1, 0, none⟩ = some (.bool true) := by rw [← hX]; simp [go_sem, r0, r1, r2, r3, r4]
   have x1 : X.cell? ⟨w.heap.size + 1 + 1 + 1, 1, none⟩ = some (.bool false) := by rw [← hX]; simp [go_sem, r0, r1, r2, r3, r4]
   have x2 : X.cell? ⟨w.heap.size + 1 + 1 + 1, 2, none⟩ = some (.int .u64 0) := by rw [← hX]; simp [go_sem, r0, r1, r2, r3, r4]
   have x3 : X.cell? ⟨w.heap.size + 1 + 1 + 1, 3, none⟩ = some (.int .u64 0) := by rw [← hX]; simp [go_sem, r0, r1, r2, r3, r4]
   have x4 : X.cell? ⟨w.heap.size + 1 + 1 + 1, 4, none⟩ = some (.slice none 0 0) := by rw [← hX]; simp [go_sem, r0, r1, r2, r3, r4]
   have hKX : X.heap[D]? = some (.deferred (some [])) := by
    rw [← hX]
    exact ((Below.heap_setCell _ _ _ D (by simp; omega)).trans ((Below.heap_setCell _ _ _ D (by simp; omega)).trans ((Below.heap_setCell _ _ _ D (by simp; omega)).trans ((Below.heap_setCell _ _ _ D (by simp; omega)).trans ((Below.heap_setCell _ _ _ D (by simp; omega)).trans hK)))))
   have bX : Below w.heap.size w X := by rw [← hX]; exact (li_set1 (li_set1 (li_set1 (li_set1 (li_set1 bel (by omega) _) (by omega) _) (by omega) _) (by omega) _) (by omega) _)
   rw [hX]
   clear hX
   refine ⟨by simp, .inl ⟨_, _, rfl, run_takeDeferred hKX, ?_⟩⟩
   have y : ∀ j, (X.putObj D (.deferred none)).cell? ⟨w.heap.size + 1 + 1 + 1, j, none⟩ = X.cell? ⟨w.heap.size + 1 + 1 + 1, j, none⟩ := fun j => World.cell?_of_block (World.putObj_heap_other (by simp; omega))
   exact ⟨.agg #[.bool true, .bool false, .int .u64 0, .int .u64 0, .slice none 0 0], by simp [results, Tryz.results67, go_sem, y, x0, x1, x2, x3, x4], Or.inr ⟨rok, rfl⟩, bX.trans ((OnlyAt.put _ _ _).below (by omega))⟩
 case stop =>
  rintro D V hD ⟨hI, x, hx1, hx2⟩ hK
  have lD : D < V.heap.size := (Array.getElem?_eq_some_iff.1 hK).1
  have rok : ¬ RecOk BY (ae, al, ah) (be, bl, bh) az bz := by
   unfold RecOk
   intro h
   have := h.2.1 x hx1
   rw [hx2] at this
   cases this
  clear a0 a1 a2 a3 a4 b0 b1 b2 b3 b4 f0 r0 r1 r2 r3 r4 q0 q1 q2 q3 q4 qf fz p0 p1 ta tb hby hxs k3 kB ht hf h1 h2 bW
  obtain ⟨r0, r1, r2, r3, r4, bel, siz⟩ := hI
  gi_wp2
  refine ⟨by simp, .inl ⟨_, _, rfl, run_takeDeferred hK, ?_⟩⟩
  have y : ∀ j, (V.putObj D (.deferred none)).cell? ⟨w.heap.size + 1 + 1 + 1, j, none⟩ = V.cell? ⟨w.heap.size + 1 + 1 + 1, j, none⟩ := fun j => World.cell?_of_block (World.putObj_heap_other (by simp; omega))
  exact ⟨.agg #[.bool true, .bool false, .int .u64 0, .int .u64 0, .slice none 0 0], by simp [results, Tryz.results67, go_sem, y, r0, r1, r2, r3, r4], Or.inr ⟨rok, rfl⟩, bel.trans ((OnlyAt.put _ _ _).below (by omega))⟩
end Go.Proofs.YteafnkimcidkhaaGreat



