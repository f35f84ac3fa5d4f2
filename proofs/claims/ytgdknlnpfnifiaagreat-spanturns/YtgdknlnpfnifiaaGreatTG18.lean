/- Texts of the proof, put together. -/
import Derived.Test.YtgdknlnpfnifiaaGreatTRgNff
import Derived.Test.YtgdknlnpfnifiaaGreatTRgNfi
import Derived.Test.YtgdknlnpfnifiaaGreatTRgNif
import Derived.Test.YtgdknlnpfnifiaaGreatTG3
import Derived.Test.YtgdknlnpfnifiaaGreatTG15
namespace Go.Proofs.YtgdknlnpfnifiaaGreat
open Go.RowKit
set_option linter.unusedVariables false
set_option linter.unusedSimpArgs false
theorem tu_carry {X v : World} {b : Nat} {o : Obj} (g : Below X.heap.size X v) (q : X.heap[b]? = some o) : v.heap[b]? = some o := (g.block b (Array.getElem?_eq_some_iff.1 q).1).trans q
theorem tu_at {W : World} {b : Nat} {t : TypeId} {z : Nat × Nat} {c : Array Value} (q : W.heap[b]? = some (.cells c t z)) (j : Nat) (v : Value) : (W.setCell ⟨b, j, none⟩ v).heap[b]? = some (.cells (c.setIfInBounds j v) t z) := by
  simp [World.setCell, Array.getElem?_modify, q]
theorem tu_set3 {W : World} {b : Nat} {t : TypeId} {z : Nat × Nat} {y0 y1 y2 : Value} (q : W.heap[b]? = some (.cells #[y0, y1, y2] t z)) (x0 x1 x2 : Value) : (((W.setCell ⟨b, 0, none⟩ x0).setCell ⟨b, 1, none⟩ x1).setCell ⟨b, 2, none⟩ x2).heap[b]? = some (.cells #[x0, x1, x2] t z) := by
  have h := (tu_at (tu_at (tu_at q 0 x0) 1 x1) 2 x2)
  simpa using h
theorem tu_old {W : World} {c : Nat} {o : Obj} (q : W.heap[c]? = some o) (o' : Obj) : (W.alloc o').heap[c]? = some o := (Below.heap_alloc W o' c (Array.getElem?_eq_some_iff.1 q).1).trans q
theorem tu_cells3 {v : World} {b : Nat} {t : TypeId} {x0 x1 x2 : Value} (q : v.heap[b]? = some (.cells #[x0, x1, x2] t (0, 0))) : v.cell? ⟨b, 0, none⟩ = some x0 ∧ v.cell? ⟨b, 1, none⟩ = some x1 ∧ v.cell? ⟨b, 2, none⟩ = some x2 ∧ ∀ j, v.frozen? ⟨b, j, none⟩ = false :=
  ⟨by simp [World.cell?, q], by simp [World.cell?, q], by simp [World.cell?, q], fun j => by simp [World.frozen?, q]⟩
theorem tu_set1 {w W : World} (h : Below w.heap.size w W) {b j : Nat} (hb : w.heap.size ≤ b) (x : Value) : Below w.heap.size w (W.setCell ⟨b, j, none⟩ x) := h.setCell (p := ⟨b, j, none⟩) hb x
theorem tex_ff (kb : Nat) (caps : Array Value) (b n cap : Nat) (w : World) : Calls Tryz.prog 46 #[.func (.func kb) #[] caps, .slice (some ⟨b, 0, none⟩) n cap] w fun r w' =>
    ∃ p : Nat, r = .returned (.func (.func 109) #[] #[.pointer (some ⟨p + 1, 0, none⟩), .pointer (some ⟨p, 0, none⟩)]) ∧ w'.cell? ⟨p, 0, none⟩ = some (.func (.func kb) #[] caps) ∧ w'.cell? ⟨p + 1, 0, none⟩ = some (.slice (some ⟨b, 0, none⟩) n cap) ∧ p + 1 < w'.heap.size ∧ Below w.heap.size w w' := by
  refine (each1_ff (.func (.func kb) #[] caps) ⟨_, _, rfl⟩ (.slice (some ⟨b, 0, none⟩) n cap) ⟨_, _, _, rfl⟩ w).mono ?_
  rintro r w' ⟨rfl, rfl⟩
  exact ⟨w.heap.size, rfl, by simp [go_sem], by simp [go_sem], by simp, (sp_new (sp_new (Below.refl _ _) _) _)⟩
theorem tfe_ff {p b cap kb : Nat} {caps : Array Value} {g : Int → Int} {ls : List (Bool × Int × Int)} {okp : Int → Prop} {v1 v2 W0 : World} {S : Nat → Prop} (f0 : v2.cell? ⟨p, 0, none⟩ = some (.func (.func kb) #[] caps)) (f2 : v2.cell? ⟨p + 1, 0, none⟩ = some (.slice (some ⟨b, 0, none⟩) ls.length cap)) (srow : SRowf v2 b ls) (hlen : ls.length ≤ 1000) (hp : p + 1 < v2.heap.size) (hb : b < v2.heap.size)
    (eby : ∀ args w, (callFunc kb args).run Tryz.prog w = .ok (.enter kb args) w) (hby : ∀ x X, okp x → Below v1.heap.size v1 X → Calls Tryz.prog kb (#[.int .u64 x] ++ caps) X fun e X' => e = .returned (.int .u64 (g x)) ∧ Below X.heap.size X X') (hok : ∀ q ∈ endsL ls, okp q)
    (b12 : Below v1.heap.size v1 v2) (hW : Below v2.heap.size v2 W0) (hSS : ∀ k, S k → v2.heap.size ≤ k ∧ k < W0.heap.size) :
    Feeds Tryz.prog 109 #[.pointer (some ⟨p + 1, 0, none⟩), .pointer (some ⟨p, 0, none⟩)] (fun x : Int => #[Value.int .u64 x]) S ((endsL ls).map g) W0 := by
  have nS : ∀ k, k < v2.heap.size → ¬ S k := fun k hk h => absurd (hSS k h).1 (by omega)
  have z := b12.size
  have bu : But S v2 W0 := But.of hW
  refine each1_feeds_ff (p + 1) p b cap kb caps g ls hlen S W0 (nS _ hp) (nS _ (by omega)) (nS _ hb) (fun k hk => (hSS k hk).2) (fun x V hm hV => hby x V (hok x hm) ?_) eby (bu.cell (nS _ hp) f2) (bu.cell (nS _ (by simp; omega)) f0) (srow.but bu (nS _ hb))
  exact (b12.trans (hW.mono z)).trans (hV.below (Nat.le_trans z hW.size) (fun k hk => Nat.le_trans z (hSS k hk).1))
theorem tex_fi (kb : Nat) (caps : Array Value) (b n cap : Nat) (w : World) : Calls Tryz.prog 54 #[.func (.func kb) #[] caps, .slice (some ⟨b, 0, none⟩) n cap] w fun r w' =>
    ∃ p : Nat, r = .returned (.func (.func 130) #[] #[.pointer (some ⟨p + 1, 0, none⟩), .pointer (some ⟨p, 0, none⟩)]) ∧ w'.cell? ⟨p, 0, none⟩ = some (.func (.func kb) #[] caps) ∧ w'.cell? ⟨p + 1, 0, none⟩ = some (.slice (some ⟨b, 0, none⟩) n cap) ∧ p + 1 < w'.heap.size ∧ Below w.heap.size w w' := by
  refine (each1_fi (.func (.func kb) #[] caps) ⟨_, _, rfl⟩ (.slice (some ⟨b, 0, none⟩) n cap) ⟨_, _, _, rfl⟩ w).mono ?_
  rintro r w' ⟨rfl, rfl⟩
  exact ⟨w.heap.size, rfl, by simp [go_sem], by simp [go_sem], by simp, (sp_new (sp_new (Below.refl _ _) _) _)⟩
theorem tfe_fi {p b cap kb : Nat} {caps : Array Value} {g : Int → Int} {ls : List (Bool × Int × Int)} {okp : Int → Prop} {v1 v2 W0 : World} {S : Nat → Prop} (f0 : v2.cell? ⟨p, 0, none⟩ = some (.func (.func kb) #[] caps)) (f2 : v2.cell? ⟨p + 1, 0, none⟩ = some (.slice (some ⟨b, 0, none⟩) ls.length cap)) (srow : SRowf v2 b ls) (hlen : ls.length ≤ 1000) (hp : p + 1 < v2.heap.size) (hb : b < v2.heap.size)
    (eby : ∀ args w, (callFunc kb args).run Tryz.prog w = .ok (.enter kb args) w) (hby : ∀ x X, okp x → Below v1.heap.size v1 X → Calls Tryz.prog kb (#[.int .u64 x] ++ caps) X fun e X' => e = .returned (.int .i64 (g x)) ∧ Below X.heap.size X X') (hok : ∀ q ∈ endsL ls, okp q)
    (b12 : Below v1.heap.size v1 v2) (hW : Below v2.heap.size v2 W0) (hSS : ∀ k, S k → v2.heap.size ≤ k ∧ k < W0.heap.size) :
    Feeds Tryz.prog 130 #[.pointer (some ⟨p + 1, 0, none⟩), .pointer (some ⟨p, 0, none⟩)] (fun x : Int => #[Value.int .i64 x]) S ((endsL ls).map g) W0 := by
  have nS : ∀ k, k < v2.heap.size → ¬ S k := fun k hk h => absurd (hSS k h).1 (by omega)
  have z := b12.size
  have bu : But S v2 W0 := But.of hW
  refine each1_feeds_fi (p + 1) p b cap kb caps g ls hlen S W0 (nS _ hp) (nS _ (by omega)) (nS _ hb) (fun k hk => (hSS k hk).2) (fun x V hm hV => hby x V (hok x hm) ?_) eby (bu.cell (nS _ hp) f2) (bu.cell (nS _ (by simp; omega)) f0) (srow.but bu (nS _ hb))
  exact (b12.trans (hW.mono z)).trans (hV.below (Nat.le_trans z hW.size) (fun k hk => Nat.le_trans z (hSS k hk).1))
theorem tex_if (kb : Nat) (caps : Array Value) (b n cap : Nat) (w : World) : Calls Tryz.prog 61 #[.func (.func kb) #[] caps, .slice (some ⟨b, 0, none⟩) n cap] w fun r w' =>
    ∃ p : Nat, r = .returned (.func (.func 134) #[] #[.pointer (some ⟨p + 1, 0, none⟩), .pointer (some ⟨p, 0, none⟩)]) ∧ w'.cell? ⟨p, 0, none⟩ = some (.func (.func kb) #[] caps) ∧ w'.cell? ⟨p + 1, 0, none⟩ = some (.slice (some ⟨b, 0, none⟩) n cap) ∧ p + 1 < w'.heap.size ∧ Below w.heap.size w w' := by
  refine (each1_if (.func (.func kb) #[] caps) ⟨_, _, rfl⟩ (.slice (some ⟨b, 0, none⟩) n cap) ⟨_, _, _, rfl⟩ w).mono ?_
  rintro r w' ⟨rfl, rfl⟩
  exact ⟨w.heap.size, rfl, by simp [go_sem], by simp [go_sem], by simp, (sp_new (sp_new (Below.refl _ _) _) _)⟩
theorem tfe_if {p b cap kb : Nat} {caps : Array Value} {g : Int → Int} {ls : List (Bool × Int × Int)} {okp : Int → Prop} {v1 v2 W0 : World} {S : Nat → Prop} (f0 : v2.cell? ⟨p, 0, none⟩ = some (.func (.func kb) #[] caps)) (f2 : v2.cell? ⟨p + 1, 0, none⟩ = some (.slice (some ⟨b, 0, none⟩) ls.length cap)) (srow : SRowi v2 b ls) (hlen : ls.length ≤ 1000) (hp : p + 1 < v2.heap.size) (hb : b < v2.heap.size)
    (eby : ∀ args w, (callFunc kb args).run Tryz.prog w = .ok (.enter kb args) w) (hby : ∀ x X, okp x → Below v1.heap.size v1 X → Calls Tryz.prog kb (#[.int .i64 x] ++ caps) X fun e X' => e = .returned (.int .u64 (g x)) ∧ Below X.heap.size X X') (hok : ∀ q ∈ endsL ls, okp q)
    (b12 : Below v1.heap.size v1 v2) (hW : Below v2.heap.size v2 W0) (hSS : ∀ k, S k → v2.heap.size ≤ k ∧ k < W0.heap.size) :
    Feeds Tryz.prog 134 #[.pointer (some ⟨p + 1, 0, none⟩), .pointer (some ⟨p, 0, none⟩)] (fun x : Int => #[Value.int .u64 x]) S ((endsL ls).map g) W0 := by
  have nS : ∀ k, k < v2.heap.size → ¬ S k := fun k hk h => absurd (hSS k h).1 (by omega)
  have z := b12.size
  have bu : But S v2 W0 := But.of hW
  refine each1_feeds_if (p + 1) p b cap kb caps g ls hlen S W0 (nS _ hp) (nS _ (by omega)) (nS _ hb) (fun k hk => (hSS k hk).2) (fun x V hm hV => hby x V (hok x hm) ?_) eby (bu.cell (nS _ hp) f2) (bu.cell (nS _ (by simp; omega)) f0) (srow.but bu (nS _ hb))
  exact (b12.trans (hW.mono z)).trans (hV.below (Nat.le_trans z hW.size) (fun k hk => Nat.le_trans z (hSS k hk).1))
theorem tu_row_f {X v5 : World} {b p n cap : Nat} {e : Bool} {a0 b0 : Int} (g : Below X.heap.size X v5) (f2 : v5.cell? ⟨p + 1, 0, none⟩ = some (.slice (some ⟨b, 0, none⟩) n cap)) (h : X.cell? ⟨b, 0, none⟩ = some (.bool e) ∧ X.cell? ⟨b, 1, none⟩ = some (.int .u64 a0) ∧ X.cell? ⟨b, 2, none⟩ = some (.int .u64 b0)) :
    SRowf v5 b [(e, a0, b0)] ∧ b < v5.heap.size := by
  obtain ⟨s0, s1, s2⟩ := h
  refine ⟨fun j s hj => ?_, Nat.lt_of_lt_of_le (World.block_lt_of_cell? X ⟨b, 0, none⟩ s0) g.size⟩
  rcases j with _ | n
  · simp at hj; subst hj
    exact ⟨sO g s0, sO g s1, sO g s2⟩
  · simp at hj
theorem tu_row_i {X v5 : World} {b p n cap : Nat} {e : Bool} {a0 b0 : Int} (g : Below X.heap.size X v5) (f2 : v5.cell? ⟨p + 1, 0, none⟩ = some (.slice (some ⟨b, 0, none⟩) n cap)) (h : X.cell? ⟨b, 0, none⟩ = some (.bool e) ∧ X.cell? ⟨b, 1, none⟩ = some (.int .i64 a0) ∧ X.cell? ⟨b, 2, none⟩ = some (.int .i64 b0)) :
    SRowi v5 b [(e, a0, b0)] ∧ b < v5.heap.size := by
  obtain ⟨s0, s1, s2⟩ := h
  refine ⟨fun j s hj => ?_, Nat.lt_of_lt_of_le (World.block_lt_of_cell? X ⟨b, 0, none⟩ s0) g.size⟩
  rcases j with _ | n
  · simp at hj; subst hj
    exact ⟨sO g s0, sO g s1, sO g s2⟩
  · simp at hj
end Go.Proofs.YtgdknlnpfnifiaaGreat

namespace Go.Proofs.YtgdknlnpfnifiaaGreat
open Go.RowKit
set_option linter.unusedVariables false
set_option linter.unusedSimpArgs false
set_option maxRecDepth 100000 in
theorem trapsOf_4 (w : World) : Calls Tryz.prog 86 #[.int .i64 4] w fun e w' => e = .returned (.int .i64 8) ∧ w' = w := by
  go_enter Tryz.func86, Tryz.ntmps86
  go_wp2_with fail
  go_ret
  exact ⟨rfl, rfl⟩
set_option maxRecDepth 100000 in
theorem trapsOf_5 (w : World) : Calls Tryz.prog 86 #[.int .i64 5] w fun e w' => e = .returned (.int .i64 16) ∧ w' = w := by
  go_enter Tryz.func86, Tryz.ntmps86
  go_wp2_with fail
  go_ret
  exact ⟨rfl, rfl⟩
set_option maxRecDepth 100000 in
theorem byZero_i (e1 : Bool) (a b : Int) (w : World) : Calls Tryz.prog 125 #[.agg #[.bool e1, .int .i64 a, .int .i64 b]] w fun e w' => e = .returned (.int .i64 16) ∧ Below w.heap.size w w' := by
  have h := trapsOf_5
  go_enter Tryz.func125, Tryz.ntmps125
  go_wp2_with (go_at_call 86; refine (h _).mono ?_; rintro e w1 ⟨rfl, rfl⟩)
  go_ret
  exact ⟨rfl, sp_new (Below.refl _ _) _⟩
set_option maxRecDepth 100000 in
theorem ofInts_any (e1 : Bool) (a b : Int) (w : World) : Calls Tryz.prog 62 #[.agg #[.bool e1, .int .i64 a, .int .i64 b]] w fun e w' => e = .returned (.agg #[.bool e1, .int .i64 a, .int .i64 b]) ∧ Below w.heap.size w w' := by
  go_enter Tryz.func62, Tryz.ntmps62
  go_wp2_with fail
  exact bodyPost_ret (v := .agg #[.bool e1, .int .i64 a, .int .i64 b]) (by simp [results, Tryz.results62, go_sem]) rfl ⟨rfl, sp_new (sp_new (Below.refl _ _) _) _⟩
set_option maxRecDepth 100000 in
theorem intRange_any (e1 : Bool) (a b : Int) (w : World) : Calls Tryz.prog 55 #[.agg #[.bool e1, .int .i64 a, .int .i64 b]] w fun e w' => e = .returned (.agg #[.bool e1, .int .i64 a, .int .i64 b]) ∧ Below w.heap.size w w' := by
  go_enter Tryz.func55, Tryz.ntmps55
  go_wp2_with fail
  exact bodyPost_ret (v := .agg #[.bool e1, .int .i64 a, .int .i64 b]) (by simp [results, Tryz.results55, go_sem]) rfl ⟨rfl, sp_new (sp_new (Below.refl _ _) _) _⟩
def gI (op x y : Int) : Int := if op = 8 then x + y else if op = 9 then x - y else if op = 10 then x * y else x.tdiv y
def okI (op x y : Int) : Prop := -2147483648 ≤ x ∧ x ≤ 2147483647 ∧ -2147483648 ≤ y ∧ y ≤ 2147483647 ∧ (op = 11 → y ≠ 0)
theorem mulI_bound {x y : Int} (h1 : -2147483648 ≤ x) (h2 : x ≤ 2147483647) (h3 : -2147483648 ≤ y) (h4 : y ≤ 2147483647) : -4611686018427387904 ≤ x * y ∧ x * y ≤ 4611686018427387904 := by
  have a1 : x.natAbs ≤ 2147483648 := by omega
  have a2 : y.natAbs ≤ 2147483648 := by omega
  have a3 := Nat.mul_le_mul a1 a2
  rw [← Int.natAbs_mul] at a3
  omega
set_option maxRecDepth 100000 in
theorem add_i (x y : Int) (h : okI 8 x y) (w : World) : Calls Tryz.prog 186 #[.int .i64 x, .int .i64 y] w fun e w' => e = .returned (.int .i64 (gI 8 x y)) ∧ Below w.heap.size w w' := by
  obtain ⟨h1, h2, h3, h4, _⟩ := h
  go_enter Tryz.func186, Tryz.ntmps186
  go_wp2_with fail
  go_ret
  exact ⟨by simp [gI], Below.refl _ _⟩
set_option maxRecDepth 100000 in
theorem sub_i (x y : Int) (h : okI 9 x y) (w : World) : Calls Tryz.prog 187 #[.int .i64 x, .int .i64 y] w fun e w' => e = .returned (.int .i64 (gI 9 x y)) ∧ Below w.heap.size w w' := by
  obtain ⟨h1, h2, h3, h4, _⟩ := h
  go_enter Tryz.func187, Tryz.ntmps187
  go_wp2_with fail
  go_ret
  exact ⟨by simp [gI], Below.refl _ _⟩
set_option maxRecDepth 100000 in
theorem mul_i (x y : Int) (h : okI 10 x y) (w : World) : Calls Tryz.prog 188 #[.int .i64 x, .int .i64 y] w fun e w' => e = .returned (.int .i64 (gI 10 x y)) ∧ Below w.heap.size w w' := by
  obtain ⟨h1, h2, h3, h4, _⟩ := h
  obtain ⟨b1, b2⟩ := mulI_bound h1 h2 h3 h4
  go_enter Tryz.func188, Tryz.ntmps188
  go_wp2_with fail
  go_ret
  exact ⟨by simp [gI], Below.refl _ _⟩
set_option maxRecDepth 100000 in
theorem div_i (x y : Int) (h : okI 11 x y) (w : World) : Calls Tryz.prog 189 #[.int .i64 x, .int .i64 y] w fun e w' => e = .returned (.int .i64 (gI 11 x y)) ∧ Below w.heap.size w w' := by
  obtain ⟨h1, h2, h3, h4, h5⟩ := h
  have h6 : ¬ y = 0 := h5 rfl
  have h7 : (y == 0) = false := by simp [h6]
  have b : -2147483648 ≤ x.tdiv y ∧ x.tdiv y ≤ 2147483648 := by
    have a := Int.natAbs_tdiv_le_natAbs x y
    omega
  clear h5
  go_enter Tryz.func189, Tryz.ntmps189
  go_wp2_with fail
  go_ret
  exact ⟨by simp [gI], Below.refl _ _⟩
set_option maxRecDepth 100000 in
theorem by2_i (op : Int) (h : op = 8 ∨ op = 9 ∨ op = 10 ∨ op = 11) (w0 : World) : By2i LnI WyI 0 w0 op (okI op) (gI op) := by
  intro V _
  rcases h with rfl | rfl | rfl | rfl
  · show Calls Tryz.prog 124 #[.int .i64 8] V _
    go_enter Tryz.func124, Tryz.ntmps124
    go_wp2_with fail
    go_ret
    exact ⟨Below.refl _ _, _, _, rfl, enters_of Tryz.func186 (by kernel_rfl) rfl, fun x y X h _ => add_i x y h X⟩
  · show Calls Tryz.prog 124 #[.int .i64 9] V _
    go_enter Tryz.func124, Tryz.ntmps124
    go_wp2_with fail
    go_ret
    exact ⟨Below.refl _ _, _, _, rfl, enters_of Tryz.func187 (by kernel_rfl) rfl, fun x y X h _ => sub_i x y h X⟩
  · show Calls Tryz.prog 124 #[.int .i64 10] V _
    go_enter Tryz.func124, Tryz.ntmps124
    go_wp2_with fail
    go_ret
    exact ⟨Below.refl _ _, _, _, rfl, enters_of Tryz.func188 (by kernel_rfl) rfl, fun x y X h _ => mul_i x y h X⟩
  · show Calls Tryz.prog 124 #[.int .i64 11] V _
    go_enter Tryz.func124, Tryz.ntmps124
    go_wp2_with fail
    go_ret
    exact ⟨Below.refl _ _, _, _, rfl, enters_of Tryz.func189 (by kernel_rfl) rfl, fun x y X h _ => div_i x y h X⟩
end Go.Proofs.YtgdknlnpfnifiaaGreat


