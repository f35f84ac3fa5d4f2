/- span.two on a line. -/
import Derived.Test.YteafnkimcidkhaaGreatRgTf
import Derived.Test.YteafnkimcidkhaaGreatRgOf
import Derived.Test.YteafnkimcidkhaaGreatSpQ
namespace Go.Proofs.YteafnkimcidkhaaGreat
open Go.RowKit
set_option linter.unusedVariables false
set_option linter.unusedSimpArgs false
theorem below_overf {W w2 : World} {o : Obj} (g : Below (W.alloc o).drew.heap.size (W.alloc o).drew w2) : Below W.heap.size W w2 :=
  ⟨g.os, g.tape, g.output, Nat.le_trans (Nat.le_trans (Nat.le_succ _) (by simp)) g.size, fun k hk => (g.block k (by show k < (W.alloc o).heap.size; simp; omega)).trans (Below.heap_alloc W o k hk)⟩
theorem lt_overf {W w2 : World} {o : Obj} (g : Below (W.alloc o).drew.heap.size (W.alloc o).drew w2) : W.heap.size < w2.heap.size := Nat.lt_of_lt_of_le (show W.heap.size < (W.alloc o).heap.size by simp) g.size
theorem srow_onf {W w2 : World} {e : Bool} {a b : Int} {t : TypeId} (g : Below (W.alloc (.cells #[.bool e, .int .u64 a, .int .u64 b] t)).drew.heap.size (W.alloc (.cells #[.bool e, .int .u64 a, .int .u64 b] t)).drew w2) : SRowf w2 W.heap.size [(e, a, b)] := fun j s hj => by
  cases j with
  | zero =>
    simp at hj; subst hj
    exact ⟨sp_cell_on g (show (W.alloc _).cell? _ = some _ by simp [go_sem]), sp_cell_on g (show (W.alloc _).cell? _ = some _ by simp [go_sem]), sp_cell_on g (show (W.alloc _).cell? _ = some _ by simp [go_sem])⟩
  | succ n => simp at hj
/-- eachOfBoth's own memory, by facts. -/
theorem each2x_f (kb : Nat) (caps : Array Value) (e : Bool) (lo hi : Int) (b n cap : Nat) (w : World) : Calls Tryz.prog 156 #[.func (.func kb) #[] caps, .agg #[.bool e, .int .u64 lo, .int .u64 hi], .slice (some ⟨b, 0, none⟩) n cap] w fun r w' =>
    ∃ p : Nat, r = .returned (.func (.func 194) #[] #[.pointer (some ⟨p + 1, 0, none⟩), .pointer (some ⟨p + 1 + 1, 0, none⟩), .pointer (some ⟨p, 0, none⟩)]) ∧ w'.cell? ⟨p, 0, none⟩ = some (.func (.func kb) #[] caps) ∧ Box3f w' (p + 1) (e, lo, hi) ∧ w'.cell? ⟨p + 1 + 1, 0, none⟩ = some (.slice (some ⟨b, 0, none⟩) n cap) ∧ p + 1 + 1 < w'.heap.size ∧ Below w.heap.size w w' := by
  refine (each2_f (.func (.func kb) #[] caps) ⟨_, _, rfl⟩ e lo hi (.slice (some ⟨b, 0, none⟩) n cap) ⟨_, _, _, rfl⟩ w).mono ?_
  rintro r w' ⟨rfl, rfl⟩
  exact ⟨w.heap.size, rfl, by simp [go_sem], by unfold Box3f; simp [go_sem], by simp [go_sem], by simp, (sp_new (sp_new (sp_new (Below.refl _ _) _) _) _)⟩
theorem feeds2_f {p b cap kb : Nat} {caps : Array Value} {g : Int → Int → Int} {em : Bool} {lo hi : Int} {ls : List (Bool × Int × Int)} {okp : Int → Int → Prop} {v1 v2 W0 : World} {S : Nat → Prop} (f0 : v2.cell? ⟨p, 0, none⟩ = some (.func (.func kb) #[] caps)) (f1 : Box3f v2 (p + 1) (em, lo, hi)) (f2 : v2.cell? ⟨p + 1 + 1, 0, none⟩ = some (.slice (some ⟨b, 0, none⟩) ls.length cap)) (srow : SRowf v2 b ls) (hlen : ls.length ≤ 1000) (hp : p + 1 + 1 < v2.heap.size) (hb : b < v2.heap.size)
    (eby : ∀ args w, (callFunc kb args).run Tryz.prog w = .ok (.enter kb args) w) (hby : ∀ x y X, okp x y → Below v1.heap.size v1 X → Calls Tryz.prog kb (#[.int .u64 x, .int .u64 y] ++ caps) X fun e X' => e = .returned (.int .u64 (g x y)) ∧ Below X.heap.size X X') (hok : ∀ q ∈ pairsL (em, lo, hi) ls, okp q.1 q.2)
    (b12 : Below v1.heap.size v1 v2) (hW : Below v2.heap.size v2 W0) (hSS : ∀ k, S k → v2.heap.size ≤ k ∧ k < W0.heap.size) :
    Feeds Tryz.prog 194 #[.pointer (some ⟨p + 1, 0, none⟩), .pointer (some ⟨p + 1 + 1, 0, none⟩), .pointer (some ⟨p, 0, none⟩)] (fun x : Int => #[Value.int .u64 x]) S ((pairsL (em, lo, hi) ls).map fun p => g p.1 p.2) W0 := by
  have nS : ∀ k, k < v2.heap.size → ¬ S k := fun k hk h => absurd (hSS k h).1 (by omega)
  have z := b12.size
  have bu : But S v2 W0 := But.of hW
  refine each2_feeds_f (p + 1) (p + 1 + 1) p b cap kb caps g em lo hi ls hlen S W0 (nS _ (by omega)) (nS _ hp) (nS _ (by omega)) (nS _ hb) (fun k hk => (hSS k hk).2) (fun x y V hm hV => hby x y V (hok (x, y) hm) ?_) eby (f1.but bu (nS _ (by omega))) (bu.cell (nS _ hp) f2) (bu.cell (nS _ (by simp; omega)) f0) (srow.but bu (nS _ hb))
  exact (b12.trans (hW.mono z)).trans (hV.below (Nat.le_trans z hW.size) (fun k hk => Nat.le_trans z (hSS k hk).1))
theorem fn_nil_f (kb : Nat) (caps : Array Value) (w : World) : (binOp BinOp.eql 144 (.func (.func kb) #[] caps) .nilFunc).run Tryz.prog w = .ok (.bool false) w := by kernel_rfl
/-- How two are reckoned with: the function value that byTwo hands back, and what it does. -/
def By2f (L : Ln) (A : Ways) (B : Nat) (w0 : World) (op : Int) (ok : Int → Int → Prop) (g : Int → Int → Int) : Prop :=
  ∀ V, Below B w0 V → Calls Tryz.prog L.kt (#[.int .i64 op] ++ L.ct) V fun e V' => Below V.heap.size V V' ∧ ∃ kb caps, e = .returned (.func (.func kb) #[] caps) ∧ (∀ args w, (callFunc kb args).run Tryz.prog w = .ok (.enter kb args) w)
    ∧ ∀ x y X, ok x y → Below V'.heap.size V' X → Calls Tryz.prog kb (#[.int .u64 x, .int .u64 y] ++ caps) X fun e X' => e = .returned (.int .u64 (g x y)) ∧ Below X.heap.size X X'
set_option maxRecDepth 100000 in
set_option maxHeartbeats 6400000 in
theorem two_f {L : Ln} {A : Ways} {B : Nat} {w0 : World} (H : Actsf L A B w0) (et : ∀ args w, (callFunc L.kt args).run Tryz.prog w = .ok (.enter L.kt args) w) (T : Int) (hT : ∀ w, Calls Tryz.prog 148 #[.int .i64 L.past] w fun e w' => e = .returned (.int .i64 T) ∧ w' = w) (op : Int) (hop : (op == 11) = false) (okp : Int → Int → Prop) (g : Int → Int → Int) (h2 : By2f L A B w0 op okp g)
    (a b c d : Int) (d0 : A.dom 0) (dl : A.dom L.least) (dm : A.dom L.most) (hx : ∀ p ∈ pairsL (false, a, b) [(false, c, d)], okp p.1 p.2 ∧ A.dom (g p.1 p.2) ∧ A.dom (A.pl (g p.1 p.2))) (w : World) (ok : Below B w0 w) :
    Calls Tryz.prog 103 #[.agg (lvf L), .int .i64 op, .agg #[.bool false, .int .u64 a, .int .u64 b], .agg #[.bool false, .int .u64 c, .int .u64 d]] w fun e w' =>
      e = .returned (.tuple #[sVf (meetP A (hullP A ((pairsL (false, a, b) [(false, c, d)]).map fun p => g p.1 p.2)) (false, L.least, L.most)), .int .i64 (trapP A L T ((pairsL (false, a, b) [(false, c, d)]).map fun p => g p.1 p.2))]) ∧ Below w.heap.size w w' := by
  have hB := H.hB
  have htold := fun gf lb w ok eg hseq => told_f H T hT gf lb ((pairsL (false, a, b) [(false, c, d)]).map fun p => g p.1 p.2) d0 dl dm (fun x hxm => by
    obtain ⟨p, hp, rfl⟩ := List.mem_map.1 hxm
    exact (hx p hp).2) w ok eg hseq
  have he2 := each2x_f
  have hok : ∀ q ∈ pairsL (false, a, b) [(false, c, d)], okp q.1 q.2 := fun q hq => (hx q hq).1
  clear hx
  generalize meetP A (hullP A ((pairsL (false, a, b) [(false, c, d)]).map fun p => g p.1 p.2)) (false, L.least, L.most) = R at *
  obtain ⟨me, mlo, mhi⟩ := R
  generalize trapP A L T ((pairsL (false, a, b) [(false, c, d)]).map fun p => g p.1 p.2) = TR at *
  unfold sVf lvf at *
  dsimp only at *
  have hq := h2
  unfold By2f at hq
  go_enter Tryz.func103, Tryz.ntmps103
  go_wp2_with fail
  obtain ⟨W, hW⟩ : ∃ W, ((((w.alloc (.cells #[.int .u64 L.least, .int .u64 L.most, .int .i64 L.past, .func (.func L.ko) #[] L.co, .func (.func L.kp) #[] L.cp, .func (.func L.k1) #[] L.c1, .func (.func L.kv) #[] L.cv, .func (.func L.kn) #[] L.cn, .func (.func L.ku) #[] L.cu, .func (.func L.kt) #[] L.ct, .func (.func L.kz) #[] L.cz] 134)).alloc (.cells #[.bool false, .int .u64 a, .int .u64 b] 126)).alloc (.cells #[.bool false, .int .u64 c, .int .u64 d] 126)).alloc (.cells #[.bool false, .int .u64 0, .int .u64 0] 126)) = W := ⟨_, rfl⟩
  have l0 : W.cell? ⟨w.heap.size, 0, none⟩ = some (.int .u64 L.least) := by rw [← hW]; simp [go_sem]
  have l1 : W.cell? ⟨w.heap.size, 1, none⟩ = some (.int .u64 L.most) := by rw [← hW]; simp [go_sem]
  have l2 : W.cell? ⟨w.heap.size, 2, none⟩ = some (.int .i64 L.past) := by rw [← hW]; simp [go_sem]
  have l3 : W.cell? ⟨w.heap.size, 3, none⟩ = some (.func (.func L.ko) #[] L.co) := by rw [← hW]; simp [go_sem]
  have l4 : W.cell? ⟨w.heap.size, 4, none⟩ = some (.func (.func L.kp) #[] L.cp) := by rw [← hW]; simp [go_sem]
  have l5 : W.cell? ⟨w.heap.size, 5, none⟩ = some (.func (.func L.k1) #[] L.c1) := by rw [← hW]; simp [go_sem]
  have l6 : W.cell? ⟨w.heap.size, 6, none⟩ = some (.func (.func L.kv) #[] L.cv) := by rw [← hW]; simp [go_sem]
  have l7 : W.cell? ⟨w.heap.size, 7, none⟩ = some (.func (.func L.kn) #[] L.cn) := by rw [← hW]; simp [go_sem]
  have l8 : W.cell? ⟨w.heap.size, 8, none⟩ = some (.func (.func L.ku) #[] L.cu) := by rw [← hW]; simp [go_sem]
  have l9 : W.cell? ⟨w.heap.size, 9, none⟩ = some (.func (.func L.kt) #[] L.ct) := by rw [← hW]; simp [go_sem]
  have l10 : W.cell? ⟨w.heap.size, 10, none⟩ = some (.func (.func L.kz) #[] L.cz) := by rw [← hW]; simp [go_sem]
  have a0 : W.cell? ⟨w.heap.size + 1, 0, none⟩ = some (.bool false) := by rw [← hW]; simp [go_sem]
  have a1 : W.cell? ⟨w.heap.size + 1, 1, none⟩ = some (.int .u64 a) := by rw [← hW]; simp [go_sem]
  have a2 : W.cell? ⟨w.heap.size + 1, 2, none⟩ = some (.int .u64 b) := by rw [← hW]; simp [go_sem]
  have b0 : W.cell? ⟨w.heap.size + 1 + 1, 0, none⟩ = some (.bool false) := by rw [← hW]; simp [go_sem]
  have b1 : W.cell? ⟨w.heap.size + 1 + 1, 1, none⟩ = some (.int .u64 c) := by rw [← hW]; simp [go_sem]
  have b2 : W.cell? ⟨w.heap.size + 1 + 1, 2, none⟩ = some (.int .u64 d) := by rw [← hW]; simp [go_sem]
  have r0 : W.cell? ⟨w.heap.size + 1 + 1 + 1, 0, none⟩ = some (.bool false) := by rw [← hW]; simp [go_sem]
  have r1 : W.cell? ⟨w.heap.size + 1 + 1 + 1, 1, none⟩ = some (.int .u64 0) := by rw [← hW]; simp [go_sem]
  have r2 : W.cell? ⟨w.heap.size + 1 + 1 + 1, 2, none⟩ = some (.int .u64 0) := by rw [← hW]; simp [go_sem]
  have okW : Below B w0 W := by rw [← hW]; exact (ok_new hB (ok_new hB (ok_new hB (ok_new hB ok _) _) _) _)
  have bW : Below w.heap.size w W := by rw [← hW]; exact (sp_new (sp_new (sp_new (sp_new (Below.refl _ _) _) _) _) _)
  have zW : W.heap.size = w.heap.size + 4 := by rw [← hW]; simp
  have fz : ∀ j, W.frozen? ⟨w.heap.size + 1 + 1 + 1, j, none⟩ = false := by intro j; rw [← hW]; simp [go_sem]
  rw [hW]
  clear hW
  with_reducible refine (hq _ okW).mono ?_
  rintro e v1 ⟨g1, kb, caps, rfl, eby, hby⟩
  replace fz := fun j => (g1.frozen (p := ⟨w.heap.size + 1 + 1 + 1, j, none⟩) (by simp; omega)).trans (fz j)
  have z1 := g1.size
  replace okW := ok_call hB okW g1
  replace bW := sp_call bW g1
  replace l0 := sp_cell_on g1 l0; replace l1 := sp_cell_on g1 l1; replace l2 := sp_cell_on g1 l2; replace l3 := sp_cell_on g1 l3; replace l4 := sp_cell_on g1 l4; replace l5 := sp_cell_on g1 l5; replace l6 := sp_cell_on g1 l6; replace l7 := sp_cell_on g1 l7; replace l8 := sp_cell_on g1 l8; replace l9 := sp_cell_on g1 l9; replace l10 := sp_cell_on g1 l10; replace a0 := sp_cell_on g1 a0; replace a1 := sp_cell_on g1 a1; replace a2 := sp_cell_on g1 a2; replace b0 := sp_cell_on g1 b0; replace b1 := sp_cell_on g1 b1; replace b2 := sp_cell_on g1 b2; replace r0 := sp_cell_on g1 r0; replace r1 := sp_cell_on g1 r1; replace r2 := sp_cell_on g1 r2
  have hn := fn_nil_f kb caps
  go_wp2_with fail
  go_region_held3 (fun w' => w'.cell? ⟨w.heap.size, 0, none⟩ = some (.int .u64 L.least) ∧ w'.cell? ⟨w.heap.size, 1, none⟩ = some (.int .u64 L.most) ∧ w'.cell? ⟨w.heap.size, 2, none⟩ = some (.int .i64 L.past) ∧ w'.cell? ⟨w.heap.size, 3, none⟩ = some (.func (.func L.ko) #[] L.co) ∧ w'.cell? ⟨w.heap.size, 4, none⟩ = some (.func (.func L.kp) #[] L.cp) ∧ w'.cell? ⟨w.heap.size, 5, none⟩ = some (.func (.func L.k1) #[] L.c1) ∧ w'.cell? ⟨w.heap.size, 6, none⟩ = some (.func (.func L.kv) #[] L.cv) ∧ w'.cell? ⟨w.heap.size, 7, none⟩ = some (.func (.func L.kn) #[] L.cn) ∧ w'.cell? ⟨w.heap.size, 8, none⟩ = some (.func (.func L.ku) #[] L.cu) ∧ w'.cell? ⟨w.heap.size, 9, none⟩ = some (.func (.func L.kt) #[] L.ct) ∧ w'.cell? ⟨w.heap.size, 10, none⟩ = some (.func (.func L.kz) #[] L.cz) ∧ w'.cell? ⟨w.heap.size + 1, 0, none⟩ = some (.bool false) ∧ w'.cell? ⟨w.heap.size + 1, 1, none⟩ = some (.int .u64 a) ∧ w'.cell? ⟨w.heap.size + 1, 2, none⟩ = some (.int .u64 b) ∧ w'.cell? ⟨w.heap.size + 1 + 1, 0, none⟩ = some (.bool false) ∧ w'.cell? ⟨w.heap.size + 1 + 1, 1, none⟩ = some (.int .u64 c) ∧ w'.cell? ⟨w.heap.size + 1 + 1, 2, none⟩ = some (.int .u64 d)) (first | exact ⟨l0, l1, l2, l3, l4, l5, l6, l7, l8, l9, l10, a0, a1, a2, b0, b1, b2⟩ | exact ⟨sp_cell_on (sp_new (Below.refl _ _) _) l0, sp_cell_on (sp_new (Below.refl _ _) _) l1, sp_cell_on (sp_new (Below.refl _ _) _) l2, sp_cell_on (sp_new (Below.refl _ _) _) l3, sp_cell_on (sp_new (Below.refl _ _) _) l4, sp_cell_on (sp_new (Below.refl _ _) _) l5, sp_cell_on (sp_new (Below.refl _ _) _) l6, sp_cell_on (sp_new (Below.refl _ _) _) l7, sp_cell_on (sp_new (Below.refl _ _) _) l8, sp_cell_on (sp_new (Below.refl _ _) _) l9, sp_cell_on (sp_new (Below.refl _ _) _) l10, sp_cell_on (sp_new (Below.refl _ _) _) a0, sp_cell_on (sp_new (Below.refl _ _) _) a1, sp_cell_on (sp_new (Below.refl _ _) _) a2, sp_cell_on (sp_new (Below.refl _ _) _) b0, sp_cell_on (sp_new (Below.refl _ _) _) b1, sp_cell_on (sp_new (Below.refl _ _) _) b2⟩ | exact ⟨sp_keep3 l0 (by omega) _ _ _, sp_keep3 l1 (by omega) _ _ _, sp_keep3 l2 (by omega) _ _ _, sp_keep3 l3 (by omega) _ _ _, sp_keep3 l4 (by omega) _ _ _, sp_keep3 l5 (by omega) _ _ _, sp_keep3 l6 (by omega) _ _ _, sp_keep3 l7 (by omega) _ _ _, sp_keep3 l8 (by omega) _ _ _, sp_keep3 l9 (by omega) _ _ _, sp_keep3 l10 (by omega) _ _ _, sp_keep3 a0 (by omega) _ _ _, sp_keep3 a1 (by omega) _ _ _, sp_keep3 a2 (by omega) _ _ _, sp_keep3 b0 (by omega) _ _ _, sp_keep3 b1 (by omega) _ _ _, sp_keep3 b2 (by omega) _ _ _⟩)
    (first
      | (go_at_call 156; refine (he2 _ _ _ _ _ _ _ _ _).mono ?_; rintro e v2 ⟨p, rfl, f0, f1, f2, hp, g2⟩; have srow : SRowf v2 v1.heap.size [(false, c, d)] := srow_onf g2; have zb : v1.heap.size < v2.heap.size := lt_overf g2; replace g2 : Below v1.heap.size v1 v2 := below_overf g2; replace fz := fun j => (g2.frozen (p := ⟨w.heap.size + 1 + 1 + 1, j, none⟩) (by simp; omega)).trans (fz j); have z2 := g2.size; replace okW := ok_call hB okW g2; replace bW := sp_call bW g2; replace l0 := sp_cell_on g2 l0; replace l1 := sp_cell_on g2 l1; replace l2 := sp_cell_on g2 l2; replace l3 := sp_cell_on g2 l3; replace l4 := sp_cell_on g2 l4; replace l5 := sp_cell_on g2 l5; replace l6 := sp_cell_on g2 l6; replace l7 := sp_cell_on g2 l7; replace l8 := sp_cell_on g2 l8; replace l9 := sp_cell_on g2 l9; replace l10 := sp_cell_on g2 l10; replace a0 := sp_cell_on g2 a0; replace a1 := sp_cell_on g2 a1; replace a2 := sp_cell_on g2 a2; replace b0 := sp_cell_on g2 b0; replace b1 := sp_cell_on g2 b1; replace b2 := sp_cell_on g2 b2; replace r0 := sp_cell_on g2 r0; replace r1 := sp_cell_on g2 r1; replace r2 := sp_cell_on g2 r2)
      | (go_at_call 155; refine (htold _ _ _ (by first | exact okW | exact okW.drew) (enters_of Tryz.func194 (by kernel_rfl) rfl) (fun S W0 hW hSS => feeds2_f (ls := [(false, c, d)]) f0 f1 f2 srow (by simp) hp zb eby hby hok g2 ⟨hW.os, hW.tape, hW.output, hW.size, hW.block⟩ hSS)).mono ?_; rintro e v3 ⟨rfl, g3⟩; replace g3 : Below v2.heap.size v2 v3 := ⟨g3.os, g3.tape, g3.output, g3.size, g3.block⟩; replace fz := fun j => (g3.frozen (p := ⟨w.heap.size + 1 + 1 + 1, j, none⟩) (by simp; omega)).trans (fz j); have z3 := g3.size; replace bW := sp_call bW g3; replace l0 := sp_cell_on g3 l0; replace l1 := sp_cell_on g3 l1; replace l2 := sp_cell_on g3 l2; replace l3 := sp_cell_on g3 l3; replace l4 := sp_cell_on g3 l4; replace l5 := sp_cell_on g3 l5; replace l6 := sp_cell_on g3 l6; replace l7 := sp_cell_on g3 l7; replace l8 := sp_cell_on g3 l8; replace l9 := sp_cell_on g3 l9; replace l10 := sp_cell_on g3 l10; replace a0 := sp_cell_on g3 a0; replace a1 := sp_cell_on g3 a1; replace a2 := sp_cell_on g3 a2; replace b0 := sp_cell_on g3 b0; replace b1 := sp_cell_on g3 b1; replace b2 := sp_cell_on g3 b2; replace r0 := sp_cell_on g3 r0; replace r1 := sp_cell_on g3 r1; replace r2 := sp_cell_on g3 r2)
      | fail)
  all_goals go_wp2
  all_goals exact bodyPost_ret (v := .tuple #[.agg #[.bool me, .int .u64 mlo, .int .u64 mhi], .int .i64 TR]) (by simp [results, Tryz.results103, go_sem, r0, r1, r2]) rfl ⟨rfl, sp_set3 bW (by omega) _ _ _⟩
end Go.Proofs.YteafnkimcidkhaaGreat
