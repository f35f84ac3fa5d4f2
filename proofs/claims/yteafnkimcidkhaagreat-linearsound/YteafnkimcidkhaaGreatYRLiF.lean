/- linear.together: the variables of two forms, rising, with both Coefs. -/
import Derived.Test.YteafnkimcidkhaaGreatYRG3
import Derived.Test.YteafnkimcidkhaaGreatRows
import Derived.RangeFuncBound
import Derived.RangeFuncLeaves
import Derived.Shelf.Abstract
import Derived.Shelf.RegionOpen
import Derived.WalkKit
import Derived.OwnWalkIn
import Derived.TacticsInMore
import Derived.LoopNIn
import Derived.LoopIn
namespace Go.Proofs.YteafnkimcidkhaaGreat
open Go.RowKit Go.Shelf
set_option linter.unusedVariables false
set_option linter.unusedSimpArgs false
attribute [local go_sem] Oper.semAt_some
def mg : Nat → List (Int × Bool × Int × Int) → List (Int × Bool × Int × Int) → List (Int × (Bool × Int × Int) × (Bool × Int × Int))
 | 0, _, _ => []
 | k + 1, az, bz => if az.length = 0 ∧ bz.length = 0 then [] else (min (fv az) (fv bz), (tk az (min (fv az) (fv bz))).1, (tk bz (min (fv az) (fv bz))).1) :: mg k (tk az (min (fv az) (fv bz))).2 (tk bz (min (fv az) (fv bz))).2
theorem mg_nil (k : Nat) : mg k [] [] = [] := by cases k <;> rfl
theorem tk_le (ls : List (Int × Bool × Int × Int)) (q : Int) : (tk ls q).2.length ≤ ls.length := by
 cases ls with
 | nil => exact Nat.le_refl _
 | cons t ts =>
  unfold tk
  dsimp only
  split
  ·simp
  ·exact Nat.le_refl _
theorem tk_lt (ls : List (Int × Bool × Int × Int)) (h : ls ≠ []) : (tk ls (fv ls)).2.length < ls.length := by
 cases ls with
 | nil => exact absurd rfl h
 | cons t ts =>
  unfold tk fv
  dsimp only
  rw [if_pos rfl]
  simp
def vOk (ls : List (Int × Bool × Int × Int)) : Prop := ∀ t ∈ ls, t.1 ≤ 9223372036854775807
theorem tk_ok {ls : List (Int × Bool × Int × Int)} (h : vOk ls) (q : Int) : vOk (tk ls q).2 := by
 cases ls with
 | nil => exact h
 | cons t ts =>
  unfold tk
  dsimp only
  split
  ·exact fun x hx => h x (List.mem_cons_of_mem _ hx)
  ·exact h
theorem fv_ok {ls : List (Int × Bool × Int × Int)} (h : vOk ls) : fv ls ≤ 9223372036854775807 := by
 cases ls with
 | nil => exact Int.le_refl _
 | cons t ts => exact h t (by simp)
theorem mg_less {az bz : List (Int × Bool × Int × Int)} (ha : vOk az) (hb : vOk bz) (h : ¬ (az.length = 0 ∧ bz.length = 0)) : (tk az (min (fv az) (fv bz))).2.length + (tk bz (min (fv az) (fv bz))).2.length < az.length + bz.length := by
 have a1 := tk_le az (min (fv az) (fv bz))
 have b1 := tk_le bz (min (fv az) (fv bz))
 have fa := fv_ok ha
 have fb := fv_ok hb
 rcases (show fv az ≤ fv bz ∨ fv bz ≤ fv az by omega) with c | c
 ·by_cases n : az = []
  ·subst n
   have e : fv bz = 9223372036854775807 := by have : fv ([] : List (Int × Bool × Int × Int)) = 9223372036854775807 := rfl; omega
   have nb : bz ≠ [] := fun q => h ⟨rfl, by rw [q]; rfl⟩
   have := tk_lt bz nb
   have m : min (fv []) (fv bz) = fv bz := by have : fv ([] : List (Int × Bool × Int × Int)) = 9223372036854775807 := rfl; omega
   rw [m] at a1 ⊢
   omega
  ·have := tk_lt az n
   rw [show min (fv az) (fv bz) = fv az by omega] at b1 ⊢
   omega
 ·by_cases n : bz = []
  ·subst n
   have na : az ≠ [] := fun q => h ⟨by rw [q]; rfl, rfl⟩
   have := tk_lt az na
   have m : min (fv az) (fv []) = fv az := by have : fv ([] : List (Int × Bool × Int × Int)) = 9223372036854775807 := rfl; omega
   rw [m] at b1 ⊢
   omega
  ·have := tk_lt bz n
   rw [show min (fv az) (fv bz) = fv bz by omega] at a1 ⊢
   omega
def slLen : Value → Nat
 | .slice _ n _ => n
 | _ => 0
set_option maxRecDepth 100000 in
set_option maxHeartbeats 6400000 in
theorem tog1 (l Pa Pb : Nat) (va vb : Value) (az bz : List (Int × Bool × Int × Int)) (hn : az.length + bz.length ≤ 1000) (oa : vOk az) (ob : vOk bz) (W : World) (w0 : World) (b0 : Below w0.heap.size w0 W) (ta : TAt w0 va az) (tb : TAt w0 vb bz) (J : List (Int × (Bool × Int × Int) × (Bool × Int × Int)) → World → Prop) (KK : World → Prop) (XS : List (Int × (Bool × Int × Int) × (Bool × Int × Int))) (hXS : mg (az.length + bz.length) az bz = XS)
  (hY : ∀ pre x W1, pre ++ [x] <+: XS → J pre W1 → ∀ m, YieldAt Fence.wide m Tryz.prog l #[.int .i64 x.1, .agg #[.bool x.2.1.1, .int .u64 x.2.1.2.1, .int .u64 x.2.1.2.2, .bool x.2.2.1, .int .u64 x.2.2.2.1, .int .u64 x.2.2.2.2]] W1 fun e W' => (e = .returned (.bool true) ∧ J (pre ++ [x]) W' ∧ Below w0.heap.size W1 W') ∨ (e = .returned (.bool false) ∧ KK W'))
  (st : Grows J) (st2 : Grows (fun (_ : Unit) W => KK W)) (hca : W.cell? ⟨Pa, 0, none⟩ = some va) (hcb : W.cell? ⟨Pb, 0, none⟩ = some vb) (h0 : J [] W) :
  Calls Tryz.prog 166 #[.func (.yield l) #[] #[], .pointer (some ⟨Pa, 0, none⟩), .pointer (some ⟨Pb, 0, none⟩)] W fun e W' => (∃ v, e = .returned v) ∧ (J XS W' ∨ KK W') := by
 refine (callsIn_wide (n := 3)).1 ?_
 refine callsIn_of_wp Tryz.func166 rfl trivial ?_ rfl
 simp only [Tryz.ntmps166, List.size_toArray, List.length_cons, List.length_nil, Nat.reduceAdd, Nat.reduceSub, Array.replicate_succ, Array.replicate_zero, List.push_toArray, List.append_toArray, List.nil_append, List.cons_append]
 obtain ⟨pa, ca, rfl⟩ := ta.len
 obtain ⟨pb, cb, rfl⟩ := tb.len
 gi_wp2
 refine wpIn_wide.2 ?_
 go_region
 all_goals gi_wp2
 clear hca hcb
 gi_loopw [4, 5] (fun x y wr => ∃ (k : Nat) (pre : List (Int × (Bool × Int × Int) × (Bool × Int × Int))) (a1 b1 : List (Int × Bool × Int × Int)), TAt w0 x a1 ∧ TAt w0 y b1 ∧ vOk a1 ∧ vOk b1 ∧ a1.length + b1.length ≤ k ∧ a1.length + b1.length ≤ 1000 ∧ pre ++ mg k a1 b1 = XS ∧ J pre wr ∧ Below w0.heap.size W wr) (fun x y _ => slLen x + slLen y)
 case atStart => exact ⟨_, [], az, bz, ta, tb, oa, ob, Nat.le_refl _, hn, hXS, st _ _ _ h0 (Below.refl _ _).drew, (Below.refl _ _).drew⟩
 case round =>
  obtain ⟨k, pre, a1, b1, ta1, tb1, oa1, ob1, hk, hn1, hx1, hJ, hB⟩ := hrel
  clear ta tb oa ob hn hXS h0
  obtain ⟨pa, ca, rfl⟩ := ta1.len
  obtain ⟨pb, cb, rfl⟩ := tb1.len
  have zW := hB.size
  have z0 := b0.size
  have bw : Below w0.heap.size w0 wr := b0.trans hB
  by_cases em : a1.length = 0 ∧ b1.length = 0
  ·have e1 : a1 = [] := List.length_eq_zero_iff.1 em.1
   have e2 : b1 = [] := List.length_eq_zero_iff.1 em.2
   subst e1 e2
   rw [mg_nil, List.append_nil] at hx1
   subst hx1
   gi_wp2
   go_end0
   exact ⟨⟨_, rfl⟩, Or.inl hJ⟩
  ·obtain ⟨k, rfl⟩ : ∃ k', k = k' + 1 := ⟨k - 1, by omega⟩
   have hl := mg_less oa1 ob1 em
   have hm : mg (k + 1) a1 b1 = (min (fv a1) (fv b1), (tk a1 (min (fv a1) (fv b1))).1, (tk b1 (min (fv a1) (fv b1))).1) :: mg k (tk a1 (min (fv a1) (fv b1))).2 (tk b1 (min (fv a1) (fv b1))).2 := by
    show (if a1.length = 0 ∧ b1.length = 0 then [] else _) = _
    rw [if_neg em]
   rw [hm] at hx1
   clear hm
   have f1 := lifirst a1 (by omega) _ wr (ta1.on bw)
   have f2 := lifirst b1 (by omega) _ wr (tb1.on bw)
   have oa2 := tk_ok oa1 (min (fv a1) (fv b1))
   have ob2 := tk_ok ob1 (min (fv a1) (fv b1))
   have t1 := fun q V (h : Below w0.heap.size w0 V) => litaken a1 (by omega) _ q V (ta1.on h)
   have t2 := fun q V (h : Below w0.heap.size w0 V) => litaken b1 (by omega) _ q V (tb1.on h)
   generalize fv a1 = A1 at *
   generalize fv b1 = B1 at *
   have main : ∀ q : Int, pre ++ (q, (tk a1 q).1, (tk b1 q).1) :: mg k (tk a1 q).2 (tk b1 q).2 = XS → (tk a1 q).2.length + (tk b1 q).2.length < a1.length + b1.length → vOk (tk a1 q).2 → vOk (tk b1 q).2 → True := fun _ _ _ _ _ => trivial
   clear main
   have c12 : 0 < a1.length ∨ (a1 = [] ∧ 0 < b1.length) := by
    by_cases c : 0 < a1.length
    ·exact Or.inl c
    ·exact Or.inr ⟨List.length_eq_zero_iff.1 (by omega), by omega⟩
   clear em
   rcases c12 with c1 | ⟨rfl, c2⟩
   ·have c1' : (0 : Int) < (a1.length : Int) := by omega
    rcases (show A1 < B1 ∨ A1 = B1 ∨ B1 < A1 by omega) with c | c | c
    ·rw [show min A1 B1 = A1 by omega] at hx1 hl oa2 ob2
     have c' : ¬ B1 < A1 := by omega
     gi_wp2_with (first
      | (refine ⟨trivial, ?_⟩; gi_at_call 167; (with_reducible refine (callsIn_wide.2 f1).mono ?_); rintro e w' ⟨rfl, rfl⟩; clear f1)
      | (refine ⟨trivial, ?_⟩; gi_at_call 167; (with_reducible refine (callsIn_wide.2 f2).mono ?_); rintro e w' ⟨rfl, rfl⟩)
      | fail)
     have z6 := bw.size
     refine ⟨trivial, ?_⟩
     refine (callsIn_wide.2 (t1 _ _ (bw.alloc z6 _))).mono ?_
     rintro e V1 ⟨x', rfl, hx', g1⟩
     have y0 := sO g1 (show World.cell? _ ⟨w'.heap.size, 0, none⟩ = some (.bool false) by simp [go_sem])
     have y1 := sO g1 (show World.cell? _ ⟨w'.heap.size, 1, none⟩ = some (.int .u64 0) by simp [go_sem])
     have y2 := sO g1 (show World.cell? _ ⟨w'.heap.size, 2, none⟩ = some (.int .u64 0) by simp [go_sem])
     have y3 := sO g1 (show World.cell? _ ⟨w'.heap.size, 3, none⟩ = some (.bool false) by simp [go_sem])
     have y4 := sO g1 (show World.cell? _ ⟨w'.heap.size, 4, none⟩ = some (.int .u64 0) by simp [go_sem])
     have y5 := sO g1 (show World.cell? _ ⟨w'.heap.size, 5, none⟩ = some (.int .u64 0) by simp [go_sem])
     have yf : ∀ j, V1.frozen? ⟨w'.heap.size, j, none⟩ = false := fun j => (g1.frozen (p := ⟨w'.heap.size, j, none⟩) (by simp)).trans (by simp [go_sem])
     have zV := g1.size
     simp only [World.size_alloc] at zV
     have bV1 : Below w0.heap.size w0 V1 := (bw.alloc z6 _).trans (g1.mono (by simp; omega))
     have cV1 : Below w'.heap.size w' V1 := sp_call (sp_new (Below.refl _ _) _) g1
     clear g1 t1
     gi_wp2_with fail
     have bV2 : Below w0.heap.size w0 (((V1.setCell ⟨w'.heap.size, 0, none⟩ (.bool (tk a1 A1).1.1)).setCell ⟨w'.heap.size, 1, none⟩ (.int .u64 (tk a1 A1).1.2.1)).setCell ⟨w'.heap.size, 2, none⟩ (.int .u64 (tk a1 A1).1.2.2)) := ((bV1.setCell (p := ⟨w'.heap.size, 0, none⟩) (by simp; omega) _).setCell (p := ⟨w'.heap.size, 1, none⟩) (by simp; omega) _).setCell (p := ⟨w'.heap.size, 2, none⟩) (by simp; omega) _
     refine ⟨trivial, ?_⟩
     refine (callsIn_wide.2 (t2 _ _ bV2)).mono ?_
     rintro e V2 ⟨y', rfl, hy', g2⟩
     have x0 := sO g2 (show World.cell? _ ⟨w'.heap.size, 0, none⟩ = some (.bool (tk a1 A1).1.1) by simp [go_sem, y0, y1, y2])
     have x1 := sO g2 (show World.cell? _ ⟨w'.heap.size, 1, none⟩ = some (.int .u64 (tk a1 A1).1.2.1) by simp [go_sem, y0, y1, y2])
     have x2 := sO g2 (show World.cell? _ ⟨w'.heap.size, 2, none⟩ = some (.int .u64 (tk a1 A1).1.2.2) by simp [go_sem, y0, y1, y2])
     replace y3 := sO g2 (show World.cell? _ ⟨w'.heap.size, 3, none⟩ = some (.bool false) by simp [go_sem, y3])
     replace y4 := sO g2 (show World.cell? _ ⟨w'.heap.size, 4, none⟩ = some (.int .u64 0) by simp [go_sem, y4])
     replace y5 := sO g2 (show World.cell? _ ⟨w'.heap.size, 5, none⟩ = some (.int .u64 0) by simp [go_sem, y5])
     replace yf : ∀ j, V2.frozen? ⟨w'.heap.size, j, none⟩ = false := fun j => (g2.frozen (p := ⟨w'.heap.size, j, none⟩) (by simp; omega)).trans (by simp [go_sem, yf])
     have zV2 := g2.size
     simp only [World.size_setCell] at zV2
     have cV2 : Below w'.heap.size w' V2 := sp_call (sp_set3 cV1 (Nat.le_refl _) _ _ _) g2
     clear g2 t2 bV2 bV1 cV1 y0 y1 y2
     gi_wp2_with fail
     obtain ⟨pX, cX, rfl⟩ := (hx' _ ta1).len
     obtain ⟨pY, cY, rfl⟩ := (hy' _ tb1).len
     have ta2 := hx' _ ta1
     have tb2 := hy' _ tb1
     clear hx' hy'
     obtain ⟨Wy, hWy⟩ : ∃ Wy, (((V2.setCell ⟨w'.heap.size, 3, none⟩ (.bool (tk b1 A1).1.1)).setCell ⟨w'.heap.size, 4, none⟩ (.int .u64 (tk b1 A1).1.2.1)).setCell ⟨w'.heap.size, 5, none⟩ (.int .u64 (tk b1 A1).1.2.2)) = Wy := ⟨_, rfl⟩
     have cy : Below w'.heap.size w' Wy := by rw [← hWy]; exact ((cV2.setCell (p := ⟨w'.heap.size, 3, none⟩) (Nat.le_refl _) _).setCell (p := ⟨w'.heap.size, 4, none⟩) (Nat.le_refl _) _).setCell (p := ⟨w'.heap.size, 5, none⟩) (Nat.le_refl _) _
     have hJy := st _ _ _ hJ cy
     have hp : pre ++ [(A1, (tk a1 A1).1, (tk b1 A1).1)] <+: XS := ⟨_, by rw [← hx1]; simp; rfl⟩
     obtain ⟨fn1, t3, as1, bo1, hy1, hR1⟩ := hY pre _ Wy hp hJy 2
     rw [hWy]
     gi_wp2_with fail
     refine hR1.mono ?_
     rintro e W3 (⟨rfl, hJ3, hB3⟩ | ⟨rfl, hK⟩)
     ·gi_wp2_with fail
      go_roundw
      case rel => exact ⟨k, pre ++ [_], _, _, ta2, tb2, oa2, ob2, by omega, by omega, by rw [← hx1]; simp, hJ3, hB.trans ((cy.mono z6).trans hB3)⟩
      case measure => simp [slLen]; omega
     ·gi_wp2_with fail
      exact bodyPost_ret (results_none rfl _ _ _) rfl ⟨⟨_, rfl⟩, Or.inr hK⟩
    ·subst c
     rw [show min A1 A1 = A1 by omega] at hx1 hl oa2 ob2
     gi_wp2_with (first
      | (refine ⟨trivial, ?_⟩; gi_at_call 167; (with_reducible refine (callsIn_wide.2 f1).mono ?_); rintro e w' ⟨rfl, rfl⟩; clear f1)
      | (refine ⟨trivial, ?_⟩; gi_at_call 167; (with_reducible refine (callsIn_wide.2 f2).mono ?_); rintro e w' ⟨rfl, rfl⟩)
      | fail)
     have z6 := bw.size
     refine ⟨trivial, ?_⟩
     refine (callsIn_wide.2 (t1 _ _ (bw.alloc z6 _))).mono ?_
     rintro e V1 ⟨x', rfl, hx', g1⟩
     have y0 := sO g1 (show World.cell? _ ⟨w'.heap.size, 0, none⟩ = some (.bool false) by simp [go_sem])
     have y1 := sO g1 (show World.cell? _ ⟨w'.heap.size, 1, none⟩ = some (.int .u64 0) by simp [go_sem])
     have y2 := sO g1 (show World.cell? _ ⟨w'.heap.size, 2, none⟩ = some (.int .u64 0) by simp [go_sem])
     have y3 := sO g1 (show World.cell? _ ⟨w'.heap.size, 3, none⟩ = some (.bool false) by simp [go_sem])
     have y4 := sO g1 (show World.cell? _ ⟨w'.heap.size, 4, none⟩ = some (.int .u64 0) by simp [go_sem])
     have y5 := sO g1 (show World.cell? _ ⟨w'.heap.size, 5, none⟩ = some (.int .u64 0) by simp [go_sem])
     have yf : ∀ j, V1.frozen? ⟨w'.heap.size, j, none⟩ = false := fun j => (g1.frozen (p := ⟨w'.heap.size, j, none⟩) (by simp)).trans (by simp [go_sem])
     have zV := g1.size
     simp only [World.size_alloc] at zV
     have bV1 : Below w0.heap.size w0 V1 := (bw.alloc z6 _).trans (g1.mono (by simp; omega))
     have cV1 : Below w'.heap.size w' V1 := sp_call (sp_new (Below.refl _ _) _) g1
     clear g1 t1
     gi_wp2_with fail
     have bV2 : Below w0.heap.size w0 (((V1.setCell ⟨w'.heap.size, 0, none⟩ (.bool (tk a1 A1).1.1)).setCell ⟨w'.heap.size, 1, none⟩ (.int .u64 (tk a1 A1).1.2.1)).setCell ⟨w'.heap.size, 2, none⟩ (.int .u64 (tk a1 A1).1.2.2)) := ((bV1.setCell (p := ⟨w'.heap.size, 0, none⟩) (by simp; omega) _).setCell (p := ⟨w'.heap.size, 1, none⟩) (by simp; omega) _).setCell (p := ⟨w'.heap.size, 2, none⟩) (by simp; omega) _
     refine ⟨trivial, ?_⟩
     refine (callsIn_wide.2 (t2 _ _ bV2)).mono ?_
     rintro e V2 ⟨y', rfl, hy', g2⟩
     have x0 := sO g2 (show World.cell? _ ⟨w'.heap.size, 0, none⟩ = some (.bool (tk a1 A1).1.1) by simp [go_sem, y0, y1, y2])
     have x1 := sO g2 (show World.cell? _ ⟨w'.heap.size, 1, none⟩ = some (.int .u64 (tk a1 A1).1.2.1) by simp [go_sem, y0, y1, y2])
     have x2 := sO g2 (show World.cell? _ ⟨w'.heap.size, 2, none⟩ = some (.int .u64 (tk a1 A1).1.2.2) by simp [go_sem, y0, y1, y2])
     replace y3 := sO g2 (show World.cell? _ ⟨w'.heap.size, 3, none⟩ = some (.bool false) by simp [go_sem, y3])
     replace y4 := sO g2 (show World.cell? _ ⟨w'.heap.size, 4, none⟩ = some (.int .u64 0) by simp [go_sem, y4])
     replace y5 := sO g2 (show World.cell? _ ⟨w'.heap.size, 5, none⟩ = some (.int .u64 0) by simp [go_sem, y5])
     replace yf : ∀ j, V2.frozen? ⟨w'.heap.size, j, none⟩ = false := fun j => (g2.frozen (p := ⟨w'.heap.size, j, none⟩) (by simp; omega)).trans (by simp [go_sem, yf])
     have zV2 := g2.size
     simp only [World.size_setCell] at zV2
     have cV2 : Below w'.heap.size w' V2 := sp_call (sp_set3 cV1 (Nat.le_refl _) _ _ _) g2
     clear g2 t2 bV2 bV1 cV1 y0 y1 y2
     gi_wp2_with fail
     obtain ⟨pX, cX, rfl⟩ := (hx' _ ta1).len
     obtain ⟨pY, cY, rfl⟩ := (hy' _ tb1).len
     have ta2 := hx' _ ta1
     have tb2 := hy' _ tb1
     clear hx' hy'
     obtain ⟨Wy, hWy⟩ : ∃ Wy, (((V2.setCell ⟨w'.heap.size, 3, none⟩ (.bool (tk b1 A1).1.1)).setCell ⟨w'.heap.size, 4, none⟩ (.int .u64 (tk b1 A1).1.2.1)).setCell ⟨w'.heap.size, 5, none⟩ (.int .u64 (tk b1 A1).1.2.2)) = Wy := ⟨_, rfl⟩
     have cy : Below w'.heap.size w' Wy := by rw [← hWy]; exact ((cV2.setCell (p := ⟨w'.heap.size, 3, none⟩) (Nat.le_refl _) _).setCell (p := ⟨w'.heap.size, 4, none⟩) (Nat.le_refl _) _).setCell (p := ⟨w'.heap.size, 5, none⟩) (Nat.le_refl _) _
     have hJy := st _ _ _ hJ cy
     have hp : pre ++ [(A1, (tk a1 A1).1, (tk b1 A1).1)] <+: XS := ⟨_, by rw [← hx1]; simp; rfl⟩
     obtain ⟨fn1, t3, as1, bo1, hy1, hR1⟩ := hY pre _ Wy hp hJy 2
     rw [hWy]
     gi_wp2_with fail
     refine hR1.mono ?_
     rintro e W3 (⟨rfl, hJ3, hB3⟩ | ⟨rfl, hK⟩)
     ·gi_wp2_with fail
      go_roundw
      case rel => exact ⟨k, pre ++ [_], _, _, ta2, tb2, oa2, ob2, by omega, by omega, by rw [← hx1]; simp, hJ3, hB.trans ((cy.mono z6).trans hB3)⟩
      case measure => simp [slLen]; omega
     ·gi_wp2_with fail
      exact bodyPost_ret (results_none rfl _ _ _) rfl ⟨⟨_, rfl⟩, Or.inr hK⟩
    ·rw [show min A1 B1 = B1 by omega] at hx1 hl oa2 ob2
     have c' : ¬ A1 < B1 := by omega
     gi_wp2_with (first
      | (refine ⟨trivial, ?_⟩; gi_at_call 167; (with_reducible refine (callsIn_wide.2 f1).mono ?_); rintro e w' ⟨rfl, rfl⟩; clear f1)
      | (refine ⟨trivial, ?_⟩; gi_at_call 167; (with_reducible refine (callsIn_wide.2 f2).mono ?_); rintro e w' ⟨rfl, rfl⟩)
      | fail)
     have z6 := bw.size
     refine ⟨trivial, ?_⟩
     refine (callsIn_wide.2 (t1 _ _ (bw.alloc z6 _))).mono ?_
     rintro e V1 ⟨x', rfl, hx', g1⟩
     have y0 := sO g1 (show World.cell? _ ⟨w'.heap.size, 0, none⟩ = some (.bool false) by simp [go_sem])
     have y1 := sO g1 (show World.cell? _ ⟨w'.heap.size, 1, none⟩ = some (.int .u64 0) by simp [go_sem])
     have y2 := sO g1 (show World.cell? _ ⟨w'.heap.size, 2, none⟩ = some (.int .u64 0) by simp [go_sem])
     have y3 := sO g1 (show World.cell? _ ⟨w'.heap.size, 3, none⟩ = some (.bool false) by simp [go_sem])
     have y4 := sO g1 (show World.cell? _ ⟨w'.heap.size, 4, none⟩ = some (.int .u64 0) by simp [go_sem])
     have y5 := sO g1 (show World.cell? _ ⟨w'.heap.size, 5, none⟩ = some (.int .u64 0) by simp [go_sem])
     have yf : ∀ j, V1.frozen? ⟨w'.heap.size, j, none⟩ = false := fun j => (g1.frozen (p := ⟨w'.heap.size, j, none⟩) (by simp)).trans (by simp [go_sem])
     have zV := g1.size
     simp only [World.size_alloc] at zV
     have bV1 : Below w0.heap.size w0 V1 := (bw.alloc z6 _).trans (g1.mono (by simp; omega))
     have cV1 : Below w'.heap.size w' V1 := sp_call (sp_new (Below.refl _ _) _) g1
     clear g1 t1
     gi_wp2_with fail
     have bV2 : Below w0.heap.size w0 (((V1.setCell ⟨w'.heap.size, 0, none⟩ (.bool (tk a1 B1).1.1)).setCell ⟨w'.heap.size, 1, none⟩ (.int .u64 (tk a1 B1).1.2.1)).setCell ⟨w'.heap.size, 2, none⟩ (.int .u64 (tk a1 B1).1.2.2)) := ((bV1.setCell (p := ⟨w'.heap.size, 0, none⟩) (by simp; omega) _).setCell (p := ⟨w'.heap.size, 1, none⟩) (by simp; omega) _).setCell (p := ⟨w'.heap.size, 2, none⟩) (by simp; omega) _
     refine ⟨trivial, ?_⟩
     refine (callsIn_wide.2 (t2 _ _ bV2)).mono ?_
     rintro e V2 ⟨y', rfl, hy', g2⟩
     have x0 := sO g2 (show World.cell? _ ⟨w'.heap.size, 0, none⟩ = some (.bool (tk a1 B1).1.1) by simp [go_sem, y0, y1, y2])
     have x1 := sO g2 (show World.cell? _ ⟨w'.heap.size, 1, none⟩ = some (.int .u64 (tk a1 B1).1.2.1) by simp [go_sem, y0, y1, y2])
     have x2 := sO g2 (show World.cell? _ ⟨w'.heap.size, 2, none⟩ = some (.int .u64 (tk a1 B1).1.2.2) by simp [go_sem, y0, y1, y2])
     replace y3 := sO g2 (show World.cell? _ ⟨w'.heap.size, 3, none⟩ = some (.bool false) by simp [go_sem, y3])
     replace y4 := sO g2 (show World.cell? _ ⟨w'.heap.size, 4, none⟩ = some (.int .u64 0) by simp [go_sem, y4])
     replace y5 := sO g2 (show World.cell? _ ⟨w'.heap.size, 5, none⟩ = some (.int .u64 0) by simp [go_sem, y5])
     replace yf : ∀ j, V2.frozen? ⟨w'.heap.size, j, none⟩ = false := fun j => (g2.frozen (p := ⟨w'.heap.size, j, none⟩) (by simp; omega)).trans (by simp [go_sem, yf])
     have zV2 := g2.size
     simp only [World.size_setCell] at zV2
     have cV2 : Below w'.heap.size w' V2 := sp_call (sp_set3 cV1 (Nat.le_refl _) _ _ _) g2
     clear g2 t2 bV2 bV1 cV1 y0 y1 y2
     gi_wp2_with fail
     obtain ⟨pX, cX, rfl⟩ := (hx' _ ta1).len
     obtain ⟨pY, cY, rfl⟩ := (hy' _ tb1).len
     have ta2 := hx' _ ta1
     have tb2 := hy' _ tb1
     clear hx' hy'
     obtain ⟨Wy, hWy⟩ : ∃ Wy, (((V2.setCell ⟨w'.heap.size, 3, none⟩ (.bool (tk b1 B1).1.1)).setCell ⟨w'.heap.size, 4, none⟩ (.int .u64 (tk b1 B1).1.2.1)).setCell ⟨w'.heap.size, 5, none⟩ (.int .u64 (tk b1 B1).1.2.2)) = Wy := ⟨_, rfl⟩
     have cy : Below w'.heap.size w' Wy := by rw [← hWy]; exact ((cV2.setCell (p := ⟨w'.heap.size, 3, none⟩) (Nat.le_refl _) _).setCell (p := ⟨w'.heap.size, 4, none⟩) (Nat.le_refl _) _).setCell (p := ⟨w'.heap.size, 5, none⟩) (Nat.le_refl _) _
     have hJy := st _ _ _ hJ cy
     have hp : pre ++ [(B1, (tk a1 B1).1, (tk b1 B1).1)] <+: XS := ⟨_, by rw [← hx1]; simp; rfl⟩
     obtain ⟨fn1, t3, as1, bo1, hy1, hR1⟩ := hY pre _ Wy hp hJy 2
     rw [hWy]
     gi_wp2_with fail
     refine hR1.mono ?_
     rintro e W3 (⟨rfl, hJ3, hB3⟩ | ⟨rfl, hK⟩)
     ·gi_wp2_with fail
      go_roundw
      case rel => exact ⟨k, pre ++ [_], _, _, ta2, tb2, oa2, ob2, by omega, by omega, by rw [← hx1]; simp, hJ3, hB.trans ((cy.mono z6).trans hB3)⟩
      case measure => simp [slLen]; omega
     ·gi_wp2_with fail
      exact bodyPost_ret (results_none rfl _ _ _) rfl ⟨⟨_, rfl⟩, Or.inr hK⟩
   ·have c2' : (0 : Int) < (b1.length : Int) := by omega
    simp only [List.length_nil] at *
    rcases (show A1 < B1 ∨ A1 = B1 ∨ B1 < A1 by omega) with c | c | c
    ·rw [show min A1 B1 = A1 by omega] at hx1 hl oa2 ob2
     have c' : ¬ B1 < A1 := by omega
     gi_wp2_with (first
      | (refine ⟨trivial, ?_⟩; gi_at_call 167; (with_reducible refine (callsIn_wide.2 f1).mono ?_); rintro e w' ⟨rfl, rfl⟩; clear f1)
      | (refine ⟨trivial, ?_⟩; gi_at_call 167; (with_reducible refine (callsIn_wide.2 f2).mono ?_); rintro e w' ⟨rfl, rfl⟩)
      | fail)
     have z6 := bw.size
     refine ⟨trivial, ?_⟩
     refine (callsIn_wide.2 (t1 _ _ (bw.alloc z6 _))).mono ?_
     rintro e V1 ⟨x', rfl, hx', g1⟩
     have y0 := sO g1 (show World.cell? _ ⟨w'.heap.size, 0, none⟩ = some (.bool false) by simp [go_sem])
     have y1 := sO g1 (show World.cell? _ ⟨w'.heap.size, 1, none⟩ = some (.int .u64 0) by simp [go_sem])
     have y2 := sO g1 (show World.cell? _ ⟨w'.heap.size, 2, none⟩ = some (.int .u64 0) by simp [go_sem])
     have y3 := sO g1 (show World.cell? _ ⟨w'.heap.size, 3, none⟩ = some (.bool false) by simp [go_sem])
     have y4 := sO g1 (show World.cell? _ ⟨w'.heap.size, 4, none⟩ = some (.int .u64 0) by simp [go_sem])
     have y5 := sO g1 (show World.cell? _ ⟨w'.heap.size, 5, none⟩ = some (.int .u64 0) by simp [go_sem])
     have yf : ∀ j, V1.frozen? ⟨w'.heap.size, j, none⟩ = false := fun j => (g1.frozen (p := ⟨w'.heap.size, j, none⟩) (by simp)).trans (by simp [go_sem])
     have zV := g1.size
     simp only [World.size_alloc] at zV
     have bV1 : Below w0.heap.size w0 V1 := (bw.alloc z6 _).trans (g1.mono (by simp; omega))
     have cV1 : Below w'.heap.size w' V1 := sp_call (sp_new (Below.refl _ _) _) g1
     clear g1 t1
     gi_wp2_with fail
     have bV2 : Below w0.heap.size w0 (((V1.setCell ⟨w'.heap.size, 0, none⟩ (.bool (tk [] A1).1.1)).setCell ⟨w'.heap.size, 1, none⟩ (.int .u64 (tk [] A1).1.2.1)).setCell ⟨w'.heap.size, 2, none⟩ (.int .u64 (tk [] A1).1.2.2)) := ((bV1.setCell (p := ⟨w'.heap.size, 0, none⟩) (by simp; omega) _).setCell (p := ⟨w'.heap.size, 1, none⟩) (by simp; omega) _).setCell (p := ⟨w'.heap.size, 2, none⟩) (by simp; omega) _
     refine ⟨trivial, ?_⟩
     refine (callsIn_wide.2 (t2 _ _ bV2)).mono ?_
     rintro e V2 ⟨y', rfl, hy', g2⟩
     have x0 := sO g2 (show World.cell? _ ⟨w'.heap.size, 0, none⟩ = some (.bool (tk [] A1).1.1) by simp [go_sem, y0, y1, y2])
     have x1 := sO g2 (show World.cell? _ ⟨w'.heap.size, 1, none⟩ = some (.int .u64 (tk [] A1).1.2.1) by simp [go_sem, y0, y1, y2])
     have x2 := sO g2 (show World.cell? _ ⟨w'.heap.size, 2, none⟩ = some (.int .u64 (tk [] A1).1.2.2) by simp [go_sem, y0, y1, y2])
     replace y3 := sO g2 (show World.cell? _ ⟨w'.heap.size, 3, none⟩ = some (.bool false) by simp [go_sem, y3])
     replace y4 := sO g2 (show World.cell? _ ⟨w'.heap.size, 4, none⟩ = some (.int .u64 0) by simp [go_sem, y4])
     replace y5 := sO g2 (show World.cell? _ ⟨w'.heap.size, 5, none⟩ = some (.int .u64 0) by simp [go_sem, y5])
     replace yf : ∀ j, V2.frozen? ⟨w'.heap.size, j, none⟩ = false := fun j => (g2.frozen (p := ⟨w'.heap.size, j, none⟩) (by simp; omega)).trans (by simp [go_sem, yf])
     have zV2 := g2.size
     simp only [World.size_setCell] at zV2
     have cV2 : Below w'.heap.size w' V2 := sp_call (sp_set3 cV1 (Nat.le_refl _) _ _ _) g2
     clear g2 t2 bV2 bV1 cV1 y0 y1 y2
     gi_wp2_with fail
     obtain ⟨pX, cX, rfl⟩ := (hx' _ ta1).len
     obtain ⟨pY, cY, rfl⟩ := (hy' _ tb1).len
     have ta2 := hx' _ ta1
     have tb2 := hy' _ tb1
     clear hx' hy'
     obtain ⟨Wy, hWy⟩ : ∃ Wy, (((V2.setCell ⟨w'.heap.size, 3, none⟩ (.bool (tk b1 A1).1.1)).setCell ⟨w'.heap.size, 4, none⟩ (.int .u64 (tk b1 A1).1.2.1)).setCell ⟨w'.heap.size, 5, none⟩ (.int .u64 (tk b1 A1).1.2.2)) = Wy := ⟨_, rfl⟩
     have cy : Below w'.heap.size w' Wy := by rw [← hWy]; exact ((cV2.setCell (p := ⟨w'.heap.size, 3, none⟩) (Nat.le_refl _) _).setCell (p := ⟨w'.heap.size, 4, none⟩) (Nat.le_refl _) _).setCell (p := ⟨w'.heap.size, 5, none⟩) (Nat.le_refl _) _
     have hJy := st _ _ _ hJ cy
     have hp : pre ++ [(A1, (tk [] A1).1, (tk b1 A1).1)] <+: XS := ⟨_, by rw [← hx1]; simp; rfl⟩
     obtain ⟨fn1, t3, as1, bo1, hy1, hR1⟩ := hY pre _ Wy hp hJy 2
     rw [hWy]
     gi_wp2_with fail
     refine hR1.mono ?_
     rintro e W3 (⟨rfl, hJ3, hB3⟩ | ⟨rfl, hK⟩)
     ·gi_wp2_with fail
      go_roundw
      case rel => exact ⟨k, pre ++ [_], _, _, ta2, tb2, oa2, ob2, by omega, by omega, by rw [← hx1]; simp, hJ3, hB.trans ((cy.mono z6).trans hB3)⟩
      case measure => simp [slLen]; omega
     ·gi_wp2_with fail
      exact bodyPost_ret (results_none rfl _ _ _) rfl ⟨⟨_, rfl⟩, Or.inr hK⟩
    ·subst c
     rw [show min A1 A1 = A1 by omega] at hx1 hl oa2 ob2
     gi_wp2_with (first
      | (refine ⟨trivial, ?_⟩; gi_at_call 167; (with_reducible refine (callsIn_wide.2 f1).mono ?_); rintro e w' ⟨rfl, rfl⟩; clear f1)
      | (refine ⟨trivial, ?_⟩; gi_at_call 167; (with_reducible refine (callsIn_wide.2 f2).mono ?_); rintro e w' ⟨rfl, rfl⟩)
      | fail)
     have z6 := bw.size
     refine ⟨trivial, ?_⟩
     refine (callsIn_wide.2 (t1 _ _ (bw.alloc z6 _))).mono ?_
     rintro e V1 ⟨x', rfl, hx', g1⟩
     have y0 := sO g1 (show World.cell? _ ⟨w'.heap.size, 0, none⟩ = some (.bool false) by simp [go_sem])
     have y1 := sO g1 (show World.cell? _ ⟨w'.heap.size, 1, none⟩ = some (.int .u64 0) by simp [go_sem])
     have y2 := sO g1 (show World.cell? _ ⟨w'.heap.size, 2, none⟩ = some (.int .u64 0) by simp [go_sem])
     have y3 := sO g1 (show World.cell? _ ⟨w'.heap.size, 3, none⟩ = some (.bool false) by simp [go_sem])
     have y4 := sO g1 (show World.cell? _ ⟨w'.heap.size, 4, none⟩ = some (.int .u64 0) by simp [go_sem])
     have y5 := sO g1 (show World.cell? _ ⟨w'.heap.size, 5, none⟩ = some (.int .u64 0) by simp [go_sem])
     have yf : ∀ j, V1.frozen? ⟨w'.heap.size, j, none⟩ = false := fun j => (g1.frozen (p := ⟨w'.heap.size, j, none⟩) (by simp)).trans (by simp [go_sem])
     have zV := g1.size
     simp only [World.size_alloc] at zV
     have bV1 : Below w0.heap.size w0 V1 := (bw.alloc z6 _).trans (g1.mono (by simp; omega))
     have cV1 : Below w'.heap.size w' V1 := sp_call (sp_new (Below.refl _ _) _) g1
     clear g1 t1
     gi_wp2_with fail
     have bV2 : Below w0.heap.size w0 (((V1.setCell ⟨w'.heap.size, 0, none⟩ (.bool (tk [] A1).1.1)).setCell ⟨w'.heap.size, 1, none⟩ (.int .u64 (tk [] A1).1.2.1)).setCell ⟨w'.heap.size, 2, none⟩ (.int .u64 (tk [] A1).1.2.2)) := ((bV1.setCell (p := ⟨w'.heap.size, 0, none⟩) (by simp; omega) _).setCell (p := ⟨w'.heap.size, 1, none⟩) (by simp; omega) _).setCell (p := ⟨w'.heap.size, 2, none⟩) (by simp; omega) _
     refine ⟨trivial, ?_⟩
     refine (callsIn_wide.2 (t2 _ _ bV2)).mono ?_
     rintro e V2 ⟨y', rfl, hy', g2⟩
     have x0 := sO g2 (show World.cell? _ ⟨w'.heap.size, 0, none⟩ = some (.bool (tk [] A1).1.1) by simp [go_sem, y0, y1, y2])
     have x1 := sO g2 (show World.cell? _ ⟨w'.heap.size, 1, none⟩ = some (.int .u64 (tk [] A1).1.2.1) by simp [go_sem, y0, y1, y2])
     have x2 := sO g2 (show World.cell? _ ⟨w'.heap.size, 2, none⟩ = some (.int .u64 (tk [] A1).1.2.2) by simp [go_sem, y0, y1, y2])
     replace y3 := sO g2 (show World.cell? _ ⟨w'.heap.size, 3, none⟩ = some (.bool false) by simp [go_sem, y3])
     replace y4 := sO g2 (show World.cell? _ ⟨w'.heap.size, 4, none⟩ = some (.int .u64 0) by simp [go_sem, y4])
     replace y5 := sO g2 (show World.cell? _ ⟨w'.heap.size, 5, none⟩ = some (.int .u64 0) by simp [go_sem, y5])
     replace yf : ∀ j, V2.frozen? ⟨w'.heap.size, j, none⟩ = false := fun j => (g2.frozen (p := ⟨w'.heap.size, j, none⟩) (by simp; omega)).trans (by simp [go_sem, yf])
     have zV2 := g2.size
     simp only [World.size_setCell] at zV2
     have cV2 : Below w'.heap.size w' V2 := sp_call (sp_set3 cV1 (Nat.le_refl _) _ _ _) g2
     clear g2 t2 bV2 bV1 cV1 y0 y1 y2
     gi_wp2_with fail
     obtain ⟨pX, cX, rfl⟩ := (hx' _ ta1).len
     obtain ⟨pY, cY, rfl⟩ := (hy' _ tb1).len
     have ta2 := hx' _ ta1
     have tb2 := hy' _ tb1
     clear hx' hy'
     obtain ⟨Wy, hWy⟩ : ∃ Wy, (((V2.setCell ⟨w'.heap.size, 3, none⟩ (.bool (tk b1 A1).1.1)).setCell ⟨w'.heap.size, 4, none⟩ (.int .u64 (tk b1 A1).1.2.1)).setCell ⟨w'.heap.size, 5, none⟩ (.int .u64 (tk b1 A1).1.2.2)) = Wy := ⟨_, rfl⟩
     have cy : Below w'.heap.size w' Wy := by rw [← hWy]; exact ((cV2.setCell (p := ⟨w'.heap.size, 3, none⟩) (Nat.le_refl _) _).setCell (p := ⟨w'.heap.size, 4, none⟩) (Nat.le_refl _) _).setCell (p := ⟨w'.heap.size, 5, none⟩) (Nat.le_refl _) _
     have hJy := st _ _ _ hJ cy
     have hp : pre ++ [(A1, (tk [] A1).1, (tk b1 A1).1)] <+: XS := ⟨_, by rw [← hx1]; simp; rfl⟩
     obtain ⟨fn1, t3, as1, bo1, hy1, hR1⟩ := hY pre _ Wy hp hJy 2
     rw [hWy]
     gi_wp2_with fail
     refine hR1.mono ?_
     rintro e W3 (⟨rfl, hJ3, hB3⟩ | ⟨rfl, hK⟩)
     ·gi_wp2_with fail
      go_roundw
      case rel => exact ⟨k, pre ++ [_], _, _, ta2, tb2, oa2, ob2, by omega, by omega, by rw [← hx1]; simp, hJ3, hB.trans ((cy.mono z6).trans hB3)⟩
      case measure => simp [slLen]; omega
     ·gi_wp2_with fail
      exact bodyPost_ret (results_none rfl _ _ _) rfl ⟨⟨_, rfl⟩, Or.inr hK⟩
    ·rw [show min A1 B1 = B1 by omega] at hx1 hl oa2 ob2
     have c' : ¬ A1 < B1 := by omega
     gi_wp2_with (first
      | (refine ⟨trivial, ?_⟩; gi_at_call 167; (with_reducible refine (callsIn_wide.2 f1).mono ?_); rintro e w' ⟨rfl, rfl⟩; clear f1)
      | (refine ⟨trivial, ?_⟩; gi_at_call 167; (with_reducible refine (callsIn_wide.2 f2).mono ?_); rintro e w' ⟨rfl, rfl⟩)
      | fail)
     have z6 := bw.size
     refine ⟨trivial, ?_⟩
     refine (callsIn_wide.2 (t1 _ _ (bw.alloc z6 _))).mono ?_
     rintro e V1 ⟨x', rfl, hx', g1⟩
     have y0 := sO g1 (show World.cell? _ ⟨w'.heap.size, 0, none⟩ = some (.bool false) by simp [go_sem])
     have y1 := sO g1 (show World.cell? _ ⟨w'.heap.size, 1, none⟩ = some (.int .u64 0) by simp [go_sem])
     have y2 := sO g1 (show World.cell? _ ⟨w'.heap.size, 2, none⟩ = some (.int .u64 0) by simp [go_sem])
     have y3 := sO g1 (show World.cell? _ ⟨w'.heap.size, 3, none⟩ = some (.bool false) by simp [go_sem])
     have y4 := sO g1 (show World.cell? _ ⟨w'.heap.size, 4, none⟩ = some (.int .u64 0) by simp [go_sem])
     have y5 := sO g1 (show World.cell? _ ⟨w'.heap.size, 5, none⟩ = some (.int .u64 0) by simp [go_sem])
     have yf : ∀ j, V1.frozen? ⟨w'.heap.size, j, none⟩ = false := fun j => (g1.frozen (p := ⟨w'.heap.size, j, none⟩) (by simp)).trans (by simp [go_sem])
     have zV := g1.size
     simp only [World.size_alloc] at zV
     have bV1 : Below w0.heap.size w0 V1 := (bw.alloc z6 _).trans (g1.mono (by simp; omega))
     have cV1 : Below w'.heap.size w' V1 := sp_call (sp_new (Below.refl _ _) _) g1
     clear g1 t1
     gi_wp2_with fail
     have bV2 : Below w0.heap.size w0 (((V1.setCell ⟨w'.heap.size, 0, none⟩ (.bool (tk [] B1).1.1)).setCell ⟨w'.heap.size, 1, none⟩ (.int .u64 (tk [] B1).1.2.1)).setCell ⟨w'.heap.size, 2, none⟩ (.int .u64 (tk [] B1).1.2.2)) := ((bV1.setCell (p := ⟨w'.heap.size, 0, none⟩) (by simp; omega) _).setCell (p := ⟨w'.heap.size, 1, none⟩) (by simp; omega) _).setCell (p := ⟨w'.heap.size, 2, none⟩) (by simp; omega) _
     refine ⟨trivial, ?_⟩
     refine (callsIn_wide.2 (t2 _ _ bV2)).mono ?_
     rintro e V2 ⟨y', rfl, hy', g2⟩
     have x0 := sO g2 (show World.cell? _ ⟨w'.heap.size, 0, none⟩ = some (.bool (tk [] B1).1.1) by simp [go_sem, y0, y1, y2])
     have x1 := sO g2 (show World.cell? _ ⟨w'.heap.size, 1, none⟩ = some (.int .u64 (tk [] B1).1.2.1) by simp [go_sem, y0, y1, y2])
     have x2 := sO g2 (show World.cell? _ ⟨w'.heap.size, 2, none⟩ = some (.int .u64 (tk [] B1).1.2.2) by simp [go_sem, y0, y1, y2])
     replace y3 := sO g2 (show World.cell? _ ⟨w'.heap.size, 3, none⟩ = some (.bool false) by simp [go_sem, y3])
     replace y4 := sO g2 (show World.cell? _ ⟨w'.heap.size, 4, none⟩ = some (.int .u64 0) by simp [go_sem, y4])
     replace y5 := sO g2 (show World.cell? _ ⟨w'.heap.size, 5, none⟩ = some (.int .u64 0) by simp [go_sem, y5])
     replace yf : ∀ j, V2.frozen? ⟨w'.heap.size, j, none⟩ = false := fun j => (g2.frozen (p := ⟨w'.heap.size, j, none⟩) (by simp; omega)).trans (by simp [go_sem, yf])
     have zV2 := g2.size
     simp only [World.size_setCell] at zV2
     have cV2 : Below w'.heap.size w' V2 := sp_call (sp_set3 cV1 (Nat.le_refl _) _ _ _) g2
     clear g2 t2 bV2 bV1 cV1 y0 y1 y2
     gi_wp2_with fail
     obtain ⟨pX, cX, rfl⟩ := (hx' _ ta1).len
     obtain ⟨pY, cY, rfl⟩ := (hy' _ tb1).len
     have ta2 := hx' _ ta1
     have tb2 := hy' _ tb1
     clear hx' hy'
     obtain ⟨Wy, hWy⟩ : ∃ Wy, (((V2.setCell ⟨w'.heap.size, 3, none⟩ (.bool (tk b1 B1).1.1)).setCell ⟨w'.heap.size, 4, none⟩ (.int .u64 (tk b1 B1).1.2.1)).setCell ⟨w'.heap.size, 5, none⟩ (.int .u64 (tk b1 B1).1.2.2)) = Wy := ⟨_, rfl⟩
     have cy : Below w'.heap.size w' Wy := by rw [← hWy]; exact ((cV2.setCell (p := ⟨w'.heap.size, 3, none⟩) (Nat.le_refl _) _).setCell (p := ⟨w'.heap.size, 4, none⟩) (Nat.le_refl _) _).setCell (p := ⟨w'.heap.size, 5, none⟩) (Nat.le_refl _) _
     have hJy := st _ _ _ hJ cy
     have hp : pre ++ [(B1, (tk [] B1).1, (tk b1 B1).1)] <+: XS := ⟨_, by rw [← hx1]; simp; rfl⟩
     obtain ⟨fn1, t3, as1, bo1, hy1, hR1⟩ := hY pre _ Wy hp hJy 2
     rw [hWy]
     gi_wp2_with fail
     refine hR1.mono ?_
     rintro e W3 (⟨rfl, hJ3, hB3⟩ | ⟨rfl, hK⟩)
     ·gi_wp2_with fail
      go_roundw
      case rel => exact ⟨k, pre ++ [_], _, _, ta2, tb2, oa2, ob2, by omega, by omega, by rw [← hx1]; simp, hJ3, hB.trans ((cy.mono z6).trans hB3)⟩
      case measure => simp [slLen]; omega
     ·gi_wp2_with fail
      exact bodyPost_ret (results_none rfl _ _ _) rfl ⟨⟨_, rfl⟩, Or.inr hK⟩
end Go.Proofs.YteafnkimcidkhaaGreat



