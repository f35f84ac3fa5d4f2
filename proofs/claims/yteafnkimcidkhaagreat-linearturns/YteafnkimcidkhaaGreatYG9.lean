/- Texts of the proof, put together. -/
import Derived.Test.YteafnkimcidkhaaGreatYG8
import Derived.Test.YteafnkimcidkhaaGreatYMB3
import Derived.Test.YteafnkimcidkhaaGreatYG1
import Derived.Deep.QuietTactic
import Derived.BigQuiet
import Derived.Deep.RegionHeld3
import Derived.Test.YteafnkimcidkhaaGreatYG5
import Derived.Test.YteafnkimcidkhaaGreatYG6
import Derived.Test.YteafnkimcidkhaaGreatYG4
namespace Go.Proofs.YteafnkimcidkhaaGreat
open Go.RowKit
set_option linter.unusedVariables false

structure RootTo (A k r : Nat) : Prop where
 mul : r % 2 ^ k = 0
 room : r + 2 ^ k ≤ 18446744073709551616
 lo : r * r ≤ A
 hi : A < (r + 2 ^ k) * (r + 2 ^ k)
theorem RootTo.bit {A k r : Nat} (h : RootTo A (k + 1) r) : (r ||| 2 ^ k) = r + 2 ^ k ∧ r + 2 ^ k < 18446744073709551616 ∧ r % 2 ^ k = 0 := by
 have m := h.mul
 have p := pow_pos' k
 have ro := h.room
 rw [Nat.pow_succ] at m ro
 have d : r % 2 ^ k = 0 := by
  have := Nat.mod_mul_right_mod r (2 ^ k) 2
  rw [m] at this
  simpa using this.symm
 refine ⟨?_, by omega, d⟩
 have e : r = 2 ^ (k + 1) * (r / 2 ^ (k + 1)) := by
  have := Nat.div_add_mod r (2 ^ (k + 1))
  rw [h.mul] at this; omega
 rw [e]
 exact (Nat.two_pow_add_eq_or_of_lt (by rw [Nat.pow_succ]; omega) _).symm
theorem RootTo.take {A k r : Nat} (h : RootTo A (k + 1) r) (c : (r + 2 ^ k) * (r + 2 ^ k) ≤ A) : RootTo A k (r + 2 ^ k) := by
 obtain ⟨_, _, d⟩ := h.bit
 have ro := h.room
 have hi := h.hi
 have e : r + 2 ^ (k + 1) = r + 2 ^ k + 2 ^ k := by rw [Nat.pow_succ]; omega
 rw [e] at ro hi
 exact ⟨by rw [Nat.add_mod_right]; exact d, ro, c, hi⟩
theorem RootTo.leave {A k r : Nat} (h : RootTo A (k + 1) r) (c : A < (r + 2 ^ k) * (r + 2 ^ k)) : RootTo A k r := by
 obtain ⟨_, l, d⟩ := h.bit
 exact ⟨d, by omega, h.lo, c⟩
theorem RootTo.fin {A r : Nat} (h : RootTo A 0 r) : r * r ≤ A ∧ A - r * r ≤ 2 * r := by
 have l := h.lo
 have hi := h.hi
 rw [Nat.pow_zero, Nat.add_mul, Nat.mul_add, Nat.one_mul, Nat.mul_one] at hi
 omega
theorem OneMem.drew {n : Nat} {ah al : Int} {W : World} (h : OneMem n ah al W) : OneMem n ah al W.drew := ⟨h.s0, h.s1, h.c0, h.c1, h.e0, h.e1, h.f0, h.f1⟩
theorem OneMem.alloc {n : Nat} {ah al : Int} {W : World} (h : OneMem n ah al W) (o : Obj) : OneMem n ah al (W.alloc o) :=
 h.below ((Below.refl _ _).alloc (Nat.le_refl _) o)
end Go.Proofs.YteafnkimcidkhaaGreat
namespace Go.Proofs.YteafnkimcidkhaaGreat
open Go.RowKit
set_option linter.unusedVariables false

structure DivMem (n q o : Nat) (ah al rh rl : Int) (A : Nat) (f : Nat → Bool) (w : World) : Prop where
 one : OneMem n ah al w
 rq : RowB w q 128 A.testBit
 ro : RowB w o 128 f
 fo : RowF w o 128
 g0 : w.cell? ⟨o + 1, 0, none⟩ = some (.int .u64 rh)
 g1 : w.cell? ⟨o + 1, 1, none⟩ = some (.int .u64 rl)
 k0 : w.frozen? ⟨o + 1, 0, none⟩ = false
 k1 : w.frozen? ⟨o + 1, 1, none⟩ = false
 nq : n + 1 < q
 qo : q < o
 sz : o + 1 < w.heap.size
theorem DivMem.below {n q o : Nat} {ah al rh rl : Int} {A : Nat} {f : Nat → Bool} {W w1 : World} (h : DivMem n q o ah al rh rl A f W) (hb : Below W.heap.size W w1) : DivMem n q o ah al rh rl A f w1 := by
 obtain ⟨hc, hf⟩ := bcell hb
 have hs := hb.size
 have sz := h.sz; have qo := h.qo
 exact ⟨h.one.below hb, h.rq.below hb (by omega), h.ro.below hb (by omega), h.fo.below hb (by omega), cell_on hb h.g0, cell_on hb h.g1, by rw [hf _ _ sz]; exact h.k0, by rw [hf _ _ sz]; exact h.k1, h.nq, h.qo, by omega⟩
theorem DivMem.set {n q o : Nat} {ah al rh rl : Int} {A : Nat} {f : Nat → Bool} {W : World} (h : DivMem n q o ah al rh rl A f W) (x y : Int) : DivMem n q o ah al x y A f ((W.setCell ⟨o + 1, 0, none⟩ (.int .u64 x)).setCell ⟨o + 1, 1, none⟩ (.int .u64 y)) := by
 have nq := h.nq; have qo := h.qo
 have g0 := h.g0; have g1 := h.g1; have k0 := h.k0; have k1 := h.k1
 exact ⟨(h.one.far _ _ (by show o + 1 ≠ _; omega) (by show o + 1 ≠ _; omega)).far _ _ (by show o + 1 ≠ _; omega) (by show o + 1 ≠ _; omega), (h.rq.far _ _ (by show o + 1 ≠ _; omega)).far _ _ (by show o + 1 ≠ _; omega), (h.ro.far _ _ (by show o + 1 ≠ _; omega)).far _ _ (by show o + 1 ≠ _; omega), (h.fo.set _ _).set _ _, by simp [go_sem, *], by simp [go_sem, *], by simp [go_sem, *], by simp [go_sem, *], nq, qo, by simpa using h.sz⟩
theorem DivMem.bit {n q o : Nat} {ah al rh rl : Int} {A : Nat} {f : Nat → Bool} {W : World} (h : DivMem n q o ah al rh rl A f W) (k : Nat) (hk : k < 128) (v : Bool) : DivMem n q o ah al rh rl A (fun i => if i = k then v else f i) (W.setCell ⟨o, k, none⟩ (.bool v)) := by
 have nq := h.nq; have qo := h.qo
 have g0 := h.g0; have g1 := h.g1; have k0 := h.k0; have k1 := h.k1
 exact ⟨h.one.far _ _ (by show o ≠ _; omega) (by show o ≠ _; omega), h.rq.far _ _ (by show o ≠ _; omega), h.ro.set k v hk, h.fo.set _ _, by simp [go_sem, *], by simp [go_sem, *], by simp [go_sem, *], by simp [go_sem, *], nq, qo, by simpa using h.sz⟩
theorem DivMem.ext {n q o : Nat} {ah al rh rl : Int} {A : Nat} {f g : Nat → Bool} {W : World} (h : DivMem n q o ah al rh rl A f W) (e : ∀ i, i < 128 → f i = g i) : DivMem n q o ah al rh rl A g W :=
 ⟨h.one, h.rq, h.ro.ext e, h.fo, h.g0, h.g1, h.k0, h.k1, h.nq, h.qo, h.sz⟩
end Go.Proofs.YteafnkimcidkhaaGreat
namespace Go.Proofs.YteafnkimcidkhaaGreat
open Go.RowKit
set_option linter.unusedVariables false
set_option linter.unusedSimpArgs false
structure QMem (q o nl T : Nat) (rh rl dl : Int) (X : Nat) (f : Nat → Bool) (w : World) : Prop where
 rq : RowB w q nl (fun i => X.testBit i)
 ro : RowB w o T f
 fo : RowF w o T
 g0 : w.cell? ⟨o + 1, 0, none⟩ = some (.int .u64 rh)
 g1 : w.cell? ⟨o + 1, 1, none⟩ = some (.int .u64 rl)
 k0 : w.frozen? ⟨o + 1, 0, none⟩ = false
 k1 : w.frozen? ⟨o + 1, 1, none⟩ = false
 d0 : w.cell? ⟨o + 2, 0, none⟩ = some (.int .u64 0)
 d1 : w.cell? ⟨o + 2, 1, none⟩ = some (.int .u64 dl)
 qo : q < o
 sz : o + 2 < w.heap.size
theorem QMem.below {q o nl T : Nat} {rh rl dl : Int} {X : Nat} {f : Nat → Bool} {W w1 : World} (h : QMem q o nl T rh rl dl X f W) (hb : Below W.heap.size W w1) : QMem q o nl T rh rl dl X f w1 := by
 obtain ⟨hc, hf⟩ := bcell hb
 have hs := hb.size
 have sz := h.sz; have qo := h.qo
 exact ⟨h.rq.below hb (by omega), h.ro.below hb (by omega), h.fo.below hb (by omega), cell_on hb h.g0, cell_on hb h.g1, by rw [hf _ _ (by omega)]; exact h.k0, by rw [hf _ _ (by omega)]; exact h.k1, cell_on hb h.d0, cell_on hb h.d1, h.qo, by omega⟩
theorem QMem.set {q o nl T : Nat} {rh rl dl : Int} {X : Nat} {f : Nat → Bool} {W : World} (h : QMem q o nl T rh rl dl X f W) (x y : Int) : QMem q o nl T x y dl X f ((W.setCell ⟨o + 1, 0, none⟩ (.int .u64 x)).setCell ⟨o + 1, 1, none⟩ (.int .u64 y)) := by
 have qo := h.qo
 have g0 := h.g0; have g1 := h.g1; have k0 := h.k0; have k1 := h.k1; have d0 := h.d0; have d1 := h.d1
 exact ⟨(h.rq.far _ _ (by show o + 1 ≠ _; omega)).far _ _ (by show o + 1 ≠ _; omega), (h.ro.far _ _ (by show o + 1 ≠ _; omega)).far _ _ (by show o + 1 ≠ _; omega), (h.fo.set _ _).set _ _, by simp [go_sem, *], by simp [go_sem, *], by simp [go_sem, *], by simp [go_sem, *], by simp [go_sem, *], by simp [go_sem, *], qo, by simpa using h.sz⟩
theorem QMem.bit {q o nl T : Nat} {rh rl dl : Int} {X : Nat} {f : Nat → Bool} {W : World} (h : QMem q o nl T rh rl dl X f W) (k : Nat) (hk : k < T) (v : Bool) : QMem q o nl T rh rl dl X (fun i => if i = k then v else f i) (W.setCell ⟨o, k, none⟩ (.bool v)) := by
 have qo := h.qo
 have g0 := h.g0; have g1 := h.g1; have k0 := h.k0; have k1 := h.k1; have d0 := h.d0; have d1 := h.d1
 exact ⟨h.rq.far _ _ (by show o ≠ _; omega), h.ro.set k v hk, h.fo.set _ _, by simp [go_sem, *], by simp [go_sem, *], by simp [go_sem, *], by simp [go_sem, *], by simp [go_sem, *], by simp [go_sem, *], qo, by simpa using h.sz⟩
end Go.Proofs.YteafnkimcidkhaaGreat
namespace Go.Proofs.YteafnkimcidkhaaGreat
open Go.RowKit
set_option linter.unusedVariables false
set_option linter.unusedSimpArgs false
end Go.Proofs.YteafnkimcidkhaaGreat
namespace Go.Proofs.YteafnkimcidkhaaGreat
open Go.RowKit
set_option linter.unusedVariables false
set_option linter.unusedSimpArgs false
end Go.Proofs.YteafnkimcidkhaaGreat
namespace Go.Proofs.YteafnkimcidkhaaGreat
open Go.RowKit
set_option linter.unusedVariables false
set_option linter.unusedSimpArgs false
/-! ### Two rows as numbers -/
/-! ### Differences -/
/-! ### Sums -/
end Go.Proofs.YteafnkimcidkhaaGreat
namespace Go.Proofs.YteafnkimcidkhaaGreat
open Go.RowKit
set_option linter.unusedVariables false
set_option linter.unusedSimpArgs false
end Go.Proofs.YteafnkimcidkhaaGreat
namespace Go.Proofs.YteafnkimcidkhaaGreat
open Go.RowKit
set_option linter.unusedVariables false
set_option linter.unusedSimpArgs false
end Go.Proofs.YteafnkimcidkhaaGreat
namespace Go.Proofs.YteafnkimcidkhaaGreat
open Go.RowKit
set_option linter.unusedVariables false
set_option linter.unusedSimpArgs false
end Go.Proofs.YteafnkimcidkhaaGreat



namespace Go.Proofs.YteafnkimcidkhaaGreat
open Go.RowKit
set_option linter.unusedVariables false
set_option linter.unusedSimpArgs false
theorem sp_dNr {w W : World} (h : Below w.heap.size w W) (n : Nat) : Below w.heap.size w (W.drewN n) := ⟨h.os, h.tape, h.output, h.size, h.block⟩
theorem sp_drewr {w W : World} (h : Below w.heap.size w W) : Below w.heap.size w W.drew := ⟨h.os, h.tape, h.output, h.size, h.block⟩
def lessF (s : Bool) (a b : Int) : Bool := (cmpF s a b).2 && decide ((cmpF s a b).1 < 0)
set_option maxRecDepth 100000 in
set_option maxHeartbeats 3200000 in
theorem rless_any (s : Bool) (a b : Int) (h1 : Word a) (h2 : Word b) (w : World) : Calls Tryz.prog 82 #[.int .i64 (fb s), .int .u64 a, .int .u64 b] w fun e w' => e = .returned (.bool (lessF s a b)) ∧ ∃ n, w' = w.drewN n := by
 have hc := rcompare_any s a b h1 h2
 unfold lessF
 generalize cmpF s a b = c at *
 generalize fb s = f at *
 obtain ⟨c1, c2⟩ := c
 dsimp only at *
 cases c2
 ·go_enter Tryz.func82, Tryz.ntmps82
  go_wp2_with (go_at_call 119; refine (hc _).mono ?_; rintro e w1 ⟨rfl, n, rfl⟩)
  go_ret
  exact ⟨rfl, n, rfl⟩
 ·by_cases q : c1 < 0
  ·rw [decide_eq_true q]
   go_enter Tryz.func82, Tryz.ntmps82
   go_wp2_with (go_at_call 119; refine (hc _).mono ?_; rintro e w1 ⟨rfl, n, rfl⟩)
   go_ret
   exact ⟨rfl, n, rfl⟩
  ·rw [decide_eq_false q]
   have q' : decide (c1 < 0) = false := decide_eq_false q
   clear q
   go_enter Tryz.func82, Tryz.ntmps82
   go_wp2_with (go_at_call 119; refine (hc _).mono ?_; rintro e w1 ⟨rfl, n, rfl⟩)
   go_ret
   exact ⟨rfl, n, rfl⟩
def hRF (s : Bool) (e : Bool) (a b x : Int) : Bool := !e && (finF s x && (!lessF s x a && !lessF s b x))
set_option maxRecDepth 100000 in
set_option maxHeartbeats 3200000 in
theorem rhasF_any (s : Bool) (e : Bool) (a b x : Int) (h1 : Word a) (h2 : Word b) (h3 : Word x) (w : World) : Calls Tryz.prog 41 #[.int .i64 (fb s), .agg #[.bool e, .int .u64 a, .int .u64 b], .int .u64 x] w fun r w' => r = .returned (.bool (hRF s e a b x)) ∧ Below w.heap.size w w' := by
 have f1 := rfinite_any s x h3
 have l1 := rless_any s x a h3 h1
 have l2 := rless_any s b x h2 h3
 unfold hRF
 generalize finF s x = F1 at *
 generalize lessF s x a = L1 at *
 generalize lessF s b x = L2 at *
 generalize fb s = f at *
 cases e
 ·cases F1
  ·go_enter Tryz.func41, Tryz.ntmps41
   go_wp2_with (first
    | (go_at_call 44; refine (f1 _).mono ?_; rintro e w1 ⟨rfl, n1, rfl⟩)
    | (go_at_call_of 82 a; refine (l1 _).mono ?_; rintro e w2 ⟨rfl, n2, rfl⟩)
    | (go_at_call_of 82 b; refine (l2 _).mono ?_; rintro e w3 ⟨rfl, n3, rfl⟩)
    | fail)
   go_ret
   exact ⟨by simp, by (repeat (first | with_reducible exact Below.refl _ _ | with_reducible refine sp_dNr ?_ _ | with_reducible refine sp_new ?_ _ | with_reducible refine sp_drewr ?_))⟩
  ·cases L1
   ·cases L2
    ·go_enter Tryz.func41, Tryz.ntmps41
     go_wp2_with (first
      | (go_at_call 44; refine (f1 _).mono ?_; rintro e w1 ⟨rfl, n1, rfl⟩)
      | (go_at_call_of 82 a; refine (l1 _).mono ?_; rintro e w2 ⟨rfl, n2, rfl⟩)
      | (go_at_call_of 82 b; refine (l2 _).mono ?_; rintro e w3 ⟨rfl, n3, rfl⟩)
      | fail)
     go_ret
     exact ⟨by simp, by (repeat (first | with_reducible exact Below.refl _ _ | with_reducible refine sp_dNr ?_ _ | with_reducible refine sp_new ?_ _ | with_reducible refine sp_drewr ?_))⟩
    ·go_enter Tryz.func41, Tryz.ntmps41
     go_wp2_with (first
      | (go_at_call 44; refine (f1 _).mono ?_; rintro e w1 ⟨rfl, n1, rfl⟩)
      | (go_at_call_of 82 a; refine (l1 _).mono ?_; rintro e w2 ⟨rfl, n2, rfl⟩)
      | (go_at_call_of 82 b; refine (l2 _).mono ?_; rintro e w3 ⟨rfl, n3, rfl⟩)
      | fail)
     go_ret
     exact ⟨by simp, by (repeat (first | with_reducible exact Below.refl _ _ | with_reducible refine sp_dNr ?_ _ | with_reducible refine sp_new ?_ _ | with_reducible refine sp_drewr ?_))⟩
   ·go_enter Tryz.func41, Tryz.ntmps41
    go_wp2_with (first
     | (go_at_call 44; refine (f1 _).mono ?_; rintro e w1 ⟨rfl, n1, rfl⟩)
     | (go_at_call_of 82 a; refine (l1 _).mono ?_; rintro e w2 ⟨rfl, n2, rfl⟩)
     | (go_at_call_of 82 b; refine (l2 _).mono ?_; rintro e w3 ⟨rfl, n3, rfl⟩)
     | fail)
    go_ret
    exact ⟨by simp, by (repeat (first | with_reducible exact Below.refl _ _ | with_reducible refine sp_dNr ?_ _ | with_reducible refine sp_new ?_ _ | with_reducible refine sp_drewr ?_))⟩
 ·go_enter Tryz.func41, Tryz.ntmps41
  go_wp2_with (first
   | (go_at_call 44; refine (f1 _).mono ?_; rintro e w1 ⟨rfl, n1, rfl⟩)
   | (go_at_call_of 82 a; refine (l1 _).mono ?_; rintro e w2 ⟨rfl, n2, rfl⟩)
   | (go_at_call_of 82 b; refine (l2 _).mono ?_; rintro e w3 ⟨rfl, n3, rfl⟩)
   | fail)
  go_ret
  exact ⟨by simp, by (repeat (first | with_reducible exact Below.refl _ _ | with_reducible refine sp_dNr ?_ _ | with_reducible refine sp_new ?_ _ | with_reducible refine sp_drewr ?_))⟩
end Go.Proofs.YteafnkimcidkhaaGreat



namespace Go.Proofs.YteafnkimcidkhaaGreat
open Go.RowKit
set_option linter.unusedVariables false
set_option linter.unusedSimpArgs false
end Go.Proofs.YteafnkimcidkhaaGreat



namespace Go.Proofs.YteafnkimcidkhaaGreat
open Go.RowKit
set_option linter.unusedVariables false
set_option linter.unusedSimpArgs false
end Go.Proofs.YteafnkimcidkhaaGreat



namespace Go.Proofs.YteafnkimcidkhaaGreat
end Go.Proofs.YteafnkimcidkhaaGreat


namespace Go.Proofs.YteafnkimcidkhaaGreat
set_option linter.unusedVariables false
set_option linter.unusedSimpArgs false
def Num (s : Bool) (a : Int) : Prop := (cls s a == 0 || cls s a == 5) = false
theorem ordN {s : Bool} {a b : Int} (h1 : Num s a) (h2 : Num s b) : (WyF s).ord a b = cmpI (rnk s a) (rnk s b) := by
 show (cmpF s a b).1 = _
 unfold cmpF
 rw [h1, h2]
 rfl
theorem lessN {s : Bool} {a b : Int} (h1 : Num s a) (h2 : Num s b) : lessF s a b = decide (rnk s a < rnk s b) := by
 unfold lessF cmpF
 rw [h1, h2]
 simp only [Bool.or_self, Bool.false_eq_true, if_false, Bool.true_and]
 rw [decide_eq_decide]
 split
 ·simp [*]
 ·split <;> omega
theorem num_0 (s : Bool) : Num s 0 := by unfold Num; cases s <;> decide +kernel
theorem num_fin {s : Bool} {a : Int} (h : finF s a = true) : Num s a := (n_num h).1
theorem one_iff (s : Bool) (a : Int) : (WyF s).one a = (finF s a && (plainF s a == a)) := rfl
theorem pos_cmp (p q : Int) : (0 < cmpI p q) ↔ q < p := by unfold cmpI; split <;> (try split) <;> omega
theorem neg_cmp (p q : Int) : (cmpI p q < 0) ↔ p < q := by unfold cmpI; split <;> (try split) <;> omega
theorem le_cmp (p q : Int) : (cmpI p q ≤ 0) ↔ p ≤ q := by unfold cmpI; split <;> (try split) <;> omega
end Go.Proofs.YteafnkimcidkhaaGreat



namespace Go.Proofs.YteafnkimcidkhaaGreat
open Go.RowKit
set_option linter.unusedVariables false
set_option linter.unusedSimpArgs false
theorem res_rnk {s : Bool} {v r : Int} (h : Res s v r) : rnk s v = r := by
 have hp := h.pl
 have hn := h.num
 unfold plainF at hp
 rw [hn] at hp
 simp only [Bool.false_eq_true, if_false] at hp
 split at hp
 ·rename_i hz
  have hr : r = 0 := by
   have : mk s r = mk s 0 := hp.symm
   exact mk_inj h.lo h.hi (by have := fI_pos s; omega) (by have := fI_pos s; omega) this
  have : rnk s v = 0 := by
   have hz2 : cls s v = 1 := by simpa using hz
   have : zOf s v = 0 := by
    unfold cls at hz2
    repeat' split at hz2
    all_goals first | assumption | (exfalso; simp at hz2; done) | (simp_all; done)
   unfold rnk
   rw [this]
   split <;> rfl
  rw [this, hr]
 ·rw [hp]
  exact mk_rnk h.lo h.hi
theorem les_res {v u r q : Int} (h1 : Res false v r) (h2 : Res false u q) : Res false (lesP v u) (min r q) := by
 have hc : (cmpF false v u).1 = cmpI (rnk false v) (rnk false u) := ordN (s := false) h1.num h2.num
 rw [res_rnk h1, res_rnk h2] at hc
 unfold lesP
 rw [hc]
 by_cases h : q < r
 ·rw [if_pos ((pos_cmp _ _).2 h), show min r q = q by omega]
  exact h2
 ·rw [if_neg fun x => h ((pos_cmp _ _).1 x), show min r q = r by omega]
  exact h1
theorem gre_res {v u r q : Int} (h1 : Res false v r) (h2 : Res false u q) : Res false (greP v u) (max r q) := by
 have hc : (cmpF false v u).1 = cmpI (rnk false v) (rnk false u) := ordN (s := false) h1.num h2.num
 rw [res_rnk h1, res_rnk h2] at hc
 unfold greP
 rw [hc]
 by_cases h : r < q
 ·rw [if_pos ((neg_cmp _ _).2 h), show max r q = q by omega]
  exact h2
 ·rw [if_neg fun x => h ((neg_cmp _ _).1 x), show max r q = r by omega]
  exact h1
def loR (G : Int → Int → Int → Int) (a b c d : Int) : Int := min (min (min (G 2 a c) (G 2 a d)) (G 2 b c)) (G 2 b d)
def hiR (G : Int → Int → Int → Int) (a b c d : Int) : Int := max (max (max (G 1 a c) (G 1 a d)) (G 1 b c)) (G 1 b d)
theorem right_is {a : Bool × Int × Int} (hw : wdR a) (h : liN a = true) : ∃ r q, -fI false < r ∧ r ≤ q ∧ q < fI false ∧ a = (false, mk false r, mk false q) := by
 obtain ⟨e, x, y⟩ := a
 simp only [liN, liR, Bool.and_eq_true, Bool.not_eq_true'] at h
 obtain ⟨h1, rfl⟩ := h
 simp only [rightP, Bool.false_eq_true, if_false, Bool.and_eq_true, decide_eq_true_eq] at h1
 obtain ⟨hx, hy, ho⟩ := h1
 obtain ⟨r, r1, r2, rfl⟩ := one_is hw.1 hx
 obtain ⟨q, q1, q2, rfl⟩ := one_is hw.2 hy
 rw [ord_mk (by omega) (by omega) (by omega) (by omega)] at ho
 have := (le_cmp r q).1 ho
 exact ⟨r, q, r1, this, q2, rfl⟩
theorem mk_right {r q : Int} (h1 : -fI false < r) (h2 : r ≤ q) (h3 : q < fI false) : liN (false, mk false r, mk false q) = true := by
 simp only [liN, liR, rightP, Bool.false_eq_true, if_false, Bool.not_false, Bool.and_true, Bool.and_eq_true, decide_eq_true_eq]
 refine ⟨one_mk h1 (by omega), one_mk (by omega) h3, ?_⟩
 rw [ord_mk (by omega) (by omega) (by omega) (by omega)]
 exact (le_cmp r q).2 h2
theorem liN_R {a : Bool × Int × Int} (h : liN a = true) : liR a = true ∧ a.1 = false := by simpa [liN] using h
theorem outP_mk {g G : Int → Int → Int → Int} {a b c d : Int} (hG : ∀ m x y, (x = a ∨ x = b) → (y = c ∨ y = d) → Res false (g m (mk false x) (mk false y)) (G m x y)) (a1 : -fI false < a) (ab : a ≤ b) (b1 : b < fI false) (c1 : -fI false < c) (cd : c ≤ d) (d1 : d < fI false) :
  outP g (false, mk false a, mk false b) (false, mk false c, mk false d) = if -fI false < loR G a b c d ∧ loR G a b c d ≤ hiR G a b c d ∧ hiR G a b c d < fI false then ((false, mk false (loR G a b c d), mk false (hiR G a b c d)), true) else ((false, 0, 0), false) := by
 have hx := (liN_R (mk_right a1 ab b1)).1
 have hy := (liN_R (mk_right c1 cd d1)).1
 have l1 := les_res (les_res (les_res (les_res (hG 2 a c (Or.inl rfl) (Or.inl rfl)) (hG 2 a c (Or.inl rfl) (Or.inl rfl))) (hG 2 a d (Or.inl rfl) (Or.inr rfl))) (hG 2 b c (Or.inr rfl) (Or.inl rfl))) (hG 2 b d (Or.inr rfl) (Or.inr rfl))
 have g1 := gre_res (gre_res (gre_res (gre_res (hG 1 b d (Or.inr rfl) (Or.inr rfl)) (hG 1 a c (Or.inl rfl) (Or.inl rfl))) (hG 1 a d (Or.inl rfl) (Or.inr rfl))) (hG 1 b c (Or.inr rfl) (Or.inl rfl))) (hG 1 b d (Or.inr rfl) (Or.inr rfl))
 rw [show min (min (min (min (G 2 a c) (G 2 a c)) (G 2 a d)) (G 2 b c)) (G 2 b d) = loR G a b c d by unfold loR; omega] at l1
 rw [show max (max (max (max (G 1 b d) (G 1 a c)) (G 1 a d)) (G 1 b c)) (G 1 b d) = hiR G a b c d by unfold hiR; omega] at g1
 have eo : ofP (WyF false) (loP g (mk false a) (mk false b) (mk false c) (mk false d)) (hiP g (mk false a) (mk false b) (mk false c) (mk false d)) = if -fI false < loR G a b c d ∧ loR G a b c d ≤ hiR G a b c d ∧ hiR G a b c d < fI false then (false, mk false (loR G a b c d), mk false (hiR G a b c d)) else (true, 0, 0) := by
  unfold ofP
  have p1 : (WyF false).pl (loP g (mk false a) (mk false b) (mk false c) (mk false d)) = mk false (loR G a b c d) := l1.pl
  have p2 : (WyF false).pl (hiP g (mk false a) (mk false b) (mk false c) (mk false d)) = mk false (hiR G a b c d) := g1.pl
  rw [p1, p2]
  by_cases h : -fI false < loR G a b c d ∧ loR G a b c d ≤ hiR G a b c d ∧ hiR G a b c d < fI false
  ·rw [if_pos h]
   exact if_pos (liN_R (mk_right h.1 h.2.1 h.2.2)).1
  ·rw [if_neg h, if_neg]
   intro hr
   apply h
   simp only [rightP, Bool.false_eq_true, if_false, Bool.and_eq_true, decide_eq_true_eq] at hr
   obtain ⟨o1, o2, o3⟩ := hr
   have f1 : finF false (mk false (loR G a b c d)) = true := by
    have := o1
    rw [one_iff] at this
    simp only [Bool.and_eq_true] at this
    exact this.1
   have f2 : finF false (mk false (hiR G a b c d)) = true := by
    have := o2
    rw [one_iff] at this
    simp only [Bool.and_eq_true] at this
    exact this.1
   rw [fin_mk l1.lo l1.hi] at f1
   rw [fin_mk g1.lo g1.hi] at f2
   rw [ord_mk l1.lo l1.hi g1.lo g1.hi] at o3
   have o3' := (le_cmp _ _).1 o3
   simp only [decide_eq_true_eq] at f1 f2
   exact ⟨f1.1, o3', f2.2⟩
 unfold outP
 rw [hx, hy]
 simp only [Bool.and_self, Bool.true_eq_false, if_false, Bool.or_self, Bool.false_eq_true]
 rw [eo]
 by_cases h : -fI false < loR G a b c d ∧ loR G a b c d ≤ hiR G a b c d ∧ hiR G a b c d < fI false
 ·simp only [if_pos h, Bool.false_eq_true, if_false]
 ·simp only [if_neg h, if_true]
theorem fin_of_mk {r : Int} (h1 : -fI false < r) (h2 : r < fI false) : finF false (mk false r) = true := by
 rw [fin_mk (by omega) (by omega)]
 simp [h1, h2]
theorem add_resM (s : Bool) (m a b : Int) (fa : finF s a = true) (fb : finF s b = true) : ∃ r, Res s (addF s m a b) r := by
 have n1 := n_num fa
 have n2 := n_num fb
 unfold addF
 rw [n1.1, n2.1, n1.2, n2.2]
 simp only [Bool.or_self, Bool.false_eq_true, if_false, Bool.false_and]
 exact sumT_res _ _ _ _ _ _ _ _
def aR (m x y : Int) : Int := rnk false (addF false m (mk false x) (mk false y))
theorem aR_res {m x y : Int} (x1 : -fI false < x) (x2 : x < fI false) (y1 : -fI false < y) (y2 : y < fI false) : Res false (addF false m (mk false x) (mk false y)) (aR m x y) := by
 obtain ⟨r, hr⟩ := add_resM false m _ _ (fin_of_mk x1 x2) (fin_of_mk y1 y2)
 rw [aR, res_rnk hr]
 exact hr
theorem aR_comm {m x y : Int} (x1 : -fI false ≤ x) (x2 : x ≤ fI false) (y1 : -fI false ≤ y) (y2 : y ≤ fI false) : aR m x y = aR m y x := by
 rw [aR, aR, addF_comm false m _ _ (mk_word x1 x2) (mk_word y1 y2)]
theorem sumP_mk {a b c d : Int} (a1 : -fI false < a) (ab : a ≤ b) (b1 : b < fI false) (c1 : -fI false < c) (cd : c ≤ d) (d1 : d < fI false) :
  sumP (false, mk false a, mk false b) (false, mk false c, mk false d) = if -fI false < loR aR a b c d ∧ loR aR a b c d ≤ hiR aR a b c d ∧ hiR aR a b c d < fI false then ((false, mk false (loR aR a b c d), mk false (hiR aR a b c d)), true) else ((false, 0, 0), false) :=
 outP_mk (fun m x y hx hy => aR_res (by rcases hx with rfl | rfl <;> omega) (by rcases hx with rfl | rfl <;> omega) (by rcases hy with rfl | rfl <;> omega) (by rcases hy with rfl | rfl <;> omega)) a1 ab b1 c1 cd d1
theorem sumP_comm {x y : Bool × Int × Int} (hx : wdR x) (hy : wdR y) (nx : liN x = true) (ny : liN y = true) : sumP x y = sumP y x := by
 obtain ⟨a, b, a1, ab, b1, rfl⟩ := right_is hx nx
 obtain ⟨c, d, c1, cd, d1, rfl⟩ := right_is hy ny
 rw [sumP_mk a1 ab b1 c1 cd d1, sumP_mk c1 cd d1 a1 ab b1]
 have q : ∀ m x y, (x = a ∨ x = b) → (y = c ∨ y = d) → aR m y x = aR m x y := fun m x y hx hy => aR_comm (by rcases hy with rfl | rfl <;> omega) (by rcases hy with rfl | rfl <;> omega) (by rcases hx with rfl | rfl <;> omega) (by rcases hx with rfl | rfl <;> omega)
 have e1 : loR aR c d a b = loR aR a b c d := by
  unfold loR
  rw [q 2 a c (Or.inl rfl) (Or.inl rfl), q 2 b c (Or.inr rfl) (Or.inl rfl), q 2 a d (Or.inl rfl) (Or.inr rfl), q 2 b d (Or.inr rfl) (Or.inr rfl)]
  omega
 have e2 : hiR aR c d a b = hiR aR a b c d := by
  unfold hiR
  rw [q 1 a c (Or.inl rfl) (Or.inl rfl), q 1 b c (Or.inr rfl) (Or.inl rfl), q 1 a d (Or.inl rfl) (Or.inr rfl), q 1 b d (Or.inr rfl) (Or.inr rfl)]
  omega
 rw [e1, e2]
theorem sumP_right {x y : Bool × Int × Int} (hx : wdR x) (hy : wdR y) (nx : liN x = true) (ny : liN y = true) (h : (sumP x y).2 = true) : liN (sumP x y).1 = true := by
 obtain ⟨a, b, a1, ab, b1, rfl⟩ := right_is hx nx
 obtain ⟨c, d, c1, cd, d1, rfl⟩ := right_is hy ny
 rw [sumP_mk a1 ab b1 c1 cd d1] at h ⊢
 split at h
 ·rename_i hh
  rw [if_pos hh]
  exact mk_right hh.1 hh.2.1 hh.2.2
 ·cases h
theorem trnP_mk {a b : Int} (a1 : -fI false < a) (ab : a ≤ b) (b1 : b < fI false) : trnP (false, mk false a, mk false b) = (false, mk false (-b), mk false (-a)) := by
 unfold trnP
 rw [neg_mk (by omega) (by omega), neg_mk (by omega) (by omega)]
end Go.Proofs.YteafnkimcidkhaaGreat



namespace Go.Proofs.YteafnkimcidkhaaGreat
open Go.RowKit
set_option linter.unusedVariables false
set_option linter.unusedSimpArgs false
theorem rT_iff {q : Int} {t : Int × Bool × Int × Int} {ls : List (Int × Bool × Int × Int)} : rT liN liZ q (t :: ls) = true ↔ q < t.1 ∧ liN t.2 = true ∧ liZ t.2 = false ∧ rT liN liZ t.1 ls = true := by
 rw [rT_cons]
 simp only [Bool.and_eq_true, Bool.not_eq_true', decide_eq_false_iff_not, Int.not_le]
 exact ⟨fun ⟨⟨⟨a, b⟩, c⟩, d⟩ => ⟨a, b, c, d⟩, fun ⟨a, b, c, d⟩ => ⟨⟨⟨a, b⟩, c⟩, d⟩⟩
theorem rT_le {q n : Int} {ls : List (Int × Bool × Int × Int)} (hq : q ≤ n) (h : rT liN liZ n ls = true) : rT liN liZ q ls = true := by
 cases ls with
 | nil => rfl
 | cons t ts =>
  obtain ⟨a, b, c, d⟩ := rT_iff.1 h
  exact rT_iff.2 ⟨by omega, b, c, d⟩
set_option maxRecDepth 100000 in
theorem liN_0 : liN (false, 0, 0) = true := by decide +kernel
theorem tk_rT {q n : Int} {ls : List (Int × Bool × Int × Int)} (h : rT liN liZ q ls = true) (hn : n ≤ fv ls) : rT liN liZ n (tk ls n).2 = true ∧ liN (tk ls n).1 = true := by
 cases ls with
 | nil => exact ⟨rfl, liN_0⟩
 | cons t ts =>
  rw [show tk (t :: ts) n = if t.1 = n then (t.2, ts) else ((false, 0, 0), t :: ts) from rfl]
  obtain ⟨a, b, c, d⟩ := rT_iff.1 h
  have hn' : n ≤ t.1 := hn
  split
  ·rename_i e
   subst e
   exact ⟨d, b⟩
  ·exact ⟨rT_iff.2 ⟨by omega, b, c, d⟩, liN_0⟩
theorem min_lt {q : Int} {az bz : List (Int × Bool × Int × Int)} (ha : rT liN liZ q az = true) (hb : rT liN liZ q bz = true) (oa : tOk az) (ob : tOk bz) (h : ¬ (az.length = 0 ∧ bz.length = 0)) : q < min (fv az) (fv bz) := by
 cases az with
 | nil =>
  cases bz with
  | nil => exact absurd ⟨rfl, rfl⟩ h
  | cons u us =>
   have := (rT_iff.1 hb).1
   have h2 : u.1 ≤ 9223372036854775807 := (ob u (by simp)).1
   show q < min 9223372036854775807 u.1
   omega
 | cons t ts =>
  have h1 := (rT_iff.1 ha).1
  cases bz with
  | nil =>
   have h2 : t.1 ≤ 9223372036854775807 := (oa t (by simp)).1
   show q < min t.1 9223372036854775807
   omega
  | cons u us =>
   have := (rT_iff.1 hb).1
   show q < min t.1 u.1
   omega
theorem mg_step (k : Nat) (az bz : List (Int × Bool × Int × Int)) (h : ¬ (az.length = 0 ∧ bz.length = 0)) : mg (k + 1) az bz = (min (fv az) (fv bz), (tk az (min (fv az) (fv bz))).1, (tk bz (min (fv az) (fv bz))).1) :: mg k (tk az (min (fv az) (fv bz))).2 (tk bz (min (fv az) (fv bz))).2 := by
 rw [mg, if_neg h]
theorem recL_rT {BY : Bool × Int × Int → Bool × Int × Int → (Bool × Int × Int) × Bool} (hBY : ∀ x y, wdR x → wdR y → liN x = true → liN y = true → (BY x y).2 = true → liN (BY x y).1 = true) : ∀ (k : Nat) (q : Int) (az bz : List (Int × Bool × Int × Int)), rT liN liZ q az = true → rT liN liZ q bz = true → tOk az → tOk bz → (∀ x ∈ mg k az bz, (BY x.2.1 x.2.2).2 = true) → rT liN liZ q (recL BY (mg k az bz)) = true
 | 0, _, _, _, _, _, _, _, _ => rfl
 | k + 1, q, az, bz, ha, hb, oa, ob, hall => by
  by_cases h : az.length = 0 ∧ bz.length = 0
  ·rw [mg, if_pos h]
   rfl
  ·have hq := min_lt ha hb oa ob h
   rw [mg_step k az bz h] at hall ⊢
   have a1 := tk_rT ha (show min (fv az) (fv bz) ≤ fv az by omega)
   have b1 := tk_rT hb (show min (fv az) (fv bz) ≤ fv bz by omega)
   have ih := recL_rT hBY k (min (fv az) (fv bz)) _ _ a1.1 b1.1 (tk_wd oa (min (fv az) (fv bz))).2 (tk_wd ob (min (fv az) (fv bz))).2 (fun x hx => hall x (List.mem_cons_of_mem _ hx))
   have h0 := hall _ (List.mem_cons_self ..)
   unfold recL
   split
   ·exact rT_le (by omega) ih
   ·rename_i hz
    refine rT_iff.2 ⟨hq, hBY _ _ (tk_wd oa _).1 (tk_wd ob _).1 a1.2 b1.2 h0, ?_, ih⟩
    cases hc : liZ (BY (tk az (min (fv az) (fv bz))).1 (tk bz (min (fv az) (fv bz))).1).1
    ·rfl
    ·exfalso
     apply hz
     simp only [liZ, decide_eq_true_eq] at hc
     exact Prod.ext hc.1 (Prod.ext hc.2.1 hc.2.2)
theorem frB_is {A : Frm} (h : frB A = true) : A.1 = false ∧ liN A.2.1 = true ∧ A.2.2.length ≤ 16 ∧ rT liN liZ (-1) A.2.2 = true := by
 simp only [frB, Bool.and_eq_true, Bool.not_eq_true'] at h
 obtain ⟨h1, h2⟩ := h
 unfold frR fR at h1
 rw [h2] at h1
 simp only [Bool.false_eq_true, if_false, Bool.and_eq_true, decide_eq_true_eq] at h1
 exact ⟨h2, h1.1, h1.2.1, h1.2.2⟩
theorem frB_mk {c : Bool × Int × Int} {ls : List (Int × Bool × Int × Int)} (h1 : liN c = true) (h2 : ls.length ≤ 16) (h3 : rT liN liZ (-1) ls = true) : frB (false, c, ls) = true := by
 simp [frB, frR, fR, h1, h2, h3]
theorem recP_right {BY : Bool × Int × Int → Bool × Int × Int → (Bool × Int × Int) × Bool} (hBY : ∀ x y, wdR x → wdR y → liN x = true → liN y = true → (BY x y).2 = true → liN (BY x y).1 = true) {A B : Frm} (hA : fOk A) (hB : fOk B) : recP BY A B = whF ∨ frB (recP BY A B) = true := by
 unfold recP
 split
 ·rename_i h
  right
  obtain ⟨hg, h1, h2, h3⟩ := h
  simp only [Bool.and_eq_true] at hg
  obtain ⟨_, na, _, ra⟩ := frB_is hg.1
  obtain ⟨_, nb, _, rb⟩ := frB_is hg.2
  exact frB_mk (hBY _ _ hA.1 hB.1 na nb h1) h3 (recL_rT hBY _ _ _ _ ra rb hA.2.1 hB.2.1 h2)
 ·exact Or.inl rfl
set_option maxRecDepth 100000 in
theorem frR_wh : frR whF = true := by decide +kernel
theorem recP_frR {BY : Bool × Int × Int → Bool × Int × Int → (Bool × Int × Int) × Bool} (hBY : ∀ x y, wdR x → wdR y → liN x = true → liN y = true → (BY x y).2 = true → liN (BY x y).1 = true) {A B : Frm} (hA : fOk A) (hB : fOk B) : frR (recP BY A B) = true := by
 rcases recP_right hBY hA hB with h | h
 ·rw [h]
  exact frR_wh
 ·simp only [frB, Bool.and_eq_true] at h
  exact h.1
theorem addP_right {A B : Frm} (hA : fOk A) (hB : fOk B) : frR (addP A B) = true := recP_frR (fun x y h1 h2 h3 h4 h5 => sumP_right h1 h2 h3 h4 h5) hA hB
theorem mg_swap {BY : Bool × Int × Int → Bool × Int × Int → (Bool × Int × Int) × Bool} (hBY : ∀ x y, wdR x → wdR y → liN x = true → liN y = true → BY x y = BY y x) : ∀ (k : Nat) (q : Int) (az bz : List (Int × Bool × Int × Int)), rT liN liZ q az = true → rT liN liZ q bz = true → tOk az → tOk bz →
  recL BY (mg k az bz) = recL BY (mg k bz az) ∧ ((∀ x ∈ mg k az bz, (BY x.2.1 x.2.2).2 = true) ↔ ∀ x ∈ mg k bz az, (BY x.2.1 x.2.2).2 = true)
 | 0, _, _, _, _, _, _, _ => by simp [mg]
 | k + 1, q, az, bz, ha, hb, oa, ob => by
  by_cases h : az.length = 0 ∧ bz.length = 0
  ·rw [mg, if_pos h, mg, if_pos h.symm]
   simp
  ·rw [mg_step k az bz h, mg_step k bz az fun q => h q.symm, show min (fv bz) (fv az) = min (fv az) (fv bz) by omega]
   have a1 := tk_rT ha (show min (fv az) (fv bz) ≤ fv az by omega)
   have b1 := tk_rT hb (show min (fv az) (fv bz) ≤ fv bz by omega)
   obtain ⟨ih1, ih2⟩ := mg_swap hBY k (min (fv az) (fv bz)) _ _ a1.1 b1.1 (tk_wd oa (min (fv az) (fv bz))).2 (tk_wd ob (min (fv az) (fv bz))).2
   have hc := hBY _ _ (tk_wd oa (min (fv az) (fv bz))).1 (tk_wd ob (min (fv az) (fv bz))).1 a1.2 b1.2
   constructor
   ·unfold recL
    rw [hc, ih1]
   ·simp only [List.forall_mem_cons, ih2, hc]
theorem addP_comm {A B : Frm} (hA : fOk A) (hB : fOk B) : addP A B = addP B A := by
 unfold addP recP
 by_cases hg : (frB A && frB B) = true
 ·have hg' : (frB B && frB A) = true := by rw [Bool.and_comm]; exact hg
  have hh := hg
  simp only [Bool.and_eq_true] at hh
  obtain ⟨_, na, _, ra⟩ := frB_is hh.1
  obtain ⟨_, nb, _, rb⟩ := frB_is hh.2
  have hs : ∀ x y, wdR x → wdR y → liN x = true → liN y = true → sumP x y = sumP y x := fun x y h1 h2 h3 h4 => sumP_comm h1 h2 h3 h4
  obtain ⟨e1, e2⟩ := mg_swap hs (A.2.2.length + B.2.2.length) (-1) _ _ ra rb hA.2.1 hB.2.1
  have e3 := sumP_comm hA.1 hB.1 na nb
  have hk : B.2.2.length + A.2.2.length = A.2.2.length + B.2.2.length := Nat.add_comm _ _
  have hiff : RecOk sumP A.2.1 B.2.1 A.2.2 B.2.2 ↔ RecOk sumP B.2.1 A.2.1 B.2.2 A.2.2 := by
   unfold RecOk
   rw [hk, e3, e1, e2]
  by_cases hr : RecOk sumP A.2.1 B.2.1 A.2.2 B.2.2
  ·rw [if_pos ⟨hg, hr⟩, if_pos ⟨hg', hiff.1 hr⟩, hk, e3, e1]
  ·rw [if_neg (fun q => hr q.2), if_neg (fun q => hr (hiff.2 q.2))]
 ·have hg' : ¬ (frB B && frB A) = true := by rw [Bool.and_comm]; exact hg
  rw [if_neg fun q => hg q.1, if_neg fun q => hg' q.1]
theorem sumT_none (s : Bool) (m : Int) (b c : Bool) (u v i j : Nat) (L : Int) (hb : b ≠ c) (h : u * 2 ^ i = v * 2 ^ j) : sumT s m b u (L + i) c v (L + j) = sgnd s (m == 2) 0 := by
 unfold sumT
 rw [if_neg hb, if_pos]
 have e1 : ((L + (i : Int)) - min (L + (i : Int)) (L + (j : Int))).toNat = i - min i j := by omega
 have e2 : ((L + (j : Int)) - min (L + (i : Int)) (L + (j : Int))).toNat = j - min i j := by omega
 rw [e1, e2]
 have p1 : 2 ^ i = 2 ^ (i - min i j) * 2 ^ (min i j) := by rw [← Nat.pow_add]; congr 1; omega
 have p2 : 2 ^ j = 2 ^ (j - min i j) * 2 ^ (min i j) := by rw [← Nat.pow_add]; congr 1; omega
 rw [p1, p2, ← Nat.mul_assoc, ← Nat.mul_assoc] at h
 exact Nat.eq_of_mul_eq_mul_right (Nat.two_pow_pos _) h
theorem aR_self {m r : Int} (h1 : -fI false < r) (h2 : r < fI false) : aR m r (-r) = 0 := by
 obtain ⟨b, eb, _, hb⟩ := mk_at false r
 obtain ⟨c, ec, _, hc⟩ := mk_at false (-r)
 have hz : ((r.natAbs : Nat) : Int) < fI false := by omega
 rw [show (-r).natAbs = r.natAbs by omega] at ec
 unfold aR
 rw [eb, ec]
 obtain ⟨a1, a2⟩ := made_fin false b _ hz
 obtain ⟨b1, b2⟩ := made_fin false c _ hz
 obtain ⟨i, pi, vi, _⟩ := parts_val false b _ hz
 obtain ⟨j, pj, vj, _⟩ := parts_val false c _ hz
 unfold addF
 rw [a1, b1, a2, b2]
 simp only [Bool.or_self, Bool.false_eq_true, if_false, Bool.false_and]
 rw [self_sgn false b _ hz, self_sgn false c _ hz, pi, pj]
 by_cases hr : r = 0
 ·subst hr
  have v0 : val false (Int.natAbs 0) = 0 := by simp [val]
  rw [v0] at vi vj
  have u0 : (whl false (sgnd false b (Int.natAbs 0 : Nat))).toNat = 0 := by
   rcases Nat.mul_eq_zero.1 vi.symm with h | h
   ·exact h
   ·exact absurd h (Nat.ne_of_gt (Nat.two_pow_pos _))
  have u1 : (whl false (sgnd false c (Int.natAbs 0 : Nat))).toNat = 0 := by
   rcases Nat.mul_eq_zero.1 vj.symm with h | h
   ·exact h
   ·exact absurd h (Nat.ne_of_gt (Nat.two_pow_pos _))
  rw [u0, u1]
  have hbc : b = c := by rw [hb, hc]; rfl
  unfold sumT
  rw [if_pos hbc]
  simp only [Nat.zero_mul, Nat.add_zero]
  rw [rnd_zero, hb]
  exact res_rnk (made_res false false 0 (Int.le_refl _) (fI_pos false))
 ·have hbc : b ≠ c := by
   rw [hb, hc]
   by_cases hn : r < 0
   ·simp [hn]; omega
   ·simp [hn]; omega
  rw [sumT_none false m b c _ _ i j (fL false) hbc (vi.symm.trans vj)]
  have := res_rnk (made_res false (m == 2) 0 (Int.le_refl _) (fI_pos false))
  rw [this]
  split <;> rfl
theorem rnk_0 : rnk false 0 = 0 := mk_rnk (s := false) (r := 0) (by have := fI_pos false; omega) (by have := fI_pos false; omega)
theorem has_zero {l h : Int} (l1 : -fI false < l) (l2 : l ≤ 0) (h1 : 0 ≤ h) (h2 : h < fI false) : hRF false false (mk false l) (mk false h) 0 = true := by
 have f0 : finF false 0 = true := fin_of_mk (r := 0) (by have := fI_pos false; omega) (by have := fI_two false; omega)
 have n1 : Num false (mk false l) := num_fin (fin_of_mk l1 (by have := fI_two false; omega))
 have n2 : Num false (mk false h) := num_fin (fin_of_mk (by have := fI_two false; omega) h2)
 unfold hRF
 rw [f0, lessN (num_0 false) n1, lessN n2 (num_0 false), rnk_0, mk_rnk (by omega) (by have := fI_two false; omega), mk_rnk (by have := fI_two false; omega) (by omega)]
 simp
 omega
theorem sub_self_has {A : Frm} (hA : fOk A) (h : (subP A A).1 = false) : hRF false (subP A A).2.1.1 (subP A A).2.1.2.1 (subP A A).2.1.2.2 0 = true := by
 have hw : ∀ {F : Frm}, F = whF → F.1 = true := fun e => by rw [e]; rfl
 unfold subP addP at h ⊢
 unfold recP at h ⊢
 by_cases hc : (frB A && frB (negP A)) = true ∧ RecOk sumP A.2.1 (negP A).2.1 A.2.2 (negP A).2.2
 ·rw [if_pos hc]
  have hg := hc.1
  simp only [Bool.and_eq_true] at hg
  obtain ⟨_, na, _, ra⟩ := frB_is hg.1
  have hn : (negP A).2.1 = trnP A.2.1 := by
   have h2 := hg.2
   unfold negP recP at h2 ⊢
   split
   ·rfl
   ·rename_i q
    rw [if_neg q] at h2
    rw [show frB whF = false by simp [frB, whF]] at h2
    cases h2
  have hok := hc.2.1
  rw [hn] at hok ⊢
  obtain ⟨a, b, a1, ab, b1, e⟩ := right_is hA.1 na
  rw [e, trnP_mk a1 ab b1, sumP_mk a1 ab b1 (by omega) (by omega) (by omega)] at hok ⊢
  split at hok
  ·rename_i hh
   rw [if_pos hh]
   have e1 : aR 2 a (-a) = 0 := aR_self a1 (by omega)
   have e2 : aR 1 a (-a) = 0 := aR_self a1 (by omega)
   exact has_zero hh.1 (by unfold loR; omega) (by unfold hiR; omega) hh.2.2
  ·cases hok
 ·rw [if_neg hc] at h
  exact absurd h (by simp [whF])
end Go.Proofs.YteafnkimcidkhaaGreat



namespace Go.Proofs.YteafnkimcidkhaaGreat
open Go.RowKit
set_option linter.unusedVariables false
set_option linter.unusedSimpArgs false
end Go.Proofs.YteafnkimcidkhaaGreat


namespace Go.Proofs.YteafnkimcidkhaaGreat
open Go.RowKit
set_option linter.unusedVariables false
set_option linter.unusedSimpArgs false
end Go.Proofs.YteafnkimcidkhaaGreat


