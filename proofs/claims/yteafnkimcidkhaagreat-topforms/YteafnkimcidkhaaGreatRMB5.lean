/- Texts of the proof, put together. -/
import Derived.Test.YteafnkimcidkhaaGreatRMB4
namespace Go.Proofs.YteafnkimcidkhaaGreat
open Go.RowKit
set_option linter.unusedVariables false

structure RootTo (A k r : Nat) : Prop where
  mul : r % 2 ^ k = 0
  room : r + 2 ^ k ≤ 18446744073709551616
  lo : r * r ≤ A
  hi : A < (r + 2 ^ k) * (r + 2 ^ k)
theorem RootTo.bit {A k r : Nat} (h : RootTo A (k + 1) r) : (r ||| 2 ^ k) = r + 2 ^ k ∧ r + 2 ^ k < 18446744073709551616 ∧ r % 2 ^ k = 0 := by
  have m := h.mul
  have p := pow_pos' k
  have ro := h.room
  rw [Nat.pow_succ] at m ro
  have d : r % 2 ^ k = 0 := by
    have := Nat.mod_mul_right_mod r (2 ^ k) 2
    rw [m] at this
    simpa using this.symm
  refine ⟨?_, by omega, d⟩
  have e : r = 2 ^ (k + 1) * (r / 2 ^ (k + 1)) := by
    have := Nat.div_add_mod r (2 ^ (k + 1))
    rw [h.mul] at this; omega
  rw [e]
  exact (Nat.two_pow_add_eq_or_of_lt (by rw [Nat.pow_succ]; omega) _).symm
theorem RootTo.take {A k r : Nat} (h : RootTo A (k + 1) r) (c : (r + 2 ^ k) * (r + 2 ^ k) ≤ A) : RootTo A k (r + 2 ^ k) := by
  obtain ⟨_, _, d⟩ := h.bit
  have ro := h.room
  have hi := h.hi
  have e : r + 2 ^ (k + 1) = r + 2 ^ k + 2 ^ k := by rw [Nat.pow_succ]; omega
  rw [e] at ro hi
  exact ⟨by rw [Nat.add_mod_right]; exact d, ro, c, hi⟩
theorem RootTo.leave {A k r : Nat} (h : RootTo A (k + 1) r) (c : A < (r + 2 ^ k) * (r + 2 ^ k)) : RootTo A k r := by
  obtain ⟨_, l, d⟩ := h.bit
  exact ⟨d, by omega, h.lo, c⟩
theorem RootTo.fin {A r : Nat} (h : RootTo A 0 r) : r * r ≤ A ∧ A - r * r ≤ 2 * r := by
  have l := h.lo
  have hi := h.hi
  rw [Nat.pow_zero, Nat.add_mul, Nat.mul_add, Nat.one_mul, Nat.mul_one] at hi
  omega
theorem OneMem.drew {n : Nat} {ah al : Int} {W : World} (h : OneMem n ah al W) : OneMem n ah al W.drew := ⟨h.s0, h.s1, h.c0, h.c1, h.e0, h.e1, h.f0, h.f1⟩
theorem OneMem.alloc {n : Nat} {ah al : Int} {W : World} (h : OneMem n ah al W) (o : Obj) : OneMem n ah al (W.alloc o) :=
  h.below ((Below.refl _ _).alloc (Nat.le_refl _) o)
end Go.Proofs.YteafnkimcidkhaaGreat
namespace Go.Proofs.YteafnkimcidkhaaGreat
open Go.RowKit
set_option linter.unusedVariables false

structure DivMem (n q o : Nat) (ah al rh rl : Int) (A : Nat) (f : Nat → Bool) (w : World) : Prop where
  one : OneMem n ah al w
  rq : RowB w q 128 A.testBit
  ro : RowB w o 128 f
  fo : RowF w o 128
  g0 : w.cell? ⟨o + 1, 0, none⟩ = some (.int .u64 rh)
  g1 : w.cell? ⟨o + 1, 1, none⟩ = some (.int .u64 rl)
  k0 : w.frozen? ⟨o + 1, 0, none⟩ = false
  k1 : w.frozen? ⟨o + 1, 1, none⟩ = false
  nq : n + 1 < q
  qo : q < o
  sz : o + 1 < w.heap.size
theorem DivMem.below {n q o : Nat} {ah al rh rl : Int} {A : Nat} {f : Nat → Bool} {W w1 : World} (h : DivMem n q o ah al rh rl A f W) (hb : Below W.heap.size W w1) : DivMem n q o ah al rh rl A f w1 := by
  obtain ⟨hc, hf⟩ := bcell hb
  have hs := hb.size
  have sz := h.sz; have qo := h.qo
  exact ⟨h.one.below hb, h.rq.below hb (by omega), h.ro.below hb (by omega), h.fo.below hb (by omega), cell_on hb h.g0, cell_on hb h.g1, by rw [hf _ _ sz]; exact h.k0, by rw [hf _ _ sz]; exact h.k1, h.nq, h.qo, by omega⟩
theorem DivMem.set {n q o : Nat} {ah al rh rl : Int} {A : Nat} {f : Nat → Bool} {W : World} (h : DivMem n q o ah al rh rl A f W) (x y : Int) : DivMem n q o ah al x y A f ((W.setCell ⟨o + 1, 0, none⟩ (.int .u64 x)).setCell ⟨o + 1, 1, none⟩ (.int .u64 y)) := by
  have nq := h.nq; have qo := h.qo
  have g0 := h.g0; have g1 := h.g1; have k0 := h.k0; have k1 := h.k1
  exact ⟨(h.one.far _ _ (by show o + 1 ≠ _; omega) (by show o + 1 ≠ _; omega)).far _ _ (by show o + 1 ≠ _; omega) (by show o + 1 ≠ _; omega), (h.rq.far _ _ (by show o + 1 ≠ _; omega)).far _ _ (by show o + 1 ≠ _; omega), (h.ro.far _ _ (by show o + 1 ≠ _; omega)).far _ _ (by show o + 1 ≠ _; omega), (h.fo.set _ _).set _ _, by simp [go_sem, *], by simp [go_sem, *], by simp [go_sem, *], by simp [go_sem, *], nq, qo, by simpa using h.sz⟩
theorem DivMem.bit {n q o : Nat} {ah al rh rl : Int} {A : Nat} {f : Nat → Bool} {W : World} (h : DivMem n q o ah al rh rl A f W) (k : Nat) (hk : k < 128) (v : Bool) : DivMem n q o ah al rh rl A (fun i => if i = k then v else f i) (W.setCell ⟨o, k, none⟩ (.bool v)) := by
  have nq := h.nq; have qo := h.qo
  have g0 := h.g0; have g1 := h.g1; have k0 := h.k0; have k1 := h.k1
  exact ⟨h.one.far _ _ (by show o ≠ _; omega) (by show o ≠ _; omega), h.rq.far _ _ (by show o ≠ _; omega), h.ro.set k v hk, h.fo.set _ _, by simp [go_sem, *], by simp [go_sem, *], by simp [go_sem, *], by simp [go_sem, *], nq, qo, by simpa using h.sz⟩
theorem DivMem.ext {n q o : Nat} {ah al rh rl : Int} {A : Nat} {f g : Nat → Bool} {W : World} (h : DivMem n q o ah al rh rl A f W) (e : ∀ i, i < 128 → f i = g i) : DivMem n q o ah al rh rl A g W :=
  ⟨h.one, h.rq, h.ro.ext e, h.fo, h.g0, h.g1, h.k0, h.k1, h.nq, h.qo, h.sz⟩

end Go.Proofs.YteafnkimcidkhaaGreat
namespace Go.Proofs.YteafnkimcidkhaaGreat
open Go.RowKit
set_option linter.unusedVariables false
set_option linter.unusedSimpArgs false
structure QMem (q o nl T : Nat) (rh rl dl : Int) (X : Nat) (f : Nat → Bool) (w : World) : Prop where
  rq : RowB w q nl (fun i => X.testBit i)
  ro : RowB w o T f
  fo : RowF w o T
  g0 : w.cell? ⟨o + 1, 0, none⟩ = some (.int .u64 rh)
  g1 : w.cell? ⟨o + 1, 1, none⟩ = some (.int .u64 rl)
  k0 : w.frozen? ⟨o + 1, 0, none⟩ = false
  k1 : w.frozen? ⟨o + 1, 1, none⟩ = false
  d0 : w.cell? ⟨o + 2, 0, none⟩ = some (.int .u64 0)
  d1 : w.cell? ⟨o + 2, 1, none⟩ = some (.int .u64 dl)
  qo : q < o
  sz : o + 2 < w.heap.size
theorem QMem.below {q o nl T : Nat} {rh rl dl : Int} {X : Nat} {f : Nat → Bool} {W w1 : World} (h : QMem q o nl T rh rl dl X f W) (hb : Below W.heap.size W w1) : QMem q o nl T rh rl dl X f w1 := by
  obtain ⟨hc, hf⟩ := bcell hb
  have hs := hb.size
  have sz := h.sz; have qo := h.qo
  exact ⟨h.rq.below hb (by omega), h.ro.below hb (by omega), h.fo.below hb (by omega), cell_on hb h.g0, cell_on hb h.g1, by rw [hf _ _ (by omega)]; exact h.k0, by rw [hf _ _ (by omega)]; exact h.k1, cell_on hb h.d0, cell_on hb h.d1, h.qo, by omega⟩
theorem QMem.set {q o nl T : Nat} {rh rl dl : Int} {X : Nat} {f : Nat → Bool} {W : World} (h : QMem q o nl T rh rl dl X f W) (x y : Int) : QMem q o nl T x y dl X f ((W.setCell ⟨o + 1, 0, none⟩ (.int .u64 x)).setCell ⟨o + 1, 1, none⟩ (.int .u64 y)) := by
  have qo := h.qo
  have g0 := h.g0; have g1 := h.g1; have k0 := h.k0; have k1 := h.k1; have d0 := h.d0; have d1 := h.d1
  exact ⟨(h.rq.far _ _ (by show o + 1 ≠ _; omega)).far _ _ (by show o + 1 ≠ _; omega), (h.ro.far _ _ (by show o + 1 ≠ _; omega)).far _ _ (by show o + 1 ≠ _; omega), (h.fo.set _ _).set _ _, by simp [go_sem, *], by simp [go_sem, *], by simp [go_sem, *], by simp [go_sem, *], by simp [go_sem, *], by simp [go_sem, *], qo, by simpa using h.sz⟩
theorem QMem.bit {q o nl T : Nat} {rh rl dl : Int} {X : Nat} {f : Nat → Bool} {W : World} (h : QMem q o nl T rh rl dl X f W) (k : Nat) (hk : k < T) (v : Bool) : QMem q o nl T rh rl dl X (fun i => if i = k then v else f i) (W.setCell ⟨o, k, none⟩ (.bool v)) := by
  have qo := h.qo
  have g0 := h.g0; have g1 := h.g1; have k0 := h.k0; have k1 := h.k1; have d0 := h.d0; have d1 := h.d1
  exact ⟨h.rq.far _ _ (by show o ≠ _; omega), h.ro.set k v hk, h.fo.set _ _, by simp [go_sem, *], by simp [go_sem, *], by simp [go_sem, *], by simp [go_sem, *], by simp [go_sem, *], by simp [go_sem, *], qo, by simpa using h.sz⟩
end Go.Proofs.YteafnkimcidkhaaGreat
namespace Go.Proofs.YteafnkimcidkhaaGreat
open Go.RowKit
set_option linter.unusedVariables false
set_option linter.unusedSimpArgs false
end Go.Proofs.YteafnkimcidkhaaGreat
namespace Go.Proofs.YteafnkimcidkhaaGreat
open Go.RowKit
set_option linter.unusedVariables false
set_option linter.unusedSimpArgs false
theorem kinds4 (k : Int) : ((k == 0 || k == 5) = true ∧ (k == 4) = false ∧ (k == 1) = false) ∨ ((k == 0 || k == 5) = false ∧ (k == 4) = true ∧ (k == 1) = false) ∨ ((k == 0 || k == 5) = false ∧ (k == 4) = false ∧ (k == 1) = true) ∨ ((k == 0 || k == 5) = false ∧ (k == 4) = false ∧ (k == 1) = false) := by
  by_cases c1 : k = 0
  · subst c1; decide
  · by_cases c2 : k = 5
    · subst c2; decide
    · by_cases c3 : k = 4
      · subst c3; decide
      · by_cases c4 : k = 1
        · subst c4; decide
        · simp [c1, c2, c3, c4]
theorem wide_not {s : Bool} {a : Int} (h : (cls s a == 0 || cls s a == 5) = false) : wideB s a = false := by
  cases c : wideB s a
  · rfl
  · exfalso
    have : cls s a = 0 := by unfold cls; rw [c]; rfl
    rw [this] at h
    exact absurd h (by decide)
theorem fin_word {s : Bool} {u p : Int} (h : Fin s u p) : Word u ∧ u < 9007199254740992 ∧ -1074 ≤ p ∧ p ≤ 2000 := by
  obtain ⟨a, b, c, d, e⟩ := h
  cases s
  · have b' : u < 9007199254740992 := b
    have c' : -1074 ≤ p := c
    exact ⟨⟨a, by omega⟩, b', c', d⟩
  · have b' : u < 16777216 := b
    have c' : -149 ≤ p := c
    exact ⟨⟨a, by omega⟩, by omega, by omega, d⟩
set_option maxRecDepth 20000 in
set_option maxHeartbeats 6400000 in
theorem rmulF_any (s : Bool) (m a b : Int) (h1 : Word a) (h2 : Word b) (w : World) :
    Calls Tryz.prog 58 #[.int .i64 (fb s), .int .i64 m, .int .u64 a, .int .u64 b] w fun r w' => r = .returned (.int .u64 (mulF s m a b)) ∧ Below w.heap.size w w' := by
  have hb1 := rbelow_any s a
  have hb2 := rbelow_any s b
  have hc1 := rclass_any s a h1
  have hc2 := rclass_any s b h2
  have hn1 := risNan_any s a h1
  have hn2 := risNan_any s b h2
  have hi1 := risInf_any s a h1
  have hi2 := risInf_any s b h2
  have hnan := rnan_any s
  have hinf := rinf_any s (sgn s a != sgn s b)
  have hrd := fun (v : Value) (n A : Nat) => rounded_any s m (sgn s a != sgn s b) v n A
  have hv1 := fun h => rvalue_any s a h1 (wide_not h)
  have hv2 := fun h => rvalue_any s b h2 (wide_not h)
  have f1 := fin_of s a h1
  have f2 := fin_of s b h2
  have K1 := kinds4 (cls s a)
  have K2 := kinds4 (cls s b)
  unfold mulF
  generalize hN1 : (cls s a == 0 || cls s a == 5) = N1 at *
  generalize hN2 : (cls s b == 0 || cls s b == 5) = N2 at *
  generalize hI1 : (cls s a == 4) = I1 at *
  generalize hI2 : (cls s b == 4) = I2 at *
  generalize hZ1 : (cls s a == 1) = Z1 at *
  generalize hZ2 : (cls s b == 1) = Z2 at *
  generalize cls s a = c1 at *
  generalize cls s b = c2 at *
  clear hN1 hN2 hI1 hI2
  generalize fb s = f at *
  generalize sgn s a = g1 at *
  generalize sgn s b = g2 at *
  generalize fNan s = Q at *
  generalize hV : sgnd s (g1 != g2) (fI s) = VI at *
  clear hV
  rcases K1 with ⟨rfl, rfl, rfl⟩ | ⟨rfl, rfl, rfl⟩ | ⟨rfl, rfl, rfl⟩ | ⟨rfl, rfl, rfl⟩ <;> rcases K2 with ⟨rfl, rfl, rfl⟩ | ⟨rfl, rfl, rfl⟩ | ⟨rfl, rfl, rfl⟩ | ⟨rfl, rfl, rfl⟩
  all_goals
    first
    | (have F1 := fin_word (f1 rfl rfl).1
       have F2 := fin_word (f2 rfl rfl).1
       have v1 := hv1 rfl
       have v2 := hv2 rfl
       clear hv1 hv2 f1 f2 hnan hinf
       generalize whl s a = u1 at *
       generalize whl s b = u2 at *
       generalize pwr s a = p1 at *
       generalize pwr s b = p2 at *
       obtain ⟨a1, a2, a3, a4⟩ := F1
       obtain ⟨d1, d2, d3, d4⟩ := F2
       have hmu := rmul_any u1 u2 a1 d1
       have hbits := fun (h l : Int) (wh : Word h) (wl : Word l) => bits_any h l wh wl
       go_enter Tryz.func58, Tryz.ntmps58
       go_wp2_with (first
         | (go_at_call_of 86 a; refine (hb1 _).mono ?_; rintro r w1 ⟨rfl, hw⟩; rw [hw]; clear hw w1)
         | (go_at_call_of 86 b; refine (hb2 _).mono ?_; rintro r w1 ⟨rfl, hw⟩; rw [hw]; clear hw w1)
         | (go_at_call_of 85 a; refine (hc1 _).mono ?_; rintro r w1 ⟨rfl, n1, rfl⟩)
         | (go_at_call_of 85 b; refine (hc2 _).mono ?_; rintro r w1 ⟨rfl, n2, rfl⟩)
         | (go_at_call_of 87 a; refine (hn1 _).mono ?_; rintro r w1 ⟨rfl, n3, rfl⟩)
         | (go_at_call_of 87 b; refine (hn2 _).mono ?_; rintro r w1 ⟨rfl, n4, rfl⟩)
         | (go_at_call_of 88 a; refine (hi1 _).mono ?_; rintro r w1 ⟨rfl, n5, rfl⟩)
         | (go_at_call_of 88 b; refine (hi2 _).mono ?_; rintro r w1 ⟨rfl, n6, rfl⟩)
         | (go_at_call_of 90 a; refine (v1 _).mono ?_; rintro r w1 ⟨rfl, rfl⟩)
         | (go_at_call_of 90 b; refine (v2 _).mono ?_; rintro r w1 ⟨rfl, rfl⟩)
         | (go_at_call 117; refine (hmu _).mono ?_; rintro r w2 ⟨xh, xl, rfl, wh, wl, hm, hbe⟩)
         | (go_at_call 118; refine (hbits _ _ wh wl _).mono ?_; rintro r w3 ⟨bb, rfl, hs1, hs2, row, fre, hbe2⟩; have bv : BitV w3 (.slice (some ⟨bb, 0, none⟩) 128 128) 128 (N xh xl) := ⟨N_lt wh wl, Or.inr ⟨bb, 128, rfl, hs2, row⟩⟩)
         | (go_at_call 93; refine (hrd _ _ _ (by decide) _ (by omega) (by omega) _ bv).mono ?_; rintro r w4 ⟨rfl, kk, rfl⟩))
       go_ret
       refine ⟨u64r_eq ?_, ?_⟩
       · have e : N xh xl = u1.toNat * u2.toNat := nn_mul a1 d1 wh wl hm.out
         rw [e]
       · have q1 : Below w.heap.size w w2 := (below_drewN (Below.refl _ _) _).trans hbe
         exact below_drewN ((below_new q1 _).trans (hbe2.mono (below_new q1 _).size)) _)
    | (clear hrd hv1 hv2 f1 f2
       go_enter Tryz.func58, Tryz.ntmps58
       go_wp2_with (first
         | (go_at_call_of 86 a; refine (hb1 _).mono ?_; rintro r w1 ⟨rfl, hw⟩; rw [hw]; clear hw w1)
         | (go_at_call_of 86 b; refine (hb2 _).mono ?_; rintro r w1 ⟨rfl, hw⟩; rw [hw]; clear hw w1)
         | (go_at_call_of 85 a; refine (hc1 _).mono ?_; rintro r w1 ⟨rfl, n1, rfl⟩)
         | (go_at_call_of 85 b; refine (hc2 _).mono ?_; rintro r w1 ⟨rfl, n2, rfl⟩)
         | (go_at_call_of 87 a; refine (hn1 _).mono ?_; rintro r w1 ⟨rfl, n3, rfl⟩)
         | (go_at_call_of 87 b; refine (hn2 _).mono ?_; rintro r w1 ⟨rfl, n4, rfl⟩)
         | (go_at_call_of 88 a; refine (hi1 _).mono ?_; rintro r w1 ⟨rfl, n5, rfl⟩)
         | (go_at_call_of 88 b; refine (hi2 _).mono ?_; rintro r w1 ⟨rfl, n6, rfl⟩)
         | (go_at_call 89; refine (hnan _).mono ?_; rintro r w1 ⟨rfl, rfl⟩)
         | (go_at_call 116; refine (hinf _).mono ?_; rintro r w1 ⟨rfl, n7, rfl⟩))
       go_ret
       exact ⟨rfl, below_drewN (Below.refl _ _) _⟩)
end Go.Proofs.YteafnkimcidkhaaGreat
namespace Go.Proofs.YteafnkimcidkhaaGreat
open Go.RowKit
set_option linter.unusedVariables false
set_option linter.unusedSimpArgs false
theorem made_bl (k : Nat) : (madeCells #[.bool false] k).toList = Bl k 0 := by
  apply List.ext_getElem?
  intro i
  by_cases c : i < k
  · rw [Bl_get _ _ _ c]
    simp [madeCells, c, Nat.mod_one]
  · rw [List.getElem?_eq_none (by simp [madeCells]; omega), List.getElem?_eq_none (by rw [Bl_len]; omega)]
theorem own_rowP {w : World} {base n A q cap : Nat} (h : w.ownsRow base 4 1 (.slice (some ⟨q, 0, none⟩) n cap) n (Bl n A)) : q < w.heap.size ∧ RowB w q n (fun i => A.testBit i) := by
  refine ⟨?_, fun i hi => by rw [h.cellAt i (by omega), Bl_get _ _ _ hi]⟩
  rcases h.2 with ⟨hn, _⟩ | ⟨g, cap', cur, e, _, hg, _⟩
  · exact absurd hn (by simp)
  · have : q = g := by simp at e; exact e.1
    rw [this]
    exact lt_of_block hg
set_option maxHeartbeats 1600000 in
theorem rup_any (v : Value) (n A k : Nat) (hn : n ≤ 100) (hk : k ≤ 5000) (w : World) (h : BitV w v n A) :
    Calls Tryz.prog 91 #[v, .int .i64 (k : Int)] w fun e w' => ∃ g cap, e = .returned (.slice (some ⟨g, 0, none⟩) (k + n) cap) ∧ g < w'.heap.size ∧ RowB w' g (k + n) (fun i => (A * 2 ^ k).testBit i) ∧ Below w.heap.size w w' := by
  obtain ⟨i0, hi, hz0, hz1, hz2⟩ := info_parts Tryz.infoB
  obtain ⟨hA, h⟩ := h
  have hmk := make_bools k (by omega)
  have sz := fresh_size w k
  have own0 : (freshW w k).ownsRow w.heap.size 4 1 (.slice (some ⟨w.heap.size, 0, none⟩) k k) k (Bl k 0) := by
    rw [← made_bl]
    exact World.ownsRow_lit w _ k (Nat.le_refl _) (by unfold maxLen; omega) (by simp [madeCells])
  have L0 := fresh_below w k
  rcases h with ⟨rfl, rfl⟩ | ⟨b, cap, rfl, hb, row⟩
  · have A0 : A = 0 := by rw [Nat.pow_zero] at hA; omega
    subst A0
    go_enter Tryz.func91, Tryz.ntmps91
    go_wp2_with (at_builtin; refine wpList_append_own_none _ rfl _ _ 116 rfl w.heap.size 4 i0 1 Tryz.underlying116 hi _ _ _ rfl own0 rfl ?_)
    go_ret
    obtain ⟨q1, q2⟩ := own_rowP own0
    exact ⟨_, _, rfl, q1, by rw [Nat.zero_mul]; exact q2, L0⟩
  · have row2 := row_bl (row.below L0 hb)
    have l1 : Hid (k + n ≤ maxLen) := by show k + n ≤ maxLen; unfold maxLen; omega
    have l2 : Hid ((k + n) * 1 ≤ 140737488355328) := by show (k + n) * 1 ≤ 140737488355328; omega
    have l3 : (Bl n A).length = n * 1 := by rw [Bl_len, Nat.mul_one]
    have l4 : w.heap.size ≤ (freshW w k).heap.size := by omega
    go_enter Tryz.func91, Tryz.ntmps91
    go_wp2_with (at_builtin; refine wpList_append_own _ rfl _ _ 116 rfl w.heap.size 4 i0 (.bool false) 1 1 Tryz.underlying116 hi hz0 hz1 hz2 rfl (by decide) _ _ _ rfl own0 ⟨b, 0, none⟩ n cap (Bl n A) rfl l3 row2 (Bl_one _ _) l1.out l2.out l4 ?_; intro v' w2 hown' hgrow hnil; have HN : Hid _ := hnil; clear hnil)
    go_ret
    rw [Bl_app _ _ _ _ (Nat.two_pow_pos k), Nat.add_zero] at hown'
    rcases id hown'.2 with ⟨hn, _⟩ | ⟨g, cap', cur, rfl, _⟩
    · have hx := (HN.out.1 hn).1
      cases hx
    · obtain ⟨q1, q2⟩ := own_rowP hown'
      exact ⟨_, _, rfl, q1, q2, L0.grown hgrow l4 (own_block own0)⟩
/-! ### Two rows as numbers -/
def cmpR (A B : Nat) : Int := if A < B then -1 else if A = B then 0 else 1
theorem blen_mono_lt {A B : Nat} (h : blen A < blen B) : A < B := by
  have a := lt_blen A
  have B0 : B ≠ 0 := by rintro rfl; rw [blen_zero] at h; omega
  obtain ⟨b1, b2⟩ := blen_le B0
  exact Nat.lt_of_lt_of_le (Nat.lt_of_lt_of_le a (Nat.pow_le_pow_right (by decide) (by omega))) b1
theorem cmp_bit {A B k : Nat} (h : A / 2 ^ (k + 1) = B / 2 ^ (k + 1)) (x : A.testBit k = false) (y : B.testBit k = true) : A < B := by
  rw [bitN, decide_eq_false_iff_not] at x
  rw [bitN, decide_eq_true_iff] at y
  rw [Nat.pow_succ, ← Nat.div_div_eq_div_mul, ← Nat.div_div_eq_div_mul] at h
  have l : A / 2 ^ k < B / 2 ^ k := by omega
  exact Nat.lt_of_div_lt_div l
theorem cmp_eq {A B k : Nat} (h : A / 2 ^ (k + 1) = B / 2 ^ (k + 1)) (x : A.testBit k = B.testBit k) : A / 2 ^ k = B / 2 ^ k := by
  rw [bitN, bitN, decide_eq_decide] at x
  rw [Nat.pow_succ, ← Nat.div_div_eq_div_mul, ← Nat.div_div_eq_div_mul] at h
  omega
set_option maxHeartbeats 1600000 in
theorem rcmpP_any (b1 n1 cap1 A b2 n2 cap2 B : Nat) (hA : A < 2 ^ n1) (hB : B < 2 ^ n2) (h1 : n1 ≤ 10000) (h2 : n2 ≤ 10000) (w : World) (r1 : RowB w b1 n1 (fun i => A.testBit i)) (r2 : RowB w b2 n2 (fun i => B.testBit i)) :
    Calls Tryz.prog 95 #[.slice (some ⟨b1, 0, none⟩) n1 cap1, .slice (some ⟨b2, 0, none⟩) n2 cap2] w fun e w' => e = .returned (.int .i64 (cmpR A B)) ∧ ∃ k, w' = w.drewN k := by
  have hl1 := length_any b1 n1 cap1 A hA (by omega) w r1
  have hl2 := length_any b2 n2 cap2 B hB (by omega) w r2
  have m1 : blen A ≤ n1 := blen_le_of hA
  have m2 : blen B ≤ n2 := blen_le_of hB
  have e1 : Hid (blen A < blen B → cmpR A B = -1) := fun h => by unfold cmpR; rw [if_pos (blen_mono_lt h)]
  have e2 : Hid (blen B < blen A → cmpR A B = 1) := fun h => by
    have := blen_mono_lt h
    unfold cmpR; rw [if_neg (by omega), if_neg (by omega)]
  have e3 : Hid (∀ k, A / 2 ^ (k + 1) = B / 2 ^ (k + 1) → A.testBit k = false → B.testBit k = true → cmpR A B = -1) := fun k h x y => by unfold cmpR; rw [if_pos (cmp_bit h x y)]
  have e4 : Hid (∀ k, A / 2 ^ (k + 1) = B / 2 ^ (k + 1) → A.testBit k = true → B.testBit k = false → cmpR A B = 1) := fun k h x y => by
    have := cmp_bit h.symm y x
    unfold cmpR; rw [if_neg (by omega), if_neg (by omega)]
  have e5 : Hid (A = B → cmpR A B = 0) := fun h => by unfold cmpR; rw [if_neg (by omega), if_pos h]
  have lA := lt_blen A
  have lB := lt_blen B
  generalize cmpR A B = V at *
  generalize hNA : blen A = NA at *
  generalize hNB : blen B = NB at *
  clear hNA hNB hA hB
  have LA : Hid _ := lA
  have LB : Hid _ := lB
  clear lA lB
  rcases Nat.lt_trichotomy NA NB with c | rfl | c
  · have E := e1.out c
    have c' : (NA : Int) < (NB : Int) := by omega
    have c2 : ¬ (NA : Int) = (NB : Int) := by omega
    clear e1 e2 e3 e4 e5 LA LB r1 r2 m1 m2
    subst E
    go_enter Tryz.func95, Tryz.ntmps95
    go_wp2_with (first
      | (go_at_call_of 128 b1; refine hl1.mono ?_; rintro e w1 ⟨rfl, hw⟩; rw [hw]; clear hw w1)
      | (go_at_call_of 128 b2; refine hl2.mono ?_; rintro e w1 ⟨rfl, hw⟩; rw [hw]; clear hw w1))
    go_ret
    exact ⟨rfl, drew_0 _⟩
  · go_enter Tryz.func95, Tryz.ntmps95
    go_wp2_with (first
      | (go_at_call_of 128 b1; refine hl1.mono ?_; rintro e w1 ⟨rfl, hw⟩; rw [hw]; clear hw w1)
      | (go_at_call_of 128 b2; refine hl2.mono ?_; rintro e w1 ⟨rfl, hw⟩; rw [hw]; clear hw w1))
    go_loopw [7] (fun i wr => ∃ k : Nat, k ≤ NA ∧ i = .int .i64 ((k : Int) - 1) ∧ Hid (A / 2 ^ k = B / 2 ^ k) ∧ ∃ d, wr = w.drewN d) (fun i _ => (intOf i + 1).toNat)
    case atStart => exact ⟨NA, Nat.le_refl _, rfl, by show A / 2 ^ NA = B / 2 ^ NA; rw [Nat.div_eq_of_lt LA.out, Nat.div_eq_of_lt LB.out], drew_0 w⟩
    case round =>
      obtain ⟨k, hk, rfl, E, d, hw⟩ := hrel
      have HW : Hid _ := hw
      by_cases hk0 : k = 0
      · subst hk0
        have q := E.out
        rw [Nat.pow_zero, Nat.div_one, Nat.div_one] at q
        have Q := e5.out q
        clear q E e1 e2 e3 e4 e5 LA LB r1 r2 hw
        subst Q
        go_wp2
        go_ret
        exact ⟨rfl, d, HW.out⟩
      · obtain ⟨j, rfl⟩ : ∃ j, k = j + 1 := ⟨k - 1, by omega⟩
        have ej : ((j + 1 : Nat) : Int) - 1 = (j : Int) := by omega
        rw [ej]
        have t1 : (0 : Int) ≤ (j : Int) := by omega
        have t2 : j < n1 := by omega
        have t3 : j < n2 := by omega
        have ga : wr.cell? ⟨b1, j, none⟩ = some (.bool (A.testBit j)) := by rw [hw]; exact r1 j t2
        have gb : wr.cell? ⟨b2, j, none⟩ = some (.bool (B.testBit j)) := by rw [hw]; exact r2 j t3
        clear hw
        have x3 := e3.out j E.out
        have x4 := e4.out j E.out
        have x5 := fun h => cmp_eq (k := j) E.out h
        clear e1 e2 e3 e4 E
        generalize hx : A.testBit j = x at *
        generalize hy : B.testBit j = y at *
        clear hx hy
        cases x <;> cases y
        · have E2 : Hid _ := x5 rfl
          clear x3 x4 x5
          go_wp2_with fail
          go_region
          go_wp2_with fail
          go_roundw
          case rel => exact ⟨j, by omega, by go_num, E2, d + 1, by rw [HW.out]; rfl⟩
          case measure => first | (simp [intOf]; done) | (simp [intOf]; omega)
        · have := x3 rfl rfl
          subst this
          clear x4 x5
          go_wp2_with fail
          go_region
          go_wp2_with fail
          go_ret
          exact ⟨rfl, d + 1, by rw [HW.out]; rfl⟩
        · have := x4 rfl rfl
          subst this
          clear x3 x5
          go_wp2_with fail
          go_region
          go_wp2_with fail
          go_ret
          exact ⟨rfl, d + 1, by rw [HW.out]; rfl⟩
        · have E2 : Hid _ := x5 rfl
          clear x3 x4 x5
          go_wp2_with fail
          go_region
          go_wp2_with fail
          go_roundw
          case rel => exact ⟨j, by omega, by go_num, E2, d + 1, by rw [HW.out]; rfl⟩
          case measure => first | (simp [intOf]; done) | (simp [intOf]; omega)
  · have E := e2.out c
    have c' : ¬ (NA : Int) < (NB : Int) := by omega
    have c2 : ¬ (NA : Int) = (NB : Int) := by omega
    clear e1 e2 e3 e4 e5 LA LB r1 r2 m1 m2
    subst E
    go_enter Tryz.func95, Tryz.ntmps95
    go_wp2_with (first
      | (go_at_call_of 128 b1; refine hl1.mono ?_; rintro e w1 ⟨rfl, hw⟩; rw [hw]; clear hw w1)
      | (go_at_call_of 128 b2; refine hl2.mono ?_; rintro e w1 ⟨rfl, hw⟩; rw [hw]; clear hw w1))
    go_ret
    exact ⟨rfl, drew_0 _⟩
/-! ### Differences -/
def bB (A B k : Nat) : Bool := decide (A % 2 ^ k < B % 2 ^ k)
theorem bB_zero (A B : Nat) : bB A B 0 = false := by unfold bB; rw [Nat.pow_zero, Nat.mod_one, Nat.mod_one]; simp
theorem dif_parts (A B k : Nat) (h : B ≤ A) : (A - B) / 2 ^ k = A / 2 ^ k - B / 2 ^ k - (if bB A B k then 1 else 0) := by
  unfold bB
  have p := pow_pos' k
  have a := Nat.div_add_mod A (2 ^ k)
  have b := Nat.div_add_mod B (2 ^ k)
  have la := Nat.mod_lt A p
  have lb := Nat.mod_lt B p
  have hq : B / 2 ^ k ≤ A / 2 ^ k := Nat.div_le_div_right h
  generalize A % 2 ^ k = x at *
  generalize B % 2 ^ k = y at *
  generalize A / 2 ^ k = q at *
  generalize B / 2 ^ k = r at *
  generalize 2 ^ k = P at *
  obtain ⟨d, rfl⟩ := Nat.exists_eq_add_of_le hq
  rw [Nat.mul_add] at a
  by_cases g : x < y
  · simp only [g, decide_true, if_true]
    have d1 : d ≠ 0 := by
      rintro rfl
      rw [Nat.mul_zero] at a
      omega
    obtain ⟨d', rfl⟩ := Nat.exists_eq_succ_of_ne_zero d1
    have : A - B = (x + P - y) + P * d' := by rw [Nat.mul_succ] at a; omega
    rw [this, Nat.add_mul_div_left _ _ p, Nat.div_eq_of_lt (by omega)]
    omega
  · simp only [g, decide_false, Bool.false_eq_true, if_false]
    have : A - B = (x - y) + P * d := by omega
    rw [this, Nat.add_mul_div_left _ _ p, Nat.div_eq_of_lt (by omega)]
    omega
theorem dif_bit (A B k : Nat) (h : B ≤ A) : (A - B).testBit k = ((A.testBit k ^^ B.testBit k) ^^ bB A B k) := by
  have le : B / 2 ^ k + (if bB A B k then 1 else 0) ≤ A / 2 ^ k := by
    have p := pow_pos' k
    have a := Nat.div_add_mod A (2 ^ k)
    have b := Nat.div_add_mod B (2 ^ k)
    have la := Nat.mod_lt A p
    have lb := Nat.mod_lt B p
    have hq : B / 2 ^ k ≤ A / 2 ^ k := Nat.div_le_div_right h
    unfold bB
    by_cases g : A % 2 ^ k < B % 2 ^ k
    · simp only [g, decide_true, if_true]
      rcases Nat.lt_or_ge (B / 2 ^ k) (A / 2 ^ k) with c | c
      · exact c
      · exfalso
        have : B / 2 ^ k = A / 2 ^ k := by omega
        rw [this] at b
        omega
    · simp only [g, decide_false, Bool.false_eq_true, if_false]
      exact hq
  rw [bitN, bitN, bitN, dif_parts A B k h]
  generalize A / 2 ^ k = q at *
  generalize B / 2 ^ k = r at *
  generalize bB A B k = z at *
  cases z
  · simp only [Bool.false_eq_true, if_false, Nat.add_zero, Nat.sub_zero, Bool.xor_false] at le ⊢
    rcases Nat.mod_two_eq_zero_or_one q with h1 | h1 <;> rcases Nat.mod_two_eq_zero_or_one r with h2 | h2 <;> simp [h1, h2] <;> omega
  · simp only [if_true, Bool.xor_true] at le ⊢
    rcases Nat.mod_two_eq_zero_or_one q with h1 | h1 <;> rcases Nat.mod_two_eq_zero_or_one r with h2 | h2 <;> simp [h1, h2] <;> omega
theorem bB_succ (A B k : Nat) : bB A B (k + 1) = (!A.testBit k && B.testBit k || !(A.testBit k ^^ B.testBit k) && bB A B k) := by
  rw [bitN, bitN]
  unfold bB
  rw [Nat.mod_pow_succ, Nat.mod_pow_succ]
  have p := pow_pos' k
  have la := Nat.mod_lt A p
  have lb := Nat.mod_lt B p
  generalize A % 2 ^ k = x at *
  generalize B % 2 ^ k = y at *
  generalize A / 2 ^ k = q at *
  generalize B / 2 ^ k = r at *
  generalize 2 ^ k = P at *
  rcases Nat.mod_two_eq_zero_or_one q with h1 | h1 <;> rcases Nat.mod_two_eq_zero_or_one r with h2 | h2 <;> simp [h1, h2] <;> omega
theorem bit_past {B n k : Nat} (h : B < 2 ^ n) (hk : n ≤ k) : B.testBit k = false := by
  rw [bitN, Nat.div_eq_of_lt (Nat.lt_of_lt_of_le h (Nat.pow_le_pow_right (by decide) hk))]
  rfl
set_option maxHeartbeats 6400000 in
theorem rminus_any (b1 n1 cap1 A b2 n2 cap2 B : Nat) (hA : A < 2 ^ n1) (hB : B < 2 ^ n2) (h1 : n1 ≤ 10000) (h2 : n2 ≤ 10000) (hAB : B ≤ A) (w : World) (r1 : RowB w b1 n1 (fun i => A.testBit i)) (r2 : RowB w b2 n2 (fun i => B.testBit i)) (z1 : b1 < w.heap.size) (z2 : b2 < w.heap.size) :
    Calls Tryz.prog 97 #[.slice (some ⟨b1, 0, none⟩) n1 cap1, .slice (some ⟨b2, 0, none⟩) n2 cap2] w fun e w' => ∃ v, e = .returned v ∧ BitV w' v n1 (A - B) ∧ Below w.heap.size w w' := by
  have hmk := make_bools n1 (by omega)
  have lS : A - B < 2 ^ n1 := by omega
  have HB : Hid _ := hB
  have LS : Hid _ := lS
  clear hB hA lS
  go_enter Tryz.func97, Tryz.ntmps97
  go_wp2
  go_loopw [6, 7] (fun u i wr => ∃ (k : Nat), k ≤ n1 ∧ i = .int .i64 k ∧ u = .bool (bB A B k) ∧ w.heap.size < wr.heap.size ∧ RowB wr w.heap.size n1 (sumTo (A - B) k) ∧ RowF wr w.heap.size n1 ∧ Below w.heap.size w wr) (fun _ i _ => n1 - (intOf i).toNat)
  case atStart =>
    refine ⟨0, by omega, rfl, by rw [bB_zero], by rw [fresh_size]; omega, ?_, fresh_free _ _, fresh_below _ _⟩
    rw [sumTo_zero]; exact fresh_row _ _
  case round =>
    obtain ⟨k, hk, rfl, rfl, s0, hrow, hfree, hb⟩ := hrel
    by_cases hlt : k < n1
    · have t1 : (k : Int) < (n1 : Int) := by omega
      have ga : wr.cell? ⟨b1, k, none⟩ = some (.bool (A.testBit k)) := by rw [(bcell hb).1 _ _ z1]; exact r1 k hlt
      have go := hrow k (by omega)
      have ho := hfree k (by omega)
      have sb := dif_bit A B k hAB
      have cs := bB_succ A B k
      by_cases hlt2 : k < n2
      · have t2 : (k : Int) < (n2 : Int) := by omega
        have gb : wr.cell? ⟨b2, k, none⟩ = some (.bool (B.testBit k)) := by rw [(bcell hb).1 _ _ z2]; exact r2 k hlt2
        generalize A.testBit k = x at *
        generalize B.testBit k = y at *
        generalize hz : bB A B k = z at *
        have S1 : Hid _ := sb
        have S2 : Hid _ := cs
        clear sb cs hz
        cases x <;> cases y <;> cases z
        all_goals
          go_wp2
          go_roundw
          case rel =>
            refine ⟨k + 1, by omega, by go_num, congrArg Value.bool S2.out.symm, by simpa using s0, ?_, hfree.set _ _, hb.setCell (by simp) _⟩
            rw [← sumTo_succ (A - B) k _ S1.out.symm]
            exact hrow.set k _ (by omega)
          case measure => simp [intOf]; omega
      · have t2 : ¬ (k : Int) < (n2 : Int) := by omega
        rw [bit_past HB.out (by omega)] at sb cs
        generalize A.testBit k = x at *
        generalize hz : bB A B k = z at *
        have S1 : Hid _ := sb
        have S2 : Hid _ := cs
        clear sb cs hz
        cases x <;> cases z
        all_goals
          go_wp2
          go_roundw
          case rel =>
            refine ⟨k + 1, by omega, by go_num, congrArg Value.bool S2.out.symm, by simpa using s0, ?_, hfree.set _ _, hb.setCell (by simp) _⟩
            rw [← sumTo_succ (A - B) k _ S1.out.symm]
            exact hrow.set k _ (by omega)
          case measure => simp [intOf]; omega
    · have : k = n1 := by omega
      subst this
      go_wp2
      go_ret
      refine ⟨_, rfl, ⟨LS.out, Or.inr ⟨_, _, rfl, s0, hrow.ext (fun i hi => sumTo_full _ _ _ hi)⟩⟩, hb⟩
/-! ### Sums -/
theorem lit_cell (w : World) (v : Value) (t : TypeId) : ∀ j u, [v][j]? = some u → (w.alloc (.cells #[v] t)).cell? (Addr.add ⟨w.heap.size, 0, none⟩ j) = some u := by
  intro j u hj
  match j, hj with
  | 0, hj => simp at hj; subst hj; simp [Addr.add]
theorem lit_one (b : Bool) : ∀ u ∈ [Value.bool b], u.oneCell' = true := by intro u hu; simp at hu; subst hu; rfl
theorem sum_done {A B n1 n2 k : Nat} (hA : A < 2 ^ n1) (hB : B < 2 ^ n2) (h1 : n1 ≤ k) (h2 : n2 ≤ k) (c : cB A B 0 k = false) : A + B < 2 ^ k := by
  unfold cB at c
  rw [Nat.mod_eq_of_lt (Nat.lt_of_lt_of_le hA (Nat.pow_le_pow_right (by decide) h1)), Nat.mod_eq_of_lt (Nat.lt_of_lt_of_le hB (Nat.pow_le_pow_right (by decide) h2))] at c
  simp at c
  omega
set_option maxHeartbeats 12800000 in
theorem rplus_any (b1 n1 cap1 A b2 n2 cap2 B : Nat) (hA : A < 2 ^ n1) (hB : B < 2 ^ n2) (h1 : n1 ≤ 10000) (h2 : n2 ≤ 10000) (w : World) (r1 : RowB w b1 n1 (fun i => A.testBit i)) (r2 : RowB w b2 n2 (fun i => B.testBit i)) (z1 : b1 < w.heap.size) (z2 : b2 < w.heap.size) :
    Calls Tryz.prog 94 #[.slice (some ⟨b1, 0, none⟩) n1 cap1, .slice (some ⟨b2, 0, none⟩) n2 cap2] w fun e w' => ∃ v, e = .returned v ∧ (∃ n, n ≤ 20001 ∧ BitV w' v n (A + B)) ∧ Below w.heap.size w w' := by
  obtain ⟨i0, hi, hz0, hz1, hz2⟩ := info_parts Tryz.infoB
  have HA : Hid _ := hA
  have HB : Hid _ := hB
  clear hB hA
  go_enter Tryz.func94, Tryz.ntmps94
  go_wp2
  go_loopw [5, 6, 7] (fun v u i wr => ∃ (k : Nat), k ≤ 10001 ∧ (cB A B 0 k = true → k ≤ 10000) ∧ i = .int .i64 k ∧ u = .bool (cB A B 0 k) ∧ wr.ownsRow w.heap.size 4 1 v k (Bl k (A + B)) ∧ Below w.heap.size w wr) (fun _ _ i _ => 10002 - (intOf i).toNat)
  case atStart =>
    exact ⟨0, by omega, fun _ => by omega, rfl, by rw [cB_zero]; rfl, World.ownsRow_nil _ _ _ _, Below.refl _ _⟩
  case round =>
    obtain ⟨k, hk, hck, rfl, rfl, hown, hb⟩ := hrel
    have sb := sum_bit A B 0 k (by decide)
    have cs := cB_succ A B 0 k (by decide)
    rw [Nat.add_zero] at sb
    have HD : Hid (n1 ≤ k → n2 ≤ k → cB A B 0 k = false → A + B < 2 ^ k) := fun a b c => sum_done HA.out HB.out a b c
    have hs := hb.size
    have l1 : k + 1 ≤ maxLen := by unfold maxLen; omega
    have l2 : (k + 1) * 1 ≤ 140737488355328 := by omega
    have l3 : w.heap.size ≤ (wr.alloc (.cells #[.bool false] 4)).heap.size := by simp; omega
    have l4 : w.heap.size ≤ (wr.alloc (.cells #[.bool true] 4)).heap.size := by simp; omega
    by_cases c1 : k < n1 <;> by_cases c2 : k < n2
    · have t1 : (k : Int) < (n1 : Int) := by omega
      have t2 : (k : Int) < (n2 : Int) := by omega
      have ga : wr.cell? ⟨b1, k, none⟩ = some (.bool (A.testBit k)) := by rw [(bcell hb).1 _ _ z1]; exact r1 k c1
      have gb : wr.cell? ⟨b2, k, none⟩ = some (.bool (B.testBit k)) := by rw [(bcell hb).1 _ _ z2]; exact r2 k c2
      have KB : Hid (cB A B 0 (k + 1) = true → k + 1 ≤ 10000) := fun _ => by omega
      generalize A.testBit k = x at *
      generalize B.testBit k = y at *
      generalize hz : cB A B 0 k = z at *
      have S1 : Hid _ := sb
      have S2 : Hid _ := cs
      clear sb cs hz HD hck
      cases x <;> cases y <;> cases z
      all_goals
        go_wp2_with (first
          | (at_builtin; refine wpList_append_own _ rfl _ _ 116 rfl w.heap.size 4 i0 (.bool false) 1 1 Tryz.underlying116 hi hz0 hz1 hz2 rfl (by decide) _ _ _ rfl (hown.alloc _) ⟨wr.heap.size, 0, none⟩ 1 1 [.bool false] rfl rfl (lit_cell _ _ _) (lit_one _) l1 l2 l3 ?_; intro v' w1 hown' hgrow hnil; clear hnil)
          | (at_builtin; refine wpList_append_own _ rfl _ _ 116 rfl w.heap.size 4 i0 (.bool false) 1 1 Tryz.underlying116 hi hz0 hz1 hz2 rfl (by decide) _ _ _ rfl (hown.alloc _) ⟨wr.heap.size, 0, none⟩ 1 1 [.bool true] rfl rfl (lit_cell _ _ _) (lit_one _) l1 l2 l4 ?_; intro v' w1 hown' hgrow hnil; clear hnil)
          | go_in)
        have hown2 : w1.ownsRow w.heap.size 4 1 v' (k + 1) (Bl (k + 1) (A + B)) := by
          rw [← Bl_snoc, S1.out]
          exact hown'
        have hb' := (hb.alloc hb.size _).grown hgrow (by assumption) (own_block hown)
        clear hgrow hown hown'
        go_wp2
        go_roundw
        case rel => exact ⟨k + 1, by omega, KB.out, by go_num, congrArg Value.bool S2.out.symm, hown2, hb'⟩
        case measure => simp [intOf]; omega
    · have t1 : (k : Int) < (n1 : Int) := by omega
      have t2 : ¬ (k : Int) < (n2 : Int) := by omega
      have ga : wr.cell? ⟨b1, k, none⟩ = some (.bool (A.testBit k)) := by rw [(bcell hb).1 _ _ z1]; exact r1 k c1
      have KB : Hid (cB A B 0 (k + 1) = true → k + 1 ≤ 10000) := fun _ => by omega
      rw [bit_past HB.out (by omega)] at sb cs
      generalize A.testBit k = x at *
      generalize hz : cB A B 0 k = z at *
      have S1 : Hid _ := sb
      have S2 : Hid _ := cs
      clear sb cs hz HD hck
      cases x <;> cases z
      all_goals
        go_wp2_with (first
          | (at_builtin; refine wpList_append_own _ rfl _ _ 116 rfl w.heap.size 4 i0 (.bool false) 1 1 Tryz.underlying116 hi hz0 hz1 hz2 rfl (by decide) _ _ _ rfl (hown.alloc _) ⟨wr.heap.size, 0, none⟩ 1 1 [.bool false] rfl rfl (lit_cell _ _ _) (lit_one _) l1 l2 l3 ?_; intro v' w1 hown' hgrow hnil; clear hnil)
          | (at_builtin; refine wpList_append_own _ rfl _ _ 116 rfl w.heap.size 4 i0 (.bool false) 1 1 Tryz.underlying116 hi hz0 hz1 hz2 rfl (by decide) _ _ _ rfl (hown.alloc _) ⟨wr.heap.size, 0, none⟩ 1 1 [.bool true] rfl rfl (lit_cell _ _ _) (lit_one _) l1 l2 l4 ?_; intro v' w1 hown' hgrow hnil; clear hnil)
          | go_in)
        have hown2 : w1.ownsRow w.heap.size 4 1 v' (k + 1) (Bl (k + 1) (A + B)) := by
          rw [← Bl_snoc, S1.out]
          exact hown'
        have hb' := (hb.alloc hb.size _).grown hgrow (by assumption) (own_block hown)
        clear hgrow hown hown'
        go_wp2
        go_roundw
        case rel => exact ⟨k + 1, by omega, KB.out, by go_num, congrArg Value.bool S2.out.symm, hown2, hb'⟩
        case measure => simp [intOf]; omega
    · have t1 : ¬ (k : Int) < (n1 : Int) := by omega
      have t2 : (k : Int) < (n2 : Int) := by omega
      have gb : wr.cell? ⟨b2, k, none⟩ = some (.bool (B.testBit k)) := by rw [(bcell hb).1 _ _ z2]; exact r2 k c2
      have KB : Hid (cB A B 0 (k + 1) = true → k + 1 ≤ 10000) := fun _ => by omega
      rw [bit_past HA.out (by omega)] at sb cs
      generalize B.testBit k = y at *
      generalize hz : cB A B 0 k = z at *
      have S1 : Hid _ := sb
      have S2 : Hid _ := cs
      clear sb cs hz HD hck
      cases y <;> cases z
      all_goals
        go_wp2_with (first
          | (at_builtin; refine wpList_append_own _ rfl _ _ 116 rfl w.heap.size 4 i0 (.bool false) 1 1 Tryz.underlying116 hi hz0 hz1 hz2 rfl (by decide) _ _ _ rfl (hown.alloc _) ⟨wr.heap.size, 0, none⟩ 1 1 [.bool false] rfl rfl (lit_cell _ _ _) (lit_one _) l1 l2 l3 ?_; intro v' w1 hown' hgrow hnil; clear hnil)
          | (at_builtin; refine wpList_append_own _ rfl _ _ 116 rfl w.heap.size 4 i0 (.bool false) 1 1 Tryz.underlying116 hi hz0 hz1 hz2 rfl (by decide) _ _ _ rfl (hown.alloc _) ⟨wr.heap.size, 0, none⟩ 1 1 [.bool true] rfl rfl (lit_cell _ _ _) (lit_one _) l1 l2 l4 ?_; intro v' w1 hown' hgrow hnil; clear hnil)
          | go_in)
        have hown2 : w1.ownsRow w.heap.size 4 1 v' (k + 1) (Bl (k + 1) (A + B)) := by
          rw [← Bl_snoc, S1.out]
          exact hown'
        have hb' := (hb.alloc hb.size _).grown hgrow (by assumption) (own_block hown)
        clear hgrow hown hown'
        go_wp2
        go_roundw
        case rel => exact ⟨k + 1, by omega, KB.out, by go_num, congrArg Value.bool S2.out.symm, hown2, hb'⟩
        case measure => simp [intOf]; omega
    · have t1 : ¬ (k : Int) < (n1 : Int) := by omega
      have t2 : ¬ (k : Int) < (n2 : Int) := by omega
      rw [bit_past HA.out (by omega), bit_past HB.out (by omega)] at sb cs
      have D := HD.out (by omega) (by omega)
      generalize hz : cB A B 0 k = z at *
      cases z
      · have LD : Hid _ := D rfl
        clear D HD sb cs hck hz
        go_wp2
        go_ret
        exact ⟨_, rfl, ⟨k, by omega, own_bits hown LD.out⟩, hb⟩
      · have S1 : Hid _ := sb
        have S2 : Hid _ := cs
        have hk2 := hck rfl
        have KB : Hid (cB A B 0 (k + 1) = true → k + 1 ≤ 10000) := fun h => absurd (S2.out.symm.trans h) (by decide)
        clear sb cs hz HD hck D
        go_wp2_with (first
          | (at_builtin; refine wpList_append_own _ rfl _ _ 116 rfl w.heap.size 4 i0 (.bool false) 1 1 Tryz.underlying116 hi hz0 hz1 hz2 rfl (by decide) _ _ _ rfl (hown.alloc _) ⟨wr.heap.size, 0, none⟩ 1 1 [.bool false] rfl rfl (lit_cell _ _ _) (lit_one _) l1 l2 l3 ?_; intro v' w1 hown' hgrow hnil; clear hnil)
          | (at_builtin; refine wpList_append_own _ rfl _ _ 116 rfl w.heap.size 4 i0 (.bool false) 1 1 Tryz.underlying116 hi hz0 hz1 hz2 rfl (by decide) _ _ _ rfl (hown.alloc _) ⟨wr.heap.size, 0, none⟩ 1 1 [.bool true] rfl rfl (lit_cell _ _ _) (lit_one _) l1 l2 l4 ?_; intro v' w1 hown' hgrow hnil; clear hnil)
          | go_in)
        have hown2 : w1.ownsRow w.heap.size 4 1 v' (k + 1) (Bl (k + 1) (A + B)) := by
          rw [← Bl_snoc, S1.out]
          exact hown'
        have hb' := (hb.alloc hb.size _).grown hgrow (by assumption) (own_block hown)
        clear hgrow hown hown'
        go_wp2
        go_roundw
        case rel => exact ⟨k + 1, by omega, KB.out, by go_num, congrArg Value.bool S2.out.symm, hown2, hb'⟩
        case measure => simp [intOf]; omega
end Go.Proofs.YteafnkimcidkhaaGreat
namespace Go.Proofs.YteafnkimcidkhaaGreat
open Go.RowKit
set_option linter.unusedVariables false
set_option linter.unusedSimpArgs false
theorem kinds3Y (k : Int) : ((k == 0 || k == 5) = true ∧ (k == 4) = false) ∨ ((k == 0 || k == 5) = false ∧ (k == 4) = true) ∨ ((k == 0 || k == 5) = false ∧ (k == 4) = false) := by
  by_cases c1 : k = 0
  · subst c1; decide
  · by_cases c2 : k = 5
    · subst c2; decide
    · by_cases c3 : k = 4
      · subst c3; decide
      · simp [c1, c2, c3]
theorem wide_notY {s : Bool} {a : Int} (h : (cls s a == 0 || cls s a == 5) = false) : wideB s a = false := by
  cases c : wideB s a
  · rfl
  · exfalso
    have : cls s a = 0 := by unfold cls; rw [c]; rfl
    rw [this] at h
    exact absurd h (by decide)
theorem fin_wordY {s : Bool} {u p : Int} (h : Fin s u p) : Word u ∧ u < 9007199254740992 ∧ -1074 ≤ p ∧ p ≤ 2000 := by
  obtain ⟨a, b, c, d, e⟩ := h
  cases s
  · have b' : u < 9007199254740992 := b
    have c' : -1074 ≤ p := c
    exact ⟨⟨a, by omega⟩, b', c', d⟩
  · have b' : u < 16777216 := b
    have c' : -149 ≤ p := c
    exact ⟨⟨a, by omega⟩, by omega, by omega, d⟩
theorem rup_int (v : Value) (n A : Nat) (z : Int) (hn : n ≤ 100) (hz0 : 0 ≤ z) (hz : z ≤ 5000) (w : World) (h : BitV w v n A) :
    Calls Tryz.prog 91 #[v, .int .i64 z] w fun e w' => ∃ g cap, e = .returned (.slice (some ⟨g, 0, none⟩) (z.toNat + n) cap) ∧ g < w'.heap.size ∧ RowB w' g (z.toNat + n) (fun i => (A * 2 ^ z.toNat).testBit i) ∧ Below w.heap.size w w' := by
  obtain ⟨k, rfl⟩ := Int.eq_ofNat_of_zero_le hz0
  rw [Int.toNat_natCast]
  exact rup_any v n A k hn (by omega) w h
theorem below_callY {w W w1 : World} (h : Below w.heap.size w W) (hb : Below W.heap.size W w1) : Below w.heap.size w w1 := h.trans (hb.mono h.size)
theorem drewNY (w : World) (n : Nat) : Below w.heap.size w (w.drewN n) := below_drewN (Below.refl _ _) n
set_option maxRecDepth 20000 in
set_option maxHeartbeats 25600000 in
theorem radd_core (f m a b : Int) (g1 g2 : Bool) (X Y : Nat) (p1 p2 z1 z2 e S0 : Int) (nX nY N1 N2 SA SB : Nat) (V : Int)
    (hp1 : -1074 ≤ p1) (hp1' : p1 ≤ 2000) (hp2 : -1074 ≤ p2) (hp2' : p2 ≤ 2000)
    (hz : p2 < p1 ∧ z1 = p1 - p2 ∧ z2 = 0 ∧ e = p2 ∨ ¬ p2 < p1 ∧ z1 = 0 ∧ z2 = p2 - p1 ∧ e = p1)
    (hX : X < 2 ^ nX) (hY : Y < 2 ^ nY) (hSA : SA < 2 ^ N1) (hSB : SB < 2 ^ N2) (hN1 : N1 ≤ 10000) (hN2 : N2 ≤ 10000)
    (hb1 : ∀ w, Calls Tryz.prog 86 #[.int .i64 f, .int .u64 a] w fun e w' => e = .returned (.bool g1) ∧ w' = w)
    (hb2 : ∀ w, Calls Tryz.prog 86 #[.int .i64 f, .int .u64 b] w fun e w' => e = .returned (.bool g2) ∧ w' = w)
    (hn1 : ∀ w, Calls Tryz.prog 87 #[.int .i64 f, .int .u64 a] w fun e w' => e = .returned (.bool false) ∧ ∃ n, w' = w.drewN n)
    (hn2 : ∀ w, Calls Tryz.prog 87 #[.int .i64 f, .int .u64 b] w fun e w' => e = .returned (.bool false) ∧ ∃ n, w' = w.drewN n)
    (hi1 : ∀ w, Calls Tryz.prog 88 #[.int .i64 f, .int .u64 a] w fun e w' => e = .returned (.bool false) ∧ ∃ n, w' = w.drewN n)
    (hi2 : ∀ w, Calls Tryz.prog 88 #[.int .i64 f, .int .u64 b] w fun e w' => e = .returned (.bool false) ∧ ∃ n, w' = w.drewN n)
    (v1 : ∀ w, Calls Tryz.prog 90 #[.int .i64 f, .int .u64 a] w fun e w' => e = .returned (.tuple #[.int .u64 (X : Int), .int .i64 p1]) ∧ w' = w.drew)
    (v2 : ∀ w, Calls Tryz.prog 90 #[.int .i64 f, .int .u64 b] w fun e w' => e = .returned (.tuple #[.int .u64 (Y : Int), .int .i64 p2]) ∧ w' = w.drew)
    (hbX : ∀ w : World, Calls Tryz.prog 92 #[.int .u64 (X : Int)] w fun e w' => ∃ v, e = .returned v ∧ BitV w' v nX X ∧ Below w.heap.size w w')
    (hbY : ∀ w : World, Calls Tryz.prog 92 #[.int .u64 (Y : Int)] w fun e w' => ∃ v, e = .returned v ∧ BitV w' v nY Y ∧ Below w.heap.size w w')
    (hu1 : ∀ v w, BitV w v nX X → Calls Tryz.prog 91 #[v, .int .i64 z1] w fun e w' => ∃ g cap, e = .returned (.slice (some ⟨g, 0, none⟩) N1 cap) ∧ g < w'.heap.size ∧ RowB w' g N1 (fun i => SA.testBit i) ∧ Below w.heap.size w w')
    (hu2 : ∀ v w, BitV w v nY Y → Calls Tryz.prog 91 #[v, .int .i64 z2] w fun e w' => ∃ g cap, e = .returned (.slice (some ⟨g, 0, none⟩) N2 cap) ∧ g < w'.heap.size ∧ RowB w' g N2 (fun i => SB.testBit i) ∧ Below w.heap.size w w')
    (hsg : ∀ w, Calls Tryz.prog 96 #[.int .i64 f, .bool (m == 2)] w fun e w' => e = .returned (.int .u64 S0) ∧ w' = w)
    (q1 : g1 = g2 → ∀ v n w, n ≤ 20001 → BitV w v n (SA + SB) → Calls Tryz.prog 93 #[.int .i64 f, .int .i64 m, .bool g1, v, .int .i64 e] w fun r w' => r = .returned (.int .u64 V) ∧ ∃ k, w' = w.drewN k)
    (q2 : g1 ≠ g2 → SA = SB → S0 = V)
    (q3 : g1 ≠ g2 → SB < SA → ∀ v w, BitV w v N1 (SA - SB) → Calls Tryz.prog 93 #[.int .i64 f, .int .i64 m, .bool g1, v, .int .i64 e] w fun r w' => r = .returned (.int .u64 V) ∧ ∃ k, w' = w.drewN k)
    (q4 : g1 ≠ g2 → SA < SB → ∀ v w, BitV w v N2 (SB - SA) → Calls Tryz.prog 93 #[.int .i64 f, .int .i64 m, .bool g2, v, .int .i64 e] w fun r w' => r = .returned (.int .u64 V) ∧ ∃ k, w' = w.drewN k)
    (w : World) :
    Calls Tryz.prog 45 #[.int .i64 f, .int .i64 m, .int .u64 a, .int .u64 b] w fun r w' => r = .returned (.int .u64 V) ∧ Below w.heap.size w w' := by
  have hcm := fun (ga ca gb cb : Nat) (w : World) (ra : RowB w ga N1 (fun i => SA.testBit i)) (rb : RowB w gb N2 (fun i => SB.testBit i)) => rcmpP_any ga N1 ca SA gb N2 cb SB hSA hSB hN1 hN2 w ra rb
  have hpl := fun (ga ca gb cb : Nat) (w : World) (ra : RowB w ga N1 (fun i => SA.testBit i)) (rb : RowB w gb N2 (fun i => SB.testBit i)) (za : ga < w.heap.size) (zb : gb < w.heap.size) => rplus_any ga N1 ca SA gb N2 cb SB hSA hSB hN1 hN2 w ra rb za zb
  have hm1 := fun (h : SB ≤ SA) (ga ca gb cb : Nat) (w : World) (ra : RowB w ga N1 (fun i => SA.testBit i)) (rb : RowB w gb N2 (fun i => SB.testBit i)) (za : ga < w.heap.size) (zb : gb < w.heap.size) => rminus_any ga N1 ca SA gb N2 cb SB hSA hSB hN1 hN2 h w ra rb za zb
  have hm2 := fun (h : SA ≤ SB) (ga ca gb cb : Nat) (w : World) (ra : RowB w ga N1 (fun i => SA.testBit i)) (rb : RowB w gb N2 (fun i => SB.testBit i)) (za : ga < w.heap.size) (zb : gb < w.heap.size) => rminus_any gb N2 cb SB ga N1 ca SA hSB hSA hN2 hN1 h w rb ra zb za
  clear hSA hSB hX hY
  have tri : g1 = g2 ∨ (g1 ≠ g2 ∧ SA = SB) ∨ (g1 ≠ g2 ∧ SB < SA) ∨ (g1 ≠ g2 ∧ SA < SB) := by
    by_cases c : g1 = g2
    · exact Or.inl c
    · rcases Nat.lt_trichotomy SA SB with d | d | d
      · exact Or.inr (Or.inr (Or.inr ⟨c, d⟩))
      · exact Or.inr (Or.inl ⟨c, d⟩)
      · exact Or.inr (Or.inr (Or.inl ⟨c, d⟩))
  rcases tri with c | ⟨c, d⟩ | ⟨c, d⟩ | ⟨c, d⟩
  · have R := q1 c
    subst c
    clear q1 q2 q3 q4 hm1 hm2 hcm hsg
    rcases hz with ⟨t, rfl, rfl, rfl⟩ | ⟨t, rfl, rfl, rfl⟩ <;> cases g1
    all_goals
      go_enter Tryz.func45, Tryz.ntmps45
      go_wp2_with (first
         | (go_at_call_of 86 a; refine (hb1 _).mono ?_; rintro r w1 ⟨rfl, hw⟩; rw [hw]; clear hw w1)
         | (go_at_call_of 86 b; refine (hb2 _).mono ?_; rintro r w1 ⟨rfl, hw⟩; rw [hw]; clear hw w1)
         | (go_at_call_of 87 a; refine (hn1 _).mono ?_; rintro r w1 ⟨rfl, n3, rfl⟩)
         | (go_at_call_of 87 b; refine (hn2 _).mono ?_; rintro r w1 ⟨rfl, n4, rfl⟩)
         | (go_at_call_of 88 a; refine (hi1 _).mono ?_; rintro r w1 ⟨rfl, n5, rfl⟩)
         | (go_at_call_of 88 b; refine (hi2 _).mono ?_; rintro r w1 ⟨rfl, n6, rfl⟩)
         | (go_at_call_of 90 a; refine (v1 _).mono ?_; rintro r w1 ⟨rfl, rfl⟩)
         | (go_at_call_of 90 b; refine (v2 _).mono ?_; rintro r w1 ⟨rfl, rfl⟩)
         | (go_at_call_of 92 X; refine (hbX _).mono ?_; rintro r wa ⟨va, rfl, bva, La⟩; replace La : Below w.heap.size w wa := below_callY (drewNY w _) La)
         | (go_at_call_of 91 va; refine (hu1 va _ bva).mono ?_; rintro r wb ⟨ga, ca, rfl, za, ra, Lb⟩; replace Lb := below_callY La Lb; clear La bva)
         | (go_at_call_of 92 Y; refine (hbY _).mono ?_; rintro r wc ⟨vb, rfl, bvb, Lc⟩; replace ra := ra.below Lc za; replace za := Nat.lt_of_lt_of_le za Lc.size; replace Lc := below_callY Lb Lc; clear Lb)
         | (go_at_call_of 91 vb; refine (hu2 vb _ bvb).mono ?_; rintro r wd ⟨gb, cb, rfl, zb, rb, Ld⟩; replace ra := ra.below Ld za; replace za := Nat.lt_of_lt_of_le za Ld.size; replace Ld := below_callY Lc Ld; clear Lc bvb)
         | (go_at_call 94; refine (hpl _ _ _ _ _ ra rb za zb).mono ?_; rintro r we ⟨vs, rfl, ⟨ns, hns, bvs⟩, Le⟩; replace Le := below_callY Ld Le)
         | (go_at_call 93; refine (R vs ns _ hns bvs).mono ?_; rintro r wf ⟨rfl, kk, rfl⟩))
      go_ret
      exact ⟨rfl, below_drewN Le _⟩
  · have R := q2 c d
    subst R
    have d0 : cmpR SA SB = 0 := by unfold cmpR; rw [if_neg (by omega), if_pos d]
    simp only [d0] at hcm
    clear q1 q2 q3 q4 hm1 hm2 hpl d0
    rcases hz with ⟨t, rfl, rfl, rfl⟩ | ⟨t, rfl, rfl, rfl⟩ <;> cases g1 <;> cases g2
    all_goals
      first
        | exact absurd rfl c
        | (clear c d
           go_enter Tryz.func45, Tryz.ntmps45
           go_wp2_with (first
         | (go_at_call_of 86 a; refine (hb1 _).mono ?_; rintro r w1 ⟨rfl, hw⟩; rw [hw]; clear hw w1)
         | (go_at_call_of 86 b; refine (hb2 _).mono ?_; rintro r w1 ⟨rfl, hw⟩; rw [hw]; clear hw w1)
         | (go_at_call_of 87 a; refine (hn1 _).mono ?_; rintro r w1 ⟨rfl, n3, rfl⟩)
         | (go_at_call_of 87 b; refine (hn2 _).mono ?_; rintro r w1 ⟨rfl, n4, rfl⟩)
         | (go_at_call_of 88 a; refine (hi1 _).mono ?_; rintro r w1 ⟨rfl, n5, rfl⟩)
         | (go_at_call_of 88 b; refine (hi2 _).mono ?_; rintro r w1 ⟨rfl, n6, rfl⟩)
         | (go_at_call_of 90 a; refine (v1 _).mono ?_; rintro r w1 ⟨rfl, rfl⟩)
         | (go_at_call_of 90 b; refine (v2 _).mono ?_; rintro r w1 ⟨rfl, rfl⟩)
         | (go_at_call_of 92 X; refine (hbX _).mono ?_; rintro r wa ⟨va, rfl, bva, La⟩; replace La : Below w.heap.size w wa := below_callY (drewNY w _) La)
         | (go_at_call_of 91 va; refine (hu1 va _ bva).mono ?_; rintro r wb ⟨ga, ca, rfl, za, ra, Lb⟩; replace Lb := below_callY La Lb; clear La bva)
         | (go_at_call_of 92 Y; refine (hbY _).mono ?_; rintro r wc ⟨vb, rfl, bvb, Lc⟩; replace ra := ra.below Lc za; replace za := Nat.lt_of_lt_of_le za Lc.size; replace Lc := below_callY Lb Lc; clear Lb)
         | (go_at_call_of 91 vb; refine (hu2 vb _ bvb).mono ?_; rintro r wd ⟨gb, cb, rfl, zb, rb, Ld⟩; replace ra := ra.below Ld za; replace za := Nat.lt_of_lt_of_le za Ld.size; replace Ld := below_callY Lc Ld; clear Lc bvb)
         | (go_at_call 95; refine (hcm ga ca gb cb _ ra rb).mono ?_; rintro r w1 ⟨rfl, kc, rfl⟩)
         | (go_at_call 96; refine (hsg _).mono ?_; rintro r w1 ⟨rfl, hw⟩; rw [hw]; clear hw w1))
           go_ret
           exact ⟨rfl, below_drewN Ld _⟩)
  · have R := q3 c d
    have d0 : cmpR SA SB = 1 := by unfold cmpR; rw [if_neg (by omega), if_neg (by omega)]
    simp only [d0] at hcm
    have hm := hm1 (by omega)
    clear q1 q2 q3 q4 hm1 hm2 hpl d0 hsg
    rcases hz with ⟨t, rfl, rfl, rfl⟩ | ⟨t, rfl, rfl, rfl⟩ <;> cases g1 <;> cases g2
    all_goals
      first
        | exact absurd rfl c
        | (clear c d
           go_enter Tryz.func45, Tryz.ntmps45
           go_wp2_with (first
         | (go_at_call_of 86 a; refine (hb1 _).mono ?_; rintro r w1 ⟨rfl, hw⟩; rw [hw]; clear hw w1)
         | (go_at_call_of 86 b; refine (hb2 _).mono ?_; rintro r w1 ⟨rfl, hw⟩; rw [hw]; clear hw w1)
         | (go_at_call_of 87 a; refine (hn1 _).mono ?_; rintro r w1 ⟨rfl, n3, rfl⟩)
         | (go_at_call_of 87 b; refine (hn2 _).mono ?_; rintro r w1 ⟨rfl, n4, rfl⟩)
         | (go_at_call_of 88 a; refine (hi1 _).mono ?_; rintro r w1 ⟨rfl, n5, rfl⟩)
         | (go_at_call_of 88 b; refine (hi2 _).mono ?_; rintro r w1 ⟨rfl, n6, rfl⟩)
         | (go_at_call_of 90 a; refine (v1 _).mono ?_; rintro r w1 ⟨rfl, rfl⟩)
         | (go_at_call_of 90 b; refine (v2 _).mono ?_; rintro r w1 ⟨rfl, rfl⟩)
         | (go_at_call_of 92 X; refine (hbX _).mono ?_; rintro r wa ⟨va, rfl, bva, La⟩; replace La : Below w.heap.size w wa := below_callY (drewNY w _) La)
         | (go_at_call_of 91 va; refine (hu1 va _ bva).mono ?_; rintro r wb ⟨ga, ca, rfl, za, ra, Lb⟩; replace Lb := below_callY La Lb; clear La bva)
         | (go_at_call_of 92 Y; refine (hbY _).mono ?_; rintro r wc ⟨vb, rfl, bvb, Lc⟩; replace ra := ra.below Lc za; replace za := Nat.lt_of_lt_of_le za Lc.size; replace Lc := below_callY Lb Lc; clear Lb)
         | (go_at_call_of 91 vb; refine (hu2 vb _ bvb).mono ?_; rintro r wd ⟨gb, cb, rfl, zb, rb, Ld⟩; replace ra := ra.below Ld za; replace za := Nat.lt_of_lt_of_le za Ld.size; replace Ld := below_callY Lc Ld; clear Lc bvb)
         | (go_at_call 95; refine (hcm ga ca gb cb _ ra rb).mono ?_; rintro r w1 ⟨rfl, kc, rfl⟩)
         | (go_at_call 97; refine (hm ga ca gb cb (wd.drewN kc) ra rb za zb).mono ?_; rintro r we ⟨vs, rfl, bvs, Le⟩; replace Le := below_callY (below_drewN Ld kc) Le)
         | (go_at_call 93; refine (R vs _ bvs).mono ?_; rintro r wf ⟨rfl, kk, rfl⟩))
           go_ret
           exact ⟨rfl, below_drewN Le _⟩)
  · have R := q4 c d
    have d0 : cmpR SA SB = -1 := by unfold cmpR; rw [if_pos (by omega)]
    simp only [d0] at hcm
    have hm := hm2 (by omega)
    clear q1 q2 q3 q4 hm1 hm2 hpl d0 hsg
    rcases hz with ⟨t, rfl, rfl, rfl⟩ | ⟨t, rfl, rfl, rfl⟩ <;> cases g1 <;> cases g2
    all_goals
      first
        | exact absurd rfl c
        | (clear c d
           go_enter Tryz.func45, Tryz.ntmps45
           go_wp2_with (first
         | (go_at_call_of 86 a; refine (hb1 _).mono ?_; rintro r w1 ⟨rfl, hw⟩; rw [hw]; clear hw w1)
         | (go_at_call_of 86 b; refine (hb2 _).mono ?_; rintro r w1 ⟨rfl, hw⟩; rw [hw]; clear hw w1)
         | (go_at_call_of 87 a; refine (hn1 _).mono ?_; rintro r w1 ⟨rfl, n3, rfl⟩)
         | (go_at_call_of 87 b; refine (hn2 _).mono ?_; rintro r w1 ⟨rfl, n4, rfl⟩)
         | (go_at_call_of 88 a; refine (hi1 _).mono ?_; rintro r w1 ⟨rfl, n5, rfl⟩)
         | (go_at_call_of 88 b; refine (hi2 _).mono ?_; rintro r w1 ⟨rfl, n6, rfl⟩)
         | (go_at_call_of 90 a; refine (v1 _).mono ?_; rintro r w1 ⟨rfl, rfl⟩)
         | (go_at_call_of 90 b; refine (v2 _).mono ?_; rintro r w1 ⟨rfl, rfl⟩)
         | (go_at_call_of 92 X; refine (hbX _).mono ?_; rintro r wa ⟨va, rfl, bva, La⟩; replace La : Below w.heap.size w wa := below_callY (drewNY w _) La)
         | (go_at_call_of 91 va; refine (hu1 va _ bva).mono ?_; rintro r wb ⟨ga, ca, rfl, za, ra, Lb⟩; replace Lb := below_callY La Lb; clear La bva)
         | (go_at_call_of 92 Y; refine (hbY _).mono ?_; rintro r wc ⟨vb, rfl, bvb, Lc⟩; replace ra := ra.below Lc za; replace za := Nat.lt_of_lt_of_le za Lc.size; replace Lc := below_callY Lb Lc; clear Lb)
         | (go_at_call_of 91 vb; refine (hu2 vb _ bvb).mono ?_; rintro r wd ⟨gb, cb, rfl, zb, rb, Ld⟩; replace ra := ra.below Ld za; replace za := Nat.lt_of_lt_of_le za Ld.size; replace Ld := below_callY Lc Ld; clear Lc bvb)
         | (go_at_call 95; refine (hcm ga ca gb cb _ ra rb).mono ?_; rintro r w1 ⟨rfl, kc, rfl⟩)
         | (go_at_call 97; refine (hm ga ca gb cb (wd.drewN kc) ra rb za zb).mono ?_; rintro r we ⟨vs, rfl, bvs, Le⟩; replace Le := below_callY (below_drewN Ld kc) Le)
         | (go_at_call 93; refine (R vs _ bvs).mono ?_; rintro r wf ⟨rfl, kk, rfl⟩))
           go_ret
           exact ⟨rfl, below_drewN Le _⟩)
set_option maxRecDepth 20000 in
set_option maxHeartbeats 6400000 in
theorem raddF_any (s : Bool) (m a b : Int) (h1 : Word a) (h2 : Word b) (w : World) :
    Calls Tryz.prog 45 #[.int .i64 (fb s), .int .i64 m, .int .u64 a, .int .u64 b] w fun r w' => r = .returned (.int .u64 (addF s m a b)) ∧ Below w.heap.size w w' := by
  have hb1 := rbelow_any s a
  have hb2 := rbelow_any s b
  have hn1 := risNan_any s a h1
  have hn2 := risNan_any s b h2
  have hi1 := risInf_any s a h1
  have hi2 := risInf_any s b h2
  have hnan := rnan_any s
  have hsg := rsign_any s (m == 2)
  have hrd := fun (below : Bool) (v : Value) (n A : Nat) => rounded_any s m below v n A
  have hv1 := fun h => rvalue_any s a h1 (wide_notY h)
  have hv2 := fun h => rvalue_any s b h2 (wide_notY h)
  have f1 := fin_of s a h1
  have f2 := fin_of s b h2
  have K1 := kinds3Y (cls s a)
  have K2 := kinds3Y (cls s b)
  have S0 : (if (m == 2) = true then fS s else 0) = sgnd s (m == 2) 0 := by unfold sgnd; split <;> simp
  rw [S0] at hsg
  clear S0
  unfold addF
  generalize hN1 : (cls s a == 0 || cls s a == 5) = N1 at *
  generalize hN2 : (cls s b == 0 || cls s b == 5) = N2 at *
  generalize hI1 : (cls s a == 4) = I1 at *
  generalize hI2 : (cls s b == 4) = I2 at *
  clear hN1 hN2 hI1 hI2
  generalize hfb : fb s = f at *
  generalize sgn s a = g1 at *
  generalize sgn s b = g2 at *
  generalize fNan s = Q at *
  rcases K1 with ⟨rfl, rfl⟩ | ⟨rfl, rfl⟩ | ⟨rfl, rfl⟩ <;> rcases K2 with ⟨rfl, rfl⟩ | ⟨rfl, rfl⟩ | ⟨rfl, rfl⟩
  case inr.inr.inr.inr =>
    have F1 := fin_wordY (f1 rfl rfl).1
    have F2 := fin_wordY (f2 rfl rfl).1
    have v1 := hv1 rfl
    have v2 := hv2 rfl
    clear hv1 hv2 f1 f2 hnan
    simp only [Bool.or_self, Bool.and_self, Bool.false_and, Bool.false_eq_true, if_false]
    generalize whl s a = u1 at *
    generalize whl s b = u2 at *
    generalize pwr s a = p1 at *
    generalize pwr s b = p2 at *
    obtain ⟨a1, a2, a3, a4⟩ := F1
    obtain ⟨d1, d2, d3, d4⟩ := F2
    obtain ⟨X, rfl⟩ := Int.eq_ofNat_of_zero_le a1.1
    obtain ⟨Y, rfl⟩ := Int.eq_ofNat_of_zero_le d1.1
    rw [Int.toNat_natCast, Int.toNat_natCast]
    have lX : blen X ≤ 53 := blen_le_of (by omega : X < 2 ^ 53)
    have lY : blen Y ≤ 53 := blen_le_of (by omega : Y < 2 ^ 53)
    have hX := lt_blen X
    have hY := lt_blen Y
    have hbX : ∀ w : World, Calls Tryz.prog 92 #[.int .u64 (X : Int)] w fun e w' => ∃ v, e = .returned v ∧ BitV w' v (blen X) X ∧ Below w.heap.size w w' := fun w => (rbits_any X (by omega) w).mono fun e w' ⟨v, h1, h2, h3⟩ => ⟨v, h1, own_bits h2 hX, h3⟩
    have hbY : ∀ w : World, Calls Tryz.prog 92 #[.int .u64 (Y : Int)] w fun e w' => ∃ v, e = .returned v ∧ BitV w' v (blen Y) Y ∧ Below w.heap.size w w' := fun w => (rbits_any Y (by omega) w).mono fun e w' ⟨v, h1, h2, h3⟩ => ⟨v, h1, own_bits h2 hY, h3⟩
    have main : ∀ z1 z2 e : Int, 0 ≤ z1 → z1 ≤ 5000 → 0 ≤ z2 → z2 ≤ 5000 → -2000 ≤ e → e ≤ 2000 → (p2 < p1 ∧ z1 = p1 - p2 ∧ z2 = 0 ∧ e = p2 ∨ ¬ p2 < p1 ∧ z1 = 0 ∧ z2 = p2 - p1 ∧ e = p1) →
        Calls Tryz.prog 45 #[.int .i64 f, .int .i64 m, .int .u64 a, .int .u64 b] w fun r w' => r = .returned (.int .u64 (if g1 = g2 then rnd s m g1 (X * 2 ^ z1.toNat + Y * 2 ^ z2.toNat) e
          else if X * 2 ^ z1.toNat = Y * 2 ^ z2.toNat then sgnd s (m == 2) 0
          else if Y * 2 ^ z2.toNat < X * 2 ^ z1.toNat then rnd s m g1 (X * 2 ^ z1.toNat - Y * 2 ^ z2.toNat) e
          else rnd s m g2 (Y * 2 ^ z2.toNat - X * 2 ^ z1.toNat) e)) ∧ Below w.heap.size w w' := by
      intro z1 z2 e r1 r2 r3 r4 r5 r6 hz
      refine radd_core f m a b g1 g2 X Y p1 p2 z1 z2 e (sgnd s (m == 2) 0) (blen X) (blen Y) (z1.toNat + blen X) (z2.toNat + blen Y) (X * 2 ^ z1.toNat) (Y * 2 ^ z2.toNat) _ a3 a4 d3 d4 hz hX hY ?_ ?_ (by omega) (by omega) hb1 hb2 hn1 hn2 hi1 hi2 v1 v2 hbX hbY ?_ ?_ hsg ?_ ?_ ?_ ?_ w
      · rw [Nat.add_comm, Nat.pow_add]; exact Nat.mul_lt_mul_of_pos_right hX (Nat.two_pow_pos _)
      · rw [Nat.add_comm, Nat.pow_add]; exact Nat.mul_lt_mul_of_pos_right hY (Nat.two_pow_pos _)
      · exact fun v w h => rup_int v _ _ z1 (by omega) r1 r2 w h
      · exact fun v w h => rup_int v _ _ z2 (by omega) r3 r4 w h
      · intro c v n w hn h
        rw [if_pos c]
        exact hrd g1 v n _ (by omega) e (by omega) (by omega) w h
      · intro c d
        rw [if_neg c, if_pos d]
      · intro c d v w h
        rw [if_neg c, if_neg (by omega), if_pos d]
        exact hrd g1 v _ _ (by omega) e (by omega) (by omega) w h
      · intro c d v w h
        rw [if_neg c, if_neg (by omega), if_neg (by omega)]
        exact hrd g2 v _ _ (by omega) e (by omega) (by omega) w h
    unfold sumT
    by_cases t : p2 < p1
    · rw [show min p1 p2 = p2 by omega, Int.sub_self]
      exact main (p1 - p2) 0 p2 (by omega) (by omega) (by omega) (by omega) (by omega) (by omega) (Or.inl ⟨t, rfl, rfl, rfl⟩)
    · rw [show min p1 p2 = p1 by omega, Int.sub_self]
      exact main 0 (p2 - p1) p1 (by omega) (by omega) (by omega) (by omega) (by omega) (by omega) (Or.inr ⟨t, rfl, rfl, rfl⟩)
  all_goals
    clear hrd hv1 hv2 f1 f2 hsg
    cases g1 <;> cases g2
  all_goals
    go_enter Tryz.func45, Tryz.ntmps45
    go_wp2_with (first
         | (go_at_call_of 86 a; refine (hb1 _).mono ?_; rintro r w1 ⟨rfl, hw⟩; rw [hw]; clear hw w1)
         | (go_at_call_of 86 b; refine (hb2 _).mono ?_; rintro r w1 ⟨rfl, hw⟩; rw [hw]; clear hw w1)
         | (go_at_call_of 87 a; refine (hn1 _).mono ?_; rintro r w1 ⟨rfl, n3, rfl⟩)
         | (go_at_call_of 87 b; refine (hn2 _).mono ?_; rintro r w1 ⟨rfl, n4, rfl⟩)
         | (go_at_call_of 88 a; refine (hi1 _).mono ?_; rintro r w1 ⟨rfl, n5, rfl⟩)
         | (go_at_call_of 88 b; refine (hi2 _).mono ?_; rintro r w1 ⟨rfl, n6, rfl⟩)
         | (go_at_call 89; refine (hnan _).mono ?_; rintro r w1 ⟨rfl, rfl⟩))
    go_ret
    exact ⟨rfl, drewNY w _⟩
end Go.Proofs.YteafnkimcidkhaaGreat
namespace Go.Proofs.YteafnkimcidkhaaGreat
open Go.RowKit
set_option linter.unusedVariables false
set_option linter.unusedSimpArgs false
end Go.Proofs.YteafnkimcidkhaaGreat
namespace Go.Proofs.YteafnkimcidkhaaGreat
open Go.RowKit
set_option linter.unusedVariables false
set_option linter.unusedSimpArgs false
set_option maxHeartbeats 1600000 in
theorem rplain3_any (s : Bool) (a : Int) (h : Word a) (w : World) : Calls Tryz.prog 83 #[.int .i64 (fb s), .int .u64 a] w fun e w' => e = .returned (.int .u64 (plainF s a)) ∧ ∃ n, w' = w.drewN n := by
  have hcl := rclass_any s a h
  have hnan := rnan_any s
  have K := kindsP (cls s a)
  unfold plainF
  generalize hN : (cls s a == 0 || cls s a == 5) = N1 at *
  generalize hI : (cls s a == 1) = I1 at *
  generalize cls s a = k at *
  generalize fNan s = Q at *
  generalize fb s = f at *
  clear hN hI
  rcases K with ⟨rfl, rfl, rfl⟩ | ⟨rfl, rfl, rfl⟩ | ⟨rfl, rfl, rfl⟩ | ⟨rfl, rfl, k0, k5, k1⟩
  · go_enter Tryz.func83, Tryz.ntmps83
    go_wp2_with (first
      | (go_at_call 85; refine (hcl _).mono ?_; rintro e w1 ⟨rfl, n1, rfl⟩)
      | (go_at_call 89; refine (hnan _).mono ?_; rintro e w1 ⟨rfl, rfl⟩)
      | fail)
    go_ret
    exact ⟨rfl, n1 + 1, rfl⟩
  · go_enter Tryz.func83, Tryz.ntmps83
    go_wp2_with (first
      | (go_at_call 85; refine (hcl _).mono ?_; rintro e w1 ⟨rfl, n1, rfl⟩)
      | (go_at_call 89; refine (hnan _).mono ?_; rintro e w1 ⟨rfl, rfl⟩)
      | fail)
    go_ret
    exact ⟨rfl, n1 + 1, rfl⟩
  · go_enter Tryz.func83, Tryz.ntmps83
    go_wp2_with (first
      | (go_at_call 85; refine (hcl _).mono ?_; rintro e w1 ⟨rfl, n1, rfl⟩)
      | fail)
    go_ret
    exact ⟨rfl, n1, rfl⟩
  · go_enter Tryz.func83, Tryz.ntmps83
    go_wp2_with (first
      | (go_at_call 85; refine (hcl _).mono ?_; rintro e w1 ⟨rfl, n1, rfl⟩)
      | fail)
    go_ret
    exact ⟨rfl, n1, rfl⟩
end Go.Proofs.YteafnkimcidkhaaGreat


