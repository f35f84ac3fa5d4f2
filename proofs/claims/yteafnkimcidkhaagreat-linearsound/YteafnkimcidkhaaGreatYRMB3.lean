/- Texts of the proof, put together. -/
import Derived.Test.YteafnkimcidkhaaGreatYRMB2
namespace Go.Proofs.YteafnkimcidkhaaGreat
open Go.RowKit
set_option linter.unusedVariables false
set_option linter.unusedSimpArgs false
theorem and_bit (x i : Nat) (hx : x < 2 ^ (i + 1)) : (x &&& 2 ^ i != 0) = decide (2 ^ i ≤ x) := by
 have p := Nat.two_pow_pos i
 have e : x &&& 2 ^ i = if x.testBit i then 2 ^ i else 0 := by
  apply Nat.eq_of_testBit_eq
  intro j
  rw [Nat.testBit_and, Nat.testBit_two_pow]
  by_cases c : i = j
  ·subst c
   cases t : x.testBit i <;> simp
  ·cases t : x.testBit i <;> simp [c, Nat.testBit_two_pow]
 rw [e, Nat.testBit_eq_decide_div_mod_eq]
 rw [Nat.pow_succ] at hx
 by_cases c : 2 ^ i ≤ x
 ·have d : x / 2 ^ i = 1 := Nat.div_eq_of_lt_le (by omega) (by omega)
  rw [d, decide_eq_true c]
  simp
 ·have d : x / 2 ^ i = 0 := Nat.div_eq_of_lt (by omega)
  rw [d, decide_eq_false c]
  simp
theorem sgn_double (a : Int) (h : Word a) : sgn false a = decide (9223372036854775808 ≤ a) := by
 obtain ⟨x, rfl⟩ := Int.eq_ofNat_of_zero_le h.1
 have hx := h.2
 have t := u64_and_nat x 9223372036854775808 (by omega) (by decide)
 have e := and_bit x 63 (by omega)
 show (bits BinOp.and IntKind.u64 (x : Int) ((9223372036854775808 : Nat) : Int) != 0) = _
 rw [t, Bool.eq_iff_iff, bne_iff_ne, decide_eq_true_iff]
 rw [Bool.eq_iff_iff, bne_iff_ne, decide_eq_true_iff] at e
 have q : (2 : Nat) ^ 63 = 9223372036854775808 := by decide
 rw [q] at e
 omega
theorem sgn_single (a : Int) (h : 0 ≤ a) (h' : a < 4294967296) : sgn true a = decide (2147483648 ≤ a) := by
 obtain ⟨x, rfl⟩ := Int.eq_ofNat_of_zero_le h
 have t := u64_and_nat x 2147483648 (by omega) (by decide)
 have e := and_bit x 31 (by omega)
 show (bits BinOp.and IntKind.u64 (x : Int) ((2147483648 : Nat) : Int) != 0) = _
 rw [t, Bool.eq_iff_iff, bne_iff_ne, decide_eq_true_iff]
 rw [Bool.eq_iff_iff, bne_iff_ne, decide_eq_true_iff] at e
 have q : (2 : Nat) ^ 31 = 2147483648 := by decide
 rw [q] at e
 omega
theorem put (s : Bool) (a : Int) (h : Word a) (w : wideB s a = false) : a = sgnd s (sgn s a) (zOf s a) ∧ 0 ≤ zOf s a ∧ zOf s a < fS s := by
 unfold sgnd
 cases s
 ·rw [sgn_double a h, zOf_double a h]
  have q : fS false = 9223372036854775808 := rfl
  rw [q]
  obtain ⟨h0, h1⟩ := h
  by_cases c : 9223372036854775808 ≤ a
  ·rw [if_pos (decide_eq_true c)]; omega
  ·rw [if_neg (by simp; omega)]; omega
 ·have w' : a < 4294967296 := by unfold wideB at w; simp at w; exact w
  rw [sgn_single a h.1 w', zOf_single a h.1 w']
  have q : fS true = 2147483648 := rfl
  rw [q]
  obtain ⟨h0, h1⟩ := h
  by_cases c : 2147483648 ≤ a
  ·rw [if_pos (decide_eq_true c)]; omega
  ·rw [if_neg (by simp; omega)]; omega
end Go.Proofs.YteafnkimcidkhaaGreat
namespace Go.Proofs.YteafnkimcidkhaaGreat
open Go.RowKit
set_option linter.unusedVariables false
set_option linter.unusedSimpArgs false
theorem fI_lt (s : Bool) : fI s < fS s := by cases s <;> decide
theorem made (s b : Bool) (z : Int) (h0 : 0 ≤ z) (h : z < fS s) : Word (sgnd s b z) ∧ wideB s (sgnd s b z) = false ∧ zOf s (sgnd s b z) = z ∧ sgn s (sgnd s b z) = b := by
 unfold sgnd
 cases s
 ·have q : fS false = 9223372036854775808 := rfl
  rw [q] at h ⊢
  have w : Word (if b = true then z + 9223372036854775808 else z) := by cases b <;> exact ⟨by simp; omega, by simp; omega⟩
  refine ⟨w, rfl, ?_, ?_⟩
  ·rw [zOf_double _ w]
   cases b <;> simp <;> omega
  ·rw [sgn_double _ w]
   cases b <;> simp <;> omega
 ·have q : fS true = 2147483648 := rfl
  rw [q] at h ⊢
  have w : Word (if b = true then z + 2147483648 else z) := by cases b <;> exact ⟨by simp; omega, by simp; omega⟩
  have w2 : (if b = true then z + 2147483648 else z) < 4294967296 := by cases b <;> simp <;> omega
  refine ⟨w, ?_, ?_, ?_⟩
  ·unfold wideB; simp; cases b <;> simp <;> omega
  ·rw [zOf_single _ w.1 w2]
   cases b <;> simp <;> omega
  ·rw [sgn_single _ w.1 w2]
   cases b <;> simp <;> omega
theorem cls_made (s b : Bool) (z : Int) (h0 : 0 ≤ z) (h : z < fS s) : cls s (sgnd s b z) = if fI s < z then 5 else if z = fI s then 4 else if z = 0 then 1 else if z / 2 ^ fP s = 0 then 2 else 3 := by
 obtain ⟨_, w, e, _⟩ := made s b z h0 h
 unfold cls
 rw [w, e, if_neg (by decide)]
theorem num_made (s b : Bool) (z : Int) (h0 : 0 ≤ z) (h : z ≤ fI s) : (cls s (sgnd s b z) == 0 || cls s (sgnd s b z) == 5) = false := by
 have := fI_lt s
 rw [cls_made s b z h0 (by omega), if_neg (by omega)]
 by_cases c : z = fI s
 ·rw [if_pos c]; rfl
 ·rw [if_neg c]
  by_cases d : z = 0
  ·rw [if_pos d]; rfl
  ·rw [if_neg d]
   by_cases e : z / 2 ^ fP s = 0
   ·rw [if_pos e]; rfl
   ·rw [if_neg e]; rfl
theorem mod_fS (s b : Bool) (z : Int) : sgnd s b z % 2 ^ fP s = z % 2 ^ fP s := by
 unfold sgnd
 cases b
 ·rfl
 ·rw [if_pos rfl]
  cases s
  ·show (z + 9223372036854775808) % 4503599627370496 = z % 4503599627370496; omega
  ·show (z + 2147483648) % 8388608 = z % 8388608; omega
theorem whl_made (s b : Bool) (z : Int) (h0 : 0 ≤ z) (h : z < fS s) : whl s (sgnd s b z) = (if 0 < z / 2 ^ fP s then z % 2 ^ fP s + 2 ^ fP s else z % 2 ^ fP s) ∧ pwr s (sgnd s b z) = (if 0 < z / 2 ^ fP s then fL s + (z / 2 ^ fP s - 1) else fL s) := by
 obtain ⟨_, _, e, _⟩ := made s b z h0 h
 unfold whl pwr
 rw [e, mod_fS]
 exact ⟨rfl, rfl⟩
theorem num_or (s : Bool) (a : Int) (h : Word a) : (cls s a == 0 || cls s a == 5) = true ∨ ∃ (b : Bool) (z : Int), a = sgnd s b z ∧ 0 ≤ z ∧ z ≤ fI s := by
 by_cases c : (cls s a == 0 || cls s a == 5) = true
 ·exact Or.inl c
 ·right
  have c' : (cls s a == 0 || cls s a == 5) = false := by simpa using c
  have k0 : ¬ cls s a = 0 := by simp only [Bool.or_eq_false_iff, beq_eq_false_iff_ne, ne_eq] at c'; exact c'.1
  have k5 : ¬ cls s a = 5 := by simp only [Bool.or_eq_false_iff, beq_eq_false_iff_ne, ne_eq] at c'; exact c'.2
  have w : wideB s a = false := by
   cases t : wideB s a
   ·rfl
   ·unfold cls at k0; rw [t] at k0; simp at k0
  obtain ⟨e, z0, z1⟩ := put s a h w
  refine ⟨sgn s a, zOf s a, e, z0, ?_⟩
  by_cases t : fI s < zOf s a
  ·unfold cls at k5; rw [w, if_neg (by decide), if_pos t] at k5; exact absurd rfl k5
  ·omega
theorem rnd_made (s : Bool) (m : Int) (b : Bool) (n : Nat) (e : Int) : ∃ z : Int, rnd s m b n e = sgnd s b z ∧ 0 ≤ z ∧ z ≤ fI s := by
 unfold rnd
 by_cases c : n = 0
 ·rw [if_pos c]; exact ⟨0, rfl, by omega, fI_pos s⟩
 ·rw [if_neg c]
  obtain ⟨z, e1, e2⟩ := mag_any s m b c e
  exact ⟨z, by rw [e1], by omega, e2⟩
end Go.Proofs.YteafnkimcidkhaaGreat
namespace Go.Proofs.YteafnkimcidkhaaGreat
open Go.RowKit
set_option linter.unusedVariables false
set_option linter.unusedSimpArgs false
def fb (s : Bool) : Int := if s then 1 else 0
end Go.Proofs.YteafnkimcidkhaaGreat
namespace Go.Proofs.YteafnkimcidkhaaGreat
open Go.RowKit
set_option linter.unusedVariables false
set_option linter.unusedSimpArgs false
end Go.Proofs.YteafnkimcidkhaaGreat
namespace Go.Proofs.YteafnkimcidkhaaGreat
open Go.RowKit
set_option linter.unusedVariables false
set_option linter.unusedSimpArgs false
end Go.Proofs.YteafnkimcidkhaaGreat
namespace Go.Proofs.YteafnkimcidkhaaGreat
open Go.RowKit
set_option linter.unusedVariables false
set_option linter.unusedSimpArgs false
theorem most_fl (f : Int) (w : World) : Calls Tryz.prog 131 #[.int .i64 f] w fun r w' => r = .returned (.int .u64 (fI (f == 1) - 1)) ∧ Below w.heap.size w w' := by
 have hfo := formatOf_ex f
 generalize (f == 1) = s at *
 have hm := most_any s
 rw [fmtV_eq] at hfo hm
 go_enter Tryz.func131, Tryz.ntmps131
 go_wp2_with (first
  | (go_at_call 107; refine (hfo _).mono ?_; rintro r w1 ⟨rfl, o1, o2, rfl⟩)
  | (go_at_call 169; refine (hm _).mono ?_; rintro r w2 ⟨rfl, rfl⟩))
 go_ret
 exact ⟨rfl, (by repeat (first | with_reducible exact Below.refl _ _ | with_reducible refine below_new ?_ _ | with_reducible refine Below.drew ?_ | with_reducible refine below_dN ?_ _))⟩
theorem nan_fl (f : Int) (w : World) : Calls Tryz.prog 171 #[.int .i64 f] w fun r w' => r = .returned (.int .u64 (fNan (f == 1))) ∧ Below w.heap.size w w' := by
 have hfo := formatOf_ex f
 generalize (f == 1) = s at *
 have hm := nan_ex s
 rw [fmtV_eq] at hfo hm
 go_enter Tryz.func171, Tryz.ntmps171
 go_wp2_with (first
  | (go_at_call 107; refine (hfo _).mono ?_; rintro r w1 ⟨rfl, o1, o2, rfl⟩)
  | (go_at_call 110; refine (hm _).mono ?_; rintro r w2 ⟨rfl, rfl⟩))
 go_ret
 exact ⟨rfl, (by repeat (first | with_reducible exact Below.refl _ _ | with_reducible refine below_new ?_ _ | with_reducible refine Below.drew ?_ | with_reducible refine below_dN ?_ _))⟩
end Go.Proofs.YteafnkimcidkhaaGreat
namespace Go.Proofs.YteafnkimcidkhaaGreat
open Go.RowKit
set_option linter.unusedVariables false
set_option linter.unusedSimpArgs false
theorem below_callC {w W w1 : World} (h : Below w.heap.size w W) (hb : Below W.heap.size W w1) : Below w.heap.size w w1 := h.trans (hb.mono h.size)
def plainF (s : Bool) (a : Int) : Int := if (cls s a == 0 || cls s a == 5) then fNan s else if cls s a == 1 then 0 else a
theorem kindsP (k : Int) : ((k == 0 || k == 5) = true ∧ (k == 1) = false ∧ k = 0) ∨ ((k == 0 || k == 5) = true ∧ (k == 1) = false ∧ k = 5) ∨ ((k == 0 || k == 5) = false ∧ (k == 1) = true ∧ k = 1) ∨ ((k == 0 || k == 5) = false ∧ (k == 1) = false ∧ (k == 0) = false ∧ (k == 5) = false ∧ ¬ k = 1) := by
 by_cases c1 : k = 0
 ·subst c1; decide
 ·by_cases c2 : k = 5
  ·subst c2; decide
  ·by_cases c3 : k = 1
   ·subst c3; decide
   ·simp [c1, c2, c3]
theorem plain_any (f a : Int) (h : Word a) (w : World) : Calls Tryz.prog 133 #[.int .i64 f, .int .u64 a] w fun e w' => e = .returned (.int .u64 (plainF (f == 1) a)) ∧ Below w.heap.size w w' := by
 have hcl := class_fl f a h
 have hnan := nan_fl f
 have K := kindsP (cls (f == 1) a)
 unfold plainF
 generalize (cls (f == 1) a == 0 || cls (f == 1) a == 5) = N1 at *
 generalize (cls (f == 1) a == 1) = Z1 at *
 generalize cls (f == 1) a = k at *
 generalize fNan (f == 1) = Q at *
 rcases K with ⟨rfl, rfl, rfl⟩ | ⟨rfl, rfl, rfl⟩ | ⟨rfl, rfl, rfl⟩ | ⟨rfl, rfl, k0, k5, k1⟩
 case inr.inr.inr =>
  have k1' : (k == 1) = false := by simp [k1]
  go_enter Tryz.func133, Tryz.ntmps133
  go_wp2_with (go_at_call 170; refine (hcl _).mono ?_; rintro e wc ⟨rfl, hb⟩)
  go_ret
  exact ⟨rfl, hb⟩
 case inr.inr.inl =>
  go_enter Tryz.func133, Tryz.ntmps133
  go_wp2_with (go_at_call 170; refine (hcl _).mono ?_; rintro e wc ⟨rfl, hb⟩)
  go_ret
  exact ⟨rfl, hb⟩
 all_goals
  go_enter Tryz.func133, Tryz.ntmps133
  go_wp2_with (first
   | (go_at_call 170; refine (hcl _).mono ?_; rintro e wc ⟨rfl, hb⟩)
   | (go_at_call 171; refine (hnan _).mono ?_; rintro e wd ⟨rfl, hd⟩))
  go_ret
  exact ⟨rfl, below_callC hb hd⟩
end Go.Proofs.YteafnkimcidkhaaGreat
namespace Go.Proofs.YteafnkimcidkhaaGreat
open Go.RowKit
set_option linter.unusedVariables false
set_option linter.unusedSimpArgs false
def nextF (s : Bool) (a : Int) : Int := if finF s a then (if a = fI s - 1 then a else if zOf s a = 0 then 1 else if sgn s a then plainF s (a - 1) else a + 1) else fNan s
def prevF (s : Bool) (a : Int) : Int := plainF s (negF s (nextF s (negF s a)))
theorem n_num {s : Bool} {a : Int} (h : finF s a = true) : (cls s a == 0 || cls s a == 5) = false ∧ (cls s a == 4) = false := by
 unfold finF at h
 generalize cls s a = k at *
 simp at h
 rcases h with (rfl | rfl) | rfl <;> decide
theorem n_fin (s b : Bool) (z : Nat) (h : (z : Int) < fI s) : finF s (sgnd s b z) = true := by
 have l := fI_lt s
 unfold finF
 rw [cls_made s b z (by omega) (by omega)]
 have n1 : ¬ fI s < (z : Int) := by omega
 have n2 : ¬ (z : Int) = fI s := by omega
 rw [if_neg n1, if_neg n2]
 split
 ·rfl
 ·split <;> rfl
theorem n_made (s : Bool) (a : Int) (h : Word a) (f : finF s a = true) : ∃ (b : Bool) (z : Nat), a = sgnd s b z ∧ (z : Int) < fI s := by
 obtain ⟨f1, f2⟩ := n_num f
 rcases num_or s a h with c | ⟨b, z', rfl, z0, z1⟩
 ·rw [f1] at c; exact absurd c (by decide)
 ·obtain ⟨z, rfl⟩ := Int.eq_ofNat_of_zero_le z0
  refine ⟨b, z, rfl, ?_⟩
  by_cases c : (z : Int) = fI s
  ·have l := fI_lt s
   rw [cls_made s b z (by omega) (by omega), if_neg (by omega), if_pos c] at f2
   exact absurd f2 (by decide)
  ·omega
theorem n_plain (s b : Bool) (z : Nat) (h : (z : Int) < fI s) : plainF s (sgnd s b z) = if z = 0 then 0 else sgnd s b z := by
 have l := fI_lt s
 have f := (n_num (n_fin s b z h)).1
 unfold plainF
 rw [f, cls_made s b z (by omega) (by omega)]
 have n1 : ¬ fI s < (z : Int) := by omega
 have n2 : ¬ (z : Int) = fI s := by omega
 rw [if_neg n1, if_neg n2]
 simp only [Bool.false_eq_true, if_false]
 by_cases c : z = 0
 ·subst c
  rfl
 ·have zi : ¬ (z : Int) = 0 := by omega
  rw [if_neg zi, if_neg c]
  by_cases q : (z : Int) / 2 ^ fP s = 0
  ·rw [if_pos q]; rfl
  ·rw [if_neg q]; rfl
theorem n_plainw (s : Bool) (a : Int) (h : Word a) : Word (plainF s a) := by
 unfold plainF
 split
 ·cases s <;> exact ⟨by decide, by decide⟩
 ·split
  ·exact ⟨by decide, by decide⟩
  ·exact h
theorem n_nextw (s : Bool) (a : Int) (h : Word a) : Word (nextF s a) := by
 unfold nextF
 split
 ·rename_i f
  obtain ⟨b, z, rfl, hz⟩ := n_made s a h f
  have l := fI_lt s
  have fs : fS s ≤ 9223372036854775808 := by cases s <;> decide
  split
  ·exact h
  ·split
   ·exact ⟨by decide, by decide⟩
   ·split
    ·rename_i q
     refine n_plainw s _ ?_
     have sg := (made s b z (by omega) (by omega)).2.2.2
     rw [sg] at q
     subst q
     have h2 := h.2
     have h1 := h.1
     unfold sgnd at *
     simp only [if_true] at *
     have : 0 < fS s := by cases s <;> decide
     exact ⟨by omega, by omega⟩
    ·rename_i q
     have sg := (made s b z (by omega) (by omega)).2.2.2
     rw [sg] at q
     have : b = false := by simpa using q
     subst this
     have e : sgnd s false (z : Int) = z := rfl
     rw [e] at *
     exact ⟨by omega, by omega⟩
 ·cases s <;> exact ⟨by decide, by decide⟩
set_option maxHeartbeats 3200000 in
theorem next_any (f a : Int) (h : Word a) (w : World) :
  Calls Tryz.prog 139 #[.int .i64 f, .int .u64 a] w fun e w' => e = .returned (.int .u64 (nextF (f == 1) a)) ∧ Below w.heap.size w w' := by
 have hsh := shapeOf_ex f
 have hsg := csign_ex (f == 1)
 have hfi := finite_fl f a h
 have hmo := most_fl f
 have hna := nan_fl f
 have hpl := fun (h1 : 1 ≤ a) => plain_any f (a - 1) ⟨by omega, by have := h.2; omega⟩
 have hm := n_made (f == 1) a h
 have a0 := h.1
 have a1 := h.2
 generalize (f == 1) = s at *
 unfold nextF
 obtain ⟨Z, hZ⟩ : ∃ Z, zOf s a = Z := ⟨_, rfl⟩
 have hZ' : bits BinOp.andNot IntKind.u64 a (fS s) = Z := hZ
 obtain ⟨S2, hS2⟩ : ∃ S2, bits BinOp.and IntKind.u64 a (fS s) = S2 := ⟨_, rfl⟩
 have hS : sgn s a = (S2 != 0) := by unfold sgn; rw [hS2]
 have B : finF s a = true → ((S2 != 0) = true → 1 ≤ a) ∧ ((S2 != 0) = false → a + 1 < 18446744073709551616) := fun f => by
  obtain ⟨b, z, e, hz⟩ := hm f
  have l := fI_lt s
  have sg := (made s b z (by omega) (by omega)).2.2.2
  rw [← e, hS] at sg
  have fp : 0 < fS s := by cases s <;> decide
  have fq : fI s ≤ 9223372036854775808 := by cases s <;> decide
  refine ⟨fun q => ?_, fun q => ?_⟩
  ·rw [q] at sg
   subst sg
   rw [e]
   unfold sgnd
   simp only [if_true]
   omega
  ·rw [q] at sg
   subst sg
   have e' : a = z := e
   omega
 rw [hZ, hS]
 clear hm hS hZ
 generalize fS s = F at *
 generalize shpV s = V at *
 generalize shpO s = O at *
 generalize fNan s = Q at *
 cases c : finF s a
 ·rw [c] at hfi
  simp only [Bool.false_eq_true, if_false]
  clear B hpl
  go_enter Tryz.func139, Tryz.ntmps139
  go_wp2_with (first
   | (go_at_call 172; refine (hsh _).mono ?_; rintro e w1 ⟨rfl, o1, rfl⟩)
   | (go_at_call 173; refine (hsg _).mono ?_; rintro e w1 ⟨rfl, rfl⟩)
   | (go_at_call 135; refine (hfi _).mono ?_; rintro e w2 ⟨rfl, b2⟩)
   | (go_at_call 171; refine (hna _).mono ?_; rintro e w3 ⟨rfl, b3⟩))
  go_ret
  exact ⟨rfl, below_callC (below_callC (below_two w _ _) b2) b3⟩
 ·rw [c] at hfi
  obtain ⟨B1, B2⟩ := B c
  simp only [if_true]
  clear c
  by_cases c1 : a = fI s - 1
  ·rw [if_pos c1]
   rw [← c1] at hmo
   clear B1 B2 hpl c1
   go_enter Tryz.func139, Tryz.ntmps139
   go_wp2_with (first
    | (go_at_call 172; refine (hsh _).mono ?_; rintro e w1 ⟨rfl, o1, rfl⟩)
    | (go_at_call 173; refine (hsg _).mono ?_; rintro e w1 ⟨rfl, rfl⟩)
    | (go_at_call 135; refine (hfi _).mono ?_; rintro e w2 ⟨rfl, b2⟩)
    | (go_at_call 131; refine (hmo _).mono ?_; rintro e w3 ⟨rfl, b3⟩))
   go_ret
   exact ⟨rfl, below_callC (below_callC (below_two w _ _) b2) b3⟩
  ·rw [if_neg c1]
   generalize fI s - 1 = M at *
   have c1' : (a == M) = false := by simp [c1]
   by_cases c2 : Z = 0
   ·rw [if_pos c2]
    subst c2
    clear B1 B2 hpl
    go_enter Tryz.func139, Tryz.ntmps139
    go_wp2_with (first
     | (go_at_call 172; refine (hsh _).mono ?_; rintro e w1 ⟨rfl, o1, rfl⟩)
     | (go_at_call 173; refine (hsg _).mono ?_; rintro e w1 ⟨rfl, rfl⟩)
     | (go_at_call 135; refine (hfi _).mono ?_; rintro e w2 ⟨rfl, b2⟩)
     | (go_at_call 131; refine (hmo _).mono ?_; rintro e w3 ⟨rfl, b3⟩))
    go_ret
    exact ⟨rfl, below_callC (below_callC (below_two w _ _) b2) b3⟩
   ·rw [if_neg c2]
    have c2' : (Z == 0) = false := by simp [c2]
    by_cases c3 : S2 = 0
    ·subst c3
     have a2 := B2 rfl
     have e1 : IntKind.u64.wrap (a + 1) = a + 1 := by rw [IntKind.wrap_u64]; omega
     rw [if_neg (by decide)]
     clear B1 B2 hpl
     go_enter Tryz.func139, Tryz.ntmps139
     go_wp2_with (first
      | (go_at_call 172; refine (hsh _).mono ?_; rintro e w1 ⟨rfl, o1, rfl⟩)
      | (go_at_call 173; refine (hsg _).mono ?_; rintro e w1 ⟨rfl, rfl⟩)
      | (go_at_call 135; refine (hfi _).mono ?_; rintro e w2 ⟨rfl, b2⟩)
      | (go_at_call 131; refine (hmo _).mono ?_; rintro e w3 ⟨rfl, b3⟩))
     go_ret
     exact ⟨rfl, below_callC (below_callC (below_two w _ _) b2) b3⟩
    ·have c3' : (S2 == 0) = false := by simp [c3]
     have c3'' : (S2 != 0) = true := by simp [c3]
     have a2 := B1 c3''
     rw [if_pos c3'']
     have hp := hpl a2
     clear B1 B2 hpl
     go_enter Tryz.func139, Tryz.ntmps139
     go_wp2_with (first
      | (go_at_call 172; refine (hsh _).mono ?_; rintro e w1 ⟨rfl, o1, rfl⟩)
      | (go_at_call 173; refine (hsg _).mono ?_; rintro e w1 ⟨rfl, rfl⟩)
      | (go_at_call 135; refine (hfi _).mono ?_; rintro e w2 ⟨rfl, b2⟩)
      | (go_at_call 131; refine (hmo _).mono ?_; rintro e w3 ⟨rfl, b3⟩)
      | (go_at_call 133; refine (hp _).mono ?_; rintro e w4 ⟨rfl, b4⟩))
     go_ret
     exact ⟨rfl, below_callC (below_callC (below_callC (below_two w _ _) b2) b3) b4⟩
theorem prev_any (f a : Int) (h : Word a) (w : World) :
  Calls Tryz.prog 137 #[.int .i64 f, .int .u64 a] w fun e w' => e = .returned (.int .u64 (prevF (f == 1) a)) ∧ Below w.heap.size w w' := by
 have h1 := negF_word (f == 1) a h
 have h2 := n_nextw (f == 1) _ h1
 have h3 := negF_word (f == 1) _ h2
 have p1 := neg_fl f a h
 have p2 := next_any f _ h1
 have p3 := neg_fl f _ h2
 have p4 := plain_any f _ h3
 unfold prevF
 generalize plainF (f == 1) (negF (f == 1) (nextF (f == 1) (negF (f == 1) a))) = A4 at *
 generalize negF (f == 1) (nextF (f == 1) (negF (f == 1) a)) = A3 at *
 generalize nextF (f == 1) (negF (f == 1) a) = A2 at *
 generalize negF (f == 1) a = A1 at *
 go_enter Tryz.func137, Tryz.ntmps137
 go_wp2_with fail
 refine (p1 _).mono ?_
 rintro e w1 ⟨rfl, b1⟩
 go_wp2_with fail
 refine (p2 _).mono ?_
 rintro e w2 ⟨rfl, b2⟩
 go_wp2_with fail
 refine (p3 _).mono ?_
 rintro e w3 ⟨rfl, b3⟩
 go_wp2_with fail
 refine (p4 _).mono ?_
 rintro e w4 ⟨rfl, b4⟩
 go_wp2_with fail
 go_ret
 exact ⟨rfl, below_callC (below_callC (below_callC b1 b2) b3) b4⟩
end Go.Proofs.YteafnkimcidkhaaGreat
namespace Go.Proofs.YteafnkimcidkhaaGreat
open Go.RowKit
set_option linter.unusedVariables false
set_option linter.unusedSimpArgs false
theorem size_parts (s b : Bool) (z : Nat) (h : (z : Int) < fI s) : ∃ x q : Nat, z = x * 2 ^ fP s + q ∧ q < 2 ^ (fP s + 1) ∧ (x = 0 ∨ 2 ^ fP s ≤ q) ∧ (whl s (sgnd s b z)).toNat = q ∧ pwr s (sgnd s b z) = fL s + x := by
 obtain ⟨e1, e2⟩ := whl_made s b z (by omega) (by have := fI_lt s; omega)
 have hp := Nat.two_pow_pos (fP s)
 have dm := Nat.div_add_mod z (2 ^ fP s)
 have lt := Nat.mod_lt z hp
 rw [e1, e2, pow_cast, ← Int.natCast_ediv, ← Int.natCast_emod]
 rw [Nat.pow_succ]
 generalize 2 ^ fP s = Q at *
 by_cases c : z < Q
 ·have d : z / Q = 0 := Nat.div_eq_of_lt c
  have m : z % Q = z := Nat.mod_eq_of_lt c
  rw [d, m]
  refine ⟨0, z, by omega, by omega, Or.inl rfl, ?_, ?_⟩
  ·rw [if_neg (by decide)]; omega
  ·rw [if_neg (by decide)]; omega
 ·have d : 0 < z / Q := Nat.div_pos (by omega) hp
  rw [if_pos (by omega), if_pos (by omega)]
  refine ⟨z / Q - 1, z % Q + Q, ?_, by omega, Or.inr (by omega), by omega, by omega⟩
  have : z / Q * Q = (z / Q - 1) * Q + Q := by rw [← Nat.succ_mul]; congr 1; omega
  rw [Nat.mul_comm] at dm
  omega
theorem self_sgn (s b : Bool) (z : Nat) (h : (z : Int) < fI s) : sgn s (sgnd s b z) = b := (made s b z (by omega) (by have := fI_lt s; omega)).2.2.2
end Go.Proofs.YteafnkimcidkhaaGreat
namespace Go.Proofs.YteafnkimcidkhaaGreat
open Go.RowKit
set_option linter.unusedVariables false
end Go.Proofs.YteafnkimcidkhaaGreat
namespace Go.Proofs.YteafnkimcidkhaaGreat
open Go.RowKit
set_option linter.unusedVariables false
theorem nan_word (s : Bool) : Word (fNan s) := by cases s <;> exact ⟨by decide, by decide⟩
theorem sgnd_word (s b : Bool) (z : Int) (h0 : 0 ≤ z) (h : z ≤ fI s) : Word (sgnd s b z) := (made s b z h0 (by have := fI_lt s; omega)).1
theorem rnd_word (s : Bool) (m : Int) (b : Bool) (n : Nat) (e : Int) : Word (rnd s m b n e) := by
 obtain ⟨z, e1, z0, z1⟩ := rnd_made s m b n e
 rw [e1]; exact sgnd_word s b z z0 z1
theorem sumT_word (s : Bool) (m : Int) (xb : Bool) (xw : Nat) (xe : Int) (yb : Bool) (yw : Nat) (ye : Int) : Word (sumT s m xb xw xe yb yw ye) := by
 unfold sumT
 split
 ·exact rnd_word _ _ _ _ _
 ·split
  ·exact sgnd_word s _ 0 (Int.le_refl _) (fI_pos s)
  ·split <;> exact rnd_word _ _ _ _ _
theorem addF_word (s : Bool) (m a b : Int) (h1 : Word a) (h2 : Word b) : Word (addF s m a b) := by
 unfold addF
 split
 ·exact nan_word s
 ·split
  ·exact nan_word s
  ·split
   ·exact h1
   ·split
    ·exact h2
    ·exact sumT_word _ _ _ _ _ _ _ _
theorem mulF_word (s : Bool) (m a b : Int) : Word (mulF s m a b) := by
 unfold mulF
 split
 ·exact nan_word s
 ·split
  ·exact nan_word s
  ·split
   ·exact sgnd_word s _ _ (fI_pos s) (Int.le_refl _)
   ·exact rnd_word _ _ _ _ _
end Go.Proofs.YteafnkimcidkhaaGreat
namespace Go.Proofs.YteafnkimcidkhaaGreat
open Go.RowKit
set_option linter.unusedVariables false
set_option linter.unusedSimpArgs false
theorem rnk_made (s b : Bool) (z : Int) (h0 : 0 ≤ z) (h : z ≤ fI s) : rnk s (sgnd s b z) = if b then -z else z := by
 obtain ⟨_, _, e, g⟩ := made s b z h0 (by have := fI_lt s; omega)
 unfold rnk
 rw [e, g]
theorem cmp_made (s b c : Bool) (y z : Int) (h0 : 0 ≤ y) (h : y ≤ fI s) (k0 : 0 ≤ z) (k : z ≤ fI s) : cmpF s (sgnd s b y) (sgnd s c z) = (if (if b then -y else y) < (if c then -z else z) then -1 else if (if c then -z else z) < (if b then -y else y) then 1 else 0, true) := by
 unfold cmpF
 rw [num_made s b y h0 h, num_made s c z k0 k, rnk_made s b y h0 h, rnk_made s c z k0 k]
 rfl
end Go.Proofs.YteafnkimcidkhaaGreat




