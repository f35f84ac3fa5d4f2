/- The reference's sizes, parts and classes of floats. -/
import Derived.Test.YtfdinlomlcnjnaaDoorSoftMir
namespace Go.Proofs.YtfdinlomlcnjnaaDoor
open Go.RowKit
set_option linter.unusedVariables false
set_option linter.unusedSimpArgs false
/-- A format's number. -/
def fb (s : Bool) : Int := if s then 1 else 0
def fE (s : Bool) : Int := if s then 8 else 11
theorem rsize_d (w : World) : Calls Tryd.prog 67 #[.int .i64 0] w fun e w' => e = .returned (.tuple #[.int .i64 52, .int .i64 11, .int .i64 (-1074)]) ∧ w' = w := by
  go_enter Tryd.func67, Tryd.ntmps67
  go_wp2_with fail
  exact bodyPost_ret (v := .tuple #[.int .i64 52, .int .i64 11, .int .i64 (-1074)]) (by simp [results, Tryd.results67, go_sem]) rfl ⟨rfl, rfl⟩
theorem rsize_s (w : World) : Calls Tryd.prog 67 #[.int .i64 1] w fun e w' => e = .returned (.tuple #[.int .i64 23, .int .i64 8, .int .i64 (-149)]) ∧ w' = w := by
  go_enter Tryd.func67, Tryd.ntmps67
  go_wp2_with fail
  exact bodyPost_ret (v := .tuple #[.int .i64 23, .int .i64 8, .int .i64 (-149)]) (by simp [results, Tryd.results67, go_sem]) rfl ⟨rfl, rfl⟩
/-- A float's exponent. -/
def xpo (s : Bool) (a : Int) : Int := a / 2 ^ fP s % 2 ^ (fE s).toNat
theorem and_bits (x i : Nat) (m : Int) (hm : m = ((2 ^ i - 1 : Nat) : Int)) (hi : 2 ^ i ≤ 18446744073709551616) (a : Int) (ha : a = (x : Int)) (h : x < 18446744073709551616) : bits BinOp.and IntKind.u64 a m = a % 2 ^ i := by
  subst hm ha
  have p := Nat.two_pow_pos i
  have t := u64_and_nat x (2 ^ i - 1) h (by omega)
  rw [Nat.and_two_pow_sub_one_eq_mod] at t
  rw [t, pow_cast, Int.natCast_emod]
theorem rparts_any (s : Bool) (a : Int) (h : Word a) (w : World) : Calls Tryd.prog 68 #[.int .i64 (fb s), .int .u64 a] w fun e w' => e = .returned (.tuple #[.int .u64 (xpo s a), .int .u64 (a % 2 ^ fP s)]) ∧ w' = w.drew := by
  have h1 := h.1
  have h2 := h.2
  cases s
  · have hs := rsize_d
    have n1 : bits BinOp.and IntKind.u64 (a / 4503599627370496) 2047 = xpo false a := and_bits (a / 4503599627370496).toNat 11 2047 rfl (by decide) _ (by omega) (by omega)
    have n2 : bits BinOp.and IntKind.u64 a 4503599627370495 = a % 2 ^ fP false := and_bits a.toNat 52 4503599627370495 rfl (by decide) _ (by omega) (by omega)
    generalize xpo false a = X at *
    generalize a % 2 ^ fP false = M at *
    show Calls Tryd.prog 68 #[.int .i64 0, .int .u64 a] w _
    go_enter Tryd.func68, Tryd.ntmps68
    go_wp2_with (go_at_call 67; refine (hs _).mono ?_; rintro e w1 ⟨rfl, rfl⟩)
    go_region
    go_wp2_with fail
    exact bodyPost_ret (v := .tuple #[.int .u64 X, .int .u64 M]) (by simp [results, Tryd.results68, go_sem]) rfl ⟨rfl, rfl⟩
  · have hs := rsize_s
    have n1 : bits BinOp.and IntKind.u64 (a / 8388608) 255 = xpo true a := and_bits (a / 8388608).toNat 8 255 rfl (by decide) _ (by omega) (by omega)
    have n2 : bits BinOp.and IntKind.u64 a 8388607 = a % 2 ^ fP true := and_bits a.toNat 23 8388607 rfl (by decide) _ (by omega) (by omega)
    generalize xpo true a = X at *
    generalize a % 2 ^ fP true = M at *
    show Calls Tryd.prog 68 #[.int .i64 1, .int .u64 a] w _
    go_enter Tryd.func68, Tryd.ntmps68
    go_wp2_with (go_at_call 67; refine (hs _).mono ?_; rintro e w1 ⟨rfl, rfl⟩)
    go_region
    go_wp2_with fail
    exact bodyPost_ret (v := .tuple #[.int .u64 X, .int .u64 M]) (by simp [results, Tryd.results68, go_sem]) rfl ⟨rfl, rfl⟩
theorem cls_ref_d (a : Int) (h : Word a) (w : wideB false a = false) : cls false a = (if xpo false a = 2047 ∧ a % 4503599627370496 ≠ 0 then 5 else if xpo false a = 2047 then 4 else if xpo false a = 0 ∧ a % 4503599627370496 = 0 then 1 else if xpo false a = 0 then 2 else 3) := by
  have h1 := h.1
  have h2 := h.2
  have e := zOf_double a h
  have x : xpo false a = a / 4503599627370496 % 2048 := rfl
  have i : fI false = 9218868437227405312 := rfl
  have p : (2 : Int) ^ fP false = 4503599627370496 := rfl
  unfold cls
  rw [w, if_neg (by decide), e, x, i, p]
  by_cases c1 : 9218868437227405312 < a % 9223372036854775808
  · rw [if_pos c1, if_pos (by omega)]
  · rw [if_neg c1]
    by_cases c2 : a % 9223372036854775808 = 9218868437227405312
    · rw [if_pos c2, if_neg (by omega), if_pos (by omega)]
    · rw [if_neg c2]
      by_cases c3 : a % 9223372036854775808 = 0
      · rw [if_pos c3, if_neg (by omega), if_neg (by omega), if_pos (by omega)]
      · rw [if_neg c3]
        by_cases c4 : a % 9223372036854775808 / 4503599627370496 = 0
        · rw [if_pos c4, if_neg (by omega), if_neg (by omega), if_neg (by omega), if_pos (by omega)]
        · rw [if_neg c4, if_neg (by omega), if_neg (by omega), if_neg (by omega), if_neg (by omega)]
theorem cls_ref_s (a : Int) (h : Word a) (w : wideB true a = false) : cls true a = (if xpo true a = 255 ∧ a % 8388608 ≠ 0 then 5 else if xpo true a = 255 then 4 else if xpo true a = 0 ∧ a % 8388608 = 0 then 1 else if xpo true a = 0 then 2 else 3) := by
  have h1 := h.1
  have h2 := h.2
  have a3 : a < 4294967296 := by unfold wideB at w; simp at w; exact w
  have e := zOf_single a h1 a3
  have x : xpo true a = a / 8388608 % 256 := rfl
  have i : fI true = 2139095040 := rfl
  have p : (2 : Int) ^ fP true = 8388608 := rfl
  unfold cls
  rw [w, if_neg (by decide), e, x, i, p]
  by_cases c1 : 2139095040 < a % 2147483648
  · rw [if_pos c1, if_pos (by omega)]
  · rw [if_neg c1]
    by_cases c2 : a % 2147483648 = 2139095040
    · rw [if_pos c2, if_neg (by omega), if_pos (by omega)]
    · rw [if_neg c2]
      by_cases c3 : a % 2147483648 = 0
      · rw [if_pos c3, if_neg (by omega), if_neg (by omega), if_pos (by omega)]
      · rw [if_neg c3]
        by_cases c4 : a % 2147483648 / 8388608 = 0
        · rw [if_pos c4, if_neg (by omega), if_neg (by omega), if_neg (by omega), if_pos (by omega)]
        · rw [if_neg c4, if_neg (by omega), if_neg (by omega), if_neg (by omega), if_neg (by omega)]
set_option maxHeartbeats 1600000 in
theorem rclass_d (a : Int) (h : Word a) (w : World) : Calls Tryd.prog 34 #[.int .i64 0, .int .u64 a] w fun e w' => e = .returned (.int .i64 (cls false a)) ∧ ∃ n, w' = w.drewN n := by
  have hs := rsize_d
  have hp : ∀ w, Calls Tryd.prog 68 #[.int .i64 0, .int .u64 a] w fun e w' => e = .returned (.tuple #[.int .u64 (xpo false a), .int .u64 (a % 4503599627370496)]) ∧ w' = w.drew := rparts_any false a h
  have h1 := h.1
  have h2 := h.2
  have hv := cls_ref_d a h rfl
  refine Calls.mono (R := fun e w' => e = .returned (.int .i64 (cls false a)) ∧ w' = w.drew) ?_ (fun e w' ⟨a, b⟩ => ⟨a, 1, b⟩)
  generalize cls false a = k at *
  generalize xpo false a = X at *
  generalize a % 4503599627370496 = M at *
  by_cases c1 : X = 2047
  · subst c1
    by_cases c2 : M = 0
    · subst c2
      have V : Hid (4 = k) := by rw [hv]; rfl
      clear hv
      go_enter Tryd.func34, Tryd.ntmps34
      go_wp2_with (first
        | (go_at_call 67; refine (hs _).mono ?_; rintro e w1 ⟨rfl, rfl⟩)
        | (go_at_call 68; refine (hp _).mono ?_; rintro e w1 ⟨rfl, rfl⟩))
      go_ret
      exact ⟨i64_eq V.out, rfl⟩
    · have V : Hid (5 = k) := by rw [hv, if_pos ⟨rfl, c2⟩]; rfl
      clear hv
      go_enter Tryd.func34, Tryd.ntmps34
      go_wp2_with (first
        | (go_at_call 67; refine (hs _).mono ?_; rintro e w1 ⟨rfl, rfl⟩)
        | (go_at_call 68; refine (hp _).mono ?_; rintro e w1 ⟨rfl, rfl⟩))
      go_ret
      exact ⟨i64_eq V.out, rfl⟩
  · by_cases c3 : X = 0
    · subst c3
      by_cases c2 : M = 0
      · subst c2
        have V : Hid (1 = k) := by rw [hv]; rfl
        clear hv
        go_enter Tryd.func34, Tryd.ntmps34
        go_wp2_with (first
          | (go_at_call 67; refine (hs _).mono ?_; rintro e w1 ⟨rfl, rfl⟩)
          | (go_at_call 68; refine (hp _).mono ?_; rintro e w1 ⟨rfl, rfl⟩))
        go_ret
        exact ⟨i64_eq V.out, rfl⟩
      · have V : Hid (2 = k) := by rw [hv, if_neg (by simp), if_neg (by decide), if_neg (fun h => c2 h.2), if_pos rfl]; rfl
        clear hv
        go_enter Tryd.func34, Tryd.ntmps34
        go_wp2_with (first
          | (go_at_call 67; refine (hs _).mono ?_; rintro e w1 ⟨rfl, rfl⟩)
          | (go_at_call 68; refine (hp _).mono ?_; rintro e w1 ⟨rfl, rfl⟩))
        go_ret
        exact ⟨i64_eq V.out, rfl⟩
    · have V : Hid (3 = k) := by rw [hv, if_neg (fun h => c1 h.1), if_neg c1, if_neg (fun h => c3 h.1), if_neg c3]; rfl
      clear hv
      go_enter Tryd.func34, Tryd.ntmps34
      go_wp2_with (first
        | (go_at_call 67; refine (hs _).mono ?_; rintro e w1 ⟨rfl, rfl⟩)
        | (go_at_call 68; refine (hp _).mono ?_; rintro e w1 ⟨rfl, rfl⟩))
      go_ret
      exact ⟨i64_eq V.out, rfl⟩
set_option maxHeartbeats 1600000 in
theorem rclass_s (a : Int) (h : Word a) (w : World) : Calls Tryd.prog 34 #[.int .i64 1, .int .u64 a] w fun e w' => e = .returned (.int .i64 (cls true a)) ∧ ∃ n, w' = w.drewN n := by
  have hs := rsize_s
  have hp : ∀ w, Calls Tryd.prog 68 #[.int .i64 1, .int .u64 a] w fun e w' => e = .returned (.tuple #[.int .u64 (xpo true a), .int .u64 (a % 8388608)]) ∧ w' = w.drew := rparts_any true a h
  have h1 := h.1
  have h2 := h.2
  by_cases hw : 4294967296 ≤ a
  · have v : cls true a = 0 := by unfold cls; rw [show wideB true a = true by unfold wideB; simp; exact hw]; rfl
    rw [v]
    have hw' : (a / 4294967296 != 0) = true := by simp; omega
    refine Calls.mono (R := fun e w' => e = .returned (.int .i64 0) ∧ w' = w) ?_ (fun e w' ⟨a, b⟩ => ⟨a, 0, b⟩)
    go_enter Tryd.func34, Tryd.ntmps34
    go_wp2_with (go_at_call 67; refine (hs _).mono ?_; rintro e w1 ⟨rfl, rfl⟩)
    go_ret
    exact ⟨rfl, rfl⟩
  have hw' : (a / 4294967296 != 0) = false := by simp; omega
  have hv := cls_ref_s a h (by unfold wideB; simp; omega)
  refine Calls.mono (R := fun e w' => e = .returned (.int .i64 (cls true a)) ∧ w' = w.drew) ?_ (fun e w' ⟨a, b⟩ => ⟨a, 1, b⟩)
  generalize cls true a = k at *
  generalize xpo true a = X at *
  generalize a % 8388608 = M at *
  by_cases c1 : X = 255
  · subst c1
    by_cases c2 : M = 0
    · subst c2
      have V : Hid (4 = k) := by rw [hv]; rfl
      clear hv
      go_enter Tryd.func34, Tryd.ntmps34
      go_wp2_with (first
        | (go_at_call 67; refine (hs _).mono ?_; rintro e w1 ⟨rfl, rfl⟩)
        | (go_at_call 68; refine (hp _).mono ?_; rintro e w1 ⟨rfl, rfl⟩))
      go_ret
      exact ⟨i64_eq V.out, rfl⟩
    · have V : Hid (5 = k) := by rw [hv, if_pos ⟨rfl, c2⟩]; rfl
      clear hv
      go_enter Tryd.func34, Tryd.ntmps34
      go_wp2_with (first
        | (go_at_call 67; refine (hs _).mono ?_; rintro e w1 ⟨rfl, rfl⟩)
        | (go_at_call 68; refine (hp _).mono ?_; rintro e w1 ⟨rfl, rfl⟩))
      go_ret
      exact ⟨i64_eq V.out, rfl⟩
  · by_cases c3 : X = 0
    · subst c3
      by_cases c2 : M = 0
      · subst c2
        have V : Hid (1 = k) := by rw [hv]; rfl
        clear hv
        go_enter Tryd.func34, Tryd.ntmps34
        go_wp2_with (first
          | (go_at_call 67; refine (hs _).mono ?_; rintro e w1 ⟨rfl, rfl⟩)
          | (go_at_call 68; refine (hp _).mono ?_; rintro e w1 ⟨rfl, rfl⟩))
        go_ret
        exact ⟨i64_eq V.out, rfl⟩
      · have V : Hid (2 = k) := by rw [hv, if_neg (by simp), if_neg (by decide), if_neg (fun h => c2 h.2), if_pos rfl]; rfl
        clear hv
        go_enter Tryd.func34, Tryd.ntmps34
        go_wp2_with (first
          | (go_at_call 67; refine (hs _).mono ?_; rintro e w1 ⟨rfl, rfl⟩)
          | (go_at_call 68; refine (hp _).mono ?_; rintro e w1 ⟨rfl, rfl⟩))
        go_ret
        exact ⟨i64_eq V.out, rfl⟩
    · have V : Hid (3 = k) := by rw [hv, if_neg (fun h => c1 h.1), if_neg c1, if_neg (fun h => c3 h.1), if_neg c3]; rfl
      clear hv
      go_enter Tryd.func34, Tryd.ntmps34
      go_wp2_with (first
        | (go_at_call 67; refine (hs _).mono ?_; rintro e w1 ⟨rfl, rfl⟩)
        | (go_at_call 68; refine (hp _).mono ?_; rintro e w1 ⟨rfl, rfl⟩))
      go_ret
      exact ⟨i64_eq V.out, rfl⟩
theorem rclass_any (s : Bool) (a : Int) (h : Word a) (w : World) : Calls Tryd.prog 34 #[.int .i64 (fb s), .int .u64 a] w fun e w' => e = .returned (.int .i64 (cls s a)) ∧ ∃ n, w' = w.drewN n := by
  cases s
  · exact rclass_d a h w
  · exact rclass_s a h w
end Go.Proofs.YtfdinlomlcnjnaaDoor

