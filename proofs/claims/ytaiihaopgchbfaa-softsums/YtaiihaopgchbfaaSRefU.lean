/- The reference's value, Round and Mul. -/
import Derived.Test.YtaiihaopgchbfaaSRefT
import Derived.Test.YtaiihaopgchbfaaRefG
namespace Go.Proofs.Ytaiihaopgchbfaa
open Go.RowKit
set_option linter.unusedVariables false
set_option linter.unusedSimpArgs false
theorem risInf_any (s : Bool) (a : Int) (h : Word a) (w : World) : Calls Try.prog 24 #[.int .i64 (fb s), .int .u64 a] w fun e w' => e = .returned (.bool (cls s a == 4)) ∧ ∃ n, w' = w.drewN n := by
  have hc := rclass_any s a h
  generalize cls s a = k at *
  generalize fb s = f at *
  go_enter Try.func24, Try.ntmps24
  go_wp2_with (go_at_call 52; refine (hc _).mono ?_; rintro e w1 ⟨rfl, n, rfl⟩)
  go_ret
  exact ⟨rfl, n, rfl⟩
theorem rvalue_any (s : Bool) (a : Int) (h : Word a) (hw : wideB s a = false) (w : World) : Calls Try.prog 26 #[.int .i64 (fb s), .int .u64 a] w fun e w' => e = .returned (.tuple #[.int .u64 (whl s a), .int .i64 (pwr s a)]) ∧ w' = w.drew := by
  have h1 := h.1
  have h2 := h.2
  cases s
  · have hs := rsize_d
    have hp : ∀ w, Calls Try.prog 54 #[.int .i64 0, .int .u64 a] w fun e w' => e = .returned (.tuple #[.int .u64 (xpo false a), .int .u64 (a % 4503599627370496)]) ∧ w' = w.drew := rparts_any false a h
    have e1 : zOf false a / 2 ^ fP false = xpo false a := by
      rw [zOf_double a h]
      show a % 9223372036854775808 / 4503599627370496 = a / 4503599627370496 % 2048
      omega
    have x0 : 0 ≤ xpo false a ∧ xpo false a < 2048 := by
      show 0 ≤ a / 4503599627370496 % 2048 ∧ a / 4503599627370496 % 2048 < 2048
      omega
    have hwh : whl false a = if 0 < xpo false a then a % 4503599627370496 + 4503599627370496 else a % 4503599627370496 := by unfold whl; rw [e1]; rfl
    have hpw : pwr false a = if 0 < xpo false a then -1074 + (xpo false a - 1) else -1074 := by unfold pwr; rw [e1]; rfl
    have om : bits BinOp.or IntKind.u64 (a % 4503599627370496) 4503599627370496 = a % 4503599627370496 + 4503599627370496 := by
      obtain ⟨x, hx⟩ : ∃ x : Nat, a % 4503599627370496 = x := ⟨(a % 4503599627370496).toNat, by omega⟩
      rw [hx]
      have t := u64_or_nat x 4503599627370496 (by omega) (by decide)
      have o := Nat.two_pow_add_eq_or_of_lt (i := 52) (b := x) (by omega) 1
      rw [Nat.mul_one, Nat.or_comm] at o
      rw [show (4503599627370496 : Nat) = 2 ^ 52 from rfl, ← o] at t
      exact t.trans (by rw [show (2 : Nat) ^ 52 = 4503599627370496 from rfl]; omega)
    show Calls Try.prog 26 #[.int .i64 0, .int .u64 a] w _
    rw [hwh, hpw]
    clear hwh hpw e1
    have om2 : a % 4503599627370496 + 4503599627370496 < 18446744073709551616 := by omega
    generalize xpo false a = X at *
    obtain ⟨x0, x1⟩ := x0
    generalize a % 4503599627370496 = M at *
    by_cases c : X = 0
    · subst c
      rw [if_neg (by decide), if_neg (by decide)]
      go_enter Try.func26, Try.ntmps26
      go_wp2_with (first
        | (go_at_call 53; refine (hs _).mono ?_; rintro e w1 ⟨rfl, rfl⟩)
        | (go_at_call 54; refine (hp _).mono ?_; rintro e w1 ⟨rfl, rfl⟩))
      exact bodyPost_ret (v := .tuple #[.int .u64 M, .int .i64 (-1074)]) (by simp [results, Try.results26, go_sem]) rfl ⟨rfl, rfl⟩
    · rw [if_pos (by omega), if_pos (by omega)]
      have c' : (X == 0) = false := by simp [c]
      have e3 : X - 1 + -1074 = -1074 + (X - 1) := by omega
      generalize M + 4503599627370496 = MM at *
      go_enter Try.func26, Try.ntmps26
      go_wp2_with (first
        | (go_at_call 53; refine (hs _).mono ?_; rintro e w1 ⟨rfl, rfl⟩)
        | (go_at_call 54; refine (hp _).mono ?_; rintro e w1 ⟨rfl, rfl⟩))
      refine bodyPost_ret (v := .tuple #[.int .u64 MM, .int .i64 (-1074 + (X - 1))]) ?_ rfl ⟨rfl, rfl⟩
      simp [results, Try.results26, go_sem]
      try omega
  · have a3 : a < 4294967296 := by unfold wideB at hw; simp at hw; exact hw
    have hs := rsize_s
    have hp : ∀ w, Calls Try.prog 54 #[.int .i64 1, .int .u64 a] w fun e w' => e = .returned (.tuple #[.int .u64 (xpo true a), .int .u64 (a % 8388608)]) ∧ w' = w.drew := rparts_any true a h
    have e1 : zOf true a / 2 ^ fP true = xpo true a := by
      rw [zOf_single a h1 a3]
      show a % 2147483648 / 8388608 = a / 8388608 % 256
      omega
    have x0 : 0 ≤ xpo true a ∧ xpo true a < 256 := by
      show 0 ≤ a / 8388608 % 256 ∧ a / 8388608 % 256 < 256
      omega
    have hwh : whl true a = if 0 < xpo true a then a % 8388608 + 8388608 else a % 8388608 := by unfold whl; rw [e1]; rfl
    have hpw : pwr true a = if 0 < xpo true a then -149 + (xpo true a - 1) else -149 := by unfold pwr; rw [e1]; rfl
    have om : bits BinOp.or IntKind.u64 (a % 8388608) 8388608 = a % 8388608 + 8388608 := by
      obtain ⟨x, hx⟩ : ∃ x : Nat, a % 8388608 = x := ⟨(a % 8388608).toNat, by omega⟩
      rw [hx]
      have t := u64_or_nat x 8388608 (by omega) (by decide)
      have o := Nat.two_pow_add_eq_or_of_lt (i := 23) (b := x) (by omega) 1
      rw [Nat.mul_one, Nat.or_comm] at o
      rw [show (8388608 : Nat) = 2 ^ 23 from rfl, ← o] at t
      exact t.trans (by rw [show (2 : Nat) ^ 23 = 8388608 from rfl]; omega)
    show Calls Try.prog 26 #[.int .i64 1, .int .u64 a] w _
    rw [hwh, hpw]
    clear hwh hpw e1
    have om2 : a % 8388608 + 8388608 < 18446744073709551616 := by omega
    generalize xpo true a = X at *
    obtain ⟨x0, x1⟩ := x0
    generalize a % 8388608 = M at *
    by_cases c : X = 0
    · subst c
      rw [if_neg (by decide), if_neg (by decide)]
      go_enter Try.func26, Try.ntmps26
      go_wp2_with (first
        | (go_at_call 53; refine (hs _).mono ?_; rintro e w1 ⟨rfl, rfl⟩)
        | (go_at_call 54; refine (hp _).mono ?_; rintro e w1 ⟨rfl, rfl⟩))
      exact bodyPost_ret (v := .tuple #[.int .u64 M, .int .i64 (-149)]) (by simp [results, Try.results26, go_sem]) rfl ⟨rfl, rfl⟩
    · rw [if_pos (by omega), if_pos (by omega)]
      have c' : (X == 0) = false := by simp [c]
      have e3 : X - 1 + -149 = -149 + (X - 1) := by omega
      generalize M + 8388608 = MM at *
      go_enter Try.func26, Try.ntmps26
      go_wp2_with (first
        | (go_at_call 53; refine (hs _).mono ?_; rintro e w1 ⟨rfl, rfl⟩)
        | (go_at_call 54; refine (hp _).mono ?_; rintro e w1 ⟨rfl, rfl⟩))
      refine bodyPost_ret (v := .tuple #[.int .u64 MM, .int .i64 (-149 + (X - 1))]) ?_ rfl ⟨rfl, rfl⟩
      simp [results, Try.results26, go_sem]
      try omega
/-- The reference's Round. -/
theorem clamp_bd (e : Int) : -4000 ≤ clamp e ∧ clamp e ≤ 4000 := by unfold clamp; omega
theorem bits_app {n A : Nat} {b : Bool} : [Value.bool b, Value.bool false] ++ Bl n A = Bl (2 + n) (4 * A + b.toNat) := by
  have e1 := Bl_cons n A false
  have e2 := Bl_cons (n + 1) (2 * A + false.toNat) b
  rw [← e1] at e2
  rw [show [Value.bool b, Value.bool false] ++ Bl n A = Value.bool b :: Value.bool false :: Bl n A from rfl, e2, show 2 + n = n + 1 + 1 by omega]
  congr 1
  simp only [Bool.toNat_false]
  omega
theorem row_bl {w : World} {b n A : Nat} (row : RowB w b n (fun i => A.testBit i)) : ∀ j u, (Bl n A)[j]? = some u → w.cell? (Addr.add ⟨b, 0, none⟩ j) = some u := by
  intro j u hj
  have hl : j < n := by
    by_cases c : j < n
    · exact c
    · rw [List.getElem?_eq_none (by rw [Bl_len]; omega)] at hj; cases hj
  rw [Bl_get _ _ _ hl] at hj
  have := row j hl
  have e : Addr.add ⟨b, 0, none⟩ j = ⟨b, j, none⟩ := by simp [Addr.add]; intro h; exact h.symm
  rw [e, this, hj]
theorem own_below {W w1 : World} {base n size : Nat} {e : TypeId} {v : Value} {xs : List Value} (h : W.ownsRow base e size v n xs) (hb : Below W.heap.size W w1) : w1.ownsRow base e size v n xs := by
  refine ⟨h.1, ?_⟩
  rcases h.2 with hn | ⟨g, cap, cur, rfl, h1, h2, h3⟩
  · exact Or.inl hn
  · exact Or.inr ⟨g, cap, cur, rfl, h1, by rw [hb.block g (lt_of_block h2)]; exact h2, h3⟩
theorem below_drewN {B : Nat} {a w : World} (h : Below B a w) (n : Nat) : Below B a (w.drewN n) := ⟨h.os, h.tape, h.output, h.size, h.block⟩
end Go.Proofs.Ytaiihaopgchbfaa

