/- span's line of ints: its functions do what is said. -/
import Derived.Test.YtpcbammncaeimaaSpVi
namespace Go.Proofs.Ytpcbammncaeimaa
open Go.RowKit
set_option linter.unusedVariables false
set_option linter.unusedSimpArgs false
/-- The line of ints. -/
def LnI : Ln := { least := -2147483648, most := 2147483647, past := 4, ko := 101, kp := 103, k1 := 104, kv := 105, kn := 106, ku := 107, kt := 108, kz := 109, co := #[], cp := #[], c1 := #[], cv := #[], cn := #[], cu := #[], ct := #[], cz := #[] }
/-- How two ints stand. -/
def cmpI (x y : Int) : Int := if x < y then -1 else if x > y then 1 else 0
def in32 (x : Int) : Bool := decide (-2147483648 ≤ x ∧ x ≤ 2147483647)
def WyI : Ways := { dom := fun x => -9223372036854775808 ≤ x ∧ x ≤ 9223372036854775807, ord := cmpI, pl := fun x => x, one := in32, prv := fun x => x - 1, nxt := fun x => x + 1 }
set_option maxRecDepth 100000 in
theorem ints_any (w : World) : Calls Try.prog 83 #[] w fun e w' => e = .returned (.agg (lvi LnI)) ∧ Below w.heap.size w w' := by
  go_enter Try.func83, Try.ntmps83
  go_wp2_with fail
  refine bodyPost_ret (v := .agg (lvi LnI)) (by simp [results, Try.results83, go_sem, lvi, LnI]) rfl ?_
  exact ⟨rfl, sp_new (Below.refl _ _) _⟩
set_option maxRecDepth 100000 in
theorem isNaN_any (x : Int) (w : World) : Calls Try.prog 113 #[.int .i64 x] w fun e w' => e = .returned (.bool false) ∧ w' = w := by
  go_enter Try.func113, Try.ntmps113
  go_wp2_with fail
  go_ret
  exact ⟨rfl, rfl⟩
set_option maxRecDepth 100000 in
theorem cmpc_any (x y : Int) (w : World) : Calls Try.prog 102 #[.int .i64 x, .int .i64 y] w fun e w' => e = .returned (.int .i64 (cmpI x y)) ∧ w' = w := by
  have hx := isNaN_any x
  have hy := isNaN_any y
  unfold cmpI
  rcases (show x < y ∨ x > y ∨ x = y by omega) with c | c | c
  · rw [if_pos c]
    go_enter Try.func102, Try.ntmps102
    go_wp2_with (first
      | (go_at_call 113; refine (hx _).mono ?_; rintro e w1 ⟨rfl, rfl⟩; clear hx)
      | (go_at_call 113; refine (hy _).mono ?_; rintro e w2 ⟨rfl, rfl⟩)
      | fail)
    go_ret
    exact ⟨rfl, rfl⟩
  · rw [if_neg (by omega), if_pos c]
    have c' : ¬ x < y := by omega
    have c2 : y < x := c
    go_enter Try.func102, Try.ntmps102
    go_wp2_with (first
      | (go_at_call 113; refine (hx _).mono ?_; rintro e w1 ⟨rfl, rfl⟩; clear hx)
      | (go_at_call 113; refine (hy _).mono ?_; rintro e w2 ⟨rfl, rfl⟩)
      | fail)
    go_ret
    exact ⟨rfl, rfl⟩
  · subst c
    rw [if_neg (by omega), if_neg (by omega)]
    go_enter Try.func102, Try.ntmps102
    go_wp2_with (first
      | (go_at_call 113; refine (hx _).mono ?_; rintro e w1 ⟨rfl, rfl⟩)
      | fail)
    go_ret
    exact ⟨rfl, rfl⟩
set_option maxRecDepth 100000 in
theorem order_i (x y : Int) (w : World) : Calls Try.prog 101 #[.int .i64 x, .int .i64 y] w fun e w' => e = .returned (.int .i64 (cmpI x y)) ∧ Below w.heap.size w w' := by
  have hc := cmpc_any x y
  generalize cmpI x y = c at *
  go_enter Try.func101, Try.ntmps101
  go_wp2_with (go_at_call 102; refine (hc _).mono ?_; rintro e w1 ⟨rfl, rfl⟩)
  go_ret
  exact ⟨rfl, Below.refl _ _⟩
set_option maxRecDepth 100000 in
theorem plain_i (x : Int) (w : World) : Calls Try.prog 103 #[.int .i64 x] w fun e w' => e = .returned (.int .i64 x) ∧ Below w.heap.size w w' := by
  go_enter Try.func103, Try.ntmps103
  go_wp2_with fail
  go_ret
  exact ⟨rfl, Below.refl _ _⟩
set_option maxRecDepth 100000 in
theorem isOne_i (x : Int) (w : World) : Calls Try.prog 104 #[.int .i64 x] w fun e w' => e = .returned (.bool (in32 x)) ∧ Below w.heap.size w w' := by
  unfold in32
  by_cases c1 : -2147483648 ≤ x
  · by_cases c2 : x ≤ 2147483647
    · rw [decide_eq_true ⟨c1, c2⟩]
      have t : decide (x ≤ 2147483647) = true := decide_eq_true c2
      go_enter Try.func104, Try.ntmps104
      go_wp2_with fail
      go_ret
      exact ⟨rfl, Below.refl _ _⟩
    · rw [decide_eq_false (fun h => c2 h.2)]
      have t : decide (x ≤ 2147483647) = false := decide_eq_false c2
      clear c2
      go_enter Try.func104, Try.ntmps104
      go_wp2_with fail
      go_ret
      exact ⟨rfl, Below.refl _ _⟩
  · rw [decide_eq_false (fun h => c1 h.1)]
    have c3 : x < -2147483648 := by omega
    clear c1
    go_enter Try.func104, Try.ntmps104
    go_wp2_with fail
    go_ret
    exact ⟨rfl, Below.refl _ _⟩
set_option maxRecDepth 100000 in
theorem prev_i (x : Int) (h1 : -2147483648 ≤ x) (h2 : x ≤ 2147483647) (w : World) : Calls Try.prog 105 #[.int .i64 x] w fun e w' => e = .returned (.int .i64 (x - 1)) ∧ Below w.heap.size w w' := by
  go_enter Try.func105, Try.ntmps105
  go_wp2_with fail
  go_ret
  exact ⟨rfl, Below.refl _ _⟩
set_option maxRecDepth 100000 in
theorem next_i (x : Int) (h1 : -2147483648 ≤ x) (h2 : x ≤ 2147483647) (w : World) : Calls Try.prog 106 #[.int .i64 x] w fun e w' => e = .returned (.int .i64 (x + 1)) ∧ Below w.heap.size w w' := by
  go_enter Try.func106, Try.ntmps106
  go_wp2_with fail
  go_ret
  exact ⟨rfl, Below.refl _ _⟩
theorem acts_i (w0 : World) : Actsi LnI WyI 0 w0 where
  hB := Nat.zero_le _
  ord := fun x y V _ _ _ => order_i x y V
  pl := fun x V _ _ => plain_i x V
  one := fun x V _ _ => isOne_i x V
  prv := fun x V _ h _ => prev_i x (by have := of_decide_eq_true h; omega) (by have := of_decide_eq_true h; omega) V
  nxt := fun x V _ h _ => next_i x (by have := of_decide_eq_true h; omega) (by have := of_decide_eq_true h; omega) V
  eo := enters_of Try.func101 (by kernel_rfl) rfl
  ep := enters_of Try.func103 (by kernel_rfl) rfl
  e1 := enters_of Try.func104 (by kernel_rfl) rfl
  ev := enters_of Try.func105 (by kernel_rfl) rfl
  en := enters_of Try.func106 (by kernel_rfl) rfl
end Go.Proofs.Ytpcbammncaeimaa

