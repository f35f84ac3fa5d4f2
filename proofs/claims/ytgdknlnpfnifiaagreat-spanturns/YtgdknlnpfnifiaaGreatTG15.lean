/- Texts of the proof, put together. -/
import Derived.Test.YtgdknlnpfnifiaaGreatTG14
namespace Go.Proofs.YtgdknlnpfnifiaaGreat
open Go.RowKit
set_option linter.unusedVariables false
set_option linter.unusedSimpArgs false
def LnI : Ln := { least := -2147483648, most := 2147483647, past := 4, ko := 117, kp := 119, k1 := 120, kv := 121, kn := 122, ku := 123, kt := 124, kz := 125, co := #[], cp := #[], c1 := #[], cv := #[], cn := #[], cu := #[], ct := #[], cz := #[] }
def cmpI (x y : Int) : Int := if x < y then -1 else if x > y then 1 else 0
def in32 (x : Int) : Bool := decide (-2147483648 ≤ x ∧ x ≤ 2147483647)
def WyI : Ways := { dom := fun x => -9223372036854775808 ≤ x ∧ x ≤ 9223372036854775807, ord := cmpI, pl := fun x => x, one := in32, prv := fun x => x - 1, nxt := fun x => x + 1 }
set_option maxRecDepth 100000 in
theorem ints_any (w : World) : Calls Tryz.prog 52 #[] w fun e w' => e = .returned (.agg (lvi LnI)) ∧ Below w.heap.size w w' := by
  go_enter Tryz.func52, Tryz.ntmps52
  go_wp2_with fail
  refine bodyPost_ret (v := .agg (lvi LnI)) (by simp [results, Tryz.results52, go_sem, lvi, LnI]) rfl ?_
  exact ⟨rfl, sp_new (Below.refl _ _) _⟩
set_option maxRecDepth 100000 in
theorem isNaN_any (x : Int) (w : World) : Calls Tryz.prog 183 #[.int .i64 x] w fun e w' => e = .returned (.bool false) ∧ w' = w := by
  go_enter Tryz.func183, Tryz.ntmps183
  go_wp2_with fail
  go_ret
  exact ⟨rfl, rfl⟩
set_option maxRecDepth 100000 in
theorem cmpc_any (x y : Int) (w : World) : Calls Tryz.prog 118 #[.int .i64 x, .int .i64 y] w fun e w' => e = .returned (.int .i64 (cmpI x y)) ∧ w' = w := by
  have hx := isNaN_any x
  have hy := isNaN_any y
  unfold cmpI
  rcases (show x < y ∨ x > y ∨ x = y by omega) with c | c | c
  · rw [if_pos c]
    go_enter Tryz.func118, Tryz.ntmps118
    go_wp2_with (first
      | (go_at_call 183; refine (hx _).mono ?_; rintro e w1 ⟨rfl, rfl⟩; clear hx)
      | (go_at_call 183; refine (hy _).mono ?_; rintro e w2 ⟨rfl, rfl⟩)
      | fail)
    go_ret
    exact ⟨rfl, rfl⟩
  · rw [if_neg (by omega), if_pos c]
    have c' : ¬ x < y := by omega
    have c2 : y < x := c
    go_enter Tryz.func118, Tryz.ntmps118
    go_wp2_with (first
      | (go_at_call 183; refine (hx _).mono ?_; rintro e w1 ⟨rfl, rfl⟩; clear hx)
      | (go_at_call 183; refine (hy _).mono ?_; rintro e w2 ⟨rfl, rfl⟩)
      | fail)
    go_ret
    exact ⟨rfl, rfl⟩
  · subst c
    rw [if_neg (by omega), if_neg (by omega)]
    go_enter Tryz.func118, Tryz.ntmps118
    go_wp2_with (first
      | (go_at_call 183; refine (hx _).mono ?_; rintro e w1 ⟨rfl, rfl⟩)
      | fail)
    go_ret
    exact ⟨rfl, rfl⟩
set_option maxRecDepth 100000 in
theorem order_i (x y : Int) (w : World) : Calls Tryz.prog 117 #[.int .i64 x, .int .i64 y] w fun e w' => e = .returned (.int .i64 (cmpI x y)) ∧ Below w.heap.size w w' := by
  have hc := cmpc_any x y
  generalize cmpI x y = c at *
  go_enter Tryz.func117, Tryz.ntmps117
  go_wp2_with (go_at_call 118; refine (hc _).mono ?_; rintro e w1 ⟨rfl, rfl⟩)
  go_ret
  exact ⟨rfl, Below.refl _ _⟩
set_option maxRecDepth 100000 in
theorem plain_i (x : Int) (w : World) : Calls Tryz.prog 119 #[.int .i64 x] w fun e w' => e = .returned (.int .i64 x) ∧ Below w.heap.size w w' := by
  go_enter Tryz.func119, Tryz.ntmps119
  go_wp2_with fail
  go_ret
  exact ⟨rfl, Below.refl _ _⟩
set_option maxRecDepth 100000 in
theorem isOne_i (x : Int) (w : World) : Calls Tryz.prog 120 #[.int .i64 x] w fun e w' => e = .returned (.bool (in32 x)) ∧ Below w.heap.size w w' := by
  unfold in32
  by_cases c1 : -2147483648 ≤ x
  · by_cases c2 : x ≤ 2147483647
    · rw [decide_eq_true ⟨c1, c2⟩]
      have t : decide (x ≤ 2147483647) = true := decide_eq_true c2
      go_enter Tryz.func120, Tryz.ntmps120
      go_wp2_with fail
      go_ret
      exact ⟨rfl, Below.refl _ _⟩
    · rw [decide_eq_false (fun h => c2 h.2)]
      have t : decide (x ≤ 2147483647) = false := decide_eq_false c2
      clear c2
      go_enter Tryz.func120, Tryz.ntmps120
      go_wp2_with fail
      go_ret
      exact ⟨rfl, Below.refl _ _⟩
  · rw [decide_eq_false (fun h => c1 h.1)]
    have c3 : x < -2147483648 := by omega
    clear c1
    go_enter Tryz.func120, Tryz.ntmps120
    go_wp2_with fail
    go_ret
    exact ⟨rfl, Below.refl _ _⟩
set_option maxRecDepth 100000 in
theorem prev_i (x : Int) (h1 : -2147483648 ≤ x) (h2 : x ≤ 2147483647) (w : World) : Calls Tryz.prog 121 #[.int .i64 x] w fun e w' => e = .returned (.int .i64 (x - 1)) ∧ Below w.heap.size w w' := by
  go_enter Tryz.func121, Tryz.ntmps121
  go_wp2_with fail
  go_ret
  exact ⟨rfl, Below.refl _ _⟩
set_option maxRecDepth 100000 in
theorem next_i (x : Int) (h1 : -2147483648 ≤ x) (h2 : x ≤ 2147483647) (w : World) : Calls Tryz.prog 122 #[.int .i64 x] w fun e w' => e = .returned (.int .i64 (x + 1)) ∧ Below w.heap.size w w' := by
  go_enter Tryz.func122, Tryz.ntmps122
  go_wp2_with fail
  go_ret
  exact ⟨rfl, Below.refl _ _⟩
theorem acts_i (w0 : World) : Actsi LnI WyI 0 w0 where
  hB := Nat.zero_le _
  ord := fun x y V _ _ _ => order_i x y V
  pl := fun x V _ _ => plain_i x V
  one := fun x V _ _ => isOne_i x V
  prv := fun x V _ h _ => prev_i x (by have := of_decide_eq_true h; omega) (by have := of_decide_eq_true h; omega) V
  nxt := fun x V _ h _ => next_i x (by have := of_decide_eq_true h; omega) (by have := of_decide_eq_true h; omega) V
  eo := enters_of Tryz.func117 (by kernel_rfl) rfl
  ep := enters_of Tryz.func119 (by kernel_rfl) rfl
  e1 := enters_of Tryz.func120 (by kernel_rfl) rfl
  ev := enters_of Tryz.func121 (by kernel_rfl) rfl
  en := enters_of Tryz.func122 (by kernel_rfl) rfl
end Go.Proofs.YtgdknlnpfnifiaaGreat


namespace Go.Proofs.YtgdknlnpfnifiaaGreat
theorem ordI_pos (x y : Int) : 0 < WyI.ord x y ↔ y < x := by unfold WyI cmpI; simp only; split <;> (try split) <;> omega
theorem ordI_neg (x y : Int) : WyI.ord x y < 0 ↔ x < y := by unfold WyI cmpI; simp only; split <;> (try split) <;> omega
theorem ordI_le (x y : Int) : WyI.ord x y ≤ 0 ↔ x ≤ y := by unfold WyI cmpI; simp only; split <;> (try split) <;> omega
end Go.Proofs.YtgdknlnpfnifiaaGreat


