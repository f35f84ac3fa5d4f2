/- span's ints: how two are reckoned with, and small calls. -/
import Derived.Test.YtpcbammncaeimaaSpI
namespace Go.Proofs.Ytpcbammncaeimaa
open Go.RowKit
set_option linter.unusedVariables false
set_option linter.unusedSimpArgs false
set_option maxRecDepth 100000 in
theorem trapsOf_4 (w : World) : Calls Try.prog 110 #[.int .i64 4] w fun e w' => e = .returned (.int .i64 8) ∧ w' = w := by
  go_enter Try.func110, Try.ntmps110
  go_wp2_with fail
  go_ret
  exact ⟨rfl, rfl⟩
set_option maxRecDepth 100000 in
theorem trapsOf_5 (w : World) : Calls Try.prog 110 #[.int .i64 5] w fun e w' => e = .returned (.int .i64 16) ∧ w' = w := by
  go_enter Try.func110, Try.ntmps110
  go_wp2_with fail
  go_ret
  exact ⟨rfl, rfl⟩
set_option maxRecDepth 100000 in
theorem byZero_i (e1 : Bool) (a b : Int) (w : World) : Calls Try.prog 109 #[.agg #[.bool e1, .int .i64 a, .int .i64 b]] w fun e w' => e = .returned (.int .i64 16) ∧ Below w.heap.size w w' := by
  have h := trapsOf_5
  go_enter Try.func109, Try.ntmps109
  go_wp2_with (go_at_call 110; refine (h _).mono ?_; rintro e w1 ⟨rfl, rfl⟩)
  go_ret
  exact ⟨rfl, sp_new (Below.refl _ _) _⟩
set_option maxRecDepth 100000 in
theorem ofInts_any (e1 : Bool) (a b : Int) (w : World) : Calls Try.prog 86 #[.agg #[.bool e1, .int .i64 a, .int .i64 b]] w fun e w' => e = .returned (.agg #[.bool e1, .int .i64 a, .int .i64 b]) ∧ Below w.heap.size w w' := by
  go_enter Try.func86, Try.ntmps86
  go_wp2_with fail
  exact bodyPost_ret (v := .agg #[.bool e1, .int .i64 a, .int .i64 b]) (by simp [results, Try.results86, go_sem]) rfl ⟨rfl, sp_new (sp_new (Below.refl _ _) _) _⟩
set_option maxRecDepth 100000 in
theorem intRange_any (e1 : Bool) (a b : Int) (w : World) : Calls Try.prog 82 #[.agg #[.bool e1, .int .i64 a, .int .i64 b]] w fun e w' => e = .returned (.agg #[.bool e1, .int .i64 a, .int .i64 b]) ∧ Below w.heap.size w w' := by
  go_enter Try.func82, Try.ntmps82
  go_wp2_with fail
  exact bodyPost_ret (v := .agg #[.bool e1, .int .i64 a, .int .i64 b]) (by simp [results, Try.results82, go_sem]) rfl ⟨rfl, sp_new (sp_new (Below.refl _ _) _) _⟩
/-- Two ints by an op. -/
def gI (op x y : Int) : Int := if op = 8 then x + y else if op = 9 then x - y else if op = 10 then x * y else x.tdiv y
def okI (op x y : Int) : Prop := -2147483648 ≤ x ∧ x ≤ 2147483647 ∧ -2147483648 ≤ y ∧ y ≤ 2147483647 ∧ (op = 11 → y ≠ 0)
theorem mulI_bound {x y : Int} (h1 : -2147483648 ≤ x) (h2 : x ≤ 2147483647) (h3 : -2147483648 ≤ y) (h4 : y ≤ 2147483647) : -4611686018427387904 ≤ x * y ∧ x * y ≤ 4611686018427387904 := by
  have a1 : x.natAbs ≤ 2147483648 := by omega
  have a2 : y.natAbs ≤ 2147483648 := by omega
  have a3 := Nat.mul_le_mul a1 a2
  rw [← Int.natAbs_mul] at a3
  omega
set_option maxRecDepth 100000 in
theorem add_i (x y : Int) (h : okI 8 x y) (w : World) : Calls Try.prog 116 #[.int .i64 x, .int .i64 y] w fun e w' => e = .returned (.int .i64 (gI 8 x y)) ∧ Below w.heap.size w w' := by
  obtain ⟨h1, h2, h3, h4, _⟩ := h
  go_enter Try.func116, Try.ntmps116
  go_wp2_with fail
  go_ret
  exact ⟨by simp [gI], Below.refl _ _⟩
set_option maxRecDepth 100000 in
theorem sub_i (x y : Int) (h : okI 9 x y) (w : World) : Calls Try.prog 117 #[.int .i64 x, .int .i64 y] w fun e w' => e = .returned (.int .i64 (gI 9 x y)) ∧ Below w.heap.size w w' := by
  obtain ⟨h1, h2, h3, h4, _⟩ := h
  go_enter Try.func117, Try.ntmps117
  go_wp2_with fail
  go_ret
  exact ⟨by simp [gI], Below.refl _ _⟩
set_option maxRecDepth 100000 in
theorem mul_i (x y : Int) (h : okI 10 x y) (w : World) : Calls Try.prog 118 #[.int .i64 x, .int .i64 y] w fun e w' => e = .returned (.int .i64 (gI 10 x y)) ∧ Below w.heap.size w w' := by
  obtain ⟨h1, h2, h3, h4, _⟩ := h
  obtain ⟨b1, b2⟩ := mulI_bound h1 h2 h3 h4
  go_enter Try.func118, Try.ntmps118
  go_wp2_with fail
  go_ret
  exact ⟨by simp [gI], Below.refl _ _⟩
set_option maxRecDepth 100000 in
theorem div_i (x y : Int) (h : okI 11 x y) (w : World) : Calls Try.prog 119 #[.int .i64 x, .int .i64 y] w fun e w' => e = .returned (.int .i64 (gI 11 x y)) ∧ Below w.heap.size w w' := by
  obtain ⟨h1, h2, h3, h4, h5⟩ := h
  have h6 : ¬ y = 0 := h5 rfl
  have h7 : (y == 0) = false := by simp [h6]
  have b : -2147483648 ≤ x.tdiv y ∧ x.tdiv y ≤ 2147483648 := by
    have a := Int.natAbs_tdiv_le_natAbs x y
    omega
  clear h5
  go_enter Try.func119, Try.ntmps119
  go_wp2_with fail
  go_ret
  exact ⟨by simp [gI], Below.refl _ _⟩
set_option maxRecDepth 100000 in
theorem by2_i (op : Int) (h : op = 8 ∨ op = 9 ∨ op = 10 ∨ op = 11) (w0 : World) : By2i LnI WyI 0 w0 op (okI op) (gI op) := by
  intro V _
  rcases h with rfl | rfl | rfl | rfl
  · show Calls Try.prog 108 #[.int .i64 8] V _
    go_enter Try.func108, Try.ntmps108
    go_wp2_with fail
    go_ret
    exact ⟨Below.refl _ _, _, _, rfl, enters_of Try.func116 (by kernel_rfl) rfl, fun x y X h _ => add_i x y h X⟩
  · show Calls Try.prog 108 #[.int .i64 9] V _
    go_enter Try.func108, Try.ntmps108
    go_wp2_with fail
    go_ret
    exact ⟨Below.refl _ _, _, _, rfl, enters_of Try.func117 (by kernel_rfl) rfl, fun x y X h _ => sub_i x y h X⟩
  · show Calls Try.prog 108 #[.int .i64 10] V _
    go_enter Try.func108, Try.ntmps108
    go_wp2_with fail
    go_ret
    exact ⟨Below.refl _ _, _, _, rfl, enters_of Try.func118 (by kernel_rfl) rfl, fun x y X h _ => mul_i x y h X⟩
  · show Calls Try.prog 108 #[.int .i64 11] V _
    go_enter Try.func108, Try.ntmps108
    go_wp2_with fail
    go_ret
    exact ⟨Below.refl _ _, _, _, rfl, enters_of Try.func119 (by kernel_rfl) rfl, fun x y X h _ => div_i x y h X⟩
end Go.Proofs.Ytpcbammncaeimaa

