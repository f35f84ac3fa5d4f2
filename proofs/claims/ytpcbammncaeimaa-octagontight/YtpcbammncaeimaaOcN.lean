/- octagon: what a nil one answers. -/
import Derived.Test.YtpcbammncaeimaaOcI
import Derived.Test.YtpcbammncaeimaaOcJ
import Derived.Test.YtpcbammncaeimaaOcC
namespace Go.Proofs.Ytpcbammncaeimaa
open Go.RowKit
set_option linter.unusedVariables false
set_option linter.unusedSimpArgs false
set_option maxRecDepth 100000 in
theorem nnew (n : Int) (h : n < 1 ∨ 8 < n) (w : World) : Calls Try.prog 31 #[.int .i64 n] w fun r w' => r = .returned (.pointer none) ∧ w' = w := by
  rcases h with h | h
  · go_enter Try.func31, Try.ntmps31
    go_wp2_with fail
    go_ret
    exact ⟨rfl, rfl⟩
  · have h' : ¬ n < 1 := by omega
    go_enter Try.func31, Try.ntmps31
    go_wp2_with fail
    go_ret
    exact ⟨rfl, rfl⟩
set_option maxRecDepth 100000 in
theorem nalike1 (p : Value) (hp : ∃ a, p = .pointer a) (w : World) : Calls Try.prog 45 #[.pointer none, p] w fun r w' => r = .returned (.bool false) ∧ ∃ k, w' = w.drewN k := by
  obtain ⟨a, rfl⟩ := hp
  go_enter Try.func45, Try.ntmps45
  go_upto_region 1 with fail
  go_quiet (fail)
  go_wp2_with fail
  go_ret
  exact ⟨rfl, _, rfl⟩
set_option maxRecDepth 100000 in
theorem nalike2 (b : Nat) (w : World) : Calls Try.prog 45 #[.pointer (some ⟨b, 0, none⟩), .pointer none] w fun r w' => r = .returned (.bool false) ∧ ∃ k, w' = w.drewN k := by
  go_enter Try.func45, Try.ntmps45
  go_upto_region 1 with fail
  go_quiet (fail)
  go_wp2_with fail
  go_ret
  exact ⟨rfl, _, rfl⟩
theorem drewN_below (w : World) (k : Nat) : Below w.heap.size w (w.drewN k) := ⟨rfl, rfl, rfl, Nat.le_refl _, fun _ _ => rfl⟩
set_option maxRecDepth 100000 in
theorem njoin (o p : Value) (ho : ∃ a, o = .pointer a) (hp : ∃ a, p = .pointer a) (ka : ∀ V, Calls Try.prog 45 #[o, p] V fun r w' => r = .returned (.bool false) ∧ ∃ k, w' = V.drewN k) (w : World) : Calls Try.prog 27 #[o, p] w fun r w' => r = .returned (.pointer none) ∧ Below w.heap.size w w' := by
  obtain ⟨a, rfl⟩ := ho
  obtain ⟨c, rfl⟩ := hp
  go_enter Try.func27, Try.ntmps27
  go_wp2_with (first
    | (go_at_call 45; refine (ka _).mono ?_; rintro r w1 ⟨rfl, k, rfl⟩)
    | fail)
  go_ret
  exact ⟨rfl, drewN_below _ _⟩
set_option maxRecDepth 100000 in
theorem nmeet (o p : Value) (ho : ∃ a, o = .pointer a) (hp : ∃ a, p = .pointer a) (ka : ∀ V, Calls Try.prog 45 #[o, p] V fun r w' => r = .returned (.bool false) ∧ ∃ k, w' = V.drewN k) (w : World) : Calls Try.prog 28 #[o, p] w fun r w' => r = .returned (.pointer none) ∧ Below w.heap.size w w' := by
  obtain ⟨a, rfl⟩ := ho
  obtain ⟨c, rfl⟩ := hp
  go_enter Try.func28, Try.ntmps28
  go_wp2_with (first
    | (go_at_call 45; refine (ka _).mono ?_; rintro r w1 ⟨rfl, k, rfl⟩)
    | fail)
  go_ret
  exact ⟨rfl, drewN_below _ _⟩
set_option maxRecDepth 100000 in
theorem nwiden (o p : Value) (ho : ∃ a, o = .pointer a) (hp : ∃ a, p = .pointer a) (ka : ∀ V, Calls Try.prog 45 #[o, p] V fun r w' => r = .returned (.bool false) ∧ ∃ k, w' = V.drewN k) (w : World) : Calls Try.prog 29 #[o, p] w fun r w' => r = .returned (.pointer none) ∧ Below w.heap.size w w' := by
  obtain ⟨a, rfl⟩ := ho
  obtain ⟨c, rfl⟩ := hp
  go_enter Try.func29, Try.ntmps29
  go_wp2_with (first
    | (go_at_call 45; refine (ka _).mono ?_; rintro r w1 ⟨rfl, k, rfl⟩)
    | fail)
  go_ret
  exact ⟨rfl, drewN_below _ _⟩
set_option maxRecDepth 100000 in
theorem nwithin (o p : Value) (ho : ∃ a, o = .pointer a) (hp : ∃ a, p = .pointer a) (ka : ∀ V, Calls Try.prog 45 #[o, p] V fun r w' => r = .returned (.bool false) ∧ ∃ k, w' = V.drewN k) (w : World) : Calls Try.prog 16 #[o, p] w fun r w' => r = .returned (.bool false) ∧ Below w.heap.size w w' := by
  obtain ⟨a, rfl⟩ := ho
  obtain ⟨c, rfl⟩ := hp
  go_enter Try.func16, Try.ntmps16
  go_wp2_with (first
    | (go_at_call 45; refine (ka _).mono ?_; rintro r w1 ⟨rfl, k, rfl⟩)
    | fail)
  go_ret
  exact ⟨rfl, drewN_below _ _⟩
set_option maxRecDepth 100000 in
theorem nfork (w : World) : Calls Try.prog 19 #[.pointer none] w fun r w' => r = .returned (.pointer none) ∧ Below w.heap.size w w' := by
  go_enter Try.func19, Try.ntmps19
  go_wp2_with fail
  go_ret
  exact ⟨rfl, Below.refl _ _⟩
set_option maxRecDepth 100000 in
theorem nvars (w : World) : Calls Try.prog 22 #[.pointer none] w fun r w' => r = .returned (.int .i64 0) ∧ Below w.heap.size w w' := by
  go_enter Try.func22, Try.ntmps22
  go_wp2_with fail
  go_ret
  exact ⟨rfl, Below.refl _ _⟩
set_option maxRecDepth 100000 in
theorem nempty (w : World) : Calls Try.prog 21 #[.pointer none] w fun r w' => r = .returned (.bool false) ∧ Below w.heap.size w w' := by
  go_enter Try.func21, Try.ntmps21
  go_wp2_with fail
  go_ret
  exact ⟨rfl, Below.refl _ _⟩
set_option maxRecDepth 100000 in
theorem nisvar (i : Int) (w : World) : Calls Try.prog 51 #[.pointer none, .int .i64 i] w fun r w' => r = .returned (.bool false) ∧ w' = w := by
  go_enter Try.func51, Try.ntmps51
  go_wp2_with fail
  go_ret
  exact ⟨rfl, rfl⟩
set_option maxRecDepth 100000 in
theorem nbound (i : Int) (gi : Bool) (k : Int) (gk : Bool) (w : World) : Calls Try.prog 38 #[.pointer none, .int .i64 i, .bool gi, .int .i64 k, .bool gk] w fun r w' => r = .returned (.int .i64 0) ∧ Below w.heap.size w w' := by
  have v := nisvar i
  go_enter Try.func38, Try.ntmps38
  go_wp2_with (first
    | (go_at_call 51; refine (v _).mono ?_; rintro r w2 ⟨rfl, hw2⟩; subst w2)
    | fail)
  go_ret
  exact ⟨rfl, Below.refl _ _⟩
set_option maxRecDepth 100000 in
theorem nfault (c far : Int) (p : Option Addr) (n m : Nat) (w : World) : Calls Try.prog 55 #[.pointer none, .int .i64 c, .int .i64 far, .slice p n m] w fun r w' => r = .returned (.int .i64 1) ∧ w' = w := by
  go_enter Try.func55, Try.ntmps55
  go_wp2_with fail
  go_ret
  exact ⟨rfl, rfl⟩
set_option maxRecDepth 100000 in
theorem nlimit (i : Int) (gi : Bool) (k : Int) (gk : Bool) (c : Int) (w : World) : Calls Try.prog 30 #[.pointer none, .int .i64 i, .bool gi, .int .i64 k, .bool gk, .int .i64 c] w fun r w' => r = .returned (.int .i64 1) ∧ Below w.heap.size w w' := by
  have v := nfault
  go_enter Try.func30, Try.ntmps30
  go_wp2_with (first
    | (go_at_call 55; refine (v _ _ _ _ _ _).mono ?_; rintro r w2 ⟨rfl, hw2⟩; subst w2)
    | fail)
  go_ret
  exact ⟨rfl, sp_new (Below.refl _ _) _⟩
set_option maxRecDepth 100000 in
theorem nforget (i : Int) (w : World) : Calls Try.prog 48 #[.pointer none, .int .i64 i] w fun r w' => r = .returned (.int .i64 1) ∧ Below w.heap.size w w' := by
  have v := nfault
  go_enter Try.func48, Try.ntmps48
  go_wp2_with (first
    | (go_at_call 55; refine (v _ _ _ _ _ _).mono ?_; rintro r w2 ⟨rfl, hw2⟩; subst w2)
    | fail)
  go_ret
  exact ⟨rfl, sp_new (Below.refl _ _) _⟩
set_option maxRecDepth 100000 in
theorem ncopy (i k : Int) (g : Bool) (c : Int) (w : World) : Calls Try.prog 49 #[.pointer none, .int .i64 i, .int .i64 k, .bool g, .int .i64 c] w fun r w' => r = .returned (.int .i64 1) ∧ Below w.heap.size w w' := by
  have v := nfault
  go_enter Try.func49, Try.ntmps49
  go_wp2_with (first
    | (go_at_call 55; refine (v _ _ _ _ _ _).mono ?_; rintro r w2 ⟨rfl, hw2⟩; subst w2)
    | fail)
  go_ret
  exact ⟨rfl, sp_new (Below.refl _ _) _⟩
set_option maxRecDepth 100000 in
theorem nshift (i : Int) (g : Bool) (c : Int) (w : World) : Calls Try.prog 50 #[.pointer none, .int .i64 i, .bool g, .int .i64 c] w fun r w' => r = .returned (.int .i64 1) ∧ Below w.heap.size w w' := by
  have v := nfault
  go_enter Try.func50, Try.ntmps50
  go_wp2_with (first
    | (go_at_call 55; refine (v _ _ _ _ _ _).mono ?_; rintro r w2 ⟨rfl, hw2⟩; subst w2)
    | fail)
  go_ret
  exact ⟨rfl, sp_new (Below.refl _ _) _⟩
set_option maxRecDepth 100000 in
theorem nset (i : Int) (e : Bool) (a c : Int) (w : World) : Calls Try.prog 26 #[.pointer none, .int .i64 i, .agg #[.bool e, .int .i64 a, .int .i64 c]] w fun r w' => r = .returned (.int .i64 1) ∧ Below w.heap.size w w' := by
  have v := nfault
  go_enter Try.func26, Try.ntmps26
  go_wp2_with (first
    | (go_at_call 55; refine (v _ _ _ _ _ _).mono ?_; rintro r w2 ⟨rfl, hw2⟩; subst w2)
    | fail)
  go_ret
  exact ⟨rfl, sp_new (sp_new (Below.refl _ _) _) _⟩
set_option maxRecDepth 100000 in
theorem nhas (p : Option Addr) (n m : Nat) (w : World) : Calls Try.prog 14 #[.pointer none, .slice p n m] w fun r w' => r = .returned (.bool false) ∧ Below w.heap.size w w' := by
  go_enter Try.func14, Try.ntmps14
  go_wp2_with fail
  go_ret
  exact ⟨rfl, Below.refl _ _⟩
set_option maxRecDepth 100000 in
theorem nrange (i : Int) (w : World) : Calls Try.prog 25 #[.pointer none, .int .i64 i] w fun r w' => r = .returned (.agg #[.bool true, .int .i64 0, .int .i64 0]) ∧ Below w.heap.size w w' := by
  have v := nisvar i
  go_enter Try.func25, Try.ntmps25
  go_wp2_with (first
    | (go_at_call 51; refine (v _).mono ?_; rintro r w2 ⟨rfl, hw2⟩; subst w2)
    | fail)
  exact bodyPost_ret (v := .agg #[.bool true, .int .i64 0, .int .i64 0]) (by simp [results, Try.results25, go_sem]) rfl ⟨rfl, by first | exact sp_new (Below.refl _ _) _ | exact (((sp_new (Below.refl _ _) _).setCell (Nat.le_refl _) _).setCell (Nat.le_refl _) _).setCell (Nat.le_refl _) _⟩
/-- Sides of values. -/
def sdv (v : Nat → Int) (a : Nat) : Int := if a % 2 = 0 then v (a / 2) else -v (a / 2)
theorem sdv_ot (v : Nat → Int) (a : Nat) : sdv v (ot a) = - sdv v a := by
  unfold sdv ot
  split
  · rename_i h
    rw [if_neg (by omega), show (a + 1) / 2 = a / 2 by omega]
  · rename_i h
    rw [if_pos (by omega), show (a - 1) / 2 = a / 2 by omega]
    omega
theorem sdv_bd {v : Nat → Int} {B : Int} (h : ∀ j, -B ≤ v j ∧ v j ≤ B) (a : Nat) : -B ≤ sdv v a ∧ sdv v a ≤ B := by
  have := h (a / 2)
  unfold sdv
  split <;> omega
/-- Bounds of live, once x is at most y, y from 0 to 5 and x from 3 to 9. -/
def vx (x y : Int) (j : Nat) : Int := if j = 0 then x else if j = 1 then y else 0
theorem vx_bd {x y : Int} (h1 : 0 ≤ x) (h2 : x ≤ 9) (h3 : 0 ≤ y) (h4 : y ≤ 9) (j : Nat) : -9 ≤ vx x y j ∧ vx x y j ≤ 9 := by
  unfold vx
  split
  · omega
  · split <;> omega
theorem bx_fit2 {n : Nat} {M : Mx} (h : ∀ a c, a < 2 * n → c < 2 * n → M a c = bx a c) {v : Nat → Int} (hv : ∀ j, -9 ≤ v j ∧ v j ≤ 9) : Fit n M (sdv v) := by
  refine ⟨sdv_ot v, fun a b ha hb => ?_⟩
  rw [h a b ha hb]
  unfold bx
  split
  · rename_i e
    rw [e, sdv_ot]
    omega
  · have := sdv_bd hv a
    have := sdv_bd hv b
    omega
end Go.Proofs.Ytpcbammncaeimaa

