/- octagon: lower, isVar, fault, greatest. -/
import Derived.Test.YtpcbammncaeimaaOcF
namespace Go.Proofs.Ytpcbammncaeimaa
open Go.RowKit
set_option linter.unusedVariables false
set_option linter.unusedSimpArgs false
/-- One bound is at most v. -/
def low1 (M : Mx) (x y : Nat) (v : Int) : Mx := up1 M x y (min (M x y) v)
def low (M : Mx) (x y : Nat) (v : Int) : Mx := low1 (low1 M x y v) y x v
theorem OctAt.on {W W' : World} {b n : Nat} {e : Bool} {M : Mx} (h : OctAt W b n e M) (g : Below W.heap.size W W') : OctAt W' b n e M := by
  have hb : b < W.heap.size := World.block_lt_of_cell? W _ h.hv
  exact ⟨by rw [g.cell (by exact hb)]; exact h.hv, by rw [g.cell (by exact hb)]; exact h.he, fun i j hi hj => by rw [g.cell (by exact hb)]; exact h.hm i j hi hj, fun k => by rw [g.frozen (by exact hb)]; exact h.hf k⟩
theorem Onl.of {b : Nat} {w w' : World} (g : Below w.heap.size w w') : Onl b w w' := ⟨g.os, g.tape, g.output, g.size, fun k hk _ => g.block k hk⟩
theorem Onl.on {b : Nat} {w W w' : World} (h : Onl b w W) (g : Below W.heap.size W w') : Onl b w w' := h.trans (Onl.of g)
theorem Onl.below {b : Nat} {w w' : World} (h : Onl b w w') : Below (min b w.heap.size) w w' := ⟨h.os, h.tape, h.output, h.size, fun k hk => h.block k (by omega) (by omega)⟩
theorem Onl.cell {b c j : Nat} {w w' : World} (h : Onl b w w') (hc : c ≠ b) {v : Value} (q : w.cell? ⟨c, j, none⟩ = some v) : w'.cell? ⟨c, j, none⟩ = some v :=
  (World.cell?_of_block (h.block c (World.block_lt_of_cell? w _ q) hc)).trans q
set_option maxRecDepth 100000 in
set_option maxHeartbeats 1600000 in
theorem olower (b n : Nat) (M : Mx) (x y : Nat) (hx : x < 16) (hy : y < 16) (v : Int) (w : World) (h : OctAt w b n false M) :
    Calls Try.prog 58 #[.pointer (some ⟨b, 0, none⟩), .int .i64 x, .int .i64 y, .int .i64 v] w fun r w' => r = .returned (.tuple #[]) ∧ OctAt w' b n false (low M x y v) ∧ Onl b w w' := by
  have x1 := oix b x hx
  have x2 := oiy b (2 + x * 16) y hy
  have x3 := oix b y hy
  have x4 := oiy b (2 + y * 16) x hx
  have he := h.he
  have hf1 := h.hf (2 + x * 16 + y)
  have hf2 := h.hf (2 + y * 16 + x)
  have y1 := h.hm x y hx hy
  have hset := h.set hx hy (min (M x y) v)
  have hon := (Onl.refl b w).set (j := 2 + x * 16 + y) (.int .i64 (min (M x y) v))
  have y2 := hset.hm y x hy hx
  have hset2 := hset.set hy hx (min (up1 M x y (min (M x y) v) y x) v)
  have hon2 := hon.set (j := 2 + y * 16 + x) (.int .i64 (min (up1 M x y (min (M x y) v) y x) v))
  have hlow : low M x y v = up1 (up1 M x y (min (M x y) v)) y x (min (up1 M x y (min (M x y) v) y x) v) := rfl
  rw [hlow]
  clear hlow hset hon h
  generalize up1 (up1 M x y (min (M x y) v)) y x (min (up1 M x y (min (M x y) v) y x) v) = L at *
  generalize up1 M x y (min (M x y) v) y x = z2 at *
  have e1 : (if v < M x y then v else M x y) = min (M x y) v := by split <;> omega
  have e2 : (if v < z2 then v else z2) = min z2 v := by split <;> omega
  generalize min (M x y) v = m1 at *
  generalize M x y = z1 at *
  generalize min z2 v = m2 at *
  go_enter Try.func58, Try.ntmps58
  go_wp2_with fail
  go_region
  have q3 : ((w.setCell ⟨b, 2 + x * 16 + y, none⟩ (.int .i64 m1)).drew).cell? ⟨b, 2 + y * 16 + x, none⟩ = some (.int .i64 z2) := y2
  have q4 : ((w.setCell ⟨b, 2 + x * 16 + y, none⟩ (.int .i64 m1)).drew).frozen? ⟨b, 2 + y * 16 + x, none⟩ = false := by
    show (w.setCell ⟨b, 2 + x * 16 + y, none⟩ (.int .i64 m1)).frozen? ⟨b, 2 + y * 16 + x, none⟩ = false
    rw [World.frozen?_setCell]
    exact hf2
  have q5 : OctAt (((w.setCell ⟨b, 2 + x * 16 + y, none⟩ (.int .i64 m1)).drew).setCell ⟨b, 2 + y * 16 + x, none⟩ (.int .i64 m2)) b n false L := ⟨hset2.hv, hset2.he, hset2.hm, hset2.hf⟩
  have q6 : Onl b w (((w.setCell ⟨b, 2 + x * 16 + y, none⟩ (.int .i64 m1)).drew).setCell ⟨b, 2 + y * 16 + x, none⟩ (.int .i64 m2)) := ⟨hon2.os, hon2.tape, hon2.output, hon2.size, hon2.block⟩
  clear y2 hf2 hset2 hon2 y1 he hf1 e1
  generalize (w.setCell ⟨b, 2 + x * 16 + y, none⟩ (.int .i64 m1)).drew = W at *
  go_wp2_with fail
  go_region
  go_wp2_with fail
  exact bodyPost_end (results_none rfl _ _ _) rfl ⟨rfl, q5.drew, q6.drew⟩
set_option maxRecDepth 100000 in
theorem oisvar (b n : Nat) (e : Bool) (M : Mx) (i : Nat) (hi : i < n) (w : World) (h : OctAt w b n e M) : Calls Try.prog 51 #[.pointer (some ⟨b, 0, none⟩), .int .i64 i] w fun r w' => r = .returned (.bool true) ∧ w' = w := by
  have hv := h.hv
  have g1 : (0 : Int) ≤ (i : Int) := by omega
  have g2 : (i : Int) < (n : Int) := by omega
  go_enter Try.func51, Try.ntmps51
  go_wp2_with fail
  go_ret
  exact ⟨rfl, rfl⟩
theorem td2 (z : Int) : z.tdiv 2 = if 0 ≤ z then z / 2 else -(-z / 2) := by
  split
  · rw [Int.tdiv_eq_ediv_of_nonneg (by assumption)]
  · have h := Int.neg_tdiv (-z) 2
    rw [Int.neg_neg, Int.tdiv_eq_ediv_of_nonneg (a := -z) (by omega)] at h
    exact h
set_option maxRecDepth 100000 in
theorem ogreat (b n : Nat) (e : Bool) (M : Mx) (x : Nat) (hx : x < 16) (h1 : -4611686018427387904 ≤ M x x) (h2 : M x x ≤ 4611686018427387904) (w : World) (h : OctAt w b n e M) : Calls Try.prog 52 #[.pointer (some ⟨b, 0, none⟩), .int .i64 x] w fun r w' => r = .returned (.int .i64 ((M x x).tdiv 2)) ∧ w' = w := by
  have x1 := oix b x hx
  have x2 := oiy b (2 + x * 16) x hx
  have y1 := h.hm x x hx hx
  generalize M x x = z at *
  have wz : wrap64 (z.tdiv 2) = z.tdiv 2 := by unfold wrap64; rw [td2]; split <;> omega
  clear h1 h2
  go_enter Try.func52, Try.ntmps52
  go_wp2_with fail
  rw [wz]
  go_ret
  exact ⟨rfl, rfl⟩
set_option maxRecDepth 100000 in
theorem oij (p m j : Nat) (hj : j < m) (w : World) : (Instr.indexAt 112 (.slice (some ⟨p, 0, none⟩) m m) (.int .i64 j)).run Try.prog w = .ok (.pointer (some ⟨p, j, none⟩)) w := by
  have e2 : ∀ w, (sizeOf (Try.prog.elem 112)).run Try.prog w = .ok 1 w := fun w => by kernel_rfl
  rw [run_indexAt_slice (h := by first | exact Try.underlying112 | rfl), if_pos ⟨by omega, by omega⟩, e2]
  show Result.ok (Value.pointer (some (Addr.add ⟨p, 0, none⟩ ((j : Int).toNat * 1)))) w = _
  rw [Go.WideShapes.add_plain, Int.toNat_natCast, Nat.mul_one, Nat.zero_add]
set_option maxRecDepth 100000 in
set_option maxHeartbeats 800000 in
theorem ofault (b n : Nat) (e : Bool) (M : Mx) (c far : Int) (h1 : -far ≤ c) (h2 : c ≤ far) (h3 : 0 ≤ far) (h4 : far ≤ 34359738368) (p m : Nat) (hm : m ≤ 2) (l : Nat → Nat) (hl : ∀ j, j < m → l j < n) (w : World) (h : OctAt w b n e M) (hc : ∀ j, j < m → w.cell? ⟨p, j, none⟩ = some (.int .i64 (l j))) :
    Calls Try.prog 55 #[.pointer (some ⟨b, 0, none⟩), .int .i64 c, .int .i64 far, .slice (some ⟨p, 0, none⟩) m m] w fun r w' => r = .returned (.int .i64 0) ∧ w' = w := by
  have k1 := fun i hi => oisvar b n e M i hi w h
  have wf : IntKind.i64.wrap (-far) = -far := by rw [IntKind.wrap_i64]; omega
  have g1 : ¬ c < -far := by omega
  have g2 : ¬ far < c := by omega
  clear h1 h2 h3 h4
  go_enter Try.func55, Try.ntmps55
  go_wp2_with fail
  go_loopw [15] (fun i wr => ∃ (j : Nat), j ≤ m ∧ i = .int .i64 j ∧ wr = w) (fun i _ => m - (intOf i).toNat)
  case atStart => exact ⟨0, by omega, rfl, rfl⟩
  case round =>
    obtain ⟨j, hj, rfl, rfl⟩ := hrel
    by_cases cj : j < m
    · have cj' : (j : Int) < (m : Int) := by omega
      have x1 : ∀ w : World, (Instr.indexAt 112 (.slice (some ⟨p, 0, none⟩) m m) (.int .i64 j)).run Try.prog w = .ok (.pointer (some ⟨p, j, none⟩)) w := oij p m j cj
      have y1 := hc j cj
      have k1j := k1 (l j) (hl j cj)
      have wc : IntKind.i64.wrap ((j : Int) + 1) = ((j + 1 : Nat) : Int) := by rw [IntKind.wrap_i64]; omega
      generalize l j = z at *
      clear k1 hl hc
      go_wp2_with (first
        | (go_at_call 51; refine k1j.mono ?_; rintro r w2 ⟨rfl, hw2⟩; subst w2)
        | fail)
      exact ⟨⟨j + 1, by omega, by simp, by first | rfl | trivial⟩, by simp [intOf]; omega⟩
    · have ej : j = m := by omega
      subst ej
      clear cj
      go_wp2_with fail
      go_ret
      exact ⟨rfl, rfl⟩
end Go.Proofs.Ytpcbammncaeimaa
