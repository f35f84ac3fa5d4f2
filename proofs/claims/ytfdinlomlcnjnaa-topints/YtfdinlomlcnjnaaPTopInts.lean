/- For every two ints of 32 bits sums and differences, and products of their lower 16 bits, are exact as Doubles (reckoned by soft, turned by conv): no condition. -/
import Derived.Test.YtfdinlomlcnjnaaRows
import Derived.Test.YtfdinlomlcnjnaaIntF
import Derived.Test.YtfdinlomlcnjnaaSoftL
import Derived.Deep.RegionHeld3
import Derived.ProofKit
import Derived.OpenShut
import Derived.ChangeOld
import Derived.Lib.SmallJoins
namespace Go.Proofs.Ytfdinlomlcnjnaa
open Go.RowKit
set_option linter.unusedVariables false
set_option linter.unusedSimpArgs false
theorem rep_to {v : Int} {g : Bool} {n : Nat} {k : Int} (h : Rep v g n) (e : k = if g then -(n : Int) else n) (w : World) :
    Calls Try.prog 13 #[.int .i64 0, .int .u64 v] w fun e w' => e = .returned (.tuple #[.int .i64 (if decide (-2147483648 ≤ k ∧ k ≤ 2147483647) then k else 0), .bool (decide (-2147483648 ≤ k ∧ k ≤ 2147483647))]) ∧ Below w.heap.size w w' := by
  have t := toInt_any 0 v h.word w
  obtain ⟨f1, f2⟩ := fin_rep h
  have e0 : ((0 : Int) == 1) = false := rfl
  unfold inI at t
  rw [e0, f1, f2, ← e] at t
  exact t
theorem rep_plain {v : Int} {g : Bool} {n : Nat} {k : Int} (h : Rep v g n) (e : FF k = if n = 0 then 0 else v) (w : World) :
    Calls Try.prog 14 #[.int .i64 0, .int .u64 v] w fun e w' => e = .returned (.int .u64 (FF k)) ∧ Below w.heap.size w w' := by
  have t := plain_any 0 v h.word w
  have e0 : ((0 : Int) == 1) = false := rfl
  rw [e0, plain_rep h, ← e] at t
  exact t
theorem FF_zero : FF 0 = 0 := by decide +kernel
theorem abs_if (k : Int) : k = if decide (k < 0) then -((k.natAbs : Nat) : Int) else k.natAbs := by
  by_cases c : k < 0
  · simp [c]; omega
  · simp [c]; omega
theorem FF_plain (k : Int) : FF k = if k.natAbs = 0 then 0 else FF k := by
  by_cases c : k.natAbs = 0
  · rw [if_pos c, show k = 0 by omega, FF_zero]
  · rw [if_neg c]
theorem prod_rep {c d : Int} (h : (c * d).natAbs < 2 ^ 53) : Rep (rnd false 0 (decide (c < 0) != decide (d < 0)) (c * d).natAbs 0) (decide (c < 0) != decide (d < 0)) (c * d).natAbs := by
  rw [rnd_int 0 _ h]
  exact rep_int _ h
theorem prod_sgn {c d : Int} (h : (c * d).natAbs ≠ 0) : decide (c * d < 0) = (decide (c < 0) != decide (d < 0)) := by
  have c0 : c ≠ 0 := by rintro rfl; simp at h
  have d0 : d ≠ 0 := by rintro rfl; simp at h
  by_cases x : c < 0 <;> by_cases y : d < 0 <;> simp [x, y]
  · exact Int.le_of_lt (Int.mul_pos_of_neg_of_neg x y)
  · exact Int.mul_neg_of_neg_of_pos x (by omega)
  · exact Int.mul_neg_of_pos_of_neg (by omega) y
  · exact Int.mul_nonneg (by omega) (by omega)
theorem prod_if {c d : Int} : c * d = if (decide (c < 0) != decide (d < 0)) then -(((c * d).natAbs : Nat) : Int) else (c * d).natAbs := by
  by_cases z : (c * d).natAbs = 0
  · rw [z]; simp only [Int.natCast_zero, Int.neg_zero, ite_self]; omega
  · rw [← prod_sgn z]; exact abs_if _
theorem prod_FF {c d : Int} : FF (c * d) = if (c * d).natAbs = 0 then 0 else rnd false 0 (decide (c < 0) != decide (d < 0)) (c * d).natAbs 0 := by
  by_cases z : (c * d).natAbs = 0
  · rw [if_pos z, show c * d = 0 by omega, FF_zero]
  · rw [if_neg z, ← prod_sgn z]; rfl
theorem wrap16 (n : Int) : -32768 ≤ IntKind.i16.wrap n ∧ IntKind.i16.wrap n ≤ 32767 := by
  simp [IntKind.wrap, IntKind.bits, IntKind.signed]
  split <;> omega
set_option maxRecDepth 8000 in
set_option maxHeartbeats 6400000 in
theorem law_topints (a b : Int) (ha1 : -2147483648 ≤ a) (ha2 : a ≤ 2147483647) (hb1 : -2147483648 ≤ b) (hb2 : b ≤ 2147483647) (w : World) :
    Calls Try.prog 4 #[.int .i32 a, .int .i32 b] w fun e w' => e = .returned (.bool true) ∧ Below w.heap.size w w' := by
  have hfr : ∀ n : Int, -9223372036854775808 ≤ n → n ≤ 9223372036854775807 → ∀ w, Calls Try.prog 11 #[.int .i64 0, .int .i64 0, .int .i64 n] w fun e w' => e = .returned (.int .u64 (FF n)) ∧ Below w.heap.size w w' := fun n h1 h2 w => fromInt_any 0 0 n h1 h2 w
  obtain ⟨c, hc, hc1, hc2⟩ : ∃ c, IntKind.i16.wrap a = c ∧ -32768 ≤ c ∧ c ≤ 32767 := ⟨_, rfl, (wrap16 a).1, (wrap16 a).2⟩
  obtain ⟨d, hd, hd1, hd2⟩ : ∃ d, IntKind.i16.wrap b = d ∧ -32768 ≤ d ∧ d ≤ 32767 := ⟨_, rfl, (wrap16 b).1, (wrap16 b).2⟩
  have na : a.natAbs < 2 ^ 53 := by omega
  have nb : b.natAbs < 2 ^ 53 := by omega
  have nc : c.natAbs < 2 ^ 53 := by omega
  have nd : d.natAbs < 2 ^ 53 := by omega
  have np : (c * d).natAbs ≤ 1073741824 := by
    rw [Int.natAbs_mul]
    exact Nat.le_trans (Nat.mul_le_mul (by omega : c.natAbs ≤ 32768) (by omega : d.natAbs ≤ 32768)) (by decide)
  have r0 : Rep (FF (a + b)) _ _ := FF_rep (n := a + b) (by omega)
  have r1 : Rep (FF (a - b)) _ _ := FF_rep (n := a - b) (by omega)
  have r2 := prod_rep (c := c) (d := d) (by omega)
  have ad : ∀ w, Calls Try.prog 7 #[.int .i64 0, .int .i64 0, .int .u64 (FF a), .int .u64 (FF b)] w fun r w' => r = .returned (.int .u64 (FF (a + b))) ∧ Below w.heap.size w w' := fun w => by
    rw [← add_int na nb]; exact add_fl 0 0 (FF a) (FF b) (FF_rep na).word (FF_rep nb).word w
  have su : ∀ w, Calls Try.prog 9 #[.int .i64 0, .int .i64 0, .int .u64 (FF a), .int .u64 (FF b)] w fun r w' => r = .returned (.int .u64 (FF (a - b))) ∧ Below w.heap.size w w' := fun w => by
    rw [← sub_int na nb]; exact sub_fl 0 0 (FF a) (FF b) (FF_rep na).word (FF_rep nb).word w
  have mu : ∀ w, Calls Try.prog 12 #[.int .i64 0, .int .i64 0, .int .u64 (FF c), .int .u64 (FF d)] w fun r w' => r = .returned (.int .u64 (rnd false 0 (decide (c < 0) != decide (d < 0)) (c * d).natAbs 0)) ∧ Below w.heap.size w w' := fun w => by
    rw [← mul_int nc nd]; exact mul_fl 0 0 (FF c) (FF d) (FF_rep nc).word (FF_rep nd).word w
  have t0 := rep_to r0 (abs_if (a + b))
  have t1 := rep_to r1 (abs_if (a - b))
  have t2 := rep_to r2 prod_if
  have p0 := rep_plain r0 (FF_plain (a + b))
  have p1 := rep_plain r1 (FF_plain (a - b))
  have p2 := rep_plain r2 prod_FF
  have fa := hfr a (by omega) (by omega)
  have fb := hfr b (by omega) (by omega)
  have fc := hfr c (by omega) (by omega)
  have fd := hfr d (by omega) (by omega)
  have f0 := hfr (a + b) (by omega) (by omega)
  have f1 := hfr (a - b) (by omega) (by omega)
  have f2 := hfr (c * d) (by omega) (by omega)
  have w2a : IntKind.i64.wrap (c * d) = c * d := by rw [IntKind.wrap_i64]; omega
  have q1 : -1073741824 ≤ c * d := by omega
  have q2 : c * d ≤ 1073741824 := by omega
  clear r0 r1 r2 hfr na nb nc nd np
  generalize rnd false 0 (decide (c < 0) != decide (d < 0)) (c * d).natAbs 0 = L2 at *
  generalize FF (c * d) = W2 at *
  generalize FF (a + b) = L0 at *
  generalize FF (a - b) = L1 at *
  generalize FF a = X at *
  generalize FF b = Y at *
  generalize FF c = X6 at *
  generalize FF d = Y6 at *
  go_enter Try.func4, Try.ntmps4
  go_wp2_with (first
    | (go_at_call_of 11 a; refine (fa _).mono ?_; rintro e w1 ⟨rfl, g1⟩)
    | (go_at_call_of 11 b; refine (fb _).mono ?_; rintro e w2 ⟨rfl, g2⟩)
    | (go_at_call_of 11 c; refine (fc _).mono ?_; rintro e w3 ⟨rfl, g3⟩)
    | (go_at_call_of 11 d; refine (fd _).mono ?_; rintro e w4 ⟨rfl, g4⟩)
    | (go_at_call 7; refine (ad _).mono ?_; rintro e w5 ⟨rfl, g5⟩)
    | (go_at_call 9; refine (su _).mono ?_; rintro e w6 ⟨rfl, g6⟩)
    | (go_at_call 12; refine (mu _).mono ?_; rintro e w7 ⟨rfl, g7⟩))
  have G : Below w.heap.size w w7 := below_callC (below_callC (below_callC (below_callC (below_callC (below_callC g1 g2) g5) g6) g3) g4) g7
  clear g1 g2 g3 g4 g5 g6 g7 fa fb fc fd ad su mu
  go_loopw [9] (fun i wr => ∃ z : Int, (z = 0 ∨ z = 1 ∨ z = 2 ∨ z = 3) ∧ i = .int .i64 z ∧ wr.cell? ⟨w7.heap.size, 0, none⟩ = some (.int .u64 L0) ∧ wr.cell? ⟨w7.heap.size, 1, none⟩ = some (.int .u64 L1) ∧ wr.cell? ⟨w7.heap.size, 2, none⟩ = some (.int .u64 L2) ∧ wr.cell? ⟨w7.heap.size + 1, 0, none⟩ = some (.int .i64 (a + b)) ∧ wr.cell? ⟨w7.heap.size + 1, 1, none⟩ = some (.int .i64 (a - b)) ∧ wr.cell? ⟨w7.heap.size + 1, 2, none⟩ = some (.int .i64 (c * d)) ∧ Below w.heap.size w wr) (fun i _ => 3 - (intOf i).toNat)
  case atStart =>
    refine ⟨0, Or.inl rfl, rfl, by simp [go_sem], by simp [go_sem], by simp [go_sem], by simp [go_sem], by simp [go_sem], by simp [go_sem, w2a], below_new (below_new G _) _⟩
  case round =>
    obtain ⟨z, hz, rfl, x0, x1, x2, y0, y1, y2, L⟩ := hrel
    rcases hz with rfl | rfl | rfl | rfl
    · have tk := t0
      clear t0 t1 t2
      by_cases ra : -2147483648 ≤ a + b
      · by_cases rb : a + b ≤ 2147483647
        · simp only [decide_eq_true (And.intro ra rb), if_true] at tk
          go_wp2_with (first
            | (go_at_call 13; refine (tk _).mono ?_; rintro e wa ⟨rfl, ga⟩; replace x0 := cell_on ga x0; replace x1 := cell_on ga x1; replace x2 := cell_on ga x2; replace y0 := cell_on ga y0; replace y1 := cell_on ga y1; replace y2 := cell_on ga y2; replace L := below_callC L ga)
            | fail)
          go_region_held3 (fun w' => w'.cell? ⟨w7.heap.size, 0, none⟩ = some (.int .u64 L0) ∧ w'.cell? ⟨w7.heap.size, 1, none⟩ = some (.int .u64 L1) ∧ w'.cell? ⟨w7.heap.size, 2, none⟩ = some (.int .u64 L2) ∧ w'.cell? ⟨w7.heap.size + 1, 0, none⟩ = some (.int .i64 (a + b)) ∧ w'.cell? ⟨w7.heap.size + 1, 1, none⟩ = some (.int .i64 (a - b)) ∧ w'.cell? ⟨w7.heap.size + 1, 2, none⟩ = some (.int .i64 (c * d)))
            (first | exact ⟨x0, x1, x2, y0, y1, y2⟩ | (simp [go_sem, *]; done))
            (first
              | (go_at_call 14; refine (p0 _).mono ?_; rintro e w2 ⟨rfl, hb2⟩; replace x0 := cell_on hb2 x0; replace x1 := cell_on hb2 x1; replace x2 := cell_on hb2 x2; replace y0 := cell_on hb2 y0; replace y1 := cell_on hb2 y1; replace y2 := cell_on hb2 y2; replace L := below_callC L.drew hb2)
              | (go_at_call 11; refine (f0 _).mono ?_; rintro e w3 ⟨rfl, hb3⟩; replace x0 := cell_on hb3 x0; replace x1 := cell_on hb3 x1; replace x2 := cell_on hb3 x2; replace y0 := cell_on hb3 y0; replace y1 := cell_on hb3 y1; replace y2 := cell_on hb3 y2; replace L := below_callC L hb3)
              | fail)
          go_wp2_with fail
          go_roundw
          case rel => exact ⟨1, Or.inr (Or.inl rfl), by go_num, x0, x1, x2, y0, y1, y2, L⟩
          case measure => first | (simp [intOf]; done) | (simp [intOf]; omega) | decide
        · simp only [decide_eq_false (show ¬ (-2147483648 ≤ a + b ∧ a + b ≤ 2147483647) from fun h => rb h.2), Bool.false_eq_true, if_false] at tk
          have rb' : 2147483647 < a + b := by omega
          go_wp2_with (first
            | (go_at_call 13; refine (tk _).mono ?_; rintro e wa ⟨rfl, ga⟩; replace x0 := cell_on ga x0; replace x1 := cell_on ga x1; replace x2 := cell_on ga x2; replace y0 := cell_on ga y0; replace y1 := cell_on ga y1; replace y2 := cell_on ga y2; replace L := below_callC L ga)
            | fail)
          rw [show decide (a + b ≤ 2147483647) = false from decide_eq_false (by omega)]
          refine wp_region_held_drew (S := (fun w' => w'.cell? ⟨w7.heap.size, 0, none⟩ = some (.int .u64 L0) ∧ w'.cell? ⟨w7.heap.size, 1, none⟩ = some (.int .u64 L1) ∧ w'.cell? ⟨w7.heap.size, 2, none⟩ = some (.int .u64 L2) ∧ w'.cell? ⟨w7.heap.size + 1, 0, none⟩ = some (.int .i64 (a + b)) ∧ w'.cell? ⟨w7.heap.size + 1, 1, none⟩ = some (.int .i64 (a - b)) ∧ w'.cell? ⟨w7.heap.size + 1, 2, none⟩ = some (.int .i64 (c * d)))) (by kernel_rfl) ⟨x0, x1, x2, y0, y1, y2⟩ (fun hHeld => ?_)
          refine wpAnyH_take (i := 0) (oi := _) (v := .bool false) rfl (by kernel_rfl) (by kernel_rfl) (by kernel_rfl) (fun _ _ _ h => h) (Or.inl ⟨by rfl, fun w' hSw => by obtain ⟨z0, z1, z2, z3, z4, z5⟩ := hSw; go_simp⟩) hHeld ?_
          simp only [Act.put, List.getElem_toArray, List.getElem_cons_zero, List.getElem_cons_succ, List.setIfInBounds_toArray, List.set_cons_zero, List.set_cons_succ]
          refine wpAnyH_take (i := 1) (oi := _) (v := .bool false) rfl (by kernel_rfl) (by kernel_rfl) (by kernel_rfl) (fun _ _ _ h => h) (Or.inl ⟨by rfl, fun w' hSw => by obtain ⟨z0, z1, z2, z3, z4, z5⟩ := hSw; go_simp⟩) hHeld ?_
          simp only [Act.put, List.getElem_toArray, List.getElem_cons_zero, List.getElem_cons_succ, List.setIfInBounds_toArray, List.set_cons_zero, List.set_cons_succ]
          refine wpAnyH_take (i := 2) (oi := _) (v := .bool false) rfl (by kernel_rfl) (by kernel_rfl) (by kernel_rfl) (fun _ _ _ h => h) (Or.inl ⟨by rfl, fun w' hSw => by obtain ⟨z0, z1, z2, z3, z4, z5⟩ := hSw; go_simp⟩) hHeld ?_
          simp only [Act.put, List.getElem_toArray, List.getElem_cons_zero, List.getElem_cons_succ, List.setIfInBounds_toArray, List.set_cons_zero, List.set_cons_succ]
          refine wpAnyH_take (i := 3) (oi := _) (v := .bool false) rfl (by kernel_rfl) (by kernel_rfl) (by kernel_rfl) (fun _ _ _ h => h) (Or.inl ⟨by rfl, fun w' hSw => by obtain ⟨z0, z1, z2, z3, z4, z5⟩ := hSw; go_simp⟩) hHeld ?_
          simp only [Act.put, List.getElem_toArray, List.getElem_cons_zero, List.getElem_cons_succ, List.setIfInBounds_toArray, List.set_cons_zero, List.set_cons_succ]
          refine wpAnyH_take (i := 4) (oi := _) (v := .bool false) rfl (by kernel_rfl) (by kernel_rfl) (by kernel_rfl) (fun _ _ _ h => h) (Or.inl ⟨by rfl, fun w' hSw => by obtain ⟨z0, z1, z2, z3, z4, z5⟩ := hSw; go_simp⟩) hHeld ?_
          simp only [Act.put, List.getElem_toArray, List.getElem_cons_zero, List.getElem_cons_succ, List.setIfInBounds_toArray, List.set_cons_zero, List.set_cons_succ]
          refine wpAnyH_take (i := 5) (oi := _) (v := .bool false) rfl (by kernel_rfl) (by kernel_rfl) (by kernel_rfl) (fun _ _ _ h => h) (Or.inl ⟨by rfl, fun w' hSw => by obtain ⟨z0, z1, z2, z3, z4, z5⟩ := hSw; go_simp⟩) hHeld ?_
          simp only [Act.put, List.getElem_toArray, List.getElem_cons_zero, List.getElem_cons_succ, List.setIfInBounds_toArray, List.set_cons_zero, List.set_cons_succ]
          refine wpAnyH_take (i := 6) (oi := _) (v := undef) rfl (by kernel_rfl) (by kernel_rfl) (by kernel_rfl) (fun _ _ _ h => h) (Or.inr ⟨by rfl, rfl⟩) hHeld ?_
          simp only [Act.put, List.getElem_toArray, List.getElem_cons_zero, List.getElem_cons_succ, List.setIfInBounds_toArray, List.set_cons_zero, List.set_cons_succ]
          refine wpAnyH_take (i := 7) (oi := _) (v := undef) rfl (by kernel_rfl) (by kernel_rfl) (by kernel_rfl) (fun _ _ _ h => h) (Or.inr ⟨by rfl, rfl⟩) hHeld ?_
          simp only [Act.put, List.getElem_toArray, List.getElem_cons_zero, List.getElem_cons_succ, List.setIfInBounds_toArray, List.set_cons_zero, List.set_cons_succ]
          refine wpAnyH_take (i := 8) (oi := _) (v := undef) rfl (by kernel_rfl) (by kernel_rfl) (by kernel_rfl) (fun _ _ _ h => h) (Or.inr ⟨by rfl, rfl⟩) hHeld ?_
          simp only [Act.put, List.getElem_toArray, List.getElem_cons_zero, List.getElem_cons_succ, List.setIfInBounds_toArray, List.set_cons_zero, List.set_cons_succ]
          refine wpAnyH_take (i := 9) (oi := _) (v := undef) rfl (by kernel_rfl) (by kernel_rfl) (by kernel_rfl) (fun _ _ _ h => h) (Or.inr ⟨by rfl, rfl⟩) hHeld ?_
          simp only [Act.put, List.getElem_toArray, List.getElem_cons_zero, List.getElem_cons_succ, List.setIfInBounds_toArray, List.set_cons_zero, List.set_cons_succ]
          refine wpAnyH_take (i := 10) (oi := _) (v := undef) rfl (by kernel_rfl) (by kernel_rfl) (by kernel_rfl) (fun _ _ _ h => h) (Or.inr ⟨by rfl, rfl⟩) hHeld ?_
          simp only [Act.put, List.getElem_toArray, List.getElem_cons_zero, List.getElem_cons_succ, List.setIfInBounds_toArray, List.set_cons_zero, List.set_cons_succ]
          refine wpAnyH_take (i := 11) (oi := _) (v := undef) rfl (by kernel_rfl) (by kernel_rfl) (by kernel_rfl) (fun _ _ _ h => h) (Or.inr ⟨by rfl, rfl⟩) hHeld ?_
          simp only [Act.put, List.getElem_toArray, List.getElem_cons_zero, List.getElem_cons_succ, List.setIfInBounds_toArray, List.set_cons_zero, List.set_cons_succ]
          refine wpAnyH_take (i := 12) (oi := _) (v := .bool false) rfl (by kernel_rfl) (by kernel_rfl) (by kernel_rfl) (fun _ _ _ h => h) (Or.inl ⟨by rfl, fun w' hSw => by obtain ⟨z0, z1, z2, z3, z4, z5⟩ := hSw; go_simp⟩) hHeld ?_
          simp only [Act.put, List.getElem_toArray, List.getElem_cons_zero, List.getElem_cons_succ, List.setIfInBounds_toArray, List.set_cons_zero, List.set_cons_succ]
          refine wpAnyH_take (i := 13) (oi := _) (v := .bool false) rfl (by kernel_rfl) (by kernel_rfl) (by kernel_rfl) (fun _ _ _ h => h) (Or.inl ⟨by rfl, fun w' hSw => by obtain ⟨z0, z1, z2, z3, z4, z5⟩ := hSw; go_simp⟩) hHeld ?_
          simp only [Act.put, List.getElem_toArray, List.getElem_cons_zero, List.getElem_cons_succ, List.setIfInBounds_toArray, List.set_cons_zero, List.set_cons_succ]
          refine wpAnyH_take (i := 14) (oi := _) (v := .bool false) rfl (by kernel_rfl) (by kernel_rfl) (by kernel_rfl) (fun _ _ _ h => h) (Or.inl ⟨by rfl, fun w' hSw => by obtain ⟨z0, z1, z2, z3, z4, z5⟩ := hSw; go_simp⟩) hHeld ?_
          simp only [Act.put, List.getElem_toArray, List.getElem_cons_zero, List.getElem_cons_succ, List.setIfInBounds_toArray, List.set_cons_zero, List.set_cons_succ]
          refine wpAnyH_take (i := 15) (oi := _) (v := .slice (some ⟨w7.heap.size, 0, none⟩) 3 3) rfl (by kernel_rfl) (by kernel_rfl) (by kernel_rfl) (fun _ _ _ h => h) (Or.inl ⟨by rfl, fun w' hSw => by obtain ⟨z0, z1, z2, z3, z4, z5⟩ := hSw; go_simp⟩) hHeld ?_
          simp only [Act.put, List.getElem_toArray, List.getElem_cons_zero, List.getElem_cons_succ, List.setIfInBounds_toArray, List.set_cons_zero, List.set_cons_succ]
          refine wpAnyH_take (i := 16) (oi := _) (v := .int .i64 0) rfl (by kernel_rfl) (by kernel_rfl) (by kernel_rfl) (fun _ _ _ h => h) (Or.inl ⟨by rfl, fun w' hSw => by obtain ⟨z0, z1, z2, z3, z4, z5⟩ := hSw; go_simp⟩) hHeld ?_
          simp only [Act.put, List.getElem_toArray, List.getElem_cons_zero, List.getElem_cons_succ, List.setIfInBounds_toArray, List.set_cons_zero, List.set_cons_succ]
          refine wpAnyH_take (i := 17) (oi := _) (v := .pointer (some ⟨w7.heap.size, 0, none⟩)) rfl (by kernel_rfl) (by kernel_rfl) (by kernel_rfl) (fun _ _ _ h => h) (Or.inl ⟨by rfl, fun w' hSw => by obtain ⟨z0, z1, z2, z3, z4, z5⟩ := hSw; go_simp⟩) hHeld ?_
          simp only [Act.put, List.getElem_toArray, List.getElem_cons_zero, List.getElem_cons_succ, List.setIfInBounds_toArray, List.set_cons_zero, List.set_cons_succ]
          refine wpAnyH_take (i := 18) (oi := _) (v := .int .u64 L0) rfl (by kernel_rfl) (by kernel_rfl) (by kernel_rfl) (fun _ _ _ h => h) (Or.inl ⟨by rfl, fun w' hSw => by obtain ⟨z0, z1, z2, z3, z4, z5⟩ := hSw; go_simp⟩) hHeld ?_
          simp only [Act.put, List.getElem_toArray, List.getElem_cons_zero, List.getElem_cons_succ, List.setIfInBounds_toArray, List.set_cons_zero, List.set_cons_succ]
          refine wpAnyH_take (i := 20) (oi := _) (v := .slice (some ⟨w7.heap.size + 1, 0, none⟩) 3 3) rfl (by kernel_rfl) (by kernel_rfl) (by kernel_rfl) (fun _ _ _ h => h) (Or.inl ⟨by rfl, fun w' hSw => by obtain ⟨z0, z1, z2, z3, z4, z5⟩ := hSw; go_simp⟩) hHeld ?_
          simp only [Act.put, List.getElem_toArray, List.getElem_cons_zero, List.getElem_cons_succ, List.setIfInBounds_toArray, List.set_cons_zero, List.set_cons_succ]
          refine wpAnyH_take (i := 21) (oi := _) (v := .int .i64 0) rfl (by kernel_rfl) (by kernel_rfl) (by kernel_rfl) (fun _ _ _ h => h) (Or.inl ⟨by rfl, fun w' hSw => by obtain ⟨z0, z1, z2, z3, z4, z5⟩ := hSw; go_simp⟩) hHeld ?_
          simp only [Act.put, List.getElem_toArray, List.getElem_cons_zero, List.getElem_cons_succ, List.setIfInBounds_toArray, List.set_cons_zero, List.set_cons_succ]
          refine wpAnyH_take (i := 22) (oi := _) (v := .pointer (some ⟨w7.heap.size + 1, 0, none⟩)) rfl (by kernel_rfl) (by kernel_rfl) (by kernel_rfl) (fun _ _ _ h => h) (Or.inl ⟨by rfl, fun w' hSw => by obtain ⟨z0, z1, z2, z3, z4, z5⟩ := hSw; go_simp⟩) hHeld ?_
          simp only [Act.put, List.getElem_toArray, List.getElem_cons_zero, List.getElem_cons_succ, List.setIfInBounds_toArray, List.set_cons_zero, List.set_cons_succ]
          refine wpAnyH_take (i := 23) (oi := _) (v := .int .i64 (a + b)) rfl (by kernel_rfl) (by kernel_rfl) (by kernel_rfl) (fun _ _ _ h => h) (Or.inl ⟨by rfl, fun w' hSw => by obtain ⟨z0, z1, z2, z3, z4, z5⟩ := hSw; go_simp⟩) hHeld ?_
          simp only [Act.put, List.getElem_toArray, List.getElem_cons_zero, List.getElem_cons_succ, List.setIfInBounds_toArray, List.set_cons_zero, List.set_cons_succ]
          refine wpAnyH_ready (rs := [19]) (by kernel_rfl) (by simp) (AllReadyH.cons (o := _) rfl (fun K hK => ?_) AllReadyH.nil)
          go_simp
          refine (p0 _).mono ?_
          rintro e w2 ⟨rfl, hb2⟩
          replace x0 := cell_on hb2 x0; replace x1 := cell_on hb2 x1; replace x2 := cell_on hb2 x2; replace y0 := cell_on hb2 y0; replace y1 := cell_on hb2 y1; replace y2 := cell_on hb2 y2
          replace L := below_callC L.drew hb2
          go_wp2_with fail
          refine hK.out _ _ ⟨x0, x1, x2, y0, y1, y2⟩ (fun hHeld2 => ?_)
          clear hK K hHeld
          first | simp only [Act.put, List.getElem_toArray, List.getElem_cons_zero, List.getElem_cons_succ, List.setIfInBounds_toArray, List.set_cons_zero, List.set_cons_succ] | skip
          refine wpAnyH_ready (rs := [24]) (by kernel_rfl) (by simp) (AllReadyH.cons (o := _) rfl (fun K hK => ?_) AllReadyH.nil)
          go_simp
          refine (f0 _).mono ?_
          rintro e w3 ⟨rfl, hb3⟩
          replace x0 := cell_on hb3 x0; replace x1 := cell_on hb3 x1; replace x2 := cell_on hb3 x2; replace y0 := cell_on hb3 y0; replace y1 := cell_on hb3 y1; replace y2 := cell_on hb3 y2
          replace L := below_callC L hb3
          go_wp2_with fail
          refine hK.out _ _ ⟨x0, x1, x2, y0, y1, y2⟩ (fun hHeld3 => ?_)
          clear hK K hHeld2
          first | simp only [Act.put, List.getElem_toArray, List.getElem_cons_zero, List.getElem_cons_succ, List.setIfInBounds_toArray, List.set_cons_zero, List.set_cons_succ] | skip
          refine wpAnyH_take (i := 25) (oi := _) (v := .bool false) rfl (by kernel_rfl) (by kernel_rfl) (by kernel_rfl) (fun _ _ _ h => h) (Or.inl ⟨by rfl, fun w' hSw => by obtain ⟨z0, z1, z2, z3, z4, z5⟩ := hSw; go_simp⟩) hHeld3 ?_
          simp only [Act.put, List.getElem_toArray, List.getElem_cons_zero, List.getElem_cons_succ, List.setIfInBounds_toArray, List.set_cons_zero, List.set_cons_succ]
          refine wpAnyH_take (i := 26) (oi := _) (v := .bool false) rfl (by kernel_rfl) (by kernel_rfl) (by kernel_rfl) (fun _ _ _ h => h) (Or.inl ⟨by rfl, fun w' hSw => by obtain ⟨z0, z1, z2, z3, z4, z5⟩ := hSw; go_simp⟩) hHeld3 ?_
          simp only [Act.put, List.getElem_toArray, List.getElem_cons_zero, List.getElem_cons_succ, List.setIfInBounds_toArray, List.set_cons_zero, List.set_cons_succ]
          refine wpAnyH_done (by kernel_rfl) ?_ _
          all_goals go_wp2_with fail
          all_goals go_roundw
          all_goals first | exact ⟨1, Or.inr (Or.inl rfl), by go_num, x0, x1, x2, y0, y1, y2, L⟩ | (first | (simp [intOf]; done) | (simp [intOf]; omega) | decide)
      · simp only [decide_eq_false (show ¬ (-2147483648 ≤ a + b ∧ a + b ≤ 2147483647) from fun h => ra h.1), Bool.false_eq_true, if_false] at tk
        have ra' : a + b < -2147483648 := by omega
        go_wp2_with (first
          | (go_at_call 13; refine (tk _).mono ?_; rintro e wa ⟨rfl, ga⟩; replace x0 := cell_on ga x0; replace x1 := cell_on ga x1; replace x2 := cell_on ga x2; replace y0 := cell_on ga y0; replace y1 := cell_on ga y1; replace y2 := cell_on ga y2; replace L := below_callC L ga)
          | fail)
        first | rw [show decide (-2147483648 ≤ a + b) = false from decide_eq_false (by omega)] | skip
        refine wp_region_held_drew (S := (fun w' => w'.cell? ⟨w7.heap.size, 0, none⟩ = some (.int .u64 L0) ∧ w'.cell? ⟨w7.heap.size, 1, none⟩ = some (.int .u64 L1) ∧ w'.cell? ⟨w7.heap.size, 2, none⟩ = some (.int .u64 L2) ∧ w'.cell? ⟨w7.heap.size + 1, 0, none⟩ = some (.int .i64 (a + b)) ∧ w'.cell? ⟨w7.heap.size + 1, 1, none⟩ = some (.int .i64 (a - b)) ∧ w'.cell? ⟨w7.heap.size + 1, 2, none⟩ = some (.int .i64 (c * d)))) (by kernel_rfl) ⟨x0, x1, x2, y0, y1, y2⟩ (fun hHeld => ?_)
        refine wpAnyH_take (i := 0) (oi := _) (v := .bool false) rfl (by kernel_rfl) (by kernel_rfl) (by kernel_rfl) (fun _ _ _ h => h) (Or.inl ⟨by rfl, fun w' hSw => by obtain ⟨z0, z1, z2, z3, z4, z5⟩ := hSw; go_simp⟩) hHeld ?_
        simp only [Act.put, List.getElem_toArray, List.getElem_cons_zero, List.getElem_cons_succ, List.setIfInBounds_toArray, List.set_cons_zero, List.set_cons_succ]
        refine wpAnyH_take (i := 1) (oi := _) (v := .bool false) rfl (by kernel_rfl) (by kernel_rfl) (by kernel_rfl) (fun _ _ _ h => h) (Or.inl ⟨by rfl, fun w' hSw => by obtain ⟨z0, z1, z2, z3, z4, z5⟩ := hSw; go_simp⟩) hHeld ?_
        simp only [Act.put, List.getElem_toArray, List.getElem_cons_zero, List.getElem_cons_succ, List.setIfInBounds_toArray, List.set_cons_zero, List.set_cons_succ]
        refine wpAnyH_take (i := 2) (oi := _) (v := .bool false) rfl (by kernel_rfl) (by kernel_rfl) (by kernel_rfl) (fun _ _ _ h => h) (Or.inl ⟨by rfl, fun w' hSw => by obtain ⟨z0, z1, z2, z3, z4, z5⟩ := hSw; go_simp⟩) hHeld ?_
        simp only [Act.put, List.getElem_toArray, List.getElem_cons_zero, List.getElem_cons_succ, List.setIfInBounds_toArray, List.set_cons_zero, List.set_cons_succ]
        refine wpAnyH_take (i := 3) (oi := _) (v := .bool false) rfl (by kernel_rfl) (by kernel_rfl) (by kernel_rfl) (fun _ _ _ h => h) (Or.inl ⟨by rfl, fun w' hSw => by obtain ⟨z0, z1, z2, z3, z4, z5⟩ := hSw; go_simp⟩) hHeld ?_
        simp only [Act.put, List.getElem_toArray, List.getElem_cons_zero, List.getElem_cons_succ, List.setIfInBounds_toArray, List.set_cons_zero, List.set_cons_succ]
        refine wpAnyH_take (i := 4) (oi := _) (v := .bool false) rfl (by kernel_rfl) (by kernel_rfl) (by kernel_rfl) (fun _ _ _ h => h) (Or.inl ⟨by rfl, fun w' hSw => by obtain ⟨z0, z1, z2, z3, z4, z5⟩ := hSw; go_simp⟩) hHeld ?_
        simp only [Act.put, List.getElem_toArray, List.getElem_cons_zero, List.getElem_cons_succ, List.setIfInBounds_toArray, List.set_cons_zero, List.set_cons_succ]
        refine wpAnyH_take (i := 5) (oi := _) (v := .bool false) rfl (by kernel_rfl) (by kernel_rfl) (by kernel_rfl) (fun _ _ _ h => h) (Or.inl ⟨by rfl, fun w' hSw => by obtain ⟨z0, z1, z2, z3, z4, z5⟩ := hSw; go_simp⟩) hHeld ?_
        simp only [Act.put, List.getElem_toArray, List.getElem_cons_zero, List.getElem_cons_succ, List.setIfInBounds_toArray, List.set_cons_zero, List.set_cons_succ]
        refine wpAnyH_take (i := 6) (oi := _) (v := undef) rfl (by kernel_rfl) (by kernel_rfl) (by kernel_rfl) (fun _ _ _ h => h) (Or.inr ⟨by rfl, rfl⟩) hHeld ?_
        simp only [Act.put, List.getElem_toArray, List.getElem_cons_zero, List.getElem_cons_succ, List.setIfInBounds_toArray, List.set_cons_zero, List.set_cons_succ]
        refine wpAnyH_take (i := 7) (oi := _) (v := undef) rfl (by kernel_rfl) (by kernel_rfl) (by kernel_rfl) (fun _ _ _ h => h) (Or.inr ⟨by rfl, rfl⟩) hHeld ?_
        simp only [Act.put, List.getElem_toArray, List.getElem_cons_zero, List.getElem_cons_succ, List.setIfInBounds_toArray, List.set_cons_zero, List.set_cons_succ]
        refine wpAnyH_take (i := 8) (oi := _) (v := undef) rfl (by kernel_rfl) (by kernel_rfl) (by kernel_rfl) (fun _ _ _ h => h) (Or.inr ⟨by rfl, rfl⟩) hHeld ?_
        simp only [Act.put, List.getElem_toArray, List.getElem_cons_zero, List.getElem_cons_succ, List.setIfInBounds_toArray, List.set_cons_zero, List.set_cons_succ]
        refine wpAnyH_take (i := 9) (oi := _) (v := undef) rfl (by kernel_rfl) (by kernel_rfl) (by kernel_rfl) (fun _ _ _ h => h) (Or.inr ⟨by rfl, rfl⟩) hHeld ?_
        simp only [Act.put, List.getElem_toArray, List.getElem_cons_zero, List.getElem_cons_succ, List.setIfInBounds_toArray, List.set_cons_zero, List.set_cons_succ]
        refine wpAnyH_take (i := 10) (oi := _) (v := undef) rfl (by kernel_rfl) (by kernel_rfl) (by kernel_rfl) (fun _ _ _ h => h) (Or.inr ⟨by rfl, rfl⟩) hHeld ?_
        simp only [Act.put, List.getElem_toArray, List.getElem_cons_zero, List.getElem_cons_succ, List.setIfInBounds_toArray, List.set_cons_zero, List.set_cons_succ]
        refine wpAnyH_take (i := 11) (oi := _) (v := undef) rfl (by kernel_rfl) (by kernel_rfl) (by kernel_rfl) (fun _ _ _ h => h) (Or.inr ⟨by rfl, rfl⟩) hHeld ?_
        simp only [Act.put, List.getElem_toArray, List.getElem_cons_zero, List.getElem_cons_succ, List.setIfInBounds_toArray, List.set_cons_zero, List.set_cons_succ]
        refine wpAnyH_take (i := 12) (oi := _) (v := .bool false) rfl (by kernel_rfl) (by kernel_rfl) (by kernel_rfl) (fun _ _ _ h => h) (Or.inl ⟨by rfl, fun w' hSw => by obtain ⟨z0, z1, z2, z3, z4, z5⟩ := hSw; go_simp⟩) hHeld ?_
        simp only [Act.put, List.getElem_toArray, List.getElem_cons_zero, List.getElem_cons_succ, List.setIfInBounds_toArray, List.set_cons_zero, List.set_cons_succ]
        refine wpAnyH_take (i := 13) (oi := _) (v := .bool false) rfl (by kernel_rfl) (by kernel_rfl) (by kernel_rfl) (fun _ _ _ h => h) (Or.inl ⟨by rfl, fun w' hSw => by obtain ⟨z0, z1, z2, z3, z4, z5⟩ := hSw; go_simp⟩) hHeld ?_
        simp only [Act.put, List.getElem_toArray, List.getElem_cons_zero, List.getElem_cons_succ, List.setIfInBounds_toArray, List.set_cons_zero, List.set_cons_succ]
        refine wpAnyH_take (i := 14) (oi := _) (v := .bool false) rfl (by kernel_rfl) (by kernel_rfl) (by kernel_rfl) (fun _ _ _ h => h) (Or.inl ⟨by rfl, fun w' hSw => by obtain ⟨z0, z1, z2, z3, z4, z5⟩ := hSw; go_simp⟩) hHeld ?_
        simp only [Act.put, List.getElem_toArray, List.getElem_cons_zero, List.getElem_cons_succ, List.setIfInBounds_toArray, List.set_cons_zero, List.set_cons_succ]
        refine wpAnyH_take (i := 15) (oi := _) (v := .slice (some ⟨w7.heap.size, 0, none⟩) 3 3) rfl (by kernel_rfl) (by kernel_rfl) (by kernel_rfl) (fun _ _ _ h => h) (Or.inl ⟨by rfl, fun w' hSw => by obtain ⟨z0, z1, z2, z3, z4, z5⟩ := hSw; go_simp⟩) hHeld ?_
        simp only [Act.put, List.getElem_toArray, List.getElem_cons_zero, List.getElem_cons_succ, List.setIfInBounds_toArray, List.set_cons_zero, List.set_cons_succ]
        refine wpAnyH_take (i := 16) (oi := _) (v := .int .i64 0) rfl (by kernel_rfl) (by kernel_rfl) (by kernel_rfl) (fun _ _ _ h => h) (Or.inl ⟨by rfl, fun w' hSw => by obtain ⟨z0, z1, z2, z3, z4, z5⟩ := hSw; go_simp⟩) hHeld ?_
        simp only [Act.put, List.getElem_toArray, List.getElem_cons_zero, List.getElem_cons_succ, List.setIfInBounds_toArray, List.set_cons_zero, List.set_cons_succ]
        refine wpAnyH_take (i := 17) (oi := _) (v := .pointer (some ⟨w7.heap.size, 0, none⟩)) rfl (by kernel_rfl) (by kernel_rfl) (by kernel_rfl) (fun _ _ _ h => h) (Or.inl ⟨by rfl, fun w' hSw => by obtain ⟨z0, z1, z2, z3, z4, z5⟩ := hSw; go_simp⟩) hHeld ?_
        simp only [Act.put, List.getElem_toArray, List.getElem_cons_zero, List.getElem_cons_succ, List.setIfInBounds_toArray, List.set_cons_zero, List.set_cons_succ]
        refine wpAnyH_take (i := 18) (oi := _) (v := .int .u64 L0) rfl (by kernel_rfl) (by kernel_rfl) (by kernel_rfl) (fun _ _ _ h => h) (Or.inl ⟨by rfl, fun w' hSw => by obtain ⟨z0, z1, z2, z3, z4, z5⟩ := hSw; go_simp⟩) hHeld ?_
        simp only [Act.put, List.getElem_toArray, List.getElem_cons_zero, List.getElem_cons_succ, List.setIfInBounds_toArray, List.set_cons_zero, List.set_cons_succ]
        refine wpAnyH_take (i := 20) (oi := _) (v := .slice (some ⟨w7.heap.size + 1, 0, none⟩) 3 3) rfl (by kernel_rfl) (by kernel_rfl) (by kernel_rfl) (fun _ _ _ h => h) (Or.inl ⟨by rfl, fun w' hSw => by obtain ⟨z0, z1, z2, z3, z4, z5⟩ := hSw; go_simp⟩) hHeld ?_
        simp only [Act.put, List.getElem_toArray, List.getElem_cons_zero, List.getElem_cons_succ, List.setIfInBounds_toArray, List.set_cons_zero, List.set_cons_succ]
        refine wpAnyH_take (i := 21) (oi := _) (v := .int .i64 0) rfl (by kernel_rfl) (by kernel_rfl) (by kernel_rfl) (fun _ _ _ h => h) (Or.inl ⟨by rfl, fun w' hSw => by obtain ⟨z0, z1, z2, z3, z4, z5⟩ := hSw; go_simp⟩) hHeld ?_
        simp only [Act.put, List.getElem_toArray, List.getElem_cons_zero, List.getElem_cons_succ, List.setIfInBounds_toArray, List.set_cons_zero, List.set_cons_succ]
        refine wpAnyH_take (i := 22) (oi := _) (v := .pointer (some ⟨w7.heap.size + 1, 0, none⟩)) rfl (by kernel_rfl) (by kernel_rfl) (by kernel_rfl) (fun _ _ _ h => h) (Or.inl ⟨by rfl, fun w' hSw => by obtain ⟨z0, z1, z2, z3, z4, z5⟩ := hSw; go_simp⟩) hHeld ?_
        simp only [Act.put, List.getElem_toArray, List.getElem_cons_zero, List.getElem_cons_succ, List.setIfInBounds_toArray, List.set_cons_zero, List.set_cons_succ]
        refine wpAnyH_take (i := 23) (oi := _) (v := .int .i64 (a + b)) rfl (by kernel_rfl) (by kernel_rfl) (by kernel_rfl) (fun _ _ _ h => h) (Or.inl ⟨by rfl, fun w' hSw => by obtain ⟨z0, z1, z2, z3, z4, z5⟩ := hSw; go_simp⟩) hHeld ?_
        simp only [Act.put, List.getElem_toArray, List.getElem_cons_zero, List.getElem_cons_succ, List.setIfInBounds_toArray, List.set_cons_zero, List.set_cons_succ]
        refine wpAnyH_ready (rs := [19]) (by kernel_rfl) (by simp) (AllReadyH.cons (o := _) rfl (fun K hK => ?_) AllReadyH.nil)
        go_simp
        refine (p0 _).mono ?_
        rintro e w2 ⟨rfl, hb2⟩
        replace x0 := cell_on hb2 x0; replace x1 := cell_on hb2 x1; replace x2 := cell_on hb2 x2; replace y0 := cell_on hb2 y0; replace y1 := cell_on hb2 y1; replace y2 := cell_on hb2 y2
        replace L := below_callC L.drew hb2
        go_wp2_with fail
        refine hK.out _ _ ⟨x0, x1, x2, y0, y1, y2⟩ (fun hHeld2 => ?_)
        clear hK K hHeld
        first | simp only [Act.put, List.getElem_toArray, List.getElem_cons_zero, List.getElem_cons_succ, List.setIfInBounds_toArray, List.set_cons_zero, List.set_cons_succ] | skip
        refine wpAnyH_ready (rs := [24]) (by kernel_rfl) (by simp) (AllReadyH.cons (o := _) rfl (fun K hK => ?_) AllReadyH.nil)
        go_simp
        refine (f0 _).mono ?_
        rintro e w3 ⟨rfl, hb3⟩
        replace x0 := cell_on hb3 x0; replace x1 := cell_on hb3 x1; replace x2 := cell_on hb3 x2; replace y0 := cell_on hb3 y0; replace y1 := cell_on hb3 y1; replace y2 := cell_on hb3 y2
        replace L := below_callC L hb3
        go_wp2_with fail
        refine hK.out _ _ ⟨x0, x1, x2, y0, y1, y2⟩ (fun hHeld3 => ?_)
        clear hK K hHeld2
        first | simp only [Act.put, List.getElem_toArray, List.getElem_cons_zero, List.getElem_cons_succ, List.setIfInBounds_toArray, List.set_cons_zero, List.set_cons_succ] | skip
        refine wpAnyH_take (i := 25) (oi := _) (v := .bool false) rfl (by kernel_rfl) (by kernel_rfl) (by kernel_rfl) (fun _ _ _ h => h) (Or.inl ⟨by rfl, fun w' hSw => by obtain ⟨z0, z1, z2, z3, z4, z5⟩ := hSw; go_simp⟩) hHeld3 ?_
        simp only [Act.put, List.getElem_toArray, List.getElem_cons_zero, List.getElem_cons_succ, List.setIfInBounds_toArray, List.set_cons_zero, List.set_cons_succ]
        refine wpAnyH_take (i := 26) (oi := _) (v := .bool false) rfl (by kernel_rfl) (by kernel_rfl) (by kernel_rfl) (fun _ _ _ h => h) (Or.inl ⟨by rfl, fun w' hSw => by obtain ⟨z0, z1, z2, z3, z4, z5⟩ := hSw; go_simp⟩) hHeld3 ?_
        simp only [Act.put, List.getElem_toArray, List.getElem_cons_zero, List.getElem_cons_succ, List.setIfInBounds_toArray, List.set_cons_zero, List.set_cons_succ]
        refine wpAnyH_done (by kernel_rfl) ?_ _
        all_goals go_wp2_with fail
        all_goals go_roundw
        all_goals first | exact ⟨1, Or.inr (Or.inl rfl), by go_num, x0, x1, x2, y0, y1, y2, L⟩ | (first | (simp [intOf]; done) | (simp [intOf]; omega) | decide)
    · have tk := t1
      clear t0 t1 t2
      by_cases ra : -2147483648 ≤ a - b
      · by_cases rb : a - b ≤ 2147483647
        · simp only [decide_eq_true (And.intro ra rb), if_true] at tk
          go_wp2_with (first
            | (go_at_call 13; refine (tk _).mono ?_; rintro e wa ⟨rfl, ga⟩; replace x0 := cell_on ga x0; replace x1 := cell_on ga x1; replace x2 := cell_on ga x2; replace y0 := cell_on ga y0; replace y1 := cell_on ga y1; replace y2 := cell_on ga y2; replace L := below_callC L ga)
            | fail)
          go_region_held3 (fun w' => w'.cell? ⟨w7.heap.size, 0, none⟩ = some (.int .u64 L0) ∧ w'.cell? ⟨w7.heap.size, 1, none⟩ = some (.int .u64 L1) ∧ w'.cell? ⟨w7.heap.size, 2, none⟩ = some (.int .u64 L2) ∧ w'.cell? ⟨w7.heap.size + 1, 0, none⟩ = some (.int .i64 (a + b)) ∧ w'.cell? ⟨w7.heap.size + 1, 1, none⟩ = some (.int .i64 (a - b)) ∧ w'.cell? ⟨w7.heap.size + 1, 2, none⟩ = some (.int .i64 (c * d)))
            (first | exact ⟨x0, x1, x2, y0, y1, y2⟩ | (simp [go_sem, *]; done))
            (first
              | (go_at_call 14; refine (p1 _).mono ?_; rintro e w2 ⟨rfl, hb2⟩; replace x0 := cell_on hb2 x0; replace x1 := cell_on hb2 x1; replace x2 := cell_on hb2 x2; replace y0 := cell_on hb2 y0; replace y1 := cell_on hb2 y1; replace y2 := cell_on hb2 y2; replace L := below_callC L.drew hb2)
              | (go_at_call 11; refine (f1 _).mono ?_; rintro e w3 ⟨rfl, hb3⟩; replace x0 := cell_on hb3 x0; replace x1 := cell_on hb3 x1; replace x2 := cell_on hb3 x2; replace y0 := cell_on hb3 y0; replace y1 := cell_on hb3 y1; replace y2 := cell_on hb3 y2; replace L := below_callC L hb3)
              | fail)
          go_wp2_with fail
          go_roundw
          case rel => exact ⟨2, Or.inr (Or.inr (Or.inl rfl)), by go_num, x0, x1, x2, y0, y1, y2, L⟩
          case measure => first | (simp [intOf]; done) | (simp [intOf]; omega) | decide
        · simp only [decide_eq_false (show ¬ (-2147483648 ≤ a - b ∧ a - b ≤ 2147483647) from fun h => rb h.2), Bool.false_eq_true, if_false] at tk
          have rb' : 2147483647 < a - b := by omega
          go_wp2_with (first
            | (go_at_call 13; refine (tk _).mono ?_; rintro e wa ⟨rfl, ga⟩; replace x0 := cell_on ga x0; replace x1 := cell_on ga x1; replace x2 := cell_on ga x2; replace y0 := cell_on ga y0; replace y1 := cell_on ga y1; replace y2 := cell_on ga y2; replace L := below_callC L ga)
            | fail)
          rw [show decide (a - b ≤ 2147483647) = false from decide_eq_false (by omega)]
          refine wp_region_held_drew (S := (fun w' => w'.cell? ⟨w7.heap.size, 0, none⟩ = some (.int .u64 L0) ∧ w'.cell? ⟨w7.heap.size, 1, none⟩ = some (.int .u64 L1) ∧ w'.cell? ⟨w7.heap.size, 2, none⟩ = some (.int .u64 L2) ∧ w'.cell? ⟨w7.heap.size + 1, 0, none⟩ = some (.int .i64 (a + b)) ∧ w'.cell? ⟨w7.heap.size + 1, 1, none⟩ = some (.int .i64 (a - b)) ∧ w'.cell? ⟨w7.heap.size + 1, 2, none⟩ = some (.int .i64 (c * d)))) (by kernel_rfl) ⟨x0, x1, x2, y0, y1, y2⟩ (fun hHeld => ?_)
          refine wpAnyH_take (i := 0) (oi := _) (v := .bool false) rfl (by kernel_rfl) (by kernel_rfl) (by kernel_rfl) (fun _ _ _ h => h) (Or.inl ⟨by rfl, fun w' hSw => by obtain ⟨z0, z1, z2, z3, z4, z5⟩ := hSw; go_simp⟩) hHeld ?_
          simp only [Act.put, List.getElem_toArray, List.getElem_cons_zero, List.getElem_cons_succ, List.setIfInBounds_toArray, List.set_cons_zero, List.set_cons_succ]
          refine wpAnyH_take (i := 1) (oi := _) (v := .bool false) rfl (by kernel_rfl) (by kernel_rfl) (by kernel_rfl) (fun _ _ _ h => h) (Or.inl ⟨by rfl, fun w' hSw => by obtain ⟨z0, z1, z2, z3, z4, z5⟩ := hSw; go_simp⟩) hHeld ?_
          simp only [Act.put, List.getElem_toArray, List.getElem_cons_zero, List.getElem_cons_succ, List.setIfInBounds_toArray, List.set_cons_zero, List.set_cons_succ]
          refine wpAnyH_take (i := 2) (oi := _) (v := .bool false) rfl (by kernel_rfl) (by kernel_rfl) (by kernel_rfl) (fun _ _ _ h => h) (Or.inl ⟨by rfl, fun w' hSw => by obtain ⟨z0, z1, z2, z3, z4, z5⟩ := hSw; go_simp⟩) hHeld ?_
          simp only [Act.put, List.getElem_toArray, List.getElem_cons_zero, List.getElem_cons_succ, List.setIfInBounds_toArray, List.set_cons_zero, List.set_cons_succ]
          refine wpAnyH_take (i := 3) (oi := _) (v := .bool false) rfl (by kernel_rfl) (by kernel_rfl) (by kernel_rfl) (fun _ _ _ h => h) (Or.inl ⟨by rfl, fun w' hSw => by obtain ⟨z0, z1, z2, z3, z4, z5⟩ := hSw; go_simp⟩) hHeld ?_
          simp only [Act.put, List.getElem_toArray, List.getElem_cons_zero, List.getElem_cons_succ, List.setIfInBounds_toArray, List.set_cons_zero, List.set_cons_succ]
          refine wpAnyH_take (i := 4) (oi := _) (v := .bool false) rfl (by kernel_rfl) (by kernel_rfl) (by kernel_rfl) (fun _ _ _ h => h) (Or.inl ⟨by rfl, fun w' hSw => by obtain ⟨z0, z1, z2, z3, z4, z5⟩ := hSw; go_simp⟩) hHeld ?_
          simp only [Act.put, List.getElem_toArray, List.getElem_cons_zero, List.getElem_cons_succ, List.setIfInBounds_toArray, List.set_cons_zero, List.set_cons_succ]
          refine wpAnyH_take (i := 5) (oi := _) (v := .bool false) rfl (by kernel_rfl) (by kernel_rfl) (by kernel_rfl) (fun _ _ _ h => h) (Or.inl ⟨by rfl, fun w' hSw => by obtain ⟨z0, z1, z2, z3, z4, z5⟩ := hSw; go_simp⟩) hHeld ?_
          simp only [Act.put, List.getElem_toArray, List.getElem_cons_zero, List.getElem_cons_succ, List.setIfInBounds_toArray, List.set_cons_zero, List.set_cons_succ]
          refine wpAnyH_take (i := 6) (oi := _) (v := undef) rfl (by kernel_rfl) (by kernel_rfl) (by kernel_rfl) (fun _ _ _ h => h) (Or.inr ⟨by rfl, rfl⟩) hHeld ?_
          simp only [Act.put, List.getElem_toArray, List.getElem_cons_zero, List.getElem_cons_succ, List.setIfInBounds_toArray, List.set_cons_zero, List.set_cons_succ]
          refine wpAnyH_take (i := 7) (oi := _) (v := undef) rfl (by kernel_rfl) (by kernel_rfl) (by kernel_rfl) (fun _ _ _ h => h) (Or.inr ⟨by rfl, rfl⟩) hHeld ?_
          simp only [Act.put, List.getElem_toArray, List.getElem_cons_zero, List.getElem_cons_succ, List.setIfInBounds_toArray, List.set_cons_zero, List.set_cons_succ]
          refine wpAnyH_take (i := 8) (oi := _) (v := undef) rfl (by kernel_rfl) (by kernel_rfl) (by kernel_rfl) (fun _ _ _ h => h) (Or.inr ⟨by rfl, rfl⟩) hHeld ?_
          simp only [Act.put, List.getElem_toArray, List.getElem_cons_zero, List.getElem_cons_succ, List.setIfInBounds_toArray, List.set_cons_zero, List.set_cons_succ]
          refine wpAnyH_take (i := 9) (oi := _) (v := undef) rfl (by kernel_rfl) (by kernel_rfl) (by kernel_rfl) (fun _ _ _ h => h) (Or.inr ⟨by rfl, rfl⟩) hHeld ?_
          simp only [Act.put, List.getElem_toArray, List.getElem_cons_zero, List.getElem_cons_succ, List.setIfInBounds_toArray, List.set_cons_zero, List.set_cons_succ]
          refine wpAnyH_take (i := 10) (oi := _) (v := undef) rfl (by kernel_rfl) (by kernel_rfl) (by kernel_rfl) (fun _ _ _ h => h) (Or.inr ⟨by rfl, rfl⟩) hHeld ?_
          simp only [Act.put, List.getElem_toArray, List.getElem_cons_zero, List.getElem_cons_succ, List.setIfInBounds_toArray, List.set_cons_zero, List.set_cons_succ]
          refine wpAnyH_take (i := 11) (oi := _) (v := undef) rfl (by kernel_rfl) (by kernel_rfl) (by kernel_rfl) (fun _ _ _ h => h) (Or.inr ⟨by rfl, rfl⟩) hHeld ?_
          simp only [Act.put, List.getElem_toArray, List.getElem_cons_zero, List.getElem_cons_succ, List.setIfInBounds_toArray, List.set_cons_zero, List.set_cons_succ]
          refine wpAnyH_take (i := 12) (oi := _) (v := .bool false) rfl (by kernel_rfl) (by kernel_rfl) (by kernel_rfl) (fun _ _ _ h => h) (Or.inl ⟨by rfl, fun w' hSw => by obtain ⟨z0, z1, z2, z3, z4, z5⟩ := hSw; go_simp⟩) hHeld ?_
          simp only [Act.put, List.getElem_toArray, List.getElem_cons_zero, List.getElem_cons_succ, List.setIfInBounds_toArray, List.set_cons_zero, List.set_cons_succ]
          refine wpAnyH_take (i := 13) (oi := _) (v := .bool false) rfl (by kernel_rfl) (by kernel_rfl) (by kernel_rfl) (fun _ _ _ h => h) (Or.inl ⟨by rfl, fun w' hSw => by obtain ⟨z0, z1, z2, z3, z4, z5⟩ := hSw; go_simp⟩) hHeld ?_
          simp only [Act.put, List.getElem_toArray, List.getElem_cons_zero, List.getElem_cons_succ, List.setIfInBounds_toArray, List.set_cons_zero, List.set_cons_succ]
          refine wpAnyH_take (i := 14) (oi := _) (v := .bool false) rfl (by kernel_rfl) (by kernel_rfl) (by kernel_rfl) (fun _ _ _ h => h) (Or.inl ⟨by rfl, fun w' hSw => by obtain ⟨z0, z1, z2, z3, z4, z5⟩ := hSw; go_simp⟩) hHeld ?_
          simp only [Act.put, List.getElem_toArray, List.getElem_cons_zero, List.getElem_cons_succ, List.setIfInBounds_toArray, List.set_cons_zero, List.set_cons_succ]
          refine wpAnyH_take (i := 15) (oi := _) (v := .slice (some ⟨w7.heap.size, 0, none⟩) 3 3) rfl (by kernel_rfl) (by kernel_rfl) (by kernel_rfl) (fun _ _ _ h => h) (Or.inl ⟨by rfl, fun w' hSw => by obtain ⟨z0, z1, z2, z3, z4, z5⟩ := hSw; go_simp⟩) hHeld ?_
          simp only [Act.put, List.getElem_toArray, List.getElem_cons_zero, List.getElem_cons_succ, List.setIfInBounds_toArray, List.set_cons_zero, List.set_cons_succ]
          refine wpAnyH_take (i := 16) (oi := _) (v := .int .i64 1) rfl (by kernel_rfl) (by kernel_rfl) (by kernel_rfl) (fun _ _ _ h => h) (Or.inl ⟨by rfl, fun w' hSw => by obtain ⟨z0, z1, z2, z3, z4, z5⟩ := hSw; go_simp⟩) hHeld ?_
          simp only [Act.put, List.getElem_toArray, List.getElem_cons_zero, List.getElem_cons_succ, List.setIfInBounds_toArray, List.set_cons_zero, List.set_cons_succ]
          refine wpAnyH_take (i := 17) (oi := _) (v := .pointer (some ⟨w7.heap.size, 1, none⟩)) rfl (by kernel_rfl) (by kernel_rfl) (by kernel_rfl) (fun _ _ _ h => h) (Or.inl ⟨by rfl, fun w' hSw => by obtain ⟨z0, z1, z2, z3, z4, z5⟩ := hSw; go_simp⟩) hHeld ?_
          simp only [Act.put, List.getElem_toArray, List.getElem_cons_zero, List.getElem_cons_succ, List.setIfInBounds_toArray, List.set_cons_zero, List.set_cons_succ]
          refine wpAnyH_take (i := 18) (oi := _) (v := .int .u64 L1) rfl (by kernel_rfl) (by kernel_rfl) (by kernel_rfl) (fun _ _ _ h => h) (Or.inl ⟨by rfl, fun w' hSw => by obtain ⟨z0, z1, z2, z3, z4, z5⟩ := hSw; go_simp⟩) hHeld ?_
          simp only [Act.put, List.getElem_toArray, List.getElem_cons_zero, List.getElem_cons_succ, List.setIfInBounds_toArray, List.set_cons_zero, List.set_cons_succ]
          refine wpAnyH_take (i := 20) (oi := _) (v := .slice (some ⟨w7.heap.size + 1, 0, none⟩) 3 3) rfl (by kernel_rfl) (by kernel_rfl) (by kernel_rfl) (fun _ _ _ h => h) (Or.inl ⟨by rfl, fun w' hSw => by obtain ⟨z0, z1, z2, z3, z4, z5⟩ := hSw; go_simp⟩) hHeld ?_
          simp only [Act.put, List.getElem_toArray, List.getElem_cons_zero, List.getElem_cons_succ, List.setIfInBounds_toArray, List.set_cons_zero, List.set_cons_succ]
          refine wpAnyH_take (i := 21) (oi := _) (v := .int .i64 1) rfl (by kernel_rfl) (by kernel_rfl) (by kernel_rfl) (fun _ _ _ h => h) (Or.inl ⟨by rfl, fun w' hSw => by obtain ⟨z0, z1, z2, z3, z4, z5⟩ := hSw; go_simp⟩) hHeld ?_
          simp only [Act.put, List.getElem_toArray, List.getElem_cons_zero, List.getElem_cons_succ, List.setIfInBounds_toArray, List.set_cons_zero, List.set_cons_succ]
          refine wpAnyH_take (i := 22) (oi := _) (v := .pointer (some ⟨w7.heap.size + 1, 1, none⟩)) rfl (by kernel_rfl) (by kernel_rfl) (by kernel_rfl) (fun _ _ _ h => h) (Or.inl ⟨by rfl, fun w' hSw => by obtain ⟨z0, z1, z2, z3, z4, z5⟩ := hSw; go_simp⟩) hHeld ?_
          simp only [Act.put, List.getElem_toArray, List.getElem_cons_zero, List.getElem_cons_succ, List.setIfInBounds_toArray, List.set_cons_zero, List.set_cons_succ]
          refine wpAnyH_take (i := 23) (oi := _) (v := .int .i64 (a - b)) rfl (by kernel_rfl) (by kernel_rfl) (by kernel_rfl) (fun _ _ _ h => h) (Or.inl ⟨by rfl, fun w' hSw => by obtain ⟨z0, z1, z2, z3, z4, z5⟩ := hSw; go_simp⟩) hHeld ?_
          simp only [Act.put, List.getElem_toArray, List.getElem_cons_zero, List.getElem_cons_succ, List.setIfInBounds_toArray, List.set_cons_zero, List.set_cons_succ]
          refine wpAnyH_ready (rs := [19]) (by kernel_rfl) (by simp) (AllReadyH.cons (o := _) rfl (fun K hK => ?_) AllReadyH.nil)
          go_simp
          refine (p1 _).mono ?_
          rintro e w2 ⟨rfl, hb2⟩
          replace x0 := cell_on hb2 x0; replace x1 := cell_on hb2 x1; replace x2 := cell_on hb2 x2; replace y0 := cell_on hb2 y0; replace y1 := cell_on hb2 y1; replace y2 := cell_on hb2 y2
          replace L := below_callC L.drew hb2
          go_wp2_with fail
          refine hK.out _ _ ⟨x0, x1, x2, y0, y1, y2⟩ (fun hHeld2 => ?_)
          clear hK K hHeld
          first | simp only [Act.put, List.getElem_toArray, List.getElem_cons_zero, List.getElem_cons_succ, List.setIfInBounds_toArray, List.set_cons_zero, List.set_cons_succ] | skip
          refine wpAnyH_ready (rs := [24]) (by kernel_rfl) (by simp) (AllReadyH.cons (o := _) rfl (fun K hK => ?_) AllReadyH.nil)
          go_simp
          refine (f1 _).mono ?_
          rintro e w3 ⟨rfl, hb3⟩
          replace x0 := cell_on hb3 x0; replace x1 := cell_on hb3 x1; replace x2 := cell_on hb3 x2; replace y0 := cell_on hb3 y0; replace y1 := cell_on hb3 y1; replace y2 := cell_on hb3 y2
          replace L := below_callC L hb3
          go_wp2_with fail
          refine hK.out _ _ ⟨x0, x1, x2, y0, y1, y2⟩ (fun hHeld3 => ?_)
          clear hK K hHeld2
          first | simp only [Act.put, List.getElem_toArray, List.getElem_cons_zero, List.getElem_cons_succ, List.setIfInBounds_toArray, List.set_cons_zero, List.set_cons_succ] | skip
          refine wpAnyH_take (i := 25) (oi := _) (v := .bool false) rfl (by kernel_rfl) (by kernel_rfl) (by kernel_rfl) (fun _ _ _ h => h) (Or.inl ⟨by rfl, fun w' hSw => by obtain ⟨z0, z1, z2, z3, z4, z5⟩ := hSw; go_simp⟩) hHeld3 ?_
          simp only [Act.put, List.getElem_toArray, List.getElem_cons_zero, List.getElem_cons_succ, List.setIfInBounds_toArray, List.set_cons_zero, List.set_cons_succ]
          refine wpAnyH_take (i := 26) (oi := _) (v := .bool false) rfl (by kernel_rfl) (by kernel_rfl) (by kernel_rfl) (fun _ _ _ h => h) (Or.inl ⟨by rfl, fun w' hSw => by obtain ⟨z0, z1, z2, z3, z4, z5⟩ := hSw; go_simp⟩) hHeld3 ?_
          simp only [Act.put, List.getElem_toArray, List.getElem_cons_zero, List.getElem_cons_succ, List.setIfInBounds_toArray, List.set_cons_zero, List.set_cons_succ]
          refine wpAnyH_done (by kernel_rfl) ?_ _
          all_goals go_wp2_with fail
          all_goals go_roundw
          all_goals first | exact ⟨2, Or.inr (Or.inr (Or.inl rfl)), by go_num, x0, x1, x2, y0, y1, y2, L⟩ | (first | (simp [intOf]; done) | (simp [intOf]; omega) | decide)
      · simp only [decide_eq_false (show ¬ (-2147483648 ≤ a - b ∧ a - b ≤ 2147483647) from fun h => ra h.1), Bool.false_eq_true, if_false] at tk
        have ra' : a - b < -2147483648 := by omega
        go_wp2_with (first
          | (go_at_call 13; refine (tk _).mono ?_; rintro e wa ⟨rfl, ga⟩; replace x0 := cell_on ga x0; replace x1 := cell_on ga x1; replace x2 := cell_on ga x2; replace y0 := cell_on ga y0; replace y1 := cell_on ga y1; replace y2 := cell_on ga y2; replace L := below_callC L ga)
          | fail)
        first | rw [show decide (-2147483648 ≤ a - b) = false from decide_eq_false (by omega)] | skip
        refine wp_region_held_drew (S := (fun w' => w'.cell? ⟨w7.heap.size, 0, none⟩ = some (.int .u64 L0) ∧ w'.cell? ⟨w7.heap.size, 1, none⟩ = some (.int .u64 L1) ∧ w'.cell? ⟨w7.heap.size, 2, none⟩ = some (.int .u64 L2) ∧ w'.cell? ⟨w7.heap.size + 1, 0, none⟩ = some (.int .i64 (a + b)) ∧ w'.cell? ⟨w7.heap.size + 1, 1, none⟩ = some (.int .i64 (a - b)) ∧ w'.cell? ⟨w7.heap.size + 1, 2, none⟩ = some (.int .i64 (c * d)))) (by kernel_rfl) ⟨x0, x1, x2, y0, y1, y2⟩ (fun hHeld => ?_)
        refine wpAnyH_take (i := 0) (oi := _) (v := .bool false) rfl (by kernel_rfl) (by kernel_rfl) (by kernel_rfl) (fun _ _ _ h => h) (Or.inl ⟨by rfl, fun w' hSw => by obtain ⟨z0, z1, z2, z3, z4, z5⟩ := hSw; go_simp⟩) hHeld ?_
        simp only [Act.put, List.getElem_toArray, List.getElem_cons_zero, List.getElem_cons_succ, List.setIfInBounds_toArray, List.set_cons_zero, List.set_cons_succ]
        refine wpAnyH_take (i := 1) (oi := _) (v := .bool false) rfl (by kernel_rfl) (by kernel_rfl) (by kernel_rfl) (fun _ _ _ h => h) (Or.inl ⟨by rfl, fun w' hSw => by obtain ⟨z0, z1, z2, z3, z4, z5⟩ := hSw; go_simp⟩) hHeld ?_
        simp only [Act.put, List.getElem_toArray, List.getElem_cons_zero, List.getElem_cons_succ, List.setIfInBounds_toArray, List.set_cons_zero, List.set_cons_succ]
        refine wpAnyH_take (i := 2) (oi := _) (v := .bool false) rfl (by kernel_rfl) (by kernel_rfl) (by kernel_rfl) (fun _ _ _ h => h) (Or.inl ⟨by rfl, fun w' hSw => by obtain ⟨z0, z1, z2, z3, z4, z5⟩ := hSw; go_simp⟩) hHeld ?_
        simp only [Act.put, List.getElem_toArray, List.getElem_cons_zero, List.getElem_cons_succ, List.setIfInBounds_toArray, List.set_cons_zero, List.set_cons_succ]
        refine wpAnyH_take (i := 3) (oi := _) (v := .bool false) rfl (by kernel_rfl) (by kernel_rfl) (by kernel_rfl) (fun _ _ _ h => h) (Or.inl ⟨by rfl, fun w' hSw => by obtain ⟨z0, z1, z2, z3, z4, z5⟩ := hSw; go_simp⟩) hHeld ?_
        simp only [Act.put, List.getElem_toArray, List.getElem_cons_zero, List.getElem_cons_succ, List.setIfInBounds_toArray, List.set_cons_zero, List.set_cons_succ]
        refine wpAnyH_take (i := 4) (oi := _) (v := .bool false) rfl (by kernel_rfl) (by kernel_rfl) (by kernel_rfl) (fun _ _ _ h => h) (Or.inl ⟨by rfl, fun w' hSw => by obtain ⟨z0, z1, z2, z3, z4, z5⟩ := hSw; go_simp⟩) hHeld ?_
        simp only [Act.put, List.getElem_toArray, List.getElem_cons_zero, List.getElem_cons_succ, List.setIfInBounds_toArray, List.set_cons_zero, List.set_cons_succ]
        refine wpAnyH_take (i := 5) (oi := _) (v := .bool false) rfl (by kernel_rfl) (by kernel_rfl) (by kernel_rfl) (fun _ _ _ h => h) (Or.inl ⟨by rfl, fun w' hSw => by obtain ⟨z0, z1, z2, z3, z4, z5⟩ := hSw; go_simp⟩) hHeld ?_
        simp only [Act.put, List.getElem_toArray, List.getElem_cons_zero, List.getElem_cons_succ, List.setIfInBounds_toArray, List.set_cons_zero, List.set_cons_succ]
        refine wpAnyH_take (i := 6) (oi := _) (v := undef) rfl (by kernel_rfl) (by kernel_rfl) (by kernel_rfl) (fun _ _ _ h => h) (Or.inr ⟨by rfl, rfl⟩) hHeld ?_
        simp only [Act.put, List.getElem_toArray, List.getElem_cons_zero, List.getElem_cons_succ, List.setIfInBounds_toArray, List.set_cons_zero, List.set_cons_succ]
        refine wpAnyH_take (i := 7) (oi := _) (v := undef) rfl (by kernel_rfl) (by kernel_rfl) (by kernel_rfl) (fun _ _ _ h => h) (Or.inr ⟨by rfl, rfl⟩) hHeld ?_
        simp only [Act.put, List.getElem_toArray, List.getElem_cons_zero, List.getElem_cons_succ, List.setIfInBounds_toArray, List.set_cons_zero, List.set_cons_succ]
        refine wpAnyH_take (i := 8) (oi := _) (v := undef) rfl (by kernel_rfl) (by kernel_rfl) (by kernel_rfl) (fun _ _ _ h => h) (Or.inr ⟨by rfl, rfl⟩) hHeld ?_
        simp only [Act.put, List.getElem_toArray, List.getElem_cons_zero, List.getElem_cons_succ, List.setIfInBounds_toArray, List.set_cons_zero, List.set_cons_succ]
        refine wpAnyH_take (i := 9) (oi := _) (v := undef) rfl (by kernel_rfl) (by kernel_rfl) (by kernel_rfl) (fun _ _ _ h => h) (Or.inr ⟨by rfl, rfl⟩) hHeld ?_
        simp only [Act.put, List.getElem_toArray, List.getElem_cons_zero, List.getElem_cons_succ, List.setIfInBounds_toArray, List.set_cons_zero, List.set_cons_succ]
        refine wpAnyH_take (i := 10) (oi := _) (v := undef) rfl (by kernel_rfl) (by kernel_rfl) (by kernel_rfl) (fun _ _ _ h => h) (Or.inr ⟨by rfl, rfl⟩) hHeld ?_
        simp only [Act.put, List.getElem_toArray, List.getElem_cons_zero, List.getElem_cons_succ, List.setIfInBounds_toArray, List.set_cons_zero, List.set_cons_succ]
        refine wpAnyH_take (i := 11) (oi := _) (v := undef) rfl (by kernel_rfl) (by kernel_rfl) (by kernel_rfl) (fun _ _ _ h => h) (Or.inr ⟨by rfl, rfl⟩) hHeld ?_
        simp only [Act.put, List.getElem_toArray, List.getElem_cons_zero, List.getElem_cons_succ, List.setIfInBounds_toArray, List.set_cons_zero, List.set_cons_succ]
        refine wpAnyH_take (i := 12) (oi := _) (v := .bool false) rfl (by kernel_rfl) (by kernel_rfl) (by kernel_rfl) (fun _ _ _ h => h) (Or.inl ⟨by rfl, fun w' hSw => by obtain ⟨z0, z1, z2, z3, z4, z5⟩ := hSw; go_simp⟩) hHeld ?_
        simp only [Act.put, List.getElem_toArray, List.getElem_cons_zero, List.getElem_cons_succ, List.setIfInBounds_toArray, List.set_cons_zero, List.set_cons_succ]
        refine wpAnyH_take (i := 13) (oi := _) (v := .bool false) rfl (by kernel_rfl) (by kernel_rfl) (by kernel_rfl) (fun _ _ _ h => h) (Or.inl ⟨by rfl, fun w' hSw => by obtain ⟨z0, z1, z2, z3, z4, z5⟩ := hSw; go_simp⟩) hHeld ?_
        simp only [Act.put, List.getElem_toArray, List.getElem_cons_zero, List.getElem_cons_succ, List.setIfInBounds_toArray, List.set_cons_zero, List.set_cons_succ]
        refine wpAnyH_take (i := 14) (oi := _) (v := .bool false) rfl (by kernel_rfl) (by kernel_rfl) (by kernel_rfl) (fun _ _ _ h => h) (Or.inl ⟨by rfl, fun w' hSw => by obtain ⟨z0, z1, z2, z3, z4, z5⟩ := hSw; go_simp⟩) hHeld ?_
        simp only [Act.put, List.getElem_toArray, List.getElem_cons_zero, List.getElem_cons_succ, List.setIfInBounds_toArray, List.set_cons_zero, List.set_cons_succ]
        refine wpAnyH_take (i := 15) (oi := _) (v := .slice (some ⟨w7.heap.size, 0, none⟩) 3 3) rfl (by kernel_rfl) (by kernel_rfl) (by kernel_rfl) (fun _ _ _ h => h) (Or.inl ⟨by rfl, fun w' hSw => by obtain ⟨z0, z1, z2, z3, z4, z5⟩ := hSw; go_simp⟩) hHeld ?_
        simp only [Act.put, List.getElem_toArray, List.getElem_cons_zero, List.getElem_cons_succ, List.setIfInBounds_toArray, List.set_cons_zero, List.set_cons_succ]
        refine wpAnyH_take (i := 16) (oi := _) (v := .int .i64 1) rfl (by kernel_rfl) (by kernel_rfl) (by kernel_rfl) (fun _ _ _ h => h) (Or.inl ⟨by rfl, fun w' hSw => by obtain ⟨z0, z1, z2, z3, z4, z5⟩ := hSw; go_simp⟩) hHeld ?_
        simp only [Act.put, List.getElem_toArray, List.getElem_cons_zero, List.getElem_cons_succ, List.setIfInBounds_toArray, List.set_cons_zero, List.set_cons_succ]
        refine wpAnyH_take (i := 17) (oi := _) (v := .pointer (some ⟨w7.heap.size, 1, none⟩)) rfl (by kernel_rfl) (by kernel_rfl) (by kernel_rfl) (fun _ _ _ h => h) (Or.inl ⟨by rfl, fun w' hSw => by obtain ⟨z0, z1, z2, z3, z4, z5⟩ := hSw; go_simp⟩) hHeld ?_
        simp only [Act.put, List.getElem_toArray, List.getElem_cons_zero, List.getElem_cons_succ, List.setIfInBounds_toArray, List.set_cons_zero, List.set_cons_succ]
        refine wpAnyH_take (i := 18) (oi := _) (v := .int .u64 L1) rfl (by kernel_rfl) (by kernel_rfl) (by kernel_rfl) (fun _ _ _ h => h) (Or.inl ⟨by rfl, fun w' hSw => by obtain ⟨z0, z1, z2, z3, z4, z5⟩ := hSw; go_simp⟩) hHeld ?_
        simp only [Act.put, List.getElem_toArray, List.getElem_cons_zero, List.getElem_cons_succ, List.setIfInBounds_toArray, List.set_cons_zero, List.set_cons_succ]
        refine wpAnyH_take (i := 20) (oi := _) (v := .slice (some ⟨w7.heap.size + 1, 0, none⟩) 3 3) rfl (by kernel_rfl) (by kernel_rfl) (by kernel_rfl) (fun _ _ _ h => h) (Or.inl ⟨by rfl, fun w' hSw => by obtain ⟨z0, z1, z2, z3, z4, z5⟩ := hSw; go_simp⟩) hHeld ?_
        simp only [Act.put, List.getElem_toArray, List.getElem_cons_zero, List.getElem_cons_succ, List.setIfInBounds_toArray, List.set_cons_zero, List.set_cons_succ]
        refine wpAnyH_take (i := 21) (oi := _) (v := .int .i64 1) rfl (by kernel_rfl) (by kernel_rfl) (by kernel_rfl) (fun _ _ _ h => h) (Or.inl ⟨by rfl, fun w' hSw => by obtain ⟨z0, z1, z2, z3, z4, z5⟩ := hSw; go_simp⟩) hHeld ?_
        simp only [Act.put, List.getElem_toArray, List.getElem_cons_zero, List.getElem_cons_succ, List.setIfInBounds_toArray, List.set_cons_zero, List.set_cons_succ]
        refine wpAnyH_take (i := 22) (oi := _) (v := .pointer (some ⟨w7.heap.size + 1, 1, none⟩)) rfl (by kernel_rfl) (by kernel_rfl) (by kernel_rfl) (fun _ _ _ h => h) (Or.inl ⟨by rfl, fun w' hSw => by obtain ⟨z0, z1, z2, z3, z4, z5⟩ := hSw; go_simp⟩) hHeld ?_
        simp only [Act.put, List.getElem_toArray, List.getElem_cons_zero, List.getElem_cons_succ, List.setIfInBounds_toArray, List.set_cons_zero, List.set_cons_succ]
        refine wpAnyH_take (i := 23) (oi := _) (v := .int .i64 (a - b)) rfl (by kernel_rfl) (by kernel_rfl) (by kernel_rfl) (fun _ _ _ h => h) (Or.inl ⟨by rfl, fun w' hSw => by obtain ⟨z0, z1, z2, z3, z4, z5⟩ := hSw; go_simp⟩) hHeld ?_
        simp only [Act.put, List.getElem_toArray, List.getElem_cons_zero, List.getElem_cons_succ, List.setIfInBounds_toArray, List.set_cons_zero, List.set_cons_succ]
        refine wpAnyH_ready (rs := [19]) (by kernel_rfl) (by simp) (AllReadyH.cons (o := _) rfl (fun K hK => ?_) AllReadyH.nil)
        go_simp
        refine (p1 _).mono ?_
        rintro e w2 ⟨rfl, hb2⟩
        replace x0 := cell_on hb2 x0; replace x1 := cell_on hb2 x1; replace x2 := cell_on hb2 x2; replace y0 := cell_on hb2 y0; replace y1 := cell_on hb2 y1; replace y2 := cell_on hb2 y2
        replace L := below_callC L.drew hb2
        go_wp2_with fail
        refine hK.out _ _ ⟨x0, x1, x2, y0, y1, y2⟩ (fun hHeld2 => ?_)
        clear hK K hHeld
        first | simp only [Act.put, List.getElem_toArray, List.getElem_cons_zero, List.getElem_cons_succ, List.setIfInBounds_toArray, List.set_cons_zero, List.set_cons_succ] | skip
        refine wpAnyH_ready (rs := [24]) (by kernel_rfl) (by simp) (AllReadyH.cons (o := _) rfl (fun K hK => ?_) AllReadyH.nil)
        go_simp
        refine (f1 _).mono ?_
        rintro e w3 ⟨rfl, hb3⟩
        replace x0 := cell_on hb3 x0; replace x1 := cell_on hb3 x1; replace x2 := cell_on hb3 x2; replace y0 := cell_on hb3 y0; replace y1 := cell_on hb3 y1; replace y2 := cell_on hb3 y2
        replace L := below_callC L hb3
        go_wp2_with fail
        refine hK.out _ _ ⟨x0, x1, x2, y0, y1, y2⟩ (fun hHeld3 => ?_)
        clear hK K hHeld2
        first | simp only [Act.put, List.getElem_toArray, List.getElem_cons_zero, List.getElem_cons_succ, List.setIfInBounds_toArray, List.set_cons_zero, List.set_cons_succ] | skip
        refine wpAnyH_take (i := 25) (oi := _) (v := .bool false) rfl (by kernel_rfl) (by kernel_rfl) (by kernel_rfl) (fun _ _ _ h => h) (Or.inl ⟨by rfl, fun w' hSw => by obtain ⟨z0, z1, z2, z3, z4, z5⟩ := hSw; go_simp⟩) hHeld3 ?_
        simp only [Act.put, List.getElem_toArray, List.getElem_cons_zero, List.getElem_cons_succ, List.setIfInBounds_toArray, List.set_cons_zero, List.set_cons_succ]
        refine wpAnyH_take (i := 26) (oi := _) (v := .bool false) rfl (by kernel_rfl) (by kernel_rfl) (by kernel_rfl) (fun _ _ _ h => h) (Or.inl ⟨by rfl, fun w' hSw => by obtain ⟨z0, z1, z2, z3, z4, z5⟩ := hSw; go_simp⟩) hHeld3 ?_
        simp only [Act.put, List.getElem_toArray, List.getElem_cons_zero, List.getElem_cons_succ, List.setIfInBounds_toArray, List.set_cons_zero, List.set_cons_succ]
        refine wpAnyH_done (by kernel_rfl) ?_ _
        all_goals go_wp2_with fail
        all_goals go_roundw
        all_goals first | exact ⟨2, Or.inr (Or.inr (Or.inl rfl)), by go_num, x0, x1, x2, y0, y1, y2, L⟩ | (first | (simp [intOf]; done) | (simp [intOf]; omega) | decide)
    · have tk := t2
      clear t0 t1 t2
      have ra : -2147483648 ≤ c * d := by omega
      have rb : c * d ≤ 2147483647 := by omega
      simp only [decide_eq_true (And.intro ra rb), if_true] at tk
      go_wp2_with (first
        | (go_at_call 13; refine (tk _).mono ?_; rintro e wa ⟨rfl, ga⟩; replace x0 := cell_on ga x0; replace x1 := cell_on ga x1; replace x2 := cell_on ga x2; replace y0 := cell_on ga y0; replace y1 := cell_on ga y1; replace y2 := cell_on ga y2; replace L := below_callC L ga)
        | fail)
      go_region_held3 (fun w' => w'.cell? ⟨w7.heap.size, 0, none⟩ = some (.int .u64 L0) ∧ w'.cell? ⟨w7.heap.size, 1, none⟩ = some (.int .u64 L1) ∧ w'.cell? ⟨w7.heap.size, 2, none⟩ = some (.int .u64 L2) ∧ w'.cell? ⟨w7.heap.size + 1, 0, none⟩ = some (.int .i64 (a + b)) ∧ w'.cell? ⟨w7.heap.size + 1, 1, none⟩ = some (.int .i64 (a - b)) ∧ w'.cell? ⟨w7.heap.size + 1, 2, none⟩ = some (.int .i64 (c * d)))
        (first | exact ⟨x0, x1, x2, y0, y1, y2⟩ | (simp [go_sem, *]; done))
        (first
          | (go_at_call 14; refine (p2 _).mono ?_; rintro e w2 ⟨rfl, hb2⟩; replace x0 := cell_on hb2 x0; replace x1 := cell_on hb2 x1; replace x2 := cell_on hb2 x2; replace y0 := cell_on hb2 y0; replace y1 := cell_on hb2 y1; replace y2 := cell_on hb2 y2; replace L := below_callC L.drew hb2)
          | (go_at_call 11; refine (f2 _).mono ?_; rintro e w3 ⟨rfl, hb3⟩; replace x0 := cell_on hb3 x0; replace x1 := cell_on hb3 x1; replace x2 := cell_on hb3 x2; replace y0 := cell_on hb3 y0; replace y1 := cell_on hb3 y1; replace y2 := cell_on hb3 y2; replace L := below_callC L hb3)
          | fail)
      go_wp2_with fail
      go_roundw
      case rel => exact ⟨3, Or.inr (Or.inr (Or.inr rfl)), by go_num, x0, x1, x2, y0, y1, y2, L⟩
      case measure => first | (simp [intOf]; done) | (simp [intOf]; omega) | decide
    · go_wp2_with fail
      go_ret
      exact ⟨rfl, L⟩
end Go.Proofs.Ytfdinlomlcnjnaa
namespace Go.Proofs.Ytfdinlomlcnjnaa.topIntsProof
open Go.ChangeShapes Go.WideShapes Go.ChangeAt Go.RowKit Go.Joins
set_option linter.unusedVariables false

theorem own : ownKnob Try.prog.godebug = none := by kernel_rfl
theorem i32_of_wf {x : Int} (h : (Lit.int .i32 x).wf = true) : -2147483648 ≤ x ∧ x ≤ 2147483647 := by
  simp [Lit.wf, IntKind.min, IntKind.max, IntKind.signed, IntKind.bits] at h
  exact ⟨by omega, by omega⟩

set_option maxRecDepth 100000 in
theorem lifted (os : Os) (started : os.Started) (H : Type) (enc : TypeId × Value → H) :
    ReturnsInHanded {} Try.checked os 4 .any (Rows.topIntsSpec.pre6 enc Try.prog Try.f4 Rows.topIntsRow.domain false) (Rows.topIntsSpec.post enc Try.prog Try.f4 false true false false) := by
  refine returnsInHanded_of_change (C := Try.checked) own started (by kernel_rfl) Try.func4
    (ChangeSpec.witness6 (enc := enc) (C := Try.checked) false ⟨#[], #[.int .i32 0, .int .i32 0], []⟩ 8 (by kernel_rfl) (by kernel_rfl) (by kernel_rfl) (by kernel_rfl)) ?_
  intro W base args ds gs before hval0 hW hcnd _
  have hval : ∀ (j : Nat) t v, Try.f4.params[j]? = some t → args[j]? = some v → Value.okWide Try.prog W .any base t v := hval0
  have hW' := hW
  obtain ⟨p, q, hA0, hV, rfl, hfz, hnd⟩ := hW
  have hA : DataW.TrodAll enc Try.prog W 0 (fun _ => true) true Try.f4.params.toList args.toList ds p := hA0
  rw [Try.params4] at hA hval
  obtain ⟨v0, vs0, d0, ds0, p0, q0, hargs, rfl, rfl, h0, r0⟩ := trodAll_cons hA
  obtain ⟨v1, vs1, d1, ds1, p1, q1, rfl, rfl, rfl, h1, r1⟩ := trodAll_cons r0
  obtain ⟨rfl, rfl, rfl⟩ := trodAll_nil r1
  obtain rfl : args = #[v0, v1] := by cases args; simp_all
  obtain ⟨rfl, rfl⟩ := trodVars_none hV
  obtain ⟨x0, rfl, rfl, rfl, wx0⟩ := open_int Try.underlying21 (hval 0 21 v0 rfl rfl) h0
  obtain ⟨x1, rfl, rfl, rfl, wx1⟩ := open_int Try.underlying21 (hval 1 21 v1 rfl rfl) h1
  clear hA0 hval0
  refine (law_topints x0 x1 (i32_of_wf wx0).1 (i32_of_wf wx0).2 (i32_of_wf wx1).1 (i32_of_wf wx1).2 W).mono fun e W' ⟨he, bel⟩ => ?_
  subst he
  exact ⟨_, rfl, _, _, _, [], _, [], hW', trodAll_mk1 (shut_bool Try.underlying4 _), (trodAll_cons_mk (shut_int Try.underlying21 wx0) (trodAll_cons_mk (shut_int Try.underlying21 wx1) trodAll_mk0)), rfl, bel.frame _, fun h => by cases h⟩

theorem over : Rows.topIntsRow.holds Try.pinned (OpenSpec.ofChange Rows.topIntsSpec) :=
  OpenClaim.holds_of_wide 4 Try.f4 rfl rfl rfl rfl rfl rfl rfl ⟨rfl, rfl, rfl, rfl, rfl⟩ rfl rfl rfl rfl rfl (by kernel_rfl) Try.func4 (by kernel_rfl)
    (of_decide_eq_true (by kernel_rfl)) (by unfold Func.isWrapper; first | (rw [if_pos (by decide +kernel)]; kernel_rfl) | (rw [if_neg (by decide +kernel)]; exact ⟨rfl, rfl⟩))
    (fun os started H enc _ => lifted os started H enc)
end Go.Proofs.Ytfdinlomlcnjnaa.topIntsProof
namespace Go.Proofs.Ytfdinlomlcnjnaa
theorem topInts_holds : Rows.TopIntsSaid := topIntsProof.over
end Go.Proofs.Ytfdinlomlcnjnaa

