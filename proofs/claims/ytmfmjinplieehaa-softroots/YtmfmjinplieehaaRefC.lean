/- What plumblineref01.add answers: the bits of a sum. -/
import Derived.Test.YtmfmjinplieehaaRefB
namespace Go.Proofs.Ytmfmjinplieehaa
open Go.RowKit
set_option linter.unusedVariables false

/-- What is carried into place k. -/
def cB (A B c k : Nat) : Bool := decide (2 ^ k ≤ A % 2 ^ k + B % 2 ^ k + c)
theorem cB_zero (A B c : Nat) : cB A B c 0 = decide (1 ≤ c) := by unfold cB; rw [Nat.pow_zero, Nat.mod_one, Nat.mod_one]; simp
theorem bitN (A k : Nat) : A.testBit k = decide (A / 2 ^ k % 2 = 1) := Nat.testBit_eq_decide_div_mod_eq
theorem sum_parts (A B c k : Nat) (hc : c ≤ 1) : (A + B + c) / 2 ^ k = A / 2 ^ k + B / 2 ^ k + (if cB A B c k then 1 else 0) := by
  unfold cB
  have p := pow_pos' k
  have a := Nat.div_add_mod A (2 ^ k)
  have b := Nat.div_add_mod B (2 ^ k)
  have la := Nat.mod_lt A p
  have lb := Nat.mod_lt B p
  generalize A % 2 ^ k = x at *
  generalize B % 2 ^ k = y at *
  generalize A / 2 ^ k = q at *
  generalize B / 2 ^ k = r at *
  have e : A + B + c = (x + y + c) + 2 ^ k * (q + r) := by rw [Nat.mul_add]; omega
  rw [e, Nat.add_mul_div_left _ _ p]
  by_cases h : 2 ^ k ≤ x + y + c
  · have : (x + y + c) / 2 ^ k = 1 := by
      rw [Nat.div_eq_iff p]; omega
    simp [h]; omega
  · rw [Nat.div_eq_of_lt (by omega)]
    simp [h]
theorem sum_bit (A B c k : Nat) (hc : c ≤ 1) : (A + B + c).testBit k = ((A.testBit k ^^ B.testBit k) ^^ cB A B c k) := by
  rw [bitN, bitN, bitN, sum_parts A B c k hc]
  generalize A / 2 ^ k = q
  generalize B / 2 ^ k = r
  rcases Nat.mod_two_eq_zero_or_one q with h1 | h1 <;> rcases Nat.mod_two_eq_zero_or_one r with h2 | h2 <;> cases cB A B c k <;> simp [h1, h2] <;> omega
theorem cB_succ (A B c k : Nat) (hc : c ≤ 1) : cB A B c (k + 1) = (A.testBit k && B.testBit k || (A.testBit k || B.testBit k) && cB A B c k) := by
  rw [bitN, bitN]
  unfold cB
  rw [Nat.mod_pow_succ, Nat.mod_pow_succ, Nat.pow_succ]
  have p := pow_pos' k
  have la := Nat.mod_lt A p
  have lb := Nat.mod_lt B p
  generalize A % 2 ^ k = x at *
  generalize B % 2 ^ k = y at *
  generalize A / 2 ^ k = q at *
  generalize B / 2 ^ k = r at *
  generalize 2 ^ k = P at *
  rcases Nat.mod_two_eq_zero_or_one q with h1 | h1 <;> rcases Nat.mod_two_eq_zero_or_one r with h2 | h2 <;> simp [h1, h2] <;> omega

/-- The row behind k rounds. -/
def sumTo (S k : Nat) (j : Nat) : Bool := decide (j < k) && S.testBit j
theorem sumTo_zero (S : Nat) : sumTo S 0 = fun _ => false := by funext j; simp [sumTo]
theorem sumTo_succ (S k : Nat) (v : Bool) (hv : v = S.testBit k) : (fun i => if i = k then v else sumTo S k i) = sumTo S (k + 1) := by
  funext j
  unfold sumTo
  by_cases e : j = k
  · subst e; simp [hv]
  · have : (decide (j < k)) = decide (j < k + 1) := by rw [decide_eq_decide]; omega
    simp [e, this]
theorem sumTo_full (S k j : Nat) (h : j < k) : sumTo S k j = S.testBit j := by simp [sumTo, h]

set_option maxHeartbeats 3200000 in
theorem add_bits (b1 b2 : Nat) (A B : Nat) (c : Bool) (w : World) (r1 : RowB w b1 128 A.testBit) (r2 : RowB w b2 128 B.testBit) (z1 : b1 < w.heap.size) (z2 : b2 < w.heap.size) :
    Calls Try.prog 103 #[.slice (some ⟨b1, 0, none⟩) 128 128, .slice (some ⟨b2, 0, none⟩) 128 128, .bool c] w fun e w' =>
      ∃ b : Nat, e = .returned (.slice (some ⟨b, 0, none⟩) 129 129) ∧ b < w'.heap.size ∧ RowB w' b 129 (fun j => if j = 128 then cB A B (if c then 1 else 0) 128 else (A + B + (if c then 1 else 0)).testBit j) ∧ Below w.heap.size w w' := by
  have hmk : ∀ w : World, (Instr.makeSlice 66 (.int .i64 129) (.int .i64 129)).run Try.prog w = .ok (.slice (some ⟨w.heap.size, 0, none⟩) 129 129) (freshW w 129) := fun w => make_bools 129 (by decide) w
  have hc : (if c then 1 else 0 : Nat) ≤ 1 := by cases c <;> decide
  have c0 : c = cB A B (if c then 1 else 0) 0 := by rw [cB_zero]; cases c <;> rfl
  generalize hcc : (if c then 1 else 0 : Nat) = cc at hc c0 ⊢
  clear hcc
  have C0 : Hid _ := c0
  clear c0
  go_enter Try.func103, Try.ntmps103
  go_wp2
  go_loopw [2, 9] (fun u i wr => ∃ (k : Nat), k ≤ 128 ∧ i = .int .i64 k ∧ u = .bool (cB A B cc k) ∧ w.heap.size < wr.heap.size ∧ RowB wr w.heap.size 129 (sumTo (A + B + cc) k) ∧ RowF wr w.heap.size 129 ∧ Below w.heap.size w wr) (fun _ i _ => 128 - (intOf i).toNat)
  case atStart =>
    refine ⟨0, by omega, rfl, congrArg Value.bool C0.out, by rw [fresh_size]; omega, ?_, fresh_free _ _, fresh_below _ _⟩
    rw [sumTo_zero]; exact fresh_row _ _
  case round =>
    obtain ⟨k, hk, rfl, rfl, s0, hrow, hfree, hb⟩ := hrel
    by_cases hlt : k < 128
    · have t1 : (k : Int) < 128 := by omega
      have ga : wr.cell? ⟨b1, k, none⟩ = some (.bool (A.testBit k)) := by rw [(bcell hb).1 _ _ z1]; exact r1 k hlt
      have gb : wr.cell? ⟨b2, k, none⟩ = some (.bool (B.testBit k)) := by rw [(bcell hb).1 _ _ z2]; exact r2 k hlt
      have go := hrow k (by omega)
      have ho := hfree k (by omega)
      have sb := sum_bit A B cc k hc
      have cs := cB_succ A B cc k hc
      generalize A.testBit k = x at *
      generalize B.testBit k = y at *
      generalize hz : cB A B cc k = z at *
      have S1 : Hid _ := sb
      have S2 : Hid _ := cs
      clear sb cs hz
      cases x <;> cases y <;> cases z
      all_goals
        go_wp2
        go_roundw
        case rel =>
          refine ⟨k + 1, by omega, by go_num, congrArg Value.bool S2.out.symm, by simpa using s0, ?_, hfree.set _ _, hb.setCell (by simp) _⟩
          rw [← sumTo_succ (A + B + cc) k _ S1.out.symm]
          exact hrow.set k _ (by omega)
        case measure => simp [intOf]; omega
    · have : k = 128 := by omega
      subst this
      have go := hrow 128 (by omega)
      have ho := hfree 128 (by omega)
      go_wp2
      go_ret
      refine ⟨_, rfl, by simpa using s0, ?_, hb.setCell (by simp) _⟩
      refine (hrow.set 128 _ (by omega)).ext (fun i hi => ?_)
      by_cases e : i = 128
      · simp [e]
      · simp only [if_neg e]
        exact sumTo_full _ _ _ (by omega)
end Go.Proofs.Ytmfmjinplieehaa
