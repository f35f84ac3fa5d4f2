/- The reference's length of a row of bits. -/
import Derived.Test.YtfdinlomlcnjnaaDoorRefA
import Derived.Test.YtfdinlomlcnjnaaDoorSRefB
namespace Go.Proofs.YtfdinlomlcnjnaaDoor
open Go.RowKit
set_option linter.unusedVariables false
set_option linter.unusedSimpArgs false
theorem top_bit {A k : Nat} (h : A < 2 ^ (k + 1)) (hb : A.testBit k = true) : blen A = k + 1 := by
  rw [Nat.testBit_eq_decide_div_mod_eq, decide_eq_true_iff] at hb
  refine blen_uniq (by omega) ?_ h
  rw [Nat.add_sub_cancel]
  by_cases c : 2 ^ k ≤ A
  · exact c
  · rw [Nat.div_eq_of_lt (by omega)] at hb; omega
theorem no_bit {A k : Nat} (h : A < 2 ^ (k + 1)) (hb : A.testBit k = false) : A < 2 ^ k := by
  rw [Nat.testBit_eq_decide_div_mod_eq, decide_eq_false_iff_not] at hb
  by_cases c : 2 ^ k ≤ A
  · have p := Nat.two_pow_pos k
    rw [Nat.pow_succ] at h
    have : A / 2 ^ k = 1 := Nat.div_eq_of_lt_le (by omega) (by omega)
    rw [this] at hb; omega
  · omega
set_option maxHeartbeats 800000 in
theorem length_any (b n cap A : Nat) (hA : A < 2 ^ n) (hn : n ≤ 1000000) (w : World) (row : RowB w b n (fun i => A.testBit i)) :
    Calls Tryd.prog 85 #[.slice (some ⟨b, 0, none⟩) n cap] w fun e w' => e = .returned (.int .i64 (blen A : Int)) ∧ w' = w := by
  have HA : Hid _ := hA
  clear hA
  go_enter Tryd.func85, Tryd.ntmps85
  go_wp2
  go_loopw [3] (fun i wr => ∃ k : Nat, k ≤ n ∧ i = .int .i64 k ∧ Hid (A < 2 ^ k) ∧ wr = w) (fun i _ => (intOf i).toNat)
  case atStart => exact ⟨n, Nat.le_refl _, rfl, HA, rfl⟩
  case round =>
    obtain ⟨k, hk, rfl, E1, rfl⟩ := hrel
    rcases Nat.eq_zero_or_pos k with rfl | kp
    · have z : blen A = 0 := by
        have := E1.out
        simp at this
        subst this
        exact blen_zero
      have Z : Hid _ := z
      clear z
      go_wp2
      go_ret
      exact ⟨i64_eq (by rw [Z.out]), rfl⟩
    · obtain ⟨j, rfl⟩ : ∃ j, k = j + 1 := ⟨k - 1, by omega⟩
      have cj : wr.cell? ⟨b, j, none⟩ = some (.bool (A.testBit j)) := row j (by omega)
      have e1 : ((j + 1 : Nat) : Int) - 1 = (j : Int) := by omega
      have e2 : (0 : Int) < ((j + 1 : Nat) : Int) := by omega
      cases t : A.testBit j
      · rw [t] at cj
        have E2 : Hid _ := no_bit E1.out t
        clear t row
        go_wp2
        go_roundw
        case rel => exact ⟨j, by omega, by go_num, E2, by first | rfl | trivial⟩
        case measure => first | (simp [intOf]; done) | (simp [intOf]; omega)
      · rw [t] at cj
        have Z : Hid _ := top_bit E1.out t
        clear t row
        go_wp2
        go_ret
        exact ⟨i64_eq (by rw [Z.out]), rfl⟩
end Go.Proofs.YtfdinlomlcnjnaaDoor

