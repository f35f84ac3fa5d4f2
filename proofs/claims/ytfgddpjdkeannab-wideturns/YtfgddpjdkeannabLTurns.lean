/- The statement WideTurns, walked: moved up and down again a number is itself. -/
import Derived.Test.YtfgddpjdkeannabAids
namespace Go.Proofs.Ytfgddpjdkeannab
open Go.RowKit
set_option linter.unusedVariables false
theorem turn_num (A V X : Int) (n : Nat) (len : Int) (I : IsLen len A) (hA : 0 ≤ A) (hn : (n : Int) ≤ 128 - len) (V1 : V = A * 2 ^ n % 340282366920938463463374607431768211456) (X1 : X = V / 2 ^ n) : X = A ∧ V % 2 ^ n = 0 := by
  obtain ⟨i0, i1, i2, _, _⟩ := I
  have p : (0 : Int) < 2 ^ n := Int.pow_pos (by decide)
  have l : A * 2 ^ n < 340282366920938463463374607431768211456 := by
    have h1 : A * 2 ^ n < 2 ^ len.toNat * 2 ^ n := Int.mul_lt_mul_of_pos_right i2 p
    rw [← Int.pow_add] at h1
    have h2 : (2 : Int) ^ (len.toNat + n) ≤ 2 ^ 128 := by
      have l' : (2 : Nat) ^ (len.toNat + n) ≤ 2 ^ 128 := Nat.pow_le_pow_right (by decide) (by omega)
      have e1 : (2 : Int) ^ (len.toNat + n) = ((2 ^ (len.toNat + n) : Nat) : Int) := by simp
      rw [e1]
      have e2 : (2 : Int) ^ 128 = ((2 ^ 128 : Nat) : Int) := by decide
      rw [e2]; omega
    have e3 : (2 : Int) ^ 128 = 340282366920938463463374607431768211456 := by decide
    omega
  have h0 : 0 ≤ A * 2 ^ n := Int.mul_nonneg hA (by omega)
  rw [Int.emod_eq_of_lt h0 l] at V1
  rw [X1, V1]
  exact ⟨Int.mul_ediv_cancel A (by omega), Int.mul_emod_left A _⟩
theorem not_lost {c : Bool} {V : Int} {n : Nat} (h : c = decide (¬ V % 2 ^ n = 0)) (z : V % 2 ^ n = 0) : c = false := by rw [h, z]; simp

set_option maxHeartbeats 1600000 in
theorem law_turns (ah al n : Int) (h1 : Word ah) (h2 : Word al) (hn : -9223372036854775808 ≤ n) (hn' : n ≤ 9223372036854775807) (w : World) :
    Calls Try.prog 5 #[.agg #[.int .u64 ah, .int .u64 al], .int .i64 n] w fun e w' => e = .returned (.bool true) ∧ Below w.heap.size w w' := by
  have hq := eql_u128
  have hnot : ∀ (x : Bool) (w : World), (Op.unary .not (.bool x)).run Try.prog w = .ok (.bool (!x)) w := fun _ _ => rfl
  have L := (Below.refl w.heap.size w).alloc (Nat.le_refl _) (.cells #[.int .u64 ah, .int .u64 al] 24)
  have c0 := cell_new0 w (.int .u64 ah) (.int .u64 al) 24
  have c1 := cell_new1 w (.int .u64 ah) (.int .u64 al) 24
  by_cases hneg : n < 0
  · go_enter Try.func5, Try.ntmps5
    go_wp2_with fail
    refine (live_any _).mono ?_
    rintro e w1 ⟨rfl, hb1⟩
    go_wp2_with fail
    go_ret
    exact ⟨rfl, below_call L hb1⟩
  · go_enter Try.func5, Try.ntmps5
    go_wp2_with fail
    refine (len_any ah al h1 h2 _).mono ?_
    rintro e w1 ⟨len, rfl, l0, l1, I, hb1⟩
    replace c0 := cell_on hb1 c0; replace c1 := cell_on hb1 c1
    replace L := below_call L hb1
    by_cases hbig : 128 - len < n
    · go_wp2_with fail
      refine (live_any _).mono ?_
      rintro e w2 ⟨rfl, hb2⟩
      go_wp2_with fail
      go_ret
      exact ⟨rfl, below_call L hb2⟩
    · go_wp2_with fail
      refine (shl_any ah al n h1 h2 hn hn' _).mono ?_
      rintro e w2 ⟨vh, vl, rfl, wvh, wvl, V, hb2⟩
      replace c0 := cell_on hb2 c0; replace c1 := cell_on hb2 c1
      replace L := below_call L hb2
      go_wp2_with fail
      refine (shr_any vh vl n wvh wvl hn hn' _).mono ?_
      rintro e w3 ⟨xh, xl, c, rfl, wxh, wxl, X1, X2, hb3⟩
      obtain ⟨eA, ez⟩ := turn_num (num ah al) (num vh vl) (num xh xl) n.toNat len I (num_lo h1 h2) (by omega) V.out X1.out
      obtain rfl := not_lost X2.out ez
      obtain ⟨rfl, rfl⟩ := num_inj wxh wxl h1 h2 eA
      clear eA ez X1 X2 V
      replace c0 := cell_on hb3 c0; replace c1 := cell_on hb3 c1
      replace L := below_call L hb3
      have z0 := lt_new c0
      go_wp2_with fail
      refine (live_any _).mono ?_
      rintro e w4 ⟨rfl, hb4⟩
      have e0 := cell_on hb4 (cell_new0 w3 _ _ _); have e1 := cell_on hb4 (cell_new1 w3 _ _ _)
      replace c0 := cell_on hb4 (cell_past c0 _); replace c1 := cell_on hb4 (cell_past c1 _)
      replace L := below_call (below_new L _) hb4
      have q1 : eq2 xh xl xh xl = true := eq2_true rfl rfl
      go_wp2_with fail
      go_ret
      exact ⟨rfl, L⟩
end Go.Proofs.Ytfgddpjdkeannab
