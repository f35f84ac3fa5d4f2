/- What plumblineref01.Len and Compare answer. -/
import Derived.Test.YtmfmjinplieehaaRefE
import Derived.Test.YtmfmjinplieehaaAids
namespace Go.Proofs.Ytmfmjinplieehaa
open Go.RowKit
set_option linter.unusedVariables false

/-! ### The number of bits -/
structure LenTo (A k n : Nat) : Prop where
  le : n ≤ k
  lt : A % 2 ^ k < 2 ^ n
  ge : A % 2 ^ k = 0 ∨ 2 ^ n ≤ 2 * (A % 2 ^ k)
  zero : A % 2 ^ k = 0 → n = 0
theorem lenTo_zero (A : Nat) : LenTo A 0 0 := ⟨by omega, by rw [Nat.pow_zero, Nat.mod_one]; decide, Or.inl (by rw [Nat.pow_zero, Nat.mod_one]), fun _ => rfl⟩
theorem LenTo.no {A k n : Nat} (h : LenTo A k n) (hb : A.testBit k = false) : LenTo A (k + 1) n := by
  rw [bitN, decide_eq_false_iff_not] at hb
  have e : A % 2 ^ (k + 1) = A % 2 ^ k := by
    rw [Nat.mod_pow_succ]
    have : A / 2 ^ k % 2 = 0 := by omega
    rw [this]; omega
  exact ⟨by have := h.le; omega, by rw [e]; exact h.lt, by rw [e]; exact h.ge, by rw [e]; exact h.zero⟩
theorem LenTo.yes {A k n : Nat} (h : LenTo A k n) (hb : A.testBit k = true) : LenTo A (k + 1) (k + 1) := by
  rw [bitN, decide_eq_true_iff] at hb
  have e : A % 2 ^ (k + 1) = A % 2 ^ k + 2 ^ k := by rw [Nat.mod_pow_succ, hb]; omega
  have l := Nat.mod_lt A (pow_pos' k)
  have p := pow_pos' k
  refine ⟨by omega, Nat.mod_lt _ (pow_pos' _), Or.inr ?_, fun hz => ?_⟩
  · rw [e, Nat.pow_succ]; omega
  · omega
theorem LenTo.isLen {h l : Int} {n : Nat} (a : Word h) (b : Word l) (i : LenTo (N h l) 128 n) : IsLen (n : Int) (num h l) := by
  obtain ⟨i1, i2, i3, i4⟩ := i
  rw [Nat.mod_eq_of_lt (N_lt a b)] at i2 i3 i4
  have c := N_cast a b
  have e : (2 : Int) ^ ((n : Int).toNat) = ((2 ^ n : Nat) : Int) := by simp
  unfold IsLen
  rw [e]
  generalize 2 ^ n = P at *
  refine ⟨by omega, by omega, by omega, ?_, fun hz => ?_⟩
  · rcases i3 with i3 | i3
    · left; omega
    · right; omega
  · have := i4 (by omega); omega
theorem isLen_uniq {A n m : Int} (h : IsLen n A) (h' : IsLen m A) : n = m := by
  obtain ⟨a0, a1, a2, a3, a4⟩ := h
  obtain ⟨b0, b1, b2, b3, b4⟩ := h'
  by_cases z : A = 0
  · rw [a4 z, b4 z]
  · have key : ∀ x y : Int, 0 ≤ x → 0 ≤ y → A < 2 ^ x.toNat → 2 ^ y.toNat ≤ 2 * A → y ≤ x := by
      intro x y hx hy p q
      by_cases c : y ≤ x
      · exact c
      · have l : (2 : Int) ^ (x.toNat + 1) ≤ 2 ^ y.toNat := by
          have l' : (2 : Nat) ^ (x.toNat + 1) ≤ 2 ^ y.toNat := Nat.pow_le_pow_right (by decide) (by omega)
          have e1 : (2 : Int) ^ (x.toNat + 1) = ((2 ^ (x.toNat + 1) : Nat) : Int) := by simp
          have e2 : (2 : Int) ^ y.toNat = ((2 ^ y.toNat : Nat) : Int) := by simp
          rw [e1, e2]
          omega
        rw [Int.pow_succ] at l
        omega
    have x := key n m a0 b0 a2 (b3.resolve_left z)
    have y := key m n b0 a0 b2 (a3.resolve_left z)
    omega

set_option maxHeartbeats 1600000 in
theorem rlen_any (ah al : Int) (h1 : Word ah) (h2 : Word al) (w : World) :
    Calls Try.prog 64 #[.agg #[.int .u64 ah, .int .u64 al]] w fun e w' => ∃ n : Int, e = .returned (.int .i64 n) ∧ IsLen n (num ah al) ∧ Below w.heap.size w w' := by
  go_enter Try.func64, Try.ntmps64
  go_wp2_with fail
  refine (bits_any ah al h1 h2 _).mono ?_
  rintro e w1 ⟨q, rfl, x1, y1, r1, _, B1⟩
  have L1 := below_call ((Below.refl w.heap.size w).alloc (Nat.le_refl _) _) B1
  go_wp2_with fail
  go_loop [4, 5] (fun u i => ∃ k n : Nat, k ≤ 128 ∧ i = .int .i64 k ∧ u = .int .i64 n ∧ LenTo (N ah al) k n) (fun _ i => 128 - (intOf i).toNat)
  case atStart => exact ⟨0, 0, by omega, rfl, rfl, lenTo_zero _⟩
  case round =>
    obtain ⟨k, n, hk, rfl, rfl, hI⟩ := hrel
    by_cases hlt : k < 128
    · have t1 : (k : Int) < 128 := by omega
      have g := r1 k hlt
      cases hb : (N ah al).testBit k
      · rw [hb] at g
        have I2 := hI.no hb
        clear hb
        go_wp2
        go_round
        case rel => exact ⟨k + 1, n, by omega, by go_num, rfl, I2⟩
        case measure => simp [intOf]; omega
      · rw [hb] at g
        have I2 := hI.yes hb
        clear hb
        go_wp2
        go_round
        case rel => exact ⟨k + 1, k + 1, by omega, by go_num, by go_num, I2⟩
        case measure => simp [intOf]; omega
    · have : k = 128 := by omega
      subst this
      go_wp2
      go_ret
      exact ⟨_, rfl, hI.isLen h1 h2, L1⟩

/-! ### Which one is greater -/
theorem cmp_bits {A B k : Nat} (e : A / 2 ^ (k + 1) = B / 2 ^ (k + 1)) (ha : A.testBit k = true) (hb : B.testBit k = false) : B < A := by
  rw [bitN, decide_eq_true_iff] at ha
  rw [bitN, decide_eq_false_iff_not] at hb
  rw [Nat.pow_succ, ← Nat.div_div_eq_div_mul, ← Nat.div_div_eq_div_mul] at e
  have l : B / 2 ^ k < A / 2 ^ k := by omega
  have := pow_pos' k
  rcases Nat.lt_or_ge B A with h | h
  · exact h
  · have := Nat.div_le_div_right (c := 2 ^ k) h
    omega
theorem cmp_same {A B k : Nat} (e : A / 2 ^ (k + 1) = B / 2 ^ (k + 1)) (h : A.testBit k = B.testBit k) : A / 2 ^ k = B / 2 ^ k := by
  rw [bitN, bitN, decide_eq_decide] at h
  rw [Nat.pow_succ, ← Nat.div_div_eq_div_mul, ← Nat.div_div_eq_div_mul] at e
  omega

set_option maxHeartbeats 1600000 in
theorem rcmp_any (ah al bh bl : Int) (h1 : Word ah) (h2 : Word al) (h3 : Word bh) (h4 : Word bl) (w : World) :
    Calls Try.prog 89 #[.agg #[.int .u64 ah, .int .u64 al], .agg #[.int .u64 bh, .int .u64 bl]] w fun e w' =>
      ∃ n : Int, e = .returned (.int .i64 n) ∧ Hid (n = cmpN (num ah al) (num bh bl)) ∧ Below w.heap.size w w' := by
  have L0 := (below_two w (.cells #[.int .u64 ah, .int .u64 al] 28) (.cells #[.int .u64 bh, .int .u64 bl] 28)).drew
  have c0 := cell_past (cell_new0 w (.int .u64 ah) (.int .u64 al) 28) (.cells #[.int .u64 bh, .int .u64 bl] 28)
  have c1 := cell_past (cell_new1 w (.int .u64 ah) (.int .u64 al) 28) (.cells #[.int .u64 bh, .int .u64 bl] 28)
  have d0 := cell_new0 (w.alloc (.cells #[.int .u64 ah, .int .u64 al] 28)) (.int .u64 bh) (.int .u64 bl) 28
  have d1 := cell_new1 (w.alloc (.cells #[.int .u64 ah, .int .u64 al] 28)) (.int .u64 bh) (.int .u64 bl) 28
  rw [World.size_alloc] at d0 d1
  go_enter Try.func89, Try.ntmps89
  go_upto_region 1 with fail
  go_cut [5, 6] from 8 to 11 (fun s t wx => ∃ q1 q2 : Nat, s = .slice (some ⟨q1, 0, none⟩) 128 128 ∧ t = .slice (some ⟨q2, 0, none⟩) 128 128 ∧ RowB wx q1 128 (N ah al).testBit ∧ RowB wx q2 128 (N bh bl).testBit ∧ Below w.heap.size w wx)
  case first =>
    go_region_held3 (fun w' => w'.cell? ⟨w.heap.size, 0, none⟩ = some (.int .u64 ah) ∧ w'.cell? ⟨w.heap.size, 1, none⟩ = some (.int .u64 al) ∧ w'.cell? ⟨w.heap.size + 1, 0, none⟩ = some (.int .u64 bh) ∧ w'.cell? ⟨w.heap.size + 1, 1, none⟩ = some (.int .u64 bl))
      (first | exact ⟨c0, c1, d0, d1⟩ | (simp [go_sem, *]; done))
      (first
        | (go_at_call_of 36 ah; refine (bits_any ah al h1 h2 _).mono ?_; rintro e w1 ⟨q1, rfl, x1, y1, r1, _, B1⟩; replace c0 := cell_on B1 c0; replace c1 := cell_on B1 c1; replace d0 := cell_on B1 d0; replace d1 := cell_on B1 d1; have L1 := below_call L0 B1)
        | (go_at_call_of 36 bh; refine (bits_any bh bl h3 h4 _).mono ?_; rintro e w2 ⟨q2, rfl, x2, y2, r2, _, B2⟩; replace c0 := cell_on B2 c0; replace c1 := cell_on B2 c1; replace d0 := cell_on B2 d0; replace d1 := cell_on B2 d1; have L2 := below_call L1 B2; have r1' := r1.below B2 y1))
    go_wp2_with fail
    go_meet
    exact ⟨q1, q2, rfl, rfl, r1', r2, L2⟩
  case rest =>
    obtain ⟨q1, q2, rfl, rfl, r1, r2, L2⟩ := hcut
    go_wp2_with fail
    go_loopw [7] (fun i wr => ∃ k : Nat, k ≤ 128 ∧ i = .int .i64 ((k : Int) - 1) ∧ Hid (N ah al / 2 ^ k = N bh bl / 2 ^ k) ∧ RowB wr q1 128 (N ah al).testBit ∧ RowB wr q2 128 (N bh bl).testBit ∧ Below w.heap.size w wr) (fun i _ => (intOf i + 1).toNat)
    case atStart => exact ⟨128, by omega, rfl, by rw [Nat.div_eq_of_lt (N_lt h1 h2), Nat.div_eq_of_lt (N_lt h3 h4)]; exact rfl, r1, r2, L2⟩
    case round =>
      obtain ⟨k, hk, rfl, E, r1, r2, L2⟩ := hrel
      have ca := N_cast h1 h2
      have cb := N_cast h3 h4
      have CA : Hid _ := ca
      have CB : Hid _ := cb
      clear ca cb
      by_cases hk0 : k = 0
      · subst hk0
        have e := E.out
        rw [Nat.pow_zero, Nat.div_one, Nat.div_one] at e
        have E' : Hid _ := e
        clear e
        go_wp2
        go_ret
        exact ⟨_, rfl, cmpN_eq (by rw [← CA.out, ← CB.out, E'.out]), L2⟩
      · obtain ⟨j, rfl⟩ : ∃ j, k = j + 1 := ⟨k - 1, by omega⟩
        have ej : ((j + 1 : Nat) : Int) - 1 = (j : Int) := by omega
        rw [ej]
        have t1 : (0 : Int) ≤ (j : Int) := by omega
        have t2 : (j : Int) < 128 := by omega
        have g1 := r1 j (by omega)
        have g2 := r2 j (by omega)
        cases ha : (N ah al).testBit j <;> cases hb : (N bh bl).testBit j
        · rw [ha] at g1; rw [hb] at g2
          have E2 := cmp_same E.out (ha.trans hb.symm)
          have E3 : Hid _ := E2
          clear E2 ha hb E
          go_wp2
          go_region
          go_wp2
          go_roundw
          case rel => exact ⟨j, by omega, rfl, E3, r1.drew, r2.drew, L2.drew⟩
          case measure => simp [intOf]
        · rw [ha] at g1; rw [hb] at g2
          have lt := cmp_bits E.out.symm hb ha
          clear ha hb E
          go_wp2
          go_region
          go_wp2
          go_ret
          exact ⟨_, rfl, cmpN_lt (by rw [← CA.out, ← CB.out]; omega), L2.drew⟩
        · rw [ha] at g1; rw [hb] at g2
          have lt := cmp_bits E.out ha hb
          clear ha hb E
          go_wp2
          go_region
          go_wp2
          go_ret
          exact ⟨_, rfl, cmpN_gt (by rw [← CA.out, ← CB.out]; omega), L2.drew⟩
        · rw [ha] at g1; rw [hb] at g2
          have E2 := cmp_same E.out (ha.trans hb.symm)
          have E3 : Hid _ := E2
          clear E2 ha hb E
          go_wp2
          go_region
          go_wp2
          go_roundw
          case rel => exact ⟨j, by omega, rfl, E3, r1.drew, r2.drew, L2.drew⟩
          case measure => simp [intOf]
end Go.Proofs.Ytmfmjinplieehaa

