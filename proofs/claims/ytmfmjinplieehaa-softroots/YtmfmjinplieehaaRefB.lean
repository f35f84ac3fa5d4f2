/- What plumblineref01.From answers: the number of a row of bools. -/
import Derived.Test.YtmfmjinplieehaaRefA
namespace Go.Proofs.Ytmfmjinplieehaa
open Go.RowKit
set_option linter.unusedVariables false

theorem or_bit (x y : Int) (hx : Word x) (hy : Word y) : Word (bits BinOp.or IntKind.u64 x y) ∧ (bits BinOp.or IntKind.u64 x y).toNat = x.toNat ||| y.toNat := by
  obtain ⟨a, rfl⟩ := Int.eq_ofNat_of_zero_le hx.1
  obtain ⟨b, rfl⟩ := Int.eq_ofNat_of_zero_le hy.1
  have ha := hx.2; have hb := hy.2
  rw [bits_or_u64_nat a b (by omega) (by omega)]
  have l : a ||| b < 2 ^ 64 := Nat.or_lt_two_pow (by omega) (by omega)
  exact ⟨⟨by omega, by omega⟩, rfl⟩
theorem pow_word (k : Nat) (hk : k < 64) : Word ((2 : Int) ^ k) ∧ ((2 : Int) ^ k).toNat = 2 ^ k := by
  have e : (2 : Int) ^ k = ((2 ^ k : Nat) : Int) := by simp
  have l : 2 ^ k < 2 ^ 64 := Nat.pow_lt_pow_right (by decide) hk
  rw [e]
  exact ⟨⟨Int.natCast_nonneg _, by omega⟩, rfl⟩
theorem wrap_pow (k : Nat) (hk : k < 64) : IntKind.u64.wrap ((2 : Int) ^ k) = 2 ^ k := by
  obtain ⟨⟨a, b⟩, _⟩ := pow_word k hk
  rw [IntKind.wrap_u64]; omega
/-- One more bit in the lower word. -/
theorem low_set (h l : Int) (a : Word h) (b : Word l) (k : Nat) (hk : k < 64) : Word (bits BinOp.or IntKind.u64 l (2 ^ k)) ∧ ∀ j, (N h (bits BinOp.or IntKind.u64 l (2 ^ k))).testBit j = ((N h l).testBit j || decide (j = k)) := by
  obtain ⟨p1, p2⟩ := pow_word k hk
  obtain ⟨o1, o2⟩ := or_bit l (2 ^ k) b p1
  refine ⟨o1, fun j => ?_⟩
  rw [N_bit a o1, N_bit a b, o2, p2]
  by_cases c : j < 64
  · rw [if_pos c, if_pos c, Nat.testBit_or, Nat.testBit_two_pow]
    congr 1
    rw [decide_eq_decide]; omega
  · rw [if_neg c, if_neg c]
    have : ¬ j = k := by omega
    simp [this]
theorem high_set (h l : Int) (a : Word h) (b : Word l) (k : Nat) (hk : 64 ≤ k) (hk' : k < 128) : Word (bits BinOp.or IntKind.u64 h (2 ^ (k - 64))) ∧ ∀ j, (N (bits BinOp.or IntKind.u64 h (2 ^ (k - 64))) l).testBit j = ((N h l).testBit j || decide (j = k)) := by
  obtain ⟨p1, p2⟩ := pow_word (k - 64) (by omega)
  obtain ⟨o1, o2⟩ := or_bit h (2 ^ (k - 64)) a p1
  refine ⟨o1, fun j => ?_⟩
  rw [N_bit o1 b, N_bit a b, o2, p2]
  by_cases c : j < 64
  · rw [if_pos c, if_pos c]
    have : ¬ j = k := by omega
    simp [this]
  · rw [if_neg c, if_neg c, Nat.testBit_or, Nat.testBit_two_pow]
    congr 1
    rw [decide_eq_decide]; omega
/-- The number whose bits are f's, up to k. -/
def IsFrom (f : Nat → Bool) (k x : Nat) : Prop := ∀ j, x.testBit j = (decide (j < k) && f j)
theorem isFrom_zero (f : Nat → Bool) : IsFrom f 0 0 := fun j => by simp
theorem IsFrom.skip {f : Nat → Bool} {k x : Nat} (h : IsFrom f k x) (hf : f k = false) : IsFrom f (k + 1) x := fun j => by
  rw [h j]
  by_cases e : j = k
  · subst e; simp [hf]
  · have : (decide (j < k)) = decide (j < k + 1) := by rw [decide_eq_decide]; omega
    rw [this]
theorem IsFrom.step {f : Nat → Bool} {k x y : Nat} (h : IsFrom f k x) (hf : f k = true) (hy : ∀ j, y.testBit j = (x.testBit j || decide (j = k))) : IsFrom f (k + 1) y := fun j => by
  rw [hy j, h j]
  by_cases e : j = k
  · subst e; simp [hf]
  · have : (decide (j < k)) = decide (j < k + 1) := by rw [decide_eq_decide]; omega
    rw [this]; simp [e]

set_option maxHeartbeats 1600000 in
theorem from_any (b n cap : Nat) (f : Nat → Bool) (hn : n ≤ 1000) (w : World) (hrow : RowB w b n f) (hs : b < w.heap.size) :
    Calls Try.prog 95 #[.slice (some ⟨b, 0, none⟩) n cap] w fun e w' =>
      ∃ h l : Int, e = .returned (.agg #[.int .u64 h, .int .u64 l]) ∧ Word h ∧ Word l ∧ IsFrom f (min n 128) (N h l) ∧ Below w.heap.size w w' := by
  go_enter Try.func95, Try.ntmps95
  go_wp2
  go_loopw [4] (fun i wr => ∃ (k : Nat) (h l : Int), k ≤ n ∧ k ≤ 128 ∧ i = .int .i64 k ∧ Word h ∧ Word l ∧ IsFrom f k (N h l) ∧ w.heap.size < wr.heap.size ∧ w.heap.size + 1 < wr.heap.size ∧ wr.cell? ⟨w.heap.size + 1, 0, none⟩ = some (.int .u64 h) ∧ wr.cell? ⟨w.heap.size + 1, 1, none⟩ = some (.int .u64 l) ∧ wr.frozen? ⟨w.heap.size + 1, 0, none⟩ = false ∧ wr.frozen? ⟨w.heap.size + 1, 1, none⟩ = false ∧ (∃ x y, wr.cell? ⟨w.heap.size, 0, none⟩ = some x ∧ wr.cell? ⟨w.heap.size, 1, none⟩ = some y) ∧ wr.frozen? ⟨w.heap.size, 0, none⟩ = false ∧ wr.frozen? ⟨w.heap.size, 1, none⟩ = false ∧ Below w.heap.size w wr) (fun i _ => 1000 - (intOf i).toNat)
  case atStart =>
    refine ⟨0, 0, 0, by omega, by omega, rfl, word_zero, word_zero, isFrom_zero f, by simp; omega, by simp, ?_, ?_, ?_, ?_, ⟨.int .u64 0, .int .u64 0, ?_, ?_⟩, ?_, ?_, below_two _ _ _⟩ <;> simp [go_sem]
  case round =>
    obtain ⟨k, h, l, hk, hk2, rfl, wh, wl, hI, s0, s1, c0, c1, f0, f1, ⟨x, y, d0, d1⟩, f2, f3, hb⟩ := hrel
    by_cases hin : k < n ∧ k < 128
    · obtain ⟨hlt, hlt2⟩ := hin
      have ge : wr.cell? ⟨b, k, none⟩ = some (.bool (f k)) := by rw [(bcell hb).1 _ _ hs]; exact hrow k hlt
      have t1 : (k : Int) < (n : Int) := by omega
      have t2 : (k : Int) < 128 := by omega
      cases hf : f k
      · rw [hf] at ge
        have I2 := hI.skip hf
        clear hf
        go_wp2
        go_roundw
        case rel => exact ⟨k + 1, h, l, by omega, by omega, by go_num, wh, wl, I2, s0, s1, c0, c1, f0, f1, ⟨x, y, d0, d1⟩, f2, f3, hb⟩
        case measure => simp [intOf]; omega
      · rw [hf] at ge
        by_cases h64 : k < 64
        · obtain ⟨w2, b2⟩ := low_set h l wh wl k h64
          have I2 := hI.step hf b2
          clear hf b2
          have t3 : (k : Int) < 64 := by omega
          have qw := wrap_pow k h64
          go_wp2
          go_region
          go_wp2
          go_roundw
          case rel => exact ⟨k + 1, h, _, by omega, by omega, by go_num, wh, w2, I2, by simpa using s0, by simpa using s1, by simp [go_sem, c0], by simp [go_sem, c1], by simp [go_sem, f0], by simp [go_sem, f1], ⟨x, y, by simp [go_sem, d0], by simp [go_sem, d1]⟩, by simp [go_sem, f2], by simp [go_sem, f3], (hb.setCell (by simp) _).drew⟩
          case measure => simp [intOf]; omega
        · obtain ⟨w2, b2⟩ := high_set h l wh wl k (by omega) hlt2
          have I2 := hI.step hf b2
          clear hf b2
          have t3 : ¬ (k : Int) < 64 := by omega
          have qw := wrap_pow (k - 64) (by omega)
          go_wp2
          go_region
          go_wp2
          go_roundw
          case rel => exact ⟨k + 1, _, l, by omega, by omega, by go_num, w2, wl, I2, by simpa using s0, by simpa using s1, by simp [go_sem, c0], by simp [go_sem, c1], by simp [go_sem, f0], by simp [go_sem, f1], ⟨x, y, by simp [go_sem, d0], by simp [go_sem, d1]⟩, by simp [go_sem, f2], by simp [go_sem, f3], (hb.setCell (by simp) _).drew⟩
          case measure => simp [intOf]; omega
    · have hm : k = min n 128 := by omega
      have HM : Hid _ := hm
      clear hm
      by_cases hlt : k < n
      · have t1 : (k : Int) < (n : Int) := by omega
        have t2 : ¬ (k : Int) < 128 := by omega
        go_wp2
        refine bodyPost_ret (v := .agg #[.int .u64 h, .int .u64 l]) (by simp [results, Try.results95, go_sem, *]) rfl ?_
        exact ⟨_, _, rfl, wh, wl, by rw [← HM.out]; exact hI, (hb.setCell (by simp) _).setCell (by simp) _⟩
      · have t1 : ¬ (k : Int) < (n : Int) := by omega
        go_wp2
        refine bodyPost_ret (v := .agg #[.int .u64 h, .int .u64 l]) (by simp [results, Try.results95, go_sem, *]) rfl ?_
        exact ⟨_, _, rfl, wh, wl, by rw [← HM.out]; exact hI, (hb.setCell (by simp) _).setCell (by simp) _⟩
end Go.Proofs.Ytmfmjinplieehaa
