/- Digits of texts: conv's digitsOf and number, of every text whose bytes are below 128 where they are looked at. -/
import Derived.Test.YtfbkiklopeebdaaConvLv
namespace Go.Proofs.Ytfbkiklopeebdaa
open Go.RowKit
set_option linter.unusedVariables false
set_option linter.unusedSimpArgs false
/-- Is a byte a digit? -/
def DigB (b : UInt8) : Prop := 48 ≤ b.toNat ∧ b.toNat ≤ 57
set_option maxRecDepth 100000 in
set_option maxHeartbeats 3200000 in
/-- How many digits a text begins with. -/
theorem digitsOf_any (s : ByteArray) (p : Nat) (hp : p ≤ s.size) (hs : s.size ≤ 9223372036854775807) (hd : ∀ j (h : j < s.size), j < p → DigB s[j]) (he : ∀ h : p < s.size, s[p].toNat < 128 ∧ ¬ DigB s[p]) (w : World) :
    Calls Try.prog 9 #[.string s] w fun e w' => e = .returned (.int .i64 p) ∧ Below w.heap.size w w' := by
  go_enter Try.func9, Try.ntmps9
  go_wp2_with fail
  go_loopw [3] (fun i wr => ∃ q, q ≤ p ∧ wr = w.iter s q) (fun _ wr => s.size + 1 - pos0 w.heap.size wr)
  case atStart => exact ⟨0, by omega, rfl⟩
  case round =>
    obtain ⟨q, hq, rfl⟩ := hrel
    have qs : q < 9223372036854775808 := by omega
    by_cases c : q < p
    · have l : q < s.size := by omega
      obtain ⟨d1, d2⟩ := hd q l c
      have hn : ∀ ty, (Instr.next (.pointer (some ⟨w.heap.size, 0, none⟩)) true ty).run Try.prog (w.iter s q) = .ok (.tuple #[.bool true, .int .i64 q, .int .i32 (s[q]'l).toNat]) (w.iter s (q + 1)) := fun ty => run_next_ascii w s q ty l (by omega)
      have li : (q : Int) < (s.size : Int) := by omega
      obtain ⟨b, hb⟩ : ∃ b : Nat, (s[q]'l).toNat = b := ⟨_, rfl⟩
      rw [hb] at d1 d2
      simp only [hb] at hn
      have i1 : (48 : Int) ≤ (b : Int) := by omega
      have i2 : (b : Int) ≤ 57 := by omega
      clear hd he d1 d2
      go_wp2_with fail
      go_roundw
      case rel => exact ⟨q + 1, by omega, rfl⟩
      case measure => simp only [pos0_iter]; omega
    · have qp : q = p := by omega
      subst qp
      by_cases l : q < s.size
      · obtain ⟨e1, e2⟩ := he l
        have hn : ∀ ty, (Instr.next (.pointer (some ⟨w.heap.size, 0, none⟩)) true ty).run Try.prog (w.iter s q) = .ok (.tuple #[.bool true, .int .i64 q, .int .i32 (s[q]'l).toNat]) (w.iter s (q + 1)) := fun ty => run_next_ascii w s q ty l (by omega)
        have li : (q : Int) < (s.size : Int) := by omega
        obtain ⟨b, hb⟩ : ∃ b : Nat, (s[q]'l).toNat = b := ⟨_, rfl⟩
        unfold DigB at e2
        rw [hb] at e2
        simp only [hb] at hn
        clear hd he c
        by_cases i1 : (b : Int) < 48
        · clear e2
          go_wp2_with fail
          go_ret
          exact ⟨rfl, (Below.refl _ _).alloc (Nat.le_refl _) _⟩
        · have i2 : (57 : Int) < (b : Int) := by omega
          have i3 : (48 : Int) ≤ (b : Int) := by omega
          clear e2
          go_wp2_with fail
          go_ret
          exact ⟨rfl, (Below.refl _ _).alloc (Nat.le_refl _) _⟩
      · have hn : ∀ ty, (Instr.next (.pointer (some ⟨w.heap.size, 0, none⟩)) true ty).run Try.prog (w.iter s q) = .ok (.tuple #[.bool false]) (w.iter s q) := fun ty => run_next_end w s q ty l
        have sq : s.size = q := by omega
        clear hd he c
        go_wp2_with fail
        go_ret
        exact ⟨rfl, (Below.refl _ _).alloc (Nat.le_refl _) _⟩
/-- What digits say: the first q of them. -/
def dN (f : Nat → Nat) : Nat → Nat
  | 0 => 0
  | q + 1 => 10 * dN f q + f q
theorem dN_lt (f : Nat → Nat) (h : ∀ j, f j ≤ 9) : ∀ q, dN f q < 10 ^ q
  | 0 => by simp [dN]
  | q + 1 => by
    have := dN_lt f h q
    have := h q
    simp only [dN]
    rw [Nat.pow_succ]
    omega
theorem dN_ext {f g : Nat → Nat} : ∀ q, (∀ j, j < q → f j = g j) → dN f q = dN g q
  | 0, _ => rfl
  | q + 1, h => by simp only [dN]; rw [dN_ext q (fun j hj => h j (by omega)), h q (by omega)]
set_option maxRecDepth 100000 in
set_option maxHeartbeats 3200000 in
theorem number_any (s : ByteArray) (f : Nat → Nat) (hf : ∀ j, f j ≤ 9) (hs : s.size ≤ 18) (hd : ∀ j (h : j < s.size), s[j].toNat = 48 + f j) (w : World) :
    Calls Try.prog 12 #[.string s] w fun e w' => e = .returned (.int .u64 (dN f s.size : Nat)) ∧ Below w.heap.size w w' := by
  go_enter Try.func12, Try.ntmps12
  go_wp2_with fail
  go_loopw [3] (fun n wr => ∃ q, q ≤ s.size ∧ n = .int .u64 (dN f q : Nat) ∧ wr = w.iter s q) (fun _ wr => s.size + 1 - pos0 w.heap.size wr)
  case atStart => exact ⟨0, by omega, rfl, rfl⟩
  case round =>
    obtain ⟨q, hq, rfl, rfl⟩ := hrel
    by_cases l : q < s.size
    · have e := hd q l
      have fl := hf q
      have hn : ∀ ty, (Instr.next (.pointer (some ⟨w.heap.size, 0, none⟩)) true ty).run Try.prog (w.iter s q) = .ok (.tuple #[.bool true, .int .i64 q, .int .i32 (s[q]'l).toNat]) (w.iter s (q + 1)) := fun ty => run_next_ascii w s q ty l (by omega)
      have li : (q : Int) < (s.size : Int) := by omega
      have st : Hid (dN f (q + 1) = 10 * dN f q + f q) := rfl
      have lt : dN f (q + 1) < 10 ^ (q + 1) := dN_lt f hf (q + 1)
      have lt2 : (10 : Nat) ^ (q + 1) ≤ 10 ^ 18 := Nat.pow_le_pow_right (by decide) (by omega)
      have bd : 10 * dN f q + f q < 1000000000000000000 := Nat.lt_of_lt_of_le lt lt2
      obtain ⟨b, hb⟩ : ∃ b : Nat, (s[q]'l).toNat = b := ⟨_, rfl⟩
      rw [hb] at e
      simp only [hb] at hn
      generalize hF : f q = F at *
      generalize hN : dN f q = N at *
      have i1 : ((b : Int) - 48) = (F : Int) := by omega
      have i2 : ((b : Int) - 48) % 256 = (F : Int) := by omega
      have i3 : 10 * (N : Int) < 18446744073709551616 := by omega
      have i4 : 10 * (N : Int) + (F : Int) < 18446744073709551616 := by omega
      have i5 : (F : Int) < 256 := by omega
      clear hd lt lt2 bd e fl hF hN
      go_wp2_with fail
      go_roundw
      case rel => exact ⟨q + 1, by omega, by rw [st.out]; congr 1, rfl⟩
      case measure => simp only [pos0_iter]; omega
    · have hn : ∀ ty, (Instr.next (.pointer (some ⟨w.heap.size, 0, none⟩)) true ty).run Try.prog (w.iter s q) = .ok (.tuple #[.bool false]) (w.iter s q) := fun ty => run_next_end w s q ty l
      have sq : q = s.size := by omega
      subst sq
      clear hd
      go_wp2_with fail
      go_ret
      exact ⟨rfl, (Below.refl _ _).alloc (Nat.le_refl _) _⟩
end Go.Proofs.Ytfbkiklopeebdaa

