/- What wide.Len answers; the statements' own sure test. -/
import Derived.Test.YtfbkiklopeebdaaWideE
namespace Go.Proofs.Ytfbkiklopeebdaa
open Go.RowKit
set_option linter.unusedVariables false

/-! ### The number of bits -/
theorem bitLenAux_spec : ∀ (f x : Nat), x < 2 ^ f → Lib.bitLenAux f x ≤ f ∧ x < 2 ^ Lib.bitLenAux f x ∧ (x = 0 ∨ 2 ^ Lib.bitLenAux f x ≤ 2 * x) ∧ (x = 0 → Lib.bitLenAux f x = 0)
  | 0, x, h => by
    have : x = 0 := by omega
    subst this
    simp [Lib.bitLenAux]
  | f + 1, x, h => by
    unfold Lib.bitLenAux
    by_cases h0 : x = 0
    · subst h0; simp
    · rw [if_neg h0]
      have hx : x / 2 < 2 ^ f := by rw [Nat.pow_succ] at h; omega
      obtain ⟨a, b, c, d⟩ := bitLenAux_spec f (x / 2) hx
      refine ⟨by omega, ?_, Or.inr ?_, fun e => absurd e h0⟩
      · rw [Nat.pow_add]; omega
      · rw [Nat.pow_add]
        rcases c with c | c
        · rw [d c]; omega
        · omega
/-- How many bits a number has: n is above it, half of n is not. -/
def IsLen (n A : Int) : Prop := 0 ≤ n ∧ n ≤ 128 ∧ A < 2 ^ n.toNat ∧ (A = 0 ∨ 2 ^ n.toNat ≤ 2 * A) ∧ (A = 0 → n = 0)
theorem isLen_low (a : Int) (ha : Word a) : IsLen (Lib.bitLen a.toNat : Int) (num 0 a) ∧ (Lib.bitLen a.toNat : Int) ≤ 64 := by
  obtain ⟨x, rfl⟩ := Int.eq_ofNat_of_zero_le ha.1
  have hx := ha.2
  obtain ⟨a, b, c, d⟩ := bitLenAux_spec 64 x (by omega)
  have e : ∀ k : Nat, (2 : Int) ^ k = ((2 ^ k : Nat) : Int) := fun k => by simp
  unfold IsLen num Lib.bitLen
  simp only [Int.toNat_natCast, e]
  generalize 2 ^ Lib.bitLenAux 64 x = P at *
  refine ⟨⟨by omega, by omega, by omega, ?_, ?_⟩, by omega⟩
  · rcases c with c | c
    · left; omega
    · right; omega
  · intro h; have := d (by omega); omega
theorem isLen_high (h l : Int) (hh : Word h) (hl : Word l) (h0 : h ≠ 0) : IsLen (64 + (Lib.bitLen h.toNat : Int)) (num h l) := by
  obtain ⟨x, rfl⟩ := Int.eq_ofNat_of_zero_le hh.1
  obtain ⟨y, rfl⟩ := Int.eq_ofNat_of_zero_le hl.1
  have hx := hh.2
  have hy := hl.2
  obtain ⟨a, b, c, d⟩ := bitLenAux_spec 64 x (by omega)
  have e : ∀ k : Nat, (2 : Int) ^ k = ((2 ^ k : Nat) : Int) := fun k => by simp
  unfold IsLen num Lib.bitLen
  have t : (64 + ((Lib.bitLenAux 64 (x : Int).toNat : Nat) : Int)).toNat = 64 + Lib.bitLenAux 64 x := by simp only [Int.toNat_natCast]; omega
  rw [t, e, Nat.pow_add]
  simp only [Int.toNat_natCast]
  rcases c with c | c
  · exact absurd (by omega) h0
  generalize 2 ^ Lib.bitLenAux 64 x = P at *
  refine ⟨by omega, by omega, by omega, Or.inr (by omega), fun h => by omega⟩

theorem len64 (x : Int) (hx : Word x) (w : World) : Calls Try.prog 23 #[.int .u64 x] w fun e w' => e = .returned (.int .i64 (Lib.bitLen x.toNat)) ∧ w' = w :=
  Try.bits_Len64 x w hx.1 (by have := hx.2; omega)

theorem len_any (ah al : Int) (h1 : Word ah) (h2 : Word al) (w : World) :
    Calls Try.prog 17 #[.agg #[.int .u64 ah, .int .u64 al]] w fun e w' => ∃ n : Int, e = .returned (.int .i64 n) ∧ 0 ≤ n ∧ n ≤ 128 ∧ IsLen n (num ah al) ∧ Below w.heap.size w w' := by
  by_cases h0 : ah = 0
  · subst h0
    obtain ⟨i, _⟩ := isLen_low al h2
    go_enter Try.func17, Try.ntmps17
    go_wp2_with (go_at_call 23; refine (len64 al h2 _).mono ?_; rintro e w' ⟨rfl, rfl⟩)
    go_ret
    exact ⟨_, rfl, i.1, i.2.1, i, (Below.refl _ _).alloc (Nat.le_refl _) _⟩
  · have i := isLen_high ah al h1 h2 h0
    have b := (isLen_low ah h1).2
    have b0 : 0 ≤ (Lib.bitLen ah.toNat : Int) := Int.natCast_nonneg _
    go_enter Try.func17, Try.ntmps17
    go_wp2_with (go_at_call 23; refine (len64 ah h1 _).mono ?_; rintro e w' ⟨rfl, rfl⟩)
    go_ret
    exact ⟨_, rfl, i.1, i.2.1, i, (Below.refl _ _).alloc (Nat.le_refl _) _⟩

theorem cell_past {w : World} {a : Addr} {v : Value} (h : w.cell? a = some v) (o : Obj) : (w.alloc o).cell? a = some v := (World.cell?_alloc_some w a o (by rw [h]; rfl)).trans h

end Go.Proofs.Ytfbkiklopeebdaa

