/- cellsOf: the number that digits say. -/
import Derived.Test.YtknoibocpbfmmaaGreatDoorPbO
import Derived.Test.YtknoibocpbfmmaaGreatDoorShelf
import Derived.Lib.AtoiAll
import Derived.Lib.AtoiErrMem
namespace Go.Proofs.YtknoibocpbfmmaaGreatDoor
open Go.RowKit Go.Shelf
set_option linter.unusedVariables false
set_option linter.unusedSimpArgs false
def Dgs (l : List UInt8) : Prop := l ≠ [] ∧ ∀ b ∈ l, 48 ≤ b.toNat ∧ b.toNat ≤ 57
def decF (acc : Nat) (l : List UInt8) : Nat := l.foldl (fun n b => n * 10 + (b.toNat - 48)) acc
theorem decF_ge : ∀ (l : List UInt8) (acc : Nat), acc ≤ decF acc l
  | [], acc => Nat.le_refl _
  | c :: r, acc => by
    have := decF_ge r (acc * 10 + (c.toNat - 48))
    show acc ≤ decF (acc * 10 + (c.toNat - 48)) r
    omega
theorem pu_dec : ∀ (l : List UInt8) (acc : Nat), (∀ b ∈ l, 48 ≤ b.toNat ∧ b.toNat ≤ 57) → acc < 18446744073709551616 → Lib.parseUint10 acc l = if decF acc l < 18446744073709551616 then .ok (decF acc l) else .range
  | [], acc, h, ha => by
    show Lib.NumEnd.ok acc = if acc < 18446744073709551616 then Lib.NumEnd.ok acc else .range
    rw [if_pos ha]
  | c :: r, acc, h, ha => by
    have hc := h c (by simp)
    have hr : ∀ b ∈ r, 48 ≤ b.toNat ∧ b.toNat ≤ 57 := fun b hb => h b (by simp [hb])
    have e : decF acc (c :: r) = decF (acc * 10 + (c.toNat - 48)) r := rfl
    have g := decF_ge r (acc * 10 + (c.toNat - 48))
    rw [e]
    unfold Lib.parseUint10
    rw [if_pos hc]
    by_cases h1 : 1844674407370955162 ≤ acc
    · rw [if_pos h1, if_neg (by omega)]
    · rw [if_neg h1]
      by_cases h2 : 18446744073709551616 ≤ acc * 10 + (c.toNat - 48)
      · rw [if_pos h2, if_neg (by omega)]
      · rw [if_neg h2]
        exact pu_dec r _ hr (by omega)
theorem atoi_dec {l : List UInt8} (h : Dgs l) : Lib.atoiAll l = if decN l ≤ 9223372036854775807 then .ok (decN l : Nat) else .range := by
  obtain ⟨hn, h⟩ := h
  cases l with
  | nil => exact absurd rfl hn
  | cons c r =>
    have hc := h c (by simp)
    have e : decF 0 (c :: r) = decN (c :: r) := rfl
    have p := pu_dec (c :: r) 0 h (by omega)
    rw [e] at p
    unfold Lib.atoiAll
    simp only
    rw [if_neg (by omega)]
    unfold Lib.parseMag
    rw [if_neg (by simp), p]
    by_cases h1 : decN (c :: r) < 18446744073709551616
    · rw [if_pos h1]
      simp only
      by_cases h2 : decN (c :: r) ≤ 9223372036854775807
      · rw [if_neg (by omega), if_neg (by omega), if_pos h2, if_neg (by omega)]
      · rw [if_pos ⟨by omega, by omega⟩, if_neg h2]
    · rw [if_neg h1, if_neg (by omega)]
set_option maxRecDepth 100000 in
theorem pcells (s : ByteArray) (hd : Dgs s.data.toList) (hl : s.size ≤ 281474976710656) (w : World) (ev : Value) (hv : w.cell? ⟨3, 0, none⟩ = some ev) (hev : ev = .nilIface ∨ ∃ te pe, ev = .iface te pe) :
    Calls Tryz.prog 79 #[.string s] w fun e w' => e = .returned (.int .i64 (celN s)) ∧ Below w.heap.size w w' := by
  have ha := atoi_dec hd
  have hc : celN s = if decN s.data.toList < 1 ∨ 9223372036854775807 < decN s.data.toList then 65 else ((decN s.data.toList : Nat) : Int) := rfl
  rw [hc]
  clear hc
  generalize decN s.data.toList = n at *
  by_cases h : n ≤ 9223372036854775807
  · rw [if_pos h] at ha
    have k : ∀ V, Calls Tryz.prog 96 #[.string s] V fun e w' => e = .returned (.tuple #[.int .i64 (n : Nat), .nilIface]) ∧ Below V.heap.size V w' := fun V => (Tryz.strconv_Atoi_ok s (by omega) _ ha V).mono fun e w' q => ⟨q.1, by
      rcases q.2 with rfl | ⟨t, rfl⟩
      · exact Below.refl _ _
      · exact Lib.bytesWorld_below V _ t⟩
    by_cases h1 : n < 1
    · have hd1 : decide ((n : Int) < 1) = true := decide_eq_true (by omega)
      rw [if_pos (Or.inl h1)]
      go_enter Tryz.func79, Tryz.ntmps79
      go_wp2_with (first | (go_at_call 96; (refine (k _).mono ?_); rintro e v1 ⟨rfl, g⟩) | fail)
      go_ret
      exact ⟨rfl, g⟩
    · have hd1 : decide ((n : Int) < 1) = false := decide_eq_false (by omega)
      rw [if_neg (by omega)]
      go_enter Tryz.func79, Tryz.ntmps79
      go_wp2_with (first | (go_at_call 96; (refine (k _).mono ?_); rintro e v1 ⟨rfl, g⟩) | fail)
      go_ret
      exact ⟨rfl, g⟩
  · rw [if_neg h] at ha
    rw [if_pos (Or.inr (by omega))]
    have k := Tryz.strconv_Atoi_range s hl ha ev w hv hev
    go_enter Tryz.func79, Tryz.ntmps79
    go_wp2_with (first | (go_at_call 96; (refine k.mono ?_); rintro e v1 ⟨N, rfl, _, _, g⟩) | fail)
    all_goals go_ret
    all_goals exact ⟨rfl, g⟩
end Go.Proofs.YtknoibocpbfmmaaGreatDoor

