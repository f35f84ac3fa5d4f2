/- The reference's Rounded, of whatever bits. -/
import Derived.Test.YtfdinlomlcnjnaaDoorSRefS
import Derived.WalkKit
import Derived.Laws.AppendOwnNone
namespace Go.Proofs.YtfdinlomlcnjnaaDoor
open Go.RowKit
set_option linter.unusedVariables false
set_option linter.unusedSimpArgs false
/-- v is a row of n bits, the lowest first: those of A. -/
def BitV (w : World) (v : Value) (n A : Nat) : Prop := A < 2 ^ n ∧ ((v = .slice none 0 0 ∧ n = 0) ∨ ∃ b cap, v = .slice (some ⟨b, 0, none⟩) n cap ∧ b < w.heap.size ∧ RowB w b n (fun i => A.testBit i))
theorem length_nil (w : World) : Calls Tryd.prog 85 #[.slice none 0 0] w fun e w' => e = .returned (.int .i64 0) ∧ w' = w := by
  go_enter Tryd.func85, Tryd.ntmps85
  go_wp2
  go_loopw [3] (fun i wr => i = .int .i64 0 ∧ wr = w) (fun i _ => 0)
  case atStart => exact ⟨rfl, rfl⟩
  case round =>
    obtain ⟨rfl, rfl⟩ := hrel
    go_wp2
    go_ret
    exact ⟨rfl, rfl⟩
set_option maxRecDepth 20000 in
theorem rounded_zero (s : Bool) (m : Int) (below : Bool) (v : Value) (e : Int) (w : World) (hl : Calls Tryd.prog 85 #[v] w fun e w' => e = .returned (.int .i64 0) ∧ w' = w) :
    Calls Tryd.prog 50 #[.int .i64 (fb s), .int .i64 m, .bool below, v, .int .i64 e] w fun r w' => r = .returned (.int .u64 (sgnd s below 0)) ∧ ∃ k, w' = w.drewN k := by
  have hg := rsign_any s below
  have e00 : (if below then fS s else 0) = sgnd s below 0 := by unfold sgnd; cases below <;> simp
  have e0 : Hid _ := e00
  clear e00
  generalize sgnd s below 0 = V at *
  generalize (if below then fS s else 0) = S at *
  cases s
  · have hs := rsize_d
    have hg' : ∀ w, Calls Tryd.prog 80 #[.int .i64 0, .bool below] w fun e w' => e = .returned (.int .u64 S) ∧ w' = w := hg
    clear hg
    show Calls Tryd.prog 50 #[.int .i64 0, .int .i64 m, .bool below, v, .int .i64 e] w _
    go_enter Tryd.func50, Tryd.ntmps50
    go_wp2_with (first
      | (go_at_call 67; refine (hs _).mono ?_; rintro r w1 ⟨rfl, hw⟩; rw [hw]; clear hw w1)
      | (go_at_call 85; refine hl.mono ?_; rintro r w1 ⟨rfl, hw⟩; rw [hw]; clear hw w1)
      | (go_at_call 80; refine (hg' _).mono ?_; rintro r w1 ⟨rfl, hw⟩; rw [hw]; clear hw w1))
    go_ret
    exact ⟨u64r_eq e0.out, drew_0 w⟩
  · have hs := rsize_s
    have hg' : ∀ w, Calls Tryd.prog 80 #[.int .i64 1, .bool below] w fun e w' => e = .returned (.int .u64 S) ∧ w' = w := hg
    clear hg
    show Calls Tryd.prog 50 #[.int .i64 1, .int .i64 m, .bool below, v, .int .i64 e] w _
    go_enter Tryd.func50, Tryd.ntmps50
    go_wp2_with (first
      | (go_at_call 67; refine (hs _).mono ?_; rintro r w1 ⟨rfl, hw⟩; rw [hw]; clear hw w1)
      | (go_at_call 85; refine hl.mono ?_; rintro r w1 ⟨rfl, hw⟩; rw [hw]; clear hw w1)
      | (go_at_call 80; refine (hg' _).mono ?_; rintro r w1 ⟨rfl, hw⟩; rw [hw]; clear hw w1))
    go_ret
    exact ⟨u64r_eq e0.out, drew_0 w⟩
/-- Bits times 2 to the e, rounded. -/
theorem rounded_any (s : Bool) (m : Int) (below : Bool) (v : Value) (n A : Nat) (hn : n ≤ 100000) (e : Int) (he1 : -100000 ≤ e) (he2 : e ≤ 100000) (w : World) (h : BitV w v n A) :
    Calls Tryd.prog 50 #[.int .i64 (fb s), .int .i64 m, .bool below, v, .int .i64 e] w fun r w' => r = .returned (.int .u64 (rnd s m below A e)) ∧ ∃ k, w' = w.drewN k := by
  obtain ⟨hA, h⟩ := h
  by_cases A0 : A = 0
  · subst A0
    rw [rnd_zero]
    rcases h with ⟨rfl, rfl⟩ | ⟨b, cap, rfl, hb, row⟩
    · exact rounded_zero s m below _ e w (length_nil w)
    · refine rounded_zero s m below _ e w ?_
      have := length_any b n cap 0 hA (by omega) w row
      rw [blen_zero] at this
      exact this
  · rcases h with ⟨rfl, rfl⟩ | ⟨b, cap, rfl, hb, row⟩
    · exfalso
      rw [Nat.pow_zero] at hA
      omega
    · cases s
      · exact rounded_d m below b n cap A hA hn e he1 he2 w row A0
      · exact rounded_s m below b n cap A hA hn e he1 he2 w row A0
/-! ### Rows of bits that the call itself makes -/
/-- The cells of n bits of A. -/
def Bl (n A : Nat) : List Value := (List.range n).map (fun i => .bool (A.testBit i))
theorem Bl_len (n A : Nat) : (Bl n A).length = n := by simp [Bl]
theorem Bl_get (n A i : Nat) (h : i < n) : (Bl n A)[i]? = some (.bool (A.testBit i)) := by simp [Bl, h]
theorem Bl_zero (A : Nat) : Bl 0 A = [] := rfl
theorem Bl_snoc (n A : Nat) : Bl n A ++ [.bool (A.testBit n)] = Bl (n + 1) A := by simp [Bl, List.range_succ]
theorem Bl_cons (n A : Nat) (b : Bool) : Value.bool b :: Bl n A = Bl (n + 1) (2 * A + b.toNat) := by
  apply List.ext_getElem?
  intro i
  rcases i with _ | i
  · simp [Bl, Nat.testBit_zero]
    cases b <;> simp <;> omega
  · by_cases c : i < n
    · have e : (2 * A + b.toNat).testBit (i + 1) = A.testBit i := by
        rw [Nat.testBit_succ]
        congr 1
        have := Bool.toNat_le b
        omega
      rw [Bl_get _ _ _ (by omega : i + 1 < n + 1), e, List.getElem?_cons_succ, Bl_get _ _ _ c]
    · rw [List.getElem?_eq_none (by rw [List.length_cons, Bl_len]; omega), List.getElem?_eq_none (by rw [Bl_len]; omega)]
theorem Bl_app (n k A B : Nat) (h : B < 2 ^ n) : Bl n B ++ Bl k A = Bl (n + k) (A * 2 ^ n + B) := by
  apply List.ext_getElem?
  intro i
  by_cases c : i < n
  · rw [List.getElem?_append_left (by rw [Bl_len]; exact c), Bl_get _ _ _ c, Bl_get _ _ _ (by omega), Nat.mul_comm, Nat.testBit_two_pow_mul_add A h i, if_pos c]
  · rw [List.getElem?_append_right (by rw [Bl_len]; omega), Bl_len]
    by_cases d : i < n + k
    · rw [Bl_get _ _ _ (by omega), Bl_get _ _ _ d, Nat.mul_comm, Nat.testBit_two_pow_mul_add A h i, if_neg c]
    · rw [List.getElem?_eq_none (by rw [Bl_len]; omega), List.getElem?_eq_none (by rw [Bl_len]; omega)]
theorem Bl_one (n A : Nat) : ∀ u ∈ Bl n A, u.oneCell' = true := by
  intro u hu
  simp [Bl] at hu
  obtain ⟨i, _, rfl⟩ := hu
  rfl
theorem Tryd.infoB : (Tryd.prog.info? 4).map (fun i => (i.zero, i.size, i.bytes)) = some (some (.bool false), 1, 1) := by kernel_rfl
/-- What the call owns is a row of bits. -/
theorem own_bits {w : World} {base n A : Nat} {v : Value} (h : w.ownsRow base 4 1 v n (Bl n A)) (hA : A < 2 ^ n) : BitV w v n A := by
  refine ⟨hA, ?_⟩
  obtain ⟨h1, h2⟩ := id h
  rcases h2 with ⟨rfl, rfl⟩ | ⟨g, cap, cur, rfl, _, hg, _⟩
  · exact Or.inl ⟨rfl, rfl⟩
  · refine Or.inr ⟨g, cap, rfl, ?_, ?_⟩
    · exact lt_of_block hg
    · intro i hi
      rw [h.cellAt i (by omega), Bl_get _ _ _ hi]
theorem BitV.below {W w1 : World} {v : Value} {n A : Nat} (h : BitV W v n A) (hb : Below W.heap.size W w1) : BitV w1 v n A := by
  obtain ⟨a, h⟩ := h
  refine ⟨a, ?_⟩
  rcases h with h | ⟨b, cap, e, hs, row⟩
  · exact Or.inl h
  · exact Or.inr ⟨b, cap, e, Nat.lt_of_lt_of_le hs hb.size, row.below hb hs⟩
theorem own_block {w : World} {base n size : Nat} {e : TypeId} {v : Value} {xs : List Value} (h : w.ownsRow base e size v n xs) : ∀ k, v.ownBlock = some k → base ≤ k := by
  obtain ⟨_, h⟩ := h
  rcases h with ⟨rfl, _⟩ | ⟨g, cap, cur, rfl, hg, _⟩
  · intro k hk; simp [Value.ownBlock] at hk
  · intro k hk; simp [Value.ownBlock] at hk; omega
end Go.Proofs.YtfdinlomlcnjnaaDoor

