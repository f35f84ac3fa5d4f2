/- conv.Int and conv.Literal of texts that are no numbers, or have too many digits. -/
import Derived.Test.YtfbkiklopeebdaaConvIn
namespace Go.Proofs.Ytfbkiklopeebdaa
open Go.RowKit
set_option linter.unusedVariables false
set_option linter.unusedSimpArgs false
def InE (w : World) (E : Int) (a' : Act) (w' : World) : Prop := ∃ (u0 u1 u2 u3 u4 u6 u7 u8 u9 u10 u11 u12 u13 u14 u15 u16 u17 u18 u19 u20 u21 u22 u23 u24 : Value), a' = { tmps := #[u0, u1, u2, u3, u4, .int .i64 E, u6, u7, u8, u9, u10, u11, u12, u13, u14, u15, u16, u17, u18, u19, u20, u21, u22, u23, u24], defers := [] } ∧ Below w.heap.size w w'
set_option maxRecDepth 1000000 in
set_option maxHeartbeats 1600000 in
theorem in_passE (w : World) (E : Int) (Q : Ending → World → Prop) (hQ : ∀ w', Below w.heap.size w w' → Q (.returned (.tuple #[.int .i64 0, .int .i64 E])) w') (a : Act) (w' : World) (hJ : InE w E a w') :
    Code.wp Try.prog (bodyOf Try.f6) (Exit.jump 0 (fun a' w'' => InE w E a' w'' ∧ (0 : Nat) < 0) (bodyPost Try.prog Try.f6 Q)) a w' := by
  conv => arg 2; whnf
  obtain ⟨u0, u1, u2, u3, u4, u6, u7, u8, u9, u10, u11, u12, u13, u14, u15, u16, u17, u18, u19, u20, u21, u22, u23, u24, rfl, L⟩ := hJ
  have HQ : Hid _ := hQ
  clear hQ
  go_wp2_with fail
  exact HQ.out _ L
set_option maxRecDepth 1000000 in
set_option maxHeartbeats 3200000 in
theorem int_form (s : ByteArray) (p : Nat) (hs : s.size ≤ 9223372036854775807) (ne : s.toList.isEmpty = false) (pn : p ≠ s.size) (hd : ∀ w : World, Calls Try.prog 9 #[.string s] w fun e w' => e = .returned (.int .i64 p) ∧ Below w.heap.size w w') (w : World) :
    Calls Try.prog 6 #[.string s] w fun e w' => e = .returned (.tuple #[.int .i64 0, .int .i64 4]) ∧ Below w.heap.size w w' := by
  have q : ((p : Int) == (s.size : Int)) = false := by rw [beq_eq_false_iff_ne]; omega
  clear pn
  go_enter Try.func6, Try.ntmps6
  go_wp2_with fail
  refine wp_scope_jumps (rest := restOf Try.f6) 0 (InE w 4) (fun _ _ => 0) (by kernel_rfl) ?_ (fun a w' hJ => by rw [inRest_eq]; exact wp_seq (wp_skip (in_passE w 4 _ (fun w' L => ⟨rfl, L⟩) a w' hJ)))
  go_wp2_with (first
    | (go_at_call 9; refine (hd _).mono ?_; rintro e w1 ⟨rfl, b1⟩)
    | fail)
  go_step3
  exact ⟨rfl, _, _, _, _, _, _, _, _, _, _, _, _, _, _, _, _, _, _, _, _, _, _, _, _, rfl, b1⟩
set_option maxRecDepth 1000000 in
set_option maxHeartbeats 3200000 in
theorem int_long (s : ByteArray) (hs : s.size ≤ 9223372036854775807) (ne : s.toList.isEmpty = false) (hl : 18 < s.size) (hd : ∀ w : World, Calls Try.prog 9 #[.string s] w fun e w' => e = .returned (.int .i64 (s.size : Nat)) ∧ Below w.heap.size w w') (w : World) :
    Calls Try.prog 6 #[.string s] w fun e w' => e = .returned (.tuple #[.int .i64 0, .int .i64 9]) ∧ Below w.heap.size w w' := by
  have li : (18 : Int) < (s.size : Int) := by omega
  clear hl
  go_enter Try.func6, Try.ntmps6
  go_wp2_with fail
  refine wp_scope_jumps (rest := restOf Try.f6) 0 (InE w 9) (fun _ _ => 0) (by kernel_rfl) ?_ (fun a w' hJ => by rw [inRest_eq]; exact wp_seq (wp_skip (in_passE w 9 _ (fun w' L => ⟨rfl, L⟩) a w' hJ)))
  go_wp2_with (first
    | (go_at_call 9; refine (hd _).mono ?_; rintro e w1 ⟨rfl, b1⟩)
    | fail)
  go_step3
  exact ⟨rfl, _, _, _, _, _, _, _, _, _, _, _, _, _, _, _, _, _, _, _, _, _, _, _, _, rfl, b1⟩
end Go.Proofs.Ytfbkiklopeebdaa

