/- conv.Int of digits. -/
import Derived.Test.YtfbkiklopeebdaaConvDi
namespace Go.Proofs.Ytfbkiklopeebdaa
open Go.RowKit
set_option linter.unusedVariables false
set_option linter.unusedSimpArgs false
set_option maxRecDepth 1000000 in
set_option maxHeartbeats 3200000 in
theorem intD_ok (k : Nat) (F : Nat → Nat) (k1 : 1 ≤ k) (k2 : k ≤ 18) (hF : ∀ j, F j ≤ 9) (hn : dN F k ≤ 2147483647) (w : World) :
    Calls Try.prog 6 #[.string (digS F k)] w fun e w' => e = .returned (.tuple #[.int .i64 (dN F k : Nat), .int .i64 0]) ∧ Below w.heap.size w w' := by
  have z := digS_size F k
  have hd := digitsOf_any (digS F k) k (by omega) (by omega) (fun j h hj => by unfold DigB; have := digS_get F k j hF h; have := hF j; omega) (fun h => by omega)
  have hnu := number_any (digS F k) F hF (by omega) (fun j h => digS_get F _ j hF h)
  rw [z] at hnu
  have ne : (digS F k).toList.isEmpty = false := by
    unfold digS
    rw [ByteArray.toList_mk]
    have := digL_len F k
    cases q : digL F k with
    | nil => rw [q] at this; simp at this; omega
    | cons x l => rfl
  have n1 : ((dN F k : Nat) : Int) ≤ 2147483647 := by omega
  have ki : (k : Int) ≤ 18 := by omega
  generalize dN F k = N at *
  generalize digS F k = D at *
  clear k1 k2 hn
  go_enter Try.func6, Try.ntmps6
  go_wp2_with fail
  refine wp_scope_jumps (rest := restOf Try.f6) 0 (fun _ _ => False) (fun _ _ => 0) (by kernel_rfl) ?_ (fun a w' hJ => hJ.elim)
  go_wp2_with (first
    | (go_at_call 9; refine (hd _).mono ?_; rintro e w1 ⟨rfl, b1⟩)
    | (go_at_call 12; refine (hnu _).mono ?_; rintro e w2 ⟨rfl, b2⟩)
    | fail)
  refine jump_ret (bodyPost_ret (v := .tuple #[.int .i64 (N : Int), .int .i64 0]) (by simp [results, Try.results6, go_sem]) rfl ?_)
  exact ⟨rfl, below_callC b1 b2⟩
def InJ (w : World) (a' : Act) (w' : World) : Prop := ∃ (u0 u1 u2 u3 u4 u6 u7 u8 u9 u10 u11 u12 u13 u14 u15 u16 u17 u18 u19 u20 u21 u22 u23 u24 : Value), a' = { tmps := #[u0, u1, u2, u3, u4, .int .i64 2, u6, u7, u8, u9, u10, u11, u12, u13, u14, u15, u16, u17, u18, u19, u20, u21, u22, u23, u24], defers := [] } ∧ Below w.heap.size w w'
theorem inRest_eq : restOf Try.f6 = .seq .skip (bodyOf Try.f6) := by kernel_rfl
set_option maxRecDepth 1000000 in
set_option maxHeartbeats 1600000 in
theorem in_pass (w : World) (Q : Ending → World → Prop) (hQ : ∀ w', Below w.heap.size w w' → Q (.returned (.tuple #[.int .i64 0, .int .i64 2])) w') (a : Act) (w' : World) (hJ : InJ w a w') :
    Code.wp Try.prog (bodyOf Try.f6) (Exit.jump 0 (fun a' w'' => InJ w a' w'' ∧ (0 : Nat) < 0) (bodyPost Try.prog Try.f6 Q)) a w' := by
  conv => arg 2; whnf
  obtain ⟨u0, u1, u2, u3, u4, u6, u7, u8, u9, u10, u11, u12, u13, u14, u15, u16, u17, u18, u19, u20, u21, u22, u23, u24, rfl, L⟩ := hJ
  have HQ : Hid _ := hQ
  clear hQ
  go_wp2_with fail
  exact HQ.out _ L
set_option maxRecDepth 1000000 in
set_option maxHeartbeats 3200000 in
theorem intD_big (k : Nat) (F : Nat → Nat) (k1 : 1 ≤ k) (k2 : k ≤ 18) (hF : ∀ j, F j ≤ 9) (hn : 2147483647 < dN F k) (w : World) :
    Calls Try.prog 6 #[.string (digS F k)] w fun e w' => e = .returned (.tuple #[.int .i64 0, .int .i64 2]) ∧ Below w.heap.size w w' := by
  have z := digS_size F k
  have hd := digitsOf_any (digS F k) k (by omega) (by omega) (fun j h hj => by unfold DigB; have := digS_get F k j hF h; have := hF j; omega) (fun h => by omega)
  have hnu := number_any (digS F k) F hF (by omega) (fun j h => digS_get F _ j hF h)
  rw [z] at hnu
  have ne : (digS F k).toList.isEmpty = false := by
    unfold digS
    rw [ByteArray.toList_mk]
    have := digL_len F k
    cases q : digL F k with
    | nil => rw [q] at this; simp at this; omega
    | cons x l => rfl
  have n1 : (2147483647 : Int) < ((dN F k : Nat) : Int) := by omega
  have ki : (k : Int) ≤ 18 := by omega
  generalize dN F k = N at *
  generalize digS F k = D at *
  clear k1 k2 hn
  go_enter Try.func6, Try.ntmps6
  go_wp2_with fail
  refine wp_scope_jumps (rest := restOf Try.f6) 0 (InJ w) (fun _ _ => 0) (by kernel_rfl) ?_ (fun a w' hJ => by rw [inRest_eq]; exact wp_seq (wp_skip (in_pass w _ (fun w' L => ⟨rfl, L⟩) a w' hJ)))
  go_wp2_with (first
    | (go_at_call 9; refine (hd _).mono ?_; rintro e w1 ⟨rfl, b1⟩)
    | (go_at_call 12; refine (hnu _).mono ?_; rintro e w2 ⟨rfl, b2⟩)
    | fail)
  go_step3
  exact ⟨rfl, _, _, _, _, _, _, _, _, _, _, _, _, _, _, _, _, _, _, _, _, _, _, _, _, rfl, below_callC b1 b2⟩
end Go.Proofs.Ytfbkiklopeebdaa

