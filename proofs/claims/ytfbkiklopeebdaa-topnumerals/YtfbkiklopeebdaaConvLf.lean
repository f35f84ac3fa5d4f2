/- conv.Literal of texts that are no numbers, or have too many digits. -/
import Derived.Test.YtfbkiklopeebdaaConvLe
namespace Go.Proofs.Ytfbkiklopeebdaa
open Go.RowKit
set_option linter.unusedVariables false
set_option linter.unusedSimpArgs false
def LiE (w : World) (E : Int) (a' : Act) (w' : World) : Prop := ∃ (u0 u1 u2 u3 u4 u5 u6 u7 u9 u10 u11 u12 u13 u14 u15 u16 u17 u18 u19 u20 u21 u22 u23 u24 u25 u26 u27 u28 u29 u30 u31 u32 u33 u34 u35 u36 u37 u38 u39 u40 u41 u42 u43 u44 u45 u46 u47 u48 u49 u50 u51 u52 u53 u54 u55 u56 u57 u58 u59 u60 u61 u62 u63 : Value), a' = { tmps := #[u0, u1, u2, u3, u4, u5, u6, u7, .int .i64 E, u9, u10, u11, u12, u13, u14, u15, u16, u17, u18, u19, u20, u21, u22, u23, u24, u25, u26, u27, u28, u29, u30, u31, u32, u33, u34, u35, u36, u37, u38, u39, u40, u41, u42, u43, u44, u45, u46, u47, u48, u49, u50, u51, u52, u53, u54, u55, u56, u57, u58, u59, u60, u61, u62, u63], defers := [] } ∧ Below w.heap.size w w'
theorem liRest_eq : restOf Try.f5 = .seq .skip (bodyOf Try.f5) := by kernel_rfl
set_option maxRecDepth 1000000 in
set_option maxHeartbeats 1600000 in
theorem li_pass (w : World) (E : Int) (Q : Ending → World → Prop) (hQ : ∀ w', Below w.heap.size w w' → Q (.returned (.tuple #[.int .u64 0, .int .i64 E])) w') (a : Act) (w' : World) (hJ : LiE w E a w') :
    Code.wp Try.prog (bodyOf Try.f5) (Exit.jump 0 (fun a' w'' => LiE w E a' w'' ∧ (0 : Nat) < 0) (bodyPost Try.prog Try.f5 Q)) a w' := by
  conv => arg 2; whnf
  obtain ⟨u0, u1, u2, u3, u4, u5, u6, u7, u9, u10, u11, u12, u13, u14, u15, u16, u17, u18, u19, u20, u21, u22, u23, u24, u25, u26, u27, u28, u29, u30, u31, u32, u33, u34, u35, u36, u37, u38, u39, u40, u41, u42, u43, u44, u45, u46, u47, u48, u49, u50, u51, u52, u53, u54, u55, u56, u57, u58, u59, u60, u61, u62, u63, rfl, L⟩ := hJ
  have HQ : Hid _ := hQ
  clear hQ
  go_wp2_with fail
  exact HQ.out _ L
set_option maxRecDepth 1000000 in
set_option maxHeartbeats 3200000 in
theorem lit_p0 (fm : Int) (s : ByteArray) (hs : s.size ≤ 9223372036854775807) (hd : ∀ w : World, Calls Try.prog 9 #[.string s] w fun e w' => e = .returned (.int .i64 (0 : Nat)) ∧ Below w.heap.size w w') (w : World) :
    Calls Try.prog 5 #[.int .i64 fm, .string s] w fun e w' => e = .returned (.tuple #[.int .u64 0, .int .i64 4]) ∧ Below w.heap.size w w' := by
  go_enter Try.func5, Try.ntmps5
  go_wp2_with fail
  refine wp_scope_jumps (rest := restOf Try.f5) 0 (LiE w 4) (fun _ _ => 0) (by kernel_rfl) ?_ (fun a w' hJ => by rw [liRest_eq]; exact wp_seq (wp_skip (li_pass w 4 _ (fun w' L => ⟨rfl, L⟩) a w' hJ)))
  go_wp2_with (first
    | (go_at_call 9; refine (hd _).mono ?_; rintro e w1 ⟨rfl, b1⟩)
    | fail)
  go_step3
  exact ⟨rfl, _, _, _, _, _, _, _, _, _, _, _, _, _, _, _, _, _, _, _, _, _, _, _, _, _, _, _, _, _, _, _, _, _, _, _, _, _, _, _, _, _, _, _, _, _, _, _, _, _, _, _, _, _, _, _, _, _, _, _, _, _, _, _, rfl, b1⟩
set_option maxRecDepth 1000000 in
set_option maxHeartbeats 3200000 in
theorem lit_all (fm : Int) (s : ByteArray) (hs : s.size ≤ 9223372036854775807) (s1 : 1 ≤ s.size) (hd : ∀ w : World, Calls Try.prog 9 #[.string s] w fun e w' => e = .returned (.int .i64 (s.size : Nat)) ∧ Below w.heap.size w w') (w : World) :
    Calls Try.prog 5 #[.int .i64 fm, .string s] w fun e w' => e = .returned (.tuple #[.int .u64 0, .int .i64 4]) ∧ Below w.heap.size w w' := by
  have i0 : ((s.size : Int) == 0) = false := by rw [beq_eq_false_iff_ne]; omega
  clear s1
  go_enter Try.func5, Try.ntmps5
  go_wp2_with fail
  refine wp_scope_jumps (rest := restOf Try.f5) 0 (LiE w 4) (fun _ _ => 0) (by kernel_rfl) ?_ (fun a w' hJ => by rw [liRest_eq]; exact wp_seq (wp_skip (li_pass w 4 _ (fun w' L => ⟨rfl, L⟩) a w' hJ)))
  go_wp2_with (first
    | (go_at_call 9; refine (hd _).mono ?_; rintro e w1 ⟨rfl, b1⟩)
    | fail)
  go_step3
  exact ⟨rfl, _, _, _, _, _, _, _, _, _, _, _, _, _, _, _, _, _, _, _, _, _, _, _, _, _, _, _, _, _, _, _, _, _, _, _, _, _, _, _, _, _, _, _, _, _, _, _, _, _, _, _, _, _, _, _, _, _, _, _, _, _, _, _, rfl, b1⟩
set_option maxRecDepth 1000000 in
set_option maxHeartbeats 3200000 in
theorem lit_long (fm : Int) (s : ByteArray) (p m : Nat) (hs : s.size ≤ 8192) (z : s.size = p + 1 + m) (hp : 1 ≤ p) (hm : 1 ≤ m) (long : 18 < p + m) (h46 : ∀ h : p < s.size, s[p]'h = 46)
    (hd : ∀ w : World, Calls Try.prog 9 #[.string s] w fun e w' => e = .returned (.int .i64 p) ∧ Below w.heap.size w w')
    (hd2 : ∀ w : World, Calls Try.prog 9 #[.string (s.extract (p + 1) s.size)] w fun e w' => e = .returned (.int .i64 m) ∧ Below w.heap.size w w') (w : World) :
    Calls Try.prog 5 #[.int .i64 fm, .string s] w fun e w' => e = .returned (.tuple #[.int .u64 0, .int .i64 9]) ∧ Below w.heap.size w w' := by
  have pl : p < s.size := by omega
  have li : (p : Int) < (s.size : Int) := by omega
  have q46 : (((s[p]'pl).toNat : Int) == 46) = true := by rw [h46 pl]; rfl
  have at_p : (s[p]'pl).toNat = 46 := by rw [h46 pl]; rfl
  have i0 : ((p : Int) == 0) = false := by rw [beq_eq_false_iff_ne]; omega
  obtain ⟨s2, hs2⟩ : ∃ s2, s.extract (p + 1) s.size = s2 := ⟨_, rfl⟩
  rw [hs2] at hd2
  have hex : s.extract (p + 1) (p + 1 + m) = s2 := by rw [← z]; exact hs2
  have e7 : ((p : Int) + 1 == (p : Int) + 1 + (m : Int)) = false := by simp; omega
  have e8 : (p : Int) + 1 + (m : Int) - (p : Int) - 1 = m := by omega
  have e9 : (18 : Int) < (p : Int) + 1 + (m : Int) - 1 := by omega
  have e10 : (p : Int) + 1 + (m : Int) ≤ 8192 := by omega
  clear h46 long q46
  go_enter Try.func5, Try.ntmps5
  go_wp2_with fail
  refine wp_scope_jumps (rest := restOf Try.f5) 0 (LiE w 9) (fun _ _ => 0) (by kernel_rfl) ?_ (fun a w' hJ => by rw [liRest_eq]; exact wp_seq (wp_skip (li_pass w 9 _ (fun w' L => ⟨rfl, L⟩) a w' hJ)))
  go_wp2_with fail
  refine (hd _).mono ?_
  rintro e w1 ⟨rfl, b1⟩
  go_wp2_with fail
  refine (hd2 _).mono ?_
  rintro e w2 ⟨rfl, b2⟩
  go_wp2_with fail
  go_step3
  exact ⟨rfl, _, _, _, _, _, _, _, _, _, _, _, _, _, _, _, _, _, _, _, _, _, _, _, _, _, _, _, _, _, _, _, _, _, _, _, _, _, _, _, _, _, _, _, _, _, _, _, _, _, _, _, _, _, _, _, _, _, _, _, _, _, _, _, rfl, below_callC b1 b2⟩
end Go.Proofs.Ytfbkiklopeebdaa

