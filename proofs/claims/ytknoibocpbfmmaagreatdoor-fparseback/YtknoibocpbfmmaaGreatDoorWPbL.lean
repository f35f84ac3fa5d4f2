/- A ruler: what is no statement. -/
import Derived.Test.YtknoibocpbfmmaaGreatDoorWG12
namespace Go.Proofs.YtknoibocpbfmmaaGreatDoor
open Go.RowKit
set_option linter.unusedVariables false
set_option linter.unusedSimpArgs false
set_option maxRecDepth 100000 in
set_option maxHeartbeats 1600000 in
theorem st_o (s : St) (hop : ¬ s.dO = 1 ∧ ¬ s.dO = 2 ∧ ¬ s.dO = 3 ∧ ¬ s.dO = 4) (hz : s.szs) (deep p x : Nat) (S0 : Nat → Prop) (p0 : Option Addr) (q0 : Nat) (p1 : Option Addr) (q1 : Nat) (p2 : Option Addr) (q2 : Nat) (p3 : Option Addr) (q3 : Nat) (p4 : Option Addr) (q4 : Nat) (p5 : Option Addr) (q5 : Nat) (b : Nat) (w : World) (hd0 : deep ≤ 24) (hO : OpsAt w) (hG : b ≠ 0) (hSb : ¬ S0 b) (hT : StT w S0 s p0 q0 p1 q1 p2 q2 p3 q3 p4 q4 p5 q5) (hR : RuAt w b (p, x)) :
  Calls Tryz.prog 90 #[.pointer (some ⟨b, 0, none⟩), .agg #[.int .i64 s.dO, .string s.name, .slice p0 s.index.len q0, .int .i64 s.value.op, .string s.value.tx, .int .i64 s.value.ty, .slice p1 s.value.ks.len q1, .int .i64 s.low.op, .string s.low.tx, .int .i64 s.low.ty, .slice p2 s.low.ks.len q2, .int .i64 s.high.op, .string s.high.tx, .int .i64 s.high.ty, .slice p3 s.high.ks.len q3, .slice p4 s.thn.len q4, .slice p5 s.els.len q5], .int .i64 deep] w fun e w' => RuR (ruT deep s (p, x)) b w e w' := by
 obtain ⟨R, hQ⟩ : ∃ R, ruT deep s (p, x) = R := ⟨_, rfl⟩
 rw [hQ]
 unfold ruT at hQ
 have hd : deep + 1 ≤ 30 := by omega
 have wd : IntKind.i64.wrap ((deep : Int) + 1) = ((deep + 1 : Nat) : Int) := by rw [IntKind.wrap_i64]; omega
 rw [if_neg hop.1, if_neg hop.2.1, if_neg hop.2.2.1, if_neg hop.2.2.2] at hQ
 have hS := st_go hO hG hSb hT hR (.cells #[.int .i64 s.dO, .string s.name, .slice p0 s.index.len q0, .int .i64 s.value.op, .string s.value.tx, .int .i64 s.value.ty, .slice p1 s.value.ks.len q1, .int .i64 s.low.op, .string s.low.tx, .int .i64 s.low.ty, .slice p2 s.low.ks.len q2, .int .i64 s.high.op, .string s.high.tx, .int .i64 s.high.ty, .slice p3 s.high.ks.len q3, .slice p4 s.thn.len q4, .slice p5 s.els.len q5] 87)
 have qB := World.alloc_heap_new w (.cells #[.int .i64 s.dO, .string s.name, .slice p0 s.index.len q0, .int .i64 s.value.op, .string s.value.tx, .int .i64 s.value.ty, .slice p1 s.value.ks.len q1, .int .i64 s.low.op, .string s.low.tx, .int .i64 s.low.ty, .slice p2 s.low.ks.len q2, .int .i64 s.high.op, .string s.high.tx, .int .i64 s.high.ty, .slice p3 s.high.ks.len q3, .slice p4 s.thn.len q4, .slice p5 s.els.len q5] 87)
 obtain ⟨S, hSe⟩ : ∃ S, S = (fun k => S0 k ∧ k < w.heap.size) := ⟨_, rfl⟩
 rw [← hSe] at hS
 obtain ⟨B, hB⟩ : ∃ B, w.heap.size = B := ⟨_, rfl⟩
 obtain ⟨X, hX⟩ : ∃ X, w.alloc (.cells #[.int .i64 s.dO, .string s.name, .slice p0 s.index.len q0, .int .i64 s.value.op, .string s.value.tx, .int .i64 s.value.ty, .slice p1 s.value.ks.len q1, .int .i64 s.low.op, .string s.low.tx, .int .i64 s.low.ty, .slice p2 s.low.ks.len q2, .int .i64 s.high.op, .string s.high.tx, .int .i64 s.high.ty, .slice p3 s.high.ks.len q3, .slice p4 s.thn.len q4, .slice p5 s.els.len q5] 87) = X := ⟨_, rfl⟩
 rw [hX] at hS qB
 rw [hB] at hS qB
 have hX' : Hid (w.alloc (.cells #[.int .i64 s.dO, .string s.name, .slice p0 s.index.len q0, .int .i64 s.value.op, .string s.value.tx, .int .i64 s.value.ty, .slice p1 s.value.ks.len q1, .int .i64 s.low.op, .string s.low.tx, .int .i64 s.low.ty, .slice p2 s.low.ks.len q2, .int .i64 s.high.op, .string s.high.tx, .int .i64 s.high.ty, .slice p3 s.high.ks.len q3, .slice p4 s.thn.len q4, .slice p5 s.els.len q5] 87) = X) := hX
 have hB' : Hid (w.heap.size = B) := hB
 obtain ⟨f0, f1, f2, f3, f4, f5, f6, f7, f8, f9, f10, f11, f12, f13, f14, f15, f16, ff⟩ := c17 qB
 have hQ' : Hid (_ = R) := hQ
 clear hX hB hQ hO hR hT hSe hd0
 have m1 : (s.dO == 1) = false := by rw [beq_eq_false_iff_ne]; exact hop.1
 have m2 : (s.dO == 2) = false := by rw [beq_eq_false_iff_ne]; exact hop.2.1
 have m3 : (s.dO == 3) = false := by rw [beq_eq_false_iff_ne]; exact hop.2.2.1
 have m4 : (s.dO == 4) = false := by rw [beq_eq_false_iff_ne]; exact hop.2.2.2
 obtain rfl : R = none := by rw [← hQ'.out]
 clear hQ'
 go_enter Tryz.func90, Tryz.ntmps90
 go_upto_region 1 with fail
 rw [hX'.out]
 (try rw [hB'.out])
 clear hX'
 go_wp2_with (first
  | (go_at_call 68; (with_reducible refine (pmust_no _).mono ?_); rintro e v1 ⟨rfl, rfl⟩)
  | fail)
 exact ⟨rfl, hS.on, rfl⟩
end Go.Proofs.YtknoibocpbfmmaaGreatDoor



