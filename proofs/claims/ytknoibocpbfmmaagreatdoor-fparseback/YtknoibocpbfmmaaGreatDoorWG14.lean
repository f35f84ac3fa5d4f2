/- Texts of the proof, put together. -/
import Derived.Test.YtknoibocpbfmmaaGreatDoorWG12
namespace Go.Proofs.YtknoibocpbfmmaaGreatDoor
open Go.RowKit
set_option linter.unusedVariables false
set_option linter.unusedSimpArgs false
set_option maxRecDepth 100000 in
set_option maxHeartbeats 1600000 in
theorem st_3 (s : St) (hop : s.dO = 3) (kK1 : SpK s.thn) (kK2 : SpK s.els) (hz : s.szs) (deep p x : Nat) (S0 : Nat → Prop) (p0 : Option Addr) (q0 : Nat) (p1 : Option Addr) (q1 : Nat) (p2 : Option Addr) (q2 : Nat) (p3 : Option Addr) (q3 : Nat) (p4 : Option Addr) (q4 : Nat) (p5 : Option Addr) (q5 : Nat) (b : Nat) (w : World) (hd0 : deep ≤ 24) (hO : OpsAt w) (hG : b ≠ 0) (hSb : ¬ S0 b) (hT : StT w S0 s p0 q0 p1 q1 p2 q2 p3 q3 p4 q4 p5 q5) (hR : RuAt w b (p, x)) :
  Calls Tryz.prog 90 #[.pointer (some ⟨b, 0, none⟩), .agg #[.int .i64 s.dO, .string s.name, .slice p0 s.index.len q0, .int .i64 s.value.op, .string s.value.tx, .int .i64 s.value.ty, .slice p1 s.value.ks.len q1, .int .i64 s.low.op, .string s.low.tx, .int .i64 s.low.ty, .slice p2 s.low.ks.len q2, .int .i64 s.high.op, .string s.high.tx, .int .i64 s.high.ty, .slice p3 s.high.ks.len q3, .slice p4 s.thn.len q4, .slice p5 s.els.len q5], .int .i64 deep] w fun e w' => RuR (ruT deep s (p, x)) b w e w' := by
 obtain ⟨R, hQ⟩ : ∃ R, ruT deep s (p, x) = R := ⟨_, rfl⟩
 rw [hQ]
 unfold ruT at hQ
 have hd : deep + 1 ≤ 30 := by omega
 have wd : IntKind.i64.wrap ((deep : Int) + 1) = ((deep + 1 : Nat) : Int) := by rw [IntKind.wrap_i64]; omega
 rw [hop] at hQ ⊢
 rw [if_neg (by decide), if_neg (by decide), if_pos rfl] at hQ
 have hS := st_go hO hG hSb hT hR (.cells #[.int .i64 3, .string s.name, .slice p0 s.index.len q0, .int .i64 s.value.op, .string s.value.tx, .int .i64 s.value.ty, .slice p1 s.value.ks.len q1, .int .i64 s.low.op, .string s.low.tx, .int .i64 s.low.ty, .slice p2 s.low.ks.len q2, .int .i64 s.high.op, .string s.high.tx, .int .i64 s.high.ty, .slice p3 s.high.ks.len q3, .slice p4 s.thn.len q4, .slice p5 s.els.len q5] 87)
 have qB := World.alloc_heap_new w (.cells #[.int .i64 3, .string s.name, .slice p0 s.index.len q0, .int .i64 s.value.op, .string s.value.tx, .int .i64 s.value.ty, .slice p1 s.value.ks.len q1, .int .i64 s.low.op, .string s.low.tx, .int .i64 s.low.ty, .slice p2 s.low.ks.len q2, .int .i64 s.high.op, .string s.high.tx, .int .i64 s.high.ty, .slice p3 s.high.ks.len q3, .slice p4 s.thn.len q4, .slice p5 s.els.len q5] 87)
 obtain ⟨S, hSe⟩ : ∃ S, S = (fun k => S0 k ∧ k < w.heap.size) := ⟨_, rfl⟩
 rw [← hSe] at hS
 obtain ⟨B, hB⟩ : ∃ B, w.heap.size = B := ⟨_, rfl⟩
 obtain ⟨X, hX⟩ : ∃ X, w.alloc (.cells #[.int .i64 3, .string s.name, .slice p0 s.index.len q0, .int .i64 s.value.op, .string s.value.tx, .int .i64 s.value.ty, .slice p1 s.value.ks.len q1, .int .i64 s.low.op, .string s.low.tx, .int .i64 s.low.ty, .slice p2 s.low.ks.len q2, .int .i64 s.high.op, .string s.high.tx, .int .i64 s.high.ty, .slice p3 s.high.ks.len q3, .slice p4 s.thn.len q4, .slice p5 s.els.len q5] 87) = X := ⟨_, rfl⟩
 rw [hX] at hS qB
 rw [hB] at hS qB
 have hX' : Hid (w.alloc (.cells #[.int .i64 3, .string s.name, .slice p0 s.index.len q0, .int .i64 s.value.op, .string s.value.tx, .int .i64 s.value.ty, .slice p1 s.value.ks.len q1, .int .i64 s.low.op, .string s.low.tx, .int .i64 s.low.ty, .slice p2 s.low.ks.len q2, .int .i64 s.high.op, .string s.high.tx, .int .i64 s.high.ty, .slice p3 s.high.ks.len q3, .slice p4 s.thn.len q4, .slice p5 s.els.len q5] 87) = X) := hX
 have hB' : Hid (w.heap.size = B) := hB
 obtain ⟨f0, f1, f2, f3, f4, f5, f6, f7, f8, f9, f10, f11, f12, f13, f14, f15, f16, ff⟩ := c17 qB
 have hQ' : Hid (_ = R) := hQ
 clear hX hB hQ hO hR hT hSe hd0
 have kNz : ∀ V, Calls Tryz.prog 104 #[.agg #[.int .i64 0, .string ⟨#[]⟩, .int .i64 0, .slice none 0 0]] V fun e w' => e = .returned (.bool true) ∧ Below V.heap.size V w' := fun V => pnone exN none 0 V
 have kNl := pnone s.low p2 q2
 have kNh := pnone s.high p3 q3
 have eI : (((s.index.len : Nat) : Int) == 0) = decide (s.index.len = 0) := by by_cases h : s.index.len = 0 <;> simp [h]
 have eN := txt_e s.name
 cases hv : ruE 1 s.value x with
 | none =>
  have kE := (fun V hO hR (hT : StT V S s p0 q0 p1 q1 p2 q2 p3 q3 p4 q4 p5 q5) => pex s.value hz.2.2.1 1 p x S _ _ b V (by decide) hO hG (fun a => (hS.hS _ a).1 rfl) (StT.T1 hT) hR)
  simp only [hv, Option.map_none] at kE
  obtain rfl : R = none := by rw [← hQ'.out]; simp [hv]
  clear hQ'
  go_enter Tryz.func90, Tryz.ntmps90
  go_upto_region 1 with fail
  rw [hX'.out]
  (try rw [hB'.out])
  clear hX'
  go_wp2_with (first
   | (go_at_call 68; (with_reducible refine (pmust_yes _).mono ?_); rintro e v1 ⟨rfl, rfl⟩)
   | (go_at_call 68; (with_reducible refine (pmust_no _).mono ?_); rintro e v1 ⟨rfl, rfl⟩)
   | (go_at_call 102; (refine (kE _ hS.O hS.R hS.T).mono ?_); rintro e v1 ⟨on1, rfl⟩; replace hS := hS.on.trans on1; clear kE)
   | fail)
  exact ⟨rfl, hS, rfl⟩
 | some x1 =>
  have kE := (fun V hO hR (hT : StT V S s p0 q0 p1 q1 p2 q2 p3 q3 p4 q4 p5 q5) => pex s.value hz.2.2.1 1 p x S _ _ b V (by decide) hO hG (fun a => (hS.hS _ a).1 rfl) (StT.T1 hT) hR)
  simp only [hv, Option.map_some] at kE
  cases hb1 : ruK (deep + 1) s.thn (p, x1) with
  | none =>
   have kB1 := (fun V hO hR (hT : StT V S s p0 q0 p1 q1 p2 q2 p3 q3 p4 q4 p5 q5) => kK1 (deep + 1) (p, x1) S _ b V hd hO hG (fun a => (hS.hS _ a).1 rfl) (StT.T4 hT) hR)
   simp only [hb1, Option.map_none] at kB1
   obtain rfl : R = none := by rw [← hQ'.out]; simp [hv, hb1]
   clear hQ'
   go_enter Tryz.func90, Tryz.ntmps90
   go_upto_region 1 with fail
   rw [hX'.out]
   (try rw [hB'.out])
   clear hX'
   go_wp2_with (first
    | (go_at_call 68; (with_reducible refine (pmust_yes _).mono ?_); rintro e v1 ⟨rfl, rfl⟩)
    | (go_at_call 68; (with_reducible refine (pmust_no _).mono ?_); rintro e v1 ⟨rfl, rfl⟩)
    | (go_at_call 102; (refine (kE _ hS.O hS.R hS.T).mono ?_); rintro e v1 ⟨on1, rfl, h1⟩; clear kE; replace hS := hS.onl on1 h1; replace qB := (on1.block B (lt_of qB) hS.Bb).trans qB; clear f0 f1 f2 f3 f4 f5 f6 f7 f8 f9 f10 f11 f12 f13 f14 f15 f16 ff; obtain ⟨f0, f1, f2, f3, f4, f5, f6, f7, f8, f9, f10, f11, f12, f13, f14, f15, f16, ff⟩ := c17 qB)
    | (go_at_call 70; (refine (kB1 _ hS.O hS.R hS.T).mono ?_); rintro e v1 ⟨on1, rfl⟩; replace hS := hS.on.trans on1; clear kB1)
    | fail)
   exact ⟨rfl, hS, rfl⟩
  | some c2 =>
   have kB1 := (fun V hO hR (hT : StT V S s p0 q0 p1 q1 p2 q2 p3 q3 p4 q4 p5 q5) => kK1 (deep + 1) (p, x1) S _ b V hd hO hG (fun a => (hS.hS _ a).1 rfl) (StT.T4 hT) hR)
   simp only [hb1, Option.map_some] at kB1
   cases hb2 : ruK (deep + 1) s.els c2 with
   | none =>
    have kB2 := (fun V hO hR (hT : StT V S s p0 q0 p1 q1 p2 q2 p3 q3 p4 q4 p5 q5) => kK2 (deep + 1) c2 S _ b V hd hO hG (fun a => (hS.hS _ a).1 rfl) (StT.T5 hT) hR)
    simp only [hb2, Option.map_none] at kB2
    obtain rfl : R = none := by rw [← hQ'.out]; simp [hv, hb1, hb2]
    clear hQ'
    go_enter Tryz.func90, Tryz.ntmps90
    go_upto_region 1 with fail
    rw [hX'.out]
    (try rw [hB'.out])
    clear hX'
    go_wp2_with (first
     | (go_at_call 68; (with_reducible refine (pmust_yes _).mono ?_); rintro e v1 ⟨rfl, rfl⟩)
     | (go_at_call 68; (with_reducible refine (pmust_no _).mono ?_); rintro e v1 ⟨rfl, rfl⟩)
     | (go_at_call 102; (refine (kE _ hS.O hS.R hS.T).mono ?_); rintro e v1 ⟨on1, rfl, h1⟩; clear kE; replace hS := hS.onl on1 h1; replace qB := (on1.block B (lt_of qB) hS.Bb).trans qB; clear f0 f1 f2 f3 f4 f5 f6 f7 f8 f9 f10 f11 f12 f13 f14 f15 f16 ff; obtain ⟨f0, f1, f2, f3, f4, f5, f6, f7, f8, f9, f10, f11, f12, f13, f14, f15, f16, ff⟩ := c17 qB)
     | (go_at_call 70; (refine (kB1 _ hS.O hS.R hS.T).mono ?_); rintro e v1 ⟨on1, rfl, h1⟩; clear kB1; replace hS := hS.onl on1 h1; replace qB := (on1.block B (lt_of qB) hS.Bb).trans qB; clear f0 f1 f2 f3 f4 f5 f6 f7 f8 f9 f10 f11 f12 f13 f14 f15 f16 ff; obtain ⟨f0, f1, f2, f3, f4, f5, f6, f7, f8, f9, f10, f11, f12, f13, f14, f15, f16, ff⟩ := c17 qB)
     | (go_at_call 70; (refine (kB2 _ hS.O hS.R hS.T).mono ?_); rintro e v1 ⟨on1, rfl⟩; replace hS := hS.on.trans on1; clear kB2)
     | fail)
    exact ⟨rfl, hS, rfl⟩
   | some c3 =>
    have kB2 := (fun V hO hR (hT : StT V S s p0 q0 p1 q1 p2 q2 p3 q3 p4 q4 p5 q5) => kK2 (deep + 1) c2 S _ b V hd hO hG (fun a => (hS.hS _ a).1 rfl) (StT.T5 hT) hR)
    simp only [hb2, Option.map_some] at kB2
    go_enter Tryz.func90, Tryz.ntmps90
    go_upto_region 1 with fail
    rw [hX'.out]
    (try rw [hB'.out])
    clear hX'
    go_upto_region 22 with (first
     | (go_at_call 68; (with_reducible refine (pmust_yes _).mono ?_); rintro e v1 ⟨rfl, rfl⟩)
     | (go_at_call 68; (with_reducible refine (pmust_no _).mono ?_); rintro e v1 ⟨rfl, rfl⟩)
     | (go_at_call 102; (refine (kE _ hS.O hS.R hS.T).mono ?_); rintro e v1 ⟨on1, rfl, h1⟩; clear kE; replace hS := hS.onl on1 h1; replace qB := (on1.block B (lt_of qB) hS.Bb).trans qB; clear f0 f1 f2 f3 f4 f5 f6 f7 f8 f9 f10 f11 f12 f13 f14 f15 f16 ff; obtain ⟨f0, f1, f2, f3, f4, f5, f6, f7, f8, f9, f10, f11, f12, f13, f14, f15, f16, ff⟩ := c17 qB)
     | (go_at_call 70; (refine (kB1 _ hS.O hS.R hS.T).mono ?_); rintro e v1 ⟨on1, rfl, h1⟩; clear kB1; replace hS := hS.onl on1 h1; replace qB := (on1.block B (lt_of qB) hS.Bb).trans qB; clear f0 f1 f2 f3 f4 f5 f6 f7 f8 f9 f10 f11 f12 f13 f14 f15 f16 ff; obtain ⟨f0, f1, f2, f3, f4, f5, f6, f7, f8, f9, f10, f11, f12, f13, f14, f15, f16, ff⟩ := c17 qB)
     | (go_at_call 70; (refine (kB2 _ hS.O hS.R hS.T).mono ?_); rintro e v1 ⟨on1, rfl, h1⟩; clear kB2; replace hS := hS.onl on1 h1; replace qB := (on1.block B (lt_of qB) hS.Bb).trans qB; clear f0 f1 f2 f3 f4 f5 f6 f7 f8 f9 f10 f11 f12 f13 f14 f15 f16 ff; obtain ⟨f0, f1, f2, f3, f4, f5, f6, f7, f8, f9, f10, f11, f12, f13, f14, f15, f16, ff⟩ := c17 qB)
     | fail)
    obtain ⟨V0, hV0⟩ : ∃ V, v1 = V := ⟨_, rfl⟩
    rw [hV0] at qB hS
    have hS2 := ((((((hS.set 3 (.int .i64 0)).set 4 (.string ⟨#[]⟩)).set 5 (.int .i64 0)).set 6 (.slice none 0 0)).set 15 (.slice none 0 0)).set 16 (.slice none 0 0))
    have qB2 := (at_set (at_set (at_set (at_set (at_set (at_set qB 3 (.int .i64 0)) 4 (.string ⟨#[]⟩)) 5 (.int .i64 0)) 6 (.slice none 0 0)) 15 (.slice none 0 0)) 16 (.slice none 0 0))
    simp only [List.setIfInBounds_toArray, List.set_cons_zero, List.set_cons_succ] at qB2
    obtain ⟨V2, hV2⟩ : ∃ V, ((((((V0.setCell ⟨B, 3, none⟩ (.int .i64 0)).setCell ⟨B, 4, none⟩ (.string ⟨#[]⟩)).setCell ⟨B, 5, none⟩ (.int .i64 0)).setCell ⟨B, 6, none⟩ (.slice none 0 0)).setCell ⟨B, 15, none⟩ (.slice none 0 0)).setCell ⟨B, 16, none⟩ (.slice none 0 0)) = V := ⟨_, rfl⟩
    rw [hV2] at hS2 qB2
    rw [hV0, hV2]
    clear hS qB f0 f1 f2 f3 f4 f5 f6 f7 f8 f9 f10 f11 f12 f13 f14 f15 f16 ff hV2 hV0
    have hS := hS2
    have qB := qB2
    clear hS2 qB2
    obtain ⟨f0, f1, f2, f3, f4, f5, f6, f7, f8, f9, f10, f11, f12, f13, f14, f15, f16, ff⟩ := c17 qB
    cases hbn : decide (s.name = tx0) with
    | false =>
     rw [hbn] at eN
     obtain rfl : R = none := by rw [← hQ'.out]; simp [hv, hb1, hb2, bare, show isNone exN = true from rfl, hbn]
     clear hQ'
     go_wp2_with (first
      | (go_at_call 68; (with_reducible refine (pmust_yes _).mono ?_); rintro e v1 ⟨rfl, rfl⟩)
      | (go_at_call 68; (with_reducible refine (pmust_no _).mono ?_); rintro e v1 ⟨rfl, rfl⟩)
      | (go_at_call 104; (with_reducible refine (kNz _).mono ?_); rintro e v1 ⟨rfl, g1⟩; replace hS := hS.bel g1; replace qB := (g1.block B (lt_of qB)).trans qB; clear f0 f1 f2 f3 f4 f5 f6 f7 f8 f9 f10 f11 f12 f13 f14 f15 f16 ff; obtain ⟨f0, f1, f2, f3, f4, f5, f6, f7, f8, f9, f10, f11, f12, f13, f14, f15, f16, ff⟩ := c17 qB)
      | (go_at_call 104; (with_reducible refine (kNl _).mono ?_); rintro e v1 ⟨rfl, g1⟩; replace hS := hS.bel g1; replace qB := (g1.block B (lt_of qB)).trans qB; clear f0 f1 f2 f3 f4 f5 f6 f7 f8 f9 f10 f11 f12 f13 f14 f15 f16 ff; obtain ⟨f0, f1, f2, f3, f4, f5, f6, f7, f8, f9, f10, f11, f12, f13, f14, f15, f16, ff⟩ := c17 qB)
      | (go_at_call 104; (with_reducible refine (kNh _).mono ?_); rintro e v1 ⟨rfl, g1⟩; replace hS := hS.bel g1; replace qB := (g1.block B (lt_of qB)).trans qB; clear f0 f1 f2 f3 f4 f5 f6 f7 f8 f9 f10 f11 f12 f13 f14 f15 f16 ff; obtain ⟨f0, f1, f2, f3, f4, f5, f6, f7, f8, f9, f10, f11, f12, f13, f14, f15, f16, ff⟩ := c17 qB)
      | fail)
     exact ⟨rfl, hS.on, rfl⟩
    | true =>
     rw [hbn] at eN
     cases hbi : decide (s.index.len = 0) with
     | false =>
      rw [hbi] at eI
      obtain rfl : R = none := by rw [← hQ'.out]; simp [hv, hb1, hb2, bare, show isNone exN = true from rfl, hbn, hbi]
      clear hQ'
      go_wp2_with (first
       | (go_at_call 68; (with_reducible refine (pmust_yes _).mono ?_); rintro e v1 ⟨rfl, rfl⟩)
       | (go_at_call 68; (with_reducible refine (pmust_no _).mono ?_); rintro e v1 ⟨rfl, rfl⟩)
       | (go_at_call 104; (with_reducible refine (kNz _).mono ?_); rintro e v1 ⟨rfl, g1⟩; replace hS := hS.bel g1; replace qB := (g1.block B (lt_of qB)).trans qB; clear f0 f1 f2 f3 f4 f5 f6 f7 f8 f9 f10 f11 f12 f13 f14 f15 f16 ff; obtain ⟨f0, f1, f2, f3, f4, f5, f6, f7, f8, f9, f10, f11, f12, f13, f14, f15, f16, ff⟩ := c17 qB)
       | (go_at_call 104; (with_reducible refine (kNl _).mono ?_); rintro e v1 ⟨rfl, g1⟩; replace hS := hS.bel g1; replace qB := (g1.block B (lt_of qB)).trans qB; clear f0 f1 f2 f3 f4 f5 f6 f7 f8 f9 f10 f11 f12 f13 f14 f15 f16 ff; obtain ⟨f0, f1, f2, f3, f4, f5, f6, f7, f8, f9, f10, f11, f12, f13, f14, f15, f16, ff⟩ := c17 qB)
       | (go_at_call 104; (with_reducible refine (kNh _).mono ?_); rintro e v1 ⟨rfl, g1⟩; replace hS := hS.bel g1; replace qB := (g1.block B (lt_of qB)).trans qB; clear f0 f1 f2 f3 f4 f5 f6 f7 f8 f9 f10 f11 f12 f13 f14 f15 f16 ff; obtain ⟨f0, f1, f2, f3, f4, f5, f6, f7, f8, f9, f10, f11, f12, f13, f14, f15, f16, ff⟩ := c17 qB)
       | fail)
      exact ⟨rfl, hS.on, rfl⟩
     | true =>
      rw [hbi] at eI
      cases hbl : isNone s.low with
      | false =>
       rw [hbl] at kNl
       obtain rfl : R = none := by rw [← hQ'.out]; simp [hv, hb1, hb2, bare, show isNone exN = true from rfl, hbn, hbi, hbl]
       clear hQ'
       go_wp2_with (first
        | (go_at_call 68; (with_reducible refine (pmust_yes _).mono ?_); rintro e v1 ⟨rfl, rfl⟩)
        | (go_at_call 68; (with_reducible refine (pmust_no _).mono ?_); rintro e v1 ⟨rfl, rfl⟩)
        | (go_at_call 104; (with_reducible refine (kNz _).mono ?_); rintro e v1 ⟨rfl, g1⟩; replace hS := hS.bel g1; replace qB := (g1.block B (lt_of qB)).trans qB; clear f0 f1 f2 f3 f4 f5 f6 f7 f8 f9 f10 f11 f12 f13 f14 f15 f16 ff; obtain ⟨f0, f1, f2, f3, f4, f5, f6, f7, f8, f9, f10, f11, f12, f13, f14, f15, f16, ff⟩ := c17 qB)
        | (go_at_call 104; (with_reducible refine (kNl _).mono ?_); rintro e v1 ⟨rfl, g1⟩; replace hS := hS.bel g1; replace qB := (g1.block B (lt_of qB)).trans qB; clear f0 f1 f2 f3 f4 f5 f6 f7 f8 f9 f10 f11 f12 f13 f14 f15 f16 ff; obtain ⟨f0, f1, f2, f3, f4, f5, f6, f7, f8, f9, f10, f11, f12, f13, f14, f15, f16, ff⟩ := c17 qB)
        | (go_at_call 104; (with_reducible refine (kNh _).mono ?_); rintro e v1 ⟨rfl, g1⟩; replace hS := hS.bel g1; replace qB := (g1.block B (lt_of qB)).trans qB; clear f0 f1 f2 f3 f4 f5 f6 f7 f8 f9 f10 f11 f12 f13 f14 f15 f16 ff; obtain ⟨f0, f1, f2, f3, f4, f5, f6, f7, f8, f9, f10, f11, f12, f13, f14, f15, f16, ff⟩ := c17 qB)
        | fail)
       exact ⟨rfl, hS.on, rfl⟩
      | true =>
       rw [hbl] at kNl
       cases hbh : isNone s.high with
       | false =>
        rw [hbh] at kNh
        obtain rfl : R = none := by rw [← hQ'.out]; simp [hv, hb1, hb2, bare, show isNone exN = true from rfl, hbn, hbi, hbl, hbh]
        clear hQ'
        go_wp2_with (first
         | (go_at_call 68; (with_reducible refine (pmust_yes _).mono ?_); rintro e v1 ⟨rfl, rfl⟩)
         | (go_at_call 68; (with_reducible refine (pmust_no _).mono ?_); rintro e v1 ⟨rfl, rfl⟩)
         | (go_at_call 104; (with_reducible refine (kNz _).mono ?_); rintro e v1 ⟨rfl, g1⟩; replace hS := hS.bel g1; replace qB := (g1.block B (lt_of qB)).trans qB; clear f0 f1 f2 f3 f4 f5 f6 f7 f8 f9 f10 f11 f12 f13 f14 f15 f16 ff; obtain ⟨f0, f1, f2, f3, f4, f5, f6, f7, f8, f9, f10, f11, f12, f13, f14, f15, f16, ff⟩ := c17 qB)
         | (go_at_call 104; (with_reducible refine (kNl _).mono ?_); rintro e v1 ⟨rfl, g1⟩; replace hS := hS.bel g1; replace qB := (g1.block B (lt_of qB)).trans qB; clear f0 f1 f2 f3 f4 f5 f6 f7 f8 f9 f10 f11 f12 f13 f14 f15 f16 ff; obtain ⟨f0, f1, f2, f3, f4, f5, f6, f7, f8, f9, f10, f11, f12, f13, f14, f15, f16, ff⟩ := c17 qB)
         | (go_at_call 104; (with_reducible refine (kNh _).mono ?_); rintro e v1 ⟨rfl, g1⟩; replace hS := hS.bel g1; replace qB := (g1.block B (lt_of qB)).trans qB; clear f0 f1 f2 f3 f4 f5 f6 f7 f8 f9 f10 f11 f12 f13 f14 f15 f16 ff; obtain ⟨f0, f1, f2, f3, f4, f5, f6, f7, f8, f9, f10, f11, f12, f13, f14, f15, f16, ff⟩ := c17 qB)
         | fail)
        exact ⟨rfl, hS.on, rfl⟩
       | true =>
        rw [hbh] at kNh
        obtain rfl : R = some c3 := by rw [← hQ'.out]; simp [hv, hb1, hb2, bare, show isNone exN = true from rfl, hbn, hbi, hbl, hbh]
        clear hQ'
        go_wp2_with (first
         | (go_at_call 68; (with_reducible refine (pmust_yes _).mono ?_); rintro e v1 ⟨rfl, rfl⟩)
         | (go_at_call 68; (with_reducible refine (pmust_no _).mono ?_); rintro e v1 ⟨rfl, rfl⟩)
         | (go_at_call 104; (with_reducible refine (kNz _).mono ?_); rintro e v1 ⟨rfl, g1⟩; replace hS := hS.bel g1; replace qB := (g1.block B (lt_of qB)).trans qB; clear f0 f1 f2 f3 f4 f5 f6 f7 f8 f9 f10 f11 f12 f13 f14 f15 f16 ff; obtain ⟨f0, f1, f2, f3, f4, f5, f6, f7, f8, f9, f10, f11, f12, f13, f14, f15, f16, ff⟩ := c17 qB)
         | (go_at_call 104; (with_reducible refine (kNl _).mono ?_); rintro e v1 ⟨rfl, g1⟩; replace hS := hS.bel g1; replace qB := (g1.block B (lt_of qB)).trans qB; clear f0 f1 f2 f3 f4 f5 f6 f7 f8 f9 f10 f11 f12 f13 f14 f15 f16 ff; obtain ⟨f0, f1, f2, f3, f4, f5, f6, f7, f8, f9, f10, f11, f12, f13, f14, f15, f16, ff⟩ := c17 qB)
         | (go_at_call 104; (with_reducible refine (kNh _).mono ?_); rintro e v1 ⟨rfl, g1⟩; replace hS := hS.bel g1; replace qB := (g1.block B (lt_of qB)).trans qB; clear f0 f1 f2 f3 f4 f5 f6 f7 f8 f9 f10 f11 f12 f13 f14 f15 f16 ff; obtain ⟨f0, f1, f2, f3, f4, f5, f6, f7, f8, f9, f10, f11, f12, f13, f14, f15, f16, ff⟩ := c17 qB)
         | fail)
        exact bodyPost_end (v := .tuple #[]) (by simp [results, Tryz.results90, go_sem]) rfl ⟨hS.on, rfl, hS.R⟩
end Go.Proofs.YtknoibocpbfmmaaGreatDoor



namespace Go.Proofs.YtknoibocpbfmmaaGreatDoor
open Go.RowKit
set_option linter.unusedVariables false
set_option linter.unusedSimpArgs false
set_option maxRecDepth 100000 in
set_option maxHeartbeats 1600000 in
theorem st_4 (s : St) (hop : s.dO = 4) (kK1 : SpK s.thn) (hz : s.szs) (deep p x : Nat) (S0 : Nat → Prop) (p0 : Option Addr) (q0 : Nat) (p1 : Option Addr) (q1 : Nat) (p2 : Option Addr) (q2 : Nat) (p3 : Option Addr) (q3 : Nat) (p4 : Option Addr) (q4 : Nat) (p5 : Option Addr) (q5 : Nat) (b : Nat) (w : World) (hd0 : deep ≤ 24) (hO : OpsAt w) (hG : b ≠ 0) (hSb : ¬ S0 b) (hT : StT w S0 s p0 q0 p1 q1 p2 q2 p3 q3 p4 q4 p5 q5) (hR : RuAt w b (p, x)) :
  Calls Tryz.prog 90 #[.pointer (some ⟨b, 0, none⟩), .agg #[.int .i64 s.dO, .string s.name, .slice p0 s.index.len q0, .int .i64 s.value.op, .string s.value.tx, .int .i64 s.value.ty, .slice p1 s.value.ks.len q1, .int .i64 s.low.op, .string s.low.tx, .int .i64 s.low.ty, .slice p2 s.low.ks.len q2, .int .i64 s.high.op, .string s.high.tx, .int .i64 s.high.ty, .slice p3 s.high.ks.len q3, .slice p4 s.thn.len q4, .slice p5 s.els.len q5], .int .i64 deep] w fun e w' => RuR (ruT deep s (p, x)) b w e w' := by
 obtain ⟨R, hQ⟩ : ∃ R, ruT deep s (p, x) = R := ⟨_, rfl⟩
 rw [hQ]
 unfold ruT at hQ
 have hd : deep + 1 ≤ 30 := by omega
 have wd : IntKind.i64.wrap ((deep : Int) + 1) = ((deep + 1 : Nat) : Int) := by rw [IntKind.wrap_i64]; omega
 rw [hop] at hQ ⊢
 rw [if_neg (by decide), if_neg (by decide), if_neg (by decide), if_pos rfl] at hQ
 have hS := st_go hO hG hSb hT hR (.cells #[.int .i64 4, .string s.name, .slice p0 s.index.len q0, .int .i64 s.value.op, .string s.value.tx, .int .i64 s.value.ty, .slice p1 s.value.ks.len q1, .int .i64 s.low.op, .string s.low.tx, .int .i64 s.low.ty, .slice p2 s.low.ks.len q2, .int .i64 s.high.op, .string s.high.tx, .int .i64 s.high.ty, .slice p3 s.high.ks.len q3, .slice p4 s.thn.len q4, .slice p5 s.els.len q5] 87)
 have qB := World.alloc_heap_new w (.cells #[.int .i64 4, .string s.name, .slice p0 s.index.len q0, .int .i64 s.value.op, .string s.value.tx, .int .i64 s.value.ty, .slice p1 s.value.ks.len q1, .int .i64 s.low.op, .string s.low.tx, .int .i64 s.low.ty, .slice p2 s.low.ks.len q2, .int .i64 s.high.op, .string s.high.tx, .int .i64 s.high.ty, .slice p3 s.high.ks.len q3, .slice p4 s.thn.len q4, .slice p5 s.els.len q5] 87)
 obtain ⟨S, hSe⟩ : ∃ S, S = (fun k => S0 k ∧ k < w.heap.size) := ⟨_, rfl⟩
 rw [← hSe] at hS
 obtain ⟨B, hB⟩ : ∃ B, w.heap.size = B := ⟨_, rfl⟩
 obtain ⟨X, hX⟩ : ∃ X, w.alloc (.cells #[.int .i64 4, .string s.name, .slice p0 s.index.len q0, .int .i64 s.value.op, .string s.value.tx, .int .i64 s.value.ty, .slice p1 s.value.ks.len q1, .int .i64 s.low.op, .string s.low.tx, .int .i64 s.low.ty, .slice p2 s.low.ks.len q2, .int .i64 s.high.op, .string s.high.tx, .int .i64 s.high.ty, .slice p3 s.high.ks.len q3, .slice p4 s.thn.len q4, .slice p5 s.els.len q5] 87) = X := ⟨_, rfl⟩
 rw [hX] at hS qB
 rw [hB] at hS qB
 have hX' : Hid (w.alloc (.cells #[.int .i64 4, .string s.name, .slice p0 s.index.len q0, .int .i64 s.value.op, .string s.value.tx, .int .i64 s.value.ty, .slice p1 s.value.ks.len q1, .int .i64 s.low.op, .string s.low.tx, .int .i64 s.low.ty, .slice p2 s.low.ks.len q2, .int .i64 s.high.op, .string s.high.tx, .int .i64 s.high.ty, .slice p3 s.high.ks.len q3, .slice p4 s.thn.len q4, .slice p5 s.els.len q5] 87) = X) := hX
 have hB' : Hid (w.heap.size = B) := hB
 obtain ⟨f0, f1, f2, f3, f4, f5, f6, f7, f8, f9, f10, f11, f12, f13, f14, f15, f16, ff⟩ := c17 qB
 have hQ' : Hid (_ = R) := hQ
 clear hX hB hQ hO hR hT hSe hd0
 have kNz : ∀ V, Calls Tryz.prog 104 #[.agg #[.int .i64 0, .string ⟨#[]⟩, .int .i64 0, .slice none 0 0]] V fun e w' => e = .returned (.bool true) ∧ Below V.heap.size V w' := fun V => pnone exN none 0 V
 have kNl := pnone s.low p2 q2
 have kNh := pnone s.high p3 q3
 have eI : (((s.index.len : Nat) : Int) == 0) = decide (s.index.len = 0) := by by_cases h : s.index.len = 0 <;> simp [h]
 have eE : (((s.els.len : Nat) : Int) == 0) = decide (s.els.len = 0) := by by_cases h : s.els.len = 0 <;> simp [h]
 have eN := txt_e s.name
 cases hv : ruE 1 s.value x with
 | none =>
  have kE := (fun V hO hR (hT : StT V S s p0 q0 p1 q1 p2 q2 p3 q3 p4 q4 p5 q5) => pex s.value hz.2.2.1 1 p x S _ _ b V (by decide) hO hG (fun a => (hS.hS _ a).1 rfl) (StT.T1 hT) hR)
  simp only [hv, Option.map_none] at kE
  obtain rfl : R = none := by rw [← hQ'.out]; simp [hv]
  clear hQ'
  go_enter Tryz.func90, Tryz.ntmps90
  go_upto_region 1 with fail
  rw [hX'.out]
  (try rw [hB'.out])
  clear hX'
  go_wp2_with (first
   | (go_at_call 68; (with_reducible refine (pmust_yes _).mono ?_); rintro e v1 ⟨rfl, rfl⟩)
   | (go_at_call 68; (with_reducible refine (pmust_no _).mono ?_); rintro e v1 ⟨rfl, rfl⟩)
   | (go_at_call 102; (refine (kE _ hS.O hS.R hS.T).mono ?_); rintro e v1 ⟨on1, rfl⟩; replace hS := hS.on.trans on1; clear kE)
   | fail)
  exact ⟨rfl, hS, rfl⟩
 | some x1 =>
  have kE := (fun V hO hR (hT : StT V S s p0 q0 p1 q1 p2 q2 p3 q3 p4 q4 p5 q5) => pex s.value hz.2.2.1 1 p x S _ _ b V (by decide) hO hG (fun a => (hS.hS _ a).1 rfl) (StT.T1 hT) hR)
  simp only [hv, Option.map_some] at kE
  cases hb1 : ruK (deep + 1) s.thn (p, x1) with
  | none =>
   have kB1 := (fun V hO hR (hT : StT V S s p0 q0 p1 q1 p2 q2 p3 q3 p4 q4 p5 q5) => kK1 (deep + 1) (p, x1) S _ b V hd hO hG (fun a => (hS.hS _ a).1 rfl) (StT.T4 hT) hR)
   simp only [hb1, Option.map_none] at kB1
   obtain rfl : R = none := by rw [← hQ'.out]; simp [hv, hb1]
   clear hQ'
   go_enter Tryz.func90, Tryz.ntmps90
   go_upto_region 1 with fail
   rw [hX'.out]
   (try rw [hB'.out])
   clear hX'
   go_wp2_with (first
    | (go_at_call 68; (with_reducible refine (pmust_yes _).mono ?_); rintro e v1 ⟨rfl, rfl⟩)
    | (go_at_call 68; (with_reducible refine (pmust_no _).mono ?_); rintro e v1 ⟨rfl, rfl⟩)
    | (go_at_call 102; (refine (kE _ hS.O hS.R hS.T).mono ?_); rintro e v1 ⟨on1, rfl, h1⟩; clear kE; replace hS := hS.onl on1 h1; replace qB := (on1.block B (lt_of qB) hS.Bb).trans qB; clear f0 f1 f2 f3 f4 f5 f6 f7 f8 f9 f10 f11 f12 f13 f14 f15 f16 ff; obtain ⟨f0, f1, f2, f3, f4, f5, f6, f7, f8, f9, f10, f11, f12, f13, f14, f15, f16, ff⟩ := c17 qB)
    | (go_at_call 70; (refine (kB1 _ hS.O hS.R hS.T).mono ?_); rintro e v1 ⟨on1, rfl⟩; replace hS := hS.on.trans on1; clear kB1)
    | fail)
   exact ⟨rfl, hS, rfl⟩
  | some c2 =>
   have kB1 := (fun V hO hR (hT : StT V S s p0 q0 p1 q1 p2 q2 p3 q3 p4 q4 p5 q5) => kK1 (deep + 1) (p, x1) S _ b V hd hO hG (fun a => (hS.hS _ a).1 rfl) (StT.T4 hT) hR)
   simp only [hb1, Option.map_some] at kB1
   go_enter Tryz.func90, Tryz.ntmps90
   go_upto_region 1 with fail
   rw [hX'.out]
   (try rw [hB'.out])
   clear hX'
   go_upto_region 22 with (first
    | (go_at_call 68; (with_reducible refine (pmust_yes _).mono ?_); rintro e v1 ⟨rfl, rfl⟩)
    | (go_at_call 68; (with_reducible refine (pmust_no _).mono ?_); rintro e v1 ⟨rfl, rfl⟩)
    | (go_at_call 102; (refine (kE _ hS.O hS.R hS.T).mono ?_); rintro e v1 ⟨on1, rfl, h1⟩; clear kE; replace hS := hS.onl on1 h1; replace qB := (on1.block B (lt_of qB) hS.Bb).trans qB; clear f0 f1 f2 f3 f4 f5 f6 f7 f8 f9 f10 f11 f12 f13 f14 f15 f16 ff; obtain ⟨f0, f1, f2, f3, f4, f5, f6, f7, f8, f9, f10, f11, f12, f13, f14, f15, f16, ff⟩ := c17 qB)
    | (go_at_call 70; (refine (kB1 _ hS.O hS.R hS.T).mono ?_); rintro e v1 ⟨on1, rfl, h1⟩; clear kB1; replace hS := hS.onl on1 h1; replace qB := (on1.block B (lt_of qB) hS.Bb).trans qB; clear f0 f1 f2 f3 f4 f5 f6 f7 f8 f9 f10 f11 f12 f13 f14 f15 f16 ff; obtain ⟨f0, f1, f2, f3, f4, f5, f6, f7, f8, f9, f10, f11, f12, f13, f14, f15, f16, ff⟩ := c17 qB)
    | fail)
   obtain ⟨V0, hV0⟩ : ∃ V, v1 = V := ⟨_, rfl⟩
   rw [hV0] at qB hS
   have hS2 := (((((hS.set 3 (.int .i64 0)).set 4 (.string ⟨#[]⟩)).set 5 (.int .i64 0)).set 6 (.slice none 0 0)).set 15 (.slice none 0 0))
   have qB2 := (at_set (at_set (at_set (at_set (at_set qB 3 (.int .i64 0)) 4 (.string ⟨#[]⟩)) 5 (.int .i64 0)) 6 (.slice none 0 0)) 15 (.slice none 0 0))
   simp only [List.setIfInBounds_toArray, List.set_cons_zero, List.set_cons_succ] at qB2
   obtain ⟨V2, hV2⟩ : ∃ V, (((((V0.setCell ⟨B, 3, none⟩ (.int .i64 0)).setCell ⟨B, 4, none⟩ (.string ⟨#[]⟩)).setCell ⟨B, 5, none⟩ (.int .i64 0)).setCell ⟨B, 6, none⟩ (.slice none 0 0)).setCell ⟨B, 15, none⟩ (.slice none 0 0)) = V := ⟨_, rfl⟩
   rw [hV2] at hS2 qB2
   rw [hV0, hV2]
   clear hS qB f0 f1 f2 f3 f4 f5 f6 f7 f8 f9 f10 f11 f12 f13 f14 f15 f16 ff hV2 hV0
   have hS := hS2
   have qB := qB2
   clear hS2 qB2
   obtain ⟨f0, f1, f2, f3, f4, f5, f6, f7, f8, f9, f10, f11, f12, f13, f14, f15, f16, ff⟩ := c17 qB
   cases hbn : decide (s.name = tx0) with
   | false =>
    rw [hbn] at eN
    obtain rfl : R = none := by rw [← hQ'.out]; simp [hv, hb1, bare, show isNone exN = true from rfl, hbn]
    clear hQ'
    go_wp2_with (first
     | (go_at_call 68; (with_reducible refine (pmust_yes _).mono ?_); rintro e v1 ⟨rfl, rfl⟩)
     | (go_at_call 68; (with_reducible refine (pmust_no _).mono ?_); rintro e v1 ⟨rfl, rfl⟩)
     | (go_at_call 104; (with_reducible refine (kNz _).mono ?_); rintro e v1 ⟨rfl, g1⟩; replace hS := hS.bel g1; replace qB := (g1.block B (lt_of qB)).trans qB; clear f0 f1 f2 f3 f4 f5 f6 f7 f8 f9 f10 f11 f12 f13 f14 f15 f16 ff; obtain ⟨f0, f1, f2, f3, f4, f5, f6, f7, f8, f9, f10, f11, f12, f13, f14, f15, f16, ff⟩ := c17 qB)
     | (go_at_call 104; (with_reducible refine (kNl _).mono ?_); rintro e v1 ⟨rfl, g1⟩; replace hS := hS.bel g1; replace qB := (g1.block B (lt_of qB)).trans qB; clear f0 f1 f2 f3 f4 f5 f6 f7 f8 f9 f10 f11 f12 f13 f14 f15 f16 ff; obtain ⟨f0, f1, f2, f3, f4, f5, f6, f7, f8, f9, f10, f11, f12, f13, f14, f15, f16, ff⟩ := c17 qB)
     | (go_at_call 104; (with_reducible refine (kNh _).mono ?_); rintro e v1 ⟨rfl, g1⟩; replace hS := hS.bel g1; replace qB := (g1.block B (lt_of qB)).trans qB; clear f0 f1 f2 f3 f4 f5 f6 f7 f8 f9 f10 f11 f12 f13 f14 f15 f16 ff; obtain ⟨f0, f1, f2, f3, f4, f5, f6, f7, f8, f9, f10, f11, f12, f13, f14, f15, f16, ff⟩ := c17 qB)
     | fail)
    exact ⟨rfl, hS.on, rfl⟩
   | true =>
    rw [hbn] at eN
    cases hbi : decide (s.index.len = 0) with
    | false =>
     rw [hbi] at eI
     obtain rfl : R = none := by rw [← hQ'.out]; simp [hv, hb1, bare, show isNone exN = true from rfl, hbn, hbi]
     clear hQ'
     go_wp2_with (first
      | (go_at_call 68; (with_reducible refine (pmust_yes _).mono ?_); rintro e v1 ⟨rfl, rfl⟩)
      | (go_at_call 68; (with_reducible refine (pmust_no _).mono ?_); rintro e v1 ⟨rfl, rfl⟩)
      | (go_at_call 104; (with_reducible refine (kNz _).mono ?_); rintro e v1 ⟨rfl, g1⟩; replace hS := hS.bel g1; replace qB := (g1.block B (lt_of qB)).trans qB; clear f0 f1 f2 f3 f4 f5 f6 f7 f8 f9 f10 f11 f12 f13 f14 f15 f16 ff; obtain ⟨f0, f1, f2, f3, f4, f5, f6, f7, f8, f9, f10, f11, f12, f13, f14, f15, f16, ff⟩ := c17 qB)
      | (go_at_call 104; (with_reducible refine (kNl _).mono ?_); rintro e v1 ⟨rfl, g1⟩; replace hS := hS.bel g1; replace qB := (g1.block B (lt_of qB)).trans qB; clear f0 f1 f2 f3 f4 f5 f6 f7 f8 f9 f10 f11 f12 f13 f14 f15 f16 ff; obtain ⟨f0, f1, f2, f3, f4, f5, f6, f7, f8, f9, f10, f11, f12, f13, f14, f15, f16, ff⟩ := c17 qB)
      | (go_at_call 104; (with_reducible refine (kNh _).mono ?_); rintro e v1 ⟨rfl, g1⟩; replace hS := hS.bel g1; replace qB := (g1.block B (lt_of qB)).trans qB; clear f0 f1 f2 f3 f4 f5 f6 f7 f8 f9 f10 f11 f12 f13 f14 f15 f16 ff; obtain ⟨f0, f1, f2, f3, f4, f5, f6, f7, f8, f9, f10, f11, f12, f13, f14, f15, f16, ff⟩ := c17 qB)
      | fail)
     exact ⟨rfl, hS.on, rfl⟩
    | true =>
     rw [hbi] at eI
     cases hbl : isNone s.low with
     | false =>
      rw [hbl] at kNl
      obtain rfl : R = none := by rw [← hQ'.out]; simp [hv, hb1, bare, show isNone exN = true from rfl, hbn, hbi, hbl]
      clear hQ'
      go_wp2_with (first
       | (go_at_call 68; (with_reducible refine (pmust_yes _).mono ?_); rintro e v1 ⟨rfl, rfl⟩)
       | (go_at_call 68; (with_reducible refine (pmust_no _).mono ?_); rintro e v1 ⟨rfl, rfl⟩)
       | (go_at_call 104; (with_reducible refine (kNz _).mono ?_); rintro e v1 ⟨rfl, g1⟩; replace hS := hS.bel g1; replace qB := (g1.block B (lt_of qB)).trans qB; clear f0 f1 f2 f3 f4 f5 f6 f7 f8 f9 f10 f11 f12 f13 f14 f15 f16 ff; obtain ⟨f0, f1, f2, f3, f4, f5, f6, f7, f8, f9, f10, f11, f12, f13, f14, f15, f16, ff⟩ := c17 qB)
       | (go_at_call 104; (with_reducible refine (kNl _).mono ?_); rintro e v1 ⟨rfl, g1⟩; replace hS := hS.bel g1; replace qB := (g1.block B (lt_of qB)).trans qB; clear f0 f1 f2 f3 f4 f5 f6 f7 f8 f9 f10 f11 f12 f13 f14 f15 f16 ff; obtain ⟨f0, f1, f2, f3, f4, f5, f6, f7, f8, f9, f10, f11, f12, f13, f14, f15, f16, ff⟩ := c17 qB)
       | (go_at_call 104; (with_reducible refine (kNh _).mono ?_); rintro e v1 ⟨rfl, g1⟩; replace hS := hS.bel g1; replace qB := (g1.block B (lt_of qB)).trans qB; clear f0 f1 f2 f3 f4 f5 f6 f7 f8 f9 f10 f11 f12 f13 f14 f15 f16 ff; obtain ⟨f0, f1, f2, f3, f4, f5, f6, f7, f8, f9, f10, f11, f12, f13, f14, f15, f16, ff⟩ := c17 qB)
       | fail)
      exact ⟨rfl, hS.on, rfl⟩
     | true =>
      rw [hbl] at kNl
      cases hbh : isNone s.high with
      | false =>
       rw [hbh] at kNh
       obtain rfl : R = none := by rw [← hQ'.out]; simp [hv, hb1, bare, show isNone exN = true from rfl, hbn, hbi, hbl, hbh]
       clear hQ'
       go_wp2_with (first
        | (go_at_call 68; (with_reducible refine (pmust_yes _).mono ?_); rintro e v1 ⟨rfl, rfl⟩)
        | (go_at_call 68; (with_reducible refine (pmust_no _).mono ?_); rintro e v1 ⟨rfl, rfl⟩)
        | (go_at_call 104; (with_reducible refine (kNz _).mono ?_); rintro e v1 ⟨rfl, g1⟩; replace hS := hS.bel g1; replace qB := (g1.block B (lt_of qB)).trans qB; clear f0 f1 f2 f3 f4 f5 f6 f7 f8 f9 f10 f11 f12 f13 f14 f15 f16 ff; obtain ⟨f0, f1, f2, f3, f4, f5, f6, f7, f8, f9, f10, f11, f12, f13, f14, f15, f16, ff⟩ := c17 qB)
        | (go_at_call 104; (with_reducible refine (kNl _).mono ?_); rintro e v1 ⟨rfl, g1⟩; replace hS := hS.bel g1; replace qB := (g1.block B (lt_of qB)).trans qB; clear f0 f1 f2 f3 f4 f5 f6 f7 f8 f9 f10 f11 f12 f13 f14 f15 f16 ff; obtain ⟨f0, f1, f2, f3, f4, f5, f6, f7, f8, f9, f10, f11, f12, f13, f14, f15, f16, ff⟩ := c17 qB)
        | (go_at_call 104; (with_reducible refine (kNh _).mono ?_); rintro e v1 ⟨rfl, g1⟩; replace hS := hS.bel g1; replace qB := (g1.block B (lt_of qB)).trans qB; clear f0 f1 f2 f3 f4 f5 f6 f7 f8 f9 f10 f11 f12 f13 f14 f15 f16 ff; obtain ⟨f0, f1, f2, f3, f4, f5, f6, f7, f8, f9, f10, f11, f12, f13, f14, f15, f16, ff⟩ := c17 qB)
        | fail)
       exact ⟨rfl, hS.on, rfl⟩
      | true =>
       rw [hbh] at kNh
       cases hbe : decide (s.els.len = 0) with
       | false =>
        rw [hbe] at eE
        obtain rfl : R = none := by rw [← hQ'.out]; simp [hv, hb1, bare, show isNone exN = true from rfl, hbn, hbi, hbl, hbh, hbe]
        clear hQ'
        go_wp2_with (first
         | (go_at_call 68; (with_reducible refine (pmust_yes _).mono ?_); rintro e v1 ⟨rfl, rfl⟩)
         | (go_at_call 68; (with_reducible refine (pmust_no _).mono ?_); rintro e v1 ⟨rfl, rfl⟩)
         | (go_at_call 104; (with_reducible refine (kNz _).mono ?_); rintro e v1 ⟨rfl, g1⟩; replace hS := hS.bel g1; replace qB := (g1.block B (lt_of qB)).trans qB; clear f0 f1 f2 f3 f4 f5 f6 f7 f8 f9 f10 f11 f12 f13 f14 f15 f16 ff; obtain ⟨f0, f1, f2, f3, f4, f5, f6, f7, f8, f9, f10, f11, f12, f13, f14, f15, f16, ff⟩ := c17 qB)
         | (go_at_call 104; (with_reducible refine (kNl _).mono ?_); rintro e v1 ⟨rfl, g1⟩; replace hS := hS.bel g1; replace qB := (g1.block B (lt_of qB)).trans qB; clear f0 f1 f2 f3 f4 f5 f6 f7 f8 f9 f10 f11 f12 f13 f14 f15 f16 ff; obtain ⟨f0, f1, f2, f3, f4, f5, f6, f7, f8, f9, f10, f11, f12, f13, f14, f15, f16, ff⟩ := c17 qB)
         | (go_at_call 104; (with_reducible refine (kNh _).mono ?_); rintro e v1 ⟨rfl, g1⟩; replace hS := hS.bel g1; replace qB := (g1.block B (lt_of qB)).trans qB; clear f0 f1 f2 f3 f4 f5 f6 f7 f8 f9 f10 f11 f12 f13 f14 f15 f16 ff; obtain ⟨f0, f1, f2, f3, f4, f5, f6, f7, f8, f9, f10, f11, f12, f13, f14, f15, f16, ff⟩ := c17 qB)
         | fail)
        exact ⟨rfl, hS.on, rfl⟩
       | true =>
        rw [hbe] at eE
        obtain rfl : R = some c2 := by rw [← hQ'.out]; simp [hv, hb1, bare, show isNone exN = true from rfl, hbn, hbi, hbl, hbh, hbe]
        clear hQ'
        go_wp2_with (first
         | (go_at_call 68; (with_reducible refine (pmust_yes _).mono ?_); rintro e v1 ⟨rfl, rfl⟩)
         | (go_at_call 68; (with_reducible refine (pmust_no _).mono ?_); rintro e v1 ⟨rfl, rfl⟩)
         | (go_at_call 104; (with_reducible refine (kNz _).mono ?_); rintro e v1 ⟨rfl, g1⟩; replace hS := hS.bel g1; replace qB := (g1.block B (lt_of qB)).trans qB; clear f0 f1 f2 f3 f4 f5 f6 f7 f8 f9 f10 f11 f12 f13 f14 f15 f16 ff; obtain ⟨f0, f1, f2, f3, f4, f5, f6, f7, f8, f9, f10, f11, f12, f13, f14, f15, f16, ff⟩ := c17 qB)
         | (go_at_call 104; (with_reducible refine (kNl _).mono ?_); rintro e v1 ⟨rfl, g1⟩; replace hS := hS.bel g1; replace qB := (g1.block B (lt_of qB)).trans qB; clear f0 f1 f2 f3 f4 f5 f6 f7 f8 f9 f10 f11 f12 f13 f14 f15 f16 ff; obtain ⟨f0, f1, f2, f3, f4, f5, f6, f7, f8, f9, f10, f11, f12, f13, f14, f15, f16, ff⟩ := c17 qB)
         | (go_at_call 104; (with_reducible refine (kNh _).mono ?_); rintro e v1 ⟨rfl, g1⟩; replace hS := hS.bel g1; replace qB := (g1.block B (lt_of qB)).trans qB; clear f0 f1 f2 f3 f4 f5 f6 f7 f8 f9 f10 f11 f12 f13 f14 f15 f16 ff; obtain ⟨f0, f1, f2, f3, f4, f5, f6, f7, f8, f9, f10, f11, f12, f13, f14, f15, f16, ff⟩ := c17 qB)
         | fail)
        exact bodyPost_end (v := .tuple #[]) (by simp [results, Tryz.results90, go_sem]) rfl ⟨hS.on, rfl, hS.R⟩
end Go.Proofs.YtknoibocpbfmmaaGreatDoor



