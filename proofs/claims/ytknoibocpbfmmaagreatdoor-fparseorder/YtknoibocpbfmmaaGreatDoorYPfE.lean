/- Which of two operators binds: the walk of FparseOrder. -/
import Derived.Test.YtknoibocpbfmmaaGreatDoorYG22
namespace Go.Proofs.YtknoibocpbfmmaaGreatDoor
open Go.RowKit
set_option linter.unusedVariables false
set_option linter.unusedSimpArgs false
set_option maxRecDepth 100000 in
theorem sx_ix (c n q j : Nat) (h : j < n) (w : World) : (Instr.indexAt 35 (.slice (some ⟨c, 0, none⟩) n q) (.int .i64 j)).run Tryz.prog w = .ok (.pointer (some ⟨c, j, none⟩)) w := by
  have e2 : ∀ w, (sizeOf (Tryz.prog.elem 35)).run Tryz.prog w = .ok 1 w := fun w => by kernel_rfl
  rw [run_indexAt_slice (h := by first | exact Tryz.underlying35 | rfl), if_pos ⟨by omega, by omega⟩, e2]
  simp [go_sem]
set_option maxRecDepth 100000 in
theorem sy_ix (c n q j : Nat) (h : j < n) (w : World) : (Instr.indexAt 36 (.slice (some ⟨c, 0, none⟩) n q) (.int .i64 j)).run Tryz.prog w = .ok (.pointer (some ⟨c, j, none⟩)) w := by
  have e2 : ∀ w, (sizeOf (Tryz.prog.elem 36)).run Tryz.prog w = .ok 1 w := fun w => by kernel_rfl
  rw [run_indexAt_slice (h := by first | exact Tryz.underlying36 | rfl), if_pos ⟨by omega, by omega⟩, e2]
  simp [go_sem]
theorem pgL_len (P Q : Nat) : (pgLt P Q).1 = [] ∧ (pgLt P Q).2.len = 1 := ⟨rfl, rfl⟩
theorem pgR_len (P Q : Nat) : (pgRt P Q).1 = [] ∧ (pgRt P Q).2.len = 1 := ⟨rfl, rfl⟩
theorem pgX_len (P Q : Nat) : ((pgXt P Q).1 = [] ∧ (pgXt P Q).2.len = 1) ∧ ((sgV Q ≤ sgV P → pgXt P Q = pgLt P Q) ∧ (¬ sgV Q ≤ sgV P → pgXt P Q = pgRt P Q)) := by
  unfold pgXt
  by_cases h : sgV Q ≤ sgV P
  · rw [if_pos h]; exact ⟨pgL_len P Q, fun _ => rfl, fun k => absurd h k⟩
  · rw [if_neg h]; exact ⟨pgR_len P Q, fun k => absurd k h, fun _ => rfl⟩
theorem kSm {s s' : ByteArray} {p q : Pg} {wo wo' xo xo' : Option Addr} {wc wc' xc xc' : Nat} (hp : prsL s = .ok p) (hq : prsL s' = .ok q) (lp : p.1 = [] ∧ p.2.len = 1) (lq : q.1 = [] ∧ q.2.len = 1) {w X : World} (hh : Hid (OpsAt w ∧ EvAt w)) (g0 : Below w.heap.size w X) {S S' : Nat → Prop} (t1 : SlS X S (.slice xo 1 xc) p.2) (t2 : SlS X S' (.slice xo' 1 xc') q.2) :
    ∀ V, Below X.heap.size X V → Calls Tryz.prog 14 #[.agg #[.slice wo 0 wc, .slice xo 1 xc], .agg #[.slice wo' 0 wc', .slice xo' 1 xc']] V fun e w' => e = .returned (.bool (decide (p = q))) ∧ Below V.heap.size V w' := fun V g => by
  have k := fun (d1 : SlDc V (.slice wo p.1.length wc) p.1) (d2 : SlDc V (.slice wo' q.1.length wc') q.1) (u1 : SlS V S (.slice xo p.2.len xc) p.2) (u2 : SlS V S' (.slice xo' q.2.len xc') q.2) => pSame hp hq S S' wo wo' xo xo' wc wc' xc xc' V (hh.out.1.bel (pb_call g0 g)) d1 u1 d2 u2
  rw [lp.1, lq.1, lp.2, lq.2] at k
  exact k ⟨wo, wc, rfl, Or.inl rfl⟩ ⟨wo', wc', rfl, Or.inl rfl⟩ (t1.kp (Below.kp g _)) (t2.kp (Below.kp g _))
theorem u8_ofp {x : Int} (h : (Lit.int .u8 x).wf = true) : 0 ≤ x ∧ x ≤ 255 := by
  simp [Lit.wf, IntKind.min, IntKind.max, IntKind.signed, IntKind.bits] at h
  exact ⟨by omega, by omega⟩

theorem two_cells {V : World} {b : Nat} {t : TypeId} {u v : Value} (q : V.heap[b]? = some (.cells #[u, v] t (0, 0))) : V.cell? ⟨b, 0, none⟩ = some u ∧ V.cell? ⟨b, 1, none⟩ = some v ∧ ∀ j, V.frozen? ⟨b, j, none⟩ = false :=
  ⟨by simp [World.cell?, q], by simp [World.cell?, q], fun j => by simp [World.frozen?, q]⟩
theorem two_set {V : World} {b : Nat} {t : TypeId} {u v : Value} (q : V.heap[b]? = some (.cells #[u, v] t (0, 0))) (x y : Value) : ((V.setCell ⟨b, 0, none⟩ x).setCell ⟨b, 1, none⟩ y).cell? ⟨b, 0, none⟩ = some x ∧ ((V.setCell ⟨b, 0, none⟩ x).setCell ⟨b, 1, none⟩ y).cell? ⟨b, 1, none⟩ = some y := by
  have h := at_set (at_set q 0 x) 1 y
  exact ⟨by simp [World.cell?, h], by simp [World.cell?, h]⟩
/-- What Parse tells of such a text, in whatever world. -/
theorem kOf {T : ByteArray} {p : Pg} (h : prsL T = .ok p) (l : p.1 = [] ∧ p.2.len = 1) {w X : World} (hh : Hid (OpsAt w ∧ EvAt w)) (g0 : Below w.heap.size w X) : ∀ V, Below X.heap.size X V → Calls Tryz.prog 10 #[.string T] V fun e w' => ∃ wo wc xo xc, e = .returned (.tuple #[.agg #[.slice wo 0 wc, .slice xo 1 xc], .int .i64 0, .int .i64 0]) ∧ Below V.heap.size V w' ∧ SlS w' (Fr V.heap.size) (.slice xo 1 xc) p.2 := fun V g => by
  have k := pParse_ok h V (hh.out.1.bel (pb_call g0 g)) (hh.out.2.bel (pb_call g0 g))
  rw [l.1, l.2] at k
  refine k.mono ?_
  rintro e w' ⟨wo, wc, xo, xc, h1, h2, _, h4⟩
  exact ⟨wo, wc, xo, xc, h1, h2, h4⟩
set_option maxRecDepth 100000 in
set_option maxHeartbeats 6400000 in
theorem law_order (x y : Int) (hx : 0 ≤ x ∧ x ≤ 255) (hy : 0 ≤ y ∧ y ≤ 255) (w : World) (hO : OpsAt w) (hE : EvAt w) : Calls Tryz.prog 5 #[.int .u8 x, .int .u8 y] w fun e w' => e = .returned (.bool true) ∧ Below w.heap.size w w' := by
  have hh : Hid (OpsAt w ∧ EvAt w) := ⟨hO, hE⟩
  obtain ⟨P, hP⟩ : ∃ P, (x % 12).toNat = P := ⟨_, rfl⟩
  obtain ⟨Q, hQ⟩ : ∃ Q, (y % 12).toNat = Q := ⟨_, rfl⟩
  have P12 : P < 12 := by omega
  have Q12 : Q < 12 := by omega
  have w1 : IntKind.i64.wrap x = x := by rw [IntKind.wrap_i64]; omega
  have w2 : IntKind.i64.wrap y = y := by rw [IntKind.wrap_i64]; omega
  have m1 : x.tmod 12 = ((P : Nat) : Int) := by rw [Int.tmod_eq_emod_of_nonneg hx.1]; omega
  have m2 : y.tmod 12 = ((Q : Nat) : Int) := by rw [Int.tmod_eq_emod_of_nonneg hy.1]; omega
  have w3 : IntKind.i64.wrap ((P : Nat) : Int) = ((P : Nat) : Int) := by rw [IntKind.wrap_i64]; omega
  have w4 : IntKind.i64.wrap ((Q : Nat) : Int) = ((Q : Nat) : Int) := by rw [IntKind.wrap_i64]; omega
  clear hO hE hP hQ
  go_enter Tryz.func5, Tryz.ntmps5
  go_upto_region 4 with fail
  have gX := pb_new (pb_new (Below.refl w.heap.size w) (.cells #[.string ⟨#[124, 124]⟩, .string ⟨#[38, 38]⟩, .string ⟨#[61, 61]⟩, .string ⟨#[33, 61]⟩, .string ⟨#[60]⟩, .string ⟨#[60, 61]⟩, .string ⟨#[62]⟩, .string ⟨#[62, 61]⟩, .string ⟨#[43]⟩, .string ⟨#[45]⟩, .string ⟨#[42]⟩, .string ⟨#[47]⟩] 9)) (.cells #[.int .i64 1, .int .i64 2, .int .i64 3, .int .i64 3, .int .i64 3, .int .i64 3, .int .i64 3, .int .i64 3, .int .i64 4, .int .i64 4, .int .i64 5, .int .i64 5] 3)
  have q6 := World.alloc_heap_new (w.alloc (.cells #[.string ⟨#[124, 124]⟩, .string ⟨#[38, 38]⟩, .string ⟨#[61, 61]⟩, .string ⟨#[33, 61]⟩, .string ⟨#[60]⟩, .string ⟨#[60, 61]⟩, .string ⟨#[62]⟩, .string ⟨#[62, 61]⟩, .string ⟨#[43]⟩, .string ⟨#[45]⟩, .string ⟨#[42]⟩, .string ⟨#[47]⟩] 9)) (.cells #[.int .i64 1, .int .i64 2, .int .i64 3, .int .i64 3, .int .i64 3, .int .i64 3, .int .i64 3, .int .i64 3, .int .i64 4, .int .i64 4, .int .i64 5, .int .i64 5] 3)
  have q5 : ((w.alloc (.cells #[.string ⟨#[124, 124]⟩, .string ⟨#[38, 38]⟩, .string ⟨#[61, 61]⟩, .string ⟨#[33, 61]⟩, .string ⟨#[60]⟩, .string ⟨#[60, 61]⟩, .string ⟨#[62]⟩, .string ⟨#[62, 61]⟩, .string ⟨#[43]⟩, .string ⟨#[45]⟩, .string ⟨#[42]⟩, .string ⟨#[47]⟩] 9)).alloc (.cells #[.int .i64 1, .int .i64 2, .int .i64 3, .int .i64 3, .int .i64 3, .int .i64 3, .int .i64 3, .int .i64 3, .int .i64 4, .int .i64 4, .int .i64 5, .int .i64 5] 3)).heap[w.heap.size]? = some (.cells #[.string ⟨#[124, 124]⟩, .string ⟨#[38, 38]⟩, .string ⟨#[61, 61]⟩, .string ⟨#[33, 61]⟩, .string ⟨#[60]⟩, .string ⟨#[60, 61]⟩, .string ⟨#[62]⟩, .string ⟨#[62, 61]⟩, .string ⟨#[43]⟩, .string ⟨#[45]⟩, .string ⟨#[42]⟩, .string ⟨#[47]⟩] 9 (0, 0)) := (Below.heap_alloc _ _ _ (by simp [go_sem])).trans (World.alloc_heap_new _ _)
  have s6 : (w.alloc (.cells #[.string ⟨#[124, 124]⟩, .string ⟨#[38, 38]⟩, .string ⟨#[61, 61]⟩, .string ⟨#[33, 61]⟩, .string ⟨#[60]⟩, .string ⟨#[60, 61]⟩, .string ⟨#[62]⟩, .string ⟨#[62, 61]⟩, .string ⟨#[43]⟩, .string ⟨#[45]⟩, .string ⟨#[42]⟩, .string ⟨#[47]⟩] 9)).heap.size = w.heap.size + 1 := by simp [go_sem]
  rw [s6] at q6
  obtain ⟨X0, hX⟩ : ∃ X, (w.alloc (.cells #[.string ⟨#[124, 124]⟩, .string ⟨#[38, 38]⟩, .string ⟨#[61, 61]⟩, .string ⟨#[33, 61]⟩, .string ⟨#[60]⟩, .string ⟨#[60, 61]⟩, .string ⟨#[62]⟩, .string ⟨#[62, 61]⟩, .string ⟨#[43]⟩, .string ⟨#[45]⟩, .string ⟨#[42]⟩, .string ⟨#[47]⟩] 9)).alloc (.cells #[.int .i64 1, .int .i64 2, .int .i64 3, .int .i64 3, .int .i64 3, .int .i64 3, .int .i64 3, .int .i64 3, .int .i64 4, .int .i64 4, .int .i64 5, .int .i64 5] 3) = X := ⟨_, rfl⟩
  obtain ⟨B5, hB5⟩ : ∃ B, w.heap.size = B := ⟨_, rfl⟩
  rw [hX] at gX q5 q6 ⊢
  rw [hB5] at q5 q6
  (try rw [hB5])
  have gX0 : Hid (Below w.heap.size w X0) := gX
  have cP := sg_cell q5 P12
  have cQ := sg_cell q5 Q12
  have dP := sv_cell q6 P12
  have dQ := sv_cell q6 Q12
  have z1 := sg_size P12
  have z2 := sg_size Q12
  obtain ⟨t1, t2, t3, ne⟩ := tab P12 Q12
  obtain ⟨l1, n1⟩ := pgX_len P Q
  have l2 := pgL_len P Q
  have l3 := pgR_len P Q
  generalize hp1 : pgXt P Q = p1 at *
  generalize hp2 : pgLt P Q = p2 at *
  generalize hp3 : pgRt P Q = p3 at *
  obtain ⟨a, ha⟩ : ∃ a, sgT P = a := ⟨_, rfl⟩
  obtain ⟨b, hb⟩ : ∃ b, sgT Q = b := ⟨_, rfl⟩
  rw [ha] at cP z1 t1 t2 t3
  rw [hb] at cQ z2 t1 t2 t3
  have ix1 := fun V => sx_ix B5 12 12 P P12 V
  have ix2 := fun V => sx_ix B5 12 12 Q Q12 V
  clear hX hB5 q5 q6 s6 gX w1 w2 m1 m2 ha hb
  have hall : ∀ V, Below X0.heap.size X0 V → (V.cell? ⟨B5, P, none⟩ = some (.string a) ∧ V.cell? ⟨B5, Q, none⟩ = some (.string b)) := fun V g => ⟨pb_cell g cP, pb_cell g cQ⟩
  have cc : Below X0.heap.size X0 X0 := Below.refl _ _
  have kP := kOf t1 l1 hh gX0.out
  unfold tT1 at kP
  have nq0 : 6 + a.size ≤ 9223372036854775807 := by omega
  have nq1 : 6 + a.size + 3 ≤ 9223372036854775807 := by omega
  have nq2 : 6 + a.size + 3 + b.size ≤ 9223372036854775807 := by omega
  have nq3 : 6 + a.size + 3 + b.size + 3 ≤ 9223372036854775807 := by omega
  go_cut [9, 10, 11] from 26 to 42 (fun s u0 u1 X1 => ∃ bb wo wc xo xc S, s = .pointer (some ⟨bb, 0, none⟩) ∧ u0 = .int .i64 0 ∧ u1 = .int .i64 0 ∧ X0.heap.size ≤ bb ∧ X1.cell? ⟨bb, 0, none⟩ = some (.slice wo 0 wc) ∧ X1.cell? ⟨bb, 1, none⟩ = some (.slice xo 1 xc) ∧ SlS X1 S (.slice xo 1 xc) p1.2 ∧ Below X0.heap.size X0 X1)
  case first =>
   refine wp_region_held_drew (S := (fun V => V.cell? ⟨B5, P, none⟩ = some (.string a) ∧ V.cell? ⟨B5, Q, none⟩ = some (.string b))) (by kernel_rfl) (hall _ cc.drew) (fun hHeld => ?_)
   refine wpAnyH_take (i := 0) (oi := _) (v := .slice (some ⟨B5, 0, none⟩) 12 12) rfl (by kernel_rfl) (by kernel_rfl) (by kernel_rfl) (fun _ _ _ h => h) (Or.inl ⟨by rfl, fun w' hSw => by obtain ⟨y0, y1⟩ := hSw; go_simp⟩) hHeld ?_
   first | simp only [Act.put, List.getElem_toArray, List.getElem_cons_zero, List.getElem_cons_succ, List.setIfInBounds_toArray, List.set_cons_zero, List.set_cons_succ] | skip
   refine wpAnyH_take (i := 1) (oi := _) (v := .int .i64 (P : Int)) rfl (by kernel_rfl) (by kernel_rfl) (by kernel_rfl) (fun _ _ _ h => h) (Or.inl ⟨by rfl, fun w' hSw => by obtain ⟨y0, y1⟩ := hSw; go_simp⟩) hHeld ?_
   first | simp only [Act.put, List.getElem_toArray, List.getElem_cons_zero, List.getElem_cons_succ, List.setIfInBounds_toArray, List.set_cons_zero, List.set_cons_succ] | skip
   refine wpAnyH_take (i := 2) (oi := _) (v := .pointer (some ⟨B5, P, none⟩)) rfl (by kernel_rfl) (by kernel_rfl) (by kernel_rfl) (fun _ _ _ h => h) (Or.inl ⟨by rfl, fun w' hSw => by obtain ⟨y0, y1⟩ := hSw; go_simp⟩) hHeld ?_
   first | simp only [Act.put, List.getElem_toArray, List.getElem_cons_zero, List.getElem_cons_succ, List.setIfInBounds_toArray, List.set_cons_zero, List.set_cons_succ] | skip
   refine wpAnyH_take (i := 3) (oi := _) (v := .string a) rfl (by kernel_rfl) (by kernel_rfl) (by kernel_rfl) (fun _ _ _ h => h) (Or.inl ⟨by rfl, fun w' hSw => by obtain ⟨y0, y1⟩ := hSw; go_simp⟩) hHeld ?_
   first | simp only [Act.put, List.getElem_toArray, List.getElem_cons_zero, List.getElem_cons_succ, List.setIfInBounds_toArray, List.set_cons_zero, List.set_cons_succ] | skip
   refine wpAnyH_take (i := 4) (oi := _) (v := .string (⟨#[118, 32, 61, 32, 97, 32]⟩ ++ a)) rfl (by kernel_rfl) (by kernel_rfl) (by kernel_rfl) (fun _ _ _ h => h) (Or.inl ⟨by rfl, fun w' hSw => by obtain ⟨y0, y1⟩ := hSw; go_simp⟩) hHeld ?_
   first | simp only [Act.put, List.getElem_toArray, List.getElem_cons_zero, List.getElem_cons_succ, List.setIfInBounds_toArray, List.set_cons_zero, List.set_cons_succ] | skip
   refine wpAnyH_take (i := 5) (oi := _) (v := .string (⟨#[118, 32, 61, 32, 97, 32]⟩ ++ a ++ ⟨#[32, 98, 32]⟩)) rfl (by kernel_rfl) (by kernel_rfl) (by kernel_rfl) (fun _ _ _ h => h) (Or.inl ⟨by rfl, fun w' hSw => by obtain ⟨y0, y1⟩ := hSw; go_simp⟩) hHeld ?_
   first | simp only [Act.put, List.getElem_toArray, List.getElem_cons_zero, List.getElem_cons_succ, List.setIfInBounds_toArray, List.set_cons_zero, List.set_cons_succ] | skip
   refine wpAnyH_take (i := 6) (oi := _) (v := .slice (some ⟨B5, 0, none⟩) 12 12) rfl (by kernel_rfl) (by kernel_rfl) (by kernel_rfl) (fun _ _ _ h => h) (Or.inl ⟨by rfl, fun w' hSw => by obtain ⟨y0, y1⟩ := hSw; go_simp⟩) hHeld ?_
   first | simp only [Act.put, List.getElem_toArray, List.getElem_cons_zero, List.getElem_cons_succ, List.setIfInBounds_toArray, List.set_cons_zero, List.set_cons_succ] | skip
   refine wpAnyH_take (i := 7) (oi := _) (v := .int .i64 (Q : Int)) rfl (by kernel_rfl) (by kernel_rfl) (by kernel_rfl) (fun _ _ _ h => h) (Or.inl ⟨by rfl, fun w' hSw => by obtain ⟨y0, y1⟩ := hSw; go_simp⟩) hHeld ?_
   first | simp only [Act.put, List.getElem_toArray, List.getElem_cons_zero, List.getElem_cons_succ, List.setIfInBounds_toArray, List.set_cons_zero, List.set_cons_succ] | skip
   refine wpAnyH_take (i := 8) (oi := _) (v := .pointer (some ⟨B5, Q, none⟩)) rfl (by kernel_rfl) (by kernel_rfl) (by kernel_rfl) (fun _ _ _ h => h) (Or.inl ⟨by rfl, fun w' hSw => by obtain ⟨y0, y1⟩ := hSw; go_simp⟩) hHeld ?_
   first | simp only [Act.put, List.getElem_toArray, List.getElem_cons_zero, List.getElem_cons_succ, List.setIfInBounds_toArray, List.set_cons_zero, List.set_cons_succ] | skip
   refine wpAnyH_take (i := 9) (oi := _) (v := .string b) rfl (by kernel_rfl) (by kernel_rfl) (by kernel_rfl) (fun _ _ _ h => h) (Or.inl ⟨by rfl, fun w' hSw => by obtain ⟨y0, y1⟩ := hSw; go_simp⟩) hHeld ?_
   first | simp only [Act.put, List.getElem_toArray, List.getElem_cons_zero, List.getElem_cons_succ, List.setIfInBounds_toArray, List.set_cons_zero, List.set_cons_succ] | skip
   refine wpAnyH_take (i := 10) (oi := _) (v := .string (⟨#[118, 32, 61, 32, 97, 32]⟩ ++ a ++ ⟨#[32, 98, 32]⟩ ++ b)) rfl (by kernel_rfl) (by kernel_rfl) (by kernel_rfl) (fun _ _ _ h => h) (Or.inl ⟨by rfl, fun w' hSw => by obtain ⟨y0, y1⟩ := hSw; go_simp⟩) hHeld ?_
   first | simp only [Act.put, List.getElem_toArray, List.getElem_cons_zero, List.getElem_cons_succ, List.setIfInBounds_toArray, List.set_cons_zero, List.set_cons_succ] | skip
   refine wpAnyH_take (i := 11) (oi := _) (v := .string (⟨#[118, 32, 61, 32, 97, 32]⟩ ++ a ++ ⟨#[32, 98, 32]⟩ ++ b ++ ⟨#[32, 99, 59]⟩)) rfl (by kernel_rfl) (by kernel_rfl) (by kernel_rfl) (fun _ _ _ h => h) (Or.inl ⟨by rfl, fun w' hSw => by obtain ⟨y0, y1⟩ := hSw; go_simp⟩) hHeld ?_
   first | simp only [Act.put, List.getElem_toArray, List.getElem_cons_zero, List.getElem_cons_succ, List.setIfInBounds_toArray, List.set_cons_zero, List.set_cons_succ] | skip
   refine wpAnyH_ready (rs := [12, 17]) (by kernel_rfl) (by simp) (AllReadyH.cons (o := _) rfl (fun K hK => ?_) (AllReadyH.cons (o := _) rfl (fun K hK => ?_) AllReadyH.nil))
   · skip
     go_simp
     refine (kP _ cc.drew).mono ?_
     rintro e v1 ⟨wo, wc, xo, xc, rfl, g, hT⟩
     go_wp2_with fail
     have c1 := pb_call (show Below X0.heap.size X0 _ from cc.drew) g
     refine hK.out _ _ (hall _ c1) (fun hHeld2 => ?_)
     clear hK K hHeld
     first | simp only [Act.put, List.getElem_toArray, List.getElem_cons_zero, List.getElem_cons_succ, List.setIfInBounds_toArray, List.set_cons_zero, List.set_cons_succ] | skip
     refine wpAnyH_take (i := 13) (oi := _) (v := .tuple #[.agg #[.slice wo 0 wc, .slice xo 1 xc], .int .i64 0, .int .i64 0]) rfl (by kernel_rfl) (by kernel_rfl) (by kernel_rfl) (fun _ _ _ h => h) (Or.inl ⟨by rfl, fun w' hSw => by obtain ⟨y0, y1⟩ := hSw; go_simp⟩) hHeld2 ?_
     first | simp only [Act.put, List.getElem_toArray, List.getElem_cons_zero, List.getElem_cons_succ, List.setIfInBounds_toArray, List.set_cons_zero, List.set_cons_succ] | skip
     refine wpAnyH_take (i := 14) (oi := _) (v := .agg #[.slice wo 0 wc, .slice xo 1 xc]) rfl (by kernel_rfl) (by kernel_rfl) (by kernel_rfl) (fun _ _ _ h => h) (Or.inl ⟨by rfl, fun w' hSw => by obtain ⟨y0, y1⟩ := hSw; go_simp⟩) hHeld2 ?_
     first | simp only [Act.put, List.getElem_toArray, List.getElem_cons_zero, List.getElem_cons_succ, List.setIfInBounds_toArray, List.set_cons_zero, List.set_cons_succ] | skip
     refine wpAnyH_take (i := 15) (oi := _) (v := .int .i64 0) rfl (by kernel_rfl) (by kernel_rfl) (by kernel_rfl) (fun _ _ _ h => h) (Or.inl ⟨by rfl, fun w' hSw => by obtain ⟨y0, y1⟩ := hSw; go_simp⟩) hHeld2 ?_
     first | simp only [Act.put, List.getElem_toArray, List.getElem_cons_zero, List.getElem_cons_succ, List.setIfInBounds_toArray, List.set_cons_zero, List.set_cons_succ] | skip
     refine wpAnyH_take (i := 16) (oi := _) (v := .int .i64 0) rfl (by kernel_rfl) (by kernel_rfl) (by kernel_rfl) (fun _ _ _ h => h) (Or.inl ⟨by rfl, fun w' hSw => by obtain ⟨y0, y1⟩ := hSw; go_simp⟩) hHeld2 ?_
     first | simp only [Act.put, List.getElem_toArray, List.getElem_cons_zero, List.getElem_cons_succ, List.setIfInBounds_toArray, List.set_cons_zero, List.set_cons_succ] | skip
     refine wpAnyH_ready (rs := [17]) (by kernel_rfl) (by simp) (AllReadyH.cons (o := _) rfl (fun K hK => ?_) AllReadyH.nil)
     go_simp
     have g2 := pb_new (Below.refl v1.heap.size v1) (.cells #[.slice none 0 0, .slice none 0 0] 25)
     refine hK.out _ _ (hall _ (pb_call c1 g2)) (fun hHeld3 => ?_)
     clear hK K hHeld2
     first | simp only [Act.put, List.getElem_toArray, List.getElem_cons_zero, List.getElem_cons_succ, List.setIfInBounds_toArray, List.set_cons_zero, List.set_cons_succ] | skip
     have qb := World.alloc_heap_new v1 (.cells #[.slice none 0 0, .slice none 0 0] 25)
     obtain ⟨V2, hV2⟩ : ∃ V, v1.alloc (.cells #[.slice none 0 0, .slice none 0 0] 25) = V := ⟨_, rfl⟩
     obtain ⟨bb, hb⟩ : ∃ b, v1.heap.size = b := ⟨_, rfl⟩
     have hbb : X0.heap.size ≤ bb := by rw [← hb]; exact c1.size
     rw [hV2] at g2 qb hHeld3 ⊢
     rw [hb] at qb ⊢
     obtain ⟨f0, f1, ff⟩ := two_cells qb
     have g9 : Below v1.heap.size v1 ((V2.setCell ⟨bb, 0, none⟩ (.slice wo 0 wc)).setCell ⟨bb, 1, none⟩ (.slice xo 1 xc)) := (g2.setCell (p := ⟨bb, 0, none⟩) (Nat.le_of_eq hb) _).setCell (p := ⟨bb, 1, none⟩) (Nat.le_of_eq hb) _
     have c3 := pb_call c1 g9
     have hT3 := hT.kp (Below.kp g9 _)
     obtain ⟨e0, e1⟩ := two_set qb (.slice wo 0 wc) (.slice xo 1 xc)
     clear hT g9 qb hV2 hb g2 c1 g
     refine wpAnyH_ready (rs := [18]) (by kernel_rfl) (by simp) (AllReadyH.cons (o := _) rfl (fun K hK => ?_) AllReadyH.nil)
     go_simp
     refine hK.out _ _ (hall _ c3) (fun hHeld4 => ?_)
     clear hK K
     first | simp only [Act.put, List.getElem_toArray, List.getElem_cons_zero, List.getElem_cons_succ, List.setIfInBounds_toArray, List.set_cons_zero, List.set_cons_succ] | skip
     refine wpAnyH_take (i := 19) (oi := _) (v := .int .i64 0) rfl (by kernel_rfl) (by kernel_rfl) (by kernel_rfl) (fun _ _ _ h => h) (Or.inl ⟨by rfl, fun w' hSw => by obtain ⟨y0, y1⟩ := hSw; go_simp⟩) hHeld4 ?_
     first | simp only [Act.put, List.getElem_toArray, List.getElem_cons_zero, List.getElem_cons_succ, List.setIfInBounds_toArray, List.set_cons_zero, List.set_cons_succ] | skip
     refine wpAnyH_take (i := 20) (oi := _) (v := .int .i64 0) rfl (by kernel_rfl) (by kernel_rfl) (by kernel_rfl) (fun _ _ _ h => h) (Or.inl ⟨by rfl, fun w' hSw => by obtain ⟨y0, y1⟩ := hSw; go_simp⟩) hHeld4 ?_
     first | simp only [Act.put, List.getElem_toArray, List.getElem_cons_zero, List.getElem_cons_succ, List.setIfInBounds_toArray, List.set_cons_zero, List.set_cons_succ] | skip
     refine wpAnyH_done (by kernel_rfl) ?_ _
     go_wp2_with fail
     go_meet
     exact ⟨bb, wo, wc, xo, xc, _, rfl, rfl, rfl, hbb, e0, e1, hT3, c3⟩
   · skip
     go_simp
     have g2 := pb_new (Below.refl X0.heap.size X0) (.cells #[.slice none 0 0, .slice none 0 0] 25)
     refine hK.out _ _ (hall _ g2.drew) (fun hHeld3 => ?_)
     clear hK K
     first | simp only [Act.put, List.getElem_toArray, List.getElem_cons_zero, List.getElem_cons_succ, List.setIfInBounds_toArray, List.set_cons_zero, List.set_cons_succ] | skip
     have qb := World.alloc_heap_new X0 (.cells #[.slice none 0 0, .slice none 0 0] 25)
     have sA : (X0.alloc (.cells #[.slice none 0 0, .slice none 0 0] 25)).heap.size = X0.heap.size + 1 := by simp [go_sem]
     obtain ⟨A, hA⟩ : ∃ V, (X0.alloc (.cells #[.slice none 0 0, .slice none 0 0] 25)).drew = V := ⟨_, rfl⟩
     have cA : Below X0.heap.size X0 A := by rw [← hA]; exact g2.drew
     have qA : A.heap[X0.heap.size]? = some (.cells #[.slice none 0 0, .slice none 0 0] 25 (0, 0)) := by rw [← hA]; exact qb
     have zA : A.heap.size = X0.heap.size + 1 := by rw [← hA]; exact sA
     obtain ⟨bb, hb⟩ : ∃ b, X0.heap.size = b := ⟨_, rfl⟩
     have hbb : X0.heap.size ≤ bb := Nat.le_of_eq hb
     rw [hA] at hHeld3 ⊢
     rw [hb] at qA zA ⊢
     clear qb sA g2 hA
     refine wpAnyH_ready (rs := [12]) (by kernel_rfl) (by simp) (AllReadyH.cons (o := _) rfl (fun K hK => ?_) AllReadyH.nil)
     go_simp
     refine (kP _ cA).mono ?_
     rintro e v1 ⟨wo, wc, xo, xc, rfl, g, hT⟩
     go_wp2_with fail
     have c1 := pb_call (show Below X0.heap.size X0 _ from cA) g
     refine hK.out _ _ (hall _ c1) (fun hHeld2 => ?_)
     clear hK K hHeld
     first | simp only [Act.put, List.getElem_toArray, List.getElem_cons_zero, List.getElem_cons_succ, List.setIfInBounds_toArray, List.set_cons_zero, List.set_cons_succ] | skip
     refine wpAnyH_take (i := 13) (oi := _) (v := .tuple #[.agg #[.slice wo 0 wc, .slice xo 1 xc], .int .i64 0, .int .i64 0]) rfl (by kernel_rfl) (by kernel_rfl) (by kernel_rfl) (fun _ _ _ h => h) (Or.inl ⟨by rfl, fun w' hSw => by obtain ⟨y0, y1⟩ := hSw; go_simp⟩) hHeld2 ?_
     first | simp only [Act.put, List.getElem_toArray, List.getElem_cons_zero, List.getElem_cons_succ, List.setIfInBounds_toArray, List.set_cons_zero, List.set_cons_succ] | skip
     refine wpAnyH_take (i := 14) (oi := _) (v := .agg #[.slice wo 0 wc, .slice xo 1 xc]) rfl (by kernel_rfl) (by kernel_rfl) (by kernel_rfl) (fun _ _ _ h => h) (Or.inl ⟨by rfl, fun w' hSw => by obtain ⟨y0, y1⟩ := hSw; go_simp⟩) hHeld2 ?_
     first | simp only [Act.put, List.getElem_toArray, List.getElem_cons_zero, List.getElem_cons_succ, List.setIfInBounds_toArray, List.set_cons_zero, List.set_cons_succ] | skip
     refine wpAnyH_take (i := 15) (oi := _) (v := .int .i64 0) rfl (by kernel_rfl) (by kernel_rfl) (by kernel_rfl) (fun _ _ _ h => h) (Or.inl ⟨by rfl, fun w' hSw => by obtain ⟨y0, y1⟩ := hSw; go_simp⟩) hHeld2 ?_
     first | simp only [Act.put, List.getElem_toArray, List.getElem_cons_zero, List.getElem_cons_succ, List.setIfInBounds_toArray, List.set_cons_zero, List.set_cons_succ] | skip
     refine wpAnyH_take (i := 16) (oi := _) (v := .int .i64 0) rfl (by kernel_rfl) (by kernel_rfl) (by kernel_rfl) (fun _ _ _ h => h) (Or.inl ⟨by rfl, fun w' hSw => by obtain ⟨y0, y1⟩ := hSw; go_simp⟩) hHeld2 ?_
     first | simp only [Act.put, List.getElem_toArray, List.getElem_cons_zero, List.getElem_cons_succ, List.setIfInBounds_toArray, List.set_cons_zero, List.set_cons_succ] | skip
     have q1 : v1.heap[bb]? = some (.cells #[.slice none 0 0, .slice none 0 0] 25 (0, 0)) := (g.block bb (by omega)).trans qA
     obtain ⟨f0, f1, ff⟩ := two_cells q1
     have c3 : Below X0.heap.size X0 ((v1.setCell ⟨bb, 0, none⟩ (.slice wo 0 wc)).setCell ⟨bb, 1, none⟩ (.slice xo 1 xc)) := (c1.setCell (p := ⟨bb, 0, none⟩) hbb _).setCell (p := ⟨bb, 1, none⟩) hbb _
     have nb : ¬ Fr A.heap.size bb := fun h => by have h' : A.heap.size ≤ bb := h; omega
     have hT3 := (hT.kp (Kp.set (j := 0) (v := .slice wo 0 wc) nb)).kp (Kp.set (j := 1) (v := .slice xo 1 xc) nb)
     obtain ⟨e0, e1⟩ := two_set q1 (.slice wo 0 wc) (.slice xo 1 xc)
     clear hT q1 qA zA nb c1 g cA
     refine wpAnyH_ready (rs := [18]) (by kernel_rfl) (by simp) (AllReadyH.cons (o := _) rfl (fun K hK => ?_) AllReadyH.nil)
     go_simp
     refine hK.out _ _ (hall _ c3) (fun hHeld4 => ?_)
     clear hK K
     first | simp only [Act.put, List.getElem_toArray, List.getElem_cons_zero, List.getElem_cons_succ, List.setIfInBounds_toArray, List.set_cons_zero, List.set_cons_succ] | skip
     refine wpAnyH_take (i := 19) (oi := _) (v := .int .i64 0) rfl (by kernel_rfl) (by kernel_rfl) (by kernel_rfl) (fun _ _ _ h => h) (Or.inl ⟨by rfl, fun w' hSw => by obtain ⟨y0, y1⟩ := hSw; go_simp⟩) hHeld4 ?_
     first | simp only [Act.put, List.getElem_toArray, List.getElem_cons_zero, List.getElem_cons_succ, List.setIfInBounds_toArray, List.set_cons_zero, List.set_cons_succ] | skip
     refine wpAnyH_take (i := 20) (oi := _) (v := .int .i64 0) rfl (by kernel_rfl) (by kernel_rfl) (by kernel_rfl) (fun _ _ _ h => h) (Or.inl ⟨by rfl, fun w' hSw => by obtain ⟨y0, y1⟩ := hSw; go_simp⟩) hHeld4 ?_
     first | simp only [Act.put, List.getElem_toArray, List.getElem_cons_zero, List.getElem_cons_succ, List.setIfInBounds_toArray, List.set_cons_zero, List.set_cons_succ] | skip
     refine wpAnyH_done (by kernel_rfl) ?_ _
     go_wp2_with fail
     go_meet
     exact ⟨bb, wo, wc, xo, xc, _, rfl, rfl, rfl, hbb, e0, e1, hT3, c3⟩
  obtain ⟨X1, hXN⟩ : ∃ X, X = wc := ⟨_, rfl⟩
  subst hXN
  obtain ⟨bb1, wo1, wc1, xo1, xc1, S1, rfl, rfl, rfl, hb1, r10, r11, hT1, hX⟩ := hcut
  clear hall cc kP nq0 nq1 nq2 nq3
  replace cP := pb_cell hX cP
  replace cQ := pb_cell hX cQ
  replace dP := pb_cell hX dP
  replace dQ := pb_cell hX dQ
  have gX1 : Hid (Below w.heap.size w X1) := pb_call gX0.out hX
  clear hX gX0 hb1
  go_upto_region 5 with fail
  have hall : ∀ V, Below X1.heap.size X1 V → (V.cell? ⟨B5, P, none⟩ = some (.string a) ∧ V.cell? ⟨B5, Q, none⟩ = some (.string b)) := fun V g => ⟨pb_cell g cP, pb_cell g cQ⟩
  have cc : Below X1.heap.size X1 X1 := Below.refl _ _
  have kP := kOf t2 l2 hh gX1.out
  unfold tT2 at kP
  have nq0 : 7 + a.size ≤ 9223372036854775807 := by omega
  have nq1 : 7 + a.size + 4 ≤ 9223372036854775807 := by omega
  have nq2 : 7 + a.size + 4 + b.size ≤ 9223372036854775807 := by omega
  have nq3 : 7 + a.size + 4 + b.size + 3 ≤ 9223372036854775807 := by omega
  go_cut [12, 13, 14] from 43 to 59 (fun s u0 u1 X2 => ∃ bb wo wc xo xc S, s = .pointer (some ⟨bb, 0, none⟩) ∧ u0 = .int .i64 0 ∧ u1 = .int .i64 0 ∧ X1.heap.size ≤ bb ∧ X2.cell? ⟨bb, 0, none⟩ = some (.slice wo 0 wc) ∧ X2.cell? ⟨bb, 1, none⟩ = some (.slice xo 1 xc) ∧ SlS X2 S (.slice xo 1 xc) p2.2 ∧ Below X1.heap.size X1 X2)
  case first =>
   refine wp_region_held_drew (S := (fun V => V.cell? ⟨B5, P, none⟩ = some (.string a) ∧ V.cell? ⟨B5, Q, none⟩ = some (.string b))) (by kernel_rfl) (hall _ cc.drew) (fun hHeld => ?_)
   refine wpAnyH_take (i := 0) (oi := _) (v := .slice (some ⟨B5, 0, none⟩) 12 12) rfl (by kernel_rfl) (by kernel_rfl) (by kernel_rfl) (fun _ _ _ h => h) (Or.inl ⟨by rfl, fun w' hSw => by obtain ⟨y0, y1⟩ := hSw; go_simp⟩) hHeld ?_
   first | simp only [Act.put, List.getElem_toArray, List.getElem_cons_zero, List.getElem_cons_succ, List.setIfInBounds_toArray, List.set_cons_zero, List.set_cons_succ] | skip
   refine wpAnyH_take (i := 1) (oi := _) (v := .int .i64 (P : Int)) rfl (by kernel_rfl) (by kernel_rfl) (by kernel_rfl) (fun _ _ _ h => h) (Or.inl ⟨by rfl, fun w' hSw => by obtain ⟨y0, y1⟩ := hSw; go_simp⟩) hHeld ?_
   first | simp only [Act.put, List.getElem_toArray, List.getElem_cons_zero, List.getElem_cons_succ, List.setIfInBounds_toArray, List.set_cons_zero, List.set_cons_succ] | skip
   refine wpAnyH_take (i := 2) (oi := _) (v := .pointer (some ⟨B5, P, none⟩)) rfl (by kernel_rfl) (by kernel_rfl) (by kernel_rfl) (fun _ _ _ h => h) (Or.inl ⟨by rfl, fun w' hSw => by obtain ⟨y0, y1⟩ := hSw; go_simp⟩) hHeld ?_
   first | simp only [Act.put, List.getElem_toArray, List.getElem_cons_zero, List.getElem_cons_succ, List.setIfInBounds_toArray, List.set_cons_zero, List.set_cons_succ] | skip
   refine wpAnyH_take (i := 3) (oi := _) (v := .string a) rfl (by kernel_rfl) (by kernel_rfl) (by kernel_rfl) (fun _ _ _ h => h) (Or.inl ⟨by rfl, fun w' hSw => by obtain ⟨y0, y1⟩ := hSw; go_simp⟩) hHeld ?_
   first | simp only [Act.put, List.getElem_toArray, List.getElem_cons_zero, List.getElem_cons_succ, List.setIfInBounds_toArray, List.set_cons_zero, List.set_cons_succ] | skip
   refine wpAnyH_take (i := 4) (oi := _) (v := .string (⟨#[118, 32, 61, 32, 40, 97, 32]⟩ ++ a)) rfl (by kernel_rfl) (by kernel_rfl) (by kernel_rfl) (fun _ _ _ h => h) (Or.inl ⟨by rfl, fun w' hSw => by obtain ⟨y0, y1⟩ := hSw; go_simp⟩) hHeld ?_
   first | simp only [Act.put, List.getElem_toArray, List.getElem_cons_zero, List.getElem_cons_succ, List.setIfInBounds_toArray, List.set_cons_zero, List.set_cons_succ] | skip
   refine wpAnyH_take (i := 5) (oi := _) (v := .string (⟨#[118, 32, 61, 32, 40, 97, 32]⟩ ++ a ++ ⟨#[32, 98, 41, 32]⟩)) rfl (by kernel_rfl) (by kernel_rfl) (by kernel_rfl) (fun _ _ _ h => h) (Or.inl ⟨by rfl, fun w' hSw => by obtain ⟨y0, y1⟩ := hSw; go_simp⟩) hHeld ?_
   first | simp only [Act.put, List.getElem_toArray, List.getElem_cons_zero, List.getElem_cons_succ, List.setIfInBounds_toArray, List.set_cons_zero, List.set_cons_succ] | skip
   refine wpAnyH_take (i := 6) (oi := _) (v := .slice (some ⟨B5, 0, none⟩) 12 12) rfl (by kernel_rfl) (by kernel_rfl) (by kernel_rfl) (fun _ _ _ h => h) (Or.inl ⟨by rfl, fun w' hSw => by obtain ⟨y0, y1⟩ := hSw; go_simp⟩) hHeld ?_
   first | simp only [Act.put, List.getElem_toArray, List.getElem_cons_zero, List.getElem_cons_succ, List.setIfInBounds_toArray, List.set_cons_zero, List.set_cons_succ] | skip
   refine wpAnyH_take (i := 7) (oi := _) (v := .int .i64 (Q : Int)) rfl (by kernel_rfl) (by kernel_rfl) (by kernel_rfl) (fun _ _ _ h => h) (Or.inl ⟨by rfl, fun w' hSw => by obtain ⟨y0, y1⟩ := hSw; go_simp⟩) hHeld ?_
   first | simp only [Act.put, List.getElem_toArray, List.getElem_cons_zero, List.getElem_cons_succ, List.setIfInBounds_toArray, List.set_cons_zero, List.set_cons_succ] | skip
   refine wpAnyH_take (i := 8) (oi := _) (v := .pointer (some ⟨B5, Q, none⟩)) rfl (by kernel_rfl) (by kernel_rfl) (by kernel_rfl) (fun _ _ _ h => h) (Or.inl ⟨by rfl, fun w' hSw => by obtain ⟨y0, y1⟩ := hSw; go_simp⟩) hHeld ?_
   first | simp only [Act.put, List.getElem_toArray, List.getElem_cons_zero, List.getElem_cons_succ, List.setIfInBounds_toArray, List.set_cons_zero, List.set_cons_succ] | skip
   refine wpAnyH_take (i := 9) (oi := _) (v := .string b) rfl (by kernel_rfl) (by kernel_rfl) (by kernel_rfl) (fun _ _ _ h => h) (Or.inl ⟨by rfl, fun w' hSw => by obtain ⟨y0, y1⟩ := hSw; go_simp⟩) hHeld ?_
   first | simp only [Act.put, List.getElem_toArray, List.getElem_cons_zero, List.getElem_cons_succ, List.setIfInBounds_toArray, List.set_cons_zero, List.set_cons_succ] | skip
   refine wpAnyH_take (i := 10) (oi := _) (v := .string (⟨#[118, 32, 61, 32, 40, 97, 32]⟩ ++ a ++ ⟨#[32, 98, 41, 32]⟩ ++ b)) rfl (by kernel_rfl) (by kernel_rfl) (by kernel_rfl) (fun _ _ _ h => h) (Or.inl ⟨by rfl, fun w' hSw => by obtain ⟨y0, y1⟩ := hSw; go_simp⟩) hHeld ?_
   first | simp only [Act.put, List.getElem_toArray, List.getElem_cons_zero, List.getElem_cons_succ, List.setIfInBounds_toArray, List.set_cons_zero, List.set_cons_succ] | skip
   refine wpAnyH_take (i := 11) (oi := _) (v := .string (⟨#[118, 32, 61, 32, 40, 97, 32]⟩ ++ a ++ ⟨#[32, 98, 41, 32]⟩ ++ b ++ ⟨#[32, 99, 59]⟩)) rfl (by kernel_rfl) (by kernel_rfl) (by kernel_rfl) (fun _ _ _ h => h) (Or.inl ⟨by rfl, fun w' hSw => by obtain ⟨y0, y1⟩ := hSw; go_simp⟩) hHeld ?_
   first | simp only [Act.put, List.getElem_toArray, List.getElem_cons_zero, List.getElem_cons_succ, List.setIfInBounds_toArray, List.set_cons_zero, List.set_cons_succ] | skip
   refine wpAnyH_ready (rs := [12, 17]) (by kernel_rfl) (by simp) (AllReadyH.cons (o := _) rfl (fun K hK => ?_) (AllReadyH.cons (o := _) rfl (fun K hK => ?_) AllReadyH.nil))
   · skip
     go_simp
     refine (kP _ cc.drew).mono ?_
     rintro e v1 ⟨wo, wc, xo, xc, rfl, g, hT⟩
     go_wp2_with fail
     have c1 := pb_call (show Below X1.heap.size X1 _ from cc.drew) g
     refine hK.out _ _ (hall _ c1) (fun hHeld2 => ?_)
     clear hK K hHeld
     first | simp only [Act.put, List.getElem_toArray, List.getElem_cons_zero, List.getElem_cons_succ, List.setIfInBounds_toArray, List.set_cons_zero, List.set_cons_succ] | skip
     refine wpAnyH_take (i := 13) (oi := _) (v := .tuple #[.agg #[.slice wo 0 wc, .slice xo 1 xc], .int .i64 0, .int .i64 0]) rfl (by kernel_rfl) (by kernel_rfl) (by kernel_rfl) (fun _ _ _ h => h) (Or.inl ⟨by rfl, fun w' hSw => by obtain ⟨y0, y1⟩ := hSw; go_simp⟩) hHeld2 ?_
     first | simp only [Act.put, List.getElem_toArray, List.getElem_cons_zero, List.getElem_cons_succ, List.setIfInBounds_toArray, List.set_cons_zero, List.set_cons_succ] | skip
     refine wpAnyH_take (i := 14) (oi := _) (v := .agg #[.slice wo 0 wc, .slice xo 1 xc]) rfl (by kernel_rfl) (by kernel_rfl) (by kernel_rfl) (fun _ _ _ h => h) (Or.inl ⟨by rfl, fun w' hSw => by obtain ⟨y0, y1⟩ := hSw; go_simp⟩) hHeld2 ?_
     first | simp only [Act.put, List.getElem_toArray, List.getElem_cons_zero, List.getElem_cons_succ, List.setIfInBounds_toArray, List.set_cons_zero, List.set_cons_succ] | skip
     refine wpAnyH_take (i := 15) (oi := _) (v := .int .i64 0) rfl (by kernel_rfl) (by kernel_rfl) (by kernel_rfl) (fun _ _ _ h => h) (Or.inl ⟨by rfl, fun w' hSw => by obtain ⟨y0, y1⟩ := hSw; go_simp⟩) hHeld2 ?_
     first | simp only [Act.put, List.getElem_toArray, List.getElem_cons_zero, List.getElem_cons_succ, List.setIfInBounds_toArray, List.set_cons_zero, List.set_cons_succ] | skip
     refine wpAnyH_take (i := 16) (oi := _) (v := .int .i64 0) rfl (by kernel_rfl) (by kernel_rfl) (by kernel_rfl) (fun _ _ _ h => h) (Or.inl ⟨by rfl, fun w' hSw => by obtain ⟨y0, y1⟩ := hSw; go_simp⟩) hHeld2 ?_
     first | simp only [Act.put, List.getElem_toArray, List.getElem_cons_zero, List.getElem_cons_succ, List.setIfInBounds_toArray, List.set_cons_zero, List.set_cons_succ] | skip
     refine wpAnyH_ready (rs := [17]) (by kernel_rfl) (by simp) (AllReadyH.cons (o := _) rfl (fun K hK => ?_) AllReadyH.nil)
     go_simp
     have g2 := pb_new (Below.refl v1.heap.size v1) (.cells #[.slice none 0 0, .slice none 0 0] 25)
     refine hK.out _ _ (hall _ (pb_call c1 g2)) (fun hHeld3 => ?_)
     clear hK K hHeld2
     first | simp only [Act.put, List.getElem_toArray, List.getElem_cons_zero, List.getElem_cons_succ, List.setIfInBounds_toArray, List.set_cons_zero, List.set_cons_succ] | skip
     have qb := World.alloc_heap_new v1 (.cells #[.slice none 0 0, .slice none 0 0] 25)
     obtain ⟨V2, hV2⟩ : ∃ V, v1.alloc (.cells #[.slice none 0 0, .slice none 0 0] 25) = V := ⟨_, rfl⟩
     obtain ⟨bb, hb⟩ : ∃ b, v1.heap.size = b := ⟨_, rfl⟩
     have hbb : X1.heap.size ≤ bb := by rw [← hb]; exact c1.size
     rw [hV2] at g2 qb hHeld3 ⊢
     rw [hb] at qb ⊢
     obtain ⟨f0, f1, ff⟩ := two_cells qb
     have g9 : Below v1.heap.size v1 ((V2.setCell ⟨bb, 0, none⟩ (.slice wo 0 wc)).setCell ⟨bb, 1, none⟩ (.slice xo 1 xc)) := (g2.setCell (p := ⟨bb, 0, none⟩) (Nat.le_of_eq hb) _).setCell (p := ⟨bb, 1, none⟩) (Nat.le_of_eq hb) _
     have c3 := pb_call c1 g9
     have hT3 := hT.kp (Below.kp g9 _)
     obtain ⟨e0, e1⟩ := two_set qb (.slice wo 0 wc) (.slice xo 1 xc)
     clear hT g9 qb hV2 hb g2 c1 g
     refine wpAnyH_ready (rs := [18]) (by kernel_rfl) (by simp) (AllReadyH.cons (o := _) rfl (fun K hK => ?_) AllReadyH.nil)
     go_simp
     refine hK.out _ _ (hall _ c3) (fun hHeld4 => ?_)
     clear hK K
     first | simp only [Act.put, List.getElem_toArray, List.getElem_cons_zero, List.getElem_cons_succ, List.setIfInBounds_toArray, List.set_cons_zero, List.set_cons_succ] | skip
     refine wpAnyH_take (i := 19) (oi := _) (v := .int .i64 0) rfl (by kernel_rfl) (by kernel_rfl) (by kernel_rfl) (fun _ _ _ h => h) (Or.inl ⟨by rfl, fun w' hSw => by obtain ⟨y0, y1⟩ := hSw; go_simp⟩) hHeld4 ?_
     first | simp only [Act.put, List.getElem_toArray, List.getElem_cons_zero, List.getElem_cons_succ, List.setIfInBounds_toArray, List.set_cons_zero, List.set_cons_succ] | skip
     refine wpAnyH_take (i := 20) (oi := _) (v := .int .i64 0) rfl (by kernel_rfl) (by kernel_rfl) (by kernel_rfl) (fun _ _ _ h => h) (Or.inl ⟨by rfl, fun w' hSw => by obtain ⟨y0, y1⟩ := hSw; go_simp⟩) hHeld4 ?_
     first | simp only [Act.put, List.getElem_toArray, List.getElem_cons_zero, List.getElem_cons_succ, List.setIfInBounds_toArray, List.set_cons_zero, List.set_cons_succ] | skip
     refine wpAnyH_done (by kernel_rfl) ?_ _
     go_wp2_with fail
     go_meet
     exact ⟨bb, wo, wc, xo, xc, _, rfl, rfl, rfl, hbb, e0, e1, hT3, c3⟩
   · skip
     go_simp
     have g2 := pb_new (Below.refl X1.heap.size X1) (.cells #[.slice none 0 0, .slice none 0 0] 25)
     refine hK.out _ _ (hall _ g2.drew) (fun hHeld3 => ?_)
     clear hK K
     first | simp only [Act.put, List.getElem_toArray, List.getElem_cons_zero, List.getElem_cons_succ, List.setIfInBounds_toArray, List.set_cons_zero, List.set_cons_succ] | skip
     have qb := World.alloc_heap_new X1 (.cells #[.slice none 0 0, .slice none 0 0] 25)
     have sA : (X1.alloc (.cells #[.slice none 0 0, .slice none 0 0] 25)).heap.size = X1.heap.size + 1 := by simp [go_sem]
     obtain ⟨A, hA⟩ : ∃ V, (X1.alloc (.cells #[.slice none 0 0, .slice none 0 0] 25)).drew = V := ⟨_, rfl⟩
     have cA : Below X1.heap.size X1 A := by rw [← hA]; exact g2.drew
     have qA : A.heap[X1.heap.size]? = some (.cells #[.slice none 0 0, .slice none 0 0] 25 (0, 0)) := by rw [← hA]; exact qb
     have zA : A.heap.size = X1.heap.size + 1 := by rw [← hA]; exact sA
     obtain ⟨bb, hb⟩ : ∃ b, X1.heap.size = b := ⟨_, rfl⟩
     have hbb : X1.heap.size ≤ bb := Nat.le_of_eq hb
     rw [hA] at hHeld3 ⊢
     rw [hb] at qA zA ⊢
     clear qb sA g2 hA
     refine wpAnyH_ready (rs := [12]) (by kernel_rfl) (by simp) (AllReadyH.cons (o := _) rfl (fun K hK => ?_) AllReadyH.nil)
     go_simp
     refine (kP _ cA).mono ?_
     rintro e v1 ⟨wo, wc, xo, xc, rfl, g, hT⟩
     go_wp2_with fail
     have c1 := pb_call (show Below X1.heap.size X1 _ from cA) g
     refine hK.out _ _ (hall _ c1) (fun hHeld2 => ?_)
     clear hK K hHeld
     first | simp only [Act.put, List.getElem_toArray, List.getElem_cons_zero, List.getElem_cons_succ, List.setIfInBounds_toArray, List.set_cons_zero, List.set_cons_succ] | skip
     refine wpAnyH_take (i := 13) (oi := _) (v := .tuple #[.agg #[.slice wo 0 wc, .slice xo 1 xc], .int .i64 0, .int .i64 0]) rfl (by kernel_rfl) (by kernel_rfl) (by kernel_rfl) (fun _ _ _ h => h) (Or.inl ⟨by rfl, fun w' hSw => by obtain ⟨y0, y1⟩ := hSw; go_simp⟩) hHeld2 ?_
     first | simp only [Act.put, List.getElem_toArray, List.getElem_cons_zero, List.getElem_cons_succ, List.setIfInBounds_toArray, List.set_cons_zero, List.set_cons_succ] | skip
     refine wpAnyH_take (i := 14) (oi := _) (v := .agg #[.slice wo 0 wc, .slice xo 1 xc]) rfl (by kernel_rfl) (by kernel_rfl) (by kernel_rfl) (fun _ _ _ h => h) (Or.inl ⟨by rfl, fun w' hSw => by obtain ⟨y0, y1⟩ := hSw; go_simp⟩) hHeld2 ?_
     first | simp only [Act.put, List.getElem_toArray, List.getElem_cons_zero, List.getElem_cons_succ, List.setIfInBounds_toArray, List.set_cons_zero, List.set_cons_succ] | skip
     refine wpAnyH_take (i := 15) (oi := _) (v := .int .i64 0) rfl (by kernel_rfl) (by kernel_rfl) (by kernel_rfl) (fun _ _ _ h => h) (Or.inl ⟨by rfl, fun w' hSw => by obtain ⟨y0, y1⟩ := hSw; go_simp⟩) hHeld2 ?_
     first | simp only [Act.put, List.getElem_toArray, List.getElem_cons_zero, List.getElem_cons_succ, List.setIfInBounds_toArray, List.set_cons_zero, List.set_cons_succ] | skip
     refine wpAnyH_take (i := 16) (oi := _) (v := .int .i64 0) rfl (by kernel_rfl) (by kernel_rfl) (by kernel_rfl) (fun _ _ _ h => h) (Or.inl ⟨by rfl, fun w' hSw => by obtain ⟨y0, y1⟩ := hSw; go_simp⟩) hHeld2 ?_
     first | simp only [Act.put, List.getElem_toArray, List.getElem_cons_zero, List.getElem_cons_succ, List.setIfInBounds_toArray, List.set_cons_zero, List.set_cons_succ] | skip
     have q1 : v1.heap[bb]? = some (.cells #[.slice none 0 0, .slice none 0 0] 25 (0, 0)) := (g.block bb (by omega)).trans qA
     obtain ⟨f0, f1, ff⟩ := two_cells q1
     have c3 : Below X1.heap.size X1 ((v1.setCell ⟨bb, 0, none⟩ (.slice wo 0 wc)).setCell ⟨bb, 1, none⟩ (.slice xo 1 xc)) := (c1.setCell (p := ⟨bb, 0, none⟩) hbb _).setCell (p := ⟨bb, 1, none⟩) hbb _
     have nb : ¬ Fr A.heap.size bb := fun h => by have h' : A.heap.size ≤ bb := h; omega
     have hT3 := (hT.kp (Kp.set (j := 0) (v := .slice wo 0 wc) nb)).kp (Kp.set (j := 1) (v := .slice xo 1 xc) nb)
     obtain ⟨e0, e1⟩ := two_set q1 (.slice wo 0 wc) (.slice xo 1 xc)
     clear hT q1 qA zA nb c1 g cA
     refine wpAnyH_ready (rs := [18]) (by kernel_rfl) (by simp) (AllReadyH.cons (o := _) rfl (fun K hK => ?_) AllReadyH.nil)
     go_simp
     refine hK.out _ _ (hall _ c3) (fun hHeld4 => ?_)
     clear hK K
     first | simp only [Act.put, List.getElem_toArray, List.getElem_cons_zero, List.getElem_cons_succ, List.setIfInBounds_toArray, List.set_cons_zero, List.set_cons_succ] | skip
     refine wpAnyH_take (i := 19) (oi := _) (v := .int .i64 0) rfl (by kernel_rfl) (by kernel_rfl) (by kernel_rfl) (fun _ _ _ h => h) (Or.inl ⟨by rfl, fun w' hSw => by obtain ⟨y0, y1⟩ := hSw; go_simp⟩) hHeld4 ?_
     first | simp only [Act.put, List.getElem_toArray, List.getElem_cons_zero, List.getElem_cons_succ, List.setIfInBounds_toArray, List.set_cons_zero, List.set_cons_succ] | skip
     refine wpAnyH_take (i := 20) (oi := _) (v := .int .i64 0) rfl (by kernel_rfl) (by kernel_rfl) (by kernel_rfl) (fun _ _ _ h => h) (Or.inl ⟨by rfl, fun w' hSw => by obtain ⟨y0, y1⟩ := hSw; go_simp⟩) hHeld4 ?_
     first | simp only [Act.put, List.getElem_toArray, List.getElem_cons_zero, List.getElem_cons_succ, List.setIfInBounds_toArray, List.set_cons_zero, List.set_cons_succ] | skip
     refine wpAnyH_done (by kernel_rfl) ?_ _
     go_wp2_with fail
     go_meet
     exact ⟨bb, wo, wc, xo, xc, _, rfl, rfl, rfl, hbb, e0, e1, hT3, c3⟩
  obtain ⟨X2, hXN⟩ : ∃ X, X = wc := ⟨_, rfl⟩
  subst hXN
  obtain ⟨bb2, wo2, wc2, xo2, xc2, S2, rfl, rfl, rfl, hb2, r20, r21, hT2, hX⟩ := hcut
  clear hall cc kP nq0 nq1 nq2 nq3
  replace cP := pb_cell hX cP
  replace cQ := pb_cell hX cQ
  replace dP := pb_cell hX dP
  replace dQ := pb_cell hX dQ
  have gX2 : Hid (Below w.heap.size w X2) := pb_call gX1.out hX
  replace r10 := pb_cell hX r10
  replace r11 := pb_cell hX r11
  replace hT1 := hT1.kp (Below.kp hX _)
  clear hX gX1 hb2
  go_upto_region 6 with fail
  have hall : ∀ V, Below X2.heap.size X2 V → (V.cell? ⟨B5, P, none⟩ = some (.string a) ∧ V.cell? ⟨B5, Q, none⟩ = some (.string b)) := fun V g => ⟨pb_cell g cP, pb_cell g cQ⟩
  have cc : Below X2.heap.size X2 X2 := Below.refl _ _
  have kP := kOf t3 l3 hh gX2.out
  unfold tT3 at kP
  have nq0 : 6 + a.size ≤ 9223372036854775807 := by omega
  have nq1 : 6 + a.size + 4 ≤ 9223372036854775807 := by omega
  have nq2 : 6 + a.size + 4 + b.size ≤ 9223372036854775807 := by omega
  have nq3 : 6 + a.size + 4 + b.size + 4 ≤ 9223372036854775807 := by omega
  go_cut [15, 16, 17] from 60 to 76 (fun s u0 u1 X3 => ∃ bb wo wc xo xc S, s = .pointer (some ⟨bb, 0, none⟩) ∧ u0 = .int .i64 0 ∧ u1 = .int .i64 0 ∧ X2.heap.size ≤ bb ∧ X3.cell? ⟨bb, 0, none⟩ = some (.slice wo 0 wc) ∧ X3.cell? ⟨bb, 1, none⟩ = some (.slice xo 1 xc) ∧ SlS X3 S (.slice xo 1 xc) p3.2 ∧ Below X2.heap.size X2 X3)
  case first =>
   refine wp_region_held_drew (S := (fun V => V.cell? ⟨B5, P, none⟩ = some (.string a) ∧ V.cell? ⟨B5, Q, none⟩ = some (.string b))) (by kernel_rfl) (hall _ cc.drew) (fun hHeld => ?_)
   refine wpAnyH_take (i := 0) (oi := _) (v := .slice (some ⟨B5, 0, none⟩) 12 12) rfl (by kernel_rfl) (by kernel_rfl) (by kernel_rfl) (fun _ _ _ h => h) (Or.inl ⟨by rfl, fun w' hSw => by obtain ⟨y0, y1⟩ := hSw; go_simp⟩) hHeld ?_
   first | simp only [Act.put, List.getElem_toArray, List.getElem_cons_zero, List.getElem_cons_succ, List.setIfInBounds_toArray, List.set_cons_zero, List.set_cons_succ] | skip
   refine wpAnyH_take (i := 1) (oi := _) (v := .int .i64 (P : Int)) rfl (by kernel_rfl) (by kernel_rfl) (by kernel_rfl) (fun _ _ _ h => h) (Or.inl ⟨by rfl, fun w' hSw => by obtain ⟨y0, y1⟩ := hSw; go_simp⟩) hHeld ?_
   first | simp only [Act.put, List.getElem_toArray, List.getElem_cons_zero, List.getElem_cons_succ, List.setIfInBounds_toArray, List.set_cons_zero, List.set_cons_succ] | skip
   refine wpAnyH_take (i := 2) (oi := _) (v := .pointer (some ⟨B5, P, none⟩)) rfl (by kernel_rfl) (by kernel_rfl) (by kernel_rfl) (fun _ _ _ h => h) (Or.inl ⟨by rfl, fun w' hSw => by obtain ⟨y0, y1⟩ := hSw; go_simp⟩) hHeld ?_
   first | simp only [Act.put, List.getElem_toArray, List.getElem_cons_zero, List.getElem_cons_succ, List.setIfInBounds_toArray, List.set_cons_zero, List.set_cons_succ] | skip
   refine wpAnyH_take (i := 3) (oi := _) (v := .string a) rfl (by kernel_rfl) (by kernel_rfl) (by kernel_rfl) (fun _ _ _ h => h) (Or.inl ⟨by rfl, fun w' hSw => by obtain ⟨y0, y1⟩ := hSw; go_simp⟩) hHeld ?_
   first | simp only [Act.put, List.getElem_toArray, List.getElem_cons_zero, List.getElem_cons_succ, List.setIfInBounds_toArray, List.set_cons_zero, List.set_cons_succ] | skip
   refine wpAnyH_take (i := 4) (oi := _) (v := .string (⟨#[118, 32, 61, 32, 97, 32]⟩ ++ a)) rfl (by kernel_rfl) (by kernel_rfl) (by kernel_rfl) (fun _ _ _ h => h) (Or.inl ⟨by rfl, fun w' hSw => by obtain ⟨y0, y1⟩ := hSw; go_simp⟩) hHeld ?_
   first | simp only [Act.put, List.getElem_toArray, List.getElem_cons_zero, List.getElem_cons_succ, List.setIfInBounds_toArray, List.set_cons_zero, List.set_cons_succ] | skip
   refine wpAnyH_take (i := 5) (oi := _) (v := .string (⟨#[118, 32, 61, 32, 97, 32]⟩ ++ a ++ ⟨#[32, 40, 98, 32]⟩)) rfl (by kernel_rfl) (by kernel_rfl) (by kernel_rfl) (fun _ _ _ h => h) (Or.inl ⟨by rfl, fun w' hSw => by obtain ⟨y0, y1⟩ := hSw; go_simp⟩) hHeld ?_
   first | simp only [Act.put, List.getElem_toArray, List.getElem_cons_zero, List.getElem_cons_succ, List.setIfInBounds_toArray, List.set_cons_zero, List.set_cons_succ] | skip
   refine wpAnyH_take (i := 6) (oi := _) (v := .slice (some ⟨B5, 0, none⟩) 12 12) rfl (by kernel_rfl) (by kernel_rfl) (by kernel_rfl) (fun _ _ _ h => h) (Or.inl ⟨by rfl, fun w' hSw => by obtain ⟨y0, y1⟩ := hSw; go_simp⟩) hHeld ?_
   first | simp only [Act.put, List.getElem_toArray, List.getElem_cons_zero, List.getElem_cons_succ, List.setIfInBounds_toArray, List.set_cons_zero, List.set_cons_succ] | skip
   refine wpAnyH_take (i := 7) (oi := _) (v := .int .i64 (Q : Int)) rfl (by kernel_rfl) (by kernel_rfl) (by kernel_rfl) (fun _ _ _ h => h) (Or.inl ⟨by rfl, fun w' hSw => by obtain ⟨y0, y1⟩ := hSw; go_simp⟩) hHeld ?_
   first | simp only [Act.put, List.getElem_toArray, List.getElem_cons_zero, List.getElem_cons_succ, List.setIfInBounds_toArray, List.set_cons_zero, List.set_cons_succ] | skip
   refine wpAnyH_take (i := 8) (oi := _) (v := .pointer (some ⟨B5, Q, none⟩)) rfl (by kernel_rfl) (by kernel_rfl) (by kernel_rfl) (fun _ _ _ h => h) (Or.inl ⟨by rfl, fun w' hSw => by obtain ⟨y0, y1⟩ := hSw; go_simp⟩) hHeld ?_
   first | simp only [Act.put, List.getElem_toArray, List.getElem_cons_zero, List.getElem_cons_succ, List.setIfInBounds_toArray, List.set_cons_zero, List.set_cons_succ] | skip
   refine wpAnyH_take (i := 9) (oi := _) (v := .string b) rfl (by kernel_rfl) (by kernel_rfl) (by kernel_rfl) (fun _ _ _ h => h) (Or.inl ⟨by rfl, fun w' hSw => by obtain ⟨y0, y1⟩ := hSw; go_simp⟩) hHeld ?_
   first | simp only [Act.put, List.getElem_toArray, List.getElem_cons_zero, List.getElem_cons_succ, List.setIfInBounds_toArray, List.set_cons_zero, List.set_cons_succ] | skip
   refine wpAnyH_take (i := 10) (oi := _) (v := .string (⟨#[118, 32, 61, 32, 97, 32]⟩ ++ a ++ ⟨#[32, 40, 98, 32]⟩ ++ b)) rfl (by kernel_rfl) (by kernel_rfl) (by kernel_rfl) (fun _ _ _ h => h) (Or.inl ⟨by rfl, fun w' hSw => by obtain ⟨y0, y1⟩ := hSw; go_simp⟩) hHeld ?_
   first | simp only [Act.put, List.getElem_toArray, List.getElem_cons_zero, List.getElem_cons_succ, List.setIfInBounds_toArray, List.set_cons_zero, List.set_cons_succ] | skip
   refine wpAnyH_take (i := 11) (oi := _) (v := .string (⟨#[118, 32, 61, 32, 97, 32]⟩ ++ a ++ ⟨#[32, 40, 98, 32]⟩ ++ b ++ ⟨#[32, 99, 41, 59]⟩)) rfl (by kernel_rfl) (by kernel_rfl) (by kernel_rfl) (fun _ _ _ h => h) (Or.inl ⟨by rfl, fun w' hSw => by obtain ⟨y0, y1⟩ := hSw; go_simp⟩) hHeld ?_
   first | simp only [Act.put, List.getElem_toArray, List.getElem_cons_zero, List.getElem_cons_succ, List.setIfInBounds_toArray, List.set_cons_zero, List.set_cons_succ] | skip
   refine wpAnyH_ready (rs := [12, 17]) (by kernel_rfl) (by simp) (AllReadyH.cons (o := _) rfl (fun K hK => ?_) (AllReadyH.cons (o := _) rfl (fun K hK => ?_) AllReadyH.nil))
   · skip
     go_simp
     refine (kP _ cc.drew).mono ?_
     rintro e v1 ⟨wo, wc, xo, xc, rfl, g, hT⟩
     go_wp2_with fail
     have c1 := pb_call (show Below X2.heap.size X2 _ from cc.drew) g
     refine hK.out _ _ (hall _ c1) (fun hHeld2 => ?_)
     clear hK K hHeld
     first | simp only [Act.put, List.getElem_toArray, List.getElem_cons_zero, List.getElem_cons_succ, List.setIfInBounds_toArray, List.set_cons_zero, List.set_cons_succ] | skip
     refine wpAnyH_take (i := 13) (oi := _) (v := .tuple #[.agg #[.slice wo 0 wc, .slice xo 1 xc], .int .i64 0, .int .i64 0]) rfl (by kernel_rfl) (by kernel_rfl) (by kernel_rfl) (fun _ _ _ h => h) (Or.inl ⟨by rfl, fun w' hSw => by obtain ⟨y0, y1⟩ := hSw; go_simp⟩) hHeld2 ?_
     first | simp only [Act.put, List.getElem_toArray, List.getElem_cons_zero, List.getElem_cons_succ, List.setIfInBounds_toArray, List.set_cons_zero, List.set_cons_succ] | skip
     refine wpAnyH_take (i := 14) (oi := _) (v := .agg #[.slice wo 0 wc, .slice xo 1 xc]) rfl (by kernel_rfl) (by kernel_rfl) (by kernel_rfl) (fun _ _ _ h => h) (Or.inl ⟨by rfl, fun w' hSw => by obtain ⟨y0, y1⟩ := hSw; go_simp⟩) hHeld2 ?_
     first | simp only [Act.put, List.getElem_toArray, List.getElem_cons_zero, List.getElem_cons_succ, List.setIfInBounds_toArray, List.set_cons_zero, List.set_cons_succ] | skip
     refine wpAnyH_take (i := 15) (oi := _) (v := .int .i64 0) rfl (by kernel_rfl) (by kernel_rfl) (by kernel_rfl) (fun _ _ _ h => h) (Or.inl ⟨by rfl, fun w' hSw => by obtain ⟨y0, y1⟩ := hSw; go_simp⟩) hHeld2 ?_
     first | simp only [Act.put, List.getElem_toArray, List.getElem_cons_zero, List.getElem_cons_succ, List.setIfInBounds_toArray, List.set_cons_zero, List.set_cons_succ] | skip
     refine wpAnyH_take (i := 16) (oi := _) (v := .int .i64 0) rfl (by kernel_rfl) (by kernel_rfl) (by kernel_rfl) (fun _ _ _ h => h) (Or.inl ⟨by rfl, fun w' hSw => by obtain ⟨y0, y1⟩ := hSw; go_simp⟩) hHeld2 ?_
     first | simp only [Act.put, List.getElem_toArray, List.getElem_cons_zero, List.getElem_cons_succ, List.setIfInBounds_toArray, List.set_cons_zero, List.set_cons_succ] | skip
     refine wpAnyH_ready (rs := [17]) (by kernel_rfl) (by simp) (AllReadyH.cons (o := _) rfl (fun K hK => ?_) AllReadyH.nil)
     go_simp
     have g2 := pb_new (Below.refl v1.heap.size v1) (.cells #[.slice none 0 0, .slice none 0 0] 25)
     refine hK.out _ _ (hall _ (pb_call c1 g2)) (fun hHeld3 => ?_)
     clear hK K hHeld2
     first | simp only [Act.put, List.getElem_toArray, List.getElem_cons_zero, List.getElem_cons_succ, List.setIfInBounds_toArray, List.set_cons_zero, List.set_cons_succ] | skip
     have qb := World.alloc_heap_new v1 (.cells #[.slice none 0 0, .slice none 0 0] 25)
     obtain ⟨V2, hV2⟩ : ∃ V, v1.alloc (.cells #[.slice none 0 0, .slice none 0 0] 25) = V := ⟨_, rfl⟩
     obtain ⟨bb, hb⟩ : ∃ b, v1.heap.size = b := ⟨_, rfl⟩
     have hbb : X2.heap.size ≤ bb := by rw [← hb]; exact c1.size
     rw [hV2] at g2 qb hHeld3 ⊢
     rw [hb] at qb ⊢
     obtain ⟨f0, f1, ff⟩ := two_cells qb
     have g9 : Below v1.heap.size v1 ((V2.setCell ⟨bb, 0, none⟩ (.slice wo 0 wc)).setCell ⟨bb, 1, none⟩ (.slice xo 1 xc)) := (g2.setCell (p := ⟨bb, 0, none⟩) (Nat.le_of_eq hb) _).setCell (p := ⟨bb, 1, none⟩) (Nat.le_of_eq hb) _
     have c3 := pb_call c1 g9
     have hT3 := hT.kp (Below.kp g9 _)
     obtain ⟨e0, e1⟩ := two_set qb (.slice wo 0 wc) (.slice xo 1 xc)
     clear hT g9 qb hV2 hb g2 c1 g
     refine wpAnyH_ready (rs := [18]) (by kernel_rfl) (by simp) (AllReadyH.cons (o := _) rfl (fun K hK => ?_) AllReadyH.nil)
     go_simp
     refine hK.out _ _ (hall _ c3) (fun hHeld4 => ?_)
     clear hK K
     first | simp only [Act.put, List.getElem_toArray, List.getElem_cons_zero, List.getElem_cons_succ, List.setIfInBounds_toArray, List.set_cons_zero, List.set_cons_succ] | skip
     refine wpAnyH_take (i := 19) (oi := _) (v := .int .i64 0) rfl (by kernel_rfl) (by kernel_rfl) (by kernel_rfl) (fun _ _ _ h => h) (Or.inl ⟨by rfl, fun w' hSw => by obtain ⟨y0, y1⟩ := hSw; go_simp⟩) hHeld4 ?_
     first | simp only [Act.put, List.getElem_toArray, List.getElem_cons_zero, List.getElem_cons_succ, List.setIfInBounds_toArray, List.set_cons_zero, List.set_cons_succ] | skip
     refine wpAnyH_take (i := 20) (oi := _) (v := .int .i64 0) rfl (by kernel_rfl) (by kernel_rfl) (by kernel_rfl) (fun _ _ _ h => h) (Or.inl ⟨by rfl, fun w' hSw => by obtain ⟨y0, y1⟩ := hSw; go_simp⟩) hHeld4 ?_
     first | simp only [Act.put, List.getElem_toArray, List.getElem_cons_zero, List.getElem_cons_succ, List.setIfInBounds_toArray, List.set_cons_zero, List.set_cons_succ] | skip
     refine wpAnyH_done (by kernel_rfl) ?_ _
     go_wp2_with fail
     go_meet
     exact ⟨bb, wo, wc, xo, xc, _, rfl, rfl, rfl, hbb, e0, e1, hT3, c3⟩
   · skip
     go_simp
     have g2 := pb_new (Below.refl X2.heap.size X2) (.cells #[.slice none 0 0, .slice none 0 0] 25)
     refine hK.out _ _ (hall _ g2.drew) (fun hHeld3 => ?_)
     clear hK K
     first | simp only [Act.put, List.getElem_toArray, List.getElem_cons_zero, List.getElem_cons_succ, List.setIfInBounds_toArray, List.set_cons_zero, List.set_cons_succ] | skip
     have qb := World.alloc_heap_new X2 (.cells #[.slice none 0 0, .slice none 0 0] 25)
     have sA : (X2.alloc (.cells #[.slice none 0 0, .slice none 0 0] 25)).heap.size = X2.heap.size + 1 := by simp [go_sem]
     obtain ⟨A, hA⟩ : ∃ V, (X2.alloc (.cells #[.slice none 0 0, .slice none 0 0] 25)).drew = V := ⟨_, rfl⟩
     have cA : Below X2.heap.size X2 A := by rw [← hA]; exact g2.drew
     have qA : A.heap[X2.heap.size]? = some (.cells #[.slice none 0 0, .slice none 0 0] 25 (0, 0)) := by rw [← hA]; exact qb
     have zA : A.heap.size = X2.heap.size + 1 := by rw [← hA]; exact sA
     obtain ⟨bb, hb⟩ : ∃ b, X2.heap.size = b := ⟨_, rfl⟩
     have hbb : X2.heap.size ≤ bb := Nat.le_of_eq hb
     rw [hA] at hHeld3 ⊢
     rw [hb] at qA zA ⊢
     clear qb sA g2 hA
     refine wpAnyH_ready (rs := [12]) (by kernel_rfl) (by simp) (AllReadyH.cons (o := _) rfl (fun K hK => ?_) AllReadyH.nil)
     go_simp
     refine (kP _ cA).mono ?_
     rintro e v1 ⟨wo, wc, xo, xc, rfl, g, hT⟩
     go_wp2_with fail
     have c1 := pb_call (show Below X2.heap.size X2 _ from cA) g
     refine hK.out _ _ (hall _ c1) (fun hHeld2 => ?_)
     clear hK K hHeld
     first | simp only [Act.put, List.getElem_toArray, List.getElem_cons_zero, List.getElem_cons_succ, List.setIfInBounds_toArray, List.set_cons_zero, List.set_cons_succ] | skip
     refine wpAnyH_take (i := 13) (oi := _) (v := .tuple #[.agg #[.slice wo 0 wc, .slice xo 1 xc], .int .i64 0, .int .i64 0]) rfl (by kernel_rfl) (by kernel_rfl) (by kernel_rfl) (fun _ _ _ h => h) (Or.inl ⟨by rfl, fun w' hSw => by obtain ⟨y0, y1⟩ := hSw; go_simp⟩) hHeld2 ?_
     first | simp only [Act.put, List.getElem_toArray, List.getElem_cons_zero, List.getElem_cons_succ, List.setIfInBounds_toArray, List.set_cons_zero, List.set_cons_succ] | skip
     refine wpAnyH_take (i := 14) (oi := _) (v := .agg #[.slice wo 0 wc, .slice xo 1 xc]) rfl (by kernel_rfl) (by kernel_rfl) (by kernel_rfl) (fun _ _ _ h => h) (Or.inl ⟨by rfl, fun w' hSw => by obtain ⟨y0, y1⟩ := hSw; go_simp⟩) hHeld2 ?_
     first | simp only [Act.put, List.getElem_toArray, List.getElem_cons_zero, List.getElem_cons_succ, List.setIfInBounds_toArray, List.set_cons_zero, List.set_cons_succ] | skip
     refine wpAnyH_take (i := 15) (oi := _) (v := .int .i64 0) rfl (by kernel_rfl) (by kernel_rfl) (by kernel_rfl) (fun _ _ _ h => h) (Or.inl ⟨by rfl, fun w' hSw => by obtain ⟨y0, y1⟩ := hSw; go_simp⟩) hHeld2 ?_
     first | simp only [Act.put, List.getElem_toArray, List.getElem_cons_zero, List.getElem_cons_succ, List.setIfInBounds_toArray, List.set_cons_zero, List.set_cons_succ] | skip
     refine wpAnyH_take (i := 16) (oi := _) (v := .int .i64 0) rfl (by kernel_rfl) (by kernel_rfl) (by kernel_rfl) (fun _ _ _ h => h) (Or.inl ⟨by rfl, fun w' hSw => by obtain ⟨y0, y1⟩ := hSw; go_simp⟩) hHeld2 ?_
     first | simp only [Act.put, List.getElem_toArray, List.getElem_cons_zero, List.getElem_cons_succ, List.setIfInBounds_toArray, List.set_cons_zero, List.set_cons_succ] | skip
     have q1 : v1.heap[bb]? = some (.cells #[.slice none 0 0, .slice none 0 0] 25 (0, 0)) := (g.block bb (by omega)).trans qA
     obtain ⟨f0, f1, ff⟩ := two_cells q1
     have c3 : Below X2.heap.size X2 ((v1.setCell ⟨bb, 0, none⟩ (.slice wo 0 wc)).setCell ⟨bb, 1, none⟩ (.slice xo 1 xc)) := (c1.setCell (p := ⟨bb, 0, none⟩) hbb _).setCell (p := ⟨bb, 1, none⟩) hbb _
     have nb : ¬ Fr A.heap.size bb := fun h => by have h' : A.heap.size ≤ bb := h; omega
     have hT3 := (hT.kp (Kp.set (j := 0) (v := .slice wo 0 wc) nb)).kp (Kp.set (j := 1) (v := .slice xo 1 xc) nb)
     obtain ⟨e0, e1⟩ := two_set q1 (.slice wo 0 wc) (.slice xo 1 xc)
     clear hT q1 qA zA nb c1 g cA
     refine wpAnyH_ready (rs := [18]) (by kernel_rfl) (by simp) (AllReadyH.cons (o := _) rfl (fun K hK => ?_) AllReadyH.nil)
     go_simp
     refine hK.out _ _ (hall _ c3) (fun hHeld4 => ?_)
     clear hK K
     first | simp only [Act.put, List.getElem_toArray, List.getElem_cons_zero, List.getElem_cons_succ, List.setIfInBounds_toArray, List.set_cons_zero, List.set_cons_succ] | skip
     refine wpAnyH_take (i := 19) (oi := _) (v := .int .i64 0) rfl (by kernel_rfl) (by kernel_rfl) (by kernel_rfl) (fun _ _ _ h => h) (Or.inl ⟨by rfl, fun w' hSw => by obtain ⟨y0, y1⟩ := hSw; go_simp⟩) hHeld4 ?_
     first | simp only [Act.put, List.getElem_toArray, List.getElem_cons_zero, List.getElem_cons_succ, List.setIfInBounds_toArray, List.set_cons_zero, List.set_cons_succ] | skip
     refine wpAnyH_take (i := 20) (oi := _) (v := .int .i64 0) rfl (by kernel_rfl) (by kernel_rfl) (by kernel_rfl) (fun _ _ _ h => h) (Or.inl ⟨by rfl, fun w' hSw => by obtain ⟨y0, y1⟩ := hSw; go_simp⟩) hHeld4 ?_
     first | simp only [Act.put, List.getElem_toArray, List.getElem_cons_zero, List.getElem_cons_succ, List.setIfInBounds_toArray, List.set_cons_zero, List.set_cons_succ] | skip
     refine wpAnyH_done (by kernel_rfl) ?_ _
     go_wp2_with fail
     go_meet
     exact ⟨bb, wo, wc, xo, xc, _, rfl, rfl, rfl, hbb, e0, e1, hT3, c3⟩
  obtain ⟨X3, hXN⟩ : ∃ X, X = wc := ⟨_, rfl⟩
  subst hXN
  obtain ⟨bb3, wo3, wc3, xo3, xc3, S3, rfl, rfl, rfl, hb3, r30, r31, hT3, hX⟩ := hcut
  clear hall cc kP nq0 nq1 nq2 nq3
  replace cP := pb_cell hX cP
  replace cQ := pb_cell hX cQ
  replace dP := pb_cell hX dP
  replace dQ := pb_cell hX dQ
  have gX3 : Hid (Below w.heap.size w X3) := pb_call gX2.out hX
  replace r10 := pb_cell hX r10
  replace r11 := pb_cell hX r11
  replace hT1 := hT1.kp (Below.kp hX _)
  replace r20 := pb_cell hX r20
  replace r21 := pb_cell hX r21
  replace hT2 := hT2.kp (Below.kp hX _)
  clear hX gX2 hb3
  have k12 := kSm (wo := wo1) (wc := wc1) (wo' := wo2) (wc' := wc2) t1 t2 l1 l2 hh gX3.out hT1 hT2
  have k13 := kSm (wo := wo1) (wc := wc1) (wo' := wo3) (wc' := wc3) t1 t3 l1 l3 hh gX3.out hT1 hT3
  have iy1 := fun V => sy_ix (B5 + 1) 12 12 P P12 V
  have iy2 := fun V => sy_ix (B5 + 1) 12 12 Q Q12 V
  have hall : ∀ V, Below X3.heap.size X3 V → (V.cell? ⟨bb1, 0, none⟩ = some (.slice wo1 0 wc1) ∧ V.cell? ⟨bb1, 1, none⟩ = some (.slice xo1 1 xc1) ∧ V.cell? ⟨bb2, 0, none⟩ = some (.slice wo2 0 wc2) ∧ V.cell? ⟨bb2, 1, none⟩ = some (.slice xo2 1 xc2) ∧ V.cell? ⟨bb3, 0, none⟩ = some (.slice wo3 0 wc3) ∧ V.cell? ⟨bb3, 1, none⟩ = some (.slice xo3 1 xc3)) := fun V g => ⟨pb_cell g r10, pb_cell g r11, pb_cell g r20, pb_cell g r21, pb_cell g r30, pb_cell g r31⟩
  have bX3 := Below.refl X3.heap.size X3
  clear hT1 hT2 hT3 t1 t2 t3 l1 l2 l3 cP cQ ix1 ix2 z1 z2
  obtain ⟨vP, hvP⟩ : ∃ v, sgV P = v := ⟨_, rfl⟩
  obtain ⟨vQ, hvQ⟩ : ∃ v, sgV Q = v := ⟨_, rfl⟩
  rw [hvP] at dP n1
  rw [hvQ] at dQ n1
  clear hvP hvQ hp1 hp2 hp3
  by_cases h : vQ ≤ vP
  · have hge : decide ((vQ : Int) ≤ (vP : Int)) = true := decide_eq_true (by omega)
    have hge2 : (vQ : Int) ≤ (vP : Int) := by omega
    have e1 := n1.1 h
    rw [decide_eq_true e1] at k12
    rw [decide_eq_false (fun c => ne (e1.symm.trans c))] at k13
    clear n1 ne e1
    have k1 := k12
    have k2 := k13
    go_upto_region 9 with fail
    go_quiet (fail)
    clear dP dQ iy1 iy2 hge
    go_wp2_with (first
      | (go_at_call 9; (refine (live5_at hh.out (pb_call gX3.out (by first | exact bX3 | exact bX3.drew | exact ⟨bX3.os, bX3.tape, bX3.output, bX3.size, bX3.block⟩))).mono ?_); rintro e v9 ⟨rfl, g9⟩; have gg : Below X3.heap.size X3 v9 := pb_call (by first | exact bX3 | exact bX3.drew | exact ⟨bX3.os, bX3.tape, bX3.output, bX3.size, bX3.block⟩) g9; clear r10 r11 r20 r21 r30 r31; obtain ⟨r10, r11, r20, r21, r30, r31⟩ := hall _ gg)
      | (go_at_call 14; (first | (refine (k1 _ gg).mono ?_; clear k1) | (refine (k2 _ gg).mono ?_; clear k2)); rintro e v8 ⟨rfl, g8⟩; replace gg := pb_call gg g8; clear r10 r11 r20 r21 r30 r31; obtain ⟨r10, r11, r20, r21, r30, r31⟩ := hall _ gg)
      | fail)
    go_ret
    exact ⟨rfl, pb_call gX3.out gg⟩
  · have hge : decide ((vQ : Int) ≤ (vP : Int)) = false := decide_eq_false (by omega)
    have hge2 : ¬ (vQ : Int) ≤ (vP : Int) := by omega
    have e1 := n1.2 h
    rw [decide_eq_true e1] at k13
    rw [decide_eq_false (fun c => ne (c.symm.trans e1))] at k12
    clear n1 ne e1
    have k1 := k13
    have k2 := k12
    go_upto_region 9 with fail
    go_quiet (fail)
    clear dP dQ iy1 iy2 hge
    go_wp2_with (first
      | (go_at_call 9; (refine (live5_at hh.out (pb_call gX3.out (by first | exact bX3 | exact bX3.drew | exact ⟨bX3.os, bX3.tape, bX3.output, bX3.size, bX3.block⟩))).mono ?_); rintro e v9 ⟨rfl, g9⟩; have gg : Below X3.heap.size X3 v9 := pb_call (by first | exact bX3 | exact bX3.drew | exact ⟨bX3.os, bX3.tape, bX3.output, bX3.size, bX3.block⟩) g9; clear r10 r11 r20 r21 r30 r31; obtain ⟨r10, r11, r20, r21, r30, r31⟩ := hall _ gg)
      | (go_at_call 14; (first | (refine (k1 _ gg).mono ?_; clear k1) | (refine (k2 _ gg).mono ?_; clear k2)); rintro e v8 ⟨rfl, g8⟩; replace gg := pb_call gg g8; clear r10 r11 r20 r21 r30 r31; obtain ⟨r10, r11, r20, r21, r30, r31⟩ := hall _ gg)
      | fail)
    go_ret
    exact ⟨rfl, pb_call gX3.out gg⟩
end Go.Proofs.YtknoibocpbfmmaaGreatDoor


