/- Texts of the proof, put together. -/
import Derived.Test.YtknoibocpbfmmaaGreatDoorWG23
import Derived.Test.YtknoibocpbfmmaaGreatDoorWG15
import Derived.Test.YtknoibocpbfmmaaGreatDoorWG22
import Derived.Test.YtknoibocpbfmmaaGreatDoorWPeG
namespace Go.Proofs.YtknoibocpbfmmaaGreatDoor
open Go.RowKit
set_option linter.unusedVariables false
set_option linter.unusedSimpArgs false
theorem cnt_Dg : ∀ {l : List UInt8}, (∀ b ∈ l, 48 ≤ b.toNat ∧ b.toNat ≤ 57) → cnt 4 l = l.length
 | [], _ => rfl
 | b :: t, h => by
  have k := kb4' (h b (by simp))
  have ih := cnt_Dg (l := t) fun x hx => h x (by simp [hx])
  rw [cnt, k, ih]
  rfl
theorem isI_Dg {l : List UInt8} (h : Dg l) : isI l = true := by
 unfold isI
 rw [cnt_Dg h.2]
 cases l with
 | nil => exact absurd rfl h.1
 | cons b t => simp
theorem tilP_Dg : ∀ {D : List UInt8} (E : List UInt8), (∀ b ∈ D, 48 ≤ b.toNat ∧ b.toNat ≤ 57) → tilP (D ++ 46 :: E) = D.length
 | [], E, _ => by show tilP (46 :: E) = 0; rw [tilP, if_pos rfl]
 | b :: t, E, h => by
  have hb := h b (by simp)
  have ne : ¬ b = 46 := fun e => by rw [e] at hb; have : (46 : UInt8).toNat = 46 := rfl; omega
  show tilP (b :: (t ++ 46 :: E)) = t.length + 1
  rw [tilP, if_neg ne, tilP_Dg E fun x hx => h x (by simp [hx])]
/-- A number is one by the reference, too. -/
theorem num_ref {s : ByteArray} (h : isNum s = true) : isI s.toList = true ∨ isI s.toList = false ∧ isRl s.toList = true := by
 cases hI : isI s.toList with
 | true => exact Or.inl rfl
 | false =>
  refine Or.inr ⟨rfl, ?_⟩
  obtain ⟨k, hk, ht, hn⟩ := num_tok h
  rw [toL] at hI ⊢
  rcases shape ht (by omega) with ⟨_, hD⟩ | ⟨_, D, E, e, hD, hE⟩ | ⟨h3, h4, _⟩
  ·rw [isI_Dg hD] at hI; cases hI
  ·rw [e]
   have e3 : (D ++ 46 :: E).drop (D.length + 1) = E := by
    rw [List.drop_append, List.drop_eq_nil_of_le (by omega), Nat.add_sub_cancel_left]
    rfl
   have e4 : (D ++ 46 :: E).take D.length = D := List.take_left' rfl
   unfold isRl
   rw [tilP_Dg E hD.2, e3, e4, isI_Dg hD, isI_Dg hE]
   simp
  ·omega
def SeA (e : Ex) : Prop := ∀ (S : Nat → Prop) (pp : Option Addr) (qq : Nat) (w : World), SlF w S (.slice pp e.ks.len qq) e.ks →
 Calls Tryz.prog 87 #[.agg #[.int .i64 e.op, .string e.tx, .int .i64 e.ty, .slice pp e.ks.len qq]] w fun r w' => r = .returned (.bool true) ∧ Below w.heap.size w w'
set_option maxRecDepth 100000 in
set_option maxHeartbeats 6400000 in
theorem se_1 (tx : ByteArray) (h : isNum tx = true) : SeA ⟨1, tx, 0, .nil⟩ := by
 intro S pp qq w hT
 have hz := num_size h
 have kI := fun V => rIsInt_any tx (by omega) V
 have kR := fun V => rIsReal_any tx (by omega) V
 have hn := num_ref h
 show Calls Tryz.prog 87 #[.agg #[.int .i64 1, .string tx, .int .i64 0, .slice pp 0 qq]] w _
 have g1 := pb_new (Below.refl w.heap.size w) (.cells #[.int .i64 1, .string tx, .int .i64 0, .slice pp 0 qq] 85)
 obtain ⟨X, hX⟩ : ∃ X, w.alloc (.cells #[.int .i64 1, .string tx, .int .i64 0, .slice pp 0 qq] 85) = X := ⟨_, rfl⟩
 have qX : X.heap[w.heap.size]? = some (.cells #[.int .i64 1, .string tx, .int .i64 0, .slice pp 0 qq] 85 (0, 0)) := by rw [← hX]; exact World.alloc_heap_new _ _
 rw [hX] at g1
 obtain ⟨b2, hb2⟩ : ∃ b, w.heap.size = b := ⟨_, rfl⟩
 rw [hb2] at qX
 obtain ⟨f0, f1, f2, f3, ff⟩ := ex_cells qX
 have hX' : Hid (w.alloc (.cells #[.int .i64 1, .string tx, .int .i64 0, .slice pp 0 qq] 85) = X) := hX
 have hb2' : Hid (w.heap.size = b2) := hb2
 have gX : Hid (Below w.heap.size w X) := g1
 clear hX hb2 qX g1 hT h hz
 generalize isI tx.toList = I1 at *
 generalize isRl tx.toList = I2 at *
 rcases hn with rfl | ⟨rfl, rfl⟩
 ·clear kR
  go_enter Tryz.func87, Tryz.ntmps87
  go_upto_region 1 with fail
  rw [hX'.out]
  (try rw [hb2'.out])
  clear hX' hb2'
  go_wp2_with (first
   | (go_at_call 99; (refine (kI _).mono ?_); rintro e v1 ⟨rfl, g3⟩; replace f0 := pb_cell g3 f0; replace f1 := pb_cell g3 f1; replace f2 := pb_cell g3 f2; replace f3 := pb_cell g3 f3)
   | fail)
  refine wp_loop_rounds 1 ?_
  rw [rounds_succ]
  go_wp2_with fail
  go_ret
  exact ⟨rfl, pb_call gX.out g3⟩
 ·skip
  go_enter Tryz.func87, Tryz.ntmps87
  go_upto_region 1 with fail
  rw [hX'.out]
  (try rw [hb2'.out])
  clear hX' hb2'
  go_wp2_with (first
   | (go_at_call 99; (refine (kI _).mono ?_); rintro e v1 ⟨rfl, g3⟩; replace f0 := pb_cell g3 f0; replace f1 := pb_cell g3 f1; replace f2 := pb_cell g3 f2; replace f3 := pb_cell g3 f3)
   | (go_at_call 100; (refine (kR _).mono ?_); rintro e v2 ⟨rfl, g4⟩; replace f0 := pb_cell g4 f0; replace f1 := pb_cell g4 f1; replace f2 := pb_cell g4 f2; replace f3 := pb_cell g4 f3)
   | fail)
  refine wp_loop_rounds 1 ?_
  rw [rounds_succ]
  go_wp2_with fail
  go_ret
  exact ⟨rfl, pb_call gX.out (pb_call g3 g4)⟩
set_option maxRecDepth 100000 in
set_option maxHeartbeats 6400000 in
theorem se_2 (tx : ByteArray) (h : isN tx.toList = true) : SeA ⟨2, tx, 0, .nil⟩ := by
 intro S pp qq w hT
 have kN := fun V => rIsName_any tx V
 rw [h] at kN
 show Calls Tryz.prog 87 #[.agg #[.int .i64 2, .string tx, .int .i64 0, .slice pp 0 qq]] w _
 have g1 := pb_new (Below.refl w.heap.size w) (.cells #[.int .i64 2, .string tx, .int .i64 0, .slice pp 0 qq] 85)
 obtain ⟨X, hX⟩ : ∃ X, w.alloc (.cells #[.int .i64 2, .string tx, .int .i64 0, .slice pp 0 qq] 85) = X := ⟨_, rfl⟩
 have qX : X.heap[w.heap.size]? = some (.cells #[.int .i64 2, .string tx, .int .i64 0, .slice pp 0 qq] 85 (0, 0)) := by rw [← hX]; exact World.alloc_heap_new _ _
 rw [hX] at g1
 obtain ⟨b2, hb2⟩ : ∃ b, w.heap.size = b := ⟨_, rfl⟩
 rw [hb2] at qX
 obtain ⟨f0, f1, f2, f3, ff⟩ := ex_cells qX
 have hX' : Hid (w.alloc (.cells #[.int .i64 2, .string tx, .int .i64 0, .slice pp 0 qq] 85) = X) := hX
 have hb2' : Hid (w.heap.size = b2) := hb2
 have gX : Hid (Below w.heap.size w X) := g1
 clear hX hb2 qX g1 hT h
 go_enter Tryz.func87, Tryz.ntmps87
 go_upto_region 1 with fail
 rw [hX'.out]
 (try rw [hb2'.out])
 clear hX' hb2'
 go_wp2_with (first
  | (go_at_call 25; (refine (kN _).mono ?_); rintro e v1 ⟨rfl, g3⟩; replace f0 := pb_cell g3 f0; replace f1 := pb_cell g3 f1; replace f2 := pb_cell g3 f2; replace f3 := pb_cell g3 f3)
  | fail)
 refine wp_loop_rounds 1 ?_
 rw [rounds_succ]
 go_wp2_with fail
 go_ret
 exact ⟨rfl, pb_call gX.out g3⟩
set_option maxRecDepth 100000 in
set_option maxHeartbeats 6400000 in
theorem se_3 (tx : ByteArray) (h : isN tx.toList = true) (a : Int) (b1 : ByteArray) (c1 : Int) (k : Fo) (kA : SeA ⟨a, b1, c1, k⟩) : SeA ⟨3, tx, 0, .cons a b1 c1 k .nil⟩ := by
 intro S pp qq w hT
 have kN := fun V => rIsName_any tx V
 rw [h] at kN
 show Calls Tryz.prog 87 #[.agg #[.int .i64 3, .string (tx), .int .i64 0, .slice pp 1 qq]] w _
 have g1 := pb_new (Below.refl w.heap.size w) (.cells #[.int .i64 3, .string (tx), .int .i64 0, .slice pp 1 qq] 85)
 obtain ⟨X, hX⟩ : ∃ X, w.alloc (.cells #[.int .i64 3, .string (tx), .int .i64 0, .slice pp 1 qq] 85) = X := ⟨_, rfl⟩
 have qX : X.heap[w.heap.size]? = some (.cells #[.int .i64 3, .string (tx), .int .i64 0, .slice pp 1 qq] 85 (0, 0)) := by rw [← hX]; exact World.alloc_heap_new _ _
 rw [hX] at g1
 obtain ⟨b2, hb2⟩ : ∃ b, w.heap.size = b := ⟨_, rfl⟩
 rw [hb2] at qX
 obtain ⟨f0, f1, f2, f3, ff⟩ := ex_cells qX
 have hX' : Hid (w.alloc (.cells #[.int .i64 3, .string (tx), .int .i64 0, .slice pp 1 qq] 85) = X) := hX
 have hb2' : Hid (w.heap.size = b2) := hb2
 have gX : Hid (Below w.heap.size w X) := g1
 obtain ⟨p2, q2, e2, hK⟩ := hT
 obtain ⟨rfl, e4, rfl⟩ := Value.slice.inj e2
 clear e2 e4
 rcases hK with hK | ⟨c, u, rfl, hK⟩
 ·cases hK
 have hK := hK.kp (Below.kp gX.out _)
 obtain ⟨⟨k0, k1, k2, s3, k3, hs3⟩, _, lc⟩ := hK.head
 obtain ⟨p3, q3, rfl, hs3'⟩ := hs3
 simp only at k0 k1 k2 k3 hs3'
 have hs3 : SlF X S (.slice p3 k.len q3) k := ⟨p3, q3, rfl, hs3'⟩
 have kE := fun V (g : Below X.heap.size X V) => kA S p3 q3 V (hs3.kp (Below.kp g _))
 simp only at kE
 have ix := (fun V => ex_ix c u 1 qq 0 (by decide) V)
 clear hX hb2 qX g1 hK hs3 hs3' kA
 simp only [Nat.zero_mul, Nat.add_zero] at ix
 generalize k.len = n3 at *
 ·skip
  go_enter Tryz.func87, Tryz.ntmps87
  go_upto_region 1 with fail
  rw [hX'.out]
  (try rw [hb2'.out])
  clear hX' hb2'
  go_wp2_with (first
   | (go_at_call 25; (refine (kN _).mono ?_); rintro e v1 ⟨rfl, g3⟩; have gg := g3; replace f0 := pb_cell g3 f0; replace f1 := pb_cell g3 f1; replace f2 := pb_cell g3 f2; replace f3 := pb_cell g3 f3; replace k0 := pb_cell g3 k0; replace k1 := pb_cell g3 k1; replace k2 := pb_cell g3 k2; replace k3 := pb_cell g3 k3)
   | fail)
  refine wp_loop_rounds 2 ?_
  rw [rounds_succ]
  go_wp2_with (first
   | (go_at_call 87; (refine (kE _ gg).mono ?_); rintro e v2 ⟨rfl, g4⟩; replace f3 := pb_cell g4 f3)
   | fail)
  rw [rounds_succ]
  go_wp2_with fail
  go_ret
  exact ⟨rfl, pb_call gX.out (pb_call gg g4)⟩
set_option maxRecDepth 100000 in
set_option maxHeartbeats 6400000 in
theorem se_7 (ty : Int) (h : 1 ≤ ty ∧ ty ≤ 3) (a : Int) (b1 : ByteArray) (c1 : Int) (k : Fo) (kA : SeA ⟨a, b1, c1, k⟩) : SeA ⟨7, tx0, ty, .cons a b1 c1 k .nil⟩ := by
 intro S pp qq w hT
 have y1 : ¬ ty < 1 := by omega
 have y2 : ¬ 3 < ty := by omega
 have y3 : decide (ty < 1) = false := decide_eq_false y1
 have y4 : decide (3 < ty) = false := decide_eq_false y2
 show Calls Tryz.prog 87 #[.agg #[.int .i64 7, .string tx0, .int .i64 ty, .slice pp 1 qq]] w _
 have g1 := pb_new (Below.refl w.heap.size w) (.cells #[.int .i64 7, .string tx0, .int .i64 ty, .slice pp 1 qq] 85)
 obtain ⟨X, hX⟩ : ∃ X, w.alloc (.cells #[.int .i64 7, .string tx0, .int .i64 ty, .slice pp 1 qq] 85) = X := ⟨_, rfl⟩
 have qX : X.heap[w.heap.size]? = some (.cells #[.int .i64 7, .string tx0, .int .i64 ty, .slice pp 1 qq] 85 (0, 0)) := by rw [← hX]; exact World.alloc_heap_new _ _
 rw [hX] at g1
 obtain ⟨b2, hb2⟩ : ∃ b, w.heap.size = b := ⟨_, rfl⟩
 rw [hb2] at qX
 obtain ⟨f0, f1, f2, f3, ff⟩ := ex_cells qX
 have hX' : Hid (w.alloc (.cells #[.int .i64 7, .string tx0, .int .i64 ty, .slice pp 1 qq] 85) = X) := hX
 have hb2' : Hid (w.heap.size = b2) := hb2
 have gX : Hid (Below w.heap.size w X) := g1
 obtain ⟨p2, q2, e2, hK⟩ := hT
 obtain ⟨rfl, e4, rfl⟩ := Value.slice.inj e2
 clear e2 e4
 rcases hK with hK | ⟨c, u, rfl, hK⟩
 ·cases hK
 have hK := hK.kp (Below.kp gX.out _)
 obtain ⟨⟨k0, k1, k2, s3, k3, hs3⟩, _, lc⟩ := hK.head
 obtain ⟨p3, q3, rfl, hs3'⟩ := hs3
 simp only at k0 k1 k2 k3 hs3'
 have hs3 : SlF X S (.slice p3 k.len q3) k := ⟨p3, q3, rfl, hs3'⟩
 have kE := fun V (g : Below X.heap.size X V) => kA S p3 q3 V (hs3.kp (Below.kp g _))
 simp only at kE
 have ix := (fun V => ex_ix c u 1 qq 0 (by decide) V)
 clear hX hb2 qX g1 hK hs3 hs3' kA
 simp only [Nat.zero_mul, Nat.add_zero] at ix
 generalize k.len = n3 at *
 ·skip
  go_enter Tryz.func87, Tryz.ntmps87
  go_upto_region 1 with fail
  rw [hX'.out]
  (try rw [hb2'.out])
  clear hX' hb2'
  have gg := Below.refl X.heap.size X
  go_wp2_with (first
   | fail)
  refine wp_loop_rounds 2 ?_
  rw [rounds_succ]
  go_wp2_with (first
   | (go_at_call 87; (refine (kE _ gg).mono ?_); rintro e v2 ⟨rfl, g4⟩; replace f3 := pb_cell g4 f3)
   | fail)
  rw [rounds_succ]
  go_wp2_with fail
  go_ret
  exact ⟨rfl, pb_call gX.out (pb_call gg g4)⟩
set_option maxRecDepth 100000 in
set_option maxHeartbeats 6400000 in
theorem se_k (op : Int) (hop : op = 4 ∨ op = 20 ∨ op = 5 ∨ op = 6) (a : Int) (b1 : ByteArray) (c1 : Int) (k : Fo) (kA : SeA ⟨a, b1, c1, k⟩) : SeA ⟨op, tx0, 0, (.cons a b1 c1 k .nil)⟩ := by
  intro S pp qq w hT
  show Calls Tryz.prog 87 #[.agg #[.int .i64 op, .string tx0, .int .i64 0, .slice pp 1 qq]] w _
  have g1 := pb_new (Below.refl w.heap.size w) (.cells #[.int .i64 op, .string tx0, .int .i64 0, .slice pp 1 qq] 85)
  obtain ⟨X, hX⟩ : ∃ X, w.alloc (.cells #[.int .i64 op, .string tx0, .int .i64 0, .slice pp 1 qq] 85) = X := ⟨_, rfl⟩
  have qX : X.heap[w.heap.size]? = some (.cells #[.int .i64 op, .string tx0, .int .i64 0, .slice pp 1 qq] 85 (0, 0)) := by rw [← hX]; exact World.alloc_heap_new _ _
  rw [hX] at g1
  obtain ⟨b2, hb2⟩ : ∃ b, w.heap.size = b := ⟨_, rfl⟩
  rw [hb2] at qX
  obtain ⟨f0, f1, f2, f3, ff⟩ := ex_cells qX
  have hX' : Hid (w.alloc (.cells #[.int .i64 op, .string tx0, .int .i64 0, .slice pp 1 qq] 85) = X) := hX
  have hb2' : Hid (w.heap.size = b2) := hb2
  have gX : Hid (Below w.heap.size w X) := g1
  obtain ⟨p2, q2, e2, hK⟩ := hT
  obtain ⟨rfl, e4, rfl⟩ := Value.slice.inj e2
  clear e2 e4
  rcases hK with hK | ⟨c, u, rfl, hK⟩
  · cases hK
  have hK := hK.kp (Below.kp gX.out _)
  obtain ⟨⟨k0, k1, k2, s3, k3, hs3⟩, _, lc⟩ := hK.head
  obtain ⟨p3, q3, rfl, hs3'⟩ := hs3
  simp only at k0 k1 k2 k3 hs3'
  have hs3 : SlF X S (.slice p3 k.len q3) k := ⟨p3, q3, rfl, hs3'⟩
  have kE := fun V (g : Below X.heap.size X V) => kA S p3 q3 V (hs3.kp (Below.kp g _))
  simp only at kE
  have ix := (fun V => ex_ix c u 1 qq 0 (by decide) V)
  clear hX hb2 qX g1 hK hs3 hs3' kA 
  simp only [Nat.zero_mul, Nat.add_zero] at ix
  generalize k.len = n3 at *
  skip
  have gg := Below.refl X.heap.size X
  rcases hop with rfl | rfl | rfl | rfl <;> (
     go_enter Tryz.func87, Tryz.ntmps87
     go_upto_region 1 with fail
     rw [hX'.out]
     (try rw [hb2'.out])
     clear hX' hb2'
     go_wp2_with fail
     refine wp_loop_rounds 2 ?_
     rw [rounds_succ]
     go_wp2_with (first
       | (go_at_call 87; (refine (kE _ gg).mono ?_); rintro e v2 ⟨rfl, g4⟩; replace f3 := pb_cell g4 f3)
       | fail)
     rw [rounds_succ]
     go_wp2_with fail
     go_ret
     exact ⟨rfl, pb_call gX.out (pb_call gg g4)⟩)
set_option maxRecDepth 100000 in
set_option maxHeartbeats 6400000 in
theorem se_o (op : Int) (hop : op = 8 ∨ op = 9 ∨ op = 10 ∨ op = 11 ∨ op = 12 ∨ op = 13 ∨ op = 14 ∨ op = 15 ∨ op = 16 ∨ op = 17 ∨ op = 18 ∨ op = 19) (a : Int) (b1 : ByteArray) (c1 : Int) (k : Fo) (a' : Int) (b1' : ByteArray) (c1' : Int) (k' : Fo) (kA : SeA ⟨a, b1, c1, k⟩) (kB : SeA ⟨a', b1', c1', k'⟩) : SeA ⟨op, tx0, 0, (.cons a b1 c1 k (.cons a' b1' c1' k' .nil))⟩ := by
  intro S pp qq w hT
  show Calls Tryz.prog 87 #[.agg #[.int .i64 op, .string tx0, .int .i64 0, .slice pp 2 qq]] w _
  have g1 := pb_new (Below.refl w.heap.size w) (.cells #[.int .i64 op, .string tx0, .int .i64 0, .slice pp 2 qq] 85)
  obtain ⟨X, hX⟩ : ∃ X, w.alloc (.cells #[.int .i64 op, .string tx0, .int .i64 0, .slice pp 2 qq] 85) = X := ⟨_, rfl⟩
  have qX : X.heap[w.heap.size]? = some (.cells #[.int .i64 op, .string tx0, .int .i64 0, .slice pp 2 qq] 85 (0, 0)) := by rw [← hX]; exact World.alloc_heap_new _ _
  rw [hX] at g1
  obtain ⟨b2, hb2⟩ : ∃ b, w.heap.size = b := ⟨_, rfl⟩
  rw [hb2] at qX
  obtain ⟨f0, f1, f2, f3, ff⟩ := ex_cells qX
  have hX' : Hid (w.alloc (.cells #[.int .i64 op, .string tx0, .int .i64 0, .slice pp 2 qq] 85) = X) := hX
  have hb2' : Hid (w.heap.size = b2) := hb2
  have gX : Hid (Below w.heap.size w X) := g1
  obtain ⟨p2, q2, e2, hK⟩ := hT
  obtain ⟨rfl, e4, rfl⟩ := Value.slice.inj e2
  clear e2 e4
  rcases hK with hK | ⟨c, u, rfl, hK⟩
  · cases hK
  have hK := hK.kp (Below.kp gX.out _)
  obtain ⟨⟨k0, k1, k2, s3, k3, hs3⟩, REST2, lc⟩ := hK.head
  obtain ⟨p3, q3, rfl, hs3'⟩ := hs3
  simp only at k0 k1 k2 k3 hs3'
  have hs3 : SlF X S (.slice p3 k.len q3) k := ⟨p3, q3, rfl, hs3'⟩
  have kE := fun V (g : Below X.heap.size X V) => kA S p3 q3 V (hs3.kp (Below.kp g _))
  simp only at kE
  obtain ⟨⟨l0, l1, l2, s4, l3, hs4⟩, _, _⟩ := REST2.head
  obtain ⟨p4, q4, rfl, hs4'⟩ := hs4
  simp only at l0 l1 l2 l3 hs4'
  have hs4 : SlF X S (.slice p4 k'.len q4) k' := ⟨p4, q4, rfl, hs4'⟩
  have kF := fun V (g : Below X.heap.size X V) => kB S p4 q4 V (hs4.kp (Below.kp g _))
  simp only at kF
  have iy := (fun V => ex_ix c u 2 qq 1 (by decide) V)
  simp only [Nat.one_mul] at iy
  have ix := (fun V => ex_ix c u 2 qq 0 (by decide) V)
  clear hX hb2 qX g1 hK hs3 hs3' kA REST2 hs4 hs4' kB
  simp only [Nat.zero_mul, Nat.add_zero] at ix
  generalize k.len = n3 at *
  generalize k'.len = n4 at *
  have gg := Below.refl X.heap.size X
  rcases hop with rfl | rfl | rfl | rfl | rfl | rfl | rfl | rfl | rfl | rfl | rfl | rfl <;> (
     go_enter Tryz.func87, Tryz.ntmps87
     go_upto_region 1 with fail
     rw [hX'.out]
     (try rw [hb2'.out])
     clear hX' hb2'
     go_wp2_with fail
     refine wp_loop_rounds 3 ?_
     rw [rounds_succ]
     go_wp2_with (first
       | (go_at_call 87; (refine (kE _ gg).mono ?_); rintro e v2 ⟨rfl, g4⟩; replace f3 := pb_cell g4 f3; replace l0 := pb_cell g4 l0; replace l1 := pb_cell g4 l1; replace l2 := pb_cell g4 l2; replace l3 := pb_cell g4 l3)
       | fail)
     rw [rounds_succ]
     go_wp2_with (first
       | (go_at_call 87; (refine (kF _ (pb_call gg g4)).mono ?_); rintro e v3 ⟨rfl, g5⟩; replace f3 := pb_cell g5 f3)
       | fail)
     rw [rounds_succ]
     go_wp2_with fail
     go_ret
     exact ⟨rfl, pb_call gX.out (pb_call (pb_call gg g4) g5)⟩)
/-- All right expressions of a tree. -/
theorem se_of : ∀ f : Fo, f.oks → f.all SeA
 | .nil, _ => trivial
 | .cons op tx ty ks r, h => by
  have ih := se_of ks h.2.1
  refine ⟨?_, se_of r h.2.2⟩
  rcases ok_cases h.1 with ⟨rfl, hn, rfl, h0⟩ | ⟨rfl, hn, rfl, h0⟩ | ⟨rfl, hn, rfl, h1⟩ | ⟨rfl, rfl, ht, h1⟩ | ⟨hop, rfl, rfl, h1⟩ | ⟨hop, rfl, rfl, h2⟩
  ·obtain rfl := len0 h0
   exact se_1 tx hn
  ·obtain rfl := len0 h0
   exact se_2 tx hn
  ·obtain ⟨a, b, c, k, rfl⟩ := len1 h1
   exact se_3 tx hn a b c k ih.1
  ·obtain ⟨a, b, c, k, rfl⟩ := len1 h1
   exact se_7 ty ht a b c k ih.1
  ·obtain ⟨a, b, c, k, rfl⟩ := len1 h1
   exact se_k op hop a b c k ih.1
  ·obtain ⟨a, b, c, k, a', b', c', k', rfl⟩ := len2 h2
   exact se_o op (op_range hop) a b c k a' b' c' k' ih.1 ih.2.1
end Go.Proofs.YtknoibocpbfmmaaGreatDoor



namespace Go.Proofs.YtknoibocpbfmmaaGreatDoor
open Go.RowKit
set_option linter.unusedVariables false
set_option linter.unusedSimpArgs false
theorem ruF_cnt : ∀ (f : Fo) (deep x y : Nat), ruF deep f x = some y → y = x + f.cnt ∧ (f ≠ .nil → y ≤ 2048) ∧ (f ≠ .nil → deep + f.dep ≤ 25)
 | .nil, deep, x, y, h => by
  have h' : some x = some y := h
  cases h'
  exact ⟨rfl, fun h => absurd rfl h, fun h => absurd rfl h⟩
 | .cons op tx ty ks r, deep, x, y, h => by
  rw [ruF] at h
  obtain ⟨hc, h⟩ := oi' h
  obtain ⟨z, h1, h2⟩ := ob' h
  simp only [Bool.and_eq_true, decide_eq_true_eq] at hc
  obtain ⟨a1, a2, a3⟩ := ruF_cnt ks _ _ _ h1
  obtain ⟨b1, b2, b3⟩ := ruF_cnt r _ _ _ h2
  have hk : z ≤ 2048 := by
   by_cases c : ks = .nil
   ·have e : ks.cnt = 0 := by rw [c]; rfl
    omega
   ·exact a2 c
  have hd : deep + (ks.dep + 1) ≤ 25 := by
   by_cases c : ks = .nil
   ·have e : ks.dep = 0 := by rw [c]; rfl
    omega
   ·have := a3 c; omega
  refine ⟨?_, fun _ => ?_, fun _ => ?_⟩
  ·show y = x + (ks.cnt + 1 + r.cnt); omega
  ·by_cases c : r = .nil
   ·have e : r.cnt = 0 := by rw [c]; rfl
    omega
   ·exact b2 c
  ·show deep + max (ks.dep + 1) r.dep ≤ 25
   by_cases c : r = .nil
   ·have e : r.dep = 0 := by rw [c]; rfl
    omega
   ·have := b3 c; omega
set_option maxRecDepth 100000 in
set_option maxHeartbeats 3200000 in
theorem rnone_yes (pp : Option Addr) (qq : Nat) (w : World) : Calls Tryz.prog 46 #[.agg #[.int .i64 0, .string tx0, .int .i64 0, .slice pp 0 qq]] w fun r w' => r = .returned (.bool true) ∧ Below w.heap.size w w' := by
 have g1 := pb_new (Below.refl w.heap.size w) (.cells #[.int .i64 0, .string tx0, .int .i64 0, .slice pp 0 qq] 85)
 go_enter Tryz.func46, Tryz.ntmps46
 go_wp2_with fail
 go_ret
 exact ⟨rfl, g1⟩
set_option maxRecDepth 100000 in
set_option maxHeartbeats 3200000 in
theorem rnone_no (op : Int) (h : op ≠ 0) (tx : ByteArray) (ty : Int) (pp : Option Addr) (m qq : Nat) (w : World) : Calls Tryz.prog 46 #[.agg #[.int .i64 op, .string tx, .int .i64 ty, .slice pp m qq]] w fun r w' => r = .returned (.bool false) ∧ Below w.heap.size w w' := by
 have g1 := pb_new (Below.refl w.heap.size w) (.cells #[.int .i64 op, .string tx, .int .i64 ty, .slice pp m qq] 85)
 have e0 : (op == 0) = false := beq_false_of_ne h
 go_enter Tryz.func46, Tryz.ntmps46
 go_wp2_with fail
 go_ret
 exact ⟨rfl, g1⟩
set_option maxRecDepth 100000 in
set_option maxHeartbeats 3200000 in
theorem rright (e : Ex) (hok : (e.row .nil).oks) (hw : (e.row .nil).wt ≤ 549755813888) (hc : e.ks.cnt + 1 ≤ 2048) (hd : e.ks.dep + 1 ≤ 24) (S : Nat → Prop) (pp : Option Addr) (qq : Nat) (w : World) (hT : SlF w S (.slice pp e.ks.len qq) e.ks) :
  Calls Tryz.prog 64 #[.agg #[.int .i64 e.op, .string e.tx, .int .i64 e.ty, .slice pp e.ks.len qq]] w fun r w' => r = .returned (.bool true) ∧ Below w.heap.size w w' := by
 obtain ⟨op, tx, ty, ks⟩ := e
 simp only at hc hd hT ⊢
 have hA := sx_of (Ex.row ⟨op, tx, ty, ks⟩ .nil) (by omega)
 have hD := (sd_of (Ex.row ⟨op, tx, ty, ks⟩ .nil) (by omega)).1
 have hE := (se_of (Ex.row ⟨op, tx, ty, ks⟩ .nil) hok).1
 have g1 := pb_new (Below.refl w.heap.size w) (.cells #[.int .i64 op, .string tx, .int .i64 ty, .slice pp ks.len qq] 85)
 obtain ⟨X, hX⟩ : ∃ X, w.alloc (.cells #[.int .i64 op, .string tx, .int .i64 ty, .slice pp ks.len qq] 85) = X := ⟨_, rfl⟩
 have qX : X.heap[w.heap.size]? = some (.cells #[.int .i64 op, .string tx, .int .i64 ty, .slice pp ks.len qq] 85 (0, 0)) := by rw [← hX]; exact World.alloc_heap_new _ _
 have sX : X.heap.size = w.heap.size + 1 := by rw [← hX]; simp [go_sem]
 rw [hX] at g1
 have g2 := pb_new (Below.refl X.heap.size X) (.cells #[.int .i64 op, .string tx, .int .i64 ty, .slice pp ks.len qq] 85)
 obtain ⟨Y, hY⟩ : ∃ Y, X.alloc (.cells #[.int .i64 op, .string tx, .int .i64 ty, .slice pp ks.len qq] 85) = Y := ⟨_, rfl⟩
 have qY : Y.heap[w.heap.size + 1]? = some (.cells #[.int .i64 op, .string tx, .int .i64 ty, .slice pp ks.len qq] 85 (0, 0)) := by rw [← hY, ← sX]; exact World.alloc_heap_new _ _
 rw [hY] at g2
 obtain ⟨b2, hb2⟩ : ∃ b, w.heap.size = b := ⟨_, rfl⟩
 rw [hb2] at qX qY sX
 have qX2 : Y.heap[b2]? = some (.cells #[.int .i64 op, .string tx, .int .i64 ty, .slice pp ks.len qq] 85 (0, 0)) := (g2.block b2 (by omega)).trans qX
 obtain ⟨f0, f1, f2, f3, ff⟩ := ex_cells qX2
 obtain ⟨x0, x1, x2, x3, xx⟩ := ex_cells qX
 obtain ⟨h0, h1, h2, h3, hh⟩ := ex_cells qY
 have hTY : SlF Y (fun _ => True) (.slice pp ks.len qq) ks := ((hT.kp (Below.kp g1 _)).kp (Below.kp g2 _)).lo (fun _ _ => trivial)
 have hRow : SlF Y (fun _ => True) (.slice (some ⟨b2 + 1, 0, none⟩) 1 1) (Ex.row ⟨op, tx, ty, ks⟩ .nil) := by
  obtain ⟨p, q, e, k⟩ := hTY
  obtain ⟨rfl, _, rfl⟩ := Value.slice.inj e
  exact ⟨_, 1, rfl, Or.inr ⟨b2 + 1, 0, rfl, trivial, h0, h1, h2, ⟨_, _, h3, k⟩, trivial⟩⟩
 have kX : Calls Tryz.prog 42 #[.slice (some ⟨b2 + 1, 0, none⟩) 1 1, .int .i64 2048] Y fun r w' => r = .returned (.int .i64 ((ks.cnt + 1 : Nat) : Int)) ∧ Below Y.heap.size Y w' := xsF (Ex.row ⟨op, tx, ty, ks⟩ .nil) hA (by show (1 : Nat) ≤ _; omega) 2048 (by show ks.cnt + 1 + 0 ≤ 2048; omega) (by omega) _ _ 1 Y hRow
 have kD : ∀ V, Below Y.heap.size Y V → Calls Tryz.prog 86 #[.agg #[.int .i64 op, .string tx, .int .i64 ty, .slice pp ks.len qq], .int .i64 24] V fun r w' => r = .returned (.bool true) ∧ Below V.heap.size V w' := fun V g => hD 24 _ pp qq V hd (by omega) (hTY.kp (Below.kp g _))
 have kE : ∀ V, Below Y.heap.size Y V → Calls Tryz.prog 87 #[.agg #[.int .i64 op, .string tx, .int .i64 ty, .slice pp ks.len qq]] V fun r w' => r = .returned (.bool true) ∧ Below V.heap.size V w' := fun V g => hE _ pp qq V (hTY.kp (Below.kp g _))
 have gY : Hid (Below w.heap.size w Y) := pb_call g1 g2
 have hX' : Hid (w.alloc (.cells #[.int .i64 op, .string tx, .int .i64 ty, .slice pp ks.len qq] 85) = X) := hX
 have hY' : Hid (X.alloc (.cells #[.int .i64 op, .string tx, .int .i64 ty, .slice pp ks.len qq] 85) = Y) := hY
 have hb2' : Hid (w.heap.size = b2 ∧ X.heap.size = b2 + 1) := ⟨hb2, sX⟩
 have c1 : ((ks.cnt : Nat) : Int) + 1 ≤ 2048 := by omega
 have c2 : ((ks.cnt + 1 : Nat) : Int) ≤ 2048 := by omega
 clear hX hY hb2 sX qX qX2 qY g1 g2 hT hTY hRow hA hD hE h0 h1 h2 h3 hh hok hw hc hd
 generalize ks.len = n3 at *
 generalize ks.cnt = n4 at *
 go_enter Tryz.func64, Tryz.ntmps64
 go_upto_region 1 with fail
 rw [hX'.out]
 (try rw [hb2'.out.1])
 go_wp2_with (first
  | (go_at_call 42; rw [hY'.out]; (try rw [hb2'.out.2]); (refine kX.mono ?_); rintro e v1 ⟨rfl, g3⟩; clear x0 x1 x2 x3; replace f0 := pb_cell g3 f0; replace f1 := pb_cell g3 f1; replace f2 := pb_cell g3 f2; replace f3 := pb_cell g3 f3)
  | (go_at_call 86; (refine (kD _ g3).mono ?_); rintro e v2 ⟨rfl, g4⟩; replace f0 := pb_cell g4 f0; replace f1 := pb_cell g4 f1; replace f2 := pb_cell g4 f2; replace f3 := pb_cell g4 f3)
  | (go_at_call 87; (refine (kE _ (pb_call g3 g4)).mono ?_); rintro e v3 ⟨rfl, g5⟩)
  | fail)
 go_ret
 exact ⟨rfl, pb_call gY.out (pb_call (pb_call g3 g4) g5)⟩
set_option maxRecDepth 100000 in
set_option maxHeartbeats 3200000 in
theorem rbound_1 (tx : ByteArray) (h : isNum tx = true) (pp : Option Addr) (qq : Nat) (w : World) : Calls Tryz.prog 65 #[.agg #[.int .i64 1, .string tx, .int .i64 0, .slice pp 0 qq]] w fun r w' => r = .returned (.bool true) ∧ Below w.heap.size w w' := by
 have kE : ∀ V, Calls Tryz.prog 87 #[.agg #[.int .i64 1, .string tx, .int .i64 0, .slice pp 0 qq]] V fun r w' => r = .returned (.bool true) ∧ Below V.heap.size V w' := fun V => se_1 tx h (fun _ => True) pp qq V ⟨pp, qq, rfl, Or.inl rfl⟩
 have g1 := pb_new (Below.refl w.heap.size w) (.cells #[.int .i64 1, .string tx, .int .i64 0, .slice pp 0 qq] 85)
 clear h
 go_enter Tryz.func65, Tryz.ntmps65
 go_wp2_with (first
  | (go_at_call 87; (refine (kE _).mono ?_); rintro e v1 ⟨rfl, g3⟩)
  | fail)
 go_ret
 exact ⟨rfl, pb_call g1 g3⟩
theorem four_set {V : World} {b : Nat} {t : TypeId} {u0 u1 u2 u3 : Value} (q : V.heap[b]? = some (.cells #[u0, u1, u2, u3] t (0, 0))) (x0 x1 x2 x3 : Value) : ((((V.setCell ⟨b, 0, none⟩ x0).setCell ⟨b, 1, none⟩ x1).setCell ⟨b, 2, none⟩ x2).setCell ⟨b, 3, none⟩ x3).heap[b]? = some (.cells #[x0, x1, x2, x3] t (0, 0)) := by
 have h := at_set (at_set (at_set (at_set q 0 x0) 1 x1) 2 x2) 3 x3
 simpa using h
set_option maxRecDepth 100000 in
set_option maxHeartbeats 3200000 in
theorem rbound_4 (tx : ByteArray) (h : isNum tx = true) (S : Nat → Prop) (pp : Option Addr) (qq : Nat) (w : World) (hT : SlF w S (.slice pp 1 qq) (.cons 1 tx 0 .nil .nil)) : Calls Tryz.prog 65 #[.agg #[.int .i64 4, .string tx0, .int .i64 0, .slice pp 1 qq]] w fun r w' => r = .returned (.bool true) ∧ Below w.heap.size w w' := by
 have kE : ∀ p q V, Calls Tryz.prog 87 #[.agg #[.int .i64 1, .string tx, .int .i64 0, .slice p 0 q]] V fun r w' => r = .returned (.bool true) ∧ Below V.heap.size V w' := fun p q V => se_1 tx h (fun _ => True) p q V ⟨p, q, rfl, Or.inl rfl⟩
 have g1 := pb_new (Below.refl w.heap.size w) (.cells #[.int .i64 4, .string tx0, .int .i64 0, .slice pp 1 qq] 85)
 obtain ⟨X, hX⟩ : ∃ X, w.alloc (.cells #[.int .i64 4, .string tx0, .int .i64 0, .slice pp 1 qq] 85) = X := ⟨_, rfl⟩
 have qX : X.heap[w.heap.size]? = some (.cells #[.int .i64 4, .string tx0, .int .i64 0, .slice pp 1 qq] 85 (0, 0)) := by rw [← hX]; exact World.alloc_heap_new _ _
 rw [hX] at g1
 have hK := hT.kp (Below.kp g1 _)
 obtain ⟨p2, q2, e2, hK⟩ := hK
 obtain ⟨rfl, e4, rfl⟩ := Value.slice.inj e2
 clear e2 e4
 rcases hK with hK | ⟨c, u, rfl, hK⟩
 ·cases hK
 obtain ⟨⟨k0, k1, k2, s3, k3, hs3⟩, _, _⟩ := hK.head
 obtain ⟨p3, q3, rfl, _⟩ := hs3
 simp only [Fo.len] at k0 k1 k2 k3
 have ix := (fun V => ex_ix c u 1 qq 0 (by decide) V)
 simp only [Nat.zero_mul, Nat.add_zero] at ix
 have hb0 : c < w.heap.size := by
  obtain ⟨p5, q5, e5, h5⟩ := hT
  rcases h5 with h5 | ⟨c5, u5, e6, h5⟩
  ·cases h5
  ·obtain ⟨e7, _, _⟩ := Value.slice.inj e5
   rw [e6] at e7
   have e8 : c = c5 := by injection e7 with e; injection e
   rw [e8]
   exact World.block_lt_of_cell? w _ h5.head.1.1
 obtain ⟨b2, hb2⟩ : ∃ b, w.heap.size = b := ⟨_, rfl⟩
 have hb3 : Hid (w.heap.size = b2) := hb2
 rw [hb2] at qX
 obtain ⟨f0, f1, f2, f3, ff⟩ := ex_cells qX
 have hX' : Hid (w.alloc (.cells #[.int .i64 4, .string tx0, .int .i64 0, .slice (some ⟨c, u, none⟩) 1 qq] 85) = X) := hX
 have qF := four_set qX (.int .i64 1) (.string tx) (.int .i64 0) (.slice p3 0 q3)
 have gF : Below w.heap.size w ((((X.setCell ⟨b2, 0, none⟩ (.int .i64 1)).setCell ⟨b2, 1, none⟩ (.string tx)).setCell ⟨b2, 2, none⟩ (.int .i64 0)).setCell ⟨b2, 3, none⟩ (.slice p3 0 q3)) := ((((g1.setCell (p := ⟨b2, 0, none⟩) (Nat.le_of_eq hb2) _).setCell (p := ⟨b2, 1, none⟩) (Nat.le_of_eq hb2) _).setCell (p := ⟨b2, 2, none⟩) (Nat.le_of_eq hb2) _).setCell (p := ⟨b2, 3, none⟩) (Nat.le_of_eq hb2) _)
 obtain ⟨F, hF⟩ : ∃ F, ((((X.setCell ⟨b2, 0, none⟩ (.int .i64 1)).setCell ⟨b2, 1, none⟩ (.string tx)).setCell ⟨b2, 2, none⟩ (.int .i64 0)).setCell ⟨b2, 3, none⟩ (.slice p3 0 q3)) = F := ⟨_, rfl⟩
 rw [hF] at qF gF
 obtain ⟨x0, x1, x2, x3, xx⟩ := ex_cells qF
 have hF' : Hid (((((X.setCell ⟨b2, 0, none⟩ (.int .i64 1)).setCell ⟨b2, 1, none⟩ (.string tx)).setCell ⟨b2, 2, none⟩ (.int .i64 0)).setCell ⟨b2, 3, none⟩ (.slice p3 0 q3)) = F) := hF
 have gF' : Hid (Below w.heap.size w F) := gF
 clear hT hX hF qX qF g1 gF h hK hb0 hb2
 go_enter Tryz.func65, Tryz.ntmps65
 go_upto_region 1 with fail
 rw [hX'.out]
 (try rw [hb3.out])
 clear hX' hb3
 go_upto_region 3 with fail
 rw [hF'.out]
 clear f0 f1 f2 f3 ff k0 k1 k2 k3 ix hF'
 go_wp2_with (first
  | (go_at_call 87; (refine (kE _ _ _).mono ?_); rintro e v1 ⟨rfl, g3⟩)
  | fail)
 go_ret
 exact ⟨rfl, pb_call gF'.out g3⟩
end Go.Proofs.YtknoibocpbfmmaaGreatDoor



namespace Go.Proofs.YtknoibocpbfmmaaGreatDoor
set_option linter.unusedVariables false
set_option linter.unusedSimpArgs false
/-- The points of statements. -/
def So.pts : So → Nat
 | .nil => 0
 | .cons _ _ _ _ _ _ t e r => t.pts + e.pts + r.pts + 1
theorem ruS_pts : ∀ (f : So) (deep : Nat) (c c' : Nat × Nat), ruS deep f c = some c' → c'.1 = c.1 + f.pts
 | .nil, _, c, c', q => by
  have q' : some c = some c' := q
  cases q'
  rfl
 | .cons d nm ix v l h t e r, deep, c, c', q => by
  rw [ruS] at q
  obtain ⟨pc, q⟩ := oi' q
  obtain ⟨c2, q, qr⟩ := ob' q
  have r1 := ruS_pts r _ _ _ qr
  have main : c2.1 = c.1 + 1 + t.pts + e.pts := by
   by_cases d1 : d = 1
   ·rw [if_pos d1] at q
    obtain ⟨a, q⟩ := oi' q
    obtain ⟨x, q1, q⟩ := ob' q
    obtain ⟨y, q2, q⟩ := ob' q
    obtain ⟨b, q⟩ := oi' q
    obtain ⟨_, _, _, _, _, b3, b4⟩ := bare_all b
    injection q with q
    rw [← q, so_len0 b3, so_len0 b4]
    rfl
   rw [if_neg d1] at q
   by_cases d2 : d = 2
   ·rw [if_pos d2] at q
    obtain ⟨a, q⟩ := oi' q
    obtain ⟨x, q1, q⟩ := ob' q
    obtain ⟨y, q2, q⟩ := ob' q
    obtain ⟨b, q⟩ := oi' q
    obtain ⟨_, _, _, _, _, b3, b4⟩ := bare_all b
    injection q with q
    rw [← q, so_len0 b3, so_len0 b4]
    rfl
   rw [if_neg d2] at q
   by_cases d3 : d = 3
   ·rw [if_pos d3] at q
    obtain ⟨x, q1, q⟩ := ob' q
    obtain ⟨a, q⟩ := oi' q
    obtain ⟨y, q2, q⟩ := ob' q
    obtain ⟨z, q3, q⟩ := ob' q
    obtain ⟨b, q⟩ := oi' q
    have e1 := ruS_pts t _ _ _ q2
    have e2 := ruS_pts e _ _ _ q3
    cases q
    rw [e2, e1]
   rw [if_neg d3] at q
   by_cases d4 : d = 4
   ·rw [if_pos d4] at q
    obtain ⟨x, q1, q⟩ := ob' q
    obtain ⟨a, q⟩ := oi' q
    obtain ⟨y, q2, q⟩ := ob' q
    obtain ⟨b, q⟩ := oi' q
    obtain ⟨_, _, _, _, _, _, b4⟩ := bare_all b
    have e1 := ruS_pts t _ _ _ q2
    injection q with q
    rw [← q, e1, so_len0 b4]
    rfl
   ·rw [if_neg d4] at q
    cases q
  rw [r1, main, So.pts]
  omega
end Go.Proofs.YtknoibocpbfmmaaGreatDoor



namespace Go.Proofs.YtknoibocpbfmmaaGreatDoor
open Go.RowKit
set_option linter.unusedVariables false
set_option linter.unusedSimpArgs false
def SzB (f : So) : Prop := ∀ (most : Nat) (S : Nat → Prop) (pp : Option Addr) (qq : Nat) (w : World), f.pts ≤ most → most ≤ 1099511627776 → SlS w S (.slice pp f.len qq) f →
 Calls Tryz.prog 23 #[.slice pp f.len qq, .int .i64 (most : Int)] w fun r w' => r = .returned (.int .i64 ((f.pts : Nat) : Int)) ∧ Below w.heap.size w w'
theorem So.row_pts (s : St) (r : So) : (s.row r).pts = s.thn.pts + s.els.pts + r.pts + 1 := rfl
set_option maxRecDepth 100000 in
set_option maxHeartbeats 3200000 in
theorem szS (f : So) (hA : f.all (fun s => SzB s.thn ∧ SzB s.els)) (hz : f.len ≤ 1099511627776) : SzB f := by
 intro most S pp qq w hm hM hT
 obtain ⟨C, hC⟩ : ∃ C, f.pts = C := ⟨_, rfl⟩
 rw [hC] at hm ⊢
 obtain ⟨m, hm0⟩ : ∃ m, f.len = m := ⟨_, rfl⟩
 rw [hm0] at hT hz ⊢
 have hm' : Hid (f.len = m) := hm0
 have hA' : Hid (f.all (fun s => SzB s.thn ∧ SzB s.els)) := hA
 have hT' : Hid (SlS w S (.slice pp m qq) f) := hT
 have hm40 : Hid (m ≤ 1099511627776 ∧ C ≤ most ∧ most ≤ 1099511627776) := ⟨hz, hm, hM⟩
 have hI : Hid (0 + (f.drop 0).pts = C) := by show 0 + f.pts = C; rw [Nat.zero_add]; exact hC
 clear hm0 hA hT hz hm hM hC
 go_enter Tryz.func23, Tryz.ntmps23
 go_upto_region 3 with fail
 go_loopw [6, 5] (fun i n wr => ∃ (j a : Nat) (V : World), i = .int .i64 j ∧ n = .int .i64 (a : Int) ∧ V = wr ∧ Hid (Below w.heap.size w V) ∧ Hid (a + (f.drop j).pts = C) ∧ j ≤ m) (fun i _ _ => m - (intOf i).toNat)
 case atStart => exact ⟨0, 0, w, rfl, rfl, rfl, Below.refl _ _, hI, by omega⟩
 case round =>
  clear hI
  obtain ⟨j, a, V, rfl, rfl, e, gV, hI, hj⟩ := hrel
  subst e
  have hq := hI.out
  have b40 := hm40.out
  have ha : (a : Int) ≤ (most : Int) := by omega
  by_cases cj : j < m
  ·have cj' : (j : Int) < (m : Int) := by omega
   obtain ⟨s, hf⟩ := So.drop_at (f := f) (j := j) (by rw [hm'.out]; exact cj)
   have hal := So.all_drop j hA'.out
   rw [hf] at hal hq
   rw [So.row_pts] at hq
   have hTT := hT'.out.kp (Below.kp gV.out _)
   obtain ⟨p2', q2', e2, hT⟩ := hTT
   obtain ⟨rfl, e4, rfl⟩ := Value.slice.inj e2
   clear e2 e4
   rcases hT with hT | ⟨c, u, rfl, hT⟩
   ·exfalso; have := hm'.out; rw [hT] at this; simp [So.len] at this; omega
   have hTj := SoAt.drop j hT
   rw [hf] at hTj
   obtain ⟨lc, p0, q0, p1, q1, p2, q2, p3, q3, p4, q4, p5, q5, sT, k0, k1, k2, k3, k4, k5, k6, k7, k8, k9, k10, k11, k12, k13, k14, k15, k16⟩ := hTj.cells
   obtain ⟨t0, t1, t2, t3, t4, t5⟩ := sT
   obtain ⟨r, hr⟩ : ∃ r, most = a + 1 + r := ⟨most - (a + 1), by omega⟩
   obtain ⟨r', hr'⟩ : ∃ r', r = s.thn.pts + r' := ⟨r - s.thn.pts, by omega⟩
   have kA := (show SzB s.thn from hal.1.1) r S p4 q4 V (by omega) (by omega) t4
   have kB := fun V' (g : Below V.heap.size V V') => (show SzB s.els from hal.1.2) r' S p5 q5 V' (by omega) (by omega) (t5.kp (Below.kp g _))
   have ix := so_ix c u m qq j cj
   have wj : IntKind.i64.wrap ((j : Int) + 1) = ((j + 1 : Nat) : Int) := by rw [IntKind.wrap_i64]; omega
   have wa : IntKind.i64.wrap ((a : Int) + 1) = (a : Int) + 1 := by rw [IntKind.wrap_i64]; omega
   have h1 : (a : Int) + 1 ≤ (most : Int) := by omega
   have wr : IntKind.i64.wrap ((most : Int) - ((a : Int) + 1)) = (r : Int) := by rw [IntKind.wrap_i64]; omega
   have wk : IntKind.i64.wrap ((a : Int) + 1 + ((s.thn.pts : Nat) : Int)) = (a : Int) + 1 + ((s.thn.pts : Nat) : Int) := by rw [IntKind.wrap_i64]; omega
   have h2 : (a : Int) + 1 + ((s.thn.pts : Nat) : Int) ≤ (most : Int) := by omega
   have wr2 : IntKind.i64.wrap ((most : Int) - ((a : Int) + 1 + ((s.thn.pts : Nat) : Int))) = (r' : Int) := by rw [IntKind.wrap_i64]; omega
   have wk2 : IntKind.i64.wrap ((a : Int) + 1 + ((s.thn.pts : Nat) : Int) + ((s.els.pts : Nat) : Int)) = ((a + 1 + s.thn.pts + s.els.pts : Nat) : Int) := by rw [IntKind.wrap_i64]; omega
   have hI2 : Hid (a + 1 + s.thn.pts + s.els.pts + (f.drop (j + 1)).pts = C) := by show _ = _; omega
   clear hTj hT lc hal hf hq hI b40 hr hr' t0 t1 t2 t3 t4 t5 k0 k1 k2 k3 k4 k5 k6 k7 k8 k9 k10 k11 k12 k13 k14
   generalize s.thn.len = n4 at *
   generalize s.els.len = n5 at *
   generalize s.thn.pts = nt at *
   generalize s.els.pts = ne at *
   generalize u + j * 17 = o at *
   go_wp2_with (first
    | (go_at_call 23; (first | (refine kA.mono ?_; clear kA; rintro e v1 ⟨rfl, g3⟩; replace k15 := pb_cell g3 k15; replace k16 := pb_cell g3 k16) | (refine (kB _ g3).mono ?_; clear kB; rintro e v2 ⟨rfl, g4⟩)))
    | fail)
   refine ⟨⟨j + 1, a + 1 + nt + ne, v2, by go_num, by first | rfl | go_num, rfl, pb_call gV.out (pb_call g3 g4), hI2, by omega⟩, by simp [intOf]; omega⟩
  ·obtain rfl : j = m := by omega
   have nn : ¬ ((j : Int) < (j : Int)) := by omega
   rw [← hm'.out, So.drop_end] at hq
   obtain rfl : a = C := by rw [← hq]; rfl
   have g' := gV.out
   clear hI hq
   go_wp2_with fail
   go_ret
   exact ⟨rfl, g'⟩
theorem sz_of : ∀ f : So, f.wt ≤ 1099511627776 → f.all (fun s => SzB s.thn ∧ SzB s.els)
 | .nil, _ => trivial
 | .cons d nm ix v l h t e r, hw => by
  have w1 : nm.size + ix.wt + (v.row .nil).wt + (l.row .nil).wt + (h.row .nil).wt + t.wt + e.wt + r.wt + 1 ≤ 1099511627776 := hw
  have a := so_len_wt t
  have b := so_len_wt e
  exact ⟨⟨szS t (sz_of t (by omega)) (by omega), szS e (sz_of e (by omega)) (by omega)⟩, sz_of r (by omega)⟩
end Go.Proofs.YtknoibocpbfmmaaGreatDoor



namespace Go.Proofs.YtknoibocpbfmmaaGreatDoor
open Go.RowKit
set_option linter.unusedVariables false
set_option linter.unusedSimpArgs false
end Go.Proofs.YtknoibocpbfmmaaGreatDoor



