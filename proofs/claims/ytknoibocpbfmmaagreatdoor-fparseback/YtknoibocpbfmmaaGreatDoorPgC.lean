/- plumblineref05: is an expression right? -/
import Derived.Test.YtknoibocpbfmmaaGreatDoorPgB
import Derived.Test.YtknoibocpbfmmaaGreatDoorFxU
import Derived.Test.YtknoibocpbfmmaaGreatDoorFxTs
namespace Go.Proofs.YtknoibocpbfmmaaGreatDoor
open Go.RowKit
set_option linter.unusedVariables false
set_option linter.unusedSimpArgs false
theorem cnt_Dg : ∀ {l : List UInt8}, (∀ b ∈ l, 48 ≤ b.toNat ∧ b.toNat ≤ 57) → cnt 4 l = l.length
  | [], _ => rfl
  | b :: t, h => by
    have k := kb4' (h b (by simp))
    have ih := cnt_Dg (l := t) fun x hx => h x (by simp [hx])
    rw [cnt, k, ih]
    rfl
theorem isI_Dg {l : List UInt8} (h : Dg l) : isI l = true := by
  unfold isI
  rw [cnt_Dg h.2]
  cases l with
  | nil => exact absurd rfl h.1
  | cons b t => simp
theorem tilP_Dg : ∀ {D : List UInt8} (E : List UInt8), (∀ b ∈ D, 48 ≤ b.toNat ∧ b.toNat ≤ 57) → tilP (D ++ 46 :: E) = D.length
  | [], E, _ => by show tilP (46 :: E) = 0; rw [tilP, if_pos rfl]
  | b :: t, E, h => by
    have hb := h b (by simp)
    have ne : ¬ b = 46 := fun e => by rw [e] at hb; have : (46 : UInt8).toNat = 46 := rfl; omega
    show tilP (b :: (t ++ 46 :: E)) = t.length + 1
    rw [tilP, if_neg ne, tilP_Dg E fun x hx => h x (by simp [hx])]
/-- A number is one by the reference, too. -/
theorem num_ref {s : ByteArray} (h : isNum s = true) : isI s.toList = true ∨ isI s.toList = false ∧ isRl s.toList = true := by
  cases hI : isI s.toList with
  | true => exact Or.inl rfl
  | false =>
    refine Or.inr ⟨rfl, ?_⟩
    obtain ⟨k, hk, ht, hn⟩ := num_tok h
    rw [toL] at hI ⊢
    rcases shape ht (by omega) with ⟨_, hD⟩ | ⟨_, D, E, e, hD, hE⟩ | ⟨h3, h4, _⟩
    · rw [isI_Dg hD] at hI; cases hI
    · rw [e]
      have e3 : (D ++ 46 :: E).drop (D.length + 1) = E := by
        rw [List.drop_append, List.drop_eq_nil_of_le (by omega), Nat.add_sub_cancel_left]
        rfl
      have e4 : (D ++ 46 :: E).take D.length = D := List.take_left' rfl
      unfold isRl
      rw [tilP_Dg E hD.2, e3, e4, isI_Dg hD, isI_Dg hE]
      simp
    · omega
def SeA (e : Ex) : Prop := ∀ (S : Nat → Prop) (pp : Option Addr) (qq : Nat) (w : World), SlF w S (.slice pp e.ks.len qq) e.ks →
  Calls Tryz.prog 87 #[.agg #[.int .i64 e.op, .string e.tx, .int .i64 e.ty, .slice pp e.ks.len qq]] w fun r w' => r = .returned (.bool true) ∧ Below w.heap.size w w'
set_option maxRecDepth 100000 in
set_option maxHeartbeats 6400000 in
theorem se_1 (tx : ByteArray) (h : isNum tx = true) : SeA ⟨1, tx, 0, .nil⟩ := by
  intro S pp qq w hT
  have hz := num_size h
  have kI := fun V => rIsInt_any tx (by omega) V
  have kR := fun V => rIsReal_any tx (by omega) V
  have hn := num_ref h
  show Calls Tryz.prog 87 #[.agg #[.int .i64 1, .string tx, .int .i64 0, .slice pp 0 qq]] w _
  have g1 := pb_new (Below.refl w.heap.size w) (.cells #[.int .i64 1, .string tx, .int .i64 0, .slice pp 0 qq] 85)
  obtain ⟨X, hX⟩ : ∃ X, w.alloc (.cells #[.int .i64 1, .string tx, .int .i64 0, .slice pp 0 qq] 85) = X := ⟨_, rfl⟩
  have qX : X.heap[w.heap.size]? = some (.cells #[.int .i64 1, .string tx, .int .i64 0, .slice pp 0 qq] 85 (0, 0)) := by rw [← hX]; exact World.alloc_heap_new _ _
  rw [hX] at g1
  obtain ⟨b2, hb2⟩ : ∃ b, w.heap.size = b := ⟨_, rfl⟩
  rw [hb2] at qX
  obtain ⟨f0, f1, f2, f3, ff⟩ := ex_cells qX
  have hX' : Hid (w.alloc (.cells #[.int .i64 1, .string tx, .int .i64 0, .slice pp 0 qq] 85) = X) := hX
  have hb2' : Hid (w.heap.size = b2) := hb2
  have gX : Hid (Below w.heap.size w X) := g1
  clear hX hb2 qX g1 hT h hz
  generalize isI tx.toList = I1 at *
  generalize isRl tx.toList = I2 at *
  rcases hn with rfl | ⟨rfl, rfl⟩
  · clear kR
    go_enter Tryz.func87, Tryz.ntmps87
    go_upto_region 1 with fail
    rw [hX'.out]
    (try rw [hb2'.out])
    clear hX' hb2'
    go_wp2_with (first
      | (go_at_call 99; (refine (kI _).mono ?_); rintro e v1 ⟨rfl, g3⟩; replace f0 := pb_cell g3 f0; replace f1 := pb_cell g3 f1; replace f2 := pb_cell g3 f2; replace f3 := pb_cell g3 f3)
      | fail)
    refine wp_loop_rounds 1 ?_
    rw [rounds_succ]
    go_wp2_with fail
    go_ret
    exact ⟨rfl, pb_call gX.out g3⟩
  · skip
    go_enter Tryz.func87, Tryz.ntmps87
    go_upto_region 1 with fail
    rw [hX'.out]
    (try rw [hb2'.out])
    clear hX' hb2'
    go_wp2_with (first
      | (go_at_call 99; (refine (kI _).mono ?_); rintro e v1 ⟨rfl, g3⟩; replace f0 := pb_cell g3 f0; replace f1 := pb_cell g3 f1; replace f2 := pb_cell g3 f2; replace f3 := pb_cell g3 f3)
      | (go_at_call 100; (refine (kR _).mono ?_); rintro e v2 ⟨rfl, g4⟩; replace f0 := pb_cell g4 f0; replace f1 := pb_cell g4 f1; replace f2 := pb_cell g4 f2; replace f3 := pb_cell g4 f3)
      | fail)
    refine wp_loop_rounds 1 ?_
    rw [rounds_succ]
    go_wp2_with fail
    go_ret
    exact ⟨rfl, pb_call gX.out (pb_call g3 g4)⟩
set_option maxRecDepth 100000 in
set_option maxHeartbeats 6400000 in
theorem se_2 (tx : ByteArray) (h : isN tx.toList = true) : SeA ⟨2, tx, 0, .nil⟩ := by
  intro S pp qq w hT
  have kN := fun V => rIsName_any tx V
  rw [h] at kN
  show Calls Tryz.prog 87 #[.agg #[.int .i64 2, .string tx, .int .i64 0, .slice pp 0 qq]] w _
  have g1 := pb_new (Below.refl w.heap.size w) (.cells #[.int .i64 2, .string tx, .int .i64 0, .slice pp 0 qq] 85)
  obtain ⟨X, hX⟩ : ∃ X, w.alloc (.cells #[.int .i64 2, .string tx, .int .i64 0, .slice pp 0 qq] 85) = X := ⟨_, rfl⟩
  have qX : X.heap[w.heap.size]? = some (.cells #[.int .i64 2, .string tx, .int .i64 0, .slice pp 0 qq] 85 (0, 0)) := by rw [← hX]; exact World.alloc_heap_new _ _
  rw [hX] at g1
  obtain ⟨b2, hb2⟩ : ∃ b, w.heap.size = b := ⟨_, rfl⟩
  rw [hb2] at qX
  obtain ⟨f0, f1, f2, f3, ff⟩ := ex_cells qX
  have hX' : Hid (w.alloc (.cells #[.int .i64 2, .string tx, .int .i64 0, .slice pp 0 qq] 85) = X) := hX
  have hb2' : Hid (w.heap.size = b2) := hb2
  have gX : Hid (Below w.heap.size w X) := g1
  clear hX hb2 qX g1 hT h
  go_enter Tryz.func87, Tryz.ntmps87
  go_upto_region 1 with fail
  rw [hX'.out]
  (try rw [hb2'.out])
  clear hX' hb2'
  go_wp2_with (first
    | (go_at_call 25; (refine (kN _).mono ?_); rintro e v1 ⟨rfl, g3⟩; replace f0 := pb_cell g3 f0; replace f1 := pb_cell g3 f1; replace f2 := pb_cell g3 f2; replace f3 := pb_cell g3 f3)
    | fail)
  refine wp_loop_rounds 1 ?_
  rw [rounds_succ]
  go_wp2_with fail
  go_ret
  exact ⟨rfl, pb_call gX.out g3⟩
set_option maxRecDepth 100000 in
set_option maxHeartbeats 6400000 in
theorem se_3 (tx : ByteArray) (h : isN tx.toList = true) (a : Int) (b1 : ByteArray) (c1 : Int) (k : Fo) (kA : SeA ⟨a, b1, c1, k⟩) : SeA ⟨3, tx, 0, .cons a b1 c1 k .nil⟩ := by
  intro S pp qq w hT
  have kN := fun V => rIsName_any tx V
  rw [h] at kN
  show Calls Tryz.prog 87 #[.agg #[.int .i64 3, .string (tx), .int .i64 0, .slice pp 1 qq]] w _
  have g1 := pb_new (Below.refl w.heap.size w) (.cells #[.int .i64 3, .string (tx), .int .i64 0, .slice pp 1 qq] 85)
  obtain ⟨X, hX⟩ : ∃ X, w.alloc (.cells #[.int .i64 3, .string (tx), .int .i64 0, .slice pp 1 qq] 85) = X := ⟨_, rfl⟩
  have qX : X.heap[w.heap.size]? = some (.cells #[.int .i64 3, .string (tx), .int .i64 0, .slice pp 1 qq] 85 (0, 0)) := by rw [← hX]; exact World.alloc_heap_new _ _
  rw [hX] at g1
  obtain ⟨b2, hb2⟩ : ∃ b, w.heap.size = b := ⟨_, rfl⟩
  rw [hb2] at qX
  obtain ⟨f0, f1, f2, f3, ff⟩ := ex_cells qX
  have hX' : Hid (w.alloc (.cells #[.int .i64 3, .string (tx), .int .i64 0, .slice pp 1 qq] 85) = X) := hX
  have hb2' : Hid (w.heap.size = b2) := hb2
  have gX : Hid (Below w.heap.size w X) := g1
  obtain ⟨p2, q2, e2, hK⟩ := hT
  obtain ⟨rfl, e4, rfl⟩ := Value.slice.inj e2
  clear e2 e4
  rcases hK with hK | ⟨c, u, rfl, hK⟩
  · cases hK
  have hK := hK.kp (Below.kp gX.out _)
  obtain ⟨⟨k0, k1, k2, s3, k3, hs3⟩, _, lc⟩ := hK.head
  obtain ⟨p3, q3, rfl, hs3'⟩ := hs3
  simp only at k0 k1 k2 k3 hs3'
  have hs3 : SlF X S (.slice p3 k.len q3) k := ⟨p3, q3, rfl, hs3'⟩
  have kE := fun V (g : Below X.heap.size X V) => kA S p3 q3 V (hs3.kp (Below.kp g _))
  simp only at kE
  have ix := (fun V => ex_ix c u 1 qq 0 (by decide) V)
  clear hX hb2 qX g1 hK hs3 hs3' kA
  simp only [Nat.zero_mul, Nat.add_zero] at ix
  generalize k.len = n3 at *
  · skip
    go_enter Tryz.func87, Tryz.ntmps87
    go_upto_region 1 with fail
    rw [hX'.out]
    (try rw [hb2'.out])
    clear hX' hb2'
    go_wp2_with (first
      | (go_at_call 25; (refine (kN _).mono ?_); rintro e v1 ⟨rfl, g3⟩; have gg := g3; replace f0 := pb_cell g3 f0; replace f1 := pb_cell g3 f1; replace f2 := pb_cell g3 f2; replace f3 := pb_cell g3 f3; replace k0 := pb_cell g3 k0; replace k1 := pb_cell g3 k1; replace k2 := pb_cell g3 k2; replace k3 := pb_cell g3 k3)
      | fail)
    refine wp_loop_rounds 2 ?_
    rw [rounds_succ]
    go_wp2_with (first
      | (go_at_call 87; (refine (kE _ gg).mono ?_); rintro e v2 ⟨rfl, g4⟩; replace f3 := pb_cell g4 f3)
      | fail)
    rw [rounds_succ]
    go_wp2_with fail
    go_ret
    exact ⟨rfl, pb_call gX.out (pb_call gg g4)⟩
set_option maxRecDepth 100000 in
set_option maxHeartbeats 6400000 in
theorem se_7 (ty : Int) (h : 1 ≤ ty ∧ ty ≤ 3) (a : Int) (b1 : ByteArray) (c1 : Int) (k : Fo) (kA : SeA ⟨a, b1, c1, k⟩) : SeA ⟨7, tx0, ty, .cons a b1 c1 k .nil⟩ := by
  intro S pp qq w hT
  have y1 : ¬ ty < 1 := by omega
  have y2 : ¬ 3 < ty := by omega
  have y3 : decide (ty < 1) = false := decide_eq_false y1
  have y4 : decide (3 < ty) = false := decide_eq_false y2
  show Calls Tryz.prog 87 #[.agg #[.int .i64 7, .string tx0, .int .i64 ty, .slice pp 1 qq]] w _
  have g1 := pb_new (Below.refl w.heap.size w) (.cells #[.int .i64 7, .string tx0, .int .i64 ty, .slice pp 1 qq] 85)
  obtain ⟨X, hX⟩ : ∃ X, w.alloc (.cells #[.int .i64 7, .string tx0, .int .i64 ty, .slice pp 1 qq] 85) = X := ⟨_, rfl⟩
  have qX : X.heap[w.heap.size]? = some (.cells #[.int .i64 7, .string tx0, .int .i64 ty, .slice pp 1 qq] 85 (0, 0)) := by rw [← hX]; exact World.alloc_heap_new _ _
  rw [hX] at g1
  obtain ⟨b2, hb2⟩ : ∃ b, w.heap.size = b := ⟨_, rfl⟩
  rw [hb2] at qX
  obtain ⟨f0, f1, f2, f3, ff⟩ := ex_cells qX
  have hX' : Hid (w.alloc (.cells #[.int .i64 7, .string tx0, .int .i64 ty, .slice pp 1 qq] 85) = X) := hX
  have hb2' : Hid (w.heap.size = b2) := hb2
  have gX : Hid (Below w.heap.size w X) := g1
  obtain ⟨p2, q2, e2, hK⟩ := hT
  obtain ⟨rfl, e4, rfl⟩ := Value.slice.inj e2
  clear e2 e4
  rcases hK with hK | ⟨c, u, rfl, hK⟩
  · cases hK
  have hK := hK.kp (Below.kp gX.out _)
  obtain ⟨⟨k0, k1, k2, s3, k3, hs3⟩, _, lc⟩ := hK.head
  obtain ⟨p3, q3, rfl, hs3'⟩ := hs3
  simp only at k0 k1 k2 k3 hs3'
  have hs3 : SlF X S (.slice p3 k.len q3) k := ⟨p3, q3, rfl, hs3'⟩
  have kE := fun V (g : Below X.heap.size X V) => kA S p3 q3 V (hs3.kp (Below.kp g _))
  simp only at kE
  have ix := (fun V => ex_ix c u 1 qq 0 (by decide) V)
  clear hX hb2 qX g1 hK hs3 hs3' kA
  simp only [Nat.zero_mul, Nat.add_zero] at ix
  generalize k.len = n3 at *
  · skip
    go_enter Tryz.func87, Tryz.ntmps87
    go_upto_region 1 with fail
    rw [hX'.out]
    (try rw [hb2'.out])
    clear hX' hb2'
    have gg := Below.refl X.heap.size X
    go_wp2_with (first
      | fail)
    refine wp_loop_rounds 2 ?_
    rw [rounds_succ]
    go_wp2_with (first
      | (go_at_call 87; (refine (kE _ gg).mono ?_); rintro e v2 ⟨rfl, g4⟩; replace f3 := pb_cell g4 f3)
      | fail)
    rw [rounds_succ]
    go_wp2_with fail
    go_ret
    exact ⟨rfl, pb_call gX.out (pb_call gg g4)⟩
set_option maxRecDepth 100000 in
set_option maxHeartbeats 6400000 in
theorem se_k (op : Int) (hop : op = 4 ∨ op = 20 ∨ op = 5 ∨ op = 6) (a : Int) (b1 : ByteArray) (c1 : Int) (k : Fo) (kA : SeA ⟨a, b1, c1, k⟩) : SeA ⟨op, tx0, 0, (.cons a b1 c1 k .nil)⟩ := by
  intro S pp qq w hT
  show Calls Tryz.prog 87 #[.agg #[.int .i64 op, .string tx0, .int .i64 0, .slice pp 1 qq]] w _
  have g1 := pb_new (Below.refl w.heap.size w) (.cells #[.int .i64 op, .string tx0, .int .i64 0, .slice pp 1 qq] 85)
  obtain ⟨X, hX⟩ : ∃ X, w.alloc (.cells #[.int .i64 op, .string tx0, .int .i64 0, .slice pp 1 qq] 85) = X := ⟨_, rfl⟩
  have qX : X.heap[w.heap.size]? = some (.cells #[.int .i64 op, .string tx0, .int .i64 0, .slice pp 1 qq] 85 (0, 0)) := by rw [← hX]; exact World.alloc_heap_new _ _
  rw [hX] at g1
  obtain ⟨b2, hb2⟩ : ∃ b, w.heap.size = b := ⟨_, rfl⟩
  rw [hb2] at qX
  obtain ⟨f0, f1, f2, f3, ff⟩ := ex_cells qX
  have hX' : Hid (w.alloc (.cells #[.int .i64 op, .string tx0, .int .i64 0, .slice pp 1 qq] 85) = X) := hX
  have hb2' : Hid (w.heap.size = b2) := hb2
  have gX : Hid (Below w.heap.size w X) := g1
  obtain ⟨p2, q2, e2, hK⟩ := hT
  obtain ⟨rfl, e4, rfl⟩ := Value.slice.inj e2
  clear e2 e4
  rcases hK with hK | ⟨c, u, rfl, hK⟩
  · cases hK
  have hK := hK.kp (Below.kp gX.out _)
  obtain ⟨⟨k0, k1, k2, s3, k3, hs3⟩, _, lc⟩ := hK.head
  obtain ⟨p3, q3, rfl, hs3'⟩ := hs3
  simp only at k0 k1 k2 k3 hs3'
  have hs3 : SlF X S (.slice p3 k.len q3) k := ⟨p3, q3, rfl, hs3'⟩
  have kE := fun V (g : Below X.heap.size X V) => kA S p3 q3 V (hs3.kp (Below.kp g _))
  simp only at kE
  have ix := (fun V => ex_ix c u 1 qq 0 (by decide) V)
  clear hX hb2 qX g1 hK hs3 hs3' kA 
  simp only [Nat.zero_mul, Nat.add_zero] at ix
  generalize k.len = n3 at *
  skip
  have gg := Below.refl X.heap.size X
  rcases hop with rfl | rfl | rfl | rfl <;> (
     go_enter Tryz.func87, Tryz.ntmps87
     go_upto_region 1 with fail
     rw [hX'.out]
     (try rw [hb2'.out])
     clear hX' hb2'
     go_wp2_with fail
     refine wp_loop_rounds 2 ?_
     rw [rounds_succ]
     go_wp2_with (first
       | (go_at_call 87; (refine (kE _ gg).mono ?_); rintro e v2 ⟨rfl, g4⟩; replace f3 := pb_cell g4 f3)
       | fail)
     rw [rounds_succ]
     go_wp2_with fail
     go_ret
     exact ⟨rfl, pb_call gX.out (pb_call gg g4)⟩)
set_option maxRecDepth 100000 in
set_option maxHeartbeats 6400000 in
theorem se_o (op : Int) (hop : op = 8 ∨ op = 9 ∨ op = 10 ∨ op = 11 ∨ op = 12 ∨ op = 13 ∨ op = 14 ∨ op = 15 ∨ op = 16 ∨ op = 17 ∨ op = 18 ∨ op = 19) (a : Int) (b1 : ByteArray) (c1 : Int) (k : Fo) (a' : Int) (b1' : ByteArray) (c1' : Int) (k' : Fo) (kA : SeA ⟨a, b1, c1, k⟩) (kB : SeA ⟨a', b1', c1', k'⟩) : SeA ⟨op, tx0, 0, (.cons a b1 c1 k (.cons a' b1' c1' k' .nil))⟩ := by
  intro S pp qq w hT
  show Calls Tryz.prog 87 #[.agg #[.int .i64 op, .string tx0, .int .i64 0, .slice pp 2 qq]] w _
  have g1 := pb_new (Below.refl w.heap.size w) (.cells #[.int .i64 op, .string tx0, .int .i64 0, .slice pp 2 qq] 85)
  obtain ⟨X, hX⟩ : ∃ X, w.alloc (.cells #[.int .i64 op, .string tx0, .int .i64 0, .slice pp 2 qq] 85) = X := ⟨_, rfl⟩
  have qX : X.heap[w.heap.size]? = some (.cells #[.int .i64 op, .string tx0, .int .i64 0, .slice pp 2 qq] 85 (0, 0)) := by rw [← hX]; exact World.alloc_heap_new _ _
  rw [hX] at g1
  obtain ⟨b2, hb2⟩ : ∃ b, w.heap.size = b := ⟨_, rfl⟩
  rw [hb2] at qX
  obtain ⟨f0, f1, f2, f3, ff⟩ := ex_cells qX
  have hX' : Hid (w.alloc (.cells #[.int .i64 op, .string tx0, .int .i64 0, .slice pp 2 qq] 85) = X) := hX
  have hb2' : Hid (w.heap.size = b2) := hb2
  have gX : Hid (Below w.heap.size w X) := g1
  obtain ⟨p2, q2, e2, hK⟩ := hT
  obtain ⟨rfl, e4, rfl⟩ := Value.slice.inj e2
  clear e2 e4
  rcases hK with hK | ⟨c, u, rfl, hK⟩
  · cases hK
  have hK := hK.kp (Below.kp gX.out _)
  obtain ⟨⟨k0, k1, k2, s3, k3, hs3⟩, REST2, lc⟩ := hK.head
  obtain ⟨p3, q3, rfl, hs3'⟩ := hs3
  simp only at k0 k1 k2 k3 hs3'
  have hs3 : SlF X S (.slice p3 k.len q3) k := ⟨p3, q3, rfl, hs3'⟩
  have kE := fun V (g : Below X.heap.size X V) => kA S p3 q3 V (hs3.kp (Below.kp g _))
  simp only at kE
  obtain ⟨⟨l0, l1, l2, s4, l3, hs4⟩, _, _⟩ := REST2.head
  obtain ⟨p4, q4, rfl, hs4'⟩ := hs4
  simp only at l0 l1 l2 l3 hs4'
  have hs4 : SlF X S (.slice p4 k'.len q4) k' := ⟨p4, q4, rfl, hs4'⟩
  have kF := fun V (g : Below X.heap.size X V) => kB S p4 q4 V (hs4.kp (Below.kp g _))
  simp only at kF
  have iy := (fun V => ex_ix c u 2 qq 1 (by decide) V)
  simp only [Nat.one_mul] at iy
  have ix := (fun V => ex_ix c u 2 qq 0 (by decide) V)
  clear hX hb2 qX g1 hK hs3 hs3' kA REST2 hs4 hs4' kB
  simp only [Nat.zero_mul, Nat.add_zero] at ix
  generalize k.len = n3 at *
  generalize k'.len = n4 at *
  have gg := Below.refl X.heap.size X
  rcases hop with rfl | rfl | rfl | rfl | rfl | rfl | rfl | rfl | rfl | rfl | rfl | rfl <;> (
     go_enter Tryz.func87, Tryz.ntmps87
     go_upto_region 1 with fail
     rw [hX'.out]
     (try rw [hb2'.out])
     clear hX' hb2'
     go_wp2_with fail
     refine wp_loop_rounds 3 ?_
     rw [rounds_succ]
     go_wp2_with (first
       | (go_at_call 87; (refine (kE _ gg).mono ?_); rintro e v2 ⟨rfl, g4⟩; replace f3 := pb_cell g4 f3; replace l0 := pb_cell g4 l0; replace l1 := pb_cell g4 l1; replace l2 := pb_cell g4 l2; replace l3 := pb_cell g4 l3)
       | fail)
     rw [rounds_succ]
     go_wp2_with (first
       | (go_at_call 87; (refine (kF _ (pb_call gg g4)).mono ?_); rintro e v3 ⟨rfl, g5⟩; replace f3 := pb_cell g5 f3)
       | fail)
     rw [rounds_succ]
     go_wp2_with fail
     go_ret
     exact ⟨rfl, pb_call gX.out (pb_call (pb_call gg g4) g5)⟩)
/-- All right expressions of a tree. -/
theorem se_of : ∀ f : Fo, f.oks → f.all SeA
  | .nil, _ => trivial
  | .cons op tx ty ks r, h => by
    have ih := se_of ks h.2.1
    refine ⟨?_, se_of r h.2.2⟩
    rcases ok_cases h.1 with ⟨rfl, hn, rfl, h0⟩ | ⟨rfl, hn, rfl, h0⟩ | ⟨rfl, hn, rfl, h1⟩ | ⟨rfl, rfl, ht, h1⟩ | ⟨hop, rfl, rfl, h1⟩ | ⟨hop, rfl, rfl, h2⟩
    · obtain rfl := len0 h0
      exact se_1 tx hn
    · obtain rfl := len0 h0
      exact se_2 tx hn
    · obtain ⟨a, b, c, k, rfl⟩ := len1 h1
      exact se_3 tx hn a b c k ih.1
    · obtain ⟨a, b, c, k, rfl⟩ := len1 h1
      exact se_7 ty ht a b c k ih.1
    · obtain ⟨a, b, c, k, rfl⟩ := len1 h1
      exact se_k op hop a b c k ih.1
    · obtain ⟨a, b, c, k, a', b', c', k', rfl⟩ := len2 h2
      exact se_o op (op_range hop) a b c k a' b' c' k' ih.1 ih.2.1
end Go.Proofs.YtknoibocpbfmmaaGreatDoor

