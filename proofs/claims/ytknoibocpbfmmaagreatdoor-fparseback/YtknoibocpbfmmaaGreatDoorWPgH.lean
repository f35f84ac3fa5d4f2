/- plumblineref05: is a statement right? -/
import Derived.Test.YtknoibocpbfmmaaGreatDoorWG25
namespace Go.Proofs.YtknoibocpbfmmaaGreatDoor
open Go.RowKit
set_option linter.unusedVariables false
set_option linter.unusedSimpArgs false
/-- A right expression, for RightExpr. -/
def ReX (e : Ex) : Prop := (e.row .nil).oks ∧ (e.row .nil).wt ≤ 549755813888 ∧ e.ks.cnt + 1 ≤ 2048 ∧ e.ks.dep + 1 ≤ 24
theorem wn1 {n : Nat} (h : n ≤ 100) : IntKind.i64.wrap ((n : Int) + 1) = (n : Int) + 1 := by rw [IntKind.wrap_i64]; omega
set_option maxRecDepth 100000 in
set_option maxHeartbeats 6400000 in
theorem rs_w (v : Ex) (hv : ReX v) (t : So) (hA : t.all RsT) (hz : t.len ≤ 1099511627776) : RsT ⟨4, tx0, .nil, v, exN, exN, t, .nil⟩ := by
 intro n S p0 q0 p1 q1 p2 q2 p3 q3 p4 q4 p5 q5 w hn ht he hT
 obtain ⟨t0, t1, t2, t3, t4, t5⟩ := hT
 show Calls Tryz.prog 47 #[.agg #[.int .i64 4, .string tx0, .slice p0 0 q0, .int .i64 v.op, .string v.tx, .int .i64 v.ty, .slice p1 v.ks.len q1, .int .i64 0, .string tx0, .int .i64 0, .slice p2 0 q2, .int .i64 0, .string tx0, .int .i64 0, .slice p3 0 q3, .slice p4 t.len q4, .slice p5 0 q5], .int .i64 (n : Int)] w _
 have wn := wn1 (n := n) (by omega)
 have g1 := pb_new (Below.refl w.heap.size w) (.cells #[.int .i64 4, .string tx0, .slice p0 0 q0, .int .i64 v.op, .string v.tx, .int .i64 v.ty, .slice p1 v.ks.len q1, .int .i64 0, .string tx0, .int .i64 0, .slice p2 0 q2, .int .i64 0, .string tx0, .int .i64 0, .slice p3 0 q3, .slice p4 t.len q4, .slice p5 0 q5] 87)
 obtain ⟨X, hX⟩ : ∃ X, w.alloc (.cells #[.int .i64 4, .string tx0, .slice p0 0 q0, .int .i64 v.op, .string v.tx, .int .i64 v.ty, .slice p1 v.ks.len q1, .int .i64 0, .string tx0, .int .i64 0, .slice p2 0 q2, .int .i64 0, .string tx0, .int .i64 0, .slice p3 0 q3, .slice p4 t.len q4, .slice p5 0 q5] 87) = X := ⟨_, rfl⟩
 have qX : X.heap[w.heap.size]? = some (.cells #[.int .i64 4, .string tx0, .slice p0 0 q0, .int .i64 v.op, .string v.tx, .int .i64 v.ty, .slice p1 v.ks.len q1, .int .i64 0, .string tx0, .int .i64 0, .slice p2 0 q2, .int .i64 0, .string tx0, .int .i64 0, .slice p3 0 q3, .slice p4 t.len q4, .slice p5 0 q5] 87 (0, 0)) := by rw [← hX]; exact World.alloc_heap_new _ _
 rw [hX] at g1
 obtain ⟨b2, hb2⟩ : ∃ b, w.heap.size = b := ⟨_, rfl⟩
 rw [hb2] at qX
 obtain ⟨f0, f1, f2, f3, f4, f5, f6, f7, f8, f9, f10, f11, f12, f13, f14, f15, f16, ff⟩ := c17 qX
 clear ff
 have hall : ∀ V, Below X.heap.size X V → (V.cell? ⟨b2, 0, none⟩ = some (.int .i64 4) ∧ V.cell? ⟨b2, 1, none⟩ = some (.string tx0) ∧ V.cell? ⟨b2, 2, none⟩ = some (.slice p0 0 q0) ∧ V.cell? ⟨b2, 3, none⟩ = some (.int .i64 v.op) ∧ V.cell? ⟨b2, 4, none⟩ = some (.string v.tx) ∧ V.cell? ⟨b2, 5, none⟩ = some (.int .i64 v.ty) ∧ V.cell? ⟨b2, 6, none⟩ = some (.slice p1 v.ks.len q1) ∧ V.cell? ⟨b2, 7, none⟩ = some (.int .i64 0) ∧ V.cell? ⟨b2, 8, none⟩ = some (.string tx0) ∧ V.cell? ⟨b2, 9, none⟩ = some (.int .i64 0) ∧ V.cell? ⟨b2, 10, none⟩ = some (.slice p2 0 q2) ∧ V.cell? ⟨b2, 11, none⟩ = some (.int .i64 0) ∧ V.cell? ⟨b2, 12, none⟩ = some (.string tx0) ∧ V.cell? ⟨b2, 13, none⟩ = some (.int .i64 0) ∧ V.cell? ⟨b2, 14, none⟩ = some (.slice p3 0 q3) ∧ V.cell? ⟨b2, 15, none⟩ = some (.slice p4 t.len q4) ∧ V.cell? ⟨b2, 16, none⟩ = some (.slice p5 0 q5)) := fun V g => ⟨pb_cell g f0, pb_cell g f1, pb_cell g f2, pb_cell g f3, pb_cell g f4, pb_cell g f5, pb_cell g f6, pb_cell g f7, pb_cell g f8, pb_cell g f9, pb_cell g f10, pb_cell g f11, pb_cell g f12, pb_cell g f13, pb_cell g f14, pb_cell g f15, pb_cell g f16⟩
 have tk : ∀ V, Below X.heap.size X V → ∀ lo, Kp lo w V := fun V g lo => Below.kp (pb_call g1 g) lo
 have kM0 := fun V (g : Below X.heap.size X V) => rIsName_any tx0 V
 rw [show isN tx0.toList = false by decide +kernel] at kM0
 have k1 := fun V (g : Below X.heap.size X V) => rnone_yes p2 q2 V
 have k2 := fun V (g : Below X.heap.size X V) => rnone_yes p3 q3 V
 have kV := fun V (g : Below X.heap.size X V) => rright v hv.1 hv.2.1 hv.2.2.1 hv.2.2.2 S p1 q1 V (t1.kp (tk V g _))
 have kT : ∀ V, Below X.heap.size X V → Calls Tryz.prog 27 #[.slice p4 t.len q4, .int .i64 ((n : Int) + 1)] V fun r w' => r = .returned (.bool true) ∧ Below V.heap.size V w' := fun V g => rbB t hA hz (n + 1) (by omega) ht S p4 q4 V (t4.kp (tk V g _))
 have kE : ∀ V, Below X.heap.size X V → Calls Tryz.prog 27 #[.slice p5 0 q5, .int .i64 ((n : Int) + 1)] V fun r w' => r = .returned (.bool true) ∧ Below V.heap.size V w' := fun V g => rbB So.nil trivial (Nat.zero_le _) (n + 1) (by omega) (Or.inl rfl) S p5 q5 V (t5.kp (tk V g _))
 have gX : Hid (Below w.heap.size w X) := g1
 have hX' : Hid (w.alloc (.cells #[.int .i64 4, .string tx0, .slice p0 0 q0, .int .i64 v.op, .string v.tx, .int .i64 v.ty, .slice p1 v.ks.len q1, .int .i64 0, .string tx0, .int .i64 0, .slice p2 0 q2, .int .i64 0, .string tx0, .int .i64 0, .slice p3 0 q3, .slice p4 t.len q4, .slice p5 0 q5] 87) = X) := hX
 have hb2' : Hid (w.heap.size = b2) := hb2
 have gg := Below.refl X.heap.size X
 clear hX hb2 qX g1 t0 t1 t2 t3 t4 t5 tk hn ht he hv hA hz
 go_enter Tryz.func47, Tryz.ntmps47
 go_upto_region 1 with fail
 rw [hX'.out]
 (try rw [hb2'.out])
 clear hX' hb2'
 go_wp2_with (first
  | (go_at_call 46; (first | (refine (k1 _ gg).mono ?_; clear k1) | (refine (k2 _ gg).mono ?_; clear k2)); rintro e v1 ⟨rfl, g3⟩; replace gg := pb_call gg g3; clear f0 f1 f2 f3 f4 f5 f6 f7 f8 f9 f10 f11 f12 f13 f14 f15 f16 g3; obtain ⟨f0, f1, f2, f3, f4, f5, f6, f7, f8, f9, f10, f11, f12, f13, f14, f15, f16⟩ := hall _ gg)
  | (go_at_call 25; (first | (refine (kM0 _ gg).mono ?_; clear kM0)); rintro e v1 ⟨rfl, g3⟩; replace gg := pb_call gg g3; clear f0 f1 f2 f3 f4 f5 f6 f7 f8 f9 f10 f11 f12 f13 f14 f15 f16 g3; obtain ⟨f0, f1, f2, f3, f4, f5, f6, f7, f8, f9, f10, f11, f12, f13, f14, f15, f16⟩ := hall _ gg)
  | (go_at_call 64; (first | (refine (kV _ gg).mono ?_; clear kV)); rintro e v1 ⟨rfl, g3⟩; replace gg := pb_call gg g3; clear f0 f1 f2 f3 f4 f5 f6 f7 f8 f9 f10 f11 f12 f13 f14 f15 f16 g3; obtain ⟨f0, f1, f2, f3, f4, f5, f6, f7, f8, f9, f10, f11, f12, f13, f14, f15, f16⟩ := hall _ gg)
  | (go_at_call 27; (first | (refine (kT _ gg).mono ?_; clear kT) | (refine (kE _ gg).mono ?_; clear kE)); rintro e v1 ⟨rfl, g3⟩; replace gg := pb_call gg g3; clear f0 f1 f2 f3 f4 f5 f6 f7 f8 f9 f10 f11 f12 f13 f14 f15 f16 g3; obtain ⟨f0, f1, f2, f3, f4, f5, f6, f7, f8, f9, f10, f11, f12, f13, f14, f15, f16⟩ := hall _ gg)
  | fail)
 go_ret
 exact ⟨rfl, pb_call gX.out gg⟩
set_option maxRecDepth 100000 in
set_option maxHeartbeats 6400000 in
theorem rs_i (v : Ex) (hv : ReX v) (t : So) (hA : t.all RsT) (hz : t.len ≤ 1099511627776) (e : So) (hB : e.all RsT) (hy : e.len ≤ 1099511627776) : RsT ⟨3, tx0, .nil, v, exN, exN, t, e⟩ := by
 intro n S p0 q0 p1 q1 p2 q2 p3 q3 p4 q4 p5 q5 w hn ht he hT
 obtain ⟨t0, t1, t2, t3, t4, t5⟩ := hT
 show Calls Tryz.prog 47 #[.agg #[.int .i64 3, .string tx0, .slice p0 0 q0, .int .i64 v.op, .string v.tx, .int .i64 v.ty, .slice p1 v.ks.len q1, .int .i64 0, .string tx0, .int .i64 0, .slice p2 0 q2, .int .i64 0, .string tx0, .int .i64 0, .slice p3 0 q3, .slice p4 t.len q4, .slice p5 e.len q5], .int .i64 (n : Int)] w _
 have wn := wn1 (n := n) (by omega)
 have g1 := pb_new (Below.refl w.heap.size w) (.cells #[.int .i64 3, .string tx0, .slice p0 0 q0, .int .i64 v.op, .string v.tx, .int .i64 v.ty, .slice p1 v.ks.len q1, .int .i64 0, .string tx0, .int .i64 0, .slice p2 0 q2, .int .i64 0, .string tx0, .int .i64 0, .slice p3 0 q3, .slice p4 t.len q4, .slice p5 e.len q5] 87)
 obtain ⟨X, hX⟩ : ∃ X, w.alloc (.cells #[.int .i64 3, .string tx0, .slice p0 0 q0, .int .i64 v.op, .string v.tx, .int .i64 v.ty, .slice p1 v.ks.len q1, .int .i64 0, .string tx0, .int .i64 0, .slice p2 0 q2, .int .i64 0, .string tx0, .int .i64 0, .slice p3 0 q3, .slice p4 t.len q4, .slice p5 e.len q5] 87) = X := ⟨_, rfl⟩
 have qX : X.heap[w.heap.size]? = some (.cells #[.int .i64 3, .string tx0, .slice p0 0 q0, .int .i64 v.op, .string v.tx, .int .i64 v.ty, .slice p1 v.ks.len q1, .int .i64 0, .string tx0, .int .i64 0, .slice p2 0 q2, .int .i64 0, .string tx0, .int .i64 0, .slice p3 0 q3, .slice p4 t.len q4, .slice p5 e.len q5] 87 (0, 0)) := by rw [← hX]; exact World.alloc_heap_new _ _
 rw [hX] at g1
 obtain ⟨b2, hb2⟩ : ∃ b, w.heap.size = b := ⟨_, rfl⟩
 rw [hb2] at qX
 obtain ⟨f0, f1, f2, f3, f4, f5, f6, f7, f8, f9, f10, f11, f12, f13, f14, f15, f16, ff⟩ := c17 qX
 clear ff
 have hall : ∀ V, Below X.heap.size X V → (V.cell? ⟨b2, 0, none⟩ = some (.int .i64 3) ∧ V.cell? ⟨b2, 1, none⟩ = some (.string tx0) ∧ V.cell? ⟨b2, 2, none⟩ = some (.slice p0 0 q0) ∧ V.cell? ⟨b2, 3, none⟩ = some (.int .i64 v.op) ∧ V.cell? ⟨b2, 4, none⟩ = some (.string v.tx) ∧ V.cell? ⟨b2, 5, none⟩ = some (.int .i64 v.ty) ∧ V.cell? ⟨b2, 6, none⟩ = some (.slice p1 v.ks.len q1) ∧ V.cell? ⟨b2, 7, none⟩ = some (.int .i64 0) ∧ V.cell? ⟨b2, 8, none⟩ = some (.string tx0) ∧ V.cell? ⟨b2, 9, none⟩ = some (.int .i64 0) ∧ V.cell? ⟨b2, 10, none⟩ = some (.slice p2 0 q2) ∧ V.cell? ⟨b2, 11, none⟩ = some (.int .i64 0) ∧ V.cell? ⟨b2, 12, none⟩ = some (.string tx0) ∧ V.cell? ⟨b2, 13, none⟩ = some (.int .i64 0) ∧ V.cell? ⟨b2, 14, none⟩ = some (.slice p3 0 q3) ∧ V.cell? ⟨b2, 15, none⟩ = some (.slice p4 t.len q4) ∧ V.cell? ⟨b2, 16, none⟩ = some (.slice p5 e.len q5)) := fun V g => ⟨pb_cell g f0, pb_cell g f1, pb_cell g f2, pb_cell g f3, pb_cell g f4, pb_cell g f5, pb_cell g f6, pb_cell g f7, pb_cell g f8, pb_cell g f9, pb_cell g f10, pb_cell g f11, pb_cell g f12, pb_cell g f13, pb_cell g f14, pb_cell g f15, pb_cell g f16⟩
 have tk : ∀ V, Below X.heap.size X V → ∀ lo, Kp lo w V := fun V g lo => Below.kp (pb_call g1 g) lo
 have kM0 := fun V (g : Below X.heap.size X V) => rIsName_any tx0 V
 rw [show isN tx0.toList = false by decide +kernel] at kM0
 have k1 := fun V (g : Below X.heap.size X V) => rnone_yes p2 q2 V
 have k2 := fun V (g : Below X.heap.size X V) => rnone_yes p3 q3 V
 have kV := fun V (g : Below X.heap.size X V) => rright v hv.1 hv.2.1 hv.2.2.1 hv.2.2.2 S p1 q1 V (t1.kp (tk V g _))
 have kT : ∀ V, Below X.heap.size X V → Calls Tryz.prog 27 #[.slice p4 t.len q4, .int .i64 ((n : Int) + 1)] V fun r w' => r = .returned (.bool true) ∧ Below V.heap.size V w' := fun V g => rbB t hA hz (n + 1) (by omega) ht S p4 q4 V (t4.kp (tk V g _))
 have kE : ∀ V, Below X.heap.size X V → Calls Tryz.prog 27 #[.slice p5 e.len q5, .int .i64 ((n : Int) + 1)] V fun r w' => r = .returned (.bool true) ∧ Below V.heap.size V w' := fun V g => rbB e hB hy (n + 1) (by omega) he S p5 q5 V (t5.kp (tk V g _))
 have gX : Hid (Below w.heap.size w X) := g1
 have hX' : Hid (w.alloc (.cells #[.int .i64 3, .string tx0, .slice p0 0 q0, .int .i64 v.op, .string v.tx, .int .i64 v.ty, .slice p1 v.ks.len q1, .int .i64 0, .string tx0, .int .i64 0, .slice p2 0 q2, .int .i64 0, .string tx0, .int .i64 0, .slice p3 0 q3, .slice p4 t.len q4, .slice p5 e.len q5] 87) = X) := hX
 have hb2' : Hid (w.heap.size = b2) := hb2
 have gg := Below.refl X.heap.size X
 clear hX hb2 qX g1 t0 t1 t2 t3 t4 t5 tk hn ht he hv hA hz hB hy
 go_enter Tryz.func47, Tryz.ntmps47
 go_upto_region 1 with fail
 rw [hX'.out]
 (try rw [hb2'.out])
 clear hX' hb2'
 go_wp2_with (first
  | (go_at_call 46; (first | (refine (k1 _ gg).mono ?_; clear k1) | (refine (k2 _ gg).mono ?_; clear k2)); rintro e v1 ⟨rfl, g3⟩; replace gg := pb_call gg g3; clear f0 f1 f2 f3 f4 f5 f6 f7 f8 f9 f10 f11 f12 f13 f14 f15 f16 g3; obtain ⟨f0, f1, f2, f3, f4, f5, f6, f7, f8, f9, f10, f11, f12, f13, f14, f15, f16⟩ := hall _ gg)
  | (go_at_call 25; (first | (refine (kM0 _ gg).mono ?_; clear kM0)); rintro e v1 ⟨rfl, g3⟩; replace gg := pb_call gg g3; clear f0 f1 f2 f3 f4 f5 f6 f7 f8 f9 f10 f11 f12 f13 f14 f15 f16 g3; obtain ⟨f0, f1, f2, f3, f4, f5, f6, f7, f8, f9, f10, f11, f12, f13, f14, f15, f16⟩ := hall _ gg)
  | (go_at_call 64; (first | (refine (kV _ gg).mono ?_; clear kV)); rintro e v1 ⟨rfl, g3⟩; replace gg := pb_call gg g3; clear f0 f1 f2 f3 f4 f5 f6 f7 f8 f9 f10 f11 f12 f13 f14 f15 f16 g3; obtain ⟨f0, f1, f2, f3, f4, f5, f6, f7, f8, f9, f10, f11, f12, f13, f14, f15, f16⟩ := hall _ gg)
  | (go_at_call 27; (first | (refine (kT _ gg).mono ?_; clear kT) | (refine (kE _ gg).mono ?_; clear kE)); rintro e v1 ⟨rfl, g3⟩; replace gg := pb_call gg g3; clear f0 f1 f2 f3 f4 f5 f6 f7 f8 f9 f10 f11 f12 f13 f14 f15 f16 g3; obtain ⟨f0, f1, f2, f3, f4, f5, f6, f7, f8, f9, f10, f11, f12, f13, f14, f15, f16⟩ := hall _ gg)
  | fail)
 go_ret
 exact ⟨rfl, pb_call gX.out gg⟩
/-- A read's bound. -/
def RbX (e : Ex) : Prop := e.op ≠ 0 ∧ ∀ (S : Nat → Prop) (pp : Option Addr) (qq : Nat) (w : World), SlF w S (.slice pp e.ks.len qq) e.ks → Calls Tryz.prog 65 #[.agg #[.int .i64 e.op, .string e.tx, .int .i64 e.ty, .slice pp e.ks.len qq]] w fun r w' => r = .returned (.bool true) ∧ Below w.heap.size w w'
set_option maxRecDepth 100000 in
set_option maxHeartbeats 6400000 in
theorem rs_r (nm : ByteArray) (hnm : isN nm.toList = true) (l h : Ex) (hl : RbX l) (hh : RbX h) : RsT ⟨2, nm, .nil, exN, l, h, .nil, .nil⟩ := by
 intro n S p0 q0 p1 q1 p2 q2 p3 q3 p4 q4 p5 q5 w hn ht he hT
 obtain ⟨t0, t1, t2, t3, t4, t5⟩ := hT
 show Calls Tryz.prog 47 #[.agg #[.int .i64 2, .string nm, .slice p0 0 q0, .int .i64 0, .string tx0, .int .i64 0, .slice p1 0 q1, .int .i64 l.op, .string l.tx, .int .i64 l.ty, .slice p2 l.ks.len q2, .int .i64 h.op, .string h.tx, .int .i64 h.ty, .slice p3 h.ks.len q3, .slice p4 0 q4, .slice p5 0 q5], .int .i64 (n : Int)] w _
 have wn := wn1 (n := n) (by omega)
 have g1 := pb_new (Below.refl w.heap.size w) (.cells #[.int .i64 2, .string nm, .slice p0 0 q0, .int .i64 0, .string tx0, .int .i64 0, .slice p1 0 q1, .int .i64 l.op, .string l.tx, .int .i64 l.ty, .slice p2 l.ks.len q2, .int .i64 h.op, .string h.tx, .int .i64 h.ty, .slice p3 h.ks.len q3, .slice p4 0 q4, .slice p5 0 q5] 87)
 obtain ⟨X, hX⟩ : ∃ X, w.alloc (.cells #[.int .i64 2, .string nm, .slice p0 0 q0, .int .i64 0, .string tx0, .int .i64 0, .slice p1 0 q1, .int .i64 l.op, .string l.tx, .int .i64 l.ty, .slice p2 l.ks.len q2, .int .i64 h.op, .string h.tx, .int .i64 h.ty, .slice p3 h.ks.len q3, .slice p4 0 q4, .slice p5 0 q5] 87) = X := ⟨_, rfl⟩
 have qX : X.heap[w.heap.size]? = some (.cells #[.int .i64 2, .string nm, .slice p0 0 q0, .int .i64 0, .string tx0, .int .i64 0, .slice p1 0 q1, .int .i64 l.op, .string l.tx, .int .i64 l.ty, .slice p2 l.ks.len q2, .int .i64 h.op, .string h.tx, .int .i64 h.ty, .slice p3 h.ks.len q3, .slice p4 0 q4, .slice p5 0 q5] 87 (0, 0)) := by rw [← hX]; exact World.alloc_heap_new _ _
 rw [hX] at g1
 obtain ⟨b2, hb2⟩ : ∃ b, w.heap.size = b := ⟨_, rfl⟩
 rw [hb2] at qX
 obtain ⟨f0, f1, f2, f3, f4, f5, f6, f7, f8, f9, f10, f11, f12, f13, f14, f15, f16, ff⟩ := c17 qX
 clear ff
 have hall : ∀ V, Below X.heap.size X V → (V.cell? ⟨b2, 0, none⟩ = some (.int .i64 2) ∧ V.cell? ⟨b2, 1, none⟩ = some (.string nm) ∧ V.cell? ⟨b2, 2, none⟩ = some (.slice p0 0 q0) ∧ V.cell? ⟨b2, 3, none⟩ = some (.int .i64 0) ∧ V.cell? ⟨b2, 4, none⟩ = some (.string tx0) ∧ V.cell? ⟨b2, 5, none⟩ = some (.int .i64 0) ∧ V.cell? ⟨b2, 6, none⟩ = some (.slice p1 0 q1) ∧ V.cell? ⟨b2, 7, none⟩ = some (.int .i64 l.op) ∧ V.cell? ⟨b2, 8, none⟩ = some (.string l.tx) ∧ V.cell? ⟨b2, 9, none⟩ = some (.int .i64 l.ty) ∧ V.cell? ⟨b2, 10, none⟩ = some (.slice p2 l.ks.len q2) ∧ V.cell? ⟨b2, 11, none⟩ = some (.int .i64 h.op) ∧ V.cell? ⟨b2, 12, none⟩ = some (.string h.tx) ∧ V.cell? ⟨b2, 13, none⟩ = some (.int .i64 h.ty) ∧ V.cell? ⟨b2, 14, none⟩ = some (.slice p3 h.ks.len q3) ∧ V.cell? ⟨b2, 15, none⟩ = some (.slice p4 0 q4) ∧ V.cell? ⟨b2, 16, none⟩ = some (.slice p5 0 q5)) := fun V g => ⟨pb_cell g f0, pb_cell g f1, pb_cell g f2, pb_cell g f3, pb_cell g f4, pb_cell g f5, pb_cell g f6, pb_cell g f7, pb_cell g f8, pb_cell g f9, pb_cell g f10, pb_cell g f11, pb_cell g f12, pb_cell g f13, pb_cell g f14, pb_cell g f15, pb_cell g f16⟩
 have tk : ∀ V, Below X.heap.size X V → ∀ lo, Kp lo w V := fun V g lo => Below.kp (pb_call g1 g) lo
 have kM := fun V (g : Below X.heap.size X V) => rIsName_any nm V
 rw [hnm] at kM
 have k1 := fun V (g : Below X.heap.size X V) => rnone_no l.op hl.1 l.tx l.ty p2 l.ks.len q2 V
 have k2 := fun V (g : Below X.heap.size X V) => rnone_yes p1 q1 V
 have kL := fun V (g : Below X.heap.size X V) => hl.2 S p2 q2 V (t2.kp (tk V g _))
 have kH := fun V (g : Below X.heap.size X V) => hh.2 S p3 q3 V (t3.kp (tk V g _))
 have kT : ∀ V, Below X.heap.size X V → Calls Tryz.prog 27 #[.slice p4 0 q4, .int .i64 ((n : Int) + 1)] V fun r w' => r = .returned (.bool true) ∧ Below V.heap.size V w' := fun V g => rbB So.nil trivial (Nat.zero_le _) (n + 1) (by omega) (Or.inl rfl) S p4 q4 V (t4.kp (tk V g _))
 have kE : ∀ V, Below X.heap.size X V → Calls Tryz.prog 27 #[.slice p5 0 q5, .int .i64 ((n : Int) + 1)] V fun r w' => r = .returned (.bool true) ∧ Below V.heap.size V w' := fun V g => rbB So.nil trivial (Nat.zero_le _) (n + 1) (by omega) (Or.inl rfl) S p5 q5 V (t5.kp (tk V g _))
 have gX : Hid (Below w.heap.size w X) := g1
 have hX' : Hid (w.alloc (.cells #[.int .i64 2, .string nm, .slice p0 0 q0, .int .i64 0, .string tx0, .int .i64 0, .slice p1 0 q1, .int .i64 l.op, .string l.tx, .int .i64 l.ty, .slice p2 l.ks.len q2, .int .i64 h.op, .string h.tx, .int .i64 h.ty, .slice p3 h.ks.len q3, .slice p4 0 q4, .slice p5 0 q5] 87) = X) := hX
 have hb2' : Hid (w.heap.size = b2) := hb2
 have gg := Below.refl X.heap.size X
 clear hX hb2 qX g1 t0 t1 t2 t3 t4 t5 tk hn ht he hnm hl hh
 go_enter Tryz.func47, Tryz.ntmps47
 go_upto_region 1 with fail
 rw [hX'.out]
 (try rw [hb2'.out])
 clear hX' hb2'
 go_wp2_with (first
  | (go_at_call 46; (first | (refine (k1 _ gg).mono ?_; clear k1) | (refine (k2 _ gg).mono ?_; clear k2)); rintro e v1 ⟨rfl, g3⟩; replace gg := pb_call gg g3; clear f0 f1 f2 f3 f4 f5 f6 f7 f8 f9 f10 f11 f12 f13 f14 f15 f16 g3; obtain ⟨f0, f1, f2, f3, f4, f5, f6, f7, f8, f9, f10, f11, f12, f13, f14, f15, f16⟩ := hall _ gg)
  | (go_at_call 25; (first | (refine (kM _ gg).mono ?_; clear kM)); rintro e v1 ⟨rfl, g3⟩; replace gg := pb_call gg g3; clear f0 f1 f2 f3 f4 f5 f6 f7 f8 f9 f10 f11 f12 f13 f14 f15 f16 g3; obtain ⟨f0, f1, f2, f3, f4, f5, f6, f7, f8, f9, f10, f11, f12, f13, f14, f15, f16⟩ := hall _ gg)
  | (go_at_call 65; (first | (refine (kL _ gg).mono ?_; clear kL) | (refine (kH _ gg).mono ?_; clear kH)); rintro e v1 ⟨rfl, g3⟩; replace gg := pb_call gg g3; clear f0 f1 f2 f3 f4 f5 f6 f7 f8 f9 f10 f11 f12 f13 f14 f15 f16 g3; obtain ⟨f0, f1, f2, f3, f4, f5, f6, f7, f8, f9, f10, f11, f12, f13, f14, f15, f16⟩ := hall _ gg)
  | (go_at_call 27; (first | (refine (kT _ gg).mono ?_; clear kT) | (refine (kE _ gg).mono ?_; clear kE)); rintro e v1 ⟨rfl, g3⟩; replace gg := pb_call gg g3; clear f0 f1 f2 f3 f4 f5 f6 f7 f8 f9 f10 f11 f12 f13 f14 f15 f16 g3; obtain ⟨f0, f1, f2, f3, f4, f5, f6, f7, f8, f9, f10, f11, f12, f13, f14, f15, f16⟩ := hall _ gg)
  | fail)
 go_ret
 exact ⟨rfl, pb_call gX.out gg⟩
set_option maxRecDepth 100000 in
set_option maxHeartbeats 6400000 in
theorem rs_a0 (nm : ByteArray) (hnm : isN nm.toList = true) (v : Ex) (hv : ReX v) : RsT ⟨1, nm, .nil, v, exN, exN, .nil, .nil⟩ := by
 intro n S p0 q0 p1 q1 p2 q2 p3 q3 p4 q4 p5 q5 w hn ht he hT
 obtain ⟨t0, t1, t2, t3, t4, t5⟩ := hT
 show Calls Tryz.prog 47 #[.agg #[.int .i64 1, .string nm, .slice p0 0 q0, .int .i64 v.op, .string v.tx, .int .i64 v.ty, .slice p1 v.ks.len q1, .int .i64 0, .string tx0, .int .i64 0, .slice p2 0 q2, .int .i64 0, .string tx0, .int .i64 0, .slice p3 0 q3, .slice p4 0 q4, .slice p5 0 q5], .int .i64 (n : Int)] w _
 have wn := wn1 (n := n) (by omega)
 have g1 := pb_new (Below.refl w.heap.size w) (.cells #[.int .i64 1, .string nm, .slice p0 0 q0, .int .i64 v.op, .string v.tx, .int .i64 v.ty, .slice p1 v.ks.len q1, .int .i64 0, .string tx0, .int .i64 0, .slice p2 0 q2, .int .i64 0, .string tx0, .int .i64 0, .slice p3 0 q3, .slice p4 0 q4, .slice p5 0 q5] 87)
 obtain ⟨X, hX⟩ : ∃ X, w.alloc (.cells #[.int .i64 1, .string nm, .slice p0 0 q0, .int .i64 v.op, .string v.tx, .int .i64 v.ty, .slice p1 v.ks.len q1, .int .i64 0, .string tx0, .int .i64 0, .slice p2 0 q2, .int .i64 0, .string tx0, .int .i64 0, .slice p3 0 q3, .slice p4 0 q4, .slice p5 0 q5] 87) = X := ⟨_, rfl⟩
 have qX : X.heap[w.heap.size]? = some (.cells #[.int .i64 1, .string nm, .slice p0 0 q0, .int .i64 v.op, .string v.tx, .int .i64 v.ty, .slice p1 v.ks.len q1, .int .i64 0, .string tx0, .int .i64 0, .slice p2 0 q2, .int .i64 0, .string tx0, .int .i64 0, .slice p3 0 q3, .slice p4 0 q4, .slice p5 0 q5] 87 (0, 0)) := by rw [← hX]; exact World.alloc_heap_new _ _
 rw [hX] at g1
 obtain ⟨b2, hb2⟩ : ∃ b, w.heap.size = b := ⟨_, rfl⟩
 rw [hb2] at qX
 obtain ⟨f0, f1, f2, f3, f4, f5, f6, f7, f8, f9, f10, f11, f12, f13, f14, f15, f16, ff⟩ := c17 qX
 clear ff
 have hall : ∀ V, Below X.heap.size X V → (V.cell? ⟨b2, 0, none⟩ = some (.int .i64 1) ∧ V.cell? ⟨b2, 1, none⟩ = some (.string nm) ∧ V.cell? ⟨b2, 2, none⟩ = some (.slice p0 0 q0) ∧ V.cell? ⟨b2, 3, none⟩ = some (.int .i64 v.op) ∧ V.cell? ⟨b2, 4, none⟩ = some (.string v.tx) ∧ V.cell? ⟨b2, 5, none⟩ = some (.int .i64 v.ty) ∧ V.cell? ⟨b2, 6, none⟩ = some (.slice p1 v.ks.len q1) ∧ V.cell? ⟨b2, 7, none⟩ = some (.int .i64 0) ∧ V.cell? ⟨b2, 8, none⟩ = some (.string tx0) ∧ V.cell? ⟨b2, 9, none⟩ = some (.int .i64 0) ∧ V.cell? ⟨b2, 10, none⟩ = some (.slice p2 0 q2) ∧ V.cell? ⟨b2, 11, none⟩ = some (.int .i64 0) ∧ V.cell? ⟨b2, 12, none⟩ = some (.string tx0) ∧ V.cell? ⟨b2, 13, none⟩ = some (.int .i64 0) ∧ V.cell? ⟨b2, 14, none⟩ = some (.slice p3 0 q3) ∧ V.cell? ⟨b2, 15, none⟩ = some (.slice p4 0 q4) ∧ V.cell? ⟨b2, 16, none⟩ = some (.slice p5 0 q5)) := fun V g => ⟨pb_cell g f0, pb_cell g f1, pb_cell g f2, pb_cell g f3, pb_cell g f4, pb_cell g f5, pb_cell g f6, pb_cell g f7, pb_cell g f8, pb_cell g f9, pb_cell g f10, pb_cell g f11, pb_cell g f12, pb_cell g f13, pb_cell g f14, pb_cell g f15, pb_cell g f16⟩
 have tk : ∀ V, Below X.heap.size X V → ∀ lo, Kp lo w V := fun V g lo => Below.kp (pb_call g1 g) lo
 have kM := fun V (g : Below X.heap.size X V) => rIsName_any nm V
 rw [hnm] at kM
 have k1 := fun V (g : Below X.heap.size X V) => rnone_yes p2 q2 V
 have k2 := fun V (g : Below X.heap.size X V) => rnone_yes p3 q3 V
 have kV := fun V (g : Below X.heap.size X V) => rright v hv.1 hv.2.1 hv.2.2.1 hv.2.2.2 S p1 q1 V (t1.kp (tk V g _))
 have kT : ∀ V, Below X.heap.size X V → Calls Tryz.prog 27 #[.slice p4 0 q4, .int .i64 ((n : Int) + 1)] V fun r w' => r = .returned (.bool true) ∧ Below V.heap.size V w' := fun V g => rbB So.nil trivial (Nat.zero_le _) (n + 1) (by omega) (Or.inl rfl) S p4 q4 V (t4.kp (tk V g _))
 have kE : ∀ V, Below X.heap.size X V → Calls Tryz.prog 27 #[.slice p5 0 q5, .int .i64 ((n : Int) + 1)] V fun r w' => r = .returned (.bool true) ∧ Below V.heap.size V w' := fun V g => rbB So.nil trivial (Nat.zero_le _) (n + 1) (by omega) (Or.inl rfl) S p5 q5 V (t5.kp (tk V g _))
 have gX : Hid (Below w.heap.size w X) := g1
 have hX' : Hid (w.alloc (.cells #[.int .i64 1, .string nm, .slice p0 0 q0, .int .i64 v.op, .string v.tx, .int .i64 v.ty, .slice p1 v.ks.len q1, .int .i64 0, .string tx0, .int .i64 0, .slice p2 0 q2, .int .i64 0, .string tx0, .int .i64 0, .slice p3 0 q3, .slice p4 0 q4, .slice p5 0 q5] 87) = X) := hX
 have hb2' : Hid (w.heap.size = b2) := hb2
 have gg := Below.refl X.heap.size X
 clear hX hb2 qX g1 t0 t1 t2 t3 t4 t5 tk hn ht he hnm hv
 go_enter Tryz.func47, Tryz.ntmps47
 go_upto_region 1 with fail
 rw [hX'.out]
 (try rw [hb2'.out])
 clear hX' hb2'
 go_wp2_with (first
  | (go_at_call 46; (first | (refine (k1 _ gg).mono ?_; clear k1) | (refine (k2 _ gg).mono ?_; clear k2)); rintro e v1 ⟨rfl, g3⟩; replace gg := pb_call gg g3; clear f0 f1 f2 f3 f4 f5 f6 f7 f8 f9 f10 f11 f12 f13 f14 f15 f16 g3; obtain ⟨f0, f1, f2, f3, f4, f5, f6, f7, f8, f9, f10, f11, f12, f13, f14, f15, f16⟩ := hall _ gg)
  | (go_at_call 25; (first | (refine (kM _ gg).mono ?_; clear kM)); rintro e v1 ⟨rfl, g3⟩; replace gg := pb_call gg g3; clear f0 f1 f2 f3 f4 f5 f6 f7 f8 f9 f10 f11 f12 f13 f14 f15 f16 g3; obtain ⟨f0, f1, f2, f3, f4, f5, f6, f7, f8, f9, f10, f11, f12, f13, f14, f15, f16⟩ := hall _ gg)
  | (go_at_call 64; (first | (refine (kV _ gg).mono ?_; clear kV)); rintro e v1 ⟨rfl, g3⟩; replace gg := pb_call gg g3; clear f0 f1 f2 f3 f4 f5 f6 f7 f8 f9 f10 f11 f12 f13 f14 f15 f16 g3; obtain ⟨f0, f1, f2, f3, f4, f5, f6, f7, f8, f9, f10, f11, f12, f13, f14, f15, f16⟩ := hall _ gg)
  | (go_at_call 27; (first | (refine (kT _ gg).mono ?_; clear kT) | (refine (kE _ gg).mono ?_; clear kE)); rintro e v1 ⟨rfl, g3⟩; replace gg := pb_call gg g3; clear f0 f1 f2 f3 f4 f5 f6 f7 f8 f9 f10 f11 f12 f13 f14 f15 f16 g3; obtain ⟨f0, f1, f2, f3, f4, f5, f6, f7, f8, f9, f10, f11, f12, f13, f14, f15, f16⟩ := hall _ gg)
  | fail)
 refine wp_loop_rounds 1 ?_
 rw [rounds_succ]
 go_wp2_with (first
  | (go_at_call 46; (first | (refine (k1 _ gg).mono ?_; clear k1) | (refine (k2 _ gg).mono ?_; clear k2)); rintro e v1 ⟨rfl, g3⟩; replace gg := pb_call gg g3; clear f0 f1 f2 f3 f4 f5 f6 f7 f8 f9 f10 f11 f12 f13 f14 f15 f16 g3; obtain ⟨f0, f1, f2, f3, f4, f5, f6, f7, f8, f9, f10, f11, f12, f13, f14, f15, f16⟩ := hall _ gg)
  | (go_at_call 25; (first | (refine (kM _ gg).mono ?_; clear kM)); rintro e v1 ⟨rfl, g3⟩; replace gg := pb_call gg g3; clear f0 f1 f2 f3 f4 f5 f6 f7 f8 f9 f10 f11 f12 f13 f14 f15 f16 g3; obtain ⟨f0, f1, f2, f3, f4, f5, f6, f7, f8, f9, f10, f11, f12, f13, f14, f15, f16⟩ := hall _ gg)
  | (go_at_call 64; (first | (refine (kV _ gg).mono ?_; clear kV)); rintro e v1 ⟨rfl, g3⟩; replace gg := pb_call gg g3; clear f0 f1 f2 f3 f4 f5 f6 f7 f8 f9 f10 f11 f12 f13 f14 f15 f16 g3; obtain ⟨f0, f1, f2, f3, f4, f5, f6, f7, f8, f9, f10, f11, f12, f13, f14, f15, f16⟩ := hall _ gg)
  | (go_at_call 27; (first | (refine (kT _ gg).mono ?_; clear kT) | (refine (kE _ gg).mono ?_; clear kE)); rintro e v1 ⟨rfl, g3⟩; replace gg := pb_call gg g3; clear f0 f1 f2 f3 f4 f5 f6 f7 f8 f9 f10 f11 f12 f13 f14 f15 f16 g3; obtain ⟨f0, f1, f2, f3, f4, f5, f6, f7, f8, f9, f10, f11, f12, f13, f14, f15, f16⟩ := hall _ gg)
  | fail)
 go_ret
 exact ⟨rfl, pb_call gX.out gg⟩
set_option maxRecDepth 100000 in
set_option maxHeartbeats 6400000 in
theorem rs_a1 (nm : ByteArray) (hnm : isN nm.toList = true) (i : Ex) (hi : ReX i) (v : Ex) (hv : ReX v) : RsT ⟨1, nm, (i.row .nil), v, exN, exN, .nil, .nil⟩ := by
 intro n S p0 q0 p1 q1 p2 q2 p3 q3 p4 q4 p5 q5 w hn ht he hT
 obtain ⟨t0, t1, t2, t3, t4, t5⟩ := hT
 have t0' := t0
 obtain ⟨p7, q7, e7, hK⟩ := t0'
 obtain ⟨rfl, _, rfl⟩ := Value.slice.inj e7
 clear e7
 rcases hK with hK | ⟨c, u, rfl, hK⟩
 ·cases hK
 obtain ⟨⟨x0, x1, x2, s6, x3, hs6⟩, _, _⟩ := hK.head
 obtain ⟨p6, q6, rfl, hs6'⟩ := hs6
 simp only at x0 x1 x2 x3 hs6'
 have hs6 : SlF w S (.slice p6 i.ks.len q6) i.ks := ⟨p6, q6, rfl, hs6'⟩
 have ix := (fun V => ex_ix c u 1 q0 0 (by decide) V)
 simp only [Nat.zero_mul, Nat.add_zero] at ix
 clear hs6' hK
 show Calls Tryz.prog 47 #[.agg #[.int .i64 1, .string nm, .slice (some ⟨c, u, none⟩) 1 q0, .int .i64 v.op, .string v.tx, .int .i64 v.ty, .slice p1 v.ks.len q1, .int .i64 0, .string tx0, .int .i64 0, .slice p2 0 q2, .int .i64 0, .string tx0, .int .i64 0, .slice p3 0 q3, .slice p4 0 q4, .slice p5 0 q5], .int .i64 (n : Int)] w _
 have wn := wn1 (n := n) (by omega)
 have g1 := pb_new (Below.refl w.heap.size w) (.cells #[.int .i64 1, .string nm, .slice (some ⟨c, u, none⟩) 1 q0, .int .i64 v.op, .string v.tx, .int .i64 v.ty, .slice p1 v.ks.len q1, .int .i64 0, .string tx0, .int .i64 0, .slice p2 0 q2, .int .i64 0, .string tx0, .int .i64 0, .slice p3 0 q3, .slice p4 0 q4, .slice p5 0 q5] 87)
 obtain ⟨X, hX⟩ : ∃ X, w.alloc (.cells #[.int .i64 1, .string nm, .slice (some ⟨c, u, none⟩) 1 q0, .int .i64 v.op, .string v.tx, .int .i64 v.ty, .slice p1 v.ks.len q1, .int .i64 0, .string tx0, .int .i64 0, .slice p2 0 q2, .int .i64 0, .string tx0, .int .i64 0, .slice p3 0 q3, .slice p4 0 q4, .slice p5 0 q5] 87) = X := ⟨_, rfl⟩
 have qX : X.heap[w.heap.size]? = some (.cells #[.int .i64 1, .string nm, .slice (some ⟨c, u, none⟩) 1 q0, .int .i64 v.op, .string v.tx, .int .i64 v.ty, .slice p1 v.ks.len q1, .int .i64 0, .string tx0, .int .i64 0, .slice p2 0 q2, .int .i64 0, .string tx0, .int .i64 0, .slice p3 0 q3, .slice p4 0 q4, .slice p5 0 q5] 87 (0, 0)) := by rw [← hX]; exact World.alloc_heap_new _ _
 rw [hX] at g1
 obtain ⟨b2, hb2⟩ : ∃ b, w.heap.size = b := ⟨_, rfl⟩
 rw [hb2] at qX
 obtain ⟨f0, f1, f2, f3, f4, f5, f6, f7, f8, f9, f10, f11, f12, f13, f14, f15, f16, ff⟩ := c17 qX
 replace x0 := pb_cell g1 x0
 replace x1 := pb_cell g1 x1
 replace x2 := pb_cell g1 x2
 replace x3 := pb_cell g1 x3
 clear ff
 have hall : ∀ V, Below X.heap.size X V → (V.cell? ⟨b2, 0, none⟩ = some (.int .i64 1) ∧ V.cell? ⟨b2, 1, none⟩ = some (.string nm) ∧ V.cell? ⟨b2, 2, none⟩ = some (.slice (some ⟨c, u, none⟩) 1 q0) ∧ V.cell? ⟨b2, 3, none⟩ = some (.int .i64 v.op) ∧ V.cell? ⟨b2, 4, none⟩ = some (.string v.tx) ∧ V.cell? ⟨b2, 5, none⟩ = some (.int .i64 v.ty) ∧ V.cell? ⟨b2, 6, none⟩ = some (.slice p1 v.ks.len q1) ∧ V.cell? ⟨b2, 7, none⟩ = some (.int .i64 0) ∧ V.cell? ⟨b2, 8, none⟩ = some (.string tx0) ∧ V.cell? ⟨b2, 9, none⟩ = some (.int .i64 0) ∧ V.cell? ⟨b2, 10, none⟩ = some (.slice p2 0 q2) ∧ V.cell? ⟨b2, 11, none⟩ = some (.int .i64 0) ∧ V.cell? ⟨b2, 12, none⟩ = some (.string tx0) ∧ V.cell? ⟨b2, 13, none⟩ = some (.int .i64 0) ∧ V.cell? ⟨b2, 14, none⟩ = some (.slice p3 0 q3) ∧ V.cell? ⟨b2, 15, none⟩ = some (.slice p4 0 q4) ∧ V.cell? ⟨b2, 16, none⟩ = some (.slice p5 0 q5) ∧ V.cell? ⟨c, u, none⟩ = some (.int .i64 i.op) ∧ V.cell? ⟨c, u + 1, none⟩ = some (.string i.tx) ∧ V.cell? ⟨c, u + 2, none⟩ = some (.int .i64 i.ty) ∧ V.cell? ⟨c, u + 3, none⟩ = some (.slice p6 i.ks.len q6)) := fun V g => ⟨pb_cell g f0, pb_cell g f1, pb_cell g f2, pb_cell g f3, pb_cell g f4, pb_cell g f5, pb_cell g f6, pb_cell g f7, pb_cell g f8, pb_cell g f9, pb_cell g f10, pb_cell g f11, pb_cell g f12, pb_cell g f13, pb_cell g f14, pb_cell g f15, pb_cell g f16, pb_cell g x0, pb_cell g x1, pb_cell g x2, pb_cell g x3⟩
 have tk : ∀ V, Below X.heap.size X V → ∀ lo, Kp lo w V := fun V g lo => Below.kp (pb_call g1 g) lo
 have kM := fun V (g : Below X.heap.size X V) => rIsName_any nm V
 rw [hnm] at kM
 have k1 := fun V (g : Below X.heap.size X V) => rnone_yes p2 q2 V
 have k2 := fun V (g : Below X.heap.size X V) => rnone_yes p3 q3 V
 have kV := fun V (g : Below X.heap.size X V) => rright v hv.1 hv.2.1 hv.2.2.1 hv.2.2.2 S p1 q1 V (t1.kp (tk V g _))
 have kI := fun V (g : Below X.heap.size X V) => rright i hi.1 hi.2.1 hi.2.2.1 hi.2.2.2 S p6 q6 V (hs6.kp (tk V g _))
 have kT : ∀ V, Below X.heap.size X V → Calls Tryz.prog 27 #[.slice p4 0 q4, .int .i64 ((n : Int) + 1)] V fun r w' => r = .returned (.bool true) ∧ Below V.heap.size V w' := fun V g => rbB So.nil trivial (Nat.zero_le _) (n + 1) (by omega) (Or.inl rfl) S p4 q4 V (t4.kp (tk V g _))
 have kE : ∀ V, Below X.heap.size X V → Calls Tryz.prog 27 #[.slice p5 0 q5, .int .i64 ((n : Int) + 1)] V fun r w' => r = .returned (.bool true) ∧ Below V.heap.size V w' := fun V g => rbB So.nil trivial (Nat.zero_le _) (n + 1) (by omega) (Or.inl rfl) S p5 q5 V (t5.kp (tk V g _))
 have gX : Hid (Below w.heap.size w X) := g1
 have hX' : Hid (w.alloc (.cells #[.int .i64 1, .string nm, .slice (some ⟨c, u, none⟩) 1 q0, .int .i64 v.op, .string v.tx, .int .i64 v.ty, .slice p1 v.ks.len q1, .int .i64 0, .string tx0, .int .i64 0, .slice p2 0 q2, .int .i64 0, .string tx0, .int .i64 0, .slice p3 0 q3, .slice p4 0 q4, .slice p5 0 q5] 87) = X) := hX
 have hb2' : Hid (w.heap.size = b2) := hb2
 have gg := Below.refl X.heap.size X
 clear hX hb2 qX g1 t0 t1 t2 t3 t4 t5 tk hn ht he hnm hv hi hs6
 go_enter Tryz.func47, Tryz.ntmps47
 go_upto_region 1 with fail
 rw [hX'.out]
 (try rw [hb2'.out])
 clear hX' hb2'
 go_wp2_with (first
  | (go_at_call 46; (first | (refine (k1 _ gg).mono ?_; clear k1) | (refine (k2 _ gg).mono ?_; clear k2)); rintro e v1 ⟨rfl, g3⟩; replace gg := pb_call gg g3; clear f0 f1 f2 f3 f4 f5 f6 f7 f8 f9 f10 f11 f12 f13 f14 f15 f16 x0 x1 x2 x3 g3; obtain ⟨f0, f1, f2, f3, f4, f5, f6, f7, f8, f9, f10, f11, f12, f13, f14, f15, f16, x0, x1, x2, x3⟩ := hall _ gg)
  | (go_at_call 25; (first | (refine (kM _ gg).mono ?_; clear kM)); rintro e v1 ⟨rfl, g3⟩; replace gg := pb_call gg g3; clear f0 f1 f2 f3 f4 f5 f6 f7 f8 f9 f10 f11 f12 f13 f14 f15 f16 x0 x1 x2 x3 g3; obtain ⟨f0, f1, f2, f3, f4, f5, f6, f7, f8, f9, f10, f11, f12, f13, f14, f15, f16, x0, x1, x2, x3⟩ := hall _ gg)
  | (go_at_call 64; (first | (refine (kV _ gg).mono ?_; clear kV) | (refine (kI _ gg).mono ?_; clear kI)); rintro e v1 ⟨rfl, g3⟩; replace gg := pb_call gg g3; clear f0 f1 f2 f3 f4 f5 f6 f7 f8 f9 f10 f11 f12 f13 f14 f15 f16 x0 x1 x2 x3 g3; obtain ⟨f0, f1, f2, f3, f4, f5, f6, f7, f8, f9, f10, f11, f12, f13, f14, f15, f16, x0, x1, x2, x3⟩ := hall _ gg)
  | (go_at_call 27; (first | (refine (kT _ gg).mono ?_; clear kT) | (refine (kE _ gg).mono ?_; clear kE)); rintro e v1 ⟨rfl, g3⟩; replace gg := pb_call gg g3; clear f0 f1 f2 f3 f4 f5 f6 f7 f8 f9 f10 f11 f12 f13 f14 f15 f16 x0 x1 x2 x3 g3; obtain ⟨f0, f1, f2, f3, f4, f5, f6, f7, f8, f9, f10, f11, f12, f13, f14, f15, f16, x0, x1, x2, x3⟩ := hall _ gg)
  | fail)
 refine wp_loop_rounds 2 ?_
 rw [rounds_succ]
 go_wp2_with (first
  | (go_at_call 46; (first | (refine (k1 _ gg).mono ?_; clear k1) | (refine (k2 _ gg).mono ?_; clear k2)); rintro e v1 ⟨rfl, g3⟩; replace gg := pb_call gg g3; clear f0 f1 f2 f3 f4 f5 f6 f7 f8 f9 f10 f11 f12 f13 f14 f15 f16 x0 x1 x2 x3 g3; obtain ⟨f0, f1, f2, f3, f4, f5, f6, f7, f8, f9, f10, f11, f12, f13, f14, f15, f16, x0, x1, x2, x3⟩ := hall _ gg)
  | (go_at_call 25; (first | (refine (kM _ gg).mono ?_; clear kM)); rintro e v1 ⟨rfl, g3⟩; replace gg := pb_call gg g3; clear f0 f1 f2 f3 f4 f5 f6 f7 f8 f9 f10 f11 f12 f13 f14 f15 f16 x0 x1 x2 x3 g3; obtain ⟨f0, f1, f2, f3, f4, f5, f6, f7, f8, f9, f10, f11, f12, f13, f14, f15, f16, x0, x1, x2, x3⟩ := hall _ gg)
  | (go_at_call 64; (first | (refine (kV _ gg).mono ?_; clear kV) | (refine (kI _ gg).mono ?_; clear kI)); rintro e v1 ⟨rfl, g3⟩; replace gg := pb_call gg g3; clear f0 f1 f2 f3 f4 f5 f6 f7 f8 f9 f10 f11 f12 f13 f14 f15 f16 x0 x1 x2 x3 g3; obtain ⟨f0, f1, f2, f3, f4, f5, f6, f7, f8, f9, f10, f11, f12, f13, f14, f15, f16, x0, x1, x2, x3⟩ := hall _ gg)
  | (go_at_call 27; (first | (refine (kT _ gg).mono ?_; clear kT) | (refine (kE _ gg).mono ?_; clear kE)); rintro e v1 ⟨rfl, g3⟩; replace gg := pb_call gg g3; clear f0 f1 f2 f3 f4 f5 f6 f7 f8 f9 f10 f11 f12 f13 f14 f15 f16 x0 x1 x2 x3 g3; obtain ⟨f0, f1, f2, f3, f4, f5, f6, f7, f8, f9, f10, f11, f12, f13, f14, f15, f16, x0, x1, x2, x3⟩ := hall _ gg)
  | fail)
 rw [rounds_succ]
 go_wp2_with (first
  | (go_at_call 46; (first | (refine (k1 _ gg).mono ?_; clear k1) | (refine (k2 _ gg).mono ?_; clear k2)); rintro e v1 ⟨rfl, g3⟩; replace gg := pb_call gg g3; clear f0 f1 f2 f3 f4 f5 f6 f7 f8 f9 f10 f11 f12 f13 f14 f15 f16 x0 x1 x2 x3 g3; obtain ⟨f0, f1, f2, f3, f4, f5, f6, f7, f8, f9, f10, f11, f12, f13, f14, f15, f16, x0, x1, x2, x3⟩ := hall _ gg)
  | (go_at_call 25; (first | (refine (kM _ gg).mono ?_; clear kM)); rintro e v1 ⟨rfl, g3⟩; replace gg := pb_call gg g3; clear f0 f1 f2 f3 f4 f5 f6 f7 f8 f9 f10 f11 f12 f13 f14 f15 f16 x0 x1 x2 x3 g3; obtain ⟨f0, f1, f2, f3, f4, f5, f6, f7, f8, f9, f10, f11, f12, f13, f14, f15, f16, x0, x1, x2, x3⟩ := hall _ gg)
  | (go_at_call 64; (first | (refine (kV _ gg).mono ?_; clear kV) | (refine (kI _ gg).mono ?_; clear kI)); rintro e v1 ⟨rfl, g3⟩; replace gg := pb_call gg g3; clear f0 f1 f2 f3 f4 f5 f6 f7 f8 f9 f10 f11 f12 f13 f14 f15 f16 x0 x1 x2 x3 g3; obtain ⟨f0, f1, f2, f3, f4, f5, f6, f7, f8, f9, f10, f11, f12, f13, f14, f15, f16, x0, x1, x2, x3⟩ := hall _ gg)
  | (go_at_call 27; (first | (refine (kT _ gg).mono ?_; clear kT) | (refine (kE _ gg).mono ?_; clear kE)); rintro e v1 ⟨rfl, g3⟩; replace gg := pb_call gg g3; clear f0 f1 f2 f3 f4 f5 f6 f7 f8 f9 f10 f11 f12 f13 f14 f15 f16 x0 x1 x2 x3 g3; obtain ⟨f0, f1, f2, f3, f4, f5, f6, f7, f8, f9, f10, f11, f12, f13, f14, f15, f16, x0, x1, x2, x3⟩ := hall _ gg)
  | fail)
 go_ret
 exact ⟨rfl, pb_call gX.out gg⟩
end Go.Proofs.YtknoibocpbfmmaaGreatDoor



