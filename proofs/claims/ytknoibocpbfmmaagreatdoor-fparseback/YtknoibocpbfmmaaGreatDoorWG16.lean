/- Texts of the proof, put together. -/
import Derived.Test.YtknoibocpbfmmaaGreatDoorWG6
import Derived.Test.YtknoibocpbfmmaaGreatDoorWG15
import Derived.Shelf.Strconv.Atoi
import Derived.Shelf.Strconv.Itoa0
import Derived.Shelf.Strconv.Itoa1
import Derived.Shelf.LaysM
import Derived.Shelf.Strconv.Itoa2
import Derived.Shelf.Strconv.Itoa3
import Derived.Shelf.Strconv.AtoiErrFast
import Derived.Shelf.Strconv.ParseIntEmpty
import Derived.Shelf.Strconv.AtoiFail
import Derived.Shelf.Strconv.Clone
import Derived.Shelf.Strconv.SyntaxError
import Derived.Shelf.LaysC
import Derived.Shelf.Strconv.ToError
import Derived.Shelf.Strconv.Lower
import Derived.Shelf.Strconv.ParseUint10
import Derived.Shelf.Strconv.ParseUint10Empty
import Derived.Shelf.Strconv.ParseUint10Any
import Derived.Shelf.Strconv.ParseInt10
import Derived.Shelf.Strconv.AtoiLong
import Derived.Shelf.Strconv.AtoiInnerAll
import Derived.Shelf.Strconv.RangeError
import Derived.Shelf.Strconv.ToErrorRange
import Derived.Shelf.Strconv.AtoiAll
import Derived.Shelf.Strconv.ErrVarAll
import Derived.Test.YtknoibocpbfmmaaGreatDoorProg
import Derived.Lib.AtoiAll
import Derived.Lib.AtoiErrMem
import Derived.Test.YtknoibocpbfmmaaGreatDoorWG4
import Derived.OwnWalk
import Derived.Maps.AppendAt
namespace Go.Proofs.YtknoibocpbfmmaaGreatDoor
open Go.RowKit
set_option linter.unusedVariables false
set_option linter.unusedSimpArgs false
theorem fo_set {V : World} {c : Nat} {cs : Array Value} {t : TypeId} {z : Nat × Nat} (q : V.heap[c]? = some (.cells cs t z)) (j : Nat) (x : Value) : (V.setCell ⟨c, j, none⟩ x).heap[c]? = some (.cells (cs.setIfInBounds j x) t z) := by
 unfold World.setCell
 simp [Array.getElem?_modify, q]
set_option maxRecDepth 100000 in
theorem flt_is (E A : Int) (w : World) : (Instr.typeAssert (fltV E A) 20 48 true).run Tryz.prog w = .ok (.tuple #[.agg #[.int .i64 E, .int .i64 A], .bool true]) w := by kernel_rfl
set_option maxRecDepth 100000 in
set_option maxHeartbeats 1600000 in
theorem catch_flt (c : Nat) (E A : Int) (older : List PanicEntry) (w : World) (hc : w.heap[c]? = some (.cells #[.int .i64 0, .int .i64 0] 48 (0, 0))) :
  CallsD Tryz.prog 37 #[.pointer (some ⟨c, 0, none⟩)] (.panicking ({ v := fltV E A, recovered := false } :: older)) w fun e u' w' =>
   e = .returned (.tuple #[]) ∧ u' = .panicking ({ v := fltV E A, recovered := true } :: older) ∧ Onl c w w' ∧ w'.heap[c]? = some (.cells #[.int .i64 E, .int .i64 A] 48 (0, 0)) := by
 refine callsD_of_wpS Tryz.func37 rfl fun c₀ cs hu => ?_
 have lc : c < w.heap.size := (Array.getElem?_eq_some_iff.1 hc).1
 have f0 : w.cell? ⟨c, 0, none⟩ = some (.int .i64 0) := by simp [World.cell?, hc]
 have f1 : w.cell? ⟨c, 1, none⟩ = some (.int .i64 0) := by simp [World.cell?, hc]
 have ff : ∀ k, w.frozen? ⟨c, k, none⟩ = false := fun k => by simp [World.frozen?, hc]
 have zc : c ≠ w.heap.size := by omega
 have zw : w.heap.size ≠ c := by omega
 have fi := flt_is E A
 unfold fltV at *
 apply wpS_seq
 apply wpS_region
 simp [wpOpsS, go_sem, recoverD, hu, Tryz.ntmps37, Exit.thenS]
 rw [show (#[Value.pointer (some { block := c, off := 0 })] ++ (Array.replicate 10 undef).setIfInBounds 3 (.iface 48 (.agg #[.int .i64 E, .int .i64 A]))) = #[Value.pointer (some { block := c, off := 0 }), undef, undef, undef, .iface 48 (.agg #[.int .i64 E, .int .i64 A]), undef, undef, undef, undef, undef, undef] from rfl]
 refine wpS_of_wp ?_
 go_wp2_with fail
 have fin : Onl c w (((w.setCell { block := c, off := 0 } (Value.int IntKind.i64 E)).setCell { block := c, off := 1 } (Value.int IntKind.i64 A)).alloc (Obj.cells #[Value.int IntKind.i64 E, Value.int IntKind.i64 A] 48)) ∧ (((w.setCell { block := c, off := 0 } (Value.int IntKind.i64 E)).setCell { block := c, off := 1 } (Value.int IntKind.i64 A)).alloc (Obj.cells #[Value.int IntKind.i64 E, Value.int IntKind.i64 A] 48)).heap[c]? = some (Obj.cells #[Value.int IntKind.i64 E, Value.int IntKind.i64 A] 48 (0, 0)) := by
  have q1 := fo_set hc 0 (Value.int IntKind.i64 E)
  have q2 := fo_set q1 1 (Value.int IntKind.i64 A)
  refine ⟨(((Onl.refl c w).set _).set _).below (pb_new (Below.refl _ _) _), ?_⟩
  rw [Below.heap_alloc _ _ _ (by simp [go_sem]; exact lc)]
  exact q2
 simpa [bodyPostS, results, Tryz.results37, go_sem] using fin
set_option maxRecDepth 100000 in
set_option maxHeartbeats 1600000 in
theorem catch_idle (c : Nat) (w : World) : CallsD Tryz.prog 37 #[.pointer (some ⟨c, 0, none⟩)] .returning w fun e u' w' => e = .returned (.tuple #[]) ∧ u' = .returning ∧ w' = w := by
 refine callsD_of_wpS Tryz.func37 rfl fun c₀ cs hu => ?_
 apply wpS_seq
 apply wpS_region
 simp [wpOpsS, go_sem, recoverD, hu, Tryz.ntmps37, Exit.thenS]
 rw [show (#[Value.pointer (some { block := c, off := 0 })] ++ (Array.replicate 10 undef).setIfInBounds 3 .nilIface) = #[Value.pointer (some { block := c, off := 0 }), undef, undef, undef, .nilIface, undef, undef, undef, undef, undef, undef] from rfl]
 refine wpS_of_wp ?_
 go_wp2_with fail
 cases c₀
 simp_all [bodyPostS, results, Tryz.results37]
set_option maxRecDepth 100000 in
set_option maxHeartbeats 1600000 in
theorem pfault_ok (k : Nat) (caps : Array Value) (ek : ∀ args w, (callFunc k args).run Tryz.prog w = .ok (.enter k args) w) (w : World) (P : World → Prop)
  (hw : Calls Tryz.prog k caps (w.alloc (.cells #[.int .i64 0, .int .i64 0] 48)) fun e v1 => e = .returned (.tuple #[]) ∧ v1.heap[w.heap.size]? = some (.cells #[.int .i64 0, .int .i64 0] 48 (0, 0)) ∧ P v1) :
  Calls Tryz.prog 19 #[.func (.func k) #[] caps] w fun e w' => e = .returned (.agg #[.int .i64 0, .int .i64 0]) ∧ ∃ v1, P v1 ∧ Onl w.heap.size v1 w' := by
 have hmf : ∀ (fn : Fn) (first cap : Array Value) (w : World), (Instr.makeFunc fn first cap).run Tryz.prog w = .ok (.func fn first cap) w := fun _ _ _ _ => rfl
 obtain ⟨c, hc⟩ : ∃ c, w.heap.size = c := ⟨_, rfl⟩
 have hc' : Hid (w.heap.size = c) := hc
 rw [hc] at hw ⊢
 go_enter_defers Tryz.func19, Tryz.ntmps19
 go_wp2_with (first | (go_at_fn k; refine hw.mono ?_; rintro e v1 ⟨rfl, q, hP⟩; have f0 : v1.cell? ⟨c, 0, none⟩ = some (.int .i64 0) := (by simp [World.cell?, q]); have f1 : v1.cell? ⟨c, 1, none⟩ = some (.int .i64 0) := (by simp [World.cell?, q]); have ff : ∀ k, v1.frozen? ⟨c, k, none⟩ = false := (fun k => by simp [World.frozen?, q])) | fail)
 refine leaves_cons (f := 37) (args := #[.pointer (some ⟨c, 0, none⟩)]) (by simp) (by simp [go_sem]) ?_
 refine (catch_idle c _).mono ?_
 rintro e u' w'' ⟨rfl, rfl, rfl⟩
 have on : Onl c v1 ((v1.setCell ⟨c, 0, none⟩ (.int .i64 0)).setCell ⟨c, 1, none⟩ (.int .i64 0)) := ((Onl.refl c v1).set _).set _
 have q1 := fo_set (fo_set q 0 (.int .i64 0)) 1 (.int .i64 0)
 generalize (v1.setCell ⟨c, 0, none⟩ (.int .i64 0)).setCell ⟨c, 1, none⟩ (.int .i64 0) = V at *
 have g0 : V.cell? ⟨c, 0, none⟩ = some (.int .i64 0) := by simp [World.cell?, q1]
 have g1 : V.cell? ⟨c, 1, none⟩ = some (.int .i64 0) := by simp [World.cell?, q1]
 exact ⟨.agg #[.int .i64 0, .int .i64 0], by simp [results, Tryz.results19, go_sem, g0, g1], rfl, v1, hP, on⟩
set_option maxRecDepth 100000 in
set_option maxHeartbeats 1600000 in
theorem pfault_no (k : Nat) (caps : Array Value) (ek : ∀ args w, (callFunc k args).run Tryz.prog w = .ok (.enter k args) w) (E A : Int) (w : World) (P : World → Prop)
  (hw : Calls Tryz.prog k caps (w.alloc (.cells #[.int .i64 0, .int .i64 0] 48)) fun e v1 => Fault E A e ∧ v1.heap[w.heap.size]? = some (.cells #[.int .i64 0, .int .i64 0] 48 (0, 0)) ∧ P v1) :
  Calls Tryz.prog 19 #[.func (.func k) #[] caps] w fun e w' => e = .returned (.agg #[.int .i64 E, .int .i64 A]) ∧ ∃ v1, P v1 ∧ Onl w.heap.size v1 w' := by
 have hmf : ∀ (fn : Fn) (first cap : Array Value) (w : World), (Instr.makeFunc fn first cap).run Tryz.prog w = .ok (.func fn first cap) w := fun _ _ _ _ => rfl
 obtain ⟨c, hc⟩ : ∃ c, w.heap.size = c := ⟨_, rfl⟩
 have hc' : Hid (w.heap.size = c) := hc
 rw [hc] at hw ⊢
 go_enter_defers Tryz.func19, Tryz.ntmps19
 go_wp2_with (first | (go_at_fn k; refine hw.mono ?_; rintro e v1 ⟨rfl, q, hP⟩) | fail)
 refine leaves_cons (f := 37) (args := #[.pointer (some ⟨c, 0, none⟩)]) (by simp) (by simp [go_sem]) ?_
 refine (catch_flt c E A _ _ q).mono ?_
 rintro e u' w'' ⟨rfl, rfl, on, q1⟩
 have g0 : w''.cell? ⟨c, 0, none⟩ = some (.int .i64 E) := by simp [World.cell?, q1]
 have g1 : w''.cell? ⟨c, 1, none⟩ = some (.int .i64 A) := by simp [World.cell?, q1]
 simp [Leaves, settle, results, Tryz.results19, go_sem, g0, g1]
 exact ⟨v1, hP, on⟩
end Go.Proofs.YtknoibocpbfmmaaGreatDoor


namespace Go.Proofs.YtknoibocpbfmmaaGreatDoor
open Go.RowKit
set_option linter.unusedVariables false
set_option linter.unusedSimpArgs false
theorem SlDc.bel {W V : World} {v : Value} {ds : List Dc} (h : SlDc W v ds) (g : Below W.heap.size W V) : SlDc V v ds := by
 obtain ⟨p, q, e, h⟩ := h
 refine ⟨p, q, e, h.imp id ?_⟩
 rintro ⟨c, u, e2, k⟩
 exact ⟨c, u, e2, fun j d hj => ⟨pb_cell g (k j d hj).1, pb_cell g (k j d hj).2.1, pb_cell g (k j d hj).2.2⟩⟩
theorem pmeas1 (ds : List Dc) (f : So) (S : Nat → Prop) (dv bv : Value) (b b1 : Nat) (w : World) (hO : OpsAt w) (hG : b ≠ 0) (hS : ¬ S b) (hD : SlDc w dv ds) (hT : SlS w S bv f) (hR : RuAt w b (0, 0)) (hz : ∀ d ∈ ds, d.1.size ≤ 9223372036854775807) (hf : f.szs) (h0 : w.cell? ⟨b1, 0, none⟩ = some dv) (h1 : w.cell? ⟨b1, 1, none⟩ = some bv) :
  Calls Tryz.prog 50 #[.pointer (some ⟨b, 0, none⟩), .pointer (some ⟨b1, 0, none⟩)] w fun e w' => RuR (ruP (ds, f)) b w e w' := by
 have k := pprog ds f S dv bv b w hO hG hS hD hT hR hz hf
 obtain ⟨_, _, rfl, _⟩ := hD
 obtain ⟨_, _, rfl, _⟩ := hT
 cases hr : ruP (ds, f) with
 | none =>
  rw [hr] at k
  go_enter Tryz.func50, Tryz.ntmps50
  go_wp2_with (first
   | (go_at_call 51; (refine k.mono ?_); rintro e v1 ⟨on1, rfl⟩)
   | fail)
  exact ⟨rfl, on1, rfl⟩
 | some c2 =>
  rw [hr] at k
  go_enter Tryz.func50, Tryz.ntmps50
  go_wp2_with (first
   | (go_at_call 51; (refine k.mono ?_); rintro e v1 ⟨on1, rfl, h1⟩)
   | fail)
  exact bodyPost_end (v := .tuple #[]) (by simp [results, Tryz.results50, go_sem]) rfl ⟨on1, rfl, h1⟩
/-- What measure tells. -/
def msP (p : Pg) : Int × Bool := match ruP p with | some c => ((c.1 : Nat), true) | none => (0, false)
set_option maxRecDepth 100000 in
set_option maxHeartbeats 1600000 in
theorem pmeasure (ds : List Dc) (f : So) (S : Nat → Prop) (dv bv : Value) (w : World) (hO : OpsAt w) (hG : 0 < w.heap.size) (hD : SlDc w dv ds) (hT : SlS w S bv f) (hz : ∀ d ∈ ds, d.1.size ≤ 9223372036854775807) (hf : f.szs) :
  Calls Tryz.prog 29 #[.agg #[dv, bv]] w fun e w' => e = .returned (.tuple #[.int .i64 (msP (ds, f)).1, .bool (msP (ds, f)).2]) ∧ Below w.heap.size w w' := by
 have hT := hT.lt
 obtain ⟨W, hW⟩ : ∃ W, (w.alloc (.cells #[dv, bv] 25)).alloc (.cells #[.int .i64 0, .int .i64 0] 96) = W := ⟨_, rfl⟩
 obtain ⟨b1, hb1⟩ : ∃ b, w.heap.size = b := ⟨_, rfl⟩
 obtain ⟨b, hb⟩ : ∃ b, b1 + 1 = b := ⟨_, rfl⟩
 have gW : Below w.heap.size w W := by rw [← hW]; exact pb_new (pb_new (Below.refl _ _) _) _
 have sW : W.heap.size = b + 1 := by rw [← hW, ← hb, ← hb1]; simp [go_sem]
 have qb : W.heap[b]? = some (.cells #[.int .i64 0, .int .i64 0] 96 (0, 0)) := by
  rw [← hW, show b = (w.alloc (.cells #[dv, bv] 25)).heap.size by rw [← hb, ← hb1]; simp [go_sem]]
  exact World.alloc_heap_new _ _
 have d0 : W.cell? ⟨b1, 0, none⟩ = some dv := by rw [← hW, ← hb1]; simp [go_sem]
 have d1 : W.cell? ⟨b1, 1, none⟩ = some bv := by rw [← hW, ← hb1]; simp [go_sem]
 have gF := pb_new (Below.refl W.heap.size W) (.cells #[.int .i64 0, .int .i64 0] 48)
 have qF := World.alloc_heap_new W (.cells #[.int .i64 0, .int .i64 0] 48)
 have RW : RuAt W b (0, 0) := ⟨by simp [World.cell?, qb], by simp [World.cell?, qb], fun k => by simp [World.frozen?, qb], by omega, by omega⟩
 have nS : ¬ (S b ∧ b < w.heap.size) := fun h => by omega
 have kM := pmeas1 ds f _ dv bv b b1 (W.alloc (.cells #[.int .i64 0, .int .i64 0] 48)) ((hO.bel gW).bel gF) (by omega) nS ((hD.bel gW).bel gF) ((hT.kp (Below.kp gW _)).kp (Below.kp gF _)) (RW.bel gF) hz hf (pb_cell gF d0) (pb_cell gF d1)
 have hmf : ∀ (fn : Fn) (first cap : Array Value) (w : World), (Instr.makeFunc fn first cap).run Tryz.prog w = .ok (.func fn first cap) w := fun _ _ _ _ => rfl
 have hwb : w.heap.size ≤ b := by omega
 have hsz := gW.size
 unfold msP
 obtain ⟨_, _, rfl, _⟩ := hD
 obtain ⟨_, _, rfl, _⟩ := hT
 cases hr : ruP (ds, f) with
 | none =>
  rw [hr] at kM
  have kF := pfault_no 50 #[.pointer (some ⟨b, 0, none⟩), .pointer (some ⟨b1, 0, none⟩)] (fun _ _ => rfl) 4 0 W (fun v1 => Onl b W v1) (kM.mono fun e v1 h => ⟨h.2, (h.1.block _ (by rw [World.size_alloc]; omega) (by omega)).trans qF, ((Onl.refl b W).below gF).trans h.1⟩)
  clear kM hr
  go_enter Tryz.func29, Tryz.ntmps29
  go_upto_region 2 with fail
  (try rw [hW])
  (try rw [hb1])
  (try rw [hb])
  clear hW hb1 hb
  go_wp2_with (first
   | (go_at_call 19; (refine kF.mono ?_); rintro e v2 ⟨rfl, v1, on1, on2⟩)
   | fail)
  exact bodyPost_ret (v := .tuple #[.int .i64 0, .bool false]) (by simp [results, Tryz.results29, go_sem]) rfl ⟨rfl, pb_new (gW.trans ((on1.toBelow hwb hsz).trans (on2.toBelow hsz (Nat.le_trans hsz on1.size)))) _⟩
 | some c2 =>
  rw [hr] at kM
  have kF := pfault_ok 50 #[.pointer (some ⟨b, 0, none⟩), .pointer (some ⟨b1, 0, none⟩)] (fun _ _ => rfl) W (fun v1 => Onl b W v1 ∧ RuAt v1 b c2) (kM.mono fun e v1 h => ⟨h.2.1, (h.1.block _ (by rw [World.size_alloc]; omega) (by omega)).trans qF, ((Onl.refl b W).below gF).trans h.1, h.2.2⟩)
  have nW : b ≠ W.heap.size := by omega
  clear kM hr
  go_enter Tryz.func29, Tryz.ntmps29
  go_upto_region 2 with fail
  (try rw [hW])
  (try rw [hb1])
  (try rw [hb])
  clear hW hb1 hb
  go_wp2_with (first
   | (go_at_call 19; (refine kF.mono ?_); rintro e v2 ⟨rfl, v1, ⟨on1, R1⟩, on2⟩; have R2 := R1.on (on2.block b R1.lt nW); have rp := (R2.bel (pb_new (Below.refl v2.heap.size v2) (.cells #[.int .i64 0, .int .i64 0] 48))).p)
   | fail)
  exact bodyPost_ret (v := .tuple #[.int .i64 (c2.1 : Nat), .bool true]) (by simp [results, Tryz.results29, go_sem]) rfl ⟨rfl, pb_new (gW.trans ((on1.toBelow hwb hsz).trans (on2.toBelow hsz (Nat.le_trans hsz on1.size)))) _⟩
theorem pright (ds : List Dc) (f : So) (S : Nat → Prop) (dv bv : Value) (w : World) (hO : OpsAt w) (hG : 0 < w.heap.size) (hD : SlDc w dv ds) (hT : SlS w S bv f) (hz : ∀ d ∈ ds, d.1.size ≤ 9223372036854775807) (hf : f.szs) :
  Calls Tryz.prog 17 #[.agg #[dv, bv]] w fun e w' => e = .returned (.bool (msP (ds, f)).2) ∧ Below w.heap.size w w' := by
 have gX := pb_new (Below.refl w.heap.size w) (.cells #[dv, bv] 25)
 have k := pmeasure ds f S dv bv _ (hO.bel gX) (Nat.lt_of_lt_of_le hG gX.size) (hD.bel gX) (hT.kp (Below.kp gX _)) hz hf
 obtain ⟨_, _, rfl, _⟩ := hD
 obtain ⟨_, _, rfl, _⟩ := hT
 go_enter Tryz.func17, Tryz.ntmps17
 go_wp2_with (first
  | (go_at_call 29; (refine k.mono ?_); rintro e v2 ⟨rfl, g⟩)
  | fail)
 go_ret
 exact ⟨rfl, pb_call gX g⟩
theorem ppoints (ds : List Dc) (f : So) (S : Nat → Prop) (dv bv : Value) (w : World) (hO : OpsAt w) (hG : 0 < w.heap.size) (hD : SlDc w dv ds) (hT : SlS w S bv f) (hz : ∀ d ∈ ds, d.1.size ≤ 9223372036854775807) (hf : f.szs) :
  Calls Tryz.prog 15 #[.agg #[dv, bv]] w fun e w' => e = .returned (.int .i64 (msP (ds, f)).1) ∧ Below w.heap.size w w' := by
 have gX := pb_new (Below.refl w.heap.size w) (.cells #[dv, bv] 25)
 have k := pmeasure ds f S dv bv _ (hO.bel gX) (Nat.lt_of_lt_of_le hG gX.size) (hD.bel gX) (hT.kp (Below.kp gX _)) hz hf
 obtain ⟨_, _, rfl, _⟩ := hD
 obtain ⟨_, _, rfl, _⟩ := hT
 go_enter Tryz.func15, Tryz.ntmps15
 go_wp2_with (first
  | (go_at_call 29; (refine k.mono ?_); rintro e v2 ⟨rfl, g⟩)
  | fail)
 go_ret
 exact ⟨rfl, pb_call gX g⟩
end Go.Proofs.YtknoibocpbfmmaaGreatDoor



namespace Go.Proofs
open Go.Shelf
def Tryz.lays171_ren : Go.Shelf.Ren := ⟨fun | 171 => 57 | 243 => 73 | 246 => 92 | 283 => 105 | 284 => 106 | 285 => 107 | 286 => 108 | 129 => 118 | 317 => 117 | 318 => 119 | 319 => 120 | 320 => 121 | 337 => 128 | 338 => 129 | n => n, fun | 3 => 3 | 9 => 9 | 2 => 2 | 4 => 4 | 171 => 140 | 0 => 0 | 53 => 141 | 37 => 65 | 5 => 5 | 173 => 144 | 212 => 152 | 51 => 153 | 20 => 20 | 213 => 154 | 46 => 156 | 232 => 171 | 233 => 172 | n => n, fun | 17 => 1 | 18 => 4 | 19 => 5 | n => n⟩
theorem Tryz.lays171 : Go.Proofs.Lays.n171 Tryz.prog Tryz.lays171_ren := {
 mixed := by kernel_rfl
 f129 := Tryz.func118.trans (congrArg some (by kernel_rfl))
 f171 := Tryz.func57.trans (congrArg some (by kernel_rfl))
 f243 := Tryz.func73.trans (congrArg some (by kernel_rfl))
 f246 := Tryz.func92.trans (congrArg some (by kernel_rfl))
 f283 := Tryz.func105.trans (congrArg some (by kernel_rfl))
 f284 := Tryz.func106.trans (congrArg some (by kernel_rfl))
 f285 := Tryz.func107.trans (congrArg some (by kernel_rfl))
 f286 := Tryz.func108.trans (congrArg some (by kernel_rfl))
 f317 := Tryz.func117.trans (congrArg some (by kernel_rfl))
 f318 := Tryz.func119.trans (congrArg some (by kernel_rfl))
 f319 := Tryz.func120.trans (congrArg some (by kernel_rfl))
 f320 := Tryz.func121.trans (congrArg some (by kernel_rfl))
 f337 := Tryz.func128.trans (congrArg some (by kernel_rfl))
 f338 := Tryz.func129.trans (congrArg some (by kernel_rfl))
 t0 := Tryz.underlying0
 a0 := Tryz.isAgg0
 z0 := Tryz.sizeOf0
 v0 := Tryz.zeroValue0
 t2 := Tryz.underlying2
 a2 := Tryz.isAgg2
 z2 := Tryz.sizeOf2
 v2 := Tryz.zeroValue2
 t3 := Tryz.underlying3
 a3 := Tryz.isAgg3
 z3 := Tryz.sizeOf3
 v3 := Tryz.zeroValue3
 t4 := Tryz.underlying4
 a4 := Tryz.isAgg4
 z4 := Tryz.sizeOf4
 v4 := Tryz.zeroValue4
 t5 := Tryz.underlying5
 a5 := Tryz.isAgg5
 z5 := Tryz.sizeOf5
 v5 := Tryz.zeroValue5
 t9 := Tryz.underlying9
 a9 := Tryz.isAgg9
 z9 := Tryz.sizeOf9
 v9 := Tryz.zeroValue9
 t20 := Tryz.underlying20
 a20 := Tryz.isAgg20
 z20 := Tryz.sizeOf20
 v20 := Tryz.zeroValue20
 t37 := Tryz.underlying65
 a37 := Tryz.isAgg65
 z37 := Tryz.sizeOf65
 v37 := Tryz.zeroValue65
 t46 := Tryz.underlying156
 a46 := Tryz.isAgg156
 z46 := Tryz.sizeOf156
 v46 := Tryz.zeroValue156
 t51 := Tryz.underlying153
 a51 := Tryz.isAgg153
 z51 := Tryz.sizeOf153
 v51 := Tryz.zeroValue153
 t53 := Tryz.underlying141
 a53 := Tryz.isAgg141
 z53 := Tryz.sizeOf141
 v53 := Tryz.zeroValue141
 t171 := Tryz.underlying140
 a171 := Tryz.isAgg140
 z171 := Tryz.sizeOf140
 v171 := Tryz.zeroValue140
 t173 := Tryz.underlying144
 a173 := Tryz.isAgg144
 z173 := Tryz.sizeOf144
 v173 := Tryz.zeroValue144
 t212 := Tryz.underlying152
 a212 := Tryz.isAgg152
 z212 := Tryz.sizeOf152
 v212 := Tryz.zeroValue152
 t213 := Tryz.underlying154
 a213 := Tryz.isAgg154
 z213 := Tryz.sizeOf154
 t232 := Tryz.underlying171
 a232 := Tryz.isAgg171
 z232 := Tryz.sizeOf171
 v232 := Tryz.zeroValue171
 t233 := Tryz.underlying172
 a233 := Tryz.isAgg172
 z233 := Tryz.sizeOf172
 v233 := Tryz.zeroValue172
 g17 := by kernel_rfl
 g18 := by kernel_rfl
 g19 := by kernel_rfl }
open Go.RowKit Go.Sort Go.Lib in
theorem Tryz.strconv_Itoa_small (i : Nat) (hi : i < 100) (w : World) :
 Calls Tryz.prog 57 #[.int .i64 i] w fun e w' => e = .returned (.string ⟨(Lib.decDigits i).toArray⟩) ∧ w' = w := Any.strconv_Itoa_small Tryz.lays171 i hi w
def Tryz.laysC172_ren : Go.Shelf.Ren := ⟨fun | 172 => 96 | 244 => 109 | 245 => 110 | 247 => 122 | 279 => 123 | 280 => 124 | 281 => 125 | 282 => 126 | 287 => 130 | 316 => 131 | 171 => 57 | 205 => 132 | 321 => 135 | 322 => 136 | 243 => 73 | 246 => 92 | 283 => 105 | 284 => 106 | 285 => 107 | 286 => 108 | 129 => 118 | 317 => 117 | 318 => 119 | 319 => 120 | 320 => 121 | 337 => 128 | 338 => 129 | n => n, fun | 9 => 9 | 3 => 3 | 75 => 102 | 76 => 103 | 4 => 4 | 5 => 5 | 167 => 158 | 37 => 65 | 0 => 0 | 85 => 159 | 2 => 2 | 168 => 161 | 53 => 141 | 175 => 165 | 46 => 156 | 210 => 169 | 127 => 106 | 145 => 176 | 143 => 174 | 21 => 21 | 171 => 140 | 173 => 144 | 212 => 152 | 51 => 153 | 20 => 20 | 213 => 154 | 232 => 171 | 233 => 172 | 80 => 74 | n => n, fun | 15 => 2 | 16 => 3 | 17 => 1 | 18 => 4 | 19 => 5 | n => n⟩
theorem Tryz.laysC172 : Go.Proofs.LaysC.n172 Tryz.prog Tryz.laysC172_ren := {
 mixed := by kernel_rfl
 f129 := Tryz.func118.trans (congrArg some (by kernel_rfl))
 f171 := Tryz.func57.trans (congrArg some (by kernel_rfl))
 f172 := Tryz.func96.trans (congrArg some (by kernel_rfl))
 f205 := Tryz.func132.trans (congrArg some (by kernel_rfl))
 f243 := Tryz.func73.trans (congrArg some (by kernel_rfl))
 f244 := Tryz.func109.trans (congrArg some (by kernel_rfl))
 f245 := Tryz.func110.trans (congrArg some (by kernel_rfl))
 f246 := Tryz.func92.trans (congrArg some (by kernel_rfl))
 f247 := Tryz.func122.trans (congrArg some (by kernel_rfl))
 f279 := Tryz.func123.trans (congrArg some (by kernel_rfl))
 f280 := Tryz.func124.trans (congrArg some (by kernel_rfl))
 f281 := Tryz.func125.trans (congrArg some (by kernel_rfl))
 f282 := Tryz.func126.trans (congrArg some (by kernel_rfl))
 f283 := Tryz.func105.trans (congrArg some (by kernel_rfl))
 f284 := Tryz.func106.trans (congrArg some (by kernel_rfl))
 f285 := Tryz.func107.trans (congrArg some (by kernel_rfl))
 f286 := Tryz.func108.trans (congrArg some (by kernel_rfl))
 f287 := Tryz.func130.trans (congrArg some (by kernel_rfl))
 f316 := Tryz.func131.trans (congrArg some (by kernel_rfl))
 f317 := Tryz.func117.trans (congrArg some (by kernel_rfl))
 f318 := Tryz.func119.trans (congrArg some (by kernel_rfl))
 f319 := Tryz.func120.trans (congrArg some (by kernel_rfl))
 f320 := Tryz.func121.trans (congrArg some (by kernel_rfl))
 f321 := Tryz.func135.trans (congrArg some (by kernel_rfl))
 f322 := Tryz.func136.trans (congrArg some (by kernel_rfl))
 f337 := Tryz.func128.trans (congrArg some (by kernel_rfl))
 f338 := Tryz.func129.trans (congrArg some (by kernel_rfl))
 t0 := Tryz.underlying0
 a0 := Tryz.isAgg0
 z0 := Tryz.sizeOf0
 v0 := Tryz.zeroValue0
 t2 := Tryz.underlying2
 a2 := Tryz.isAgg2
 z2 := Tryz.sizeOf2
 v2 := Tryz.zeroValue2
 t3 := Tryz.underlying3
 a3 := Tryz.isAgg3
 z3 := Tryz.sizeOf3
 v3 := Tryz.zeroValue3
 t4 := Tryz.underlying4
 a4 := Tryz.isAgg4
 z4 := Tryz.sizeOf4
 v4 := Tryz.zeroValue4
 t5 := Tryz.underlying5
 a5 := Tryz.isAgg5
 z5 := Tryz.sizeOf5
 v5 := Tryz.zeroValue5
 t9 := Tryz.underlying9
 a9 := Tryz.isAgg9
 z9 := Tryz.sizeOf9
 v9 := Tryz.zeroValue9
 t20 := Tryz.underlying20
 a20 := Tryz.isAgg20
 z20 := Tryz.sizeOf20
 v20 := Tryz.zeroValue20
 t21 := Tryz.underlying21
 a21 := Tryz.isAgg21
 z21 := Tryz.sizeOf21
 v21 := Tryz.zeroValue21
 t37 := Tryz.underlying65
 a37 := Tryz.isAgg65
 z37 := Tryz.sizeOf65
 v37 := Tryz.zeroValue65
 t46 := Tryz.underlying156
 a46 := Tryz.isAgg156
 z46 := Tryz.sizeOf156
 v46 := Tryz.zeroValue156
 t51 := Tryz.underlying153
 a51 := Tryz.isAgg153
 z51 := Tryz.sizeOf153
 v51 := Tryz.zeroValue153
 t53 := Tryz.underlying141
 a53 := Tryz.isAgg141
 z53 := Tryz.sizeOf141
 v53 := Tryz.zeroValue141
 t75 := Tryz.underlying102
 a75 := Tryz.isAgg102
 z75 := Tryz.sizeOf102
 v75 := Tryz.zeroValue102
 t76 := Tryz.underlying103
 a76 := Tryz.isAgg103
 z76 := Tryz.sizeOf103
 v76 := Tryz.zeroValue103
 t85 := Tryz.underlying159
 a85 := Tryz.isAgg159
 z85 := Tryz.sizeOf159
 v85 := Tryz.zeroValue159
 t127 := Tryz.underlying106
 a127 := Tryz.isAgg106
 z127 := Tryz.sizeOf106
 v127 := Tryz.zeroValue106
 t143 := Tryz.underlying174
 a143 := Tryz.isAgg174
 z143 := Tryz.sizeOf174
 v143 := Tryz.zeroValue174
 t145 := Tryz.underlying176
 a145 := Tryz.isAgg176
 z145 := Tryz.sizeOf176
 v145 := Tryz.zeroValue176
 t167 := Tryz.underlying158
 a167 := Tryz.isAgg158
 z167 := Tryz.sizeOf158
 v167 := Tryz.zeroValue158
 t168 := Tryz.underlying161
 a168 := Tryz.isAgg161
 z168 := Tryz.sizeOf161
 v168 := Tryz.zeroValue161
 t171 := Tryz.underlying140
 a171 := Tryz.isAgg140
 z171 := Tryz.sizeOf140
 v171 := Tryz.zeroValue140
 t173 := Tryz.underlying144
 a173 := Tryz.isAgg144
 z173 := Tryz.sizeOf144
 v173 := Tryz.zeroValue144
 t175 := Tryz.underlying165
 a175 := Tryz.isAgg165
 z175 := Tryz.sizeOf165
 v175 := Tryz.zeroValue165
 t210 := Tryz.underlying169
 a210 := Tryz.isAgg169
 z210 := Tryz.sizeOf169
 v210 := Tryz.zeroValue169
 t212 := Tryz.underlying152
 a212 := Tryz.isAgg152
 z212 := Tryz.sizeOf152
 v212 := Tryz.zeroValue152
 t213 := Tryz.underlying154
 a213 := Tryz.isAgg154
 z213 := Tryz.sizeOf154
 t232 := Tryz.underlying171
 a232 := Tryz.isAgg171
 z232 := Tryz.sizeOf171
 v232 := Tryz.zeroValue171
 t233 := Tryz.underlying172
 a233 := Tryz.isAgg172
 z233 := Tryz.sizeOf172
 v233 := Tryz.zeroValue172
 g15 := by kernel_rfl
 g16 := by kernel_rfl
 g17 := by kernel_rfl
 g18 := by kernel_rfl
 g19 := by kernel_rfl
 t80 := Tryz.underlying74
 a80 := Tryz.isAgg74
 z80 := Tryz.sizeOf74
 v80 := Tryz.zeroValue74
 i0 := by kernel_rfl
 i2 := by kernel_rfl
 i3 := by kernel_rfl
 i4 := by kernel_rfl
 i5 := by kernel_rfl
 i9 := by kernel_rfl
 i20 := by kernel_rfl
 i21 := by kernel_rfl
 i37 := by kernel_rfl
 i46 := by kernel_rfl
 i51 := by kernel_rfl
 i53 := by kernel_rfl
 i75 := by kernel_rfl
 i76 := by kernel_rfl
 i80 := by kernel_rfl
 i85 := by kernel_rfl
 i127 := by kernel_rfl
 i143 := by kernel_rfl
 i145 := by kernel_rfl
 i167 := by kernel_rfl
 i168 := by kernel_rfl
 i171 := by kernel_rfl
 i173 := by kernel_rfl
 i175 := by kernel_rfl
 i210 := by kernel_rfl
 i212 := by kernel_rfl
 i232 := by kernel_rfl
 i233 := by kernel_rfl
 m15 := by kernel_rfl
 m16 := by kernel_rfl
 m17 := by kernel_rfl
 m18 := by kernel_rfl
 m19 := by kernel_rfl
 c0 := by kernel_rfl
 c2 := by kernel_rfl
 c3 := by kernel_rfl
 c4 := by kernel_rfl
 c5 := by kernel_rfl
 c9 := by kernel_rfl
 c20 := by kernel_rfl
 c21 := by kernel_rfl
 c37 := by kernel_rfl
 c46 := by kernel_rfl
 c51 := by kernel_rfl
 c53 := by kernel_rfl
 c75 := by kernel_rfl
 c76 := by kernel_rfl
 c80 := by kernel_rfl
 c85 := by kernel_rfl
 c127 := by kernel_rfl
 c143 := by kernel_rfl
 c145 := by kernel_rfl
 c167 := by kernel_rfl
 c168 := by kernel_rfl
 c171 := by kernel_rfl
 c173 := by kernel_rfl
 c175 := by kernel_rfl
 c210 := by kernel_rfl
 c212 := by kernel_rfl
 c213 := by kernel_rfl
 c232 := by kernel_rfl
 c233 := by kernel_rfl }
open Go.RowKit in
theorem Tryz.strconv_Atoi_ok (s : ByteArray) (hmax : s.size ≤ 9223372036854775806) (v : Int) (h : Lib.atoiAll s.data.toList = .ok v) (w : World) :
 Calls Tryz.prog 96 #[.string s] w fun e w' => e = .returned (.tuple #[.int .i64 v, .nilIface]) ∧ (w' = w ∨ ∃ t, w' = Lib.bytesWorld w 5 t) := Any.strconv_Atoi_ok Tryz.laysC172 s hmax v h w
open Go.RowKit in
theorem Tryz.strconv_Atoi_range (s : ByteArray) (hlim : s.size ≤ 281474976710656) (h : Lib.atoiAll s.data.toList = .range) (ev : Value) (w : World) (hv : w.cell? ⟨3, 0, none⟩ = some ev) (hev : ev = .nilIface ∨ ∃ te pe, ev = .iface te pe) :
 Calls Tryz.prog 96 #[.string s] w fun e w' => ∃ N, e = .returned (.tuple #[.int .i64 (Lib.atoiSat s.data.toList), .iface 161 (.pointer (some ⟨N, 0, none⟩))]) ∧ w.heap.size ≤ N ∧ w'.heap[N]? = some (.cells #[.string ⟨#[65, 116, 111, 105]⟩, .string s, ev] 169 (0, 0)) ∧ Below w.heap.size w w' := Any.strconv_Atoi_range Tryz.laysC172 s hlim h ev w hv hev
end Go.Proofs


namespace Go.Proofs.YtknoibocpbfmmaaGreatDoor
open Go.RowKit Go.Shelf
set_option linter.unusedVariables false
set_option linter.unusedSimpArgs false
def Dgs (l : List UInt8) : Prop := l ≠ [] ∧ ∀ b ∈ l, 48 ≤ b.toNat ∧ b.toNat ≤ 57
def decF (acc : Nat) (l : List UInt8) : Nat := l.foldl (fun n b => n * 10 + (b.toNat - 48)) acc
theorem decF_ge : ∀ (l : List UInt8) (acc : Nat), acc ≤ decF acc l
 | [], acc => Nat.le_refl _
 | c :: r, acc => by
  have := decF_ge r (acc * 10 + (c.toNat - 48))
  show acc ≤ decF (acc * 10 + (c.toNat - 48)) r
  omega
theorem pu_dec : ∀ (l : List UInt8) (acc : Nat), (∀ b ∈ l, 48 ≤ b.toNat ∧ b.toNat ≤ 57) → acc < 18446744073709551616 → Lib.parseUint10 acc l = if decF acc l < 18446744073709551616 then .ok (decF acc l) else .range
 | [], acc, h, ha => by
  show Lib.NumEnd.ok acc = if acc < 18446744073709551616 then Lib.NumEnd.ok acc else .range
  rw [if_pos ha]
 | c :: r, acc, h, ha => by
  have hc := h c (by simp)
  have hr : ∀ b ∈ r, 48 ≤ b.toNat ∧ b.toNat ≤ 57 := fun b hb => h b (by simp [hb])
  have e : decF acc (c :: r) = decF (acc * 10 + (c.toNat - 48)) r := rfl
  have g := decF_ge r (acc * 10 + (c.toNat - 48))
  rw [e]
  unfold Lib.parseUint10
  rw [if_pos hc]
  by_cases h1 : 1844674407370955162 ≤ acc
  ·rw [if_pos h1, if_neg (by omega)]
  ·rw [if_neg h1]
   by_cases h2 : 18446744073709551616 ≤ acc * 10 + (c.toNat - 48)
   ·rw [if_pos h2, if_neg (by omega)]
   ·rw [if_neg h2]
    exact pu_dec r _ hr (by omega)
theorem atoi_dec {l : List UInt8} (h : Dgs l) : Lib.atoiAll l = if decN l ≤ 9223372036854775807 then .ok (decN l : Nat) else .range := by
 obtain ⟨hn, h⟩ := h
 cases l with
 | nil => exact absurd rfl hn
 | cons c r =>
  have hc := h c (by simp)
  have e : decF 0 (c :: r) = decN (c :: r) := rfl
  have p := pu_dec (c :: r) 0 h (by omega)
  rw [e] at p
  unfold Lib.atoiAll
  simp only
  rw [if_neg (by omega)]
  unfold Lib.parseMag
  rw [if_neg (by simp), p]
  by_cases h1 : decN (c :: r) < 18446744073709551616
  ·rw [if_pos h1]
   simp only
   by_cases h2 : decN (c :: r) ≤ 9223372036854775807
   ·rw [if_neg (by omega), if_neg (by omega), if_pos h2, if_neg (by omega)]
   ·rw [if_pos ⟨by omega, by omega⟩, if_neg h2]
  ·rw [if_neg h1, if_neg (by omega)]
set_option maxRecDepth 100000 in
theorem pcells (s : ByteArray) (hd : Dgs s.data.toList) (hl : s.size ≤ 281474976710656) (w : World) (ev : Value) (hv : w.cell? ⟨3, 0, none⟩ = some ev) (hev : ev = .nilIface ∨ ∃ te pe, ev = .iface te pe) :
  Calls Tryz.prog 79 #[.string s] w fun e w' => e = .returned (.int .i64 (celN s)) ∧ Below w.heap.size w w' := by
 have ha := atoi_dec hd
 have hc : celN s = if decN s.data.toList < 1 ∨ 9223372036854775807 < decN s.data.toList then 65 else ((decN s.data.toList : Nat) : Int) := rfl
 rw [hc]
 clear hc
 generalize decN s.data.toList = n at *
 by_cases h : n ≤ 9223372036854775807
 ·rw [if_pos h] at ha
  have k : ∀ V, Calls Tryz.prog 96 #[.string s] V fun e w' => e = .returned (.tuple #[.int .i64 (n : Nat), .nilIface]) ∧ Below V.heap.size V w' := fun V => (Tryz.strconv_Atoi_ok s (by omega) _ ha V).mono fun e w' q => ⟨q.1, by
   rcases q.2 with rfl | ⟨t, rfl⟩
   ·exact Below.refl _ _
   ·exact Lib.bytesWorld_below V _ t⟩
  by_cases h1 : n < 1
  ·have hd1 : decide ((n : Int) < 1) = true := decide_eq_true (by omega)
   rw [if_pos (Or.inl h1)]
   go_enter Tryz.func79, Tryz.ntmps79
   go_wp2_with (first | (go_at_call 96; (refine (k _).mono ?_); rintro e v1 ⟨rfl, g⟩) | fail)
   go_ret
   exact ⟨rfl, g⟩
  ·have hd1 : decide ((n : Int) < 1) = false := decide_eq_false (by omega)
   rw [if_neg (by omega)]
   go_enter Tryz.func79, Tryz.ntmps79
   go_wp2_with (first | (go_at_call 96; (refine (k _).mono ?_); rintro e v1 ⟨rfl, g⟩) | fail)
   go_ret
   exact ⟨rfl, g⟩
 ·rw [if_neg h] at ha
  rw [if_pos (Or.inr (by omega))]
  have k := Tryz.strconv_Atoi_range s hl ha ev w hv hev
  go_enter Tryz.func79, Tryz.ntmps79
  go_wp2_with (first | (go_at_call 96; (refine k.mono ?_); rintro e v1 ⟨N, rfl, _, _, g⟩) | fail)
  all_goals go_ret
  all_goals exact ⟨rfl, g⟩
end Go.Proofs.YtknoibocpbfmmaaGreatDoor



namespace Go.Proofs.YtknoibocpbfmmaaGreatDoor
open Go.RowKit
set_option linter.unusedVariables false
set_option linter.unusedSimpArgs false
set_option maxRecDepth 100000 in
theorem lex_info : (Tryz.prog.info? 45).map (fun i => (i.zero, i.size, i.bytes)) = some (some (.agg #[.int .i64 0, .string ⟨#[]⟩, .int .i64 0]), 3, 32) := by kernel_rfl
theorem lx_cell (w : World) (x y z : Value) (t : TypeId) : ∀ j v, [x, y, z][j]? = some v → (w.alloc (.cells #[x, y, z] t)).cell? (Addr.add ⟨w.heap.size, 0, none⟩ j) = some v := by
 intro j v h
 match j, h with
 | 0, h => simp at h; subst h; simp [go_sem, Addr.add]
 | 1, h => simp at h; subst h; simp [go_sem, Addr.add]
 | 2, h => simp at h; subst h; simp [go_sem, Addr.add]
 | j + 3, h => simp at h
theorem lx_one (k a : Int) (s : ByteArray) : ∀ u ∈ [Value.int .i64 k, .string s, .int .i64 a], u.oneCell' = true := by
 intro u hu; simp at hu; rcases hu with rfl | rfl | rfl <;> rfl
theorem lx_shape {w : World} {base n size : Nat} {e : TypeId} {v : Value} {xs : List Value} (h : w.ownsRow base e size v n xs) : ∃ (o : Option Addr) (cap : Nat), v = .slice o n cap := by
 rcases h.2 with ⟨rfl, rfl⟩ | ⟨g, cap, cur, rfl, _⟩
 ·exact ⟨none, 0, rfl⟩
 ·exact ⟨_, _, rfl⟩
set_option maxRecDepth 100000 in
set_option maxHeartbeats 1600000 in
theorem ptokens (v : Value) (n base : Nat) (xs : List Value) (E : Int) (w : World) (own : w.ownsRow base 45 3 v n xs) (hn : n ≤ 1099511627776) (hb : base ≤ w.heap.size) :
  Calls Tryz.prog 38 #[v, .int .i64 E] w fun e w' => ∃ v', e = .returned (.agg #[v']) ∧ w'.ownsRow base 45 3 v' (n + 1) (xs ++ [.int .i64 0, .string tx0, .int .i64 E]) ∧ w.heap.size ≤ w'.heap.size ∧ (∀ k, k < w.heap.size → v.ownBlock ≠ some k → w'.heap[k]? = w.heap[k]?) ∧ w'.os = w.os ∧ w'.tape = w.tape ∧ w'.output = w.output := by
 obtain ⟨i0, hi, hz0, hz1, hz2⟩ : ∃ i, Tryz.prog.info? 45 = some i ∧ i.zero = some (.agg #[.int .i64 0, .string ⟨#[]⟩, .int .i64 0]) ∧ i.size = 3 ∧ i.bytes = 32 := by
  have h := lex_info
  cases hq : Tryz.prog.info? 45 with
  | none => rw [hq] at h; cases h
  | some i => rw [hq] at h; simp only [Option.map_some, Option.some.injEq, Prod.mk.injEq] at h; exact ⟨i, rfl, h.1, h.2.1, h.2.2⟩
 obtain ⟨c, hc⟩ : ∃ c, w.heap.size = c := ⟨_, rfl⟩
 obtain ⟨vo, vcap, rfl⟩ : ∃ (o : Option Addr) (cap : Nat), v = .slice o n cap := by
  rcases own.2 with ⟨rfl, rfl⟩ | ⟨g, cap, cur, rfl, _⟩
  ·exact ⟨none, 0, rfl⟩
  ·exact ⟨_, _, rfl⟩
 have l1 : n + 1 ≤ maxLen := by unfold maxLen; omega
 have l2 : (n + 1) * 32 ≤ 140737488355328 := by omega
 go_enter Tryz.func38, Tryz.ntmps38
 have sz1 : (w.alloc (.cells #[.slice none 0 0] 76)).heap.size = c + 1 := by rw [World.size_alloc, hc]
 have hn3 : ∀ j u, [Value.int .i64 0, .string ⟨#[]⟩, .int .i64 E][j]? = some u → ((w.alloc (.cells #[.slice none 0 0] 76)).alloc (.cells #[.int .i64 0, .string ⟨#[]⟩, .int .i64 E] 45)).cell? (Addr.add ⟨c + 1, 0, none⟩ j) = some u := by rw [← sz1]; exact lx_cell _ _ _ _ _
 have own2 := (own.alloc (.cells #[.slice none 0 0] 76)).alloc (.cells #[.int .i64 0, .string ⟨#[]⟩, .int .i64 E] 45)
 have hb2 : base ≤ ((w.alloc (.cells #[.slice none 0 0] 76)).alloc (.cells #[.int .i64 0, .string ⟨#[]⟩, .int .i64 E] 45)).heap.size := by rw [World.size_alloc, World.size_alloc]; omega
 have own' : Hid _ := own
 have ltO : Hid (∀ k, (Value.slice vo n vcap).ownBlock = some k → k < w.heap.size) := fun k h => (own.lt k h).2
 have qc : ((w.alloc (.cells #[.slice none 0 0] 76)).alloc (.cells #[.int .i64 0, .string ⟨#[]⟩, .int .i64 E] 45)).heap[c]? = some (.cells #[.slice none 0 0] 76 (0, 0)) := (Below.heap_alloc (w.alloc (.cells #[.slice none 0 0] 76)) _ c (by rw [World.size_alloc]; omega)).trans (hc ▸ World.alloc_heap_new w (.cells #[.slice none 0 0] 76))
 have sz2 : ((w.alloc (.cells #[.slice none 0 0] 76)).alloc (.cells #[.int .i64 0, .string ⟨#[]⟩, .int .i64 E] 45)).heap.size = c + 2 := by rw [World.size_alloc, sz1]
 have qc' : Hid _ := qc
 clear qc
 have hc' : Hid (w.heap.size = c) := hc
 clear own
 go_upto_region 1 with fail
 go_wp2_with (first
  | (at_builtin; refine wpList_append_own_at _ rfl _ _ 40 rfl base 45 i0 (.agg #[.int .i64 0, .string ⟨#[]⟩, .int .i64 0]) 3 32 Tryz.underlying40 hi hz0 hz1 hz2 rfl (by decide) _ _ _ rfl own2 ⟨c + 1, 0, none⟩ 1 1 [.int .i64 0, .string ⟨#[]⟩, .int .i64 E] rfl rfl hn3 (lx_one _ _ _) l1 l2 hb2 ?_; intro v' V3 hown' hgrow hnil hat; obtain ⟨vo2, vc2, rfl⟩ := lx_shape hown'; have q3 := (hgrow.block c (by omega) (fun e => by have := ltO.out c e.symm; omega)).trans qc'.out; have c0 : V3.cell? ⟨c, 0, none⟩ = some (.slice none 0 0) := (by simp [World.cell?, q3]); have cf : ∀ j, V3.frozen? ⟨c, j, none⟩ = false := (fun j => by simp [World.frozen?, q3]))
  | fail)
 have g0 : (V3.setCell ⟨c, 0, none⟩ (.slice vo2 (n + 1) vc2)).cell? ⟨c, 0, none⟩ = some (.slice vo2 (n + 1) vc2) := by simp [go_sem, c0]
 have hne : ∀ g, (Value.slice vo2 (n + 1) vc2).ownBlock = some g → g ≠ c := fun g hg => by
  rcases hat with h | h
  ·rw [h] at hg
   have := ltO.out g hg
   omega
  ·rw [h, sz2] at hg
   cases hg
   omega
 refine bodyPost_ret (v := .agg #[.slice vo2 (n + 1) vc2]) (by simp [results, Tryz.results38, go_sem, g0]) rfl ⟨_, rfl, ?_, ?_, fun k hk hn2 => ?_, hgrow.os, hgrow.tape, hgrow.output⟩
 ·obtain ⟨h1, h2⟩ := hown'
  refine ⟨h1, h2.imp id ?_⟩
  rintro ⟨g, cap, cur, e1, e2, e3, e4⟩
  exact ⟨g, cap, cur, e1, e2, by rw [Below.heap_setCell _ _ _ _ (hne g (by rw [e1]; rfl))]; exact e3, e4⟩
 ·have := hgrow.size
  rw [sz2] at this
  simp [go_sem]
  omega
 ·rw [Below.heap_setCell _ _ _ _ (by show k ≠ c; omega)]
  refine (hgrow.block k (by omega) (fun e => hn2 e.symm)).trans ?_
  exact (Below.heap_alloc _ _ k (by rw [World.size_alloc]; omega)).trans (Below.heap_alloc _ _ k hk)
end Go.Proofs.YtknoibocpbfmmaaGreatDoor



