/- What work is given up with: faultOf. -/
import Derived.Test.YtknoibocpbfmmaaGreatDoorPaD
namespace Go.Proofs.YtknoibocpbfmmaaGreatDoor
open Go.RowKit
set_option linter.unusedVariables false
set_option linter.unusedSimpArgs false
theorem fo_set {V : World} {c : Nat} {cs : Array Value} {t : TypeId} {z : Nat × Nat} (q : V.heap[c]? = some (.cells cs t z)) (j : Nat) (x : Value) : (V.setCell ⟨c, j, none⟩ x).heap[c]? = some (.cells (cs.setIfInBounds j x) t z) := by
  unfold World.setCell
  simp [Array.getElem?_modify, q]
set_option maxRecDepth 100000 in
theorem flt_is (E A : Int) (w : World) : (Instr.typeAssert (fltV E A) 20 48 true).run Tryz.prog w = .ok (.tuple #[.agg #[.int .i64 E, .int .i64 A], .bool true]) w := by kernel_rfl
set_option maxRecDepth 100000 in
set_option maxHeartbeats 1600000 in
theorem catch_flt (c : Nat) (E A : Int) (older : List PanicEntry) (w : World) (hc : w.heap[c]? = some (.cells #[.int .i64 0, .int .i64 0] 48 (0, 0))) :
    CallsD Tryz.prog 37 #[.pointer (some ⟨c, 0, none⟩)] (.panicking ({ v := fltV E A, recovered := false } :: older)) w fun e u' w' =>
      e = .returned (.tuple #[]) ∧ u' = .panicking ({ v := fltV E A, recovered := true } :: older) ∧ Onl c w w' ∧ w'.heap[c]? = some (.cells #[.int .i64 E, .int .i64 A] 48 (0, 0)) := by
  refine callsD_of_wpS Tryz.func37 rfl fun c₀ cs hu => ?_
  have lc : c < w.heap.size := (Array.getElem?_eq_some_iff.1 hc).1
  have f0 : w.cell? ⟨c, 0, none⟩ = some (.int .i64 0) := by simp [World.cell?, hc]
  have f1 : w.cell? ⟨c, 1, none⟩ = some (.int .i64 0) := by simp [World.cell?, hc]
  have ff : ∀ k, w.frozen? ⟨c, k, none⟩ = false := fun k => by simp [World.frozen?, hc]
  have zc : c ≠ w.heap.size := by omega
  have zw : w.heap.size ≠ c := by omega
  have fi := flt_is E A
  unfold fltV at *
  apply wpS_seq
  apply wpS_region
  simp [wpOpsS, go_sem, recoverD, hu, Tryz.ntmps37, Exit.thenS]
  rw [show (#[Value.pointer (some { block := c, off := 0 })] ++ (Array.replicate 10 undef).setIfInBounds 3 (.iface 48 (.agg #[.int .i64 E, .int .i64 A]))) = #[Value.pointer (some { block := c, off := 0 }), undef, undef, undef, .iface 48 (.agg #[.int .i64 E, .int .i64 A]), undef, undef, undef, undef, undef, undef] from rfl]
  refine wpS_of_wp ?_
  go_wp2_with fail
  have fin : Onl c w (((w.setCell { block := c, off := 0 } (Value.int IntKind.i64 E)).setCell { block := c, off := 1 } (Value.int IntKind.i64 A)).alloc (Obj.cells #[Value.int IntKind.i64 E, Value.int IntKind.i64 A] 48)) ∧ (((w.setCell { block := c, off := 0 } (Value.int IntKind.i64 E)).setCell { block := c, off := 1 } (Value.int IntKind.i64 A)).alloc (Obj.cells #[Value.int IntKind.i64 E, Value.int IntKind.i64 A] 48)).heap[c]? = some (Obj.cells #[Value.int IntKind.i64 E, Value.int IntKind.i64 A] 48 (0, 0)) := by
    have q1 := fo_set hc 0 (Value.int IntKind.i64 E)
    have q2 := fo_set q1 1 (Value.int IntKind.i64 A)
    refine ⟨(((Onl.refl c w).set _).set _).below (pb_new (Below.refl _ _) _), ?_⟩
    rw [Below.heap_alloc _ _ _ (by simp [go_sem]; exact lc)]
    exact q2
  simpa [bodyPostS, results, Tryz.results37, go_sem] using fin
set_option maxRecDepth 100000 in
set_option maxHeartbeats 1600000 in
theorem catch_idle (c : Nat) (w : World) : CallsD Tryz.prog 37 #[.pointer (some ⟨c, 0, none⟩)] .returning w fun e u' w' => e = .returned (.tuple #[]) ∧ u' = .returning ∧ w' = w := by
  refine callsD_of_wpS Tryz.func37 rfl fun c₀ cs hu => ?_
  apply wpS_seq
  apply wpS_region
  simp [wpOpsS, go_sem, recoverD, hu, Tryz.ntmps37, Exit.thenS]
  rw [show (#[Value.pointer (some { block := c, off := 0 })] ++ (Array.replicate 10 undef).setIfInBounds 3 .nilIface) = #[Value.pointer (some { block := c, off := 0 }), undef, undef, undef, .nilIface, undef, undef, undef, undef, undef, undef] from rfl]
  refine wpS_of_wp ?_
  go_wp2_with fail
  cases c₀
  simp_all [bodyPostS, results, Tryz.results37]
set_option maxRecDepth 100000 in
set_option maxHeartbeats 1600000 in
theorem pfault_ok (k : Nat) (caps : Array Value) (ek : ∀ args w, (callFunc k args).run Tryz.prog w = .ok (.enter k args) w) (w : World) (P : World → Prop)
    (hw : Calls Tryz.prog k caps (w.alloc (.cells #[.int .i64 0, .int .i64 0] 48)) fun e v1 => e = .returned (.tuple #[]) ∧ v1.heap[w.heap.size]? = some (.cells #[.int .i64 0, .int .i64 0] 48 (0, 0)) ∧ P v1) :
    Calls Tryz.prog 19 #[.func (.func k) #[] caps] w fun e w' => e = .returned (.agg #[.int .i64 0, .int .i64 0]) ∧ ∃ v1, P v1 ∧ Onl w.heap.size v1 w' := by
  have hmf : ∀ (fn : Fn) (first cap : Array Value) (w : World), (Instr.makeFunc fn first cap).run Tryz.prog w = .ok (.func fn first cap) w := fun _ _ _ _ => rfl
  obtain ⟨c, hc⟩ : ∃ c, w.heap.size = c := ⟨_, rfl⟩
  have hc' : Hid (w.heap.size = c) := hc
  rw [hc] at hw ⊢
  go_enter_defers Tryz.func19, Tryz.ntmps19
  go_wp2_with (first | (go_at_fn k; refine hw.mono ?_; rintro e v1 ⟨rfl, q, hP⟩; have f0 : v1.cell? ⟨c, 0, none⟩ = some (.int .i64 0) := (by simp [World.cell?, q]); have f1 : v1.cell? ⟨c, 1, none⟩ = some (.int .i64 0) := (by simp [World.cell?, q]); have ff : ∀ k, v1.frozen? ⟨c, k, none⟩ = false := (fun k => by simp [World.frozen?, q])) | fail)
  refine leaves_cons (f := 37) (args := #[.pointer (some ⟨c, 0, none⟩)]) (by simp) (by simp [go_sem]) ?_
  refine (catch_idle c _).mono ?_
  rintro e u' w'' ⟨rfl, rfl, rfl⟩
  have on : Onl c v1 ((v1.setCell ⟨c, 0, none⟩ (.int .i64 0)).setCell ⟨c, 1, none⟩ (.int .i64 0)) := ((Onl.refl c v1).set _).set _
  have q1 := fo_set (fo_set q 0 (.int .i64 0)) 1 (.int .i64 0)
  generalize (v1.setCell ⟨c, 0, none⟩ (.int .i64 0)).setCell ⟨c, 1, none⟩ (.int .i64 0) = V at *
  have g0 : V.cell? ⟨c, 0, none⟩ = some (.int .i64 0) := by simp [World.cell?, q1]
  have g1 : V.cell? ⟨c, 1, none⟩ = some (.int .i64 0) := by simp [World.cell?, q1]
  exact ⟨.agg #[.int .i64 0, .int .i64 0], by simp [results, Tryz.results19, go_sem, g0, g1], rfl, v1, hP, on⟩
set_option maxRecDepth 100000 in
set_option maxHeartbeats 1600000 in
theorem pfault_no (k : Nat) (caps : Array Value) (ek : ∀ args w, (callFunc k args).run Tryz.prog w = .ok (.enter k args) w) (E A : Int) (w : World) (P : World → Prop)
    (hw : Calls Tryz.prog k caps (w.alloc (.cells #[.int .i64 0, .int .i64 0] 48)) fun e v1 => Fault E A e ∧ v1.heap[w.heap.size]? = some (.cells #[.int .i64 0, .int .i64 0] 48 (0, 0)) ∧ P v1) :
    Calls Tryz.prog 19 #[.func (.func k) #[] caps] w fun e w' => e = .returned (.agg #[.int .i64 E, .int .i64 A]) ∧ ∃ v1, P v1 ∧ Onl w.heap.size v1 w' := by
  have hmf : ∀ (fn : Fn) (first cap : Array Value) (w : World), (Instr.makeFunc fn first cap).run Tryz.prog w = .ok (.func fn first cap) w := fun _ _ _ _ => rfl
  obtain ⟨c, hc⟩ : ∃ c, w.heap.size = c := ⟨_, rfl⟩
  have hc' : Hid (w.heap.size = c) := hc
  rw [hc] at hw ⊢
  go_enter_defers Tryz.func19, Tryz.ntmps19
  go_wp2_with (first | (go_at_fn k; refine hw.mono ?_; rintro e v1 ⟨rfl, q, hP⟩) | fail)
  refine leaves_cons (f := 37) (args := #[.pointer (some ⟨c, 0, none⟩)]) (by simp) (by simp [go_sem]) ?_
  refine (catch_flt c E A _ _ q).mono ?_
  rintro e u' w'' ⟨rfl, rfl, on, q1⟩
  have g0 : w''.cell? ⟨c, 0, none⟩ = some (.int .i64 E) := by simp [World.cell?, q1]
  have g1 : w''.cell? ⟨c, 1, none⟩ = some (.int .i64 A) := by simp [World.cell?, q1]
  simp [Leaves, settle, results, Tryz.results19, go_sem, g0, g1]
  exact ⟨v1, hP, on⟩
end Go.Proofs.YtknoibocpbfmmaaGreatDoor
