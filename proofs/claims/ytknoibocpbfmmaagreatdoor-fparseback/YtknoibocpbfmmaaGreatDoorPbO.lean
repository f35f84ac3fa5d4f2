/- A ruler: measure. -/
import Derived.Test.YtknoibocpbfmmaaGreatDoorPbN
import Derived.Test.YtknoibocpbfmmaaGreatDoorPbR
namespace Go.Proofs.YtknoibocpbfmmaaGreatDoor
open Go.RowKit
set_option linter.unusedVariables false
set_option linter.unusedSimpArgs false
theorem SlDc.bel {W V : World} {v : Value} {ds : List Dc} (h : SlDc W v ds) (g : Below W.heap.size W V) : SlDc V v ds := by
  obtain ⟨p, q, e, h⟩ := h
  refine ⟨p, q, e, h.imp id ?_⟩
  rintro ⟨c, u, e2, k⟩
  exact ⟨c, u, e2, fun j d hj => ⟨pb_cell g (k j d hj).1, pb_cell g (k j d hj).2.1, pb_cell g (k j d hj).2.2⟩⟩
theorem pmeas1 (ds : List Dc) (f : So) (S : Nat → Prop) (dv bv : Value) (b b1 : Nat) (w : World) (hO : OpsAt w) (hG : b ≠ 0) (hS : ¬ S b) (hD : SlDc w dv ds) (hT : SlS w S bv f) (hR : RuAt w b (0, 0)) (hz : ∀ d ∈ ds, d.1.size ≤ 9223372036854775807) (hf : f.szs) (h0 : w.cell? ⟨b1, 0, none⟩ = some dv) (h1 : w.cell? ⟨b1, 1, none⟩ = some bv) :
    Calls Tryz.prog 50 #[.pointer (some ⟨b, 0, none⟩), .pointer (some ⟨b1, 0, none⟩)] w fun e w' => RuR (ruP (ds, f)) b w e w' := by
  have k := pprog ds f S dv bv b w hO hG hS hD hT hR hz hf
  obtain ⟨_, _, rfl, _⟩ := hD
  obtain ⟨_, _, rfl, _⟩ := hT
  cases hr : ruP (ds, f) with
  | none =>
    rw [hr] at k
    go_enter Tryz.func50, Tryz.ntmps50
    go_wp2_with (first
      | (go_at_call 51; (refine k.mono ?_); rintro e v1 ⟨on1, rfl⟩)
      | fail)
    exact ⟨rfl, on1, rfl⟩
  | some c2 =>
    rw [hr] at k
    go_enter Tryz.func50, Tryz.ntmps50
    go_wp2_with (first
      | (go_at_call 51; (refine k.mono ?_); rintro e v1 ⟨on1, rfl, h1⟩)
      | fail)
    exact bodyPost_end (v := .tuple #[]) (by simp [results, Tryz.results50, go_sem]) rfl ⟨on1, rfl, h1⟩
/-- What measure tells. -/
def msP (p : Pg) : Int × Bool := match ruP p with | some c => ((c.1 : Nat), true) | none => (0, false)
set_option maxRecDepth 100000 in
set_option maxHeartbeats 1600000 in
theorem pmeasure (ds : List Dc) (f : So) (S : Nat → Prop) (dv bv : Value) (w : World) (hO : OpsAt w) (hG : 0 < w.heap.size) (hD : SlDc w dv ds) (hT : SlS w S bv f) (hz : ∀ d ∈ ds, d.1.size ≤ 9223372036854775807) (hf : f.szs) :
    Calls Tryz.prog 29 #[.agg #[dv, bv]] w fun e w' => e = .returned (.tuple #[.int .i64 (msP (ds, f)).1, .bool (msP (ds, f)).2]) ∧ Below w.heap.size w w' := by
  have hT := hT.lt
  obtain ⟨W, hW⟩ : ∃ W, (w.alloc (.cells #[dv, bv] 25)).alloc (.cells #[.int .i64 0, .int .i64 0] 96) = W := ⟨_, rfl⟩
  obtain ⟨b1, hb1⟩ : ∃ b, w.heap.size = b := ⟨_, rfl⟩
  obtain ⟨b, hb⟩ : ∃ b, b1 + 1 = b := ⟨_, rfl⟩
  have gW : Below w.heap.size w W := by rw [← hW]; exact pb_new (pb_new (Below.refl _ _) _) _
  have sW : W.heap.size = b + 1 := by rw [← hW, ← hb, ← hb1]; simp [go_sem]
  have qb : W.heap[b]? = some (.cells #[.int .i64 0, .int .i64 0] 96 (0, 0)) := by
    rw [← hW, show b = (w.alloc (.cells #[dv, bv] 25)).heap.size by rw [← hb, ← hb1]; simp [go_sem]]
    exact World.alloc_heap_new _ _
  have d0 : W.cell? ⟨b1, 0, none⟩ = some dv := by rw [← hW, ← hb1]; simp [go_sem]
  have d1 : W.cell? ⟨b1, 1, none⟩ = some bv := by rw [← hW, ← hb1]; simp [go_sem]
  have gF := pb_new (Below.refl W.heap.size W) (.cells #[.int .i64 0, .int .i64 0] 48)
  have qF := World.alloc_heap_new W (.cells #[.int .i64 0, .int .i64 0] 48)
  have RW : RuAt W b (0, 0) := ⟨by simp [World.cell?, qb], by simp [World.cell?, qb], fun k => by simp [World.frozen?, qb], by omega, by omega⟩
  have nS : ¬ (S b ∧ b < w.heap.size) := fun h => by omega
  have kM := pmeas1 ds f _ dv bv b b1 (W.alloc (.cells #[.int .i64 0, .int .i64 0] 48)) ((hO.bel gW).bel gF) (by omega) nS ((hD.bel gW).bel gF) ((hT.kp (Below.kp gW _)).kp (Below.kp gF _)) (RW.bel gF) hz hf (pb_cell gF d0) (pb_cell gF d1)
  have hmf : ∀ (fn : Fn) (first cap : Array Value) (w : World), (Instr.makeFunc fn first cap).run Tryz.prog w = .ok (.func fn first cap) w := fun _ _ _ _ => rfl
  have hwb : w.heap.size ≤ b := by omega
  have hsz := gW.size
  unfold msP
  obtain ⟨_, _, rfl, _⟩ := hD
  obtain ⟨_, _, rfl, _⟩ := hT
  cases hr : ruP (ds, f) with
  | none =>
    rw [hr] at kM
    have kF := pfault_no 50 #[.pointer (some ⟨b, 0, none⟩), .pointer (some ⟨b1, 0, none⟩)] (fun _ _ => rfl) 4 0 W (fun v1 => Onl b W v1) (kM.mono fun e v1 h => ⟨h.2, (h.1.block _ (by rw [World.size_alloc]; omega) (by omega)).trans qF, ((Onl.refl b W).below gF).trans h.1⟩)
    clear kM hr
    go_enter Tryz.func29, Tryz.ntmps29
    go_upto_region 2 with fail
    (try rw [hW])
    (try rw [hb1])
    (try rw [hb])
    clear hW hb1 hb
    go_wp2_with (first
      | (go_at_call 19; (refine kF.mono ?_); rintro e v2 ⟨rfl, v1, on1, on2⟩)
      | fail)
    exact bodyPost_ret (v := .tuple #[.int .i64 0, .bool false]) (by simp [results, Tryz.results29, go_sem]) rfl ⟨rfl, pb_new (gW.trans ((on1.toBelow hwb hsz).trans (on2.toBelow hsz (Nat.le_trans hsz on1.size)))) _⟩
  | some c2 =>
    rw [hr] at kM
    have kF := pfault_ok 50 #[.pointer (some ⟨b, 0, none⟩), .pointer (some ⟨b1, 0, none⟩)] (fun _ _ => rfl) W (fun v1 => Onl b W v1 ∧ RuAt v1 b c2) (kM.mono fun e v1 h => ⟨h.2.1, (h.1.block _ (by rw [World.size_alloc]; omega) (by omega)).trans qF, ((Onl.refl b W).below gF).trans h.1, h.2.2⟩)
    have nW : b ≠ W.heap.size := by omega
    clear kM hr
    go_enter Tryz.func29, Tryz.ntmps29
    go_upto_region 2 with fail
    (try rw [hW])
    (try rw [hb1])
    (try rw [hb])
    clear hW hb1 hb
    go_wp2_with (first
      | (go_at_call 19; (refine kF.mono ?_); rintro e v2 ⟨rfl, v1, ⟨on1, R1⟩, on2⟩; have R2 := R1.on (on2.block b R1.lt nW); have rp := (R2.bel (pb_new (Below.refl v2.heap.size v2) (.cells #[.int .i64 0, .int .i64 0] 48))).p)
      | fail)
    exact bodyPost_ret (v := .tuple #[.int .i64 (c2.1 : Nat), .bool true]) (by simp [results, Tryz.results29, go_sem]) rfl ⟨rfl, pb_new (gW.trans ((on1.toBelow hwb hsz).trans (on2.toBelow hsz (Nat.le_trans hsz on1.size)))) _⟩
theorem pright (ds : List Dc) (f : So) (S : Nat → Prop) (dv bv : Value) (w : World) (hO : OpsAt w) (hG : 0 < w.heap.size) (hD : SlDc w dv ds) (hT : SlS w S bv f) (hz : ∀ d ∈ ds, d.1.size ≤ 9223372036854775807) (hf : f.szs) :
    Calls Tryz.prog 17 #[.agg #[dv, bv]] w fun e w' => e = .returned (.bool (msP (ds, f)).2) ∧ Below w.heap.size w w' := by
  have gX := pb_new (Below.refl w.heap.size w) (.cells #[dv, bv] 25)
  have k := pmeasure ds f S dv bv _ (hO.bel gX) (Nat.lt_of_lt_of_le hG gX.size) (hD.bel gX) (hT.kp (Below.kp gX _)) hz hf
  obtain ⟨_, _, rfl, _⟩ := hD
  obtain ⟨_, _, rfl, _⟩ := hT
  go_enter Tryz.func17, Tryz.ntmps17
  go_wp2_with (first
    | (go_at_call 29; (refine k.mono ?_); rintro e v2 ⟨rfl, g⟩)
    | fail)
  go_ret
  exact ⟨rfl, pb_call gX g⟩
theorem ppoints (ds : List Dc) (f : So) (S : Nat → Prop) (dv bv : Value) (w : World) (hO : OpsAt w) (hG : 0 < w.heap.size) (hD : SlDc w dv ds) (hT : SlS w S bv f) (hz : ∀ d ∈ ds, d.1.size ≤ 9223372036854775807) (hf : f.szs) :
    Calls Tryz.prog 15 #[.agg #[dv, bv]] w fun e w' => e = .returned (.int .i64 (msP (ds, f)).1) ∧ Below w.heap.size w w' := by
  have gX := pb_new (Below.refl w.heap.size w) (.cells #[dv, bv] 25)
  have k := pmeasure ds f S dv bv _ (hO.bel gX) (Nat.lt_of_lt_of_le hG gX.size) (hD.bel gX) (hT.kp (Below.kp gX _)) hz hf
  obtain ⟨_, _, rfl, _⟩ := hD
  obtain ⟨_, _, rfl, _⟩ := hT
  go_enter Tryz.func15, Tryz.ntmps15
  go_wp2_with (first
    | (go_at_call 29; (refine k.mono ?_); rintro e v2 ⟨rfl, g⟩)
    | fail)
  go_ret
  exact ⟨rfl, pb_call gX g⟩
end Go.Proofs.YtknoibocpbfmmaaGreatDoor

