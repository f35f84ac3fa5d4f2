/- plumblineref05: is a block right? -/
import Derived.Test.YtknoibocpbfmmaaGreatDoorPgF
namespace Go.Proofs.YtknoibocpbfmmaaGreatDoor
open Go.RowKit
set_option linter.unusedVariables false
set_option linter.unusedSimpArgs false
/-- How deep blocks are. -/
def So.bd : So → Nat
  | .nil => 0
  | .cons _ _ _ _ _ _ t e r => max (max t.bd e.bd + 1) r.bd
def Bdk (f : So) (n : Nat) : Prop := f = .nil ∨ n + f.bd ≤ 25
theorem So.bd_drop : ∀ (f : So) (j : Nat), (f.drop j).bd ≤ f.bd
  | f, 0 => Nat.le_refl _
  | .nil, j + 1 => Nat.le_refl _
  | .cons _ _ _ _ _ _ t e r, j + 1 => by
    have := So.bd_drop r j
    show (r.drop j).bd ≤ max (max t.bd e.bd + 1) r.bd
    omega
def RsT (s : St) : Prop := ∀ (n : Nat) (S : Nat → Prop) (p0 : Option Addr) (q0 : Nat) (p1 : Option Addr) (q1 : Nat) (p2 : Option Addr) (q2 : Nat) (p3 : Option Addr) (q3 : Nat) (p4 : Option Addr) (q4 : Nat) (p5 : Option Addr) (q5 : Nat) (w : World), n ≤ 24 → Bdk s.thn (n + 1) → Bdk s.els (n + 1) → StT w S s p0 q0 p1 q1 p2 q2 p3 q3 p4 q4 p5 q5 →
  Calls Tryz.prog 47 #[.agg #[.int .i64 s.dO, .string s.name, .slice p0 s.index.len q0, .int .i64 s.value.op, .string s.value.tx, .int .i64 s.value.ty, .slice p1 s.value.ks.len q1, .int .i64 s.low.op, .string s.low.tx, .int .i64 s.low.ty, .slice p2 s.low.ks.len q2, .int .i64 s.high.op, .string s.high.tx, .int .i64 s.high.ty, .slice p3 s.high.ks.len q3, .slice p4 s.thn.len q4, .slice p5 s.els.len q5], .int .i64 (n : Int)] w fun r w' => r = .returned (.bool true) ∧ Below w.heap.size w w'
set_option maxRecDepth 100000 in
set_option maxHeartbeats 6400000 in
theorem rbB (f : So) (hA : f.all RsT) (hz : f.len ≤ 1099511627776) (n : Nat) (hn : n ≤ 100) (hd : Bdk f n) (S : Nat → Prop) (pp : Option Addr) (qq : Nat) (w : World) (hT : SlS w S (.slice pp f.len qq) f) :
    Calls Tryz.prog 27 #[.slice pp f.len qq, .int .i64 (n : Int)] w fun r w' => r = .returned (.bool true) ∧ Below w.heap.size w w' := by
  obtain ⟨m, hm0⟩ : ∃ m, f.len = m := ⟨_, rfl⟩
  rw [hm0] at hT hz ⊢
  have hm' : Hid (f.len = m) := hm0
  have hA' : Hid (f.all RsT) := hA
  have hT' : Hid (SlS w S (.slice pp m qq) f) := hT
  have hm40 : Hid (m ≤ 1099511627776 ∧ n ≤ 100 ∧ Bdk f n) := ⟨hz, hn, hd⟩
  have hc : m = 0 ∨ 0 < m ∧ n ≤ 24 := by
    rcases hd with h | h
    · left; rw [← hm0, h]; rfl
    · by_cases c : m = 0
      · exact Or.inl c
      · right
        refine ⟨by omega, ?_⟩
        cases f with
        | nil => rw [← hm0] at c; exact absurd rfl c
        | cons _ _ _ _ _ _ t e r =>
          have h' : n + max (max t.bd e.bd + 1) r.bd ≤ 25 := h
          omega
  clear hm0 hA hT hz hn hd
  go_enter Tryz.func27, Tryz.ntmps27
  rcases hc with rfl | ⟨m0, hn24⟩
  · go_upto_region 4 with fail
    refine wp_loop_rounds 1 ?_
    rw [rounds_succ]
    go_wp2_with fail
    go_ret
    exact ⟨rfl, Below.refl _ _⟩
  · have d1 : decide ((0 : Int) < (m : Int)) = true := decide_eq_true (by omega)
    have d2 : decide ((24 : Int) < (n : Int)) = false := decide_eq_false (by omega)
    have d3 : ¬ (24 : Int) < (n : Int) := by omega
    have d4 : ¬ 24 < n := by omega
    go_upto_region 4 with fail
    clear d1 d2 d3 d4
    go_loopw [5] (fun i wr => ∃ (j : Nat) (V : World), i = .int .i64 j ∧ V = wr ∧ Hid (Below w.heap.size w V) ∧ j ≤ m) (fun i _ => m - (intOf i).toNat)
    case atStart => exact ⟨0, w, rfl, rfl, Below.refl _ _, by omega⟩
    case round =>
      obtain ⟨j, V, rfl, e, gV, hj⟩ := hrel
      subst e
      have b40 := hm40.out
      by_cases cj : j < m
      · have cj' : (j : Int) < (m : Int) := by omega
        obtain ⟨s, hf⟩ := So.drop_at (f := f) (j := j) (by rw [hm'.out]; exact cj)
        have hal := So.all_drop j hA'.out
        have hbd := So.bd_drop f j
        rw [hf] at hal hbd
        have hbd' : max (max s.thn.bd s.els.bd + 1) (f.drop (j + 1)).bd ≤ f.bd := hbd
        have hfn : n + f.bd ≤ 25 := b40.2.2.resolve_left (fun h => by have := hm'.out; rw [h] at this; simp [So.len] at this; omega)
        have hTT := hT'.out.kp (Below.kp gV.out _)
        obtain ⟨p2', q2', e2, hT⟩ := hTT
        obtain ⟨rfl, e4, rfl⟩ := Value.slice.inj e2
        clear e2 e4
        rcases hT with hT | ⟨c, u, rfl, hT⟩
        · exfalso; have := hm'.out; rw [hT] at this; simp [So.len] at this; omega
        have hTj := SoAt.drop j hT
        rw [hf] at hTj
        obtain ⟨lc, p0, q0, p1, q1, p2, q2, p3, q3, p4, q4, p5, q5, sT, k0, k1, k2, k3, k4, k5, k6, k7, k8, k9, k10, k11, k12, k13, k14, k15, k16⟩ := hTj.cells
        have kS := (show RsT s from hal.1) n S p0 q0 p1 q1 p2 q2 p3 q3 p4 q4 p5 q5 V hn24 (Or.inr (by omega)) (Or.inr (by omega)) sT
        have ix := so_ix c u m qq j cj
        have wj : IntKind.i64.wrap ((j : Int) + 1) = ((j + 1 : Nat) : Int) := by rw [IntKind.wrap_i64]; omega
        generalize u + j * 17 = o at *
        obtain ⟨CSA, hCSA⟩ : ∃ CS : List Value, [.int .i64 s.dO, .string s.name, .slice p0 s.index.len q0, .int .i64 s.value.op, .string s.value.tx, .int .i64 s.value.ty, .slice p1 s.value.ks.len q1, .int .i64 s.low.op, .string s.low.tx, .int .i64 s.low.ty, .slice p2 s.low.ks.len q2, .int .i64 s.high.op, .string s.high.tx, .int .i64 s.high.ty, .slice p3 s.high.ks.len q3, .slice p4 s.thn.len q4, .slice p5 s.els.len q5] = CS := ⟨_, rfl⟩
        have hlA : CSA.length = 17 := by rw [← hCSA]; rfl
        have h1A : ∀ v ∈ CSA, v.oneCell' = true := by
          rw [← hCSA]
          intro v hv
          simp only [List.mem_cons, List.not_mem_nil, or_false] at hv
          rcases hv with rfl | rfl | rfl | rfl | rfl | rfl | rfl | rfl | rfl | rfl | rfl | rfl | rfl | rfl | rfl | rfl | rfl <;> rfl
        have kcA : V.rangeAt c o CSA := by
          rw [← hCSA]
          intro jj v hv
          match jj, hv with
          | 0, hv => obtain rfl := Option.some.inj hv; exact k0
          | 1, hv => obtain rfl := Option.some.inj hv; exact k1
          | 2, hv => obtain rfl := Option.some.inj hv; exact k2
          | 3, hv => obtain rfl := Option.some.inj hv; exact k3
          | 4, hv => obtain rfl := Option.some.inj hv; exact k4
          | 5, hv => obtain rfl := Option.some.inj hv; exact k5
          | 6, hv => obtain rfl := Option.some.inj hv; exact k6
          | 7, hv => obtain rfl := Option.some.inj hv; exact k7
          | 8, hv => obtain rfl := Option.some.inj hv; exact k8
          | 9, hv => obtain rfl := Option.some.inj hv; exact k9
          | 10, hv => obtain rfl := Option.some.inj hv; exact k10
          | 11, hv => obtain rfl := Option.some.inj hv; exact k11
          | 12, hv => obtain rfl := Option.some.inj hv; exact k12
          | 13, hv => obtain rfl := Option.some.inj hv; exact k13
          | 14, hv => obtain rfl := Option.some.inj hv; exact k14
          | 15, hv => obtain rfl := Option.some.inj hv; exact k15
          | 16, hv => obtain rfl := Option.some.inj hv; exact k16
          | n + 17, hv => cases hv
        have kS9 : Calls Tryz.prog 47 #[.agg CSA.toArray, .int .i64 (n : Int)] V fun r w' => r = .returned (.bool true) ∧ Below V.heap.size V w' := by rw [← hCSA]; exact kS
        clear kS k0 k1 k2 k3 k4 k5 k6 k7 k8 k9 k10 k11 k12 k13 k14 k15 k16 hCSA h1A
        clear hTj hT hal lc hf hbd hbd' hfn b40 sT
        go_upto_region 6 with fail
        refine wp_region_list ?_
        refine Eq.mpr (if_pos (by rfl)) (Or.inl ?_)
        refine wp_move_by (.tmp 0) rfl _ rfl ?_
        simp only [Act.put, List.setIfInBounds_toArray, List.set_cons_zero, List.set_cons_succ]
        refine Eq.mpr (if_pos (by rfl)) (Or.inl ?_)
        refine wp_move_by (.tmp 5) rfl _ rfl ?_
        simp only [Act.put, List.setIfInBounds_toArray, List.set_cons_zero, List.set_cons_succ]
        refine Eq.mpr (if_pos (by rfl)) (Or.inl ?_)
        refine wp_index_by 23 (.tmp 19) (.tmp 20) rfl _ _ _ rfl rfl (ix _) ?_
        simp only [Act.put, List.setIfInBounds_toArray, List.set_cons_zero, List.set_cons_succ]
        refine Eq.mpr (if_pos (by rfl)) (Or.inl ?_)
        refine wp_load_by 87 (.tmp 21) rfl _ _ rfl (ld17o kcA hlA) ?_
        simp only [Act.put, List.setIfInBounds_toArray, List.set_cons_zero, List.set_cons_succ]
        clear kcA hlA ix
        go_wp2_with (first
          | (go_at_call 47; (refine kS9.mono ?_); rintro e v1 ⟨rfl, g3⟩)
          | fail)
        exact ⟨⟨j + 1, v1, by go_num, rfl, pb_call gV.out g3, by omega⟩, by simp [intOf]; omega⟩
      · obtain rfl : j = m := by omega
        have nn : ¬ ((j : Int) < (j : Int)) := by omega
        have g' := gV.out
        go_wp2_with fail
        go_ret
        exact ⟨rfl, g'⟩
end Go.Proofs.YtknoibocpbfmmaaGreatDoor

