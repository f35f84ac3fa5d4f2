/- TopChain: differences in a row. -/
import Derived.Test.YtdfbmafeemflaaaOcI
import Derived.Test.YtdfbmafeemflaaaOcJ
import Derived.Test.YtdfbmafeemflaaaOcC
namespace Go.Proofs.Ytdfbmafeemflaaa
open Go.RowKit
set_option linter.unusedVariables false
set_option linter.unusedSimpArgs false
/-- The sum of the first ones. -/
def sm (l : Nat → Int) : Nat → Int
  | 0 => 0
  | i + 1 => sm l i + l i
theorem sm_bd {l : Nat → Int} (h : ∀ j, 0 ≤ l j ∧ l j ≤ 999) : ∀ i, 0 ≤ sm l i ∧ sm l i ≤ 999 * (i : Int)
  | 0 => by simp [sm]
  | i + 1 => by
    have := sm_bd h i
    have := h i
    show 0 ≤ sm l i + l i ∧ sm l i + l i ≤ 999 * ((i + 1 : Nat) : Int)
    omega
/-- Sides of values. -/
def sd (v : Nat → Int) (a : Nat) : Int := if a % 2 = 0 then v (a / 2) else -v (a / 2)
theorem sd_ot (v : Nat → Int) (a : Nat) : sd v (ot a) = - sd v a := by
  unfold sd ot
  split
  · rename_i h
    rw [if_neg (by omega), show (a + 1) / 2 = a / 2 by omega]
  · rename_i h
    rw [if_pos (by omega), show (a - 1) / 2 = a / 2 by omega]
    omega
theorem sd_even (v : Nat → Int) (j : Nat) : sd v (2 * j) = v j := by
  unfold sd
  rw [if_pos (by omega), show 2 * j / 2 = j by omega]
theorem sd_odd (v : Nat → Int) (j : Nat) : sd v (2 * j + 1) = -v j := by
  unfold sd
  rw [if_neg (by omega), show (2 * j + 1) / 2 = j by omega]
theorem sd_bd {v : Nat → Int} {B : Int} (h : ∀ j, -B ≤ v j ∧ v j ≤ B) (a : Nat) : -B ≤ sd v a ∧ sd v a ≤ B := by
  have := h (a / 2)
  unfold sd
  split <;> omega
/-- Bounds behind the first i of the row. -/
structure Chn (l : Nat → Int) (i : Nat) (M : Mx) : Prop where
  up : ∀ a c, a < 16 → c < 16 → M a c ≤ 17179869184
  st : ∀ j, j < i → M (2 * j + 2) (2 * j + 1) ≤ l j ∧ M (2 * j + 1) (2 * j + 2) ≤ l j
  pt : ∀ v : Nat → Int, (∀ j, -8589934592 ≤ v j ∧ v j ≤ 8589934592) → (∀ j, j < i → v (j + 1) - v j ≤ l j) → Fit 8 M (sd v)
  cl : 0 < i → Clo 8 M
theorem bx_fit {v : Nat → Int} (h : ∀ j, -8589934592 ≤ v j ∧ v j ≤ 8589934592) : Fit 8 bx (sd v) := by
  refine ⟨sd_ot v, fun a b ha hb => ?_⟩
  unfold bx
  split
  · rename_i e
    rw [e, sd_ot]
    omega
  · have := sd_bd h a
    have := sd_bd h b
    omega
theorem chn_0 {l : Nat → Int} {M : Mx} (h : ∀ a c, a < 2 * 8 → c < 2 * 8 → M a c = bx a c) : Chn l 0 M where
  up := fun a c ha hc => by rw [h a c ha hc]; unfold bx; split <;> omega
  st := fun j hj => by omega
  pt := fun v hv _ => Agr.fit (fun a c ha hc => (h a c ha hc).symm) (bx_fit hv)
  cl := fun q => by omega
theorem chn_step {l : Nat → Int} {i : Nat} {M M' : Mx} (hi : i < 7) (h : Chn l i M) (t : Tgt 8 (low M (2 * (i + 1)) (2 * i + 1) (l i)) M') : Chn l (i + 1) M' where
  up := fun a c ha hc => Int.le_trans (t.le a c ha hc) (Int.le_trans (low_le _ _ _ _ _ _) (h.up a c ha hc))
  st := fun j hj => by
    have t1 := t.le (2 * j + 2) (2 * j + 1) (by omega) (by omega)
    have t2 := t.le (2 * j + 1) (2 * j + 2) (by omega) (by omega)
    by_cases e : j = i
    · subst e
      have l1 := low_1 M (2 * (j + 1)) (2 * j + 1) (l j)
      have l2 := low_2 M (2 * (j + 1)) (2 * j + 1) (l j)
      rw [show 2 * (j + 1) = 2 * j + 2 by omega] at l1 l2 t1 t2
      omega
    · have l1 := low_le M (2 * (i + 1)) (2 * i + 1) (l i) (2 * j + 2) (2 * j + 1)
      have l2 := low_le M (2 * (i + 1)) (2 * i + 1) (l i) (2 * j + 1) (2 * j + 2)
      have := h.st j (by omega)
      omega
  pt := fun v hv hc => t.fit _ (low_fit (h.pt v hv fun j hj => hc j (by omega)) (by
    have := hc i (by omega)
    rw [sd_even, sd_odd]
    omega))
  cl := fun _ => t.clo
theorem sd_get (v : Nat → Int) (j : Nat) : sd v (2 * j + 2) = v (j + 1) := by rw [show 2 * j + 2 = 2 * (j + 1) by omega, sd_even]
theorem chn_hi {l : Nat → Int} {i : Nat} {M : Mx} (h : Chn l i M) (h7 : i ≤ 7) : ∀ j, j < i → M (2 * j + 2) 1 ≤ sm l (j + 1) ∧ M 1 (2 * j + 2) ≤ sm l (j + 1)
  | 0, hj => by
    have := h.st 0 hj
    simp only [Nat.mul_zero, Nat.zero_add] at this
    show M (2 * 0 + 2) 1 ≤ 0 + l 0 ∧ M 1 (2 * 0 + 2) ≤ 0 + l 0
    simp only [Nat.mul_zero, Nat.zero_add]
    omega
  | j + 1, hj => by
    have ih := chn_hi h h7 j (by omega)
    have s := h.st (j + 1) hj
    have c1 := h.cl (by omega) (2 * (j + 1) + 1) (by omega) (2 * (j + 1) + 2) 1 (by omega) (by omega)
    have c2 := h.cl (by omega) (2 * (j + 1)) (by omega) 1 (2 * (j + 1) + 2) (by omega) (by omega)
    rw [show ot (2 * (j + 1) + 1) = 2 * j + 2 by unfold ot; rw [if_neg (by omega)]; omega] at c1
    rw [show ot (2 * (j + 1)) = 2 * (j + 1) + 1 by unfold ot; rw [if_pos (by omega)], show M 1 (2 * (j + 1)) = M 1 (2 * j + 2) from rfl] at c2
    show M (2 * (j + 1) + 2) 1 ≤ sm l (j + 1) + l (j + 1) ∧ M 1 (2 * (j + 1) + 2) ≤ sm l (j + 1) + l (j + 1)
    omega
theorem chn_bound {l : Nat → Int} {M : Mx} (hl : ∀ j, 0 ≤ l j ∧ l j ≤ 999) (h : Chn l 7 M) : M 14 1 = sm l 7 := by
  have b := sm_bd hl
  have h1 := (chn_hi h (by omega) 6 (by omega)).1
  have f := h.pt (fun j => if j ≤ 8 then sm l j else sm l 8) (fun j => by
    show _ ≤ (if j ≤ 8 then sm l j else sm l 8) ∧ (if j ≤ 8 then sm l j else sm l 8) ≤ _
    split
    · have := b j; omega
    · have := b 8; omega) (fun j hj => by
    show (if j + 1 ≤ 8 then sm l (j + 1) else sm l 8) - (if j ≤ 8 then sm l j else sm l 8) ≤ l j
    rw [if_pos (by omega), if_pos (by omega)]
    show sm l j + l j - sm l j ≤ l j
    omega)
  have f2 := f.2 14 1 (by omega) (by omega)
  have e1 := sd_even (fun j => if j ≤ 8 then sm l j else sm l 8) 7
  have e2 := sd_odd (fun j => if j ≤ 8 then sm l j else sm l 8) 0
  rw [show (2 * 7 : Nat) = 14 from rfl] at e1
  rw [show (2 * 0 + 1 : Nat) = 1 from rfl] at e2
  rw [e1, e2] at f2
  simp only [show (7 : Nat) ≤ 8 from by omega, if_true, show (0 : Nat) ≤ 8 from by omega] at f2
  have z : sm l 0 = 0 := rfl
  rw [z] at f2
  have h1' : M 14 1 ≤ sm l 7 := h1
  omega
theorem set_fit {l : Nat → Int} {M : Mx} (h : Chn l 7 M) (v : Nat → Int) (hv : ∀ j, -8589934592 ≤ v j ∧ v j ≤ 8589934592) (hc : ∀ j, j < 7 → v (j + 1) - v j ≤ l j) (h0 : 5 ≤ v 0 ∧ v 0 ≤ 9) : Fit 8 (low (low M 0 0 18) 1 1 (-10)) (sd v) := by
  have e1 : sd v 0 = v 0 := sd_even v 0
  have e2 : sd v 1 = -v 0 := sd_odd v 0
  exact low_fit (low_fit (h.pt v hv hc) (by rw [e1]; omega)) (by rw [e2]; omega)
/-- The row's own values, from c on. -/
def rv (l : Nat → Int) (c : Int) (j : Nat) : Int := if j ≤ 8 then c + sm l j else c
theorem rv_bd {l : Nat → Int} (hl : ∀ j, 0 ≤ l j ∧ l j ≤ 999) {c : Int} (h1 : 0 ≤ c) (h2 : c ≤ 9) (j : Nat) : -8589934592 ≤ rv l c j ∧ rv l c j ≤ 8589934592 := by
  have := sm_bd hl j
  unfold rv
  split <;> omega
theorem rv_st (l : Nat → Int) (c : Int) (j : Nat) (hj : j < 7) : rv l c (j + 1) - rv l c j ≤ l j := by
  unfold rv
  rw [if_pos (by omega), if_pos (by omega)]
  show c + (sm l j + l j) - (c + sm l j) ≤ l j
  omega
theorem chn_range {l : Nat → Int} {M M' : Mx} (hl : ∀ j, 0 ≤ l j ∧ l j ≤ 999) (h : Chn l 7 M) (t : Tgt 8 (low (low M 0 0 18) 1 1 (-10)) M') : M' 14 14 = 18 + 2 * sm l 7 ∧ 4294967296 ≤ M' 15 15 ∧ M' 15 15 ≤ 17179869184 := by
  have L : ∀ a c, low (low M 0 0 18) 1 1 (-10) a c ≤ M a c := fun a c => Int.le_trans (low_le _ _ _ _ _ _) (low_le _ _ _ _ _ _)
  have hb := chn_hi h (by omega) 6 (by omega)
  have f1 := (t.fit _ (set_fit h (rv l 9) (rv_bd hl (by omega) (by omega)) (rv_st l 9) (by unfold rv; simp [sm]))).2 14 14 (by omega) (by omega)
  have f2 := (t.fit _ (set_fit h (fun j => if j = 0 then 5 else -2147483648) (fun j => by show -8589934592 ≤ (if j = 0 then (5 : Int) else -2147483648) ∧ (if j = 0 then (5 : Int) else -2147483648) ≤ 8589934592; split <;> omega) (fun j hj => by
    have := hl j
    show (if j + 1 = 0 then (5 : Int) else -2147483648) - (if j = 0 then 5 else -2147483648) ≤ l j
    rw [if_neg (by omega)]
    split <;> omega) (by simp))).2 15 15 (by omega) (by omega)
  rw [show sd (rv l 9) 14 = rv l 9 7 from sd_even _ 7, show rv l 9 7 = 9 + sm l 7 from rfl] at f1
  rw [show sd (fun j => if j = 0 then (5 : Int) else -2147483648) 15 = -(-2147483648) from sd_odd _ 7] at f2
  have c1 := t.clo 1 (by omega) 14 14 (by omega) (by omega)
  have c2 := t.clo 0 (by omega) 0 14 (by omega) (by omega)
  rw [show ot 1 = 0 from rfl] at c1
  rw [show ot 0 = 1 from rfl] at c2
  have d1 := Int.le_trans (t.le 14 1 (by omega) (by omega)) (L 14 1)
  have d2 := Int.le_trans (t.le 1 14 (by omega) (by omega)) (L 1 14)
  have d3 := Int.le_trans (t.le 0 0 (by omega) (by omega)) (Int.le_trans (low_le _ _ _ _ _ _) (low_1 M 0 0 18))
  have d4 := Int.le_trans (t.le 15 15 (by omega) (by omega)) (Int.le_trans (L 15 15) (h.up 15 15 (by omega) (by omega)))
  have hb1 : M 14 1 ≤ sm l 7 := hb.1
  have hb2 : M 1 14 ≤ sm l 7 := hb.2
  refine ⟨?_, ?_, d4⟩ <;> omega
set_option maxRecDepth 100000 in
theorem oia (b j : Nat) (hj : j < 7) (w : World) : (Instr.indexAt 44 (.pointer (some ⟨b, 0, none⟩)) (.int .i64 j)).run Try.prog w = .ok (.pointer (some ⟨b, j, none⟩)) w := by
  have e1 : Try.prog.arrayLen 44 = 7 := by kernel_rfl
  have e2 : ∀ w, (sizeOf (Try.prog.elem 44)).run Try.prog w = .ok 1 w := fun w => by kernel_rfl
  rw [run_indexAt_array (h := by first | exact Try.underlying44 | rfl), e1, if_pos ⟨by omega, by omega⟩, e2]
  show Result.ok (Value.pointer (some (Addr.add ⟨b, 0, none⟩ ((j : Int).toNat * 1)))) w = _
  rw [Go.WideShapes.add_plain, Int.toNat_natCast, Nat.mul_one, Nat.zero_add]
theorem Below.onl {n b : Nat} {w W W' : World} (h : Below n w W) (g : Onl b W W') (hb : n ≤ b) (hs : n ≤ W.heap.size) : Below n w W' :=
  ⟨g.os.trans h.os, g.tape.trans h.tape, g.output.trans h.output, Nat.le_trans h.size g.size, fun k hk => (g.block k (by omega) (by omega)).trans (h.block k hk)⟩
theorem fldHi (x y : Int) (w : World) : (Instr.field 23 (.agg #[.bool false, .int .i64 x, .int .i64 y]) 2).run Try.prog w = .ok (.int .i64 y) w := by kernel_rfl
theorem fldLo (x y : Int) (w : World) : (Instr.field 23 (.agg #[.bool false, .int .i64 x, .int .i64 y]) 1).run Try.prog w = .ok (.int .i64 x) w := by kernel_rfl
set_option maxRecDepth 100000 in
set_option maxHeartbeats 1600000 in
theorem law_chain (A : Array Value) (z : Nat → Int) (hz : ∀ j, 0 ≤ z j ∧ z j ≤ 65535) (hA : ∀ j, j < 7 → A[j]? = some (.int .u16 (z j))) (w : World) :
    Calls Try.prog 4 #[.agg A] w fun e w' => e = .returned (.bool true) ∧ Below w.heap.size w w' := by
  have hl : ∀ j, 0 ≤ z j % 1000 ∧ z j % 1000 ≤ 999 := fun j => by omega
  have sb := sm_bd hl
  have a0 : ∀ j, j < 7 → (w.alloc (.cells A 44)).cell? ⟨w.heap.size, j, none⟩ = some (.int .u16 (z j)) := fun j hj => by
    have : (w.alloc (.cells A 44)).cell? ⟨w.heap.size, j, none⟩ = A[j]? := by simp [go_sem]
    rw [this, hA j hj]
  have hb : (w.alloc (.cells A 44)).heap.size = w.heap.size + 1 := by simp
  have kn := onew 8 (by omega) (by omega) (w.alloc (.cells A 44))
  rw [hb] at kn
  have g0 : Below w.heap.size w (w.alloc (.cells A 44)) := (Below.refl _ _).alloc (Nat.le_refl _) _
  clear hA hb
  go_enter Try.func4, Try.ntmps4
  go_wp2_with (first
    | (go_at_call 6; refine kn.mono ?_; rintro r w1 ⟨rfl, ⟨M0, hO, hM0⟩, g1⟩)
    | fail)
  obtain ⟨l, el⟩ : ∃ l : Nat → Int, l = fun j => z j % 1000 := ⟨_, rfl⟩
  have hl' : ∀ j, 0 ≤ l j ∧ l j ≤ 999 := fun j => by rw [el]; exact hl j
  have hr : ∀ j, z j % 1000 = l j := fun j => by rw [el]
  rw [← el] at sb
  have c0 := chn_0 (l := l) hM0
  have gg : Below w.heap.size w w1 := g0.trans (g1.mono (Nat.le_succ _))
  have zz : w.heap.size + 2 ≤ w1.heap.size := World.block_lt_of_cell? w1 _ hO.hv
  have q0 : ∀ j, j < 7 → w1.cell? ⟨w.heap.size, j, none⟩ = some (.int .u16 (z j)) := fun j hj => (g1.cell (p := ⟨w.heap.size, j, none⟩) (Nat.lt_succ_self _)).trans (a0 j hj)
  have HC : Hid (Chn l 0 M0) := c0
  have HQ : Hid (∀ j, j < 7 → w1.cell? ⟨w.heap.size, j, none⟩ = some (.int .u16 (z j))) := q0
  have HL : Hid (∀ j, 0 ≤ l j ∧ l j ≤ 999) := hl'
  have HB : Hid (∀ i, 0 ≤ sm l i ∧ sm l i ≤ 999 * (i : Int)) := sb
  have HR : Hid (∀ j, z j % 1000 = l j) := hr
  have HZ : Hid (∀ j, 0 ≤ z j ∧ z j ≤ 65535) := hz
  clear hM0 g1 g0 a0 kn hl sb el c0 q0 hl' hr hz
  go_loopw [4, 5] (fun s i wr => ∃ (WR : World) (k : Nat) (M : Mx), WR = wr ∧ k ≤ 7 ∧ s = .int .i64 (sm l k) ∧ i = .int .i64 k ∧ OctAt wr (w.heap.size + 1) 8 false M ∧ Hid (Chn l k M) ∧ Hid (∀ j, j < 7 → wr.cell? ⟨w.heap.size, j, none⟩ = some (.int .u16 (z j))) ∧ Below w.heap.size w wr ∧ w.heap.size + 2 ≤ wr.heap.size) (fun _ i _ => 7 - (intOf i).toNat)
  case atStart => exact ⟨_, 0, M0, rfl, by omega, rfl, rfl, hO, HC, HQ, gg, zz⟩
  case round =>
    clear hO HC HQ gg zz
    obtain ⟨WR, k, M, rfl, hk, rfl, rfl, hO, HC, HQ, gg, zz⟩ := hrel
    by_cases ck : k < 7
    · have ck' : (k : Int) < 7 := by omega
      have x1 := oia w.heap.size k ck
      have y1 := HQ.out k ck
      have z1 := HZ.out k
      have r1 := HR.out k
      have l1 := HL.out k
      have s1 := HB.out k
      have rt : (z k).tmod 1000 = l k := by rw [Int.tmod_eq_emod_of_nonneg z1.1]; exact r1
      have wl : IntKind.i64.wrap (l k) = l k := by rw [IntKind.wrap_i64]; omega
      have ws : IntKind.i64.wrap (sm l k + l k) = sm l (k + 1) := by rw [IntKind.wrap_i64]; show _ = sm l k + l k; omega
      have wk : IntKind.i64.wrap ((k : Int) + 1) = (k : Int) + 1 := by rw [IntKind.wrap_i64]; omega
      have kl := olimit (w.heap.size + 1) 8 (by omega) M (k + 1) k (by omega) (by omega) false true (l k) (by omega) (by omega) (sd fun _ => 0)
        (low_fit (HC.out.pt _ (fun j => by constructor <;> decide) (fun j hj => by have := HL.out j; show (0 : Int) - 0 ≤ l j; omega)) (by
          have e1 := sd_even (fun _ => 0) (k + 1)
          have e2 := sd_odd (fun _ => 0) k
          show sd (fun _ => 0) (2 * (k + 1)) + sd (fun _ => 0) (2 * k + 1) ≤ l k
          rw [e1, e2]
          show (0 : Int) + -0 ≤ l k
          omega)) (fun a => by have := sd_bd (v := fun _ => 0) (B := 1) (fun _ => by constructor <;> decide) a; omega) (fun a c ha hc => by have := HC.out.up a c ha hc; omega) WR hO
      rw [show (((k + 1 : Nat)) : Int) = (k : Int) + 1 by omega] at kl
      have hstep : ∀ M', Tgt 8 (low M (2 * (k + 1) + false.toNat) (2 * k + true.toNat) (l k)) M' → Hid (Chn l (k + 1) M') := fun M' t => chn_step ck HC.out t
      have hcell : ∀ W', Onl (w.heap.size + 1) WR W' → Hid (∀ j, j < 7 → W'.cell? ⟨w.heap.size, j, none⟩ = some (.int .u16 (z j))) := fun W' g j hj => g.cell (by omega) (HQ.out j hj)
      clear z1 r1 l1 s1 HC HQ hO
      generalize low M (2 * (k + 1) + false.toNat) (2 * k + true.toNat) (l k) = LL at *
      go_wp2_with (first
        | (go_at_call 15; refine kl.mono ?_; rintro r w2 ⟨rfl, ⟨M', hO', t⟩, c2⟩)
        | fail)
      exact ⟨⟨_, k + 1, M', rfl, by omega, rfl, by simp, hO', hstep _ t, hcell _ c2, Below.onl gg c2 (by omega) (by omega), Nat.le_trans zz c2.size⟩, by simp [intOf]; omega⟩
    · have ek : k = 7 := by omega
      subst ek
      have hc := HC.out
      have hb := HB.out 7
      have hl := HL.out
      have kb := obound (w.heap.size + 1) 8 (by omega) M 7 0 (by omega) (by omega) false true WR hO
      rw [show M (2 * 7 + false.toNat) (2 * 0 + true.toNat) = sm l 7 from chn_bound hl hc] at kb
      have ks := fun q => oset (w.heap.size + 1) 8 (by omega) M 0 (by omega) 5 9 (by omega) (by omega) (by omega) (sd (rv l 5)) (set_fit hc (rv l 5) (rv_bd hl (by omega) (by omega)) (rv_st l 5) (by unfold rv; simp [sm]))
        (fun a => by have := sd_bd (rv_bd hl (c := 5) (by omega) (by omega)) a; omega) (fun a c ha hd => by have := hc.up a c ha hd; omega) (WR.drewN q) (hO.drewN q)
      have hT : ∀ M', Tgt 8 (low (low M (2 * 0) (2 * 0) (2 * 9)) (2 * 0 + 1) (2 * 0 + 1) (-2 * 5)) M' → Hid (M' 14 14 = 18 + 2 * sm l 7 ∧ 4294967296 ≤ M' 15 15 ∧ M' 15 15 ≤ 17179869184) := fun M' t => chn_range hl hc t
      have kr : ∀ M' V, Hid (M' 14 14 = 18 + 2 * sm l 7 ∧ 4294967296 ≤ M' 15 15 ∧ M' 15 15 ≤ 17179869184) → OctAt V (w.heap.size + 1) 8 false M' → Calls Try.prog 16 #[.pointer (some ⟨w.heap.size + 1, 0, none⟩), .int .i64 7] V fun r w' => r = .returned (.agg #[.bool false, .int .i64 (-2147483648), .int .i64 (9 + sm l 7)]) ∧ Below V.heap.size V w' := fun M' V h hV => by
        obtain ⟨h1, h2, h3⟩ := h.out
        exact orange (w.heap.size + 1) 8 (by omega) M' 7 (by omega) (-2147483648) (9 + sm l 7) ((M' 15 15).tdiv 2) (9 + sm l 7) rfl (by rw [show M' (2 * 7) (2 * 7) = M' 14 14 from rfl, h1, td2, if_pos (by omega)]; omega) (by rw [td2, if_pos (by omega)]; omega) (by omega) (by omega) (by show _ ≤ M' 15 15; omega) (by show M' 15 15 ≤ _; omega) (by show _ ≤ M' 14 14; omega) (by show M' 14 14 ≤ _; omega) V hV
      have w9 : IntKind.i64.wrap (9 + sm l 7) = 9 + sm l 7 := by rw [IntKind.wrap_i64]; omega
      have S9 : Hid (0 ≤ sm l 7 ∧ sm l 7 ≤ 999 * ((7 : Nat) : Int)) := hb
      clear hc hl hb HC HQ HB HL HR HZ hk ck
      generalize low (low M (2 * 0) (2 * 0) (2 * 9)) (2 * 0 + 1) (2 * 0 + 1) (-2 * 5) = LL at *
      generalize sm l 7 = S at *
      go_upto_region 12 with (first
        | (go_at_call 14; refine kb.mono ?_; rintro r v2 ⟨rfl, q, rfl⟩)
        | (go_at_call 17; refine (ks _).mono ?_; rintro r v3 ⟨rfl, ⟨M', hO', t⟩, c2⟩)
        | fail)
      have ht := hT _ t
      have g3 : Below w.heap.size w v3 := Below.onl (show Below w.heap.size w (WR.drewN q) from ⟨gg.os, gg.tape, gg.output, gg.size, gg.block⟩) c2 (by omega) (Nat.le_trans (by omega) zz)
      clear hT t c2 kb ks hO gg
      have ke := oempty (w.heap.size + 1) 8 false M' v3 hO'
      have kq := kr M' v3 ht hO'
      have f1 := fldLo
      have f2 := fldHi
      have kq2 : ∀ V, Below v3.heap.size v3 V → Calls Try.prog 16 #[.pointer (some ⟨w.heap.size + 1, 0, none⟩), .int .i64 7] V fun r w' => r = .returned (.agg #[.bool false, .int .i64 (-2147483648), .int .i64 (9 + S)]) ∧ Below V.heap.size V w' := fun V g => kr M' V ht (hO'.on g)
      clear kr
      go_wp2_with (first
        | (go_at_call 13; refine ke.mono ?_; rintro r v4 ⟨rfl, hw4⟩; subst v4; clear ke)
        | (go_at_call 16; refine kq.mono ?_; rintro r v5 ⟨rfl, g5⟩; clear kq)
        | (go_at_call 16; refine (kq2 _ g5).mono ?_; rintro r v6 ⟨rfl, g6⟩; clear kq2)
        | fail)
      go_ret
      exact ⟨rfl, sp_call (sp_call g3 g5) g6⟩
end Go.Proofs.Ytdfbmafeemflaaa

