/- What plumblineref01.Div answers. -/
import Derived.Test.YtfgddpjdkeannaaWideG
import Derived.Test.YtfgddpjdkeannaaRefH
namespace Go.Proofs.Ytfgddpjdkeannaa
open Go.RowKit
set_option linter.unusedVariables false

/-- What the memory holds while a quotient is reckoned. -/
structure DivMem (n q o : Nat) (ah al rh rl : Int) (A : Nat) (f : Nat → Bool) (w : World) : Prop where
  one : OneMem n ah al w
  rq : RowB w q 128 A.testBit
  ro : RowB w o 128 f
  fo : RowF w o 128
  g0 : w.cell? ⟨o + 1, 0, none⟩ = some (.int .u64 rh)
  g1 : w.cell? ⟨o + 1, 1, none⟩ = some (.int .u64 rl)
  k0 : w.frozen? ⟨o + 1, 0, none⟩ = false
  k1 : w.frozen? ⟨o + 1, 1, none⟩ = false
  nq : n + 1 < q
  qo : q < o
  sz : o + 1 < w.heap.size
theorem DivMem.below {n q o : Nat} {ah al rh rl : Int} {A : Nat} {f : Nat → Bool} {W w1 : World} (h : DivMem n q o ah al rh rl A f W) (hb : Below W.heap.size W w1) : DivMem n q o ah al rh rl A f w1 := by
  obtain ⟨hc, hf⟩ := bcell hb
  have hs := hb.size
  have sz := h.sz; have qo := h.qo
  exact ⟨h.one.below hb, h.rq.below hb (by omega), h.ro.below hb (by omega), h.fo.below hb (by omega), cell_on hb h.g0, cell_on hb h.g1, by rw [hf _ _ sz]; exact h.k0, by rw [hf _ _ sz]; exact h.k1, h.nq, h.qo, by omega⟩
theorem DivMem.set1 {n q o : Nat} {ah al rh rl : Int} {A : Nat} {f : Nat → Bool} {W : World} (h : DivMem n q o ah al rh rl A f W) (y : Int) : DivMem n q o ah al rh y A f (W.setCell ⟨o + 1, 1, none⟩ (.int .u64 y)) := by
  have nq := h.nq; have qo := h.qo
  have g0 := h.g0; have g1 := h.g1; have k0 := h.k0; have k1 := h.k1
  exact ⟨h.one.far _ _ (by show o + 1 ≠ _; omega) (by show o + 1 ≠ _; omega), h.rq.far _ _ (by show o + 1 ≠ _; omega), h.ro.far _ _ (by show o + 1 ≠ _; omega), h.fo.set _ _, by simp [go_sem, *], by simp [go_sem, *], by simp [go_sem, *], by simp [go_sem, *], nq, qo, by simpa using h.sz⟩
theorem DivMem.set {n q o : Nat} {ah al rh rl : Int} {A : Nat} {f : Nat → Bool} {W : World} (h : DivMem n q o ah al rh rl A f W) (x y : Int) : DivMem n q o ah al x y A f ((W.setCell ⟨o + 1, 0, none⟩ (.int .u64 x)).setCell ⟨o + 1, 1, none⟩ (.int .u64 y)) := by
  have nq := h.nq; have qo := h.qo
  have g0 := h.g0; have g1 := h.g1; have k0 := h.k0; have k1 := h.k1
  exact ⟨(h.one.far _ _ (by show o + 1 ≠ _; omega) (by show o + 1 ≠ _; omega)).far _ _ (by show o + 1 ≠ _; omega) (by show o + 1 ≠ _; omega), (h.rq.far _ _ (by show o + 1 ≠ _; omega)).far _ _ (by show o + 1 ≠ _; omega), (h.ro.far _ _ (by show o + 1 ≠ _; omega)).far _ _ (by show o + 1 ≠ _; omega), (h.fo.set _ _).set _ _, by simp [go_sem, *], by simp [go_sem, *], by simp [go_sem, *], by simp [go_sem, *], nq, qo, by simpa using h.sz⟩
theorem DivMem.bit {n q o : Nat} {ah al rh rl : Int} {A : Nat} {f : Nat → Bool} {W : World} (h : DivMem n q o ah al rh rl A f W) (k : Nat) (hk : k < 128) (v : Bool) : DivMem n q o ah al rh rl A (fun i => if i = k then v else f i) (W.setCell ⟨o, k, none⟩ (.bool v)) := by
  have nq := h.nq; have qo := h.qo
  have g0 := h.g0; have g1 := h.g1; have k0 := h.k0; have k1 := h.k1
  exact ⟨h.one.far _ _ (by show o ≠ _; omega) (by show o ≠ _; omega), h.rq.far _ _ (by show o ≠ _; omega), h.ro.set k v hk, h.fo.set _ _, by simp [go_sem, *], by simp [go_sem, *], by simp [go_sem, *], by simp [go_sem, *], nq, qo, by simpa using h.sz⟩
theorem DivMem.ext {n q o : Nat} {ah al rh rl : Int} {A : Nat} {f g : Nat → Bool} {W : World} (h : DivMem n q o ah al rh rl A f W) (e : ∀ i, i < 128 → f i = g i) : DivMem n q o ah al rh rl A g W :=
  ⟨h.one, h.rq, h.ro.ext e, h.fo, h.g0, h.g1, h.k0, h.k1, h.nq, h.qo, h.sz⟩

/-- The quotient's bits from k on. -/
def quoTo (A b k : Nat) (j : Nat) : Bool := decide (k ≤ j) && (A / b).testBit j
theorem quo_bit (A b j : Nat) : (A / b).testBit j = decide (A / 2 ^ j / b % 2 = 1) := by
  rw [bitN, Nat.div_div_eq_div_mul, Nat.div_div_eq_div_mul, Nat.mul_comm]
theorem quoTo_step (A b k : Nat) (v : Bool) (hv : v = (A / b).testBit k) : (fun i => if i = k then v else quoTo A b (k + 1) i) = quoTo A b k := by
  funext j
  unfold quoTo
  by_cases e : j = k
  · subst e; simp [hv]
  · have : (decide (k + 1 ≤ j)) = decide (k ≤ j) := by rw [decide_eq_decide]; omega
    simp [e, this]
theorem quoTo_skip (A b k : Nat) (hv : (A / b).testBit k = false) : quoTo A b (k + 1) = quoTo A b k := by
  funext j
  unfold quoTo
  by_cases e : j = k
  · subst e
    have : ¬ j + 1 ≤ j := by omega
    simp [hv]
  · have : (decide (k + 1 ≤ j)) = decide (k ≤ j) := by rw [decide_eq_decide]; omega
    rw [this]
/-- One place: the rest, doubled, with the next bit. -/
theorem quo_round (A b k : Nat) (hb : 0 < b) (r x : Nat) (hr : r = A / 2 ^ (k + 1) % b) (hx : x = 2 * r + (if A.testBit k then 1 else 0)) :
    (b ≤ x → (A / b).testBit k = true ∧ x - b = A / 2 ^ k % b) ∧ (x < b → (A / b).testBit k = false ∧ x = A / 2 ^ k % b) := by
  have hbit := bitN A k
  have e : A / 2 ^ (k + 1) = A / 2 ^ k / 2 := by rw [Nat.pow_succ, Nat.div_div_eq_div_mul]
  rw [e] at hr
  rw [quo_bit]
  generalize A / 2 ^ k = M at *
  have hxx : x = 2 * r + M % 2 := by
    rw [hx, hbit]
    rcases Nat.mod_two_eq_zero_or_one M with h | h <;> simp [h]
  have d := Nat.div_add_mod (M / 2) b
  have l := Nat.mod_lt (M / 2) hb
  rw [← hr] at d l
  generalize hq : M / 2 / b = q at *
  have eM : M = b * (2 * q) + x := by
    rw [Nat.mul_left_comm]
    omega
  constructor
  · intro c
    have e2 : M = (x - b) + b * (2 * q + 1) := by rw [Nat.mul_add, Nat.mul_one]; omega
    have q1 : M / b = 2 * q + 1 := by rw [e2, Nat.add_mul_div_left _ _ hb, Nat.div_eq_of_lt (by omega)]; omega
    have q2 : M % b = x - b := by rw [e2, Nat.add_mul_mod_self_left, Nat.mod_eq_of_lt (by omega)]
    rw [q1, q2]
    exact ⟨by simp, rfl⟩
  · intro c
    have q1 : M / b = 2 * q := by rw [eM, Nat.add_comm, Nat.add_mul_div_left _ _ hb, Nat.div_eq_of_lt c]; omega
    have q2 : M % b = x := by rw [eM, Nat.add_comm, Nat.add_mul_mod_self_left, Nat.mod_eq_of_lt c]
    rw [q1, q2]
    exact ⟨by simp, rfl⟩
/-- The rest is doubled. -/
theorem dbl_num (r : Nat) (sh sl rh rl : Int) (wsh : Word sh) (wsl : Word sl) (R : num rh rl = (r : Int)) (hr : r < 18446744073709551616) (S : num sh sl = num rh rl * 2 ^ Int.toNat 1 % 340282366920938463463374607431768211456) : num sh sl = ((2 * r : Nat) : Int) ∧ sl % 2 = 0 := by
  have e : (2 : Int) ^ Int.toNat 1 = 2 := rfl
  rw [e, R] at S
  have : num sh sl = ((2 * r : Nat) : Int) := by omega
  exact ⟨this, by unfold num at this; omega⟩

set_option maxHeartbeats 3200000 in
theorem rdiv_zero (ah al : Int) (w : World) :
    Calls Try.prog 25 #[.agg #[.int .u64 ah, .int .u64 al], .int .u64 0] w fun e w' => e = .returned (.tuple #[.agg #[.int .u64 0, .int .u64 0], .int .u64 0]) ∧ Below w.heap.size w w' := by
  go_enter Try.func25, Try.ntmps25
  go_wp2_with fail
  refine bodyPost_ret (v := .tuple #[.agg #[.int .u64 0, .int .u64 0], .int .u64 0]) (by simp [results, Try.results25, go_sem]) rfl ?_
  exact ⟨rfl, below_two _ _ _⟩

set_option maxRecDepth 100000 in
set_option maxHeartbeats 6400000 in
theorem rdiv_pos (ah al b : Int) (h1 : Word ah) (h2 : Word al) (h3 : Word b) (hb : 0 < b) (w : World) :
    Calls Try.prog 25 #[.agg #[.int .u64 ah, .int .u64 al], .int .u64 b] w fun e w' => ∃ h l r : Int, e = .returned (.tuple #[.agg #[.int .u64 h, .int .u64 l], .int .u64 r]) ∧ Word h ∧ Word l ∧ Word r ∧ Hid (num h l = num ah al / b) ∧ Hid (r = num ah al % b) ∧ Below w.heap.size w w' := by
  have hmk := make_128
  obtain ⟨B, rfl⟩ := Int.eq_ofNat_of_zero_le h3.1
  have hB : 0 < B := by omega
  have hB2 : B < 18446744073709551616 := by have := h3.2; omega
  have b0 : ((B : Int) == 0) = false := by simp; omega
  have CA : Hid _ := N_cast h1 h2
  have lA := N_lt h1 h2
  have m0 := one_start w ah al
  go_enter Try.func25, Try.ntmps25
  go_wp2_with fail
  refine (bits_any ah al h1 h2 _).mono ?_
  rintro e w1 ⟨q, rfl, x1, y1, r1, _, B1⟩
  have m1 := m0.below B1
  have L1 := below_call (below_two w _ _) B1
  simp at x1
  have fz := fresh_size w1 128
  go_wp2_with fail
  go_loopw [9] (fun i wr => ∃ (k r : Nat) (rh rl : Int), k ≤ 128 ∧ i = .int .i64 ((k : Int) - 1) ∧ Word rh ∧ Word rl ∧ r < B ∧ Hid (num rh rl = (r : Int)) ∧ Hid (r = N ah al / 2 ^ k % B) ∧ DivMem w.heap.size q w1.heap.size ah al rh rl (N ah al) (quoTo (N ah al) B k) wr ∧ Below w.heap.size w wr) (fun i _ => (intOf i + 1).toNat)
  case atStart =>
    have fb := fresh_below w1 128
    have mm : DivMem w.heap.size q w1.heap.size ah al 0 0 (N ah al) (quoTo (N ah al) B 128) ((freshW w1 128).alloc (.cells #[.int .u64 0, .int .u64 0] 24)) := by
      have nb := (Below.refl (freshW w1 128).heap.size (freshW w1 128)).alloc (Nat.le_refl _) (.cells #[.int .u64 0, .int .u64 0] 24)
      refine ⟨(m1.below fb).below nb, (r1.below fb y1).below nb (by omega), ((fresh_row w1 128).below nb (by omega)).ext (fun i hi => ?_), (fresh_free w1 128).below nb (by omega), ?_, ?_, ?_, ?_, by omega, y1, by simp; omega⟩
      · unfold quoTo
        have : ¬ 128 ≤ i := by omega
        simp [this]
      · rw [← fz]; simp [go_sem]
      · rw [← fz]; simp [go_sem]
      · rw [← fz]; simp [go_sem]
      · rw [← fz]; simp [go_sem]
    exact ⟨128, 0, 0, 0, by omega, rfl, word_zero, word_zero, hB, rfl, by rw [Nat.div_eq_of_lt lA, Nat.zero_mod]; exact rfl, mm, below_new (below_call L1 fb) _⟩
  case round =>
    obtain ⟨k, r, rh, rl, hk, rfl, wrh, wrl, hrB, R, RK, m, L⟩ := hrel
    obtain ⟨⟨s0, s1, c0, c1, ⟨u0, e0⟩, ⟨u1, e1⟩, f0, f1⟩, rq, ro, fo, g0, g1, k0, k1, nq, qo, sz⟩ := id m
    by_cases hk0 : k = 0
    · subst hk0
      have r5 : RowB wr w1.heap.size 128 (N ah al / B).testBit := ro.ext (fun i hi => by simp [quoTo])
      have y5 : w1.heap.size < wr.heap.size := by omega
      have rk := RK.out
      rw [Nat.pow_zero, Nat.div_one] at rk
      have RK' : Hid _ := rk
      clear rk RK
      go_wp2_with fail
      go_region_held3 (fun w' => w'.cell? ⟨w1.heap.size + 1, 1, none⟩ = some (.int .u64 rl))
        (first | exact g1 | (simp [go_sem, *]; done))
        ((go_at_call 31; refine (from_any w1.heap.size 128 128 _ (by decide) _ r5.drew y5).mono ?_; rintro e w4 ⟨h, l, rfl, wh, wl, F, B4⟩; obtain ⟨hc4, hf4⟩ := bcell B4; have hs4 := B4.size; (try simp at hs4); have g1' := g1; replace g1 := cell_on B4 g1; have e0' := cell_on B4 e0; have e1' := cell_on B4 e1; have f0' : w4.frozen? ⟨w.heap.size + 1, 0, none⟩ = false := (hf4 _ _ s1).trans f0; have f1' : w4.frozen? ⟨w.heap.size + 1, 1, none⟩ = false := (hf4 _ _ s1).trans f1))
      go_wp2_with fail
      refine bodyPost_ret (v := .tuple #[.agg #[.int .u64 h, .int .u64 l], .int .u64 rl]) (by simp [results, Try.results25, go_sem, e0', e1']) rfl ?_
      have L4 := below_call L.drew B4
      have rrl : rl = (r : Int) := by
        have a := R.out
        have b := wrl.1; have c := wrl.2; have d := wrh.1
        unfold num at a; omega
      refine ⟨h, l, rl, rfl, wh, wl, wrl, ?_, ?_, (L4.setCell (by simp) _).setCell (by simp) _⟩
      · have eN := from_exact _ _ _ F (fun j hj => rfl) (Nat.lt_of_le_of_lt (Nat.div_le_self _ _) lA)
        show num h l = _
        rw [← CA.out, ← N_cast wh wl, eN]
        simp
      · show rl = _
        rw [← CA.out, rrl, RK'.out]
        simp
    · obtain ⟨j, rfl⟩ : ∃ j, k = j + 1 := ⟨k - 1, by omega⟩
      have ej : ((j + 1 : Nat) : Int) - 1 = (j : Int) := by omega
      rw [ej]
      have t1 : (0 : Int) ≤ (j : Int) := by omega
      have t2 : (j : Int) < 128 := by omega
      have hj : j < 128 := by omega
      have gb := rq j hj
      go_wp2_with fail
      refine (rshl_any rh rl 1 wrh wrl (by decide) (by decide) _).mono ?_
      rintro e w2 ⟨sh, sl, rfl, wsh, wsl, S, B2⟩
      have m2 := m.below B2
      have L2 := below_call L B2
      obtain ⟨hs, hs2⟩ := dbl_num r sh sl rh rl wsh wsl R.out (by omega) S.out
      have HS : Hid (num sh sl = ((2 * r : Nat) : Int)) := hs
      clear hs S
      clear g0 g1 k0 k1 nq qo sz s0 s1 c0 c1 e0 e1 f0 f1 rq ro fo
      obtain ⟨⟨s0, s1, c0, c1, ⟨v0, e0⟩, ⟨v1, e1⟩, f0, f1⟩, rq, ro, fo, g0, g1, k0, k1, nq, qo, sz⟩ := id m2
      replace gb := cell_on B2 gb
      cases hbit : (N ah al).testBit j
      · rw [hbit] at gb
        obtain ⟨qr1, qr2⟩ := quo_round (N ah al) B j hB r (2 * r) RK.out (by rw [hbit]; rfl)
        go_wp2_with fail
        refine (rcmp_any sh sl 0 B wsh wsl word_zero h3 _).mono ?_
        rintro e w4 ⟨n, rfl, C, B4⟩
        have m4 := (m2.set sh sl).below B4
        have L4 := below_call ((L2.setCell (by simp; omega) _).setCell (by simp; omega) _) B4
        clear g0 g1 k0 k1 nq qo sz s0 s1 c0 c1 e0 e1 f0 f1 rq ro fo
        obtain ⟨⟨s0, s1, c0, c1, ⟨v0, e0⟩, ⟨v1, e1⟩, f0, f1⟩, rq, ro, fo, g0, g1, k0, k1, nq, qo, sz⟩ := id m4
        have nB : num 0 (B : Int) = (B : Int) := by unfold num; omega
        by_cases c : B ≤ (2 * r)
        · have hn : 0 ≤ n := cmpN_nonneg C.out (by rw [nB, HS.out]; omega)
          obtain ⟨qb, qv⟩ := qr1 c
          have QV : Hid _ := qv
          clear qr1 qr2 qv
          go_wp2_with fail
          refine (rsub_any sh sl 0 B wsh wsl word_zero h3 _).mono ?_
          rintro e w5 ⟨th, tl, tc, rfl, wth, wtl, T, _, B5⟩
          have m5 := m4.below B5
          have L5 := below_call L4 B5
          have HT : Hid (num th tl = (((2 * r) - B : Nat) : Int)) := by
            show num th tl = _
            rw [T.out, nB, HS.out]; omega
          clear g0 g1 k0 k1 nq qo sz s0 s1 c0 c1 e0 e1 f0 f1 rq ro fo C nB T
          obtain ⟨⟨s0, s1, c0, c1, ⟨v2, e0⟩, ⟨v3, e1⟩, f0, f1⟩, rq, ro, fo, g0, g1, k0, k1, nq, qo, sz⟩ := id m5
          have go := ro j hj
          have gf := fo j hj
          go_wp2_with fail
          go_roundw
          case rel =>
            refine ⟨j, (2 * r) - B, th, tl, by omega, rfl, wth, wtl, by omega, HT, QV, ?_, ((L5.setCell (by simp; omega) _).setCell (by simp; omega) _).setCell (by simp; omega) _⟩
            have := (m5.set th tl).bit j hj true
            rw [quoTo_step _ _ _ _ qb.symm] at this
            exact this
          case measure => simp [intOf]
        · have hn := cmpN_neg C.out (by rw [nB, HS.out]; omega)
          subst hn
          obtain ⟨qb, qv⟩ := qr2 (by omega)
          have QV : Hid _ := qv
          clear qr1 qr2 qv C nB
          rw [quoTo_skip _ _ _ qb] at m4
          go_wp2_with fail
          go_roundw
          case rel => exact ⟨j, (2 * r), sh, sl, by omega, rfl, wsh, wsl, by omega, HS, QV, m4, L4⟩
          case measure => simp [intOf]
      · rw [hbit] at gb
        obtain ⟨qo1, wsl1⟩ := or_one sl wsl hs2
        have HS1 : Hid (num sh (sl + 1) = ((2 * r + 1 : Nat) : Int)) := by
          have := HS.out
          show num sh (sl + 1) = _
          unfold num at *; omega
        have a0 := ((m2.set sh sl).set1 (sl + 1)).g0
        have a1 := ((m2.set sh sl).set1 (sl + 1)).g1
        obtain ⟨qr1, qr2⟩ := quo_round (N ah al) B j hB r (2 * r + 1) RK.out (by rw [hbit]; rfl)
        go_wp2_with fail
        refine (rcmp_any sh (sl + 1) 0 B wsh wsl1 word_zero h3 _).mono ?_
        rintro e w4 ⟨n, rfl, C, B4⟩
        have m4 := ((m2.set sh sl).set1 (sl + 1)).below B4
        have L4 := below_call (((L2.setCell (by simp; omega) _).setCell (by simp; omega) _).setCell (by simp; omega) _) B4
        clear g0 g1 k0 k1 nq qo sz s0 s1 c0 c1 e0 e1 f0 f1 rq ro fo
        obtain ⟨⟨s0, s1, c0, c1, ⟨v0, e0⟩, ⟨v1, e1⟩, f0, f1⟩, rq, ro, fo, g0, g1, k0, k1, nq, qo, sz⟩ := id m4
        have nB : num 0 (B : Int) = (B : Int) := by unfold num; omega
        by_cases c : B ≤ (2 * r + 1)
        · have hn : 0 ≤ n := cmpN_nonneg C.out (by rw [nB, HS1.out]; omega)
          obtain ⟨qb, qv⟩ := qr1 c
          have QV : Hid _ := qv
          clear qr1 qr2 qv
          go_wp2_with fail
          refine (rsub_any sh (sl + 1) 0 B wsh wsl1 word_zero h3 _).mono ?_
          rintro e w5 ⟨th, tl, tc, rfl, wth, wtl, T, _, B5⟩
          have m5 := m4.below B5
          have L5 := below_call L4 B5
          have HT : Hid (num th tl = (((2 * r + 1) - B : Nat) : Int)) := by
            show num th tl = _
            rw [T.out, nB, HS1.out]; omega
          clear g0 g1 k0 k1 nq qo sz s0 s1 c0 c1 e0 e1 f0 f1 rq ro fo C nB T
          obtain ⟨⟨s0, s1, c0, c1, ⟨v2, e0⟩, ⟨v3, e1⟩, f0, f1⟩, rq, ro, fo, g0, g1, k0, k1, nq, qo, sz⟩ := id m5
          have go := ro j hj
          have gf := fo j hj
          go_wp2_with fail
          go_roundw
          case rel =>
            refine ⟨j, (2 * r + 1) - B, th, tl, by omega, rfl, wth, wtl, by omega, HT, QV, ?_, ((L5.setCell (by simp; omega) _).setCell (by simp; omega) _).setCell (by simp; omega) _⟩
            have := (m5.set th tl).bit j hj true
            rw [quoTo_step _ _ _ _ qb.symm] at this
            exact this
          case measure => simp [intOf]
        · have hn := cmpN_neg C.out (by rw [nB, HS1.out]; omega)
          subst hn
          obtain ⟨qb, qv⟩ := qr2 (by omega)
          have QV : Hid _ := qv
          clear qr1 qr2 qv C nB
          rw [quoTo_skip _ _ _ qb] at m4
          go_wp2_with fail
          go_roundw
          case rel => exact ⟨j, (2 * r + 1), sh, (sl + 1), by omega, rfl, wsh, wsl1, by omega, HS1, QV, m4, L4⟩
          case measure => simp [intOf]
end Go.Proofs.Ytfgddpjdkeannaa
