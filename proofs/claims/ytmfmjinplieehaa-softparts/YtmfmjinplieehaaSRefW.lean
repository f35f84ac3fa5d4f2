/- The reference's quotient of bits. -/
import Derived.Test.YtmfmjinplieehaaSRefU
import Derived.Test.YtmfmjinplieehaaRefI
namespace Go.Proofs.Ytmfmjinplieehaa
open Go.RowKit
set_option linter.unusedVariables false
set_option linter.unusedSimpArgs false
/-- What the memory holds while a quotient is reckoned. -/
structure QMem (q o nl T : Nat) (rh rl dl : Int) (X : Nat) (f : Nat → Bool) (w : World) : Prop where
  rq : RowB w q nl (fun i => X.testBit i)
  ro : RowB w o T f
  fo : RowF w o T
  g0 : w.cell? ⟨o + 1, 0, none⟩ = some (.int .u64 rh)
  g1 : w.cell? ⟨o + 1, 1, none⟩ = some (.int .u64 rl)
  k0 : w.frozen? ⟨o + 1, 0, none⟩ = false
  k1 : w.frozen? ⟨o + 1, 1, none⟩ = false
  d0 : w.cell? ⟨o + 2, 0, none⟩ = some (.int .u64 0)
  d1 : w.cell? ⟨o + 2, 1, none⟩ = some (.int .u64 dl)
  qo : q < o
  sz : o + 2 < w.heap.size
theorem QMem.below {q o nl T : Nat} {rh rl dl : Int} {X : Nat} {f : Nat → Bool} {W w1 : World} (h : QMem q o nl T rh rl dl X f W) (hb : Below W.heap.size W w1) : QMem q o nl T rh rl dl X f w1 := by
  obtain ⟨hc, hf⟩ := bcell hb
  have hs := hb.size
  have sz := h.sz; have qo := h.qo
  exact ⟨h.rq.below hb (by omega), h.ro.below hb (by omega), h.fo.below hb (by omega), cell_on hb h.g0, cell_on hb h.g1, by rw [hf _ _ (by omega)]; exact h.k0, by rw [hf _ _ (by omega)]; exact h.k1, cell_on hb h.d0, cell_on hb h.d1, h.qo, by omega⟩
theorem QMem.set1 {q o nl T : Nat} {rh rl dl : Int} {X : Nat} {f : Nat → Bool} {W : World} (h : QMem q o nl T rh rl dl X f W) (y : Int) : QMem q o nl T rh y dl X f (W.setCell ⟨o + 1, 1, none⟩ (.int .u64 y)) := by
  have qo := h.qo
  have g0 := h.g0; have g1 := h.g1; have k0 := h.k0; have k1 := h.k1; have d0 := h.d0; have d1 := h.d1
  exact ⟨h.rq.far _ _ (by show o + 1 ≠ _; omega), h.ro.far _ _ (by show o + 1 ≠ _; omega), h.fo.set _ _, by simp [go_sem, *], by simp [go_sem, *], by simp [go_sem, *], by simp [go_sem, *], by simp [go_sem, *], by simp [go_sem, *], qo, by simpa using h.sz⟩
theorem QMem.set {q o nl T : Nat} {rh rl dl : Int} {X : Nat} {f : Nat → Bool} {W : World} (h : QMem q o nl T rh rl dl X f W) (x y : Int) : QMem q o nl T x y dl X f ((W.setCell ⟨o + 1, 0, none⟩ (.int .u64 x)).setCell ⟨o + 1, 1, none⟩ (.int .u64 y)) := by
  have qo := h.qo
  have g0 := h.g0; have g1 := h.g1; have k0 := h.k0; have k1 := h.k1; have d0 := h.d0; have d1 := h.d1
  exact ⟨(h.rq.far _ _ (by show o + 1 ≠ _; omega)).far _ _ (by show o + 1 ≠ _; omega), (h.ro.far _ _ (by show o + 1 ≠ _; omega)).far _ _ (by show o + 1 ≠ _; omega), (h.fo.set _ _).set _ _, by simp [go_sem, *], by simp [go_sem, *], by simp [go_sem, *], by simp [go_sem, *], by simp [go_sem, *], by simp [go_sem, *], qo, by simpa using h.sz⟩
theorem QMem.bit {q o nl T : Nat} {rh rl dl : Int} {X : Nat} {f : Nat → Bool} {W : World} (h : QMem q o nl T rh rl dl X f W) (k : Nat) (hk : k < T) (v : Bool) : QMem q o nl T rh rl dl X (fun i => if i = k then v else f i) (W.setCell ⟨o, k, none⟩ (.bool v)) := by
  have qo := h.qo
  have g0 := h.g0; have g1 := h.g1; have k0 := h.k0; have k1 := h.k1; have d0 := h.d0; have d1 := h.d1
  exact ⟨h.rq.far _ _ (by show o ≠ _; omega), h.ro.set k v hk, h.fo.set _ _, by simp [go_sem, *], by simp [go_sem, *], by simp [go_sem, *], by simp [go_sem, *], by simp [go_sem, *], by simp [go_sem, *], qo, by simpa using h.sz⟩
theorem quo_start {w : World} {q nl T : Nat} {dl : Int} {X A B : Nat} (hA : A < 2 ^ T) (hB : 0 < B) (row : RowB w q nl (fun i => X.testBit i)) (hq : q < w.heap.size) :
    QMem q w.heap.size nl T 0 0 dl X (quoTo A B T) (((freshW w T).alloc (.cells #[.int .u64 0, .int .u64 0] 28)).alloc (.cells #[.int .u64 0, .int .u64 dl] 28)) := by
  have fz := fresh_size w T
  have fb := fresh_below w T
  have nb := (Below.refl (freshW w T).heap.size (freshW w T)).alloc (Nat.le_refl _) (.cells #[.int .u64 0, .int .u64 0] 28)
  have nb2 := (Below.refl ((freshW w T).alloc (.cells #[.int .u64 0, .int .u64 0] 28)).heap.size ((freshW w T).alloc (.cells #[.int .u64 0, .int .u64 0] 28))).alloc (Nat.le_refl _) (.cells #[.int .u64 0, .int .u64 dl] 28)
  have s1 : ((freshW w T).alloc (.cells #[.int .u64 0, .int .u64 0] 28)).heap.size = w.heap.size + 2 := by simp; omega
  refine ⟨((row.below fb hq).below nb (by omega)).below nb2 (by omega), (((fresh_row w T).below nb (by omega)).below nb2 (by omega)).ext (fun i hi => ?_), ((fresh_free w T).below nb (by omega)).below nb2 (by omega), ?_, ?_, ?_, ?_, ?_, ?_, hq, by simp; omega⟩
  · unfold quoTo
    have : ¬ T ≤ i := by omega
    simp [this]
  · rw [← fz]; simp [go_sem]
  · rw [← fz]; simp [go_sem]
  · rw [← fz]; simp [go_sem]
  · rw [← fz]; simp [go_sem]
  · rw [← s1]; simp [go_sem]
  · rw [← s1]; simp [go_sem]
set_option maxRecDepth 100000 in
set_option maxHeartbeats 6400000 in
theorem rquotP_any (P : Nat) (hP : P ≤ 200) (q nl cap X : Nat) (bi : Int) (h3 : Word bi) (hb : 0 < bi) (hb2 : bi < 9007199254740992) (hX : X < 2 ^ nl) (hnl : nl ≤ 64) (w : World) (row : RowB w q nl (fun i => X.testBit i)) (hq : q < w.heap.size) :
    Calls Try.prog 54 #[.slice (some ⟨q, 0, none⟩) nl cap, .int .u64 bi, .int .i64 (P : Int)] w fun e w' =>
      ∃ o : Nat, e = .returned (.tuple #[.slice (some ⟨o, 0, none⟩) (nl + P) (nl + P), .bool (decide (X * 2 ^ P % bi.toNat ≠ 0))]) ∧ w.heap.size ≤ o ∧ o < w'.heap.size ∧ RowB w' o (nl + P) (fun i => (X * 2 ^ P / bi.toNat).testBit i) ∧ Below w.heap.size w w' := by
  obtain ⟨B, rfl⟩ := Int.eq_ofNat_of_zero_le h3.1
  have hB : 0 < B := by omega
  have hB2 : B < 9007199254740992 := by omega
  obtain ⟨T, hT⟩ : ∃ T : Nat, nl + P = T := ⟨_, rfl⟩
  have hTi : (nl : Int) + (P : Int) = (T : Int) := by omega
  have hT2 : T ≤ 300 := by omega
  obtain ⟨A, hA⟩ : ∃ A : Nat, X * 2 ^ P = A := ⟨_, rfl⟩
  have lA : A < 2 ^ T := by
    rw [← hA, ← hT, Nat.pow_add]
    exact Nat.mul_lt_mul_of_pos_right hX (Nat.two_pow_pos P)
  have AB0 : Hid (∀ j, j < P → A.testBit j = false) := by
    intro j hj
    have nj : ¬ P ≤ j := by omega
    rw [← hA, Nat.mul_comm, Nat.testBit_two_pow_mul]
    simp [nj]
  have AB1 : Hid (∀ i, A.testBit (i + P) = X.testBit i) := by
    intro i
    rw [← hA, Nat.mul_comm, Nat.testBit_two_pow_mul]
    simp
  rw [hA, hT, Int.toNat_natCast]
  have HT0 : Hid _ := hT
  have LA : Hid _ := lA
  clear hA lA hT
  have hmk := make_bools T (by omega)
  have m0 := quo_start (T := T) (dl := (B : Int)) LA.out hB row hq
  have fz := fresh_size w T
  go_enter Try.func54, Try.ntmps54
  go_wp2_with fail
  go_loopw [11] (fun i wr => ∃ (k r : Nat) (rh rl : Int), k ≤ T ∧ i = .int .i64 ((k : Int) - 1) ∧ Word rh ∧ Word rl ∧ r < B ∧ Hid (num rh rl = (r : Int)) ∧ Hid (r = A / 2 ^ k % B) ∧ QMem q w.heap.size nl T rh rl B X (quoTo A B k) wr ∧ Below w.heap.size w wr) (fun i _ => (intOf i + 1).toNat)
  case atStart =>
    exact ⟨T, 0, 0, 0, by omega, rfl, word_zero, word_zero, hB, rfl, by rw [Nat.div_eq_of_lt LA.out, Nat.zero_mod]; exact rfl, m0, below_new (below_new (fresh_below w T) _) _⟩
  case round =>
    obtain ⟨k, r, rh, rl, hk, rfl, wrh, wrl, hrB, R, RK, m, L⟩ := hrel
    obtain ⟨rq, ro, fo, g0, g1, k0, k1, d0, d1, qo, sz⟩ := id m
    by_cases hk0 : k = 0
    · subst hk0
      have r5 : RowB wr w.heap.size T (fun i => (A / B).testBit i) := ro.ext (fun i hi => by simp [quoTo])
      have rk := RK.out
      rw [Nat.pow_zero, Nat.div_one] at rk
      have RK' : Hid _ := rk
      clear rk RK
      have rrl : rh = 0 ∧ rl = (r : Int) := by
        have a := R.out
        have b := wrl.1; have c := wrl.2; have d := wrh.1
        unfold num at a; omega
      obtain ⟨rfl, hrl⟩ := rrl
      have HRL : Hid _ := hrl
      clear hrl
      have y5 : w.heap.size < wr.heap.size := by omega
      by_cases r0 : rl = 0
      · subst r0
        have e5 : decide (A % B ≠ 0) = false := by
          rw [← RK'.out]
          have := HRL.out
          simp; omega
        have E5 : Hid _ := e5
        clear e5
        go_wp2_with fail
        go_region
        go_wp2_with fail
        refine bodyPost_ret (v := .tuple #[.slice (some ⟨w.heap.size, 0, none⟩) T T, .bool false]) (by simp [results, Try.results54, go_sem]) rfl ?_
        exact ⟨_, by rw [E5.out], Nat.le_refl _, y5, r5, L.drew⟩
      · have e5 : decide (A % B ≠ 0) = true := by
          rw [← RK'.out]
          have := HRL.out
          simp; omega
        have E5 : Hid _ := e5
        clear e5
        go_wp2_with fail
        go_region
        go_wp2_with fail
        refine bodyPost_ret (v := .tuple #[.slice (some ⟨w.heap.size, 0, none⟩) T T, .bool true]) (by simp [results, Try.results54, go_sem]) rfl ?_
        exact ⟨_, by rw [E5.out], Nat.le_refl _, y5, r5, L.drew⟩
    · obtain ⟨j, rfl⟩ : ∃ j, k = j + 1 := ⟨k - 1, by omega⟩
      have ej : ((j + 1 : Nat) : Int) - 1 = (j : Int) := by omega
      rw [ej]
      have t1 : (0 : Int) ≤ (j : Int) := by omega
      have hj : j < T := by omega
      go_wp2_with fail
      refine (rshl_any rh rl 1 wrh wrl (by decide) (by decide) _).mono ?_
      rintro e w2 ⟨sh, sl, rfl, wsh, wsl, S, B2⟩
      have m2 := m.below B2
      have L2 := below_call L B2
      obtain ⟨hs, hs2⟩ := dbl_num r sh sl rh rl wsh wsl R.out (by omega) S.out
      have HS : Hid (num sh sl = ((2 * r : Nat) : Int)) := hs
      clear hs S
      clear g0 g1 k0 k1 d0 d1 qo sz rq ro fo
      obtain ⟨rq, ro, fo, g0, g1, k0, k1, d0, d1, qo, sz⟩ := id m2
      by_cases hlow : j < P
      · have hbit : A.testBit j = false := AB0.out j hlow
        obtain ⟨qr1, qr2⟩ := quo_round A B j hB r (2 * r) RK.out (by rw [hbit]; rfl)
        have t3 : (P ≤ j) = False := eq_false (by omega)
        clear hbit hlow
        go_wp2_with fail
        refine (rcmp_any sh sl 0 B wsh wsl word_zero h3 _).mono ?_
        rintro e w4 ⟨n, rfl, C, B4⟩
        have m4 := (m2.set sh sl).below B4
        have L4 := below_call ((L2.setCell (by simp) _).setCell (by simp) _) B4
        clear g0 g1 k0 k1 d0 d1 qo sz rq ro fo
        obtain ⟨rq, ro, fo, g0, g1, k0, k1, d0, d1, qo, sz⟩ := id m4
        have nB : num 0 (B : Int) = (B : Int) := by unfold num; omega
        by_cases c : B ≤ (2 * r)
        · have hn : 0 ≤ n := cmpN_nonneg C.out (by rw [nB, HS.out]; omega)
          obtain ⟨qb, qv⟩ := qr1 c
          have QV : Hid _ := qv
          clear qr1 qr2 qv
          go_wp2_with fail
          refine (rsub_any sh sl 0 B wsh wsl word_zero h3 _).mono ?_
          rintro e w5 ⟨th, tl, tc, rfl, wth, wtl, T5, _, B5⟩
          have m5 := m4.below B5
          have L5 := below_call L4 B5
          have HT : Hid (num th tl = (((2 * r) - B : Nat) : Int)) := by
            show num th tl = _
            rw [T5.out, nB, HS.out]; omega
          clear g0 g1 k0 k1 d0 d1 qo sz rq ro fo C nB T5
          obtain ⟨rq, ro, fo, g0, g1, k0, k1, d0, d1, qo, sz⟩ := id m5
          have go := ro j hj
          have gf := fo j hj
          go_wp2_with fail
          go_roundw
          case rel =>
            refine ⟨j, (2 * r) - B, th, tl, by omega, rfl, wth, wtl, by omega, HT, QV, ?_, ((L5.setCell (by simp) _).setCell (by simp) _).setCell (by simp) _⟩
            have := (m5.set th tl).bit j hj true
            rw [quoTo_step _ _ _ _ qb.symm] at this
            exact this
          case measure => simp [intOf]
        · have hn := cmpN_neg C.out (by rw [nB, HS.out]; omega)
          subst hn
          obtain ⟨qb, qv⟩ := qr2 (by omega)
          have QV : Hid _ := qv
          clear qr1 qr2 qv C nB
          rw [quoTo_skip _ _ _ qb] at m4
          go_wp2_with fail
          go_roundw
          case rel => exact ⟨j, (2 * r), sh, sl, by omega, rfl, wsh, wsl, by omega, HS, QV, m4, L4⟩
          case measure => simp [intOf]
      · obtain ⟨i, hi⟩ : ∃ i, i + P = j := ⟨j - P, by omega⟩
        have hii : i < nl := by omega
        have t3 : (P : Int) ≤ (j : Int) := by omega
        have t4 : (j : Int) - (P : Int) = (i : Int) := by omega
        have ab : A.testBit j = X.testBit i := by rw [← hi]; exact AB1.out i
        have gb : w2.cell? ⟨q, i, none⟩ = some (.bool (X.testBit i)) := rq i hii
        clear hlow hi
        cases hx : X.testBit i
        · rw [hx] at gb ab
          obtain ⟨qr1, qr2⟩ := quo_round A B j hB r (2 * r) RK.out (by rw [ab]; rfl)
          clear hx ab
          go_wp2_with fail
          refine (rcmp_any sh sl 0 B wsh wsl word_zero h3 _).mono ?_
          rintro e w4 ⟨n, rfl, C, B4⟩
          have m4 := (m2.set sh sl).below B4
          have L4 := below_call ((L2.setCell (by simp) _).setCell (by simp) _) B4
          clear g0 g1 k0 k1 d0 d1 qo sz rq ro fo
          obtain ⟨rq, ro, fo, g0, g1, k0, k1, d0, d1, qo, sz⟩ := id m4
          have nB : num 0 (B : Int) = (B : Int) := by unfold num; omega
          by_cases c : B ≤ (2 * r)
          · have hn : 0 ≤ n := cmpN_nonneg C.out (by rw [nB, HS.out]; omega)
            obtain ⟨qb, qv⟩ := qr1 c
            have QV : Hid _ := qv
            clear qr1 qr2 qv
            go_wp2_with fail
            refine (rsub_any sh sl 0 B wsh wsl word_zero h3 _).mono ?_
            rintro e w5 ⟨th, tl, tc, rfl, wth, wtl, T5, _, B5⟩
            have m5 := m4.below B5
            have L5 := below_call L4 B5
            have HT : Hid (num th tl = (((2 * r) - B : Nat) : Int)) := by
              show num th tl = _
              rw [T5.out, nB, HS.out]; omega
            clear g0 g1 k0 k1 d0 d1 qo sz rq ro fo C nB T5
            obtain ⟨rq, ro, fo, g0, g1, k0, k1, d0, d1, qo, sz⟩ := id m5
            have go := ro j hj
            have gf := fo j hj
            go_wp2_with fail
            go_roundw
            case rel =>
              refine ⟨j, (2 * r) - B, th, tl, by omega, rfl, wth, wtl, by omega, HT, QV, ?_, ((L5.setCell (by simp) _).setCell (by simp) _).setCell (by simp) _⟩
              have := (m5.set th tl).bit j hj true
              rw [quoTo_step _ _ _ _ qb.symm] at this
              exact this
            case measure => simp [intOf]
          · have hn := cmpN_neg C.out (by rw [nB, HS.out]; omega)
            subst hn
            obtain ⟨qb, qv⟩ := qr2 (by omega)
            have QV : Hid _ := qv
            clear qr1 qr2 qv C nB
            rw [quoTo_skip _ _ _ qb] at m4
            go_wp2_with fail
            go_roundw
            case rel => exact ⟨j, (2 * r), sh, sl, by omega, rfl, wsh, wsl, by omega, HS, QV, m4, L4⟩
            case measure => simp [intOf]
        · rw [hx] at gb ab
          obtain ⟨qo1, wsl1⟩ := or_one sl wsl hs2
          have HS1 : Hid (num sh (sl + 1) = ((2 * r + 1 : Nat) : Int)) := by
            have := HS.out
            show num sh (sl + 1) = _
            unfold num at *; omega
          have a0 := ((m2.set sh sl).set1 (sl + 1)).g0
          have a1 := ((m2.set sh sl).set1 (sl + 1)).g1
          obtain ⟨qr1, qr2⟩ := quo_round A B j hB r (2 * r + 1) RK.out (by rw [ab]; rfl)
          clear hx ab
          go_wp2_with fail
          refine (rcmp_any sh (sl + 1) 0 B wsh wsl1 word_zero h3 _).mono ?_
          rintro e w4 ⟨n, rfl, C, B4⟩
          have m4 := ((m2.set sh sl).set1 (sl + 1)).below B4
          have L4 := below_call (((L2.setCell (by simp) _).setCell (by simp) _).setCell (by simp) _) B4
          clear g0 g1 k0 k1 d0 d1 qo sz rq ro fo
          obtain ⟨rq, ro, fo, g0, g1, k0, k1, d0, d1, qo, sz⟩ := id m4
          have nB : num 0 (B : Int) = (B : Int) := by unfold num; omega
          by_cases c : B ≤ (2 * r + 1)
          · have hn : 0 ≤ n := cmpN_nonneg C.out (by rw [nB, HS1.out]; omega)
            obtain ⟨qb, qv⟩ := qr1 c
            have QV : Hid _ := qv
            clear qr1 qr2 qv
            go_wp2_with fail
            refine (rsub_any sh (sl + 1) 0 B wsh wsl1 word_zero h3 _).mono ?_
            rintro e w5 ⟨th, tl, tc, rfl, wth, wtl, T5, _, B5⟩
            have m5 := m4.below B5
            have L5 := below_call L4 B5
            have HT : Hid (num th tl = (((2 * r + 1) - B : Nat) : Int)) := by
              show num th tl = _
              rw [T5.out, nB, HS1.out]; omega
            clear g0 g1 k0 k1 d0 d1 qo sz rq ro fo C nB T5
            obtain ⟨rq, ro, fo, g0, g1, k0, k1, d0, d1, qo, sz⟩ := id m5
            have go := ro j hj
            have gf := fo j hj
            go_wp2_with fail
            go_roundw
            case rel =>
              refine ⟨j, (2 * r + 1) - B, th, tl, by omega, rfl, wth, wtl, by omega, HT, QV, ?_, ((L5.setCell (by simp) _).setCell (by simp) _).setCell (by simp) _⟩
              have := (m5.set th tl).bit j hj true
              rw [quoTo_step _ _ _ _ qb.symm] at this
              exact this
            case measure => simp [intOf]
          · have hn := cmpN_neg C.out (by rw [nB, HS1.out]; omega)
            subst hn
            obtain ⟨qb, qv⟩ := qr2 (by omega)
            have QV : Hid _ := qv
            clear qr1 qr2 qv C nB
            rw [quoTo_skip _ _ _ qb] at m4
            go_wp2_with fail
            go_roundw
            case rel => exact ⟨j, (2 * r + 1), sh, (sl + 1), by omega, rfl, wsh, wsl1, by omega, HS1, QV, m4, L4⟩
            case measure => simp [intOf]
theorem rquot_any (q nl cap X : Nat) (bi : Int) (h3 : Word bi) (hb : 0 < bi) (hb2 : bi < 9007199254740992) (hX : X < 2 ^ nl) (hnl : nl ≤ 64) (w : World) (row : RowB w q nl (fun i => X.testBit i)) (hq : q < w.heap.size) :
    Calls Try.prog 54 #[.slice (some ⟨q, 0, none⟩) nl cap, .int .u64 bi, .int .i64 130] w fun e w' =>
      ∃ o : Nat, e = .returned (.tuple #[.slice (some ⟨o, 0, none⟩) (nl + 130) (nl + 130), .bool (decide (X * 2 ^ 130 % bi.toNat ≠ 0))]) ∧ w.heap.size ≤ o ∧ o < w'.heap.size ∧ RowB w' o (nl + 130) (fun i => (X * 2 ^ 130 / bi.toNat).testBit i) ∧ Below w.heap.size w w' :=
  rquotP_any 130 (by decide) q nl cap X bi h3 hb hb2 hX hnl w row hq
end Go.Proofs.Ytmfmjinplieehaa

