/- The statement WideBack, walked: Sub undoes Add; a number is the quotient times the other one, and the rest. -/
import Derived.Test.YtfgddpjdkeannabWideG
namespace Go.Proofs.Ytfgddpjdkeannab
open Go.RowKit
set_option linter.unusedVariables false
theorem back_sum {a b s d : Int} (a0 : 0 ≤ a) (a1 : a < 340282366920938463463374607431768211456) (S : s = (a + b) % 340282366920938463463374607431768211456) (D : d = (s - b) % 340282366920938463463374607431768211456) : d = a := by omega
/-- The quotient's upper word times the other one is a word; all of it and the rest are the number. -/
theorem back_parts (A b qh ql r lh ll hh hl : Int) (A0 : 0 ≤ A) (A1 : A < 340282366920938463463374607431768211456) (hb : 0 < b) (wqh : Word qh) (wql : Word ql) (wlh : Word lh) (wll : Word ll) (whh : Word hh) (whl : Word hl) (Q : num qh ql = A / b) (R : r = A % b) (LO : num lh ll = ql * b) (HI : num hh hl = qh * b) :
    hh = 0 ∧ r < b ∧ 0 ≤ r ∧ num lh ll + num hl 0 + num 0 r = A := by
  have e := Int.mul_ediv_add_emod A b
  have l := Int.emod_lt_of_pos A hb
  have g := Int.emod_nonneg A (show b ≠ 0 by omega)
  rw [← Q, ← R] at e
  have e2 : b * num qh ql = qh * b * 18446744073709551616 + ql * b := by
    unfold num
    rw [Int.mul_add, Int.mul_comm b ql, ← Int.mul_assoc, Int.mul_comm b qh]
  rw [e2, ← LO, ← HI] at e
  have p := num_lo wlh wll
  have h0 : hh = 0 := by unfold num Word at *; omega
  subst h0
  refine ⟨rfl, by omega, by omega, ?_⟩
  unfold num at *
  omega
set_option maxHeartbeats 3200000 in
theorem law_back (ah al bh bl : Int) (h1 : Word ah) (h2 : Word al) (h3 : Word bh) (h4 : Word bl) (w : World) :
    Calls Try.prog 3 #[.agg #[.int .u64 ah, .int .u64 al], .agg #[.int .u64 bh, .int .u64 bl]] w fun e w' => e = .returned (.bool true) ∧ Below w.heap.size w w' := by
  have hq := eql_u128
  have hq' := neq_u128
  have hnot : ∀ (x : Bool) (w : World), (Op.unary .not (.bool x)).run Try.prog w = .ok (.bool (!x)) w := fun _ _ => rfl
  have L := below_two w (.cells #[.int .u64 ah, .int .u64 al] 24) (.cells #[.int .u64 bh, .int .u64 bl] 24)
  have c0 := cell_past (cell_new0 w (.int .u64 ah) (.int .u64 al) 24) (.cells #[.int .u64 bh, .int .u64 bl] 24)
  have c1 := cell_past (cell_new1 w (.int .u64 ah) (.int .u64 al) 24) (.cells #[.int .u64 bh, .int .u64 bl] 24)
  have d0 := cell_new0 (w.alloc (.cells #[.int .u64 ah, .int .u64 al] 24)) (.int .u64 bh) (.int .u64 bl) 24
  have d1 := cell_new1 (w.alloc (.cells #[.int .u64 ah, .int .u64 al] 24)) (.int .u64 bh) (.int .u64 bl) 24
  rw [World.size_alloc] at d0 d1
  have A0 := num_lo h1 h2
  have A1 := num_hi h1 h2
  go_enter Try.func3, Try.ntmps3
  go_wp2_with fail
  refine (add_any ah al bh bl h1 h2 h3 h4 _).mono ?_
  rintro e w1 ⟨sh, sl, sc, rfl, wsh, wsl, S1, S2, hb1⟩
  replace c0 := cell_on hb1 c0; replace c1 := cell_on hb1 c1; replace d0 := cell_on hb1 d0; replace d1 := cell_on hb1 d1
  replace L := below_call L hb1
  have zc := lt_new c0; have zd := lt_new d0
  go_wp2_with fail
  refine (sub_any sh sl bh bl wsh wsl h3 h4 _).mono ?_
  rintro e w2 ⟨th, tl, tc, rfl, wth, wtl, T1, T2, hb2⟩
  obtain ⟨rfl, rfl⟩ := num_inj wth wtl h1 h2 (back_sum A0 A1 S1.out T1.out)
  clear zc zd
  replace c0 := cell_on hb2 (cell_past c0 _); replace c1 := cell_on hb2 (cell_past c1 _); replace d0 := cell_on hb2 (cell_past d0 _); replace d1 := cell_on hb2 (cell_past d1 _)
  have e0 := cell_on hb2 (cell_new0 w1 _ _ _); have e1 := cell_on hb2 (cell_new1 w1 _ _ _)
  replace L := below_call (below_new L _) hb2
  have zc := lt_new c0; have zd := lt_new d0; have ze := lt_new e0
  have q1 : eq2 th tl th tl = true := eq2_true rfl rfl
  clear S1 S2 T1 T2
  by_cases hz : bl = 0
  · subst hz
    go_wp2_with fail
    refine (live_any _).mono ?_
    rintro e w3 ⟨rfl, hb3⟩
    replace c0 := cell_on hb3 (cell_past c0 _); replace c1 := cell_on hb3 (cell_past c1 _); replace d0 := cell_on hb3 (cell_past d0 _); replace d1 := cell_on hb3 (cell_past d1 _); replace e0 := cell_on hb3 (cell_past e0 _); replace e1 := cell_on hb3 (cell_past e1 _)
    have f0 := cell_on hb3 (cell_new0 w2 _ _ _); have f1 := cell_on hb3 (cell_new1 w2 _ _ _)
    replace L := below_call (below_new L _) hb3
    go_wp2_with fail
    go_ret
    exact ⟨rfl, L⟩
  · have hpos : 0 < bl := by have := h4.1; omega
    have hz' : (bl == 0) = false := by simp [hz]
    go_wp2_with fail
    refine (div_pos th tl bl h1 h2 h4 hpos _).mono ?_
    rintro e w3 ⟨qh, ql, r, rfl, wqh, wql, wr, Q, R, hb3⟩
    clear zc zd ze
    replace c0 := cell_on hb3 (cell_past c0 _); replace c1 := cell_on hb3 (cell_past c1 _); replace d0 := cell_on hb3 (cell_past d0 _); replace d1 := cell_on hb3 (cell_past d1 _); replace e0 := cell_on hb3 (cell_past e0 _); replace e1 := cell_on hb3 (cell_past e1 _)
    have f0 := cell_on hb3 (cell_new0 w2 _ _ _); have f1 := cell_on hb3 (cell_new1 w2 _ _ _)
    replace L := below_call (below_new L _) hb3
    have zc := lt_new c0; have zd := lt_new d0; have ze := lt_new e0; have zf := lt_new f0
    go_wp2_with fail
    refine (mul_any ql bl wql h4 _).mono ?_
    rintro e w4 ⟨lh, ll, rfl, wlh, wll, LO, hb4⟩
    clear zc zd ze zf
    replace c0 := cell_on hb4 (cell_past c0 _); replace c1 := cell_on hb4 (cell_past c1 _); replace d0 := cell_on hb4 (cell_past d0 _); replace d1 := cell_on hb4 (cell_past d1 _); replace e0 := cell_on hb4 (cell_past e0 _); replace e1 := cell_on hb4 (cell_past e1 _); replace f0 := cell_on hb4 (cell_past f0 _); replace f1 := cell_on hb4 (cell_past f1 _)
    have g0 := cell_on hb4 (cell_new0 w3 _ _ _); have g1 := cell_on hb4 (cell_new1 w3 _ _ _)
    replace L := below_call (below_new L _) hb4
    have zc := lt_new c0; have zd := lt_new d0; have ze := lt_new e0; have zf := lt_new f0; have zg := lt_new g0
    go_wp2_with fail
    refine (mul_any qh bl wqh h4 _).mono ?_
    rintro e w5 ⟨hh, hl, rfl, whh, whl, HI, hb5⟩
    clear zc zd ze zf zg
    replace c0 := cell_on hb5 (cell_past c0 _); replace c1 := cell_on hb5 (cell_past c1 _); replace d0 := cell_on hb5 (cell_past d0 _); replace d1 := cell_on hb5 (cell_past d1 _); replace e0 := cell_on hb5 (cell_past e0 _); replace e1 := cell_on hb5 (cell_past e1 _); replace f0 := cell_on hb5 (cell_past f0 _); replace f1 := cell_on hb5 (cell_past f1 _); replace g0 := cell_on hb5 (cell_past g0 _); replace g1 := cell_on hb5 (cell_past g1 _)
    have i0 := cell_on hb5 (cell_new0 w4 _ _ _); have i1 := cell_on hb5 (cell_new1 w4 _ _ _)
    replace L := below_call (below_new L _) hb5
    obtain ⟨rfl, rlt, r0, SUM⟩ := back_parts (num th tl) bl qh ql r lh ll hh hl A0 A1 hpos wqh wql wlh wll whh whl Q.out R.out LO.out HI.out
    have HS : Hid _ := SUM
    clear SUM Q R LO HI
    have zc := lt_new c0; have zd := lt_new d0; have ze := lt_new e0; have zf := lt_new f0; have zg := lt_new g0; have zi := lt_new i0
    go_wp2_with fail
    refine (add_any lh ll hl 0 wlh wll whl word_zero _).mono ?_
    rintro e w6 ⟨xh, xl, xc, rfl, wxh, wxl, X1, X2, hb6⟩
    clear zc zd ze zf zg zi
    replace c0 := cell_on hb6 (cell_past c0 _); replace c1 := cell_on hb6 (cell_past c1 _); replace d0 := cell_on hb6 (cell_past d0 _); replace d1 := cell_on hb6 (cell_past d1 _); replace e0 := cell_on hb6 (cell_past e0 _); replace e1 := cell_on hb6 (cell_past e1 _); replace f0 := cell_on hb6 (cell_past f0 _); replace f1 := cell_on hb6 (cell_past f1 _); replace g0 := cell_on hb6 (cell_past g0 _); replace g1 := cell_on hb6 (cell_past g1 _); replace i0 := cell_on hb6 (cell_past i0 _); replace i1 := cell_on hb6 (cell_past i1 _)
    have j0 := cell_on hb6 (cell_new0 w5 _ _ _); have j1 := cell_on hb6 (cell_new1 w5 _ _ _)
    replace L := below_call (below_new L _) hb6
    have nr : num 0 r = r := by unfold num; omega
    have nx := num_lo wlh wll
    have ny := num_lo whl word_zero
    have hxc : xc = false := by
      have hs := HS.out
      rw [nr] at hs
      rw [X2.out, decide_eq_false_iff_not]; omega
    subst hxc
    have x1 : num xh xl + r = num th tl := by
      have hs := HS.out
      rw [nr] at hs
      rw [X1.out]; omega
    have HX : Hid _ := x1
    clear x1 X1 X2
    have zc := lt_new c0; have zd := lt_new d0; have ze := lt_new e0; have zf := lt_new f0; have zg := lt_new g0; have zi := lt_new i0; have zj := lt_new j0
    go_wp2_with fail
    refine (add_any xh xl 0 r wxh wxl word_zero wr _).mono ?_
    rintro e w7 ⟨yh, yl, yc, rfl, wyh, wyl, Y1, Y2, hb7⟩
    clear zc zd ze zf zg zi zj
    replace c0 := cell_on hb7 (cell_past c0 _); replace c1 := cell_on hb7 (cell_past c1 _); replace d0 := cell_on hb7 (cell_past d0 _); replace d1 := cell_on hb7 (cell_past d1 _); replace e0 := cell_on hb7 (cell_past e0 _); replace e1 := cell_on hb7 (cell_past e1 _); replace f0 := cell_on hb7 (cell_past f0 _); replace f1 := cell_on hb7 (cell_past f1 _); replace g0 := cell_on hb7 (cell_past g0 _); replace g1 := cell_on hb7 (cell_past g1 _); replace i0 := cell_on hb7 (cell_past i0 _); replace i1 := cell_on hb7 (cell_past i1 _); replace j0 := cell_on hb7 (cell_past j0 _); replace j1 := cell_on hb7 (cell_past j1 _)
    have k0 := cell_on hb7 (cell_new0 w6 _ _ _); have k1 := cell_on hb7 (cell_new1 w6 _ _ _)
    replace L := below_call (below_new L _) hb7
    have hyc : yc = false := by
      rw [Y2.out, nr, HX.out, decide_eq_false_iff_not]; omega
    subst hyc
    have y1 : num yh yl = num th tl := by rw [Y1.out, nr, HX.out]; omega
    obtain ⟨rfl, rfl⟩ := num_inj wyh wyl h1 h2 y1
    clear y1 Y1 Y2 HX HS nr
    have zc := lt_new c0; have zd := lt_new d0; have ze := lt_new e0; have zf := lt_new f0; have zg := lt_new g0; have zi := lt_new i0; have zj := lt_new j0; have zk := lt_new k0
    go_wp2_with fail
    refine (live_any _).mono ?_
    rintro e w8 ⟨rfl, hb8⟩
    clear zc zd ze zf zg zi zj zk
    replace c0 := cell_on hb8 (cell_past c0 _); replace c1 := cell_on hb8 (cell_past c1 _); replace d0 := cell_on hb8 (cell_past d0 _); replace d1 := cell_on hb8 (cell_past d1 _); replace e0 := cell_on hb8 (cell_past e0 _); replace e1 := cell_on hb8 (cell_past e1 _); replace f0 := cell_on hb8 (cell_past f0 _); replace f1 := cell_on hb8 (cell_past f1 _); replace g0 := cell_on hb8 (cell_past g0 _); replace g1 := cell_on hb8 (cell_past g1 _); replace i0 := cell_on hb8 (cell_past i0 _); replace i1 := cell_on hb8 (cell_past i1 _); replace j0 := cell_on hb8 (cell_past j0 _); replace j1 := cell_on hb8 (cell_past j1 _); replace k0 := cell_on hb8 (cell_past k0 _); replace k1 := cell_on hb8 (cell_past k1 _)
    have l0 := cell_on hb8 (cell_new0 w7 _ _ _); have l1 := cell_on hb8 (cell_new1 w7 _ _ _)
    replace L := below_call (below_new L _) hb8
    go_wp2_with fail
    go_ret
    exact ⟨rfl, L⟩
end Go.Proofs.Ytfgddpjdkeannab
