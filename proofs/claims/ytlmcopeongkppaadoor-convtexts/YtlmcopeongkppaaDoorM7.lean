/- Texts of the proof, put together. -/
import Derived.Test.YtlmcopeongkppaaDoorM6
import Derived.WalkKit
import Derived.Laws.AppendOwnNone
namespace Go.Proofs.YtlmcopeongkppaaDoor
open Go.RowKit
set_option linter.unusedVariables false
set_option linter.unusedSimpArgs false
theorem put_s' (b : Bool) (X M : Int) (x0 : 0 ≤ X) (hX : X < 255) (m0 : 0 ≤ M) (hM : M < 8388608) : bits BinOp.or IntKind.u64 (bits BinOp.or IntKind.u64 (if b then 2147483648 else 0) (X * 8388608)) M = sgnd true b (X * 8388608 + M) := by
  obtain ⟨x, rfl⟩ := Int.eq_ofNat_of_zero_le x0
  obtain ⟨m, rfl⟩ := Int.eq_ofNat_of_zero_le m0
  exact put_s b x m (by omega) (by omega)
theorem ref_up_s (m : Int) (b : Bool) (La X : Int) (hX : X = La + 1 + 149 + 1) (h : X < 255) : sgnd true b (refSize true m b La (16777216 : Int).toNat) = sgnd true b (X * 8388608 + 0) := by
  congr 1
  unfold refSize
  have e1 : (2 : Nat) ^ (fP true + 1) = 16777216 := rfl
  have e2 : (2 : Nat) ^ fP true = 8388608 := rfl
  have e3 : (2 : Int) ^ fP true = 8388608 := rfl
  have e4 : (2 : Int) ^ (fE true).toNat - 1 = 255 := rfl
  have e5 : fL true = -149 := rfl
  rw [e1, e2, e3, e4, e5]
  rw [if_pos (by decide : (16777216 : Int).toNat = 16777216), if_pos (by decide : (16777216 : Int).toNat = 16777216)]
  rw [if_neg (by decide : ¬ (16777216 : Int).toNat / 2 < 8388608)]
  rw [if_neg (by omega), show (16777216 : Int).toNat / 2 % 8388608 = 0 by decide]
  omega
theorem ref_sub_s (m : Int) (b : Bool) (La y : Int) (y0 : 0 ≤ y) (h : y < 8388608) : sgnd true b (refSize true m b La y.toNat) = sgnd true b (0 * 8388608 + y) := by
  congr 1
  unfold refSize
  have e1 : (2 : Nat) ^ (fP true + 1) = 16777216 := rfl
  have e2 : (2 : Nat) ^ fP true = 8388608 := rfl
  have e3 : (2 : Int) ^ fP true = 8388608 := rfl
  have e4 : (2 : Int) ^ (fE true).toNat - 1 = 255 := rfl
  have n1 : ¬ y.toNat = 16777216 := by omega
  have n2 : y.toNat < 8388608 := by omega
  rw [e1, e2, e3, e4]
  simp only [if_neg n1, if_pos n2]
  rw [if_neg (by decide), Nat.mod_eq_of_lt n2]
  omega
theorem ref_great_s (m : Int) (b : Bool) (La y : Int) (h : (y = 16777216 ∧ 255 ≤ La + 1 + 149 + 1) ∨ (¬ y = 16777216 ∧ 8388608 ≤ y ∧ 255 ≤ La + 149 + 1)) :
    sgnd true b (refSize true m b La y.toNat) = sgnd true b (gr m b 2139095039 2139095040) := by
  congr 1
  unfold refSize gr
  have e1 : (2 : Nat) ^ (fP true + 1) = 16777216 := rfl
  have e2 : (2 : Nat) ^ fP true = 8388608 := rfl
  have e3 : (2 : Int) ^ fP true = 8388608 := rfl
  have e4 : (2 : Int) ^ (fE true).toNat - 1 = 255 := rfl
  have e5 : fL true = -149 := rfl
  rw [e1, e2, e3, e4, e5]
  rcases h with ⟨h1, h2⟩ | ⟨h1, h2, h3⟩
  · have n1 : y.toNat = 16777216 := by omega
    have n2 : ¬ y.toNat / 2 < 8388608 := by omega
    simp only [if_pos n1, if_neg n2]
    rw [if_pos (by omega)]
    rfl
  · have n1 : ¬ y.toNat = 16777216 := by omega
    have n2 : ¬ y.toNat < 8388608 := by omega
    simp only [if_neg n1, if_neg n2]
    rw [if_pos (by omega)]
    rfl
theorem ref_norm_s (m : Int) (b : Bool) (La y X : Int) (hX : X = La + 149 + 1) (c1 : ¬ y = 16777216) (c2 : ¬ y < 8388608) (y1 : y ≤ 16777216) (h : X < 255) : sgnd true b (refSize true m b La y.toNat) = sgnd true b (X * 8388608 + (y - 8388608)) := by
  congr 1
  unfold refSize
  have e1 : (2 : Nat) ^ (fP true + 1) = 16777216 := rfl
  have e2 : (2 : Nat) ^ fP true = 8388608 := rfl
  have e3 : (2 : Int) ^ fP true = 8388608 := rfl
  have e4 : (2 : Int) ^ (fE true).toNat - 1 = 255 := rfl
  have e5 : fL true = -149 := rfl
  have n1 : ¬ y.toNat = 16777216 := by omega
  have n2 : ¬ y.toNat < 8388608 := by omega
  rw [e1, e2, e3, e4, e5, if_neg n1, if_neg n1, if_neg n2, if_neg (by omega)]
  omega
set_option maxRecDepth 20000 in
set_option maxHeartbeats 4000000 in
theorem rounded_s (m : Int) (below : Bool) (b n cap A : Nat) (hA : A < 2 ^ n) (hn : n ≤ 100000) (e : Int) (he1 : -100000 ≤ e) (he2 : e ≤ 100000) (w : World) (row : RowB w b n (fun i => A.testBit i)) (A0 : A ≠ 0) :
    Calls Tryd.prog 17 #[.int .i64 1, .int .i64 m, .bool below, .slice (some ⟨b, 0, none⟩) n cap, .int .i64 e] w fun r w' => r = .returned (.int .u64 (rnd true m below A e)) ∧ ∃ k, w' = w.drewN k := by
  have hs := rsize_s
  have hl := length_any b n cap A hA (by omega) w row
  obtain ⟨La, hLa, hcase⟩ := last_two true A0 e
  obtain ⟨b1, b2⟩ := blen_le A0
  have b3 := blen_le_of hA
  have b4 := lt_blen A
  obtain ⟨N, hN⟩ : ∃ N : Nat, blen A = N := ⟨_, rfl⟩
  rw [hN] at hl hcase b1 b2 b3 b4
  have HLa : Hid (lastOf true A e = La) := hLa
  have HN : Hid (blen A = N) := hN
  have B1 : Hid _ := b1
  have B4 : Hid _ := b4
  have HA : Hid _ := hA
  have hq : quo A (La - e) < 2 ^ 63 := by
    obtain ⟨x, k1, k2, _⟩ := kept true A0 e (min e (-149)) (by omega) (by show _ ≤ (-149 : Int); omega)
    rw [hLa] at k2
    exact Nat.lt_of_lt_of_le k2 (by decide)
  have HQ : Hid _ := hq
  clear hLa hN b1 b4 hA hq
  have p52 : ((fP true : Nat) : Int) = 23 := rfl
  have l74 : fL true = -149 := rfl
  rw [p52, l74] at hcase
  clear p52 l74
  have hk : -149 ≤ La ∧ e + (N : Int) - 1 - La ≤ 23 ∧ La ≤ 300000 := by rcases hcase with ⟨a, rfl⟩ | ⟨a, rfl⟩ <;> refine ⟨?_, ?_, ?_⟩ <;> omega
  obtain ⟨hk1, hk2, hk3⟩ := hk
  have N1 : ((N : Int) == 0) = false := by simp; omega
  go_enter Tryd.func17, Tryd.ntmps17
  go_upto_if 44 with (first
      | (go_at_call 25; refine (hs _).mono ?_; rintro r w1 ⟨rfl, hw⟩; rw [hw]; clear hw w1)
      | (go_at_call 26; refine hl.mono ?_; rintro r w1 ⟨rfl, hw⟩; rw [hw]; clear hw w1))
  go_cut [15] from 23 to 46 (fun s wx => s = .int .i64 La ∧ wx = w)
  case first =>
    rcases hcase with ⟨hc, hLa⟩ | ⟨hc, hLa⟩
    · have HL : Hid _ := hLa
      clear hLa
      go_wp2_with fail
      go_meet
      case rel => exact ⟨by rw [HL.out], rfl⟩
    · have HL : Hid _ := hLa
      clear hLa
      go_wp2_with fail
      go_meet
      case rel => exact ⟨by rw [HL.out], rfl⟩
  case rest =>
    obtain ⟨rfl, hw⟩ := hcut
    rw [hw]
    clear hw wc hcase hs hl
    go_wp2
    go_loop [16, 17] (fun q i => ∃ j : Nat, j ≤ N ∧ q = .int .u64 ((qTo A (La - e) j : Nat) : Int) ∧ ((j = 0 ∧ i = .int .i64 (-1)) ∨ ∃ i0 : Nat, j = i0 + 1 ∧ i = .int .i64 (i0 : Int))) (fun _ i => (intOf i + 1).toNat)
    case atStart =>
      refine ⟨N, Nat.le_refl _, by rw [qTo_top _ B4.out]; rfl, Or.inr ⟨N - 1, by omega, by go_num⟩⟩
    case round =>
      obtain ⟨j, hj, rfl, hj2⟩ := hrel
      rcases hj2 with ⟨rfl, rfl⟩ | ⟨i0, rfl, rfl⟩
      · rw [qTo_end]
        obtain ⟨Q, hQ⟩ : ∃ Q : Nat, quo A (La - e) = Q := ⟨_, rfl⟩
        have HQ' : Hid _ := hQ
        rw [hQ]
        clear hQ
        go_wp2
        go_loop [18, 19, 20] (fun h l i => ∃ j : Nat, j ≤ N ∧ i = .int .i64 (j : Int) ∧ h = .bool (half (A % 2 ^ j) (La - e)) ∧ l = .bool (low (A % 2 ^ j) (La - e))) (fun _ _ i => N - (intOf i).toNat)
        case atStart => exact ⟨0, by omega, rfl, by rw [(hl_zero A _).1], by rw [(hl_zero A _).2]⟩
        case round =>
          obtain ⟨j, hj, rfl, rfl, rfl⟩ := hrel
          by_cases hlt : j < N
          · have cj : w.cell? ⟨b, j, none⟩ = some (.bool (A.testBit j)) := row j (by omega)
            have t1 : (j : Int) < (N : Int) := by omega
            cases tb : A.testBit j
            · have Z : Hid _ := hl_no (k := La - e) tb
              rw [tb] at cj
              clear tb row
              go_wp2
              go_round
              case rel => exact ⟨j + 1, by omega, by go_num, by rw [Z.out.1], by rw [Z.out.2]⟩
              case measure => simp [intOf]; omega
            · rcases Int.lt_trichotomy (e + (j : Int)) (La - 1) with hc | hc | hc
              · have Z : Hid _ := hl_lt (k := La - e) tb (by omega)
                have hne : (e + (j : Int) == La - 1) = false := by simp; omega
                rw [tb] at cj
                clear tb row
                go_wp2
                go_round
                case rel => exact ⟨j + 1, by omega, by go_num, by rw [Z.out.1], by rw [Z.out.2]⟩
                case measure => simp [intOf]; omega
              · have Z : Hid _ := hl_eq (k := La - e) tb (by omega)
                have hne : (e + (j : Int) == La - 1) = true := by simp; omega
                have hnl : ¬ e + (j : Int) < La - 1 := by omega
                rw [tb] at cj
                clear tb row hc
                go_wp2
                go_round
                case rel => exact ⟨j + 1, by omega, by go_num, by rw [Z.out.1], by rw [Z.out.2]⟩
                case measure => simp [intOf]; omega
              · have Z : Hid _ := hl_gt (A := A) (i := j) (k := La - e) (by omega)
                have hne : (e + (j : Int) == La - 1) = false := by simp; omega
                have hnl : ¬ e + (j : Int) < La - 1 := by omega
                rw [tb] at cj
                clear tb row
                go_wp2
                go_round
                case rel => exact ⟨j + 1, by omega, by go_num, by rw [Z.out.1], by rw [Z.out.2]⟩
                case measure => simp [intOf]; omega
          · have : j = N := by omega
            subst this
            rw [Nat.mod_eq_of_lt B4.out]
            obtain ⟨H, hH⟩ : ∃ H : Bool, half A (La - e) = H := ⟨_, rfl⟩
            obtain ⟨L, hL⟩ : ∃ L : Bool, low A (La - e) = L := ⟨_, rfl⟩
            have HH : Hid _ := hH
            have HL : Hid _ := hL
            rw [hH, hL]
            clear hH hL
            go_upto_region 24 with fail
            iterate 8 go_step
            go_cut [21] from 114 to 144 (fun s wx => s = .bool (away m below (Q % 2 == 1) H L) ∧ wx = w)
            case first =>
              by_cases m1 : m = 1
              · subst m1
                cases below <;> cases H <;> cases L <;> (go_wp2_with fail; go_meet; exact ⟨rfl, rfl⟩)
              · by_cases m2 : m = 2
                · subst m2
                  cases below <;> cases H <;> cases L <;> (go_wp2_with fail; go_meet; exact ⟨rfl, rfl⟩)
                · by_cases m3 : m = 3
                  · subst m3
                    go_wp2_with fail
                    go_meet
                    exact ⟨rfl, rfl⟩
                  · have n1 : (m == 1) = false := by simp [m1]
                    have n2 : (m == 2) = false := by simp [m2]
                    have n3 : (m == 3) = false := by simp [m3]
                    have aw : Hid (∀ o, away m below o H L = (H && (L || o))) := fun o => by unfold away; rw [if_neg m1, if_neg m2, if_neg m3]
                    cases H
                    · go_wp2_with fail
                      go_meet
                      exact ⟨by rw [aw.out]; rfl, rfl⟩
                    · cases L
                      · have od : ((Q : Int) % 2 == 1) = (Q % 2 == 1) := by rw [Bool.eq_iff_iff]; simp; omega
                        go_wp2_with fail
                        go_meet
                        exact ⟨by rw [aw.out]; rfl, rfl⟩
                      · go_wp2_with fail
                        go_meet
                        exact ⟨by rw [aw.out]; rfl, rfl⟩
            case rest =>
              obtain ⟨rfl, hw⟩ := hcut
              rw [hw]
              clear hw wc
              have T := ref_fin true m below La Q H L
              obtain ⟨mo, hmo⟩ : ∃ mo : Bool, away m below (Q % 2 == 1) H L = mo := ⟨_, rfl⟩
              rw [hmo] at T ⊢
              have T2 : Hid (rnd true m below A e = sgnd true below (refSize true m below La (Q + mo.toNat)) ∧ Q < 2 ^ 24 ∧ (La = -149 ∨ 2 ^ 23 ≤ Q)) := by
                obtain ⟨x, k1, k2, k3, _⟩ := kept true A0 e (min e (-149)) (by omega) (by show _ ≤ (-149 : Int); omega)
                have fl : fL true = -149 := rfl
                have fp : fP true = 23 := rfl
                rw [HLa.out, HQ'.out, fp] at k2 k3
                rw [HLa.out, fl] at k1
                have k4 : La = -149 ∨ 2 ^ 23 ≤ Q := by rcases k3 with k | k; left; omega; right; exact k
                have T3 := T k2 (by rw [fl, fp]; exact k4) (by rw [fl]; exact hk1)
                refine ⟨?_, k2, k4⟩
                unfold rnd
                rw [if_neg A0]
                unfold mag
                rw [HLa.out, HQ'.out, HH.out, HL.out, ← T3]
                cases mo <;> rfl
              clear T hmo HLa HQ' HH HL HQ B1 B4 HA HN
              iterate 2 go_step
              go_cut [16] from 145 to 147 (fun s wx => s = .int .u64 ((Q + mo.toNat : Nat) : Int) ∧ wx = w)
              case first =>
                have q53 := T2.out.2.1
                clear T2
                cases mo
                · go_wp2_with fail
                  go_meet
                  exact ⟨rfl, rfl⟩
                · go_wp2_with fail
                  go_meet
                  exact ⟨by go_num, rfl⟩
              case rest =>
                obtain ⟨rfl, hw⟩ := hcut
                rw [hw]
                clear hw wc
                obtain ⟨y, hy⟩ : ∃ y : Int, ((Q + mo.toNat : Nat) : Int) = y := ⟨_, rfl⟩
                have y53 : 0 ≤ y ∧ y ≤ 16777216 := by have := T2.out.2.1; have := Bool.toNat_le mo; omega
                have T : Hid (rnd true m below A e = sgnd true below (refSize true m below La y.toNat)) := by rw [T2.out.1, ← hy]; rfl
                rw [hy]
                clear T2 hy
                obtain ⟨y0, y1⟩ := y53
                have hg : ∀ w, Calls Tryd.prog 27 #[.int .i64 1, .bool below] w fun e w' => e = .returned (.int .u64 (if below then 2147483648 else 0)) ∧ w' = w := rsign_any true below
                by_cases c1 : y = 16777216
                · subst c1
                  obtain ⟨X, hX⟩ : ∃ X : Int, La + 1 + 149 + 1 = X := ⟨_, rfl⟩
                  have x1 : 0 ≤ X := by omega
                  by_cases c3 : X < 255
                  · have TT : Hid _ := T.out.trans (ref_up_s m below La X hX.symm c3)
                    have wx : IntKind.u64.wrap (X * 8388608) = X * 8388608 := by rw [IntKind.wrap_u64]; omega
                    have pu := put_s' below X 0 x1 c3 (by decide) (by decide)
                    obtain ⟨S, hS⟩ : ∃ S : Int, (if below then (2147483648 : Int) else 0) = S := ⟨_, rfl⟩
                    rw [hS] at hg pu
                    have PU : Hid _ := pu
                    clear hS pu T
                    go_wp2_with fail
                    go_quiet ((go_at_call 27; exact Calls.quiet_of_same (hg _)))
                    go_wp2_with fail
                    go_ret
                    exact ⟨u64r_eq (by rw [TT.out, ← PU.out]; rfl), _, rfl⟩
                  · have nx : ¬ X < 255 := c3
                    have hmo := rmost_s
                    have hin : ∀ w, Calls Tryd.prog 29 #[.int .i64 1, .bool below] w fun e w' => e = .returned (.int .u64 (sgnd true below 2139095040)) ∧ ∃ n, w' = w.drewN n := rinf_any true below
                    have om : bits BinOp.or IntKind.u64 (if below then 2147483648 else 0) 2139095039 = sgnd true below 2139095039 := or_sign true below 2139095039 (by decide)
                    have GH : Hid _ := T.out.trans (ref_great_s m below La _ (Or.inl ⟨rfl, by omega⟩))
                    clear T
                    obtain ⟨S, hS⟩ : ∃ S : Int, (if below then (2147483648 : Int) else 0) = S := ⟨_, rfl⟩
                    rw [hS] at hg om
                    have OM : Hid _ := om
                    clear hS om
                    obtain ⟨VI, hVI⟩ : ∃ V : Int, sgnd true below 2139095040 = V := ⟨_, rfl⟩
                    rw [hVI] at hin
                    have HVI : Hid _ := hVI
                    clear hVI
                    rcases great_ways m below 2139095039 2139095040 with ⟨g, rfl⟩ | ⟨g, _, rfl, rfl⟩ | ⟨g, _, _, rfl, rfl⟩ | ⟨g, _, rfl, rfl⟩ | ⟨g, _, _, rfl, rfl⟩ | ⟨g, m3, m1, m2⟩
                    all_goals
                      have GV : Hid _ := GH.out
                      rw [g] at GV
                      have G2 : Hid _ := GV
                      clear GV GH g
                      go_wp2_with (first
                        | (go_at_call 27; refine (hg _).mono ?_; rintro r w1 ⟨rfl, hw⟩; rw [hw]; clear hw w1)
                        | (go_at_call 28; refine (hmo _).mono ?_; rintro r w1 ⟨rfl, hw⟩; rw [hw]; clear hw w1)
                        | (go_at_call 29; refine (hin _).mono ?_; rintro r w1 ⟨rfl, nn, hw⟩; rw [hw]; clear hw w1))
                      go_ret
                    · exact ⟨u64r_eq (by rw [G2.out]; exact OM.out), drew_0 w⟩
                    · exact ⟨u64r_eq (by rw [G2.out]; exact OM.out), drew_0 w⟩
                    · exact ⟨u64r_eq (by rw [G2.out]; exact OM.out), drew_0 w⟩
                    · exact ⟨u64r_eq (by rw [G2.out]; exact HVI.out.symm), nn, rfl⟩
                    · exact ⟨u64r_eq (by rw [G2.out]; exact HVI.out.symm), nn, rfl⟩
                    · exact ⟨u64r_eq (by rw [G2.out]; exact HVI.out.symm), nn, rfl⟩
                · have c1' : (y == 16777216) = false := by simp; omega
                  obtain ⟨X, hX⟩ : ∃ X : Int, La + 149 + 1 = X := ⟨_, rfl⟩
                  have x1 : 0 ≤ X := by omega
                  by_cases c2 : y < 8388608
                  · have pu := put_s' below 0 y (by omega) (by decide) y0 c2
                    have aw : bits BinOp.and IntKind.u64 y 8388607 = y := by
                      rw [and_bits y.toNat 23 8388607 rfl (by decide) y (by omega) (by omega)]
                      show y % 8388608 = _
                      omega
                    have TT : Hid _ := T.out.trans (ref_sub_s m below La y y0 c2)
                    obtain ⟨S, hS⟩ : ∃ S : Int, (if below then (2147483648 : Int) else 0) = S := ⟨_, rfl⟩
                    rw [hS] at hg pu
                    have PU : Hid _ := pu
                    clear hS pu T
                    go_wp2_with fail
                    go_quiet ((go_at_call 27; exact Calls.quiet_of_same (hg _)))
                    go_wp2_with fail
                    go_ret
                    exact ⟨u64r_eq (by rw [TT.out, ← PU.out]; rfl), _, rfl⟩
                  · by_cases c3 : X < 255
                    · have TT : Hid _ := T.out.trans (ref_norm_s m below La y X hX.symm c1 c2 y1 c3)
                      have wx : IntKind.u64.wrap (X * 8388608) = X * 8388608 := by rw [IntKind.wrap_u64]; omega
                      have pu := put_s' below X (y - 8388608) x1 c3 (by omega) (by omega)
                      have aw : bits BinOp.and IntKind.u64 y 8388607 = y - 8388608 := by
                        rw [and_bits y.toNat 23 8388607 rfl (by decide) y (by omega) (by omega)]
                        show y % 8388608 = _
                        omega
                      obtain ⟨S, hS⟩ : ∃ S : Int, (if below then (2147483648 : Int) else 0) = S := ⟨_, rfl⟩
                      rw [hS] at hg pu
                      have PU : Hid _ := pu
                      clear hS pu T
                      go_wp2_with fail
                      go_quiet ((go_at_call 27; exact Calls.quiet_of_same (hg _)))
                      go_wp2_with fail
                      go_ret
                      exact ⟨u64r_eq (by rw [TT.out, ← PU.out]), _, rfl⟩
                    · have nx : ¬ X < 255 := c3
                      have hmo := rmost_s
                      have hin : ∀ w, Calls Tryd.prog 29 #[.int .i64 1, .bool below] w fun e w' => e = .returned (.int .u64 (sgnd true below 2139095040)) ∧ ∃ n, w' = w.drewN n := rinf_any true below
                      have om : bits BinOp.or IntKind.u64 (if below then 2147483648 else 0) 2139095039 = sgnd true below 2139095039 := or_sign true below 2139095039 (by decide)
                      have GH : Hid _ := T.out.trans (ref_great_s m below La _ (Or.inr ⟨c1, by omega, by omega⟩))
                      clear T
                      obtain ⟨S, hS⟩ : ∃ S : Int, (if below then (2147483648 : Int) else 0) = S := ⟨_, rfl⟩
                      rw [hS] at hg om
                      have OM : Hid _ := om
                      clear hS om
                      obtain ⟨VI, hVI⟩ : ∃ V : Int, sgnd true below 2139095040 = V := ⟨_, rfl⟩
                      rw [hVI] at hin
                      have HVI : Hid _ := hVI
                      clear hVI
                      rcases great_ways m below 2139095039 2139095040 with ⟨g, rfl⟩ | ⟨g, _, rfl, rfl⟩ | ⟨g, _, _, rfl, rfl⟩ | ⟨g, _, rfl, rfl⟩ | ⟨g, _, _, rfl, rfl⟩ | ⟨g, m3, m1, m2⟩
                      all_goals
                        have GV : Hid _ := GH.out
                        rw [g] at GV
                        have G2 : Hid _ := GV
                        clear GV GH g
                        go_wp2_with (first
                          | (go_at_call 27; refine (hg _).mono ?_; rintro r w1 ⟨rfl, hw⟩; rw [hw]; clear hw w1)
                          | (go_at_call 28; refine (hmo _).mono ?_; rintro r w1 ⟨rfl, hw⟩; rw [hw]; clear hw w1)
                          | (go_at_call 29; refine (hin _).mono ?_; rintro r w1 ⟨rfl, nn, hw⟩; rw [hw]; clear hw w1))
                        go_ret
                      · exact ⟨u64r_eq (by rw [G2.out]; exact OM.out), drew_0 w⟩
                      · exact ⟨u64r_eq (by rw [G2.out]; exact OM.out), drew_0 w⟩
                      · exact ⟨u64r_eq (by rw [G2.out]; exact OM.out), drew_0 w⟩
                      · exact ⟨u64r_eq (by rw [G2.out]; exact HVI.out.symm), nn, rfl⟩
                      · exact ⟨u64r_eq (by rw [G2.out]; exact HVI.out.symm), nn, rfl⟩
                      · exact ⟨u64r_eq (by rw [G2.out]; exact HVI.out.symm), nn, rfl⟩
      · have hi0 : (i0 : Int) + 1 ≤ N := by omega
        have cj : w.cell? ⟨b, i0, none⟩ = some (.bool (A.testBit i0)) := row i0 (by omega)
        have t1 : (0 : Int) ≤ (i0 : Int) := by omega
        by_cases hge : La ≤ e + (i0 : Int)
        · obtain ⟨t, ht⟩ : ∃ t : Nat, e + (i0 : Int) - La = (t : Int) := ⟨(e + (i0 : Int) - La).toNat, by omega⟩
          have t64 : t < 64 := by omega
          have qw := wrap_pow t t64
          cases tb : A.testBit i0
          · have Z := q_no (A := A) (i := i0) (k := La - e) (t := t) (by omega) t64 HQ.out tb
            rw [tb] at cj
            clear tb row
            go_wp2
            go_round
            case rel => exact ⟨i0, by omega, rfl, by rcases i0 with _ | i1; exact Or.inl ⟨rfl, by go_num⟩; exact Or.inr ⟨i1, rfl, by go_num⟩⟩
            case measure => simp [intOf]
          · have Z := q_yes (A := A) (i := i0) (k := La - e) (t := t) (by omega) t64 HQ.out tb
            rw [tb] at cj
            clear tb row
            go_wp2
            go_round
            case rel => exact ⟨i0, by omega, rfl, by rcases i0 with _ | i1; exact Or.inl ⟨rfl, by go_num⟩; exact Or.inr ⟨i1, rfl, by go_num⟩⟩
            case measure => simp [intOf]
        · have Z : Hid _ := qTo_no A (La - e) i0 (by omega)
          have hge' : e + (i0 : Int) < La := by omega
          cases tb : A.testBit i0
          · rw [tb] at cj
            clear tb row
            go_wp2
            go_round
            case rel => exact ⟨i0, by omega, by rw [Z.out], by rcases i0 with _ | i1; exact Or.inl ⟨rfl, by go_num⟩; exact Or.inr ⟨i1, rfl, by go_num⟩⟩
            case measure => simp [intOf]
          · rw [tb] at cj
            clear tb row
            go_wp2
            go_round
            case rel => exact ⟨i0, by omega, by rw [Z.out], by rcases i0 with _ | i1; exact Or.inl ⟨rfl, by go_num⟩; exact Or.inr ⟨i1, rfl, by go_num⟩⟩
            case measure => simp [intOf]
end Go.Proofs.YtlmcopeongkppaaDoor

namespace Go.Proofs.YtlmcopeongkppaaDoor
open Go.RowKit
set_option linter.unusedVariables false
set_option linter.unusedSimpArgs false
/-- v is a row of n bits, the lowest first: those of A. -/
def BitV (w : World) (v : Value) (n A : Nat) : Prop := A < 2 ^ n ∧ ((v = .slice none 0 0 ∧ n = 0) ∨ ∃ b cap, v = .slice (some ⟨b, 0, none⟩) n cap ∧ b < w.heap.size ∧ RowB w b n (fun i => A.testBit i))
theorem length_nil (w : World) : Calls Tryd.prog 26 #[.slice none 0 0] w fun e w' => e = .returned (.int .i64 0) ∧ w' = w := by
  go_enter Tryd.func26, Tryd.ntmps26
  go_wp2
  go_loopw [3] (fun i wr => i = .int .i64 0 ∧ wr = w) (fun i _ => 0)
  case atStart => exact ⟨rfl, rfl⟩
  case round =>
    obtain ⟨rfl, rfl⟩ := hrel
    go_wp2
    go_ret
    exact ⟨rfl, rfl⟩
set_option maxRecDepth 20000 in
theorem rounded_zero (s : Bool) (m : Int) (below : Bool) (v : Value) (e : Int) (w : World) (hl : Calls Tryd.prog 26 #[v] w fun e w' => e = .returned (.int .i64 0) ∧ w' = w) :
    Calls Tryd.prog 17 #[.int .i64 (fb s), .int .i64 m, .bool below, v, .int .i64 e] w fun r w' => r = .returned (.int .u64 (sgnd s below 0)) ∧ ∃ k, w' = w.drewN k := by
  have hg := rsign_any s below
  have e00 : (if below then fS s else 0) = sgnd s below 0 := by unfold sgnd; cases below <;> simp
  have e0 : Hid _ := e00
  clear e00
  generalize sgnd s below 0 = V at *
  generalize (if below then fS s else 0) = S at *
  cases s
  · have hs := rsize_d
    have hg' : ∀ w, Calls Tryd.prog 27 #[.int .i64 0, .bool below] w fun e w' => e = .returned (.int .u64 S) ∧ w' = w := hg
    clear hg
    show Calls Tryd.prog 17 #[.int .i64 0, .int .i64 m, .bool below, v, .int .i64 e] w _
    go_enter Tryd.func17, Tryd.ntmps17
    go_wp2_with (first
      | (go_at_call 25; refine (hs _).mono ?_; rintro r w1 ⟨rfl, hw⟩; rw [hw]; clear hw w1)
      | (go_at_call 26; refine hl.mono ?_; rintro r w1 ⟨rfl, hw⟩; rw [hw]; clear hw w1)
      | (go_at_call 27; refine (hg' _).mono ?_; rintro r w1 ⟨rfl, hw⟩; rw [hw]; clear hw w1))
    go_ret
    exact ⟨u64r_eq e0.out, drew_0 w⟩
  · have hs := rsize_s
    have hg' : ∀ w, Calls Tryd.prog 27 #[.int .i64 1, .bool below] w fun e w' => e = .returned (.int .u64 S) ∧ w' = w := hg
    clear hg
    show Calls Tryd.prog 17 #[.int .i64 1, .int .i64 m, .bool below, v, .int .i64 e] w _
    go_enter Tryd.func17, Tryd.ntmps17
    go_wp2_with (first
      | (go_at_call 25; refine (hs _).mono ?_; rintro r w1 ⟨rfl, hw⟩; rw [hw]; clear hw w1)
      | (go_at_call 26; refine hl.mono ?_; rintro r w1 ⟨rfl, hw⟩; rw [hw]; clear hw w1)
      | (go_at_call 27; refine (hg' _).mono ?_; rintro r w1 ⟨rfl, hw⟩; rw [hw]; clear hw w1))
    go_ret
    exact ⟨u64r_eq e0.out, drew_0 w⟩
/-- Bits times 2 to the e, rounded. -/
theorem rounded_any (s : Bool) (m : Int) (below : Bool) (v : Value) (n A : Nat) (hn : n ≤ 100000) (e : Int) (he1 : -100000 ≤ e) (he2 : e ≤ 100000) (w : World) (h : BitV w v n A) :
    Calls Tryd.prog 17 #[.int .i64 (fb s), .int .i64 m, .bool below, v, .int .i64 e] w fun r w' => r = .returned (.int .u64 (rnd s m below A e)) ∧ ∃ k, w' = w.drewN k := by
  obtain ⟨hA, h⟩ := h
  by_cases A0 : A = 0
  · subst A0
    rw [rnd_zero]
    rcases h with ⟨rfl, rfl⟩ | ⟨b, cap, rfl, hb, row⟩
    · exact rounded_zero s m below _ e w (length_nil w)
    · refine rounded_zero s m below _ e w ?_
      have := length_any b n cap 0 hA (by omega) w row
      rw [blen_zero] at this
      exact this
  · rcases h with ⟨rfl, rfl⟩ | ⟨b, cap, rfl, hb, row⟩
    · exfalso
      rw [Nat.pow_zero] at hA
      omega
    · cases s
      · exact rounded_d m below b n cap A hA hn e he1 he2 w row A0
      · exact rounded_s m below b n cap A hA hn e he1 he2 w row A0
/-! ### Rows of bits that the call itself makes -/
/-- The cells of n bits of A. -/
def Bl (n A : Nat) : List Value := (List.range n).map (fun i => .bool (A.testBit i))
theorem Bl_len (n A : Nat) : (Bl n A).length = n := by simp [Bl]
theorem Bl_get (n A i : Nat) (h : i < n) : (Bl n A)[i]? = some (.bool (A.testBit i)) := by simp [Bl, h]
theorem Bl_zero (A : Nat) : Bl 0 A = [] := rfl
theorem Bl_snoc (n A : Nat) : Bl n A ++ [.bool (A.testBit n)] = Bl (n + 1) A := by simp [Bl, List.range_succ]
theorem Bl_cons (n A : Nat) (b : Bool) : Value.bool b :: Bl n A = Bl (n + 1) (2 * A + b.toNat) := by
  apply List.ext_getElem?
  intro i
  rcases i with _ | i
  · simp [Bl, Nat.testBit_zero]
    cases b <;> simp <;> omega
  · by_cases c : i < n
    · have e : (2 * A + b.toNat).testBit (i + 1) = A.testBit i := by
        rw [Nat.testBit_succ]
        congr 1
        have := Bool.toNat_le b
        omega
      rw [Bl_get _ _ _ (by omega : i + 1 < n + 1), e, List.getElem?_cons_succ, Bl_get _ _ _ c]
    · rw [List.getElem?_eq_none (by rw [List.length_cons, Bl_len]; omega), List.getElem?_eq_none (by rw [Bl_len]; omega)]
theorem Bl_app (n k A B : Nat) (h : B < 2 ^ n) : Bl n B ++ Bl k A = Bl (n + k) (A * 2 ^ n + B) := by
  apply List.ext_getElem?
  intro i
  by_cases c : i < n
  · rw [List.getElem?_append_left (by rw [Bl_len]; exact c), Bl_get _ _ _ c, Bl_get _ _ _ (by omega), Nat.mul_comm, Nat.testBit_two_pow_mul_add A h i, if_pos c]
  · rw [List.getElem?_append_right (by rw [Bl_len]; omega), Bl_len]
    by_cases d : i < n + k
    · rw [Bl_get _ _ _ (by omega), Bl_get _ _ _ d, Nat.mul_comm, Nat.testBit_two_pow_mul_add A h i, if_neg c]
    · rw [List.getElem?_eq_none (by rw [Bl_len]; omega), List.getElem?_eq_none (by rw [Bl_len]; omega)]
theorem Bl_one (n A : Nat) : ∀ u ∈ Bl n A, u.oneCell' = true := by
  intro u hu
  simp [Bl] at hu
  obtain ⟨i, _, rfl⟩ := hu
  rfl
theorem Tryd.infoB : (Tryd.prog.info? 4).map (fun i => (i.zero, i.size, i.bytes)) = some (some (.bool false), 1, 1) := by kernel_rfl
/-- What the call owns is a row of bits. -/
theorem own_bits {w : World} {base n A : Nat} {v : Value} (h : w.ownsRow base 4 1 v n (Bl n A)) (hA : A < 2 ^ n) : BitV w v n A := by
  refine ⟨hA, ?_⟩
  obtain ⟨h1, h2⟩ := id h
  rcases h2 with ⟨rfl, rfl⟩ | ⟨g, cap, cur, rfl, _, hg, _⟩
  · exact Or.inl ⟨rfl, rfl⟩
  · refine Or.inr ⟨g, cap, rfl, ?_, ?_⟩
    · exact lt_of_block hg
    · intro i hi
      rw [h.cellAt i (by omega), Bl_get _ _ _ hi]
theorem BitV.below {W w1 : World} {v : Value} {n A : Nat} (h : BitV W v n A) (hb : Below W.heap.size W w1) : BitV w1 v n A := by
  obtain ⟨a, h⟩ := h
  refine ⟨a, ?_⟩
  rcases h with h | ⟨b, cap, e, hs, row⟩
  · exact Or.inl h
  · exact Or.inr ⟨b, cap, e, Nat.lt_of_lt_of_le hs hb.size, row.below hb hs⟩
theorem own_block {w : World} {base n size : Nat} {e : TypeId} {v : Value} {xs : List Value} (h : w.ownsRow base e size v n xs) : ∀ k, v.ownBlock = some k → base ≤ k := by
  obtain ⟨_, h⟩ := h
  rcases h with ⟨rfl, _⟩ | ⟨g, cap, cur, rfl, hg, _⟩
  · intro k hk; simp [Value.ownBlock] at hk
  · intro k hk; simp [Value.ownBlock] at hk; omega
end Go.Proofs.YtlmcopeongkppaaDoor

namespace Go.Proofs.YtlmcopeongkppaaDoor
open Go.RowKit
set_option linter.unusedVariables false
set_option linter.unusedSimpArgs false
set_option maxHeartbeats 1600000 in
/-- A number's bits, the lowest first. -/
theorem rbits3_any (X : Nat) (hX : X < 18446744073709551616) (w : World) :
    Calls Tryd.prog 16 #[.int .u64 (X : Int)] w fun e w' => ∃ v, e = .returned v ∧ w'.ownsRow w.heap.size 4 1 v (blen X) (Bl (blen X) X) ∧ Below w.heap.size w w' := by
  obtain ⟨i0, hi, hz0, hz1, hz2⟩ := info_parts Tryd.infoB
  go_enter Tryd.func16, Tryd.ntmps16
  go_wp2
  go_loopw [0, 3] (fun x v wr => ∃ k : Nat, k ≤ 64 ∧ x = .int .u64 ((X / 2 ^ k : Nat) : Int) ∧ wr.ownsRow w.heap.size 4 1 v k (Bl k X) ∧ (k = 0 ∨ X / 2 ^ (k - 1) ≠ 0) ∧ Below w.heap.size w wr) (fun x _ _ => (intOf x).toNat)
  case atStart => exact ⟨0, by omega, by simp, World.ownsRow_nil _ _ _ _, Or.inl rfl, Below.refl _ _⟩
  case round =>
    obtain ⟨k, hk, rfl, hown, hpos, hb⟩ := hrel
    have hlt : X / 2 ^ k < 18446744073709551616 := Nat.lt_of_le_of_lt (Nat.div_le_self _ _) hX
    by_cases z : X / 2 ^ k = 0
    · have e : blen X = k := by
        rcases hpos with rfl | hp
        · rw [Nat.pow_zero, Nat.div_one] at z
          subst z
          exact blen_zero
        · have k1 : 1 ≤ k := by
            rcases Nat.eq_zero_or_pos k with rfl | h
            · exact absurd z hp
            · exact h
          refine blen_uniq k1 ?_ ?_
          · by_cases c : 2 ^ (k - 1) ≤ X
            · exact c
            · exact absurd (Nat.div_eq_of_lt (by omega)) hp
          · exact Nat.lt_of_div_eq_zero (Nat.two_pow_pos k) z
      have E : Hid _ := e
      rw [z]
      clear e z hpos hlt
      go_wp2
      go_ret
      exact ⟨_, rfl, by rw [E.out]; exact hown, hb⟩
    · have kl : k < 64 := by
        by_cases c : k < 64
        · exact c
        · exfalso
          apply z
          exact Nat.div_eq_of_lt (Nat.lt_of_lt_of_le hX (by rw [show (18446744073709551616 : Nat) = 2 ^ 64 from rfl]; exact Nat.pow_le_pow_right (by decide) (by omega)))
      have zp : (0 : Int) < ((X / 2 ^ k : Nat) : Int) := Int.natCast_pos.2 (Nat.pos_of_ne_zero z)
      have zp' : ((X / 2 ^ k : Nat) : Int) < 18446744073709551616 := Int.ofNat_lt.2 hlt
      have q1 : (((X / 2 ^ k : Nat) : Int) % 2 == 1) = X.testBit k := by
        rw [Nat.testBit_eq_decide_div_mod_eq, Bool.eq_iff_iff, beq_iff_eq, decide_eq_true_iff]
        generalize X / 2 ^ k = d
        omega
      have q2 : Hid (((X / 2 ^ k : Nat) : Int) / 2 = ((X / 2 ^ (k + 1) : Nat) : Int)) := by
        rw [Nat.pow_succ, ← Nat.div_div_eq_div_mul]; rfl
      have Z : Hid _ := z
      clear z hlt
      generalize hD : ((X / 2 ^ k : Nat) : Int) = D at *
      have HD : Hid _ := hD
      clear hD
      go_wp2_with (first
        | (at_builtin; refine wpList_append_own _ rfl _ _ 39 rfl w.heap.size 4 i0 (.bool false) 1 1 Tryd.underlying39 hi hz0 hz1 hz2 rfl (by decide) _ _ _ rfl (hown.alloc _) ⟨wr.heap.size, 0, none⟩ 1 1 [.bool (X.testBit k)] rfl rfl ?c1 ?c2 ?c3 ?c4 ?c5 ?_)
        | go_in)
      case c1 =>
        intro j u hj
        match j, hj with
        | 0, hj => simp at hj; subst hj; simp [Addr.add]
      case c2 => intro u hu; simp at hu; subst hu; rfl
      case c3 => unfold maxLen; omega
      case c4 => omega
      case c5 => have := hb.size; simp; omega
      · intro v' w1 hown' hgrow _
        rw [Bl_snoc] at hown'
        have hb' := (hb.alloc hb.size _).grown hgrow (by have := hb.size; simp; omega) (own_block hown)
        clear hgrow hown
        go_wp2
        go_roundw
        case rel => exact ⟨k + 1, by omega, by rw [← q2.out], hown', Or.inr (by simpa using Z.out), hb'⟩
        case measure => simp [intOf]; omega
theorem kinds3T (k : Int) : ((k == 0 || k == 5) = true ∧ (k == 4) = false ∧ k = 0) ∨ ((k == 0 || k == 5) = true ∧ (k == 4) = false ∧ k = 5) ∨ ((k == 0 || k == 5) = false ∧ (k == 4) = true ∧ k = 4) ∨ ((k == 0 || k == 5) = false ∧ (k == 4) = false ∧ (k == 0) = false ∧ (k == 5) = false ∧ k ≠ 4) := by
  by_cases c1 : k = 0
  · subst c1; decide
  · by_cases c2 : k = 5
    · subst c2; decide
    · by_cases c3 : k = 4
      · subst c3; decide
      · simp [c1, c2, c3]
theorem wide_notT {s : Bool} {a : Int} (h : (cls s a == 0 || cls s a == 5) = false) : wideB s a = false := by
  cases c : wideB s a
  · rfl
  · exfalso
    have : cls s a = 0 := by unfold cls; rw [c]; rfl
    rw [this] at h
    exact absurd h (by decide)
end Go.Proofs.YtlmcopeongkppaaDoor

namespace Go.Proofs.YtlmcopeongkppaaDoor
open Go.RowKit
set_option linter.unusedVariables false

/-- What is carried into place k. -/
def cB (A B c k : Nat) : Bool := decide (2 ^ k ≤ A % 2 ^ k + B % 2 ^ k + c)
theorem cB_zero (A B c : Nat) : cB A B c 0 = decide (1 ≤ c) := by unfold cB; rw [Nat.pow_zero, Nat.mod_one, Nat.mod_one]; simp
theorem bitN (A k : Nat) : A.testBit k = decide (A / 2 ^ k % 2 = 1) := Nat.testBit_eq_decide_div_mod_eq
theorem sum_parts (A B c k : Nat) (hc : c ≤ 1) : (A + B + c) / 2 ^ k = A / 2 ^ k + B / 2 ^ k + (if cB A B c k then 1 else 0) := by
  unfold cB
  have p := pow_pos' k
  have a := Nat.div_add_mod A (2 ^ k)
  have b := Nat.div_add_mod B (2 ^ k)
  have la := Nat.mod_lt A p
  have lb := Nat.mod_lt B p
  generalize A % 2 ^ k = x at *
  generalize B % 2 ^ k = y at *
  generalize A / 2 ^ k = q at *
  generalize B / 2 ^ k = r at *
  have e : A + B + c = (x + y + c) + 2 ^ k * (q + r) := by rw [Nat.mul_add]; omega
  rw [e, Nat.add_mul_div_left _ _ p]
  by_cases h : 2 ^ k ≤ x + y + c
  · have : (x + y + c) / 2 ^ k = 1 := by
      rw [Nat.div_eq_iff p]; omega
    simp [h]; omega
  · rw [Nat.div_eq_of_lt (by omega)]
    simp [h]
theorem sum_bit (A B c k : Nat) (hc : c ≤ 1) : (A + B + c).testBit k = ((A.testBit k ^^ B.testBit k) ^^ cB A B c k) := by
  rw [bitN, bitN, bitN, sum_parts A B c k hc]
  generalize A / 2 ^ k = q
  generalize B / 2 ^ k = r
  rcases Nat.mod_two_eq_zero_or_one q with h1 | h1 <;> rcases Nat.mod_two_eq_zero_or_one r with h2 | h2 <;> cases cB A B c k <;> simp [h1, h2] <;> omega
theorem cB_succ (A B c k : Nat) (hc : c ≤ 1) : cB A B c (k + 1) = (A.testBit k && B.testBit k || (A.testBit k || B.testBit k) && cB A B c k) := by
  rw [bitN, bitN]
  unfold cB
  rw [Nat.mod_pow_succ, Nat.mod_pow_succ, Nat.pow_succ]
  have p := pow_pos' k
  have la := Nat.mod_lt A p
  have lb := Nat.mod_lt B p
  generalize A % 2 ^ k = x at *
  generalize B % 2 ^ k = y at *
  generalize A / 2 ^ k = q at *
  generalize B / 2 ^ k = r at *
  generalize 2 ^ k = P at *
  rcases Nat.mod_two_eq_zero_or_one q with h1 | h1 <;> rcases Nat.mod_two_eq_zero_or_one r with h2 | h2 <;> simp [h1, h2] <;> omega

/-- The row behind k rounds. -/
def sumTo (S k : Nat) (j : Nat) : Bool := decide (j < k) && S.testBit j
theorem sumTo_zero (S : Nat) : sumTo S 0 = fun _ => false := by funext j; simp [sumTo]
theorem sumTo_succ (S k : Nat) (v : Bool) (hv : v = S.testBit k) : (fun i => if i = k then v else sumTo S k i) = sumTo S (k + 1) := by
  funext j
  unfold sumTo
  by_cases e : j = k
  · subst e; simp [hv]
  · have : (decide (j < k)) = decide (j < k + 1) := by rw [decide_eq_decide]; omega
    simp [e, this]
theorem sumTo_full (S k j : Nat) (h : j < k) : sumTo S k j = S.testBit j := by simp [sumTo, h]

end Go.Proofs.YtlmcopeongkppaaDoor

namespace Go.Proofs.YtlmcopeongkppaaDoor
open Go.RowKit
set_option linter.unusedVariables false

/-- What the memory holds while two numbers are reckoned: both, and the place of the answer. -/
structure TwoMem (n : Nat) (ah al bh bl : Int) (w : World) : Prop where
  s0 : n < w.heap.size
  s1 : n + 1 < w.heap.size
  s2 : n + 1 + 1 < w.heap.size
  c0 : w.cell? ⟨n, 0, none⟩ = some (.int .u64 ah)
  c1 : w.cell? ⟨n, 1, none⟩ = some (.int .u64 al)
  d0 : w.cell? ⟨n + 1, 0, none⟩ = some (.int .u64 bh)
  d1 : w.cell? ⟨n + 1, 1, none⟩ = some (.int .u64 bl)
  e0 : ∃ x, w.cell? ⟨n + 1 + 1, 0, none⟩ = some (.int .u64 x)
  e1 : ∃ x, w.cell? ⟨n + 1 + 1, 1, none⟩ = some (.int .u64 x)
  f0 : w.frozen? ⟨n + 1 + 1, 0, none⟩ = false
  f1 : w.frozen? ⟨n + 1 + 1, 1, none⟩ = false
theorem TwoMem.below {n : Nat} {ah al bh bl : Int} {W w1 : World} (h : TwoMem n ah al bh bl W) (hb : Below W.heap.size W w1) : TwoMem n ah al bh bl w1 := by
  obtain ⟨hc, hf⟩ := bcell hb
  have hs := hb.size
  refine ⟨by have := h.s0; omega, by have := h.s1; omega, by have := h.s2; omega, ?_, ?_, ?_, ?_, ?_, ?_, ?_, ?_⟩
  · rw [hc _ _ h.s0]; exact h.c0
  · rw [hc _ _ h.s0]; exact h.c1
  · rw [hc _ _ h.s1]; exact h.d0
  · rw [hc _ _ h.s1]; exact h.d1
  · rw [hc _ _ h.s2]; exact h.e0
  · rw [hc _ _ h.s2]; exact h.e1
  · rw [hf _ _ h.s2]; exact h.f0
  · rw [hf _ _ h.s2]; exact h.f1

theorem TwoMem.drew {n : Nat} {ah al bh bl : Int} {W : World} (h : TwoMem n ah al bh bl W) : TwoMem n ah al bh bl W.drew :=
  ⟨h.s0, h.s1, h.s2, h.c0, h.c1, h.d0, h.d1, h.e0, h.e1, h.f0, h.f1⟩

/-- The carry out of 128 places is what goes round. -/
theorem carry_128 (A B c : Nat) (ha : A < 2 ^ 128) (hb : B < 2 ^ 128) : cB A B c 128 = decide (2 ^ 128 ≤ A + B + c) := by
  unfold cB; rw [Nat.mod_eq_of_lt ha, Nat.mod_eq_of_lt hb]
theorem from_mod (f : Nat → Bool) (S x : Nat) (h : IsFrom f 128 x) (hf : ∀ j, j < 128 → f j = S.testBit j) : x = S % 2 ^ 128 := by
  apply Nat.eq_of_testBit_eq
  intro j
  rw [h j, Nat.testBit_mod_two_pow]
  by_cases c : j < 128
  · simp [c, hf j c]
  · simp [c]

/-! ### Differences -/
def flipTo (B k : Nat) (j : Nat) : Bool := if j < k then !B.testBit j else B.testBit j
theorem flipTo_succ (B k : Nat) : (fun i => if i = k then !B.testBit k else flipTo B k i) = flipTo B (k + 1) := by
  funext j
  unfold flipTo
  by_cases e : j = k
  · subst e; simp
  · by_cases c : j < k
    · have : j < k + 1 := by omega
      simp [e, c, this]
    · have : ¬ j < k + 1 := by omega
      simp [e, c, this]
theorem flip_bit (B j : Nat) (hB : B < 2 ^ 128) (hj : j < 128) : flipTo B 128 j = (2 ^ 128 - (B + 1)).testBit j := by
  unfold flipTo
  rw [Nat.testBit_two_pow_sub_succ hB]
  simp [hj]

end Go.Proofs.YtlmcopeongkppaaDoor

namespace Go.Proofs.YtlmcopeongkppaaDoor
open Go.RowKit
set_option linter.unusedVariables false

/-- What the memory holds while one number is reckoned: it, and the place of the answer. -/
structure OneMem (n : Nat) (ah al : Int) (w : World) : Prop where
  s0 : n < w.heap.size
  s1 : n + 1 < w.heap.size
  c0 : w.cell? ⟨n, 0, none⟩ = some (.int .u64 ah)
  c1 : w.cell? ⟨n, 1, none⟩ = some (.int .u64 al)
  e0 : ∃ x, w.cell? ⟨n + 1, 0, none⟩ = some (.int .u64 x)
  e1 : ∃ x, w.cell? ⟨n + 1, 1, none⟩ = some (.int .u64 x)
  f0 : w.frozen? ⟨n + 1, 0, none⟩ = false
  f1 : w.frozen? ⟨n + 1, 1, none⟩ = false
theorem OneMem.below {n : Nat} {ah al : Int} {W w1 : World} (h : OneMem n ah al W) (hb : Below W.heap.size W w1) : OneMem n ah al w1 := by
  obtain ⟨hc, hf⟩ := bcell hb
  have hs := hb.size
  refine ⟨by have := h.s0; omega, by have := h.s1; omega, ?_, ?_, ?_, ?_, ?_, ?_⟩
  · rw [hc _ _ h.s0]; exact h.c0
  · rw [hc _ _ h.s0]; exact h.c1
  · rw [hc _ _ h.s1]; exact h.e0
  · rw [hc _ _ h.s1]; exact h.e1
  · rw [hf _ _ h.s1]; exact h.f0
  · rw [hf _ _ h.s1]; exact h.f1
theorem OneMem.far {n : Nat} {ah al : Int} {W : World} (h : OneMem n ah al W) (a : Addr) (v : Value) (h0 : a.block ≠ n) (h1 : a.block ≠ n + 1) : OneMem n ah al (W.setCell a v) := by
  obtain ⟨s0, s1, c0, c1, e0, e1, f0, f1⟩ := h
  refine ⟨by simpa using s0, by simpa using s1, ?_, ?_, ?_, ?_, by simpa [go_sem] using f0, by simpa [go_sem] using f1⟩
  · rw [World.cell?_setCell_far _ _ _ _ h0]; exact c0
  · rw [World.cell?_setCell_far _ _ _ _ h0]; exact c1
  · rw [World.cell?_setCell_far _ _ _ _ h1]; exact e0
  · rw [World.cell?_setCell_far _ _ _ _ h1]; exact e1
theorem one_start (w : World) (ah al : Int) : OneMem w.heap.size ah al ((w.alloc (.cells #[.int .u64 ah, .int .u64 al] 50)).alloc (.cells #[.int .u64 0, .int .u64 0] 50)) := by
  constructor <;> first | (simp [go_sem]; done) | (simp; omega) | (exact ⟨0, by simp [go_sem]⟩)

/-! ### Up -/
def upTo (A M k : Nat) (j : Nat) : Bool := decide (k ≤ j) && (decide (M ≤ j) && A.testBit (j - M))
theorem upTo_start (A M j : Nat) (h : j < 128) : false = upTo A M 128 j := by
  unfold upTo
  have : ¬ 128 ≤ j := by omega
  simp [this]
theorem upTo_step (A M k : Nat) (hk : 1 ≤ k) (hM : M ≤ k - 1) : (fun i => if i = k - 1 then A.testBit (k - 1 - M) else upTo A M k i) = upTo A M (k - 1) := by
  funext j
  unfold upTo
  by_cases e : j = k - 1
  · subst e
    simp [hM]
  · simp only [if_neg e]
    have : (decide (k ≤ j)) = decide (k - 1 ≤ j) := by rw [decide_eq_decide]; omega
    rw [this]
theorem upTo_end (A M k j : Nat) (hk : k = 0 ∨ k - 1 < M) : upTo A M k j = (A * 2 ^ M).testBit j := by
  unfold upTo
  rw [← Nat.shiftLeft_eq, Nat.testBit_shiftLeft]
  by_cases c : M ≤ j
  · have : k ≤ j := by omega
    simp [c, this]
  · simp [c]
theorem num_mul_pow (h l h' l' : Int) (M : Nat) (a : Word h) (b : Word l) (a' : Word h') (b' : Word l') (e : N h' l' = N h l * 2 ^ M % 2 ^ 128) : num h' l' = num h l * 2 ^ M % 340282366920938463463374607431768211456 := by
  rw [← N_cast a b, ← N_cast a' b', e]
  have p : (2 : Nat) ^ 128 = 340282366920938463463374607431768211456 := by decide
  rw [p]
  simp

/-! ### Down -/
def dnTo (A M k : Nat) (j : Nat) : Bool := decide (j + M < k) && A.testBit (M + j)
theorem dnTo_low (A M k : Nat) (h : k < M) : dnTo A M k = dnTo A M (k + 1) := by
  funext j
  unfold dnTo
  have a : ¬ j + M < k := by omega
  have b : ¬ j + M < k + 1 := by omega
  simp [a, b]
theorem dnTo_step (A M k : Nat) (h : M ≤ k) : (fun i => if i = k - M then A.testBit k else dnTo A M k i) = dnTo A M (k + 1) := by
  funext j
  unfold dnTo
  by_cases e : j = k - M
  · subst e
    have a : k - M + M < k + 1 := by omega
    have b : M + (k - M) = k := by omega
    simp [a, b]
  · simp only [if_neg e]
    have : (decide (j + M < k)) = decide (j + M < k + 1) := by rw [decide_eq_decide]; omega
    rw [this]
theorem dnTo_end (A M j : Nat) (hA : A < 2 ^ 128) : dnTo A M 128 j = (A / 2 ^ M).testBit j := by
  unfold dnTo
  rw [← Nat.shiftRight_eq_div_pow, Nat.testBit_shiftRight]
  by_cases c : j + M < 128
  · simp [c]
  · have : A.testBit (M + j) = false := Nat.testBit_lt_two_pow (Nat.lt_of_lt_of_le hA (Nat.pow_le_pow_right (by decide) (by omega)))
    simp [c, this]
/-- Is one of the k lowest bits, and of the M lowest ones, set? -/
def lostTo (A M k : Nat) : Bool := decide (¬ A % 2 ^ (min k M) = 0)
theorem lostTo_zero (A M : Nat) : lostTo A M 0 = false := by
  unfold lostTo
  rw [Nat.zero_min, Nat.pow_zero, Nat.mod_one]; simp
theorem lostTo_high (A M k : Nat) (h : M ≤ k) : lostTo A M (k + 1) = lostTo A M k := by
  unfold lostTo
  rw [Nat.min_eq_right h, Nat.min_eq_right (by omega)]
theorem lostTo_low (A M k : Nat) (h : k < M) : lostTo A M (k + 1) = (lostTo A M k || A.testBit k) := by
  unfold lostTo
  rw [Nat.min_eq_left (by omega), Nat.min_eq_left (by omega), bitN, Nat.mod_pow_succ]
  have p := pow_pos' k
  generalize 2 ^ k = P at *
  generalize A % P = x
  generalize A / P = q
  rcases Nat.mod_two_eq_zero_or_one q with h1 | h1 <;> simp [h1]
  omega
theorem lostTo_end (A M : Nat) (hA : A < 2 ^ 128) : lostTo A M 128 = decide (¬ A % 2 ^ M = 0) := by
  unfold lostTo
  by_cases c : M ≤ 128
  · rw [Nat.min_eq_right c]
  · rw [Nat.min_eq_left (by omega), Nat.mod_eq_of_lt hA, Nat.mod_eq_of_lt (Nat.lt_of_lt_of_le hA (Nat.pow_le_pow_right (by decide) (by omega)))]
theorem from_exact (f : Nat → Bool) (S x : Nat) (h : IsFrom f 128 x) (hf : ∀ j, j < 128 → f j = S.testBit j) (hS : S < 2 ^ 128) : x = S := by
  rw [from_mod f S x h hf, Nat.mod_eq_of_lt hS]

end Go.Proofs.YtlmcopeongkppaaDoor

namespace Go.Proofs.YtlmcopeongkppaaDoor
open Go.RowKit
set_option linter.unusedVariables false

/-- What the memory holds while a sum is gathered: the place of the answer, and the sum. -/
structure SumMem (n : Nat) (sh sl : Int) (w : World) : Prop where
  s0 : n < w.heap.size
  s1 : n + 1 < w.heap.size
  d0 : ∃ x, w.cell? ⟨n, 0, none⟩ = some (.int .u64 x)
  d1 : ∃ x, w.cell? ⟨n, 1, none⟩ = some (.int .u64 x)
  e0 : w.cell? ⟨n + 1, 0, none⟩ = some (.int .u64 sh)
  e1 : w.cell? ⟨n + 1, 1, none⟩ = some (.int .u64 sl)
  f0 : w.frozen? ⟨n, 0, none⟩ = false
  f1 : w.frozen? ⟨n, 1, none⟩ = false
  f2 : w.frozen? ⟨n + 1, 0, none⟩ = false
  f3 : w.frozen? ⟨n + 1, 1, none⟩ = false
theorem SumMem.below {n : Nat} {sh sl : Int} {W w1 : World} (h : SumMem n sh sl W) (hb : Below W.heap.size W w1) : SumMem n sh sl w1 := by
  obtain ⟨hc, hf⟩ := bcell hb
  have hs := hb.size
  refine ⟨by have := h.s0; omega, by have := h.s1; omega, ?_, ?_, ?_, ?_, ?_, ?_, ?_, ?_⟩
  · rw [hc _ _ h.s0]; exact h.d0
  · rw [hc _ _ h.s0]; exact h.d1
  · rw [hc _ _ h.s1]; exact h.e0
  · rw [hc _ _ h.s1]; exact h.e1
  · rw [hf _ _ h.s0]; exact h.f0
  · rw [hf _ _ h.s0]; exact h.f1
  · rw [hf _ _ h.s1]; exact h.f2
  · rw [hf _ _ h.s1]; exact h.f3
theorem SumMem.set {n : Nat} {sh sl : Int} {W : World} (h : SumMem n sh sl W) (x y : Int) : SumMem n x y ((W.setCell ⟨n + 1, 0, none⟩ (.int .u64 x)).setCell ⟨n + 1, 1, none⟩ (.int .u64 y)) := by
  obtain ⟨s0, s1, ⟨x0, d0⟩, ⟨x1, d1⟩, e0, e1, f0, f1, f2, f3⟩ := h
  refine ⟨by simpa using s0, by simpa using s1, ⟨x0, ?_⟩, ⟨x1, ?_⟩, ?_, ?_, ?_, ?_, ?_, ?_⟩ <;> simp [go_sem, *]
theorem SumMem.drew {n : Nat} {sh sl : Int} {W : World} (h : SumMem n sh sl W) : SumMem n sh sl W.drew := ⟨h.s0, h.s1, h.d0, h.d1, h.e0, h.e1, h.f0, h.f1, h.f2, h.f3⟩
theorem sum_start (w : World) : SumMem w.heap.size 0 0 ((w.alloc (.cells #[.int .u64 0, .int .u64 0] 50)).alloc (.cells #[.int .u64 0, .int .u64 0] 50)) := by
  constructor <;> first | (simp [go_sem]; done) | (simp; omega) | (exact ⟨0, by simp [go_sem]⟩)

/-- The sum behind k places. -/
theorem mul_step0 (a b k : Nat) (h : b.testBit k = false) : a * (b % 2 ^ (k + 1)) = a * (b % 2 ^ k) := by
  rw [bitN, decide_eq_false_iff_not] at h
  rw [Nat.mod_pow_succ]
  have : b / 2 ^ k % 2 = 0 := by omega
  rw [this]; simp
theorem mul_step1 (a b k : Nat) (h : b.testBit k = true) : a * (b % 2 ^ (k + 1)) = a * (b % 2 ^ k) + a * 2 ^ k := by
  rw [bitN, decide_eq_true_iff] at h
  rw [Nat.mod_pow_succ, h, Nat.mul_one, Nat.mul_add]
theorem mul_lt (a b k : Nat) (ha : a < 18446744073709551616) (hb : b < 18446744073709551616) : a * (b % 2 ^ k) < 340282366920938463463374607431768211456 := by
  have l := Nat.mod_le b (2 ^ k)
  have : a * (b % 2 ^ k) ≤ 18446744073709551615 * 18446744073709551615 := Nat.mul_le_mul (by omega) (by omega)
  omega
/-- One more place is added. -/
theorem mul_add_step (a b k : Nat) (sh sl ph pl rh rl : Int) (ha : a < 18446744073709551616) (hb : b < 18446744073709551616) (hk : k < 64) (h : b.testBit k = true)
    (S : num sh sl = ((a * (b % 2 ^ k) : Nat) : Int)) (P : num ph pl = num 0 a * 2 ^ k % 340282366920938463463374607431768211456) (R : num rh rl = (num sh sl + num ph pl) % 340282366920938463463374607431768211456) :
    num rh rl = ((a * (b % 2 ^ (k + 1)) : Nat) : Int) := by
  have e := mul_step1 a b k h
  have l := mul_lt a b (k + 1) ha hb
  have p0 : num 0 (a : Int) * 2 ^ k = ((a * 2 ^ k : Nat) : Int) := by unfold num; simp
  rw [p0] at P
  rw [e] at l
  generalize a * 2 ^ k = x at *
  generalize a * (b % 2 ^ k) = y at *
  rw [e, R, S, P]
  omega

end Go.Proofs.YtlmcopeongkppaaDoor

namespace Go.Proofs.YtlmcopeongkppaaDoor
open Go.RowKit
set_option linter.unusedVariables false

/-! ### The number of bits -/
structure LenTo (A k n : Nat) : Prop where
  le : n ≤ k
  lt : A % 2 ^ k < 2 ^ n
  ge : A % 2 ^ k = 0 ∨ 2 ^ n ≤ 2 * (A % 2 ^ k)
  zero : A % 2 ^ k = 0 → n = 0
theorem lenTo_zero (A : Nat) : LenTo A 0 0 := ⟨by omega, by rw [Nat.pow_zero, Nat.mod_one]; decide, Or.inl (by rw [Nat.pow_zero, Nat.mod_one]), fun _ => rfl⟩
theorem LenTo.no {A k n : Nat} (h : LenTo A k n) (hb : A.testBit k = false) : LenTo A (k + 1) n := by
  rw [bitN, decide_eq_false_iff_not] at hb
  have e : A % 2 ^ (k + 1) = A % 2 ^ k := by
    rw [Nat.mod_pow_succ]
    have : A / 2 ^ k % 2 = 0 := by omega
    rw [this]; omega
  exact ⟨by have := h.le; omega, by rw [e]; exact h.lt, by rw [e]; exact h.ge, by rw [e]; exact h.zero⟩
theorem LenTo.yes {A k n : Nat} (h : LenTo A k n) (hb : A.testBit k = true) : LenTo A (k + 1) (k + 1) := by
  rw [bitN, decide_eq_true_iff] at hb
  have e : A % 2 ^ (k + 1) = A % 2 ^ k + 2 ^ k := by rw [Nat.mod_pow_succ, hb]; omega
  have l := Nat.mod_lt A (pow_pos' k)
  have p := pow_pos' k
  refine ⟨by omega, Nat.mod_lt _ (pow_pos' _), Or.inr ?_, fun hz => ?_⟩
  · rw [e, Nat.pow_succ]; omega
  · omega
theorem LenTo.isLen {h l : Int} {n : Nat} (a : Word h) (b : Word l) (i : LenTo (N h l) 128 n) : IsLen (n : Int) (num h l) := by
  obtain ⟨i1, i2, i3, i4⟩ := i
  rw [Nat.mod_eq_of_lt (N_lt a b)] at i2 i3 i4
  have c := N_cast a b
  have e : (2 : Int) ^ ((n : Int).toNat) = ((2 ^ n : Nat) : Int) := by simp
  unfold IsLen
  rw [e]
  generalize 2 ^ n = P at *
  refine ⟨by omega, by omega, by omega, ?_, fun hz => ?_⟩
  · rcases i3 with i3 | i3
    · left; omega
    · right; omega
  · have := i4 (by omega); omega
theorem isLen_uniq {A n m : Int} (h : IsLen n A) (h' : IsLen m A) : n = m := by
  obtain ⟨a0, a1, a2, a3, a4⟩ := h
  obtain ⟨b0, b1, b2, b3, b4⟩ := h'
  by_cases z : A = 0
  · rw [a4 z, b4 z]
  · have key : ∀ x y : Int, 0 ≤ x → 0 ≤ y → A < 2 ^ x.toNat → 2 ^ y.toNat ≤ 2 * A → y ≤ x := by
      intro x y hx hy p q
      by_cases c : y ≤ x
      · exact c
      · have l : (2 : Int) ^ (x.toNat + 1) ≤ 2 ^ y.toNat := by
          have l' : (2 : Nat) ^ (x.toNat + 1) ≤ 2 ^ y.toNat := Nat.pow_le_pow_right (by decide) (by omega)
          have e1 : (2 : Int) ^ (x.toNat + 1) = ((2 ^ (x.toNat + 1) : Nat) : Int) := by simp
          have e2 : (2 : Int) ^ y.toNat = ((2 ^ y.toNat : Nat) : Int) := by simp
          rw [e1, e2]
          omega
        rw [Int.pow_succ] at l
        omega
    have x := key n m a0 b0 a2 (b3.resolve_left z)
    have y := key m n b0 a0 b2 (a3.resolve_left z)
    omega

/-! ### Which one is greater -/
theorem cmp_bits {A B k : Nat} (e : A / 2 ^ (k + 1) = B / 2 ^ (k + 1)) (ha : A.testBit k = true) (hb : B.testBit k = false) : B < A := by
  rw [bitN, decide_eq_true_iff] at ha
  rw [bitN, decide_eq_false_iff_not] at hb
  rw [Nat.pow_succ, ← Nat.div_div_eq_div_mul, ← Nat.div_div_eq_div_mul] at e
  have l : B / 2 ^ k < A / 2 ^ k := by omega
  have := pow_pos' k
  rcases Nat.lt_or_ge B A with h | h
  · exact h
  · have := Nat.div_le_div_right (c := 2 ^ k) h
    omega
theorem cmp_same {A B k : Nat} (e : A / 2 ^ (k + 1) = B / 2 ^ (k + 1)) (h : A.testBit k = B.testBit k) : A / 2 ^ k = B / 2 ^ k := by
  rw [bitN, bitN, decide_eq_decide] at h
  rw [Nat.pow_succ, ← Nat.div_div_eq_div_mul, ← Nat.div_div_eq_div_mul] at e
  omega

end Go.Proofs.YtlmcopeongkppaaDoor

namespace Go.Proofs.YtlmcopeongkppaaDoor
open Go.RowKit
set_option linter.unusedVariables false

/-- What holds of the root while its bits from k on are settled. -/
structure RootTo (A k r : Nat) : Prop where
  mul : r % 2 ^ k = 0
  room : r + 2 ^ k ≤ 18446744073709551616
  lo : r * r ≤ A
  hi : A < (r + 2 ^ k) * (r + 2 ^ k)
theorem rootTo_start (A : Nat) (h : A < 2 ^ 128) : RootTo A 64 0 := by
  have e : (2 : Nat) ^ 128 = 2 ^ 64 * 2 ^ 64 := by decide
  exact ⟨by simp, by decide, by omega, by rw [Nat.zero_add]; omega⟩
theorem RootTo.bit {A k r : Nat} (h : RootTo A (k + 1) r) : (r ||| 2 ^ k) = r + 2 ^ k ∧ r + 2 ^ k < 18446744073709551616 ∧ r % 2 ^ k = 0 := by
  have m := h.mul
  have p := pow_pos' k
  have ro := h.room
  rw [Nat.pow_succ] at m ro
  have d : r % 2 ^ k = 0 := by
    have := Nat.mod_mul_right_mod r (2 ^ k) 2
    rw [m] at this
    simpa using this.symm
  refine ⟨?_, by omega, d⟩
  have e : r = 2 ^ (k + 1) * (r / 2 ^ (k + 1)) := by
    have := Nat.div_add_mod r (2 ^ (k + 1))
    rw [h.mul] at this; omega
  rw [e]
  exact (Nat.two_pow_add_eq_or_of_lt (by rw [Nat.pow_succ]; omega) _).symm
theorem RootTo.take {A k r : Nat} (h : RootTo A (k + 1) r) (c : (r + 2 ^ k) * (r + 2 ^ k) ≤ A) : RootTo A k (r + 2 ^ k) := by
  obtain ⟨_, _, d⟩ := h.bit
  have ro := h.room
  have hi := h.hi
  have e : r + 2 ^ (k + 1) = r + 2 ^ k + 2 ^ k := by rw [Nat.pow_succ]; omega
  rw [e] at ro hi
  exact ⟨by rw [Nat.add_mod_right]; exact d, ro, c, hi⟩
theorem RootTo.leave {A k r : Nat} (h : RootTo A (k + 1) r) (c : A < (r + 2 ^ k) * (r + 2 ^ k)) : RootTo A k r := by
  obtain ⟨_, l, d⟩ := h.bit
  exact ⟨d, by omega, h.lo, c⟩
theorem RootTo.fin {A r : Nat} (h : RootTo A 0 r) : r * r ≤ A ∧ A - r * r ≤ 2 * r := by
  have l := h.lo
  have hi := h.hi
  rw [Nat.pow_zero, Nat.add_mul, Nat.mul_add, Nat.one_mul, Nat.mul_one] at hi
  omega
/-- The root and what is left are told by these two facts. -/
theorem root_uniq {A r s x y : Int} (r0 : 0 ≤ r) (s0 : 0 ≤ s) (x0 : 0 ≤ x) (y0 : 0 ≤ y) (e : r * r + x = A) (e' : s * s + y = A) (l : x ≤ 2 * r) (l' : y ≤ 2 * s) : r = s ∧ x = y := by
  have key : ∀ a b u v : Int, 0 ≤ a → 0 ≤ b → 0 ≤ u → a * a + u = A → b * b + v = A → 0 ≤ v → u ≤ 2 * a → b ≤ a := by
    intro a b u v ha hb hu p q hv lu
    by_cases c : b ≤ a
    · exact c
    · have m : (a + 1) * (a + 1) ≤ b * b := Int.mul_le_mul (by omega) (by omega) (by omega) hb
      rw [Int.add_mul, Int.mul_add, Int.one_mul, Int.mul_one] at m
      omega
  have h1 := key r s x y r0 s0 x0 e e' y0 l
  have h2 := key s r y x s0 r0 y0 e' e x0 l'
  have : r = s := by omega
  subst this
  exact ⟨rfl, by omega⟩

theorem OneMem.drew {n : Nat} {ah al : Int} {W : World} (h : OneMem n ah al W) : OneMem n ah al W.drew := ⟨h.s0, h.s1, h.c0, h.c1, h.e0, h.e1, h.f0, h.f1⟩
theorem OneMem.alloc {n : Nat} {ah al : Int} {W : World} (h : OneMem n ah al W) (o : Obj) : OneMem n ah al (W.alloc o) :=
  h.below ((Below.refl _ _).alloc (Nat.le_refl _) o)
theorem cmpN_nonpos {a b n : Int} (h : n = cmpN a b) (c : a ≤ b) : n ≤ 0 := by
  rw [h]; unfold cmpN; split
  · omega
  · rw [if_neg (by omega)]; omega
theorem cmpN_pos {a b n : Int} (h : n = cmpN a b) (c : b < a) : ¬ n ≤ 0 := by
  rw [h, ← cmpN_gt c]; omega

end Go.Proofs.YtlmcopeongkppaaDoor

namespace Go.Proofs.YtlmcopeongkppaaDoor
open Go.RowKit
set_option linter.unusedVariables false

/-- What the memory holds while a quotient is reckoned. -/
structure DivMem (n q o : Nat) (ah al rh rl : Int) (A : Nat) (f : Nat → Bool) (w : World) : Prop where
  one : OneMem n ah al w
  rq : RowB w q 128 A.testBit
  ro : RowB w o 128 f
  fo : RowF w o 128
  g0 : w.cell? ⟨o + 1, 0, none⟩ = some (.int .u64 rh)
  g1 : w.cell? ⟨o + 1, 1, none⟩ = some (.int .u64 rl)
  k0 : w.frozen? ⟨o + 1, 0, none⟩ = false
  k1 : w.frozen? ⟨o + 1, 1, none⟩ = false
  nq : n + 1 < q
  qo : q < o
  sz : o + 1 < w.heap.size
theorem DivMem.below {n q o : Nat} {ah al rh rl : Int} {A : Nat} {f : Nat → Bool} {W w1 : World} (h : DivMem n q o ah al rh rl A f W) (hb : Below W.heap.size W w1) : DivMem n q o ah al rh rl A f w1 := by
  obtain ⟨hc, hf⟩ := bcell hb
  have hs := hb.size
  have sz := h.sz; have qo := h.qo
  exact ⟨h.one.below hb, h.rq.below hb (by omega), h.ro.below hb (by omega), h.fo.below hb (by omega), cell_on hb h.g0, cell_on hb h.g1, by rw [hf _ _ sz]; exact h.k0, by rw [hf _ _ sz]; exact h.k1, h.nq, h.qo, by omega⟩
theorem DivMem.set1 {n q o : Nat} {ah al rh rl : Int} {A : Nat} {f : Nat → Bool} {W : World} (h : DivMem n q o ah al rh rl A f W) (y : Int) : DivMem n q o ah al rh y A f (W.setCell ⟨o + 1, 1, none⟩ (.int .u64 y)) := by
  have nq := h.nq; have qo := h.qo
  have g0 := h.g0; have g1 := h.g1; have k0 := h.k0; have k1 := h.k1
  exact ⟨h.one.far _ _ (by show o + 1 ≠ _; omega) (by show o + 1 ≠ _; omega), h.rq.far _ _ (by show o + 1 ≠ _; omega), h.ro.far _ _ (by show o + 1 ≠ _; omega), h.fo.set _ _, by simp [go_sem, *], by simp [go_sem, *], by simp [go_sem, *], by simp [go_sem, *], nq, qo, by simpa using h.sz⟩
theorem DivMem.set {n q o : Nat} {ah al rh rl : Int} {A : Nat} {f : Nat → Bool} {W : World} (h : DivMem n q o ah al rh rl A f W) (x y : Int) : DivMem n q o ah al x y A f ((W.setCell ⟨o + 1, 0, none⟩ (.int .u64 x)).setCell ⟨o + 1, 1, none⟩ (.int .u64 y)) := by
  have nq := h.nq; have qo := h.qo
  have g0 := h.g0; have g1 := h.g1; have k0 := h.k0; have k1 := h.k1
  exact ⟨(h.one.far _ _ (by show o + 1 ≠ _; omega) (by show o + 1 ≠ _; omega)).far _ _ (by show o + 1 ≠ _; omega) (by show o + 1 ≠ _; omega), (h.rq.far _ _ (by show o + 1 ≠ _; omega)).far _ _ (by show o + 1 ≠ _; omega), (h.ro.far _ _ (by show o + 1 ≠ _; omega)).far _ _ (by show o + 1 ≠ _; omega), (h.fo.set _ _).set _ _, by simp [go_sem, *], by simp [go_sem, *], by simp [go_sem, *], by simp [go_sem, *], nq, qo, by simpa using h.sz⟩
theorem DivMem.bit {n q o : Nat} {ah al rh rl : Int} {A : Nat} {f : Nat → Bool} {W : World} (h : DivMem n q o ah al rh rl A f W) (k : Nat) (hk : k < 128) (v : Bool) : DivMem n q o ah al rh rl A (fun i => if i = k then v else f i) (W.setCell ⟨o, k, none⟩ (.bool v)) := by
  have nq := h.nq; have qo := h.qo
  have g0 := h.g0; have g1 := h.g1; have k0 := h.k0; have k1 := h.k1
  exact ⟨h.one.far _ _ (by show o ≠ _; omega) (by show o ≠ _; omega), h.rq.far _ _ (by show o ≠ _; omega), h.ro.set k v hk, h.fo.set _ _, by simp [go_sem, *], by simp [go_sem, *], by simp [go_sem, *], by simp [go_sem, *], nq, qo, by simpa using h.sz⟩
theorem DivMem.ext {n q o : Nat} {ah al rh rl : Int} {A : Nat} {f g : Nat → Bool} {W : World} (h : DivMem n q o ah al rh rl A f W) (e : ∀ i, i < 128 → f i = g i) : DivMem n q o ah al rh rl A g W :=
  ⟨h.one, h.rq, h.ro.ext e, h.fo, h.g0, h.g1, h.k0, h.k1, h.nq, h.qo, h.sz⟩

/-- The quotient's bits from k on. -/
def quoTo (A b k : Nat) (j : Nat) : Bool := decide (k ≤ j) && (A / b).testBit j
theorem quo_bit (A b j : Nat) : (A / b).testBit j = decide (A / 2 ^ j / b % 2 = 1) := by
  rw [bitN, Nat.div_div_eq_div_mul, Nat.div_div_eq_div_mul, Nat.mul_comm]
theorem quoTo_step (A b k : Nat) (v : Bool) (hv : v = (A / b).testBit k) : (fun i => if i = k then v else quoTo A b (k + 1) i) = quoTo A b k := by
  funext j
  unfold quoTo
  by_cases e : j = k
  · subst e; simp [hv]
  · have : (decide (k + 1 ≤ j)) = decide (k ≤ j) := by rw [decide_eq_decide]; omega
    simp [e, this]
theorem quoTo_skip (A b k : Nat) (hv : (A / b).testBit k = false) : quoTo A b (k + 1) = quoTo A b k := by
  funext j
  unfold quoTo
  by_cases e : j = k
  · subst e
    have : ¬ j + 1 ≤ j := by omega
    simp [hv]
  · have : (decide (k + 1 ≤ j)) = decide (k ≤ j) := by rw [decide_eq_decide]; omega
    rw [this]
/-- One place: the rest, doubled, with the next bit. -/
theorem quo_round (A b k : Nat) (hb : 0 < b) (r x : Nat) (hr : r = A / 2 ^ (k + 1) % b) (hx : x = 2 * r + (if A.testBit k then 1 else 0)) :
    (b ≤ x → (A / b).testBit k = true ∧ x - b = A / 2 ^ k % b) ∧ (x < b → (A / b).testBit k = false ∧ x = A / 2 ^ k % b) := by
  have hbit := bitN A k
  have e : A / 2 ^ (k + 1) = A / 2 ^ k / 2 := by rw [Nat.pow_succ, Nat.div_div_eq_div_mul]
  rw [e] at hr
  rw [quo_bit]
  generalize A / 2 ^ k = M at *
  have hxx : x = 2 * r + M % 2 := by
    rw [hx, hbit]
    rcases Nat.mod_two_eq_zero_or_one M with h | h <;> simp [h]
  have d := Nat.div_add_mod (M / 2) b
  have l := Nat.mod_lt (M / 2) hb
  rw [← hr] at d l
  generalize hq : M / 2 / b = q at *
  have eM : M = b * (2 * q) + x := by
    rw [Nat.mul_left_comm]
    omega
  constructor
  · intro c
    have e2 : M = (x - b) + b * (2 * q + 1) := by rw [Nat.mul_add, Nat.mul_one]; omega
    have q1 : M / b = 2 * q + 1 := by rw [e2, Nat.add_mul_div_left _ _ hb, Nat.div_eq_of_lt (by omega)]; omega
    have q2 : M % b = x - b := by rw [e2, Nat.add_mul_mod_self_left, Nat.mod_eq_of_lt (by omega)]
    rw [q1, q2]
    exact ⟨by simp, rfl⟩
  · intro c
    have q1 : M / b = 2 * q := by rw [eM, Nat.add_comm, Nat.add_mul_div_left _ _ hb, Nat.div_eq_of_lt c]; omega
    have q2 : M % b = x := by rw [eM, Nat.add_comm, Nat.add_mul_mod_self_left, Nat.mod_eq_of_lt c]
    rw [q1, q2]
    exact ⟨by simp, rfl⟩
/-- The rest is doubled. -/
theorem dbl_num (r : Nat) (sh sl rh rl : Int) (wsh : Word sh) (wsl : Word sl) (R : num rh rl = (r : Int)) (hr : r < 18446744073709551616) (S : num sh sl = num rh rl * 2 ^ Int.toNat 1 % 340282366920938463463374607431768211456) : num sh sl = ((2 * r : Nat) : Int) ∧ sl % 2 = 0 := by
  have e : (2 : Int) ^ Int.toNat 1 = 2 := rfl
  rw [e, R] at S
  have : num sh sl = ((2 * r : Nat) : Int) := by omega
  exact ⟨this, by unfold num at this; omega⟩

end Go.Proofs.YtlmcopeongkppaaDoor

namespace Go.Proofs.YtlmcopeongkppaaDoor
open Go.RowKit
set_option linter.unusedVariables false
set_option linter.unusedSimpArgs false
set_option maxRecDepth 100000 in
set_option maxHeartbeats 6400000 in
theorem rquot3P (P : Nat) (hP : P ≤ 1200) (q nl cap X B : Nat) (hB : 0 < B) (hB2 : B ≤ 1000000000000000000) (hX : X < 2 ^ nl) (hnl : nl ≤ 64) (n0 : nl ≠ 0) (w : World) (row : RowB w q nl (fun i => X.testBit i)) (hq : q < w.heap.size) :
    Calls Tryd.prog 15 #[.slice (some ⟨q, 0, none⟩) nl cap, .int .u64 (B : Int), .int .i64 (P : Int)] w fun e w' =>
      ∃ o : Nat, e = .returned (.tuple #[.slice (some ⟨o, 0, none⟩) (nl + P) (nl + P), .bool (decide (X * 2 ^ P % B ≠ 0))]) ∧ w.heap.size ≤ o ∧ o < w'.heap.size ∧ RowB w' o (nl + P) (fun i => (X * 2 ^ P / B).testBit i) ∧ Below w.heap.size w w' := by
  obtain ⟨T, hT⟩ : ∃ T : Nat, nl + P = T := ⟨_, rfl⟩
  have hTi : (nl : Int) + (P : Int) = (T : Int) := by omega
  have hT2 : T ≤ 1300 := by omega
  obtain ⟨A, hA⟩ : ∃ A : Nat, X * 2 ^ P = A := ⟨_, rfl⟩
  have lA : A < 2 ^ T := by
    rw [← hA, ← hT, Nat.pow_add]
    exact Nat.mul_lt_mul_of_pos_right hX (Nat.two_pow_pos P)
  have AB0 : Hid (∀ j, j < P → A.testBit j = false) := by
    intro j hj
    have nj : ¬ P ≤ j := by omega
    rw [← hA, Nat.mul_comm, Nat.testBit_two_pow_mul]
    simp [nj]
  have AB1 : Hid (∀ i, A.testBit (i + P) = X.testBit i) := by
    intro i
    rw [← hA, Nat.mul_comm, Nat.testBit_two_pow_mul]
    simp
  rw [hA, hT]
  have HT0 : Hid _ := hT
  have LA : Hid _ := lA
  have HB2 : Hid _ := hB2
  clear hA lA hT hB2
  have hmk := make_bools T (by omega)
  have fz := fresh_size w T
  have fr : RowB (freshW w T) w.heap.size T (quoTo A B T) := (fresh_row w T).ext (fun i hi => by unfold quoTo; simp [show ¬ T ≤ i by omega])
  go_enter Tryd.func15, Tryd.ntmps15
  go_wp2_with fail
  go_loopw [9, 10] (fun rv i wr => ∃ (k r : Nat), k ≤ T ∧ i = .int .i64 ((k : Int) - 1) ∧ rv = .int .u64 (r : Int) ∧ r < B ∧ Hid (r = A / 2 ^ k % B) ∧ RowB wr q nl (fun i => X.testBit i) ∧ RowB wr w.heap.size T (quoTo A B k) ∧ RowF wr w.heap.size T ∧ w.heap.size < wr.heap.size ∧ Below w.heap.size w wr) (fun _ i _ => (intOf i + 1).toNat)
  case atStart => exact ⟨T, 0, by omega, rfl, rfl, hB, by rw [Nat.div_eq_of_lt LA.out, Nat.zero_mod]; exact rfl, row.below (fresh_below w T) hq, fr, fresh_free w T, by omega, fresh_below w T⟩
  case round =>
    obtain ⟨k, r, hk, rfl, rfl, hrB, RK, rq, ro, fo, sz, L⟩ := hrel
    clear fr hmk
    by_cases hk0 : k = 0
    · subst hk0
      have r5 : RowB wr w.heap.size T (fun i => (A / B).testBit i) := ro.ext (fun i hi => by simp [quoTo])
      have rk := RK.out
      rw [Nat.pow_zero, Nat.div_one] at rk
      have RK' : Hid _ := rk
      clear rk RK ro
      by_cases r0 : r = 0
      · subst r0
        have E5 : Hid (decide (A % B ≠ 0) = false) := by
          rw [← RK'.out]; rfl
        go_wp2_with fail
        refine bodyPost_ret (v := .tuple #[.slice (some ⟨w.heap.size, 0, none⟩) T T, .bool false]) (by simp [results, Tryd.results15, go_sem]) rfl ?_
        exact ⟨_, by rw [E5.out], Nat.le_refl _, sz, r5, L⟩
      · have E5 : Hid (decide (A % B ≠ 0) = true) := by
          rw [← RK'.out]; exact decide_eq_true r0
        have r1 : (0 : Int) < (r : Int) := by omega
        have r1' : 0 < r := by omega
        clear r0
        go_wp2_with fail
        refine bodyPost_ret (v := .tuple #[.slice (some ⟨w.heap.size, 0, none⟩) T T, .bool true]) (by simp [results, Tryd.results15, go_sem]) rfl ?_
        exact ⟨_, by rw [E5.out], Nat.le_refl _, sz, r5, L⟩
    · obtain ⟨j, rfl⟩ : ∃ j, k = j + 1 := ⟨k - 1, by omega⟩
      have ej : ((j + 1 : Nat) : Int) - 1 = (j : Int) := by omega
      rw [ej]
      have t1 : (0 : Int) ≤ (j : Int) := by omega
      have hj : j < T := by omega
      have jT : (j : Int) < (T : Int) := by omega
      have go := ro j hj
      have gf := fo j hj
      obtain ⟨M, r2, r2'⟩ : ∃ M : Int, 2 * (r : Int) + 1 ≤ M ∧ M ≤ 18446744073709551615 := ⟨18446744073709551615, by have := HB2.out; omega, by omega⟩
      have r3 : 2 * (r : Int) ≤ M := by omega
      by_cases hlow : j < P
      · have hbit : A.testBit j = false := AB0.out j hlow
        obtain ⟨qr1, qr2⟩ := quo_round A B j hB r (2 * r) RK.out (by rw [hbit]; rfl)
        have t3 : (P ≤ j) = False := eq_false (by omega)
        clear hbit hlow
        by_cases c : B ≤ (2 * r)
        · obtain ⟨qb, qv⟩ := qr1 c
          have QV : Hid _ := qv
          have ci : (B : Int) ≤ 2 * (r : Int) := by omega
          clear qr1 qr2 qv
          go_wp2_with fail
          go_roundw
          case rel =>
            refine ⟨j, (2 * r) - B, by omega, rfl, by congr 1; omega, by omega, QV, rq.far _ _ (by show w.heap.size ≠ _; omega), ?_, fo.set _ _, by simpa using sz, L.setCell (by simp) _⟩
            have := ro.set j true hj
            rw [quoTo_step _ _ _ _ qb.symm] at this
            exact this
          case measure => simp [intOf]
        · obtain ⟨qb, qv⟩ := qr2 (by omega)
          have QV : Hid _ := qv
          have ci : 2 * (r : Int) < (B : Int) := by omega
          clear qr1 qr2 qv
          rw [quoTo_skip _ _ _ qb] at ro
          go_wp2_with fail
          go_roundw
          case rel => exact ⟨j, (2 * r), by omega, rfl, by congr 1; omega, by omega, QV, rq, ro, fo, sz, L⟩
          case measure => simp [intOf]
      · obtain ⟨i, hi⟩ : ∃ i, i + P = j := ⟨j - P, by omega⟩
        have hii : i < nl := by omega
        have hin : (i : Int) < (nl : Int) := by omega
        have t3 : (P : Int) ≤ (j : Int) := by omega
        have t3' : P ≤ j := by omega
        have t4 : (j : Int) - (P : Int) = (i : Int) := by omega
        have ab : A.testBit j = X.testBit i := by rw [← hi]; exact AB1.out i
        have gb : wr.cell? ⟨q, i, none⟩ = some (.bool (X.testBit i)) := rq i hii
        clear hlow hi
        cases hx : X.testBit i
        · rw [hx] at gb ab
          obtain ⟨qr1, qr2⟩ := quo_round A B j hB r (2 * r) RK.out (by rw [ab]; rfl)
          clear hx ab
          by_cases c : B ≤ (2 * r)
          · obtain ⟨qb, qv⟩ := qr1 c
            have QV : Hid _ := qv
            have ci : (B : Int) ≤ 2 * (r : Int) := by omega
            clear qr1 qr2 qv
            go_wp2_with fail
            go_roundw
            case rel =>
              refine ⟨j, (2 * r) - B, by omega, rfl, by congr 1; omega, by omega, QV, rq.far _ _ (by show w.heap.size ≠ _; omega), ?_, fo.set _ _, by simpa using sz, L.setCell (by simp) _⟩
              have := ro.set j true hj
              rw [quoTo_step _ _ _ _ qb.symm] at this
              exact this
            case measure => simp [intOf]
          · obtain ⟨qb, qv⟩ := qr2 (by omega)
            have QV : Hid _ := qv
            have ci : 2 * (r : Int) < (B : Int) := by omega
            clear qr1 qr2 qv
            rw [quoTo_skip _ _ _ qb] at ro
            go_wp2_with fail
            go_roundw
            case rel => exact ⟨j, (2 * r), by omega, rfl, by congr 1; omega, by omega, QV, rq, ro, fo, sz, L⟩
            case measure => simp [intOf]
        · rw [hx] at gb ab
          obtain ⟨qr1, qr2⟩ := quo_round A B j hB r (2 * r + 1) RK.out (by rw [ab]; rfl)
          clear hx ab
          by_cases c : B ≤ (2 * r + 1)
          · obtain ⟨qb, qv⟩ := qr1 c
            have QV : Hid _ := qv
            have ci : (B : Int) ≤ 2 * (r : Int) + 1 := by omega
            clear qr1 qr2 qv
            go_wp2_with fail
            go_roundw
            case rel =>
              refine ⟨j, (2 * r + 1) - B, by omega, rfl, by congr 1; omega, by omega, QV, rq.far _ _ (by show w.heap.size ≠ _; omega), ?_, fo.set _ _, by simpa using sz, L.setCell (by simp) _⟩
              have := ro.set j true hj
              rw [quoTo_step _ _ _ _ qb.symm] at this
              exact this
            case measure => simp [intOf]
          · obtain ⟨qb, qv⟩ := qr2 (by omega)
            have QV : Hid _ := qv
            have ci : 2 * (r : Int) + 1 < (B : Int) := by omega
            clear qr1 qr2 qv
            rw [quoTo_skip _ _ _ qb] at ro
            go_wp2_with fail
            go_roundw
            case rel => exact ⟨j, (2 * r + 1), by omega, rfl, by congr 1; omega, by omega, QV, rq, ro, fo, sz, L⟩
            case measure => simp [intOf]
end Go.Proofs.YtlmcopeongkppaaDoor

