/- The reference's Rounded. -/
import Derived.Test.YtfdinlomlcnjnaaDoorSRefN
import Derived.Test.YtfdinlomlcnjnaaDoorSRefL
import Derived.Test.YtfdinlomlcnjnaaDoorSRefI
import Derived.Test.YtfdinlomlcnjnaaDoorRefB
import Derived.Deep.CutRange
import Derived.Deep.QuietTactic
import Derived.BigQuiet
namespace Go.Proofs.YtfdinlomlcnjnaaDoor
open Go.RowKit
set_option linter.unusedVariables false
set_option linter.unusedSimpArgs false
theorem last_two (s : Bool) {A : Nat} (A0 : A ≠ 0) (e : Int) : ∃ La : Int, lastOf s A e = La ∧ ((e + (blen A : Int) - 1 - (fP s : Int) < fL s ∧ La = fL s) ∨ (¬ e + (blen A : Int) - 1 - (fP s : Int) < fL s ∧ La = e + (blen A : Int) - 1 - (fP s : Int))) := by
  refine ⟨_, rfl, ?_⟩
  unfold lastOf
  omega
/-- What is too great: M or I. -/
def gr (m : Int) (b : Bool) (M I : Int) : Int := if m = 3 ∨ m = 1 ∧ b = true ∨ m = 2 ∧ b = false then M else I
/-- The ways of what is too great: the mode, the sign. -/
theorem great_ways (m : Int) (b : Bool) (M I : Int) :
    (gr m b M I = M ∧ m = 3) ∨ (gr m b M I = M ∧ (m == 3) = false ∧ m = 1 ∧ b = true) ∨ (gr m b M I = M ∧ (m == 3) = false ∧ (m == 1) = false ∧ m = 2 ∧ b = false) ∨ (gr m b M I = I ∧ (m == 3) = false ∧ m = 1 ∧ b = false) ∨
    (gr m b M I = I ∧ (m == 3) = false ∧ (m == 1) = false ∧ m = 2 ∧ b = true) ∨ (gr m b M I = I ∧ (m == 3) = false ∧ (m == 1) = false ∧ (m == 2) = false) := by
  unfold gr
  by_cases m3 : m = 3
  · subst m3; simp
  · by_cases m1 : m = 1
    · subst m1; cases b <;> simp
    · by_cases m2 : m = 2
      · subst m2; cases b <;> simp
      · simp [m1, m2, m3]
theorem drew_0 (w : World) : ∃ k, w = w.drewN k := ⟨0, rfl⟩
theorem u64r_eq {a b : Int} (h : a = b) : Ending.returned (Value.int IntKind.u64 a) = .returned (.int .u64 b) := by rw [h]
theorem put_d' (b : Bool) (X M : Int) (x0 : 0 ≤ X) (hX : X < 2047) (m0 : 0 ≤ M) (hM : M < 4503599627370496) : bits BinOp.or IntKind.u64 (bits BinOp.or IntKind.u64 (if b then 9223372036854775808 else 0) (X * 4503599627370496)) M = sgnd false b (X * 4503599627370496 + M) := by
  obtain ⟨x, rfl⟩ := Int.eq_ofNat_of_zero_le x0
  obtain ⟨m, rfl⟩ := Int.eq_ofNat_of_zero_le m0
  exact put_d b x m (by omega) (by omega)
theorem ref_up_d (m : Int) (b : Bool) (La X : Int) (hX : X = La + 1 + 1074 + 1) (h : X < 2047) : sgnd false b (refSize false m b La (9007199254740992 : Int).toNat) = sgnd false b (X * 4503599627370496 + 0) := by
  congr 1
  unfold refSize
  have e1 : (2 : Nat) ^ (fP false + 1) = 9007199254740992 := rfl
  have e2 : (2 : Nat) ^ fP false = 4503599627370496 := rfl
  have e3 : (2 : Int) ^ fP false = 4503599627370496 := rfl
  have e4 : (2 : Int) ^ (fE false).toNat - 1 = 2047 := rfl
  have e5 : fL false = -1074 := rfl
  rw [e1, e2, e3, e4, e5]
  rw [if_pos (by decide : (9007199254740992 : Int).toNat = 9007199254740992), if_pos (by decide : (9007199254740992 : Int).toNat = 9007199254740992)]
  rw [if_neg (by decide : ¬ (9007199254740992 : Int).toNat / 2 < 4503599627370496)]
  rw [if_neg (by omega), show (9007199254740992 : Int).toNat / 2 % 4503599627370496 = 0 by decide]
  omega
theorem ref_sub_d (m : Int) (b : Bool) (La y : Int) (y0 : 0 ≤ y) (h : y < 4503599627370496) : sgnd false b (refSize false m b La y.toNat) = sgnd false b (0 * 4503599627370496 + y) := by
  congr 1
  unfold refSize
  have e1 : (2 : Nat) ^ (fP false + 1) = 9007199254740992 := rfl
  have e2 : (2 : Nat) ^ fP false = 4503599627370496 := rfl
  have e3 : (2 : Int) ^ fP false = 4503599627370496 := rfl
  have e4 : (2 : Int) ^ (fE false).toNat - 1 = 2047 := rfl
  have n1 : ¬ y.toNat = 9007199254740992 := by omega
  have n2 : y.toNat < 4503599627370496 := by omega
  rw [e1, e2, e3, e4]
  simp only [if_neg n1, if_pos n2]
  rw [if_neg (by decide), Nat.mod_eq_of_lt n2]
  omega
theorem ref_great_d (m : Int) (b : Bool) (La y : Int) (h : (y = 9007199254740992 ∧ 2047 ≤ La + 1 + 1074 + 1) ∨ (¬ y = 9007199254740992 ∧ 4503599627370496 ≤ y ∧ 2047 ≤ La + 1074 + 1)) :
    sgnd false b (refSize false m b La y.toNat) = sgnd false b (gr m b 9218868437227405311 9218868437227405312) := by
  congr 1
  unfold refSize gr
  have e1 : (2 : Nat) ^ (fP false + 1) = 9007199254740992 := rfl
  have e2 : (2 : Nat) ^ fP false = 4503599627370496 := rfl
  have e3 : (2 : Int) ^ fP false = 4503599627370496 := rfl
  have e4 : (2 : Int) ^ (fE false).toNat - 1 = 2047 := rfl
  have e5 : fL false = -1074 := rfl
  rw [e1, e2, e3, e4, e5]
  rcases h with ⟨h1, h2⟩ | ⟨h1, h2, h3⟩
  · have n1 : y.toNat = 9007199254740992 := by omega
    have n2 : ¬ y.toNat / 2 < 4503599627370496 := by omega
    simp only [if_pos n1, if_neg n2]
    rw [if_pos (by omega)]
    rfl
  · have n1 : ¬ y.toNat = 9007199254740992 := by omega
    have n2 : ¬ y.toNat < 4503599627370496 := by omega
    simp only [if_neg n1, if_neg n2]
    rw [if_pos (by omega)]
    rfl
theorem ref_norm_d (m : Int) (b : Bool) (La y X : Int) (hX : X = La + 1074 + 1) (c1 : ¬ y = 9007199254740992) (c2 : ¬ y < 4503599627370496) (y1 : y ≤ 9007199254740992) (h : X < 2047) : sgnd false b (refSize false m b La y.toNat) = sgnd false b (X * 4503599627370496 + (y - 4503599627370496)) := by
  congr 1
  unfold refSize
  have e1 : (2 : Nat) ^ (fP false + 1) = 9007199254740992 := rfl
  have e2 : (2 : Nat) ^ fP false = 4503599627370496 := rfl
  have e3 : (2 : Int) ^ fP false = 4503599627370496 := rfl
  have e4 : (2 : Int) ^ (fE false).toNat - 1 = 2047 := rfl
  have e5 : fL false = -1074 := rfl
  have n1 : ¬ y.toNat = 9007199254740992 := by omega
  have n2 : ¬ y.toNat < 4503599627370496 := by omega
  rw [e1, e2, e3, e4, e5, if_neg n1, if_neg n1, if_neg n2, if_neg (by omega)]
  omega
set_option maxRecDepth 20000 in
set_option maxHeartbeats 4000000 in
theorem rounded_d (m : Int) (below : Bool) (b n cap A : Nat) (hA : A < 2 ^ n) (hn : n ≤ 100000) (e : Int) (he1 : -100000 ≤ e) (he2 : e ≤ 100000) (w : World) (row : RowB w b n (fun i => A.testBit i)) (A0 : A ≠ 0) :
    Calls Tryd.prog 50 #[.int .i64 0, .int .i64 m, .bool below, .slice (some ⟨b, 0, none⟩) n cap, .int .i64 e] w fun r w' => r = .returned (.int .u64 (rnd false m below A e)) ∧ ∃ k, w' = w.drewN k := by
  have hs := rsize_d
  have hl := length_any b n cap A hA (by omega) w row
  obtain ⟨La, hLa, hcase⟩ := last_two false A0 e
  obtain ⟨b1, b2⟩ := blen_le A0
  have b3 := blen_le_of hA
  have b4 := lt_blen A
  obtain ⟨N, hN⟩ : ∃ N : Nat, blen A = N := ⟨_, rfl⟩
  rw [hN] at hl hcase b1 b2 b3 b4
  have HLa : Hid (lastOf false A e = La) := hLa
  have HN : Hid (blen A = N) := hN
  have B1 : Hid _ := b1
  have B4 : Hid _ := b4
  have HA : Hid _ := hA
  have hq : quo A (La - e) < 2 ^ 63 := by
    obtain ⟨x, k1, k2, _⟩ := kept false A0 e (min e (-1074)) (by omega) (by show _ ≤ (-1074 : Int); omega)
    rw [hLa] at k2
    exact Nat.lt_of_lt_of_le k2 (by decide)
  have HQ : Hid _ := hq
  clear hLa hN b1 b4 hA hq
  have p52 : ((fP false : Nat) : Int) = 52 := rfl
  have l74 : fL false = -1074 := rfl
  rw [p52, l74] at hcase
  clear p52 l74
  have hk : -1074 ≤ La ∧ e + (N : Int) - 1 - La ≤ 52 ∧ La ≤ 300000 := by rcases hcase with ⟨a, rfl⟩ | ⟨a, rfl⟩ <;> refine ⟨?_, ?_, ?_⟩ <;> omega
  obtain ⟨hk1, hk2, hk3⟩ := hk
  have N1 : ((N : Int) == 0) = false := by simp; omega
  go_enter Tryd.func50, Tryd.ntmps50
  go_upto_if 44 with (first
      | (go_at_call 67; refine (hs _).mono ?_; rintro r w1 ⟨rfl, hw⟩; rw [hw]; clear hw w1)
      | (go_at_call 85; refine hl.mono ?_; rintro r w1 ⟨rfl, hw⟩; rw [hw]; clear hw w1))
  go_cut [15] from 23 to 46 (fun s wx => s = .int .i64 La ∧ wx = w)
  case first =>
    rcases hcase with ⟨hc, hLa⟩ | ⟨hc, hLa⟩
    · have HL : Hid _ := hLa
      clear hLa
      go_wp2_with fail
      go_meet
      case rel => exact ⟨by rw [HL.out], rfl⟩
    · have HL : Hid _ := hLa
      clear hLa
      go_wp2_with fail
      go_meet
      case rel => exact ⟨by rw [HL.out], rfl⟩
  case rest =>
    obtain ⟨rfl, hw⟩ := hcut
    rw [hw]
    clear hw wc hcase hs hl
    go_wp2
    go_loop [16, 17] (fun q i => ∃ j : Nat, j ≤ N ∧ q = .int .u64 ((qTo A (La - e) j : Nat) : Int) ∧ ((j = 0 ∧ i = .int .i64 (-1)) ∨ ∃ i0 : Nat, j = i0 + 1 ∧ i = .int .i64 (i0 : Int))) (fun _ i => (intOf i + 1).toNat)
    case atStart =>
      refine ⟨N, Nat.le_refl _, by rw [qTo_top _ B4.out]; rfl, Or.inr ⟨N - 1, by omega, by go_num⟩⟩
    case round =>
      obtain ⟨j, hj, rfl, hj2⟩ := hrel
      rcases hj2 with ⟨rfl, rfl⟩ | ⟨i0, rfl, rfl⟩
      · rw [qTo_end]
        obtain ⟨Q, hQ⟩ : ∃ Q : Nat, quo A (La - e) = Q := ⟨_, rfl⟩
        have HQ' : Hid _ := hQ
        rw [hQ]
        clear hQ
        go_wp2
        go_loop [18, 19, 20] (fun h l i => ∃ j : Nat, j ≤ N ∧ i = .int .i64 (j : Int) ∧ h = .bool (half (A % 2 ^ j) (La - e)) ∧ l = .bool (low (A % 2 ^ j) (La - e))) (fun _ _ i => N - (intOf i).toNat)
        case atStart => exact ⟨0, by omega, rfl, by rw [(hl_zero A _).1], by rw [(hl_zero A _).2]⟩
        case round =>
          obtain ⟨j, hj, rfl, rfl, rfl⟩ := hrel
          by_cases hlt : j < N
          · have cj : w.cell? ⟨b, j, none⟩ = some (.bool (A.testBit j)) := row j (by omega)
            have t1 : (j : Int) < (N : Int) := by omega
            cases tb : A.testBit j
            · have Z : Hid _ := hl_no (k := La - e) tb
              rw [tb] at cj
              clear tb row
              go_wp2
              go_round
              case rel => exact ⟨j + 1, by omega, by go_num, by rw [Z.out.1], by rw [Z.out.2]⟩
              case measure => simp [intOf]; omega
            · rcases Int.lt_trichotomy (e + (j : Int)) (La - 1) with hc | hc | hc
              · have Z : Hid _ := hl_lt (k := La - e) tb (by omega)
                have hne : (e + (j : Int) == La - 1) = false := by simp; omega
                rw [tb] at cj
                clear tb row
                go_wp2
                go_round
                case rel => exact ⟨j + 1, by omega, by go_num, by rw [Z.out.1], by rw [Z.out.2]⟩
                case measure => simp [intOf]; omega
              · have Z : Hid _ := hl_eq (k := La - e) tb (by omega)
                have hne : (e + (j : Int) == La - 1) = true := by simp; omega
                have hnl : ¬ e + (j : Int) < La - 1 := by omega
                rw [tb] at cj
                clear tb row hc
                go_wp2
                go_round
                case rel => exact ⟨j + 1, by omega, by go_num, by rw [Z.out.1], by rw [Z.out.2]⟩
                case measure => simp [intOf]; omega
              · have Z : Hid _ := hl_gt (A := A) (i := j) (k := La - e) (by omega)
                have hne : (e + (j : Int) == La - 1) = false := by simp; omega
                have hnl : ¬ e + (j : Int) < La - 1 := by omega
                rw [tb] at cj
                clear tb row
                go_wp2
                go_round
                case rel => exact ⟨j + 1, by omega, by go_num, by rw [Z.out.1], by rw [Z.out.2]⟩
                case measure => simp [intOf]; omega
          · have : j = N := by omega
            subst this
            rw [Nat.mod_eq_of_lt B4.out]
            obtain ⟨H, hH⟩ : ∃ H : Bool, half A (La - e) = H := ⟨_, rfl⟩
            obtain ⟨L, hL⟩ : ∃ L : Bool, low A (La - e) = L := ⟨_, rfl⟩
            have HH : Hid _ := hH
            have HL : Hid _ := hL
            rw [hH, hL]
            clear hH hL
            go_upto_region 24 with fail
            iterate 8 go_step
            go_cut [21] from 114 to 144 (fun s wx => s = .bool (away m below (Q % 2 == 1) H L) ∧ wx = w)
            case first =>
              by_cases m1 : m = 1
              · subst m1
                cases below <;> cases H <;> cases L <;> (go_wp2_with fail; go_meet; exact ⟨rfl, rfl⟩)
              · by_cases m2 : m = 2
                · subst m2
                  cases below <;> cases H <;> cases L <;> (go_wp2_with fail; go_meet; exact ⟨rfl, rfl⟩)
                · by_cases m3 : m = 3
                  · subst m3
                    go_wp2_with fail
                    go_meet
                    exact ⟨rfl, rfl⟩
                  · have n1 : (m == 1) = false := by simp [m1]
                    have n2 : (m == 2) = false := by simp [m2]
                    have n3 : (m == 3) = false := by simp [m3]
                    have aw : Hid (∀ o, away m below o H L = (H && (L || o))) := fun o => by unfold away; rw [if_neg m1, if_neg m2, if_neg m3]
                    cases H
                    · go_wp2_with fail
                      go_meet
                      exact ⟨by rw [aw.out]; rfl, rfl⟩
                    · cases L
                      · have od : ((Q : Int) % 2 == 1) = (Q % 2 == 1) := by rw [Bool.eq_iff_iff]; simp; omega
                        go_wp2_with fail
                        go_meet
                        exact ⟨by rw [aw.out]; rfl, rfl⟩
                      · go_wp2_with fail
                        go_meet
                        exact ⟨by rw [aw.out]; rfl, rfl⟩
            case rest =>
              obtain ⟨rfl, hw⟩ := hcut
              rw [hw]
              clear hw wc
              have T := ref_fin false m below La Q H L
              obtain ⟨mo, hmo⟩ : ∃ mo : Bool, away m below (Q % 2 == 1) H L = mo := ⟨_, rfl⟩
              rw [hmo] at T ⊢
              have T2 : Hid (rnd false m below A e = sgnd false below (refSize false m below La (Q + mo.toNat)) ∧ Q < 2 ^ 53 ∧ (La = -1074 ∨ 2 ^ 52 ≤ Q)) := by
                obtain ⟨x, k1, k2, k3, _⟩ := kept false A0 e (min e (-1074)) (by omega) (by show _ ≤ (-1074 : Int); omega)
                have fl : fL false = -1074 := rfl
                have fp : fP false = 52 := rfl
                rw [HLa.out, HQ'.out, fp] at k2 k3
                rw [HLa.out, fl] at k1
                have k4 : La = -1074 ∨ 2 ^ 52 ≤ Q := by rcases k3 with k | k; left; omega; right; exact k
                have T3 := T k2 (by rw [fl, fp]; exact k4) (by rw [fl]; exact hk1)
                refine ⟨?_, k2, k4⟩
                unfold rnd
                rw [if_neg A0]
                unfold mag
                rw [HLa.out, HQ'.out, HH.out, HL.out, ← T3]
                cases mo <;> rfl
              clear T hmo HLa HQ' HH HL HQ B1 B4 HA HN
              iterate 2 go_step
              go_cut [16] from 145 to 147 (fun s wx => s = .int .u64 ((Q + mo.toNat : Nat) : Int) ∧ wx = w)
              case first =>
                have q53 := T2.out.2.1
                clear T2
                cases mo
                · go_wp2_with fail
                  go_meet
                  exact ⟨rfl, rfl⟩
                · go_wp2_with fail
                  go_meet
                  exact ⟨by go_num, rfl⟩
              case rest =>
                obtain ⟨rfl, hw⟩ := hcut
                rw [hw]
                clear hw wc
                obtain ⟨y, hy⟩ : ∃ y : Int, ((Q + mo.toNat : Nat) : Int) = y := ⟨_, rfl⟩
                have y53 : 0 ≤ y ∧ y ≤ 9007199254740992 := by have := T2.out.2.1; have := Bool.toNat_le mo; omega
                have T : Hid (rnd false m below A e = sgnd false below (refSize false m below La y.toNat)) := by rw [T2.out.1, ← hy]; rfl
                rw [hy]
                clear T2 hy
                obtain ⟨y0, y1⟩ := y53
                have hg : ∀ w, Calls Tryd.prog 80 #[.int .i64 0, .bool below] w fun e w' => e = .returned (.int .u64 (if below then 9223372036854775808 else 0)) ∧ w' = w := rsign_any false below
                by_cases c1 : y = 9007199254740992
                · subst c1
                  obtain ⟨X, hX⟩ : ∃ X : Int, La + 1 + 1074 + 1 = X := ⟨_, rfl⟩
                  have x1 : 0 ≤ X := by omega
                  by_cases c3 : X < 2047
                  · have TT : Hid _ := T.out.trans (ref_up_d m below La X hX.symm c3)
                    have wx : IntKind.u64.wrap (X * 4503599627370496) = X * 4503599627370496 := by rw [IntKind.wrap_u64]; omega
                    have pu := put_d' below X 0 x1 c3 (by decide) (by decide)
                    obtain ⟨S, hS⟩ : ∃ S : Int, (if below then (9223372036854775808 : Int) else 0) = S := ⟨_, rfl⟩
                    rw [hS] at hg pu
                    have PU : Hid _ := pu
                    clear hS pu T
                    go_wp2_with fail
                    go_quiet ((go_at_call 80; exact Calls.quiet_of_same (hg _)))
                    go_wp2_with fail
                    go_ret
                    exact ⟨u64r_eq (by rw [TT.out, ← PU.out]; rfl), _, rfl⟩
                  · have nx : ¬ X < 2047 := c3
                    have hmo := rmost_d
                    have hin : ∀ w, Calls Tryd.prog 76 #[.int .i64 0, .bool below] w fun e w' => e = .returned (.int .u64 (sgnd false below 9218868437227405312)) ∧ ∃ n, w' = w.drewN n := rinf_any false below
                    have om : bits BinOp.or IntKind.u64 (if below then 9223372036854775808 else 0) 9218868437227405311 = sgnd false below 9218868437227405311 := or_sign false below 9218868437227405311 (by decide)
                    have GH : Hid _ := T.out.trans (ref_great_d m below La _ (Or.inl ⟨rfl, by omega⟩))
                    clear T
                    obtain ⟨S, hS⟩ : ∃ S : Int, (if below then (9223372036854775808 : Int) else 0) = S := ⟨_, rfl⟩
                    rw [hS] at hg om
                    have OM : Hid _ := om
                    clear hS om
                    obtain ⟨VI, hVI⟩ : ∃ V : Int, sgnd false below 9218868437227405312 = V := ⟨_, rfl⟩
                    rw [hVI] at hin
                    have HVI : Hid _ := hVI
                    clear hVI
                    rcases great_ways m below 9218868437227405311 9218868437227405312 with ⟨g, rfl⟩ | ⟨g, _, rfl, rfl⟩ | ⟨g, _, _, rfl, rfl⟩ | ⟨g, _, rfl, rfl⟩ | ⟨g, _, _, rfl, rfl⟩ | ⟨g, m3, m1, m2⟩
                    all_goals
                      have GV : Hid _ := GH.out
                      rw [g] at GV
                      have G2 : Hid _ := GV
                      clear GV GH g
                      go_wp2_with (first
                        | (go_at_call 80; refine (hg _).mono ?_; rintro r w1 ⟨rfl, hw⟩; rw [hw]; clear hw w1)
                        | (go_at_call 61; refine (hmo _).mono ?_; rintro r w1 ⟨rfl, hw⟩; rw [hw]; clear hw w1)
                        | (go_at_call 76; refine (hin _).mono ?_; rintro r w1 ⟨rfl, nn, hw⟩; rw [hw]; clear hw w1))
                      go_ret
                    · exact ⟨u64r_eq (by rw [G2.out]; exact OM.out), drew_0 w⟩
                    · exact ⟨u64r_eq (by rw [G2.out]; exact OM.out), drew_0 w⟩
                    · exact ⟨u64r_eq (by rw [G2.out]; exact OM.out), drew_0 w⟩
                    · exact ⟨u64r_eq (by rw [G2.out]; exact HVI.out.symm), nn, rfl⟩
                    · exact ⟨u64r_eq (by rw [G2.out]; exact HVI.out.symm), nn, rfl⟩
                    · exact ⟨u64r_eq (by rw [G2.out]; exact HVI.out.symm), nn, rfl⟩
                · have c1' : (y == 9007199254740992) = false := by simp; omega
                  obtain ⟨X, hX⟩ : ∃ X : Int, La + 1074 + 1 = X := ⟨_, rfl⟩
                  have x1 : 0 ≤ X := by omega
                  by_cases c2 : y < 4503599627370496
                  · have pu := put_d' below 0 y (by omega) (by decide) y0 c2
                    have aw : bits BinOp.and IntKind.u64 y 4503599627370495 = y := by
                      rw [and_bits y.toNat 52 4503599627370495 rfl (by decide) y (by omega) (by omega)]
                      show y % 4503599627370496 = _
                      omega
                    have TT : Hid _ := T.out.trans (ref_sub_d m below La y y0 c2)
                    obtain ⟨S, hS⟩ : ∃ S : Int, (if below then (9223372036854775808 : Int) else 0) = S := ⟨_, rfl⟩
                    rw [hS] at hg pu
                    have PU : Hid _ := pu
                    clear hS pu T
                    go_wp2_with fail
                    go_quiet ((go_at_call 80; exact Calls.quiet_of_same (hg _)))
                    go_wp2_with fail
                    go_ret
                    exact ⟨u64r_eq (by rw [TT.out, ← PU.out]; rfl), _, rfl⟩
                  · by_cases c3 : X < 2047
                    · have TT : Hid _ := T.out.trans (ref_norm_d m below La y X hX.symm c1 c2 y1 c3)
                      have wx : IntKind.u64.wrap (X * 4503599627370496) = X * 4503599627370496 := by rw [IntKind.wrap_u64]; omega
                      have pu := put_d' below X (y - 4503599627370496) x1 c3 (by omega) (by omega)
                      have aw : bits BinOp.and IntKind.u64 y 4503599627370495 = y - 4503599627370496 := by
                        rw [and_bits y.toNat 52 4503599627370495 rfl (by decide) y (by omega) (by omega)]
                        show y % 4503599627370496 = _
                        omega
                      obtain ⟨S, hS⟩ : ∃ S : Int, (if below then (9223372036854775808 : Int) else 0) = S := ⟨_, rfl⟩
                      rw [hS] at hg pu
                      have PU : Hid _ := pu
                      clear hS pu T
                      go_wp2_with fail
                      go_quiet ((go_at_call 80; exact Calls.quiet_of_same (hg _)))
                      go_wp2_with fail
                      go_ret
                      exact ⟨u64r_eq (by rw [TT.out, ← PU.out]), _, rfl⟩
                    · have nx : ¬ X < 2047 := c3
                      have hmo := rmost_d
                      have hin : ∀ w, Calls Tryd.prog 76 #[.int .i64 0, .bool below] w fun e w' => e = .returned (.int .u64 (sgnd false below 9218868437227405312)) ∧ ∃ n, w' = w.drewN n := rinf_any false below
                      have om : bits BinOp.or IntKind.u64 (if below then 9223372036854775808 else 0) 9218868437227405311 = sgnd false below 9218868437227405311 := or_sign false below 9218868437227405311 (by decide)
                      have GH : Hid _ := T.out.trans (ref_great_d m below La _ (Or.inr ⟨c1, by omega, by omega⟩))
                      clear T
                      obtain ⟨S, hS⟩ : ∃ S : Int, (if below then (9223372036854775808 : Int) else 0) = S := ⟨_, rfl⟩
                      rw [hS] at hg om
                      have OM : Hid _ := om
                      clear hS om
                      obtain ⟨VI, hVI⟩ : ∃ V : Int, sgnd false below 9218868437227405312 = V := ⟨_, rfl⟩
                      rw [hVI] at hin
                      have HVI : Hid _ := hVI
                      clear hVI
                      rcases great_ways m below 9218868437227405311 9218868437227405312 with ⟨g, rfl⟩ | ⟨g, _, rfl, rfl⟩ | ⟨g, _, _, rfl, rfl⟩ | ⟨g, _, rfl, rfl⟩ | ⟨g, _, _, rfl, rfl⟩ | ⟨g, m3, m1, m2⟩
                      all_goals
                        have GV : Hid _ := GH.out
                        rw [g] at GV
                        have G2 : Hid _ := GV
                        clear GV GH g
                        go_wp2_with (first
                          | (go_at_call 80; refine (hg _).mono ?_; rintro r w1 ⟨rfl, hw⟩; rw [hw]; clear hw w1)
                          | (go_at_call 61; refine (hmo _).mono ?_; rintro r w1 ⟨rfl, hw⟩; rw [hw]; clear hw w1)
                          | (go_at_call 76; refine (hin _).mono ?_; rintro r w1 ⟨rfl, nn, hw⟩; rw [hw]; clear hw w1))
                        go_ret
                      · exact ⟨u64r_eq (by rw [G2.out]; exact OM.out), drew_0 w⟩
                      · exact ⟨u64r_eq (by rw [G2.out]; exact OM.out), drew_0 w⟩
                      · exact ⟨u64r_eq (by rw [G2.out]; exact OM.out), drew_0 w⟩
                      · exact ⟨u64r_eq (by rw [G2.out]; exact HVI.out.symm), nn, rfl⟩
                      · exact ⟨u64r_eq (by rw [G2.out]; exact HVI.out.symm), nn, rfl⟩
                      · exact ⟨u64r_eq (by rw [G2.out]; exact HVI.out.symm), nn, rfl⟩
      · have hi0 : (i0 : Int) + 1 ≤ N := by omega
        have cj : w.cell? ⟨b, i0, none⟩ = some (.bool (A.testBit i0)) := row i0 (by omega)
        have t1 : (0 : Int) ≤ (i0 : Int) := by omega
        by_cases hge : La ≤ e + (i0 : Int)
        · obtain ⟨t, ht⟩ : ∃ t : Nat, e + (i0 : Int) - La = (t : Int) := ⟨(e + (i0 : Int) - La).toNat, by omega⟩
          have t64 : t < 64 := by omega
          have qw := wrap_pow t t64
          cases tb : A.testBit i0
          · have Z := q_no (A := A) (i := i0) (k := La - e) (t := t) (by omega) t64 HQ.out tb
            rw [tb] at cj
            clear tb row
            go_wp2
            go_round
            case rel => exact ⟨i0, by omega, rfl, by rcases i0 with _ | i1; exact Or.inl ⟨rfl, by go_num⟩; exact Or.inr ⟨i1, rfl, by go_num⟩⟩
            case measure => simp [intOf]
          · have Z := q_yes (A := A) (i := i0) (k := La - e) (t := t) (by omega) t64 HQ.out tb
            rw [tb] at cj
            clear tb row
            go_wp2
            go_round
            case rel => exact ⟨i0, by omega, rfl, by rcases i0 with _ | i1; exact Or.inl ⟨rfl, by go_num⟩; exact Or.inr ⟨i1, rfl, by go_num⟩⟩
            case measure => simp [intOf]
        · have Z : Hid _ := qTo_no A (La - e) i0 (by omega)
          have hge' : e + (i0 : Int) < La := by omega
          cases tb : A.testBit i0
          · rw [tb] at cj
            clear tb row
            go_wp2
            go_round
            case rel => exact ⟨i0, by omega, by rw [Z.out], by rcases i0 with _ | i1; exact Or.inl ⟨rfl, by go_num⟩; exact Or.inr ⟨i1, rfl, by go_num⟩⟩
            case measure => simp [intOf]
          · rw [tb] at cj
            clear tb row
            go_wp2
            go_round
            case rel => exact ⟨i0, by omega, by rw [Z.out], by rcases i0 with _ | i1; exact Or.inl ⟨rfl, by go_num⟩; exact Or.inr ⟨i1, rfl, by go_num⟩⟩
            case measure => simp [intOf]
end Go.Proofs.YtfdinlomlcnjnaaDoor

