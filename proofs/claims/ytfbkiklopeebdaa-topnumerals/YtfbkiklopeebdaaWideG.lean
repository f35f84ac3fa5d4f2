/- What math/bits.Div64 and wide.Div answer. -/
import Derived.Test.YtfbkiklopeebdaaAids
import Derived.Deep.CutBlock
namespace Go.Proofs.Ytfbkiklopeebdaa
open Go.RowKit
set_option linter.unusedVariables false

theorem lz64 (y : Int) (hy : Word y) (h0 : y ≠ 0) (w : World) : Calls Try.prog 30 #[.int .u64 y] w fun e w' => ∃ s : Int, e = .returned (.int .i64 s) ∧ 0 ≤ s ∧ s ≤ 63 ∧ Hid (9223372036854775808 ≤ y * 2 ^ s.toNat ∧ y * 2 ^ s.toNat < 18446744073709551616) ∧ w' = w := by
  refine (Try.bits_LeadingZeros64 y w hy.1 (by have := hy.2; omega)).mono ?_
  rintro e w' ⟨rfl, rfl⟩
  obtain ⟨x, rfl⟩ := Int.eq_ofNat_of_zero_le hy.1
  have hx := hy.2
  obtain ⟨a, b, c, d⟩ := bitLenAux_spec 64 x (by omega)
  rw [Int.toNat_natCast]
  show ∃ s : Int, Ending.returned (.int .i64 (64 - ((Lib.bitLenAux 64 x : Nat) : Int))) = _ ∧ _
  generalize Lib.bitLenAux 64 x = n at *
  have hn : n ≠ 0 := by rintro rfl; rw [Nat.pow_zero] at b; omega
  refine ⟨_, rfl, by omega, by omega, ?_, rfl⟩
  have e : (64 - (n : Int)).toNat = 64 - n := by omega
  rw [e]
  have c1 : (x : Int) * 2 ^ (64 - n) = ((x * 2 ^ (64 - n) : Nat) : Int) := by simp
  show _ ∧ _
  rw [c1]
  have pp := pow_split (n := n) a
  have p2 := pow_pos' (64 - n)
  have l : x * 2 ^ (64 - n) < 2 ^ n * 2 ^ (64 - n) := Nat.mul_lt_mul_of_pos_right b p2
  have g : 2 ^ n * 2 ^ (64 - n) ≤ (2 * x) * 2 ^ (64 - n) := Nat.mul_le_mul_right _ (c.resolve_left (by omega))
  rw [pp, Nat.mul_assoc] at g
  rw [pp] at l
  omega

/-! ### One half of the quotient: a digit of 32 bits -/
/-- What holds of a guess q at the digit Q, with its rest p. (U: what is divided, D: the next digit, V and X: the halves of what it is by.) -/
structure Half (U V X D Q q p : Int) : Prop where
  sum : q * V + p = U
  le : Q ≤ q
  p0 : 0 ≤ p
  p1 : p < 4294967296
  q0 : 0 ≤ q
  q1 : q ≤ 4294967297
/-- Q is the digit. -/
structure Digit (U V X D Q : Int) : Prop where
  V0 : 2147483648 ≤ V
  V1 : V < 4294967296
  X0 : 0 ≤ X
  X1 : X < 4294967296
  D0 : 0 ≤ D
  D1 : D < 4294967296
  U0 : 0 ≤ U
  U1 : U < V * 4294967296 + X
  Q0 : 0 ≤ Q
  lo : Q * (V * 4294967296 + X) ≤ U * 4294967296 + D
  hi : U * 4294967296 + D < Q * (V * 4294967296 + X) + (V * 4294967296 + X)
theorem yy_mul (q V X : Int) : q * (V * 4294967296 + X) = q * V * 4294967296 + q * X := by rw [Int.mul_add, Int.mul_assoc]
theorem Digit.mono {U V X D Q : Int} (h : Digit U V X D Q) {a b : Int} (l : a ≤ b) : a * (V * 4294967296 + X) ≤ b * (V * 4294967296 + X) :=
  Int.mul_le_mul_of_nonneg_right l (by have := h.V0; have := h.X0; omega)
theorem Digit.lt {U V X D Q : Int} (h : Digit U V X D Q) : Q < 4294967296 := by
  by_cases c : Q < 4294967296
  · exact c
  · have m := h.mono (show (4294967296 : Int) ≤ Q by omega)
    have a := h.lo; have b := h.U1; have d := h.D1
    omega
theorem Digit.start {U V X D Q : Int} (h : Digit U V X D Q) : Half U V X D Q (U / V) (U - U / V * V) := by
  have v0 := h.V0; have u0 := h.U0
  have vp : 0 < V := by omega
  have e := Int.mul_ediv_add_emod U V
  have l := Int.emod_lt_of_pos U vp
  have g := Int.emod_nonneg U (show V ≠ 0 by omega)
  have qn : 0 ≤ U / V := Int.ediv_nonneg u0 (by omega)
  rw [Int.mul_comm] at e
  generalize hq : U / V = q at *
  have v1 := h.V1
  refine ⟨by omega, ?_, by omega, by omega, qn, ?_⟩
  · by_cases c : Q ≤ q
    · exact c
    · have m := h.mono (show q + 1 ≤ Q by omega)
      have e1 : (q + 1) * V = q * V + V := by rw [Int.add_mul, Int.one_mul]
      have e2 : (q + 1) * X = q * X + X := by rw [Int.add_mul, Int.one_mul]
      rw [yy_mul, e1, e2] at m
      have qx : 0 ≤ q * X := Int.mul_nonneg qn h.X0
      have a := h.lo; have x0 := h.X0; have d1 := h.D1
      omega
  · by_cases c : q ≤ 4294967297
    · exact c
    · have m : 4294967298 * V ≤ q * V := Int.mul_le_mul_of_nonneg_right (by omega) (by omega)
      have a := h.U1; have x1 := h.X1
      omega
theorem Half.down1 {U V X D Q q p : Int} (h : Digit U V X D Q) (i : Half U V X D Q q p) (c : 4294967296 ≤ q) : Q ≤ q - 1 := by
  have := h.lt; omega
theorem Half.down2 {U V X D Q q p : Int} (h : Digit U V X D Q) (i : Half U V X D Q q p) (c : 4294967296 * p + D < q * X) : Q ≤ q - 1 := by
  by_cases k : Q ≤ q - 1
  · exact k
  · have m := h.mono (show q ≤ Q by omega)
    rw [yy_mul q] at m
    have s := i.sum; have a := h.lo
    omega
theorem Half.next {U V X D Q q p : Int} (h : Digit U V X D Q) (i : Half U V X D Q q p) (k : Q ≤ q - 1) (c : p + V < 4294967296) : Half U V X D Q (q - 1) (p + V) := by
  have s := i.sum; have a := i.p0; have v := h.V0; have q0 := h.Q0; have q1 := i.q1
  refine ⟨?_, k, by omega, c, by omega, by omega⟩
  rw [Int.sub_mul, Int.one_mul]; omega
theorem Half.fin {U V X D Q q p : Int} (h : Digit U V X D Q) (i : Half U V X D Q q p) (c : ¬ 4294967296 * p + D < q * X) : q = Q := by
  have l := i.le
  by_cases k : q ≤ Q
  · omega
  · have m := h.mono (show Q + 1 ≤ q by omega)
    rw [yy_mul q, Int.add_mul, Int.one_mul] at m
    have s := i.sum; have a := h.hi
    omega
theorem Half.brk {U V X D Q q p : Int} (h : Digit U V X D Q) (i : Half U V X D Q q p) (k : Q ≤ q - 1) (c : 4294967296 ≤ p + V) : q - 1 = Q := by
  by_cases j : q - 1 ≤ Q
  · omega
  · have m := h.mono (show Q + 1 ≤ q - 1 by omega)
    rw [yy_mul (q - 1), Int.add_mul, Int.one_mul, Int.sub_mul q 1 V, Int.one_mul] at m
    have s := i.sum; have a := h.hi
    have qx : (q - 1) * X ≤ 4294967296 * X := Int.mul_le_mul_of_nonneg_right (by have := i.q1; omega) h.X0
    have x1 := h.X1
    have d0 := h.D0
    omega
/-- There is such a digit. -/
theorem digit_of {U V X D : Int} (V0 : 2147483648 ≤ V) (V1 : V < 4294967296) (X0 : 0 ≤ X) (X1 : X < 4294967296) (D0 : 0 ≤ D) (D1 : D < 4294967296) (U0 : 0 ≤ U) (U1 : U < V * 4294967296 + X) :
    Digit U V X D ((U * 4294967296 + D) / (V * 4294967296 + X)) := by
  have yp : 0 < V * 4294967296 + X := by omega
  have e := Int.mul_ediv_add_emod (U * 4294967296 + D) (V * 4294967296 + X)
  have l := Int.emod_lt_of_pos (U * 4294967296 + D) yp
  have g := Int.emod_nonneg (U * 4294967296 + D) (show V * 4294967296 + X ≠ 0 by omega)
  have qn : 0 ≤ (U * 4294967296 + D) / (V * 4294967296 + X) := Int.ediv_nonneg (by omega) (by omega)
  rw [Int.mul_comm] at e
  exact ⟨V0, V1, X0, X1, D0, D1, U0, U1, qn, by omega, by omega⟩

theorem half_mul {q X : Int} (q0 : 0 ≤ q) (q1 : q < 4294967296) (X0 : 0 ≤ X) (X1 : X < 4294967296) : 0 ≤ q * X ∧ q * X < 18446744073709551616 := by
  have a : 0 ≤ q * X := Int.mul_nonneg q0 X0
  have b : q * X ≤ 4294967295 * 4294967295 := Int.mul_le_mul (by omega) (by omega) X0 (by decide)
  omega
theorem u64_eq {a b : Int} (h : a = b) : Value.int IntKind.u64 a = Value.int IntKind.u64 b := by rw [h]
theorem and_mask (x : Int) (hx : Word x) : bits BinOp.and IntKind.u64 x 4294967295 = x % 4294967296 := by
  obtain ⟨a, rfl⟩ := Int.eq_ofNat_of_zero_le hx.1
  have ha := hx.2
  have t := bits_and_u64_nat a 4294967295 (by omega) (by omega)
  have e : a &&& 4294967295 = a % 4294967296 := Nat.and_two_pow_sub_one_eq_mod a 32
  rw [e] at t
  have t' : bits BinOp.and IntKind.u64 (a : Int) 4294967295 = ((a % 4294967296 : Nat) : Int) := t
  rw [t']; omega

theorem ret2_eq {a b c d : Int} (h : a = b) (h' : c = d) : Ending.returned (.tuple #[.int .u64 a, .int .u64 c]) = .returned (.tuple #[.int .u64 b, .int .u64 d]) := by rw [h, h']
/-- The two digits are the quotient, and what is left, moved back, the rest. -/
theorem div64_fin (A y pw U T D E Q R P Z Y NN : Int) (pp : 0 < pw) (hN : A * pw = NN) (hY : y * pw = Y) (g : num U T = NN) (eT : T = D * 4294967296 + E) (hR : U * 4294967296 + D - Q * Y = R) (hZ : R * 4294967296 + E - P * Y = Z) (Z0 : 0 ≤ Z) (Z1 : Z < Y) :
    Q * 4294967296 + P = A / y ∧ Z / pw = A % y := by
  have yp : 0 < Y := by omega
  have e : Z + Y * (Q * 4294967296 + P) = NN := by
    have e1 : Y * (Q * 4294967296 + P) = Q * Y * 4294967296 + P * Y := by
      rw [Int.mul_add, Int.mul_comm Y P, ← Int.mul_assoc, Int.mul_comm Y Q]
    rw [e1, ← g, ← hZ, ← hR, eT]
    unfold num
    omega
  obtain ⟨q, r⟩ := (Int.ediv_emod_unique yp).2 ⟨e, Z0, Z1⟩
  constructor
  · rw [← q, ← hN, ← hY, Int.mul_ediv_mul_of_pos_left _ _ pp]
  · rw [← r, ← hN, ← hY, Int.mul_comm A pw, Int.mul_comm y pw, Int.mul_emod_mul_of_pos _ _ pp, Int.mul_ediv_cancel_left _ (by omega)]

set_option maxHeartbeats 3200000 in
theorem div64_main (hi lo y : Int) (h1 : Word hi) (h2 : Word lo) (h3 : Word y) (h0 : 0 < hi) (hlt : hi < y) (w : World) :
    Calls Try.prog 24 #[.int .u64 hi, .int .u64 lo, .int .u64 y] w fun e w' => e = .returned (.tuple #[.int .u64 (num hi lo / y), .int .u64 (num hi lo % y)]) ∧ w' = w := by
  have y0 : (y == 0) = false := by simp; omega
  have y1 : ¬ y ≤ hi := by omega
  have y2 : (hi == 0) = false := by simp; omega
  obtain ⟨a1, a2⟩ := id h1; obtain ⟨b1, b2⟩ := id h2; obtain ⟨d1, d2⟩ := id h3
  go_enter Try.func24, Try.ntmps24
  go_wp2_with fail
  refine (lz64 y h3 (by omega) _).mono ?_
  rintro e w1 ⟨s, rfl, s0, s1, S, rfl⟩
  obtain ⟨Y0, Y1⟩ := S.out
  obtain ⟨g1, g2, g3⟩ := shl_small hi lo s h1 h2 s0 (by omega)
  have pp : (0 : Int) < 2 ^ s.toNat := Int.pow_pos (by decide)
  have gl : num hi lo * 2 ^ s.toNat < y * 2 ^ s.toNat * 18446744073709551616 := by
    have : num hi lo < y * 18446744073709551616 := by unfold num; omega
    have := Int.mul_lt_mul_of_pos_right this pp
    rw [Int.mul_right_comm] at this; exact this
  have gn : 0 ≤ num hi lo * 2 ^ s.toNat := Int.mul_nonneg (num_lo h1 h2) (by omega)
  have qY : IntKind.u64.wrap (y * 2 ^ s.toNat) = y * 2 ^ s.toNat := by rw [IntKind.wrap_u64]; omega
  rw [Int.emod_eq_of_lt gn (by omega)] at g3
  generalize hN : num hi lo * 2 ^ s.toNat = NN at *
  generalize hY : y * 2 ^ s.toNat = Y at *
  generalize hU : bits BinOp.or IntKind.u64 (IntKind.u64.wrap (hi * 2 ^ s.toNat)) (lo / 2 ^ (64 - s).toNat) = U at *
  generalize hT : IntKind.u64.wrap (lo * 2 ^ s.toNat) = T at *
  have qA := and_mask Y ⟨by omega, Y1⟩
  have qB := and_mask T g2
  obtain ⟨u0, u1⟩ := g1
  obtain ⟨t0, t1⟩ := g2
  have U1 : U < Y := by unfold num at g3; omega
  have qY2 : IntKind.u64.wrap (y * 2 ^ s.toNat) = Y := by rw [hY]; exact qY
  have HN : Hid _ := hN
  have HY : Hid _ := hY
  have G3 : Hid _ := g3
  clear hN hY g3 gl gn qY
  have v0 : 2147483648 ≤ Y / 4294967296 := by omega
  have v1 : Y / 4294967296 < 4294967296 := by omega
  have x0 : 0 ≤ Y % 4294967296 := by omega
  have x1 : Y % 4294967296 < 4294967296 := by omega
  have eY : Y = Y / 4294967296 * 4294967296 + Y % 4294967296 := by omega
  have eT : T = T / 4294967296 * 4294967296 + T % 4294967296 := by omega
  have dd0 : 0 ≤ T / 4294967296 := by omega
  have dd1 : T / 4294967296 < 4294967296 := by omega
  have dd2 : 0 ≤ T % 4294967296 := by omega
  have dd3 : T % 4294967296 < 4294967296 := by omega
  have hV : ∃ V, Y / 4294967296 = V := ⟨_, rfl⟩
  have hX : ∃ X, Y % 4294967296 = X := ⟨_, rfl⟩
  have hD : ∃ D, T / 4294967296 = D := ⟨_, rfl⟩
  have hE : ∃ E, T % 4294967296 = E := ⟨_, rfl⟩
  obtain ⟨V, hV⟩ := hV
  obtain ⟨X, hX⟩ := hX
  obtain ⟨D, hD⟩ := hD
  obtain ⟨E, hE⟩ := hE
  rw [hV] at v0 v1 eY
  rw [hX] at x0 x1 eY qA
  rw [hD] at dd0 dd1 eT
  rw [hE] at dd2 dd3 eT qB
  have dg := digit_of v0 v1 x0 x1 dd0 dd1 u0 (by omega : U < V * 4294967296 + X)
  have st := dg.start
  generalize hQ : (U * 4294967296 + D) / (V * 4294967296 + X) = Q at dg st
  have b0 := st.p0
  have b3 : 0 ≤ U / V * V := Int.mul_nonneg st.q0 (by omega)
  have b4 : U / V * V ≤ U := by omega
  have EY : Hid _ := eY
  have ET : Hid _ := eT
  clear hQ eY eT
  go_upto_block 0 with fail
  go_cut [15, 16] from 67 to 85 (fun a b wx => a = .int .u64 Q ∧ wx = w1)
  case first =>
    go_wp2_with fail
    go_loop [15, 16] (fun a b => ∃ g p : Int, a = .int .u64 g ∧ b = .int .u64 p ∧ Half U V X D Q g p) (fun a _ => (intOf a).toNat)
    case atStart => exact ⟨_, _, rfl, rfl, st⟩
    case round =>
      obtain ⟨g, p, rfl, rfl, hI⟩ := hrel
      have p0 := hI.p0
      have p1 := hI.p1
      have g0 := hI.q0
      have g1 := hI.q1
      have HQ := dg.Q0
      by_cases c1 : 4294967296 ≤ g
      · have k := hI.down1 dg c1
        by_cases c3 : 4294967296 ≤ p + V
        · have f := hI.brk dg k c3
          have F : Hid _ := f
          clear f
          go_wp2_with fail
          go_meet
          exact ⟨u64_eq F.out, rfl⟩
        · have n := hI.next dg k (by omega)
          go_wp2_with fail
          go_round
          case rel => exact ⟨_, _, rfl, rfl, n⟩
          case measure => simp [intOf]; omega
      · obtain ⟨m0, m1⟩ := half_mul g0 (by omega) x0 x1
        by_cases c2 : 4294967296 * p + D < g * X
        · have k := hI.down2 dg c2
          by_cases c3 : 4294967296 ≤ p + V
          · have f := hI.brk dg k c3
            have F : Hid _ := f
            clear f
            go_wp2_with fail
            go_meet
            exact ⟨u64_eq F.out, rfl⟩
          · have n := hI.next dg k (by omega)
            go_wp2_with fail
            go_round
            case rel => exact ⟨_, _, rfl, rfl, n⟩
            case measure => simp [intOf]; omega
        · have f := hI.fin dg c2
          have F : Hid _ := f
          clear f
          go_wp2_with fail
          go_meet
          exact ⟨u64_eq F.out, rfl⟩
  case rest =>
    obtain ⟨rfl, rfl⟩ := hcut
    have R0 : 0 ≤ U * 4294967296 + D - Q * Y := by have := dg.lo; rw [← EY.out] at this; omega
    have R1 : U * 4294967296 + D - Q * Y < Y := by have := dg.hi; rw [← EY.out] at this; omega
    have h21 : IntKind.u64.wrap (IntKind.u64.wrap (IntKind.u64.wrap (U * 4294967296) + D) - IntKind.u64.wrap (Q * Y)) = U * 4294967296 + D - Q * Y := by
      simp only [IntKind.wrap_u64]; omega
    have Qlt := dg.lt
    have Qge := dg.Q0
    clear st b0 b3 b4
    generalize hR : U * 4294967296 + D - Q * Y = R at *
    have HR : Hid _ := hR
    clear hR
    have dg2 := digit_of v0 v1 x0 x1 dd2 dd3 R0 (by have := EY.out; omega : R < V * 4294967296 + X)
    have st2 := dg2.start
    generalize hP : (R * 4294967296 + E) / (V * 4294967296 + X) = P at dg2 st2
    have b0 := st2.p0
    have b3 : 0 ≤ R / V * V := Int.mul_nonneg st2.q0 (by omega)
    have b4 : R / V * V ≤ R := by omega
    clear hP
    go_upto_block 2 with fail
    go_cut [18, 16] from 102 to 120 (fun a b wx => a = .int .u64 P ∧ wx = wc)
    case first =>
      go_wp2_with fail
      go_loop [18, 16] (fun a b => ∃ g p : Int, a = .int .u64 g ∧ b = .int .u64 p ∧ Half R V X E P g p) (fun a _ => (intOf a).toNat)
      case atStart => exact ⟨_, _, rfl, rfl, st2⟩
      case round =>
        obtain ⟨g, p, rfl, rfl, hI⟩ := hrel
        have p0 := hI.p0
        have p1 := hI.p1
        have g0 := hI.q0
        have g1 := hI.q1
        have HQ := dg2.Q0
        by_cases c1 : 4294967296 ≤ g
        · have k := hI.down1 dg2 c1
          by_cases c3 : 4294967296 ≤ p + V
          · have f := hI.brk dg2 k c3
            have F : Hid _ := f
            clear f
            go_wp2_with fail
            go_meet
            exact ⟨u64_eq F.out, rfl⟩
          · have n := hI.next dg2 k (by omega)
            go_wp2_with fail
            go_round
            case rel => exact ⟨_, _, rfl, rfl, n⟩
            case measure => simp [intOf]; omega
        · obtain ⟨m0, m1⟩ := half_mul g0 (by omega) x0 x1
          by_cases c2 : 4294967296 * p + E < g * X
          · have k := hI.down2 dg2 c2
            by_cases c3 : 4294967296 ≤ p + V
            · have f := hI.brk dg2 k c3
              have F : Hid _ := f
              clear f
              go_wp2_with fail
              go_meet
              exact ⟨u64_eq F.out, rfl⟩
            · have n := hI.next dg2 k (by omega)
              go_wp2_with fail
              go_round
              case rel => exact ⟨_, _, rfl, rfl, n⟩
              case measure => simp [intOf]; omega
          · have f := hI.fin dg2 c2
            have F : Hid _ := f
            clear f
            go_wp2_with fail
            go_meet
            exact ⟨u64_eq F.out, rfl⟩
    case rest =>
      obtain ⟨rfl, rfl⟩ := hcut
      have Z0 : 0 ≤ R * 4294967296 + E - P * Y := by have := dg2.lo; rw [← EY.out] at this; omega
      have Z1 : R * 4294967296 + E - P * Y < Y := by have := dg2.hi; rw [← EY.out] at this; omega
      have h22 : IntKind.u64.wrap (IntKind.u64.wrap (IntKind.u64.wrap (R * 4294967296) + E) - IntKind.u64.wrap (P * Y)) = R * 4294967296 + E - P * Y := by
        simp only [IntKind.wrap_u64]; omega
      have Plt := dg2.lt
      have Pge := dg2.Q0
      clear st2 b0 b3 b4
      generalize hZ : R * 4294967296 + E - P * Y = Z at *
      have HZ : Hid _ := hZ
      clear hZ
      obtain ⟨F1, F2⟩ := div64_fin (num hi lo) y (2 ^ s.toNat) U T D E Q R P Z Y NN pp HN.out HY.out G3.out ET.out HR.out HZ.out Z0 Z1
      have K1 : Hid _ := F1
      have K2 : Hid _ := F2
      clear F1 F2
      go_wp2_with fail
      go_ret2
      exact ⟨ret2_eq K1.out K2.out, rfl⟩

set_option maxHeartbeats 800000 in
theorem div64_zero (lo y : Int) (h2 : Word lo) (h3 : Word y) (hlt : 0 < y) (w : World) :
    Calls Try.prog 24 #[.int .u64 0, .int .u64 lo, .int .u64 y] w fun e w' => e = .returned (.tuple #[.int .u64 (num 0 lo / y), .int .u64 (num 0 lo % y)]) ∧ ∃ n, w' = w.drewN n := by
  have y0 : (y == 0) = false := by simp; omega
  have y1 : ¬ y ≤ 0 := by omega
  have y2 : ¬ y = 0 := by omega
  obtain ⟨b1, b2⟩ := id h2; obtain ⟨d1, d2⟩ := id h3
  have e : num 0 lo = lo := by unfold num; omega
  rw [e]
  go_enter Try.func24, Try.ntmps24
  go_wp2_with fail
  go_region
  go_wp2_with fail
  go_ret2
  exact ⟨rfl, 1, rfl⟩

theorem div64_any (hi lo y : Int) (h1 : Word hi) (h2 : Word lo) (h3 : Word y) (hlt : hi < y) (w : World) :
    Calls Try.prog 24 #[.int .u64 hi, .int .u64 lo, .int .u64 y] w fun e w' => e = .returned (.tuple #[.int .u64 (num hi lo / y), .int .u64 (num hi lo % y)]) ∧ Below w.heap.size w w' := by
  by_cases c : hi = 0
  · subst c
    refine (div64_zero lo y h2 h3 hlt w).mono ?_
    rintro e w' ⟨rfl, n, rfl⟩
    exact ⟨rfl, by induction n with | zero => exact Below.refl _ _ | succ k ih => exact ih.drew⟩
  · refine (div64_main hi lo y h1 h2 h3 (by have := h1.1; omega) hlt w).mono ?_
    rintro e w' ⟨rfl, rfl⟩
    exact ⟨rfl, Below.refl _ _⟩

/-- The quotient by words. -/
theorem div_num (ah al b : Int) (h1 : Word ah) (h2 : Word al) (h3 : Word b) (hb : 0 < b) :
    Word (ah / b) ∧ Word (num (ah % b) al / b) ∧ Word (num (ah % b) al % b) ∧ num (ah / b) (num (ah % b) al / b) = num ah al / b ∧ num (ah % b) al % b = num ah al % b := by
  have e := Int.mul_ediv_add_emod ah b
  have l := Int.emod_lt_of_pos ah hb
  have g := Int.emod_nonneg ah (show b ≠ 0 by omega)
  have q0 : 0 ≤ ah / b := Int.ediv_nonneg h1.1 (by omega)
  have q1 : ah / b ≤ ah := Int.ediv_le_self _ h1.1
  have hM : num (ah % b) al < b * 18446744073709551616 := by unfold num Word at *; omega
  have hM0 : 0 ≤ num (ah % b) al := by unfold num Word at *; omega
  have e2 : num ah al = num (ah % b) al + b * (ah / b * 18446744073709551616) := by
    unfold num
    rw [← Int.mul_assoc]
    omega
  have d1 : num ah al / b = num (ah % b) al / b + ah / b * 18446744073709551616 := by
    rw [e2, Int.add_mul_ediv_left _ _ (by omega)]
  have d2 : num ah al % b = num (ah % b) al % b := by
    rw [e2, Int.add_mul_emod_self_left]
  have c1 : num (ah % b) al / b < 18446744073709551616 := Int.ediv_lt_of_lt_mul hb (by rw [Int.mul_comm]; exact hM)
  have c0 : 0 ≤ num (ah % b) al / b := Int.ediv_nonneg hM0 (by omega)
  have r1 := Int.emod_lt_of_pos (num (ah % b) al) hb
  have r0 := Int.emod_nonneg (num (ah % b) al) (show b ≠ 0 by omega)
  refine ⟨⟨q0, by have := h1.2; omega⟩, ⟨c0, c1⟩, ⟨r0, by have := h3.2; omega⟩, ?_, d2.symm⟩
  rw [d1]
  generalize num (ah % b) al / b = z
  unfold num
  omega

set_option maxHeartbeats 1600000 in
theorem div_zero (ah al : Int) (h1 : Word ah) (h2 : Word al) (w : World) :
    Calls Try.prog 18 #[.agg #[.int .u64 ah, .int .u64 al], .int .u64 0] w fun e w' => e = .returned (.tuple #[.agg #[.int .u64 0, .int .u64 0], .int .u64 0]) ∧ Below w.heap.size w w' := by
  go_enter Try.func18, Try.ntmps18
  go_wp2_with fail
  refine bodyPost_ret (v := .tuple #[.agg #[.int .u64 0, .int .u64 0], .int .u64 0]) (by simp [results, Try.results18, go_sem]) rfl ?_
  exact ⟨rfl, below_two _ _ _⟩
set_option maxRecDepth 100000 in
set_option maxHeartbeats 1600000 in
theorem div_pos (ah al b : Int) (h1 : Word ah) (h2 : Word al) (h3 : Word b) (hb : 0 < b) (w : World) :
    Calls Try.prog 18 #[.agg #[.int .u64 ah, .int .u64 al], .int .u64 b] w fun e w' => ∃ h l r : Int, e = .returned (.tuple #[.agg #[.int .u64 h, .int .u64 l], .int .u64 r]) ∧ Word h ∧ Word l ∧ Word r ∧ Hid (num h l = num ah al / b) ∧ Hid (r = num ah al % b) ∧ Below w.heap.size w w' := by
  obtain ⟨p1, p2, p3, p4, p5⟩ := div_num ah al b h1 h2 h3 hb
  have P4 : Hid _ := p4
  have P5 : Hid _ := p5
  clear p4 p5
  have b0 : ¬ b = 0 := by omega
  have b1 : (b == 0) = false := by simp; omega
  obtain ⟨a1, a2⟩ := id h1; obtain ⟨c1, c2⟩ := id h2; obtain ⟨d1, d2⟩ := id h3
  have qt : ah.tmod b = ah % b := Int.tmod_eq_emod_of_nonneg a1
  have qd : ah.tdiv b = ah / b := Int.tdiv_eq_ediv_of_nonneg a1
  have qw : IntKind.u64.wrap (ah / b) = ah / b := by rw [IntKind.wrap_u64]; have := p1.1; have := p1.2; omega
  have m0 : Word (ah % b) := ⟨Int.emod_nonneg ah b0, by have := Int.emod_lt_of_pos ah hb; omega⟩
  go_enter Try.func18, Try.ntmps18
  have L := (below_two w (.cells #[.int .u64 ah, .int .u64 al] 49) (.cells #[.int .u64 0, .int .u64 0] 49)).drew
  have e0 := cell_past (cell_new0 w (.int .u64 ah) (.int .u64 al) 49) (.cells #[.int .u64 0, .int .u64 0] 49)
  have e1 := cell_past (cell_new1 w (.int .u64 ah) (.int .u64 al) 49) (.cells #[.int .u64 0, .int .u64 0] 49)
  go_wp2_with fail
  go_region_held3 (fun w' => w'.cell? ⟨w.heap.size, 0, none⟩ = some (.int .u64 ah) ∧ w'.cell? ⟨w.heap.size, 1, none⟩ = some (.int .u64 al))
    (first | exact ⟨e0, e1⟩ | (simp [go_sem, *]; done))
    ((go_at_call 24; refine (div64_any (ah % b) al b m0 h2 h3 (Int.emod_lt_of_pos ah hb) _).mono ?_; rintro e w1 ⟨rfl, B1⟩; obtain ⟨hc, hf⟩ := bcell B1; replace e0 := cell_on B1 e0; replace e1 := cell_on B1 e1; replace L := below_call L B1))
  go_wp2_with fail
  refine bodyPost_ret (v := .tuple #[.agg #[.int .u64 (ah / b), .int .u64 (num (ah % b) al / b)], .int .u64 (num (ah % b) al % b)]) (by simp [results, Try.results18, go_sem, hc]) rfl ?_
  exact ⟨_, _, _, rfl, p1, p2, p3, P4, P5, (L.setCell (by simp) _).setCell (by simp) _⟩
end Go.Proofs.Ytfbkiklopeebdaa

