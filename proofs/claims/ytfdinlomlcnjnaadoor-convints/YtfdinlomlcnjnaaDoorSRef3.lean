/- plumblineref03: bits, value, and a float in another format. -/
import Derived.Test.YtfdinlomlcnjnaaDoorSRefT
import Derived.Test.YtfdinlomlcnjnaaDoorConvB
namespace Go.Proofs.YtfdinlomlcnjnaaDoor
open Go.RowKit
set_option linter.unusedVariables false
set_option linter.unusedSimpArgs false
set_option maxHeartbeats 1600000 in
/-- A number's bits, the lowest first. -/
theorem rbits3_any (X : Nat) (hX : X < 18446744073709551616) (w : World) :
    Calls Tryd.prog 51 #[.int .u64 (X : Int)] w fun e w' => ∃ v, e = .returned v ∧ w'.ownsRow w.heap.size 4 1 v (blen X) (Bl (blen X) X) ∧ Below w.heap.size w w' := by
  obtain ⟨i0, hi, hz0, hz1, hz2⟩ := info_parts Tryd.infoB
  go_enter Tryd.func51, Tryd.ntmps51
  go_wp2
  go_loopw [0, 3] (fun x v wr => ∃ k : Nat, k ≤ 64 ∧ x = .int .u64 ((X / 2 ^ k : Nat) : Int) ∧ wr.ownsRow w.heap.size 4 1 v k (Bl k X) ∧ (k = 0 ∨ X / 2 ^ (k - 1) ≠ 0) ∧ Below w.heap.size w wr) (fun x _ _ => (intOf x).toNat)
  case atStart => exact ⟨0, by omega, by simp, World.ownsRow_nil _ _ _ _, Or.inl rfl, Below.refl _ _⟩
  case round =>
    obtain ⟨k, hk, rfl, hown, hpos, hb⟩ := hrel
    have hlt : X / 2 ^ k < 18446744073709551616 := Nat.lt_of_le_of_lt (Nat.div_le_self _ _) hX
    by_cases z : X / 2 ^ k = 0
    · have e : blen X = k := by
        rcases hpos with rfl | hp
        · rw [Nat.pow_zero, Nat.div_one] at z
          subst z
          exact blen_zero
        · have k1 : 1 ≤ k := by
            rcases Nat.eq_zero_or_pos k with rfl | h
            · exact absurd z hp
            · exact h
          refine blen_uniq k1 ?_ ?_
          · by_cases c : 2 ^ (k - 1) ≤ X
            · exact c
            · exact absurd (Nat.div_eq_of_lt (by omega)) hp
          · exact Nat.lt_of_div_eq_zero (Nat.two_pow_pos k) z
      have E : Hid _ := e
      rw [z]
      clear e z hpos hlt
      go_wp2
      go_ret
      exact ⟨_, rfl, by rw [E.out]; exact hown, hb⟩
    · have kl : k < 64 := by
        by_cases c : k < 64
        · exact c
        · exfalso
          apply z
          exact Nat.div_eq_of_lt (Nat.lt_of_lt_of_le hX (by rw [show (18446744073709551616 : Nat) = 2 ^ 64 from rfl]; exact Nat.pow_le_pow_right (by decide) (by omega)))
      have zp : (0 : Int) < ((X / 2 ^ k : Nat) : Int) := Int.natCast_pos.2 (Nat.pos_of_ne_zero z)
      have zp' : ((X / 2 ^ k : Nat) : Int) < 18446744073709551616 := Int.ofNat_lt.2 hlt
      have q1 : (((X / 2 ^ k : Nat) : Int) % 2 == 1) = X.testBit k := by
        rw [Nat.testBit_eq_decide_div_mod_eq, Bool.eq_iff_iff, beq_iff_eq, decide_eq_true_iff]
        generalize X / 2 ^ k = d
        omega
      have q2 : Hid (((X / 2 ^ k : Nat) : Int) / 2 = ((X / 2 ^ (k + 1) : Nat) : Int)) := by
        rw [Nat.pow_succ, ← Nat.div_div_eq_div_mul]; rfl
      have Z : Hid _ := z
      clear z hlt
      generalize hD : ((X / 2 ^ k : Nat) : Int) = D at *
      have HD : Hid _ := hD
      clear hD
      go_wp2_with (first
        | (at_builtin; refine wpList_append_own _ rfl _ _ 67 rfl w.heap.size 4 i0 (.bool false) 1 1 Tryd.underlying67 hi hz0 hz1 hz2 rfl (by decide) _ _ _ rfl (hown.alloc _) ⟨wr.heap.size, 0, none⟩ 1 1 [.bool (X.testBit k)] rfl rfl ?c1 ?c2 ?c3 ?c4 ?c5 ?_)
        | go_in)
      case c1 =>
        intro j u hj
        match j, hj with
        | 0, hj => simp at hj; subst hj; simp [Addr.add]
      case c2 => intro u hu; simp at hu; subst hu; rfl
      case c3 => unfold maxLen; omega
      case c4 => omega
      case c5 => have := hb.size; simp; omega
      · intro v' w1 hown' hgrow _
        rw [Bl_snoc] at hown'
        have hb' := (hb.alloc hb.size _).grown hgrow (by have := hb.size; simp; omega) (own_block hown)
        clear hgrow hown
        go_wp2
        go_roundw
        case rel => exact ⟨k + 1, by omega, by rw [← q2.out], hown', Or.inr (by simpa using Z.out), hb'⟩
        case measure => simp [intOf]; omega
theorem rvalue3_any (s : Bool) (a : Int) (h : Word a) (hw : wideB s a = false) (w : World) : Calls Tryd.prog 47 #[.int .i64 (fb s), .int .u64 a] w fun e w' => e = .returned (.tuple #[.int .u64 (whl s a), .int .i64 (pwr s a)]) ∧ w' = w.drew := by
  have h1 := h.1
  have h2 := h.2
  cases s
  · have hs := rsize_d
    have n1 : bits BinOp.and IntKind.u64 (a / 4503599627370496) 2047 = xpo false a := and_bits (a / 4503599627370496).toNat 11 2047 rfl (by decide) _ (by omega) (by omega)
    have n2 : bits BinOp.and IntKind.u64 a 4503599627370495 = a % 4503599627370496 := and_bits a.toNat 52 4503599627370495 rfl (by decide) _ (by omega) (by omega)
    have e1 : zOf false a / 2 ^ fP false = xpo false a := by
      rw [zOf_double a h]
      show a % 9223372036854775808 / 4503599627370496 = a / 4503599627370496 % 2048
      omega
    have x0 : 0 ≤ xpo false a ∧ xpo false a < 2048 := by
      show 0 ≤ a / 4503599627370496 % 2048 ∧ a / 4503599627370496 % 2048 < 2048
      omega
    have hwh : whl false a = if 0 < xpo false a then a % 4503599627370496 + 4503599627370496 else a % 4503599627370496 := by unfold whl; rw [e1]; rfl
    have hpw : pwr false a = if 0 < xpo false a then -1074 + (xpo false a - 1) else -1074 := by unfold pwr; rw [e1]; rfl
    have om : bits BinOp.or IntKind.u64 (a % 4503599627370496) 4503599627370496 = a % 4503599627370496 + 4503599627370496 := by
      obtain ⟨x, hx⟩ : ∃ x : Nat, a % 4503599627370496 = x := ⟨(a % 4503599627370496).toNat, by omega⟩
      rw [hx]
      have t := u64_or_nat x 4503599627370496 (by omega) (by decide)
      have o := Nat.two_pow_add_eq_or_of_lt (i := 52) (b := x) (by omega) 1
      rw [Nat.mul_one, Nat.or_comm] at o
      rw [show (4503599627370496 : Nat) = 2 ^ 52 from rfl, ← o] at t
      exact t.trans (by rw [show (2 : Nat) ^ 52 = 4503599627370496 from rfl]; omega)
    show Calls Tryd.prog 47 #[.int .i64 0, .int .u64 a] w _
    rw [hwh, hpw]
    clear hwh hpw e1
    have om2 : a % 4503599627370496 + 4503599627370496 < 18446744073709551616 := by omega
    generalize xpo false a = X at *
    obtain ⟨x0, x1⟩ := x0
    generalize a % 4503599627370496 = M at *
    by_cases c : X = 0
    · subst c
      rw [if_neg (by decide), if_neg (by decide)]
      go_enter Tryd.func47, Tryd.ntmps47
      go_wp2_with (go_at_call 67; refine (hs _).mono ?_; rintro e w1 ⟨rfl, rfl⟩)
      go_region
      go_wp2_with fail
      exact bodyPost_ret (v := .tuple #[.int .u64 M, .int .i64 (-1074)]) (by simp [results, Tryd.results47, go_sem]) rfl ⟨rfl, rfl⟩
    · rw [if_pos (by omega), if_pos (by omega)]
      have c' : (X == 0) = false := by simp [c]
      have e3 : X - 1 + -1074 = -1074 + (X - 1) := by omega
      generalize M + 4503599627370496 = MM at *
      go_enter Tryd.func47, Tryd.ntmps47
      go_wp2_with (go_at_call 67; refine (hs _).mono ?_; rintro e w1 ⟨rfl, rfl⟩)
      go_region
      go_wp2_with fail
      refine bodyPost_ret (v := .tuple #[.int .u64 MM, .int .i64 (-1074 + (X - 1))]) ?_ rfl ⟨rfl, rfl⟩
      simp [results, Tryd.results47, go_sem]
      try omega
  · have a3 : a < 4294967296 := by unfold wideB at hw; simp at hw; exact hw
    have hs := rsize_s
    have n1 : bits BinOp.and IntKind.u64 (a / 8388608) 255 = xpo true a := and_bits (a / 8388608).toNat 8 255 rfl (by decide) _ (by omega) (by omega)
    have n2 : bits BinOp.and IntKind.u64 a 8388607 = a % 8388608 := and_bits a.toNat 23 8388607 rfl (by decide) _ (by omega) (by omega)
    have e1 : zOf true a / 2 ^ fP true = xpo true a := by
      rw [zOf_single a h1 a3]
      show a % 2147483648 / 8388608 = a / 8388608 % 256
      omega
    have x0 : 0 ≤ xpo true a ∧ xpo true a < 256 := by
      show 0 ≤ a / 8388608 % 256 ∧ a / 8388608 % 256 < 256
      omega
    have hwh : whl true a = if 0 < xpo true a then a % 8388608 + 8388608 else a % 8388608 := by unfold whl; rw [e1]; rfl
    have hpw : pwr true a = if 0 < xpo true a then -149 + (xpo true a - 1) else -149 := by unfold pwr; rw [e1]; rfl
    have om : bits BinOp.or IntKind.u64 (a % 8388608) 8388608 = a % 8388608 + 8388608 := by
      obtain ⟨x, hx⟩ : ∃ x : Nat, a % 8388608 = x := ⟨(a % 8388608).toNat, by omega⟩
      rw [hx]
      have t := u64_or_nat x 8388608 (by omega) (by decide)
      have o := Nat.two_pow_add_eq_or_of_lt (i := 23) (b := x) (by omega) 1
      rw [Nat.mul_one, Nat.or_comm] at o
      rw [show (8388608 : Nat) = 2 ^ 23 from rfl, ← o] at t
      exact t.trans (by rw [show (2 : Nat) ^ 23 = 8388608 from rfl]; omega)
    show Calls Tryd.prog 47 #[.int .i64 1, .int .u64 a] w _
    rw [hwh, hpw]
    clear hwh hpw e1
    have om2 : a % 8388608 + 8388608 < 18446744073709551616 := by omega
    generalize xpo true a = X at *
    obtain ⟨x0, x1⟩ := x0
    generalize a % 8388608 = M at *
    by_cases c : X = 0
    · subst c
      rw [if_neg (by decide), if_neg (by decide)]
      go_enter Tryd.func47, Tryd.ntmps47
      go_wp2_with (go_at_call 67; refine (hs _).mono ?_; rintro e w1 ⟨rfl, rfl⟩)
      go_region
      go_wp2_with fail
      exact bodyPost_ret (v := .tuple #[.int .u64 M, .int .i64 (-149)]) (by simp [results, Tryd.results47, go_sem]) rfl ⟨rfl, rfl⟩
    · rw [if_pos (by omega), if_pos (by omega)]
      have c' : (X == 0) = false := by simp [c]
      have e3 : X - 1 + -149 = -149 + (X - 1) := by omega
      generalize M + 8388608 = MM at *
      go_enter Tryd.func47, Tryd.ntmps47
      go_wp2_with (go_at_call 67; refine (hs _).mono ?_; rintro e w1 ⟨rfl, rfl⟩)
      go_region
      go_wp2_with fail
      refine bodyPost_ret (v := .tuple #[.int .u64 MM, .int .i64 (-149 + (X - 1))]) ?_ rfl ⟨rfl, rfl⟩
      simp [results, Tryd.results47, go_sem]
      try omega
theorem kinds3T (k : Int) : ((k == 0 || k == 5) = true ∧ (k == 4) = false ∧ k = 0) ∨ ((k == 0 || k == 5) = true ∧ (k == 4) = false ∧ k = 5) ∨ ((k == 0 || k == 5) = false ∧ (k == 4) = true ∧ k = 4) ∨ ((k == 0 || k == 5) = false ∧ (k == 4) = false ∧ (k == 0) = false ∧ (k == 5) = false ∧ k ≠ 4) := by
  by_cases c1 : k = 0
  · subst c1; decide
  · by_cases c2 : k = 5
    · subst c2; decide
    · by_cases c3 : k = 4
      · subst c3; decide
      · simp [c1, c2, c3]
theorem wide_notT {s : Bool} {a : Int} (h : (cls s a == 0 || cls s a == 5) = false) : wideB s a = false := by
  cases c : wideB s a
  · rfl
  · exfalso
    have : cls s a = 0 := by unfold cls; rw [c]; rfl
    rw [this] at h
    exact absurd h (by decide)
set_option maxRecDepth 8000 in
set_option maxHeartbeats 3200000 in
/-- The reference's float in another format. -/
theorem rturned_any (s t : Bool) (m a : Int) (h : Word a) (w : World) :
    Calls Tryd.prog 42 #[.int .i64 (fb s), .int .i64 (fb t), .int .i64 m, .int .u64 a] w fun e w' => e = .returned (.int .u64 (cvtF s t m a)) ∧ Below w.heap.size w w' := by
  have hcl := rclass_any s a h
  have hnan := rnan_any t
  have hbl := rbelow_any s a
  have hinf := rinf_any t (sgn s a)
  have hv := fun h' => rvalue3_any s a h (wide_notT h')
  have hfin := fin_of s a h
  have hrd := fun (v : Value) (n A : Nat) => rounded_any t m (sgn s a) v n A
  have K := kinds3T (cls s a)
  unfold cvtF
  generalize hN : (cls s a == 0 || cls s a == 5) = N1 at *
  generalize hI : (cls s a == 4) = I1 at *
  generalize cls s a = k at *
  generalize sgn s a = b at *
  generalize sgnd t b (fI t) = VI at *
  generalize fNan t = Q at *
  generalize hft : fb t = ft at *
  generalize hfs : fb s = fs at *
  clear hN hI
  rcases K with ⟨rfl, rfl, rfl⟩ | ⟨rfl, rfl, rfl⟩ | ⟨rfl, rfl, rfl⟩ | ⟨rfl, rfl, k0, k5, k4⟩
  case inr.inr.inr =>
    have k4' : (k == 4) = false := by simp [k4]
    have F1 := fin_wordC (hfin rfl rfl).1
    have v1 := hv rfl
    clear hv hfin hnan hinf
    simp only [Bool.false_eq_true, if_false]
    generalize whl s a = u at *
    generalize pwr s a = p at *
    obtain ⟨a1, a2, a3, a4⟩ := F1
    obtain ⟨X, rfl⟩ := Int.eq_ofNat_of_zero_le a1.1
    rw [Int.toNat_natCast]
    have hX := lt_blen X
    have lX : blen X ≤ 53 := blen_le_of (by omega : X < 2 ^ 53)
    have hbX : ∀ w : World, Calls Tryd.prog 51 #[.int .u64 (X : Int)] w fun e w' => ∃ v, e = .returned v ∧ BitV w' v (blen X) X ∧ Below w.heap.size w w' := fun w => (rbits3_any X (by omega) w).mono fun e w' ⟨v, h1, h2, h3⟩ => ⟨v, h1, own_bits h2 hX, h3⟩
    obtain ⟨V, hV⟩ : ∃ V : Int, rnd t m b X p = V := ⟨_, rfl⟩
    have hR : ∀ v w, BitV w v (blen X) X → Calls Tryd.prog 50 #[.int .i64 ft, .int .i64 m, .bool b, v, .int .i64 p] w fun r w' => r = .returned (.int .u64 V) ∧ ∃ k, w' = w.drewN k := fun v w hb => by
      rw [← hV]
      exact hrd v (blen X) X (by omega) p (by omega) (by omega) w hb
    rw [hV]
    clear hrd hV hX
    generalize blen X = nX at *
    go_enter Tryd.func42, Tryd.ntmps42
    go_wp2_with (first
      | (go_at_call 34; refine (hcl _).mono ?_; rintro e w1 ⟨rfl, n1, rfl⟩)
      | (go_at_call 47; refine (v1 _).mono ?_; rintro e w1 ⟨rfl, rfl⟩)
      | (go_at_call 48; refine (hbl _).mono ?_; rintro e w1 ⟨rfl, hw⟩; rw [hw]; clear hw w1)
      | (go_at_call 51; refine (hbX _).mono ?_; rintro e w2 ⟨v, rfl, bv, L2⟩)
      | (go_at_call 50; refine (hR v _ bv).mono ?_; rintro e w3 ⟨rfl, k3, rfl⟩)
      | fail)
    go_ret
    exact ⟨rfl, below_dN (below_callC (below_dN (Below.refl _ _) _) L2) _⟩
  all_goals
    clear hrd hv hfin
    go_enter Tryd.func42, Tryd.ntmps42
    go_wp2_with (first
      | (go_at_call 34; refine (hcl _).mono ?_; rintro e w1 ⟨rfl, n1, rfl⟩)
      | (go_at_call 60; refine (hnan _).mono ?_; rintro e w1 ⟨rfl, rfl⟩)
      | (go_at_call 48; refine (hbl _).mono ?_; rintro e w1 ⟨rfl, hw⟩; rw [hw]; clear hw w1)
      | (go_at_call 76; refine (hinf _).mono ?_; rintro e w1 ⟨rfl, n2, rfl⟩)
      | fail)
    go_ret
    exact ⟨rfl, below_dN (Below.refl _ _) _⟩
theorem rwiden_any (a : Int) (h : Word a) (w : World) : Calls Tryd.prog 14 #[.int .u64 a] w fun e w' => e = .returned (.int .u64 (cvtF true false 0 a)) ∧ Below w.heap.size w w' := by
  have ht : ∀ w, Calls Tryd.prog 42 #[.int .i64 1, .int .i64 0, .int .i64 0, .int .u64 a] w fun e w' => e = .returned (.int .u64 (cvtF true false 0 a)) ∧ Below w.heap.size w w' := rturned_any true false 0 a h
  generalize cvtF true false 0 a = V at *
  go_enter Tryd.func14, Tryd.ntmps14
  go_wp2_with (go_at_call 42; refine (ht _).mono ?_; rintro e w1 ⟨rfl, b1⟩)
  go_ret
  exact ⟨rfl, b1⟩
theorem rnarrow_any (m a : Int) (h : Word a) (w : World) : Calls Tryd.prog 16 #[.int .i64 m, .int .u64 a] w fun e w' => e = .returned (.int .u64 (cvtF false true m a)) ∧ Below w.heap.size w w' := by
  have ht : ∀ w, Calls Tryd.prog 42 #[.int .i64 0, .int .i64 1, .int .i64 m, .int .u64 a] w fun e w' => e = .returned (.int .u64 (cvtF false true m a)) ∧ Below w.heap.size w w' := rturned_any false true m a h
  generalize cvtF false true m a = V at *
  go_enter Tryd.func16, Tryd.ntmps16
  go_wp2_with (go_at_call 42; refine (ht _).mono ?_; rintro e w1 ⟨rfl, b1⟩)
  go_ret
  exact ⟨rfl, b1⟩
end Go.Proofs.YtfdinlomlcnjnaaDoor

