/- Texts of the proof, put together. -/
import Derived.Test.YtgdknlnpfnifiaaGreatTG2
import Derived.Test.YtgdknlnpfnifiaaGreatTMB3
import Derived.Test.YtgdknlnpfnifiaaGreatTG17
namespace Go.Proofs.YtgdknlnpfnifiaaGreat
open Go.RowKit
set_option linter.unusedVariables false
set_option linter.unusedSimpArgs false
set_option maxHeartbeats 1600000 in
theorem rbits3_any (X : Nat) (hX : X < 18446744073709551616) (w : World) :
    Calls Tryz.prog 136 #[.int .u64 (X : Int)] w fun e w' => ∃ v, e = .returned v ∧ w'.ownsRow w.heap.size 4 1 v (blen X) (Bl (blen X) X) ∧ Below w.heap.size w w' := by
  obtain ⟨i0, hi, hz0, hz1, hz2⟩ := info_parts Tryz.infoB
  go_enter Tryz.func136, Tryz.ntmps136
  go_wp2
  go_loopw [0, 3] (fun x v wr => ∃ k : Nat, k ≤ 64 ∧ x = .int .u64 ((X / 2 ^ k : Nat) : Int) ∧ wr.ownsRow w.heap.size 4 1 v k (Bl k X) ∧ (k = 0 ∨ X / 2 ^ (k - 1) ≠ 0) ∧ Below w.heap.size w wr) (fun x _ _ => (intOf x).toNat)
  case atStart => exact ⟨0, by omega, by simp, World.ownsRow_nil _ _ _ _, Or.inl rfl, Below.refl _ _⟩
  case round =>
    obtain ⟨k, hk, rfl, hown, hpos, hb⟩ := hrel
    have hlt : X / 2 ^ k < 18446744073709551616 := Nat.lt_of_le_of_lt (Nat.div_le_self _ _) hX
    by_cases z : X / 2 ^ k = 0
    · have e : blen X = k := by
        rcases hpos with rfl | hp
        · rw [Nat.pow_zero, Nat.div_one] at z
          subst z
          exact blen_zero
        · have k1 : 1 ≤ k := by
            rcases Nat.eq_zero_or_pos k with rfl | h
            · exact absurd z hp
            · exact h
          refine blen_uniq k1 ?_ ?_
          · by_cases c : 2 ^ (k - 1) ≤ X
            · exact c
            · exact absurd (Nat.div_eq_of_lt (by omega)) hp
          · exact Nat.lt_of_div_eq_zero (Nat.two_pow_pos k) z
      have E : Hid _ := e
      rw [z]
      clear e z hpos hlt
      go_wp2
      go_ret
      exact ⟨_, rfl, by rw [E.out]; exact hown, hb⟩
    · have kl : k < 64 := by
        by_cases c : k < 64
        · exact c
        · exfalso
          apply z
          exact Nat.div_eq_of_lt (Nat.lt_of_lt_of_le hX (by rw [show (18446744073709551616 : Nat) = 2 ^ 64 from rfl]; exact Nat.pow_le_pow_right (by decide) (by omega)))
      have zp : (0 : Int) < ((X / 2 ^ k : Nat) : Int) := Int.natCast_pos.2 (Nat.pos_of_ne_zero z)
      have zp' : ((X / 2 ^ k : Nat) : Int) < 18446744073709551616 := Int.ofNat_lt.2 hlt
      have q1 : (((X / 2 ^ k : Nat) : Int) % 2 == 1) = X.testBit k := by
        rw [Nat.testBit_eq_decide_div_mod_eq, Bool.eq_iff_iff, beq_iff_eq, decide_eq_true_iff]
        generalize X / 2 ^ k = d
        omega
      have q2 : Hid (((X / 2 ^ k : Nat) : Int) / 2 = ((X / 2 ^ (k + 1) : Nat) : Int)) := by
        rw [Nat.pow_succ, ← Nat.div_div_eq_div_mul]; rfl
      have Z : Hid _ := z
      clear z hlt
      generalize hD : ((X / 2 ^ k : Nat) : Int) = D at *
      have HD : Hid _ := hD
      clear hD
      go_wp2_with (first
        | (at_builtin; refine wpList_append_own _ rfl _ _ 139 rfl w.heap.size 4 i0 (.bool false) 1 1 Tryz.underlying139 hi hz0 hz1 hz2 rfl (by decide) _ _ _ rfl (hown.alloc _) ⟨wr.heap.size, 0, none⟩ 1 1 [.bool (X.testBit k)] rfl rfl ?c1 ?c2 ?c3 ?c4 ?c5 ?_)
        | go_in)
      case c1 =>
        intro j u hj
        match j, hj with
        | 0, hj => simp at hj; subst hj; simp [Addr.add]
      case c2 => intro u hu; simp at hu; subst hu; rfl
      case c3 => unfold maxLen; omega
      case c4 => omega
      case c5 => have := hb.size; simp; omega
      · intro v' w1 hown' hgrow _
        rw [Bl_snoc] at hown'
        have hb' := (hb.alloc hb.size _).grown hgrow (by have := hb.size; simp; omega) (own_block hown)
        clear hgrow hown
        go_wp2
        go_roundw
        case rel => exact ⟨k + 1, by omega, by rw [← q2.out], hown', Or.inr (by simpa using Z.out), hb'⟩
        case measure => simp [intOf]; omega
theorem rvalue3_any (s : Bool) (a : Int) (h : Word a) (hw : wideB s a = false) (w : World) : Calls Tryz.prog 131 #[.int .i64 (fb s), .int .u64 a] w fun e w' => e = .returned (.tuple #[.int .u64 (whl s a), .int .i64 (pwr s a)]) ∧ w' = w.drew := by
  have h1 := h.1
  have h2 := h.2
  cases s
  · have hs := rsize_d
    have n1 : bits BinOp.and IntKind.u64 (a / 4503599627370496) 2047 = xpo false a := and_bits (a / 4503599627370496).toNat 11 2047 rfl (by decide) _ (by omega) (by omega)
    have n2 : bits BinOp.and IntKind.u64 a 4503599627370495 = a % 4503599627370496 := and_bits a.toNat 52 4503599627370495 rfl (by decide) _ (by omega) (by omega)
    have e1 : zOf false a / 2 ^ fP false = xpo false a := by
      rw [zOf_double a h]
      show a % 9223372036854775808 / 4503599627370496 = a / 4503599627370496 % 2048
      omega
    have x0 : 0 ≤ xpo false a ∧ xpo false a < 2048 := by
      show 0 ≤ a / 4503599627370496 % 2048 ∧ a / 4503599627370496 % 2048 < 2048
      omega
    have hwh : whl false a = if 0 < xpo false a then a % 4503599627370496 + 4503599627370496 else a % 4503599627370496 := by unfold whl; rw [e1]; rfl
    have hpw : pwr false a = if 0 < xpo false a then -1074 + (xpo false a - 1) else -1074 := by unfold pwr; rw [e1]; rfl
    have om : bits BinOp.or IntKind.u64 (a % 4503599627370496) 4503599627370496 = a % 4503599627370496 + 4503599627370496 := by
      obtain ⟨x, hx⟩ : ∃ x : Nat, a % 4503599627370496 = x := ⟨(a % 4503599627370496).toNat, by omega⟩
      rw [hx]
      have t := u64_or_nat x 4503599627370496 (by omega) (by decide)
      have o := Nat.two_pow_add_eq_or_of_lt (i := 52) (b := x) (by omega) 1
      rw [Nat.mul_one, Nat.or_comm] at o
      rw [show (4503599627370496 : Nat) = 2 ^ 52 from rfl, ← o] at t
      exact t.trans (by rw [show (2 : Nat) ^ 52 = 4503599627370496 from rfl]; omega)
    show Calls Tryz.prog 131 #[.int .i64 0, .int .u64 a] w _
    rw [hwh, hpw]
    clear hwh hpw e1
    have om2 : a % 4503599627370496 + 4503599627370496 < 18446744073709551616 := by omega
    generalize xpo false a = X at *
    obtain ⟨x0, x1⟩ := x0
    generalize a % 4503599627370496 = M at *
    by_cases c : X = 0
    · subst c
      rw [if_neg (by decide), if_neg (by decide)]
      go_enter Tryz.func131, Tryz.ntmps131
      go_wp2_with (go_at_call 93; refine (hs _).mono ?_; rintro e w1 ⟨rfl, rfl⟩)
      go_region
      go_wp2_with fail
      exact bodyPost_ret (v := .tuple #[.int .u64 M, .int .i64 (-1074)]) (by simp [results, Tryz.results131, go_sem]) rfl ⟨rfl, rfl⟩
    · rw [if_pos (by omega), if_pos (by omega)]
      have c' : (X == 0) = false := by simp [c]
      have e3 : X - 1 + -1074 = -1074 + (X - 1) := by omega
      generalize M + 4503599627370496 = MM at *
      go_enter Tryz.func131, Tryz.ntmps131
      go_wp2_with (go_at_call 93; refine (hs _).mono ?_; rintro e w1 ⟨rfl, rfl⟩)
      go_region
      go_wp2_with fail
      refine bodyPost_ret (v := .tuple #[.int .u64 MM, .int .i64 (-1074 + (X - 1))]) ?_ rfl ⟨rfl, rfl⟩
      simp [results, Tryz.results131, go_sem]
      try omega
  · have a3 : a < 4294967296 := by unfold wideB at hw; simp at hw; exact hw
    have hs := rsize_s
    have n1 : bits BinOp.and IntKind.u64 (a / 8388608) 255 = xpo true a := and_bits (a / 8388608).toNat 8 255 rfl (by decide) _ (by omega) (by omega)
    have n2 : bits BinOp.and IntKind.u64 a 8388607 = a % 8388608 := and_bits a.toNat 23 8388607 rfl (by decide) _ (by omega) (by omega)
    have e1 : zOf true a / 2 ^ fP true = xpo true a := by
      rw [zOf_single a h1 a3]
      show a % 2147483648 / 8388608 = a / 8388608 % 256
      omega
    have x0 : 0 ≤ xpo true a ∧ xpo true a < 256 := by
      show 0 ≤ a / 8388608 % 256 ∧ a / 8388608 % 256 < 256
      omega
    have hwh : whl true a = if 0 < xpo true a then a % 8388608 + 8388608 else a % 8388608 := by unfold whl; rw [e1]; rfl
    have hpw : pwr true a = if 0 < xpo true a then -149 + (xpo true a - 1) else -149 := by unfold pwr; rw [e1]; rfl
    have om : bits BinOp.or IntKind.u64 (a % 8388608) 8388608 = a % 8388608 + 8388608 := by
      obtain ⟨x, hx⟩ : ∃ x : Nat, a % 8388608 = x := ⟨(a % 8388608).toNat, by omega⟩
      rw [hx]
      have t := u64_or_nat x 8388608 (by omega) (by decide)
      have o := Nat.two_pow_add_eq_or_of_lt (i := 23) (b := x) (by omega) 1
      rw [Nat.mul_one, Nat.or_comm] at o
      rw [show (8388608 : Nat) = 2 ^ 23 from rfl, ← o] at t
      exact t.trans (by rw [show (2 : Nat) ^ 23 = 8388608 from rfl]; omega)
    show Calls Tryz.prog 131 #[.int .i64 1, .int .u64 a] w _
    rw [hwh, hpw]
    clear hwh hpw e1
    have om2 : a % 8388608 + 8388608 < 18446744073709551616 := by omega
    generalize xpo true a = X at *
    obtain ⟨x0, x1⟩ := x0
    generalize a % 8388608 = M at *
    by_cases c : X = 0
    · subst c
      rw [if_neg (by decide), if_neg (by decide)]
      go_enter Tryz.func131, Tryz.ntmps131
      go_wp2_with (go_at_call 93; refine (hs _).mono ?_; rintro e w1 ⟨rfl, rfl⟩)
      go_region
      go_wp2_with fail
      exact bodyPost_ret (v := .tuple #[.int .u64 M, .int .i64 (-149)]) (by simp [results, Tryz.results131, go_sem]) rfl ⟨rfl, rfl⟩
    · rw [if_pos (by omega), if_pos (by omega)]
      have c' : (X == 0) = false := by simp [c]
      have e3 : X - 1 + -149 = -149 + (X - 1) := by omega
      generalize M + 8388608 = MM at *
      go_enter Tryz.func131, Tryz.ntmps131
      go_wp2_with (go_at_call 93; refine (hs _).mono ?_; rintro e w1 ⟨rfl, rfl⟩)
      go_region
      go_wp2_with fail
      refine bodyPost_ret (v := .tuple #[.int .u64 MM, .int .i64 (-149 + (X - 1))]) ?_ rfl ⟨rfl, rfl⟩
      simp [results, Tryz.results131, go_sem]
      try omega
theorem kinds3T (k : Int) : ((k == 0 || k == 5) = true ∧ (k == 4) = false ∧ k = 0) ∨ ((k == 0 || k == 5) = true ∧ (k == 4) = false ∧ k = 5) ∨ ((k == 0 || k == 5) = false ∧ (k == 4) = true ∧ k = 4) ∨ ((k == 0 || k == 5) = false ∧ (k == 4) = false ∧ (k == 0) = false ∧ (k == 5) = false ∧ k ≠ 4) := by
  by_cases c1 : k = 0
  · subst c1; decide
  · by_cases c2 : k = 5
    · subst c2; decide
    · by_cases c3 : k = 4
      · subst c3; decide
      · simp [c1, c2, c3]
theorem wide_notT {s : Bool} {a : Int} (h : (cls s a == 0 || cls s a == 5) = false) : wideB s a = false := by
  cases c : wideB s a
  · rfl
  · exfalso
    have : cls s a = 0 := by unfold cls; rw [c]; rfl
    rw [this] at h
    exact absurd h (by decide)
set_option maxRecDepth 8000 in
set_option maxHeartbeats 3200000 in
theorem rturned_any (s t : Bool) (m a : Int) (h : Word a) (w : World) :
    Calls Tryz.prog 115 #[.int .i64 (fb s), .int .i64 (fb t), .int .i64 m, .int .u64 a] w fun e w' => e = .returned (.int .u64 (cvtF s t m a)) ∧ Below w.heap.size w w' := by
  have hcl := rclass_any s a h
  have hnan := rnan_any t
  have hbl := rbelow_any s a
  have hinf := rinf_any t (sgn s a)
  have hv := fun h' => rvalue3_any s a h (wide_notT h')
  have hfin := fin_of s a h
  have hrd := fun (v : Value) (n A : Nat) => rounded_any t m (sgn s a) v n A
  have K := kinds3T (cls s a)
  unfold cvtF
  generalize hN : (cls s a == 0 || cls s a == 5) = N1 at *
  generalize hI : (cls s a == 4) = I1 at *
  generalize cls s a = k at *
  generalize sgn s a = b at *
  generalize sgnd t b (fI t) = VI at *
  generalize fNan t = Q at *
  generalize hft : fb t = ft at *
  generalize hfs : fb s = fs at *
  clear hN hI
  rcases K with ⟨rfl, rfl, rfl⟩ | ⟨rfl, rfl, rfl⟩ | ⟨rfl, rfl, rfl⟩ | ⟨rfl, rfl, k0, k5, k4⟩
  case inr.inr.inr =>
    have k4' : (k == 4) = false := by simp [k4]
    have F1 := fin_wordC (hfin rfl rfl).1
    have v1 := hv rfl
    clear hv hfin hnan hinf
    simp only [Bool.false_eq_true, if_false]
    generalize whl s a = u at *
    generalize pwr s a = p at *
    obtain ⟨a1, a2, a3, a4⟩ := F1
    obtain ⟨X, rfl⟩ := Int.eq_ofNat_of_zero_le a1.1
    rw [Int.toNat_natCast]
    have hX := lt_blen X
    have lX : blen X ≤ 53 := blen_le_of (by omega : X < 2 ^ 53)
    have hbX : ∀ w : World, Calls Tryz.prog 136 #[.int .u64 (X : Int)] w fun e w' => ∃ v, e = .returned v ∧ BitV w' v (blen X) X ∧ Below w.heap.size w w' := fun w => (rbits3_any X (by omega) w).mono fun e w' ⟨v, h1, h2, h3⟩ => ⟨v, h1, own_bits h2 hX, h3⟩
    obtain ⟨V, hV⟩ : ∃ V : Int, rnd t m b X p = V := ⟨_, rfl⟩
    have hR : ∀ v w, BitV w v (blen X) X → Calls Tryz.prog 106 #[.int .i64 ft, .int .i64 m, .bool b, v, .int .i64 p] w fun r w' => r = .returned (.int .u64 V) ∧ ∃ k, w' = w.drewN k := fun v w hb => by
      rw [← hV]
      exact hrd v (blen X) X (by omega) p (by omega) (by omega) w hb
    rw [hV]
    clear hrd hV hX
    generalize blen X = nX at *
    go_enter Tryz.func115, Tryz.ntmps115
    go_wp2_with (first
      | (go_at_call 100; refine (hcl _).mono ?_; rintro e w1 ⟨rfl, n1, rfl⟩)
      | (go_at_call 131; refine (v1 _).mono ?_; rintro e w1 ⟨rfl, rfl⟩)
      | (go_at_call 92; refine (hbl _).mono ?_; rintro e w1 ⟨rfl, hw⟩; rw [hw]; clear hw w1)
      | (go_at_call 136; refine (hbX _).mono ?_; rintro e w2 ⟨v, rfl, bv, L2⟩)
      | (go_at_call 106; refine (hR v _ bv).mono ?_; rintro e w3 ⟨rfl, k3, rfl⟩)
      | fail)
    go_ret
    exact ⟨rfl, below_dN (below_callC (below_dN (Below.refl _ _) _) L2) _⟩
  all_goals
    clear hrd hv hfin
    go_enter Tryz.func115, Tryz.ntmps115
    go_wp2_with (first
      | (go_at_call 100; refine (hcl _).mono ?_; rintro e w1 ⟨rfl, n1, rfl⟩)
      | (go_at_call 91; refine (hnan _).mono ?_; rintro e w1 ⟨rfl, rfl⟩)
      | (go_at_call 92; refine (hbl _).mono ?_; rintro e w1 ⟨rfl, hw⟩; rw [hw]; clear hw w1)
      | (go_at_call 177; refine (hinf _).mono ?_; rintro e w1 ⟨rfl, n2, rfl⟩)
      | fail)
    go_ret
    exact ⟨rfl, below_dN (Below.refl _ _) _⟩
theorem rwiden_any (a : Int) (h : Word a) (w : World) : Calls Tryz.prog 48 #[.int .u64 a] w fun e w' => e = .returned (.int .u64 (cvtF true false 0 a)) ∧ Below w.heap.size w w' := by
  have ht : ∀ w, Calls Tryz.prog 115 #[.int .i64 1, .int .i64 0, .int .i64 0, .int .u64 a] w fun e w' => e = .returned (.int .u64 (cvtF true false 0 a)) ∧ Below w.heap.size w w' := rturned_any true false 0 a h
  generalize cvtF true false 0 a = V at *
  go_enter Tryz.func48, Tryz.ntmps48
  go_wp2_with (go_at_call 115; refine (ht _).mono ?_; rintro e w1 ⟨rfl, b1⟩)
  go_ret
  exact ⟨rfl, b1⟩
theorem rnarrow_any (m a : Int) (h : Word a) (w : World) : Calls Tryz.prog 49 #[.int .i64 m, .int .u64 a] w fun e w' => e = .returned (.int .u64 (cvtF false true m a)) ∧ Below w.heap.size w w' := by
  have ht : ∀ w, Calls Tryz.prog 115 #[.int .i64 0, .int .i64 1, .int .i64 m, .int .u64 a] w fun e w' => e = .returned (.int .u64 (cvtF false true m a)) ∧ Below w.heap.size w w' := rturned_any false true m a h
  generalize cvtF false true m a = V at *
  go_enter Tryz.func49, Tryz.ntmps49
  go_wp2_with (go_at_call 115; refine (ht _).mono ?_; rintro e w1 ⟨rfl, b1⟩)
  go_ret
  exact ⟨rfl, b1⟩
end Go.Proofs.YtgdknlnpfnifiaaGreat


namespace Go.Proofs.YtgdknlnpfnifiaaGreat
open Go.RowKit
set_option linter.unusedVariables false
set_option linter.unusedSimpArgs false
set_option maxHeartbeats 1600000 in
theorem rfrom3_any (s : Bool) (m n : Int) (h1 : -9223372036854775808 ≤ n) (h2 : n ≤ 9223372036854775807) (w : World) :
    Calls Tryz.prog 63 #[.int .i64 (fb s), .int .i64 m, .int .i64 n] w fun e w' => e = .returned (.int .u64 (rnd s m (decide (n < 0)) n.natAbs 0)) ∧ Below w.heap.size w w' := by
  obtain ⟨X, hX⟩ : ∃ X : Nat, n.natAbs = X := ⟨_, rfl⟩
  have hX1 : X < 18446744073709551616 := by omega
  rw [hX]
  have lX : blen X ≤ 64 := blen_le_of (by rw [show (2 : Nat) ^ 64 = 18446744073709551616 from rfl]; exact hX1)
  have hb : ∀ w : World, Calls Tryz.prog 136 #[.int .u64 (X : Int)] w fun e w' => ∃ v, e = .returned v ∧ BitV w' v (blen X) X ∧ Below w.heap.size w w' := fun w => (rbits3_any X hX1 w).mono fun e w' ⟨v, h1, h2, h3⟩ => ⟨v, h1, own_bits h2 (lt_blen X), h3⟩
  have hR := fun (v : Value) (w : World) (hb : BitV w v (blen X) X) => rounded_any s m (decide (n < 0)) v (blen X) X (by omega) 0 (by decide) (by decide) w hb
  generalize rnd s m (decide (n < 0)) X 0 = V at *
  generalize fb s = ft at *
  generalize blen X = nX at *
  by_cases c : n < 0
  · have e1 : IntKind.u64.wrap n = n + 18446744073709551616 := by rw [IntKind.wrap_u64]; omega
    have e2 : IntKind.u64.wrap (-(n + 18446744073709551616)) = (X : Int) := by rw [IntKind.wrap_u64]; omega
    rw [decide_eq_true c] at hR
    clear hX hX1
    go_enter Tryz.func63, Tryz.ntmps63
    go_wp2_with (first
      | (go_at_call 136; refine (hb _).mono ?_; rintro e w2 ⟨v, rfl, bv, L2⟩)
      | (go_at_call 106; refine (hR v _ bv).mono ?_; rintro e w3 ⟨rfl, k3, rfl⟩)
      | fail)
    go_ret
    exact ⟨rfl, below_dN L2 _⟩
  · have c' : 0 ≤ n := by omega
    have e1 : IntKind.u64.wrap n = (X : Int) := by rw [IntKind.wrap_u64]; omega
    rw [decide_eq_false c] at hR
    clear hX hX1
    go_enter Tryz.func63, Tryz.ntmps63
    go_wp2_with (first
      | (go_at_call 136; refine (hb _).mono ?_; rintro e w2 ⟨v, rfl, bv, L2⟩)
      | (go_at_call 106; refine (hR v _ bv).mono ?_; rintro e w3 ⟨rfl, k3, rfl⟩)
      | fail)
    go_ret
    exact ⟨rfl, below_dN L2 _⟩
theorem j_end (u p : Int) (k : Nat) (h0 : 0 ≤ u) (hp : 0 < p) (hk : (k : Int) ≤ p) (hb : k = 0 ∨ u * 2 ^ (k - 1) < 1099511627776) (he : p - k = 0 ∨ 1099511627776 ≤ u * 2 ^ k) :
    (p - k = 0 ∧ u * 2 ^ k = wpl u p) ∨ (0 < p - k ∧ 1099511627776 ≤ u * 2 ^ k ∧ 1099511627776 ≤ wpl u p) := by
  have ew : wpl u p = u * 2 ^ (min p 64).toNat := by
    unfold wpl
    rw [show (-p).toNat = 0 by omega, Int.pow_zero, Int.ediv_one]
  rw [ew]
  by_cases u0 : u = 0
  · subst u0
    left
    rw [Int.zero_mul, Int.zero_mul]
    rcases he with e | e
    · exact ⟨e, rfl⟩
    · rw [Int.zero_mul] at e; omega
  · have k40 : k ≤ 41 := by
      rcases hb with rfl | b
      · omega
      · by_cases c : k ≤ 41
        · exact c
        · exfalso
          have p1 : (2 : Int) ^ 40 ≤ 2 ^ (k - 1) := by
            have := Nat.pow_le_pow_right (by decide : 0 < 2) (show 40 ≤ k - 1 by omega)
            exact_mod_cast this
          have p2 : (2 : Int) ^ 40 = 1099511627776 := by decide
          have : 1 * (2 : Int) ^ (k - 1) ≤ u * 2 ^ (k - 1) := Int.mul_le_mul_of_nonneg_right (by omega) (by omega)
          omega
    by_cases pe : p - k = 0
    · left
      refine ⟨pe, ?_⟩
      congr 2
      omega
    · right
      have g : 1099511627776 ≤ u * 2 ^ k := by
        rcases he with e | e
        · exact absurd e pe
        · exact e
      refine ⟨by omega, g, ?_⟩
      have le : (2 : Int) ^ k ≤ 2 ^ (min p 64).toNat := by
        have := Nat.pow_le_pow_right (by decide : 0 < 2) (show k ≤ (min p 64).toNat by omega)
        exact_mod_cast this
      have : u * 2 ^ k ≤ u * 2 ^ (min p 64).toNat := Int.mul_le_mul_of_nonneg_left le h0
      omega
theorem j_half (u : Int) (j : Nat) : u / 2 ^ j / 2 = u / 2 ^ (j + 1) := by
  rw [Int.ediv_ediv_of_nonneg (by have := Nat.two_pow_pos j; exact_mod_cast Nat.le_of_lt this), ← Int.pow_succ]
theorem j_below (u : Int) (j : Nat) (h : 0 ≤ u) : 0 ≤ u / 2 ^ j ∧ u / 2 ^ j ≤ u := by
  have p : (0 : Int) < 2 ^ j := by have := Nat.two_pow_pos j; exact_mod_cast this
  exact ⟨Int.ediv_nonneg h (by omega), Int.ediv_le_self _ h⟩
set_option maxRecDepth 8000 in
set_option maxHeartbeats 6400000 in
theorem rtoInt3_any (s : Bool) (a : Int) (h : Word a) (w : World) :
    Calls Tryz.prog 57 #[.int .i64 (fb s), .int .u64 a] w fun e w' => e = .returned (.tuple #[.int .i64 (if inI s a then toI s a else 0), .bool (inI s a)]) ∧ ∃ n, w' = w.drewN n := by
  have hfi := rfinite_any s a h
  have hbl := rbelow_any s a
  have hv := fun h' => rvalue3_any s a h (wide_notT h')
  have hfin := fin_of s a h
  have hF : finF s a = true → (cls s a == 0 || cls s a == 5) = false ∧ (cls s a == 4) = false := fun t => by
    unfold finF at t
    generalize cls s a = k at *
    simp at t
    rcases t with (rfl | rfl) | rfl <;> decide
  unfold inI toI
  generalize hb : sgn s a = b at *
  generalize hft : fb s = ft at *
  cases c : finF s a
  · rw [c] at hfi
    clear hF hfin hv
    simp only [Bool.false_and, Bool.false_eq_true, if_false]
    go_enter Tryz.func57, Tryz.ntmps57
    go_wp2_with (go_at_call 43; refine (hfi _).mono ?_; rintro e w1 ⟨rfl, n1, rfl⟩)
    refine bodyPost_ret (v := .tuple #[.int .i64 0, .bool false]) (by simp [results, Tryz.results57, go_sem]) rfl ⟨rfl, n1, rfl⟩
  · obtain ⟨F1, F2⟩ := hF c
    have v1 := hv F1
    obtain ⟨W1, W2, W3, W4⟩ := fin_wordC (hfin F1 F2).1
    rw [c] at hfi
    simp only [Bool.true_and]
    clear hF hfin hv F1 F2 hb
    generalize whl s a = u at *
    generalize pwr s a = p at *
    have u0 := W1.1
    have V0 : 0 ≤ wpl u p := by
      unfold wpl
      exact Int.ediv_nonneg (wpl_lt _ _ u0 W2).1 (by have := Nat.two_pow_pos (-p).toNat; exact_mod_cast Nat.le_of_lt this)
    have vneg : p ≤ 0 → wpl u p = u / 2 ^ (-p).toNat := fun hp => by
      unfold wpl
      rw [show (min p 64).toNat = 0 by omega, Int.pow_zero, Int.mul_one]
    have vpos := fun (k : Nat) => j_end u p k u0
    obtain ⟨V, hV⟩ : ∃ V, wpl u p = V := ⟨_, rfl⟩
    rw [hV] at V0 vneg ⊢
    simp only [hV] at vpos
    clear hV
    generalize hD : decide (-2147483648 ≤ (if b = true then -V else V) ∧ (if b = true then -V else V) ≤ 2147483647) = D
    generalize hR : (if D = true then (if b = true then -V else V) else 0) = R
    have F0 : (2147483648 < V ∨ (V = 2147483648 ∧ b = false)) → R = 0 ∧ D = false := fun q => by
      have : D = false := by
        rw [← hD, decide_eq_false_iff_not]
        rcases q with q | ⟨q, rfl⟩
        · cases b <;> simp <;> omega
        · simp; omega
      rw [this] at hR
      exact ⟨hR.symm, this⟩
    have F1 : b = true → V ≤ 2147483648 → R = -V ∧ D = true := fun q r => by
      subst q
      have : D = true := by rw [← hD, decide_eq_true_iff]; simp; omega
      rw [this] at hR
      exact ⟨hR.symm, this⟩
    have F2 : b = false → V < 2147483648 → R = V ∧ D = true := fun q r => by
      subst q
      have : D = true := by rw [← hD, decide_eq_true_iff]; simp; omega
      rw [this] at hR
      exact ⟨hR.symm, this⟩
    clear hD hR
    go_enter Tryz.func57, Tryz.ntmps57
    go_wp2_with (first
      | (go_at_call 43; refine (hfi _).mono ?_; rintro e w1 ⟨rfl, n1, rfl⟩)
      | (go_at_call 131; refine (v1 _).mono ?_; rintro e w1 ⟨rfl, rfl⟩)
      | fail)
    go_loopw [6, 7] (fun x y wr => ∃ k : Nat, x = .int .u64 (u * 2 ^ k) ∧ y = .int .i64 (p - k) ∧ (k = 0 ∨ (u * 2 ^ (k - 1) < 1099511627776 ∧ (k : Int) ≤ p)) ∧ ∃ d, wr = w.drewN d) (fun _ y _ => (intOf y).toNat)
    case atStart => exact ⟨0, by simp, by simp, Or.inl rfl, _, rfl⟩
    case round =>
      obtain ⟨k, rfl, rfl, hk, d, rfl⟩ := hrel
      by_cases st : 0 < p - k ∧ u * 2 ^ k < 1099511627776
      · obtain ⟨s1, s2⟩ := st
        have n0 : 0 ≤ u * 2 ^ k := Int.mul_nonneg u0 (by have := Nat.two_pow_pos k; exact_mod_cast Nat.le_of_lt this)
        have hk' : k + 1 = 0 ∨ (u * 2 ^ (k + 1 - 1) < 1099511627776 ∧ ((k + 1 : Nat) : Int) ≤ p) := Or.inr ⟨by rw [Nat.add_sub_cancel]; exact s2, by omega⟩
        have e1 : u * 2 ^ k * 2 = u * 2 ^ (k + 1) := by rw [Int.mul_assoc, ← Int.pow_succ]
        have E1 : Hid _ := e1
        have e3 : IntKind.u64.wrap (u * 2 ^ k * 2) = u * 2 ^ k * 2 := by rw [IntKind.wrap_u64]; omega
        have K : Hid _ := hk'
        clear hk hk' e1 vneg vpos F0 F1 F2
        generalize hN : u * 2 ^ k = N at *
        have HN : Hid _ := hN
        clear hN
        go_wp2_with fail
        go_roundw
        case rel => exact ⟨k + 1, by rw [← E1.out], by congr 1; omega, K.out, d, rfl⟩
        case measure => simp [intOf]; omega
      · have n0 : 0 ≤ u * 2 ^ k := Int.mul_nonneg u0 (by have := Nat.two_pow_pos k; exact_mod_cast Nat.le_of_lt this)
        have fin : (p - k ≤ 0 ∧ u * 2 ^ k / 2 ^ (-(p - k)).toNat = V) ∨ (0 < p - k ∧ 1099511627776 ≤ u * 2 ^ k ∧ 1099511627776 ≤ V) := by
          by_cases hp : 0 < p
          · have kp : (k : Int) ≤ p := by rcases hk with rfl | ⟨_, q⟩ <;> omega
            have q := vpos k hp kp (by rcases hk with q | ⟨q, _⟩; exact Or.inl q; exact Or.inr q) (by omega)
            rcases q with ⟨q1, q2⟩ | q
            · left
              refine ⟨by omega, ?_⟩
              rw [show (-(p - k)).toNat = 0 by omega, Int.pow_zero, Int.ediv_one, q2]
            · exact Or.inr q
          · have k0 : k = 0 := by rcases hk with q | ⟨_, q⟩ <;> omega
            subst k0
            left
            refine ⟨by omega, ?_⟩
            rw [vneg (by omega), Int.pow_zero, Int.mul_one]
            congr 2
            omega
        have n1' : u * 2 ^ k < 18446744073709551616 := by
          rcases hk with rfl | ⟨q, _⟩
          · rw [Int.pow_zero, Int.mul_one]; omega
          · by_cases k0 : k = 0
            · subst k0; rw [Int.pow_zero, Int.mul_one]; omega
            · have e : u * 2 ^ k = u * 2 ^ (k - 1) * 2 := by
                obtain ⟨i, rfl⟩ : ∃ i, k = i + 1 := ⟨k - 1, by omega⟩
                rw [Nat.add_sub_cancel, Int.mul_assoc, ← Int.pow_succ]
              rw [e]; omega
        have lo : -1074 ≤ p - k := by rcases hk with rfl | ⟨_, q⟩ <;> omega
        clear hk vneg vpos st
        generalize u * 2 ^ k = N at *
        generalize p - (k : Int) = E at *
        rcases fin with ⟨fe, fv⟩ | ⟨fe, fn, fv⟩
        · go_wp2_with fail
          go_loopw [6, 7] (fun x y wr => ∃ j : Nat, x = .int .u64 (N / 2 ^ j) ∧ y = .int .i64 (E + j) ∧ E + j ≤ 0 ∧ ∃ d, wr = w.drewN d) (fun _ y _ => (-(intOf y)).toNat)
          case atStart => exact ⟨0, by simp, by simp, by simpa using fe, _, rfl⟩
          case round =>
            obtain ⟨j, rfl, rfl, hj, d', rfl⟩ := hrel
            obtain ⟨g0, g1⟩ := j_below N j n0
            by_cases st : E + j < 0
            · have e1 : Hid (N / 2 ^ j / 2 = N / 2 ^ (j + 1)) := j_half N j
              generalize hM : N / 2 ^ j = M at *
              have HM : Hid _ := hM
              clear hM fv F0 F1 F2
              go_wp2_with fail
              go_roundw
              case rel => exact ⟨j + 1, by rw [← e1.out], by congr 1; omega, by omega, d', rfl⟩
              case measure => simp [intOf]; omega
            · have ej : E + j = 0 := by omega
              rw [show (-E).toNat = j by omega] at fv
              rw [fv, ej]
              clear fv g0 g1 hj st
              rcases (show 2147483648 < V ∨ V = 2147483648 ∨ V < 2147483648 by omega) with g | g | g
              · obtain ⟨r1, r2⟩ := F0 (Or.inl g)
                clear F0 F1 F2
                go_wp2_with (go_at_call 92; refine (hbl _).mono ?_; rintro e w1 ⟨rfl, hw⟩; rw [hw]; clear hw w1)
                refine bodyPost_ret (v := .tuple #[.int .i64 0, .bool false]) (by simp [results, Tryz.results57, go_sem]) rfl ⟨?_, _, rfl⟩
                first | rfl | rw [r1, r2]
              · subst g
                cases b
                · obtain ⟨r1, r2⟩ := F0 (Or.inr ⟨rfl, rfl⟩)
                  clear F0 F1 F2
                  go_wp2_with (go_at_call 92; refine (hbl _).mono ?_; rintro e w1 ⟨rfl, hw⟩; rw [hw]; clear hw w1)
                  refine bodyPost_ret (v := .tuple #[.int .i64 0, .bool false]) (by simp [results, Tryz.results57, go_sem]) rfl ⟨?_, _, rfl⟩
                  first | rfl | rw [r1, r2]
                · obtain ⟨r1, r2⟩ := F1 rfl (by decide)
                  clear F0 F1 F2
                  go_wp2_with (go_at_call 92; refine (hbl _).mono ?_; rintro e w1 ⟨rfl, hw⟩; rw [hw]; clear hw w1)
                  refine bodyPost_ret (v := .tuple #[.int .i64 (-2147483648), .bool true]) (by simp [results, Tryz.results57, go_sem]) rfl ⟨?_, _, rfl⟩
                  first | rfl | rw [r1, r2]
              · have gn : (V == 2147483648) = false := by simp; omega
                cases b
                · obtain ⟨r1, r2⟩ := F2 rfl g
                  clear F0 F1 F2
                  go_wp2_with (go_at_call 92; refine (hbl _).mono ?_; rintro e w1 ⟨rfl, hw⟩; rw [hw]; clear hw w1)
                  refine bodyPost_ret (v := .tuple #[.int .i64 V, .bool true]) (by simp [results, Tryz.results57, go_sem]) rfl ⟨?_, _, rfl⟩
                  first | rfl | rw [r1, r2]
                · obtain ⟨r1, r2⟩ := F1 rfl (by omega)
                  clear F0 F1 F2
                  go_wp2_with (go_at_call 92; refine (hbl _).mono ?_; rintro e w1 ⟨rfl, hw⟩; rw [hw]; clear hw w1)
                  refine bodyPost_ret (v := .tuple #[.int .i64 (-V), .bool true]) (by simp [results, Tryz.results57, go_sem]) rfl ⟨?_, _, rfl⟩
                  first | rfl | rw [r1, r2]
        · obtain ⟨r1, r2⟩ := F0 (Or.inl (by omega))
          clear F0 F1 F2
          go_wp2_with fail
          go_loopw [6, 7] (fun x y wr => x = .int .u64 N ∧ y = .int .i64 E ∧ ∃ d, wr = w.drewN d) (fun _ _ _ => 0)
          case atStart => exact ⟨rfl, rfl, _, rfl⟩
          case round =>
            obtain ⟨rfl, rfl, d', rfl⟩ := hrel
            go_wp2_with (go_at_call 92; refine (hbl _).mono ?_; rintro e w1 ⟨rfl, hw⟩; rw [hw]; clear hw w1)
            refine bodyPost_ret (v := .tuple #[.int .i64 0, .bool false]) (by simp [results, Tryz.results57, go_sem]) rfl ⟨?_, _, rfl⟩
            first | rfl | rw [r1, r2]
end Go.Proofs.YtgdknlnpfnifiaaGreat


