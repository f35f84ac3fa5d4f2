/- plumblineref03: ints as floats, and floats as ints. -/
import Derived.Test.YtfdinlomlcnjnaaDoorSRef3
import Derived.Test.YtfdinlomlcnjnaaDoorConvT
namespace Go.Proofs.YtfdinlomlcnjnaaDoor
open Go.RowKit
set_option linter.unusedVariables false
set_option linter.unusedSimpArgs false
set_option maxHeartbeats 1600000 in
theorem rfrom3_any (s : Bool) (m n : Int) (h1 : -9223372036854775808 ≤ n) (h2 : n ≤ 9223372036854775807) (w : World) :
    Calls Tryd.prog 21 #[.int .i64 (fb s), .int .i64 m, .int .i64 n] w fun e w' => e = .returned (.int .u64 (rnd s m (decide (n < 0)) n.natAbs 0)) ∧ Below w.heap.size w w' := by
  obtain ⟨X, hX⟩ : ∃ X : Nat, n.natAbs = X := ⟨_, rfl⟩
  have hX1 : X < 18446744073709551616 := by omega
  rw [hX]
  have lX : blen X ≤ 64 := blen_le_of (by rw [show (2 : Nat) ^ 64 = 18446744073709551616 from rfl]; exact hX1)
  have hb : ∀ w : World, Calls Tryd.prog 51 #[.int .u64 (X : Int)] w fun e w' => ∃ v, e = .returned v ∧ BitV w' v (blen X) X ∧ Below w.heap.size w w' := fun w => (rbits3_any X hX1 w).mono fun e w' ⟨v, h1, h2, h3⟩ => ⟨v, h1, own_bits h2 (lt_blen X), h3⟩
  have hR := fun (v : Value) (w : World) (hb : BitV w v (blen X) X) => rounded_any s m (decide (n < 0)) v (blen X) X (by omega) 0 (by decide) (by decide) w hb
  generalize rnd s m (decide (n < 0)) X 0 = V at *
  generalize fb s = ft at *
  generalize blen X = nX at *
  by_cases c : n < 0
  · have e1 : IntKind.u64.wrap n = n + 18446744073709551616 := by rw [IntKind.wrap_u64]; omega
    have e2 : IntKind.u64.wrap (-(n + 18446744073709551616)) = (X : Int) := by rw [IntKind.wrap_u64]; omega
    rw [decide_eq_true c] at hR
    clear hX hX1
    go_enter Tryd.func21, Tryd.ntmps21
    go_wp2_with (first
      | (go_at_call 51; refine (hb _).mono ?_; rintro e w2 ⟨v, rfl, bv, L2⟩)
      | (go_at_call 50; refine (hR v _ bv).mono ?_; rintro e w3 ⟨rfl, k3, rfl⟩)
      | fail)
    go_ret
    exact ⟨rfl, below_dN L2 _⟩
  · have c' : 0 ≤ n := by omega
    have e1 : IntKind.u64.wrap n = (X : Int) := by rw [IntKind.wrap_u64]; omega
    rw [decide_eq_false c] at hR
    clear hX hX1
    go_enter Tryd.func21, Tryd.ntmps21
    go_wp2_with (first
      | (go_at_call 51; refine (hb _).mono ?_; rintro e w2 ⟨v, rfl, bv, L2⟩)
      | (go_at_call 50; refine (hR v _ bv).mono ?_; rintro e w3 ⟨rfl, k3, rfl⟩)
      | fail)
    go_ret
    exact ⟨rfl, below_dN L2 _⟩
/-- Behind both loops: the size without its places, or too great. -/
theorem j_end (u p : Int) (k : Nat) (h0 : 0 ≤ u) (hp : 0 < p) (hk : (k : Int) ≤ p) (hb : k = 0 ∨ u * 2 ^ (k - 1) < 1099511627776) (he : p - k = 0 ∨ 1099511627776 ≤ u * 2 ^ k) :
    (p - k = 0 ∧ u * 2 ^ k = wpl u p) ∨ (0 < p - k ∧ 1099511627776 ≤ u * 2 ^ k ∧ 1099511627776 ≤ wpl u p) := by
  have ew : wpl u p = u * 2 ^ (min p 64).toNat := by
    unfold wpl
    rw [show (-p).toNat = 0 by omega, Int.pow_zero, Int.ediv_one]
  rw [ew]
  by_cases u0 : u = 0
  · subst u0
    left
    rw [Int.zero_mul, Int.zero_mul]
    rcases he with e | e
    · exact ⟨e, rfl⟩
    · rw [Int.zero_mul] at e; omega
  · have k40 : k ≤ 41 := by
      rcases hb with rfl | b
      · omega
      · by_cases c : k ≤ 41
        · exact c
        · exfalso
          have p1 : (2 : Int) ^ 40 ≤ 2 ^ (k - 1) := by
            have := Nat.pow_le_pow_right (by decide : 0 < 2) (show 40 ≤ k - 1 by omega)
            exact_mod_cast this
          have p2 : (2 : Int) ^ 40 = 1099511627776 := by decide
          have : 1 * (2 : Int) ^ (k - 1) ≤ u * 2 ^ (k - 1) := Int.mul_le_mul_of_nonneg_right (by omega) (by omega)
          omega
    by_cases pe : p - k = 0
    · left
      refine ⟨pe, ?_⟩
      congr 2
      omega
    · right
      have g : 1099511627776 ≤ u * 2 ^ k := by
        rcases he with e | e
        · exact absurd e pe
        · exact e
      refine ⟨by omega, g, ?_⟩
      have le : (2 : Int) ^ k ≤ 2 ^ (min p 64).toNat := by
        have := Nat.pow_le_pow_right (by decide : 0 < 2) (show k ≤ (min p 64).toNat by omega)
        exact_mod_cast this
      have : u * 2 ^ k ≤ u * 2 ^ (min p 64).toNat := Int.mul_le_mul_of_nonneg_left le h0
      omega
theorem j_half (u : Int) (j : Nat) : u / 2 ^ j / 2 = u / 2 ^ (j + 1) := by
  rw [Int.ediv_ediv_of_nonneg (by have := Nat.two_pow_pos j; exact_mod_cast Nat.le_of_lt this), ← Int.pow_succ]
theorem j_below (u : Int) (j : Nat) (h : 0 ≤ u) : 0 ≤ u / 2 ^ j ∧ u / 2 ^ j ≤ u := by
  have p : (0 : Int) < 2 ^ j := by have := Nat.two_pow_pos j; exact_mod_cast this
  exact ⟨Int.ediv_nonneg h (by omega), Int.ediv_le_self _ h⟩
set_option maxRecDepth 8000 in
set_option maxHeartbeats 6400000 in
theorem rtoInt3_any (s : Bool) (a : Int) (h : Word a) (w : World) :
    Calls Tryd.prog 19 #[.int .i64 (fb s), .int .u64 a] w fun e w' => e = .returned (.tuple #[.int .i64 (if inI s a then toI s a else 0), .bool (inI s a)]) ∧ ∃ n, w' = w.drewN n := by
  have hfi := rfinite_any s a h
  have hbl := rbelow_any s a
  have hv := fun h' => rvalue3_any s a h (wide_notT h')
  have hfin := fin_of s a h
  have hF : finF s a = true → (cls s a == 0 || cls s a == 5) = false ∧ (cls s a == 4) = false := fun t => by
    unfold finF at t
    generalize cls s a = k at *
    simp at t
    rcases t with (rfl | rfl) | rfl <;> decide
  unfold inI toI
  generalize hb : sgn s a = b at *
  generalize hft : fb s = ft at *
  cases c : finF s a
  · rw [c] at hfi
    clear hF hfin hv
    simp only [Bool.false_and, Bool.false_eq_true, if_false]
    go_enter Tryd.func19, Tryd.ntmps19
    go_wp2_with (go_at_call 46; refine (hfi _).mono ?_; rintro e w1 ⟨rfl, n1, rfl⟩)
    refine bodyPost_ret (v := .tuple #[.int .i64 0, .bool false]) (by simp [results, Tryd.results19, go_sem]) rfl ⟨rfl, n1, rfl⟩
  · obtain ⟨F1, F2⟩ := hF c
    have v1 := hv F1
    obtain ⟨W1, W2, W3, W4⟩ := fin_wordC (hfin F1 F2).1
    rw [c] at hfi
    simp only [Bool.true_and]
    clear hF hfin hv F1 F2 hb
    generalize whl s a = u at *
    generalize pwr s a = p at *
    have u0 := W1.1
    have V0 : 0 ≤ wpl u p := by
      unfold wpl
      exact Int.ediv_nonneg (wpl_lt _ _ u0 W2).1 (by have := Nat.two_pow_pos (-p).toNat; exact_mod_cast Nat.le_of_lt this)
    have vneg : p ≤ 0 → wpl u p = u / 2 ^ (-p).toNat := fun hp => by
      unfold wpl
      rw [show (min p 64).toNat = 0 by omega, Int.pow_zero, Int.mul_one]
    have vpos := fun (k : Nat) => j_end u p k u0
    obtain ⟨V, hV⟩ : ∃ V, wpl u p = V := ⟨_, rfl⟩
    rw [hV] at V0 vneg ⊢
    simp only [hV] at vpos
    clear hV
    generalize hD : decide (-2147483648 ≤ (if b = true then -V else V) ∧ (if b = true then -V else V) ≤ 2147483647) = D
    generalize hR : (if D = true then (if b = true then -V else V) else 0) = R
    have F0 : (2147483648 < V ∨ (V = 2147483648 ∧ b = false)) → R = 0 ∧ D = false := fun q => by
      have : D = false := by
        rw [← hD, decide_eq_false_iff_not]
        rcases q with q | ⟨q, rfl⟩
        · cases b <;> simp <;> omega
        · simp; omega
      rw [this] at hR
      exact ⟨hR.symm, this⟩
    have F1 : b = true → V ≤ 2147483648 → R = -V ∧ D = true := fun q r => by
      subst q
      have : D = true := by rw [← hD, decide_eq_true_iff]; simp; omega
      rw [this] at hR
      exact ⟨hR.symm, this⟩
    have F2 : b = false → V < 2147483648 → R = V ∧ D = true := fun q r => by
      subst q
      have : D = true := by rw [← hD, decide_eq_true_iff]; simp; omega
      rw [this] at hR
      exact ⟨hR.symm, this⟩
    clear hD hR
    go_enter Tryd.func19, Tryd.ntmps19
    go_wp2_with (first
      | (go_at_call 46; refine (hfi _).mono ?_; rintro e w1 ⟨rfl, n1, rfl⟩)
      | (go_at_call 47; refine (v1 _).mono ?_; rintro e w1 ⟨rfl, rfl⟩)
      | fail)
    go_loopw [6, 7] (fun x y wr => ∃ k : Nat, x = .int .u64 (u * 2 ^ k) ∧ y = .int .i64 (p - k) ∧ (k = 0 ∨ (u * 2 ^ (k - 1) < 1099511627776 ∧ (k : Int) ≤ p)) ∧ ∃ d, wr = w.drewN d) (fun _ y _ => (intOf y).toNat)
    case atStart => exact ⟨0, by simp, by simp, Or.inl rfl, _, rfl⟩
    case round =>
      obtain ⟨k, rfl, rfl, hk, d, rfl⟩ := hrel
      by_cases st : 0 < p - k ∧ u * 2 ^ k < 1099511627776
      · obtain ⟨s1, s2⟩ := st
        have n0 : 0 ≤ u * 2 ^ k := Int.mul_nonneg u0 (by have := Nat.two_pow_pos k; exact_mod_cast Nat.le_of_lt this)
        have hk' : k + 1 = 0 ∨ (u * 2 ^ (k + 1 - 1) < 1099511627776 ∧ ((k + 1 : Nat) : Int) ≤ p) := Or.inr ⟨by rw [Nat.add_sub_cancel]; exact s2, by omega⟩
        have e1 : u * 2 ^ k * 2 = u * 2 ^ (k + 1) := by rw [Int.mul_assoc, ← Int.pow_succ]
        have E1 : Hid _ := e1
        have e3 : IntKind.u64.wrap (u * 2 ^ k * 2) = u * 2 ^ k * 2 := by rw [IntKind.wrap_u64]; omega
        have K : Hid _ := hk'
        clear hk hk' e1 vneg vpos F0 F1 F2
        generalize hN : u * 2 ^ k = N at *
        have HN : Hid _ := hN
        clear hN
        go_wp2_with fail
        go_roundw
        case rel => exact ⟨k + 1, by rw [← E1.out], by congr 1; omega, K.out, d, rfl⟩
        case measure => simp [intOf]; omega
      · have n0 : 0 ≤ u * 2 ^ k := Int.mul_nonneg u0 (by have := Nat.two_pow_pos k; exact_mod_cast Nat.le_of_lt this)
        have fin : (p - k ≤ 0 ∧ u * 2 ^ k / 2 ^ (-(p - k)).toNat = V) ∨ (0 < p - k ∧ 1099511627776 ≤ u * 2 ^ k ∧ 1099511627776 ≤ V) := by
          by_cases hp : 0 < p
          · have kp : (k : Int) ≤ p := by rcases hk with rfl | ⟨_, q⟩ <;> omega
            have q := vpos k hp kp (by rcases hk with q | ⟨q, _⟩; exact Or.inl q; exact Or.inr q) (by omega)
            rcases q with ⟨q1, q2⟩ | q
            · left
              refine ⟨by omega, ?_⟩
              rw [show (-(p - k)).toNat = 0 by omega, Int.pow_zero, Int.ediv_one, q2]
            · exact Or.inr q
          · have k0 : k = 0 := by rcases hk with q | ⟨_, q⟩ <;> omega
            subst k0
            left
            refine ⟨by omega, ?_⟩
            rw [vneg (by omega), Int.pow_zero, Int.mul_one]
            congr 2
            omega
        have n1' : u * 2 ^ k < 18446744073709551616 := by
          rcases hk with rfl | ⟨q, _⟩
          · rw [Int.pow_zero, Int.mul_one]; omega
          · by_cases k0 : k = 0
            · subst k0; rw [Int.pow_zero, Int.mul_one]; omega
            · have e : u * 2 ^ k = u * 2 ^ (k - 1) * 2 := by
                obtain ⟨i, rfl⟩ : ∃ i, k = i + 1 := ⟨k - 1, by omega⟩
                rw [Nat.add_sub_cancel, Int.mul_assoc, ← Int.pow_succ]
              rw [e]; omega
        have lo : -1074 ≤ p - k := by rcases hk with rfl | ⟨_, q⟩ <;> omega
        clear hk vneg vpos st
        generalize u * 2 ^ k = N at *
        generalize p - (k : Int) = E at *
        rcases fin with ⟨fe, fv⟩ | ⟨fe, fn, fv⟩
        · go_wp2_with fail
          go_loopw [6, 7] (fun x y wr => ∃ j : Nat, x = .int .u64 (N / 2 ^ j) ∧ y = .int .i64 (E + j) ∧ E + j ≤ 0 ∧ ∃ d, wr = w.drewN d) (fun _ y _ => (-(intOf y)).toNat)
          case atStart => exact ⟨0, by simp, by simp, by simpa using fe, _, rfl⟩
          case round =>
            obtain ⟨j, rfl, rfl, hj, d', rfl⟩ := hrel
            obtain ⟨g0, g1⟩ := j_below N j n0
            by_cases st : E + j < 0
            · have e1 : Hid (N / 2 ^ j / 2 = N / 2 ^ (j + 1)) := j_half N j
              generalize hM : N / 2 ^ j = M at *
              have HM : Hid _ := hM
              clear hM fv F0 F1 F2
              go_wp2_with fail
              go_roundw
              case rel => exact ⟨j + 1, by rw [← e1.out], by congr 1; omega, by omega, d', rfl⟩
              case measure => simp [intOf]; omega
            · have ej : E + j = 0 := by omega
              rw [show (-E).toNat = j by omega] at fv
              rw [fv, ej]
              clear fv g0 g1 hj st
              rcases (show 2147483648 < V ∨ V = 2147483648 ∨ V < 2147483648 by omega) with g | g | g
              · obtain ⟨r1, r2⟩ := F0 (Or.inl g)
                clear F0 F1 F2
                go_wp2_with (go_at_call 48; refine (hbl _).mono ?_; rintro e w1 ⟨rfl, hw⟩; rw [hw]; clear hw w1)
                refine bodyPost_ret (v := .tuple #[.int .i64 0, .bool false]) (by simp [results, Tryd.results19, go_sem]) rfl ⟨?_, _, rfl⟩
                first | rfl | rw [r1, r2]
              · subst g
                cases b
                · obtain ⟨r1, r2⟩ := F0 (Or.inr ⟨rfl, rfl⟩)
                  clear F0 F1 F2
                  go_wp2_with (go_at_call 48; refine (hbl _).mono ?_; rintro e w1 ⟨rfl, hw⟩; rw [hw]; clear hw w1)
                  refine bodyPost_ret (v := .tuple #[.int .i64 0, .bool false]) (by simp [results, Tryd.results19, go_sem]) rfl ⟨?_, _, rfl⟩
                  first | rfl | rw [r1, r2]
                · obtain ⟨r1, r2⟩ := F1 rfl (by decide)
                  clear F0 F1 F2
                  go_wp2_with (go_at_call 48; refine (hbl _).mono ?_; rintro e w1 ⟨rfl, hw⟩; rw [hw]; clear hw w1)
                  refine bodyPost_ret (v := .tuple #[.int .i64 (-2147483648), .bool true]) (by simp [results, Tryd.results19, go_sem]) rfl ⟨?_, _, rfl⟩
                  first | rfl | rw [r1, r2]
              · have gn : (V == 2147483648) = false := by simp; omega
                cases b
                · obtain ⟨r1, r2⟩ := F2 rfl g
                  clear F0 F1 F2
                  go_wp2_with (go_at_call 48; refine (hbl _).mono ?_; rintro e w1 ⟨rfl, hw⟩; rw [hw]; clear hw w1)
                  refine bodyPost_ret (v := .tuple #[.int .i64 V, .bool true]) (by simp [results, Tryd.results19, go_sem]) rfl ⟨?_, _, rfl⟩
                  first | rfl | rw [r1, r2]
                · obtain ⟨r1, r2⟩ := F1 rfl (by omega)
                  clear F0 F1 F2
                  go_wp2_with (go_at_call 48; refine (hbl _).mono ?_; rintro e w1 ⟨rfl, hw⟩; rw [hw]; clear hw w1)
                  refine bodyPost_ret (v := .tuple #[.int .i64 (-V), .bool true]) (by simp [results, Tryd.results19, go_sem]) rfl ⟨?_, _, rfl⟩
                  first | rfl | rw [r1, r2]
        · obtain ⟨r1, r2⟩ := F0 (Or.inl (by omega))
          clear F0 F1 F2
          go_wp2_with fail
          go_loopw [6, 7] (fun x y wr => x = .int .u64 N ∧ y = .int .i64 E ∧ ∃ d, wr = w.drewN d) (fun _ _ _ => 0)
          case atStart => exact ⟨rfl, rfl, _, rfl⟩
          case round =>
            obtain ⟨rfl, rfl, d', rfl⟩ := hrel
            go_wp2_with (go_at_call 48; refine (hbl _).mono ?_; rintro e w1 ⟨rfl, hw⟩; rw [hw]; clear hw w1)
            refine bodyPost_ret (v := .tuple #[.int .i64 0, .bool false]) (by simp [results, Tryd.results19, go_sem]) rfl ⟨?_, _, rfl⟩
            first | rfl | rw [r1, r2]
end Go.Proofs.YtfdinlomlcnjnaaDoor

