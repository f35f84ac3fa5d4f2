/- The reference's rows of bits: moved up, held against each other, added, taken off. -/
import Derived.Test.YtaiihaopgchbfaaSRefU
namespace Go.Proofs.Ytaiihaopgchbfaa
open Go.RowKit
set_option linter.unusedVariables false
set_option linter.unusedSimpArgs false
theorem made_bl (k : Nat) : (madeCells #[.bool false] k).toList = Bl k 0 := by
  apply List.ext_getElem?
  intro i
  by_cases c : i < k
  · rw [Bl_get _ _ _ c]
    simp [madeCells, c, Nat.mod_one]
  · rw [List.getElem?_eq_none (by simp [madeCells]; omega), List.getElem?_eq_none (by rw [Bl_len]; omega)]
theorem own_rowP {w : World} {base n A q cap : Nat} (h : w.ownsRow base 4 1 (.slice (some ⟨q, 0, none⟩) n cap) n (Bl n A)) : q < w.heap.size ∧ RowB w q n (fun i => A.testBit i) := by
  refine ⟨?_, fun i hi => by rw [h.cellAt i (by omega), Bl_get _ _ _ hi]⟩
  rcases h.2 with ⟨hn, _⟩ | ⟨g, cap', cur, e, _, hg, _⟩
  · exact absurd hn (by simp)
  · have : q = g := by simp at e; exact e.1
    rw [this]
    exact lt_of_block hg
set_option maxHeartbeats 1600000 in
/-- Bits times 2 to the k. -/
theorem rup_any (v : Value) (n A k : Nat) (hn : n ≤ 100) (hk : k ≤ 5000) (w : World) (h : BitV w v n A) :
    Calls Try.prog 27 #[v, .int .i64 (k : Int)] w fun e w' => ∃ g cap, e = .returned (.slice (some ⟨g, 0, none⟩) (k + n) cap) ∧ g < w'.heap.size ∧ RowB w' g (k + n) (fun i => (A * 2 ^ k).testBit i) ∧ Below w.heap.size w w' := by
  obtain ⟨i0, hi, hz0, hz1, hz2⟩ := info_parts Try.infoB
  obtain ⟨hA, h⟩ := h
  have hmk := make_bools k (by omega)
  have sz := fresh_size w k
  have own0 : (freshW w k).ownsRow w.heap.size 4 1 (.slice (some ⟨w.heap.size, 0, none⟩) k k) k (Bl k 0) := by
    rw [← made_bl]
    exact World.ownsRow_lit w _ k (Nat.le_refl _) (by unfold maxLen; omega) (by simp [madeCells])
  have L0 := fresh_below w k
  rcases h with ⟨rfl, rfl⟩ | ⟨b, cap, rfl, hb, row⟩
  · have A0 : A = 0 := by rw [Nat.pow_zero] at hA; omega
    subst A0
    go_enter Try.func27, Try.ntmps27
    go_wp2_with (at_builtin; refine wpList_append_own_none _ rfl _ _ 54 rfl w.heap.size 4 i0 1 Try.underlying54 hi _ _ _ rfl own0 rfl ?_)
    go_ret
    obtain ⟨q1, q2⟩ := own_rowP own0
    exact ⟨_, _, rfl, q1, by rw [Nat.zero_mul]; exact q2, L0⟩
  · have row2 := row_bl (row.below L0 hb)
    have l1 : Hid (k + n ≤ maxLen) := by show k + n ≤ maxLen; unfold maxLen; omega
    have l2 : Hid ((k + n) * 1 ≤ 140737488355328) := by show (k + n) * 1 ≤ 140737488355328; omega
    have l3 : (Bl n A).length = n * 1 := by rw [Bl_len, Nat.mul_one]
    have l4 : w.heap.size ≤ (freshW w k).heap.size := by omega
    go_enter Try.func27, Try.ntmps27
    go_wp2_with (at_builtin; refine wpList_append_own _ rfl _ _ 54 rfl w.heap.size 4 i0 (.bool false) 1 1 Try.underlying54 hi hz0 hz1 hz2 rfl (by decide) _ _ _ rfl own0 ⟨b, 0, none⟩ n cap (Bl n A) rfl l3 row2 (Bl_one _ _) l1.out l2.out l4 ?_; intro v' w2 hown' hgrow hnil; have HN : Hid _ := hnil; clear hnil)
    go_ret
    rw [Bl_app _ _ _ _ (Nat.two_pow_pos k), Nat.add_zero] at hown'
    rcases id hown'.2 with ⟨hn, _⟩ | ⟨g, cap', cur, rfl, _⟩
    · have hx := (HN.out.1 hn).1
      cases hx
    · obtain ⟨q1, q2⟩ := own_rowP hown'
      exact ⟨_, _, rfl, q1, q2, L0.grown hgrow l4 (own_block own0)⟩
/-! ### Two rows as numbers -/
def cmpR (A B : Nat) : Int := if A < B then -1 else if A = B then 0 else 1
theorem blen_mono_lt {A B : Nat} (h : blen A < blen B) : A < B := by
  have a := lt_blen A
  have B0 : B ≠ 0 := by rintro rfl; rw [blen_zero] at h; omega
  obtain ⟨b1, b2⟩ := blen_le B0
  exact Nat.lt_of_lt_of_le (Nat.lt_of_lt_of_le a (Nat.pow_le_pow_right (by decide) (by omega))) b1
theorem cmp_bit {A B k : Nat} (h : A / 2 ^ (k + 1) = B / 2 ^ (k + 1)) (x : A.testBit k = false) (y : B.testBit k = true) : A < B := by
  rw [bitN, decide_eq_false_iff_not] at x
  rw [bitN, decide_eq_true_iff] at y
  rw [Nat.pow_succ, ← Nat.div_div_eq_div_mul, ← Nat.div_div_eq_div_mul] at h
  have l : A / 2 ^ k < B / 2 ^ k := by omega
  exact Nat.lt_of_div_lt_div l
theorem cmp_eq {A B k : Nat} (h : A / 2 ^ (k + 1) = B / 2 ^ (k + 1)) (x : A.testBit k = B.testBit k) : A / 2 ^ k = B / 2 ^ k := by
  rw [bitN, bitN, decide_eq_decide] at x
  rw [Nat.pow_succ, ← Nat.div_div_eq_div_mul, ← Nat.div_div_eq_div_mul] at h
  omega
set_option maxHeartbeats 1600000 in
theorem rcmp_any (b1 n1 cap1 A b2 n2 cap2 B : Nat) (hA : A < 2 ^ n1) (hB : B < 2 ^ n2) (h1 : n1 ≤ 10000) (h2 : n2 ≤ 10000) (w : World) (r1 : RowB w b1 n1 (fun i => A.testBit i)) (r2 : RowB w b2 n2 (fun i => B.testBit i)) :
    Calls Try.prog 31 #[.slice (some ⟨b1, 0, none⟩) n1 cap1, .slice (some ⟨b2, 0, none⟩) n2 cap2] w fun e w' => e = .returned (.int .i64 (cmpR A B)) ∧ ∃ k, w' = w.drewN k := by
  have hl1 := length_any b1 n1 cap1 A hA (by omega) w r1
  have hl2 := length_any b2 n2 cap2 B hB (by omega) w r2
  have m1 : blen A ≤ n1 := blen_le_of hA
  have m2 : blen B ≤ n2 := blen_le_of hB
  have e1 : Hid (blen A < blen B → cmpR A B = -1) := fun h => by unfold cmpR; rw [if_pos (blen_mono_lt h)]
  have e2 : Hid (blen B < blen A → cmpR A B = 1) := fun h => by
    have := blen_mono_lt h
    unfold cmpR; rw [if_neg (by omega), if_neg (by omega)]
  have e3 : Hid (∀ k, A / 2 ^ (k + 1) = B / 2 ^ (k + 1) → A.testBit k = false → B.testBit k = true → cmpR A B = -1) := fun k h x y => by unfold cmpR; rw [if_pos (cmp_bit h x y)]
  have e4 : Hid (∀ k, A / 2 ^ (k + 1) = B / 2 ^ (k + 1) → A.testBit k = true → B.testBit k = false → cmpR A B = 1) := fun k h x y => by
    have := cmp_bit h.symm y x
    unfold cmpR; rw [if_neg (by omega), if_neg (by omega)]
  have e5 : Hid (A = B → cmpR A B = 0) := fun h => by unfold cmpR; rw [if_neg (by omega), if_pos h]
  have lA := lt_blen A
  have lB := lt_blen B
  generalize cmpR A B = V at *
  generalize hNA : blen A = NA at *
  generalize hNB : blen B = NB at *
  clear hNA hNB hA hB
  have LA : Hid _ := lA
  have LB : Hid _ := lB
  clear lA lB
  rcases Nat.lt_trichotomy NA NB with c | rfl | c
  · have E := e1.out c
    have c' : (NA : Int) < (NB : Int) := by omega
    have c2 : ¬ (NA : Int) = (NB : Int) := by omega
    clear e1 e2 e3 e4 e5 LA LB r1 r2 m1 m2
    subst E
    go_enter Try.func31, Try.ntmps31
    go_wp2_with (first
      | (go_at_call_of 55 b1; refine hl1.mono ?_; rintro e w1 ⟨rfl, hw⟩; rw [hw]; clear hw w1)
      | (go_at_call_of 55 b2; refine hl2.mono ?_; rintro e w1 ⟨rfl, hw⟩; rw [hw]; clear hw w1))
    go_ret
    exact ⟨rfl, drew_0 _⟩
  · go_enter Try.func31, Try.ntmps31
    go_wp2_with (first
      | (go_at_call_of 55 b1; refine hl1.mono ?_; rintro e w1 ⟨rfl, hw⟩; rw [hw]; clear hw w1)
      | (go_at_call_of 55 b2; refine hl2.mono ?_; rintro e w1 ⟨rfl, hw⟩; rw [hw]; clear hw w1))
    go_loopw [7] (fun i wr => ∃ k : Nat, k ≤ NA ∧ i = .int .i64 ((k : Int) - 1) ∧ Hid (A / 2 ^ k = B / 2 ^ k) ∧ ∃ d, wr = w.drewN d) (fun i _ => (intOf i + 1).toNat)
    case atStart => exact ⟨NA, Nat.le_refl _, rfl, by show A / 2 ^ NA = B / 2 ^ NA; rw [Nat.div_eq_of_lt LA.out, Nat.div_eq_of_lt LB.out], drew_0 w⟩
    case round =>
      obtain ⟨k, hk, rfl, E, d, hw⟩ := hrel
      have HW : Hid _ := hw
      by_cases hk0 : k = 0
      · subst hk0
        have q := E.out
        rw [Nat.pow_zero, Nat.div_one, Nat.div_one] at q
        have Q := e5.out q
        clear q E e1 e2 e3 e4 e5 LA LB r1 r2 hw
        subst Q
        go_wp2
        go_ret
        exact ⟨rfl, d, HW.out⟩
      · obtain ⟨j, rfl⟩ : ∃ j, k = j + 1 := ⟨k - 1, by omega⟩
        have ej : ((j + 1 : Nat) : Int) - 1 = (j : Int) := by omega
        rw [ej]
        have t1 : (0 : Int) ≤ (j : Int) := by omega
        have t2 : j < n1 := by omega
        have t3 : j < n2 := by omega
        have ga : wr.cell? ⟨b1, j, none⟩ = some (.bool (A.testBit j)) := by rw [hw]; exact r1 j t2
        have gb : wr.cell? ⟨b2, j, none⟩ = some (.bool (B.testBit j)) := by rw [hw]; exact r2 j t3
        clear hw
        have x3 := e3.out j E.out
        have x4 := e4.out j E.out
        have x5 := fun h => cmp_eq (k := j) E.out h
        clear e1 e2 e3 e4 E
        generalize hx : A.testBit j = x at *
        generalize hy : B.testBit j = y at *
        clear hx hy
        cases x <;> cases y
        · have E2 : Hid _ := x5 rfl
          clear x3 x4 x5
          go_wp2_with fail
          go_region
          go_wp2_with fail
          go_roundw
          case rel => exact ⟨j, by omega, by go_num, E2, d + 1, by rw [HW.out]; rfl⟩
          case measure => first | (simp [intOf]; done) | (simp [intOf]; omega)
        · have := x3 rfl rfl
          subst this
          clear x4 x5
          go_wp2_with fail
          go_region
          go_wp2_with fail
          go_ret
          exact ⟨rfl, d + 1, by rw [HW.out]; rfl⟩
        · have := x4 rfl rfl
          subst this
          clear x3 x5
          go_wp2_with fail
          go_region
          go_wp2_with fail
          go_ret
          exact ⟨rfl, d + 1, by rw [HW.out]; rfl⟩
        · have E2 : Hid _ := x5 rfl
          clear x3 x4 x5
          go_wp2_with fail
          go_region
          go_wp2_with fail
          go_roundw
          case rel => exact ⟨j, by omega, by go_num, E2, d + 1, by rw [HW.out]; rfl⟩
          case measure => first | (simp [intOf]; done) | (simp [intOf]; omega)
  · have E := e2.out c
    have c' : ¬ (NA : Int) < (NB : Int) := by omega
    have c2 : ¬ (NA : Int) = (NB : Int) := by omega
    clear e1 e2 e3 e4 e5 LA LB r1 r2 m1 m2
    subst E
    go_enter Try.func31, Try.ntmps31
    go_wp2_with (first
      | (go_at_call_of 55 b1; refine hl1.mono ?_; rintro e w1 ⟨rfl, hw⟩; rw [hw]; clear hw w1)
      | (go_at_call_of 55 b2; refine hl2.mono ?_; rintro e w1 ⟨rfl, hw⟩; rw [hw]; clear hw w1))
    go_ret
    exact ⟨rfl, drew_0 _⟩
/-! ### Differences -/
/-- What is borrowed from place k. -/
def bB (A B k : Nat) : Bool := decide (A % 2 ^ k < B % 2 ^ k)
theorem bB_zero (A B : Nat) : bB A B 0 = false := by unfold bB; rw [Nat.pow_zero, Nat.mod_one, Nat.mod_one]; simp
theorem dif_parts (A B k : Nat) (h : B ≤ A) : (A - B) / 2 ^ k = A / 2 ^ k - B / 2 ^ k - (if bB A B k then 1 else 0) := by
  unfold bB
  have p := pow_pos' k
  have a := Nat.div_add_mod A (2 ^ k)
  have b := Nat.div_add_mod B (2 ^ k)
  have la := Nat.mod_lt A p
  have lb := Nat.mod_lt B p
  have hq : B / 2 ^ k ≤ A / 2 ^ k := Nat.div_le_div_right h
  generalize A % 2 ^ k = x at *
  generalize B % 2 ^ k = y at *
  generalize A / 2 ^ k = q at *
  generalize B / 2 ^ k = r at *
  generalize 2 ^ k = P at *
  obtain ⟨d, rfl⟩ := Nat.exists_eq_add_of_le hq
  rw [Nat.mul_add] at a
  by_cases g : x < y
  · simp only [g, decide_true, if_true]
    have d1 : d ≠ 0 := by
      rintro rfl
      rw [Nat.mul_zero] at a
      omega
    obtain ⟨d', rfl⟩ := Nat.exists_eq_succ_of_ne_zero d1
    have : A - B = (x + P - y) + P * d' := by rw [Nat.mul_succ] at a; omega
    rw [this, Nat.add_mul_div_left _ _ p, Nat.div_eq_of_lt (by omega)]
    omega
  · simp only [g, decide_false, Bool.false_eq_true, if_false]
    have : A - B = (x - y) + P * d := by omega
    rw [this, Nat.add_mul_div_left _ _ p, Nat.div_eq_of_lt (by omega)]
    omega
theorem dif_bit (A B k : Nat) (h : B ≤ A) : (A - B).testBit k = ((A.testBit k ^^ B.testBit k) ^^ bB A B k) := by
  have le : B / 2 ^ k + (if bB A B k then 1 else 0) ≤ A / 2 ^ k := by
    have p := pow_pos' k
    have a := Nat.div_add_mod A (2 ^ k)
    have b := Nat.div_add_mod B (2 ^ k)
    have la := Nat.mod_lt A p
    have lb := Nat.mod_lt B p
    have hq : B / 2 ^ k ≤ A / 2 ^ k := Nat.div_le_div_right h
    unfold bB
    by_cases g : A % 2 ^ k < B % 2 ^ k
    · simp only [g, decide_true, if_true]
      rcases Nat.lt_or_ge (B / 2 ^ k) (A / 2 ^ k) with c | c
      · exact c
      · exfalso
        have : B / 2 ^ k = A / 2 ^ k := by omega
        rw [this] at b
        omega
    · simp only [g, decide_false, Bool.false_eq_true, if_false]
      exact hq
  rw [bitN, bitN, bitN, dif_parts A B k h]
  generalize A / 2 ^ k = q at *
  generalize B / 2 ^ k = r at *
  generalize bB A B k = z at *
  cases z
  · simp only [Bool.false_eq_true, if_false, Nat.add_zero, Nat.sub_zero, Bool.xor_false] at le ⊢
    rcases Nat.mod_two_eq_zero_or_one q with h1 | h1 <;> rcases Nat.mod_two_eq_zero_or_one r with h2 | h2 <;> simp [h1, h2] <;> omega
  · simp only [if_true, Bool.xor_true] at le ⊢
    rcases Nat.mod_two_eq_zero_or_one q with h1 | h1 <;> rcases Nat.mod_two_eq_zero_or_one r with h2 | h2 <;> simp [h1, h2] <;> omega
theorem bB_succ (A B k : Nat) : bB A B (k + 1) = (!A.testBit k && B.testBit k || !(A.testBit k ^^ B.testBit k) && bB A B k) := by
  rw [bitN, bitN]
  unfold bB
  rw [Nat.mod_pow_succ, Nat.mod_pow_succ]
  have p := pow_pos' k
  have la := Nat.mod_lt A p
  have lb := Nat.mod_lt B p
  generalize A % 2 ^ k = x at *
  generalize B % 2 ^ k = y at *
  generalize A / 2 ^ k = q at *
  generalize B / 2 ^ k = r at *
  generalize 2 ^ k = P at *
  rcases Nat.mod_two_eq_zero_or_one q with h1 | h1 <;> rcases Nat.mod_two_eq_zero_or_one r with h2 | h2 <;> simp [h1, h2] <;> omega
theorem bit_past {B n k : Nat} (h : B < 2 ^ n) (hk : n ≤ k) : B.testBit k = false := by
  rw [bitN, Nat.div_eq_of_lt (Nat.lt_of_lt_of_le h (Nat.pow_le_pow_right (by decide) hk))]
  rfl
set_option maxHeartbeats 6400000 in
theorem rminus_any (b1 n1 cap1 A b2 n2 cap2 B : Nat) (hA : A < 2 ^ n1) (hB : B < 2 ^ n2) (h1 : n1 ≤ 10000) (h2 : n2 ≤ 10000) (hAB : B ≤ A) (w : World) (r1 : RowB w b1 n1 (fun i => A.testBit i)) (r2 : RowB w b2 n2 (fun i => B.testBit i)) (z1 : b1 < w.heap.size) (z2 : b2 < w.heap.size) :
    Calls Try.prog 33 #[.slice (some ⟨b1, 0, none⟩) n1 cap1, .slice (some ⟨b2, 0, none⟩) n2 cap2] w fun e w' => ∃ v, e = .returned v ∧ BitV w' v n1 (A - B) ∧ Below w.heap.size w w' := by
  have hmk := make_bools n1 (by omega)
  have lS : A - B < 2 ^ n1 := by omega
  have HB : Hid _ := hB
  have LS : Hid _ := lS
  clear hB hA lS
  go_enter Try.func33, Try.ntmps33
  go_wp2
  go_loopw [6, 7] (fun u i wr => ∃ (k : Nat), k ≤ n1 ∧ i = .int .i64 k ∧ u = .bool (bB A B k) ∧ w.heap.size < wr.heap.size ∧ RowB wr w.heap.size n1 (sumTo (A - B) k) ∧ RowF wr w.heap.size n1 ∧ Below w.heap.size w wr) (fun _ i _ => n1 - (intOf i).toNat)
  case atStart =>
    refine ⟨0, by omega, rfl, by rw [bB_zero], by rw [fresh_size]; omega, ?_, fresh_free _ _, fresh_below _ _⟩
    rw [sumTo_zero]; exact fresh_row _ _
  case round =>
    obtain ⟨k, hk, rfl, rfl, s0, hrow, hfree, hb⟩ := hrel
    by_cases hlt : k < n1
    · have t1 : (k : Int) < (n1 : Int) := by omega
      have ga : wr.cell? ⟨b1, k, none⟩ = some (.bool (A.testBit k)) := by rw [(bcell hb).1 _ _ z1]; exact r1 k hlt
      have go := hrow k (by omega)
      have ho := hfree k (by omega)
      have sb := dif_bit A B k hAB
      have cs := bB_succ A B k
      by_cases hlt2 : k < n2
      · have t2 : (k : Int) < (n2 : Int) := by omega
        have gb : wr.cell? ⟨b2, k, none⟩ = some (.bool (B.testBit k)) := by rw [(bcell hb).1 _ _ z2]; exact r2 k hlt2
        generalize A.testBit k = x at *
        generalize B.testBit k = y at *
        generalize hz : bB A B k = z at *
        have S1 : Hid _ := sb
        have S2 : Hid _ := cs
        clear sb cs hz
        cases x <;> cases y <;> cases z
        all_goals
          go_wp2
          go_roundw
          case rel =>
            refine ⟨k + 1, by omega, by go_num, congrArg Value.bool S2.out.symm, by simpa using s0, ?_, hfree.set _ _, hb.setCell (by simp) _⟩
            rw [← sumTo_succ (A - B) k _ S1.out.symm]
            exact hrow.set k _ (by omega)
          case measure => simp [intOf]; omega
      · have t2 : ¬ (k : Int) < (n2 : Int) := by omega
        rw [bit_past HB.out (by omega)] at sb cs
        generalize A.testBit k = x at *
        generalize hz : bB A B k = z at *
        have S1 : Hid _ := sb
        have S2 : Hid _ := cs
        clear sb cs hz
        cases x <;> cases z
        all_goals
          go_wp2
          go_roundw
          case rel =>
            refine ⟨k + 1, by omega, by go_num, congrArg Value.bool S2.out.symm, by simpa using s0, ?_, hfree.set _ _, hb.setCell (by simp) _⟩
            rw [← sumTo_succ (A - B) k _ S1.out.symm]
            exact hrow.set k _ (by omega)
          case measure => simp [intOf]; omega
    · have : k = n1 := by omega
      subst this
      go_wp2
      go_ret
      refine ⟨_, rfl, ⟨LS.out, Or.inr ⟨_, _, rfl, s0, hrow.ext (fun i hi => sumTo_full _ _ _ hi)⟩⟩, hb⟩
/-! ### Sums -/
theorem lit_cell (w : World) (v : Value) (t : TypeId) : ∀ j u, [v][j]? = some u → (w.alloc (.cells #[v] t)).cell? (Addr.add ⟨w.heap.size, 0, none⟩ j) = some u := by
  intro j u hj
  match j, hj with
  | 0, hj => simp at hj; subst hj; simp [Addr.add]
theorem lit_one (b : Bool) : ∀ u ∈ [Value.bool b], u.oneCell' = true := by intro u hu; simp at hu; subst hu; rfl
theorem sum_done {A B n1 n2 k : Nat} (hA : A < 2 ^ n1) (hB : B < 2 ^ n2) (h1 : n1 ≤ k) (h2 : n2 ≤ k) (c : cB A B 0 k = false) : A + B < 2 ^ k := by
  unfold cB at c
  rw [Nat.mod_eq_of_lt (Nat.lt_of_lt_of_le hA (Nat.pow_le_pow_right (by decide) h1)), Nat.mod_eq_of_lt (Nat.lt_of_lt_of_le hB (Nat.pow_le_pow_right (by decide) h2))] at c
  simp at c
  omega
set_option maxHeartbeats 12800000 in
theorem rplus_any (b1 n1 cap1 A b2 n2 cap2 B : Nat) (hA : A < 2 ^ n1) (hB : B < 2 ^ n2) (h1 : n1 ≤ 10000) (h2 : n2 ≤ 10000) (w : World) (r1 : RowB w b1 n1 (fun i => A.testBit i)) (r2 : RowB w b2 n2 (fun i => B.testBit i)) (z1 : b1 < w.heap.size) (z2 : b2 < w.heap.size) :
    Calls Try.prog 30 #[.slice (some ⟨b1, 0, none⟩) n1 cap1, .slice (some ⟨b2, 0, none⟩) n2 cap2] w fun e w' => ∃ v, e = .returned v ∧ (∃ n, n ≤ 20001 ∧ BitV w' v n (A + B)) ∧ Below w.heap.size w w' := by
  obtain ⟨i0, hi, hz0, hz1, hz2⟩ := info_parts Try.infoB
  have HA : Hid _ := hA
  have HB : Hid _ := hB
  clear hB hA
  go_enter Try.func30, Try.ntmps30
  go_wp2
  go_loopw [5, 6, 7] (fun v u i wr => ∃ (k : Nat), k ≤ 10001 ∧ (cB A B 0 k = true → k ≤ 10000) ∧ i = .int .i64 k ∧ u = .bool (cB A B 0 k) ∧ wr.ownsRow w.heap.size 4 1 v k (Bl k (A + B)) ∧ Below w.heap.size w wr) (fun _ _ i _ => 10002 - (intOf i).toNat)
  case atStart =>
    exact ⟨0, by omega, fun _ => by omega, rfl, by rw [cB_zero]; rfl, World.ownsRow_nil _ _ _ _, Below.refl _ _⟩
  case round =>
    obtain ⟨k, hk, hck, rfl, rfl, hown, hb⟩ := hrel
    have sb := sum_bit A B 0 k (by decide)
    have cs := cB_succ A B 0 k (by decide)
    rw [Nat.add_zero] at sb
    have HD : Hid (n1 ≤ k → n2 ≤ k → cB A B 0 k = false → A + B < 2 ^ k) := fun a b c => sum_done HA.out HB.out a b c
    have hs := hb.size
    have l1 : k + 1 ≤ maxLen := by unfold maxLen; omega
    have l2 : (k + 1) * 1 ≤ 140737488355328 := by omega
    have l3 : w.heap.size ≤ (wr.alloc (.cells #[.bool false] 4)).heap.size := by simp; omega
    have l4 : w.heap.size ≤ (wr.alloc (.cells #[.bool true] 4)).heap.size := by simp; omega
    by_cases c1 : k < n1 <;> by_cases c2 : k < n2
    · have t1 : (k : Int) < (n1 : Int) := by omega
      have t2 : (k : Int) < (n2 : Int) := by omega
      have ga : wr.cell? ⟨b1, k, none⟩ = some (.bool (A.testBit k)) := by rw [(bcell hb).1 _ _ z1]; exact r1 k c1
      have gb : wr.cell? ⟨b2, k, none⟩ = some (.bool (B.testBit k)) := by rw [(bcell hb).1 _ _ z2]; exact r2 k c2
      have KB : Hid (cB A B 0 (k + 1) = true → k + 1 ≤ 10000) := fun _ => by omega
      generalize A.testBit k = x at *
      generalize B.testBit k = y at *
      generalize hz : cB A B 0 k = z at *
      have S1 : Hid _ := sb
      have S2 : Hid _ := cs
      clear sb cs hz HD hck
      cases x <;> cases y <;> cases z
      all_goals
        go_wp2_with (first
          | (at_builtin; refine wpList_append_own _ rfl _ _ 54 rfl w.heap.size 4 i0 (.bool false) 1 1 Try.underlying54 hi hz0 hz1 hz2 rfl (by decide) _ _ _ rfl (hown.alloc _) ⟨wr.heap.size, 0, none⟩ 1 1 [.bool false] rfl rfl (lit_cell _ _ _) (lit_one _) l1 l2 l3 ?_; intro v' w1 hown' hgrow hnil; clear hnil)
          | (at_builtin; refine wpList_append_own _ rfl _ _ 54 rfl w.heap.size 4 i0 (.bool false) 1 1 Try.underlying54 hi hz0 hz1 hz2 rfl (by decide) _ _ _ rfl (hown.alloc _) ⟨wr.heap.size, 0, none⟩ 1 1 [.bool true] rfl rfl (lit_cell _ _ _) (lit_one _) l1 l2 l4 ?_; intro v' w1 hown' hgrow hnil; clear hnil)
          | go_in)
        have hown2 : w1.ownsRow w.heap.size 4 1 v' (k + 1) (Bl (k + 1) (A + B)) := by
          rw [← Bl_snoc, S1.out]
          exact hown'
        have hb' := (hb.alloc hb.size _).grown hgrow (by assumption) (own_block hown)
        clear hgrow hown hown'
        go_wp2
        go_roundw
        case rel => exact ⟨k + 1, by omega, KB.out, by go_num, congrArg Value.bool S2.out.symm, hown2, hb'⟩
        case measure => simp [intOf]; omega
    · have t1 : (k : Int) < (n1 : Int) := by omega
      have t2 : ¬ (k : Int) < (n2 : Int) := by omega
      have ga : wr.cell? ⟨b1, k, none⟩ = some (.bool (A.testBit k)) := by rw [(bcell hb).1 _ _ z1]; exact r1 k c1
      have KB : Hid (cB A B 0 (k + 1) = true → k + 1 ≤ 10000) := fun _ => by omega
      rw [bit_past HB.out (by omega)] at sb cs
      generalize A.testBit k = x at *
      generalize hz : cB A B 0 k = z at *
      have S1 : Hid _ := sb
      have S2 : Hid _ := cs
      clear sb cs hz HD hck
      cases x <;> cases z
      all_goals
        go_wp2_with (first
          | (at_builtin; refine wpList_append_own _ rfl _ _ 54 rfl w.heap.size 4 i0 (.bool false) 1 1 Try.underlying54 hi hz0 hz1 hz2 rfl (by decide) _ _ _ rfl (hown.alloc _) ⟨wr.heap.size, 0, none⟩ 1 1 [.bool false] rfl rfl (lit_cell _ _ _) (lit_one _) l1 l2 l3 ?_; intro v' w1 hown' hgrow hnil; clear hnil)
          | (at_builtin; refine wpList_append_own _ rfl _ _ 54 rfl w.heap.size 4 i0 (.bool false) 1 1 Try.underlying54 hi hz0 hz1 hz2 rfl (by decide) _ _ _ rfl (hown.alloc _) ⟨wr.heap.size, 0, none⟩ 1 1 [.bool true] rfl rfl (lit_cell _ _ _) (lit_one _) l1 l2 l4 ?_; intro v' w1 hown' hgrow hnil; clear hnil)
          | go_in)
        have hown2 : w1.ownsRow w.heap.size 4 1 v' (k + 1) (Bl (k + 1) (A + B)) := by
          rw [← Bl_snoc, S1.out]
          exact hown'
        have hb' := (hb.alloc hb.size _).grown hgrow (by assumption) (own_block hown)
        clear hgrow hown hown'
        go_wp2
        go_roundw
        case rel => exact ⟨k + 1, by omega, KB.out, by go_num, congrArg Value.bool S2.out.symm, hown2, hb'⟩
        case measure => simp [intOf]; omega
    · have t1 : ¬ (k : Int) < (n1 : Int) := by omega
      have t2 : (k : Int) < (n2 : Int) := by omega
      have gb : wr.cell? ⟨b2, k, none⟩ = some (.bool (B.testBit k)) := by rw [(bcell hb).1 _ _ z2]; exact r2 k c2
      have KB : Hid (cB A B 0 (k + 1) = true → k + 1 ≤ 10000) := fun _ => by omega
      rw [bit_past HA.out (by omega)] at sb cs
      generalize B.testBit k = y at *
      generalize hz : cB A B 0 k = z at *
      have S1 : Hid _ := sb
      have S2 : Hid _ := cs
      clear sb cs hz HD hck
      cases y <;> cases z
      all_goals
        go_wp2_with (first
          | (at_builtin; refine wpList_append_own _ rfl _ _ 54 rfl w.heap.size 4 i0 (.bool false) 1 1 Try.underlying54 hi hz0 hz1 hz2 rfl (by decide) _ _ _ rfl (hown.alloc _) ⟨wr.heap.size, 0, none⟩ 1 1 [.bool false] rfl rfl (lit_cell _ _ _) (lit_one _) l1 l2 l3 ?_; intro v' w1 hown' hgrow hnil; clear hnil)
          | (at_builtin; refine wpList_append_own _ rfl _ _ 54 rfl w.heap.size 4 i0 (.bool false) 1 1 Try.underlying54 hi hz0 hz1 hz2 rfl (by decide) _ _ _ rfl (hown.alloc _) ⟨wr.heap.size, 0, none⟩ 1 1 [.bool true] rfl rfl (lit_cell _ _ _) (lit_one _) l1 l2 l4 ?_; intro v' w1 hown' hgrow hnil; clear hnil)
          | go_in)
        have hown2 : w1.ownsRow w.heap.size 4 1 v' (k + 1) (Bl (k + 1) (A + B)) := by
          rw [← Bl_snoc, S1.out]
          exact hown'
        have hb' := (hb.alloc hb.size _).grown hgrow (by assumption) (own_block hown)
        clear hgrow hown hown'
        go_wp2
        go_roundw
        case rel => exact ⟨k + 1, by omega, KB.out, by go_num, congrArg Value.bool S2.out.symm, hown2, hb'⟩
        case measure => simp [intOf]; omega
    · have t1 : ¬ (k : Int) < (n1 : Int) := by omega
      have t2 : ¬ (k : Int) < (n2 : Int) := by omega
      rw [bit_past HA.out (by omega), bit_past HB.out (by omega)] at sb cs
      have D := HD.out (by omega) (by omega)
      generalize hz : cB A B 0 k = z at *
      cases z
      · have LD : Hid _ := D rfl
        clear D HD sb cs hck hz
        go_wp2
        go_ret
        exact ⟨_, rfl, ⟨k, by omega, own_bits hown LD.out⟩, hb⟩
      · have S1 : Hid _ := sb
        have S2 : Hid _ := cs
        have hk2 := hck rfl
        have KB : Hid (cB A B 0 (k + 1) = true → k + 1 ≤ 10000) := fun h => absurd (S2.out.symm.trans h) (by decide)
        clear sb cs hz HD hck D
        go_wp2_with (first
          | (at_builtin; refine wpList_append_own _ rfl _ _ 54 rfl w.heap.size 4 i0 (.bool false) 1 1 Try.underlying54 hi hz0 hz1 hz2 rfl (by decide) _ _ _ rfl (hown.alloc _) ⟨wr.heap.size, 0, none⟩ 1 1 [.bool false] rfl rfl (lit_cell _ _ _) (lit_one _) l1 l2 l3 ?_; intro v' w1 hown' hgrow hnil; clear hnil)
          | (at_builtin; refine wpList_append_own _ rfl _ _ 54 rfl w.heap.size 4 i0 (.bool false) 1 1 Try.underlying54 hi hz0 hz1 hz2 rfl (by decide) _ _ _ rfl (hown.alloc _) ⟨wr.heap.size, 0, none⟩ 1 1 [.bool true] rfl rfl (lit_cell _ _ _) (lit_one _) l1 l2 l4 ?_; intro v' w1 hown' hgrow hnil; clear hnil)
          | go_in)
        have hown2 : w1.ownsRow w.heap.size 4 1 v' (k + 1) (Bl (k + 1) (A + B)) := by
          rw [← Bl_snoc, S1.out]
          exact hown'
        have hb' := (hb.alloc hb.size _).grown hgrow (by assumption) (own_block hown)
        clear hgrow hown hown'
        go_wp2
        go_roundw
        case rel => exact ⟨k + 1, by omega, KB.out, by go_num, congrArg Value.bool S2.out.symm, hown2, hb'⟩
        case measure => simp [intOf]; omega
end Go.Proofs.Ytaiihaopgchbfaa

