/- Texts of the proof, put together. -/
import Derived.Test.YtlmcopeongkppaaDoorM7
namespace Go.Proofs.YtlmcopeongkppaaDoor
open Go.RowKit
set_option linter.unusedVariables false
set_option linter.unusedSimpArgs false
theorem z_row {w : World} {base n A q cap : Nat} (h : w.ownsRow base 4 1 (.slice (some ⟨q, 0, none⟩) n cap) n (Bl n A)) : q < w.heap.size ∧ RowB w q n (fun i => A.testBit i) := by
  refine ⟨?_, fun i hi => by rw [h.cellAt i (by omega), Bl_get _ _ _ hi]⟩
  rcases h.2 with ⟨hn, _⟩ | ⟨g, cap', cur, e, _, hg, _⟩
  · exact absurd hn (by simp)
  · have : q = g := by simp at e; exact e.1
    rw [this]
    exact (Array.getElem?_eq_some_iff.mp hg).1
theorem z_some {w : World} {base n size : Nat} {e : TypeId} {v : Value} {xs : List Value} (h : w.ownsRow base e size v n xs) (hn : n ≠ 0) : ∃ g cap, v = .slice (some ⟨g, 0, none⟩) n cap := by
  rcases h.2 with ⟨_, h0⟩ | ⟨g, cap, _, hv, _⟩
  · omega
  · exact ⟨g, cap, hv⟩
theorem z_bl {w : World} {b n A : Nat} (row : RowB w b n (fun i => A.testBit i)) : ∀ j u, (Bl n A)[j]? = some u → w.cell? (Addr.add ⟨b, 0, none⟩ j) = some u := by
  intro j u h
  have l : j < n := by
    by_cases q : j < n
    · exact q
    · rw [List.getElem?_eq_none (by rw [Bl_len]; omega)] at h; cases h
  rw [Bl_get _ _ _ l] at h
  have ea : (Addr.add ⟨b, 0, none⟩ j) = ⟨b, j, none⟩ := by simp [Addr.add]; omega
  rw [ea, row j l]
  exact h
theorem z_qb (N B P nl : Nat) (h : N < 2 ^ nl) : N * 2 ^ P / B < 2 ^ (nl + P) := Nat.lt_of_le_of_lt (Nat.div_le_self _ _) (by rw [Nat.pow_add]; exact Nat.mul_lt_mul_of_pos_right h (Nat.two_pow_pos _))
theorem z_lt (Q nl P : Nat) (M : Bool) (h : Q < 2 ^ (nl + P)) : 2 * Q + M.toNat < 2 ^ (1 + (nl + P)) := by
  have := Bool.toNat_le M
  rw [Nat.add_comm 1, Nat.pow_succ]; omega
theorem z_zero (B P : Nat) : 2 * (0 * 2 ^ P / B) + (decide (0 * 2 ^ P % B ≠ 0)).toNat = 2 * 0 + false.toNat := by simp
theorem z_pow (n : Nat) : 2 * 0 + false.toNat < 2 ^ (1 + n) := Nat.two_pow_pos _
theorem z_new {w W : World} (h : Below w.heap.size w W) (o : Obj) : Below w.heap.size w (W.alloc o) := h.alloc h.size o
theorem z_call {w W w1 : World} (h : Below w.heap.size w W) (hb : Below W.heap.size W w1) : Below w.heap.size w w1 := h.trans (hb.mono h.size)
theorem z_dN {B : Nat} {a w : World} (h : Below B a w) (n : Nat) : Below B a (w.drewN n) := h.trans ⟨rfl, rfl, rfl, Nat.le_refl _, fun _ _ => rfl⟩
set_option maxRecDepth 100000 in
set_option maxHeartbeats 6400000 in
theorem rquot3N (P B : Nat) (oa : Option Addr) (cap : Nat) (hP : P ≤ 1200) (hB : 0 < B) (w : World) :
    Calls Tryd.prog 15 #[.slice oa 0 cap, .int .u64 (B : Int), .int .i64 (P : Int)] w fun e w' =>
      ∃ o : Nat, e = .returned (.tuple #[.slice (some ⟨o, 0, none⟩) P P, .bool false]) ∧ w.heap.size ≤ o ∧ o < w'.heap.size ∧ RowB w' o P (fun i => (0 : Nat).testBit i) ∧ Below w.heap.size w w' := by
  have hmk := make_bools P (by omega)
  have fz := fresh_size w P
  have fr : RowB (freshW w P) w.heap.size P (fun i => (0 : Nat).testBit i) := (fresh_row w P).ext (fun i hi => by simp)
  have hBi : (0 : Int) < (B : Int) := by omega
  go_enter Tryd.func15, Tryd.ntmps15
  go_wp2_with fail
  go_loopw [9, 10] (fun rv i wr => ∃ (k : Nat), k ≤ P ∧ i = .int .i64 ((k : Int) - 1) ∧ rv = .int .u64 0 ∧ wr = freshW w P) (fun _ i _ => (intOf i + 1).toNat)
  case atStart => exact ⟨P, by omega, rfl, rfl, rfl⟩
  case round =>
    obtain ⟨k, hk, rfl, rfl, rfl⟩ := hrel
    by_cases hk0 : k = 0
    · subst hk0
      go_wp2_with fail
      refine bodyPost_ret (v := .tuple #[.slice (some ⟨w.heap.size, 0, none⟩) P P, .bool false]) (by simp [results, Tryd.results15, go_sem]) rfl ?_
      exact ⟨_, rfl, Nat.le_refl _, by omega, fr, fresh_below w P⟩
    · obtain ⟨j, rfl⟩ : ∃ j, k = j + 1 := ⟨k - 1, by omega⟩
      have ej : ((j + 1 : Nat) : Int) - 1 = (j : Int) := by omega
      rw [ej]
      have t1 : (0 : Int) ≤ (j : Int) := by omega
      have t3 : (P ≤ j) = False := eq_false (by omega)
      have t5 : ¬ (B : Int) ≤ 0 := by omega
      clear fr hmk hk0
      go_wp2_with fail
      go_roundw
      case rel => exact ⟨j, by omega, rfl, rfl, by first | trivial | rfl⟩
      case measure => simp [intOf]
set_option maxRecDepth 100000 in
set_option maxHeartbeats 6400000 in
theorem rlit3_val (sg : Bool) (s : ByteArray) (p d : Nat) (f : Nat → Nat) (hf : ∀ j, f j ≤ 9) (hp : 1 ≤ p) (hd : 1 ≤ d) (z : s.size = p + 1 + d) (short : p + d ≤ 18)
    (v1 : ∀ j (h : j < s.size), j < p → (s[j]'h).toNat = 48 + f j) (h46 : ∀ h : p < s.size, s[p]'h = 46) (v3 : ∀ j (h : j + 1 < s.size), p ≤ j → (s[j + 1]'h).toNat = 48 + f j) (w : World) :
    Calls Tryd.prog 5 #[.int .i64 (fb sg), .string s] w fun e w' => e = .returned (.tuple #[.int .u64 (rnd sg 0 false (2 * (dN f (p + d) * 2 ^ 1200 / 10 ^ d) + (decide (dN f (p + d) * 2 ^ 1200 % 10 ^ d ≠ 0)).toNat) (-1201)), .int .i64 0]) ∧ Below w.heap.size w w' := by
  have H1 : Hid (∀ j (h : j < s.size), j < p → 48 ≤ (s[j]'h).toNat ∧ (s[j]'h).toNat ≤ 57) := fun j h hj => by have := v1 j h hj; have := hf j; omega
  have H3 : Hid (∀ j (h : j < s.size), p < j → 48 ≤ (s[j]'h).toNat ∧ (s[j]'h).toNat ≤ 57) := fun j h hj => by
    obtain ⟨i, rfl⟩ : ∃ i, j = i + 1 := ⟨j - 1, by omega⟩
    have := v3 i h (by omega); have := hf i; omega
  have V1 : Hid _ := v1
  have V3 : Hid _ := v3
  clear v1 v3
  have hz : s.size ≤ 9223372036854775807 := by omega
  have pz : p < s.size := by omega
  have c46 := h46 pz
  clear h46
  go_enter Tryd.func5, Tryd.ntmps5
  go_wp2_with fail
  go_loopw [6, 7] (fun pt i wr => ∃ j : Nat, i = .int .i64 j ∧ j ≤ s.size ∧ wr = w ∧ ((pt = .int .i64 (-1) ∧ Hid (j ≤ p)) ∨ (pt = .int .i64 (p : Int) ∧ Hid (p < j)))) (fun _ i _ => s.size - (intOf i).toNat)
  case atStart => exact ⟨0, rfl, by omega, rfl, Or.inl ⟨rfl, Nat.zero_le _⟩⟩
  case round =>
    obtain ⟨j, rfl, hj, rfl, st⟩ := hrel
    rcases st with ⟨rfl, HS⟩ | ⟨rfl, HS⟩
    · have c : j < s.size := by have := HS.out; omega
      have ci : (j : Int) < (s.size : Int) := by omega
      by_cases jp : j < p
      · have hg := rdigit3 (s[j]'c).toNat
        have dg := H1.out j c jp
        rw [decide_eq_true dg] at hg
        have q46 := b46 (b := s[j]'c) (by intro e; rw [e] at dg; revert dg; decide)
        have NX : Hid (j + 1 ≤ p) := jp
        clear dg jp c46 z
        go_wp2_with (go_at_call 14; refine (hg _).mono ?_; rintro e w4 ⟨rfl, rfl⟩)
        exact ⟨⟨j + 1, by go_num, by omega, by first | trivial | rfl, Or.inl ⟨rfl, NX⟩⟩, by simp [intOf]; omega⟩
      · obtain rfl : j = p := by have := HS.out; omega
        have q46 : (((s[j]'c).toNat : Int) == 46) = true := by rw [c46]; rfl
        have NX : Hid (j < j + 1) := by show j < j + 1; omega
        clear c46 jp z
        go_wp2_with fail
        exact ⟨⟨j + 1, by go_num, by omega, by first | trivial | rfl, Or.inr ⟨rfl, NX⟩⟩, by simp [intOf]; omega⟩
    · have pn : decide ((p : Int) < 0) = false := by rw [decide_eq_false_iff_not]; omega
      by_cases c : j < s.size
      · have ci : (j : Int) < (s.size : Int) := by omega
        have hg := rdigit3 (s[j]'c).toNat
        have dg := H3.out j c HS.out
        rw [decide_eq_true dg] at hg
        have q46 := b46 (b := s[j]'c) (by intro e; rw [e] at dg; revert dg; decide)
        have NX : Hid (p < j + 1) := by have := HS.out; show p < j + 1; omega
        clear dg c46 z
        go_wp2_with (go_at_call 14; refine (hg _).mono ?_; rintro e w4 ⟨rfl, rfl⟩)
        exact ⟨⟨j + 1, by go_num, by omega, by first | trivial | rfl, Or.inr ⟨rfl, NX⟩⟩, by simp [intOf]; omega⟩
      · have ci : ¬ (j : Int) < (s.size : Int) := by omega
        obtain rfl : j = s.size := by omega
        have p1 : ¬ (p : Int) < 1 := by omega
        have eq1 : ((p : Int) == (s.size : Int) - 1) = false := by rw [beq_eq_false_iff_ne]; omega
        have lg : ¬ (18 : Int) < (s.size : Int) - 1 := by omega
        have s19 : (s.size : Int) ≤ 19 := by omega
        clear H1 H3 c46 ci
        go_wp2_with fail
        go_loopw [8, 9, 10] (fun n bv i w2 => ∃ q : Nat, i = .int .i64 q ∧ q ≤ s.size ∧ w2 = wr ∧ ((q ≤ p ∧ n = .int .u64 (dN f q : Nat) ∧ bv = .int .u64 1) ∨ (p < q ∧ n = .int .u64 (dN f (q - 1) : Nat) ∧ bv = .int .u64 ((10 ^ (q - 1 - p) : Nat) : Int)))) (fun _ _ i _ => s.size - (intOf i).toNat)
        case atStart => exact ⟨0, rfl, by omega, rfl, Or.inl ⟨by omega, rfl, rfl⟩⟩
        case round =>
          obtain ⟨q, rfl, hq, rfl, st⟩ := hrel
          clear eq1 lg p1 pn HS
          by_cases l : q < s.size
          · have lq : (q : Int) < (s.size : Int) := by omega
            rcases st with ⟨qp, rfl, rfl⟩ | ⟨qp, rfl, rfl⟩
            · by_cases e : q = p
              · subst e
                generalize hN : dN f q = N at *
                have HN : Hid _ := hN
                clear hN
                go_wp2_with fail
                exact ⟨⟨q + 1, by go_num, by omega, by first | trivial | rfl, Or.inr ⟨by omega, by rw [Nat.add_sub_cancel, HN.out], by rw [Nat.add_sub_cancel, Nat.sub_self]; rfl⟩⟩, by simp [intOf]; omega⟩
              · have ne : ((q : Int) == (p : Int)) = false := by rw [beq_eq_false_iff_ne]; omega
                have ng : ¬ (p : Int) < (q : Int) := by omega
                have ngd : decide ((p : Int) < (q : Int)) = false := by rw [decide_eq_false_iff_not]; omega
                have eb := V1.out q l (by omega)
                have lt : dN f (q + 1) < 10 ^ (q + 1) := dN_lt f hf (q + 1)
                have lt2 : (10 : Nat) ^ (q + 1) ≤ 10 ^ 18 := Nat.pow_le_pow_right (by decide) (by omega)
                have st : Hid (dN f (q + 1) = 10 * dN f q + f q) := rfl
                have bd : 10 * dN f q + f q < 1000000000000000000 := Nat.lt_of_lt_of_le lt lt2
                have fl := hf q
                obtain ⟨b, hb⟩ : ∃ b : Nat, (s[q]'l).toNat = b := ⟨_, rfl⟩
                rw [hb] at eb
                generalize hF : f q = F at *
                generalize hN : dN f q = N at *
                have i1 : ((b : Int) - 48) = (F : Int) := by omega
                have i2 : ((b : Int) - 48) % 256 = (F : Int) := by omega
                obtain ⟨M, i3, i4, i6⟩ : ∃ M : Int, (N : Int) * 10 ≤ M ∧ (N : Int) * 10 + (F : Int) ≤ M ∧ M ≤ 18446744073709551615 := ⟨18446744073709551615, by omega, by omega, by omega⟩
                have i5 : (F : Int) < 256 := by omega
                have Q1 : Hid (q + 1 ≤ p) := by show q + 1 ≤ p; omega
                clear lt lt2 bd eb fl hF hN e
                go_wp2_with fail
                exact ⟨⟨q + 1, by go_num, by omega, by first | trivial | rfl, Or.inl ⟨Q1.out, by rw [st.out]; congr 1; omega, rfl⟩⟩, by simp [intOf]; omega⟩
            · obtain ⟨r, hr⟩ : ∃ r, r + 1 = q := ⟨q - 1, by omega⟩
              have eb : (s[q]'l).toNat = 48 + f r := by subst hr; exact V3.out r l (by omega)
              have ne : ((q : Int) == (p : Int)) = false := by rw [beq_eq_false_iff_ne]; omega
              have lt : dN f (r + 1) < 10 ^ (r + 1) := dN_lt f hf (r + 1)
              have lt2 : (10 : Nat) ^ (r + 1) ≤ 10 ^ 18 := Nat.pow_le_pow_right (by decide) (by omega)
              have st : Hid (dN f (r + 1) = 10 * dN f r + f r) := rfl
              have bd : 10 * dN f r + f r < 1000000000000000000 := Nat.lt_of_lt_of_le lt lt2
              have fl := hf r
              have pw : Hid (10 ^ (r + 1 - p) = 10 ^ (r - p) * 10) := by
                show 10 ^ (r + 1 - p) = 10 ^ (r - p) * 10
                rw [show r + 1 - p = r - p + 1 by omega, Nat.pow_succ]
              have pl2 : (10 : Nat) ^ (r - p) ≤ 10 ^ 18 := Nat.pow_le_pow_right (by decide) (by omega)
              have pl3 : (10 : Nat) ^ 18 = 1000000000000000000 := rfl
              obtain ⟨b, hb⟩ : ∃ b : Nat, (s[q]'l).toNat = b := ⟨_, rfl⟩
              rw [hb] at eb
              rw [show q - 1 = r by omega]
              generalize hF : f r = F at *
              generalize hN : dN f r = N at *
              generalize hW : (10 : Nat) ^ (r - p) = W at *
              have i1 : ((b : Int) - 48) = (F : Int) := by omega
              have i2 : ((b : Int) - 48) % 256 = (F : Int) := by omega
              obtain ⟨M, i3, i4, i6, i7⟩ : ∃ M : Int, (N : Int) * 10 ≤ M ∧ (N : Int) * 10 + (F : Int) ≤ M ∧ M ≤ 18446744073709551615 ∧ (W : Int) * 10 ≤ M := ⟨18446744073709551615, by omega, by omega, by omega, by omega⟩
              have i5 : (F : Int) < 256 := by omega
              have qg : (p : Int) < (q : Int) := by omega
              have qs : Hid (q + 1 ≤ s.size ∧ r + 1 = q ∧ p < q) := ⟨by omega, hr, by omega⟩
              clear lt lt2 bd eb fl hF hN hW pl2 pl3 hr hq qp
              go_wp2_with fail
              obtain ⟨z1, z2, z3⟩ := qs.out
              exact ⟨⟨q + 1, by go_num, z1, by first | trivial | rfl, Or.inr ⟨by omega, by rw [Nat.add_sub_cancel, ← z2, st.out]; congr 1; omega, by rw [Nat.add_sub_cancel, ← z2, pw.out]; congr 1⟩⟩, by simp [intOf]; omega⟩
          · have lq : ¬ (q : Int) < (s.size : Int) := by omega
            obtain rfl : q = s.size := by omega
            rcases st with ⟨qp, _, _⟩ | ⟨qp, rfl, rfl⟩
            · omega
            · rw [show s.size - 1 = p + d by omega, show p + d - p = d by omega]
              have nb : dN f (p + d) < 18446744073709551616 := by
                have a := dN_lt f hf (p + d)
                have b : (10 : Nat) ^ (p + d) ≤ 10 ^ 18 := Nat.pow_le_pow_right (by decide) short
                have c : (10 : Nat) ^ 18 = 1000000000000000000 := rfl
                omega
              have b0 : 0 < (10 : Nat) ^ d := Nat.pow_pos (by decide)
              have b18 : (10 : Nat) ^ d ≤ 1000000000000000000 := Nat.le_trans (Nat.pow_le_pow_right (by decide) (show d ≤ 18 by omega)) (by decide)
              obtain ⟨V, hV⟩ : ∃ V : Int, rnd sg 0 false (2 * (dN f (p + d) * 2 ^ 1200 / 10 ^ d) + (decide (dN f (p + d) * 2 ^ 1200 % 10 ^ d ≠ 0)).toNat) (-1201) = V := ⟨_, rfl⟩
              have HV : Hid _ := hV
              clear hV
              generalize hN : dN f (p + d) = N at *
              generalize hB : (10 : Nat) ^ d = B at *
              have HN : Hid _ := hN
              have HB : Hid _ := hB
              clear hN hB
              have hbt := rbits3_any N nb
              have hrd := fun (v : Value) (n A : Nat) (hn : n ≤ 100000) (W : World) h => rounded_any sg 0 false v n A hn (-1201) (by omega) (by omega) W h
              by_cases n0 : N = 0
              · subst n0
                have hquot := fun oa cap W => rquot3N 1200 B oa cap (Nat.le_refl _) b0 W
                rw [show ((1200 : Nat) : Int) = 1200 from rfl] at hquot
                rw [blen_zero] at hbt
                have HLT : Hid (2 * 0 + false.toNat < 2 ^ (1 + 1200)) := z_pow 1200
                have hcons : ∀ n A : Nat, #[Value.bool false].toList ++ Bl n A = Bl (1 + n) (2 * A + false.toNat) := fun n A => by rw [Nat.add_comm 1 n, ← Bl_cons]; rfl
                have HC : Hid _ := hcons
                have lenH : (Bl 1200 0).length = 1200 * 1 := by rw [Bl_len]
                have l1H : 1 + 1200 ≤ maxLen := by unfold maxLen; omega
                have l2H : (1 + 1200) * 1 ≤ 140737488355328 := by omega
                have l3H : 1 + 1200 ≤ 100000 := by omega
                have HV2 : Hid (rnd sg 0 false (2 * 0 + false.toNat) (-1201) = V) := by
                  have := HV.out
                  rw [z_zero B 1200] at this
                  exact this
                obtain ⟨i0, hi, hz0, hz1, hz2⟩ := info_parts Tryd.infoB
                clear hcons nb b18 l lq
                go_wp2_with (first
                  | (go_at_call 16; refine (hbt _).mono ?_; rintro r w2 ⟨v, rfl, own, L2⟩; obtain ⟨oa, cap, rfl⟩ := own_shape own; have s2 := L2.size)
                  | (go_at_call 15; refine (hquot _ _ _).mono ?_; rintro r w3 ⟨o, rfl, ho1, ho2, row3, L3⟩; have s3 : wr.heap.size ≤ w3.heap.size := Nat.le_trans s2 L3.size; have own3 := World.ownsRow_lit (e := 4) (size := 1) (base := wr.heap.size) w3 #[.bool false] 1 s3 (by decide) rfl; have row4 := z_bl (row3.below (z_new (Below.refl w3.heap.size w3) (.cells #[.bool false] 4)) ho2); have s4 := Nat.le_trans s3 (z_new (Below.refl w3.heap.size w3) (.cells #[.bool false] 4)).size)
                  | (at_builtin; refine wpList_append_own _ rfl _ _ 39 rfl wr.heap.size 4 i0 (.bool false) 1 1 Tryd.underlying39 hi hz0 hz1 hz2 rfl (by decide) _ _ _ rfl own3 ⟨o, 0, none⟩ 1200 1200 (Bl 1200 0) rfl lenH row4 (Bl_one _ _) l1H l2H s4 ?_; intro v4 w4 hown4 hgrow4 _; have hown5 := hown4; rw [HC.out] at hown5; have bv4 := own_bits hown5 HLT.out; clear hown4 hown5; have hR := hrd v4 (1 + 1200) _ l3H w4 bv4; rw [HV2.out] at hR)
                  | (go_at_call 17; refine hR.mono ?_; rintro r w5 ⟨rfl, kk, rfl⟩)
                  | go_in)
                refine bodyPost_ret (v := .tuple #[.int .u64 V, .int .i64 0]) (by simp [results, Tryd.results5, go_sem]) rfl ?_
                exact ⟨by rw [HN.out, HB.out, HV.out], z_dN ((z_new (z_call L2 L3) _).grown hgrow4 s4 (own_block own3)) _⟩
              · have nl0 : blen N ≠ 0 := by
                  intro e
                  have := lt_blen N
                  rw [e] at this
                  omega
                have nl64 : blen N ≤ 64 := blen_le_of (by rw [show (2 : Nat) ^ 64 = 18446744073709551616 from rfl]; exact nb)
                have hX := lt_blen N
                have hquot := fun q cap W row hq => rquot3P 1200 (Nat.le_refl _) q (blen N) cap N B b0 b18 hX nl64 nl0 W row hq
                rw [show ((1200 : Nat) : Int) = 1200 from rfl] at hquot
                have QB := z_qb N B 1200 (blen N) hX
                generalize hQ : N * 2 ^ 1200 / B = QQ at *
                generalize hM : decide (N * 2 ^ 1200 % B ≠ 0) = MM at *
                generalize blen N = nl at *
                have HQ : Hid _ := hQ
                have HM : Hid _ := hM
                clear hQ hM
                have HLT : Hid (2 * QQ + MM.toNat < 2 ^ (1 + (nl + 1200))) := z_lt QQ nl 1200 MM QB
                have hcons : ∀ n A : Nat, #[Value.bool MM].toList ++ Bl n A = Bl (1 + n) (2 * A + MM.toNat) := fun n A => by rw [Nat.add_comm 1 n, ← Bl_cons]; rfl
                have HC : Hid _ := hcons
                have lenH : (Bl (nl + 1200) QQ).length = (nl + 1200) * 1 := by rw [Bl_len, Nat.mul_one]
                have l1H : 1 + (nl + 1200) ≤ maxLen := by unfold maxLen; omega
                have l2H : (1 + (nl + 1200)) * 1 ≤ 140737488355328 := by omega
                have l3H : 1 + (nl + 1200) ≤ 100000 := by omega
                obtain ⟨i0, hi, hz0, hz1, hz2⟩ := info_parts Tryd.infoB
                have NI : Hid (nl ≠ 0) := nl0
                clear hcons hX nl64 nl0 QB nb b18 n0 l lq
                go_wp2_with (first
                  | (go_at_call 16; refine (hbt _).mono ?_; rintro r w2 ⟨v, rfl, own, L2⟩; obtain ⟨q, cap, rfl⟩ := z_some own NI.out; obtain ⟨hq, row⟩ := z_row own; have s2 := L2.size)
                  | (go_at_call 15; refine (hquot _ _ _ row hq).mono ?_; rintro r w3 ⟨o, rfl, ho1, ho2, row3, L3⟩; have s3 : wr.heap.size ≤ w3.heap.size := Nat.le_trans s2 L3.size; have own3 := World.ownsRow_lit (e := 4) (size := 1) (base := wr.heap.size) w3 #[.bool MM] 1 s3 (by decide) rfl; have row4 := z_bl (row3.below (z_new (Below.refl w3.heap.size w3) (.cells #[.bool MM] 4)) ho2); have s4 := Nat.le_trans s3 (z_new (Below.refl w3.heap.size w3) (.cells #[.bool MM] 4)).size)
                  | (at_builtin; refine wpList_append_own _ rfl _ _ 39 rfl wr.heap.size 4 i0 (.bool false) 1 1 Tryd.underlying39 hi hz0 hz1 hz2 rfl (by decide) _ _ _ rfl own3 ⟨o, 0, none⟩ (nl + 1200) (nl + 1200) (Bl (nl + 1200) QQ) rfl lenH row4 (Bl_one _ _) l1H l2H s4 ?_; intro v4 w4 hown4 hgrow4 _; have hown5 := hown4; rw [HC.out] at hown5; have bv4 := own_bits hown5 HLT.out; clear hown4 hown5; have hR := hrd v4 (1 + (nl + 1200)) _ l3H w4 bv4; rw [HV.out] at hR)
                  | (go_at_call 17; refine hR.mono ?_; rintro r w5 ⟨rfl, kk, rfl⟩)
                  | go_in)
                refine bodyPost_ret (v := .tuple #[.int .u64 V, .int .i64 0]) (by simp [results, Tryd.results5, go_sem]) rfl ?_
                exact ⟨by rw [HN.out, HB.out, HQ.out, HM.out, HV.out], z_dN ((z_new (z_call L2 L3) _).grown hgrow4 s4 (own_block own3)) _⟩
end Go.Proofs.YtlmcopeongkppaaDoor

namespace Go.Proofs.YtlmcopeongkppaaDoor
open Go.RowKit
set_option linter.unusedVariables false
set_option linter.unusedSimpArgs false
/-- Where the digits end, and what stands there. -/
theorem tx_facts (s : ByteArray) (p d : Nat) (hp : cnt 4 s.toList = p) (hd : cnt 4 (s.toList.drop (p + 1)) = d) :
    p ≤ s.size ∧ (p < s.size → p + 1 + d ≤ s.size) ∧ (∀ j (h : j < s.size), j < p → 48 ≤ (s[j]'h).toNat ∧ (s[j]'h).toNat ≤ 57) ∧ (∀ h : p < s.size, ¬ (48 ≤ (s[p]'h).toNat ∧ (s[p]'h).toNat ≤ 57))
      ∧ (∀ j (h : j < s.size), p < j → j < p + 1 + d → 48 ≤ (s[j]'h).toNat ∧ (s[j]'h).toNat ≤ 57) ∧ (∀ h : p + 1 + d < s.size, ¬ (48 ≤ (s[p + 1 + d]'h).toNat ∧ (s[p + 1 + d]'h).toNat ≤ 57)) := by
  have l1 := cnt_size 4 s
  have l2 := cnt_le 4 (s.toList.drop (p + 1))
  rw [List.length_drop, toL_len] at l2
  rw [hp] at l1
  rw [hd] at l2
  refine ⟨l1, fun h => by omega, fun j h hj => ?_, fun h q => ?_, fun j h h1 h2 => ?_, fun h q => ?_⟩
  · have := cnt_in 4 s.toList j (by rw [toL_len]; exact h) (by rw [hp]; exact hj)
    rw [toL_gt s j h (by rw [toL_len]; exact h)] at this
    exact kb4 (kbn4 this)
  · subst hp
    have := cnt_out 4 s.toList (by rw [toL_len]; exact h)
    rw [toL_gt s _ h (by rw [toL_len]; exact h), kb4' q] at this
    simp at this
  · have := cnt_in 4 (s.toList.drop (p + 1)) (j - (p + 1)) (by rw [List.length_drop, toL_len]; omega) (by rw [hd]; omega)
    rw [List.getElem_drop] at this
    simp only [show p + 1 + (j - (p + 1)) = j by omega] at this
    rw [toL_gt s j h (by rw [toL_len]; exact h)] at this
    exact kb4 (kbn4 this)
  · subst hd
    have := cnt_out 4 (s.toList.drop (p + 1)) (by rw [List.length_drop, toL_len]; omega)
    rw [List.getElem_drop, toL_gt s _ h (by rw [toL_len]; exact h), kb4' q] at this
    simp at this
theorem tx_lit (f : Int) (s : ByteArray) (hz : s.size ≤ 9223372036854775807) : ∃ V E : Int,
    (∀ w, Calls Tryd.prog 4 #[.int .i64 f, .string s] w fun e w' => e = .returned (.tuple #[.int .u64 V, .int .i64 E]) ∧ Below w.heap.size w w')
    ∧ (∀ w, Calls Tryd.prog 5 #[.int .i64 (fb (f == 1)), .string s] w fun e w' => e = .returned (.tuple #[.int .u64 V, .int .i64 E]) ∧ Below w.heap.size w w') := by
  obtain ⟨p, hp⟩ : ∃ p, cnt 4 s.toList = p := ⟨_, rfl⟩
  obtain ⟨d, hd⟩ : ∃ d, cnt 4 (s.toList.drop (p + 1)) = d := ⟨_, rfl⟩
  obtain ⟨f1, f2, f3, f4, f5, f6⟩ := tx_facts s p d hp hd
  by_cases c : litF s.toList
  · have c' := c
    unfold litF at c'
    rw [hp, hd, toL_len] at c'
    obtain ⟨c1, c2, c3, c4⟩ := c'
    have h46 : ∀ h : p < s.size, s[p]'h = 46 := fun h => by
      rw [toL_at s p h] at c2
      exact Option.some.inj c2
    by_cases long : 19 < s.size
    · exact ⟨0, 9, fun w => lit_much f s hz c long w, fun w => rlit3_much (fb (f == 1)) s p d hz c1 c3 c4 (by omega) f3 h46 (fun j h hj => f5 j h hj (by omega)) w⟩
    · obtain ⟨F, hF, v1, v3⟩ : ∃ F : Nat → Nat, (∀ j, F j ≤ 9) ∧ (∀ j (h : j < s.size), j < p → (s[j]'h).toNat = 48 + F j) ∧ (∀ j (h : j + 1 < s.size), p ≤ j → (s[j + 1]'h).toNat = 48 + F j) := by
        refine ⟨fun i => if i < p then (if q : i < s.size then (s[i]'q).toNat - 48 else 0) else (if q : i + 1 < s.size then (s[i + 1]'q).toNat - 48 else 0), fun i => ?_, fun j h hj => ?_, fun j h hj => ?_⟩
        · by_cases a : i < p
          · have q : i < s.size := by omega
            simp only [a, q, if_true, dite_true]
            have := f3 i q a
            omega
          · simp only [a, if_false]
            by_cases q : i + 1 < s.size
            · simp only [q, dite_true]
              have := f5 (i + 1) q (by omega) (by omega)
              omega
            · simp only [q, dite_false]; omega
        · simp only [hj, h, if_true, dite_true]
          have := f3 j h hj
          omega
        · have a : ¬ j < p := by omega
          simp only [a, h, if_false, dite_true]
          have := f5 (j + 1) h (by omega) (by omega)
          omega
      refine ⟨_, 0, fun w => literal_any f s p d F hF c4 c1 c3 (by omega) v1 (fun h => by rw [h46 h]; rfl) (fun j h => ?_) w, fun w => ?_⟩
      · have := v3 (p + j) (by omega) (by omega)
        simp only [show p + j + 1 = p + 1 + j by omega] at this
        exact this
      · rw [dec_ref (f == 1) (dN F (p + d)) d (Nat.lt_of_lt_of_le (dN_lt F hF (p + d)) (Nat.le_trans (Nat.pow_le_pow_right (by decide) (show p + d ≤ 18 by omega)) (by decide))) (by omega)]
        exact rlit3_val (f == 1) s p d F hF c1 c3 c4 (by omega) v1 h46 v3 w
  · refine ⟨0, 4, fun w => lit_bad f s hz c w, fun w => rlit3_bad (fb (f == 1)) s p d hz f1 f2 f3 f4 f5 f6 ?_ w⟩
    rintro ⟨⟨g1, g2, g3⟩, g4⟩
    refine c ?_
    unfold litF
    rw [hp, hd, toL_len]
    have pl : p < s.size := by omega
    exact ⟨g1, by rw [toL_at s p pl, g4 pl], g2, g3⟩
theorem tx_int (s : ByteArray) (hz : s.size ≤ 9223372036854775807) : ∃ V E : Int,
    (∀ w, Calls Tryd.prog 7 #[.string s] w fun e w' => e = .returned (.tuple #[.int .i64 V, .int .i64 E]) ∧ Below w.heap.size w w')
    ∧ (∀ w, Calls Tryd.prog 8 #[.string s] w fun e w' => e = .returned (.tuple #[.int .i64 V, .int .i64 E]) ∧ Below w.heap.size w w') := by
  by_cases s0 : s.size = 0
  · exact ⟨0, 4, fun w => int_empty s s0 w, fun w => rint3_empty s s0 w⟩
  · by_cases c : cnt 4 s.toList = s.size
    · have hd : Dg s.toList := ⟨fun q => by have := toL_len s; rw [q] at this; simp at this; omega, all_of_cnt (by rw [toL_len]; exact c)⟩
      have hdig : ∀ j (h : j < s.size), 48 ≤ (s[j]'h).toNat ∧ (s[j]'h).toNat ≤ 57 := (fun j h => (tx_facts s _ _ c rfl).2.2.1 j h h)
      by_cases long : 18 < s.size
      · exact ⟨0, 9, fun w => int_long s hz (ne_of (by omega)) long (dOf_all hd hz) w, fun w => rint3_long s hz hdig long w⟩
      · obtain ⟨F, hF, eF, s1⟩ := dig_text hd
        have vF : ∀ j (h : j < s.size), (s[j]'h).toNat = 48 + F j := fun j h => by
          have := digS_get F s.size j hF (by rw [digS_size]; exact h)
          simp only [eF] at this
          exact this
        have hr := rint3_val s F hF s1 (by omega) vF
        by_cases big : dN F s.size ≤ 2147483647
        · refine ⟨_, _, fun w => ?_, fun w => by have := hr w; rw [if_pos big] at this; exact this⟩
          have := intD_ok s.size F s1 (by omega) hF big w
          rw [eF] at this
          exact this
        · refine ⟨_, _, fun w => ?_, fun w => by have := hr w; rw [if_neg big] at this; exact this⟩
          have := intD_big s.size F s1 (by omega) hF (by omega) w
          rw [eF] at this
          exact this
    · exact ⟨0, 4, fun w => int_bad s hz (fun q => c q.2) (by omega) w, fun w => rint3_bad s hz c w⟩
theorem tx_format (f : Int) (w : World) : Calls Tryd.prog 6 #[.int .i64 f] w fun e w' => e = .returned (.int .i64 (fb (f == 1))) ∧ w' = w := by
  by_cases c : f = 1
  · subst c
    go_enter Tryd.func6, Tryd.ntmps6
    go_wp2_with fail
    go_ret
    exact ⟨rfl, rfl⟩
  · have c' : (f == 1) = false := by simp [c]
    rw [c']
    go_enter Tryd.func6, Tryd.ntmps6
    go_wp2_with fail
    go_ret
    exact ⟨rfl, rfl⟩
set_option maxRecDepth 8000 in
set_option maxHeartbeats 3200000 in
theorem law_convtexts (f : Int) (s : ByteArray) (hz : s.size ≤ 9223372036854775807) (w : World) (h : w.cell? ⟨5, 15, none⟩ = some (.int .u8 4)) :
    Calls Tryd.prog 3 #[.int .i64 f, .string s] w fun e w' => e = .returned (.bool true) ∧ Below w.heap.size w w' := by
  obtain ⟨V1, E1, c1, r1⟩ := tx_lit f s hz
  obtain ⟨V2, E2, c2, r2⟩ := tx_int s hz
  have hl := clive_any
  have hg := tx_format f
  generalize fb (f == 1) = g at *
  go_enter Tryd.func3, Tryd.ntmps3
  go_wp2_with (first
    | (go_at_call 6; refine (hg _).mono ?_; rintro e wa ⟨rfl, hw⟩; rw [hw]; clear hw wa)
    | (go_at_call 4; refine (c1 _).mono ?_; rintro e w1 ⟨rfl, b1⟩; replace h := cell_on b1 h)
    | (go_at_call 5; refine (r1 _).mono ?_; rintro e w2 ⟨rfl, b2⟩; replace h := cell_on b2 h)
    | (go_at_call 7; refine (c2 _).mono ?_; rintro e w3 ⟨rfl, b3⟩; replace h := cell_on b3 h)
    | (go_at_call 8; refine (r2 _).mono ?_; rintro e w4 ⟨rfl, b4⟩; replace h := cell_on b4 h)
    | (go_at_call 9; refine (hl _ h).mono ?_; rintro e w0 ⟨rfl, b0⟩)
    | fail)
  go_ret
  exact ⟨rfl, below_callC (below_callC (below_callC (below_callC b1 b2) b3) b4) b0⟩
end Go.Proofs.YtlmcopeongkppaaDoor

