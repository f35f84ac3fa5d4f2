/- Rounding: the size of a whole number times a power of 2. -/
import Derived.Test.YtfbkiklopeebdaaSoftE
namespace Go.Proofs.Ytfbkiklopeebdaa
open Go.RowKit
set_option linter.unusedVariables false
set_option linter.unusedSimpArgs false
theorem and_odd (q : Nat) (h : q < 18446744073709551616) : ((bits BinOp.and IntKind.u64 (q : Int) 1) == 1) = (q % 2 == 1) := by
  have t := u64_and_nat q 1 h (by decide)
  have e : q &&& 1 = q % 2 := Nat.and_two_pow_sub_one_eq_mod q 1
  rw [e] at t
  have t' : bits BinOp.and IntKind.u64 (q : Int) 1 = ((q % 2 : Nat) : Int) := t
  rw [t', Bool.eq_iff_iff, beq_iff_eq, beq_iff_eq]
  omega
theorem mag_eqD (m : Int) (b : Bool) (N : Nat) (e last : Int) (hl : lastOf false N e = last) :
    mag false m b N e = (if 9218868437227405312 ≤ (last - (-1074)) * 4503599627370496 + ((quo N (last - e) + if away m b (quo N (last - e) % 2 == 1) (half N (last - e)) (low N (last - e)) then 1 else 0 : Nat) : Int) then great false m b
      else (last - (-1074)) * 4503599627370496 + ((quo N (last - e) + if away m b (quo N (last - e) % 2 == 1) (half N (last - e)) (low N (last - e)) then 1 else 0 : Nat) : Int)) := by
  subst hl; rfl
theorem last_eqD {N : Nat} (n0 : N ≠ 0) (e n : Int) (hn : (blen N : Int) = n) (hn2 : n ≤ 128) : ∃ last : Int, max (n - 53 + e) (-1074) = last ∧ lastOf false N e = last ∧ (-1074) ≤ last ∧ n - 53 + e ≤ last ∧ (last = (-1074) ∨ last = n - 53 + e) ∧ quo N (last - e) < 9007199254740992 := by
  refine ⟨_, rfl, ?_, by omega, by omega, by omega, ?_⟩
  · unfold lastOf; rw [hn]; rfl
  · have := kept false n0 e (min e (-1074)) (by omega) (by show min e (-1074) ≤ (-1074); omega)
    obtain ⟨x, _, q, _⟩ := this
    have t : lastOf false N e = max (n - 53 + e) (-1074) := by unfold lastOf; rw [hn]; rfl
    rw [t] at q
    exact q
set_option maxRecDepth 8000 in
set_option maxHeartbeats 3200000 in
theorem size_d (m : Int) (b : Bool) (ah al e : Int) (h1 : Word ah) (h2 : Word al) (n0 : nn ah al ≠ 0) (e1 : -4010 ≤ e) (e2 : e ≤ 4010) (w : World) :
    Calls Try.prog 28 #[fmtV false, rdV m, .bool b, .agg #[.int .u64 ah, .int .u64 al], .int .i64 e] w fun r w' => r = .returned (.int .u64 (mag false m b (nn ah al) e)) ∧ Below w.heap.size w w' := by
  have hlen := len_ex ah al h1 h2
  have hn2 := blen_128 h1 h2
  have hn1 := (blen_le n0).2
  have hn : ∃ n : Int, (blen (nn ah al) : Int) = n := ⟨_, rfl⟩
  obtain ⟨n, hn⟩ := hn
  obtain ⟨last, hM, hL, l1, l2, l3, hq⟩ := last_eqD n0 e n hn (by omega)
  rw [mag_eqD m b _ e last hL]
  have hcut := cut_any ah al (last - e) h1 h2 (by omega) (by omega) (by omega)
  have hgr := tooGreat_any false m b
  have haw := away_any m b (quo (nn ah al) (last - e) % 2 == 1) (half (nn ah al) (last - e)) (low (nn ah al) (last - e))
  have hE := awF_enters m
  have hO : ((bits BinOp.and IntKind.u64 ((quo (nn ah al) (last - e) : Nat) : Int) 1) == 1) = (quo (nn ah al) (last - e) % 2 == 1) := and_odd _ (by omega)
  rw [hn] at hlen
  have n1 : 1 ≤ n := by omega
  have n2 : n ≤ 128 := by omega
  generalize (quo (nn ah al) (last - e) % 2 == 1) = O at *
  generalize rc (half (nn ah al) (last - e)) (low (nn ah al) (last - e)) = R at *
  generalize away m b O (half (nn ah al) (last - e)) (low (nn ah al) (last - e)) = A at *
  have cast : ((quo (nn ah al) (last - e) + if A = true then 1 else 0 : Nat) : Int) = ((quo (nn ah al) (last - e) : Nat) : Int) + (if A = true then 1 else 0) := by cases A <;> simp
  rw [cast]
  have t0 : (0 : Int) ≤ ((quo (nn ah al) (last - e) : Nat) : Int) := Int.natCast_nonneg _
  have t1 : ((quo (nn ah al) (last - e) : Nat) : Int) < 9007199254740992 := by omega
  generalize ((quo (nn ah al) (last - e) : Nat) : Int) = t at *
  generalize great false m b = G at *
  clear hn hn1 hn2 hL hq cast l3 n0 h1 h2
  have hV : ∃ V : Int, (if 9218868437227405312 ≤ (last - (-1074)) * 4503599627370496 + (t + if A = true then 1 else 0) then G else (last - (-1074)) * 4503599627370496 + (t + if A = true then 1 else 0)) = V := ⟨_, rfl⟩
  obtain ⟨V, hV⟩ := hV
  rw [hV]
  have HV : Hid _ := hV
  clear hV
  unfold rdV at hgr ⊢
  unfold fmtV at hgr ⊢
  generalize awF m = F at *
  have b3 := below_three w (.cells #[.int .i64 64, .int .i64 52, .int .i64 (-1074), .int .u64 9223372036854775808, .int .u64 9218868437227405312] 61) (.cells #[.func (.func F) #[] #[]] 69) (.cells #[.int .u64 ah, .int .u64 al] 49)
  have b4 := (b3.alloc (by simp; omega) (.cells #[.int .u64 ah, .int .u64 al] 49)).drew
  clear b3
  go_enter Try.func28, Try.ntmps28
  go_upto_region 1 with fail
  go_region_held3 (fun w' => w'.cell? ⟨w.heap.size, 0, none⟩ = some (.int .i64 64) ∧ w'.cell? ⟨w.heap.size, 1, none⟩ = some (.int .i64 52) ∧ w'.cell? ⟨w.heap.size, 2, none⟩ = some (.int .i64 (-1074)) ∧ w'.cell? ⟨w.heap.size + 1 + 1, 0, none⟩ = some (.int .u64 ah) ∧ w'.cell? ⟨w.heap.size + 1 + 1, 1, none⟩ = some (.int .u64 al))
      (simp [go_sem, World.cell?_alloc_past])
      ((go_at_call 17; refine (hlen _).mono ?_; rintro e w1 ⟨rfl, rfl⟩))
  by_cases c1 : 2047 ≤ last - (-1074)
  · have v := HV.out
    rw [if_pos (by cases A <;> simp <;> omega)] at v
    subst v
    go_wp2_with fail
    refine (hgr _).mono ?_
    rintro e w1 ⟨rfl, hb1⟩
    replace b4 := below_call b4 hb1
    go_wp2_with fail
    go_ret
    exact ⟨rfl, b4⟩
  · go_wp2_with fail
    refine (hcut _).mono ?_
    rintro e w1 ⟨rfl, hb1⟩
    obtain ⟨hc, hf⟩ := bcell hb1
    have y0 : w1.cell? ⟨w.heap.size, 0, none⟩ = some (.int .i64 64) := by rw [hc _ _ (by simp; omega)]; simp [go_sem]
    have y1 : w1.cell? ⟨w.heap.size, 1, none⟩ = some (.int .i64 52) := by rw [hc _ _ (by simp; omega)]; simp [go_sem]
    have y2 : w1.cell? ⟨w.heap.size, 2, none⟩ = some (.int .i64 (-1074)) := by rw [hc _ _ (by simp; omega)]; simp [go_sem]
    have y3 : w1.cell? ⟨w.heap.size, 3, none⟩ = some (.int .u64 9223372036854775808) := by rw [hc _ _ (by simp; omega)]; simp [go_sem]
    have y4 : w1.cell? ⟨w.heap.size, 4, none⟩ = some (.int .u64 9218868437227405312) := by rw [hc _ _ (by simp; omega)]; simp [go_sem]
    have r0 : w1.cell? ⟨w.heap.size + 1, 0, none⟩ = some (.func (.func F) #[] #[]) := by rw [hc _ _ (by simp)]; simp [go_sem]
    replace b4 := below_call b4 hb1
    clear hc hf hb1 hcut hlen
    cases A
    · have c3 : 9218868437227405312 ≤ (last - (-1074)) * 4503599627370496 + (t) ∨ ¬ 9218868437227405312 ≤ (last - (-1074)) * 4503599627370496 + (t) := by omega
      have v := HV.out
      simp only [Bool.false_eq_true, if_false, Int.add_zero] at v
      rcases c3 with c2 | c2
      · rw [if_pos c2] at v
        subst v
        go_wp2_with (first | (go_at_fn F; refine (haw _).mono ?_; rintro e w2 ⟨rfl, rfl⟩) | (go_at_call 31; refine (hgr _).mono ?_; rintro e w3 ⟨rfl, hb3⟩))
        go_ret
        exact ⟨rfl, below_call b4 hb3⟩
      · rw [if_neg c2] at v
        subst v
        go_wp2_with (go_at_fn F; refine (haw _).mono ?_; rintro e w2 ⟨rfl, rfl⟩)
        go_ret
        exact ⟨by first | rfl | (simp [go_sem]; omega), b4⟩
    · have c3 : 9218868437227405312 ≤ (last - (-1074)) * 4503599627370496 + (t + 1) ∨ ¬ 9218868437227405312 ≤ (last - (-1074)) * 4503599627370496 + (t + 1) := by omega
      have v := HV.out
      simp only [if_true] at v
      rcases c3 with c2 | c2
      · rw [if_pos c2] at v
        subst v
        go_wp2_with (first | (go_at_fn F; refine (haw _).mono ?_; rintro e w2 ⟨rfl, rfl⟩) | (go_at_call 31; refine (hgr _).mono ?_; rintro e w3 ⟨rfl, hb3⟩))
        go_ret
        exact ⟨rfl, below_call b4 hb3⟩
      · rw [if_neg c2] at v
        subst v
        go_wp2_with (go_at_fn F; refine (haw _).mono ?_; rintro e w2 ⟨rfl, rfl⟩)
        go_ret
        exact ⟨by first | rfl | (simp [go_sem]; omega), b4⟩
theorem mag_eqS (m : Int) (b : Bool) (N : Nat) (e last : Int) (hl : lastOf true N e = last) :
    mag true m b N e = (if 2139095040 ≤ (last - (-149)) * 8388608 + ((quo N (last - e) + if away m b (quo N (last - e) % 2 == 1) (half N (last - e)) (low N (last - e)) then 1 else 0 : Nat) : Int) then great true m b
      else (last - (-149)) * 8388608 + ((quo N (last - e) + if away m b (quo N (last - e) % 2 == 1) (half N (last - e)) (low N (last - e)) then 1 else 0 : Nat) : Int)) := by
  subst hl; rfl
theorem last_eqS {N : Nat} (n0 : N ≠ 0) (e n : Int) (hn : (blen N : Int) = n) (hn2 : n ≤ 128) : ∃ last : Int, max (n - 24 + e) (-149) = last ∧ lastOf true N e = last ∧ (-149) ≤ last ∧ n - 24 + e ≤ last ∧ (last = (-149) ∨ last = n - 24 + e) ∧ quo N (last - e) < 16777216 := by
  refine ⟨_, rfl, ?_, by omega, by omega, by omega, ?_⟩
  · unfold lastOf; rw [hn]; rfl
  · have := kept true n0 e (min e (-149)) (by omega) (by show min e (-149) ≤ (-149); omega)
    obtain ⟨x, _, q, _⟩ := this
    have t : lastOf true N e = max (n - 24 + e) (-149) := by unfold lastOf; rw [hn]; rfl
    rw [t] at q
    exact q
set_option maxRecDepth 8000 in
set_option maxHeartbeats 3200000 in
theorem size_s (m : Int) (b : Bool) (ah al e : Int) (h1 : Word ah) (h2 : Word al) (n0 : nn ah al ≠ 0) (e1 : -4010 ≤ e) (e2 : e ≤ 4010) (w : World) :
    Calls Try.prog 28 #[fmtV true, rdV m, .bool b, .agg #[.int .u64 ah, .int .u64 al], .int .i64 e] w fun r w' => r = .returned (.int .u64 (mag true m b (nn ah al) e)) ∧ Below w.heap.size w w' := by
  have hlen := len_ex ah al h1 h2
  have hn2 := blen_128 h1 h2
  have hn1 := (blen_le n0).2
  have hn : ∃ n : Int, (blen (nn ah al) : Int) = n := ⟨_, rfl⟩
  obtain ⟨n, hn⟩ := hn
  obtain ⟨last, hM, hL, l1, l2, l3, hq⟩ := last_eqS n0 e n hn (by omega)
  rw [mag_eqS m b _ e last hL]
  have hcut := cut_any ah al (last - e) h1 h2 (by omega) (by omega) (by omega)
  have hgr := tooGreat_any true m b
  have haw := away_any m b (quo (nn ah al) (last - e) % 2 == 1) (half (nn ah al) (last - e)) (low (nn ah al) (last - e))
  have hE := awF_enters m
  have hO : ((bits BinOp.and IntKind.u64 ((quo (nn ah al) (last - e) : Nat) : Int) 1) == 1) = (quo (nn ah al) (last - e) % 2 == 1) := and_odd _ (by omega)
  rw [hn] at hlen
  have n1 : 1 ≤ n := by omega
  have n2 : n ≤ 128 := by omega
  generalize (quo (nn ah al) (last - e) % 2 == 1) = O at *
  generalize rc (half (nn ah al) (last - e)) (low (nn ah al) (last - e)) = R at *
  generalize away m b O (half (nn ah al) (last - e)) (low (nn ah al) (last - e)) = A at *
  have cast : ((quo (nn ah al) (last - e) + if A = true then 1 else 0 : Nat) : Int) = ((quo (nn ah al) (last - e) : Nat) : Int) + (if A = true then 1 else 0) := by cases A <;> simp
  rw [cast]
  have t0 : (0 : Int) ≤ ((quo (nn ah al) (last - e) : Nat) : Int) := Int.natCast_nonneg _
  have t1 : ((quo (nn ah al) (last - e) : Nat) : Int) < 16777216 := by omega
  generalize ((quo (nn ah al) (last - e) : Nat) : Int) = t at *
  generalize great true m b = G at *
  clear hn hn1 hn2 hL hq cast l3 n0 h1 h2
  have hV : ∃ V : Int, (if 2139095040 ≤ (last - (-149)) * 8388608 + (t + if A = true then 1 else 0) then G else (last - (-149)) * 8388608 + (t + if A = true then 1 else 0)) = V := ⟨_, rfl⟩
  obtain ⟨V, hV⟩ := hV
  rw [hV]
  have HV : Hid _ := hV
  clear hV
  unfold rdV at hgr ⊢
  unfold fmtV at hgr ⊢
  generalize awF m = F at *
  have b3 := below_three w (.cells #[.int .i64 32, .int .i64 23, .int .i64 (-149), .int .u64 2147483648, .int .u64 2139095040] 61) (.cells #[.func (.func F) #[] #[]] 69) (.cells #[.int .u64 ah, .int .u64 al] 49)
  have b4 := (b3.alloc (by simp; omega) (.cells #[.int .u64 ah, .int .u64 al] 49)).drew
  clear b3
  go_enter Try.func28, Try.ntmps28
  go_upto_region 1 with fail
  go_region_held3 (fun w' => w'.cell? ⟨w.heap.size, 0, none⟩ = some (.int .i64 32) ∧ w'.cell? ⟨w.heap.size, 1, none⟩ = some (.int .i64 23) ∧ w'.cell? ⟨w.heap.size, 2, none⟩ = some (.int .i64 (-149)) ∧ w'.cell? ⟨w.heap.size + 1 + 1, 0, none⟩ = some (.int .u64 ah) ∧ w'.cell? ⟨w.heap.size + 1 + 1, 1, none⟩ = some (.int .u64 al))
      (simp [go_sem, World.cell?_alloc_past])
      ((go_at_call 17; refine (hlen _).mono ?_; rintro e w1 ⟨rfl, rfl⟩))
  by_cases c1 : 255 ≤ last - (-149)
  · have v := HV.out
    rw [if_pos (by cases A <;> simp <;> omega)] at v
    subst v
    go_wp2_with fail
    refine (hgr _).mono ?_
    rintro e w1 ⟨rfl, hb1⟩
    replace b4 := below_call b4 hb1
    go_wp2_with fail
    go_ret
    exact ⟨rfl, b4⟩
  · go_wp2_with fail
    refine (hcut _).mono ?_
    rintro e w1 ⟨rfl, hb1⟩
    obtain ⟨hc, hf⟩ := bcell hb1
    have y0 : w1.cell? ⟨w.heap.size, 0, none⟩ = some (.int .i64 32) := by rw [hc _ _ (by simp; omega)]; simp [go_sem]
    have y1 : w1.cell? ⟨w.heap.size, 1, none⟩ = some (.int .i64 23) := by rw [hc _ _ (by simp; omega)]; simp [go_sem]
    have y2 : w1.cell? ⟨w.heap.size, 2, none⟩ = some (.int .i64 (-149)) := by rw [hc _ _ (by simp; omega)]; simp [go_sem]
    have y3 : w1.cell? ⟨w.heap.size, 3, none⟩ = some (.int .u64 2147483648) := by rw [hc _ _ (by simp; omega)]; simp [go_sem]
    have y4 : w1.cell? ⟨w.heap.size, 4, none⟩ = some (.int .u64 2139095040) := by rw [hc _ _ (by simp; omega)]; simp [go_sem]
    have r0 : w1.cell? ⟨w.heap.size + 1, 0, none⟩ = some (.func (.func F) #[] #[]) := by rw [hc _ _ (by simp)]; simp [go_sem]
    replace b4 := below_call b4 hb1
    clear hc hf hb1 hcut hlen
    cases A
    · have c3 : 2139095040 ≤ (last - (-149)) * 8388608 + (t) ∨ ¬ 2139095040 ≤ (last - (-149)) * 8388608 + (t) := by omega
      have v := HV.out
      simp only [Bool.false_eq_true, if_false, Int.add_zero] at v
      rcases c3 with c2 | c2
      · rw [if_pos c2] at v
        subst v
        go_wp2_with (first | (go_at_fn F; refine (haw _).mono ?_; rintro e w2 ⟨rfl, rfl⟩) | (go_at_call 31; refine (hgr _).mono ?_; rintro e w3 ⟨rfl, hb3⟩))
        go_ret
        exact ⟨rfl, below_call b4 hb3⟩
      · rw [if_neg c2] at v
        subst v
        go_wp2_with (go_at_fn F; refine (haw _).mono ?_; rintro e w2 ⟨rfl, rfl⟩)
        go_ret
        exact ⟨by first | rfl | (simp [go_sem]; omega), b4⟩
    · have c3 : 2139095040 ≤ (last - (-149)) * 8388608 + (t + 1) ∨ ¬ 2139095040 ≤ (last - (-149)) * 8388608 + (t + 1) := by omega
      have v := HV.out
      simp only [if_true] at v
      rcases c3 with c2 | c2
      · rw [if_pos c2] at v
        subst v
        go_wp2_with (first | (go_at_fn F; refine (haw _).mono ?_; rintro e w2 ⟨rfl, rfl⟩) | (go_at_call 31; refine (hgr _).mono ?_; rintro e w3 ⟨rfl, hb3⟩))
        go_ret
        exact ⟨rfl, below_call b4 hb3⟩
      · rw [if_neg c2] at v
        subst v
        go_wp2_with (go_at_fn F; refine (haw _).mono ?_; rintro e w2 ⟨rfl, rfl⟩)
        go_ret
        exact ⟨by first | rfl | (simp [go_sem]; omega), b4⟩
end Go.Proofs.Ytfbkiklopeebdaa

