/- Texts of the proof, put together. -/
import Derived.Test.YtgdknlnpfnifiaaGreatTMB1
import Derived.Deep.Draws
namespace Go.Proofs.YtgdknlnpfnifiaaGreat
open Go.RowKit
set_option linter.unusedVariables false
set_option linter.unusedSimpArgs false
theorem and_odd (q : Nat) (h : q < 18446744073709551616) : ((bits BinOp.and IntKind.u64 (q : Int) 1) == 1) = (q % 2 == 1) := by
  have t := u64_and_nat q 1 h (by decide)
  have e : q &&& 1 = q % 2 := Nat.and_two_pow_sub_one_eq_mod q 1
  rw [e] at t
  have t' : bits BinOp.and IntKind.u64 (q : Int) 1 = ((q % 2 : Nat) : Int) := t
  rw [t', Bool.eq_iff_iff, beq_iff_eq, beq_iff_eq]
  omega
theorem mag_eqD (m : Int) (b : Bool) (N : Nat) (e last : Int) (hl : lastOf false N e = last) :
    mag false m b N e = (if 9218868437227405312 ≤ (last - (-1074)) * 4503599627370496 + ((quo N (last - e) + if away m b (quo N (last - e) % 2 == 1) (half N (last - e)) (low N (last - e)) then 1 else 0 : Nat) : Int) then great false m b
      else (last - (-1074)) * 4503599627370496 + ((quo N (last - e) + if away m b (quo N (last - e) % 2 == 1) (half N (last - e)) (low N (last - e)) then 1 else 0 : Nat) : Int)) := by
  subst hl; rfl
theorem last_eqD {N : Nat} (n0 : N ≠ 0) (e n : Int) (hn : (blen N : Int) = n) (hn2 : n ≤ 128) : ∃ last : Int, max (n - 53 + e) (-1074) = last ∧ lastOf false N e = last ∧ (-1074) ≤ last ∧ n - 53 + e ≤ last ∧ (last = (-1074) ∨ last = n - 53 + e) ∧ quo N (last - e) < 9007199254740992 := by
  refine ⟨_, rfl, ?_, by omega, by omega, by omega, ?_⟩
  · unfold lastOf; rw [hn]; rfl
  · have := kept false n0 e (min e (-1074)) (by omega) (by show min e (-1074) ≤ (-1074); omega)
    obtain ⟨x, _, q, _⟩ := this
    have t : lastOf false N e = max (n - 53 + e) (-1074) := by unfold lastOf; rw [hn]; rfl
    rw [t] at q
    exact q
set_option maxRecDepth 8000 in
set_option maxHeartbeats 3200000 in
theorem size_d (m : Int) (b : Bool) (ah al e : Int) (h1 : Word ah) (h2 : Word al) (n0 : nn ah al ≠ 0) (e1 : -4010 ≤ e) (e2 : e ≤ 4010) (w : World) :
    Calls Tryz.prog 194 #[fmtV false, rdV m, .bool b, .agg #[.int .u64 ah, .int .u64 al], .int .i64 e] w fun r w' => r = .returned (.int .u64 (mag false m b (nn ah al) e)) ∧ Below w.heap.size w w' := by
  have hlen := len_ex ah al h1 h2
  have hn2 := blen_128 h1 h2
  have hn1 := (blen_le n0).2
  have hn : ∃ n : Int, (blen (nn ah al) : Int) = n := ⟨_, rfl⟩
  obtain ⟨n, hn⟩ := hn
  obtain ⟨last, hM, hL, l1, l2, l3, hq⟩ := last_eqD n0 e n hn (by omega)
  rw [mag_eqD m b _ e last hL]
  have hcut := cut_any ah al (last - e) h1 h2 (by omega) (by omega) (by omega)
  have hgr := tooGreat_any false m b
  have haw := away_any m b (quo (nn ah al) (last - e) % 2 == 1) (half (nn ah al) (last - e)) (low (nn ah al) (last - e))
  have hE := awF_enters m
  have hO : ((bits BinOp.and IntKind.u64 ((quo (nn ah al) (last - e) : Nat) : Int) 1) == 1) = (quo (nn ah al) (last - e) % 2 == 1) := and_odd _ (by omega)
  rw [hn] at hlen
  have n1 : 1 ≤ n := by omega
  have n2 : n ≤ 128 := by omega
  generalize (quo (nn ah al) (last - e) % 2 == 1) = O at *
  generalize rc (half (nn ah al) (last - e)) (low (nn ah al) (last - e)) = R at *
  generalize away m b O (half (nn ah al) (last - e)) (low (nn ah al) (last - e)) = A at *
  have cast : ((quo (nn ah al) (last - e) + if A = true then 1 else 0 : Nat) : Int) = ((quo (nn ah al) (last - e) : Nat) : Int) + (if A = true then 1 else 0) := by cases A <;> simp
  rw [cast]
  have t0 : (0 : Int) ≤ ((quo (nn ah al) (last - e) : Nat) : Int) := Int.natCast_nonneg _
  have t1 : ((quo (nn ah al) (last - e) : Nat) : Int) < 9007199254740992 := by omega
  generalize ((quo (nn ah al) (last - e) : Nat) : Int) = t at *
  generalize great false m b = G at *
  clear hn hn1 hn2 hL hq cast l3 n0 h1 h2
  have hV : ∃ V : Int, (if 9218868437227405312 ≤ (last - (-1074)) * 4503599627370496 + (t + if A = true then 1 else 0) then G else (last - (-1074)) * 4503599627370496 + (t + if A = true then 1 else 0)) = V := ⟨_, rfl⟩
  obtain ⟨V, hV⟩ := hV
  rw [hV]
  have HV : Hid _ := hV
  clear hV
  unfold rdV at hgr ⊢
  unfold fmtV at hgr ⊢
  generalize awF m = F at *
  have b3 := below_three w (.cells #[.int .i64 64, .int .i64 52, .int .i64 (-1074), .int .u64 9223372036854775808, .int .u64 9218868437227405312] 157) (.cells #[.func (.func F) #[] #[]] 190) (.cells #[.int .u64 ah, .int .u64 al] 133)
  have b4 := (b3.alloc (by simp; omega) (.cells #[.int .u64 ah, .int .u64 al] 133)).drew
  clear b3
  go_enter Tryz.func194, Tryz.ntmps194
  go_upto_region 1 with fail
  go_region_held3 (fun w' => w'.cell? ⟨w.heap.size, 0, none⟩ = some (.int .i64 64) ∧ w'.cell? ⟨w.heap.size, 1, none⟩ = some (.int .i64 52) ∧ w'.cell? ⟨w.heap.size, 2, none⟩ = some (.int .i64 (-1074)) ∧ w'.cell? ⟨w.heap.size + 1 + 1, 0, none⟩ = some (.int .u64 ah) ∧ w'.cell? ⟨w.heap.size + 1 + 1, 1, none⟩ = some (.int .u64 al))
      (simp [go_sem, World.cell?_alloc_past])
      ((go_at_call 182; refine (hlen _).mono ?_; rintro e w1 ⟨rfl, rfl⟩))
  by_cases c1 : 2047 ≤ last - (-1074)
  · have v := HV.out
    rw [if_pos (by cases A <;> simp <;> omega)] at v
    subst v
    go_wp2_with fail
    refine (hgr _).mono ?_
    rintro e w1 ⟨rfl, hb1⟩
    replace b4 := below_call b4 hb1
    go_wp2_with fail
    go_ret
    exact ⟨rfl, b4⟩
  · go_wp2_with fail
    refine (hcut _).mono ?_
    rintro e w1 ⟨rfl, hb1⟩
    obtain ⟨hc, hf⟩ := bcell hb1
    have y0 : w1.cell? ⟨w.heap.size, 0, none⟩ = some (.int .i64 64) := by rw [hc _ _ (by simp; omega)]; simp [go_sem]
    have y1 : w1.cell? ⟨w.heap.size, 1, none⟩ = some (.int .i64 52) := by rw [hc _ _ (by simp; omega)]; simp [go_sem]
    have y2 : w1.cell? ⟨w.heap.size, 2, none⟩ = some (.int .i64 (-1074)) := by rw [hc _ _ (by simp; omega)]; simp [go_sem]
    have y3 : w1.cell? ⟨w.heap.size, 3, none⟩ = some (.int .u64 9223372036854775808) := by rw [hc _ _ (by simp; omega)]; simp [go_sem]
    have y4 : w1.cell? ⟨w.heap.size, 4, none⟩ = some (.int .u64 9218868437227405312) := by rw [hc _ _ (by simp; omega)]; simp [go_sem]
    have r0 : w1.cell? ⟨w.heap.size + 1, 0, none⟩ = some (.func (.func F) #[] #[]) := by rw [hc _ _ (by simp)]; simp [go_sem]
    replace b4 := below_call b4 hb1
    clear hc hf hb1 hcut hlen
    cases A
    · have c3 : 9218868437227405312 ≤ (last - (-1074)) * 4503599627370496 + (t) ∨ ¬ 9218868437227405312 ≤ (last - (-1074)) * 4503599627370496 + (t) := by omega
      have v := HV.out
      simp only [Bool.false_eq_true, if_false, Int.add_zero] at v
      rcases c3 with c2 | c2
      · rw [if_pos c2] at v
        subst v
        go_wp2_with (first | (go_at_fn F; refine (haw _).mono ?_; rintro e w2 ⟨rfl, rfl⟩) | (go_at_call 221; refine (hgr _).mono ?_; rintro e w3 ⟨rfl, hb3⟩))
        go_ret
        exact ⟨rfl, below_call b4 hb3⟩
      · rw [if_neg c2] at v
        subst v
        go_wp2_with (go_at_fn F; refine (haw _).mono ?_; rintro e w2 ⟨rfl, rfl⟩)
        go_ret
        exact ⟨by first | rfl | (simp [go_sem]; omega), b4⟩
    · have c3 : 9218868437227405312 ≤ (last - (-1074)) * 4503599627370496 + (t + 1) ∨ ¬ 9218868437227405312 ≤ (last - (-1074)) * 4503599627370496 + (t + 1) := by omega
      have v := HV.out
      simp only [if_true] at v
      rcases c3 with c2 | c2
      · rw [if_pos c2] at v
        subst v
        go_wp2_with (first | (go_at_fn F; refine (haw _).mono ?_; rintro e w2 ⟨rfl, rfl⟩) | (go_at_call 221; refine (hgr _).mono ?_; rintro e w3 ⟨rfl, hb3⟩))
        go_ret
        exact ⟨rfl, below_call b4 hb3⟩
      · rw [if_neg c2] at v
        subst v
        go_wp2_with (go_at_fn F; refine (haw _).mono ?_; rintro e w2 ⟨rfl, rfl⟩)
        go_ret
        exact ⟨by first | rfl | (simp [go_sem]; omega), b4⟩
theorem mag_eqS (m : Int) (b : Bool) (N : Nat) (e last : Int) (hl : lastOf true N e = last) :
    mag true m b N e = (if 2139095040 ≤ (last - (-149)) * 8388608 + ((quo N (last - e) + if away m b (quo N (last - e) % 2 == 1) (half N (last - e)) (low N (last - e)) then 1 else 0 : Nat) : Int) then great true m b
      else (last - (-149)) * 8388608 + ((quo N (last - e) + if away m b (quo N (last - e) % 2 == 1) (half N (last - e)) (low N (last - e)) then 1 else 0 : Nat) : Int)) := by
  subst hl; rfl
theorem last_eqS {N : Nat} (n0 : N ≠ 0) (e n : Int) (hn : (blen N : Int) = n) (hn2 : n ≤ 128) : ∃ last : Int, max (n - 24 + e) (-149) = last ∧ lastOf true N e = last ∧ (-149) ≤ last ∧ n - 24 + e ≤ last ∧ (last = (-149) ∨ last = n - 24 + e) ∧ quo N (last - e) < 16777216 := by
  refine ⟨_, rfl, ?_, by omega, by omega, by omega, ?_⟩
  · unfold lastOf; rw [hn]; rfl
  · have := kept true n0 e (min e (-149)) (by omega) (by show min e (-149) ≤ (-149); omega)
    obtain ⟨x, _, q, _⟩ := this
    have t : lastOf true N e = max (n - 24 + e) (-149) := by unfold lastOf; rw [hn]; rfl
    rw [t] at q
    exact q
set_option maxRecDepth 8000 in
set_option maxHeartbeats 3200000 in
theorem size_s (m : Int) (b : Bool) (ah al e : Int) (h1 : Word ah) (h2 : Word al) (n0 : nn ah al ≠ 0) (e1 : -4010 ≤ e) (e2 : e ≤ 4010) (w : World) :
    Calls Tryz.prog 194 #[fmtV true, rdV m, .bool b, .agg #[.int .u64 ah, .int .u64 al], .int .i64 e] w fun r w' => r = .returned (.int .u64 (mag true m b (nn ah al) e)) ∧ Below w.heap.size w w' := by
  have hlen := len_ex ah al h1 h2
  have hn2 := blen_128 h1 h2
  have hn1 := (blen_le n0).2
  have hn : ∃ n : Int, (blen (nn ah al) : Int) = n := ⟨_, rfl⟩
  obtain ⟨n, hn⟩ := hn
  obtain ⟨last, hM, hL, l1, l2, l3, hq⟩ := last_eqS n0 e n hn (by omega)
  rw [mag_eqS m b _ e last hL]
  have hcut := cut_any ah al (last - e) h1 h2 (by omega) (by omega) (by omega)
  have hgr := tooGreat_any true m b
  have haw := away_any m b (quo (nn ah al) (last - e) % 2 == 1) (half (nn ah al) (last - e)) (low (nn ah al) (last - e))
  have hE := awF_enters m
  have hO : ((bits BinOp.and IntKind.u64 ((quo (nn ah al) (last - e) : Nat) : Int) 1) == 1) = (quo (nn ah al) (last - e) % 2 == 1) := and_odd _ (by omega)
  rw [hn] at hlen
  have n1 : 1 ≤ n := by omega
  have n2 : n ≤ 128 := by omega
  generalize (quo (nn ah al) (last - e) % 2 == 1) = O at *
  generalize rc (half (nn ah al) (last - e)) (low (nn ah al) (last - e)) = R at *
  generalize away m b O (half (nn ah al) (last - e)) (low (nn ah al) (last - e)) = A at *
  have cast : ((quo (nn ah al) (last - e) + if A = true then 1 else 0 : Nat) : Int) = ((quo (nn ah al) (last - e) : Nat) : Int) + (if A = true then 1 else 0) := by cases A <;> simp
  rw [cast]
  have t0 : (0 : Int) ≤ ((quo (nn ah al) (last - e) : Nat) : Int) := Int.natCast_nonneg _
  have t1 : ((quo (nn ah al) (last - e) : Nat) : Int) < 16777216 := by omega
  generalize ((quo (nn ah al) (last - e) : Nat) : Int) = t at *
  generalize great true m b = G at *
  clear hn hn1 hn2 hL hq cast l3 n0 h1 h2
  have hV : ∃ V : Int, (if 2139095040 ≤ (last - (-149)) * 8388608 + (t + if A = true then 1 else 0) then G else (last - (-149)) * 8388608 + (t + if A = true then 1 else 0)) = V := ⟨_, rfl⟩
  obtain ⟨V, hV⟩ := hV
  rw [hV]
  have HV : Hid _ := hV
  clear hV
  unfold rdV at hgr ⊢
  unfold fmtV at hgr ⊢
  generalize awF m = F at *
  have b3 := below_three w (.cells #[.int .i64 32, .int .i64 23, .int .i64 (-149), .int .u64 2147483648, .int .u64 2139095040] 157) (.cells #[.func (.func F) #[] #[]] 190) (.cells #[.int .u64 ah, .int .u64 al] 133)
  have b4 := (b3.alloc (by simp; omega) (.cells #[.int .u64 ah, .int .u64 al] 133)).drew
  clear b3
  go_enter Tryz.func194, Tryz.ntmps194
  go_upto_region 1 with fail
  go_region_held3 (fun w' => w'.cell? ⟨w.heap.size, 0, none⟩ = some (.int .i64 32) ∧ w'.cell? ⟨w.heap.size, 1, none⟩ = some (.int .i64 23) ∧ w'.cell? ⟨w.heap.size, 2, none⟩ = some (.int .i64 (-149)) ∧ w'.cell? ⟨w.heap.size + 1 + 1, 0, none⟩ = some (.int .u64 ah) ∧ w'.cell? ⟨w.heap.size + 1 + 1, 1, none⟩ = some (.int .u64 al))
      (simp [go_sem, World.cell?_alloc_past])
      ((go_at_call 182; refine (hlen _).mono ?_; rintro e w1 ⟨rfl, rfl⟩))
  by_cases c1 : 255 ≤ last - (-149)
  · have v := HV.out
    rw [if_pos (by cases A <;> simp <;> omega)] at v
    subst v
    go_wp2_with fail
    refine (hgr _).mono ?_
    rintro e w1 ⟨rfl, hb1⟩
    replace b4 := below_call b4 hb1
    go_wp2_with fail
    go_ret
    exact ⟨rfl, b4⟩
  · go_wp2_with fail
    refine (hcut _).mono ?_
    rintro e w1 ⟨rfl, hb1⟩
    obtain ⟨hc, hf⟩ := bcell hb1
    have y0 : w1.cell? ⟨w.heap.size, 0, none⟩ = some (.int .i64 32) := by rw [hc _ _ (by simp; omega)]; simp [go_sem]
    have y1 : w1.cell? ⟨w.heap.size, 1, none⟩ = some (.int .i64 23) := by rw [hc _ _ (by simp; omega)]; simp [go_sem]
    have y2 : w1.cell? ⟨w.heap.size, 2, none⟩ = some (.int .i64 (-149)) := by rw [hc _ _ (by simp; omega)]; simp [go_sem]
    have y3 : w1.cell? ⟨w.heap.size, 3, none⟩ = some (.int .u64 2147483648) := by rw [hc _ _ (by simp; omega)]; simp [go_sem]
    have y4 : w1.cell? ⟨w.heap.size, 4, none⟩ = some (.int .u64 2139095040) := by rw [hc _ _ (by simp; omega)]; simp [go_sem]
    have r0 : w1.cell? ⟨w.heap.size + 1, 0, none⟩ = some (.func (.func F) #[] #[]) := by rw [hc _ _ (by simp)]; simp [go_sem]
    replace b4 := below_call b4 hb1
    clear hc hf hb1 hcut hlen
    cases A
    · have c3 : 2139095040 ≤ (last - (-149)) * 8388608 + (t) ∨ ¬ 2139095040 ≤ (last - (-149)) * 8388608 + (t) := by omega
      have v := HV.out
      simp only [Bool.false_eq_true, if_false, Int.add_zero] at v
      rcases c3 with c2 | c2
      · rw [if_pos c2] at v
        subst v
        go_wp2_with (first | (go_at_fn F; refine (haw _).mono ?_; rintro e w2 ⟨rfl, rfl⟩) | (go_at_call 221; refine (hgr _).mono ?_; rintro e w3 ⟨rfl, hb3⟩))
        go_ret
        exact ⟨rfl, below_call b4 hb3⟩
      · rw [if_neg c2] at v
        subst v
        go_wp2_with (go_at_fn F; refine (haw _).mono ?_; rintro e w2 ⟨rfl, rfl⟩)
        go_ret
        exact ⟨by first | rfl | (simp [go_sem]; omega), b4⟩
    · have c3 : 2139095040 ≤ (last - (-149)) * 8388608 + (t + 1) ∨ ¬ 2139095040 ≤ (last - (-149)) * 8388608 + (t + 1) := by omega
      have v := HV.out
      simp only [if_true] at v
      rcases c3 with c2 | c2
      · rw [if_pos c2] at v
        subst v
        go_wp2_with (first | (go_at_fn F; refine (haw _).mono ?_; rintro e w2 ⟨rfl, rfl⟩) | (go_at_call 221; refine (hgr _).mono ?_; rintro e w3 ⟨rfl, hb3⟩))
        go_ret
        exact ⟨rfl, below_call b4 hb3⟩
      · rw [if_neg c2] at v
        subst v
        go_wp2_with (go_at_fn F; refine (haw _).mono ?_; rintro e w2 ⟨rfl, rfl⟩)
        go_ret
        exact ⟨by first | rfl | (simp [go_sem]; omega), b4⟩
end Go.Proofs.YtgdknlnpfnifiaaGreat
namespace Go.Proofs.YtgdknlnpfnifiaaGreat
open Go.RowKit
set_option linter.unusedVariables false
set_option linter.unusedSimpArgs false
def fW (s : Bool) : Int := if s then 32 else 64
def fQ (s : Bool) : Int := if s then 23 else 52
theorem fmtV_eq (s : Bool) : fmtV s = .agg #[.int .i64 (fW s), .int .i64 (fQ s), .int .i64 (fL s), .int .u64 (fS s), .int .u64 (fI s)] := by cases s <;> rfl
theorem fmtO_eq (s : Bool) : fmtO s = .cells #[.int .i64 (fW s), .int .i64 (fQ s), .int .i64 (fL s), .int .u64 (fS s), .int .u64 (fI s)] 157 := by cases s <;> rfl
theorem size_any (s : Bool) (m : Int) (b : Bool) (ah al e : Int) (h1 : Word ah) (h2 : Word al) (n0 : nn ah al ≠ 0) (e1 : -4010 ≤ e) (e2 : e ≤ 4010) (w : World) :
    Calls Tryz.prog 194 #[fmtV s, rdV m, .bool b, .agg #[.int .u64 ah, .int .u64 al], .int .i64 e] w fun r w' => r = .returned (.int .u64 (mag s m b (nn ah al) e)) ∧ Below w.heap.size w w' := by
  cases s
  · exact size_d m b ah al e h1 h2 n0 e1 e2 w
  · exact size_s m b ah al e h1 h2 n0 e1 e2 w
def clamp (e : Int) : Int := min (max e (-4000)) 4000
theorem clamp_lo (e : Int) : -4000 ≤ clamp e := by unfold clamp; omega
theorem clamp_hi (e : Int) : clamp e ≤ 4000 := by unfold clamp; omega
theorem fI_pos (s : Bool) : 0 ≤ fI s := by cases s <;> decide
theorem eq2_zero {h l : Int} (a : Word h) (b : Word l) : eq2 h l 0 0 = decide (nn h l = 0) := by
  rw [eq2_num a b word_zero word_zero, decide_eq_decide]
  have := nn_num a b
  have z : num 0 0 = 0 := rfl
  omega
def FmtAt (w : World) (k : Nat) (s : Bool) : Prop := w.cell? ⟨k, 0, none⟩ = some (.int .i64 (fW s)) ∧ w.cell? ⟨k, 1, none⟩ = some (.int .i64 (fQ s)) ∧ w.cell? ⟨k, 2, none⟩ = some (.int .i64 (fL s)) ∧ w.cell? ⟨k, 3, none⟩ = some (.int .u64 (fS s)) ∧ w.cell? ⟨k, 4, none⟩ = some (.int .u64 (fI s))
theorem FmtAt.on {W w1 : World} {k : Nat} {s : Bool} (h : FmtAt W k s) (hb : Below W.heap.size W w1) : FmtAt w1 k s := by
  obtain ⟨a, b, c, d, e⟩ := h
  exact ⟨cell_on hb a, cell_on hb b, cell_on hb c, cell_on hb d, cell_on hb e⟩
theorem FmtAt.past {W : World} {k : Nat} {s : Bool} (h : FmtAt W k s) (o : Obj) : FmtAt (W.alloc o) k s := by
  obtain ⟨a, b, c, d, e⟩ := h
  exact ⟨cell_past a o, cell_past b o, cell_past c o, cell_past d o, cell_past e o⟩
theorem FmtAt.new (W : World) (s : Bool) : FmtAt (W.alloc (fmtO s)) W.heap.size s := by
  rw [fmtO_eq]
  unfold FmtAt
  simp [go_sem]
theorem FmtAt.drew {W : World} {k : Nat} {s : Bool} (h : FmtAt W k s) : FmtAt W.drew k s := h
theorem FmtAt.lt {W : World} {k : Nat} {s : Bool} (h : FmtAt W k s) : k < W.heap.size := lt_new h.1
theorem frozen_past {w1 : World} {b o : Nat} (h : b < w1.heap.size) (f : w1.frozen? ⟨b, o, none⟩ = false) (x : Obj) : (w1.alloc x).frozen? ⟨b, o, none⟩ = false :=
  ((bcell ((Below.refl w1.heap.size w1).alloc (Nat.le_refl _) x)).2 _ _ h).trans f
theorem set2_cell {w : World} {b c o : Nat} {u : Value} (x y : Value) (h : b ≠ c) (c0 : w.cell? ⟨c, o, none⟩ = some u) :
    ((w.setCell ⟨b, 0, none⟩ x).setCell ⟨b, 1, none⟩ y).cell? ⟨c, o, none⟩ = some u :=
  (World.cell?_setCell_other _ _ _ _ (by simp [h])).trans ((World.cell?_setCell_other _ _ _ _ (by simp [h])).trans c0)
set_option maxRecDepth 8000 in
set_option maxHeartbeats 3200000 in
theorem round_any (f m : Int) (b : Bool) (ah al e : Int) (more : Bool) (h1 : Word ah) (h2 : Word al) (e1 : -9223372036854775808 ≤ e) (e2 : e ≤ 9223372036854775807) (w : World) :
    Calls Tryz.prog 133 #[.int .i64 f, .int .i64 m, .bool b, .agg #[.int .u64 ah, .int .u64 al], .int .i64 e, .bool more] w fun r w' => r = .returned (.int .u64 (rndQ (f == 1) m b (nn ah al) (clamp e) more)) ∧ Below w.heap.size w w' := by
  have hq := eql_u128
  have hfo := formatOf_any f
  generalize (f == 1) = s at *
  have hsg0 := signed_any s b 0 (Int.le_refl 0) (fI_pos s)
  have hV : ∃ V : Int, rndQ s m b (nn ah al) (clamp e) more = V := ⟨_, rfl⟩
  obtain ⟨V, hV⟩ := hV
  rw [hV]
  have HV : Hid _ := hV
  clear hV
  have hcl : min (max e (-4000)) 4000 = clamp e := rfl
  have hc1 := clamp_lo e
  have hc2 := clamp_hi e
  have hwq := withQuarter_any ah al (clamp e) h1 h2 hc1 hc2
  generalize clamp e = x at *
  rw [fmtV_eq] at hfo
  have L := (Below.refl w.heap.size w).alloc (Nat.le_refl _) (.cells #[.int .u64 ah, .int .u64 al] 133)
  go_enter Tryz.func133, Tryz.ntmps133
  go_wp2_with fail
  refine (hfo _).mono ?_
  rintro r w1 ⟨rfl, hb1⟩
  have c0 := cell_on hb1 (cell_new0 w (.int .u64 ah) (.int .u64 al) 133)
  have c1 := cell_on hb1 (cell_new1 w (.int .u64 ah) (.int .u64 al) 133)
  have f0 : w1.frozen? ⟨w.heap.size, 0, none⟩ = false := by rw [(bcell hb1).2 _ _ (by simp)]; simp [go_sem]
  have f1 : w1.frozen? ⟨w.heap.size, 1, none⟩ = false := by rw [(bcell hb1).2 _ _ (by simp)]; simp [go_sem]
  have z0 := lt_new c0
  replace L := below_call L hb1
  obtain ⟨y0, y1, y2, y3, y4⟩ := FmtAt.new w1 s
  replace L := below_new L (fmtO s)
  replace c0 := cell_past c0 (fmtO s); replace c1 := cell_past c1 (fmtO s)
  rw [fmtO_eq] at y0 y1 y2 y3 y4 L c0 c1
  rw [fmtV_eq] at hsg0
  cases more
  · rw [rndQ_false] at HV
    by_cases c : nn ah al = 0
    · have hz : eq2 ah al 0 0 = true := by rw [eq2_zero h1 h2]; simp [c]
      have v := HV.out
      rw [c, rnd_zero] at v
      subst v
      go_wp2_with fail
      refine (hsg0 _).mono ?_
      rintro r w' ⟨rfl, rfl⟩
      go_wp2_with fail
      go_ret
      exact ⟨rfl, below_new L _⟩
    · have hz : eq2 ah al 0 0 = false := by rw [eq2_zero h1 h2]; simp [c]
      have v := HV.out
      obtain ⟨g, hg, hg2⟩ := mag_any s m b c x
      have hsz := size_any s m b ah al x h1 h2 c (by omega) (by omega)
      unfold rnd at v
      rw [if_neg c, hg] at v
      rw [hg, fmtV_eq] at hsz
      have hsg := signed_any s b g (Int.natCast_nonneg g) hg2
      rw [v, fmtV_eq] at hsg
      have hrd := roundingOf_any m
      unfold rdV at hsz hrd
      generalize (g : Int) = G at *
      clear v HV hsg0 hg hg2
      go_wp2_with fail
      go_region_held3 (fun w' => w'.cell? ⟨w1.heap.size, 0, none⟩ = some (.int .i64 (fW s)) ∧ w'.cell? ⟨w1.heap.size, 1, none⟩ = some (.int .i64 (fQ s)) ∧ w'.cell? ⟨w1.heap.size, 2, none⟩ = some (.int .i64 (fL s)) ∧ w'.cell? ⟨w1.heap.size, 3, none⟩ = some (.int .u64 (fS s)) ∧ w'.cell? ⟨w1.heap.size, 4, none⟩ = some (.int .u64 (fI s)) ∧ w'.cell? ⟨w.heap.size, 0, none⟩ = some (.int .u64 ah) ∧ w'.cell? ⟨w.heap.size, 1, none⟩ = some (.int .u64 al))
        (first | exact ⟨y0, y1, y2, y3, y4, c0, c1⟩ | (simp [go_sem, *]; done))
        (first
          | (go_at_call 195; refine (hrd _).mono ?_; rintro r w2 ⟨rfl, rfl⟩; replace y0 := cell_past y0 (rdO m); replace y1 := cell_past y1 (rdO m); replace y2 := cell_past y2 (rdO m); replace y3 := cell_past y3 (rdO m); replace y4 := cell_past y4 (rdO m); replace c0 := cell_past c0 (rdO m); replace c1 := cell_past c1 (rdO m); replace L := below_new L.drew (rdO m))
          | (go_at_call 194; refine (hsz _).mono ?_; rintro r w3 ⟨rfl, hb3⟩; replace y0 := cell_on hb3 y0; replace y1 := cell_on hb3 y1; replace y2 := cell_on hb3 y2; replace y3 := cell_on hb3 y3; replace y4 := cell_on hb3 y4; replace c0 := cell_on hb3 c0; replace c1 := cell_on hb3 c1; replace L := below_call L hb3)
          | (go_at_call 193; refine (hsg _).mono ?_; rintro r w4 ⟨rfl, rfl⟩; replace y0 := cell_past y0 (fmtO s); replace y1 := cell_past y1 (fmtO s); replace y2 := cell_past y2 (fmtO s); replace y3 := cell_past y3 (fmtO s); replace y4 := cell_past y4 (fmtO s); replace c0 := cell_past c0 (fmtO s); replace c1 := cell_past c1 (fmtO s); replace L := below_new L (fmtO s)))
      go_wp2_with fail
      go_ret
      exact ⟨rfl, L⟩
  · go_wp2_with fail
    refine (hwq _).mono ?_
    rintro r w2 ⟨h, l, x', rfl, wh, wl, x1, x2, N0, RQ, hb2⟩
    have g0 : w2.frozen? ⟨w.heap.size, 0, none⟩ = false := by exact ((bcell hb2).2 _ _ (by simp; omega)).trans (frozen_past z0 f0 _)
    have g1 : w2.frozen? ⟨w.heap.size, 1, none⟩ = false := by exact ((bcell hb2).2 _ _ (by simp; omega)).trans (frozen_past z0 f1 _)
    replace y0 := cell_on hb2 y0; replace y1 := cell_on hb2 y1; replace y2 := cell_on hb2 y2; replace y3 := cell_on hb2 y3; replace y4 := cell_on hb2 y4; replace c0 := cell_on hb2 c0; replace c1 := cell_on hb2 c1
    replace L := below_call L hb2
    have HV2 : Hid _ := (RQ.out s m b).trans HV.out
    clear HV RQ N0 hwq hb2 f0 f1 hb1 hfo
    go_upto_region 5 with fail
    obtain ⟨q0, q1⟩ := set2_in (w := w2) (b := w.heap.size) (.int .u64 h) (.int .u64 l) c0 c1
    have q2 := set2_cell (w := w2) (b := w.heap.size) (.int .u64 h) (.int .u64 l) (by omega) y0
    have q3 := set2_cell (w := w2) (b := w.heap.size) (.int .u64 h) (.int .u64 l) (by omega) y1
    have q4 := set2_cell (w := w2) (b := w.heap.size) (.int .u64 h) (.int .u64 l) (by omega) y2
    have q5 := set2_cell (w := w2) (b := w.heap.size) (.int .u64 h) (.int .u64 l) (by omega) y3
    have q6 := set2_cell (w := w2) (b := w.heap.size) (.int .u64 h) (.int .u64 l) (by omega) y4
    have q7 : Below w.heap.size w ((w2.setCell ⟨w.heap.size, 0, none⟩ (.int .u64 h)).setCell ⟨w.heap.size, 1, none⟩ (.int .u64 l)) := (L.setCell (Nat.le_refl _) _).setCell (Nat.le_refl _) _
    generalize (w2.setCell ⟨w.heap.size, 0, none⟩ (.int .u64 h)).setCell ⟨w.heap.size, 1, none⟩ (.int .u64 l) = W at *
    clear c0 c1 y0 y1 y2 y3 y4 g0 g1 L
    have c0 := q0; have c1 := q1; have y0 := q2; have y1 := q3; have y2 := q4; have y3 := q5; have y4 := q6; have L := q7
    clear q0 q1 q2 q3 q4 q5 q6 q7
    have HV := HV2
    clear HV2
    by_cases c : nn h l = 0
    · have hz : eq2 h l 0 0 = true := by rw [eq2_zero wh wl]; simp [c]
      have v := HV.out
      rw [c, rnd_zero] at v
      subst v
      go_wp2_with fail
      refine (hsg0 _).mono ?_
      rintro r w' ⟨rfl, rfl⟩
      go_wp2_with fail
      go_ret
      exact ⟨rfl, below_new L _⟩
    · have hz : eq2 h l 0 0 = false := by rw [eq2_zero wh wl]; simp [c]
      have v := HV.out
      obtain ⟨g, hg, hg2⟩ := mag_any s m b c x'
      have hsz := size_any s m b h l x' wh wl c (by omega) (by omega)
      unfold rnd at v
      rw [if_neg c, hg] at v
      rw [hg, fmtV_eq] at hsz
      have hsg := signed_any s b g (Int.natCast_nonneg g) hg2
      rw [v, fmtV_eq] at hsg
      have hrd := roundingOf_any m
      unfold rdV at hsz hrd
      generalize (g : Int) = G at *
      clear v HV hsg0 hg hg2
      go_wp2_with fail
      go_region_held3 (fun w' => w'.cell? ⟨w1.heap.size, 0, none⟩ = some (.int .i64 (fW s)) ∧ w'.cell? ⟨w1.heap.size, 1, none⟩ = some (.int .i64 (fQ s)) ∧ w'.cell? ⟨w1.heap.size, 2, none⟩ = some (.int .i64 (fL s)) ∧ w'.cell? ⟨w1.heap.size, 3, none⟩ = some (.int .u64 (fS s)) ∧ w'.cell? ⟨w1.heap.size, 4, none⟩ = some (.int .u64 (fI s)) ∧ w'.cell? ⟨w.heap.size, 0, none⟩ = some (.int .u64 h) ∧ w'.cell? ⟨w.heap.size, 1, none⟩ = some (.int .u64 l))
        (first | exact ⟨y0, y1, y2, y3, y4, c0, c1⟩ | (simp [go_sem, *]; done))
        (first
          | (go_at_call 195; refine (hrd _).mono ?_; rintro r w2 ⟨rfl, rfl⟩; replace y0 := cell_past y0 (rdO m); replace y1 := cell_past y1 (rdO m); replace y2 := cell_past y2 (rdO m); replace y3 := cell_past y3 (rdO m); replace y4 := cell_past y4 (rdO m); replace c0 := cell_past c0 (rdO m); replace c1 := cell_past c1 (rdO m); replace L := below_new L.drew (rdO m))
          | (go_at_call 194; refine (hsz _).mono ?_; rintro r w3 ⟨rfl, hb3⟩; replace y0 := cell_on hb3 y0; replace y1 := cell_on hb3 y1; replace y2 := cell_on hb3 y2; replace y3 := cell_on hb3 y3; replace y4 := cell_on hb3 y4; replace c0 := cell_on hb3 c0; replace c1 := cell_on hb3 c1; replace L := below_call L hb3)
          | (go_at_call 193; refine (hsg _).mono ?_; rintro r w4 ⟨rfl, rfl⟩; replace y0 := cell_past y0 (fmtO s); replace y1 := cell_past y1 (fmtO s); replace y2 := cell_past y2 (fmtO s); replace y3 := cell_past y3 (fmtO s); replace y4 := cell_past y4 (fmtO s); replace c0 := cell_past c0 (fmtO s); replace c1 := cell_past c1 (fmtO s); replace L := below_new L (fmtO s)))
      go_wp2_with fail
      go_ret
      exact ⟨rfl, L⟩
end Go.Proofs.YtgdknlnpfnifiaaGreat
namespace Go.Proofs.YtgdknlnpfnifiaaGreat
open Go.RowKit
set_option linter.unusedVariables false
set_option linter.unusedSimpArgs false
def Fin (s : Bool) (u p : Int) : Prop := 0 ≤ u ∧ u < 2 ^ (fP s + 1) ∧ fL s ≤ p ∧ p ≤ 2000 ∧ (fL s < p → 2 ^ fP s ≤ u)
theorem Fin.word {s : Bool} {u p : Int} (h : Fin s u p) : Word u := by
  obtain ⟨a, b, _⟩ := h
  cases s
  · exact ⟨a, Int.lt_trans b (by decide)⟩
  · exact ⟨a, Int.lt_trans b (by decide)⟩
theorem Fin.low {s : Bool} {u p : Int} (h : Fin s u p) : -1074 ≤ p := by
  obtain ⟨_, _, c, _⟩ := h
  cases s
  · exact c
  · exact Int.le_trans (by decide) c
end Go.Proofs.YtgdknlnpfnifiaaGreat
namespace Go.Proofs.YtgdknlnpfnifiaaGreat
open Go.RowKit
set_option linter.unusedVariables false
set_option linter.unusedSimpArgs false
end Go.Proofs.YtgdknlnpfnifiaaGreat
namespace Go.Proofs.YtgdknlnpfnifiaaGreat
open Go.RowKit
set_option linter.unusedVariables false
set_option linter.unusedSimpArgs false
set_option maxHeartbeats 1600000 in
theorem splitx_d (a : Int) (h : Word a) (w : World) :
    Calls Tryz.prog 141 #[fmtV false, .int .u64 a] w fun e w' => e = .returned (prtV false a) ∧ ∃ o1 o2 o3 o4 n, w' = ((((w.alloc o1).alloc o2).alloc o3).alloc o4).drewN n := by
  obtain ⟨a0, a1⟩ := id h
  obtain ⟨z0, z1⟩ := zOf_word false a h
  have hz : ∃ z, zOf false a = z := ⟨_, rfl⟩
  obtain ⟨z, hz⟩ := hz
  have hk : ∃ k, cls false a = k := ⟨_, rfl⟩
  obtain ⟨k, hk⟩ := hk
  have hg : ∃ g, sgn false a = g := ⟨_, rfl⟩
  obtain ⟨g, hg⟩ := hg
  have hv : prtV false a = .agg #[.int .i64 k, .bool g, .int .u64 (if 0 < z / 4503599627370496 then a % 4503599627370496 + 4503599627370496 else a % 4503599627370496), .int .i64 (if 0 < z / 4503599627370496 then (-1074) + (z / 4503599627370496 - 1) else (-1074))] := by
    unfold prtV whl pwr; rw [hk, hg, hz]; rfl
  rw [hv]
  rw [hz] at z0 z1
  have n1 : bits BinOp.andNot IntKind.u64 a 9223372036854775808 = z := hz
  have n2 : (bits BinOp.and IntKind.u64 a 9223372036854775808 != 0) = g := hg
  have n3 := and_lowD a h
  have hc := class_any false a h
  rw [hk] at hc
  unfold fmtV at hc ⊢
  unfold fmtO at hc
  clear hk hg hv hz
  go_enter Tryz.func141, Tryz.ntmps141
  go_upto_region 1 with fail
  by_cases cx : 0 < z / 4503599627370496
  · have n4 := or_topD (a % 4503599627370496) (by omega) (by omega)
    go_region_held3 (fun w' => w'.cell? ⟨w.heap.size, 0, none⟩ = some (.int .i64 64) ∧ w'.cell? ⟨w.heap.size, 1, none⟩ = some (.int .i64 52) ∧ w'.cell? ⟨w.heap.size, 2, none⟩ = some (.int .i64 (-1074)) ∧ w'.cell? ⟨w.heap.size, 3, none⟩ = some (.int .u64 9223372036854775808) ∧ w'.cell? ⟨w.heap.size, 4, none⟩ = some (.int .u64 9218868437227405312))
      (simp [go_sem, World.cell?_alloc_past])
      ((go_at_call 202; refine (hc _).mono ?_; rintro e w1 ⟨rfl, rfl⟩))
    all_goals (go_wp2_with fail)
    all_goals (go_region)
    all_goals (go_wp2_with fail)
    all_goals (refine bodyPost_ret (v := .agg #[.int .i64 k, .bool g, .int .u64 (a % 4503599627370496 + 4503599627370496), .int .i64 ((-1074) + (z / 4503599627370496 - 1))]) (by simp [results, Tryz.results141, go_sem]) rfl ⟨rfl, ?_⟩)
    all_goals exact ⟨_, _, _, _, 2, rfl⟩
  · have cz : z / 4503599627370496 = 0 := by omega
    go_region_held3 (fun w' => w'.cell? ⟨w.heap.size, 0, none⟩ = some (.int .i64 64) ∧ w'.cell? ⟨w.heap.size, 1, none⟩ = some (.int .i64 52) ∧ w'.cell? ⟨w.heap.size, 2, none⟩ = some (.int .i64 (-1074)) ∧ w'.cell? ⟨w.heap.size, 3, none⟩ = some (.int .u64 9223372036854775808) ∧ w'.cell? ⟨w.heap.size, 4, none⟩ = some (.int .u64 9218868437227405312))
      (simp [go_sem, World.cell?_alloc_past])
      ((go_at_call 202; refine (hc _).mono ?_; rintro e w1 ⟨rfl, rfl⟩))
    all_goals (go_wp2_with fail)
    all_goals (refine bodyPost_ret (v := .agg #[.int .i64 k, .bool g, .int .u64 (a % 4503599627370496), .int .i64 ((-1074))]) (by simp [results, Tryz.results141, go_sem]) rfl ⟨rfl, ?_⟩)
    all_goals exact ⟨_, _, _, _, 1, rfl⟩

set_option maxHeartbeats 1600000 in
theorem splitx_s (a : Int) (h : Word a) (w : World) :
    Calls Tryz.prog 141 #[fmtV true, .int .u64 a] w fun e w' => e = .returned (prtV true a) ∧ ∃ o1 o2 o3 o4 n, w' = ((((w.alloc o1).alloc o2).alloc o3).alloc o4).drewN n := by
  obtain ⟨a0, a1⟩ := id h
  obtain ⟨z0, z1⟩ := zOf_word true a h
  have hz : ∃ z, zOf true a = z := ⟨_, rfl⟩
  obtain ⟨z, hz⟩ := hz
  have hk : ∃ k, cls true a = k := ⟨_, rfl⟩
  obtain ⟨k, hk⟩ := hk
  have hg : ∃ g, sgn true a = g := ⟨_, rfl⟩
  obtain ⟨g, hg⟩ := hg
  have hv : prtV true a = .agg #[.int .i64 k, .bool g, .int .u64 (if 0 < z / 8388608 then a % 8388608 + 8388608 else a % 8388608), .int .i64 (if 0 < z / 8388608 then (-149) + (z / 8388608 - 1) else (-149))] := by
    unfold prtV whl pwr; rw [hk, hg, hz]; rfl
  rw [hv]
  rw [hz] at z0 z1
  have n1 : bits BinOp.andNot IntKind.u64 a 2147483648 = z := hz
  have n2 : (bits BinOp.and IntKind.u64 a 2147483648 != 0) = g := hg
  have n3 := and_lowS a h
  have hc := class_any true a h
  rw [hk] at hc
  unfold fmtV at hc ⊢
  unfold fmtO at hc
  clear hk hg hv hz
  go_enter Tryz.func141, Tryz.ntmps141
  go_upto_region 1 with fail
  by_cases cx : 0 < z / 8388608
  · have n4 := or_topS (a % 8388608) (by omega) (by omega)
    go_region_held3 (fun w' => w'.cell? ⟨w.heap.size, 0, none⟩ = some (.int .i64 32) ∧ w'.cell? ⟨w.heap.size, 1, none⟩ = some (.int .i64 23) ∧ w'.cell? ⟨w.heap.size, 2, none⟩ = some (.int .i64 (-149)) ∧ w'.cell? ⟨w.heap.size, 3, none⟩ = some (.int .u64 2147483648) ∧ w'.cell? ⟨w.heap.size, 4, none⟩ = some (.int .u64 2139095040))
      (simp [go_sem, World.cell?_alloc_past])
      ((go_at_call 202; refine (hc _).mono ?_; rintro e w1 ⟨rfl, rfl⟩))
    all_goals (go_wp2_with fail)
    all_goals (go_region)
    all_goals (go_wp2_with fail)
    all_goals (refine bodyPost_ret (v := .agg #[.int .i64 k, .bool g, .int .u64 (a % 8388608 + 8388608), .int .i64 ((-149) + (z / 8388608 - 1))]) (by simp [results, Tryz.results141, go_sem]) rfl ⟨rfl, ?_⟩)
    all_goals exact ⟨_, _, _, _, 2, rfl⟩
  · have cz : z / 8388608 = 0 := by omega
    go_region_held3 (fun w' => w'.cell? ⟨w.heap.size, 0, none⟩ = some (.int .i64 32) ∧ w'.cell? ⟨w.heap.size, 1, none⟩ = some (.int .i64 23) ∧ w'.cell? ⟨w.heap.size, 2, none⟩ = some (.int .i64 (-149)) ∧ w'.cell? ⟨w.heap.size, 3, none⟩ = some (.int .u64 2147483648) ∧ w'.cell? ⟨w.heap.size, 4, none⟩ = some (.int .u64 2139095040))
      (simp [go_sem, World.cell?_alloc_past])
      ((go_at_call 202; refine (hc _).mono ?_; rintro e w1 ⟨rfl, rfl⟩))
    all_goals (go_wp2_with fail)
    all_goals (refine bodyPost_ret (v := .agg #[.int .i64 k, .bool g, .int .u64 (a % 8388608), .int .i64 ((-149))]) (by simp [results, Tryz.results141, go_sem]) rfl ⟨rfl, ?_⟩)
    all_goals exact ⟨_, _, _, _, 1, rfl⟩
theorem split_ex (s : Bool) (a : Int) (h : Word a) (w : World) :
    Calls Tryz.prog 141 #[fmtV s, .int .u64 a] w fun e w' => e = .returned (prtV s a) ∧ ∃ o1 o2 o3 o4 n, w' = ((((w.alloc o1).alloc o2).alloc o3).alloc o4).drewN n := by
  cases s
  · exact splitx_d a h w
  · exact splitx_s a h w
theorem below_dN {B : Nat} {a w : World} (h : Below B a w) (n : Nat) : Below B a (w.drewN n) := h.trans ⟨rfl, rfl, rfl, Nat.le_refl _, fun _ _ => rfl⟩
theorem formatOf_ex (f : Int) (w : World) :
    Calls Tryz.prog 140 #[.int .i64 f] w fun e w' => e = .returned (fmtV (f == 1)) ∧ ∃ o1 o2, w' = ((w.alloc o1).alloc o2).drew := by
  by_cases c : f = 1
  · subst c
    go_enter Tryz.func140, Tryz.ntmps140
    go_wp2_with fail
    go_region
    go_wp2_with fail
    exact bodyPost_ret (v := fmtV true) (by simp [results, Tryz.results140, go_sem, fmtV]) rfl ⟨rfl, _, _, rfl⟩
  · have c' : (f == 1) = false := by simp [c]
    rw [c']
    go_enter Tryz.func140, Tryz.ntmps140
    go_wp2_with fail
    go_region
    go_wp2_with fail
    exact bodyPost_ret (v := fmtV false) (by simp [results, Tryz.results140, go_sem, fmtV]) rfl ⟨rfl, _, _, rfl⟩
theorem nan_ex (s : Bool) (w : World) : Calls Tryz.prog 143 #[fmtV s] w fun e w' => e = .returned (.int .u64 (fNan s)) ∧ w' = (w.alloc (fmtO s)).drew := by
  have o1 := or_nanD
  have o2 := or_nanS
  cases s
  · unfold fmtV fmtO
    go_enter Tryz.func143, Tryz.ntmps143
    go_wp2_with fail
    go_region
    go_wp2_with fail
    go_ret
    exact ⟨rfl, rfl⟩
  · unfold fmtV fmtO
    go_enter Tryz.func143, Tryz.ntmps143
    go_wp2_with fail
    go_region
    go_wp2_with fail
    go_ret
    exact ⟨rfl, rfl⟩
end Go.Proofs.YtgdknlnpfnifiaaGreat
namespace Go.Proofs.YtgdknlnpfnifiaaGreat
open Go.RowKit
set_option linter.unusedVariables false
set_option linter.unusedSimpArgs false
theorem fin_d (a : Int) (h : Word a) (z : zOf false a < 9218868437227405312) : Fin false (whl false a) (pwr false a) := by
  have e := zOf_double a h
  have q : (2 : Int) ^ fP false = 4503599627370496 := rfl
  have q1 : (2 : Int) ^ (fP false + 1) = 9007199254740992 := rfl
  have l : fL false = -1074 := rfl
  unfold Fin whl pwr
  rw [q, q1, l]
  generalize zOf false a = Z at *
  obtain ⟨a0, a1⟩ := h
  split <;> refine ⟨?_, ?_, ?_, ?_, ?_⟩ <;> omega
theorem fin_s (a : Int) (h : Word a) (w : a < 4294967296) (z : zOf true a < 2139095040) : Fin true (whl true a) (pwr true a) := by
  have e := zOf_single a h.1 w
  have q : (2 : Int) ^ fP true = 8388608 := rfl
  have q1 : (2 : Int) ^ (fP true + 1) = 16777216 := rfl
  have l : fL true = -149 := rfl
  unfold Fin whl pwr
  rw [q, q1, l]
  generalize zOf true a = Z at *
  obtain ⟨a0, a1⟩ := h
  split <;> refine ⟨?_, ?_, ?_, ?_, ?_⟩ <;> omega
theorem fin_of (s : Bool) (a : Int) (h : Word a) : (cls s a == 0 || cls s a == 5) = false → (cls s a == 4) = false → Fin s (whl s a) (pwr s a) ∧ ((cls s a == 1) = false → whl s a ≠ 0) := by
  intro c1 c2
  have k : ¬ cls s a = 0 ∧ ¬ cls s a = 5 ∧ ¬ cls s a = 4 := by
    simp only [Bool.or_eq_false_iff, beq_eq_false_iff_ne, ne_eq] at c1 c2
    exact ⟨c1.1, c1.2, c2⟩
  obtain ⟨k0, k5, k4⟩ := k
  unfold cls at k0 k5 k4
  have w : wideB s a = false := by
    cases t : wideB s a
    · rfl
    · rw [t] at k0; simp at k0
  rw [w] at k0 k5 k4
  simp only [Bool.false_eq_true, if_false] at k0 k5 k4
  have z1 : zOf s a ≤ fI s := by
    by_cases t : fI s < zOf s a
    · rw [if_pos t] at k5; exact absurd rfl k5
    · omega
  rw [if_neg (by omega)] at k4
  have z2 : zOf s a ≠ fI s := by
    intro t
    rw [if_pos t] at k4; exact absurd rfl k4
  cases s
  · have z3 : zOf false a < 9218868437227405312 := by have i : fI false = 9218868437227405312 := rfl; omega
    refine ⟨fin_d a h z3, fun c3 => ?_⟩
    have e := zOf_double a h
    have c4 : ¬ zOf false a = 0 := by
      intro t
      have : cls false a = 1 := by unfold cls; rw [w, if_neg (by decide), if_neg (by omega), if_neg z2, if_pos t]
      rw [this] at c3; simp at c3
    unfold whl
    have q : (2 : Int) ^ fP false = 4503599627370496 := rfl
    rw [q]
    split <;> omega
  · have a3 : a < 4294967296 := by unfold wideB at w; simp at w; exact w
    have z3 : zOf true a < 2139095040 := by have i : fI true = 2139095040 := rfl; omega
    refine ⟨fin_s a h a3 z3, fun c3 => ?_⟩
    have e := zOf_single a h.1 a3
    have c4 : ¬ zOf true a = 0 := by
      intro t
      have : cls true a = 1 := by unfold cls; rw [w, if_neg (by decide), if_neg (by omega), if_neg z2, if_pos t]
      rw [this] at c3; simp at c3
    unfold whl
    have q : (2 : Int) ^ fP true = 8388608 := rfl
    rw [q]
    split <;> omega
end Go.Proofs.YtgdknlnpfnifiaaGreat
namespace Go.Proofs.YtgdknlnpfnifiaaGreat
open Go.RowKit
set_option linter.unusedVariables false
set_option linter.unusedSimpArgs false
end Go.Proofs.YtgdknlnpfnifiaaGreat
namespace Go.Proofs.YtgdknlnpfnifiaaGreat
open Go.RowKit
set_option linter.unusedVariables false
set_option linter.unusedSimpArgs false
end Go.Proofs.YtgdknlnpfnifiaaGreat
namespace Go.Proofs.YtgdknlnpfnifiaaGreat
open Go.RowKit
set_option linter.unusedVariables false
set_option linter.unusedSimpArgs false
end Go.Proofs.YtgdknlnpfnifiaaGreat
namespace Go.Proofs.YtgdknlnpfnifiaaGreat
open Go.RowKit
set_option linter.unusedVariables false
set_option linter.unusedSimpArgs false
def negF (s : Bool) (a : Int) : Int := if cls s a == 0 || cls s a == 5 then fNan s else bits BinOp.xor IntKind.u64 a (fS s)
theorem fS_nat (s : Bool) : ∃ n : Nat, fS s = (n : Int) ∧ n < 18446744073709551616 := by
  cases s
  · exact ⟨9223372036854775808, rfl, by decide⟩
  · exact ⟨2147483648, rfl, by decide⟩
theorem xor_word (s : Bool) (a : Int) (h : Word a) : Word (bits BinOp.xor IntKind.u64 a (fS s)) := by
  obtain ⟨x, rfl⟩ := Int.eq_ofNat_of_zero_le h.1
  obtain ⟨n, e, l⟩ := fS_nat s
  have hx := h.2
  rw [e, u64_xor_nat x n (by omega) l]
  have : x ^^^ n < 2 ^ 64 := Nat.xor_lt_two_pow (by omega) (by omega)
  exact ⟨by omega, by omega⟩
theorem negF_word (s : Bool) (a : Int) (h : Word a) : Word (negF s a) := by
  unfold negF
  split
  · cases s <;> exact ⟨by decide, by decide⟩
  · exact xor_word s a h
theorem neg_fl (f a : Int) (h1 : Word a) (w : World) :
    Calls Tryz.prog 68 #[.int .i64 f, .int .u64 a] w fun r w' => r = .returned (.int .u64 (negF (f == 1) a)) ∧ Below w.heap.size w w' := by
  have hda : ∀ (w : World) (n : Nat) (o : Obj), (w.drewN n).alloc o = (w.alloc o).drewN n := fun _ _ _ => rfl
  have hfo := formatOf_ex f
  generalize (f == 1) = s at *
  have hV : ∃ V, negF s a = V := ⟨_, rfl⟩
  obtain ⟨V, hV⟩ := hV
  rw [hV]
  unfold negF at hV
  have hn1 := noNumber_any (cls s a) (sgn s a) (whl s a) (pwr s a)
  have hnan := nan_ex s
  have hsa := split_ex s a h1
  unfold prt prtO at hn1
  rw [fmtV_eq, fmtO_eq] at hnan
  rw [fmtV_eq] at hfo hsa
  unfold prtV at hsa
  generalize (cls s a == 0 || cls s a == 5) = N1 at *
  generalize cls s a = k1 at *
  generalize sgn s a = g1 at *
  generalize whl s a = u1 at *
  generalize pwr s a = p1 at *
  cases N1
  · simp only [Bool.false_eq_true, if_false] at hV
    subst hV
    go_enter Tryz.func68, Tryz.ntmps68
    go_wp2_with (first
      | (go_at_call 140; refine (hfo _).mono ?_; rintro r w1 ⟨rfl, o1, o2, rfl⟩)
      | (go_at_call 141; refine (hsa _).mono ?_; rintro r w2 ⟨rfl, o3, o4, o5, o6, n1, rfl⟩)
      | (go_at_call 142; refine (hn1 _).mono ?_; rintro r w2 ⟨rfl, rfl⟩))
    go_ret
    exact ⟨rfl, (by repeat (first | with_reducible exact Below.refl _ _ | with_reducible refine below_new ?_ _ | with_reducible refine Below.drew ?_ | with_reducible refine below_dN ?_ _))⟩
  · simp only [if_true] at hV
    subst hV
    go_enter Tryz.func68, Tryz.ntmps68
    go_wp2_with (first
      | (go_at_call 140; refine (hfo _).mono ?_; rintro r w1 ⟨rfl, o1, o2, rfl⟩)
      | (go_at_call 141; refine (hsa _).mono ?_; rintro r w2 ⟨rfl, o3, o4, o5, o6, n1, rfl⟩)
      | (go_at_call 142; refine (hn1 _).mono ?_; rintro r w2 ⟨rfl, rfl⟩)
      | (go_at_call 143; refine (hnan _).mono ?_; rintro r w2 ⟨rfl, rfl⟩))
    go_ret
    exact ⟨rfl, (by repeat (first | with_reducible exact Below.refl _ _ | with_reducible refine below_new ?_ _ | with_reducible refine Below.drew ?_ | with_reducible refine below_dN ?_ _))⟩
end Go.Proofs.YtgdknlnpfnifiaaGreat
namespace Go.Proofs.YtgdknlnpfnifiaaGreat
open Go.RowKit
set_option linter.unusedVariables false
set_option linter.unusedSimpArgs false
def rnk (s : Bool) (a : Int) : Int := if sgn s a then -(zOf s a) else zOf s a
theorem zOf_small (s : Bool) (a : Int) (h : Word a) (c : (cls s a == 0 || cls s a == 5) = false) : zOf s a ≤ fI s := by
  simp only [Bool.or_eq_false_iff, beq_eq_false_iff_ne, ne_eq] at c
  obtain ⟨k0, k5⟩ := c
  unfold cls at k0 k5
  have w : wideB s a = false := by
    cases t : wideB s a
    · rfl
    · rw [t] at k0; simp at k0
  rw [w] at k5
  simp only [Bool.false_eq_true, if_false] at k5
  by_cases t : fI s < zOf s a
  · rw [if_pos t] at k5; exact absurd rfl k5
  · omega
theorem order_any (s : Bool) (a : Int) (h : Word a) (hz : zOf s a ≤ 9223372036854775807) (w : World) :
    Calls Tryz.prog 159 #[fmtV s, .int .u64 a] w fun e w' => e = .returned (.int .i64 (rnk s a)) ∧ w' = w.alloc (fmtO s) := by
  obtain ⟨z0, z1⟩ := zOf_word s a h
  have hg : ∃ g, sgn s a = g := ⟨_, rfl⟩
  obtain ⟨g, hg⟩ := hg
  have hzz : ∃ z, zOf s a = z := ⟨_, rfl⟩
  obtain ⟨z, hzz⟩ := hzz
  unfold rnk
  rw [hg, hzz]
  rw [hzz] at z0 z1 hz
  have n1 : bits BinOp.andNot IntKind.u64 a (fS s) = z := hzz
  have n2 : (bits BinOp.and IntKind.u64 a (fS s) != 0) = g := hg
  rw [fmtV_eq, fmtO_eq]
  generalize fS s = S at *
  clear hg hzz
  cases g
  · go_enter Tryz.func159, Tryz.ntmps159
    go_wp2_with fail
    go_ret
    exact ⟨rfl, rfl⟩
  · go_enter Tryz.func159, Tryz.ntmps159
    go_wp2_with fail
    go_ret
    exact ⟨rfl, rfl⟩
def cmpF (s : Bool) (a b : Int) : Int × Bool :=
  if (cls s a == 0 || cls s a == 5) || (cls s b == 0 || cls s b == 5) then (0, false)
  else (if rnk s a < rnk s b then -1 else if rnk s b < rnk s a then 1 else 0, true)
theorem fI_i64 (s : Bool) : fI s ≤ 9223372036854775807 := by cases s <;> decide
set_option maxRecDepth 8000 in
set_option maxHeartbeats 1600000 in
theorem compare_fl (f a b : Int) (h1 : Word a) (h2 : Word b) (w : World) :
    Calls Tryz.prog 83 #[.int .i64 f, .int .u64 a, .int .u64 b] w fun r w' => r = .returned (.tuple #[.int .i64 (cmpF (f == 1) a b).1, .bool (cmpF (f == 1) a b).2]) ∧ Below w.heap.size w w' := by
  have hda : ∀ (w : World) (n : Nat) (o : Obj), (w.drewN n).alloc o = (w.alloc o).drewN n := fun _ _ _ => rfl
  have hfo := formatOf_ex f
  generalize (f == 1) = s at *
  have hn1 := noNumber_any (cls s a) (sgn s a) (whl s a) (pwr s a)
  have hn2 := noNumber_any (cls s b) (sgn s b) (whl s b) (pwr s b)
  have hsa := split_ex s a h1
  have hsb := split_ex s b h2
  have ho1 : (cls s a == 0 || cls s a == 5) = false → ∀ w, _ := fun c => order_any s a h1 (Int.le_trans (zOf_small s a h1 c) (fI_i64 s))
  have ho2 : (cls s b == 0 || cls s b == 5) = false → ∀ w, _ := fun c => order_any s b h2 (Int.le_trans (zOf_small s b h2 c) (fI_i64 s))
  unfold cmpF
  unfold prt prtO at hn1 hn2
  rw [fmtV_eq] at hfo hsa hsb ho1 ho2
  unfold prtV at hsa hsb
  generalize (cls s a == 0 || cls s a == 5) = N1 at *
  generalize (cls s b == 0 || cls s b == 5) = N2 at *
  generalize cls s a = k1 at *
  generalize cls s b = k2 at *
  generalize sgn s a = g1 at *
  generalize sgn s b = g2 at *
  generalize whl s a = u1 at *
  generalize whl s b = u2 at *
  generalize pwr s a = p1 at *
  generalize pwr s b = p2 at *
  generalize rnk s a = r1 at *
  generalize rnk s b = r2 at *
  cases N1
  · cases N2
    · simp only [Bool.or_false, Bool.false_eq_true, if_false]
      have hp1 := ho1 rfl
      have hp2 := ho2 rfl
      clear ho1 ho2
      go_enter Tryz.func83, Tryz.ntmps83
      go_wp2_with (first
        | (go_at_call 140; refine (hfo _).mono ?_; rintro r w1 ⟨rfl, o1, o2, rfl⟩)
        | (go_at_call_of 141 a; refine (hsa _).mono ?_; rintro r w2 ⟨rfl, o3, o4, o5, o6, n1, rfl⟩)
        | (go_at_call_of 141 b; refine (hsb _).mono ?_; rintro r w2 ⟨rfl, o7, o8, o9, oa, n2, rfl⟩)
        | (go_at_call_of 142 k1; refine (hn1 _).mono ?_; rintro r w2 ⟨rfl, rfl⟩)
        | (go_at_call_of 142 k2; refine (hn2 _).mono ?_; rintro r w2 ⟨rfl, rfl⟩))
      go_region_held3 (fun w' => w'.cell? ⟨w.heap.size + 1 + 1, 0, none⟩ = some (.int .i64 (fW s)) ∧ w'.cell? ⟨w.heap.size + 1 + 1, 1, none⟩ = some (.int .i64 (fQ s)) ∧ w'.cell? ⟨w.heap.size + 1 + 1, 2, none⟩ = some (.int .i64 (fL s)) ∧ w'.cell? ⟨w.heap.size + 1 + 1, 3, none⟩ = some (.int .u64 (fS s)) ∧ w'.cell? ⟨w.heap.size + 1 + 1, 4, none⟩ = some (.int .u64 (fI s)))
        (simp [go_sem, World.cell?_alloc_past])
        (first
          | (go_at_call_of 159 a; refine (hp1 _).mono ?_; rintro r w2 ⟨rfl, rfl⟩)
          | (go_at_call_of 159 b; refine (hp2 _).mono ?_; rintro r w3 ⟨rfl, rfl⟩))
      by_cases c1 : r1 < r2
      · go_wp2_with fail
        exact bodyPost_ret (v := .tuple #[.int .i64 (-1), .bool true]) (by simp [results, Tryz.results83, go_sem]) rfl ⟨by simp [c1], (by repeat (first | with_reducible exact Below.refl _ _ | with_reducible refine below_new ?_ _ | with_reducible refine Below.drew ?_ | with_reducible refine below_dN ?_ _))⟩
      · by_cases c2 : r2 < r1
        · go_wp2_with fail
          exact bodyPost_ret (v := .tuple #[.int .i64 (1), .bool true]) (by simp [results, Tryz.results83, go_sem]) rfl ⟨by simp [c1, c2], (by repeat (first | with_reducible exact Below.refl _ _ | with_reducible refine below_new ?_ _ | with_reducible refine Below.drew ?_ | with_reducible refine below_dN ?_ _))⟩
        · go_wp2_with fail
          exact bodyPost_ret (v := .tuple #[.int .i64 (0), .bool true]) (by simp [results, Tryz.results83, go_sem]) rfl ⟨by simp [c1, c2], (by repeat (first | with_reducible exact Below.refl _ _ | with_reducible refine below_new ?_ _ | with_reducible refine Below.drew ?_ | with_reducible refine below_dN ?_ _))⟩
    · simp only [Bool.or_true, if_true]
      go_enter Tryz.func83, Tryz.ntmps83
      go_wp2_with (first
        | (go_at_call 140; refine (hfo _).mono ?_; rintro r w1 ⟨rfl, o1, o2, rfl⟩)
        | (go_at_call_of 141 a; refine (hsa _).mono ?_; rintro r w2 ⟨rfl, o3, o4, o5, o6, n1, rfl⟩)
        | (go_at_call_of 141 b; refine (hsb _).mono ?_; rintro r w2 ⟨rfl, o7, o8, o9, oa, n2, rfl⟩)
        | (go_at_call_of 142 k1; refine (hn1 _).mono ?_; rintro r w2 ⟨rfl, rfl⟩)
        | (go_at_call_of 142 k2; refine (hn2 _).mono ?_; rintro r w2 ⟨rfl, rfl⟩))
      exact bodyPost_ret (v := .tuple #[.int .i64 0, .bool false]) (by simp [results, Tryz.results83, go_sem]) rfl ⟨rfl, (by repeat (first | with_reducible exact Below.refl _ _ | with_reducible refine below_new ?_ _ | with_reducible refine Below.drew ?_ | with_reducible refine below_dN ?_ _))⟩
  · simp only [Bool.true_or, if_true]
    go_enter Tryz.func83, Tryz.ntmps83
    go_wp2_with (first
        | (go_at_call 140; refine (hfo _).mono ?_; rintro r w1 ⟨rfl, o1, o2, rfl⟩)
        | (go_at_call_of 141 a; refine (hsa _).mono ?_; rintro r w2 ⟨rfl, o3, o4, o5, o6, n1, rfl⟩)
        | (go_at_call_of 142 k1; refine (hn1 _).mono ?_; rintro r w2 ⟨rfl, rfl⟩))
    exact bodyPost_ret (v := .tuple #[.int .i64 0, .bool false]) (by simp [results, Tryz.results83, go_sem]) rfl ⟨rfl, (by repeat (first | with_reducible exact Below.refl _ _ | with_reducible refine below_new ?_ _ | with_reducible refine Below.drew ?_ | with_reducible refine below_dN ?_ _))⟩
theorem class_fl (f a : Int) (h1 : Word a) (w : World) :
    Calls Tryz.prog 145 #[.int .i64 f, .int .u64 a] w fun r w' => r = .returned (.int .i64 (cls (f == 1) a)) ∧ Below w.heap.size w w' := by
  have hda : ∀ (w : World) (n : Nat) (o : Obj), (w.drewN n).alloc o = (w.alloc o).drewN n := fun _ _ _ => rfl
  have hfo := formatOf_ex f
  generalize (f == 1) = s at *
  have hc := class_any s a h1
  rw [fmtV_eq] at hfo hc
  generalize cls s a = k at *
  go_enter Tryz.func145, Tryz.ntmps145
  go_wp2_with (first
    | (go_at_call 140; refine (hfo _).mono ?_; rintro r w1 ⟨rfl, o1, o2, rfl⟩)
    | (go_at_call 202; refine (hc _).mono ?_; rintro r w2 ⟨rfl, rfl⟩))
  go_ret
  exact ⟨rfl, (by repeat (first | with_reducible exact Below.refl _ _ | with_reducible refine below_new ?_ _ | with_reducible refine Below.drew ?_ | with_reducible refine below_dN ?_ _))⟩
def finF (s : Bool) (a : Int) : Bool := cls s a == 1 || cls s a == 2 || cls s a == 3
theorem finite_fl (f a : Int) (h1 : Word a) (w : World) :
    Calls Tryz.prog 73 #[.int .i64 f, .int .u64 a] w fun r w' => r = .returned (.bool (finF (f == 1) a)) ∧ Below w.heap.size w w' := by
  have hc := class_fl f a h1
  generalize (f == 1) = s at *
  unfold finF
  generalize cls s a = k at *
  by_cases c1 : k = 1
  · subst c1
    go_enter Tryz.func73, Tryz.ntmps73
    go_wp2_with fail
    refine (hc _).mono ?_
    rintro r w1 ⟨rfl, hb1⟩
    go_wp2_with fail
    go_ret
    exact ⟨rfl, hb1⟩
  · by_cases c2 : k = 2
    · subst c2
      go_enter Tryz.func73, Tryz.ntmps73
      go_wp2_with fail
      refine (hc _).mono ?_
      rintro r w1 ⟨rfl, hb1⟩
      go_wp2_with fail
      go_ret
      exact ⟨rfl, hb1⟩
    · by_cases c3 : k = 3
      · subst c3
        go_enter Tryz.func73, Tryz.ntmps73
        go_wp2_with fail
        refine (hc _).mono ?_
        rintro r w1 ⟨rfl, hb1⟩
        go_wp2_with fail
        go_ret
        exact ⟨rfl, hb1⟩
      · have d1 : (k == 1) = false := by simp [c1]
        have d2 : (k == 2) = false := by simp [c2]
        have d3 : (k == 3) = false := by simp [c3]
        rw [d1, d2, d3]
        go_enter Tryz.func73, Tryz.ntmps73
        go_wp2_with fail
        refine (hc _).mono ?_
        rintro r w1 ⟨rfl, hb1⟩
        go_wp2_with fail
        go_ret
        exact ⟨rfl, hb1⟩
end Go.Proofs.YtgdknlnpfnifiaaGreat
namespace Go.Proofs.YtgdknlnpfnifiaaGreat
open Go.RowKit
set_option linter.unusedVariables false
set_option linter.unusedSimpArgs false
def shpV (s : Bool) : Value := .agg #[.int .i64 (if s then 32 else 64), .int .i64 (if s then 23 else 52), .int .i64 (if s then -149 else -1074)]
def shpO (s : Bool) : Obj := .cells #[.int .i64 (if s then 32 else 64), .int .i64 (if s then 23 else 52), .int .i64 (if s then -149 else -1074)] 164
theorem shapeOf_ex (f : Int) (w : World) :
    Calls Tryz.prog 147 #[.int .i64 f] w fun e w' => e = .returned (shpV (f == 1)) ∧ ∃ o1, w' = w.alloc o1 := by
  by_cases c : f = 1
  · subst c
    go_enter Tryz.func147, Tryz.ntmps147
    go_wp2_with fail
    exact bodyPost_ret (v := shpV true) (by simp [results, Tryz.results147, go_sem, shpV]) rfl ⟨rfl, _, rfl⟩
  · have c' : (f == 1) = false := by simp [c]
    rw [c']
    go_enter Tryz.func147, Tryz.ntmps147
    go_wp2_with fail
    exact bodyPost_ret (v := shpV false) (by simp [results, Tryz.results147, go_sem, shpV]) rfl ⟨rfl, _, rfl⟩
theorem csign_ex (s : Bool) (w : World) :
    Calls Tryz.prog 148 #[shpV s] w fun e w' => e = .returned (.int .u64 (fS s)) ∧ w' = w.alloc (shpO s) := by
  cases s
  · unfold shpV shpO
    go_enter Tryz.func148, Tryz.ntmps148
    go_wp2_with fail
    go_ret
    exact ⟨rfl, rfl⟩
  · unfold shpV shpO
    go_enter Tryz.func148, Tryz.ntmps148
    go_wp2_with fail
    go_ret
    exact ⟨rfl, rfl⟩
def cprtV (s : Bool) (a : Int) : Value := .agg #[.bool (sgn s a), .int .u64 (whl s a), .int .i64 (pwr s a)]
set_option maxHeartbeats 1600000 in
theorem csplit_d (f a : Int) (hf : (f == 1) = false) (h : Word a) (w : World) :
    Calls Tryz.prog 180 #[.int .i64 f, .int .u64 a] w fun e w' => e = .returned (cprtV false a) ∧ ∃ o1 o2 o3 o4 o5 o6 n, w' = ((((((w.alloc o1).alloc o2).alloc o3).alloc o4).alloc o5).alloc o6).drewN n := by
  obtain ⟨a0, a1⟩ := id h
  obtain ⟨z0, z1⟩ := zOf_word false a h
  obtain ⟨z, hz⟩ : ∃ z, zOf false a = z := ⟨_, rfl⟩
  obtain ⟨g, hg⟩ : ∃ g, sgn false a = g := ⟨_, rfl⟩
  have hv : cprtV false a = .agg #[.bool g, .int .u64 (if 0 < z / 4503599627370496 then a % 4503599627370496 + 4503599627370496 else a % 4503599627370496), .int .i64 (if 0 < z / 4503599627370496 then (-1074) + (z / 4503599627370496 - 1) else (-1074))] := by
    unfold cprtV whl pwr; rw [hg, hz]; rfl
  rw [hv]
  rw [hz] at z0 z1
  have n1 : bits BinOp.andNot IntKind.u64 a 9223372036854775808 = z := hz
  have n2 : (bits BinOp.and IntKind.u64 a 9223372036854775808 != 0) = g := hg
  have n3 := and_lowD a h
  have hso := shapeOf_ex f
  rw [hf] at hso
  have hsg : ∀ w, Calls Tryz.prog 148 #[.agg #[.int .i64 64, .int .i64 52, .int .i64 (-1074)]] w fun e w' => e = .returned (.int .u64 9223372036854775808) ∧ w' = w.alloc (.cells #[.int .i64 64, .int .i64 52, .int .i64 (-1074)] 164) := csign_ex false
  have hso' : ∀ w, Calls Tryz.prog 147 #[.int .i64 f] w fun e w' => e = .returned (.agg #[.int .i64 64, .int .i64 52, .int .i64 (-1074)]) ∧ ∃ o1, w' = w.alloc o1 := hso
  clear hg hv hz hso hf
  go_enter Tryz.func180, Tryz.ntmps180
  go_upto_region 2 with (go_at_call 147; refine (hso' _).mono ?_; rintro e w1 ⟨rfl, o1, rfl⟩)
  by_cases cx : 0 < z / 4503599627370496
  · have n4 := or_topD (a % 4503599627370496) (by omega) (by omega)
    go_region_held3 (fun w' => w'.cell? ⟨w.heap.size + 1 + 1, 0, none⟩ = some (.int .i64 64) ∧ w'.cell? ⟨w.heap.size + 1 + 1, 1, none⟩ = some (.int .i64 52) ∧ w'.cell? ⟨w.heap.size + 1 + 1, 2, none⟩ = some (.int .i64 (-1074)))
      (simp [go_sem, World.cell?_alloc_past])
      ((go_at_call 148; refine (hsg _).mono ?_; rintro e w1 ⟨rfl, rfl⟩))
    all_goals (go_wp2_with fail)
    all_goals (go_region_held3 (fun w' => w'.cell? ⟨w.heap.size + 1 + 1, 0, none⟩ = some (.int .i64 64) ∧ w'.cell? ⟨w.heap.size + 1 + 1, 1, none⟩ = some (.int .i64 52) ∧ w'.cell? ⟨w.heap.size + 1 + 1, 2, none⟩ = some (.int .i64 (-1074)))
      (simp [go_sem, World.cell?_alloc_past])
      ((go_at_call 148; refine (hsg _).mono ?_; rintro e w1 ⟨rfl, rfl⟩)))
    all_goals (go_wp2_with fail)
    all_goals (go_region)
    all_goals (go_wp2_with fail)
    all_goals (refine bodyPost_ret (v := .agg #[.bool g, .int .u64 (a % 4503599627370496 + 4503599627370496), .int .i64 ((-1074) + (z / 4503599627370496 - 1))]) (by simp [results, Tryz.results180, go_sem]) rfl ⟨rfl, ?_⟩)
    all_goals exact ⟨_, _, _, _, _, _, 3, rfl⟩
  · have cz : z / 4503599627370496 = 0 := by omega
    go_region_held3 (fun w' => w'.cell? ⟨w.heap.size + 1 + 1, 0, none⟩ = some (.int .i64 64) ∧ w'.cell? ⟨w.heap.size + 1 + 1, 1, none⟩ = some (.int .i64 52) ∧ w'.cell? ⟨w.heap.size + 1 + 1, 2, none⟩ = some (.int .i64 (-1074)))
      (simp [go_sem, World.cell?_alloc_past])
      ((go_at_call 148; refine (hsg _).mono ?_; rintro e w1 ⟨rfl, rfl⟩))
    all_goals (go_wp2_with fail)
    all_goals (go_region_held3 (fun w' => w'.cell? ⟨w.heap.size + 1 + 1, 0, none⟩ = some (.int .i64 64) ∧ w'.cell? ⟨w.heap.size + 1 + 1, 1, none⟩ = some (.int .i64 52) ∧ w'.cell? ⟨w.heap.size + 1 + 1, 2, none⟩ = some (.int .i64 (-1074)))
      (simp [go_sem, World.cell?_alloc_past])
      ((go_at_call 148; refine (hsg _).mono ?_; rintro e w1 ⟨rfl, rfl⟩)))
    all_goals (go_wp2_with fail)
    all_goals (refine bodyPost_ret (v := .agg #[.bool g, .int .u64 (a % 4503599627370496), .int .i64 (-1074)]) (by simp [results, Tryz.results180, go_sem]) rfl ⟨rfl, ?_⟩)
    all_goals exact ⟨_, _, _, _, _, _, 2, rfl⟩
set_option maxHeartbeats 1600000 in
theorem csplit_s (f a : Int) (hf : (f == 1) = true) (h : Word a) (w : World) :
    Calls Tryz.prog 180 #[.int .i64 f, .int .u64 a] w fun e w' => e = .returned (cprtV true a) ∧ ∃ o1 o2 o3 o4 o5 o6 n, w' = ((((((w.alloc o1).alloc o2).alloc o3).alloc o4).alloc o5).alloc o6).drewN n := by
  obtain ⟨a0, a1⟩ := id h
  obtain ⟨z0, z1⟩ := zOf_word true a h
  obtain ⟨z, hz⟩ : ∃ z, zOf true a = z := ⟨_, rfl⟩
  obtain ⟨g, hg⟩ : ∃ g, sgn true a = g := ⟨_, rfl⟩
  have hv : cprtV true a = .agg #[.bool g, .int .u64 (if 0 < z / 8388608 then a % 8388608 + 8388608 else a % 8388608), .int .i64 (if 0 < z / 8388608 then (-149) + (z / 8388608 - 1) else (-149))] := by
    unfold cprtV whl pwr; rw [hg, hz]; rfl
  rw [hv]
  rw [hz] at z0 z1
  have n1 : bits BinOp.andNot IntKind.u64 a 2147483648 = z := hz
  have n2 : (bits BinOp.and IntKind.u64 a 2147483648 != 0) = g := hg
  have n3 := and_lowS a h
  have hso := shapeOf_ex f
  rw [hf] at hso
  have hsg : ∀ w, Calls Tryz.prog 148 #[.agg #[.int .i64 32, .int .i64 23, .int .i64 (-149)]] w fun e w' => e = .returned (.int .u64 2147483648) ∧ w' = w.alloc (.cells #[.int .i64 32, .int .i64 23, .int .i64 (-149)] 164) := csign_ex true
  have hso' : ∀ w, Calls Tryz.prog 147 #[.int .i64 f] w fun e w' => e = .returned (.agg #[.int .i64 32, .int .i64 23, .int .i64 (-149)]) ∧ ∃ o1, w' = w.alloc o1 := hso
  clear hg hv hz hso hf
  go_enter Tryz.func180, Tryz.ntmps180
  go_upto_region 2 with (go_at_call 147; refine (hso' _).mono ?_; rintro e w1 ⟨rfl, o1, rfl⟩)
  by_cases cx : 0 < z / 8388608
  · have n4 := or_topS (a % 8388608) (by omega) (by omega)
    go_region_held3 (fun w' => w'.cell? ⟨w.heap.size + 1 + 1, 0, none⟩ = some (.int .i64 32) ∧ w'.cell? ⟨w.heap.size + 1 + 1, 1, none⟩ = some (.int .i64 23) ∧ w'.cell? ⟨w.heap.size + 1 + 1, 2, none⟩ = some (.int .i64 (-149)))
      (simp [go_sem, World.cell?_alloc_past])
      ((go_at_call 148; refine (hsg _).mono ?_; rintro e w1 ⟨rfl, rfl⟩))
    all_goals (go_wp2_with fail)
    all_goals (go_region_held3 (fun w' => w'.cell? ⟨w.heap.size + 1 + 1, 0, none⟩ = some (.int .i64 32) ∧ w'.cell? ⟨w.heap.size + 1 + 1, 1, none⟩ = some (.int .i64 23) ∧ w'.cell? ⟨w.heap.size + 1 + 1, 2, none⟩ = some (.int .i64 (-149)))
      (simp [go_sem, World.cell?_alloc_past])
      ((go_at_call 148; refine (hsg _).mono ?_; rintro e w1 ⟨rfl, rfl⟩)))
    all_goals (go_wp2_with fail)
    all_goals (go_region)
    all_goals (go_wp2_with fail)
    all_goals (refine bodyPost_ret (v := .agg #[.bool g, .int .u64 (a % 8388608 + 8388608), .int .i64 ((-149) + (z / 8388608 - 1))]) (by simp [results, Tryz.results180, go_sem]) rfl ⟨rfl, ?_⟩)
    all_goals exact ⟨_, _, _, _, _, _, 3, rfl⟩
  · have cz : z / 8388608 = 0 := by omega
    go_region_held3 (fun w' => w'.cell? ⟨w.heap.size + 1 + 1, 0, none⟩ = some (.int .i64 32) ∧ w'.cell? ⟨w.heap.size + 1 + 1, 1, none⟩ = some (.int .i64 23) ∧ w'.cell? ⟨w.heap.size + 1 + 1, 2, none⟩ = some (.int .i64 (-149)))
      (simp [go_sem, World.cell?_alloc_past])
      ((go_at_call 148; refine (hsg _).mono ?_; rintro e w1 ⟨rfl, rfl⟩))
    all_goals (go_wp2_with fail)
    all_goals (go_region_held3 (fun w' => w'.cell? ⟨w.heap.size + 1 + 1, 0, none⟩ = some (.int .i64 32) ∧ w'.cell? ⟨w.heap.size + 1 + 1, 1, none⟩ = some (.int .i64 23) ∧ w'.cell? ⟨w.heap.size + 1 + 1, 2, none⟩ = some (.int .i64 (-149)))
      (simp [go_sem, World.cell?_alloc_past])
      ((go_at_call 148; refine (hsg _).mono ?_; rintro e w1 ⟨rfl, rfl⟩)))
    all_goals (go_wp2_with fail)
    all_goals (refine bodyPost_ret (v := .agg #[.bool g, .int .u64 (a % 8388608), .int .i64 (-149)]) (by simp [results, Tryz.results180, go_sem]) rfl ⟨rfl, ?_⟩)
    all_goals exact ⟨_, _, _, _, _, _, 2, rfl⟩
theorem csplit_ex (f a : Int) (h : Word a) (w : World) :
    Calls Tryz.prog 180 #[.int .i64 f, .int .u64 a] w fun e w' => e = .returned (cprtV (f == 1) a) ∧ ∃ o1 o2 o3 o4 o5 o6 n, w' = ((((((w.alloc o1).alloc o2).alloc o3).alloc o4).alloc o5).alloc o6).drewN n := by
  cases c : (f == 1)
  · exact csplit_d f a c h w
  · exact csplit_s f a c h w
theorem below_six (w : World) (a b c d e f : Obj) (n : Nat) : Below w.heap.size w (((((((w.alloc a).alloc b).alloc c).alloc d).alloc e).alloc f).drewN n) :=
  below_dN (below_new (below_new (below_new (below_three w a b c) d) e) f) n
end Go.Proofs.YtgdknlnpfnifiaaGreat

