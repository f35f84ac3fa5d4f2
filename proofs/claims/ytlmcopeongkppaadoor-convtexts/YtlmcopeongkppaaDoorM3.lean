/- Texts of the proof, put together. -/
import Derived.Test.YtlmcopeongkppaaDoorM2
import Derived.Deep.Draws
namespace Go.Proofs.YtlmcopeongkppaaDoor
open Go.RowKit
set_option linter.unusedVariables false
set_option linter.unusedSimpArgs false
theorem and_odd (q : Nat) (h : q < 18446744073709551616) : ((bits BinOp.and IntKind.u64 (q : Int) 1) == 1) = (q % 2 == 1) := by
  have t := u64_and_nat q 1 h (by decide)
  have e : q &&& 1 = q % 2 := Nat.and_two_pow_sub_one_eq_mod q 1
  rw [e] at t
  have t' : bits BinOp.and IntKind.u64 (q : Int) 1 = ((q % 2 : Nat) : Int) := t
  rw [t', Bool.eq_iff_iff, beq_iff_eq, beq_iff_eq]
  omega
theorem mag_eqD (m : Int) (b : Bool) (N : Nat) (e last : Int) (hl : lastOf false N e = last) :
    mag false m b N e = (if 9218868437227405312 ≤ (last - (-1074)) * 4503599627370496 + ((quo N (last - e) + if away m b (quo N (last - e) % 2 == 1) (half N (last - e)) (low N (last - e)) then 1 else 0 : Nat) : Int) then great false m b
      else (last - (-1074)) * 4503599627370496 + ((quo N (last - e) + if away m b (quo N (last - e) % 2 == 1) (half N (last - e)) (low N (last - e)) then 1 else 0 : Nat) : Int)) := by
  subst hl; rfl
theorem last_eqD {N : Nat} (n0 : N ≠ 0) (e n : Int) (hn : (blen N : Int) = n) (hn2 : n ≤ 128) : ∃ last : Int, max (n - 53 + e) (-1074) = last ∧ lastOf false N e = last ∧ (-1074) ≤ last ∧ n - 53 + e ≤ last ∧ (last = (-1074) ∨ last = n - 53 + e) ∧ quo N (last - e) < 9007199254740992 := by
  refine ⟨_, rfl, ?_, by omega, by omega, by omega, ?_⟩
  · unfold lastOf; rw [hn]; rfl
  · have := kept false n0 e (min e (-1074)) (by omega) (by show min e (-1074) ≤ (-1074); omega)
    obtain ⟨x, _, q, _⟩ := this
    have t : lastOf false N e = max (n - 53 + e) (-1074) := by unfold lastOf; rw [hn]; rfl
    rw [t] at q
    exact q
set_option maxRecDepth 8000 in
set_option maxHeartbeats 3200000 in
theorem size_d (m : Int) (b : Bool) (ah al e : Int) (h1 : Word ah) (h2 : Word al) (n0 : nn ah al ≠ 0) (e1 : -4010 ≤ e) (e2 : e ≤ 4010) (w : World) :
    Calls Tryd.prog 44 #[fmtV false, rdV m, .bool b, .agg #[.int .u64 ah, .int .u64 al], .int .i64 e] w fun r w' => r = .returned (.int .u64 (mag false m b (nn ah al) e)) ∧ Below w.heap.size w w' := by
  have hlen := len_ex ah al h1 h2
  have hn2 := blen_128 h1 h2
  have hn1 := (blen_le n0).2
  have hn : ∃ n : Int, (blen (nn ah al) : Int) = n := ⟨_, rfl⟩
  obtain ⟨n, hn⟩ := hn
  obtain ⟨last, hM, hL, l1, l2, l3, hq⟩ := last_eqD n0 e n hn (by omega)
  rw [mag_eqD m b _ e last hL]
  have hcut := cut_any ah al (last - e) h1 h2 (by omega) (by omega) (by omega)
  have hgr := tooGreat_any false m b
  have haw := away_any m b (quo (nn ah al) (last - e) % 2 == 1) (half (nn ah al) (last - e)) (low (nn ah al) (last - e))
  have hE := awF_enters m
  have hO : ((bits BinOp.and IntKind.u64 ((quo (nn ah al) (last - e) : Nat) : Int) 1) == 1) = (quo (nn ah al) (last - e) % 2 == 1) := and_odd _ (by omega)
  rw [hn] at hlen
  have n1 : 1 ≤ n := by omega
  have n2 : n ≤ 128 := by omega
  generalize (quo (nn ah al) (last - e) % 2 == 1) = O at *
  generalize rc (half (nn ah al) (last - e)) (low (nn ah al) (last - e)) = R at *
  generalize away m b O (half (nn ah al) (last - e)) (low (nn ah al) (last - e)) = A at *
  have cast : ((quo (nn ah al) (last - e) + if A = true then 1 else 0 : Nat) : Int) = ((quo (nn ah al) (last - e) : Nat) : Int) + (if A = true then 1 else 0) := by cases A <;> simp
  rw [cast]
  have t0 : (0 : Int) ≤ ((quo (nn ah al) (last - e) : Nat) : Int) := Int.natCast_nonneg _
  have t1 : ((quo (nn ah al) (last - e) : Nat) : Int) < 9007199254740992 := by omega
  generalize ((quo (nn ah al) (last - e) : Nat) : Int) = t at *
  generalize great false m b = G at *
  clear hn hn1 hn2 hL hq cast l3 n0 h1 h2
  have hV : ∃ V : Int, (if 9218868437227405312 ≤ (last - (-1074)) * 4503599627370496 + (t + if A = true then 1 else 0) then G else (last - (-1074)) * 4503599627370496 + (t + if A = true then 1 else 0)) = V := ⟨_, rfl⟩
  obtain ⟨V, hV⟩ := hV
  rw [hV]
  have HV : Hid _ := hV
  clear hV
  unfold rdV at hgr ⊢
  unfold fmtV at hgr ⊢
  generalize awF m = F at *
  have b3 := below_three w (.cells #[.int .i64 64, .int .i64 52, .int .i64 (-1074), .int .u64 9223372036854775808, .int .u64 9218868437227405312] 75) (.cells #[.func (.func F) #[] #[]] 83) (.cells #[.int .u64 ah, .int .u64 al] 50)
  have b4 := (b3.alloc (by simp; omega) (.cells #[.int .u64 ah, .int .u64 al] 50)).drew
  clear b3
  go_enter Tryd.func44, Tryd.ntmps44
  go_upto_region 1 with fail
  go_region_held3 (fun w' => w'.cell? ⟨w.heap.size, 0, none⟩ = some (.int .i64 64) ∧ w'.cell? ⟨w.heap.size, 1, none⟩ = some (.int .i64 52) ∧ w'.cell? ⟨w.heap.size, 2, none⟩ = some (.int .i64 (-1074)) ∧ w'.cell? ⟨w.heap.size + 1 + 1, 0, none⟩ = some (.int .u64 ah) ∧ w'.cell? ⟨w.heap.size + 1 + 1, 1, none⟩ = some (.int .u64 al))
      (simp [go_sem, World.cell?_alloc_past])
      ((go_at_call 21; refine (hlen _).mono ?_; rintro e w1 ⟨rfl, rfl⟩))
  by_cases c1 : 2047 ≤ last - (-1074)
  · have v := HV.out
    rw [if_pos (by cases A <;> simp <;> omega)] at v
    subst v
    go_wp2_with fail
    refine (hgr _).mono ?_
    rintro e w1 ⟨rfl, hb1⟩
    replace b4 := below_call b4 hb1
    go_wp2_with fail
    go_ret
    exact ⟨rfl, b4⟩
  · go_wp2_with fail
    refine (hcut _).mono ?_
    rintro e w1 ⟨rfl, hb1⟩
    obtain ⟨hc, hf⟩ := bcell hb1
    have y0 : w1.cell? ⟨w.heap.size, 0, none⟩ = some (.int .i64 64) := by rw [hc _ _ (by simp; omega)]; simp [go_sem]
    have y1 : w1.cell? ⟨w.heap.size, 1, none⟩ = some (.int .i64 52) := by rw [hc _ _ (by simp; omega)]; simp [go_sem]
    have y2 : w1.cell? ⟨w.heap.size, 2, none⟩ = some (.int .i64 (-1074)) := by rw [hc _ _ (by simp; omega)]; simp [go_sem]
    have y3 : w1.cell? ⟨w.heap.size, 3, none⟩ = some (.int .u64 9223372036854775808) := by rw [hc _ _ (by simp; omega)]; simp [go_sem]
    have y4 : w1.cell? ⟨w.heap.size, 4, none⟩ = some (.int .u64 9218868437227405312) := by rw [hc _ _ (by simp; omega)]; simp [go_sem]
    have r0 : w1.cell? ⟨w.heap.size + 1, 0, none⟩ = some (.func (.func F) #[] #[]) := by rw [hc _ _ (by simp)]; simp [go_sem]
    replace b4 := below_call b4 hb1
    clear hc hf hb1 hcut hlen
    cases A
    · have c3 : 9218868437227405312 ≤ (last - (-1074)) * 4503599627370496 + (t) ∨ ¬ 9218868437227405312 ≤ (last - (-1074)) * 4503599627370496 + (t) := by omega
      have v := HV.out
      simp only [Bool.false_eq_true, if_false, Int.add_zero] at v
      rcases c3 with c2 | c2
      · rw [if_pos c2] at v
        subst v
        go_wp2_with (first | (go_at_fn F; refine (haw _).mono ?_; rintro e w2 ⟨rfl, rfl⟩) | (go_at_call 57; refine (hgr _).mono ?_; rintro e w3 ⟨rfl, hb3⟩))
        go_ret
        exact ⟨rfl, below_call b4 hb3⟩
      · rw [if_neg c2] at v
        subst v
        go_wp2_with (go_at_fn F; refine (haw _).mono ?_; rintro e w2 ⟨rfl, rfl⟩)
        go_ret
        exact ⟨by first | rfl | (simp [go_sem]; omega), b4⟩
    · have c3 : 9218868437227405312 ≤ (last - (-1074)) * 4503599627370496 + (t + 1) ∨ ¬ 9218868437227405312 ≤ (last - (-1074)) * 4503599627370496 + (t + 1) := by omega
      have v := HV.out
      simp only [if_true] at v
      rcases c3 with c2 | c2
      · rw [if_pos c2] at v
        subst v
        go_wp2_with (first | (go_at_fn F; refine (haw _).mono ?_; rintro e w2 ⟨rfl, rfl⟩) | (go_at_call 57; refine (hgr _).mono ?_; rintro e w3 ⟨rfl, hb3⟩))
        go_ret
        exact ⟨rfl, below_call b4 hb3⟩
      · rw [if_neg c2] at v
        subst v
        go_wp2_with (go_at_fn F; refine (haw _).mono ?_; rintro e w2 ⟨rfl, rfl⟩)
        go_ret
        exact ⟨by first | rfl | (simp [go_sem]; omega), b4⟩
theorem mag_eqS (m : Int) (b : Bool) (N : Nat) (e last : Int) (hl : lastOf true N e = last) :
    mag true m b N e = (if 2139095040 ≤ (last - (-149)) * 8388608 + ((quo N (last - e) + if away m b (quo N (last - e) % 2 == 1) (half N (last - e)) (low N (last - e)) then 1 else 0 : Nat) : Int) then great true m b
      else (last - (-149)) * 8388608 + ((quo N (last - e) + if away m b (quo N (last - e) % 2 == 1) (half N (last - e)) (low N (last - e)) then 1 else 0 : Nat) : Int)) := by
  subst hl; rfl
theorem last_eqS {N : Nat} (n0 : N ≠ 0) (e n : Int) (hn : (blen N : Int) = n) (hn2 : n ≤ 128) : ∃ last : Int, max (n - 24 + e) (-149) = last ∧ lastOf true N e = last ∧ (-149) ≤ last ∧ n - 24 + e ≤ last ∧ (last = (-149) ∨ last = n - 24 + e) ∧ quo N (last - e) < 16777216 := by
  refine ⟨_, rfl, ?_, by omega, by omega, by omega, ?_⟩
  · unfold lastOf; rw [hn]; rfl
  · have := kept true n0 e (min e (-149)) (by omega) (by show min e (-149) ≤ (-149); omega)
    obtain ⟨x, _, q, _⟩ := this
    have t : lastOf true N e = max (n - 24 + e) (-149) := by unfold lastOf; rw [hn]; rfl
    rw [t] at q
    exact q
set_option maxRecDepth 8000 in
set_option maxHeartbeats 3200000 in
theorem size_s (m : Int) (b : Bool) (ah al e : Int) (h1 : Word ah) (h2 : Word al) (n0 : nn ah al ≠ 0) (e1 : -4010 ≤ e) (e2 : e ≤ 4010) (w : World) :
    Calls Tryd.prog 44 #[fmtV true, rdV m, .bool b, .agg #[.int .u64 ah, .int .u64 al], .int .i64 e] w fun r w' => r = .returned (.int .u64 (mag true m b (nn ah al) e)) ∧ Below w.heap.size w w' := by
  have hlen := len_ex ah al h1 h2
  have hn2 := blen_128 h1 h2
  have hn1 := (blen_le n0).2
  have hn : ∃ n : Int, (blen (nn ah al) : Int) = n := ⟨_, rfl⟩
  obtain ⟨n, hn⟩ := hn
  obtain ⟨last, hM, hL, l1, l2, l3, hq⟩ := last_eqS n0 e n hn (by omega)
  rw [mag_eqS m b _ e last hL]
  have hcut := cut_any ah al (last - e) h1 h2 (by omega) (by omega) (by omega)
  have hgr := tooGreat_any true m b
  have haw := away_any m b (quo (nn ah al) (last - e) % 2 == 1) (half (nn ah al) (last - e)) (low (nn ah al) (last - e))
  have hE := awF_enters m
  have hO : ((bits BinOp.and IntKind.u64 ((quo (nn ah al) (last - e) : Nat) : Int) 1) == 1) = (quo (nn ah al) (last - e) % 2 == 1) := and_odd _ (by omega)
  rw [hn] at hlen
  have n1 : 1 ≤ n := by omega
  have n2 : n ≤ 128 := by omega
  generalize (quo (nn ah al) (last - e) % 2 == 1) = O at *
  generalize rc (half (nn ah al) (last - e)) (low (nn ah al) (last - e)) = R at *
  generalize away m b O (half (nn ah al) (last - e)) (low (nn ah al) (last - e)) = A at *
  have cast : ((quo (nn ah al) (last - e) + if A = true then 1 else 0 : Nat) : Int) = ((quo (nn ah al) (last - e) : Nat) : Int) + (if A = true then 1 else 0) := by cases A <;> simp
  rw [cast]
  have t0 : (0 : Int) ≤ ((quo (nn ah al) (last - e) : Nat) : Int) := Int.natCast_nonneg _
  have t1 : ((quo (nn ah al) (last - e) : Nat) : Int) < 16777216 := by omega
  generalize ((quo (nn ah al) (last - e) : Nat) : Int) = t at *
  generalize great true m b = G at *
  clear hn hn1 hn2 hL hq cast l3 n0 h1 h2
  have hV : ∃ V : Int, (if 2139095040 ≤ (last - (-149)) * 8388608 + (t + if A = true then 1 else 0) then G else (last - (-149)) * 8388608 + (t + if A = true then 1 else 0)) = V := ⟨_, rfl⟩
  obtain ⟨V, hV⟩ := hV
  rw [hV]
  have HV : Hid _ := hV
  clear hV
  unfold rdV at hgr ⊢
  unfold fmtV at hgr ⊢
  generalize awF m = F at *
  have b3 := below_three w (.cells #[.int .i64 32, .int .i64 23, .int .i64 (-149), .int .u64 2147483648, .int .u64 2139095040] 75) (.cells #[.func (.func F) #[] #[]] 83) (.cells #[.int .u64 ah, .int .u64 al] 50)
  have b4 := (b3.alloc (by simp; omega) (.cells #[.int .u64 ah, .int .u64 al] 50)).drew
  clear b3
  go_enter Tryd.func44, Tryd.ntmps44
  go_upto_region 1 with fail
  go_region_held3 (fun w' => w'.cell? ⟨w.heap.size, 0, none⟩ = some (.int .i64 32) ∧ w'.cell? ⟨w.heap.size, 1, none⟩ = some (.int .i64 23) ∧ w'.cell? ⟨w.heap.size, 2, none⟩ = some (.int .i64 (-149)) ∧ w'.cell? ⟨w.heap.size + 1 + 1, 0, none⟩ = some (.int .u64 ah) ∧ w'.cell? ⟨w.heap.size + 1 + 1, 1, none⟩ = some (.int .u64 al))
      (simp [go_sem, World.cell?_alloc_past])
      ((go_at_call 21; refine (hlen _).mono ?_; rintro e w1 ⟨rfl, rfl⟩))
  by_cases c1 : 255 ≤ last - (-149)
  · have v := HV.out
    rw [if_pos (by cases A <;> simp <;> omega)] at v
    subst v
    go_wp2_with fail
    refine (hgr _).mono ?_
    rintro e w1 ⟨rfl, hb1⟩
    replace b4 := below_call b4 hb1
    go_wp2_with fail
    go_ret
    exact ⟨rfl, b4⟩
  · go_wp2_with fail
    refine (hcut _).mono ?_
    rintro e w1 ⟨rfl, hb1⟩
    obtain ⟨hc, hf⟩ := bcell hb1
    have y0 : w1.cell? ⟨w.heap.size, 0, none⟩ = some (.int .i64 32) := by rw [hc _ _ (by simp; omega)]; simp [go_sem]
    have y1 : w1.cell? ⟨w.heap.size, 1, none⟩ = some (.int .i64 23) := by rw [hc _ _ (by simp; omega)]; simp [go_sem]
    have y2 : w1.cell? ⟨w.heap.size, 2, none⟩ = some (.int .i64 (-149)) := by rw [hc _ _ (by simp; omega)]; simp [go_sem]
    have y3 : w1.cell? ⟨w.heap.size, 3, none⟩ = some (.int .u64 2147483648) := by rw [hc _ _ (by simp; omega)]; simp [go_sem]
    have y4 : w1.cell? ⟨w.heap.size, 4, none⟩ = some (.int .u64 2139095040) := by rw [hc _ _ (by simp; omega)]; simp [go_sem]
    have r0 : w1.cell? ⟨w.heap.size + 1, 0, none⟩ = some (.func (.func F) #[] #[]) := by rw [hc _ _ (by simp)]; simp [go_sem]
    replace b4 := below_call b4 hb1
    clear hc hf hb1 hcut hlen
    cases A
    · have c3 : 2139095040 ≤ (last - (-149)) * 8388608 + (t) ∨ ¬ 2139095040 ≤ (last - (-149)) * 8388608 + (t) := by omega
      have v := HV.out
      simp only [Bool.false_eq_true, if_false, Int.add_zero] at v
      rcases c3 with c2 | c2
      · rw [if_pos c2] at v
        subst v
        go_wp2_with (first | (go_at_fn F; refine (haw _).mono ?_; rintro e w2 ⟨rfl, rfl⟩) | (go_at_call 57; refine (hgr _).mono ?_; rintro e w3 ⟨rfl, hb3⟩))
        go_ret
        exact ⟨rfl, below_call b4 hb3⟩
      · rw [if_neg c2] at v
        subst v
        go_wp2_with (go_at_fn F; refine (haw _).mono ?_; rintro e w2 ⟨rfl, rfl⟩)
        go_ret
        exact ⟨by first | rfl | (simp [go_sem]; omega), b4⟩
    · have c3 : 2139095040 ≤ (last - (-149)) * 8388608 + (t + 1) ∨ ¬ 2139095040 ≤ (last - (-149)) * 8388608 + (t + 1) := by omega
      have v := HV.out
      simp only [if_true] at v
      rcases c3 with c2 | c2
      · rw [if_pos c2] at v
        subst v
        go_wp2_with (first | (go_at_fn F; refine (haw _).mono ?_; rintro e w2 ⟨rfl, rfl⟩) | (go_at_call 57; refine (hgr _).mono ?_; rintro e w3 ⟨rfl, hb3⟩))
        go_ret
        exact ⟨rfl, below_call b4 hb3⟩
      · rw [if_neg c2] at v
        subst v
        go_wp2_with (go_at_fn F; refine (haw _).mono ?_; rintro e w2 ⟨rfl, rfl⟩)
        go_ret
        exact ⟨by first | rfl | (simp [go_sem]; omega), b4⟩
end Go.Proofs.YtlmcopeongkppaaDoor

namespace Go.Proofs.YtlmcopeongkppaaDoor
open Go.RowKit
set_option linter.unusedVariables false
set_option linter.unusedSimpArgs false
def fW (s : Bool) : Int := if s then 32 else 64
def fQ (s : Bool) : Int := if s then 23 else 52
theorem fmtV_eq (s : Bool) : fmtV s = .agg #[.int .i64 (fW s), .int .i64 (fQ s), .int .i64 (fL s), .int .u64 (fS s), .int .u64 (fI s)] := by cases s <;> rfl
theorem fmtO_eq (s : Bool) : fmtO s = .cells #[.int .i64 (fW s), .int .i64 (fQ s), .int .i64 (fL s), .int .u64 (fS s), .int .u64 (fI s)] 75 := by cases s <;> rfl
theorem size_any (s : Bool) (m : Int) (b : Bool) (ah al e : Int) (h1 : Word ah) (h2 : Word al) (n0 : nn ah al ≠ 0) (e1 : -4010 ≤ e) (e2 : e ≤ 4010) (w : World) :
    Calls Tryd.prog 44 #[fmtV s, rdV m, .bool b, .agg #[.int .u64 ah, .int .u64 al], .int .i64 e] w fun r w' => r = .returned (.int .u64 (mag s m b (nn ah al) e)) ∧ Below w.heap.size w w' := by
  cases s
  · exact size_d m b ah al e h1 h2 n0 e1 e2 w
  · exact size_s m b ah al e h1 h2 n0 e1 e2 w
def clamp (e : Int) : Int := min (max e (-4000)) 4000
theorem clamp_lo (e : Int) : -4000 ≤ clamp e := by unfold clamp; omega
theorem clamp_hi (e : Int) : clamp e ≤ 4000 := by unfold clamp; omega
theorem clamp_id {e : Int} (h : -4000 ≤ e) (h' : e ≤ 4000) : clamp e = e := by unfold clamp; omega
theorem fI_pos (s : Bool) : 0 ≤ fI s := by cases s <;> decide
theorem eq2_zero {h l : Int} (a : Word h) (b : Word l) : eq2 h l 0 0 = decide (nn h l = 0) := by
  rw [eq2_num a b word_zero word_zero, decide_eq_decide]
  have := nn_num a b
  have z : num 0 0 = 0 := rfl
  omega
/-- Cells of a format's block. -/
def FmtAt (w : World) (k : Nat) (s : Bool) : Prop := w.cell? ⟨k, 0, none⟩ = some (.int .i64 (fW s)) ∧ w.cell? ⟨k, 1, none⟩ = some (.int .i64 (fQ s)) ∧ w.cell? ⟨k, 2, none⟩ = some (.int .i64 (fL s)) ∧ w.cell? ⟨k, 3, none⟩ = some (.int .u64 (fS s)) ∧ w.cell? ⟨k, 4, none⟩ = some (.int .u64 (fI s))
theorem FmtAt.on {W w1 : World} {k : Nat} {s : Bool} (h : FmtAt W k s) (hb : Below W.heap.size W w1) : FmtAt w1 k s := by
  obtain ⟨a, b, c, d, e⟩ := h
  exact ⟨cell_on hb a, cell_on hb b, cell_on hb c, cell_on hb d, cell_on hb e⟩
theorem FmtAt.past {W : World} {k : Nat} {s : Bool} (h : FmtAt W k s) (o : Obj) : FmtAt (W.alloc o) k s := by
  obtain ⟨a, b, c, d, e⟩ := h
  exact ⟨cell_past a o, cell_past b o, cell_past c o, cell_past d o, cell_past e o⟩
theorem FmtAt.new (W : World) (s : Bool) : FmtAt (W.alloc (fmtO s)) W.heap.size s := by
  rw [fmtO_eq]
  unfold FmtAt
  simp [go_sem]
theorem FmtAt.drew {W : World} {k : Nat} {s : Bool} (h : FmtAt W k s) : FmtAt W.drew k s := h
theorem FmtAt.lt {W : World} {k : Nat} {s : Bool} (h : FmtAt W k s) : k < W.heap.size := lt_new h.1
theorem frozen_past {w1 : World} {b o : Nat} (h : b < w1.heap.size) (f : w1.frozen? ⟨b, o, none⟩ = false) (x : Obj) : (w1.alloc x).frozen? ⟨b, o, none⟩ = false :=
  ((bcell ((Below.refl w1.heap.size w1).alloc (Nat.le_refl _) x)).2 _ _ h).trans f
theorem set2_cell {w : World} {b c o : Nat} {u : Value} (x y : Value) (h : b ≠ c) (c0 : w.cell? ⟨c, o, none⟩ = some u) :
    ((w.setCell ⟨b, 0, none⟩ x).setCell ⟨b, 1, none⟩ y).cell? ⟨c, o, none⟩ = some u :=
  (World.cell?_setCell_other _ _ _ _ (by simp [h])).trans ((World.cell?_setCell_other _ _ _ _ (by simp [h])).trans c0)
set_option maxRecDepth 8000 in
set_option maxHeartbeats 3200000 in
theorem round_any (f m : Int) (b : Bool) (ah al e : Int) (more : Bool) (h1 : Word ah) (h2 : Word al) (e1 : -9223372036854775808 ≤ e) (e2 : e ≤ 9223372036854775807) (w : World) :
    Calls Tryd.prog 24 #[.int .i64 f, .int .i64 m, .bool b, .agg #[.int .u64 ah, .int .u64 al], .int .i64 e, .bool more] w fun r w' => r = .returned (.int .u64 (rndQ (f == 1) m b (nn ah al) (clamp e) more)) ∧ Below w.heap.size w w' := by
  have hq := eql_u128
  have hfo := formatOf_any f
  generalize (f == 1) = s at *
  have hsg0 := signed_any s b 0 (Int.le_refl 0) (fI_pos s)
  have hV : ∃ V : Int, rndQ s m b (nn ah al) (clamp e) more = V := ⟨_, rfl⟩
  obtain ⟨V, hV⟩ := hV
  rw [hV]
  have HV : Hid _ := hV
  clear hV
  have hcl : min (max e (-4000)) 4000 = clamp e := rfl
  have hc1 := clamp_lo e
  have hc2 := clamp_hi e
  have hwq := withQuarter_any ah al (clamp e) h1 h2 hc1 hc2
  generalize clamp e = x at *
  rw [fmtV_eq] at hfo
  have L := (Below.refl w.heap.size w).alloc (Nat.le_refl _) (.cells #[.int .u64 ah, .int .u64 al] 50)
  go_enter Tryd.func24, Tryd.ntmps24
  go_wp2_with fail
  refine (hfo _).mono ?_
  rintro r w1 ⟨rfl, hb1⟩
  have c0 := cell_on hb1 (cell_new0 w (.int .u64 ah) (.int .u64 al) 50)
  have c1 := cell_on hb1 (cell_new1 w (.int .u64 ah) (.int .u64 al) 50)
  have f0 : w1.frozen? ⟨w.heap.size, 0, none⟩ = false := by rw [(bcell hb1).2 _ _ (by simp)]; simp [go_sem]
  have f1 : w1.frozen? ⟨w.heap.size, 1, none⟩ = false := by rw [(bcell hb1).2 _ _ (by simp)]; simp [go_sem]
  have z0 := lt_new c0
  replace L := below_call L hb1
  obtain ⟨y0, y1, y2, y3, y4⟩ := FmtAt.new w1 s
  replace L := below_new L (fmtO s)
  replace c0 := cell_past c0 (fmtO s); replace c1 := cell_past c1 (fmtO s)
  rw [fmtO_eq] at y0 y1 y2 y3 y4 L c0 c1
  rw [fmtV_eq] at hsg0
  cases more
  · rw [rndQ_false] at HV
    by_cases c : nn ah al = 0
    · have hz : eq2 ah al 0 0 = true := by rw [eq2_zero h1 h2]; simp [c]
      have v := HV.out
      rw [c, rnd_zero] at v
      subst v
      go_wp2_with fail
      refine (hsg0 _).mono ?_
      rintro r w' ⟨rfl, rfl⟩
      go_wp2_with fail
      go_ret
      exact ⟨rfl, below_new L _⟩
    · have hz : eq2 ah al 0 0 = false := by rw [eq2_zero h1 h2]; simp [c]
      have v := HV.out
      obtain ⟨g, hg, hg2⟩ := mag_any s m b c x
      have hsz := size_any s m b ah al x h1 h2 c (by omega) (by omega)
      unfold rnd at v
      rw [if_neg c, hg] at v
      rw [hg, fmtV_eq] at hsz
      have hsg := signed_any s b g (Int.natCast_nonneg g) hg2
      rw [v, fmtV_eq] at hsg
      have hrd := roundingOf_any m
      unfold rdV at hsz hrd
      generalize (g : Int) = G at *
      clear v HV hsg0 hg hg2
      go_wp2_with fail
      go_region_held3 (fun w' => w'.cell? ⟨w1.heap.size, 0, none⟩ = some (.int .i64 (fW s)) ∧ w'.cell? ⟨w1.heap.size, 1, none⟩ = some (.int .i64 (fQ s)) ∧ w'.cell? ⟨w1.heap.size, 2, none⟩ = some (.int .i64 (fL s)) ∧ w'.cell? ⟨w1.heap.size, 3, none⟩ = some (.int .u64 (fS s)) ∧ w'.cell? ⟨w1.heap.size, 4, none⟩ = some (.int .u64 (fI s)) ∧ w'.cell? ⟨w.heap.size, 0, none⟩ = some (.int .u64 ah) ∧ w'.cell? ⟨w.heap.size, 1, none⟩ = some (.int .u64 al))
        (first | exact ⟨y0, y1, y2, y3, y4, c0, c1⟩ | (simp [go_sem, *]; done))
        (first
          | (go_at_call 45; refine (hrd _).mono ?_; rintro r w2 ⟨rfl, rfl⟩; replace y0 := cell_past y0 (rdO m); replace y1 := cell_past y1 (rdO m); replace y2 := cell_past y2 (rdO m); replace y3 := cell_past y3 (rdO m); replace y4 := cell_past y4 (rdO m); replace c0 := cell_past c0 (rdO m); replace c1 := cell_past c1 (rdO m); replace L := below_new L.drew (rdO m))
          | (go_at_call 44; refine (hsz _).mono ?_; rintro r w3 ⟨rfl, hb3⟩; replace y0 := cell_on hb3 y0; replace y1 := cell_on hb3 y1; replace y2 := cell_on hb3 y2; replace y3 := cell_on hb3 y3; replace y4 := cell_on hb3 y4; replace c0 := cell_on hb3 c0; replace c1 := cell_on hb3 c1; replace L := below_call L hb3)
          | (go_at_call 43; refine (hsg _).mono ?_; rintro r w4 ⟨rfl, rfl⟩; replace y0 := cell_past y0 (fmtO s); replace y1 := cell_past y1 (fmtO s); replace y2 := cell_past y2 (fmtO s); replace y3 := cell_past y3 (fmtO s); replace y4 := cell_past y4 (fmtO s); replace c0 := cell_past c0 (fmtO s); replace c1 := cell_past c1 (fmtO s); replace L := below_new L (fmtO s)))
      go_wp2_with fail
      go_ret
      exact ⟨rfl, L⟩
  · go_wp2_with fail
    refine (hwq _).mono ?_
    rintro r w2 ⟨h, l, x', rfl, wh, wl, x1, x2, N0, RQ, hb2⟩
    have g0 : w2.frozen? ⟨w.heap.size, 0, none⟩ = false := by exact ((bcell hb2).2 _ _ (by simp; omega)).trans (frozen_past z0 f0 _)
    have g1 : w2.frozen? ⟨w.heap.size, 1, none⟩ = false := by exact ((bcell hb2).2 _ _ (by simp; omega)).trans (frozen_past z0 f1 _)
    replace y0 := cell_on hb2 y0; replace y1 := cell_on hb2 y1; replace y2 := cell_on hb2 y2; replace y3 := cell_on hb2 y3; replace y4 := cell_on hb2 y4; replace c0 := cell_on hb2 c0; replace c1 := cell_on hb2 c1
    replace L := below_call L hb2
    have HV2 : Hid _ := (RQ.out s m b).trans HV.out
    clear HV RQ N0 hwq hb2 f0 f1 hb1 hfo
    go_upto_region 5 with fail
    obtain ⟨q0, q1⟩ := set2_in (w := w2) (b := w.heap.size) (.int .u64 h) (.int .u64 l) c0 c1
    have q2 := set2_cell (w := w2) (b := w.heap.size) (.int .u64 h) (.int .u64 l) (by omega) y0
    have q3 := set2_cell (w := w2) (b := w.heap.size) (.int .u64 h) (.int .u64 l) (by omega) y1
    have q4 := set2_cell (w := w2) (b := w.heap.size) (.int .u64 h) (.int .u64 l) (by omega) y2
    have q5 := set2_cell (w := w2) (b := w.heap.size) (.int .u64 h) (.int .u64 l) (by omega) y3
    have q6 := set2_cell (w := w2) (b := w.heap.size) (.int .u64 h) (.int .u64 l) (by omega) y4
    have q7 : Below w.heap.size w ((w2.setCell ⟨w.heap.size, 0, none⟩ (.int .u64 h)).setCell ⟨w.heap.size, 1, none⟩ (.int .u64 l)) := (L.setCell (Nat.le_refl _) _).setCell (Nat.le_refl _) _
    generalize (w2.setCell ⟨w.heap.size, 0, none⟩ (.int .u64 h)).setCell ⟨w.heap.size, 1, none⟩ (.int .u64 l) = W at *
    clear c0 c1 y0 y1 y2 y3 y4 g0 g1 L
    have c0 := q0; have c1 := q1; have y0 := q2; have y1 := q3; have y2 := q4; have y3 := q5; have y4 := q6; have L := q7
    clear q0 q1 q2 q3 q4 q5 q6 q7
    have HV := HV2
    clear HV2
    by_cases c : nn h l = 0
    · have hz : eq2 h l 0 0 = true := by rw [eq2_zero wh wl]; simp [c]
      have v := HV.out
      rw [c, rnd_zero] at v
      subst v
      go_wp2_with fail
      refine (hsg0 _).mono ?_
      rintro r w' ⟨rfl, rfl⟩
      go_wp2_with fail
      go_ret
      exact ⟨rfl, below_new L _⟩
    · have hz : eq2 h l 0 0 = false := by rw [eq2_zero wh wl]; simp [c]
      have v := HV.out
      obtain ⟨g, hg, hg2⟩ := mag_any s m b c x'
      have hsz := size_any s m b h l x' wh wl c (by omega) (by omega)
      unfold rnd at v
      rw [if_neg c, hg] at v
      rw [hg, fmtV_eq] at hsz
      have hsg := signed_any s b g (Int.natCast_nonneg g) hg2
      rw [v, fmtV_eq] at hsg
      have hrd := roundingOf_any m
      unfold rdV at hsz hrd
      generalize (g : Int) = G at *
      clear v HV hsg0 hg hg2
      go_wp2_with fail
      go_region_held3 (fun w' => w'.cell? ⟨w1.heap.size, 0, none⟩ = some (.int .i64 (fW s)) ∧ w'.cell? ⟨w1.heap.size, 1, none⟩ = some (.int .i64 (fQ s)) ∧ w'.cell? ⟨w1.heap.size, 2, none⟩ = some (.int .i64 (fL s)) ∧ w'.cell? ⟨w1.heap.size, 3, none⟩ = some (.int .u64 (fS s)) ∧ w'.cell? ⟨w1.heap.size, 4, none⟩ = some (.int .u64 (fI s)) ∧ w'.cell? ⟨w.heap.size, 0, none⟩ = some (.int .u64 h) ∧ w'.cell? ⟨w.heap.size, 1, none⟩ = some (.int .u64 l))
        (first | exact ⟨y0, y1, y2, y3, y4, c0, c1⟩ | (simp [go_sem, *]; done))
        (first
          | (go_at_call 45; refine (hrd _).mono ?_; rintro r w2 ⟨rfl, rfl⟩; replace y0 := cell_past y0 (rdO m); replace y1 := cell_past y1 (rdO m); replace y2 := cell_past y2 (rdO m); replace y3 := cell_past y3 (rdO m); replace y4 := cell_past y4 (rdO m); replace c0 := cell_past c0 (rdO m); replace c1 := cell_past c1 (rdO m); replace L := below_new L.drew (rdO m))
          | (go_at_call 44; refine (hsz _).mono ?_; rintro r w3 ⟨rfl, hb3⟩; replace y0 := cell_on hb3 y0; replace y1 := cell_on hb3 y1; replace y2 := cell_on hb3 y2; replace y3 := cell_on hb3 y3; replace y4 := cell_on hb3 y4; replace c0 := cell_on hb3 c0; replace c1 := cell_on hb3 c1; replace L := below_call L hb3)
          | (go_at_call 43; refine (hsg _).mono ?_; rintro r w4 ⟨rfl, rfl⟩; replace y0 := cell_past y0 (fmtO s); replace y1 := cell_past y1 (fmtO s); replace y2 := cell_past y2 (fmtO s); replace y3 := cell_past y3 (fmtO s); replace y4 := cell_past y4 (fmtO s); replace c0 := cell_past c0 (fmtO s); replace c1 := cell_past c1 (fmtO s); replace L := below_new L (fmtO s)))
      go_wp2_with fail
      go_ret
      exact ⟨rfl, L⟩
end Go.Proofs.YtlmcopeongkppaaDoor

namespace Go.Proofs.YtlmcopeongkppaaDoor
open Go.RowKit
set_option linter.unusedVariables false
set_option linter.unusedSimpArgs false
/-- The whole number and the power of a finite float. -/
def Fin (s : Bool) (u p : Int) : Prop := 0 ≤ u ∧ u < 2 ^ (fP s + 1) ∧ fL s ≤ p ∧ p ≤ 2000 ∧ (fL s < p → 2 ^ fP s ≤ u)
theorem Fin.word {s : Bool} {u p : Int} (h : Fin s u p) : Word u := by
  obtain ⟨a, b, _⟩ := h
  cases s
  · exact ⟨a, Int.lt_trans b (by decide)⟩
  · exact ⟨a, Int.lt_trans b (by decide)⟩
theorem Fin.lt53 {s : Bool} {u p : Int} (h : Fin s u p) : u < 9007199254740992 := by
  obtain ⟨a, b, _⟩ := h
  cases s
  · exact b
  · exact Int.lt_trans b (by decide)
theorem Fin.low {s : Bool} {u p : Int} (h : Fin s u p) : -1074 ≤ p := by
  obtain ⟨_, _, c, _⟩ := h
  cases s
  · exact c
  · exact Int.le_trans (by decide) c
theorem Fin.nat {s : Bool} {u p : Int} (h : Fin s u p) : u.toNat < 2 ^ (fP s + 1) ∧ (fL s < p → 2 ^ fP s ≤ u.toNat) := by
  obtain ⟨a, b, c, d, e⟩ := h
  refine ⟨?_, fun g => ?_⟩
  · rw [pow_cast] at b; omega
  · have := e g; rw [pow_cast] at this; omega
theorem nn_low (u : Int) (h : Word u) : nn 0 u = u.toNat := by unfold nn num; congr 1; omega
/-- Moved up by at most 70 bits. -/
theorem up70 {u h l d : Int} (hu : 0 ≤ u) (hu2 : u < 9007199254740992) (d0 : 0 ≤ d) (d1 : d ≤ 70) (wh : Word h) (wl : Word l)
    (E : num h l = num 0 u * 2 ^ d.toNat % 340282366920938463463374607431768211456) : nn h l = u.toNat * 2 ^ d.toNat ∧ num h l < 2 ^ 123 := by
  have e := nn_num wh wl
  have p : 2 ^ d.toNat ≤ 2 ^ 70 := Nat.pow_le_pow_right (by decide) (by omega)
  obtain ⟨n, rfl⟩ := Int.eq_ofNat_of_zero_le hu
  have z : num 0 (n : Int) = (n : Int) := by unfold num; omega
  rw [z, pow_cast, ← Int.natCast_mul] at E
  have q : n * 2 ^ d.toNat < 2 ^ 53 * 2 ^ 70 := Nat.mul_lt_mul_of_lt_of_le (by omega) p (by decide)
  rw [Int.toNat_natCast]
  generalize n * 2 ^ d.toNat = M at *
  have : (2 : Int) ^ 123 = ((2 ^ 123 : Nat) : Int) := by simp
  omega
theorem sub_nat {ah al bh bl sh sl : Int} (w1 : Word ah) (w2 : Word al) (w3 : Word bh) (w4 : Word bl) (w5 : Word sh) (w6 : Word sl) (E : num sh sl = (num ah al - num bh bl) % 340282366920938463463374607431768211456) (h : nn bh bl ≤ nn ah al) :
    nn sh sl = nn ah al - nn bh bl := by
  have a := nn_num w1 w2
  have b := nn_num w3 w4
  have c := nn_num w5 w6
  have d := num_hi w1 w2
  omega
theorem ru_eq {a b : Int} (h : a = b) : Ending.returned (Value.int IntKind.u64 a) = .returned (.int .u64 b) := by rw [h]
end Go.Proofs.YtlmcopeongkppaaDoor

namespace Go.Proofs.YtlmcopeongkppaaDoor
open Go.RowKit
set_option linter.unusedVariables false
set_option linter.unusedSimpArgs false
theorem blen_word {u : Int} (h : Word u) (u0 : u ≠ 0) (u1 : u < 9007199254740992) : 1 ≤ blen (nn 0 u) ∧ blen (nn 0 u) ≤ 53 ∧ 2 ^ 127 ≤ u.toNat * 2 ^ (128 - blen (nn 0 u)) ∧ u.toNat * 2 ^ (128 - blen (nn 0 u)) < 2 ^ 128 := by
  rw [nn_low u h]
  have n0 : u.toNat ≠ 0 := by have := h.1; omega
  obtain ⟨a, b⟩ := blen_le n0
  have c := lt_blen u.toNat
  have d : blen u.toNat ≤ 53 := blen_le_of (by have := h.1; omega)
  refine ⟨b, d, ?_, ?_⟩
  · have : 2 ^ (blen u.toNat - 1) * 2 ^ (128 - blen u.toNat) ≤ u.toNat * 2 ^ (128 - blen u.toNat) := Nat.mul_le_mul_right _ a
    rw [← Nat.pow_add, show blen u.toNat - 1 + (128 - blen u.toNat) = 127 by omega] at this
    exact this
  · have : u.toNat * 2 ^ (128 - blen u.toNat) < 2 ^ blen u.toNat * 2 ^ (128 - blen u.toNat) := Nat.mul_lt_mul_of_pos_right c (Nat.two_pow_pos _)
    rw [← Nat.pow_add, show blen u.toNat + (128 - blen u.toNat) = 128 by omega] at this
    exact this
theorem blen_word2 {u : Int} (h : Word u) (u1 : u < 9007199254740992) : blen (nn 0 u) ≤ 53 ∧ (u ≠ 0 → 2 ^ 127 ≤ u.toNat * 2 ^ (128 - blen (nn 0 u))) ∧ u.toNat * 2 ^ (128 - blen (nn 0 u)) < 2 ^ 128 := by
  by_cases c : u = 0
  · subst c
    exact ⟨by decide, fun h => absurd rfl h, by decide⟩
  · obtain ⟨_, b, c, d⟩ := blen_word h c u1
    exact ⟨b, fun _ => c, d⟩
theorem quo_nat {u v sh sl qh ql r : Int} {up : Nat} (hu : Word u) (hv : Word v) (w1 : Word sh) (w2 : Word sl) (w3 : Word qh) (w4 : Word ql)
    (E : num sh sl = num 0 u * 2 ^ (up : Int).toNat % 340282366920938463463374607431768211456) (lt : u.toNat * 2 ^ up < 2 ^ 128)
    (E2 : num qh ql = num sh sl / v) (E3 : r = num sh sl % v) : nn qh ql = u.toNat * 2 ^ up / v.toNat ∧ (r != 0) = decide (u.toNat * 2 ^ up % v.toNat ≠ 0) := by
  have e1 := nn_num w1 w2
  have e2 := nn_num w3 w4
  obtain ⟨n, rfl⟩ := Int.eq_ofNat_of_zero_le hu.1
  obtain ⟨k, rfl⟩ := Int.eq_ofNat_of_zero_le hv.1
  have z : num 0 (n : Int) = (n : Int) := by unfold num; omega
  rw [z, pow_cast, Int.toNat_natCast, ← Int.natCast_mul] at E
  rw [Int.toNat_natCast, Int.toNat_natCast] at *
  generalize n * 2 ^ up = A at *
  have hA : num sh sl = (A : Int) := by omega
  rw [hA, ← Int.natCast_ediv, ← e2] at E2
  rw [hA, ← Int.natCast_emod] at E3
  refine ⟨by omega, ?_⟩
  rw [E3, Bool.eq_iff_iff, bne_iff_ne, decide_eq_true_iff]
  omega
theorem frozen_on {W w1 : World} (hb : Below W.heap.size W w1) {b o : Nat} {v : Value} (h : W.cell? ⟨b, o, none⟩ = some v) (f : W.frozen? ⟨b, o, none⟩ = false) : w1.frozen? ⟨b, o, none⟩ = false :=
  ((bcell hb).2 _ _ (lt_new h)).trans f
end Go.Proofs.YtlmcopeongkppaaDoor

namespace Go.Proofs.YtlmcopeongkppaaDoor
open Go.RowKit
set_option linter.unusedVariables false
set_option linter.unusedSimpArgs false
theorem below_dN {B : Nat} {a w : World} (h : Below B a w) (n : Nat) : Below B a (w.drewN n) := h.trans ⟨rfl, rfl, rfl, Nat.le_refl _, fun _ _ => rfl⟩
theorem below_four (w : World) (a b c d : Obj) (n : Nat) : Below w.heap.size w (((((w.alloc a).alloc b).alloc c).alloc d).drewN n) :=
  below_dN ((below_three w a b c).alloc (by simp; omega) d) n
theorem formatOf_ex (f : Int) (w : World) :
    Calls Tryd.prog 41 #[.int .i64 f] w fun e w' => e = .returned (fmtV (f == 1)) ∧ ∃ o1 o2, w' = ((w.alloc o1).alloc o2).drew := by
  by_cases c : f = 1
  · subst c
    go_enter Tryd.func41, Tryd.ntmps41
    go_wp2_with fail
    go_region
    go_wp2_with fail
    exact bodyPost_ret (v := fmtV true) (by simp [results, Tryd.results41, go_sem, fmtV]) rfl ⟨rfl, _, _, rfl⟩
  · have c' : (f == 1) = false := by simp [c]
    rw [c']
    go_enter Tryd.func41, Tryd.ntmps41
    go_wp2_with fail
    go_region
    go_wp2_with fail
    exact bodyPost_ret (v := fmtV false) (by simp [results, Tryd.results41, go_sem, fmtV]) rfl ⟨rfl, _, _, rfl⟩
theorem nan_ex (s : Bool) (w : World) : Calls Tryd.prog 47 #[fmtV s] w fun e w' => e = .returned (.int .u64 (fNan s)) ∧ w' = (w.alloc (fmtO s)).drew := by
  have o1 := or_nanD
  have o2 := or_nanS
  cases s
  · unfold fmtV fmtO
    go_enter Tryd.func47, Tryd.ntmps47
    go_wp2_with fail
    go_region
    go_wp2_with fail
    go_ret
    exact ⟨rfl, rfl⟩
  · unfold fmtV fmtO
    go_enter Tryd.func47, Tryd.ntmps47
    go_wp2_with fail
    go_region
    go_wp2_with fail
    go_ret
    exact ⟨rfl, rfl⟩
end Go.Proofs.YtlmcopeongkppaaDoor

namespace Go.Proofs.YtlmcopeongkppaaDoor
open Go.RowKit
set_option linter.unusedVariables false
set_option linter.unusedSimpArgs false
/-- Cells of a block with parts. -/
def PrtAt (w : World) (k : Nat) (c : Int) (g : Bool) (u p : Int) : Prop := w.cell? ⟨k, 0, none⟩ = some (.int .i64 c) ∧ w.cell? ⟨k, 1, none⟩ = some (.bool g) ∧ w.cell? ⟨k, 2, none⟩ = some (.int .u64 u) ∧ w.cell? ⟨k, 3, none⟩ = some (.int .i64 p)
theorem cell_dr {W : World} {a : Addr} {v : Value} (h : W.cell? a = some v) : W.drew.cell? a = some v := h
theorem cell_dN {W : World} {a : Addr} {v : Value} (h : W.cell? a = some v) (n : Nat) : (W.drewN n).cell? a = some v := h
/-- The product of two floats. -/
def mulF (s : Bool) (m a b : Int) : Int :=
  if (cls s a == 0 || cls s a == 5) || (cls s b == 0 || cls s b == 5) then fNan s
  else if (cls s a == 4 && cls s b == 1) || (cls s a == 1 && cls s b == 4) then fNan s
  else if cls s a == 4 || cls s b == 4 then sgnd s (sgn s a != sgn s b) (fI s)
  else rnd s m (sgn s a != sgn s b) ((whl s a).toNat * (whl s b).toNat) (pwr s a + pwr s b)
theorem fin_d (a : Int) (h : Word a) (z : zOf false a < 9218868437227405312) : Fin false (whl false a) (pwr false a) := by
  have e := zOf_double a h
  have q : (2 : Int) ^ fP false = 4503599627370496 := rfl
  have q1 : (2 : Int) ^ (fP false + 1) = 9007199254740992 := rfl
  have l : fL false = -1074 := rfl
  unfold Fin whl pwr
  rw [q, q1, l]
  generalize zOf false a = Z at *
  obtain ⟨a0, a1⟩ := h
  split <;> refine ⟨?_, ?_, ?_, ?_, ?_⟩ <;> omega
theorem fin_s (a : Int) (h : Word a) (w : a < 4294967296) (z : zOf true a < 2139095040) : Fin true (whl true a) (pwr true a) := by
  have e := zOf_single a h.1 w
  have q : (2 : Int) ^ fP true = 8388608 := rfl
  have q1 : (2 : Int) ^ (fP true + 1) = 16777216 := rfl
  have l : fL true = -149 := rfl
  unfold Fin whl pwr
  rw [q, q1, l]
  generalize zOf true a = Z at *
  obtain ⟨a0, a1⟩ := h
  split <;> refine ⟨?_, ?_, ?_, ?_, ?_⟩ <;> omega
theorem fin_of (s : Bool) (a : Int) (h : Word a) : (cls s a == 0 || cls s a == 5) = false → (cls s a == 4) = false → Fin s (whl s a) (pwr s a) ∧ ((cls s a == 1) = false → whl s a ≠ 0) := by
  intro c1 c2
  have k : ¬ cls s a = 0 ∧ ¬ cls s a = 5 ∧ ¬ cls s a = 4 := by
    simp only [Bool.or_eq_false_iff, beq_eq_false_iff_ne, ne_eq] at c1 c2
    exact ⟨c1.1, c1.2, c2⟩
  obtain ⟨k0, k5, k4⟩ := k
  unfold cls at k0 k5 k4
  have w : wideB s a = false := by
    cases t : wideB s a
    · rfl
    · rw [t] at k0; simp at k0
  rw [w] at k0 k5 k4
  simp only [Bool.false_eq_true, if_false] at k0 k5 k4
  have z1 : zOf s a ≤ fI s := by
    by_cases t : fI s < zOf s a
    · rw [if_pos t] at k5; exact absurd rfl k5
    · omega
  rw [if_neg (by omega)] at k4
  have z2 : zOf s a ≠ fI s := by
    intro t
    rw [if_pos t] at k4; exact absurd rfl k4
  cases s
  · have z3 : zOf false a < 9218868437227405312 := by have i : fI false = 9218868437227405312 := rfl; omega
    refine ⟨fin_d a h z3, fun c3 => ?_⟩
    have e := zOf_double a h
    have c4 : ¬ zOf false a = 0 := by
      intro t
      have : cls false a = 1 := by unfold cls; rw [w, if_neg (by decide), if_neg (by omega), if_neg z2, if_pos t]
      rw [this] at c3; simp at c3
    unfold whl
    have q : (2 : Int) ^ fP false = 4503599627370496 := rfl
    rw [q]
    split <;> omega
  · have a3 : a < 4294967296 := by unfold wideB at w; simp at w; exact w
    have z3 : zOf true a < 2139095040 := by have i : fI true = 2139095040 := rfl; omega
    refine ⟨fin_s a h a3 z3, fun c3 => ?_⟩
    have e := zOf_single a h.1 a3
    have c4 : ¬ zOf true a = 0 := by
      intro t
      have : cls true a = 1 := by unfold cls; rw [w, if_neg (by decide), if_neg (by omega), if_neg z2, if_pos t]
      rw [this] at c3; simp at c3
    unfold whl
    have q : (2 : Int) ^ fP true = 8388608 := rfl
    rw [q]
    split <;> omega
theorem wrap_id (x : Int) (h : -9223372036854775808 ≤ x) (h' : x ≤ 9223372036854775807) : IntKind.i64.wrap x = x := by rw [IntKind.wrap_i64]; omega
theorem nn_mul {u v h l : Int} (a : Word u) (b : Word v) (c : Word h) (d : Word l) (E : num h l = u * v) : nn h l = u.toNat * v.toNat := by
  have e := nn_num c d
  obtain ⟨x, rfl⟩ := Int.eq_ofNat_of_zero_le a.1
  obtain ⟨y, rfl⟩ := Int.eq_ofNat_of_zero_le b.1
  rw [Int.toNat_natCast, Int.toNat_natCast]
  rw [E, ← Int.natCast_mul] at e
  omega
theorem signed_two (s b : Bool) (z : Int) (h : z = 0 ∨ z = fI s) (w : World) :
    Calls Tryd.prog 43 #[fmtV s, .bool b, .int .u64 z] w fun e w' => e = .returned (.int .u64 (sgnd s b z)) ∧ w' = w.alloc (fmtO s) := by
  have := fI_pos s
  exact signed_any s b z (by omega) (by omega) w
/-- The quotient of two floats. -/
def divF (s : Bool) (m a b : Int) : Int :=
  if (cls s a == 0 || cls s a == 5) || (cls s b == 0 || cls s b == 5) then fNan s
  else if (cls s a == 4 && cls s b == 4) || (cls s a == 1 && cls s b == 1) then fNan s
  else if cls s a == 4 || cls s b == 1 then sgnd s (sgn s a != sgn s b) (fI s)
  else if cls s b == 4 then sgnd s (sgn s a != sgn s b) 0
  else divT s m (sgn s a != sgn s b) (whl s a).toNat (pwr s a) (whl s b).toNat (pwr s b)
/-- The sum of two floats. -/
def addF (s : Bool) (m a b : Int) : Int :=
  if (cls s a == 0 || cls s a == 5) || (cls s b == 0 || cls s b == 5) then fNan s
  else if cls s a == 4 && cls s b == 4 && (sgn s a != sgn s b) then fNan s
  else if cls s a == 4 then a
  else if cls s b == 4 then b
  else sumT s m (sgn s a) (whl s a).toNat (pwr s a) (sgn s b) (whl s b).toNat (pwr s b)
end Go.Proofs.YtlmcopeongkppaaDoor

namespace Go.Proofs.YtlmcopeongkppaaDoor
open Go.RowKit
set_option linter.unusedVariables false
set_option linter.unusedSimpArgs false
end Go.Proofs.YtlmcopeongkppaaDoor

namespace Go.Proofs.YtlmcopeongkppaaDoor
open Go.RowKit
set_option linter.unusedVariables false
set_option linter.unusedSimpArgs false
end Go.Proofs.YtlmcopeongkppaaDoor

namespace Go.Proofs.YtlmcopeongkppaaDoor
open Go.RowKit
set_option linter.unusedVariables false
set_option linter.unusedSimpArgs false
end Go.Proofs.YtlmcopeongkppaaDoor

namespace Go.Proofs.YtlmcopeongkppaaDoor
open Go.RowKit
set_option linter.unusedVariables false
set_option linter.unusedSimpArgs false
/-- A float with the other sign. -/
def negF (s : Bool) (a : Int) : Int := if cls s a == 0 || cls s a == 5 then fNan s else bits BinOp.xor IntKind.u64 a (fS s)
theorem fS_nat (s : Bool) : ∃ n : Nat, fS s = (n : Int) ∧ n < 18446744073709551616 := by
  cases s
  · exact ⟨9223372036854775808, rfl, by decide⟩
  · exact ⟨2147483648, rfl, by decide⟩
theorem xor_word (s : Bool) (a : Int) (h : Word a) : Word (bits BinOp.xor IntKind.u64 a (fS s)) := by
  obtain ⟨x, rfl⟩ := Int.eq_ofNat_of_zero_le h.1
  obtain ⟨n, e, l⟩ := fS_nat s
  have hx := h.2
  rw [e, u64_xor_nat x n (by omega) l]
  have : x ^^^ n < 2 ^ 64 := Nat.xor_lt_two_pow (by omega) (by omega)
  exact ⟨by omega, by omega⟩
theorem negF_word (s : Bool) (a : Int) (h : Word a) : Word (negF s a) := by
  unfold negF
  split
  · cases s <;> exact ⟨by decide, by decide⟩
  · exact xor_word s a h
/-- The difference of two floats. -/
def subF (s : Bool) (m a b : Int) : Int := addF s m a (negF s b)
end Go.Proofs.YtlmcopeongkppaaDoor

namespace Go.Proofs.YtlmcopeongkppaaDoor
open Go.RowKit
set_option linter.unusedVariables false
set_option linter.unusedSimpArgs false
/-- A number that grows as the floats do. -/
def rnk (s : Bool) (a : Int) : Int := if sgn s a then -(zOf s a) else zOf s a
theorem zOf_small (s : Bool) (a : Int) (h : Word a) (c : (cls s a == 0 || cls s a == 5) = false) : zOf s a ≤ fI s := by
  simp only [Bool.or_eq_false_iff, beq_eq_false_iff_ne, ne_eq] at c
  obtain ⟨k0, k5⟩ := c
  unfold cls at k0 k5
  have w : wideB s a = false := by
    cases t : wideB s a
    · rfl
    · rw [t] at k0; simp at k0
  rw [w] at k5
  simp only [Bool.false_eq_true, if_false] at k5
  by_cases t : fI s < zOf s a
  · rw [if_pos t] at k5; exact absurd rfl k5
  · omega
/-- Which one is less; is each a number? -/
def cmpF (s : Bool) (a b : Int) : Int × Bool :=
  if (cls s a == 0 || cls s a == 5) || (cls s b == 0 || cls s b == 5) then (0, false)
  else (if rnk s a < rnk s b then -1 else if rnk s b < rnk s a then 1 else 0, true)
theorem fI_i64 (s : Bool) : fI s ≤ 9223372036854775807 := by cases s <;> decide
theorem class_fl (f a : Int) (h1 : Word a) (w : World) :
    Calls Tryd.prog 30 #[.int .i64 f, .int .u64 a] w fun r w' => r = .returned (.int .i64 (cls (f == 1) a)) ∧ Below w.heap.size w w' := by
  have hda : ∀ (w : World) (n : Nat) (o : Obj), (w.drewN n).alloc o = (w.alloc o).drewN n := fun _ _ _ => rfl
  have hfo := formatOf_ex f
  generalize (f == 1) = s at *
  have hc := class_any s a h1
  rw [fmtV_eq] at hfo hc
  generalize cls s a = k at *
  go_enter Tryd.func30, Tryd.ntmps30
  go_wp2_with (first
    | (go_at_call 41; refine (hfo _).mono ?_; rintro r w1 ⟨rfl, o1, o2, rfl⟩)
    | (go_at_call 46; refine (hc _).mono ?_; rintro r w2 ⟨rfl, rfl⟩))
  go_ret
  exact ⟨rfl, (by repeat (first | with_reducible exact Below.refl _ _ | with_reducible refine below_new ?_ _ | with_reducible refine Below.drew ?_ | with_reducible refine below_dN ?_ _))⟩
/-- Is it a finite float? -/
def finF (s : Bool) (a : Int) : Bool := cls s a == 1 || cls s a == 2 || cls s a == 3
theorem finite_fl (f a : Int) (h1 : Word a) (w : World) :
    Calls Tryd.prog 36 #[.int .i64 f, .int .u64 a] w fun r w' => r = .returned (.bool (finF (f == 1) a)) ∧ Below w.heap.size w w' := by
  have hc := class_fl f a h1
  generalize (f == 1) = s at *
  unfold finF
  generalize cls s a = k at *
  by_cases c1 : k = 1
  · subst c1
    go_enter Tryd.func36, Tryd.ntmps36
    go_wp2_with fail
    refine (hc _).mono ?_
    rintro r w1 ⟨rfl, hb1⟩
    go_wp2_with fail
    go_ret
    exact ⟨rfl, hb1⟩
  · by_cases c2 : k = 2
    · subst c2
      go_enter Tryd.func36, Tryd.ntmps36
      go_wp2_with fail
      refine (hc _).mono ?_
      rintro r w1 ⟨rfl, hb1⟩
      go_wp2_with fail
      go_ret
      exact ⟨rfl, hb1⟩
    · by_cases c3 : k = 3
      · subst c3
        go_enter Tryd.func36, Tryd.ntmps36
        go_wp2_with fail
        refine (hc _).mono ?_
        rintro r w1 ⟨rfl, hb1⟩
        go_wp2_with fail
        go_ret
        exact ⟨rfl, hb1⟩
      · have d1 : (k == 1) = false := by simp [c1]
        have d2 : (k == 2) = false := by simp [c2]
        have d3 : (k == 3) = false := by simp [c3]
        rw [d1, d2, d3]
        go_enter Tryd.func36, Tryd.ntmps36
        go_wp2_with fail
        refine (hc _).mono ?_
        rintro r w1 ⟨rfl, hb1⟩
        go_wp2_with fail
        go_ret
        exact ⟨rfl, hb1⟩
end Go.Proofs.YtlmcopeongkppaaDoor

namespace Go.Proofs.YtlmcopeongkppaaDoor
open Go.RowKit
set_option linter.unusedVariables false
set_option linter.unusedSimpArgs false
/-- How a format lays out its bits. -/
def shpV (s : Bool) : Value := .agg #[.int .i64 (if s then 32 else 64), .int .i64 (if s then 23 else 52), .int .i64 (if s then -149 else -1074)]
def shpO (s : Bool) : Obj := .cells #[.int .i64 (if s then 32 else 64), .int .i64 (if s then 23 else 52), .int .i64 (if s then -149 else -1074)] 65
theorem shapeOf_ex (f : Int) (w : World) :
    Calls Tryd.prog 34 #[.int .i64 f] w fun e w' => e = .returned (shpV (f == 1)) ∧ ∃ o1, w' = w.alloc o1 := by
  by_cases c : f = 1
  · subst c
    go_enter Tryd.func34, Tryd.ntmps34
    go_wp2_with fail
    exact bodyPost_ret (v := shpV true) (by simp [results, Tryd.results34, go_sem, shpV]) rfl ⟨rfl, _, rfl⟩
  · have c' : (f == 1) = false := by simp [c]
    rw [c']
    go_enter Tryd.func34, Tryd.ntmps34
    go_wp2_with fail
    exact bodyPost_ret (v := shpV false) (by simp [results, Tryd.results34, go_sem, shpV]) rfl ⟨rfl, _, rfl⟩
theorem csign_ex (s : Bool) (w : World) :
    Calls Tryd.prog 35 #[shpV s] w fun e w' => e = .returned (.int .u64 (fS s)) ∧ w' = w.alloc (shpO s) := by
  cases s
  · unfold shpV shpO
    go_enter Tryd.func35, Tryd.ntmps35
    go_wp2_with fail
    go_ret
    exact ⟨rfl, rfl⟩
  · unfold shpV shpO
    go_enter Tryd.func35, Tryd.ntmps35
    go_wp2_with fail
    go_ret
    exact ⟨rfl, rfl⟩
/-- A float taken apart. -/
def cprtV (s : Bool) (a : Int) : Value := .agg #[.bool (sgn s a), .int .u64 (whl s a), .int .i64 (pwr s a)]
theorem below_six (w : World) (a b c d e f : Obj) (n : Nat) : Below w.heap.size w (((((((w.alloc a).alloc b).alloc c).alloc d).alloc e).alloc f).drewN n) :=
  below_dN (below_new (below_new (below_new (below_three w a b c) d) e) f) n
end Go.Proofs.YtlmcopeongkppaaDoor

namespace Go.Proofs.YtlmcopeongkppaaDoor
open Go.RowKit
set_option linter.unusedVariables false
set_option linter.unusedSimpArgs false
theorem and_bit (x i : Nat) (hx : x < 2 ^ (i + 1)) : (x &&& 2 ^ i != 0) = decide (2 ^ i ≤ x) := by
  have p := Nat.two_pow_pos i
  have e : x &&& 2 ^ i = if x.testBit i then 2 ^ i else 0 := by
    apply Nat.eq_of_testBit_eq
    intro j
    rw [Nat.testBit_and, Nat.testBit_two_pow]
    by_cases c : i = j
    · subst c
      cases t : x.testBit i <;> simp
    · cases t : x.testBit i <;> simp [c, Nat.testBit_two_pow]
  rw [e, Nat.testBit_eq_decide_div_mod_eq]
  rw [Nat.pow_succ] at hx
  by_cases c : 2 ^ i ≤ x
  · have d : x / 2 ^ i = 1 := Nat.div_eq_of_lt_le (by omega) (by omega)
    rw [d, decide_eq_true c]
    simp
  · have d : x / 2 ^ i = 0 := Nat.div_eq_of_lt (by omega)
    rw [d, decide_eq_false c]
    simp
theorem sgn_double (a : Int) (h : Word a) : sgn false a = decide (9223372036854775808 ≤ a) := by
  obtain ⟨x, rfl⟩ := Int.eq_ofNat_of_zero_le h.1
  have hx := h.2
  have t := u64_and_nat x 9223372036854775808 (by omega) (by decide)
  have e := and_bit x 63 (by omega)
  show (bits BinOp.and IntKind.u64 (x : Int) ((9223372036854775808 : Nat) : Int) != 0) = _
  rw [t, Bool.eq_iff_iff, bne_iff_ne, decide_eq_true_iff]
  rw [Bool.eq_iff_iff, bne_iff_ne, decide_eq_true_iff] at e
  have q : (2 : Nat) ^ 63 = 9223372036854775808 := by decide
  rw [q] at e
  omega
theorem sgn_single (a : Int) (h : 0 ≤ a) (h' : a < 4294967296) : sgn true a = decide (2147483648 ≤ a) := by
  obtain ⟨x, rfl⟩ := Int.eq_ofNat_of_zero_le h
  have t := u64_and_nat x 2147483648 (by omega) (by decide)
  have e := and_bit x 31 (by omega)
  show (bits BinOp.and IntKind.u64 (x : Int) ((2147483648 : Nat) : Int) != 0) = _
  rw [t, Bool.eq_iff_iff, bne_iff_ne, decide_eq_true_iff]
  rw [Bool.eq_iff_iff, bne_iff_ne, decide_eq_true_iff] at e
  have q : (2 : Nat) ^ 31 = 2147483648 := by decide
  rw [q] at e
  omega
/-- A float is its size and its sign. -/
theorem put (s : Bool) (a : Int) (h : Word a) (w : wideB s a = false) : a = sgnd s (sgn s a) (zOf s a) ∧ 0 ≤ zOf s a ∧ zOf s a < fS s := by
  unfold sgnd
  cases s
  · rw [sgn_double a h, zOf_double a h]
    have q : fS false = 9223372036854775808 := rfl
    rw [q]
    obtain ⟨h0, h1⟩ := h
    by_cases c : 9223372036854775808 ≤ a
    · rw [if_pos (decide_eq_true c)]; omega
    · rw [if_neg (by simp; omega)]; omega
  · have w' : a < 4294967296 := by unfold wideB at w; simp at w; exact w
    rw [sgn_single a h.1 w', zOf_single a h.1 w']
    have q : fS true = 2147483648 := rfl
    rw [q]
    obtain ⟨h0, h1⟩ := h
    by_cases c : 2147483648 ≤ a
    · rw [if_pos (decide_eq_true c)]; omega
    · rw [if_neg (by simp; omega)]; omega
theorem cls_inf {s : Bool} {a : Int} (c : (cls s a == 4) = true) : wideB s a = false ∧ zOf s a = fI s := by
  have k := beq_iff_eq.1 c
  unfold cls at k
  cases t : wideB s a
  · rw [t, if_neg (by decide)] at k
    refine ⟨rfl, ?_⟩
    by_cases d : fI s < zOf s a
    · rw [if_pos d] at k; exact absurd k (by decide)
    · rw [if_neg d] at k
      by_cases e : zOf s a = fI s
      · exact e
      · rw [if_neg e] at k
        by_cases g : zOf s a = 0
        · rw [if_pos g] at k; exact absurd k (by decide)
        · rw [if_neg g] at k
          by_cases i : zOf s a / 2 ^ fP s = 0
          · rw [if_pos i] at k; exact absurd k (by decide)
          · rw [if_neg i] at k; exact absurd k (by decide)
  · rw [t, if_pos rfl] at k; exact absurd k (by decide)
theorem addF_comm (s : Bool) (m a b : Int) (h1 : Word a) (h2 : Word b) : addF s m a b = addF s m b a := by
  unfold addF
  rw [sumT_swap s m (sgn s a)]
  have i1 := @cls_inf s a
  have i2 := @cls_inf s b
  have p1 := put s a h1
  have p2 := put s b h2
  generalize (cls s a == 0 || cls s a == 5) = N1 at *
  generalize (cls s b == 0 || cls s b == 5) = N2 at *
  generalize (cls s a == 4) = I1 at *
  generalize (cls s b == 4) = I2 at *
  cases N1 <;> cases N2 <;> try rfl
  cases I1 <;> cases I2 <;> try rfl
  obtain ⟨w1, z1⟩ := i1 rfl
  obtain ⟨w2, z2⟩ := i2 rfl
  obtain ⟨e1, _⟩ := p1 w1
  obtain ⟨e2, _⟩ := p2 w2
  rw [z1] at e1
  rw [z2] at e2
  cases g1 : sgn s a <;> cases g2 : sgn s b
  · rw [g1] at e1; rw [g2] at e2; simp; rw [e1, e2]
  · simp
  · simp
  · rw [g1] at e1; rw [g2] at e2; simp; rw [e1, e2]
theorem mulF_comm (s : Bool) (m a b : Int) : mulF s m a b = mulF s m b a := by
  unfold mulF
  rw [show (sgn s a != sgn s b) = (sgn s b != sgn s a) by cases sgn s a <;> cases sgn s b <;> rfl, Nat.mul_comm (whl s a).toNat, Int.add_comm (pwr s a)]
  generalize (cls s a == 0 || cls s a == 5) = N1 at *
  generalize (cls s b == 0 || cls s b == 5) = N2 at *
  generalize (cls s a == 4) = I1 at *
  generalize (cls s b == 4) = I2 at *
  generalize (cls s a == 1) = Z1 at *
  generalize (cls s b == 1) = Z2 at *
  cases N1 <;> cases N2 <;> cases I1 <;> cases I2 <;> cases Z1 <;> cases Z2 <;> rfl
end Go.Proofs.YtlmcopeongkppaaDoor

namespace Go.Proofs.YtlmcopeongkppaaDoor
open Go.RowKit
set_option linter.unusedVariables false
set_option linter.unusedSimpArgs false
theorem xor_lo (x i : Nat) (h : x < 2 ^ i) : x ^^^ 2 ^ i = x + 2 ^ i := by
  have k := Nat.two_pow_add_eq_or_of_lt h 1
  rw [Nat.mul_one] at k
  rw [Nat.add_comm, k]
  apply Nat.eq_of_testBit_eq
  intro j
  rw [Nat.testBit_xor, Nat.testBit_or, Nat.testBit_two_pow]
  by_cases c : i = j
  · subst c
    rw [Nat.testBit_lt_two_pow h]
    simp
  · simp [c]
theorem xor_hi (x i : Nat) (h : x < 2 ^ i) : (x + 2 ^ i) ^^^ 2 ^ i = x := by
  rw [← xor_lo x i h, Nat.xor_assoc, Nat.xor_self, Nat.xor_zero]
theorem fI_lt (s : Bool) : fI s < fS s := by cases s <;> decide
/-- A size with a sign: what it is made of. -/
theorem made (s b : Bool) (z : Int) (h0 : 0 ≤ z) (h : z < fS s) : Word (sgnd s b z) ∧ wideB s (sgnd s b z) = false ∧ zOf s (sgnd s b z) = z ∧ sgn s (sgnd s b z) = b := by
  unfold sgnd
  cases s
  · have q : fS false = 9223372036854775808 := rfl
    rw [q] at h ⊢
    have w : Word (if b = true then z + 9223372036854775808 else z) := by cases b <;> exact ⟨by simp; omega, by simp; omega⟩
    refine ⟨w, rfl, ?_, ?_⟩
    · rw [zOf_double _ w]
      cases b <;> simp <;> omega
    · rw [sgn_double _ w]
      cases b <;> simp <;> omega
  · have q : fS true = 2147483648 := rfl
    rw [q] at h ⊢
    have w : Word (if b = true then z + 2147483648 else z) := by cases b <;> exact ⟨by simp; omega, by simp; omega⟩
    have w2 : (if b = true then z + 2147483648 else z) < 4294967296 := by cases b <;> simp <;> omega
    refine ⟨w, ?_, ?_, ?_⟩
    · unfold wideB; simp; cases b <;> simp <;> omega
    · rw [zOf_single _ w.1 w2]
      cases b <;> simp <;> omega
    · rw [sgn_single _ w.1 w2]
      cases b <;> simp <;> omega
theorem xor_sgnd (s b : Bool) (z : Int) (h0 : 0 ≤ z) (h : z < fS s) : bits BinOp.xor IntKind.u64 (sgnd s b z) (fS s) = sgnd s (!b) z := by
  obtain ⟨x, rfl⟩ := Int.eq_ofNat_of_zero_le h0
  unfold sgnd
  cases s
  · have q : fS false = ((9223372036854775808 : Nat) : Int) := rfl
    rw [q] at h ⊢
    cases b
    · have t := u64_xor_nat x 9223372036854775808 (by omega) (by decide)
      have k := xor_lo x 63 (by omega)
      rw [show (2 : Nat) ^ 63 = 9223372036854775808 by decide] at k
      rw [k] at t
      simpa using t
    · have t := u64_xor_nat (x + 9223372036854775808) 9223372036854775808 (by omega) (by decide)
      have k := xor_hi x 63 (by omega)
      rw [show (2 : Nat) ^ 63 = 9223372036854775808 by decide] at k
      rw [k] at t
      simpa using t
  · have q : fS true = ((2147483648 : Nat) : Int) := rfl
    rw [q] at h ⊢
    cases b
    · have t := u64_xor_nat x 2147483648 (by omega) (by decide)
      have k := xor_lo x 31 (by omega)
      rw [show (2 : Nat) ^ 31 = 2147483648 by decide] at k
      rw [k] at t
      simpa using t
    · have t := u64_xor_nat (x + 2147483648) 2147483648 (by omega) (by decide)
      have k := xor_hi x 31 (by omega)
      rw [show (2 : Nat) ^ 31 = 2147483648 by decide] at k
      rw [k] at t
      simpa using t
/-- The class hangs on the size alone. -/
theorem cls_made (s b : Bool) (z : Int) (h0 : 0 ≤ z) (h : z < fS s) : cls s (sgnd s b z) = if fI s < z then 5 else if z = fI s then 4 else if z = 0 then 1 else if z / 2 ^ fP s = 0 then 2 else 3 := by
  obtain ⟨_, w, e, _⟩ := made s b z h0 h
  unfold cls
  rw [w, e, if_neg (by decide)]
theorem num_made (s b : Bool) (z : Int) (h0 : 0 ≤ z) (h : z ≤ fI s) : (cls s (sgnd s b z) == 0 || cls s (sgnd s b z) == 5) = false := by
  have := fI_lt s
  rw [cls_made s b z h0 (by omega), if_neg (by omega)]
  by_cases c : z = fI s
  · rw [if_pos c]; rfl
  · rw [if_neg c]
    by_cases d : z = 0
    · rw [if_pos d]; rfl
    · rw [if_neg d]
      by_cases e : z / 2 ^ fP s = 0
      · rw [if_pos e]; rfl
      · rw [if_neg e]; rfl
theorem neg_made (s b : Bool) (z : Int) (h0 : 0 ≤ z) (h : z ≤ fI s) : negF s (sgnd s b z) = sgnd s (!b) z := by
  unfold negF
  rw [num_made s b z h0 h, if_neg (by decide), xor_sgnd s b z h0 (by have := fI_lt s; omega)]
theorem cls_nan (s : Bool) : cls s (fNan s) = 5 := by cases s <;> decide +kernel
theorem neg_nan (s : Bool) : negF s (fNan s) = fNan s := by unfold negF; rw [cls_nan]; rfl
theorem mod_fS (s b : Bool) (z : Int) : sgnd s b z % 2 ^ fP s = z % 2 ^ fP s := by
  unfold sgnd
  cases b
  · rfl
  · rw [if_pos rfl]
    cases s
    · show (z + 9223372036854775808) % 4503599627370496 = z % 4503599627370496; omega
    · show (z + 2147483648) % 8388608 = z % 8388608; omega
theorem whl_made (s b : Bool) (z : Int) (h0 : 0 ≤ z) (h : z < fS s) : whl s (sgnd s b z) = (if 0 < z / 2 ^ fP s then z % 2 ^ fP s + 2 ^ fP s else z % 2 ^ fP s) ∧ pwr s (sgnd s b z) = (if 0 < z / 2 ^ fP s then fL s + (z / 2 ^ fP s - 1) else fL s) := by
  obtain ⟨_, _, e, _⟩ := made s b z h0 h
  unfold whl pwr
  rw [e, mod_fS]
  exact ⟨rfl, rfl⟩
/-- A number is a size with a sign, or it is no number. -/
theorem num_or (s : Bool) (a : Int) (h : Word a) : (cls s a == 0 || cls s a == 5) = true ∨ ∃ (b : Bool) (z : Int), a = sgnd s b z ∧ 0 ≤ z ∧ z ≤ fI s := by
  by_cases c : (cls s a == 0 || cls s a == 5) = true
  · exact Or.inl c
  · right
    have c' : (cls s a == 0 || cls s a == 5) = false := by simpa using c
    have k0 : ¬ cls s a = 0 := by simp only [Bool.or_eq_false_iff, beq_eq_false_iff_ne, ne_eq] at c'; exact c'.1
    have k5 : ¬ cls s a = 5 := by simp only [Bool.or_eq_false_iff, beq_eq_false_iff_ne, ne_eq] at c'; exact c'.2
    have w : wideB s a = false := by
      cases t : wideB s a
      · rfl
      · unfold cls at k0; rw [t] at k0; simp at k0
    obtain ⟨e, z0, z1⟩ := put s a h w
    refine ⟨sgn s a, zOf s a, e, z0, ?_⟩
    by_cases t : fI s < zOf s a
    · unfold cls at k5; rw [w, if_neg (by decide), if_pos t] at k5; exact absurd rfl k5
    · omega
theorem rnd_made (s : Bool) (m : Int) (b : Bool) (n : Nat) (e : Int) : ∃ z : Int, rnd s m b n e = sgnd s b z ∧ 0 ≤ z ∧ z ≤ fI s := by
  unfold rnd
  by_cases c : n = 0
  · rw [if_pos c]; exact ⟨0, rfl, by omega, fI_pos s⟩
  · rw [if_neg c]
    obtain ⟨z, e1, e2⟩ := mag_any s m b c e
    exact ⟨z, by rw [e1], by omega, e2⟩
theorem rnd_neg (s b : Bool) (n : Nat) (e : Int) : negF s (rnd s 1 b n e) = rnd s 2 (!b) n e := by
  unfold rnd
  by_cases c : n = 0
  · rw [if_pos c, if_pos c, neg_made s b 0 (by omega) (fI_pos s)]
  · rw [if_neg c, if_neg c]
    obtain ⟨z, e1, e2⟩ := mag_any s 1 b c e
    rw [← mag_mirror, e1, neg_made s b z (by omega) e2]
theorem sum_neg (s : Bool) (xb : Bool) (xw : Nat) (xe : Int) (yb : Bool) (yw : Nat) (ye : Int) : negF s (sumT s 1 xb xw xe yb yw ye) = sumT s 2 (!xb) xw xe (!yb) yw ye := by
  unfold sumT
  generalize xw * 2 ^ (xe - min xe ye).toNat = X
  generalize yw * 2 ^ (ye - min xe ye).toNat = Y
  have d : (((!xb) : Bool) = !yb) ↔ (xb = yb) := by cases xb <;> cases yb <;> simp
  by_cases c : xb = yb
  · rw [if_pos c, if_pos (d.2 c), rnd_neg]
  · rw [if_neg c, if_neg (fun h => c (d.1 h))]
    by_cases e : X = Y
    · rw [if_pos e, if_pos e, neg_made s _ 0 (by omega) (fI_pos s)]; rfl
    · rw [if_neg e, if_neg e]
      by_cases g : Y < X
      · rw [if_pos g, if_pos g, rnd_neg]
      · rw [if_neg g, if_neg g, rnd_neg]
/-- What a float with the other sign is made of. -/
theorem neg_parts (s b : Bool) (z : Int) (h0 : 0 ≤ z) (h : z ≤ fI s) :
    cls s (negF s (sgnd s b z)) = cls s (sgnd s b z) ∧ sgn s (negF s (sgnd s b z)) = !(sgn s (sgnd s b z)) ∧ whl s (negF s (sgnd s b z)) = whl s (sgnd s b z) ∧ pwr s (negF s (sgnd s b z)) = pwr s (sgnd s b z) := by
  have l : z < fS s := by have := fI_lt s; omega
  rw [neg_made s b z h0 h]
  obtain ⟨_, _, _, g1⟩ := made s b z h0 l
  obtain ⟨_, _, _, g2⟩ := made s (!b) z h0 l
  obtain ⟨a1, a2⟩ := whl_made s b z h0 l
  obtain ⟨b1, b2⟩ := whl_made s (!b) z h0 l
  rw [g1, g2, a1, a2, b1, b2, cls_made s b z h0 l, cls_made s (!b) z h0 l]
  exact ⟨rfl, rfl, rfl, rfl⟩
theorem nan_no {s : Bool} {a : Int} (c : (cls s a == 0 || cls s a == 5) = true) : negF s a = fNan s := by unfold negF; rw [c, if_pos rfl]
theorem nan_is (s : Bool) : (cls s (fNan s) == 0 || cls s (fNan s) == 5) = true := by rw [cls_nan]; rfl
theorem bne_not (a b : Bool) : ((!a) != b) = !(a != b) := by cases a <;> cases b <;> rfl
theorem not_bne (a b : Bool) : ((!a) != (!b)) = (a != b) := by cases a <;> cases b <;> rfl
theorem mul_mirror (s : Bool) (a b : Int) (h1 : Word a) (h2 : Word b) : negF s (mulF s 1 a b) = mulF s 2 (negF s a) b := by
  rcases num_or s a h1 with c | ⟨b1, z1, rfl, q0, q1⟩
  · have e := nan_no c
    have i := nan_is s
    unfold mulF
    rw [e, c, i, Bool.true_or, if_pos rfl, if_pos rfl, neg_nan]
  · obtain ⟨p1, p2, p3, p4⟩ := neg_parts s b1 z1 q0 q1
    unfold mulF
    rw [p1, p2, p3, p4, bne_not]
    have n1 := num_made s b1 z1 q0 q1
    rw [n1]
    generalize (cls s b == 0 || cls s b == 5) = N2
    cases N2
    · simp only [Bool.or_false, Bool.false_eq_true, if_false]
      split
      · exact neg_nan s
      · split
        · rw [neg_made s _ _ (fI_pos s) (Int.le_refl _)]
        · rw [rnd_neg]
    · simp only [Bool.or_true, if_true]
      exact neg_nan s
theorem div_mirror (s : Bool) (a b : Int) (h1 : Word a) (h2 : Word b) : negF s (divF s 1 a b) = divF s 2 (negF s a) b := by
  rcases num_or s a h1 with c | ⟨b1, z1, rfl, q0, q1⟩
  · have e := nan_no c
    have i := nan_is s
    unfold divF
    rw [e, c, i, Bool.true_or, if_pos rfl, if_pos rfl, neg_nan]
  · obtain ⟨p1, p2, p3, p4⟩ := neg_parts s b1 z1 q0 q1
    unfold divF
    rw [p1, p2, p3, p4, bne_not]
    have n1 := num_made s b1 z1 q0 q1
    rw [n1]
    generalize (cls s b == 0 || cls s b == 5) = N2
    cases N2
    · simp only [Bool.or_false, Bool.false_eq_true, if_false]
      split
      · exact neg_nan s
      · split
        · rw [neg_made s _ _ (fI_pos s) (Int.le_refl _)]
        · split
          · rw [neg_made s _ _ (Int.le_refl _) (fI_pos s)]
          · unfold divT; rw [rnd_neg]
    · simp only [Bool.or_true, if_true]
      exact neg_nan s
theorem add_mirror (s : Bool) (a b : Int) (h1 : Word a) (h2 : Word b) : negF s (addF s 1 a b) = addF s 2 (negF s a) (negF s b) := by
  rcases num_or s a h1 with c | ⟨b1, z1, rfl, q0, q1⟩
  · have e := nan_no c
    have i := nan_is s
    unfold addF
    rw [e, c, i, Bool.true_or, Bool.true_or, if_pos rfl, if_pos rfl, neg_nan]
  · rcases num_or s b h2 with c | ⟨b2, z2, rfl, r0, r1⟩
    · have e := nan_no c
      have i := nan_is s
      unfold addF
      rw [e, c, i, Bool.or_true, Bool.or_true, if_pos rfl, if_pos rfl, neg_nan]
    · obtain ⟨p1, p2, p3, p4⟩ := neg_parts s b1 z1 q0 q1
      obtain ⟨k1, k2, k3, k4⟩ := neg_parts s b2 z2 r0 r1
      unfold addF
      rw [p1, p2, p3, p4, k1, k2, k3, k4, not_bne]
      rw [num_made s b1 z1 q0 q1, num_made s b2 z2 r0 r1]
      simp only [Bool.or_false, Bool.false_eq_true, if_false]
      split
      · exact neg_nan s
      · split
        · rfl
        · split
          · rfl
          · exact sum_neg s _ _ _ _ _ _
end Go.Proofs.YtlmcopeongkppaaDoor

namespace Go.Proofs.YtlmcopeongkppaaDoor
open Go.RowKit
set_option linter.unusedVariables false
set_option linter.unusedSimpArgs false
/-- A format's number. -/
def fb (s : Bool) : Int := if s then 1 else 0
def fE (s : Bool) : Int := if s then 8 else 11
theorem rsize_d (w : World) : Calls Tryd.prog 25 #[.int .i64 0] w fun e w' => e = .returned (.tuple #[.int .i64 52, .int .i64 11, .int .i64 (-1074)]) ∧ w' = w := by
  go_enter Tryd.func25, Tryd.ntmps25
  go_wp2_with fail
  exact bodyPost_ret (v := .tuple #[.int .i64 52, .int .i64 11, .int .i64 (-1074)]) (by simp [results, Tryd.results25, go_sem]) rfl ⟨rfl, rfl⟩
theorem rsize_s (w : World) : Calls Tryd.prog 25 #[.int .i64 1] w fun e w' => e = .returned (.tuple #[.int .i64 23, .int .i64 8, .int .i64 (-149)]) ∧ w' = w := by
  go_enter Tryd.func25, Tryd.ntmps25
  go_wp2_with fail
  exact bodyPost_ret (v := .tuple #[.int .i64 23, .int .i64 8, .int .i64 (-149)]) (by simp [results, Tryd.results25, go_sem]) rfl ⟨rfl, rfl⟩
/-- A float's exponent. -/
def xpo (s : Bool) (a : Int) : Int := a / 2 ^ fP s % 2 ^ (fE s).toNat
theorem and_bits (x i : Nat) (m : Int) (hm : m = ((2 ^ i - 1 : Nat) : Int)) (hi : 2 ^ i ≤ 18446744073709551616) (a : Int) (ha : a = (x : Int)) (h : x < 18446744073709551616) : bits BinOp.and IntKind.u64 a m = a % 2 ^ i := by
  subst hm ha
  have p := Nat.two_pow_pos i
  have t := u64_and_nat x (2 ^ i - 1) h (by omega)
  rw [Nat.and_two_pow_sub_one_eq_mod] at t
  rw [t, pow_cast, Int.natCast_emod]
theorem cls_ref_d (a : Int) (h : Word a) (w : wideB false a = false) : cls false a = (if xpo false a = 2047 ∧ a % 4503599627370496 ≠ 0 then 5 else if xpo false a = 2047 then 4 else if xpo false a = 0 ∧ a % 4503599627370496 = 0 then 1 else if xpo false a = 0 then 2 else 3) := by
  have h1 := h.1
  have h2 := h.2
  have e := zOf_double a h
  have x : xpo false a = a / 4503599627370496 % 2048 := rfl
  have i : fI false = 9218868437227405312 := rfl
  have p : (2 : Int) ^ fP false = 4503599627370496 := rfl
  unfold cls
  rw [w, if_neg (by decide), e, x, i, p]
  by_cases c1 : 9218868437227405312 < a % 9223372036854775808
  · rw [if_pos c1, if_pos (by omega)]
  · rw [if_neg c1]
    by_cases c2 : a % 9223372036854775808 = 9218868437227405312
    · rw [if_pos c2, if_neg (by omega), if_pos (by omega)]
    · rw [if_neg c2]
      by_cases c3 : a % 9223372036854775808 = 0
      · rw [if_pos c3, if_neg (by omega), if_neg (by omega), if_pos (by omega)]
      · rw [if_neg c3]
        by_cases c4 : a % 9223372036854775808 / 4503599627370496 = 0
        · rw [if_pos c4, if_neg (by omega), if_neg (by omega), if_neg (by omega), if_pos (by omega)]
        · rw [if_neg c4, if_neg (by omega), if_neg (by omega), if_neg (by omega), if_neg (by omega)]
theorem cls_ref_s (a : Int) (h : Word a) (w : wideB true a = false) : cls true a = (if xpo true a = 255 ∧ a % 8388608 ≠ 0 then 5 else if xpo true a = 255 then 4 else if xpo true a = 0 ∧ a % 8388608 = 0 then 1 else if xpo true a = 0 then 2 else 3) := by
  have h1 := h.1
  have h2 := h.2
  have a3 : a < 4294967296 := by unfold wideB at w; simp at w; exact w
  have e := zOf_single a h1 a3
  have x : xpo true a = a / 8388608 % 256 := rfl
  have i : fI true = 2139095040 := rfl
  have p : (2 : Int) ^ fP true = 8388608 := rfl
  unfold cls
  rw [w, if_neg (by decide), e, x, i, p]
  by_cases c1 : 2139095040 < a % 2147483648
  · rw [if_pos c1, if_pos (by omega)]
  · rw [if_neg c1]
    by_cases c2 : a % 2147483648 = 2139095040
    · rw [if_pos c2, if_neg (by omega), if_pos (by omega)]
    · rw [if_neg c2]
      by_cases c3 : a % 2147483648 = 0
      · rw [if_pos c3, if_neg (by omega), if_neg (by omega), if_pos (by omega)]
      · rw [if_neg c3]
        by_cases c4 : a % 2147483648 / 8388608 = 0
        · rw [if_pos c4, if_neg (by omega), if_neg (by omega), if_neg (by omega), if_pos (by omega)]
        · rw [if_neg c4, if_neg (by omega), if_neg (by omega), if_neg (by omega), if_neg (by omega)]
end Go.Proofs.YtlmcopeongkppaaDoor

namespace Go.Proofs.YtlmcopeongkppaaDoor
open Go.RowKit
set_option linter.unusedVariables false
set_option linter.unusedSimpArgs false
theorem rsign_d (w : World) : Calls Tryd.prog 27 #[.int .i64 0, .bool true] w fun e w' => e = .returned (.int .u64 9223372036854775808) ∧ w' = w := by
  have hs := rsize_d
  go_enter Tryd.func27, Tryd.ntmps27
  go_wp2_with (go_at_call 25; refine (hs _).mono ?_; rintro e w1 ⟨rfl, rfl⟩)
  go_ret
  exact ⟨rfl, rfl⟩
theorem rsign0_d (w : World) : Calls Tryd.prog 27 #[.int .i64 0, .bool false] w fun e w' => e = .returned (.int .u64 0) ∧ w' = w := by
  have hs := rsize_d
  go_enter Tryd.func27, Tryd.ntmps27
  go_wp2_with (go_at_call 25; refine (hs _).mono ?_; rintro e w1 ⟨rfl, rfl⟩)
  go_ret
  exact ⟨rfl, rfl⟩
theorem rsign_s (w : World) : Calls Tryd.prog 27 #[.int .i64 1, .bool true] w fun e w' => e = .returned (.int .u64 2147483648) ∧ w' = w := by
  have hs := rsize_s
  go_enter Tryd.func27, Tryd.ntmps27
  go_wp2_with (go_at_call 25; refine (hs _).mono ?_; rintro e w1 ⟨rfl, rfl⟩)
  go_ret
  exact ⟨rfl, rfl⟩
theorem rsign0_s (w : World) : Calls Tryd.prog 27 #[.int .i64 1, .bool false] w fun e w' => e = .returned (.int .u64 0) ∧ w' = w := by
  have hs := rsize_s
  go_enter Tryd.func27, Tryd.ntmps27
  go_wp2_with (go_at_call 25; refine (hs _).mono ?_; rintro e w1 ⟨rfl, rfl⟩)
  go_ret
  exact ⟨rfl, rfl⟩
theorem rsign_any (s b : Bool) (w : World) : Calls Tryd.prog 27 #[.int .i64 (fb s), .bool b] w fun e w' => e = .returned (.int .u64 (if b then fS s else 0)) ∧ w' = w := by
  cases s <;> cases b
  · exact rsign0_d w
  · exact rsign_d w
  · exact rsign0_s w
  · exact rsign_s w
end Go.Proofs.YtlmcopeongkppaaDoor

namespace Go.Proofs.YtlmcopeongkppaaDoor
open Go.RowKit
set_option linter.unusedVariables false
set_option linter.unusedSimpArgs false
theorem fb_back (s : Bool) : (fb s == 1) = s := by cases s <;> rfl
end Go.Proofs.YtlmcopeongkppaaDoor

namespace Go.Proofs.YtlmcopeongkppaaDoor
open Go.RowKit
set_option linter.unusedVariables false
set_option linter.unusedSimpArgs false
/-- A float without its sign. -/
def absF (s : Bool) (a : Int) : Int := if cls s a == 0 || cls s a == 5 then fNan s else zOf s a
theorem rmost_d (w : World) : Calls Tryd.prog 28 #[.int .i64 0] w fun e w' => e = .returned (.int .u64 9218868437227405311) ∧ w' = w := by
  have hs := rsize_d
  go_enter Tryd.func28, Tryd.ntmps28
  go_wp2_with (go_at_call 25; refine (hs _).mono ?_; rintro e w1 ⟨rfl, rfl⟩)
  go_ret
  exact ⟨rfl, rfl⟩
theorem rmost_s (w : World) : Calls Tryd.prog 28 #[.int .i64 1] w fun e w' => e = .returned (.int .u64 2139095039) ∧ w' = w := by
  have hs := rsize_s
  go_enter Tryd.func28, Tryd.ntmps28
  go_wp2_with (go_at_call 25; refine (hs _).mono ?_; rintro e w1 ⟨rfl, rfl⟩)
  go_ret
  exact ⟨rfl, rfl⟩
theorem rmost_any (s : Bool) (w : World) : Calls Tryd.prog 28 #[.int .i64 (fb s)] w fun e w' => e = .returned (.int .u64 (fI s - 1)) ∧ w' = w := by
  cases s
  · exact rmost_d w
  · exact rmost_s w
theorem most_fl (f : Int) (w : World) : Calls Tryd.prog 37 #[.int .i64 f] w fun r w' => r = .returned (.int .u64 (fI (f == 1) - 1)) ∧ Below w.heap.size w w' := by
  have hfo := formatOf_ex f
  generalize (f == 1) = s at *
  have hm := most_any s
  rw [fmtV_eq] at hfo hm
  go_enter Tryd.func37, Tryd.ntmps37
  go_wp2_with (first
    | (go_at_call 41; refine (hfo _).mono ?_; rintro r w1 ⟨rfl, o1, o2, rfl⟩)
    | (go_at_call 55; refine (hm _).mono ?_; rintro r w2 ⟨rfl, rfl⟩))
  go_ret
  exact ⟨rfl, (by repeat (first | with_reducible exact Below.refl _ _ | with_reducible refine below_new ?_ _ | with_reducible refine Below.drew ?_ | with_reducible refine below_dN ?_ _))⟩
theorem nan_fl (f : Int) (w : World) : Calls Tryd.prog 31 #[.int .i64 f] w fun r w' => r = .returned (.int .u64 (fNan (f == 1))) ∧ Below w.heap.size w w' := by
  have hfo := formatOf_ex f
  generalize (f == 1) = s at *
  have hm := nan_ex s
  rw [fmtV_eq] at hfo hm
  go_enter Tryd.func31, Tryd.ntmps31
  go_wp2_with (first
    | (go_at_call 41; refine (hfo _).mono ?_; rintro r w1 ⟨rfl, o1, o2, rfl⟩)
    | (go_at_call 47; refine (hm _).mono ?_; rintro r w2 ⟨rfl, rfl⟩))
  go_ret
  exact ⟨rfl, (by repeat (first | with_reducible exact Below.refl _ _ | with_reducible refine below_new ?_ _ | with_reducible refine Below.drew ?_ | with_reducible refine below_dN ?_ _))⟩
end Go.Proofs.YtlmcopeongkppaaDoor

