/- Texts of the proof, put together. -/
import Derived.Test.YteafnkimcidkhaaGreatYRMB1
import Derived.Deep.Draws
namespace Go.Proofs.YteafnkimcidkhaaGreat
open Go.RowKit
set_option linter.unusedVariables false
set_option linter.unusedSimpArgs false
theorem and_odd (q : Nat) (h : q < 18446744073709551616) : ((bits BinOp.and IntKind.u64 (q : Int) 1) == 1) = (q % 2 == 1) := by
 have t := u64_and_nat q 1 h (by decide)
 have e : q &&& 1 = q % 2 := Nat.and_two_pow_sub_one_eq_mod q 1
 rw [e] at t
 have t' : bits BinOp.and IntKind.u64 (q : Int) 1 = ((q % 2 : Nat) : Int) := t
 rw [t', Bool.eq_iff_iff, beq_iff_eq, beq_iff_eq]
 omega
theorem mag_eqD (m : Int) (b : Bool) (N : Nat) (e last : Int) (hl : lastOf false N e = last) :
  mag false m b N e = (if 9218868437227405312 ≤ (last - (-1074)) * 4503599627370496 + ((quo N (last - e) + if away m b (quo N (last - e) % 2 == 1) (half N (last - e)) (low N (last - e)) then 1 else 0 : Nat) : Int) then great false m b
   else (last - (-1074)) * 4503599627370496 + ((quo N (last - e) + if away m b (quo N (last - e) % 2 == 1) (half N (last - e)) (low N (last - e)) then 1 else 0 : Nat) : Int)) := by
 subst hl; rfl
theorem last_eqD {N : Nat} (n0 : N ≠ 0) (e n : Int) (hn : (blen N : Int) = n) (hn2 : n ≤ 128) : ∃ last : Int, max (n - 53 + e) (-1074) = last ∧ lastOf false N e = last ∧ (-1074) ≤ last ∧ n - 53 + e ≤ last ∧ (last = (-1074) ∨ last = n - 53 + e) ∧ quo N (last - e) < 9007199254740992 := by
 refine ⟨_, rfl, ?_, by omega, by omega, by omega, ?_⟩
 ·unfold lastOf; rw [hn]; rfl
 ·have := kept false n0 e (min e (-1074)) (by omega) (by show min e (-1074) ≤ (-1074); omega)
  obtain ⟨x, _, q, _⟩ := this
  have t : lastOf false N e = max (n - 53 + e) (-1074) := by unfold lastOf; rw [hn]; rfl
  rw [t] at q
  exact q
set_option maxRecDepth 8000 in
set_option maxHeartbeats 3200000 in
theorem size_d (m : Int) (b : Bool) (ah al e : Int) (h1 : Word ah) (h2 : Word al) (n0 : nn ah al ≠ 0) (e1 : -4010 ≤ e) (e2 : e ≤ 4010) (w : World) :
  Calls Tryz.prog 152 #[fmtV false, rdV m, .bool b, .agg #[.int .u64 ah, .int .u64 al], .int .i64 e] w fun r w' => r = .returned (.int .u64 (mag false m b (nn ah al) e)) ∧ Below w.heap.size w w' := by
 have hlen := len_ex ah al h1 h2
 have hn2 := blen_128 h1 h2
 have hn1 := (blen_le n0).2
 have hn : ∃ n : Int, (blen (nn ah al) : Int) = n := ⟨_, rfl⟩
 obtain ⟨n, hn⟩ := hn
 obtain ⟨last, hM, hL, l1, l2, l3, hq⟩ := last_eqD n0 e n hn (by omega)
 rw [mag_eqD m b _ e last hL]
 have hcut := cut_any ah al (last - e) h1 h2 (by omega) (by omega) (by omega)
 have hgr := tooGreat_any false m b
 have haw := away_any m b (quo (nn ah al) (last - e) % 2 == 1) (half (nn ah al) (last - e)) (low (nn ah al) (last - e))
 have hE := awF_enters m
 have hO : ((bits BinOp.and IntKind.u64 ((quo (nn ah al) (last - e) : Nat) : Int) 1) == 1) = (quo (nn ah al) (last - e) % 2 == 1) := and_odd _ (by omega)
 rw [hn] at hlen
 have n1 : 1 ≤ n := by omega
 have n2 : n ≤ 128 := by omega
 generalize (quo (nn ah al) (last - e) % 2 == 1) = O at *
 generalize rc (half (nn ah al) (last - e)) (low (nn ah al) (last - e)) = R at *
 generalize away m b O (half (nn ah al) (last - e)) (low (nn ah al) (last - e)) = A at *
 have cast : ((quo (nn ah al) (last - e) + if A = true then 1 else 0 : Nat) : Int) = ((quo (nn ah al) (last - e) : Nat) : Int) + (if A = true then 1 else 0) := by cases A <;> simp
 rw [cast]
 have t0 : (0 : Int) ≤ ((quo (nn ah al) (last - e) : Nat) : Int) := Int.natCast_nonneg _
 have t1 : ((quo (nn ah al) (last - e) : Nat) : Int) < 9007199254740992 := by omega
 generalize ((quo (nn ah al) (last - e) : Nat) : Int) = t at *
 generalize great false m b = G at *
 clear hn hn1 hn2 hL hq cast l3 n0 h1 h2
 have hV : ∃ V : Int, (if 9218868437227405312 ≤ (last - (-1074)) * 4503599627370496 + (t + if A = true then 1 else 0) then G else (last - (-1074)) * 4503599627370496 + (t + if A = true then 1 else 0)) = V := ⟨_, rfl⟩
 obtain ⟨V, hV⟩ := hV
 rw [hV]
 have HV : Hid _ := hV
 clear hV
 unfold rdV at hgr ⊢
 unfold fmtV at hgr ⊢
 generalize awF m = F at *
 have b3 := below_three w (.cells #[.int .i64 64, .int .i64 52, .int .i64 (-1074), .int .u64 9223372036854775808, .int .u64 9218868437227405312] 148) (.cells #[.func (.func F) #[] #[]] 181) (.cells #[.int .u64 ah, .int .u64 al] 139)
 have b4 := (b3.alloc (by simp; omega) (.cells #[.int .u64 ah, .int .u64 al] 139)).drew
 clear b3
 go_enter Tryz.func152, Tryz.ntmps152
 go_upto_region 1 with fail
 go_region_held3 (fun w' => w'.cell? ⟨w.heap.size, 0, none⟩ = some (.int .i64 64) ∧ w'.cell? ⟨w.heap.size, 1, none⟩ = some (.int .i64 52) ∧ w'.cell? ⟨w.heap.size, 2, none⟩ = some (.int .i64 (-1074)) ∧ w'.cell? ⟨w.heap.size + 1 + 1, 0, none⟩ = some (.int .u64 ah) ∧ w'.cell? ⟨w.heap.size + 1 + 1, 1, none⟩ = some (.int .u64 al))
   (simp [go_sem, World.cell?_alloc_past])
   ((go_at_call 182; refine (hlen _).mono ?_; rintro e w1 ⟨rfl, rfl⟩))
 by_cases c1 : 2047 ≤ last - (-1074)
 ·have v := HV.out
  rw [if_pos (by cases A <;> simp <;> omega)] at v
  subst v
  go_wp2_with fail
  refine (hgr _).mono ?_
  rintro e w1 ⟨rfl, hb1⟩
  replace b4 := below_call b4 hb1
  go_wp2_with fail
  go_ret
  exact ⟨rfl, b4⟩
 ·go_wp2_with fail
  refine (hcut _).mono ?_
  rintro e w1 ⟨rfl, hb1⟩
  obtain ⟨hc, hf⟩ := bcell hb1
  have y0 : w1.cell? ⟨w.heap.size, 0, none⟩ = some (.int .i64 64) := by rw [hc _ _ (by simp; omega)]; simp [go_sem]
  have y1 : w1.cell? ⟨w.heap.size, 1, none⟩ = some (.int .i64 52) := by rw [hc _ _ (by simp; omega)]; simp [go_sem]
  have y2 : w1.cell? ⟨w.heap.size, 2, none⟩ = some (.int .i64 (-1074)) := by rw [hc _ _ (by simp; omega)]; simp [go_sem]
  have y3 : w1.cell? ⟨w.heap.size, 3, none⟩ = some (.int .u64 9223372036854775808) := by rw [hc _ _ (by simp; omega)]; simp [go_sem]
  have y4 : w1.cell? ⟨w.heap.size, 4, none⟩ = some (.int .u64 9218868437227405312) := by rw [hc _ _ (by simp; omega)]; simp [go_sem]
  have r0 : w1.cell? ⟨w.heap.size + 1, 0, none⟩ = some (.func (.func F) #[] #[]) := by rw [hc _ _ (by simp)]; simp [go_sem]
  replace b4 := below_call b4 hb1
  clear hc hf hb1 hcut hlen
  cases A
  ·have c3 : 9218868437227405312 ≤ (last - (-1074)) * 4503599627370496 + (t) ∨ ¬ 9218868437227405312 ≤ (last - (-1074)) * 4503599627370496 + (t) := by omega
   have v := HV.out
   simp only [Bool.false_eq_true, if_false, Int.add_zero] at v
   rcases c3 with c2 | c2
   ·rw [if_pos c2] at v
    subst v
    go_wp2_with (first | (go_at_fn F; refine (haw _).mono ?_; rintro e w2 ⟨rfl, rfl⟩) | (go_at_call 183; refine (hgr _).mono ?_; rintro e w3 ⟨rfl, hb3⟩))
    go_ret
    exact ⟨rfl, below_call b4 hb3⟩
   ·rw [if_neg c2] at v
    subst v
    go_wp2_with (go_at_fn F; refine (haw _).mono ?_; rintro e w2 ⟨rfl, rfl⟩)
    go_ret
    exact ⟨by first | rfl | (simp [go_sem]; omega), b4⟩
  ·have c3 : 9218868437227405312 ≤ (last - (-1074)) * 4503599627370496 + (t + 1) ∨ ¬ 9218868437227405312 ≤ (last - (-1074)) * 4503599627370496 + (t + 1) := by omega
   have v := HV.out
   simp only [if_true] at v
   rcases c3 with c2 | c2
   ·rw [if_pos c2] at v
    subst v
    go_wp2_with (first | (go_at_fn F; refine (haw _).mono ?_; rintro e w2 ⟨rfl, rfl⟩) | (go_at_call 183; refine (hgr _).mono ?_; rintro e w3 ⟨rfl, hb3⟩))
    go_ret
    exact ⟨rfl, below_call b4 hb3⟩
   ·rw [if_neg c2] at v
    subst v
    go_wp2_with (go_at_fn F; refine (haw _).mono ?_; rintro e w2 ⟨rfl, rfl⟩)
    go_ret
    exact ⟨by first | rfl | (simp [go_sem]; omega), b4⟩
theorem mag_eqS (m : Int) (b : Bool) (N : Nat) (e last : Int) (hl : lastOf true N e = last) :
  mag true m b N e = (if 2139095040 ≤ (last - (-149)) * 8388608 + ((quo N (last - e) + if away m b (quo N (last - e) % 2 == 1) (half N (last - e)) (low N (last - e)) then 1 else 0 : Nat) : Int) then great true m b
   else (last - (-149)) * 8388608 + ((quo N (last - e) + if away m b (quo N (last - e) % 2 == 1) (half N (last - e)) (low N (last - e)) then 1 else 0 : Nat) : Int)) := by
 subst hl; rfl
theorem last_eqS {N : Nat} (n0 : N ≠ 0) (e n : Int) (hn : (blen N : Int) = n) (hn2 : n ≤ 128) : ∃ last : Int, max (n - 24 + e) (-149) = last ∧ lastOf true N e = last ∧ (-149) ≤ last ∧ n - 24 + e ≤ last ∧ (last = (-149) ∨ last = n - 24 + e) ∧ quo N (last - e) < 16777216 := by
 refine ⟨_, rfl, ?_, by omega, by omega, by omega, ?_⟩
 ·unfold lastOf; rw [hn]; rfl
 ·have := kept true n0 e (min e (-149)) (by omega) (by show min e (-149) ≤ (-149); omega)
  obtain ⟨x, _, q, _⟩ := this
  have t : lastOf true N e = max (n - 24 + e) (-149) := by unfold lastOf; rw [hn]; rfl
  rw [t] at q
  exact q
set_option maxRecDepth 8000 in
set_option maxHeartbeats 3200000 in
theorem size_s (m : Int) (b : Bool) (ah al e : Int) (h1 : Word ah) (h2 : Word al) (n0 : nn ah al ≠ 0) (e1 : -4010 ≤ e) (e2 : e ≤ 4010) (w : World) :
  Calls Tryz.prog 152 #[fmtV true, rdV m, .bool b, .agg #[.int .u64 ah, .int .u64 al], .int .i64 e] w fun r w' => r = .returned (.int .u64 (mag true m b (nn ah al) e)) ∧ Below w.heap.size w w' := by
 have hlen := len_ex ah al h1 h2
 have hn2 := blen_128 h1 h2
 have hn1 := (blen_le n0).2
 have hn : ∃ n : Int, (blen (nn ah al) : Int) = n := ⟨_, rfl⟩
 obtain ⟨n, hn⟩ := hn
 obtain ⟨last, hM, hL, l1, l2, l3, hq⟩ := last_eqS n0 e n hn (by omega)
 rw [mag_eqS m b _ e last hL]
 have hcut := cut_any ah al (last - e) h1 h2 (by omega) (by omega) (by omega)
 have hgr := tooGreat_any true m b
 have haw := away_any m b (quo (nn ah al) (last - e) % 2 == 1) (half (nn ah al) (last - e)) (low (nn ah al) (last - e))
 have hE := awF_enters m
 have hO : ((bits BinOp.and IntKind.u64 ((quo (nn ah al) (last - e) : Nat) : Int) 1) == 1) = (quo (nn ah al) (last - e) % 2 == 1) := and_odd _ (by omega)
 rw [hn] at hlen
 have n1 : 1 ≤ n := by omega
 have n2 : n ≤ 128 := by omega
 generalize (quo (nn ah al) (last - e) % 2 == 1) = O at *
 generalize rc (half (nn ah al) (last - e)) (low (nn ah al) (last - e)) = R at *
 generalize away m b O (half (nn ah al) (last - e)) (low (nn ah al) (last - e)) = A at *
 have cast : ((quo (nn ah al) (last - e) + if A = true then 1 else 0 : Nat) : Int) = ((quo (nn ah al) (last - e) : Nat) : Int) + (if A = true then 1 else 0) := by cases A <;> simp
 rw [cast]
 have t0 : (0 : Int) ≤ ((quo (nn ah al) (last - e) : Nat) : Int) := Int.natCast_nonneg _
 have t1 : ((quo (nn ah al) (last - e) : Nat) : Int) < 16777216 := by omega
 generalize ((quo (nn ah al) (last - e) : Nat) : Int) = t at *
 generalize great true m b = G at *
 clear hn hn1 hn2 hL hq cast l3 n0 h1 h2
 have hV : ∃ V : Int, (if 2139095040 ≤ (last - (-149)) * 8388608 + (t + if A = true then 1 else 0) then G else (last - (-149)) * 8388608 + (t + if A = true then 1 else 0)) = V := ⟨_, rfl⟩
 obtain ⟨V, hV⟩ := hV
 rw [hV]
 have HV : Hid _ := hV
 clear hV
 unfold rdV at hgr ⊢
 unfold fmtV at hgr ⊢
 generalize awF m = F at *
 have b3 := below_three w (.cells #[.int .i64 32, .int .i64 23, .int .i64 (-149), .int .u64 2147483648, .int .u64 2139095040] 148) (.cells #[.func (.func F) #[] #[]] 181) (.cells #[.int .u64 ah, .int .u64 al] 139)
 have b4 := (b3.alloc (by simp; omega) (.cells #[.int .u64 ah, .int .u64 al] 139)).drew
 clear b3
 go_enter Tryz.func152, Tryz.ntmps152
 go_upto_region 1 with fail
 go_region_held3 (fun w' => w'.cell? ⟨w.heap.size, 0, none⟩ = some (.int .i64 32) ∧ w'.cell? ⟨w.heap.size, 1, none⟩ = some (.int .i64 23) ∧ w'.cell? ⟨w.heap.size, 2, none⟩ = some (.int .i64 (-149)) ∧ w'.cell? ⟨w.heap.size + 1 + 1, 0, none⟩ = some (.int .u64 ah) ∧ w'.cell? ⟨w.heap.size + 1 + 1, 1, none⟩ = some (.int .u64 al))
   (simp [go_sem, World.cell?_alloc_past])
   ((go_at_call 182; refine (hlen _).mono ?_; rintro e w1 ⟨rfl, rfl⟩))
 by_cases c1 : 255 ≤ last - (-149)
 ·have v := HV.out
  rw [if_pos (by cases A <;> simp <;> omega)] at v
  subst v
  go_wp2_with fail
  refine (hgr _).mono ?_
  rintro e w1 ⟨rfl, hb1⟩
  replace b4 := below_call b4 hb1
  go_wp2_with fail
  go_ret
  exact ⟨rfl, b4⟩
 ·go_wp2_with fail
  refine (hcut _).mono ?_
  rintro e w1 ⟨rfl, hb1⟩
  obtain ⟨hc, hf⟩ := bcell hb1
  have y0 : w1.cell? ⟨w.heap.size, 0, none⟩ = some (.int .i64 32) := by rw [hc _ _ (by simp; omega)]; simp [go_sem]
  have y1 : w1.cell? ⟨w.heap.size, 1, none⟩ = some (.int .i64 23) := by rw [hc _ _ (by simp; omega)]; simp [go_sem]
  have y2 : w1.cell? ⟨w.heap.size, 2, none⟩ = some (.int .i64 (-149)) := by rw [hc _ _ (by simp; omega)]; simp [go_sem]
  have y3 : w1.cell? ⟨w.heap.size, 3, none⟩ = some (.int .u64 2147483648) := by rw [hc _ _ (by simp; omega)]; simp [go_sem]
  have y4 : w1.cell? ⟨w.heap.size, 4, none⟩ = some (.int .u64 2139095040) := by rw [hc _ _ (by simp; omega)]; simp [go_sem]
  have r0 : w1.cell? ⟨w.heap.size + 1, 0, none⟩ = some (.func (.func F) #[] #[]) := by rw [hc _ _ (by simp)]; simp [go_sem]
  replace b4 := below_call b4 hb1
  clear hc hf hb1 hcut hlen
  cases A
  ·have c3 : 2139095040 ≤ (last - (-149)) * 8388608 + (t) ∨ ¬ 2139095040 ≤ (last - (-149)) * 8388608 + (t) := by omega
   have v := HV.out
   simp only [Bool.false_eq_true, if_false, Int.add_zero] at v
   rcases c3 with c2 | c2
   ·rw [if_pos c2] at v
    subst v
    go_wp2_with (first | (go_at_fn F; refine (haw _).mono ?_; rintro e w2 ⟨rfl, rfl⟩) | (go_at_call 183; refine (hgr _).mono ?_; rintro e w3 ⟨rfl, hb3⟩))
    go_ret
    exact ⟨rfl, below_call b4 hb3⟩
   ·rw [if_neg c2] at v
    subst v
    go_wp2_with (go_at_fn F; refine (haw _).mono ?_; rintro e w2 ⟨rfl, rfl⟩)
    go_ret
    exact ⟨by first | rfl | (simp [go_sem]; omega), b4⟩
  ·have c3 : 2139095040 ≤ (last - (-149)) * 8388608 + (t + 1) ∨ ¬ 2139095040 ≤ (last - (-149)) * 8388608 + (t + 1) := by omega
   have v := HV.out
   simp only [if_true] at v
   rcases c3 with c2 | c2
   ·rw [if_pos c2] at v
    subst v
    go_wp2_with (first | (go_at_fn F; refine (haw _).mono ?_; rintro e w2 ⟨rfl, rfl⟩) | (go_at_call 183; refine (hgr _).mono ?_; rintro e w3 ⟨rfl, hb3⟩))
    go_ret
    exact ⟨rfl, below_call b4 hb3⟩
   ·rw [if_neg c2] at v
    subst v
    go_wp2_with (go_at_fn F; refine (haw _).mono ?_; rintro e w2 ⟨rfl, rfl⟩)
    go_ret
    exact ⟨by first | rfl | (simp [go_sem]; omega), b4⟩
end Go.Proofs.YteafnkimcidkhaaGreat
namespace Go.Proofs.YteafnkimcidkhaaGreat
open Go.RowKit
set_option linter.unusedVariables false
set_option linter.unusedSimpArgs false
def fW (s : Bool) : Int := if s then 32 else 64
def fQ (s : Bool) : Int := if s then 23 else 52
theorem fmtV_eq (s : Bool) : fmtV s = .agg #[.int .i64 (fW s), .int .i64 (fQ s), .int .i64 (fL s), .int .u64 (fS s), .int .u64 (fI s)] := by cases s <;> rfl
theorem fmtO_eq (s : Bool) : fmtO s = .cells #[.int .i64 (fW s), .int .i64 (fQ s), .int .i64 (fL s), .int .u64 (fS s), .int .u64 (fI s)] 148 := by cases s <;> rfl
theorem size_any (s : Bool) (m : Int) (b : Bool) (ah al e : Int) (h1 : Word ah) (h2 : Word al) (n0 : nn ah al ≠ 0) (e1 : -4010 ≤ e) (e2 : e ≤ 4010) (w : World) :
  Calls Tryz.prog 152 #[fmtV s, rdV m, .bool b, .agg #[.int .u64 ah, .int .u64 al], .int .i64 e] w fun r w' => r = .returned (.int .u64 (mag s m b (nn ah al) e)) ∧ Below w.heap.size w w' := by
 cases s
 ·exact size_d m b ah al e h1 h2 n0 e1 e2 w
 ·exact size_s m b ah al e h1 h2 n0 e1 e2 w
def clamp (e : Int) : Int := min (max e (-4000)) 4000
theorem clamp_lo (e : Int) : -4000 ≤ clamp e := by unfold clamp; omega
theorem clamp_hi (e : Int) : clamp e ≤ 4000 := by unfold clamp; omega
theorem clamp_id {e : Int} (h : -4000 ≤ e) (h' : e ≤ 4000) : clamp e = e := by unfold clamp; omega
theorem fI_pos (s : Bool) : 0 ≤ fI s := by cases s <;> decide
theorem eq2_zero {h l : Int} (a : Word h) (b : Word l) : eq2 h l 0 0 = decide (nn h l = 0) := by
 rw [eq2_num a b word_zero word_zero, decide_eq_decide]
 have := nn_num a b
 have z : num 0 0 = 0 := rfl
 omega
def FmtAt (w : World) (k : Nat) (s : Bool) : Prop := w.cell? ⟨k, 0, none⟩ = some (.int .i64 (fW s)) ∧ w.cell? ⟨k, 1, none⟩ = some (.int .i64 (fQ s)) ∧ w.cell? ⟨k, 2, none⟩ = some (.int .i64 (fL s)) ∧ w.cell? ⟨k, 3, none⟩ = some (.int .u64 (fS s)) ∧ w.cell? ⟨k, 4, none⟩ = some (.int .u64 (fI s))
theorem FmtAt.on {W w1 : World} {k : Nat} {s : Bool} (h : FmtAt W k s) (hb : Below W.heap.size W w1) : FmtAt w1 k s := by
 obtain ⟨a, b, c, d, e⟩ := h
 exact ⟨cell_on hb a, cell_on hb b, cell_on hb c, cell_on hb d, cell_on hb e⟩
theorem FmtAt.past {W : World} {k : Nat} {s : Bool} (h : FmtAt W k s) (o : Obj) : FmtAt (W.alloc o) k s := by
 obtain ⟨a, b, c, d, e⟩ := h
 exact ⟨cell_past a o, cell_past b o, cell_past c o, cell_past d o, cell_past e o⟩
theorem FmtAt.new (W : World) (s : Bool) : FmtAt (W.alloc (fmtO s)) W.heap.size s := by
 rw [fmtO_eq]
 unfold FmtAt
 simp [go_sem]
theorem FmtAt.drew {W : World} {k : Nat} {s : Bool} (h : FmtAt W k s) : FmtAt W.drew k s := h
theorem FmtAt.lt {W : World} {k : Nat} {s : Bool} (h : FmtAt W k s) : k < W.heap.size := lt_new h.1
theorem frozen_past {w1 : World} {b o : Nat} (h : b < w1.heap.size) (f : w1.frozen? ⟨b, o, none⟩ = false) (x : Obj) : (w1.alloc x).frozen? ⟨b, o, none⟩ = false :=
 ((bcell ((Below.refl w1.heap.size w1).alloc (Nat.le_refl _) x)).2 _ _ h).trans f
theorem set2_cell {w : World} {b c o : Nat} {u : Value} (x y : Value) (h : b ≠ c) (c0 : w.cell? ⟨c, o, none⟩ = some u) :
  ((w.setCell ⟨b, 0, none⟩ x).setCell ⟨b, 1, none⟩ y).cell? ⟨c, o, none⟩ = some u :=
 (World.cell?_setCell_other _ _ _ _ (by simp [h])).trans ((World.cell?_setCell_other _ _ _ _ (by simp [h])).trans c0)
set_option maxRecDepth 8000 in
set_option maxHeartbeats 3200000 in
theorem round_any (f m : Int) (b : Bool) (ah al e : Int) (more : Bool) (h1 : Word ah) (h2 : Word al) (e1 : -9223372036854775808 ≤ e) (e2 : e ≤ 9223372036854775807) (w : World) :
  Calls Tryz.prog 102 #[.int .i64 f, .int .i64 m, .bool b, .agg #[.int .u64 ah, .int .u64 al], .int .i64 e, .bool more] w fun r w' => r = .returned (.int .u64 (rndQ (f == 1) m b (nn ah al) (clamp e) more)) ∧ Below w.heap.size w w' := by
 have hq := eql_u128
 have hfo := formatOf_any f
 generalize (f == 1) = s at *
 have hsg0 := signed_any s b 0 (Int.le_refl 0) (fI_pos s)
 have hV : ∃ V : Int, rndQ s m b (nn ah al) (clamp e) more = V := ⟨_, rfl⟩
 obtain ⟨V, hV⟩ := hV
 rw [hV]
 have HV : Hid _ := hV
 clear hV
 have hcl : min (max e (-4000)) 4000 = clamp e := rfl
 have hc1 := clamp_lo e
 have hc2 := clamp_hi e
 have hwq := withQuarter_any ah al (clamp e) h1 h2 hc1 hc2
 generalize clamp e = x at *
 rw [fmtV_eq] at hfo
 have L := (Below.refl w.heap.size w).alloc (Nat.le_refl _) (.cells #[.int .u64 ah, .int .u64 al] 139)
 go_enter Tryz.func102, Tryz.ntmps102
 go_wp2_with fail
 refine (hfo _).mono ?_
 rintro r w1 ⟨rfl, hb1⟩
 have c0 := cell_on hb1 (cell_new0 w (.int .u64 ah) (.int .u64 al) 139)
 have c1 := cell_on hb1 (cell_new1 w (.int .u64 ah) (.int .u64 al) 139)
 have f0 : w1.frozen? ⟨w.heap.size, 0, none⟩ = false := by rw [(bcell hb1).2 _ _ (by simp)]; simp [go_sem]
 have f1 : w1.frozen? ⟨w.heap.size, 1, none⟩ = false := by rw [(bcell hb1).2 _ _ (by simp)]; simp [go_sem]
 have z0 := lt_new c0
 replace L := below_call L hb1
 obtain ⟨y0, y1, y2, y3, y4⟩ := FmtAt.new w1 s
 replace L := below_new L (fmtO s)
 replace c0 := cell_past c0 (fmtO s); replace c1 := cell_past c1 (fmtO s)
 rw [fmtO_eq] at y0 y1 y2 y3 y4 L c0 c1
 rw [fmtV_eq] at hsg0
 cases more
 ·rw [rndQ_false] at HV
  by_cases c : nn ah al = 0
  ·have hz : eq2 ah al 0 0 = true := by rw [eq2_zero h1 h2]; simp [c]
   have v := HV.out
   rw [c, rnd_zero] at v
   subst v
   go_wp2_with fail
   refine (hsg0 _).mono ?_
   rintro r w' ⟨rfl, rfl⟩
   go_wp2_with fail
   go_ret
   exact ⟨rfl, below_new L _⟩
  ·have hz : eq2 ah al 0 0 = false := by rw [eq2_zero h1 h2]; simp [c]
   have v := HV.out
   obtain ⟨g, hg, hg2⟩ := mag_any s m b c x
   have hsz := size_any s m b ah al x h1 h2 c (by omega) (by omega)
   unfold rnd at v
   rw [if_neg c, hg] at v
   rw [hg, fmtV_eq] at hsz
   have hsg := signed_any s b g (Int.natCast_nonneg g) hg2
   rw [v, fmtV_eq] at hsg
   have hrd := roundingOf_any m
   unfold rdV at hsz hrd
   generalize (g : Int) = G at *
   clear v HV hsg0 hg hg2
   go_wp2_with fail
   go_region_held3 (fun w' => w'.cell? ⟨w1.heap.size, 0, none⟩ = some (.int .i64 (fW s)) ∧ w'.cell? ⟨w1.heap.size, 1, none⟩ = some (.int .i64 (fQ s)) ∧ w'.cell? ⟨w1.heap.size, 2, none⟩ = some (.int .i64 (fL s)) ∧ w'.cell? ⟨w1.heap.size, 3, none⟩ = some (.int .u64 (fS s)) ∧ w'.cell? ⟨w1.heap.size, 4, none⟩ = some (.int .u64 (fI s)) ∧ w'.cell? ⟨w.heap.size, 0, none⟩ = some (.int .u64 ah) ∧ w'.cell? ⟨w.heap.size, 1, none⟩ = some (.int .u64 al))
    (first | exact ⟨y0, y1, y2, y3, y4, c0, c1⟩ | (simp [go_sem, *]; done))
    (first
     | (go_at_call 153; refine (hrd _).mono ?_; rintro r w2 ⟨rfl, rfl⟩; replace y0 := cell_past y0 (rdO m); replace y1 := cell_past y1 (rdO m); replace y2 := cell_past y2 (rdO m); replace y3 := cell_past y3 (rdO m); replace y4 := cell_past y4 (rdO m); replace c0 := cell_past c0 (rdO m); replace c1 := cell_past c1 (rdO m); replace L := below_new L.drew (rdO m))
     | (go_at_call 152; refine (hsz _).mono ?_; rintro r w3 ⟨rfl, hb3⟩; replace y0 := cell_on hb3 y0; replace y1 := cell_on hb3 y1; replace y2 := cell_on hb3 y2; replace y3 := cell_on hb3 y3; replace y4 := cell_on hb3 y4; replace c0 := cell_on hb3 c0; replace c1 := cell_on hb3 c1; replace L := below_call L hb3)
     | (go_at_call 114; refine (hsg _).mono ?_; rintro r w4 ⟨rfl, rfl⟩; replace y0 := cell_past y0 (fmtO s); replace y1 := cell_past y1 (fmtO s); replace y2 := cell_past y2 (fmtO s); replace y3 := cell_past y3 (fmtO s); replace y4 := cell_past y4 (fmtO s); replace c0 := cell_past c0 (fmtO s); replace c1 := cell_past c1 (fmtO s); replace L := below_new L (fmtO s)))
   go_wp2_with fail
   go_ret
   exact ⟨rfl, L⟩
 ·go_wp2_with fail
  refine (hwq _).mono ?_
  rintro r w2 ⟨h, l, x', rfl, wh, wl, x1, x2, N0, RQ, hb2⟩
  have g0 : w2.frozen? ⟨w.heap.size, 0, none⟩ = false := by exact ((bcell hb2).2 _ _ (by simp; omega)).trans (frozen_past z0 f0 _)
  have g1 : w2.frozen? ⟨w.heap.size, 1, none⟩ = false := by exact ((bcell hb2).2 _ _ (by simp; omega)).trans (frozen_past z0 f1 _)
  replace y0 := cell_on hb2 y0; replace y1 := cell_on hb2 y1; replace y2 := cell_on hb2 y2; replace y3 := cell_on hb2 y3; replace y4 := cell_on hb2 y4; replace c0 := cell_on hb2 c0; replace c1 := cell_on hb2 c1
  replace L := below_call L hb2
  have HV2 : Hid _ := (RQ.out s m b).trans HV.out
  clear HV RQ N0 hwq hb2 f0 f1 hb1 hfo
  go_upto_region 5 with fail
  obtain ⟨q0, q1⟩ := set2_in (w := w2) (b := w.heap.size) (.int .u64 h) (.int .u64 l) c0 c1
  have q2 := set2_cell (w := w2) (b := w.heap.size) (.int .u64 h) (.int .u64 l) (by omega) y0
  have q3 := set2_cell (w := w2) (b := w.heap.size) (.int .u64 h) (.int .u64 l) (by omega) y1
  have q4 := set2_cell (w := w2) (b := w.heap.size) (.int .u64 h) (.int .u64 l) (by omega) y2
  have q5 := set2_cell (w := w2) (b := w.heap.size) (.int .u64 h) (.int .u64 l) (by omega) y3
  have q6 := set2_cell (w := w2) (b := w.heap.size) (.int .u64 h) (.int .u64 l) (by omega) y4
  have q7 : Below w.heap.size w ((w2.setCell ⟨w.heap.size, 0, none⟩ (.int .u64 h)).setCell ⟨w.heap.size, 1, none⟩ (.int .u64 l)) := (L.setCell (Nat.le_refl _) _).setCell (Nat.le_refl _) _
  generalize (w2.setCell ⟨w.heap.size, 0, none⟩ (.int .u64 h)).setCell ⟨w.heap.size, 1, none⟩ (.int .u64 l) = W at *
  clear c0 c1 y0 y1 y2 y3 y4 g0 g1 L
  have c0 := q0; have c1 := q1; have y0 := q2; have y1 := q3; have y2 := q4; have y3 := q5; have y4 := q6; have L := q7
  clear q0 q1 q2 q3 q4 q5 q6 q7
  have HV := HV2
  clear HV2
  by_cases c : nn h l = 0
  ·have hz : eq2 h l 0 0 = true := by rw [eq2_zero wh wl]; simp [c]
   have v := HV.out
   rw [c, rnd_zero] at v
   subst v
   go_wp2_with fail
   refine (hsg0 _).mono ?_
   rintro r w' ⟨rfl, rfl⟩
   go_wp2_with fail
   go_ret
   exact ⟨rfl, below_new L _⟩
  ·have hz : eq2 h l 0 0 = false := by rw [eq2_zero wh wl]; simp [c]
   have v := HV.out
   obtain ⟨g, hg, hg2⟩ := mag_any s m b c x'
   have hsz := size_any s m b h l x' wh wl c (by omega) (by omega)
   unfold rnd at v
   rw [if_neg c, hg] at v
   rw [hg, fmtV_eq] at hsz
   have hsg := signed_any s b g (Int.natCast_nonneg g) hg2
   rw [v, fmtV_eq] at hsg
   have hrd := roundingOf_any m
   unfold rdV at hsz hrd
   generalize (g : Int) = G at *
   clear v HV hsg0 hg hg2
   go_wp2_with fail
   go_region_held3 (fun w' => w'.cell? ⟨w1.heap.size, 0, none⟩ = some (.int .i64 (fW s)) ∧ w'.cell? ⟨w1.heap.size, 1, none⟩ = some (.int .i64 (fQ s)) ∧ w'.cell? ⟨w1.heap.size, 2, none⟩ = some (.int .i64 (fL s)) ∧ w'.cell? ⟨w1.heap.size, 3, none⟩ = some (.int .u64 (fS s)) ∧ w'.cell? ⟨w1.heap.size, 4, none⟩ = some (.int .u64 (fI s)) ∧ w'.cell? ⟨w.heap.size, 0, none⟩ = some (.int .u64 h) ∧ w'.cell? ⟨w.heap.size, 1, none⟩ = some (.int .u64 l))
    (first | exact ⟨y0, y1, y2, y3, y4, c0, c1⟩ | (simp [go_sem, *]; done))
    (first
     | (go_at_call 153; refine (hrd _).mono ?_; rintro r w2 ⟨rfl, rfl⟩; replace y0 := cell_past y0 (rdO m); replace y1 := cell_past y1 (rdO m); replace y2 := cell_past y2 (rdO m); replace y3 := cell_past y3 (rdO m); replace y4 := cell_past y4 (rdO m); replace c0 := cell_past c0 (rdO m); replace c1 := cell_past c1 (rdO m); replace L := below_new L.drew (rdO m))
     | (go_at_call 152; refine (hsz _).mono ?_; rintro r w3 ⟨rfl, hb3⟩; replace y0 := cell_on hb3 y0; replace y1 := cell_on hb3 y1; replace y2 := cell_on hb3 y2; replace y3 := cell_on hb3 y3; replace y4 := cell_on hb3 y4; replace c0 := cell_on hb3 c0; replace c1 := cell_on hb3 c1; replace L := below_call L hb3)
     | (go_at_call 114; refine (hsg _).mono ?_; rintro r w4 ⟨rfl, rfl⟩; replace y0 := cell_past y0 (fmtO s); replace y1 := cell_past y1 (fmtO s); replace y2 := cell_past y2 (fmtO s); replace y3 := cell_past y3 (fmtO s); replace y4 := cell_past y4 (fmtO s); replace c0 := cell_past c0 (fmtO s); replace c1 := cell_past c1 (fmtO s); replace L := below_new L (fmtO s)))
   go_wp2_with fail
   go_ret
   exact ⟨rfl, L⟩
end Go.Proofs.YteafnkimcidkhaaGreat
namespace Go.Proofs.YteafnkimcidkhaaGreat
open Go.RowKit
set_option linter.unusedVariables false
set_option linter.unusedSimpArgs false
def Fin (s : Bool) (u p : Int) : Prop := 0 ≤ u ∧ u < 2 ^ (fP s + 1) ∧ fL s ≤ p ∧ p ≤ 2000 ∧ (fL s < p → 2 ^ fP s ≤ u)
theorem Fin.word {s : Bool} {u p : Int} (h : Fin s u p) : Word u := by
 obtain ⟨a, b, _⟩ := h
 cases s
 ·exact ⟨a, Int.lt_trans b (by decide)⟩
 ·exact ⟨a, Int.lt_trans b (by decide)⟩
theorem Fin.lt53 {s : Bool} {u p : Int} (h : Fin s u p) : u < 9007199254740992 := by
 obtain ⟨a, b, _⟩ := h
 cases s
 ·exact b
 ·exact Int.lt_trans b (by decide)
theorem Fin.low {s : Bool} {u p : Int} (h : Fin s u p) : -1074 ≤ p := by
 obtain ⟨_, _, c, _⟩ := h
 cases s
 ·exact c
 ·exact Int.le_trans (by decide) c
theorem Fin.nat {s : Bool} {u p : Int} (h : Fin s u p) : u.toNat < 2 ^ (fP s + 1) ∧ (fL s < p → 2 ^ fP s ≤ u.toNat) := by
 obtain ⟨a, b, c, d, e⟩ := h
 refine ⟨?_, fun g => ?_⟩
 ·rw [pow_cast] at b; omega
 ·have := e g; rw [pow_cast] at this; omega
theorem nn_low (u : Int) (h : Word u) : nn 0 u = u.toNat := by unfold nn num; congr 1; omega
theorem up70 {u h l d : Int} (hu : 0 ≤ u) (hu2 : u < 9007199254740992) (d0 : 0 ≤ d) (d1 : d ≤ 70) (wh : Word h) (wl : Word l)
  (E : num h l = num 0 u * 2 ^ d.toNat % 340282366920938463463374607431768211456) : nn h l = u.toNat * 2 ^ d.toNat ∧ num h l < 2 ^ 123 := by
 have e := nn_num wh wl
 have p : 2 ^ d.toNat ≤ 2 ^ 70 := Nat.pow_le_pow_right (by decide) (by omega)
 obtain ⟨n, rfl⟩ := Int.eq_ofNat_of_zero_le hu
 have z : num 0 (n : Int) = (n : Int) := by unfold num; omega
 rw [z, pow_cast, ← Int.natCast_mul] at E
 have q : n * 2 ^ d.toNat < 2 ^ 53 * 2 ^ 70 := Nat.mul_lt_mul_of_lt_of_le (by omega) p (by decide)
 rw [Int.toNat_natCast]
 generalize n * 2 ^ d.toNat = M at *
 have : (2 : Int) ^ 123 = ((2 ^ 123 : Nat) : Int) := by simp
 omega
theorem sub_nat {ah al bh bl sh sl : Int} (w1 : Word ah) (w2 : Word al) (w3 : Word bh) (w4 : Word bl) (w5 : Word sh) (w6 : Word sl) (E : num sh sl = (num ah al - num bh bl) % 340282366920938463463374607431768211456) (h : nn bh bl ≤ nn ah al) :
  nn sh sl = nn ah al - nn bh bl := by
 have a := nn_num w1 w2
 have b := nn_num w3 w4
 have c := nn_num w5 w6
 have d := num_hi w1 w2
 omega
theorem ru_eq {a b : Int} (h : a = b) : Ending.returned (Value.int IntKind.u64 a) = .returned (.int .u64 b) := by rw [h]
set_option maxRecDepth 8000 in
set_option maxHeartbeats 1600000 in
theorem sum_up (f m : Int) (k1 : Int) (g1 : Bool) (u1 p1 k2 : Int) (g2 : Bool) (u2 p2 : Int) (H1 : Fin (f == 1) u1 p1) (H2 : Fin (f == 1) u2 p2) (hp : p2 ≤ p1) (w : World) :
  Calls Tryz.prog 112 #[.int .i64 f, .int .i64 m, prt k1 g1 u1 p1, prt k2 g2 u2 p2] w fun r w' => r = .returned (.int .u64 (sumT (f == 1) m g1 u1.toNat p1 g2 u2.toNat p2)) ∧ Below w.heap.size w w' := by
 have hrd := fun b h l e wh wl e1 e2 => round_any f m b h l e false wh wl e1 e2
 generalize (f == 1) = s at *
 have a1 := H1.word; have a2 := H1.lt53; have a3 := H1.low; obtain ⟨a4, a5⟩ := H1.nat
 have b1 := H2.word; have b2 := H2.lt53; have b3 := H2.low; obtain ⟨b4, b5⟩ := H2.nat
 have a6 := H1.2.2.2.1
 have b6 := H2.2.2.2.1
 have r1 := raised_ge p1 p2 hp
 have r2 : raised p1 p2 ≤ 2000 := by omega
 have r3 : -1074 ≤ raised p1 p2 := by unfold raised; omega
 have hm : max p2 (p1 - 70) = raised p1 p2 := rfl
 have T1 := sum_same s m g1 u1.toNat u2.toNat p1 p2 hp a5 b4 H2.2.2.1
 have T2 := fun (e : g1 ≠ g2) => sum_more s m g1 g2 u1.toNat u2.toNat p1 p2 e hp a5 b4 H2.2.2.1
 have T3 := fun (e : g1 ≠ g2) => sum_gone s m g1 g2 u1.toNat u2.toNat p1 p2 (raised p1 p2) e hp a5 b4 H2.2.2.1
 have T4 := fun (e : g1 ≠ g2) => sum_less s m g1 g2 u1.toNat u2.toNat p1 p2 e hp a5 b4 H2.2.2.1
 have U : Hid _ := T1; have U2 : Hid _ := T2; have U3 : Hid _ := T3; have U4 : Hid _ := T4
 clear T1 T2 T3 T4
 generalize raised p1 p2 = q at *
 have q1 : -9223372036854775808 ≤ q := by omega
 have q2 : q ≤ 9223372036854775807 := by omega
 have q3 : clamp q = q := clamp_id (by omega) (by omega)
 have Q3 : Hid _ := q3
 clear q3
 have hV : ∃ V : Int, sumT s m g1 u1.toNat p1 g2 u2.toNat p2 = V := ⟨_, rfl⟩
 obtain ⟨V, hV⟩ := hV
 rw [hV]
 have HV : Hid _ := hV
 clear hV
 have hsh := shl_any 0 u1 (p1 - q) word_zero a1 (by omega) (by omega)
 have L := below_two w (prtO k1 g1 u1 p1) (prtO k2 g2 u2 q)
 unfold prt
 unfold prtO at L
 have hp' : ¬ p1 < p2 := by omega
 go_enter Tryz.func112, Tryz.ntmps112
 go_wp2_with fail
 refine (hsh _).mono ?_
 rintro r w1 ⟨ah, al, rfl, wa, wb, E, hb1⟩
 obtain ⟨N1, lt1⟩ := up70 a1.1 a2 r1.1 r1.2 wa wb E.out
 have n1 := nn_num wa wb
 have n2 := nn_low u2 b1
 have n3 := nn_num word_zero b1
 have B1 := b1.1
 have M1 : Hid _ := N1
 have M2 : Hid _ := n1
 have M3 : Hid _ := n2
 have M4 : Hid _ := n3
 have x1 : w1.cell? ⟨w.heap.size, 1, none⟩ = some (.bool g1) := by rw [(bcell hb1).1 _ _ (by simp; omega)]; simp [go_sem]
 have y1 : w1.cell? ⟨w.heap.size + 1, 1, none⟩ = some (.bool g2) := by rw [(bcell hb1).1 _ _ (by simp)]; simp [go_sem]
 have y2 : w1.cell? ⟨w.heap.size + 1, 2, none⟩ = some (.int .u64 u2) := by rw [(bcell hb1).1 _ _ (by simp)]; simp [go_sem]
 have y3 : w1.cell? ⟨w.heap.size + 1, 3, none⟩ = some (.int .i64 q) := by rw [(bcell hb1).1 _ _ (by simp)]; simp [go_sem]
 have z1 := lt_new x1
 have z2 := lt_new y1
 replace L := below_call L hb1
 clear E hb1 hsh N1 n1 n2 n3
 by_cases c : g1 = g2
 ·subst c
  have c' : (g1 == g1) = true := by simp
  go_wp2_with fail
  refine (add_any ah al 0 u2 wa wb word_zero b1 _).mono ?_
  rintro r w2 ⟨sh, sl, sc, rfl, ws, wt, E2, _, hb2⟩
  have N2 : nn sh sl = u1.toNat * 2 ^ (p1 - q).toNat + u2.toNat := by
   have e2 := E2.out
   rw [← nn_num ws wt, ← M2.out, ← M4.out, M3.out] at e2
   rw [← M1.out]
   have l := lt1
   rw [← M2.out, pow_cast] at l
   omega
  have W2 : Hid _ := N2
  clear N2 E2
  replace x1 := cell_on hb2 (cell_past (cell_past x1 _) _)
  replace y3 := cell_on hb2 (cell_past (cell_past y3 _) _)
  replace L := below_call (below_new (below_new L _) _) hb2
  have z1 := lt_new x1
  have z2 := lt_new y3
  go_wp2_with fail
  refine (hrd g1 sh sl q ws wt q1 q2 _).mono ?_
  rintro r w3 ⟨rfl, hb3⟩
  replace L := below_call (below_new L _) hb3
  go_wp2_with fail
  go_ret
  exact ⟨ru_eq (by rw [Q3.out, rndQ_false, W2.out, U.out]; exact HV.out), L⟩
 ·have c' : (g1 == g2) = false := by simp [c]
  go_wp2_with fail
  refine (cmp_any ah al 0 u2 wa wb word_zero b1 _).mono ?_
  rintro r w2 ⟨n, rfl, E2, hb2⟩
  have a0 := cell_on hb2 (cell_past (cell_new0 w1 (.int .u64 ah) (.int .u64 al) 139) _)
  have aa := cell_on hb2 (cell_past (cell_new1 w1 (.int .u64 ah) (.int .u64 al) 139) _)
  have d0 : w2.cell? ⟨w1.heap.size + 1, 0, none⟩ = some (.int .u64 0) := by rw [(bcell hb2).1 _ _ (by simp)]; simp [go_sem]
  have d1 : w2.cell? ⟨w1.heap.size + 1, 1, none⟩ = some (.int .u64 u2) := by rw [(bcell hb2).1 _ _ (by simp)]; simp [go_sem]
  have f0 : w2.frozen? ⟨w1.heap.size, 0, none⟩ = false := by rw [(bcell hb2).2 _ _ (by simp; omega)]; simp [go_sem]
  have f1 : w2.frozen? ⟨w1.heap.size, 1, none⟩ = false := by rw [(bcell hb2).2 _ _ (by simp; omega)]; simp [go_sem]
  have h0 : w2.frozen? ⟨w1.heap.size + 1, 0, none⟩ = false := by rw [(bcell hb2).2 _ _ (by simp)]; simp [go_sem]
  have h1 : w2.frozen? ⟨w1.heap.size + 1, 1, none⟩ = false := by rw [(bcell hb2).2 _ _ (by simp)]; simp [go_sem]
  replace x1 := cell_on hb2 (cell_past (cell_past x1 _) _)
  replace y1 := cell_on hb2 (cell_past (cell_past y1 _) _)
  replace y3 := cell_on hb2 (cell_past (cell_past y3 _) _)
  replace L := below_call (below_new (below_new L _) _) hb2
  have y9 := L.size
  clear hb2
  have E3 := E2.out
  rw [← M2.out, ← M4.out, M1.out, M3.out] at E3
  clear E2
  unfold cmpN at E3
  have C : (n = 0 ∧ u2.toNat = u1.toNat * 2 ^ (p1 - q).toNat) ∨ (n = 1 ∧ u2.toNat < u1.toNat * 2 ^ (p1 - q).toNat) ∨ (n = -1 ∧ u1.toNat * 2 ^ (p1 - q).toNat < u2.toNat) := by
   split at E3
   ·right; right; exact ⟨E3, by omega⟩
   ·split at E3
    ·right; left; exact ⟨E3, by omega⟩
    ·left; exact ⟨E3, by omega⟩
  clear E3
  rcases C with ⟨rfl, C⟩ | ⟨rfl, C⟩ | ⟨rfl, C⟩
  ·have HC : Hid _ := C
   clear C
   go_wp2_with fail
   refine (sub_any ah al 0 u2 wa wb word_zero b1 _).mono ?_
   rintro r w3 ⟨sh, sl, sc, rfl, ws, wt, E4, _, hb3⟩
   have D1 : Hid _ := sub_nat wa wb word_zero b1 ws wt E4.out (by rw [M1.out, M3.out]; exact Nat.le_of_eq HC.out)
   clear E4
   replace y3 := cell_on hb3 y3
   replace L := below_call L hb3
   have z3 := lt_new y3
   clear hb3
   go_wp2_with fail
   refine (hrd (m == 2) sh sl q ws wt q1 q2 _).mono ?_
   rintro r w4 ⟨rfl, hb4⟩
   replace L := below_call (below_new L _) hb4
   go_wp2_with fail
   go_ret
   exact ⟨ru_eq (by rw [Q3.out, rndQ_false, D1.out, M1.out, M3.out, HC.out, Nat.sub_self]; exact (U3.out c HC.out).trans HV.out), L⟩
  ·have HC : Hid _ := C
   clear C
   go_wp2_with fail
   refine (sub_any ah al 0 u2 wa wb word_zero b1 _).mono ?_
   rintro r w3 ⟨sh, sl, sc, rfl, ws, wt, E4, _, hb3⟩
   have D1 : Hid _ := sub_nat wa wb word_zero b1 ws wt E4.out (by rw [M1.out, M3.out]; exact Nat.le_of_lt HC.out)
   clear E4
   replace y3 := cell_on hb3 y3
   replace L := below_call L hb3
   have z3 := lt_new y3
   clear hb3
   go_wp2_with fail
   refine (hrd g1 sh sl q ws wt q1 q2 _).mono ?_
   rintro r w4 ⟨rfl, hb4⟩
   replace L := below_call (below_new L _) hb4
   go_wp2_with fail
   go_ret
   exact ⟨ru_eq (by rw [Q3.out, rndQ_false, D1.out, M1.out, M3.out]; exact (U2.out c HC.out).trans HV.out), L⟩
  ·have HC : Hid _ := C
   clear C
   go_wp2_with fail
   go_region
   go_wp2_with fail
   clear a0 aa d0 d1 f0 f1 h0 h1
   refine (sub_any 0 u2 ah al word_zero b1 wa wb _).mono ?_
   rintro r w3 ⟨sh, sl, sc, rfl, ws, wt, E4, _, hb3⟩
   have D1 : Hid _ := sub_nat word_zero b1 wa wb ws wt E4.out (by rw [M1.out, M3.out]; exact Nat.le_of_lt HC.out)
   clear E4
   replace y3 := cell_on hb3 (set2_cell (b := w1.heap.size + 1) _ _ (by omega) (set2_cell (b := w1.heap.size) _ _ (by omega) y3))
   replace L := below_call ((((L.setCell (Nat.le_of_lt z1) _).setCell (Nat.le_of_lt z1) _).setCell (Nat.le_succ_of_le (Nat.le_of_lt z1)) _).setCell (Nat.le_succ_of_le (Nat.le_of_lt z1)) _).drew hb3
   have z3 := lt_new y3
   clear hb3
   go_wp2_with fail
   refine (hrd g2 sh sl q ws wt q1 q2 _).mono ?_
   rintro r w4 ⟨rfl, hb4⟩
   replace L := below_call (below_new L _) hb4
   go_wp2_with fail
   go_ret
   exact ⟨ru_eq (by rw [Q3.out, rndQ_false, D1.out, M1.out, M3.out]; exact (U4.out c HC.out).trans HV.out), L⟩
set_option maxRecDepth 8000 in
set_option maxHeartbeats 1600000 in
theorem sum_down (f m : Int) (k1 : Int) (g1 : Bool) (u1 p1 k2 : Int) (g2 : Bool) (u2 p2 : Int) (H1 : Fin (f == 1) u1 p1) (H2 : Fin (f == 1) u2 p2) (hp0 : p2 < p1) (w : World) :
  Calls Tryz.prog 112 #[.int .i64 f, .int .i64 m, prt k2 g2 u2 p2, prt k1 g1 u1 p1] w fun r w' => r = .returned (.int .u64 (sumT (f == 1) m g2 u2.toNat p2 g1 u1.toNat p1)) ∧ Below w.heap.size w w' := by
 rw [sumT_swap]
 have hp : p2 ≤ p1 := by omega
 have hrd := fun b h l e wh wl e1 e2 => round_any f m b h l e false wh wl e1 e2
 generalize (f == 1) = s at *
 have a1 := H1.word; have a2 := H1.lt53; have a3 := H1.low; obtain ⟨a4, a5⟩ := H1.nat
 have b1 := H2.word; have b2 := H2.lt53; have b3 := H2.low; obtain ⟨b4, b5⟩ := H2.nat
 have a6 := H1.2.2.2.1
 have b6 := H2.2.2.2.1
 have r1 := raised_ge p1 p2 hp
 have r2 : raised p1 p2 ≤ 2000 := by omega
 have r3 : -1074 ≤ raised p1 p2 := by unfold raised; omega
 have hm : max p2 (p1 - 70) = raised p1 p2 := rfl
 have T1 := sum_same s m g1 u1.toNat u2.toNat p1 p2 hp a5 b4 H2.2.2.1
 have T2 := fun (e : g1 ≠ g2) => sum_more s m g1 g2 u1.toNat u2.toNat p1 p2 e hp a5 b4 H2.2.2.1
 have T3 := fun (e : g1 ≠ g2) => sum_gone s m g1 g2 u1.toNat u2.toNat p1 p2 (raised p1 p2) e hp a5 b4 H2.2.2.1
 have T4 := fun (e : g1 ≠ g2) => sum_less s m g1 g2 u1.toNat u2.toNat p1 p2 e hp a5 b4 H2.2.2.1
 have U : Hid _ := T1; have U2 : Hid _ := T2; have U3 : Hid _ := T3; have U4 : Hid _ := T4
 clear T1 T2 T3 T4
 generalize raised p1 p2 = q at *
 have q1 : -9223372036854775808 ≤ q := by omega
 have q2 : q ≤ 9223372036854775807 := by omega
 have q3 : clamp q = q := clamp_id (by omega) (by omega)
 have Q3 : Hid _ := q3
 clear q3
 have hV : ∃ V : Int, sumT s m g1 u1.toNat p1 g2 u2.toNat p2 = V := ⟨_, rfl⟩
 obtain ⟨V, hV⟩ := hV
 rw [hV]
 have HV : Hid _ := hV
 clear hV
 have hsh := shl_any 0 u1 (p1 - q) word_zero a1 (by omega) (by omega)
 have L := below_two w (prtO k1 g1 u1 p1) (prtO k2 g2 u2 q)
 unfold prt
 unfold prtO at L
 go_enter Tryz.func112, Tryz.ntmps112
 go_wp2_with fail
 refine (hsh _).mono ?_
 rintro r w1 ⟨ah, al, rfl, wa, wb, E, hb1⟩
 obtain ⟨N1, lt1⟩ := up70 a1.1 a2 r1.1 r1.2 wa wb E.out
 have n1 := nn_num wa wb
 have n2 := nn_low u2 b1
 have n3 := nn_num word_zero b1
 have B1 := b1.1
 have M1 : Hid _ := N1
 have M2 : Hid _ := n1
 have M3 : Hid _ := n2
 have M4 : Hid _ := n3
 have x1 : w1.cell? ⟨w.heap.size, 1, none⟩ = some (.bool g1) := by rw [(bcell hb1).1 _ _ (by simp; omega)]; simp [go_sem]
 have y1 : w1.cell? ⟨w.heap.size + 1, 1, none⟩ = some (.bool g2) := by rw [(bcell hb1).1 _ _ (by simp)]; simp [go_sem]
 have y2 : w1.cell? ⟨w.heap.size + 1, 2, none⟩ = some (.int .u64 u2) := by rw [(bcell hb1).1 _ _ (by simp)]; simp [go_sem]
 have y3 : w1.cell? ⟨w.heap.size + 1, 3, none⟩ = some (.int .i64 q) := by rw [(bcell hb1).1 _ _ (by simp)]; simp [go_sem]
 have z1 := lt_new x1
 have z2 := lt_new y1
 replace L := below_call L hb1
 clear E hb1 hsh N1 n1 n2 n3
 by_cases c : g1 = g2
 ·subst c
  have c' : (g1 == g1) = true := by simp
  go_wp2_with fail
  refine (add_any ah al 0 u2 wa wb word_zero b1 _).mono ?_
  rintro r w2 ⟨sh, sl, sc, rfl, ws, wt, E2, _, hb2⟩
  have N2 : nn sh sl = u1.toNat * 2 ^ (p1 - q).toNat + u2.toNat := by
   have e2 := E2.out
   rw [← nn_num ws wt, ← M2.out, ← M4.out, M3.out] at e2
   rw [← M1.out]
   have l := lt1
   rw [← M2.out, pow_cast] at l
   omega
  have W2 : Hid _ := N2
  clear N2 E2
  replace x1 := cell_on hb2 (cell_past (cell_past x1 _) _)
  replace y3 := cell_on hb2 (cell_past (cell_past y3 _) _)
  replace L := below_call (below_new (below_new L _) _) hb2
  have z1 := lt_new x1
  have z2 := lt_new y3
  go_wp2_with fail
  refine (hrd g1 sh sl q ws wt q1 q2 _).mono ?_
  rintro r w3 ⟨rfl, hb3⟩
  replace L := below_call (below_new L _) hb3
  go_wp2_with fail
  go_ret
  exact ⟨ru_eq (by rw [Q3.out, rndQ_false, W2.out, U.out]; exact HV.out), L⟩
 ·have c' : (g1 == g2) = false := by simp [c]
  go_wp2_with fail
  refine (cmp_any ah al 0 u2 wa wb word_zero b1 _).mono ?_
  rintro r w2 ⟨n, rfl, E2, hb2⟩
  have a0 := cell_on hb2 (cell_past (cell_new0 w1 (.int .u64 ah) (.int .u64 al) 139) _)
  have aa := cell_on hb2 (cell_past (cell_new1 w1 (.int .u64 ah) (.int .u64 al) 139) _)
  have d0 : w2.cell? ⟨w1.heap.size + 1, 0, none⟩ = some (.int .u64 0) := by rw [(bcell hb2).1 _ _ (by simp)]; simp [go_sem]
  have d1 : w2.cell? ⟨w1.heap.size + 1, 1, none⟩ = some (.int .u64 u2) := by rw [(bcell hb2).1 _ _ (by simp)]; simp [go_sem]
  have f0 : w2.frozen? ⟨w1.heap.size, 0, none⟩ = false := by rw [(bcell hb2).2 _ _ (by simp; omega)]; simp [go_sem]
  have f1 : w2.frozen? ⟨w1.heap.size, 1, none⟩ = false := by rw [(bcell hb2).2 _ _ (by simp; omega)]; simp [go_sem]
  have h0 : w2.frozen? ⟨w1.heap.size + 1, 0, none⟩ = false := by rw [(bcell hb2).2 _ _ (by simp)]; simp [go_sem]
  have h1 : w2.frozen? ⟨w1.heap.size + 1, 1, none⟩ = false := by rw [(bcell hb2).2 _ _ (by simp)]; simp [go_sem]
  replace x1 := cell_on hb2 (cell_past (cell_past x1 _) _)
  replace y1 := cell_on hb2 (cell_past (cell_past y1 _) _)
  replace y3 := cell_on hb2 (cell_past (cell_past y3 _) _)
  replace L := below_call (below_new (below_new L _) _) hb2
  have y9 := L.size
  clear hb2
  have E3 := E2.out
  rw [← M2.out, ← M4.out, M1.out, M3.out] at E3
  clear E2
  unfold cmpN at E3
  have C : (n = 0 ∧ u2.toNat = u1.toNat * 2 ^ (p1 - q).toNat) ∨ (n = 1 ∧ u2.toNat < u1.toNat * 2 ^ (p1 - q).toNat) ∨ (n = -1 ∧ u1.toNat * 2 ^ (p1 - q).toNat < u2.toNat) := by
   split at E3
   ·right; right; exact ⟨E3, by omega⟩
   ·split at E3
    ·right; left; exact ⟨E3, by omega⟩
    ·left; exact ⟨E3, by omega⟩
  clear E3
  rcases C with ⟨rfl, C⟩ | ⟨rfl, C⟩ | ⟨rfl, C⟩
  ·have HC : Hid _ := C
   clear C
   go_wp2_with fail
   refine (sub_any ah al 0 u2 wa wb word_zero b1 _).mono ?_
   rintro r w3 ⟨sh, sl, sc, rfl, ws, wt, E4, _, hb3⟩
   have D1 : Hid _ := sub_nat wa wb word_zero b1 ws wt E4.out (by rw [M1.out, M3.out]; exact Nat.le_of_eq HC.out)
   clear E4
   replace y3 := cell_on hb3 y3
   replace L := below_call L hb3
   have z3 := lt_new y3
   clear hb3
   go_wp2_with fail
   refine (hrd (m == 2) sh sl q ws wt q1 q2 _).mono ?_
   rintro r w4 ⟨rfl, hb4⟩
   replace L := below_call (below_new L _) hb4
   go_wp2_with fail
   go_ret
   exact ⟨ru_eq (by rw [Q3.out, rndQ_false, D1.out, M1.out, M3.out, HC.out, Nat.sub_self]; exact (U3.out c HC.out).trans HV.out), L⟩
  ·have HC : Hid _ := C
   clear C
   go_wp2_with fail
   refine (sub_any ah al 0 u2 wa wb word_zero b1 _).mono ?_
   rintro r w3 ⟨sh, sl, sc, rfl, ws, wt, E4, _, hb3⟩
   have D1 : Hid _ := sub_nat wa wb word_zero b1 ws wt E4.out (by rw [M1.out, M3.out]; exact Nat.le_of_lt HC.out)
   clear E4
   replace y3 := cell_on hb3 y3
   replace L := below_call L hb3
   have z3 := lt_new y3
   clear hb3
   go_wp2_with fail
   refine (hrd g1 sh sl q ws wt q1 q2 _).mono ?_
   rintro r w4 ⟨rfl, hb4⟩
   replace L := below_call (below_new L _) hb4
   go_wp2_with fail
   go_ret
   exact ⟨ru_eq (by rw [Q3.out, rndQ_false, D1.out, M1.out, M3.out]; exact (U2.out c HC.out).trans HV.out), L⟩
  ·have HC : Hid _ := C
   clear C
   go_wp2_with fail
   go_region
   go_wp2_with fail
   clear a0 aa d0 d1 f0 f1 h0 h1
   refine (sub_any 0 u2 ah al word_zero b1 wa wb _).mono ?_
   rintro r w3 ⟨sh, sl, sc, rfl, ws, wt, E4, _, hb3⟩
   have D1 : Hid _ := sub_nat word_zero b1 wa wb ws wt E4.out (by rw [M1.out, M3.out]; exact Nat.le_of_lt HC.out)
   clear E4
   replace y3 := cell_on hb3 (set2_cell (b := w1.heap.size + 1) _ _ (by omega) (set2_cell (b := w1.heap.size) _ _ (by omega) y3))
   replace L := below_call ((((L.setCell (Nat.le_of_lt z1) _).setCell (Nat.le_of_lt z1) _).setCell (Nat.le_succ_of_le (Nat.le_of_lt z1)) _).setCell (Nat.le_succ_of_le (Nat.le_of_lt z1)) _).drew hb3
   have z3 := lt_new y3
   clear hb3
   go_wp2_with fail
   refine (hrd g2 sh sl q ws wt q1 q2 _).mono ?_
   rintro r w4 ⟨rfl, hb4⟩
   replace L := below_call (below_new L _) hb4
   go_wp2_with fail
   go_ret
   exact ⟨ru_eq (by rw [Q3.out, rndQ_false, D1.out, M1.out, M3.out]; exact (U4.out c HC.out).trans HV.out), L⟩
theorem sum_any (f m : Int) (k1 : Int) (g1 : Bool) (u1 p1 k2 : Int) (g2 : Bool) (u2 p2 : Int) (H1 : Fin (f == 1) u1 p1) (H2 : Fin (f == 1) u2 p2) (w : World) :
  Calls Tryz.prog 112 #[.int .i64 f, .int .i64 m, prt k1 g1 u1 p1, prt k2 g2 u2 p2] w fun r w' => r = .returned (.int .u64 (sumT (f == 1) m g1 u1.toNat p1 g2 u2.toNat p2)) ∧ Below w.heap.size w w' := by
 by_cases c : p1 < p2
 ·exact sum_down f m k2 g2 u2 p2 k1 g1 u1 p1 H2 H1 c w
 ·exact sum_up f m k1 g1 u1 p1 k2 g2 u2 p2 H1 H2 (by omega) w
end Go.Proofs.YteafnkimcidkhaaGreat
namespace Go.Proofs.YteafnkimcidkhaaGreat
open Go.RowKit
set_option linter.unusedVariables false
set_option linter.unusedSimpArgs false
end Go.Proofs.YteafnkimcidkhaaGreat
namespace Go.Proofs.YteafnkimcidkhaaGreat
open Go.RowKit
set_option linter.unusedVariables false
set_option linter.unusedSimpArgs false
set_option maxHeartbeats 1600000 in
theorem splitx_d (a : Int) (h : Word a) (w : World) :
  Calls Tryz.prog 108 #[fmtV false, .int .u64 a] w fun e w' => e = .returned (prtV false a) ∧ ∃ o1 o2 o3 o4 n, w' = ((((w.alloc o1).alloc o2).alloc o3).alloc o4).drewN n := by
 obtain ⟨a0, a1⟩ := id h
 obtain ⟨z0, z1⟩ := zOf_word false a h
 have hz : ∃ z, zOf false a = z := ⟨_, rfl⟩
 obtain ⟨z, hz⟩ := hz
 have hk : ∃ k, cls false a = k := ⟨_, rfl⟩
 obtain ⟨k, hk⟩ := hk
 have hg : ∃ g, sgn false a = g := ⟨_, rfl⟩
 obtain ⟨g, hg⟩ := hg
 have hv : prtV false a = .agg #[.int .i64 k, .bool g, .int .u64 (if 0 < z / 4503599627370496 then a % 4503599627370496 + 4503599627370496 else a % 4503599627370496), .int .i64 (if 0 < z / 4503599627370496 then (-1074) + (z / 4503599627370496 - 1) else (-1074))] := by
  unfold prtV whl pwr; rw [hk, hg, hz]; rfl
 rw [hv]
 rw [hz] at z0 z1
 have n1 : bits BinOp.andNot IntKind.u64 a 9223372036854775808 = z := hz
 have n2 : (bits BinOp.and IntKind.u64 a 9223372036854775808 != 0) = g := hg
 have n3 := and_lowD a h
 have hc := class_any false a h
 rw [hk] at hc
 unfold fmtV at hc ⊢
 unfold fmtO at hc
 clear hk hg hv hz
 go_enter Tryz.func108, Tryz.ntmps108
 go_upto_region 1 with fail
 by_cases cx : 0 < z / 4503599627370496
 ·have n4 := or_topD (a % 4503599627370496) (by omega) (by omega)
  go_region_held3 (fun w' => w'.cell? ⟨w.heap.size, 0, none⟩ = some (.int .i64 64) ∧ w'.cell? ⟨w.heap.size, 1, none⟩ = some (.int .i64 52) ∧ w'.cell? ⟨w.heap.size, 2, none⟩ = some (.int .i64 (-1074)) ∧ w'.cell? ⟨w.heap.size, 3, none⟩ = some (.int .u64 9223372036854775808) ∧ w'.cell? ⟨w.heap.size, 4, none⟩ = some (.int .u64 9218868437227405312))
   (simp [go_sem, World.cell?_alloc_past])
   ((go_at_call 157; refine (hc _).mono ?_; rintro e w1 ⟨rfl, rfl⟩))
  all_goals (go_wp2_with fail)
  all_goals (go_region)
  all_goals (go_wp2_with fail)
  all_goals (refine bodyPost_ret (v := .agg #[.int .i64 k, .bool g, .int .u64 (a % 4503599627370496 + 4503599627370496), .int .i64 ((-1074) + (z / 4503599627370496 - 1))]) (by simp [results, Tryz.results108, go_sem]) rfl ⟨rfl, ?_⟩)
  all_goals exact ⟨_, _, _, _, 2, rfl⟩
 ·have cz : z / 4503599627370496 = 0 := by omega
  go_region_held3 (fun w' => w'.cell? ⟨w.heap.size, 0, none⟩ = some (.int .i64 64) ∧ w'.cell? ⟨w.heap.size, 1, none⟩ = some (.int .i64 52) ∧ w'.cell? ⟨w.heap.size, 2, none⟩ = some (.int .i64 (-1074)) ∧ w'.cell? ⟨w.heap.size, 3, none⟩ = some (.int .u64 9223372036854775808) ∧ w'.cell? ⟨w.heap.size, 4, none⟩ = some (.int .u64 9218868437227405312))
   (simp [go_sem, World.cell?_alloc_past])
   ((go_at_call 157; refine (hc _).mono ?_; rintro e w1 ⟨rfl, rfl⟩))
  all_goals (go_wp2_with fail)
  all_goals (refine bodyPost_ret (v := .agg #[.int .i64 k, .bool g, .int .u64 (a % 4503599627370496), .int .i64 ((-1074))]) (by simp [results, Tryz.results108, go_sem]) rfl ⟨rfl, ?_⟩)
  all_goals exact ⟨_, _, _, _, 1, rfl⟩
set_option maxHeartbeats 1600000 in
theorem splitx_s (a : Int) (h : Word a) (w : World) :
  Calls Tryz.prog 108 #[fmtV true, .int .u64 a] w fun e w' => e = .returned (prtV true a) ∧ ∃ o1 o2 o3 o4 n, w' = ((((w.alloc o1).alloc o2).alloc o3).alloc o4).drewN n := by
 obtain ⟨a0, a1⟩ := id h
 obtain ⟨z0, z1⟩ := zOf_word true a h
 have hz : ∃ z, zOf true a = z := ⟨_, rfl⟩
 obtain ⟨z, hz⟩ := hz
 have hk : ∃ k, cls true a = k := ⟨_, rfl⟩
 obtain ⟨k, hk⟩ := hk
 have hg : ∃ g, sgn true a = g := ⟨_, rfl⟩
 obtain ⟨g, hg⟩ := hg
 have hv : prtV true a = .agg #[.int .i64 k, .bool g, .int .u64 (if 0 < z / 8388608 then a % 8388608 + 8388608 else a % 8388608), .int .i64 (if 0 < z / 8388608 then (-149) + (z / 8388608 - 1) else (-149))] := by
  unfold prtV whl pwr; rw [hk, hg, hz]; rfl
 rw [hv]
 rw [hz] at z0 z1
 have n1 : bits BinOp.andNot IntKind.u64 a 2147483648 = z := hz
 have n2 : (bits BinOp.and IntKind.u64 a 2147483648 != 0) = g := hg
 have n3 := and_lowS a h
 have hc := class_any true a h
 rw [hk] at hc
 unfold fmtV at hc ⊢
 unfold fmtO at hc
 clear hk hg hv hz
 go_enter Tryz.func108, Tryz.ntmps108
 go_upto_region 1 with fail
 by_cases cx : 0 < z / 8388608
 ·have n4 := or_topS (a % 8388608) (by omega) (by omega)
  go_region_held3 (fun w' => w'.cell? ⟨w.heap.size, 0, none⟩ = some (.int .i64 32) ∧ w'.cell? ⟨w.heap.size, 1, none⟩ = some (.int .i64 23) ∧ w'.cell? ⟨w.heap.size, 2, none⟩ = some (.int .i64 (-149)) ∧ w'.cell? ⟨w.heap.size, 3, none⟩ = some (.int .u64 2147483648) ∧ w'.cell? ⟨w.heap.size, 4, none⟩ = some (.int .u64 2139095040))
   (simp [go_sem, World.cell?_alloc_past])
   ((go_at_call 157; refine (hc _).mono ?_; rintro e w1 ⟨rfl, rfl⟩))
  all_goals (go_wp2_with fail)
  all_goals (go_region)
  all_goals (go_wp2_with fail)
  all_goals (refine bodyPost_ret (v := .agg #[.int .i64 k, .bool g, .int .u64 (a % 8388608 + 8388608), .int .i64 ((-149) + (z / 8388608 - 1))]) (by simp [results, Tryz.results108, go_sem]) rfl ⟨rfl, ?_⟩)
  all_goals exact ⟨_, _, _, _, 2, rfl⟩
 ·have cz : z / 8388608 = 0 := by omega
  go_region_held3 (fun w' => w'.cell? ⟨w.heap.size, 0, none⟩ = some (.int .i64 32) ∧ w'.cell? ⟨w.heap.size, 1, none⟩ = some (.int .i64 23) ∧ w'.cell? ⟨w.heap.size, 2, none⟩ = some (.int .i64 (-149)) ∧ w'.cell? ⟨w.heap.size, 3, none⟩ = some (.int .u64 2147483648) ∧ w'.cell? ⟨w.heap.size, 4, none⟩ = some (.int .u64 2139095040))
   (simp [go_sem, World.cell?_alloc_past])
   ((go_at_call 157; refine (hc _).mono ?_; rintro e w1 ⟨rfl, rfl⟩))
  all_goals (go_wp2_with fail)
  all_goals (refine bodyPost_ret (v := .agg #[.int .i64 k, .bool g, .int .u64 (a % 8388608), .int .i64 ((-149))]) (by simp [results, Tryz.results108, go_sem]) rfl ⟨rfl, ?_⟩)
  all_goals exact ⟨_, _, _, _, 1, rfl⟩
theorem split_ex (s : Bool) (a : Int) (h : Word a) (w : World) :
  Calls Tryz.prog 108 #[fmtV s, .int .u64 a] w fun e w' => e = .returned (prtV s a) ∧ ∃ o1 o2 o3 o4 n, w' = ((((w.alloc o1).alloc o2).alloc o3).alloc o4).drewN n := by
 cases s
 ·exact splitx_d a h w
 ·exact splitx_s a h w
theorem below_dN {B : Nat} {a w : World} (h : Below B a w) (n : Nat) : Below B a (w.drewN n) := h.trans ⟨rfl, rfl, rfl, Nat.le_refl _, fun _ _ => rfl⟩
theorem formatOf_ex (f : Int) (w : World) :
  Calls Tryz.prog 107 #[.int .i64 f] w fun e w' => e = .returned (fmtV (f == 1)) ∧ ∃ o1 o2, w' = ((w.alloc o1).alloc o2).drew := by
 by_cases c : f = 1
 ·subst c
  go_enter Tryz.func107, Tryz.ntmps107
  go_wp2_with fail
  go_region
  go_wp2_with fail
  exact bodyPost_ret (v := fmtV true) (by simp [results, Tryz.results107, go_sem, fmtV]) rfl ⟨rfl, _, _, rfl⟩
 ·have c' : (f == 1) = false := by simp [c]
  rw [c']
  go_enter Tryz.func107, Tryz.ntmps107
  go_wp2_with fail
  go_region
  go_wp2_with fail
  exact bodyPost_ret (v := fmtV false) (by simp [results, Tryz.results107, go_sem, fmtV]) rfl ⟨rfl, _, _, rfl⟩
theorem nan_ex (s : Bool) (w : World) : Calls Tryz.prog 110 #[fmtV s] w fun e w' => e = .returned (.int .u64 (fNan s)) ∧ w' = (w.alloc (fmtO s)).drew := by
 have o1 := or_nanD
 have o2 := or_nanS
 cases s
 ·unfold fmtV fmtO
  go_enter Tryz.func110, Tryz.ntmps110
  go_wp2_with fail
  go_region
  go_wp2_with fail
  go_ret
  exact ⟨rfl, rfl⟩
 ·unfold fmtV fmtO
  go_enter Tryz.func110, Tryz.ntmps110
  go_wp2_with fail
  go_region
  go_wp2_with fail
  go_ret
  exact ⟨rfl, rfl⟩
end Go.Proofs.YteafnkimcidkhaaGreat
namespace Go.Proofs.YteafnkimcidkhaaGreat
open Go.RowKit
set_option linter.unusedVariables false
set_option linter.unusedSimpArgs false
def PrtAt (w : World) (k : Nat) (c : Int) (g : Bool) (u p : Int) : Prop := w.cell? ⟨k, 0, none⟩ = some (.int .i64 c) ∧ w.cell? ⟨k, 1, none⟩ = some (.bool g) ∧ w.cell? ⟨k, 2, none⟩ = some (.int .u64 u) ∧ w.cell? ⟨k, 3, none⟩ = some (.int .i64 p)
theorem cell_dr {W : World} {a : Addr} {v : Value} (h : W.cell? a = some v) : W.drew.cell? a = some v := h
theorem cell_dN {W : World} {a : Addr} {v : Value} (h : W.cell? a = some v) (n : Nat) : (W.drewN n).cell? a = some v := h
def mulF (s : Bool) (m a b : Int) : Int :=
 if (cls s a == 0 || cls s a == 5) || (cls s b == 0 || cls s b == 5) then fNan s
 else if (cls s a == 4 && cls s b == 1) || (cls s a == 1 && cls s b == 4) then fNan s
 else if cls s a == 4 || cls s b == 4 then sgnd s (sgn s a != sgn s b) (fI s)
 else rnd s m (sgn s a != sgn s b) ((whl s a).toNat * (whl s b).toNat) (pwr s a + pwr s b)
theorem fin_d (a : Int) (h : Word a) (z : zOf false a < 9218868437227405312) : Fin false (whl false a) (pwr false a) := by
 have e := zOf_double a h
 have q : (2 : Int) ^ fP false = 4503599627370496 := rfl
 have q1 : (2 : Int) ^ (fP false + 1) = 9007199254740992 := rfl
 have l : fL false = -1074 := rfl
 unfold Fin whl pwr
 rw [q, q1, l]
 generalize zOf false a = Z at *
 obtain ⟨a0, a1⟩ := h
 split <;> refine ⟨?_, ?_, ?_, ?_, ?_⟩ <;> omega
theorem fin_s (a : Int) (h : Word a) (w : a < 4294967296) (z : zOf true a < 2139095040) : Fin true (whl true a) (pwr true a) := by
 have e := zOf_single a h.1 w
 have q : (2 : Int) ^ fP true = 8388608 := rfl
 have q1 : (2 : Int) ^ (fP true + 1) = 16777216 := rfl
 have l : fL true = -149 := rfl
 unfold Fin whl pwr
 rw [q, q1, l]
 generalize zOf true a = Z at *
 obtain ⟨a0, a1⟩ := h
 split <;> refine ⟨?_, ?_, ?_, ?_, ?_⟩ <;> omega
theorem fin_of (s : Bool) (a : Int) (h : Word a) : (cls s a == 0 || cls s a == 5) = false → (cls s a == 4) = false → Fin s (whl s a) (pwr s a) ∧ ((cls s a == 1) = false → whl s a ≠ 0) := by
 intro c1 c2
 have k : ¬ cls s a = 0 ∧ ¬ cls s a = 5 ∧ ¬ cls s a = 4 := by
  simp only [Bool.or_eq_false_iff, beq_eq_false_iff_ne, ne_eq] at c1 c2
  exact ⟨c1.1, c1.2, c2⟩
 obtain ⟨k0, k5, k4⟩ := k
 unfold cls at k0 k5 k4
 have w : wideB s a = false := by
  cases t : wideB s a
  ·rfl
  ·rw [t] at k0; simp at k0
 rw [w] at k0 k5 k4
 simp only [Bool.false_eq_true, if_false] at k0 k5 k4
 have z1 : zOf s a ≤ fI s := by
  by_cases t : fI s < zOf s a
  ·rw [if_pos t] at k5; exact absurd rfl k5
  ·omega
 rw [if_neg (by omega)] at k4
 have z2 : zOf s a ≠ fI s := by
  intro t
  rw [if_pos t] at k4; exact absurd rfl k4
 cases s
 ·have z3 : zOf false a < 9218868437227405312 := by have i : fI false = 9218868437227405312 := rfl; omega
  refine ⟨fin_d a h z3, fun c3 => ?_⟩
  have e := zOf_double a h
  have c4 : ¬ zOf false a = 0 := by
   intro t
   have : cls false a = 1 := by unfold cls; rw [w, if_neg (by decide), if_neg (by omega), if_neg z2, if_pos t]
   rw [this] at c3; simp at c3
  unfold whl
  have q : (2 : Int) ^ fP false = 4503599627370496 := rfl
  rw [q]
  split <;> omega
 ·have a3 : a < 4294967296 := by unfold wideB at w; simp at w; exact w
  have z3 : zOf true a < 2139095040 := by have i : fI true = 2139095040 := rfl; omega
  refine ⟨fin_s a h a3 z3, fun c3 => ?_⟩
  have e := zOf_single a h.1 a3
  have c4 : ¬ zOf true a = 0 := by
   intro t
   have : cls true a = 1 := by unfold cls; rw [w, if_neg (by decide), if_neg (by omega), if_neg z2, if_pos t]
   rw [this] at c3; simp at c3
  unfold whl
  have q : (2 : Int) ^ fP true = 8388608 := rfl
  rw [q]
  split <;> omega
theorem wrap_id (x : Int) (h : -9223372036854775808 ≤ x) (h' : x ≤ 9223372036854775807) : IntKind.i64.wrap x = x := by rw [IntKind.wrap_i64]; omega
theorem nn_mul {u v h l : Int} (a : Word u) (b : Word v) (c : Word h) (d : Word l) (E : num h l = u * v) : nn h l = u.toNat * v.toNat := by
 have e := nn_num c d
 obtain ⟨x, rfl⟩ := Int.eq_ofNat_of_zero_le a.1
 obtain ⟨y, rfl⟩ := Int.eq_ofNat_of_zero_le b.1
 rw [Int.toNat_natCast, Int.toNat_natCast]
 rw [E, ← Int.natCast_mul] at e
 omega
theorem signed_two (s b : Bool) (z : Int) (h : z = 0 ∨ z = fI s) (w : World) :
  Calls Tryz.prog 114 #[fmtV s, .bool b, .int .u64 z] w fun e w' => e = .returned (.int .u64 (sgnd s b z)) ∧ w' = w.alloc (fmtO s) := by
 have := fI_pos s
 exact signed_any s b z (by omega) (by omega) w
def addF (s : Bool) (m a b : Int) : Int :=
 if (cls s a == 0 || cls s a == 5) || (cls s b == 0 || cls s b == 5) then fNan s
 else if cls s a == 4 && cls s b == 4 && (sgn s a != sgn s b) then fNan s
 else if cls s a == 4 then a
 else if cls s b == 4 then b
 else sumT s m (sgn s a) (whl s a).toNat (pwr s a) (sgn s b) (whl s b).toNat (pwr s b)
end Go.Proofs.YteafnkimcidkhaaGreat
namespace Go.Proofs.YteafnkimcidkhaaGreat
open Go.RowKit
set_option linter.unusedVariables false
set_option linter.unusedSimpArgs false
set_option maxRecDepth 8000 in
set_option maxHeartbeats 8000000 in
theorem mul_fl (f m a b : Int) (h1 : Word a) (h2 : Word b) (w : World) :
  Calls Tryz.prog 57 #[.int .i64 f, .int .i64 m, .int .u64 a, .int .u64 b] w fun r w' => r = .returned (.int .u64 (mulF (f == 1) m a b)) ∧ Below w.heap.size w w' := by
 have hda : ∀ (w : World) (n : Nat) (o : Obj), (w.drewN n).alloc o = (w.alloc o).drewN n := fun _ _ _ => rfl
 have hfo := formatOf_ex f
 have hrd := fun b h l e wh wl e1 e2 => round_any f m b h l e false wh wl e1 e2
 generalize (f == 1) = s at *
 have F1 := fin_of s a h1
 have F2 := fin_of s b h2
 have hV : ∃ V, mulF s m a b = V := ⟨_, rfl⟩
 obtain ⟨V, hV⟩ := hV
 rw [hV]
 unfold mulF at hV
 have hn1 := noNumber_any (cls s a) (sgn s a) (whl s a) (pwr s a)
 have hn2 := noNumber_any (cls s b) (sgn s b) (whl s b) (pwr s b)
 have hi1 := isInfinite_any (cls s a) (sgn s a) (whl s a) (pwr s a)
 have hi2 := isInfinite_any (cls s b) (sgn s b) (whl s b) (pwr s b)
 have hz1 := isZero_any (cls s a) (sgn s a) (whl s a) (pwr s a)
 have hz2 := isZero_any (cls s b) (sgn s b) (whl s b) (pwr s b)
 have hsg := signed_two s
 simp only [fmtV_eq, fmtO_eq] at hsg
 have hnan := nan_ex s
 unfold prt prtO at hn1 hn2 hi1 hi2 hz1 hz2
 rw [fmtV_eq, fmtO_eq] at hnan
 generalize (cls s a == 0 || cls s a == 5) = N1 at *
 generalize (cls s b == 0 || cls s b == 5) = N2 at *
 generalize (cls s a == 4) = I1 at *
 generalize (cls s b == 4) = I2 at *
 generalize (cls s a == 1) = Z1 at *
 generalize (cls s b == 1) = Z2 at *
 have hsa := split_ex s a h1
 have hsb := split_ex s b h2
 rw [fmtV_eq] at hfo hsa hsb
 unfold prtV at hsa hsb
 generalize cls s a = k1 at *
 generalize cls s b = k2 at *
 generalize sgn s a = g1 at *
 generalize sgn s b = g2 at *
 generalize whl s a = u1 at *
 generalize whl s b = u2 at *
 generalize pwr s a = p1 at *
 generalize pwr s b = p2 at *
 have hG : ∃ G, (!(g1 == g2)) = G := ⟨_, rfl⟩
 obtain ⟨G, hG⟩ := hG
 rw [show (g1 != g2) = G from hG] at hV
 have HV : Hid _ := hV
 clear hV
 go_enter Tryz.func57, Tryz.ntmps57
 go_wp2_with (go_at_call 107; refine (hfo _).mono ?_; rintro r w1 ⟨rfl, o1, o2, rfl⟩)
 go_cut [9, 10, 11] from 15 to 20 (fun o p q wx => ∃ bf bx bz : Nat, o = .pointer (some ⟨bf, 0, none⟩) ∧ p = .pointer (some ⟨bx, 0, none⟩) ∧ q = .pointer (some ⟨bz, 0, none⟩) ∧ PrtAt wx bx k1 g1 u1 p1 ∧ PrtAt wx bz k2 g2 u2 p2 ∧ FmtAt wx bf s ∧ Below w.heap.size w wx)
 case first =>
  clear hn1 hn2 hi1 hi2 hnan HV F1 F2 hz1 hz2 hsg hrd hfo
  go_region_held3 (fun w' => w'.cell? ⟨w.heap.size + 1 + 1, 0, none⟩ = some (.int .i64 (fW s)) ∧ w'.cell? ⟨w.heap.size + 1 + 1, 1, none⟩ = some (.int .i64 (fQ s)) ∧ w'.cell? ⟨w.heap.size + 1 + 1, 2, none⟩ = some (.int .i64 (fL s)) ∧ w'.cell? ⟨w.heap.size + 1 + 1, 3, none⟩ = some (.int .u64 (fS s)) ∧ w'.cell? ⟨w.heap.size + 1 + 1, 4, none⟩ = some (.int .u64 (fI s)))
   (simp [go_sem, World.cell?_alloc_past])
   (first
    | (go_at_call_of 108 a; refine (hsa _).mono ?_; rintro r w2 ⟨rfl, o3, o4, o5, o6, n1, rfl⟩)
    | (go_at_call_of 108 b; refine (hsb _).mono ?_; rintro r w3 ⟨rfl, o7, o8, o9, oa, n2, rfl⟩))
  all_goals (go_wp2_with fail; go_meet)
  all_goals exact ⟨_, _, _, rfl, rfl, rfl, by unfold PrtAt; simp [go_sem, World.cell?_alloc_past], by unfold PrtAt; simp [go_sem, World.cell?_alloc_past], by unfold FmtAt; simp [go_sem, World.cell?_alloc_past], by repeat (first | with_reducible exact Below.refl _ _ | with_reducible refine below_new ?_ _ | with_reducible refine Below.drew ?_ | with_reducible refine below_dN ?_ _ | with_reducible refine Below.setCell ?_ (by simp; omega) _)⟩
 case rest =>
  obtain ⟨bf, bx, bz, rfl, rfl, rfl, ⟨x0, x1, x2, x3⟩, ⟨z0, z1, z2, z3⟩, ⟨y0, y1, y2, y3, y4⟩, L⟩ := hcut
  have lx := lt_new x0
  have lz := lt_new z0
  have ly := lt_new y0
  clear hfo hsa hsb
  have lx1 : bx < wc.heap.size + 1 := by omega
  have lx2 : bx < wc.heap.size + 1 + 1 := by omega
  have lx3 : bx < wc.heap.size + 1 + 1 + 1 := by omega
  have lx4 : bx < wc.heap.size + 1 + 1 + 1 + 1 := by omega
  have lx5 : bx < wc.heap.size + 1 + 1 + 1 + 1 + 1 := by omega
  have lx6 : bx < wc.heap.size + 1 + 1 + 1 + 1 + 1 + 1 := by omega
  have lx7 : bx < wc.heap.size + 1 + 1 + 1 + 1 + 1 + 1 + 1 := by omega
  have lx8 : bx < wc.heap.size + 1 + 1 + 1 + 1 + 1 + 1 + 1 + 1 := by omega
  have lz1 : bz < wc.heap.size + 1 := by omega
  have lz2 : bz < wc.heap.size + 1 + 1 := by omega
  have lz3 : bz < wc.heap.size + 1 + 1 + 1 := by omega
  have lz4 : bz < wc.heap.size + 1 + 1 + 1 + 1 := by omega
  have lz5 : bz < wc.heap.size + 1 + 1 + 1 + 1 + 1 := by omega
  have lz6 : bz < wc.heap.size + 1 + 1 + 1 + 1 + 1 + 1 := by omega
  have lz7 : bz < wc.heap.size + 1 + 1 + 1 + 1 + 1 + 1 + 1 := by omega
  have lz8 : bz < wc.heap.size + 1 + 1 + 1 + 1 + 1 + 1 + 1 + 1 := by omega
  have ly1 : bf < wc.heap.size + 1 := by omega
  have ly2 : bf < wc.heap.size + 1 + 1 := by omega
  have ly3 : bf < wc.heap.size + 1 + 1 + 1 := by omega
  have ly4 : bf < wc.heap.size + 1 + 1 + 1 + 1 := by omega
  have ly5 : bf < wc.heap.size + 1 + 1 + 1 + 1 + 1 := by omega
  have ly6 : bf < wc.heap.size + 1 + 1 + 1 + 1 + 1 + 1 := by omega
  have ly7 : bf < wc.heap.size + 1 + 1 + 1 + 1 + 1 + 1 + 1 := by omega
  have ly8 : bf < wc.heap.size + 1 + 1 + 1 + 1 + 1 + 1 + 1 + 1 := by omega
  cases N1
  ·cases N2
   ·cases I1
    ·cases I2
     ·cases Z1
      ·have v := HV.out
       simp only [Bool.or_true, Bool.or_false, Bool.and_true, Bool.and_false, Bool.true_or, Bool.false_or, Bool.true_and, Bool.false_and, if_true, if_false, Bool.false_eq_true] at v
       have HW : Hid _ := v
       clear v HV
       obtain ⟨f1, _⟩ := F1 rfl rfl
       obtain ⟨f2, _⟩ := F2 rfl rfl
       have c1 := f1.word; have c2 := f2.word
       have c3 := f1.low; have c4 := f2.low
       have c5 := f1.2.2.2.1; have c6 := f2.2.2.2.1
       have c7 : -4000 ≤ p1 + p2 := by omega
       have c8 : p1 + p2 ≤ 4000 := by omega
       have c9 : -9223372036854775808 ≤ p1 + p2 := by omega
       have ca : p1 + p2 ≤ 9223372036854775807 := by omega
       have hcl : Hid _ := clamp_id c7 c8
       have hmu := mul_any u1 u2 c1 c2
       have hw : IntKind.i64.wrap (p1 + p2) = p1 + p2 := wrap_id _ c9 ca
       go_wp2_with (first
        | (go_at_call_of 109 k1; refine (hn1 _).mono ?_; rintro r w2 ⟨rfl, rfl⟩)
        | (go_at_call_of 109 k2; refine (hn2 _).mono ?_; rintro r w2 ⟨rfl, rfl⟩)
        | (go_at_call_of 111 k1; refine (hi1 _).mono ?_; rintro r w2 ⟨rfl, rfl⟩)
        | (go_at_call_of 111 k2; refine (hi2 _).mono ?_; rintro r w2 ⟨rfl, rfl⟩)
        | (go_at_call_of 113 k1; refine (hz1 _).mono ?_; rintro r w2 ⟨rfl, rfl⟩)
        | (go_at_call_of 113 k2; refine (hz2 _).mono ?_; rintro r w2 ⟨rfl, rfl⟩)
        | (go_at_call 110; refine (hnan _).mono ?_; rintro r w2 ⟨rfl, rfl⟩)
        | (go_at_call 114; refine (hsg _ _ (by first | exact Or.inl rfl | exact Or.inr rfl) _).mono ?_; rintro r w2 ⟨rfl, rfl⟩))
       go_region_held3 (fun w' => w'.cell? ⟨bx, 2, none⟩ = some (.int .u64 u1) ∧ w'.cell? ⟨bx, 3, none⟩ = some (.int .i64 p1) ∧ w'.cell? ⟨bz, 2, none⟩ = some (.int .u64 u2) ∧ w'.cell? ⟨bz, 3, none⟩ = some (.int .i64 p2))
        (first | with_reducible exact ⟨x2, x3, z2, z3⟩ | (simp [go_sem, World.cell?_alloc_past, x2, x3, z2, z3, lx, lz, lx1, lx2, lx3, lx4, lx5, lx6, lx7, lx8, lz1, lz2, lz3, lz4, lz5, lz6, lz7, lz8]; done))
        (first
         | (go_at_call 115; refine (hmu _).mono ?_; rintro r w5 ⟨ah, al, rfl, wa, wb, E, hb5⟩; replace x2 : w5.cell? ⟨bx, 2, none⟩ = some (.int .u64 u1) := (by refine cell_on hb5 ?_; repeat (first | with_reducible exact x2 | with_reducible refine cell_past ?_ _ | with_reducible refine cell_dr ?_ | with_reducible refine cell_dN ?_ _)); replace x3 : w5.cell? ⟨bx, 3, none⟩ = some (.int .i64 p1) := (by refine cell_on hb5 ?_; repeat (first | with_reducible exact x3 | with_reducible refine cell_past ?_ _ | with_reducible refine cell_dr ?_ | with_reducible refine cell_dN ?_ _)); replace z2 : w5.cell? ⟨bz, 2, none⟩ = some (.int .u64 u2) := (by refine cell_on hb5 ?_; repeat (first | with_reducible exact z2 | with_reducible refine cell_past ?_ _ | with_reducible refine cell_dr ?_ | with_reducible refine cell_dN ?_ _)); replace z3 : w5.cell? ⟨bz, 3, none⟩ = some (.int .i64 p2) := (by refine cell_on hb5 ?_; repeat (first | with_reducible exact z3 | with_reducible refine cell_past ?_ _ | with_reducible refine cell_dr ?_ | with_reducible refine cell_dN ?_ _)); replace L : Below w.heap.size w w5 := below_call (by repeat (first | with_reducible exact L | with_reducible refine below_new ?_ _ | with_reducible refine Below.drew ?_ | with_reducible refine below_dN ?_ _)) hb5)
         | (go_at_call 102; refine (hrd G ah al (p1 + p2) wa wb c9 ca _).mono ?_; rintro r w6 ⟨rfl, hb6⟩; replace x2 := cell_on hb6 x2; replace x3 := cell_on hb6 x3; replace z2 := cell_on hb6 z2; replace z3 := cell_on hb6 z3; replace L := below_call L hb6))
       go_wp2_with fail
       go_ret
       exact ⟨ru_eq (by rw [hcl.out, rndQ_false, nn_mul c1 c2 wa wb E.out]; exact HW.out), L⟩
      ·have v := HV.out
       simp only [Bool.or_true, Bool.or_false, Bool.and_true, Bool.and_false, Bool.true_or, Bool.false_or, Bool.true_and, Bool.false_and, if_true, if_false, Bool.false_eq_true] at v
       have HW : Hid _ := v
       clear v HV
       obtain ⟨f1, _⟩ := F1 rfl rfl
       obtain ⟨f2, _⟩ := F2 rfl rfl
       have c1 := f1.word; have c2 := f2.word
       have c3 := f1.low; have c4 := f2.low
       have c5 := f1.2.2.2.1; have c6 := f2.2.2.2.1
       have c7 : -4000 ≤ p1 + p2 := by omega
       have c8 : p1 + p2 ≤ 4000 := by omega
       have c9 : -9223372036854775808 ≤ p1 + p2 := by omega
       have ca : p1 + p2 ≤ 9223372036854775807 := by omega
       have hcl : Hid _ := clamp_id c7 c8
       have hmu := mul_any u1 u2 c1 c2
       have hw : IntKind.i64.wrap (p1 + p2) = p1 + p2 := wrap_id _ c9 ca
       go_wp2_with (first
        | (go_at_call_of 109 k1; refine (hn1 _).mono ?_; rintro r w2 ⟨rfl, rfl⟩)
        | (go_at_call_of 109 k2; refine (hn2 _).mono ?_; rintro r w2 ⟨rfl, rfl⟩)
        | (go_at_call_of 111 k1; refine (hi1 _).mono ?_; rintro r w2 ⟨rfl, rfl⟩)
        | (go_at_call_of 111 k2; refine (hi2 _).mono ?_; rintro r w2 ⟨rfl, rfl⟩)
        | (go_at_call_of 113 k1; refine (hz1 _).mono ?_; rintro r w2 ⟨rfl, rfl⟩)
        | (go_at_call_of 113 k2; refine (hz2 _).mono ?_; rintro r w2 ⟨rfl, rfl⟩)
        | (go_at_call 110; refine (hnan _).mono ?_; rintro r w2 ⟨rfl, rfl⟩)
        | (go_at_call 114; refine (hsg _ _ (by first | exact Or.inl rfl | exact Or.inr rfl) _).mono ?_; rintro r w2 ⟨rfl, rfl⟩))
       go_region_held3 (fun w' => w'.cell? ⟨bx, 2, none⟩ = some (.int .u64 u1) ∧ w'.cell? ⟨bx, 3, none⟩ = some (.int .i64 p1) ∧ w'.cell? ⟨bz, 2, none⟩ = some (.int .u64 u2) ∧ w'.cell? ⟨bz, 3, none⟩ = some (.int .i64 p2))
        (first | with_reducible exact ⟨x2, x3, z2, z3⟩ | (simp [go_sem, World.cell?_alloc_past, x2, x3, z2, z3, lx, lz, lx1, lx2, lx3, lx4, lx5, lx6, lx7, lx8, lz1, lz2, lz3, lz4, lz5, lz6, lz7, lz8]; done))
        (first
         | (go_at_call 115; refine (hmu _).mono ?_; rintro r w5 ⟨ah, al, rfl, wa, wb, E, hb5⟩; replace x2 : w5.cell? ⟨bx, 2, none⟩ = some (.int .u64 u1) := (by refine cell_on hb5 ?_; repeat (first | with_reducible exact x2 | with_reducible refine cell_past ?_ _ | with_reducible refine cell_dr ?_ | with_reducible refine cell_dN ?_ _)); replace x3 : w5.cell? ⟨bx, 3, none⟩ = some (.int .i64 p1) := (by refine cell_on hb5 ?_; repeat (first | with_reducible exact x3 | with_reducible refine cell_past ?_ _ | with_reducible refine cell_dr ?_ | with_reducible refine cell_dN ?_ _)); replace z2 : w5.cell? ⟨bz, 2, none⟩ = some (.int .u64 u2) := (by refine cell_on hb5 ?_; repeat (first | with_reducible exact z2 | with_reducible refine cell_past ?_ _ | with_reducible refine cell_dr ?_ | with_reducible refine cell_dN ?_ _)); replace z3 : w5.cell? ⟨bz, 3, none⟩ = some (.int .i64 p2) := (by refine cell_on hb5 ?_; repeat (first | with_reducible exact z3 | with_reducible refine cell_past ?_ _ | with_reducible refine cell_dr ?_ | with_reducible refine cell_dN ?_ _)); replace L : Below w.heap.size w w5 := below_call (by repeat (first | with_reducible exact L | with_reducible refine below_new ?_ _ | with_reducible refine Below.drew ?_ | with_reducible refine below_dN ?_ _)) hb5)
         | (go_at_call 102; refine (hrd G ah al (p1 + p2) wa wb c9 ca _).mono ?_; rintro r w6 ⟨rfl, hb6⟩; replace x2 := cell_on hb6 x2; replace x3 := cell_on hb6 x3; replace z2 := cell_on hb6 z2; replace z3 := cell_on hb6 z3; replace L := below_call L hb6))
       go_wp2_with fail
       go_ret
       exact ⟨ru_eq (by rw [hcl.out, rndQ_false, nn_mul c1 c2 wa wb E.out]; exact HW.out), L⟩
     ·cases Z1
      ·have v := HV.out
       simp only [Bool.or_true, Bool.or_false, Bool.and_true, Bool.and_false, Bool.true_or, Bool.false_or, Bool.true_and, Bool.false_and, if_true, if_false, Bool.false_eq_true] at v
       subst v
       go_wp2_with (first
        | (go_at_call_of 109 k1; refine (hn1 _).mono ?_; rintro r w2 ⟨rfl, rfl⟩)
        | (go_at_call_of 109 k2; refine (hn2 _).mono ?_; rintro r w2 ⟨rfl, rfl⟩)
        | (go_at_call_of 111 k1; refine (hi1 _).mono ?_; rintro r w2 ⟨rfl, rfl⟩)
        | (go_at_call_of 111 k2; refine (hi2 _).mono ?_; rintro r w2 ⟨rfl, rfl⟩)
        | (go_at_call_of 113 k1; refine (hz1 _).mono ?_; rintro r w2 ⟨rfl, rfl⟩)
        | (go_at_call_of 113 k2; refine (hz2 _).mono ?_; rintro r w2 ⟨rfl, rfl⟩)
        | (go_at_call 110; refine (hnan _).mono ?_; rintro r w2 ⟨rfl, rfl⟩)
        | (go_at_call 114; refine (hsg _ _ (by first | exact Or.inl rfl | exact Or.inr rfl) _).mono ?_; rintro r w2 ⟨rfl, rfl⟩))
       go_ret
       exact ⟨rfl, (by repeat (first | with_reducible exact L | with_reducible refine below_new ?_ _ | with_reducible refine Below.drew ?_ | with_reducible refine below_dN ?_ _))⟩
      ·have v := HV.out
       simp only [Bool.or_true, Bool.or_false, Bool.and_true, Bool.and_false, Bool.true_or, Bool.false_or, Bool.true_and, Bool.false_and, if_true, if_false, Bool.false_eq_true] at v
       subst v
       go_wp2_with (first
        | (go_at_call_of 109 k1; refine (hn1 _).mono ?_; rintro r w2 ⟨rfl, rfl⟩)
        | (go_at_call_of 109 k2; refine (hn2 _).mono ?_; rintro r w2 ⟨rfl, rfl⟩)
        | (go_at_call_of 111 k1; refine (hi1 _).mono ?_; rintro r w2 ⟨rfl, rfl⟩)
        | (go_at_call_of 111 k2; refine (hi2 _).mono ?_; rintro r w2 ⟨rfl, rfl⟩)
        | (go_at_call_of 113 k1; refine (hz1 _).mono ?_; rintro r w2 ⟨rfl, rfl⟩)
        | (go_at_call_of 113 k2; refine (hz2 _).mono ?_; rintro r w2 ⟨rfl, rfl⟩)
        | (go_at_call 110; refine (hnan _).mono ?_; rintro r w2 ⟨rfl, rfl⟩)
        | (go_at_call 114; refine (hsg _ _ (by first | exact Or.inl rfl | exact Or.inr rfl) _).mono ?_; rintro r w2 ⟨rfl, rfl⟩))
       go_ret
       exact ⟨rfl, (by repeat (first | with_reducible exact L | with_reducible refine below_new ?_ _ | with_reducible refine Below.drew ?_ | with_reducible refine below_dN ?_ _))⟩
    ·cases Z2
     ·cases I2
      ·cases Z1
       ·have v := HV.out
        simp only [Bool.or_true, Bool.or_false, Bool.and_true, Bool.and_false, Bool.true_or, Bool.false_or, Bool.true_and, Bool.false_and, if_true, if_false, Bool.false_eq_true] at v
        subst v
        go_wp2_with (first
         | (go_at_call_of 109 k1; refine (hn1 _).mono ?_; rintro r w2 ⟨rfl, rfl⟩)
         | (go_at_call_of 109 k2; refine (hn2 _).mono ?_; rintro r w2 ⟨rfl, rfl⟩)
         | (go_at_call_of 111 k1; refine (hi1 _).mono ?_; rintro r w2 ⟨rfl, rfl⟩)
         | (go_at_call_of 111 k2; refine (hi2 _).mono ?_; rintro r w2 ⟨rfl, rfl⟩)
         | (go_at_call_of 113 k1; refine (hz1 _).mono ?_; rintro r w2 ⟨rfl, rfl⟩)
         | (go_at_call_of 113 k2; refine (hz2 _).mono ?_; rintro r w2 ⟨rfl, rfl⟩)
         | (go_at_call 110; refine (hnan _).mono ?_; rintro r w2 ⟨rfl, rfl⟩)
         | (go_at_call 114; refine (hsg _ _ (by first | exact Or.inl rfl | exact Or.inr rfl) _).mono ?_; rintro r w2 ⟨rfl, rfl⟩))
        go_ret
        exact ⟨rfl, (by repeat (first | with_reducible exact L | with_reducible refine below_new ?_ _ | with_reducible refine Below.drew ?_ | with_reducible refine below_dN ?_ _))⟩
       ·have v := HV.out
        simp only [Bool.or_true, Bool.or_false, Bool.and_true, Bool.and_false, Bool.true_or, Bool.false_or, Bool.true_and, Bool.false_and, if_true, if_false, Bool.false_eq_true] at v
        subst v
        go_wp2_with (first
         | (go_at_call_of 109 k1; refine (hn1 _).mono ?_; rintro r w2 ⟨rfl, rfl⟩)
         | (go_at_call_of 109 k2; refine (hn2 _).mono ?_; rintro r w2 ⟨rfl, rfl⟩)
         | (go_at_call_of 111 k1; refine (hi1 _).mono ?_; rintro r w2 ⟨rfl, rfl⟩)
         | (go_at_call_of 111 k2; refine (hi2 _).mono ?_; rintro r w2 ⟨rfl, rfl⟩)
         | (go_at_call_of 113 k1; refine (hz1 _).mono ?_; rintro r w2 ⟨rfl, rfl⟩)
         | (go_at_call_of 113 k2; refine (hz2 _).mono ?_; rintro r w2 ⟨rfl, rfl⟩)
         | (go_at_call 110; refine (hnan _).mono ?_; rintro r w2 ⟨rfl, rfl⟩)
         | (go_at_call 114; refine (hsg _ _ (by first | exact Or.inl rfl | exact Or.inr rfl) _).mono ?_; rintro r w2 ⟨rfl, rfl⟩))
        go_ret
        exact ⟨rfl, (by repeat (first | with_reducible exact L | with_reducible refine below_new ?_ _ | with_reducible refine Below.drew ?_ | with_reducible refine below_dN ?_ _))⟩
      ·cases Z1
       ·have v := HV.out
        simp only [Bool.or_true, Bool.or_false, Bool.and_true, Bool.and_false, Bool.true_or, Bool.false_or, Bool.true_and, Bool.false_and, if_true, if_false, Bool.false_eq_true] at v
        subst v
        go_wp2_with (first
         | (go_at_call_of 109 k1; refine (hn1 _).mono ?_; rintro r w2 ⟨rfl, rfl⟩)
         | (go_at_call_of 109 k2; refine (hn2 _).mono ?_; rintro r w2 ⟨rfl, rfl⟩)
         | (go_at_call_of 111 k1; refine (hi1 _).mono ?_; rintro r w2 ⟨rfl, rfl⟩)
         | (go_at_call_of 111 k2; refine (hi2 _).mono ?_; rintro r w2 ⟨rfl, rfl⟩)
         | (go_at_call_of 113 k1; refine (hz1 _).mono ?_; rintro r w2 ⟨rfl, rfl⟩)
         | (go_at_call_of 113 k2; refine (hz2 _).mono ?_; rintro r w2 ⟨rfl, rfl⟩)
         | (go_at_call 110; refine (hnan _).mono ?_; rintro r w2 ⟨rfl, rfl⟩)
         | (go_at_call 114; refine (hsg _ _ (by first | exact Or.inl rfl | exact Or.inr rfl) _).mono ?_; rintro r w2 ⟨rfl, rfl⟩))
        go_ret
        exact ⟨rfl, (by repeat (first | with_reducible exact L | with_reducible refine below_new ?_ _ | with_reducible refine Below.drew ?_ | with_reducible refine below_dN ?_ _))⟩
       ·have v := HV.out
        simp only [Bool.or_true, Bool.or_false, Bool.and_true, Bool.and_false, Bool.true_or, Bool.false_or, Bool.true_and, Bool.false_and, if_true, if_false, Bool.false_eq_true] at v
        subst v
        go_wp2_with (first
         | (go_at_call_of 109 k1; refine (hn1 _).mono ?_; rintro r w2 ⟨rfl, rfl⟩)
         | (go_at_call_of 109 k2; refine (hn2 _).mono ?_; rintro r w2 ⟨rfl, rfl⟩)
         | (go_at_call_of 111 k1; refine (hi1 _).mono ?_; rintro r w2 ⟨rfl, rfl⟩)
         | (go_at_call_of 111 k2; refine (hi2 _).mono ?_; rintro r w2 ⟨rfl, rfl⟩)
         | (go_at_call_of 113 k1; refine (hz1 _).mono ?_; rintro r w2 ⟨rfl, rfl⟩)
         | (go_at_call_of 113 k2; refine (hz2 _).mono ?_; rintro r w2 ⟨rfl, rfl⟩)
         | (go_at_call 110; refine (hnan _).mono ?_; rintro r w2 ⟨rfl, rfl⟩)
         | (go_at_call 114; refine (hsg _ _ (by first | exact Or.inl rfl | exact Or.inr rfl) _).mono ?_; rintro r w2 ⟨rfl, rfl⟩))
        go_ret
        exact ⟨rfl, (by repeat (first | with_reducible exact L | with_reducible refine below_new ?_ _ | with_reducible refine Below.drew ?_ | with_reducible refine below_dN ?_ _))⟩
     ·have v := HV.out
      simp only [Bool.or_true, Bool.or_false, Bool.and_true, Bool.and_false, Bool.true_or, Bool.false_or, Bool.true_and, Bool.false_and, if_true, if_false, Bool.false_eq_true] at v
      subst v
      go_wp2_with (first
       | (go_at_call_of 109 k1; refine (hn1 _).mono ?_; rintro r w2 ⟨rfl, rfl⟩)
       | (go_at_call_of 109 k2; refine (hn2 _).mono ?_; rintro r w2 ⟨rfl, rfl⟩)
       | (go_at_call_of 111 k1; refine (hi1 _).mono ?_; rintro r w2 ⟨rfl, rfl⟩)
       | (go_at_call_of 111 k2; refine (hi2 _).mono ?_; rintro r w2 ⟨rfl, rfl⟩)
       | (go_at_call_of 113 k1; refine (hz1 _).mono ?_; rintro r w2 ⟨rfl, rfl⟩)
       | (go_at_call_of 113 k2; refine (hz2 _).mono ?_; rintro r w2 ⟨rfl, rfl⟩)
       | (go_at_call 110; refine (hnan _).mono ?_; rintro r w2 ⟨rfl, rfl⟩)
       | (go_at_call 114; refine (hsg _ _ (by first | exact Or.inl rfl | exact Or.inr rfl) _).mono ?_; rintro r w2 ⟨rfl, rfl⟩))
      go_ret
      exact ⟨rfl, (by repeat (first | with_reducible exact L | with_reducible refine below_new ?_ _ | with_reducible refine Below.drew ?_ | with_reducible refine below_dN ?_ _))⟩
   ·have v := HV.out
    simp only [Bool.or_true, Bool.or_false, Bool.and_true, Bool.and_false, Bool.true_or, Bool.false_or, Bool.true_and, Bool.false_and, if_true, if_false, Bool.false_eq_true] at v
    subst v
    go_wp2_with (first
     | (go_at_call_of 109 k1; refine (hn1 _).mono ?_; rintro r w2 ⟨rfl, rfl⟩)
     | (go_at_call_of 109 k2; refine (hn2 _).mono ?_; rintro r w2 ⟨rfl, rfl⟩)
     | (go_at_call_of 111 k1; refine (hi1 _).mono ?_; rintro r w2 ⟨rfl, rfl⟩)
     | (go_at_call_of 111 k2; refine (hi2 _).mono ?_; rintro r w2 ⟨rfl, rfl⟩)
     | (go_at_call_of 113 k1; refine (hz1 _).mono ?_; rintro r w2 ⟨rfl, rfl⟩)
     | (go_at_call_of 113 k2; refine (hz2 _).mono ?_; rintro r w2 ⟨rfl, rfl⟩)
     | (go_at_call 110; refine (hnan _).mono ?_; rintro r w2 ⟨rfl, rfl⟩)
     | (go_at_call 114; refine (hsg _ _ (by first | exact Or.inl rfl | exact Or.inr rfl) _).mono ?_; rintro r w2 ⟨rfl, rfl⟩))
    go_ret
    exact ⟨rfl, (by repeat (first | with_reducible exact L | with_reducible refine below_new ?_ _ | with_reducible refine Below.drew ?_ | with_reducible refine below_dN ?_ _))⟩
  ·have v := HV.out
   simp only [Bool.or_true, Bool.or_false, Bool.and_true, Bool.and_false, Bool.true_or, Bool.false_or, Bool.true_and, Bool.false_and, if_true, if_false, Bool.false_eq_true] at v
   subst v
   go_wp2_with (first
    | (go_at_call_of 109 k1; refine (hn1 _).mono ?_; rintro r w2 ⟨rfl, rfl⟩)
    | (go_at_call_of 109 k2; refine (hn2 _).mono ?_; rintro r w2 ⟨rfl, rfl⟩)
    | (go_at_call_of 111 k1; refine (hi1 _).mono ?_; rintro r w2 ⟨rfl, rfl⟩)
    | (go_at_call_of 111 k2; refine (hi2 _).mono ?_; rintro r w2 ⟨rfl, rfl⟩)
    | (go_at_call_of 113 k1; refine (hz1 _).mono ?_; rintro r w2 ⟨rfl, rfl⟩)
    | (go_at_call_of 113 k2; refine (hz2 _).mono ?_; rintro r w2 ⟨rfl, rfl⟩)
    | (go_at_call 110; refine (hnan _).mono ?_; rintro r w2 ⟨rfl, rfl⟩)
    | (go_at_call 114; refine (hsg _ _ (by first | exact Or.inl rfl | exact Or.inr rfl) _).mono ?_; rintro r w2 ⟨rfl, rfl⟩))
   go_ret
   exact ⟨rfl, (by repeat (first | with_reducible exact L | with_reducible refine below_new ?_ _ | with_reducible refine Below.drew ?_ | with_reducible refine below_dN ?_ _))⟩
end Go.Proofs.YteafnkimcidkhaaGreat
namespace Go.Proofs.YteafnkimcidkhaaGreat
open Go.RowKit
set_option linter.unusedVariables false
set_option linter.unusedSimpArgs false
end Go.Proofs.YteafnkimcidkhaaGreat
namespace Go.Proofs.YteafnkimcidkhaaGreat
open Go.RowKit
set_option linter.unusedVariables false
set_option linter.unusedSimpArgs false
set_option maxRecDepth 8000 in
set_option maxHeartbeats 8000000 in
theorem add_fl (f m a b : Int) (h1 : Word a) (h2 : Word b) (w : World) :
  Calls Tryz.prog 54 #[.int .i64 f, .int .i64 m, .int .u64 a, .int .u64 b] w fun r w' => r = .returned (.int .u64 (addF (f == 1) m a b)) ∧ Below w.heap.size w w' := by
 have hda : ∀ (w : World) (n : Nat) (o : Obj), (w.drewN n).alloc o = (w.alloc o).drewN n := fun _ _ _ => rfl
 have hfo := formatOf_ex f
 have hsum := sum_any f m (cls (f == 1) a) (sgn (f == 1) a) (whl (f == 1) a) (pwr (f == 1) a) (cls (f == 1) b) (sgn (f == 1) b) (whl (f == 1) b) (pwr (f == 1) b)
 generalize (f == 1) = s at *
 have F1 := fin_of s a h1
 have F2 := fin_of s b h2
 have hV : ∃ V, addF s m a b = V := ⟨_, rfl⟩
 obtain ⟨V, hV⟩ := hV
 rw [hV]
 unfold addF at hV
 have hn1 := noNumber_any (cls s a) (sgn s a) (whl s a) (pwr s a)
 have hn2 := noNumber_any (cls s b) (sgn s b) (whl s b) (pwr s b)
 have hi1 := isInfinite_any (cls s a) (sgn s a) (whl s a) (pwr s a)
 have hi2 := isInfinite_any (cls s b) (sgn s b) (whl s b) (pwr s b)
 have hnan := nan_ex s
 unfold prt prtO at hn1 hn2 hi1 hi2
 rw [fmtV_eq, fmtO_eq] at hnan
 generalize (cls s a == 0 || cls s a == 5) = N1 at *
 generalize (cls s b == 0 || cls s b == 5) = N2 at *
 generalize (cls s a == 4) = I1 at *
 generalize (cls s b == 4) = I2 at *
 have hsa := split_ex s a h1
 have hsb := split_ex s b h2
 rw [fmtV_eq] at hfo hsa hsb
 unfold prtV at hsa hsb
 generalize cls s a = k1 at *
 generalize cls s b = k2 at *
 generalize sgn s a = g1 at *
 generalize sgn s b = g2 at *
 generalize whl s a = u1 at *
 generalize whl s b = u2 at *
 generalize pwr s a = p1 at *
 generalize pwr s b = p2 at *
 have hG : ∃ G, (!(g1 == g2)) = G := ⟨_, rfl⟩
 obtain ⟨G, hG⟩ := hG
 rw [show (g1 != g2) = G from hG] at hV
 have HV : Hid _ := hV
 clear hV
 go_enter Tryz.func54, Tryz.ntmps54
 go_wp2_with (go_at_call 107; refine (hfo _).mono ?_; rintro r w1 ⟨rfl, o1, o2, rfl⟩)
 go_cut [9, 10, 11] from 14 to 19 (fun o p q wx => ∃ bf bx bz : Nat, o = .pointer (some ⟨bf, 0, none⟩) ∧ p = .pointer (some ⟨bx, 0, none⟩) ∧ q = .pointer (some ⟨bz, 0, none⟩) ∧ PrtAt wx bx k1 g1 u1 p1 ∧ PrtAt wx bz k2 g2 u2 p2 ∧ FmtAt wx bf s ∧ Below w.heap.size w wx)
 case first =>
  clear hn1 hn2 hi1 hi2 hnan HV F1 F2 hsum hfo
  go_region_held3 (fun w' => w'.cell? ⟨w.heap.size + 1 + 1, 0, none⟩ = some (.int .i64 (fW s)) ∧ w'.cell? ⟨w.heap.size + 1 + 1, 1, none⟩ = some (.int .i64 (fQ s)) ∧ w'.cell? ⟨w.heap.size + 1 + 1, 2, none⟩ = some (.int .i64 (fL s)) ∧ w'.cell? ⟨w.heap.size + 1 + 1, 3, none⟩ = some (.int .u64 (fS s)) ∧ w'.cell? ⟨w.heap.size + 1 + 1, 4, none⟩ = some (.int .u64 (fI s)))
   (simp [go_sem, World.cell?_alloc_past])
   (first
    | (go_at_call_of 108 a; refine (hsa _).mono ?_; rintro r w2 ⟨rfl, o3, o4, o5, o6, n1, rfl⟩)
    | (go_at_call_of 108 b; refine (hsb _).mono ?_; rintro r w3 ⟨rfl, o7, o8, o9, oa, n2, rfl⟩))
  all_goals (go_wp2_with fail; go_meet)
  all_goals exact ⟨_, _, _, rfl, rfl, rfl, by unfold PrtAt; simp [go_sem, World.cell?_alloc_past], by unfold PrtAt; simp [go_sem, World.cell?_alloc_past], by unfold FmtAt; simp [go_sem, World.cell?_alloc_past], by repeat (first | with_reducible exact Below.refl _ _ | with_reducible refine below_new ?_ _ | with_reducible refine Below.drew ?_ | with_reducible refine below_dN ?_ _ | with_reducible refine Below.setCell ?_ (by simp; omega) _)⟩
 case rest =>
  obtain ⟨bf, bx, bz, rfl, rfl, rfl, ⟨x0, x1, x2, x3⟩, ⟨z0, z1, z2, z3⟩, ⟨y0, y1, y2, y3, y4⟩, L⟩ := hcut
  have lx := lt_new x0
  have lz := lt_new z0
  have ly := lt_new y0
  clear hfo hsa hsb
  have lx1 : bx < wc.heap.size + 1 := by omega
  have lx2 : bx < wc.heap.size + 1 + 1 := by omega
  have lx3 : bx < wc.heap.size + 1 + 1 + 1 := by omega
  have lx4 : bx < wc.heap.size + 1 + 1 + 1 + 1 := by omega
  have lx5 : bx < wc.heap.size + 1 + 1 + 1 + 1 + 1 := by omega
  have lx6 : bx < wc.heap.size + 1 + 1 + 1 + 1 + 1 + 1 := by omega
  have lx7 : bx < wc.heap.size + 1 + 1 + 1 + 1 + 1 + 1 + 1 := by omega
  have lx8 : bx < wc.heap.size + 1 + 1 + 1 + 1 + 1 + 1 + 1 + 1 := by omega
  have lz1 : bz < wc.heap.size + 1 := by omega
  have lz2 : bz < wc.heap.size + 1 + 1 := by omega
  have lz3 : bz < wc.heap.size + 1 + 1 + 1 := by omega
  have lz4 : bz < wc.heap.size + 1 + 1 + 1 + 1 := by omega
  have lz5 : bz < wc.heap.size + 1 + 1 + 1 + 1 + 1 := by omega
  have lz6 : bz < wc.heap.size + 1 + 1 + 1 + 1 + 1 + 1 := by omega
  have lz7 : bz < wc.heap.size + 1 + 1 + 1 + 1 + 1 + 1 + 1 := by omega
  have lz8 : bz < wc.heap.size + 1 + 1 + 1 + 1 + 1 + 1 + 1 + 1 := by omega
  have ly1 : bf < wc.heap.size + 1 := by omega
  have ly2 : bf < wc.heap.size + 1 + 1 := by omega
  have ly3 : bf < wc.heap.size + 1 + 1 + 1 := by omega
  have ly4 : bf < wc.heap.size + 1 + 1 + 1 + 1 := by omega
  have ly5 : bf < wc.heap.size + 1 + 1 + 1 + 1 + 1 := by omega
  have ly6 : bf < wc.heap.size + 1 + 1 + 1 + 1 + 1 + 1 := by omega
  have ly7 : bf < wc.heap.size + 1 + 1 + 1 + 1 + 1 + 1 + 1 := by omega
  have ly8 : bf < wc.heap.size + 1 + 1 + 1 + 1 + 1 + 1 + 1 + 1 := by omega
  cases N1
  ·cases N2
   ·cases I1
    ·cases I2
     ·have v := HV.out
      simp only [Bool.or_true, Bool.or_false, Bool.and_true, Bool.and_false, Bool.true_or, Bool.false_or, Bool.true_and, Bool.false_and, if_true, if_false, Bool.false_eq_true] at v
      have HW : Hid _ := v
      clear v HV
      obtain ⟨f1, _⟩ := F1 rfl rfl
      obtain ⟨f2, _⟩ := F2 rfl rfl
      have hsu := hsum f1 f2
      unfold prt at hsu
      go_wp2_with (first
       | (go_at_call_of 109 k1; refine (hn1 _).mono ?_; rintro r w2 ⟨rfl, rfl⟩)
       | (go_at_call_of 109 k2; refine (hn2 _).mono ?_; rintro r w2 ⟨rfl, rfl⟩)
       | (go_at_call_of 111 k1; refine (hi1 _).mono ?_; rintro r w2 ⟨rfl, rfl⟩)
       | (go_at_call_of 111 k2; refine (hi2 _).mono ?_; rintro r w2 ⟨rfl, rfl⟩)
       | (go_at_call 110; refine (hnan _).mono ?_; rintro r w2 ⟨rfl, rfl⟩))
      refine (hsu _).mono ?_
      rintro r w5 ⟨rfl, hb5⟩
      replace L : Below w.heap.size w w5 := below_call (by repeat (first | with_reducible exact L | with_reducible refine below_new ?_ _ | with_reducible refine Below.drew ?_ | with_reducible refine below_dN ?_ _)) hb5
      clear hb5 hsu
      go_wp2_with fail
      go_ret
      exact ⟨ru_eq HW.out, L⟩
     ·have v := HV.out
      simp only [Bool.or_true, Bool.or_false, Bool.and_true, Bool.and_false, Bool.true_or, Bool.false_or, Bool.true_and, Bool.false_and, if_true, if_false, Bool.false_eq_true] at v
      subst v
      go_wp2_with (first
       | (go_at_call_of 109 k1; refine (hn1 _).mono ?_; rintro r w2 ⟨rfl, rfl⟩)
       | (go_at_call_of 109 k2; refine (hn2 _).mono ?_; rintro r w2 ⟨rfl, rfl⟩)
       | (go_at_call_of 111 k1; refine (hi1 _).mono ?_; rintro r w2 ⟨rfl, rfl⟩)
       | (go_at_call_of 111 k2; refine (hi2 _).mono ?_; rintro r w2 ⟨rfl, rfl⟩)
       | (go_at_call 110; refine (hnan _).mono ?_; rintro r w2 ⟨rfl, rfl⟩))
      go_ret
      exact ⟨rfl, (by repeat (first | with_reducible exact L | with_reducible refine below_new ?_ _ | with_reducible refine Below.drew ?_ | with_reducible refine below_dN ?_ _))⟩
    ·cases I2
     ·have v := HV.out
      simp only [Bool.or_true, Bool.or_false, Bool.and_true, Bool.and_false, Bool.true_or, Bool.false_or, Bool.true_and, Bool.false_and, if_true, if_false, Bool.false_eq_true] at v
      subst v
      go_wp2_with (first
       | (go_at_call_of 109 k1; refine (hn1 _).mono ?_; rintro r w2 ⟨rfl, rfl⟩)
       | (go_at_call_of 109 k2; refine (hn2 _).mono ?_; rintro r w2 ⟨rfl, rfl⟩)
       | (go_at_call_of 111 k1; refine (hi1 _).mono ?_; rintro r w2 ⟨rfl, rfl⟩)
       | (go_at_call_of 111 k2; refine (hi2 _).mono ?_; rintro r w2 ⟨rfl, rfl⟩)
       | (go_at_call 110; refine (hnan _).mono ?_; rintro r w2 ⟨rfl, rfl⟩))
      go_ret
      exact ⟨rfl, (by repeat (first | with_reducible exact L | with_reducible refine below_new ?_ _ | with_reducible refine Below.drew ?_ | with_reducible refine below_dN ?_ _))⟩
     ·cases G
      ·have v := HV.out
       simp only [Bool.or_true, Bool.or_false, Bool.and_true, Bool.and_false, Bool.true_or, Bool.false_or, Bool.true_and, Bool.false_and, if_true, if_false, Bool.false_eq_true] at v
       subst v
       go_wp2_with (first
        | (go_at_call_of 109 k1; refine (hn1 _).mono ?_; rintro r w2 ⟨rfl, rfl⟩)
        | (go_at_call_of 109 k2; refine (hn2 _).mono ?_; rintro r w2 ⟨rfl, rfl⟩)
        | (go_at_call_of 111 k1; refine (hi1 _).mono ?_; rintro r w2 ⟨rfl, rfl⟩)
        | (go_at_call_of 111 k2; refine (hi2 _).mono ?_; rintro r w2 ⟨rfl, rfl⟩)
        | (go_at_call 110; refine (hnan _).mono ?_; rintro r w2 ⟨rfl, rfl⟩))
       go_ret
       exact ⟨rfl, (by repeat (first | with_reducible exact L | with_reducible refine below_new ?_ _ | with_reducible refine Below.drew ?_ | with_reducible refine below_dN ?_ _))⟩
      ·have v := HV.out
       simp only [Bool.or_true, Bool.or_false, Bool.and_true, Bool.and_false, Bool.true_or, Bool.false_or, Bool.true_and, Bool.false_and, if_true, if_false, Bool.false_eq_true] at v
       subst v
       go_wp2_with (first
        | (go_at_call_of 109 k1; refine (hn1 _).mono ?_; rintro r w2 ⟨rfl, rfl⟩)
        | (go_at_call_of 109 k2; refine (hn2 _).mono ?_; rintro r w2 ⟨rfl, rfl⟩)
        | (go_at_call_of 111 k1; refine (hi1 _).mono ?_; rintro r w2 ⟨rfl, rfl⟩)
        | (go_at_call_of 111 k2; refine (hi2 _).mono ?_; rintro r w2 ⟨rfl, rfl⟩)
        | (go_at_call 110; refine (hnan _).mono ?_; rintro r w2 ⟨rfl, rfl⟩))
       go_ret
       exact ⟨rfl, (by repeat (first | with_reducible exact L | with_reducible refine below_new ?_ _ | with_reducible refine Below.drew ?_ | with_reducible refine below_dN ?_ _))⟩
   ·have v := HV.out
    simp only [Bool.or_true, Bool.or_false, Bool.and_true, Bool.and_false, Bool.true_or, Bool.false_or, Bool.true_and, Bool.false_and, if_true, if_false, Bool.false_eq_true] at v
    subst v
    go_wp2_with (first
     | (go_at_call_of 109 k1; refine (hn1 _).mono ?_; rintro r w2 ⟨rfl, rfl⟩)
     | (go_at_call_of 109 k2; refine (hn2 _).mono ?_; rintro r w2 ⟨rfl, rfl⟩)
     | (go_at_call_of 111 k1; refine (hi1 _).mono ?_; rintro r w2 ⟨rfl, rfl⟩)
     | (go_at_call_of 111 k2; refine (hi2 _).mono ?_; rintro r w2 ⟨rfl, rfl⟩)
     | (go_at_call 110; refine (hnan _).mono ?_; rintro r w2 ⟨rfl, rfl⟩))
    go_ret
    exact ⟨rfl, (by repeat (first | with_reducible exact L | with_reducible refine below_new ?_ _ | with_reducible refine Below.drew ?_ | with_reducible refine below_dN ?_ _))⟩
  ·have v := HV.out
   simp only [Bool.or_true, Bool.or_false, Bool.and_true, Bool.and_false, Bool.true_or, Bool.false_or, Bool.true_and, Bool.false_and, if_true, if_false, Bool.false_eq_true] at v
   subst v
   go_wp2_with (first
    | (go_at_call_of 109 k1; refine (hn1 _).mono ?_; rintro r w2 ⟨rfl, rfl⟩)
    | (go_at_call_of 109 k2; refine (hn2 _).mono ?_; rintro r w2 ⟨rfl, rfl⟩)
    | (go_at_call_of 111 k1; refine (hi1 _).mono ?_; rintro r w2 ⟨rfl, rfl⟩)
    | (go_at_call_of 111 k2; refine (hi2 _).mono ?_; rintro r w2 ⟨rfl, rfl⟩)
    | (go_at_call 110; refine (hnan _).mono ?_; rintro r w2 ⟨rfl, rfl⟩))
   go_ret
   exact ⟨rfl, (by repeat (first | with_reducible exact L | with_reducible refine below_new ?_ _ | with_reducible refine Below.drew ?_ | with_reducible refine below_dN ?_ _))⟩
end Go.Proofs.YteafnkimcidkhaaGreat
namespace Go.Proofs.YteafnkimcidkhaaGreat
open Go.RowKit
set_option linter.unusedVariables false
set_option linter.unusedSimpArgs false
def negF (s : Bool) (a : Int) : Int := if cls s a == 0 || cls s a == 5 then fNan s else bits BinOp.xor IntKind.u64 a (fS s)
theorem fS_nat (s : Bool) : ∃ n : Nat, fS s = (n : Int) ∧ n < 18446744073709551616 := by
 cases s
 ·exact ⟨9223372036854775808, rfl, by decide⟩
 ·exact ⟨2147483648, rfl, by decide⟩
theorem xor_word (s : Bool) (a : Int) (h : Word a) : Word (bits BinOp.xor IntKind.u64 a (fS s)) := by
 obtain ⟨x, rfl⟩ := Int.eq_ofNat_of_zero_le h.1
 obtain ⟨n, e, l⟩ := fS_nat s
 have hx := h.2
 rw [e, u64_xor_nat x n (by omega) l]
 have : x ^^^ n < 2 ^ 64 := Nat.xor_lt_two_pow (by omega) (by omega)
 exact ⟨by omega, by omega⟩
theorem negF_word (s : Bool) (a : Int) (h : Word a) : Word (negF s a) := by
 unfold negF
 split
 ·cases s <;> exact ⟨by decide, by decide⟩
 ·exact xor_word s a h
theorem neg_fl (f a : Int) (h1 : Word a) (w : World) :
  Calls Tryz.prog 79 #[.int .i64 f, .int .u64 a] w fun r w' => r = .returned (.int .u64 (negF (f == 1) a)) ∧ Below w.heap.size w w' := by
 have hda : ∀ (w : World) (n : Nat) (o : Obj), (w.drewN n).alloc o = (w.alloc o).drewN n := fun _ _ _ => rfl
 have hfo := formatOf_ex f
 generalize (f == 1) = s at *
 have hV : ∃ V, negF s a = V := ⟨_, rfl⟩
 obtain ⟨V, hV⟩ := hV
 rw [hV]
 unfold negF at hV
 have hn1 := noNumber_any (cls s a) (sgn s a) (whl s a) (pwr s a)
 have hnan := nan_ex s
 have hsa := split_ex s a h1
 unfold prt prtO at hn1
 rw [fmtV_eq, fmtO_eq] at hnan
 rw [fmtV_eq] at hfo hsa
 unfold prtV at hsa
 generalize (cls s a == 0 || cls s a == 5) = N1 at *
 generalize cls s a = k1 at *
 generalize sgn s a = g1 at *
 generalize whl s a = u1 at *
 generalize pwr s a = p1 at *
 cases N1
 ·simp only [Bool.false_eq_true, if_false] at hV
  subst hV
  go_enter Tryz.func79, Tryz.ntmps79
  go_wp2_with (first
   | (go_at_call 107; refine (hfo _).mono ?_; rintro r w1 ⟨rfl, o1, o2, rfl⟩)
   | (go_at_call 108; refine (hsa _).mono ?_; rintro r w2 ⟨rfl, o3, o4, o5, o6, n1, rfl⟩)
   | (go_at_call 109; refine (hn1 _).mono ?_; rintro r w2 ⟨rfl, rfl⟩))
  go_ret
  exact ⟨rfl, (by repeat (first | with_reducible exact Below.refl _ _ | with_reducible refine below_new ?_ _ | with_reducible refine Below.drew ?_ | with_reducible refine below_dN ?_ _))⟩
 ·simp only [if_true] at hV
  subst hV
  go_enter Tryz.func79, Tryz.ntmps79
  go_wp2_with (first
   | (go_at_call 107; refine (hfo _).mono ?_; rintro r w1 ⟨rfl, o1, o2, rfl⟩)
   | (go_at_call 108; refine (hsa _).mono ?_; rintro r w2 ⟨rfl, o3, o4, o5, o6, n1, rfl⟩)
   | (go_at_call 109; refine (hn1 _).mono ?_; rintro r w2 ⟨rfl, rfl⟩)
   | (go_at_call 110; refine (hnan _).mono ?_; rintro r w2 ⟨rfl, rfl⟩))
  go_ret
  exact ⟨rfl, (by repeat (first | with_reducible exact Below.refl _ _ | with_reducible refine below_new ?_ _ | with_reducible refine Below.drew ?_ | with_reducible refine below_dN ?_ _))⟩
end Go.Proofs.YteafnkimcidkhaaGreat
namespace Go.Proofs.YteafnkimcidkhaaGreat
open Go.RowKit
set_option linter.unusedVariables false
set_option linter.unusedSimpArgs false
def rnk (s : Bool) (a : Int) : Int := if sgn s a then -(zOf s a) else zOf s a
theorem zOf_small (s : Bool) (a : Int) (h : Word a) (c : (cls s a == 0 || cls s a == 5) = false) : zOf s a ≤ fI s := by
 simp only [Bool.or_eq_false_iff, beq_eq_false_iff_ne, ne_eq] at c
 obtain ⟨k0, k5⟩ := c
 unfold cls at k0 k5
 have w : wideB s a = false := by
  cases t : wideB s a
  ·rfl
  ·rw [t] at k0; simp at k0
 rw [w] at k5
 simp only [Bool.false_eq_true, if_false] at k5
 by_cases t : fI s < zOf s a
 ·rw [if_pos t] at k5; exact absurd rfl k5
 ·omega
theorem order_any (s : Bool) (a : Int) (h : Word a) (hz : zOf s a ≤ 9223372036854775807) (w : World) :
  Calls Tryz.prog 181 #[fmtV s, .int .u64 a] w fun e w' => e = .returned (.int .i64 (rnk s a)) ∧ w' = w.alloc (fmtO s) := by
 obtain ⟨z0, z1⟩ := zOf_word s a h
 have hg : ∃ g, sgn s a = g := ⟨_, rfl⟩
 obtain ⟨g, hg⟩ := hg
 have hzz : ∃ z, zOf s a = z := ⟨_, rfl⟩
 obtain ⟨z, hzz⟩ := hzz
 unfold rnk
 rw [hg, hzz]
 rw [hzz] at z0 z1 hz
 have n1 : bits BinOp.andNot IntKind.u64 a (fS s) = z := hzz
 have n2 : (bits BinOp.and IntKind.u64 a (fS s) != 0) = g := hg
 rw [fmtV_eq, fmtO_eq]
 generalize fS s = S at *
 clear hg hzz
 cases g
 ·go_enter Tryz.func181, Tryz.ntmps181
  go_wp2_with fail
  go_ret
  exact ⟨rfl, rfl⟩
 ·go_enter Tryz.func181, Tryz.ntmps181
  go_wp2_with fail
  go_ret
  exact ⟨rfl, rfl⟩
def cmpF (s : Bool) (a b : Int) : Int × Bool :=
 if (cls s a == 0 || cls s a == 5) || (cls s b == 0 || cls s b == 5) then (0, false)
 else (if rnk s a < rnk s b then -1 else if rnk s b < rnk s a then 1 else 0, true)
theorem fI_i64 (s : Bool) : fI s ≤ 9223372036854775807 := by cases s <;> decide
set_option maxRecDepth 8000 in
set_option maxHeartbeats 1600000 in
theorem compare_fl (f a b : Int) (h1 : Word a) (h2 : Word b) (w : World) :
  Calls Tryz.prog 145 #[.int .i64 f, .int .u64 a, .int .u64 b] w fun r w' => r = .returned (.tuple #[.int .i64 (cmpF (f == 1) a b).1, .bool (cmpF (f == 1) a b).2]) ∧ Below w.heap.size w w' := by
 have hda : ∀ (w : World) (n : Nat) (o : Obj), (w.drewN n).alloc o = (w.alloc o).drewN n := fun _ _ _ => rfl
 have hfo := formatOf_ex f
 generalize (f == 1) = s at *
 have hn1 := noNumber_any (cls s a) (sgn s a) (whl s a) (pwr s a)
 have hn2 := noNumber_any (cls s b) (sgn s b) (whl s b) (pwr s b)
 have hsa := split_ex s a h1
 have hsb := split_ex s b h2
 have ho1 : (cls s a == 0 || cls s a == 5) = false → ∀ w, _ := fun c => order_any s a h1 (Int.le_trans (zOf_small s a h1 c) (fI_i64 s))
 have ho2 : (cls s b == 0 || cls s b == 5) = false → ∀ w, _ := fun c => order_any s b h2 (Int.le_trans (zOf_small s b h2 c) (fI_i64 s))
 unfold cmpF
 unfold prt prtO at hn1 hn2
 rw [fmtV_eq] at hfo hsa hsb ho1 ho2
 unfold prtV at hsa hsb
 generalize (cls s a == 0 || cls s a == 5) = N1 at *
 generalize (cls s b == 0 || cls s b == 5) = N2 at *
 generalize cls s a = k1 at *
 generalize cls s b = k2 at *
 generalize sgn s a = g1 at *
 generalize sgn s b = g2 at *
 generalize whl s a = u1 at *
 generalize whl s b = u2 at *
 generalize pwr s a = p1 at *
 generalize pwr s b = p2 at *
 generalize rnk s a = r1 at *
 generalize rnk s b = r2 at *
 cases N1
 ·cases N2
  ·simp only [Bool.or_false, Bool.false_eq_true, if_false]
   have hp1 := ho1 rfl
   have hp2 := ho2 rfl
   clear ho1 ho2
   go_enter Tryz.func145, Tryz.ntmps145
   go_wp2_with (first
    | (go_at_call 107; refine (hfo _).mono ?_; rintro r w1 ⟨rfl, o1, o2, rfl⟩)
    | (go_at_call_of 108 a; refine (hsa _).mono ?_; rintro r w2 ⟨rfl, o3, o4, o5, o6, n1, rfl⟩)
    | (go_at_call_of 108 b; refine (hsb _).mono ?_; rintro r w2 ⟨rfl, o7, o8, o9, oa, n2, rfl⟩)
    | (go_at_call_of 109 k1; refine (hn1 _).mono ?_; rintro r w2 ⟨rfl, rfl⟩)
    | (go_at_call_of 109 k2; refine (hn2 _).mono ?_; rintro r w2 ⟨rfl, rfl⟩))
   go_region_held3 (fun w' => w'.cell? ⟨w.heap.size + 1 + 1, 0, none⟩ = some (.int .i64 (fW s)) ∧ w'.cell? ⟨w.heap.size + 1 + 1, 1, none⟩ = some (.int .i64 (fQ s)) ∧ w'.cell? ⟨w.heap.size + 1 + 1, 2, none⟩ = some (.int .i64 (fL s)) ∧ w'.cell? ⟨w.heap.size + 1 + 1, 3, none⟩ = some (.int .u64 (fS s)) ∧ w'.cell? ⟨w.heap.size + 1 + 1, 4, none⟩ = some (.int .u64 (fI s)))
    (simp [go_sem, World.cell?_alloc_past])
    (first
     | (go_at_call_of 181 a; refine (hp1 _).mono ?_; rintro r w2 ⟨rfl, rfl⟩)
     | (go_at_call_of 181 b; refine (hp2 _).mono ?_; rintro r w3 ⟨rfl, rfl⟩))
   by_cases c1 : r1 < r2
   ·go_wp2_with fail
    exact bodyPost_ret (v := .tuple #[.int .i64 (-1), .bool true]) (by simp [results, Tryz.results145, go_sem]) rfl ⟨by simp [c1], (by repeat (first | with_reducible exact Below.refl _ _ | with_reducible refine below_new ?_ _ | with_reducible refine Below.drew ?_ | with_reducible refine below_dN ?_ _))⟩
   ·by_cases c2 : r2 < r1
    ·go_wp2_with fail
     exact bodyPost_ret (v := .tuple #[.int .i64 (1), .bool true]) (by simp [results, Tryz.results145, go_sem]) rfl ⟨by simp [c1, c2], (by repeat (first | with_reducible exact Below.refl _ _ | with_reducible refine below_new ?_ _ | with_reducible refine Below.drew ?_ | with_reducible refine below_dN ?_ _))⟩
    ·go_wp2_with fail
     exact bodyPost_ret (v := .tuple #[.int .i64 (0), .bool true]) (by simp [results, Tryz.results145, go_sem]) rfl ⟨by simp [c1, c2], (by repeat (first | with_reducible exact Below.refl _ _ | with_reducible refine below_new ?_ _ | with_reducible refine Below.drew ?_ | with_reducible refine below_dN ?_ _))⟩
  ·simp only [Bool.or_true, if_true]
   go_enter Tryz.func145, Tryz.ntmps145
   go_wp2_with (first
    | (go_at_call 107; refine (hfo _).mono ?_; rintro r w1 ⟨rfl, o1, o2, rfl⟩)
    | (go_at_call_of 108 a; refine (hsa _).mono ?_; rintro r w2 ⟨rfl, o3, o4, o5, o6, n1, rfl⟩)
    | (go_at_call_of 108 b; refine (hsb _).mono ?_; rintro r w2 ⟨rfl, o7, o8, o9, oa, n2, rfl⟩)
    | (go_at_call_of 109 k1; refine (hn1 _).mono ?_; rintro r w2 ⟨rfl, rfl⟩)
    | (go_at_call_of 109 k2; refine (hn2 _).mono ?_; rintro r w2 ⟨rfl, rfl⟩))
   exact bodyPost_ret (v := .tuple #[.int .i64 0, .bool false]) (by simp [results, Tryz.results145, go_sem]) rfl ⟨rfl, (by repeat (first | with_reducible exact Below.refl _ _ | with_reducible refine below_new ?_ _ | with_reducible refine Below.drew ?_ | with_reducible refine below_dN ?_ _))⟩
 ·simp only [Bool.true_or, if_true]
  go_enter Tryz.func145, Tryz.ntmps145
  go_wp2_with (first
    | (go_at_call 107; refine (hfo _).mono ?_; rintro r w1 ⟨rfl, o1, o2, rfl⟩)
    | (go_at_call_of 108 a; refine (hsa _).mono ?_; rintro r w2 ⟨rfl, o3, o4, o5, o6, n1, rfl⟩)
    | (go_at_call_of 109 k1; refine (hn1 _).mono ?_; rintro r w2 ⟨rfl, rfl⟩))
  exact bodyPost_ret (v := .tuple #[.int .i64 0, .bool false]) (by simp [results, Tryz.results145, go_sem]) rfl ⟨rfl, (by repeat (first | with_reducible exact Below.refl _ _ | with_reducible refine below_new ?_ _ | with_reducible refine Below.drew ?_ | with_reducible refine below_dN ?_ _))⟩
theorem class_fl (f a : Int) (h1 : Word a) (w : World) :
  Calls Tryz.prog 170 #[.int .i64 f, .int .u64 a] w fun r w' => r = .returned (.int .i64 (cls (f == 1) a)) ∧ Below w.heap.size w w' := by
 have hda : ∀ (w : World) (n : Nat) (o : Obj), (w.drewN n).alloc o = (w.alloc o).drewN n := fun _ _ _ => rfl
 have hfo := formatOf_ex f
 generalize (f == 1) = s at *
 have hc := class_any s a h1
 rw [fmtV_eq] at hfo hc
 generalize cls s a = k at *
 go_enter Tryz.func170, Tryz.ntmps170
 go_wp2_with (first
  | (go_at_call 107; refine (hfo _).mono ?_; rintro r w1 ⟨rfl, o1, o2, rfl⟩)
  | (go_at_call 157; refine (hc _).mono ?_; rintro r w2 ⟨rfl, rfl⟩))
 go_ret
 exact ⟨rfl, (by repeat (first | with_reducible exact Below.refl _ _ | with_reducible refine below_new ?_ _ | with_reducible refine Below.drew ?_ | with_reducible refine below_dN ?_ _))⟩
def finF (s : Bool) (a : Int) : Bool := cls s a == 1 || cls s a == 2 || cls s a == 3
theorem finite_fl (f a : Int) (h1 : Word a) (w : World) :
  Calls Tryz.prog 135 #[.int .i64 f, .int .u64 a] w fun r w' => r = .returned (.bool (finF (f == 1) a)) ∧ Below w.heap.size w w' := by
 have hc := class_fl f a h1
 generalize (f == 1) = s at *
 unfold finF
 generalize cls s a = k at *
 by_cases c1 : k = 1
 ·subst c1
  go_enter Tryz.func135, Tryz.ntmps135
  go_wp2_with fail
  refine (hc _).mono ?_
  rintro r w1 ⟨rfl, hb1⟩
  go_wp2_with fail
  go_ret
  exact ⟨rfl, hb1⟩
 ·by_cases c2 : k = 2
  ·subst c2
   go_enter Tryz.func135, Tryz.ntmps135
   go_wp2_with fail
   refine (hc _).mono ?_
   rintro r w1 ⟨rfl, hb1⟩
   go_wp2_with fail
   go_ret
   exact ⟨rfl, hb1⟩
  ·by_cases c3 : k = 3
   ·subst c3
    go_enter Tryz.func135, Tryz.ntmps135
    go_wp2_with fail
    refine (hc _).mono ?_
    rintro r w1 ⟨rfl, hb1⟩
    go_wp2_with fail
    go_ret
    exact ⟨rfl, hb1⟩
   ·have d1 : (k == 1) = false := by simp [c1]
    have d2 : (k == 2) = false := by simp [c2]
    have d3 : (k == 3) = false := by simp [c3]
    rw [d1, d2, d3]
    go_enter Tryz.func135, Tryz.ntmps135
    go_wp2_with fail
    refine (hc _).mono ?_
    rintro r w1 ⟨rfl, hb1⟩
    go_wp2_with fail
    go_ret
    exact ⟨rfl, hb1⟩
end Go.Proofs.YteafnkimcidkhaaGreat
namespace Go.Proofs.YteafnkimcidkhaaGreat
open Go.RowKit
set_option linter.unusedVariables false
set_option linter.unusedSimpArgs false
def shpV (s : Bool) : Value := .agg #[.int .i64 (if s then 32 else 64), .int .i64 (if s then 23 else 52), .int .i64 (if s then -149 else -1074)]
def shpO (s : Bool) : Obj := .cells #[.int .i64 (if s then 32 else 64), .int .i64 (if s then 23 else 52), .int .i64 (if s then -149 else -1074)] 200
theorem shapeOf_ex (f : Int) (w : World) :
  Calls Tryz.prog 172 #[.int .i64 f] w fun e w' => e = .returned (shpV (f == 1)) ∧ ∃ o1, w' = w.alloc o1 := by
 by_cases c : f = 1
 ·subst c
  go_enter Tryz.func172, Tryz.ntmps172
  go_wp2_with fail
  exact bodyPost_ret (v := shpV true) (by simp [results, Tryz.results172, go_sem, shpV]) rfl ⟨rfl, _, rfl⟩
 ·have c' : (f == 1) = false := by simp [c]
  rw [c']
  go_enter Tryz.func172, Tryz.ntmps172
  go_wp2_with fail
  exact bodyPost_ret (v := shpV false) (by simp [results, Tryz.results172, go_sem, shpV]) rfl ⟨rfl, _, rfl⟩
theorem csign_ex (s : Bool) (w : World) :
  Calls Tryz.prog 173 #[shpV s] w fun e w' => e = .returned (.int .u64 (fS s)) ∧ w' = w.alloc (shpO s) := by
 cases s
 ·unfold shpV shpO
  go_enter Tryz.func173, Tryz.ntmps173
  go_wp2_with fail
  go_ret
  exact ⟨rfl, rfl⟩
 ·unfold shpV shpO
  go_enter Tryz.func173, Tryz.ntmps173
  go_wp2_with fail
  go_ret
  exact ⟨rfl, rfl⟩
end Go.Proofs.YteafnkimcidkhaaGreat




