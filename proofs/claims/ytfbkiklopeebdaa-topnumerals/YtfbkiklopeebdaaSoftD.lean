/- Rounding: which way, what is cut off, and what is too great. -/
import Derived.Test.YtfbkiklopeebdaaSoftC
import Derived.Laws.EntriesVeiled
import Derived.Shelf.Abstract
namespace Go.Proofs.Ytfbkiklopeebdaa
open Go.RowKit
set_option linter.unusedVariables false
set_option linter.unusedSimpArgs false
def awF (m : Int) : Nat := if m = 1 then 33 else if m = 2 then 34 else if m = 3 then 35 else 36
def rdV (m : Int) : Value := .agg #[.func (.func (awF m)) #[] #[]]
def rdO (m : Int) : Obj := .cells #[.func (.func (awF m)) #[] #[]] 69
theorem roundingOf_any (m : Int) (w : World) : Calls Try.prog 29 #[.int .i64 m] w fun e w' => e = .returned (rdV m) ∧ w' = w.alloc (rdO m) := by
  unfold rdV rdO awF
  by_cases c1 : m = 1
  · subst c1
    go_enter Try.func29, Try.ntmps29
    go_wp2_with fail
    exact bodyPost_ret (v := .agg #[.func (.func 33) #[] #[]]) (by simp [results, Try.results29, go_sem]) rfl ⟨rfl, rfl⟩
  · by_cases c2 : m = 2
    · subst c2
      go_enter Try.func29, Try.ntmps29
      go_wp2_with fail
      exact bodyPost_ret (v := .agg #[.func (.func 34) #[] #[]]) (by simp [results, Try.results29, go_sem]) rfl ⟨rfl, rfl⟩
    · by_cases c3 : m = 3
      · subst c3
        go_enter Try.func29, Try.ntmps29
        go_wp2_with fail
        exact bodyPost_ret (v := .agg #[.func (.func 35) #[] #[]]) (by simp [results, Try.results29, go_sem]) rfl ⟨rfl, rfl⟩
      · rw [if_neg c1, if_neg c2, if_neg c3]
        go_enter Try.func29, Try.ntmps29
        go_wp2_with fail
        exact bodyPost_ret (v := .agg #[.func (.func 36) #[] #[]]) (by simp [results, Try.results29, go_sem]) rfl ⟨rfl, rfl⟩
/-- What is lost, as the program counts it. -/
def rc (h l : Bool) : Int := if h then (if l then 3 else 2) else (if l then 1 else 0)
theorem away_any (m : Int) (b o h l : Bool) (w : World) : Calls Try.prog (awF m) #[.bool b, .bool o, .int .i64 (rc h l)] w fun e w' => e = .returned (.bool (away m b o h l)) ∧ w' = w := by
  unfold awF away
  by_cases c1 : m = 1
  · rw [if_pos c1, if_pos c1]
    cases b <;> cases h <;> cases l
    all_goals (unfold rc; simp only [if_true, if_false, Bool.false_eq_true])
    all_goals (go_enter Try.func33, Try.ntmps33; go_wp2_with fail; go_ret; exact ⟨rfl, rfl⟩)
  · rw [if_neg c1, if_neg c1]
    by_cases c2 : m = 2
    · rw [if_pos c2, if_pos c2]
      cases b <;> cases h <;> cases l
      all_goals (unfold rc; simp only [if_true, if_false, Bool.false_eq_true])
      all_goals (go_enter Try.func34, Try.ntmps34; go_wp2_with fail; go_ret; exact ⟨rfl, rfl⟩)
    · rw [if_neg c2, if_neg c2]
      by_cases c3 : m = 3
      · rw [if_pos c3, if_pos c3]
        go_enter Try.func35, Try.ntmps35; go_wp2_with fail; go_ret; exact ⟨rfl, rfl⟩
      · rw [if_neg c3, if_neg c3]
        cases o <;> cases h <;> cases l
        all_goals (unfold rc; simp only [if_true, if_false, Bool.false_eq_true])
        all_goals (go_enter Try.func36, Try.ntmps36; go_wp2_with fail; go_ret; exact ⟨rfl, rfl⟩)
theorem awF_enters (m : Int) : ∀ args w, (callFunc (awF m) args).run Try.prog w = .ok (.enter (awF m) args) w := by
  unfold awF
  by_cases c1 : m = 1
  · rw [if_pos c1]; exact enters_of Try.func33 (by kernel_rfl) rfl
  · rw [if_neg c1]
    by_cases c2 : m = 2
    · rw [if_pos c2]; exact enters_of Try.func34 (by kernel_rfl) rfl
    · rw [if_neg c2]
      by_cases c3 : m = 3
      · rw [if_pos c3]; exact enters_of Try.func35 (by kernel_rfl) rfl
      · rw [if_neg c3]; exact enters_of Try.func36 (by kernel_rfl) rfl
theorem tooGreat_any (s : Bool) (m : Int) (b : Bool) (w : World) : Calls Try.prog 31 #[fmtV s, rdV m, .bool b] w fun e w' => e = .returned (.int .u64 (great s m b)) ∧ Below w.heap.size w w' := by
  have ha := away_any m b true true true
  have hE := awF_enters m
  unfold great
  generalize away m b true true true = r at *
  have r3 : rc true true = 3 := rfl
  rw [r3] at ha
  unfold rdV
  generalize awF m = F at *
  cases s <;> cases r
  all_goals unfold fmtV
  · go_enter Try.func31, Try.ntmps31
    go_wp2_with (first | (go_at_fn F; refine (ha _).mono ?_; rintro e w1 ⟨rfl, rfl⟩) | (go_at_call 37; refine (most_any false _).mono ?_; rintro e w1 ⟨rfl, rfl⟩))
    go_ret
    exact ⟨rfl, below_three _ _ _ _⟩
  · go_enter Try.func31, Try.ntmps31
    go_wp2_with (go_at_fn F; refine (ha _).mono ?_; rintro e w1 ⟨rfl, rfl⟩)
    go_ret
    exact ⟨rfl, below_two _ _ _⟩
  · go_enter Try.func31, Try.ntmps31
    go_wp2_with (first | (go_at_fn F; refine (ha _).mono ?_; rintro e w1 ⟨rfl, rfl⟩) | (go_at_call 37; refine (most_any true _).mono ?_; rintro e w1 ⟨rfl, rfl⟩))
    go_ret
    exact ⟨rfl, below_three _ _ _ _⟩
  · go_enter Try.func31, Try.ntmps31
    go_wp2_with (go_at_fn F; refine (ha _).mono ?_; rintro e w1 ⟨rfl, rfl⟩)
    go_ret
    exact ⟨rfl, below_two _ _ _⟩
/-- The number of two words, as a whole number. -/
def nn (h l : Int) : Nat := (num h l).toNat
theorem nn_num {h l : Int} (a : Word h) (b : Word l) : (nn h l : Int) = num h l := by have := num_lo a b; unfold nn; omega
theorem pow_cast (k : Nat) : (2 : Int) ^ k = ((2 ^ k : Nat) : Int) := by simp
theorem isLen_blen {n h l : Int} (a : Word h) (b : Word l) (i : IsLen n (num h l)) : n = (blen (nn h l) : Int) := by
  obtain ⟨i0, i1, i2, i3, i4⟩ := i
  rw [← nn_num a b] at i2 i3 i4
  generalize nn h l = N at *
  obtain ⟨k, rfl⟩ := Int.eq_ofNat_of_zero_le i0
  rw [pow_cast, Int.toNat_natCast] at i2 i3
  by_cases c : N = 0
  · rw [c, blen_zero]; exact i4 (by omega)
  · have k1 : 1 ≤ k := by
      rcases Nat.eq_zero_or_pos k with z | z
      · subst z; simp at i2; omega
      · exact z
    have p : 2 ^ k = 2 ^ (k - 1) * 2 := by rw [← Nat.pow_succ]; congr 1; omega
    have : blen N = k := blen_uniq k1 (by omega) (by omega)
    rw [this]
/-- A number below a word lies in the lower one. -/
theorem low_word {h l : Int} (a : Word h) (b : Word l) (c : num h l < 18446744073709551616) : h = 0 ∧ l = num h l := by unfold num Word at *; omega
theorem shl_low (ah al h l k : Int) (w1 : Word ah) (w2 : Word al) (w3 : Word h) (w4 : Word l) (k0 : k ≤ 0) (E : num h l = num ah al * 2 ^ (-k).toNat % 340282366920938463463374607431768211456)
    (f : quo (nn ah al) k < 18446744073709551616) : l = (quo (nn ah al) k : Int) := by
  unfold quo at *
  rw [if_pos k0] at *
  rw [← nn_num w1 w2, pow_cast, ← Int.natCast_mul] at E
  generalize nn ah al * 2 ^ (-k).toNat = V at *
  have := low_word w3 w4 (by omega)
  omega
theorem half_low_none (n : Nat) (k : Int) (h : k ≤ 0) : half n k = false ∧ low n k = false := by
  unfold half low
  rw [decide_eq_false (by omega : ¬ 1 ≤ k)]
  exact ⟨rfl, rfl⟩
theorem shr_parts (ah al dh dl kh kl k : Int) (lost hb : Bool) (w1 : Word ah) (w2 : Word al) (w3 : Word dh) (w4 : Word dl) (w5 : Word kh) (w6 : Word kl) (k0 : 1 ≤ k)
    (E1 : num dh dl = num ah al / 2 ^ (k - 1).toNat) (E2 : lost = decide (¬ num ah al % 2 ^ (k - 1).toNat = 0)) (E3 : num kh kl = num dh dl / 2 ^ Int.toNat 1) (E4 : hb = decide (¬ num dh dl % 2 ^ Int.toNat 1 = 0))
    (f : quo (nn ah al) k < 18446744073709551616) : kl = (quo (nn ah al) k : Int) ∧ hb = half (nn ah al) k ∧ lost = low (nn ah al) k := by
  have t : Int.toNat 1 = 1 := rfl
  rw [t] at E3 E4
  have d := nn_num w3 w4
  unfold quo half low at *
  rw [if_neg (by omega)] at *
  rw [decide_eq_true k0, Bool.true_and, Bool.true_and]
  have kk : (k - 1).toNat = k.toNat - 1 := by omega
  have k1 : k.toNat = (k.toNat - 1) + 1 := by omega
  rw [kk, ← nn_num w1 w2, pow_cast, ← Int.natCast_ediv] at E1
  rw [kk, ← nn_num w1 w2, pow_cast, ← Int.natCast_emod] at E2
  rw [E1] at E3 E4
  have q : nn ah al / 2 ^ k.toNat = nn ah al / 2 ^ (k.toNat - 1) / 2 := by
    conv => lhs; rw [k1, Nat.pow_succ]
    exact (Nat.div_div_eq_div_mul _ _ _).symm
  rw [q] at f ⊢
  generalize nn ah al / 2 ^ (k.toNat - 1) = D at *
  generalize nn ah al % 2 ^ (k.toNat - 1) = R at *
  refine ⟨?_, ?_, ?_⟩
  · have := low_word w5 w6 (by omega)
    omega
  · rw [E4, Bool.eq_iff_iff, decide_eq_true_iff, beq_iff_eq]; omega
  · rw [E2, Bool.eq_iff_iff, decide_eq_true_iff, bne_iff_ne]; omega
theorem len_ex (ah al : Int) (h1 : Word ah) (h2 : Word al) (w : World) :
    Calls Try.prog 17 #[.agg #[.int .u64 ah, .int .u64 al]] w fun e w' => e = .returned (.int .i64 (blen (nn ah al) : Int)) ∧ w' = w.alloc (.cells #[.int .u64 ah, .int .u64 al] 49) := by
  by_cases h0 : ah = 0
  · subst h0
    obtain ⟨i, _⟩ := isLen_low al h2
    have I : Hid _ := isLen_blen word_zero h2 i
    clear i
    go_enter Try.func17, Try.ntmps17
    go_wp2_with (go_at_call 23; refine (len64 al h2 _).mono ?_; rintro e w' ⟨rfl, rfl⟩)
    go_ret
    exact ⟨i64_eq I.out, rfl⟩
  · have i := isLen_high ah al h1 h2 h0
    have I : Hid _ := isLen_blen h1 h2 i
    clear i
    have b := (isLen_low ah h1).2
    have b0 : 0 ≤ (Lib.bitLen ah.toNat : Int) := Int.natCast_nonneg _
    go_enter Try.func17, Try.ntmps17
    go_wp2_with (go_at_call 23; refine (len64 ah h1 _).mono ?_; rintro e w' ⟨rfl, rfl⟩)
    go_ret
    exact ⟨i64_eq I.out, rfl⟩
theorem blen_128 {h l : Int} (a : Word h) (b : Word l) : blen (nn h l) ≤ 128 := by
  have e := nn_num a b
  have := num_hi a b
  exact blen_le_of (by omega)
theorem field_lo (h l : Int) (w : World) : (Instr.field 49 (.agg #[.int .u64 h, .int .u64 l]) 1).run Try.prog w = .ok (.int .u64 l) w := by kernel_rfl
set_option maxRecDepth 5000 in
set_option maxHeartbeats 800000 in
theorem cut_any (ah al k : Int) (h1 : Word ah) (h2 : Word al) (k0 : -100 ≤ k) (k1 : k ≤ 10000) (f : quo (nn ah al) k < 18446744073709551616) (w : World) :
    Calls Try.prog 32 #[.agg #[.int .u64 ah, .int .u64 al], .int .i64 k] w fun e w' =>
      e = .returned (.tuple #[.int .u64 (quo (nn ah al) k), .int .i64 (rc (half (nn ah al) k) (low (nn ah al) k))]) ∧ Below w.heap.size w w' := by
  have hfl := field_lo
  by_cases c : k ≤ 0
  · obtain ⟨g1, g2⟩ := half_low_none (nn ah al) k c
    rw [g1, g2]
    have hs := shl_any ah al (-k) h1 h2 (by omega) (by omega)
    have hl := fun h l w3 w4 E => shl_low ah al h l k h1 h2 w3 w4 c E f
    generalize quo (nn ah al) k = q at *
    have HL : Hid _ := hl
    have b := (Below.refl w.heap.size w).alloc (Nat.le_refl _) (.cells #[.int .u64 ah, .int .u64 al] 49)
    clear g1 g2 f hl
    go_enter Try.func32, Try.ntmps32
    go_wp2_with fail
    refine (hs _).mono ?_
    rintro e w1 ⟨h, l, rfl, w3, w4, E, hb1⟩
    have LL : Hid _ := HL.out h l w3 w4 E.out
    clear E HL
    replace b := below_call b hb1
    clear hs hb1
    go_wp2_with fail
    exact bodyPost_ret (v := .tuple #[.int .u64 l, .int .i64 0]) (by simp [results, Try.results32, go_sem]) rfl ⟨by rw [LL.out]; rfl, b⟩
  · have hs := shr_any ah al (k - 1) h1 h2 (by omega) (by omega)
    have hp := fun dh dl kh kl lost hb w3 w4 w5 w6 => shr_parts ah al dh dl kh kl k lost hb h1 h2 w3 w4 w5 w6 (by omega)
    generalize quo (nn ah al) k = q at *
    generalize half (nn ah al) k = g at *
    generalize low (nn ah al) k = l0 at *
    have HP : Hid _ := hp
    clear hp
    have b := (Below.refl w.heap.size w).alloc (Nat.le_refl _) (.cells #[.int .u64 ah, .int .u64 al] 49)
    go_enter Try.func32, Try.ntmps32
    go_wp2_with fail
    refine (hs _).mono ?_
    rintro e w1 ⟨dh, dl, lost, rfl, w3, w4, E1, E2, hb1⟩
    replace b := below_call b hb1
    go_wp2_with fail
    refine (shr_any dh dl 1 w3 w4 (by decide) (by decide) _).mono ?_
    rintro e w2 ⟨kh, kl, hf, rfl, w5, w6, E3, E4, hb2⟩
    replace b := below_call (below_new b _) hb2
    obtain ⟨rfl, rfl, rfl⟩ := HP.out dh dl kh kl lost hf w3 w4 w5 w6 E1.out E2.out E3.out E4.out f
    clear E1 E2 E3 E4 HP hs
    cases hf <;> cases lost
    all_goals go_wp2_with fail
    · exact bodyPost_ret (v := .tuple #[.int .u64 q, .int .i64 0]) (by simp [results, Try.results32, go_sem]) rfl ⟨rfl, below_new b _⟩
    · exact bodyPost_ret (v := .tuple #[.int .u64 q, .int .i64 1]) (by simp [results, Try.results32, go_sem]) rfl ⟨rfl, below_new b _⟩
    · exact bodyPost_ret (v := .tuple #[.int .u64 q, .int .i64 2]) (by simp [results, Try.results32, go_sem]) rfl ⟨rfl, below_new b _⟩
    · exact bodyPost_ret (v := .tuple #[.int .u64 q, .int .i64 3]) (by simp [results, Try.results32, go_sem]) rfl ⟨rfl, below_new b _⟩
theorem or_odd (x : Int) (h : Word x) : bits BinOp.or IntKind.u64 x 1 = x / 2 * 2 + 1 := by
  obtain ⟨n, rfl⟩ := Int.eq_ofNat_of_zero_le h.1
  have hx := h.2
  have t := u64_or_nat n 1 (by omega) (by decide)
  have e : n ||| 1 = n / 2 * 2 + 1 := by
    apply Nat.eq_of_testBit_eq
    intro i
    rw [Nat.testBit_or]
    cases i with
    | zero => simp
    | succ i =>
      rw [Nat.testBit_succ, Nat.testBit_succ, Nat.testBit_succ, show (n / 2 * 2 + 1) / 2 = n / 2 by omega]
      simp
  rw [e] at t
  exact t.trans (by omega)
theorem odd_word {x : Int} (h : Word x) : Word (x / 2 * 2 + 1) := by unfold Word at *; omega
theorem odd_num {h l : Int} (a : Word h) (b : Word l) : nn h (l / 2 * 2 + 1) = nn h l / 2 * 2 + 1 := by
  have e1 := nn_num a b
  have e2 := nn_num a (odd_word b)
  unfold num at *
  omega
theorem quarter_great {ah al : Int} (a : Word ah) (b : Word al) (c : 126 < blen (nn ah al)) (s : Bool) (m : Int) (bl : Bool) (e : Int) :
    rnd s m bl (nn ah (al / 2 * 2 + 1)) e = rndQ s m bl (nn ah al) e true := by
  rw [odd_num a b]
  exact rnd_odd s m bl (nn ah al) e (by have := fP_le s; omega)
theorem quarter_small {ah al h l : Int} (a : Word ah) (b : Word al) (c : blen (nn ah al) ≤ 126) (w3 : Word h) (w4 : Word l)
    (E : num h l = num ah al * 2 ^ Int.toNat 2 % 340282366920938463463374607431768211456) : nn h (l / 2 * 2 + 1) = 4 * nn ah al + 1 := by
  have lt := lt_blen (nn ah al)
  have p : 2 ^ blen (nn ah al) ≤ 2 ^ 126 := Nat.pow_le_pow_right (by decide) c
  have t : (2 : Int) ^ Int.toNat 2 = 4 := rfl
  rw [t, ← nn_num a b, ← nn_num w3 w4] at E
  rw [odd_num w3 w4]
  omega
end Go.Proofs.Ytfbkiklopeebdaa

