/- The reference's end of a number and of a sign. -/
import Derived.Test.YtldolcfgfmfiiaaFxV
namespace Go.Proofs.Ytldolcfgfmfiiaa
open Go.RowKit
set_option linter.unusedVariables false
set_option linter.unusedSimpArgs false
set_option maxRecDepth 100000 in
set_option maxHeartbeats 3200000 in
theorem rEnd_int (s : ByteArray) (a : Nat) (h : a < s.size) (hz : s.size ≤ 8192) (k : kb (s[a]'h).toNat = 4) (D : Nat) (aD : a ≤ D) (Dz : D ≤ s.size) (hd : Hid (∀ q (h : q < s.size), a ≤ q → q < D → kb (s[q]'h).toNat = 4)) (he : Hid (∀ h : D < s.size, kb (s[D]'h).toNat ≠ 4)) (no : Hid (∀ (h : D < s.size) (h2 : D + 1 < s.size), s[D]'h = 46 → kb (s[D + 1]'h2).toNat ≠ 4)) (w : World) : Calls Try.prog 24 #[.string s, .int .i64 a] w fun e w' => e = .returned (.int .i64 D) ∧ Below w.heap.size w w' := by
  have hl0 := rLetter_k (s[a]'h).toNat
  have hg0 := rDigit_k (s[a]'h).toNat
  rw [k, decide_eq_false (by decide)] at hl0
  rw [k, decide_eq_true rfl] at hg0
  have ai : (a : Int) < (s.size : Int) := by omega
  clear k
  go_enter Try.func24, Try.ntmps24
  go_wp2_with (first
    | (go_at_call 26; refine (hl0 _).mono ?_; rintro e w1 ⟨rfl, rfl⟩)
    | (go_at_call 27; refine (hg0 _).mono ?_; rintro e w2 ⟨rfl, rfl⟩)
    | fail)
  clear hl0 hg0
  go_loopw [5] (fun v wr => ∃ q : Nat, v = .int .i64 q ∧ a ≤ q ∧ Hid (q ≤ D) ∧ wr = w2) (fun v _ => s.size - (intOf v).toNat)
  case atStart => exact ⟨a, rfl, Nat.le_refl _, aD, rfl⟩
  case round =>
    obtain ⟨q, rfl, aq, hq, rfl⟩ := hrel
    have qD := hq.out
    by_cases c : q < D
    · have cs : q < s.size := by omega
      have ci : (q : Int) < (s.size : Int) := by omega
      have h2 := rDigit_k (s[q]'cs).toNat
      rw [decide_eq_true (hd.out q cs aq c)] at h2
      have NH : Hid (q + 1 ≤ D) := by show q + 1 ≤ D; omega
      go_wp2_with (go_at_call 27; refine (h2 _).mono ?_; rintro e w4 ⟨rfl, rfl⟩)
      exact ⟨⟨q + 1, by go_num, by omega, NH, by first | trivial | rfl⟩, by simp [intOf]; omega⟩
    · obtain rfl : q = D := by omega
      by_cases cs : q < s.size
      · have ci : (q : Int) < (s.size : Int) := by omega
        have h2 := rDigit_k (s[q]'cs).toNat
        rw [decide_eq_false (he.out cs)] at h2
        by_cases c1 : q + 1 < s.size
        · have ci1 : (q : Int) + 1 < (s.size : Int) := by omega
          by_cases c46 : s[q]'cs = 46
          · have q46 : (((s[q]'cs).toNat : Int) == 46) = true := by rw [c46]; rfl
            have h3 := rDigit_k (s[q + 1]'c1).toNat
            rw [decide_eq_false (no.out cs c1 c46)] at h3
            clear c46
            go_wp2_with (first
              | (go_at_call 27; refine (h2 _).mono ?_; rintro e w4 ⟨rfl, rfl⟩; clear h2)
              | (go_at_call 27; refine (h3 _).mono ?_; rintro e w5 ⟨rfl, rfl⟩)
              | fail)
            go_ret
            exact ⟨rfl, Below.refl _ _⟩
          · have q46 : (((s[q]'cs).toNat : Int) == 46) = false := by
              rw [beq_eq_false_iff_ne]
              intro e
              exact c46 (UInt8.toNat_inj.mp (by simpa using (by exact_mod_cast e : (s[q]'cs).toNat = 46)))
            clear c46
            go_wp2_with (first
              | (go_at_call 27; refine (h2 _).mono ?_; rintro e w4 ⟨rfl, rfl⟩)
              | fail)
            go_ret
            exact ⟨rfl, Below.refl _ _⟩
        · have ci1 : decide ((q : Int) + 1 < (s.size : Int)) = false := by rw [decide_eq_false_iff_not]; omega
          go_wp2_with (first
            | (go_at_call 27; refine (h2 _).mono ?_; rintro e w4 ⟨rfl, rfl⟩)
            | fail)
          go_ret
          exact ⟨rfl, Below.refl _ _⟩
      · have ci : ¬ (q : Int) < (s.size : Int) := by omega
        have ci1 : decide ((q : Int) + 1 < (s.size : Int)) = false := by rw [decide_eq_false_iff_not]; omega
        go_wp2_with fail
        go_ret
        exact ⟨rfl, Below.refl _ _⟩
set_option maxRecDepth 100000 in
set_option maxHeartbeats 3200000 in
theorem rEnd_real (s : ByteArray) (a : Nat) (h : a < s.size) (hz : s.size ≤ 8192) (k : kb (s[a]'h).toNat = 4) (D : Nat) (aD : a ≤ D) (Dz : D ≤ s.size) (hd : Hid (∀ q (h : q < s.size), a ≤ q → q < D → kb (s[q]'h).toNat = 4)) (he : Hid (∀ h : D < s.size, kb (s[D]'h).toNat ≠ 4)) (cs : D < s.size) (c46 : s[D]'cs = 46) (c1 : D + 1 < s.size) (k4 : kb (s[D + 1]'c1).toNat = 4) (G : Nat) (DG : D + 1 ≤ G) (Gz : G ≤ s.size) (hd2 : Hid (∀ q (h : q < s.size), D + 1 ≤ q → q < G → kb (s[q]'h).toNat = 4)) (he2 : Hid (∀ h : G < s.size, kb (s[G]'h).toNat ≠ 4)) (w : World) : Calls Try.prog 24 #[.string s, .int .i64 a] w fun e w' => e = .returned (.int .i64 G) ∧ Below w.heap.size w w' := by
  have hl0 := rLetter_k (s[a]'h).toNat
  have hg0 := rDigit_k (s[a]'h).toNat
  rw [k, decide_eq_false (by decide)] at hl0
  rw [k, decide_eq_true rfl] at hg0
  have ai : (a : Int) < (s.size : Int) := by omega
  clear k
  go_enter Try.func24, Try.ntmps24
  go_wp2_with (first
    | (go_at_call 26; refine (hl0 _).mono ?_; rintro e w1 ⟨rfl, rfl⟩)
    | (go_at_call 27; refine (hg0 _).mono ?_; rintro e w2 ⟨rfl, rfl⟩)
    | fail)
  clear hl0 hg0
  go_loopw [5] (fun v wr => ∃ q : Nat, v = .int .i64 q ∧ a ≤ q ∧ Hid (q ≤ D) ∧ wr = w2) (fun v _ => s.size - (intOf v).toNat)
  case atStart => exact ⟨a, rfl, Nat.le_refl _, aD, rfl⟩
  case round =>
    obtain ⟨q, rfl, aq, hq, rfl⟩ := hrel
    have qD := hq.out
    by_cases c : q < D
    · have cs : q < s.size := by omega
      have ci : (q : Int) < (s.size : Int) := by omega
      have h2 := rDigit_k (s[q]'cs).toNat
      rw [decide_eq_true (hd.out q cs aq c)] at h2
      have NH : Hid (q + 1 ≤ D) := by show q + 1 ≤ D; omega
      go_wp2_with (go_at_call 27; refine (h2 _).mono ?_; rintro e w4 ⟨rfl, rfl⟩)
      exact ⟨⟨q + 1, by go_num, by omega, NH, by first | trivial | rfl⟩, by simp [intOf]; omega⟩
    · obtain rfl : q = D := by omega
      have ci : (q : Int) < (s.size : Int) := by omega
      have ci1 : (q : Int) + 1 < (s.size : Int) := by omega
      have h2 := rDigit_k (s[q]'cs).toNat
      rw [decide_eq_false (he.out cs)] at h2
      have q46 : (((s[q]'cs).toNat : Int) == 46) = true := by rw [c46]; rfl
      have h3 := rDigit_k (s[q + 1]'c1).toNat
      rw [decide_eq_true k4] at h3
      clear c46 k4 hd he
      go_wp2_with (first
        | (go_at_call 27; refine (h2 _).mono ?_; rintro e w4 ⟨rfl, rfl⟩; clear h2)
        | (go_at_call 27; refine (h3 _).mono ?_; rintro e w5 ⟨rfl, rfl⟩)
        | fail)
      go_loopw [5] (fun v wr => ∃ r : Nat, v = .int .i64 r ∧ q + 1 ≤ r ∧ Hid (r ≤ G) ∧ wr = w5) (fun v _ => s.size - (intOf v).toNat)
      case atStart => exact ⟨q + 1, by go_num, Nat.le_refl _, DG, rfl⟩
      case round =>
        obtain ⟨r, rfl, ar, hr, rfl⟩ := hrel
        have rG := hr.out
        clear h3
        by_cases c2 : r < G
        · have cr : r < s.size := by omega
          have cri : (r : Int) < (s.size : Int) := by omega
          have h4 := rDigit_k (s[r]'cr).toNat
          rw [decide_eq_true (hd2.out r cr ar c2)] at h4
          have NH : Hid (r + 1 ≤ G) := by show r + 1 ≤ G; omega
          go_wp2_with (go_at_call 27; refine (h4 _).mono ?_; rintro e w6 ⟨rfl, rfl⟩)
          exact ⟨⟨r + 1, by go_num, by omega, NH, by first | trivial | rfl⟩, by simp [intOf]; omega⟩
        · obtain rfl : r = G := by omega
          by_cases cr : r < s.size
          · have cri : (r : Int) < (s.size : Int) := by omega
            have h4 := rDigit_k (s[r]'cr).toNat
            rw [decide_eq_false (he2.out cr)] at h4
            go_wp2_with (go_at_call 27; refine (h4 _).mono ?_; rintro e w6 ⟨rfl, rfl⟩)
            go_ret
            exact ⟨rfl, Below.refl _ _⟩
          · have cri : ¬ (r : Int) < (s.size : Int) := by omega
            go_wp2_with fail
            go_ret
            exact ⟨rfl, Below.refl _ _⟩
set_option maxRecDepth 100000 in
set_option maxHeartbeats 3200000 in
theorem rEnd_sign (s : ByteArray) (a : Nat) (h : a < s.size) (hz : s.size ≤ 8192) (k2 : kb (s[a]'h).toNat ≠ 2) (k4 : kb (s[a]'h).toNat ≠ 4) (w : World) : Calls Try.prog 24 #[.string s, .int .i64 a] w fun e w' => e = .returned (.int .i64 ((a + (if 2 ≤ s.size - a ∧ among rSignWs ((s.toList.drop a).take 2) = true then 2 else 1) : Nat) : Int)) ∧ Below w.heap.size w w' := by
  have hl0 := rLetter_k (s[a]'h).toNat
  have hg0 := rDigit_k (s[a]'h).toNat
  rw [decide_eq_false k2] at hl0
  rw [decide_eq_false k4] at hg0
  have ai : (a : Int) < (s.size : Int) := by omega
  clear k2 k4
  by_cases c : 2 ≤ s.size - a
  · have ci : (a : Int) + 2 ≤ (s.size : Int) := by omega
    have g := rSign_any (s.extract a (a + 2))
    rw [toL_cut, List.drop_take, show a + 2 - a = 2 by omega] at g
    cases e : among rSignWs ((s.toList.drop a).take 2)
    · rw [e] at g
      rw [if_neg (by simp)]
      clear e c
      go_enter Try.func24, Try.ntmps24
      go_wp2_with (first
        | (go_at_call 26; refine (hl0 _).mono ?_; rintro e w1 ⟨rfl, rfl⟩)
        | (go_at_call 27; refine (hg0 _).mono ?_; rintro e w2 ⟨rfl, rfl⟩)
        | (go_at_call 33; refine (g _).mono ?_; rintro e w3 ⟨rfl, b3⟩)
        | fail)
      go_ret
      exact ⟨by congr 2, b3⟩
    · rw [e] at g
      rw [if_pos ⟨c, rfl⟩]
      clear e c
      go_enter Try.func24, Try.ntmps24
      go_wp2_with (first
        | (go_at_call 26; refine (hl0 _).mono ?_; rintro e w1 ⟨rfl, rfl⟩)
        | (go_at_call 27; refine (hg0 _).mono ?_; rintro e w2 ⟨rfl, rfl⟩)
        | (go_at_call 33; refine (g _).mono ?_; rintro e w3 ⟨rfl, b3⟩)
        | fail)
      go_ret
      exact ⟨by congr 2, b3⟩
  · have ci : decide ((a : Int) + 2 ≤ (s.size : Int)) = false := by rw [decide_eq_false_iff_not]; omega
    rw [if_neg (fun t => c t.1)]
    clear c
    go_enter Try.func24, Try.ntmps24
    go_wp2_with (first
      | (go_at_call 26; refine (hl0 _).mono ?_; rintro e w1 ⟨rfl, rfl⟩)
      | (go_at_call 27; refine (hg0 _).mono ?_; rintro e w2 ⟨rfl, rfl⟩)
      | fail)
    go_ret
    exact ⟨by congr 2, Below.refl _ _⟩
end Go.Proofs.Ytldolcfgfmfiiaa
