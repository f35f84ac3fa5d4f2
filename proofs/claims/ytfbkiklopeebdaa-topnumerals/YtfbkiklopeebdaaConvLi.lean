/- conv's cutOut, decimal and Literal of digits, a point and digits. -/
import Derived.Test.YtfbkiklopeebdaaConvDg
namespace Go.Proofs.Ytfbkiklopeebdaa
open Go.RowKit
set_option linter.unusedVariables false
set_option linter.unusedSimpArgs false
theorem bytesRow_get (s : ByteArray) (C j : Nat) (h : j < s.size) : (bytesRow s C)[j]? = some (.int .u8 (s[j]'h).toNat) := by
  unfold bytesRow
  rw [Array.getElem?_append, if_pos (by simpa using h)]
  simp [h]
  rfl
set_option maxRecDepth 100000 in
set_option maxHeartbeats 3200000 in
theorem cutOut_any (s : ByteArray) (p m : Nat) (hs : s.size = p + 1 + m) (hm : 1 ≤ m) (hp : 1 ≤ p) (hl : s.size ≤ 1000) (w : World) :
    Calls Try.prog 10 #[.string s, .int .i64 p] w fun e w' => e = .returned (.tuple #[.slice (some ⟨w.heap.size, 0, none⟩) p p, .slice (some ⟨w.heap.size, p + 1, none⟩) m m]) ∧ (∀ j (h : j < s.size), w'.cell? ⟨w.heap.size, j, none⟩ = some (.int .u8 (s[j]'h).toNat)) ∧ w.heap.size < w'.heap.size ∧ Below w.heap.size w w' := by
  have hcv := run_bytes_of_string (P := Try.prog) w 9 40 5 s Try.underlying9 Try.underlying40 Try.underlying5
  have hcap : s.size ≤ grownCap w s.size 0 5 := grownCap_ge w s.size 0 5
  generalize grownCap w s.size 0 5 = C at *
  have x0 : ∀ (W : World) j (h : j < s.size), (W.alloc (.cells (bytesRow s C) 5 ((bytesRow s C).size, (bytesRow s C).size + 1))).cell? ⟨W.heap.size, j, none⟩ = some (.int .u8 (s[j]'h).toNat) := fun W j h => (cell_of_row _ W.heap.size j _ 5 _ (heap_alloc_new W _)).trans (bytesRow_get s C j h)
  have X0 : Hid _ := x0
  clear x0
  have c1 : (p : Int) ≤ (C : Int) := by omega
  have c2 : (s.size : Int) ≤ (C : Int) := by omega
  have c3 : (p : Int) + 1 ≤ (s.size : Int) := by omega
  have c4 : s.size - (p + 1) = m := by omega
  have c5 : ¬ C = p + 1 := by omega
  have c6 : ¬ s.size = p + 1 := by omega
  go_enter Try.func10, Try.ntmps10
  go_wp2_with fail
  go_region
  go_wp2_with fail
  refine bodyPost_ret (v := .tuple #[.slice (some ⟨w.heap.size, 0, none⟩) p p, .slice (some ⟨w.heap.size, p + 1, none⟩) m m]) (by simp [results, Try.results10, go_sem, Nat.add_sub_cancel_left]) rfl ?_
  exact ⟨rfl, fun j h => X0.out w j h, by simp, (((Below.refl _ _).alloc (Nat.le_refl _) _).drew).drew⟩
/-- n by 10 to the pl, to the nearest float. -/
def decT (s : Bool) (n pl : Nat) : Int := rndQ s 0 false (n * 2 ^ (128 - blen n) / 10 ^ pl) (clamp (-(128 - (blen n : Int)))) (decide (n * 2 ^ (128 - blen n) % 10 ^ pl ≠ 0))
theorem dec_fit (n : Nat) (h : n < 18446744073709551616) : n * 2 ^ (128 - blen n) < 340282366920938463463374607431768211456 ∧ blen n ≤ 64 := by
  have b := lt_blen n
  have l : blen n ≤ 64 := blen_le_of (by rw [show (2 : Nat) ^ 64 = 18446744073709551616 from rfl]; exact h)
  have : n * 2 ^ (128 - blen n) < 2 ^ blen n * 2 ^ (128 - blen n) := Nat.mul_lt_mul_of_pos_right b (Nat.two_pow_pos _)
  rw [← Nat.pow_add, show blen n + (128 - blen n) = 128 by omega] at this
  exact ⟨this, l⟩
set_option maxRecDepth 100000 in
set_option maxHeartbeats 3200000 in
theorem decimal_any (f : Int) (n pl : Nat) (hn : n < 18446744073709551616) (hp : pl ≤ 18) (w : World) : Calls Try.prog 11 #[.int .i64 f, .int .u64 (n : Int), .int .i64 pl] w fun e w' => e = .returned (.int .u64 (decT (f == 1) n pl)) ∧ Below w.heap.size w w' := by
  have wn : Word (n : Int) := ⟨by omega, by omega⟩
  have nz : nn 0 (n : Int) = n := by unfold nn num; omega
  have nz' : num 0 (n : Int) = n := by unfold num; omega
  obtain ⟨fit, bl⟩ := dec_fit n hn
  have p18 : (10 : Nat) ^ pl ≤ 10 ^ 18 := Nat.pow_le_pow_right (by decide) hp
  have p0 : 0 < (10 : Nat) ^ pl := Nat.pow_pos (by decide)
  have wb : Word ((10 ^ pl : Nat) : Int) := ⟨by omega, by have : (10 : Nat) ^ 18 = 1000000000000000000 := rfl; omega⟩
  have hln : ∀ w, Calls Try.prog 17 #[.agg #[.int .u64 0, .int .u64 (n : Int)]] w fun e w' => e = .returned (.int .i64 (blen n : Nat)) ∧ w' = w.alloc (.cells #[.int .u64 0, .int .u64 (n : Int)] 49) := fun w => by
    have t := len_ex 0 (n : Int) word_zero wn w
    rw [nz] at t
    exact t
  have hsl := shl_any 0 (n : Int) (128 - (blen n : Int)) word_zero wn (by omega) (by omega)
  have hdv := fun (h l : Int) (wh : Word h) (wl : Word l) => div_pos h l ((10 ^ pl : Nat) : Int) wh wl wb (by omega)
  have hrd := fun (h l : Int) (more : Bool) (wh : Word h) (wl : Word l) => round_any f 0 false h l (-(128 - (blen n : Int))) more wh wl (by omega) (by omega)
  unfold decT
  rw [nz', show (128 - (blen n : Int)).toNat = 128 - blen n by omega] at hsl
  have E0 : (n : Int) * 2 ^ (128 - blen n) % 340282366920938463463374607431768211456 = ((n * 2 ^ (128 - blen n) : Nat) : Int) := by
    have q : (n : Int) * 2 ^ (128 - blen n) = ((n * 2 ^ (128 - blen n) : Nat) : Int) := by simp
    rw [q]
    exact Int.emod_eq_of_lt (by omega) (by omega)
  rw [E0] at hsl
  generalize n * 2 ^ (128 - blen n) = X at *
  have bB : (blen n : Int) ≤ 64 := by omega
  generalize hB : (blen n : Int) = B at *
  obtain ⟨P, hP⟩ : ∃ P : Nat, 10 ^ pl = P := ⟨_, rfl⟩
  rw [hP] at p0 wb p18 ⊢
  simp only [hP] at hdv
  have HP : Hid _ := hP
  have up : (128 : Int) - B ≤ 128 := by omega
  clear hP E0 fit bl nz nz' hn
  go_enter Try.func11, Try.ntmps11
  go_wp2_with fail
  go_loopw [7, 12] (fun b i wr => ∃ k : Nat, k ≤ pl ∧ b = .int .u64 ((10 ^ k : Nat) : Int) ∧ i = .int .i64 k ∧ wr = w) (fun _ i _ => pl - (intOf i).toNat)
  case atStart => exact ⟨0, by omega, rfl, rfl, rfl⟩
  case round =>
    obtain ⟨k, hk, rfl, rfl, rfl⟩ := hrel
    by_cases c : k < pl
    · have c' : (k : Int) < (pl : Int) := by omega
      have e1 : (10 : Nat) ^ (k + 1) = 10 ^ k * 10 := Nat.pow_succ _ _
      have e2 : (10 : Nat) ^ (k + 1) ≤ 10 ^ 18 := Nat.pow_le_pow_right (by decide) (by omega)
      have e3 : (10 : Nat) ^ 18 = 1000000000000000000 := rfl
      have E1 : Hid (((10 ^ k : Nat) : Int) * 10 = ((10 ^ (k + 1) : Nat) : Int)) := by
        show ((10 ^ k : Nat) : Int) * 10 = ((10 ^ (k + 1) : Nat) : Int)
        omega
      obtain ⟨T, hT⟩ : ∃ T : Nat, 10 ^ k = T := ⟨_, rfl⟩
      rw [hT] at e1 ⊢
      have HT : Hid _ := hT
      have t1 : (T : Int) * 10 < 18446744073709551616 := by omega
      have t0 : (0 : Int) ≤ (T : Int) * 10 := by omega
      clear e1 e2 e3 hT hsl hdv hrd hln
      go_wp2_with fail
      go_roundw
      case rel => exact ⟨k + 1, by omega, by rw [← E1.out, HT.out], by go_num, by first | rfl | trivial⟩
      case measure => simp [intOf]; omega
    · have kp : k = pl := by omega
      subst kp
      rw [HP.out]
      clear c
      go_wp2_with (first
        | (go_at_call 17; refine (hln _).mono ?_; rintro e w1 ⟨rfl, rfl⟩)
        | (go_at_call 19; refine (hsl _).mono ?_; rintro e w2 ⟨h2, l2, rfl, wh2, wl2, E2, b2⟩)
        | (go_at_call 18; refine (hdv _ _ wh2 wl2 _).mono ?_; rintro e w3 ⟨h3, l3, r3, rfl, wh3, wl3, wr3, E3, R3, b3⟩)
        | (go_at_call 20; refine (hrd h3 l3 _ wh3 wl3 _).mono ?_; rintro e w4 ⟨rfl, b4⟩)
        | fail)
      go_ret
      have en : nn h3 l3 = X / P := by unfold nn; rw [E3.out, E2.out, ← Int.natCast_ediv, Int.toNat_natCast]
      have er : (r3 != 0) = decide (X % P ≠ 0) := by
        rw [R3.out, E2.out, Bool.eq_iff_iff]
        simp
        omega
      refine ⟨?_, below_callC (below_new (below_callC (below_callC (below_new (Below.refl _ _) _) b2) b3) _) b4⟩
      rw [en, ← er]
      rfl
end Go.Proofs.Ytfbkiklopeebdaa

