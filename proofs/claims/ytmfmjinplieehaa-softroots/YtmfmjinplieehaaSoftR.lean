/- The root of a float that is taken apart. -/
import Derived.Test.YtmfmjinplieehaaSoftJ
namespace Go.Proofs.Ytmfmjinplieehaa
open Go.RowKit
set_option linter.unusedVariables false
set_option linter.unusedSimpArgs false
theorem root_nat {A : Nat} {r h l : Int} (wr : Word r) (wh : Word h) (wl : Word l) (E1 : r * r + num h l = (A : Int)) (E2 : num h l ≤ 2 * r) : nn 0 r = isq A ∧ (!eq2 h l 0 0) = decide (A - isq A * isq A ≠ 0) := by
  have e := nn_num wh wl
  have e2 := eq2_zero wh wl
  rw [nn_low r wr]
  obtain ⟨n, rfl⟩ := Int.eq_ofNat_of_zero_le wr.1
  rw [Int.toNat_natCast]
  rw [← e] at E1 E2
  have E3 : n * n + nn h l = A := by
    have : ((n * n + nn h l : Nat) : Int) = (A : Int) := by rw [Int.natCast_add, Int.natCast_mul]; exact E1
    omega
  have u : n = isq A := by
    apply isq_uniq
    · omega
    · have : (n + 1) * (n + 1) = n * n + 2 * n + 1 := by rw [Nat.add_mul, Nat.mul_add]; omega
      omega
  refine ⟨u, ?_⟩
  rw [← u, ← E3, e2, Nat.add_sub_cancel_left, Bool.eq_iff_iff]
  simp
theorem tmod_even {x k : Int} (h : x = 2 * k) : x.tmod 2 = 0 ∧ x.tdiv 2 = k := by
  subst h
  exact ⟨Int.mul_tmod_right 2 k, Int.mul_tdiv_cancel_left k (by decide)⟩
theorem tmod_odd {x k : Int} (h : x = 2 * k + 1) : (x.tmod 2 != 0) = true := by
  rw [bne_iff_ne]
  intro c
  have := Int.mul_tdiv_add_tmod x 2
  omega
theorem root_room {u : Int} (h : Word u) (u0 : u ≠ 0) (u1 : u < 9007199254740992) (k : Nat) (hk : k ≤ 1) : 1 ≤ blen (nn 0 u) ∧ blen (nn 0 u) ≤ 53 ∧ 2 ^ 125 ≤ u.toNat * 2 ^ (126 - blen (nn 0 u) + k) ∧ u.toNat * 2 ^ (126 - blen (nn 0 u) + k) < 2 ^ 128 := by
  rw [nn_low u h]
  have n0 : u.toNat ≠ 0 := by have := h.1; omega
  obtain ⟨a, b⟩ := blen_le n0
  have c := lt_blen u.toNat
  have d : blen u.toNat ≤ 53 := blen_le_of (by have := h.1; omega)
  refine ⟨b, d, ?_, ?_⟩
  · have : 2 ^ (blen u.toNat - 1) * 2 ^ (126 - blen u.toNat + k) ≤ u.toNat * 2 ^ (126 - blen u.toNat + k) := Nat.mul_le_mul_right _ a
    rw [← Nat.pow_add] at this
    exact Nat.le_trans (Nat.pow_le_pow_right (by decide) (by omega)) this
  · have : u.toNat * 2 ^ (126 - blen u.toNat + k) < 2 ^ blen u.toNat * 2 ^ (126 - blen u.toNat + k) := Nat.mul_lt_mul_of_pos_right c (Nat.two_pow_pos _)
    rw [← Nat.pow_add] at this
    exact Nat.lt_of_lt_of_le this (Nat.pow_le_pow_right (by decide) (by omega))
theorem shl_nat2 {u sh sl : Int} {up : Nat} (hu : Word u) (w1 : Word sh) (w2 : Word sl) (E : num sh sl = num 0 u * 2 ^ (up : Int).toNat % 340282366920938463463374607431768211456) (lt : u.toNat * 2 ^ up < 2 ^ 128) : num sh sl = ((u.toNat * 2 ^ up : Nat) : Int) := by
  obtain ⟨n, rfl⟩ := Int.eq_ofNat_of_zero_le hu.1
  have z : num 0 (n : Int) = (n : Int) := by unfold num; omega
  rw [z, pow_cast, Int.toNat_natCast, ← Int.natCast_mul] at E
  rw [Int.toNat_natCast] at *
  generalize n * 2 ^ up = A at *
  omega
set_option maxRecDepth 8000 in
set_option maxHeartbeats 1600000 in
theorem root_even (c : Int) (g : Bool) (u p : Int) (k0 : Nat) (y : Int) (a1 : Word u) (a0 : u ≠ 0) (a2 : u < 9007199254740992) (a3 : -1100 ≤ p) (a4 : p ≤ 2000) (hk0 : k0 ≤ 1)
    (odd : k0 = 0 ∧ p - ((126 - blen (nn 0 u) : Nat) : Int) = 2 * y ∨ k0 = 1 ∧ p - ((126 - blen (nn 0 u) : Nat) : Int) = 2 * y + 1) (w : World) :
    Calls Try.prog 63 #[prt c g u p] w fun r w' => ∃ l x more, r = .returned (.tuple #[.agg #[.int .u64 0, .int .u64 l], .int .i64 x, .bool more]) ∧ Word l ∧ -4000 ≤ x ∧ x ≤ 4000 ∧
      Hid (nn 0 l = isq (u.toNat * 2 ^ (126 - blen (nn 0 u) + k0))) ∧ Hid (x = y) ∧ Hid (more = decide (u.toNat * 2 ^ (126 - blen (nn 0 u) + k0) - isq (u.toNat * 2 ^ (126 - blen (nn 0 u) + k0)) * isq (u.toNat * 2 ^ (126 - blen (nn 0 u) + k0)) ≠ 0)) ∧ Below w.heap.size w w' := by
  have hq := neq_u128
  have hlen := len_ex 0 u word_zero a1
  obtain ⟨c1, c2, c3, c4⟩ := root_room a1 a0 a2 k0 hk0
  have hup : ∃ up : Nat, up = 126 - blen (nn 0 u) ∧ (blen (nn 0 u) : Int) = 126 - up := ⟨_, rfl, by omega⟩
  obtain ⟨up, hu, hb⟩ := hup
  rw [hb] at hlen
  rw [← hu] at odd c3 c4 ⊢
  have D2 : Hid (∀ sh sl r h l, Word sh → Word sl → Word r → Word h → Word l → num sh sl = num 0 u * 2 ^ ((up + k0 : Nat) : Int).toNat % 340282366920938463463374607431768211456 → r * r + num h l = num sh sl → num h l ≤ 2 * r → nn 0 r = isq (u.toNat * 2 ^ (up + k0)) ∧ (!eq2 h l 0 0) = decide (u.toNat * 2 ^ (up + k0) - isq (u.toNat * 2 ^ (up + k0)) * isq (u.toNat * 2 ^ (up + k0)) ≠ 0)) :=
    fun sh sl r h l w1 w2 w3 w4 w5 E E1 E2 => root_nat w3 w4 w5 (E1.trans (shl_nat2 a1 w1 w2 E c4)) E2
  generalize isq (u.toNat * 2 ^ (up + k0)) = I at *
  generalize (decide (u.toNat * 2 ^ (up + k0) - I * I ≠ 0)) = Mo at *
  have q1 : (73 : Int) ≤ (up : Int) := by omega
  have q2 : (up : Int) ≤ 125 := by omega
  clear c1 c2 c3 c4 hu hb
  unfold prt
  have hUU : (126 : Int) - (126 - (up : Int)) = (up : Int) := by omega
  rcases odd with ⟨rfl, hy⟩ | ⟨rfl, hy⟩
  · obtain ⟨t1, t2⟩ := tmod_even hy
    have hsh := shl_any 0 u ((up + 0 : Nat) : Int) word_zero a1 (by omega) (by omega)
    rw [Nat.add_zero] at hsh D2
    generalize (up : Int) = U at *
    have t3 : ((0 : Int) != 0) = false := rfl
    have y1 : -4000 ≤ y := by omega
    have y2 : y ≤ 4000 := by omega
    clear hy
    go_enter Try.func63, Try.ntmps63
    go_wp2_with (go_at_call 70; refine (hlen _).mono ?_; rintro r w1 ⟨rfl, rfl⟩)
    refine (hsh _).mono ?_
    rintro r w2 ⟨sh, sl, rfl, ws, wt, E, hb2⟩
    have X3 : w2.cell? ⟨w.heap.size, 3, none⟩ = some (.int .i64 p) := by rw [(bcell hb2).1 _ _ (by simp; omega)]; simp [go_sem]
    have R0 : w2.cell? ⟨w.heap.size + 1, 0, none⟩ = some (.int .u64 0) := by rw [(bcell hb2).1 _ _ (by simp)]; simp [go_sem]
    have R1 : w2.cell? ⟨w.heap.size + 1, 1, none⟩ = some (.int .u64 0) := by rw [(bcell hb2).1 _ _ (by simp)]; simp [go_sem]
    have G0 : w2.frozen? ⟨w.heap.size + 1, 0, none⟩ = false := by rw [(bcell hb2).2 _ _ (by simp)]; simp [go_sem]
    have G1 : w2.frozen? ⟨w.heap.size + 1, 1, none⟩ = false := by rw [(bcell hb2).2 _ _ (by simp)]; simp [go_sem]
    have L := below_call (below_three w _ _ _) hb2
    clear hb2
    go_wp2_with fail
    refine (sqrt_any sh sl ws wt _).mono ?_
    rintro r w3 ⟨ro, lh, ll, rfl, wr, wh, wl, E1, E2, hb3⟩
    obtain ⟨n1, n2⟩ := D2.out sh sl ro lh ll ws wt wr wh wl E.out E1.out E2.out
    have M1 : Hid _ := n1
    have J0 := frozen_on hb3 R0 G0
    have J1 := frozen_on hb3 R1 G1
    replace X3 := cell_on hb3 X3; replace R0 := cell_on hb3 R0; replace R1 := cell_on hb3 R1
    replace L := below_call L hb3
    clear E E1 E2 D2 G0 G1 hb3 n1 hlen hsh
    have z1 := lt_new X3
    have z2 := lt_new R0
    go_wp2_with fail
    go_region
    go_wp2_with fail
    refine bodyPost_ret (v := .tuple #[.agg #[.int .u64 0, .int .u64 ro], .int .i64 y, .bool Mo]) (by simp [results, Try.results63, go_sem, *]) rfl ?_
    refine ⟨_, _, _, rfl, wr, y1, y2, M1, rfl, rfl, ?_⟩
    exact (below_new ((L.setCell (Nat.le_succ _) _).setCell (Nat.le_succ _) _) _).drew
  · have t1 := tmod_odd hy
    have hy2 : p - ((up : Int) + 1) = 2 * y := by omega
    obtain ⟨_, t2⟩ := tmod_even hy2
    have hsh := shl_any 0 u ((up + 1 : Nat) : Int) word_zero a1 (by omega) (by omega)
    have ca : ((up + 1 : Nat) : Int) = (up : Int) + 1 := by omega
    rw [ca] at hsh D2
    generalize (up : Int) = U at *
    have y1 : -4000 ≤ y := by omega
    have y2 : y ≤ 4000 := by omega
    clear hy hy2 ca
    go_enter Try.func63, Try.ntmps63
    go_wp2_with (go_at_call 70; refine (hlen _).mono ?_; rintro r w1 ⟨rfl, rfl⟩)
    refine (hsh _).mono ?_
    rintro r w2 ⟨sh, sl, rfl, ws, wt, E, hb2⟩
    have X3 : w2.cell? ⟨w.heap.size, 3, none⟩ = some (.int .i64 p) := by rw [(bcell hb2).1 _ _ (by simp; omega)]; simp [go_sem]
    have R0 : w2.cell? ⟨w.heap.size + 1, 0, none⟩ = some (.int .u64 0) := by rw [(bcell hb2).1 _ _ (by simp)]; simp [go_sem]
    have R1 : w2.cell? ⟨w.heap.size + 1, 1, none⟩ = some (.int .u64 0) := by rw [(bcell hb2).1 _ _ (by simp)]; simp [go_sem]
    have G0 : w2.frozen? ⟨w.heap.size + 1, 0, none⟩ = false := by rw [(bcell hb2).2 _ _ (by simp)]; simp [go_sem]
    have G1 : w2.frozen? ⟨w.heap.size + 1, 1, none⟩ = false := by rw [(bcell hb2).2 _ _ (by simp)]; simp [go_sem]
    have L := below_call (below_three w _ _ _) hb2
    clear hb2
    go_wp2_with fail
    refine (sqrt_any sh sl ws wt _).mono ?_
    rintro r w3 ⟨ro, lh, ll, rfl, wr, wh, wl, E1, E2, hb3⟩
    obtain ⟨n1, n2⟩ := D2.out sh sl ro lh ll ws wt wr wh wl E.out E1.out E2.out
    have M1 : Hid _ := n1
    have J0 := frozen_on hb3 R0 G0
    have J1 := frozen_on hb3 R1 G1
    replace X3 := cell_on hb3 X3; replace R0 := cell_on hb3 R0; replace R1 := cell_on hb3 R1
    replace L := below_call L hb3
    clear E E1 E2 D2 G0 G1 hb3 n1 hlen hsh
    have z1 := lt_new X3
    have z2 := lt_new R0
    go_wp2_with fail
    go_region
    go_wp2_with fail
    refine bodyPost_ret (v := .tuple #[.agg #[.int .u64 0, .int .u64 ro], .int .i64 y, .bool Mo]) (by simp [results, Try.results63, go_sem, *]) rfl ?_
    refine ⟨_, _, _, rfl, wr, y1, y2, M1, rfl, rfl, ?_⟩
    exact (below_new ((L.setCell (Nat.le_succ _) _).setCell (Nat.le_succ _) _) _).drew
theorem root_any (c : Int) (g : Bool) (u p : Int) (a1 : Word u) (a0 : u ≠ 0) (a2 : u < 9007199254740992) (a3 : -1100 ≤ p) (a4 : p ≤ 2000) (w : World) :
    Calls Try.prog 63 #[prt c g u p] w fun r w' => ∃ l x more, r = .returned (.tuple #[.agg #[.int .u64 0, .int .u64 l], .int .i64 x, .bool more]) ∧ Word l ∧ -4000 ≤ x ∧ x ≤ 4000 ∧
      Hid (∀ s m, rndQ s m false (nn 0 l) x more = sqrtT s m u.toNat p) ∧ Below w.heap.size w w' := by
  have par : ∃ (k0 : Nat) (y : Int), k0 ≤ 1 ∧ (k0 = 0 ∧ p - ((126 - blen (nn 0 u) : Nat) : Int) = 2 * y ∨ k0 = 1 ∧ p - ((126 - blen (nn 0 u) : Nat) : Int) = 2 * y + 1) := by
    by_cases t : (p - ((126 - blen (nn 0 u) : Nat) : Int)) % 2 = 0
    · exact ⟨0, (p - ((126 - blen (nn 0 u) : Nat) : Int)) / 2, by omega, Or.inl ⟨rfl, by omega⟩⟩
    · exact ⟨1, (p - ((126 - blen (nn 0 u) : Nat) : Int)) / 2, by omega, Or.inr ⟨rfl, by omega⟩⟩
  obtain ⟨k0, y, hk, odd⟩ := par
  obtain ⟨c1, c2, c3, c4⟩ := root_room a1 a0 a2 k0 hk
  refine (root_even c g u p k0 y a1 a0 a2 a3 a4 hk odd w).mono ?_
  rintro r w' ⟨l, x, more, rfl, wl, x1, x2, N, X, M, hb⟩
  refine ⟨l, x, more, rfl, wl, x1, x2, fun s m => ?_, hb⟩
  rw [N.out, X.out]
  have ru : rootUp u.toNat p = 126 - blen (nn 0 u) + k0 := by
    unfold rootUp
    rw [← nn_low u a1]
    rcases odd with ⟨h0, h1⟩ | ⟨h0, h1⟩
    · rw [if_pos (by omega)]; omega
    · rw [if_neg (by omega)]; omega
  unfold sqrtT
  rw [ru, root_fits s m _ y more c3 M.out]
  have : (p - ((126 - blen (nn 0 u) + k0 : Nat) : Int)) / 2 = y := by omega
  rw [this]
end Go.Proofs.Ytmfmjinplieehaa
