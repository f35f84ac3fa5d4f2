/- The quotient of two floats that are taken apart. -/
import Derived.Test.YtfdinlomlcnjnaaSoftH
namespace Go.Proofs.Ytfdinlomlcnjnaa
open Go.RowKit
set_option linter.unusedVariables false
set_option linter.unusedSimpArgs false
theorem blen_word {u : Int} (h : Word u) (u0 : u ≠ 0) (u1 : u < 9007199254740992) : 1 ≤ blen (nn 0 u) ∧ blen (nn 0 u) ≤ 53 ∧ 2 ^ 127 ≤ u.toNat * 2 ^ (128 - blen (nn 0 u)) ∧ u.toNat * 2 ^ (128 - blen (nn 0 u)) < 2 ^ 128 := by
  rw [nn_low u h]
  have n0 : u.toNat ≠ 0 := by have := h.1; omega
  obtain ⟨a, b⟩ := blen_le n0
  have c := lt_blen u.toNat
  have d : blen u.toNat ≤ 53 := blen_le_of (by have := h.1; omega)
  refine ⟨b, d, ?_, ?_⟩
  · have : 2 ^ (blen u.toNat - 1) * 2 ^ (128 - blen u.toNat) ≤ u.toNat * 2 ^ (128 - blen u.toNat) := Nat.mul_le_mul_right _ a
    rw [← Nat.pow_add, show blen u.toNat - 1 + (128 - blen u.toNat) = 127 by omega] at this
    exact this
  · have : u.toNat * 2 ^ (128 - blen u.toNat) < 2 ^ blen u.toNat * 2 ^ (128 - blen u.toNat) := Nat.mul_lt_mul_of_pos_right c (Nat.two_pow_pos _)
    rw [← Nat.pow_add, show blen u.toNat + (128 - blen u.toNat) = 128 by omega] at this
    exact this
theorem blen_word2 {u : Int} (h : Word u) (u1 : u < 9007199254740992) : blen (nn 0 u) ≤ 53 ∧ (u ≠ 0 → 2 ^ 127 ≤ u.toNat * 2 ^ (128 - blen (nn 0 u))) ∧ u.toNat * 2 ^ (128 - blen (nn 0 u)) < 2 ^ 128 := by
  by_cases c : u = 0
  · subst c
    exact ⟨by decide, fun h => absurd rfl h, by decide⟩
  · obtain ⟨_, b, c, d⟩ := blen_word h c u1
    exact ⟨b, fun _ => c, d⟩
theorem quo_nat {u v sh sl qh ql r : Int} {up : Nat} (hu : Word u) (hv : Word v) (w1 : Word sh) (w2 : Word sl) (w3 : Word qh) (w4 : Word ql)
    (E : num sh sl = num 0 u * 2 ^ (up : Int).toNat % 340282366920938463463374607431768211456) (lt : u.toNat * 2 ^ up < 2 ^ 128)
    (E2 : num qh ql = num sh sl / v) (E3 : r = num sh sl % v) : nn qh ql = u.toNat * 2 ^ up / v.toNat ∧ (r != 0) = decide (u.toNat * 2 ^ up % v.toNat ≠ 0) := by
  have e1 := nn_num w1 w2
  have e2 := nn_num w3 w4
  obtain ⟨n, rfl⟩ := Int.eq_ofNat_of_zero_le hu.1
  obtain ⟨k, rfl⟩ := Int.eq_ofNat_of_zero_le hv.1
  have z : num 0 (n : Int) = (n : Int) := by unfold num; omega
  rw [z, pow_cast, Int.toNat_natCast, ← Int.natCast_mul] at E
  rw [Int.toNat_natCast, Int.toNat_natCast] at *
  generalize n * 2 ^ up = A at *
  have hA : num sh sl = (A : Int) := by omega
  rw [hA, ← Int.natCast_ediv, ← e2] at E2
  rw [hA, ← Int.natCast_emod] at E3
  refine ⟨by omega, ?_⟩
  rw [E3, Bool.eq_iff_iff, bne_iff_ne, decide_eq_true_iff]
  omega
theorem frozen_on {W w1 : World} (hb : Below W.heap.size W w1) {b o : Nat} {v : Value} (h : W.cell? ⟨b, o, none⟩ = some v) (f : W.frozen? ⟨b, o, none⟩ = false) : w1.frozen? ⟨b, o, none⟩ = false :=
  ((bcell hb).2 _ _ (lt_new h)).trans f
set_option maxRecDepth 8000 in
set_option maxHeartbeats 1600000 in
theorem quotient_any (k1 : Int) (g1 : Bool) (u1 p1 k2 : Int) (g2 : Bool) (u2 p2 : Int) (a1 : Word u1) (b1 : Word u2) (b0 : u2 ≠ 0) (a2 : u1 < 9007199254740992) (b2 : u2 < 9007199254740992)
    (a3 : -1100 ≤ p1) (a4 : p1 ≤ 2000) (b3 : -1100 ≤ p2) (b4 : p2 ≤ 2000) (w : World) :
    Calls Try.prog 46 #[prt k1 g1 u1 p1, prt k2 g2 u2 p2] w fun r w' => ∃ h l x more, r = .returned (.tuple #[.agg #[.int .u64 h, .int .u64 l], .int .i64 x, .bool more]) ∧ Word h ∧ Word l ∧ -4000 ≤ x ∧ x ≤ 4000 ∧
      Hid (∀ s m b, rndQ s m b (nn h l) x more = divT s m b u1.toNat p1 u2.toNat p2) ∧ Below w.heap.size w w' := by
  have hlen := len_ex 0 u1 word_zero a1
  obtain ⟨c2, c3, c4⟩ := blen_word2 a1 a2
  have hup : ∃ up : Nat, (128 : Int) - (blen (nn 0 u1) : Int) = up ∧ up = 128 - blen (nn 0 u1) := ⟨_, by omega, rfl⟩
  obtain ⟨up, hu, hu2⟩ := hup
  have u75 : 75 ≤ up := by omega
  have u127 : up ≤ 128 := by omega
  rw [← hu2] at c3 c4
  have D1 : Hid (∀ s m b more, more = decide (u1.toNat * 2 ^ up % u2.toNat ≠ 0) → rndQ s m b (u1.toNat * 2 ^ up / u2.toNat) (p1 - up - p2) more = divT s m b u1.toNat p1 u2.toNat p2) :=
    fun s m b more hm => by
      by_cases a0 : u1 = 0
      · subst a0
        have hm' : more = false := by rw [hm]; simp
        subst hm'
        rw [rndQ_false]
        unfold divT
        simp [rnd_zero]
      · exact div_fits s m b u1.toNat u2.toNat up p1 p2 more (by have := b1.1; omega) (by have := b1.1; omega) (by omega) (c3 a0) hm
  have D2 : Hid (∀ sh sl qh ql r, Word sh → Word sl → Word qh → Word ql → num sh sl = num 0 u1 * 2 ^ (up : Int).toNat % 340282366920938463463374607431768211456 → num qh ql = num sh sl / u2 → r = num sh sl % u2 → nn qh ql = u1.toNat * 2 ^ up / u2.toNat ∧ (r != 0) = decide (u1.toNat * 2 ^ up % u2.toNat ≠ 0)) :=
    fun sh sl qh ql r w1 w2 w3 w4 E E2 E3 => quo_nat a1 b1 w1 w2 w3 w4 E c4 E2 E3
  have hsh := shl_any 0 u1 (up : Int) word_zero a1 (by omega) (by omega)
  have hdv := fun sh sl ws wt => div_pos sh sl u2 ws wt b1 (by have := b1.1; omega)
  have hu3 : (blen (nn 0 u1) : Int) = 128 - up := by omega
  rw [hu3] at hlen
  clear c2 c3 c4 hu2 hu hu3
  have q0 : (0 : Int) ≤ (up : Int) := by omega
  have q1 : (75 : Int) ≤ (up : Int) := by omega
  have q2 : (up : Int) ≤ 128 := by omega
  generalize (up : Int) = U at *
  unfold prt
  have L := ((below_three w (.cells #[.int .i64 k1, .bool g1, .int .u64 u1, .int .i64 p1] 46) (.cells #[.int .i64 k2, .bool g2, .int .u64 u2, .int .i64 p2] 46) (.cells #[.int .u64 0, .int .u64 0] 63)).alloc (by simp; omega) (.cells #[.int .u64 0, .int .u64 u1] 63)).drew
  have hUU : (128 : Int) - (128 - U) = U := by omega
  have X2 : ((((w.alloc (.cells #[.int .i64 k1, .bool g1, .int .u64 u1, .int .i64 p1] 46)).alloc (.cells #[.int .i64 k2, .bool g2, .int .u64 u2, .int .i64 p2] 46)).alloc (.cells #[.int .u64 0, .int .u64 0] 63)).alloc (.cells #[.int .u64 0, .int .u64 u1] 63)).cell? ⟨w.heap.size, 2, none⟩ = some (.int .u64 u1) := by simp [go_sem, World.cell?_alloc_past]
  have X3 : ((((w.alloc (.cells #[.int .i64 k1, .bool g1, .int .u64 u1, .int .i64 p1] 46)).alloc (.cells #[.int .i64 k2, .bool g2, .int .u64 u2, .int .i64 p2] 46)).alloc (.cells #[.int .u64 0, .int .u64 0] 63)).alloc (.cells #[.int .u64 0, .int .u64 u1] 63)).cell? ⟨w.heap.size, 3, none⟩ = some (.int .i64 p1) := by simp [go_sem, World.cell?_alloc_past]
  have Y2 : ((((w.alloc (.cells #[.int .i64 k1, .bool g1, .int .u64 u1, .int .i64 p1] 46)).alloc (.cells #[.int .i64 k2, .bool g2, .int .u64 u2, .int .i64 p2] 46)).alloc (.cells #[.int .u64 0, .int .u64 0] 63)).alloc (.cells #[.int .u64 0, .int .u64 u1] 63)).cell? ⟨w.heap.size + 1, 2, none⟩ = some (.int .u64 u2) := by simp [go_sem, World.cell?_alloc_past]
  have Y3 : ((((w.alloc (.cells #[.int .i64 k1, .bool g1, .int .u64 u1, .int .i64 p1] 46)).alloc (.cells #[.int .i64 k2, .bool g2, .int .u64 u2, .int .i64 p2] 46)).alloc (.cells #[.int .u64 0, .int .u64 0] 63)).alloc (.cells #[.int .u64 0, .int .u64 u1] 63)).cell? ⟨w.heap.size + 1, 3, none⟩ = some (.int .i64 p2) := by simp [go_sem, World.cell?_alloc_past]
  have R0 : ((((w.alloc (.cells #[.int .i64 k1, .bool g1, .int .u64 u1, .int .i64 p1] 46)).alloc (.cells #[.int .i64 k2, .bool g2, .int .u64 u2, .int .i64 p2] 46)).alloc (.cells #[.int .u64 0, .int .u64 0] 63)).alloc (.cells #[.int .u64 0, .int .u64 u1] 63)).cell? ⟨w.heap.size + 1 + 1, 0, none⟩ = some (.int .u64 0) := by simp [go_sem, World.cell?_alloc_past]
  have R1 : ((((w.alloc (.cells #[.int .i64 k1, .bool g1, .int .u64 u1, .int .i64 p1] 46)).alloc (.cells #[.int .i64 k2, .bool g2, .int .u64 u2, .int .i64 p2] 46)).alloc (.cells #[.int .u64 0, .int .u64 0] 63)).alloc (.cells #[.int .u64 0, .int .u64 u1] 63)).cell? ⟨w.heap.size + 1 + 1, 1, none⟩ = some (.int .u64 0) := by simp [go_sem, World.cell?_alloc_past]
  have G0 : ((((w.alloc (.cells #[.int .i64 k1, .bool g1, .int .u64 u1, .int .i64 p1] 46)).alloc (.cells #[.int .i64 k2, .bool g2, .int .u64 u2, .int .i64 p2] 46)).alloc (.cells #[.int .u64 0, .int .u64 0] 63)).alloc (.cells #[.int .u64 0, .int .u64 u1] 63)).frozen? ⟨w.heap.size + 1 + 1, 0, none⟩ = false := by simp [go_sem]
  have G1 : ((((w.alloc (.cells #[.int .i64 k1, .bool g1, .int .u64 u1, .int .i64 p1] 46)).alloc (.cells #[.int .i64 k2, .bool g2, .int .u64 u2, .int .i64 p2] 46)).alloc (.cells #[.int .u64 0, .int .u64 0] 63)).alloc (.cells #[.int .u64 0, .int .u64 u1] 63)).frozen? ⟨w.heap.size + 1 + 1, 1, none⟩ = false := by simp [go_sem]
  go_enter Try.func46, Try.ntmps46
  go_wp2_with (go_at_call 43; refine (hlen _).mono ?_; rintro r w1 ⟨rfl, rfl⟩)
  go_region_held3 (fun w' => w'.cell? ⟨w.heap.size, 2, none⟩ = some (.int .u64 u1) ∧ w'.cell? ⟨w.heap.size + 1, 2, none⟩ = some (.int .u64 u2))
    (first | exact ⟨X2, Y2⟩ | (simp [go_sem, *]; done))
    (first
      | (go_at_call 48; refine (hsh _).mono ?_; rintro r w1 ⟨sh, sl, rfl, ws, wt, E, hb1⟩; have J1 := frozen_on hb1 R0 G0; have J2 := frozen_on hb1 R1 G1; replace X2 := cell_on hb1 X2; replace X3 := cell_on hb1 X3; replace Y2 := cell_on hb1 Y2; replace Y3 := cell_on hb1 Y3; replace R0 := cell_on hb1 R0; replace R1 := cell_on hb1 R1; clear G0 G1; have G0 := J1; have G1 := J2; clear J1 J2; replace L := below_call L hb1)
      | (go_at_call 66; refine (hdv sh sl ws wt _).mono ?_; rintro r w2 ⟨qh, ql, rr, rfl, wq1, wq2, wr, E2, E3, hb2⟩; have J1 := frozen_on hb2 R0 G0; have J2 := frozen_on hb2 R1 G1; replace X2 := cell_on hb2 X2; replace X3 := cell_on hb2 X3; replace Y2 := cell_on hb2 Y2; replace Y3 := cell_on hb2 Y3; replace R0 := cell_on hb2 R0; replace R1 := cell_on hb2 R1; clear G0 G1; have G0 := J1; have G1 := J2; clear J1 J2; replace L := below_call L hb2))
  obtain ⟨n1, n2⟩ := D2.out sh sl qh ql rr ws wt wq1 wq2 E.out E2.out E3.out
  have HN : Hid (∀ s m b, rndQ s m b (nn qh ql) (p1 - U - p2) (rr != 0) = divT s m b u1.toNat p1 u2.toNat p2) := fun s m b => by rw [n1]; exact D1.out s m b _ n2
  clear n1 n2 D1 D2 E E2 E3 hsh hdv hlen
  obtain ⟨q3, q4⟩ := set2_in (w := w2) (b := w.heap.size + 1 + 1) (.int .u64 qh) (.int .u64 ql) R0 R1
  have q5 := set2_cell (w := w2) (b := w.heap.size + 1 + 1) (.int .u64 qh) (.int .u64 ql) (by omega) X3
  have q6 := set2_cell (w := w2) (b := w.heap.size + 1 + 1) (.int .u64 qh) (.int .u64 ql) (by omega) Y3
  have q7 : ((w2.setCell ⟨w.heap.size + 1 + 1, 0, none⟩ (.int .u64 qh)).setCell ⟨w.heap.size + 1 + 1, 1, none⟩ (.int .u64 ql)).frozen? ⟨w.heap.size + 1 + 1, 0, none⟩ = false := by simp [*]
  have q8 : ((w2.setCell ⟨w.heap.size + 1 + 1, 0, none⟩ (.int .u64 qh)).setCell ⟨w.heap.size + 1 + 1, 1, none⟩ (.int .u64 ql)).frozen? ⟨w.heap.size + 1 + 1, 1, none⟩ = false := by simp [*]
  have q9 : Below w.heap.size w ((w2.setCell ⟨w.heap.size + 1 + 1, 0, none⟩ (.int .u64 qh)).setCell ⟨w.heap.size + 1 + 1, 1, none⟩ (.int .u64 ql)) := (L.setCell (by show _ ≤ w.heap.size + 1 + 1; omega) _).setCell (by show _ ≤ w.heap.size + 1 + 1; omega) _
  generalize (w2.setCell ⟨w.heap.size + 1 + 1, 0, none⟩ (.int .u64 qh)).setCell ⟨w.heap.size + 1 + 1, 1, none⟩ (.int .u64 ql) = W at *
  clear X2 X3 Y2 Y3 R0 R1 G0 G1 L hb1 hb2
  go_wp2_with fail
  go_region
  go_wp2_with fail
  refine bodyPost_ret (v := .tuple #[.agg #[.int .u64 qh, .int .u64 ql], .int .i64 (p1 - U - p2), .bool (rr != 0)]) (by simp [results, Try.results46, go_sem, *]) rfl ?_
  exact ⟨_, _, _, _, rfl, wq1, wq2, by omega, by omega, HN, ((q9.setCell (by show _ ≤ w.heap.size + 1 + 1; omega) _).setCell (by show _ ≤ w.heap.size + 1 + 1; omega) _).drew⟩
end Go.Proofs.Ytfdinlomlcnjnaa

