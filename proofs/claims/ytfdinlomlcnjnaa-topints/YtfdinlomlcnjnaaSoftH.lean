/- Sums and quotients of two floats that are taken apart. -/
import Derived.Test.YtfdinlomlcnjnaaSoftG
namespace Go.Proofs.Ytfdinlomlcnjnaa
open Go.RowKit
set_option linter.unusedVariables false
set_option linter.unusedSimpArgs false
/-- The whole number and the power of a finite float. -/
def Fin (s : Bool) (u p : Int) : Prop := 0 ≤ u ∧ u < 2 ^ (fP s + 1) ∧ fL s ≤ p ∧ p ≤ 2000 ∧ (fL s < p → 2 ^ fP s ≤ u)
theorem Fin.word {s : Bool} {u p : Int} (h : Fin s u p) : Word u := by
  obtain ⟨a, b, _⟩ := h
  cases s
  · exact ⟨a, Int.lt_trans b (by decide)⟩
  · exact ⟨a, Int.lt_trans b (by decide)⟩
theorem Fin.lt53 {s : Bool} {u p : Int} (h : Fin s u p) : u < 9007199254740992 := by
  obtain ⟨a, b, _⟩ := h
  cases s
  · exact b
  · exact Int.lt_trans b (by decide)
theorem Fin.low {s : Bool} {u p : Int} (h : Fin s u p) : -1074 ≤ p := by
  obtain ⟨_, _, c, _⟩ := h
  cases s
  · exact c
  · exact Int.le_trans (by decide) c
theorem Fin.nat {s : Bool} {u p : Int} (h : Fin s u p) : u.toNat < 2 ^ (fP s + 1) ∧ (fL s < p → 2 ^ fP s ≤ u.toNat) := by
  obtain ⟨a, b, c, d, e⟩ := h
  refine ⟨?_, fun g => ?_⟩
  · rw [pow_cast] at b; omega
  · have := e g; rw [pow_cast] at this; omega
theorem nn_low (u : Int) (h : Word u) : nn 0 u = u.toNat := by unfold nn num; congr 1; omega
/-- Moved up by at most 70 bits. -/
theorem up70 {u h l d : Int} (hu : 0 ≤ u) (hu2 : u < 9007199254740992) (d0 : 0 ≤ d) (d1 : d ≤ 70) (wh : Word h) (wl : Word l)
    (E : num h l = num 0 u * 2 ^ d.toNat % 340282366920938463463374607431768211456) : nn h l = u.toNat * 2 ^ d.toNat ∧ num h l < 2 ^ 123 := by
  have e := nn_num wh wl
  have p : 2 ^ d.toNat ≤ 2 ^ 70 := Nat.pow_le_pow_right (by decide) (by omega)
  obtain ⟨n, rfl⟩ := Int.eq_ofNat_of_zero_le hu
  have z : num 0 (n : Int) = (n : Int) := by unfold num; omega
  rw [z, pow_cast, ← Int.natCast_mul] at E
  have q : n * 2 ^ d.toNat < 2 ^ 53 * 2 ^ 70 := Nat.mul_lt_mul_of_lt_of_le (by omega) p (by decide)
  rw [Int.toNat_natCast]
  generalize n * 2 ^ d.toNat = M at *
  have : (2 : Int) ^ 123 = ((2 ^ 123 : Nat) : Int) := by simp
  omega
theorem sub_nat {ah al bh bl sh sl : Int} (w1 : Word ah) (w2 : Word al) (w3 : Word bh) (w4 : Word bl) (w5 : Word sh) (w6 : Word sl) (E : num sh sl = (num ah al - num bh bl) % 340282366920938463463374607431768211456) (h : nn bh bl ≤ nn ah al) :
    nn sh sl = nn ah al - nn bh bl := by
  have a := nn_num w1 w2
  have b := nn_num w3 w4
  have c := nn_num w5 w6
  have d := num_hi w1 w2
  omega
theorem ru_eq {a b : Int} (h : a = b) : Ending.returned (Value.int IntKind.u64 a) = .returned (.int .u64 b) := by rw [h]
set_option maxRecDepth 8000 in
set_option maxHeartbeats 1600000 in
theorem sum_up (f m : Int) (k1 : Int) (g1 : Bool) (u1 p1 k2 : Int) (g2 : Bool) (u2 p2 : Int) (H1 : Fin (f == 1) u1 p1) (H2 : Fin (f == 1) u2 p2) (hp : p2 ≤ p1) (w : World) :
    Calls Try.prog 21 #[.int .i64 f, .int .i64 m, prt k1 g1 u1 p1, prt k2 g2 u2 p2] w fun r w' => r = .returned (.int .u64 (sumT (f == 1) m g1 u1.toNat p1 g2 u2.toNat p2)) ∧ Below w.heap.size w w' := by
  have hrd := fun b h l e wh wl e1 e2 => round_any f m b h l e false wh wl e1 e2
  generalize (f == 1) = s at *
  have a1 := H1.word; have a2 := H1.lt53; have a3 := H1.low; obtain ⟨a4, a5⟩ := H1.nat
  have b1 := H2.word; have b2 := H2.lt53; have b3 := H2.low; obtain ⟨b4, b5⟩ := H2.nat
  have a6 := H1.2.2.2.1
  have b6 := H2.2.2.2.1
  have r1 := raised_ge p1 p2 hp
  have r2 : raised p1 p2 ≤ 2000 := by omega
  have r3 : -1074 ≤ raised p1 p2 := by unfold raised; omega
  have hm : max p2 (p1 - 70) = raised p1 p2 := rfl
  have T1 := sum_same s m g1 u1.toNat u2.toNat p1 p2 hp a5 b4 H2.2.2.1
  have T2 := fun (e : g1 ≠ g2) => sum_more s m g1 g2 u1.toNat u2.toNat p1 p2 e hp a5 b4 H2.2.2.1
  have T3 := fun (e : g1 ≠ g2) => sum_gone s m g1 g2 u1.toNat u2.toNat p1 p2 (raised p1 p2) e hp a5 b4 H2.2.2.1
  have T4 := fun (e : g1 ≠ g2) => sum_less s m g1 g2 u1.toNat u2.toNat p1 p2 e hp a5 b4 H2.2.2.1
  have U : Hid _ := T1; have U2 : Hid _ := T2; have U3 : Hid _ := T3; have U4 : Hid _ := T4
  clear T1 T2 T3 T4
  generalize raised p1 p2 = q at *
  have q1 : -9223372036854775808 ≤ q := by omega
  have q2 : q ≤ 9223372036854775807 := by omega
  have q3 : clamp q = q := clamp_id (by omega) (by omega)
  have Q3 : Hid _ := q3
  clear q3
  have hV : ∃ V : Int, sumT s m g1 u1.toNat p1 g2 u2.toNat p2 = V := ⟨_, rfl⟩
  obtain ⟨V, hV⟩ := hV
  rw [hV]
  have HV : Hid _ := hV
  clear hV
  have hsh := shl_any 0 u1 (p1 - q) word_zero a1 (by omega) (by omega)
  have L := below_two w (prtO k1 g1 u1 p1) (prtO k2 g2 u2 q)
  unfold prt
  unfold prtO at L
  have hp' : ¬ p1 < p2 := by omega
  go_enter Try.func21, Try.ntmps21
  go_wp2_with fail
  refine (hsh _).mono ?_
  rintro r w1 ⟨ah, al, rfl, wa, wb, E, hb1⟩
  obtain ⟨N1, lt1⟩ := up70 a1.1 a2 r1.1 r1.2 wa wb E.out
  have n1 := nn_num wa wb
  have n2 := nn_low u2 b1
  have n3 := nn_num word_zero b1
  have B1 := b1.1
  have M1 : Hid _ := N1
  have M2 : Hid _ := n1
  have M3 : Hid _ := n2
  have M4 : Hid _ := n3
  have x1 : w1.cell? ⟨w.heap.size, 1, none⟩ = some (.bool g1) := by rw [(bcell hb1).1 _ _ (by simp; omega)]; simp [go_sem]
  have y1 : w1.cell? ⟨w.heap.size + 1, 1, none⟩ = some (.bool g2) := by rw [(bcell hb1).1 _ _ (by simp)]; simp [go_sem]
  have y2 : w1.cell? ⟨w.heap.size + 1, 2, none⟩ = some (.int .u64 u2) := by rw [(bcell hb1).1 _ _ (by simp)]; simp [go_sem]
  have y3 : w1.cell? ⟨w.heap.size + 1, 3, none⟩ = some (.int .i64 q) := by rw [(bcell hb1).1 _ _ (by simp)]; simp [go_sem]
  have z1 := lt_new x1
  have z2 := lt_new y1
  replace L := below_call L hb1
  clear E hb1 hsh N1 n1 n2 n3
  by_cases c : g1 = g2
  · subst c
    have c' : (g1 == g1) = true := by simp
    go_wp2_with fail
    refine (add_any ah al 0 u2 wa wb word_zero b1 _).mono ?_
    rintro r w2 ⟨sh, sl, sc, rfl, ws, wt, E2, _, hb2⟩
    have N2 : nn sh sl = u1.toNat * 2 ^ (p1 - q).toNat + u2.toNat := by
      have e2 := E2.out
      rw [← nn_num ws wt, ← M2.out, ← M4.out, M3.out] at e2
      rw [← M1.out]
      have l := lt1
      rw [← M2.out, pow_cast] at l
      omega
    have W2 : Hid _ := N2
    clear N2 E2
    replace x1 := cell_on hb2 (cell_past (cell_past x1 _) _)
    replace y3 := cell_on hb2 (cell_past (cell_past y3 _) _)
    replace L := below_call (below_new (below_new L _) _) hb2
    have z1 := lt_new x1
    have z2 := lt_new y3
    go_wp2_with fail
    refine (hrd g1 sh sl q ws wt q1 q2 _).mono ?_
    rintro r w3 ⟨rfl, hb3⟩
    replace L := below_call (below_new L _) hb3
    go_wp2_with fail
    go_ret
    exact ⟨ru_eq (by rw [Q3.out, rndQ_false, W2.out, U.out]; exact HV.out), L⟩
  · have c' : (g1 == g2) = false := by simp [c]
    go_wp2_with fail
    refine (cmp_any ah al 0 u2 wa wb word_zero b1 _).mono ?_
    rintro r w2 ⟨n, rfl, E2, hb2⟩
    have a0 := cell_on hb2 (cell_past (cell_new0 w1 (.int .u64 ah) (.int .u64 al) 63) _)
    have aa := cell_on hb2 (cell_past (cell_new1 w1 (.int .u64 ah) (.int .u64 al) 63) _)
    have d0 : w2.cell? ⟨w1.heap.size + 1, 0, none⟩ = some (.int .u64 0) := by rw [(bcell hb2).1 _ _ (by simp)]; simp [go_sem]
    have d1 : w2.cell? ⟨w1.heap.size + 1, 1, none⟩ = some (.int .u64 u2) := by rw [(bcell hb2).1 _ _ (by simp)]; simp [go_sem]
    have f0 : w2.frozen? ⟨w1.heap.size, 0, none⟩ = false := by rw [(bcell hb2).2 _ _ (by simp; omega)]; simp [go_sem]
    have f1 : w2.frozen? ⟨w1.heap.size, 1, none⟩ = false := by rw [(bcell hb2).2 _ _ (by simp; omega)]; simp [go_sem]
    have h0 : w2.frozen? ⟨w1.heap.size + 1, 0, none⟩ = false := by rw [(bcell hb2).2 _ _ (by simp)]; simp [go_sem]
    have h1 : w2.frozen? ⟨w1.heap.size + 1, 1, none⟩ = false := by rw [(bcell hb2).2 _ _ (by simp)]; simp [go_sem]
    replace x1 := cell_on hb2 (cell_past (cell_past x1 _) _)
    replace y1 := cell_on hb2 (cell_past (cell_past y1 _) _)
    replace y3 := cell_on hb2 (cell_past (cell_past y3 _) _)
    replace L := below_call (below_new (below_new L _) _) hb2
    have y9 := L.size
    clear hb2
    have E3 := E2.out
    rw [← M2.out, ← M4.out, M1.out, M3.out] at E3
    clear E2
    unfold cmpN at E3
    have C : (n = 0 ∧ u2.toNat = u1.toNat * 2 ^ (p1 - q).toNat) ∨ (n = 1 ∧ u2.toNat < u1.toNat * 2 ^ (p1 - q).toNat) ∨ (n = -1 ∧ u1.toNat * 2 ^ (p1 - q).toNat < u2.toNat) := by
      split at E3
      · right; right; exact ⟨E3, by omega⟩
      · split at E3
        · right; left; exact ⟨E3, by omega⟩
        · left; exact ⟨E3, by omega⟩
    clear E3
    rcases C with ⟨rfl, C⟩ | ⟨rfl, C⟩ | ⟨rfl, C⟩
    · have HC : Hid _ := C
      clear C
      go_wp2_with fail
      refine (sub_any ah al 0 u2 wa wb word_zero b1 _).mono ?_
      rintro r w3 ⟨sh, sl, sc, rfl, ws, wt, E4, _, hb3⟩
      have D1 : Hid _ := sub_nat wa wb word_zero b1 ws wt E4.out (by rw [M1.out, M3.out]; exact Nat.le_of_eq HC.out)
      clear E4
      replace y3 := cell_on hb3 y3
      replace L := below_call L hb3
      have z3 := lt_new y3
      clear hb3
      go_wp2_with fail
      refine (hrd (m == 2) sh sl q ws wt q1 q2 _).mono ?_
      rintro r w4 ⟨rfl, hb4⟩
      replace L := below_call (below_new L _) hb4
      go_wp2_with fail
      go_ret
      exact ⟨ru_eq (by rw [Q3.out, rndQ_false, D1.out, M1.out, M3.out, HC.out, Nat.sub_self]; exact (U3.out c HC.out).trans HV.out), L⟩
    · have HC : Hid _ := C
      clear C
      go_wp2_with fail
      refine (sub_any ah al 0 u2 wa wb word_zero b1 _).mono ?_
      rintro r w3 ⟨sh, sl, sc, rfl, ws, wt, E4, _, hb3⟩
      have D1 : Hid _ := sub_nat wa wb word_zero b1 ws wt E4.out (by rw [M1.out, M3.out]; exact Nat.le_of_lt HC.out)
      clear E4
      replace y3 := cell_on hb3 y3
      replace L := below_call L hb3
      have z3 := lt_new y3
      clear hb3
      go_wp2_with fail
      refine (hrd g1 sh sl q ws wt q1 q2 _).mono ?_
      rintro r w4 ⟨rfl, hb4⟩
      replace L := below_call (below_new L _) hb4
      go_wp2_with fail
      go_ret
      exact ⟨ru_eq (by rw [Q3.out, rndQ_false, D1.out, M1.out, M3.out]; exact (U2.out c HC.out).trans HV.out), L⟩
    · have HC : Hid _ := C
      clear C
      go_wp2_with fail
      go_region
      go_wp2_with fail
      clear a0 aa d0 d1 f0 f1 h0 h1
      refine (sub_any 0 u2 ah al word_zero b1 wa wb _).mono ?_
      rintro r w3 ⟨sh, sl, sc, rfl, ws, wt, E4, _, hb3⟩
      have D1 : Hid _ := sub_nat word_zero b1 wa wb ws wt E4.out (by rw [M1.out, M3.out]; exact Nat.le_of_lt HC.out)
      clear E4
      replace y3 := cell_on hb3 (set2_cell (b := w1.heap.size + 1) _ _ (by omega) (set2_cell (b := w1.heap.size) _ _ (by omega) y3))
      replace L := below_call ((((L.setCell (Nat.le_of_lt z1) _).setCell (Nat.le_of_lt z1) _).setCell (Nat.le_succ_of_le (Nat.le_of_lt z1)) _).setCell (Nat.le_succ_of_le (Nat.le_of_lt z1)) _).drew hb3
      have z3 := lt_new y3
      clear hb3
      go_wp2_with fail
      refine (hrd g2 sh sl q ws wt q1 q2 _).mono ?_
      rintro r w4 ⟨rfl, hb4⟩
      replace L := below_call (below_new L _) hb4
      go_wp2_with fail
      go_ret
      exact ⟨ru_eq (by rw [Q3.out, rndQ_false, D1.out, M1.out, M3.out]; exact (U4.out c HC.out).trans HV.out), L⟩
set_option maxRecDepth 8000 in
set_option maxHeartbeats 1600000 in
theorem sum_down (f m : Int) (k1 : Int) (g1 : Bool) (u1 p1 k2 : Int) (g2 : Bool) (u2 p2 : Int) (H1 : Fin (f == 1) u1 p1) (H2 : Fin (f == 1) u2 p2) (hp0 : p2 < p1) (w : World) :
    Calls Try.prog 21 #[.int .i64 f, .int .i64 m, prt k2 g2 u2 p2, prt k1 g1 u1 p1] w fun r w' => r = .returned (.int .u64 (sumT (f == 1) m g2 u2.toNat p2 g1 u1.toNat p1)) ∧ Below w.heap.size w w' := by
  rw [sumT_swap]
  have hp : p2 ≤ p1 := by omega
  have hrd := fun b h l e wh wl e1 e2 => round_any f m b h l e false wh wl e1 e2
  generalize (f == 1) = s at *
  have a1 := H1.word; have a2 := H1.lt53; have a3 := H1.low; obtain ⟨a4, a5⟩ := H1.nat
  have b1 := H2.word; have b2 := H2.lt53; have b3 := H2.low; obtain ⟨b4, b5⟩ := H2.nat
  have a6 := H1.2.2.2.1
  have b6 := H2.2.2.2.1
  have r1 := raised_ge p1 p2 hp
  have r2 : raised p1 p2 ≤ 2000 := by omega
  have r3 : -1074 ≤ raised p1 p2 := by unfold raised; omega
  have hm : max p2 (p1 - 70) = raised p1 p2 := rfl
  have T1 := sum_same s m g1 u1.toNat u2.toNat p1 p2 hp a5 b4 H2.2.2.1
  have T2 := fun (e : g1 ≠ g2) => sum_more s m g1 g2 u1.toNat u2.toNat p1 p2 e hp a5 b4 H2.2.2.1
  have T3 := fun (e : g1 ≠ g2) => sum_gone s m g1 g2 u1.toNat u2.toNat p1 p2 (raised p1 p2) e hp a5 b4 H2.2.2.1
  have T4 := fun (e : g1 ≠ g2) => sum_less s m g1 g2 u1.toNat u2.toNat p1 p2 e hp a5 b4 H2.2.2.1
  have U : Hid _ := T1; have U2 : Hid _ := T2; have U3 : Hid _ := T3; have U4 : Hid _ := T4
  clear T1 T2 T3 T4
  generalize raised p1 p2 = q at *
  have q1 : -9223372036854775808 ≤ q := by omega
  have q2 : q ≤ 9223372036854775807 := by omega
  have q3 : clamp q = q := clamp_id (by omega) (by omega)
  have Q3 : Hid _ := q3
  clear q3
  have hV : ∃ V : Int, sumT s m g1 u1.toNat p1 g2 u2.toNat p2 = V := ⟨_, rfl⟩
  obtain ⟨V, hV⟩ := hV
  rw [hV]
  have HV : Hid _ := hV
  clear hV
  have hsh := shl_any 0 u1 (p1 - q) word_zero a1 (by omega) (by omega)
  have L := below_two w (prtO k1 g1 u1 p1) (prtO k2 g2 u2 q)
  unfold prt
  unfold prtO at L
  go_enter Try.func21, Try.ntmps21
  go_wp2_with fail
  refine (hsh _).mono ?_
  rintro r w1 ⟨ah, al, rfl, wa, wb, E, hb1⟩
  obtain ⟨N1, lt1⟩ := up70 a1.1 a2 r1.1 r1.2 wa wb E.out
  have n1 := nn_num wa wb
  have n2 := nn_low u2 b1
  have n3 := nn_num word_zero b1
  have B1 := b1.1
  have M1 : Hid _ := N1
  have M2 : Hid _ := n1
  have M3 : Hid _ := n2
  have M4 : Hid _ := n3
  have x1 : w1.cell? ⟨w.heap.size, 1, none⟩ = some (.bool g1) := by rw [(bcell hb1).1 _ _ (by simp; omega)]; simp [go_sem]
  have y1 : w1.cell? ⟨w.heap.size + 1, 1, none⟩ = some (.bool g2) := by rw [(bcell hb1).1 _ _ (by simp)]; simp [go_sem]
  have y2 : w1.cell? ⟨w.heap.size + 1, 2, none⟩ = some (.int .u64 u2) := by rw [(bcell hb1).1 _ _ (by simp)]; simp [go_sem]
  have y3 : w1.cell? ⟨w.heap.size + 1, 3, none⟩ = some (.int .i64 q) := by rw [(bcell hb1).1 _ _ (by simp)]; simp [go_sem]
  have z1 := lt_new x1
  have z2 := lt_new y1
  replace L := below_call L hb1
  clear E hb1 hsh N1 n1 n2 n3
  by_cases c : g1 = g2
  · subst c
    have c' : (g1 == g1) = true := by simp
    go_wp2_with fail
    refine (add_any ah al 0 u2 wa wb word_zero b1 _).mono ?_
    rintro r w2 ⟨sh, sl, sc, rfl, ws, wt, E2, _, hb2⟩
    have N2 : nn sh sl = u1.toNat * 2 ^ (p1 - q).toNat + u2.toNat := by
      have e2 := E2.out
      rw [← nn_num ws wt, ← M2.out, ← M4.out, M3.out] at e2
      rw [← M1.out]
      have l := lt1
      rw [← M2.out, pow_cast] at l
      omega
    have W2 : Hid _ := N2
    clear N2 E2
    replace x1 := cell_on hb2 (cell_past (cell_past x1 _) _)
    replace y3 := cell_on hb2 (cell_past (cell_past y3 _) _)
    replace L := below_call (below_new (below_new L _) _) hb2
    have z1 := lt_new x1
    have z2 := lt_new y3
    go_wp2_with fail
    refine (hrd g1 sh sl q ws wt q1 q2 _).mono ?_
    rintro r w3 ⟨rfl, hb3⟩
    replace L := below_call (below_new L _) hb3
    go_wp2_with fail
    go_ret
    exact ⟨ru_eq (by rw [Q3.out, rndQ_false, W2.out, U.out]; exact HV.out), L⟩
  · have c' : (g1 == g2) = false := by simp [c]
    go_wp2_with fail
    refine (cmp_any ah al 0 u2 wa wb word_zero b1 _).mono ?_
    rintro r w2 ⟨n, rfl, E2, hb2⟩
    have a0 := cell_on hb2 (cell_past (cell_new0 w1 (.int .u64 ah) (.int .u64 al) 63) _)
    have aa := cell_on hb2 (cell_past (cell_new1 w1 (.int .u64 ah) (.int .u64 al) 63) _)
    have d0 : w2.cell? ⟨w1.heap.size + 1, 0, none⟩ = some (.int .u64 0) := by rw [(bcell hb2).1 _ _ (by simp)]; simp [go_sem]
    have d1 : w2.cell? ⟨w1.heap.size + 1, 1, none⟩ = some (.int .u64 u2) := by rw [(bcell hb2).1 _ _ (by simp)]; simp [go_sem]
    have f0 : w2.frozen? ⟨w1.heap.size, 0, none⟩ = false := by rw [(bcell hb2).2 _ _ (by simp; omega)]; simp [go_sem]
    have f1 : w2.frozen? ⟨w1.heap.size, 1, none⟩ = false := by rw [(bcell hb2).2 _ _ (by simp; omega)]; simp [go_sem]
    have h0 : w2.frozen? ⟨w1.heap.size + 1, 0, none⟩ = false := by rw [(bcell hb2).2 _ _ (by simp)]; simp [go_sem]
    have h1 : w2.frozen? ⟨w1.heap.size + 1, 1, none⟩ = false := by rw [(bcell hb2).2 _ _ (by simp)]; simp [go_sem]
    replace x1 := cell_on hb2 (cell_past (cell_past x1 _) _)
    replace y1 := cell_on hb2 (cell_past (cell_past y1 _) _)
    replace y3 := cell_on hb2 (cell_past (cell_past y3 _) _)
    replace L := below_call (below_new (below_new L _) _) hb2
    have y9 := L.size
    clear hb2
    have E3 := E2.out
    rw [← M2.out, ← M4.out, M1.out, M3.out] at E3
    clear E2
    unfold cmpN at E3
    have C : (n = 0 ∧ u2.toNat = u1.toNat * 2 ^ (p1 - q).toNat) ∨ (n = 1 ∧ u2.toNat < u1.toNat * 2 ^ (p1 - q).toNat) ∨ (n = -1 ∧ u1.toNat * 2 ^ (p1 - q).toNat < u2.toNat) := by
      split at E3
      · right; right; exact ⟨E3, by omega⟩
      · split at E3
        · right; left; exact ⟨E3, by omega⟩
        · left; exact ⟨E3, by omega⟩
    clear E3
    rcases C with ⟨rfl, C⟩ | ⟨rfl, C⟩ | ⟨rfl, C⟩
    · have HC : Hid _ := C
      clear C
      go_wp2_with fail
      refine (sub_any ah al 0 u2 wa wb word_zero b1 _).mono ?_
      rintro r w3 ⟨sh, sl, sc, rfl, ws, wt, E4, _, hb3⟩
      have D1 : Hid _ := sub_nat wa wb word_zero b1 ws wt E4.out (by rw [M1.out, M3.out]; exact Nat.le_of_eq HC.out)
      clear E4
      replace y3 := cell_on hb3 y3
      replace L := below_call L hb3
      have z3 := lt_new y3
      clear hb3
      go_wp2_with fail
      refine (hrd (m == 2) sh sl q ws wt q1 q2 _).mono ?_
      rintro r w4 ⟨rfl, hb4⟩
      replace L := below_call (below_new L _) hb4
      go_wp2_with fail
      go_ret
      exact ⟨ru_eq (by rw [Q3.out, rndQ_false, D1.out, M1.out, M3.out, HC.out, Nat.sub_self]; exact (U3.out c HC.out).trans HV.out), L⟩
    · have HC : Hid _ := C
      clear C
      go_wp2_with fail
      refine (sub_any ah al 0 u2 wa wb word_zero b1 _).mono ?_
      rintro r w3 ⟨sh, sl, sc, rfl, ws, wt, E4, _, hb3⟩
      have D1 : Hid _ := sub_nat wa wb word_zero b1 ws wt E4.out (by rw [M1.out, M3.out]; exact Nat.le_of_lt HC.out)
      clear E4
      replace y3 := cell_on hb3 y3
      replace L := below_call L hb3
      have z3 := lt_new y3
      clear hb3
      go_wp2_with fail
      refine (hrd g1 sh sl q ws wt q1 q2 _).mono ?_
      rintro r w4 ⟨rfl, hb4⟩
      replace L := below_call (below_new L _) hb4
      go_wp2_with fail
      go_ret
      exact ⟨ru_eq (by rw [Q3.out, rndQ_false, D1.out, M1.out, M3.out]; exact (U2.out c HC.out).trans HV.out), L⟩
    · have HC : Hid _ := C
      clear C
      go_wp2_with fail
      go_region
      go_wp2_with fail
      clear a0 aa d0 d1 f0 f1 h0 h1
      refine (sub_any 0 u2 ah al word_zero b1 wa wb _).mono ?_
      rintro r w3 ⟨sh, sl, sc, rfl, ws, wt, E4, _, hb3⟩
      have D1 : Hid _ := sub_nat word_zero b1 wa wb ws wt E4.out (by rw [M1.out, M3.out]; exact Nat.le_of_lt HC.out)
      clear E4
      replace y3 := cell_on hb3 (set2_cell (b := w1.heap.size + 1) _ _ (by omega) (set2_cell (b := w1.heap.size) _ _ (by omega) y3))
      replace L := below_call ((((L.setCell (Nat.le_of_lt z1) _).setCell (Nat.le_of_lt z1) _).setCell (Nat.le_succ_of_le (Nat.le_of_lt z1)) _).setCell (Nat.le_succ_of_le (Nat.le_of_lt z1)) _).drew hb3
      have z3 := lt_new y3
      clear hb3
      go_wp2_with fail
      refine (hrd g2 sh sl q ws wt q1 q2 _).mono ?_
      rintro r w4 ⟨rfl, hb4⟩
      replace L := below_call (below_new L _) hb4
      go_wp2_with fail
      go_ret
      exact ⟨ru_eq (by rw [Q3.out, rndQ_false, D1.out, M1.out, M3.out]; exact (U4.out c HC.out).trans HV.out), L⟩
theorem sum_any (f m : Int) (k1 : Int) (g1 : Bool) (u1 p1 k2 : Int) (g2 : Bool) (u2 p2 : Int) (H1 : Fin (f == 1) u1 p1) (H2 : Fin (f == 1) u2 p2) (w : World) :
    Calls Try.prog 21 #[.int .i64 f, .int .i64 m, prt k1 g1 u1 p1, prt k2 g2 u2 p2] w fun r w' => r = .returned (.int .u64 (sumT (f == 1) m g1 u1.toNat p1 g2 u2.toNat p2)) ∧ Below w.heap.size w w' := by
  by_cases c : p1 < p2
  · exact sum_down f m k2 g2 u2 p2 k1 g1 u1 p1 H2 H1 c w
  · exact sum_up f m k1 g1 u1 p1 k2 g2 u2 p2 H1 H2 (by omega) w
end Go.Proofs.Ytfdinlomlcnjnaa

