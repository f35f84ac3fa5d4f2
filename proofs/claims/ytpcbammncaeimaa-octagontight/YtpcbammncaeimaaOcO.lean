/- OctagonNone: live, and the law. -/
import Derived.Test.YtpcbammncaeimaaOcN
namespace Go.Proofs.Ytpcbammncaeimaa
open Go.RowKit
set_option linter.unusedVariables false
set_option linter.unusedSimpArgs false
theorem below_onl {n b : Nat} {w W W' : World} (h : Below n w W) (g : Onl b W W') (hb : n ≤ b) (hs : n ≤ W.heap.size) : Below n w W' :=
  ⟨g.os.trans h.os, g.tape.trans h.tape, g.output.trans h.output, Nat.le_trans h.size g.size, fun k hk => (g.block k (by omega) (by omega)).trans (h.block k hk)⟩
theorem u_0 (x y : Int) : sdv (vx x y) 0 = x := rfl
theorem u_1 (x y : Int) : sdv (vx x y) 1 = -x := rfl
theorem u_2 (x y : Int) : sdv (vx x y) 2 = y := rfl
theorem u_3 (x y : Int) : sdv (vx x y) 3 = -y := rfl
structure Lv (M0 M1 M2 M3 : Mx) : Prop where
  h0 : ∀ a c, a < 2 * 2 → c < 2 * 2 → M0 a c = bx a c
  t1 : Tgt 2 (low M0 0 3 0) M1
  t2 : Tgt 2 (low (low M1 2 2 10) 3 3 0) M2
  t3 : Tgt 2 (low (low M2 0 0 18) 1 1 (-6)) M3
theorem lf_1 {M0 : Mx} (h0 : ∀ a c, a < 2 * 2 → c < 2 * 2 → M0 a c = bx a c) {x y : Int} (h1 : 3 ≤ x) (h2 : x ≤ y) (h3 : y ≤ 5) : Fit 2 (low M0 0 3 0) (sdv (vx x y)) :=
  low_fit (bx_fit2 h0 (vx_bd (by omega) (by omega) (by omega) (by omega))) (by rw [u_0, u_3]; omega)
theorem lf_2 {M1 : Mx} {x y : Int} (f : Fit 2 M1 (sdv (vx x y))) (h1 : 3 ≤ x) (h2 : x ≤ y) (h3 : y ≤ 5) : Fit 2 (low (low M1 2 2 10) 3 3 0) (sdv (vx x y)) :=
  low_fit (low_fit f (by rw [u_2]; omega)) (by rw [u_3]; omega)
theorem lf_3 {M2 : Mx} {x y : Int} (f : Fit 2 M2 (sdv (vx x y))) (h1 : 3 ≤ x) (h2 : x ≤ y) (h3 : y ≤ 5) : Fit 2 (low (low M2 0 0 18) 1 1 (-6)) (sdv (vx x y)) :=
  low_fit (low_fit f (by rw [u_0]; omega)) (by rw [u_1]; omega)
theorem lv_all {M0 M1 M2 M3 : Mx} (h : Lv M0 M1 M2 M3) : M3 0 0 = 10 ∧ M3 1 1 = -6 ∧ M3 2 2 = 10 ∧ M3 3 3 = -6 := by
  obtain ⟨h0, t1, t2, t3⟩ := h
  have f : ∀ x y : Int, 3 ≤ x → x ≤ y → y ≤ 5 → Fit 2 M3 (sdv (vx x y)) := fun x y h1 h2 h3 => t3.fit _ (lf_3 (t2.fit _ (lf_2 (t1.fit _ (lf_1 h0 h1 h2 h3)) h1 h2 h3)) h1 h2 h3)
  have f3 := f 3 3 (by omega) (by omega) (by omega)
  have f5 := f 5 5 (by omega) (by omega) (by omega)
  have a0 := f5.2 0 0 (by omega) (by omega)
  have a1 := f3.2 1 1 (by omega) (by omega)
  have a2 := f5.2 2 2 (by omega) (by omega)
  have a3 := f3.2 3 3 (by omega) (by omega)
  rw [u_0] at a0
  rw [u_1] at a1
  rw [u_2] at a2
  rw [u_3] at a3
  have L3 : ∀ a c, a < 4 → c < 4 → M3 a c ≤ M2 a c := fun a c ha hc => Int.le_trans (t3.le a c ha hc) (Int.le_trans (low_le _ _ _ _ _ _) (low_le _ _ _ _ _ _))
  have L2 : ∀ a c, a < 4 → c < 4 → M2 a c ≤ M1 a c := fun a c ha hc => Int.le_trans (t2.le a c ha hc) (Int.le_trans (low_le _ _ _ _ _ _) (low_le _ _ _ _ _ _))
  have b1 : M3 0 3 ≤ 0 := Int.le_trans (L3 0 3 (by omega) (by omega)) (Int.le_trans (L2 0 3 (by omega) (by omega)) (Int.le_trans (t1.le 0 3 (by omega) (by omega)) (low_1 _ _ _ _)))
  have b2 : M3 3 0 ≤ 0 := Int.le_trans (L3 3 0 (by omega) (by omega)) (Int.le_trans (L2 3 0 (by omega) (by omega)) (Int.le_trans (t1.le 3 0 (by omega) (by omega)) (low_2 _ _ _ _)))
  have b3 : M3 2 2 ≤ 10 := Int.le_trans (L3 2 2 (by omega) (by omega)) (Int.le_trans (t2.le 2 2 (by omega) (by omega)) (Int.le_trans (low_le _ _ _ _ _ _) (low_1 _ _ _ _)))
  have b4 : M3 1 1 ≤ -6 := Int.le_trans (t3.le 1 1 (by omega) (by omega)) (low_1 _ _ _ _)
  have c1 : M3 0 0 ≤ M3 0 3 + M3 2 0 := t3.clo 3 (by omega) 0 0 (by omega) (by omega)
  have c2 : M3 2 0 ≤ M3 2 2 + M3 3 0 := t3.clo 2 (by omega) 2 0 (by omega) (by omega)
  have c3 : M3 3 3 ≤ M3 3 0 + M3 1 3 := t3.clo 0 (by omega) 3 3 (by omega) (by omega)
  have c4 : M3 1 3 ≤ M3 1 1 + M3 0 3 := t3.clo 1 (by omega) 1 3 (by omega) (by omega)
  refine ⟨?_, ?_, ?_, ?_⟩ <;> omega
theorem su_3 (a : Nat) : -1099511627776 ≤ sdv (vx 3 3) a ∧ sdv (vx 3 3) a ≤ 1099511627776 := by
  have := sdv_bd (vx_bd (x := 3) (y := 3) (by omega) (by omega) (by omega) (by omega)) a
  omega
set_option maxRecDepth 100000 in
set_option maxHeartbeats 1600000 in
theorem olive (w : World) : Calls Try.prog 12 #[] w fun r w' => r = .returned (.bool true) ∧ Below w.heap.size w w' := by
  have kn := onew 2 (by omega) (by omega) w
  obtain ⟨b, hb⟩ : ∃ b, w.heap.size = b := ⟨_, rfl⟩
  have hb' : Hid (w.heap.size = b) := hb
  rw [hb] at kn ⊢
  clear hb
  have kl : ∀ M0 V, (∀ a c, a < 2 * 2 → c < 2 * 2 → M0 a c = bx a c) → OctAt V b 2 false M0 → Calls Try.prog 30 #[.pointer (some ⟨b, 0, none⟩), .int .i64 0, .bool false, .int .i64 1, .bool true, .int .i64 0] V fun r w' => r = .returned (.int .i64 0) ∧ (∃ M', OctAt w' b 2 false M' ∧ Hid (Tgt 2 (low M0 0 3 0) M')) ∧ Onl b V w' := fun M0 V h0 hV =>
    olimit b 2 (by omega) M0 0 1 (by omega) (by omega) false true 0 (by omega) (by omega) (sdv (vx 3 3)) (lf_1 h0 (by omega) (by omega) (by omega)) su_3 (fun a c ha hc => by rw [h0 a c ha hc]; unfold bx; split <;> omega) V hV
  have ks : ∀ M0 M1 V, (∀ a c, a < 2 * 2 → c < 2 * 2 → M0 a c = bx a c) → Hid (Tgt 2 (low M0 0 3 0) M1) → OctAt V b 2 false M1 → Calls Try.prog 26 #[.pointer (some ⟨b, 0, none⟩), .int .i64 1, .agg #[.bool false, .int .i64 0, .int .i64 5]] V fun r w' => r = .returned (.int .i64 0) ∧ (∃ M', OctAt w' b 2 false M' ∧ Hid (Tgt 2 (low (low M1 2 2 10) 3 3 0) M')) ∧ Onl b V w' := fun M0 M1 V h0 t hV =>
    oset b 2 (by omega) M1 1 (by omega) 0 5 (by omega) (by omega) (by omega) (sdv (vx 3 3)) (lf_2 (t.out.fit _ (lf_1 h0 (by omega) (by omega) (by omega))) (by omega) (by omega) (by omega)) su_3 (fun a c ha hc => Int.le_trans (t.out.le a c ha hc) (Int.le_trans (low_le _ _ _ _ _ _) (by rw [h0 a c ha hc]; unfold bx; split <;> omega))) V hV
  have kt : ∀ M0 M1 M2 V, (∀ a c, a < 2 * 2 → c < 2 * 2 → M0 a c = bx a c) → Hid (Tgt 2 (low M0 0 3 0) M1) → Hid (Tgt 2 (low (low M1 2 2 10) 3 3 0) M2) → OctAt V b 2 false M2 → Calls Try.prog 26 #[.pointer (some ⟨b, 0, none⟩), .int .i64 0, .agg #[.bool false, .int .i64 3, .int .i64 9]] V fun r w' => r = .returned (.int .i64 0) ∧ (∃ M', OctAt w' b 2 false M' ∧ Hid (Tgt 2 (low (low M2 0 0 18) 1 1 (-6)) M')) ∧ Onl b V w' := fun M0 M1 M2 V h0 t t2 hV =>
    oset b 2 (by omega) M2 0 (by omega) 3 9 (by omega) (by omega) (by omega) (sdv (vx 3 3)) (lf_3 (t2.out.fit _ (lf_2 (t.out.fit _ (lf_1 h0 (by omega) (by omega) (by omega))) (by omega) (by omega) (by omega))) (by omega) (by omega) (by omega)) su_3 (fun a c ha hc => Int.le_trans (t2.out.le a c ha hc) (Int.le_trans (low_le _ _ _ _ _ _) (Int.le_trans (low_le _ _ _ _ _ _) (Int.le_trans (t.out.le a c ha hc) (Int.le_trans (low_le _ _ _ _ _ _) (by rw [h0 a c ha hc]; unfold bx; split <;> omega)))))) V hV
  have kr : ∀ M0 M1 M2 M3 V, Hid (Lv M0 M1 M2 M3) → OctAt V b 2 false M3 → ∀ i : Nat, i < 2 → Calls Try.prog 25 #[.pointer (some ⟨b, 0, none⟩), .int .i64 i] V fun r w' => r = .returned (.agg #[.bool false, .int .i64 3, .int .i64 5]) ∧ Below V.heap.size V w' := fun M0 M1 M2 M3 V hl hV i hi => by
    obtain ⟨q0, q1, q2, q3⟩ := lv_all hl.out
    have : i = 0 ∨ i = 1 := by omega
    rcases this with rfl | rfl
    · exact orange b 2 (by omega) M3 0 (by omega) 3 5 (-3) 5 (by show (M3 1 1).tdiv 2 = -3; rw [q1]; rfl) (by show (M3 0 0).tdiv 2 = 5; rw [q0]; rfl) (by decide) (by decide) (by decide) (by show _ ≤ M3 1 1; omega) (by show M3 1 1 ≤ _; omega) (by show _ ≤ M3 0 0; omega) (by show M3 0 0 ≤ _; omega) V hV
    · exact orange b 2 (by omega) M3 1 (by omega) 3 5 (-3) 5 (by show (M3 3 3).tdiv 2 = -3; rw [q3]; rfl) (by show (M3 2 2).tdiv 2 = 5; rw [q2]; rfl) (by decide) (by decide) (by decide) (by show _ ≤ M3 3 3; omega) (by show M3 3 3 ≤ _; omega) (by show _ ≤ M3 2 2; omega) (by show M3 2 2 ≤ _; omega) V hV
  go_enter Try.func12, Try.ntmps12
  go_upto_region 5 with (first
    | (go_at_call 31; refine kn.mono ?_; rintro r w1 ⟨rfl, ⟨M0, hO, hM0⟩, g1⟩; clear kn)
    | (go_at_call 30; refine (kl _ _ hM0 hO).mono ?_; rintro r w2 ⟨rfl, ⟨M1, hO1, t1⟩, c1⟩; clear kl)
    | (go_at_call 26; refine (ks _ _ _ hM0 t1 hO1).mono ?_; rintro r w3 ⟨rfl, ⟨M2, hO2, t2⟩, c2⟩; clear ks)
    | (go_at_call 26; refine (kt _ _ _ _ hM0 t1 t2 hO2).mono ?_; rintro r w4 ⟨rfl, ⟨M3, hO3, t3⟩, c3⟩; clear kt)
    | fail)
  have hL : Hid (Lv M0 M1 M2 M3) := ⟨hM0, t1.out, t2.out, t3.out⟩
  have zb : b ≤ w1.heap.size := Nat.le_of_lt (World.block_lt_of_cell? w1 _ hO.hv)
  have gg : Below b w w4 := below_onl (below_onl (below_onl g1 c1 (Nat.le_refl _) zb) c2 (Nat.le_refl _) (Nat.le_trans zb c1.size)) c3 (Nat.le_refl _) (Nat.le_trans zb (Nat.le_trans c1.size c2.size))
  have z4 : b ≤ w4.heap.size := Nat.le_of_lt (World.block_lt_of_cell? w4 _ hO3.hv)
  have r0 := kr _ _ _ _ _ hL hO3 0 (by omega)
  have r1 := fun V (g : Below w4.heap.size w4 V) => kr _ _ _ _ _ hL (hO3.on g) 1 (by omega)
  clear kr hL t1 t2 t3 c1 c2 c3 g1 hO hO1 hO2 hM0
  go_wp2_with (first
    | (go_at_call 25; refine r0.mono ?_; rintro r w5 ⟨rfl, g5⟩; clear r0)
    | (go_at_call 25; refine (r1 _ g5).mono ?_; rintro r w6 ⟨rfl, g6⟩; clear r1)
    | fail)
  go_ret
  exact ⟨rfl, gg.trans ((g5.mono z4).trans (g6.mono (Nat.le_trans z4 g5.size)))⟩
end Go.Proofs.Ytpcbammncaeimaa

