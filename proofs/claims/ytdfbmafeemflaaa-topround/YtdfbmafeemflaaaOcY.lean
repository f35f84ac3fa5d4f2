/- TopRound: the walk. -/
import Derived.Test.YtdfbmafeemflaaaOcX
namespace Go.Proofs.Ytdfbmafeemflaaa
open Go.RowKit
set_option linter.unusedVariables false
set_option linter.unusedSimpArgs false
theorem round_end {w V0 w1 w2 w3 w4 w5 w6 w7 w8 : World} (g0 : Below w.heap.size w V0) (g1 : Below V0.heap.size V0 w1) (c2 : Onl V0.heap.size w1 w2) (c3 : Onl V0.heap.size w2 w3) (g4 : Below w3.heap.size w3 w4) (c5 : Onl V0.heap.size w4 w5) (c6 : Onl V0.heap.size w5 w6) (g7 : Below w6.heap.size w6 w7) (g8 : Below w7.heap.size w7 w8) : Below w.heap.size w w8 := by
  have z0 := g0.size
  have z1 := Nat.le_trans z0 g1.size
  have z2 := Nat.le_trans z1 c2.size
  have z3 := Nat.le_trans z2 c3.size
  have z4 := Nat.le_trans z3 g4.size
  have z5 := Nat.le_trans z4 c5.size
  have z6 := Nat.le_trans z5 c6.size
  have z7 := Nat.le_trans z6 g7.size
  have b1 := g0.trans (g1.mono z0)
  have b3 := below_onl3 (below_onl3 b1 c2 z0 z1) c3 z0 z2
  have b4 := b3.trans (g4.mono z3)
  have b6 := below_onl3 (below_onl3 b4 c5 z0 z4) c6 z0 z5
  exact (b6.trans (g7.mono z6)).trans (g8.mono z7)
set_option maxRecDepth 100000 in
set_option maxHeartbeats 3200000 in
theorem round_walk (A : Array Value) (z0 z1 : Int) (hA0 : A[0]? = some (.int .i16 z0)) (hA1 : A[1]? = some (.int .i16 z1)) (b0 : -32768 ≤ z0 ∧ z0 ≤ 32767) (b1 : -32768 ≤ z1 ∧ z1 ≤ 32767) (g : Bool) (c : Int) (c1 : -2147483648 ≤ c) (c2 : c ≤ 2147483647) (w : World) :
    Calls Try.prog 5 #[.agg A, .int .i32 c, .bool g] w fun e w' => e = .returned (.bool true) ∧ Below w.heap.size w w' := by
  have a0 : (w.alloc (.cells A 47)).cell? ⟨w.heap.size, 0, none⟩ = some (.int .i16 z0) := by
    have : (w.alloc (.cells A 47)).cell? ⟨w.heap.size, 0, none⟩ = A[0]? := by simp [go_sem]
    rw [this, hA0]
  have a1 : (w.alloc (.cells A 47)).cell? ⟨w.heap.size, 1, none⟩ = some (.int .i16 z1) := by
    have : (w.alloc (.cells A 47)).cell? ⟨w.heap.size, 1, none⟩ = A[1]? := by simp [go_sem]
    rw [this, hA1]
  have g0 : Below w.heap.size w (w.alloc (.cells A 47)) := (Below.refl _ _).alloc (Nat.le_refl _) _
  have x0 : ∀ V : World, (Instr.indexAt 47 (.pointer (some ⟨w.heap.size, 0, none⟩)) (.int .i64 0)).run Try.prog V = .ok (.pointer (some ⟨w.heap.size, 0, none⟩)) V := oir w.heap.size 0 (by omega)
  have x1 : ∀ V : World, (Instr.indexAt 47 (.pointer (some ⟨w.heap.size, 0, none⟩)) (.int .i64 1)).run Try.prog V = .ok (.pointer (some ⟨w.heap.size, 1, none⟩)) V := oir w.heap.size 1 (by omega)
  have wc : IntKind.i64.wrap c = c := by rw [IntKind.wrap_i64]; omega
  have wn : IntKind.i64.wrap (-c) = -c := by rw [IntKind.wrap_i64]; omega
  have wz0 : IntKind.i64.wrap z0 = z0 := by rw [IntKind.wrap_i64]; omega
  have wz1 : IntKind.i64.wrap z1 = z1 := by rw [IntKind.wrap_i64]; omega
  have kn := fun V => onew 2 (by omega) (by omega) V
  have K : ∀ b lo hh, -32768 ≤ lo → lo ≤ hh → hh ≤ 32767 → Calls5 b lo hh g c := fun b lo hh h1 h2 h3 => calls5 b h1 h2 h3 g c1 c2
  obtain ⟨W, hW⟩ : ∃ W, w.alloc (.cells A 47) = W := ⟨_, rfl⟩
  have hb : W.heap.size = w.heap.size + 1 := by rw [← hW]; simp
  rw [hW] at a0 a1 g0
  go_enter Try.func5, Try.ntmps5
  go_upto_region 1 with fail
  (try rw [hW])
  clear hW hA0 hA1
  have HB : Hid (W.heap.size = w.heap.size + 1) := hb
  clear hb
  go_quiet (fail)
  replace g0 : Below w.heap.size w (W.drewN nq) := ⟨g0.os, g0.tape, g0.output, g0.size, g0.block⟩
  clear a0 a1 x0 x1 HB
  generalize W.drewN nq = V0 at *
  by_cases hs : z1 < z0
  · cases g
    · have k5 := K V0.heap.size z1 z0 (by omega) (by omega) (by omega)
      obtain ⟨ks, kl, k1, k2⟩ := k5
      have ek : bk false c = -c := rfl
      rw [ek] at k2
      clear ek K
      go_wp2_with (first
        | (go_at_call 6; refine (kn _).mono ?_; rintro r w1 ⟨rfl, ⟨M0, hO, hM0⟩, g1⟩; clear kn)
        | (go_at_call 17; refine (ks _ _ hM0 hO).mono ?_; rintro r w2 ⟨rfl, ⟨M1, hO1, t1⟩, c2⟩; clear ks)
        | (go_at_call 15; refine (kl _ _ _ hM0 t1 hO1).mono ?_; rintro r w3 ⟨rfl, ⟨M2, hO2, rd⟩, c3⟩; clear kl hM0 t1)
        | (go_at_call 10; refine (ofork _ _ _ _ _ hO2).mono ?_; rintro r w4 ⟨rfl, hP, g4⟩; have hO4 := hO2.on g4)
        | (go_at_call 20; refine (k1 _ _ rd hO4).mono ?_; rintro r w5 ⟨rfl, ⟨M3, hO5, a3⟩, c5⟩; clear k1)
        | (go_at_call 20; refine (k2 _ _ _ rd a3 hO5).mono ?_; rintro r w6 ⟨rfl, ⟨M4, hO6, a4⟩, c6⟩; clear k2; have nb : w3.heap.size ≠ V0.heap.size := (by have := World.block_lt_of_cell? w3 _ hO2.hv; have : V0.heap.size < w3.heap.size := this; omega); have hP6 := (hP.onl c5 nb).onl c6 nb; have i1 := owithin V0.heap.size w3.heap.size 2 4 rfl (by omega) M4 M2 (fun a d ha hd => Int.le_of_eq (a4 a d ha hd)) w6 hO6 hP6; have i2 := fun V (q : Below w6.heap.size w6 V) => owithin w3.heap.size V0.heap.size 2 4 rfl (by omega) M2 M4 (fun a d ha hd => Int.le_of_eq (a4 a d ha hd).symm) V (hP6.on q) (hO6.on q))
        | (go_at_call 21; refine i1.mono ?_; rintro r w7 ⟨rfl, g7⟩; clear i1)
        | (go_at_call 21; refine (i2 _ g7).mono ?_; rintro r w8 ⟨rfl, g8⟩; clear i2)
        | fail)
      go_ret
      exact ⟨rfl, round_end g0 g1 c2 c3 g4 c5 c6 g7 g8⟩
    · have k5 := K V0.heap.size z1 z0 (by omega) (by omega) (by omega)
      obtain ⟨ks, kl, k1, k2⟩ := k5
      have ek : bk true c = c := rfl
      rw [ek] at k2
      clear ek K
      go_wp2_with (first
        | (go_at_call 6; refine (kn _).mono ?_; rintro r w1 ⟨rfl, ⟨M0, hO, hM0⟩, g1⟩; clear kn)
        | (go_at_call 17; refine (ks _ _ hM0 hO).mono ?_; rintro r w2 ⟨rfl, ⟨M1, hO1, t1⟩, c2⟩; clear ks)
        | (go_at_call 15; refine (kl _ _ _ hM0 t1 hO1).mono ?_; rintro r w3 ⟨rfl, ⟨M2, hO2, rd⟩, c3⟩; clear kl hM0 t1)
        | (go_at_call 10; refine (ofork _ _ _ _ _ hO2).mono ?_; rintro r w4 ⟨rfl, hP, g4⟩; have hO4 := hO2.on g4)
        | (go_at_call 20; refine (k1 _ _ rd hO4).mono ?_; rintro r w5 ⟨rfl, ⟨M3, hO5, a3⟩, c5⟩; clear k1)
        | (go_at_call 20; refine (k2 _ _ _ rd a3 hO5).mono ?_; rintro r w6 ⟨rfl, ⟨M4, hO6, a4⟩, c6⟩; clear k2; have nb : w3.heap.size ≠ V0.heap.size := (by have := World.block_lt_of_cell? w3 _ hO2.hv; have : V0.heap.size < w3.heap.size := this; omega); have hP6 := (hP.onl c5 nb).onl c6 nb; have i1 := owithin V0.heap.size w3.heap.size 2 4 rfl (by omega) M4 M2 (fun a d ha hd => Int.le_of_eq (a4 a d ha hd)) w6 hO6 hP6; have i2 := fun V (q : Below w6.heap.size w6 V) => owithin w3.heap.size V0.heap.size 2 4 rfl (by omega) M2 M4 (fun a d ha hd => Int.le_of_eq (a4 a d ha hd).symm) V (hP6.on q) (hO6.on q))
        | (go_at_call 21; refine i1.mono ?_; rintro r w7 ⟨rfl, g7⟩; clear i1)
        | (go_at_call 21; refine (i2 _ g7).mono ?_; rintro r w8 ⟨rfl, g8⟩; clear i2)
        | fail)
      go_ret
      exact ⟨rfl, round_end g0 g1 c2 c3 g4 c5 c6 g7 g8⟩
  · cases g
    · have k5 := K V0.heap.size z0 z1 (by omega) (by omega) (by omega)
      obtain ⟨ks, kl, k1, k2⟩ := k5
      have ek : bk false c = -c := rfl
      rw [ek] at k2
      clear ek K
      go_wp2_with (first
        | (go_at_call 6; refine (kn _).mono ?_; rintro r w1 ⟨rfl, ⟨M0, hO, hM0⟩, g1⟩; clear kn)
        | (go_at_call 17; refine (ks _ _ hM0 hO).mono ?_; rintro r w2 ⟨rfl, ⟨M1, hO1, t1⟩, c2⟩; clear ks)
        | (go_at_call 15; refine (kl _ _ _ hM0 t1 hO1).mono ?_; rintro r w3 ⟨rfl, ⟨M2, hO2, rd⟩, c3⟩; clear kl hM0 t1)
        | (go_at_call 10; refine (ofork _ _ _ _ _ hO2).mono ?_; rintro r w4 ⟨rfl, hP, g4⟩; have hO4 := hO2.on g4)
        | (go_at_call 20; refine (k1 _ _ rd hO4).mono ?_; rintro r w5 ⟨rfl, ⟨M3, hO5, a3⟩, c5⟩; clear k1)
        | (go_at_call 20; refine (k2 _ _ _ rd a3 hO5).mono ?_; rintro r w6 ⟨rfl, ⟨M4, hO6, a4⟩, c6⟩; clear k2; have nb : w3.heap.size ≠ V0.heap.size := (by have := World.block_lt_of_cell? w3 _ hO2.hv; have : V0.heap.size < w3.heap.size := this; omega); have hP6 := (hP.onl c5 nb).onl c6 nb; have i1 := owithin V0.heap.size w3.heap.size 2 4 rfl (by omega) M4 M2 (fun a d ha hd => Int.le_of_eq (a4 a d ha hd)) w6 hO6 hP6; have i2 := fun V (q : Below w6.heap.size w6 V) => owithin w3.heap.size V0.heap.size 2 4 rfl (by omega) M2 M4 (fun a d ha hd => Int.le_of_eq (a4 a d ha hd).symm) V (hP6.on q) (hO6.on q))
        | (go_at_call 21; refine i1.mono ?_; rintro r w7 ⟨rfl, g7⟩; clear i1)
        | (go_at_call 21; refine (i2 _ g7).mono ?_; rintro r w8 ⟨rfl, g8⟩; clear i2)
        | fail)
      go_ret
      exact ⟨rfl, round_end g0 g1 c2 c3 g4 c5 c6 g7 g8⟩
    · have k5 := K V0.heap.size z0 z1 (by omega) (by omega) (by omega)
      obtain ⟨ks, kl, k1, k2⟩ := k5
      have ek : bk true c = c := rfl
      rw [ek] at k2
      clear ek K
      go_wp2_with (first
        | (go_at_call 6; refine (kn _).mono ?_; rintro r w1 ⟨rfl, ⟨M0, hO, hM0⟩, g1⟩; clear kn)
        | (go_at_call 17; refine (ks _ _ hM0 hO).mono ?_; rintro r w2 ⟨rfl, ⟨M1, hO1, t1⟩, c2⟩; clear ks)
        | (go_at_call 15; refine (kl _ _ _ hM0 t1 hO1).mono ?_; rintro r w3 ⟨rfl, ⟨M2, hO2, rd⟩, c3⟩; clear kl hM0 t1)
        | (go_at_call 10; refine (ofork _ _ _ _ _ hO2).mono ?_; rintro r w4 ⟨rfl, hP, g4⟩; have hO4 := hO2.on g4)
        | (go_at_call 20; refine (k1 _ _ rd hO4).mono ?_; rintro r w5 ⟨rfl, ⟨M3, hO5, a3⟩, c5⟩; clear k1)
        | (go_at_call 20; refine (k2 _ _ _ rd a3 hO5).mono ?_; rintro r w6 ⟨rfl, ⟨M4, hO6, a4⟩, c6⟩; clear k2; have nb : w3.heap.size ≠ V0.heap.size := (by have := World.block_lt_of_cell? w3 _ hO2.hv; have : V0.heap.size < w3.heap.size := this; omega); have hP6 := (hP.onl c5 nb).onl c6 nb; have i1 := owithin V0.heap.size w3.heap.size 2 4 rfl (by omega) M4 M2 (fun a d ha hd => Int.le_of_eq (a4 a d ha hd)) w6 hO6 hP6; have i2 := fun V (q : Below w6.heap.size w6 V) => owithin w3.heap.size V0.heap.size 2 4 rfl (by omega) M2 M4 (fun a d ha hd => Int.le_of_eq (a4 a d ha hd).symm) V (hP6.on q) (hO6.on q))
        | (go_at_call 21; refine i1.mono ?_; rintro r w7 ⟨rfl, g7⟩; clear i1)
        | (go_at_call 21; refine (i2 _ g7).mono ?_; rintro r w8 ⟨rfl, g8⟩; clear i2)
        | fail)
      go_ret
      exact ⟨rfl, round_end g0 g1 c2 c3 g4 c5 c6 g7 g8⟩
theorem law_round (A : Array Value) (z : Nat → Int) (hz : ∀ j, j < 2 → -32768 ≤ z j ∧ z j ≤ 32767) (hR : ∀ j, j < 2 → A[j]? = some (.int .i16 (z j))) (c : Int) (hc : -2147483648 ≤ c ∧ c ≤ 2147483647) (g : Bool) (w : World) :
    Calls Try.prog 5 #[.agg A, .int .i32 c, .bool g] w fun e w' => e = .returned (.bool true) ∧ Below w.heap.size w w' :=
  round_walk A (z 0) (z 1) (hR 0 (by omega)) (hR 1 (by omega)) (hz 0 (by omega)) (hz 1 (by omega)) g c hc.1 hc.2 w
end Go.Proofs.Ytdfbmafeemflaaa

