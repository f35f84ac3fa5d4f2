/- plumblineref05: what the ruler takes for right is so. -/
import Derived.Test.YtknoibocpbfmmaaGreatDoorWPgK
import Derived.Test.YtknoibocpbfmmaaGreatDoorWG24
import Derived.Test.YtknoibocpbfmmaaGreatDoorWG21
import Derived.Test.YtknoibocpbfmmaaGreatDoorWG15
namespace Go.Proofs.YtknoibocpbfmmaaGreatDoor
open Go.RowKit
set_option linter.unusedVariables false
set_option linter.unusedSimpArgs false
theorem right_facts {p : Pg} {cc : Nat × Nat} (hp : ruP p = some cc) : p.1.length ≤ 24 ∧ p.1.all dcOk = true ∧ p.2.wt ≤ 20000000 ∧ p.2.pts ≤ 256 ∧ p.2.ct ≤ 2048 ∧ p.2.ac ≤ 2816 ∧ p.2.cts ∧ p.2.all RsT ∧ Bdk p.2 1 := by
 obtain ⟨h1, h2, _⟩ := ru_parts hp
 have hw := (pg_small hp).1
 unfold ruP at hp
 obtain ⟨_, hp⟩ := oi' hp
 unfold ruK at hp
 obtain ⟨_, hp⟩ := oi' hp
 have e := ruS_pts _ _ _ _ hp
 have b := ruS_wt _ _ _ _ hp
 have b1 := b.2.1 (by show 0 ≤ 256; omega)
 have b2 := b.2.2.2.1 (by show 0 ≤ 2048; omega)
 obtain ⟨c1, c2⟩ := ct_of _ _ _ _ hp
 have a := ac_le p.2 c2
 obtain ⟨r1, r2⟩ := rs_of _ _ _ _ hp (by omega)
 simp only at e c1
 exact ⟨h1, h2, hw, by omega, by omega, by omega, c2, r1, r2 (by omega)⟩
set_option maxRecDepth 100000 in
set_option maxHeartbeats 6400000 in
theorem rRight (p : Pg) (cc : Nat × Nat) (hp : ruP p = some cc) (S : Nat → Prop) (wo xo : Option Addr) (wc xc : Nat) (w : World) (d1 : SlDc w (.slice wo p.1.length wc) p.1) (t1 : SlS w S (.slice xo p.2.len xc) p.2) :
  Calls Tryz.prog 13 #[.agg #[.slice wo p.1.length wc, .slice xo p.2.len xc]] w fun e w' => e = .returned (.bool true) ∧ Below w.heap.size w w' := by
 obtain ⟨z1, z2, z3, z4, z5, z6, z7, z8, z9⟩ := right_facts hp
 have zl := so_len_wt p.2
 have g1 := pb_new (Below.refl w.heap.size w) (.cells #[.slice wo p.1.length wc, .slice xo p.2.len xc] 25)
 obtain ⟨X, hX⟩ : ∃ X, w.alloc (.cells #[.slice wo p.1.length wc, .slice xo p.2.len xc] 25) = X := ⟨_, rfl⟩
 have qX : X.heap[w.heap.size]? = some (.cells #[.slice wo p.1.length wc, .slice xo p.2.len xc] 25 (0, 0)) := by rw [← hX]; exact World.alloc_heap_new _ _
 rw [hX] at g1
 obtain ⟨b2, hb2⟩ : ∃ b, w.heap.size = b := ⟨_, rfl⟩
 rw [hb2] at qX
 have hall : ∀ Y, Below X.heap.size X Y → (Y.cell? ⟨b2, 0, none⟩ = some (.slice wo p.1.length wc) ∧ Y.cell? ⟨b2, 1, none⟩ = some (.slice xo p.2.len xc)) := fun Y g => ⟨pb_cell g (by simp [World.cell?, qX]), pb_cell g (by simp [World.cell?, qX])⟩
 have D1 := d1.bel g1
 have T1 := t1.kp (Below.kp g1 _)
 have kZ : ∀ V, Below X.heap.size X V → Calls Tryz.prog 23 #[.slice xo p.2.len xc, .int .i64 256] V fun r w' => r = .returned (.int .i64 (p.2.pts : Int)) ∧ Below V.heap.size V w' := fun V g => szS p.2 (sz_of p.2 (by omega)) (by omega) 256 S xo xc V (by omega) (by omega) (T1.kp (Below.kp g _))
 have kA : ∀ V, Below X.heap.size X V → Calls Tryz.prog 24 #[.slice xo p.2.len xc, .int .i64 2816] V fun r w' => r = .returned (.int .i64 (p.2.ac : Int)) ∧ Below V.heap.size V w' := fun V g => saS p.2 (sa_of p.2 (by omega)) (by omega) 2816 S xo xc V (by omega) (by omega) (T1.kp (Below.kp g _))
 have kC : ∀ V, Below X.heap.size X V → Calls Tryz.prog 26 #[.slice xo p.2.len xc] V fun r w' => r = .returned (.int .i64 (p.2.ct : Int)) ∧ Below V.heap.size V w' := fun V g => scS p.2 (sc_of p.2 z7 (by omega)) (by omega) S xo xc V (by omega) (T1.kp (Below.kp g _))
 have kB : ∀ V, Below X.heap.size X V → Calls Tryz.prog 27 #[.slice xo p.2.len xc, .int .i64 1] V fun r w' => r = .returned (.bool true) ∧ Below V.heap.size V w' := fun V g => rbB p.2 z8 (by omega) 1 (by omega) z9 S xo xc V (T1.kp (Below.kp g _))
 obtain ⟨pp, qq, e1, hD0⟩ := D1
 obtain ⟨rfl, _, rfl⟩ := Value.slice.inj e1
 clear e1
 obtain ⟨m, hm⟩ : ∃ m, p.1.length = m := ⟨_, rfl⟩
 have hm' : Hid (p.1.length = m) := hm
 have hD : Hid (p.1 = [] ∨ ∃ c u, wo = some ⟨c, u, none⟩ ∧ ∀ j d, p.1[j]? = some d → X.cell? ⟨c, u + j * 3, none⟩ = some (.string d.1) ∧ X.cell? ⟨c, u + j * 3 + 1, none⟩ = some (.int .i64 d.2.1) ∧ X.cell? ⟨c, u + j * 3 + 2, none⟩ = some (.int .i64 d.2.2)) := hD0
 have hd' : Hid (p.1.all dcOk = true) := z2
 rw [hm] at hall hX z1
 rw [hm]
 have hl' : Hid (m ≤ 24) := z1
 have n1 : ¬ (24 : Int) < (m : Int) := by omega
 have n2 : ¬ (256 : Int) < (p.2.pts : Int) := by omega
 have n3 : ¬ (2816 : Int) < (p.2.ac : Int) := by omega
 have n4 : (p.2.ct : Int) ≤ 2048 := by omega
 have gX : Hid (Below w.heap.size w X) := g1
 have hX' : Hid (w.alloc (.cells #[.slice wo m wc, .slice xo p.2.len xc] 25) = X) := hX
 have hb2' : Hid (w.heap.size = b2) := hb2
 clear hX hb2 qX g1 d1 t1 T1 hD0 z1 z2 z3 z4 z5 z6 z7 z8 z9 zl hm
 generalize p.2.len = n at *
 generalize p.2.pts = np at *
 generalize p.2.ac = na at *
 generalize p.2.ct = nc at *
 have gg := Below.refl X.heap.size X
 obtain ⟨f0, f1⟩ := hall _ gg
 go_enter Tryz.func13, Tryz.ntmps13
 go_upto_region 1 with fail
 rw [hX'.out]
 (try rw [hb2'.out])
 clear hX' hb2'
 go_upto_region 4 with (first
  | (go_at_call 23; (refine (kZ _ gg).mono ?_; clear kZ); rintro e v1 ⟨rfl, g3⟩; replace gg := pb_call gg g3; clear f0 f1 g3; obtain ⟨f0, f1⟩ := hall _ gg)
  | (go_at_call 24; (refine (kA _ gg).mono ?_; clear kA); rintro e v1 ⟨rfl, g3⟩; replace gg := pb_call gg g3; clear f0 f1 g3; obtain ⟨f0, f1⟩ := hall _ gg)
  | fail)
 obtain ⟨Z, hZ⟩ : ∃ Z, Z = wc := ⟨_, rfl⟩
 clear hZ Z
 go_loopw [3] (fun i wr => ∃ (j : Nat) (V : World), i = .int .i64 j ∧ V = wr ∧ Hid (Below X.heap.size X V) ∧ j ≤ m) (fun i _ => m - (intOf i).toNat)
 case atStart => exact ⟨0, _, rfl, rfl, gg, by omega⟩
 case round =>
  clear f0 f1 gg n1 n2 n3
  obtain ⟨j, V, rfl, e, gV, hj⟩ := hrel
  subst e
  obtain ⟨f0, f1⟩ := hall _ gV.out
  by_cases cj : j < m
  ·have cj' : (j : Int) < (m : Int) := by omega
   obtain ⟨d, hdj⟩ : ∃ d, p.1[j]? = some d := ⟨_, List.getElem?_eq_getElem (by rw [hm'.out]; exact cj)⟩
   rcases hD.out with h0 | ⟨c, u, rfl, hc⟩
   ·exfalso; have := hm'.out; rw [h0] at this; simp at this; omega
   obtain ⟨y0, y1, y2⟩ := hc j d hdj
   have k0 := pb_cell gV.out y0
   have k1 := pb_cell gV.out y1
   have k2 := pb_cell gV.out y2
   have dok := (List.all_eq_true.1 hd'.out) d (List.mem_of_getElem? hdj)
   obtain ⟨dn, dt, dl⟩ := dc_all dok
   rw [← toL] at dn
   have kN := fun V => rIsName_any d.1 V
   rw [dn] at kN
   have ix := dc_ix c u m wc j cj
   have cV : c < V.heap.size := World.block_lt_of_cell? V _ k0
   have m40 := hl'.out
   have wj : IntKind.i64.wrap ((j : Int) + 1) = ((j + 1 : Nat) : Int) := by rw [IntKind.wrap_i64]; omega
   obtain ⟨dN, dT, dL⟩ := d
   simp only at k0 k1 k2 dt dl kN
   have x1 : ¬ dT < 1 := by omega
   have x2 : ¬ 3 < dT := by omega
   have x3 : ¬ dL < 0 := by omega
   have x4 : ¬ 64 < dL := by omega
   generalize u + j * 3 = o3 at *
   clear y0 y1 y2 hc hdj dok dt dn dl m40 kC kB
   go_upto_region 7 with fail
   have gD := pb_new (Below.refl V.heap.size V) (.cells #[.string dN, .int .i64 dT, .int .i64 dL] 53)
   have qD := World.alloc_heap_new V (.cells #[.string dN, .int .i64 dT, .int .i64 dL] 53)
   obtain ⟨D, hD9⟩ : ∃ X, V.alloc (.cells #[.string dN, .int .i64 dT, .int .i64 dL] 53) = X := ⟨_, rfl⟩
   obtain ⟨bd, hbd⟩ : ∃ B, V.heap.size = B := ⟨_, rfl⟩
   rw [hD9] at gD qD ⊢
   rw [hbd] at qD
   (try rw [hbd])
   have r0 : D.cell? ⟨bd, 0, none⟩ = some (.string dN) := by simp [World.cell?, qD]
   have r1 : D.cell? ⟨bd, 1, none⟩ = some (.int .i64 dT) := by simp [World.cell?, qD]
   have r2 : D.cell? ⟨bd, 2, none⟩ = some (.int .i64 dL) := by simp [World.cell?, qD]
   clear hD9 hbd qD k0 k1 k2 cV ix f0 f1
   go_wp2_with (first
    | (go_at_call 25; (refine (kN _).mono ?_); rintro e v4 ⟨rfl, g5⟩; replace r1 := pb_cell g5 r1; replace r2 := pb_cell g5 r2)
    | fail)
   exact ⟨⟨j + 1, v4, by go_num, rfl, pb_call gV.out (pb_call gD g5), by omega⟩, by simp [intOf]; omega⟩
  ·obtain rfl : j = m := by omega
   have nn : ¬ ((j : Int) < (j : Int)) := by omega
   have gg := gV.out
   go_wp2_with (first
    | (go_at_call 26; (refine (kC _ gg).mono ?_; clear kC); rintro e v1 ⟨rfl, g3⟩; replace gg := pb_call gg g3; clear f0 f1 g3; obtain ⟨f0, f1⟩ := hall _ gg)
    | (go_at_call 27; (refine (kB _ gg).mono ?_; clear kB); rintro e v1 ⟨rfl, g3⟩; replace gg := pb_call gg g3)
    | fail)
   go_ret
   exact ⟨rfl, pb_call gX.out gg⟩
end Go.Proofs.YtknoibocpbfmmaaGreatDoor



