/- plumblineref05: how many statements. -/
import Derived.Test.YtknoibocpbfmmaaGreatDoorPgD
import Derived.Test.YtknoibocpbfmmaaGreatDoorPeM
namespace Go.Proofs.YtknoibocpbfmmaaGreatDoor
open Go.RowKit
set_option linter.unusedVariables false
set_option linter.unusedSimpArgs false
def SzB (f : So) : Prop := ∀ (most : Nat) (S : Nat → Prop) (pp : Option Addr) (qq : Nat) (w : World), f.pts ≤ most → most ≤ 1099511627776 → SlS w S (.slice pp f.len qq) f →
  Calls Tryz.prog 23 #[.slice pp f.len qq, .int .i64 (most : Int)] w fun r w' => r = .returned (.int .i64 ((f.pts : Nat) : Int)) ∧ Below w.heap.size w w'
theorem So.row_pts (s : St) (r : So) : (s.row r).pts = s.thn.pts + s.els.pts + r.pts + 1 := rfl
set_option maxRecDepth 100000 in
set_option maxHeartbeats 3200000 in
theorem szS (f : So) (hA : f.all (fun s => SzB s.thn ∧ SzB s.els)) (hz : f.len ≤ 1099511627776) : SzB f := by
  intro most S pp qq w hm hM hT
  obtain ⟨C, hC⟩ : ∃ C, f.pts = C := ⟨_, rfl⟩
  rw [hC] at hm ⊢
  obtain ⟨m, hm0⟩ : ∃ m, f.len = m := ⟨_, rfl⟩
  rw [hm0] at hT hz ⊢
  have hm' : Hid (f.len = m) := hm0
  have hA' : Hid (f.all (fun s => SzB s.thn ∧ SzB s.els)) := hA
  have hT' : Hid (SlS w S (.slice pp m qq) f) := hT
  have hm40 : Hid (m ≤ 1099511627776 ∧ C ≤ most ∧ most ≤ 1099511627776) := ⟨hz, hm, hM⟩
  have hI : Hid (0 + (f.drop 0).pts = C) := by show 0 + f.pts = C; rw [Nat.zero_add]; exact hC
  clear hm0 hA hT hz hm hM hC
  go_enter Tryz.func23, Tryz.ntmps23
  go_upto_region 3 with fail
  go_loopw [6, 5] (fun i n wr => ∃ (j a : Nat) (V : World), i = .int .i64 j ∧ n = .int .i64 (a : Int) ∧ V = wr ∧ Hid (Below w.heap.size w V) ∧ Hid (a + (f.drop j).pts = C) ∧ j ≤ m) (fun i _ _ => m - (intOf i).toNat)
  case atStart => exact ⟨0, 0, w, rfl, rfl, rfl, Below.refl _ _, hI, by omega⟩
  case round =>
    clear hI
    obtain ⟨j, a, V, rfl, rfl, e, gV, hI, hj⟩ := hrel
    subst e
    have hq := hI.out
    have b40 := hm40.out
    have ha : (a : Int) ≤ (most : Int) := by omega
    by_cases cj : j < m
    · have cj' : (j : Int) < (m : Int) := by omega
      obtain ⟨s, hf⟩ := So.drop_at (f := f) (j := j) (by rw [hm'.out]; exact cj)
      have hal := So.all_drop j hA'.out
      rw [hf] at hal hq
      rw [So.row_pts] at hq
      have hTT := hT'.out.kp (Below.kp gV.out _)
      obtain ⟨p2', q2', e2, hT⟩ := hTT
      obtain ⟨rfl, e4, rfl⟩ := Value.slice.inj e2
      clear e2 e4
      rcases hT with hT | ⟨c, u, rfl, hT⟩
      · exfalso; have := hm'.out; rw [hT] at this; simp [So.len] at this; omega
      have hTj := SoAt.drop j hT
      rw [hf] at hTj
      obtain ⟨lc, p0, q0, p1, q1, p2, q2, p3, q3, p4, q4, p5, q5, sT, k0, k1, k2, k3, k4, k5, k6, k7, k8, k9, k10, k11, k12, k13, k14, k15, k16⟩ := hTj.cells
      obtain ⟨t0, t1, t2, t3, t4, t5⟩ := sT
      obtain ⟨r, hr⟩ : ∃ r, most = a + 1 + r := ⟨most - (a + 1), by omega⟩
      obtain ⟨r', hr'⟩ : ∃ r', r = s.thn.pts + r' := ⟨r - s.thn.pts, by omega⟩
      have kA := (show SzB s.thn from hal.1.1) r S p4 q4 V (by omega) (by omega) t4
      have kB := fun V' (g : Below V.heap.size V V') => (show SzB s.els from hal.1.2) r' S p5 q5 V' (by omega) (by omega) (t5.kp (Below.kp g _))
      have ix := so_ix c u m qq j cj
      have wj : IntKind.i64.wrap ((j : Int) + 1) = ((j + 1 : Nat) : Int) := by rw [IntKind.wrap_i64]; omega
      have wa : IntKind.i64.wrap ((a : Int) + 1) = (a : Int) + 1 := by rw [IntKind.wrap_i64]; omega
      have h1 : (a : Int) + 1 ≤ (most : Int) := by omega
      have wr : IntKind.i64.wrap ((most : Int) - ((a : Int) + 1)) = (r : Int) := by rw [IntKind.wrap_i64]; omega
      have wk : IntKind.i64.wrap ((a : Int) + 1 + ((s.thn.pts : Nat) : Int)) = (a : Int) + 1 + ((s.thn.pts : Nat) : Int) := by rw [IntKind.wrap_i64]; omega
      have h2 : (a : Int) + 1 + ((s.thn.pts : Nat) : Int) ≤ (most : Int) := by omega
      have wr2 : IntKind.i64.wrap ((most : Int) - ((a : Int) + 1 + ((s.thn.pts : Nat) : Int))) = (r' : Int) := by rw [IntKind.wrap_i64]; omega
      have wk2 : IntKind.i64.wrap ((a : Int) + 1 + ((s.thn.pts : Nat) : Int) + ((s.els.pts : Nat) : Int)) = ((a + 1 + s.thn.pts + s.els.pts : Nat) : Int) := by rw [IntKind.wrap_i64]; omega
      have hI2 : Hid (a + 1 + s.thn.pts + s.els.pts + (f.drop (j + 1)).pts = C) := by show _ = _; omega
      clear hTj hT lc hal hf hq hI b40 hr hr' t0 t1 t2 t3 t4 t5 k0 k1 k2 k3 k4 k5 k6 k7 k8 k9 k10 k11 k12 k13 k14
      generalize s.thn.len = n4 at *
      generalize s.els.len = n5 at *
      generalize s.thn.pts = nt at *
      generalize s.els.pts = ne at *
      generalize u + j * 17 = o at *
      go_wp2_with (first
        | (go_at_call 23; (first | (refine kA.mono ?_; clear kA; rintro e v1 ⟨rfl, g3⟩; replace k15 := pb_cell g3 k15; replace k16 := pb_cell g3 k16) | (refine (kB _ g3).mono ?_; clear kB; rintro e v2 ⟨rfl, g4⟩)))
        | fail)
      refine ⟨⟨j + 1, a + 1 + nt + ne, v2, by go_num, by first | rfl | go_num, rfl, pb_call gV.out (pb_call g3 g4), hI2, by omega⟩, by simp [intOf]; omega⟩
    · obtain rfl : j = m := by omega
      have nn : ¬ ((j : Int) < (j : Int)) := by omega
      rw [← hm'.out, So.drop_end] at hq
      obtain rfl : a = C := by rw [← hq]; rfl
      have g' := gV.out
      clear hI hq
      go_wp2_with fail
      go_ret
      exact ⟨rfl, g'⟩
theorem sz_of : ∀ f : So, f.wt ≤ 1099511627776 → f.all (fun s => SzB s.thn ∧ SzB s.els)
  | .nil, _ => trivial
  | .cons d nm ix v l h t e r, hw => by
    have w1 : nm.size + ix.wt + (v.row .nil).wt + (l.row .nil).wt + (h.row .nil).wt + t.wt + e.wt + r.wt + 1 ≤ 1099511627776 := hw
    have a := so_len_wt t
    have b := so_len_wt e
    exact ⟨⟨szS t (sz_of t (by omega)) (by omega), szS e (sz_of e (by omega)) (by omega)⟩, sz_of r (by omega)⟩
end Go.Proofs.YtknoibocpbfmmaaGreatDoor

