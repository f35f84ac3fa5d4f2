/- A ruler: a program. -/
import Derived.Test.YtknoibocpbfmmaaGreatDoorPbM
import Derived.Test.YtknoibocpbfmmaaGreatDoorPaE
namespace Go.Proofs.YtknoibocpbfmmaaGreatDoor
open Go.RowKit
set_option linter.unusedVariables false
set_option linter.unusedSimpArgs false
theorem pb_cell {W V : World} {a : Addr} {v : Value} (g : Below W.heap.size W V) (h : W.cell? a = some v) : V.cell? a = some v := (World.cell?_of_block (w := W) (w' := V) (a := a) (g.block a.block (World.block_lt_of_cell? W a h))).trans h
/-- Declarations in memory. -/
def SlDc (V : World) (v : Value) (ds : List Dc) : Prop := ∃ (p : Option Addr) (q : Nat), v = .slice p ds.length q ∧ (ds = [] ∨ ∃ c u, p = some ⟨c, u, none⟩ ∧ ∀ j d, ds[j]? = some d → V.cell? ⟨c, u + j * 3, none⟩ = some (.string d.1) ∧ V.cell? ⟨c, u + j * 3 + 1, none⟩ = some (.int .i64 d.2.1) ∧ V.cell? ⟨c, u + j * 3 + 2, none⟩ = some (.int .i64 d.2.2))
set_option maxRecDepth 100000 in
theorem dc_ix (c u n q j : Nat) (h : j < n) (w : World) : (Instr.indexAt 22 (.slice (some ⟨c, u, none⟩) n q) (.int .i64 j)).run Tryz.prog w = .ok (.pointer (some ⟨c, u + j * 3, none⟩)) w := by
  have e2 : ∀ w, (sizeOf (Tryz.prog.elem 22)).run Tryz.prog w = .ok 3 w := fun w => by kernel_rfl
  rw [run_indexAt_slice (h := by first | exact Tryz.underlying22 | rfl), if_pos ⟨by omega, by omega⟩, e2]
  simp [go_sem]
theorem wd_ok {t : Int} (h : 1 ≤ t ∧ t ≤ 3) : (wdOf t).toList.isEmpty = false := by
  rcases (show t = 1 ∨ t = 2 ∨ t = 3 by omega) with rfl | rfl | rfl <;> decide +kernel
theorem wd_no {t : Int} (h : ¬ (1 ≤ t ∧ t ≤ 3)) : wdOf t = ⟨#[]⟩ := by
  unfold wdOf
  rw [if_neg (by omega), if_neg (by omega), if_neg (by omega)]
set_option maxRecDepth 100000 in
set_option maxHeartbeats 3200000 in
theorem pprog (ds : List Dc) (f : So) (S : Nat → Prop) (dv bv : Value) (b : Nat) (w : World) (hO : OpsAt w) (hG : b ≠ 0) (hS : ¬ S b) (hD : SlDc w dv ds) (hT : SlS w S bv f) (hR : RuAt w b (0, 0)) (hz : ∀ d ∈ ds, d.1.size ≤ 9223372036854775807) (hf : f.szs) :
    Calls Tryz.prog 51 #[.pointer (some ⟨b, 0, none⟩), .agg #[dv, bv]] w fun e w' => RuR (ruP (ds, f)) b w e w' := by
  obtain ⟨R, hQ⟩ : ∃ R, ruP (ds, f) = R := ⟨_, rfl⟩
  rw [hQ]
  unfold ruP at hQ
  simp only at hQ
  obtain ⟨p, q, rfl, hD⟩ := hD
  obtain ⟨pb, qb, rfl, hT0⟩ := hT
  have hT : Hid (SlS w S (.slice pb f.len qb) f) := ⟨pb, qb, rfl, hT0⟩
  have hO' : Hid (OpsAt w) := hO
  have hR' : Hid (RuAt w b (0, 0)) := hR
  have hD' : Hid (ds = [] ∨ ∃ c u, p = some ⟨c, u, none⟩ ∧ ∀ j d, ds[j]? = some d → w.cell? ⟨c, u + j * 3, none⟩ = some (.string d.1) ∧ w.cell? ⟨c, u + j * 3 + 1, none⟩ = some (.int .i64 d.2.1) ∧ w.cell? ⟨c, u + j * 3 + 2, none⟩ = some (.int .i64 d.2.2)) := hD
  obtain ⟨m, hm⟩ : ∃ m, ds.length = m := ⟨_, rfl⟩
  obtain ⟨n, hn⟩ : ∃ n, f.len = n := ⟨_, rfl⟩
  rw [hm] at hQ ⊢
  rw [hn] at hT ⊢
  have hm' : Hid (ds.length = m) := hm
  clear hT0 hO hR hD hm hn
  have hK := pblk_any f hf
  go_enter Tryz.func51, Tryz.ntmps51
  go_upto_region 1 with fail
  have gX := pb_new (Below.refl w.heap.size w) (.cells #[.slice p m q, .slice pb n qb] 25)
  have qX := World.alloc_heap_new w (.cells #[.slice p m q, .slice pb n qb] 25)
  obtain ⟨X, hX⟩ : ∃ X, w.alloc (.cells #[.slice p m q, .slice pb n qb] 25) = X := ⟨_, rfl⟩
  obtain ⟨B, hB⟩ : ∃ B, w.heap.size = B := ⟨_, rfl⟩
  rw [hX] at gX qX ⊢
  rw [hB] at qX
  (try rw [hB])
  have gX' : Hid (Below w.heap.size w X) := gX
  clear hX hB gX
  have x0 : X.cell? ⟨B, 0, none⟩ = some (.slice p m q) := by simp [World.cell?, qX]
  have x1 : X.cell? ⟨B, 1, none⟩ = some (.slice pb n qb) := by simp [World.cell?, qX]
  by_cases gd : m ≤ 24
  case neg =>
    rw [if_neg (by simp; omega)] at hQ
    obtain rfl := hQ
    have gd' : decide ((m : Int) ≤ 24) = false := decide_eq_false (by omega)
    go_wp2_with (first
      | (go_at_call 68; (with_reducible refine (pmust_no _).mono ?_); rintro e v1 ⟨rfl, rfl⟩)
      | fail)
    exact ⟨rfl, (Onl.refl _ _).below gX'.out, rfl⟩
  have gd' : decide ((m : Int) ≤ 24) = true := decide_eq_true (by omega)
  go_upto_region 3 with (first | (go_at_call 68; (with_reducible refine (pmust_yes _).mono ?_); rintro e v9 ⟨rfl, hv⟩; subst v9) | fail)
  go_loopw [14] (fun i wr => ∃ (j : Nat) (V : World), i = .int .i64 j ∧ V = wr ∧ j ≤ m ∧ Hid (Below X.heap.size X V) ∧ Hid (∀ k d, k < j → ds[k]? = some d → dcOk d = true)) (fun i _ => m - (intOf i).toNat)
  case atStart => exact ⟨0, X, rfl, rfl, by omega, Below.refl _ _, fun k d h => by omega⟩
  case round =>
    obtain ⟨j, V, rfl, e, hj, cc, hA⟩ := hrel
    subst e
    by_cases cm : j < m
    · have cm' : (j : Int) < (m : Int) := by omega
      obtain ⟨d, hd⟩ : ∃ d, ds[j]? = some d := ⟨_, List.getElem?_eq_getElem (by rw [hm'.out]; exact cm)⟩
      have hdz := hz d (List.mem_of_getElem? hd)
      rcases hD'.out with h0 | ⟨c, u, rfl, hc⟩
      · exfalso; have := hm'.out; rw [h0] at this; simp at this; omega
      obtain ⟨y0, y1, y2⟩ := hc j d hd
      have gV : Below w.heap.size w V := pb_call gX'.out cc.out
      have k0 := pb_cell gV y0
      have k1 := pb_cell gV y1
      have k2 := pb_cell gV y2
      clear y0 y1 y2 hc
      have ix := dc_ix c u m q j cm
      have kI := isName_any d.1 hdz
      have kW := pword d.2.1
      have hbad : dcOk d = false → none = R := fun h => by
        rw [← hQ, if_neg]
        intro h2
        rw [Bool.and_eq_true, List.all_eq_true] at h2
        have := h2.2 d (List.mem_of_getElem? hd)
        rw [h] at this
        cases this
      have hbad' : Hid (dcOk d = false → none = R) := hbad
      have hd' : Hid (ds[j]? = some d) := hd
      generalize u + j * 3 = o at *
      clear hd hbad gV hdz
      go_upto_region 5 with fail
      have gA := pb_new cc.out (.cells #[.string d.1, .int .i64 d.2.1, .int .i64 d.2.2] 53)
      have qA := World.alloc_heap_new V (.cells #[.string d.1, .int .i64 d.2.1, .int .i64 d.2.2] 53)
      obtain ⟨V2, hV2⟩ : ∃ X, V.alloc (.cells #[.string d.1, .int .i64 d.2.1, .int .i64 d.2.2] 53) = X := ⟨_, rfl⟩
      obtain ⟨b5, hb5⟩ : ∃ B, V.heap.size = B := ⟨_, rfl⟩
      rw [hV2] at gA qA ⊢
      rw [hb5] at qA
      (try rw [hb5])
      clear hV2 hb5 k0 k1 k2 ix
      have f0 : V2.cell? ⟨b5, 0, none⟩ = some (.string d.1) := by simp [World.cell?, qA]
      by_cases c1 : isN d.1.toList = true
      case neg =>
        obtain rfl := hbad'.out (by simp [dcOk, c1])
        have c1' : isN d.1.toList = false := by simpa using c1
        rw [c1'] at kI
        go_wp2_with (first
          | (go_at_call 69; (refine (kI _).mono ?_); rintro e v1 ⟨rfl, g1⟩)
          | (go_at_call 68; (with_reducible refine (pmust_no _).mono ?_); rintro e v1 ⟨rfl, rfl⟩)
          | fail)
        exact ⟨rfl, (Onl.refl _ _).below (pb_call gX'.out (pb_call gA g1)), rfl⟩
      rw [c1] at kI
      go_upto_region 6 with (first
        | (go_at_call 69; (refine (kI _).mono ?_); rintro e V3 ⟨rfl, g1⟩)
        | (go_at_call 68; (with_reducible refine (pmust_yes _).mono ?_); rintro e v9 ⟨rfl, hv⟩; subst v9)
        | fail)
      have qB := (g1.block b5 (Array.getElem?_eq_some_iff.1 qA).1).trans qA
      replace gA := pb_call gA g1
      clear f0 kI g1 qA
      have f1 : V3.cell? ⟨b5, 1, none⟩ = some (.int .i64 d.2.1) := by simp [World.cell?, qB]
      have f2 : V3.cell? ⟨b5, 2, none⟩ = some (.int .i64 d.2.2) := by simp [World.cell?, qB]
      by_cases c2 : 1 ≤ d.2.1 ∧ d.2.1 ≤ 3
      case neg =>
        obtain rfl := hbad'.out (by simp [dcOk, c1]; omega)
        rw [wd_no c2] at kW
        go_wp2_with (first
          | (go_at_call 33; (refine (kW _).mono ?_); rintro e v1 ⟨rfl, hv⟩; subst v1)
          | (go_at_call 68; (with_reducible refine (pmust_no _).mono ?_); rintro e v1 ⟨rfl, rfl⟩)
          | fail)
        exact ⟨rfl, (Onl.refl _ _).below (pb_call gX'.out gA), rfl⟩
      have wk := wd_ok c2
      generalize wdOf d.2.1 = wd at kW wk
      go_upto_region 7 with (first
        | (go_at_call 33; (refine (kW _).mono ?_); rintro e v1 ⟨rfl, hv⟩; subst v1)
        | (go_at_call 68; (with_reducible refine (pmust_yes _).mono ?_); rintro e v9 ⟨rfl, hv⟩; subst v9)
        | fail)
      clear kW wk f1
      by_cases c3 : 0 ≤ d.2.2 ∧ d.2.2 ≤ 64
      case neg =>
        obtain rfl := hbad'.out (by simp [dcOk, c1]; omega)
        by_cases c4 : 0 ≤ d.2.2
        · have c4' : decide (0 ≤ d.2.2) = true := decide_eq_true c4
          have c5' : decide (d.2.2 ≤ 64) = false := decide_eq_false (by omega)
          go_wp2_with (first
            | (go_at_call 68; (with_reducible refine (pmust_no _).mono ?_); rintro e v1 ⟨rfl, rfl⟩)
            | fail)
          exact ⟨rfl, (Onl.refl _ _).below (pb_call gX'.out gA), rfl⟩
        · have c4' : decide (0 ≤ d.2.2) = false := decide_eq_false c4
          go_wp2_with (first
            | (go_at_call 68; (with_reducible refine (pmust_no _).mono ?_); rintro e v1 ⟨rfl, rfl⟩)
            | fail)
          exact ⟨rfl, (Onl.refl _ _).below (pb_call gX'.out gA), rfl⟩
      have c4' : decide (0 ≤ d.2.2) = true := decide_eq_true c3.1
      have c5' : decide (d.2.2 ≤ 64) = true := decide_eq_true c3.2
      have wj : IntKind.i64.wrap ((j : Int) + 1) = ((j + 1 : Nat) : Int) := by have := gd; rw [IntKind.wrap_i64]; omega
      have hA2 : Hid (∀ k d, k < j + 1 → ds[k]? = some d → dcOk d = true) := fun k e hk he => by
        rcases (show k < j ∨ k = j by omega) with h | rfl
        · exact hA.out k e h he
        · rw [hd'.out] at he
          cases he
          simp [dcOk, c1, c2, c3]
      clear c2 c3
      go_wp2_with (first | (go_at_call 68; (with_reducible refine (pmust_yes _).mono ?_); rintro e v9 ⟨rfl, hv⟩; subst v9) | fail)
      exact ⟨⟨j + 1, _, by go_num, rfl, by omega, gA, hA2⟩, by simp [intOf]; omega⟩
    · obtain rfl : j = m := by omega
      have nn : ¬ ((j : Int) < (j : Int)) := by omega
      rw [if_pos (by
        rw [Bool.and_eq_true]
        refine ⟨by simpa using gd, List.all_eq_true.2 fun d hdm => ?_⟩
        obtain ⟨k, hk, rfl⟩ := List.getElem_of_mem hdm
        exact hA.out k _ (by have := hm'.out; omega) (List.getElem?_eq_getElem hk))] at hQ
      have gV : Below w.heap.size w V := pb_call gX'.out cc.out
      have z1 := pb_cell cc.out x1
      have hS2 := hT.out.kp (Below.kp gV S)
      have kB := hK 1 (0, 0) S (.slice pb n qb) b V (by omega) (hO'.out.bel gV) hG hS hS2 (hR'.out.bel gV)
      rw [hQ] at kB
      have onV : Onl b w V := (Onl.refl _ _).below gV
      cases R with
      | none =>
        go_wp2_with (first
          | (go_at_call 70; (refine kB.mono ?_); rintro e v1 ⟨on1, rfl⟩)
          | fail)
        exact ⟨rfl, onV.trans on1, rfl⟩
      | some c2 =>
        go_wp2_with (first
          | (go_at_call 70; (refine kB.mono ?_); rintro e v1 ⟨on1, rfl, h1⟩)
          | fail)
        exact bodyPost_end (v := .tuple #[]) (by simp [results, Tryz.results51, go_sem]) rfl ⟨onV.trans on1, rfl, h1⟩
end Go.Proofs.YtknoibocpbfmmaaGreatDoor

