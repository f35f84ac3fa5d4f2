/- Are two programs the same? -/
import Derived.Test.YtknoibocpbfmmaaGreatDoorPfB
namespace Go.Proofs.YtknoibocpbfmmaaGreatDoor
open Go.RowKit
set_option linter.unusedVariables false
set_option linter.unusedSimpArgs false
/-- All statements of a tree. -/
theorem sqs_of : ∀ f : So, f.wt ≤ 1099511627776 → f.all SqT
  | .nil, _ => trivial
  | .cons d nm ix v l h t e r, hw => by
    have w1 : nm.size + ix.wt + (v.row .nil).wt + (l.row .nil).wt + (h.row .nil).wt + t.wt + e.wt + r.wt + 1 ≤ 1099511627776 := hw
    have a := Fo.len_wt ix
    have b := so_len_wt t
    have c := so_len_wt e
    exact ⟨sqT ⟨d, nm, ix, v, l, h, t, e⟩ (sq_of ix (by omega)) (by show ix.len ≤ _; omega) (sq_of (v.row .nil) (by omega)).1 (sq_of (l.row .nil) (by omega)).1 (sq_of (h.row .nil) (by omega)).1 (sqs_of t (by omega)) (by show t.len ≤ _; omega) (sqs_of e (by omega)) (by show e.len ≤ _; omega), sqs_of r (by omega)⟩
set_option maxRecDepth 100000 in
theorem neq_dec (a : ByteArray) (b c : Int) (d : ByteArray) (e f : Int) (w : World) : (binOp .neq 53 (.agg #[.string a, .int .i64 b, .int .i64 c]) (.agg #[.string d, .int .i64 e, .int .i64 f])).run Tryz.prog w = .ok (.bool (!decide ((a, b, c) = (d, e, f)))) w := by
  by_cases h1 : a = d
  · by_cases h2 : b = e
    · by_cases h3 : c = f
      · subst h1; subst h2; subst h3; simp [go_sem]
      · simp [go_sem, h1, h2, h3]
    · simp [go_sem, h1, h2]
  · have h1' : (a.toList == d.toList) = false := beq_false_of_ne (fun h => h1 (tl_inj h))
    simp [go_sem, h1, h1']
set_option maxRecDepth 100000 in
set_option maxHeartbeats 6400000 in
theorem sqD (az bz : List Dc) (hn : az.length ≤ 1099511627776) (va vb : Value) (w : World) (ta : SlDc w va az) (tb : SlDc w vb bz) :
    Calls Tryz.prog 48 #[va, vb] w fun e w' => e = .returned (.bool (decide (az = bz))) ∧ Below w.heap.size w w' := by
  obtain ⟨pa, qa, rfl, ha⟩ := ta
  obtain ⟨pb, qb, rfl, hb⟩ := tb
  by_cases hl : az.length = bz.length
  · obtain ⟨R, HR⟩ : ∃ R, Hid (decide (az = bz) = R) := ⟨_, rfl⟩
    rw [HR.out]
    rw [← hl]
    obtain ⟨m, hm⟩ : ∃ m, az.length = m := ⟨_, rfl⟩
    rw [hm]
    have hm' : Hid (az.length = m ∧ bz.length = m) := ⟨hm, hl.symm.trans hm⟩
    have ha' := ha
    have hb' := hb
    have hA : Hid (az = [] ∨ ∃ c u, pa = some ⟨c, u, none⟩ ∧ ∀ j d, az[j]? = some d → w.cell? ⟨c, u + j * 3, none⟩ = some (.string d.1) ∧ w.cell? ⟨c, u + j * 3 + 1, none⟩ = some (.int .i64 d.2.1) ∧ w.cell? ⟨c, u + j * 3 + 2, none⟩ = some (.int .i64 d.2.2)) := ha
    have hB : Hid (bz = [] ∨ ∃ c u, pb = some ⟨c, u, none⟩ ∧ ∀ j d, bz[j]? = some d → w.cell? ⟨c, u + j * 3, none⟩ = some (.string d.1) ∧ w.cell? ⟨c, u + j * 3 + 1, none⟩ = some (.int .i64 d.2.1) ∧ w.cell? ⟨c, u + j * 3 + 2, none⟩ = some (.int .i64 d.2.2)) := hb
    have hn' : Hid (m ≤ 1099511627776) := by rw [← hm]; exact hn
    have hl' : ¬ (m : Int) ≠ (m : Int) := by simp
    clear ha hb ha' hb' hm hl hn
    go_enter Tryz.func48, Tryz.ntmps48
    go_upto_region 4 with fail
    go_loopw [13] (fun i wr => ∃ (WR : World) (j : Nat), WR = wr ∧ j ≤ m ∧ i = .int .i64 j ∧ Hid (decide (az.drop j = bz.drop j) = R) ∧ Below w.heap.size w wr) (fun i _ => m - (intOf i).toNat)
    case atStart => exact ⟨_, 0, rfl, by omega, rfl, HR, Below.refl _ _⟩
    case round =>
      obtain ⟨WR, j, rfl, hj, rfl, hr, cc⟩ := hrel
      clear HR
      by_cases cj : j < m
      · have ci : (j : Int) < (m : Int) := by omega
        obtain ⟨t, et⟩ : ∃ t, az[j]? = some t := ⟨_, List.getElem?_eq_getElem (by rw [hm'.out.1]; exact cj)⟩
        obtain ⟨u, eu⟩ : ∃ u, bz[j]? = some u := ⟨_, List.getElem?_eq_getElem (by rw [hm'.out.2]; exact cj)⟩
        obtain ⟨c, o, rfl, ht⟩ := hA.out.resolve_left (fun h => by have := hm'.out.1; rw [h] at this; simp at this; omega)
        obtain ⟨c', o', rfl, ht'⟩ := hB.out.resolve_left (fun h => by have := hm'.out.2; rw [h] at this; simp at this; omega)
        obtain ⟨c0, c1, c2⟩ := ht j t et
        obtain ⟨d0, d1, d2⟩ := ht' j u eu
        replace c0 := pb_cell cc c0
        replace c1 := pb_cell cc c1
        replace c2 := pb_cell cc c2
        replace d0 := pb_cell cc d0
        replace d1 := pb_cell cc d1
        replace d2 := pb_cell cc d2
        have dr : ∀ (zs : List Dc) (x : Dc), zs[j]? = some x → zs.drop j = x :: zs.drop (j + 1) := fun zs x ex => by
          obtain ⟨hj', e1⟩ := List.getElem?_eq_some_iff.1 ex
          rw [List.drop_eq_getElem_cons hj', e1]
        have hr2 := hr.out
        rw [dr az t et, dr bz u eu] at hr2
        have ix := dc_ix c o m qa j cj
        have iy := dc_ix c' o' m qb j cj
        have wj : IntKind.i64.wrap ((j : Int) + 1) = ((j + 1 : Nat) : Int) := by have := hn'.out; rw [IntKind.wrap_i64]; omega
        clear hr dr et eu ht ht' hA hB
        obtain ⟨tv, te, tl⟩ := t
        obtain ⟨uv, ue, ul⟩ := u
        have hq := neq_dec tv te tl uv ue ul
        dsimp only at *
        generalize o + j * 3 = oo at *
        generalize o' + j * 3 = oo' at *
        by_cases htu : (tv, te, tl) = (uv, ue, ul)
        · rw [decide_eq_true htu] at hq
          have HR : Hid (decide (az.drop (j + 1) = bz.drop (j + 1)) = R) := by rw [← hr2, htu]; simp [Hid]
          clear hr2 htu
          go_upto_region 6 with fail
          go_quiet (fail)
          go_wp2_with fail
          go_roundw
          case rel => exact ⟨_, j + 1, rfl, by omega, by go_num, HR, ⟨cc.os, cc.tape, cc.output, cc.size, cc.block⟩⟩
          case measure => simp [intOf]; omega
        · rw [decide_eq_false htu] at hq
          have hR : R = false := by rw [← hr2]; exact decide_eq_false fun h => htu (by injection h)
          clear hr2 htu
          subst hR
          go_upto_region 6 with fail
          go_quiet (fail)
          go_wp2_with fail
          go_ret
          exact ⟨rfl, ⟨cc.os, cc.tape, cc.output, cc.size, cc.block⟩⟩
      · have ej : j = m := by omega
        subst ej
        have hR : true = R := by
          have := hr.out
          rw [List.drop_eq_nil_of_le (by rw [hm'.out.1]; omega), List.drop_eq_nil_of_le (by rw [hm'.out.2]; omega)] at this
          simpa using this
        subst hR
        have nn : ¬ ((j : Int) < (j : Int)) := by omega
        clear hr hA hB
        go_wp2_with fail
        go_ret
        exact ⟨rfl, cc⟩
  · have hl' : (az.length : Int) ≠ (bz.length : Int) := by omega
    have hne : ¬ az = bz := fun q => hl (by rw [q])
    rw [decide_eq_false hne]
    clear hne ha hb hl hn
    generalize az.length = n at *
    generalize bz.length = m at *
    go_enter Tryz.func48, Tryz.ntmps48
    go_wp2_with fail
    go_ret
    exact ⟨rfl, Below.refl _ _⟩
theorem pg_dec (p q : Pg) : decide (p = q) = (decide (p.1 = q.1) && decide (p.2 = q.2)) := by
  rw [show decide (p = q) = decide (p.1 = q.1 ∧ p.2 = q.2) from decide_eq_decide.2 Prod.ext_iff]
  simp only [Bool.decide_and]
set_option maxRecDepth 100000 in
set_option maxHeartbeats 3200000 in
theorem sqP (p q : Pg) (hn : p.1.length ≤ 1099511627776) (hw : p.2.wt ≤ 1099511627776) (S S' : Nat → Prop) (wo wo' xo xo' : Option Addr) (wc wc' xc xc' : Nat) (w : World) (d1 : SlDc w (.slice wo p.1.length wc) p.1) (t1 : SlS w S (.slice xo p.2.len xc) p.2) (d2 : SlDc w (.slice wo' q.1.length wc') q.1) (t2 : SlS w S' (.slice xo' q.2.len xc') q.2) :
    Calls Tryz.prog 28 #[.agg #[.slice wo p.1.length wc, .slice xo p.2.len xc], .agg #[.slice wo' q.1.length wc', .slice xo' q.2.len xc']] w fun e w' => e = .returned (.bool (decide (p = q))) ∧ Below w.heap.size w w' := by
  have g1 := pb_new (Below.refl w.heap.size w) (.cells #[.slice wo p.1.length wc, .slice xo p.2.len xc] 25)
  obtain ⟨X, hX⟩ : ∃ X, w.alloc (.cells #[.slice wo p.1.length wc, .slice xo p.2.len xc] 25) = X := ⟨_, rfl⟩
  have qX : X.heap[w.heap.size]? = some (.cells #[.slice wo p.1.length wc, .slice xo p.2.len xc] 25 (0, 0)) := by rw [← hX]; exact World.alloc_heap_new _ _
  have sX : X.heap.size = w.heap.size + 1 := by rw [← hX]; simp [go_sem]
  rw [hX] at g1
  have g2 := pb_new (Below.refl X.heap.size X) (.cells #[.slice wo' q.1.length wc', .slice xo' q.2.len xc'] 25)
  obtain ⟨Y, hY⟩ : ∃ Y, X.alloc (.cells #[.slice wo' q.1.length wc', .slice xo' q.2.len xc'] 25) = Y := ⟨_, rfl⟩
  have qY : Y.heap[w.heap.size + 1]? = some (.cells #[.slice wo' q.1.length wc', .slice xo' q.2.len xc'] 25 (0, 0)) := by rw [← hY, ← sX]; exact World.alloc_heap_new _ _
  rw [hY] at g2
  obtain ⟨b2, hb2⟩ : ∃ b, w.heap.size = b := ⟨_, rfl⟩
  rw [hb2] at qX qY sX
  have qX2 : Y.heap[b2]? = some (.cells #[.slice wo p.1.length wc, .slice xo p.2.len xc] 25 (0, 0)) := (g2.block b2 (by omega)).trans qX
  have f0 : Y.cell? ⟨b2, 0, none⟩ = some (.slice wo p.1.length wc) := by simp [World.cell?, qX2]
  have f1 : Y.cell? ⟨b2, 1, none⟩ = some (.slice xo p.2.len xc) := by simp [World.cell?, qX2]
  have h0 : Y.cell? ⟨b2 + 1, 0, none⟩ = some (.slice wo' q.1.length wc') := by simp [World.cell?, qY]
  have h1 : Y.cell? ⟨b2 + 1, 1, none⟩ = some (.slice xo' q.2.len xc') := by simp [World.cell?, qY]
  have kD := sqD p.1 q.1 hn _ _ Y ((d1.bel g1).bel g2) ((d2.bel g1).bel g2)
  have hT1 := (t1.kp (Below.kp g1 _)).kp (Below.kp g2 _)
  have hT2 := (t2.kp (Below.kp g1 _)).kp (Below.kp g2 _)
  have kB := fun V (g : Below Y.heap.size Y V) => sqB p.2 (sqs_of p.2 hw) q.2 (Nat.le_trans (so_len_wt _) hw) S S' xo xo' xc xc' V (hT1.kp (Below.kp g _)) (hT2.kp (Below.kp g _))
  have gY : Hid (Below w.heap.size w Y) := pb_call g1 g2
  have hX' : Hid (w.alloc (.cells #[.slice wo p.1.length wc, .slice xo p.2.len xc] 25) = X) := hX
  have hY' : Hid (X.alloc (.cells #[.slice wo' q.1.length wc', .slice xo' q.2.len xc'] 25) = Y) := hY
  have hb2' : Hid (w.heap.size = b2 ∧ X.heap.size = b2 + 1) := ⟨hb2, sX⟩
  rw [pg_dec]
  generalize decide (p.1 = q.1) = D1 at *
  generalize decide (p.2 = q.2) = D2 at *
  clear hX hY hb2 sX qX qX2 qY g1 g2 d1 d2 t1 t2 hn hw hT1 hT2
  generalize p.1.length = n1 at *
  generalize p.2.len = n2 at *
  generalize q.1.length = n3 at *
  generalize q.2.len = n4 at *
  go_enter Tryz.func28, Tryz.ntmps28
  go_upto_region 1 with fail
  rw [hX'.out]
  rw [hY'.out]
  (try rw [hb2'.out.1])
  (try rw [hb2'.out.2])
  clear hX' hY' hb2'
  cases D1 with
  | false =>
    clear kB
    go_wp2_with (first
      | (go_at_call 48; (refine kD.mono ?_); rintro e v1 ⟨rfl, g3⟩; replace f1 := pb_cell g3 f1; replace h1 := pb_cell g3 h1)
      | fail)
    go_ret
    exact ⟨rfl, pb_call gY.out g3⟩
  | true =>
    go_wp2_with (first
      | (go_at_call 48; (refine kD.mono ?_); rintro e v1 ⟨rfl, g3⟩; replace f1 := pb_cell g3 f1; replace h1 := pb_cell g3 h1)
      | (go_at_call 49; (refine (kB _ g3).mono ?_); rintro e v2 ⟨rfl, g4⟩)
      | fail)
    go_ret
    exact ⟨rfl, pb_call gY.out (pb_call g3 g4)⟩
/-- Two programs that texts are: are they the same? -/
theorem pSame {s s' : ByteArray} {p q : Pg} (hp : prsL s = .ok p) (hq : prsL s' = .ok q) (S S' : Nat → Prop) (wo wo' xo xo' : Option Addr) (wc wc' xc xc' : Nat) (w : World) (hO : OpsAt w) (d1 : SlDc w (.slice wo p.1.length wc) p.1) (t1 : SlS w S (.slice xo p.2.len xc) p.2) (d2 : SlDc w (.slice wo' q.1.length wc') q.1) (t2 : SlS w S' (.slice xo' q.2.len xc') q.2) :
    Calls Tryz.prog 14 #[.agg #[.slice wo p.1.length wc, .slice xo p.2.len xc], .agg #[.slice wo' q.1.length wc', .slice xo' q.2.len xc']] w fun e w' => e = .returned (.bool (decide (p = q))) ∧ Below w.heap.size w w' := by
  have zp := prs_sz hp
  have zq := prs_sz hq
  have sp : p.1.length ≤ 24 ∧ p.2.wt ≤ 20000000 := by
    have r := zp.2.2.2
    cases hr : ruP p with
    | none => rw [hr] at r; cases r
    | some c => exact ⟨(ru_parts hr).1, (pg_small hr).1⟩
  have mp : (msP (p.1, p.2)).2 = true := by
    have r := zp.2.2.2
    unfold msP
    rw [show (p.1, p.2) = p from rfl]
    cases hr : ruP p with
    | none => rw [hr] at r; cases r
    | some c => rfl
  have mq : (msP (q.1, q.2)).2 = true := by
    have r := zq.2.2.2
    unfold msP
    rw [show (q.1, q.2) = q from rfl]
    cases hr : ruP q with
    | none => rw [hr] at r; cases r
    | some c => rfl
  have g1 := pb_new (Below.refl w.heap.size w) (.cells #[.slice wo p.1.length wc, .slice xo p.2.len xc] 25)
  obtain ⟨X, hX⟩ : ∃ X, w.alloc (.cells #[.slice wo p.1.length wc, .slice xo p.2.len xc] 25) = X := ⟨_, rfl⟩
  have qX : X.heap[w.heap.size]? = some (.cells #[.slice wo p.1.length wc, .slice xo p.2.len xc] 25 (0, 0)) := by rw [← hX]; exact World.alloc_heap_new _ _
  have sX : X.heap.size = w.heap.size + 1 := by rw [← hX]; simp [go_sem]
  rw [hX] at g1
  have g2 := pb_new (Below.refl X.heap.size X) (.cells #[.slice wo' q.1.length wc', .slice xo' q.2.len xc'] 25)
  obtain ⟨Y, hY⟩ : ∃ Y, X.alloc (.cells #[.slice wo' q.1.length wc', .slice xo' q.2.len xc'] 25) = Y := ⟨_, rfl⟩
  have qY : Y.heap[w.heap.size + 1]? = some (.cells #[.slice wo' q.1.length wc', .slice xo' q.2.len xc'] 25 (0, 0)) := by rw [← hY, ← sX]; exact World.alloc_heap_new _ _
  rw [hY] at g2
  obtain ⟨b2, hb2⟩ : ∃ b, w.heap.size = b := ⟨_, rfl⟩
  rw [hb2] at qX qY sX
  have qX2 : Y.heap[b2]? = some (.cells #[.slice wo p.1.length wc, .slice xo p.2.len xc] 25 (0, 0)) := (g2.block b2 (by omega)).trans qX
  have f0 : Y.cell? ⟨b2, 0, none⟩ = some (.slice wo p.1.length wc) := by simp [World.cell?, qX2]
  have f1 : Y.cell? ⟨b2, 1, none⟩ = some (.slice xo p.2.len xc) := by simp [World.cell?, qX2]
  have h0 : Y.cell? ⟨b2 + 1, 0, none⟩ = some (.slice wo' q.1.length wc') := by simp [World.cell?, qY]
  have h1 : Y.cell? ⟨b2 + 1, 1, none⟩ = some (.slice xo' q.2.len xc') := by simp [World.cell?, qY]
  have oY := (hO.bel g1).bel g2
  have D1 := (d1.bel g1).bel g2
  have D2 := (d2.bel g1).bel g2
  have T1 := (t1.kp (Below.kp g1 _)).kp (Below.kp g2 _)
  have T2 := (t2.kp (Below.kp g1 _)).kp (Below.kp g2 _)
  have kA := fun V (g : Below Y.heap.size Y V) => pright p.1 p.2 S _ _ V (oY.bel g) (ops_lt (oY.bel g)) (D1.bel g) (T1.kp (Below.kp g _)) zp.2.1 zp.2.2.1
  have kB := fun V (g : Below Y.heap.size Y V) => pright q.1 q.2 S' _ _ V (oY.bel g) (ops_lt (oY.bel g)) (D2.bel g) (T2.kp (Below.kp g _)) zq.2.1 zq.2.2.1
  have kC := fun V (g : Below Y.heap.size Y V) => sqP p q (by omega) (by omega) S S' wo wo' xo xo' wc wc' xc xc' V (D1.bel g) (T1.kp (Below.kp g _)) (D2.bel g) (T2.kp (Below.kp g _))
  rw [mp] at kA
  rw [mq] at kB
  have gY : Hid (Below w.heap.size w Y) := pb_call g1 g2
  have hX' : Hid (w.alloc (.cells #[.slice wo p.1.length wc, .slice xo p.2.len xc] 25) = X) := hX
  have hY' : Hid (X.alloc (.cells #[.slice wo' q.1.length wc', .slice xo' q.2.len xc'] 25) = Y) := hY
  have hb2' : Hid (w.heap.size = b2 ∧ X.heap.size = b2 + 1) := ⟨hb2, sX⟩
  have hall : ∀ V, Below Y.heap.size Y V → (V.cell? ⟨b2, 0, none⟩ = some (.slice wo p.1.length wc) ∧ V.cell? ⟨b2, 1, none⟩ = some (.slice xo p.2.len xc) ∧ V.cell? ⟨b2 + 1, 0, none⟩ = some (.slice wo' q.1.length wc') ∧ V.cell? ⟨b2 + 1, 1, none⟩ = some (.slice xo' q.2.len xc')) := fun V g => ⟨pb_cell g f0, pb_cell g f1, pb_cell g h0, pb_cell g h1⟩
  have gg := Below.refl Y.heap.size Y
  generalize decide (p = q) = R at *
  clear hX hY hb2 sX qX qX2 qY g1 g2 d1 d2 t1 t2 D1 D2 T1 T2 oY hO sp mp mq zp zq hp hq
  generalize p.1.length = n1 at *
  generalize p.2.len = n2 at *
  generalize q.1.length = n3 at *
  generalize q.2.len = n4 at *
  go_enter Tryz.func14, Tryz.ntmps14
  go_upto_region 1 with fail
  rw [hX'.out]
  rw [hY'.out]
  (try rw [hb2'.out.1])
  (try rw [hb2'.out.2])
  clear hX' hY' hb2'
  go_wp2_with (first
    | (go_at_call 17; (first | (refine (kA _ gg).mono ?_; clear kA) | (refine (kB _ gg).mono ?_; clear kB)); rintro e v1 ⟨rfl, g3⟩; replace gg := pb_call gg g3; clear f0 f1 h0 h1 g3; obtain ⟨f0, f1, h0, h1⟩ := hall _ gg)
    | (go_at_call 28; (refine (kC _ gg).mono ?_); rintro e v1 ⟨rfl, g3⟩; replace gg := pb_call gg g3)
    | fail)
  go_ret
  exact ⟨rfl, pb_call gY.out gg⟩
end Go.Proofs.YtknoibocpbfmmaaGreatDoor

