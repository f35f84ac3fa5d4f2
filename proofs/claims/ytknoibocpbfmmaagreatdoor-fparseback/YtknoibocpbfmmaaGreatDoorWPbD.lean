/- Expression of each kind, over all. -/
import Derived.Test.YtknoibocpbfmmaaGreatDoorWG11
namespace Go.Proofs.YtknoibocpbfmmaaGreatDoor
open Go.RowKit
set_option linter.unusedVariables false
set_option linter.unusedSimpArgs false
set_option maxRecDepth 100000 in
set_option maxHeartbeats 1600000 in
theorem ex_1 (e : Ex) (hop : e.op = 1) (hz : e.tx.size ≤ 9223372036854775807) (kA : SpX e.ks) (deep p x : Nat) (S : Nat → Prop) (pp : Option Addr) (qq b : Nat) (w : World) (hd0 : deep ≤ 24) (hx : x + 1 ≤ 2048) (hO : OpsAt w) (hG : b ≠ 0) (hSb : ¬ S b) (hT : SlF w S (.slice pp e.ks.len qq) e.ks) (hR : RuAt w b (p, x)) :
  Calls Tryz.prog 102 #[.pointer (some ⟨b, 0, none⟩), .agg #[.int .i64 e.op, .string e.tx, .int .i64 e.ty, .slice pp e.ks.len qq], .int .i64 deep] w fun e' w' => RuR ((ruE deep e x).map fun y => (p, y)) b w e' w' := by
 obtain ⟨xi, hxi⟩ : ∃ xi : Int, xi = ((x + 1 : Nat) : Int) := ⟨_, rfl⟩
 have hS := ex_go hO hG hSb hT hR hx xi hxi
 have hx1 := hR.x
 have hfz := hR.fz 1
 have lb := hR.lt
 have bw : b ≠ w.heap.size := Nat.ne_of_lt lb
 have wb : w.heap.size ≠ b := Ne.symm bw
 obtain ⟨R, hQ⟩ : ∃ R, (ruE deep e x).map (fun y => (p, y)) = R := ⟨_, rfl⟩
 rw [hQ]
 rw [ruE_eq, decide_eq_true hx, decide_eq_true hd0, Bool.true_and, Bool.true_and] at hQ
 have wx : IntKind.i64.wrap ((x : Int) + 1) = xi := by rw [IntKind.wrap_i64]; omega
 have wd : IntKind.i64.wrap ((deep : Int) + 1) = ((deep + 1 : Nat) : Int) := by rw [IntKind.wrap_i64]; omega
 have gx : ((x : Int) + 1 ≤ 2048) := by omega
 have gx2 : xi ≤ 2048 := by omega
 have gd : ((deep : Int) ≤ 24) := by omega
 have hd : deep + 1 ≤ 30 := by omega
 have kN := pnumb e.tx
 have kI := isName_any e.tx hz
 have kW := pword e.ty
 have kB := pbare e.op e.ty e.tx pp e.ks.len qq
 have kF := popFor e.op
 have lf1 := opf1
 have eT := txt_e e.tx
 have eW := txt_e (wdOf e.ty)
 have eF := txt_e (ofT e.op).2.1
 have eY : (e.ty == 0) = decide (e.ty = 0) := by by_cases h : e.ty = 0 <;> simp [h]
 have eL : (((e.ks.len : Nat) : Int) == 0) = decide (e.ks.len = 0) := by
  by_cases h : e.ks.len = 0
  ·rw [h]; rfl
  ·rw [decide_eq_false h, beq_eq_false_iff_ne]; omega
 rw [hop] at hQ kB kF eF hS ⊢
 have hE : exOk (1 : Int) e.tx e.ty e.ks.len = (isNum e.tx && (decide (e.ty = 0) && decide (e.ks.len = 0))) := by unfold exOk; rw [if_pos rfl]
 rw [hE] at hQ
 clear hE
 have hxi' : Hid (xi = ((x + 1 : Nat) : Int)) := hxi
 clear hR hT hO hx hd0 hxi
 generalize isNum e.tx = bN at *
 generalize isN e.tx.toList = bI at *
 generalize decide (e.ty = 0) = bY at *
 generalize decide (e.tx = tx0) = bT at *
 generalize decide (e.ks.len = 0) = bL at *
 generalize wdOf e.ty = tw at *
 generalize (ofT 1).1 = o1 at *
 generalize (ofT 1).2.1 = o2 at *
 generalize (ofT 1).2.2 = o3 at *
 have hQ' : Hid (_ = R) := hQ
 clear hQ hop
 generalize e.tx = tx at *
 generalize e.ty = ty at *
 generalize hks : e.ks = ks at *
 generalize hm : ks.len = m at *
 go_enter Tryz.func102, Tryz.ntmps102
 go_upto_region 2 with fail
 obtain ⟨V, hV⟩ : ∃ V, (w.setCell ⟨b, 1, none⟩ (.int .i64 xi)).alloc (.cells #[.int .i64 1, .string tx, .int .i64 ty, .slice pp m qq] 85) = V := ⟨_, rfl⟩
 rw [hV] at hS
 rw [hV]
 obtain ⟨B, hB⟩ : ∃ B, w.heap.size = B := ⟨_, rfl⟩
 rw [hB] at hS
 (try rw [hB])
 clear hV hB
 have c1 := hS.R.x
 rw [show (((p, x + 1).2 : Nat) : Int) = xi from hxi'.out.symm] at c1
 have c0 := hS.R.p
 obtain ⟨f0, f1, f2, f3, ff⟩ := ex_cells hS.q
 cases bN with
 | false =>
  obtain rfl : R = none := by rw [← hQ'.out]; rfl
  clear hQ' kA
  go_wp2_with (first
   | (go_at_call 68; (with_reducible refine (pmust_yes _).mono ?_); rintro e v1 ⟨rfl, rfl⟩)
   | (go_at_call 68; (with_reducible refine (pmust_no _).mono ?_); rintro e v1 ⟨rfl, rfl⟩)
   | (go_at_call 115; (refine (kN _).mono ?_); rintro e v1 ⟨rfl, g1⟩; replace hS := hS.bel g1; obtain ⟨f0, f1, f2, f3, ff⟩ := ex_cells hS.q)
   | (go_at_call 116; (refine (kB _).mono ?_); rintro e v1 ⟨rfl, g1⟩; replace hS := hS.bel g1; obtain ⟨f0, f1, f2, f3, ff⟩ := ex_cells hS.q)
   | fail)
  exact ⟨rfl, hS.on, rfl⟩
 | true =>
  cases bY with
  | false =>
   obtain rfl : R = none := by rw [← hQ'.out]; rfl
   clear hQ' kA
   go_wp2_with (first
    | (go_at_call 68; (with_reducible refine (pmust_yes _).mono ?_); rintro e v1 ⟨rfl, rfl⟩)
    | (go_at_call 68; (with_reducible refine (pmust_no _).mono ?_); rintro e v1 ⟨rfl, rfl⟩)
    | (go_at_call 115; (refine (kN _).mono ?_); rintro e v1 ⟨rfl, g1⟩; replace hS := hS.bel g1; obtain ⟨f0, f1, f2, f3, ff⟩ := ex_cells hS.q)
    | (go_at_call 116; (refine (kB _).mono ?_); rintro e v1 ⟨rfl, g1⟩; replace hS := hS.bel g1; obtain ⟨f0, f1, f2, f3, ff⟩ := ex_cells hS.q)
    | fail)
   exact ⟨rfl, hS.on, rfl⟩
  | true =>
   cases bL with
   | false =>
    obtain rfl : R = none := by rw [← hQ'.out]; rfl
    clear hQ' kA
    go_wp2_with (first
     | (go_at_call 68; (with_reducible refine (pmust_yes _).mono ?_); rintro e v1 ⟨rfl, rfl⟩)
     | (go_at_call 68; (with_reducible refine (pmust_no _).mono ?_); rintro e v1 ⟨rfl, rfl⟩)
     | (go_at_call 115; (refine (kN _).mono ?_); rintro e v1 ⟨rfl, g1⟩; replace hS := hS.bel g1; obtain ⟨f0, f1, f2, f3, ff⟩ := ex_cells hS.q)
     | (go_at_call 116; (refine (kB _).mono ?_); rintro e v1 ⟨rfl, g1⟩; replace hS := hS.bel g1; obtain ⟨f0, f1, f2, f3, ff⟩ := ex_cells hS.q)
     | fail)
    exact ⟨rfl, hS.on, rfl⟩
   | true =>
    have e0 : Hid ((ruF (deep + 1) ks (x + 1)).map (fun y => (p, y)) = R) := hQ'.out
    clear hQ'
    unfold SpX at kA
    have kA2 := fun V hO h1 h2 => kA (deep + 1) p (x + 1) (fun k => S k ∧ k < B) (.slice pp m qq) b V hd hO hG h1 h2
    rw [e0.out] at kA2
    clear kA
    cases R with
    | none =>
     go_wp2_with (first
      | (go_at_call 68; (with_reducible refine (pmust_yes _).mono ?_); rintro e v1 ⟨rfl, rfl⟩)
      | (go_at_call 68; (with_reducible refine (pmust_no _).mono ?_); rintro e v1 ⟨rfl, rfl⟩)
      | (go_at_call 115; (refine (kN _).mono ?_); rintro e v1 ⟨rfl, g1⟩; replace hS := hS.bel g1; obtain ⟨f0, f1, f2, f3, ff⟩ := ex_cells hS.q)
      | (go_at_call 116; (refine (kB _).mono ?_); rintro e v1 ⟨rfl, g1⟩; replace hS := hS.bel g1; obtain ⟨f0, f1, f2, f3, ff⟩ := ex_cells hS.q)
      | (go_at_call 101; (refine (kA2 _ hS.O (fun a => (hS.hS _ a).1 rfl) hS.T hS.R).mono ?_); rintro e v1 ⟨on1, rfl⟩; replace hS := hS.on.trans on1; clear kA2)
      | fail)
     exact ⟨rfl, hS, rfl⟩
    | some c =>
     go_wp2_with (first
      | (go_at_call 68; (with_reducible refine (pmust_yes _).mono ?_); rintro e v1 ⟨rfl, rfl⟩)
      | (go_at_call 68; (with_reducible refine (pmust_no _).mono ?_); rintro e v1 ⟨rfl, rfl⟩)
      | (go_at_call 115; (refine (kN _).mono ?_); rintro e v1 ⟨rfl, g1⟩; replace hS := hS.bel g1; obtain ⟨f0, f1, f2, f3, ff⟩ := ex_cells hS.q)
      | (go_at_call 116; (refine (kB _).mono ?_); rintro e v1 ⟨rfl, g1⟩; replace hS := hS.bel g1; obtain ⟨f0, f1, f2, f3, ff⟩ := ex_cells hS.q)
      | (go_at_call 101; (refine (kA2 _ hS.O (fun a => (hS.hS _ a).1 rfl) hS.T hS.R).mono ?_); rintro e v1 ⟨on1, ⟨rfl, h1⟩⟩; replace hS := hS.on.trans on1; clear kA2)
      | fail)
     exact bodyPost_end (v := .tuple #[]) (by simp [results, Tryz.results102, go_sem]) rfl ⟨hS, rfl, h1⟩
set_option maxRecDepth 100000 in
set_option maxHeartbeats 1600000 in
theorem ex_2 (e : Ex) (hop : e.op = 2) (hz : e.tx.size ≤ 9223372036854775807) (kA : SpX e.ks) (deep p x : Nat) (S : Nat → Prop) (pp : Option Addr) (qq b : Nat) (w : World) (hd0 : deep ≤ 24) (hx : x + 1 ≤ 2048) (hO : OpsAt w) (hG : b ≠ 0) (hSb : ¬ S b) (hT : SlF w S (.slice pp e.ks.len qq) e.ks) (hR : RuAt w b (p, x)) :
  Calls Tryz.prog 102 #[.pointer (some ⟨b, 0, none⟩), .agg #[.int .i64 e.op, .string e.tx, .int .i64 e.ty, .slice pp e.ks.len qq], .int .i64 deep] w fun e' w' => RuR ((ruE deep e x).map fun y => (p, y)) b w e' w' := by
 obtain ⟨xi, hxi⟩ : ∃ xi : Int, xi = ((x + 1 : Nat) : Int) := ⟨_, rfl⟩
 have hS := ex_go hO hG hSb hT hR hx xi hxi
 have hx1 := hR.x
 have hfz := hR.fz 1
 have lb := hR.lt
 have bw : b ≠ w.heap.size := Nat.ne_of_lt lb
 have wb : w.heap.size ≠ b := Ne.symm bw
 obtain ⟨R, hQ⟩ : ∃ R, (ruE deep e x).map (fun y => (p, y)) = R := ⟨_, rfl⟩
 rw [hQ]
 rw [ruE_eq, decide_eq_true hx, decide_eq_true hd0, Bool.true_and, Bool.true_and] at hQ
 have wx : IntKind.i64.wrap ((x : Int) + 1) = xi := by rw [IntKind.wrap_i64]; omega
 have wd : IntKind.i64.wrap ((deep : Int) + 1) = ((deep + 1 : Nat) : Int) := by rw [IntKind.wrap_i64]; omega
 have gx : ((x : Int) + 1 ≤ 2048) := by omega
 have gx2 : xi ≤ 2048 := by omega
 have gd : ((deep : Int) ≤ 24) := by omega
 have hd : deep + 1 ≤ 30 := by omega
 have kN := pnumb e.tx
 have kI := isName_any e.tx hz
 have kW := pword e.ty
 have kB := pbare e.op e.ty e.tx pp e.ks.len qq
 have kF := popFor e.op
 have lf1 := opf1
 have eT := txt_e e.tx
 have eW := txt_e (wdOf e.ty)
 have eF := txt_e (ofT e.op).2.1
 have eY : (e.ty == 0) = decide (e.ty = 0) := by by_cases h : e.ty = 0 <;> simp [h]
 have eL : (((e.ks.len : Nat) : Int) == 0) = decide (e.ks.len = 0) := by
  by_cases h : e.ks.len = 0
  ·rw [h]; rfl
  ·rw [decide_eq_false h, beq_eq_false_iff_ne]; omega
 rw [hop] at hQ kB kF eF hS ⊢
 have hE : exOk (2 : Int) e.tx e.ty e.ks.len = (isN e.tx.toList && (decide (e.ty = 0) && decide (e.ks.len = 0))) := by unfold exOk; rw [if_neg (by decide), if_pos rfl]
 rw [hE] at hQ
 clear hE
 have hxi' : Hid (xi = ((x + 1 : Nat) : Int)) := hxi
 clear hR hT hO hx hd0 hxi
 generalize isNum e.tx = bN at *
 generalize isN e.tx.toList = bI at *
 generalize decide (e.ty = 0) = bY at *
 generalize decide (e.tx = tx0) = bT at *
 generalize decide (e.ks.len = 0) = bL at *
 generalize wdOf e.ty = tw at *
 generalize (ofT 2).1 = o1 at *
 generalize (ofT 2).2.1 = o2 at *
 generalize (ofT 2).2.2 = o3 at *
 have hQ' : Hid (_ = R) := hQ
 clear hQ hop
 generalize e.tx = tx at *
 generalize e.ty = ty at *
 generalize hks : e.ks = ks at *
 generalize hm : ks.len = m at *
 go_enter Tryz.func102, Tryz.ntmps102
 go_upto_region 2 with fail
 obtain ⟨V, hV⟩ : ∃ V, (w.setCell ⟨b, 1, none⟩ (.int .i64 xi)).alloc (.cells #[.int .i64 2, .string tx, .int .i64 ty, .slice pp m qq] 85) = V := ⟨_, rfl⟩
 rw [hV] at hS
 rw [hV]
 obtain ⟨B, hB⟩ : ∃ B, w.heap.size = B := ⟨_, rfl⟩
 rw [hB] at hS
 (try rw [hB])
 clear hV hB
 have c1 := hS.R.x
 rw [show (((p, x + 1).2 : Nat) : Int) = xi from hxi'.out.symm] at c1
 have c0 := hS.R.p
 obtain ⟨f0, f1, f2, f3, ff⟩ := ex_cells hS.q
 cases bI with
 | false =>
  obtain rfl : R = none := by rw [← hQ'.out]; rfl
  clear hQ' kA
  go_wp2_with (first
   | (go_at_call 68; (with_reducible refine (pmust_yes _).mono ?_); rintro e v1 ⟨rfl, rfl⟩)
   | (go_at_call 68; (with_reducible refine (pmust_no _).mono ?_); rintro e v1 ⟨rfl, rfl⟩)
   | (go_at_call 69; (refine (kI _).mono ?_); rintro e v1 ⟨rfl, g1⟩; replace hS := hS.bel g1; obtain ⟨f0, f1, f2, f3, ff⟩ := ex_cells hS.q)
   | (go_at_call 116; (refine (kB _).mono ?_); rintro e v1 ⟨rfl, g1⟩; replace hS := hS.bel g1; obtain ⟨f0, f1, f2, f3, ff⟩ := ex_cells hS.q)
   | fail)
  exact ⟨rfl, hS.on, rfl⟩
 | true =>
  cases bY with
  | false =>
   obtain rfl : R = none := by rw [← hQ'.out]; rfl
   clear hQ' kA
   go_wp2_with (first
    | (go_at_call 68; (with_reducible refine (pmust_yes _).mono ?_); rintro e v1 ⟨rfl, rfl⟩)
    | (go_at_call 68; (with_reducible refine (pmust_no _).mono ?_); rintro e v1 ⟨rfl, rfl⟩)
    | (go_at_call 69; (refine (kI _).mono ?_); rintro e v1 ⟨rfl, g1⟩; replace hS := hS.bel g1; obtain ⟨f0, f1, f2, f3, ff⟩ := ex_cells hS.q)
    | (go_at_call 116; (refine (kB _).mono ?_); rintro e v1 ⟨rfl, g1⟩; replace hS := hS.bel g1; obtain ⟨f0, f1, f2, f3, ff⟩ := ex_cells hS.q)
    | fail)
   exact ⟨rfl, hS.on, rfl⟩
  | true =>
   cases bL with
   | false =>
    obtain rfl : R = none := by rw [← hQ'.out]; rfl
    clear hQ' kA
    go_wp2_with (first
     | (go_at_call 68; (with_reducible refine (pmust_yes _).mono ?_); rintro e v1 ⟨rfl, rfl⟩)
     | (go_at_call 68; (with_reducible refine (pmust_no _).mono ?_); rintro e v1 ⟨rfl, rfl⟩)
     | (go_at_call 69; (refine (kI _).mono ?_); rintro e v1 ⟨rfl, g1⟩; replace hS := hS.bel g1; obtain ⟨f0, f1, f2, f3, ff⟩ := ex_cells hS.q)
     | (go_at_call 116; (refine (kB _).mono ?_); rintro e v1 ⟨rfl, g1⟩; replace hS := hS.bel g1; obtain ⟨f0, f1, f2, f3, ff⟩ := ex_cells hS.q)
     | fail)
    exact ⟨rfl, hS.on, rfl⟩
   | true =>
    have e0 : Hid ((ruF (deep + 1) ks (x + 1)).map (fun y => (p, y)) = R) := hQ'.out
    clear hQ'
    unfold SpX at kA
    have kA2 := fun V hO h1 h2 => kA (deep + 1) p (x + 1) (fun k => S k ∧ k < B) (.slice pp m qq) b V hd hO hG h1 h2
    rw [e0.out] at kA2
    clear kA
    cases R with
    | none =>
     go_wp2_with (first
      | (go_at_call 68; (with_reducible refine (pmust_yes _).mono ?_); rintro e v1 ⟨rfl, rfl⟩)
      | (go_at_call 68; (with_reducible refine (pmust_no _).mono ?_); rintro e v1 ⟨rfl, rfl⟩)
      | (go_at_call 69; (refine (kI _).mono ?_); rintro e v1 ⟨rfl, g1⟩; replace hS := hS.bel g1; obtain ⟨f0, f1, f2, f3, ff⟩ := ex_cells hS.q)
      | (go_at_call 116; (refine (kB _).mono ?_); rintro e v1 ⟨rfl, g1⟩; replace hS := hS.bel g1; obtain ⟨f0, f1, f2, f3, ff⟩ := ex_cells hS.q)
      | (go_at_call 101; (refine (kA2 _ hS.O (fun a => (hS.hS _ a).1 rfl) hS.T hS.R).mono ?_); rintro e v1 ⟨on1, rfl⟩; replace hS := hS.on.trans on1; clear kA2)
      | fail)
     exact ⟨rfl, hS, rfl⟩
    | some c =>
     go_wp2_with (first
      | (go_at_call 68; (with_reducible refine (pmust_yes _).mono ?_); rintro e v1 ⟨rfl, rfl⟩)
      | (go_at_call 68; (with_reducible refine (pmust_no _).mono ?_); rintro e v1 ⟨rfl, rfl⟩)
      | (go_at_call 69; (refine (kI _).mono ?_); rintro e v1 ⟨rfl, g1⟩; replace hS := hS.bel g1; obtain ⟨f0, f1, f2, f3, ff⟩ := ex_cells hS.q)
      | (go_at_call 116; (refine (kB _).mono ?_); rintro e v1 ⟨rfl, g1⟩; replace hS := hS.bel g1; obtain ⟨f0, f1, f2, f3, ff⟩ := ex_cells hS.q)
      | (go_at_call 101; (refine (kA2 _ hS.O (fun a => (hS.hS _ a).1 rfl) hS.T hS.R).mono ?_); rintro e v1 ⟨on1, ⟨rfl, h1⟩⟩; replace hS := hS.on.trans on1; clear kA2)
      | fail)
     exact bodyPost_end (v := .tuple #[]) (by simp [results, Tryz.results102, go_sem]) rfl ⟨hS, rfl, h1⟩
set_option maxRecDepth 100000 in
set_option maxHeartbeats 1600000 in
theorem ex_3 (e : Ex) (hop : e.op = 3) (hz : e.tx.size ≤ 9223372036854775807) (kA : SpX e.ks) (deep p x : Nat) (S : Nat → Prop) (pp : Option Addr) (qq b : Nat) (w : World) (hd0 : deep ≤ 24) (hx : x + 1 ≤ 2048) (hO : OpsAt w) (hG : b ≠ 0) (hSb : ¬ S b) (hT : SlF w S (.slice pp e.ks.len qq) e.ks) (hR : RuAt w b (p, x)) :
  Calls Tryz.prog 102 #[.pointer (some ⟨b, 0, none⟩), .agg #[.int .i64 e.op, .string e.tx, .int .i64 e.ty, .slice pp e.ks.len qq], .int .i64 deep] w fun e' w' => RuR ((ruE deep e x).map fun y => (p, y)) b w e' w' := by
 obtain ⟨xi, hxi⟩ : ∃ xi : Int, xi = ((x + 1 : Nat) : Int) := ⟨_, rfl⟩
 have hS := ex_go hO hG hSb hT hR hx xi hxi
 have hx1 := hR.x
 have hfz := hR.fz 1
 have lb := hR.lt
 have bw : b ≠ w.heap.size := Nat.ne_of_lt lb
 have wb : w.heap.size ≠ b := Ne.symm bw
 obtain ⟨R, hQ⟩ : ∃ R, (ruE deep e x).map (fun y => (p, y)) = R := ⟨_, rfl⟩
 rw [hQ]
 rw [ruE_eq, decide_eq_true hx, decide_eq_true hd0, Bool.true_and, Bool.true_and] at hQ
 have wx : IntKind.i64.wrap ((x : Int) + 1) = xi := by rw [IntKind.wrap_i64]; omega
 have wd : IntKind.i64.wrap ((deep : Int) + 1) = ((deep + 1 : Nat) : Int) := by rw [IntKind.wrap_i64]; omega
 have gx : ((x : Int) + 1 ≤ 2048) := by omega
 have gx2 : xi ≤ 2048 := by omega
 have gd : ((deep : Int) ≤ 24) := by omega
 have hd : deep + 1 ≤ 30 := by omega
 have kN := pnumb e.tx
 have kI := isName_any e.tx hz
 have kW := pword e.ty
 have kB := pbare e.op e.ty e.tx pp e.ks.len qq
 have kF := popFor e.op
 have lf1 := opf1
 have eT := txt_e e.tx
 have eW := txt_e (wdOf e.ty)
 have eF := txt_e (ofT e.op).2.1
 have eY : (e.ty == 0) = decide (e.ty = 0) := by by_cases h : e.ty = 0 <;> simp [h]
 have eL : (((e.ks.len : Nat) : Int) == 1) = decide (e.ks.len = 1) := by
  by_cases h : e.ks.len = 1
  ·rw [h]; rfl
  ·rw [decide_eq_false h, beq_eq_false_iff_ne]; omega
 rw [hop] at hQ kB kF eF hS ⊢
 have hE : exOk (3 : Int) e.tx e.ty e.ks.len = (isN e.tx.toList && (decide (e.ty = 0) && decide (e.ks.len = 1))) := by unfold exOk; rw [if_neg (by decide), if_neg (by decide), if_pos rfl]
 rw [hE] at hQ
 clear hE
 have hxi' : Hid (xi = ((x + 1 : Nat) : Int)) := hxi
 clear hR hT hO hx hd0 hxi
 generalize isNum e.tx = bN at *
 generalize isN e.tx.toList = bI at *
 generalize decide (e.ty = 0) = bY at *
 generalize decide (e.tx = tx0) = bT at *
 generalize decide (e.ks.len = 1) = bL at *
 generalize wdOf e.ty = tw at *
 generalize (ofT 3).1 = o1 at *
 generalize (ofT 3).2.1 = o2 at *
 generalize (ofT 3).2.2 = o3 at *
 have hQ' : Hid (_ = R) := hQ
 clear hQ hop
 generalize e.tx = tx at *
 generalize e.ty = ty at *
 generalize hks : e.ks = ks at *
 generalize hm : ks.len = m at *
 go_enter Tryz.func102, Tryz.ntmps102
 go_upto_region 2 with fail
 obtain ⟨V, hV⟩ : ∃ V, (w.setCell ⟨b, 1, none⟩ (.int .i64 xi)).alloc (.cells #[.int .i64 3, .string tx, .int .i64 ty, .slice pp m qq] 85) = V := ⟨_, rfl⟩
 rw [hV] at hS
 rw [hV]
 obtain ⟨B, hB⟩ : ∃ B, w.heap.size = B := ⟨_, rfl⟩
 rw [hB] at hS
 (try rw [hB])
 clear hV hB
 have c1 := hS.R.x
 rw [show (((p, x + 1).2 : Nat) : Int) = xi from hxi'.out.symm] at c1
 have c0 := hS.R.p
 obtain ⟨f0, f1, f2, f3, ff⟩ := ex_cells hS.q
 cases bI with
 | false =>
  obtain rfl : R = none := by rw [← hQ'.out]; rfl
  clear hQ' kA
  go_wp2_with (first
   | (go_at_call 68; (with_reducible refine (pmust_yes _).mono ?_); rintro e v1 ⟨rfl, rfl⟩)
   | (go_at_call 68; (with_reducible refine (pmust_no _).mono ?_); rintro e v1 ⟨rfl, rfl⟩)
   | (go_at_call 69; (refine (kI _).mono ?_); rintro e v1 ⟨rfl, g1⟩; replace hS := hS.bel g1; obtain ⟨f0, f1, f2, f3, ff⟩ := ex_cells hS.q)
   | (go_at_call 116; (refine (kB _).mono ?_); rintro e v1 ⟨rfl, g1⟩; replace hS := hS.bel g1; obtain ⟨f0, f1, f2, f3, ff⟩ := ex_cells hS.q)
   | fail)
  exact ⟨rfl, hS.on, rfl⟩
 | true =>
  cases bY with
  | false =>
   obtain rfl : R = none := by rw [← hQ'.out]; rfl
   clear hQ' kA
   go_wp2_with (first
    | (go_at_call 68; (with_reducible refine (pmust_yes _).mono ?_); rintro e v1 ⟨rfl, rfl⟩)
    | (go_at_call 68; (with_reducible refine (pmust_no _).mono ?_); rintro e v1 ⟨rfl, rfl⟩)
    | (go_at_call 69; (refine (kI _).mono ?_); rintro e v1 ⟨rfl, g1⟩; replace hS := hS.bel g1; obtain ⟨f0, f1, f2, f3, ff⟩ := ex_cells hS.q)
    | (go_at_call 116; (refine (kB _).mono ?_); rintro e v1 ⟨rfl, g1⟩; replace hS := hS.bel g1; obtain ⟨f0, f1, f2, f3, ff⟩ := ex_cells hS.q)
    | fail)
   exact ⟨rfl, hS.on, rfl⟩
  | true =>
   cases bL with
   | false =>
    obtain rfl : R = none := by rw [← hQ'.out]; rfl
    clear hQ' kA
    go_wp2_with (first
     | (go_at_call 68; (with_reducible refine (pmust_yes _).mono ?_); rintro e v1 ⟨rfl, rfl⟩)
     | (go_at_call 68; (with_reducible refine (pmust_no _).mono ?_); rintro e v1 ⟨rfl, rfl⟩)
     | (go_at_call 69; (refine (kI _).mono ?_); rintro e v1 ⟨rfl, g1⟩; replace hS := hS.bel g1; obtain ⟨f0, f1, f2, f3, ff⟩ := ex_cells hS.q)
     | (go_at_call 116; (refine (kB _).mono ?_); rintro e v1 ⟨rfl, g1⟩; replace hS := hS.bel g1; obtain ⟨f0, f1, f2, f3, ff⟩ := ex_cells hS.q)
     | fail)
    exact ⟨rfl, hS.on, rfl⟩
   | true =>
    have e0 : Hid ((ruF (deep + 1) ks (x + 1)).map (fun y => (p, y)) = R) := hQ'.out
    clear hQ'
    unfold SpX at kA
    have kA2 := fun V hO h1 h2 => kA (deep + 1) p (x + 1) (fun k => S k ∧ k < B) (.slice pp m qq) b V hd hO hG h1 h2
    rw [e0.out] at kA2
    clear kA
    cases R with
    | none =>
     go_wp2_with (first
      | (go_at_call 68; (with_reducible refine (pmust_yes _).mono ?_); rintro e v1 ⟨rfl, rfl⟩)
      | (go_at_call 68; (with_reducible refine (pmust_no _).mono ?_); rintro e v1 ⟨rfl, rfl⟩)
      | (go_at_call 69; (refine (kI _).mono ?_); rintro e v1 ⟨rfl, g1⟩; replace hS := hS.bel g1; obtain ⟨f0, f1, f2, f3, ff⟩ := ex_cells hS.q)
      | (go_at_call 116; (refine (kB _).mono ?_); rintro e v1 ⟨rfl, g1⟩; replace hS := hS.bel g1; obtain ⟨f0, f1, f2, f3, ff⟩ := ex_cells hS.q)
      | (go_at_call 101; (refine (kA2 _ hS.O (fun a => (hS.hS _ a).1 rfl) hS.T hS.R).mono ?_); rintro e v1 ⟨on1, rfl⟩; replace hS := hS.on.trans on1; clear kA2)
      | fail)
     exact ⟨rfl, hS, rfl⟩
    | some c =>
     go_wp2_with (first
      | (go_at_call 68; (with_reducible refine (pmust_yes _).mono ?_); rintro e v1 ⟨rfl, rfl⟩)
      | (go_at_call 68; (with_reducible refine (pmust_no _).mono ?_); rintro e v1 ⟨rfl, rfl⟩)
      | (go_at_call 69; (refine (kI _).mono ?_); rintro e v1 ⟨rfl, g1⟩; replace hS := hS.bel g1; obtain ⟨f0, f1, f2, f3, ff⟩ := ex_cells hS.q)
      | (go_at_call 116; (refine (kB _).mono ?_); rintro e v1 ⟨rfl, g1⟩; replace hS := hS.bel g1; obtain ⟨f0, f1, f2, f3, ff⟩ := ex_cells hS.q)
      | (go_at_call 101; (refine (kA2 _ hS.O (fun a => (hS.hS _ a).1 rfl) hS.T hS.R).mono ?_); rintro e v1 ⟨on1, ⟨rfl, h1⟩⟩; replace hS := hS.on.trans on1; clear kA2)
      | fail)
     exact bodyPost_end (v := .tuple #[]) (by simp [results, Tryz.results102, go_sem]) rfl ⟨hS, rfl, h1⟩
set_option maxRecDepth 100000 in
set_option maxHeartbeats 1600000 in
theorem ex_7 (e : Ex) (hop : e.op = 7) (hz : e.tx.size ≤ 9223372036854775807) (kA : SpX e.ks) (deep p x : Nat) (S : Nat → Prop) (pp : Option Addr) (qq b : Nat) (w : World) (hd0 : deep ≤ 24) (hx : x + 1 ≤ 2048) (hO : OpsAt w) (hG : b ≠ 0) (hSb : ¬ S b) (hT : SlF w S (.slice pp e.ks.len qq) e.ks) (hR : RuAt w b (p, x)) :
  Calls Tryz.prog 102 #[.pointer (some ⟨b, 0, none⟩), .agg #[.int .i64 e.op, .string e.tx, .int .i64 e.ty, .slice pp e.ks.len qq], .int .i64 deep] w fun e' w' => RuR ((ruE deep e x).map fun y => (p, y)) b w e' w' := by
 obtain ⟨xi, hxi⟩ : ∃ xi : Int, xi = ((x + 1 : Nat) : Int) := ⟨_, rfl⟩
 have hS := ex_go hO hG hSb hT hR hx xi hxi
 have hx1 := hR.x
 have hfz := hR.fz 1
 have lb := hR.lt
 have bw : b ≠ w.heap.size := Nat.ne_of_lt lb
 have wb : w.heap.size ≠ b := Ne.symm bw
 obtain ⟨R, hQ⟩ : ∃ R, (ruE deep e x).map (fun y => (p, y)) = R := ⟨_, rfl⟩
 rw [hQ]
 rw [ruE_eq, decide_eq_true hx, decide_eq_true hd0, Bool.true_and, Bool.true_and] at hQ
 have wx : IntKind.i64.wrap ((x : Int) + 1) = xi := by rw [IntKind.wrap_i64]; omega
 have wd : IntKind.i64.wrap ((deep : Int) + 1) = ((deep + 1 : Nat) : Int) := by rw [IntKind.wrap_i64]; omega
 have gx : ((x : Int) + 1 ≤ 2048) := by omega
 have gx2 : xi ≤ 2048 := by omega
 have gd : ((deep : Int) ≤ 24) := by omega
 have hd : deep + 1 ≤ 30 := by omega
 have kN := pnumb e.tx
 have kI := isName_any e.tx hz
 have kW := pword e.ty
 have kB := pbare e.op e.ty e.tx pp e.ks.len qq
 have kF := popFor e.op
 have lf1 := opf1
 have eT := txt_e e.tx
 have eW := txt_e (wdOf e.ty)
 have eF := txt_e (ofT e.op).2.1
 have eY : (e.ty == 0) = decide (e.ty = 0) := by by_cases h : e.ty = 0 <;> simp [h]
 have eL : (((e.ks.len : Nat) : Int) == 1) = decide (e.ks.len = 1) := by
  by_cases h : e.ks.len = 1
  ·rw [h]; rfl
  ·rw [decide_eq_false h, beq_eq_false_iff_ne]; omega
 rw [hop] at hQ kB kF eF hS ⊢
 have hE : exOk (7 : Int) e.tx e.ty e.ks.len = (decide (e.tx = tx0) && (decide (1 ≤ e.ty ∧ e.ty ≤ 3) && decide (e.ks.len = 1))) := by unfold exOk; rw [if_neg (by decide), if_neg (by decide), if_neg (by decide), if_pos rfl]
 rw [hE] at hQ
 clear hE
 have eW2 := wd_ne e.ty
 rw [eW2] at eW
 clear eW2
 generalize decide (1 ≤ e.ty ∧ e.ty ≤ 3) = bW at *
 have hxi' : Hid (xi = ((x + 1 : Nat) : Int)) := hxi
 clear hR hT hO hx hd0 hxi
 generalize isNum e.tx = bN at *
 generalize isN e.tx.toList = bI at *
 generalize decide (e.ty = 0) = bY at *
 generalize decide (e.tx = tx0) = bT at *
 generalize decide (e.ks.len = 1) = bL at *
 generalize wdOf e.ty = tw at *
 generalize (ofT 7).1 = o1 at *
 generalize (ofT 7).2.1 = o2 at *
 generalize (ofT 7).2.2 = o3 at *
 have hQ' : Hid (_ = R) := hQ
 clear hQ hop
 generalize e.tx = tx at *
 generalize e.ty = ty at *
 generalize hks : e.ks = ks at *
 generalize hm : ks.len = m at *
 go_enter Tryz.func102, Tryz.ntmps102
 go_upto_region 2 with fail
 obtain ⟨V, hV⟩ : ∃ V, (w.setCell ⟨b, 1, none⟩ (.int .i64 xi)).alloc (.cells #[.int .i64 7, .string tx, .int .i64 ty, .slice pp m qq] 85) = V := ⟨_, rfl⟩
 rw [hV] at hS
 rw [hV]
 obtain ⟨B, hB⟩ : ∃ B, w.heap.size = B := ⟨_, rfl⟩
 rw [hB] at hS
 (try rw [hB])
 clear hV hB
 have c1 := hS.R.x
 rw [show (((p, x + 1).2 : Nat) : Int) = xi from hxi'.out.symm] at c1
 have c0 := hS.R.p
 obtain ⟨f0, f1, f2, f3, ff⟩ := ex_cells hS.q
 cases bT with
 | false =>
  obtain rfl : R = none := by rw [← hQ'.out]; rfl
  clear hQ' kA
  go_wp2_with (first
   | (go_at_call 68; (with_reducible refine (pmust_yes _).mono ?_); rintro e v1 ⟨rfl, rfl⟩)
   | (go_at_call 68; (with_reducible refine (pmust_no _).mono ?_); rintro e v1 ⟨rfl, rfl⟩)
   | (go_at_call 33; (refine (kW _).mono ?_); rintro e v1 ⟨rfl, rfl⟩)
   | (go_at_call 116; (refine (kB _).mono ?_); rintro e v1 ⟨rfl, g1⟩; replace hS := hS.bel g1; obtain ⟨f0, f1, f2, f3, ff⟩ := ex_cells hS.q)
   | fail)
  exact ⟨rfl, hS.on, rfl⟩
 | true =>
  cases bW with
  | false =>
   obtain rfl : R = none := by rw [← hQ'.out]; rfl
   clear hQ' kA
   go_wp2_with (first
    | (go_at_call 68; (with_reducible refine (pmust_yes _).mono ?_); rintro e v1 ⟨rfl, rfl⟩)
    | (go_at_call 68; (with_reducible refine (pmust_no _).mono ?_); rintro e v1 ⟨rfl, rfl⟩)
    | (go_at_call 33; (refine (kW _).mono ?_); rintro e v1 ⟨rfl, rfl⟩)
    | (go_at_call 116; (refine (kB _).mono ?_); rintro e v1 ⟨rfl, g1⟩; replace hS := hS.bel g1; obtain ⟨f0, f1, f2, f3, ff⟩ := ex_cells hS.q)
    | fail)
   exact ⟨rfl, hS.on, rfl⟩
  | true =>
   cases bL with
   | false =>
    obtain rfl : R = none := by rw [← hQ'.out]; rfl
    clear hQ' kA
    go_wp2_with (first
     | (go_at_call 68; (with_reducible refine (pmust_yes _).mono ?_); rintro e v1 ⟨rfl, rfl⟩)
     | (go_at_call 68; (with_reducible refine (pmust_no _).mono ?_); rintro e v1 ⟨rfl, rfl⟩)
     | (go_at_call 33; (refine (kW _).mono ?_); rintro e v1 ⟨rfl, rfl⟩)
     | (go_at_call 116; (refine (kB _).mono ?_); rintro e v1 ⟨rfl, g1⟩; replace hS := hS.bel g1; obtain ⟨f0, f1, f2, f3, ff⟩ := ex_cells hS.q)
     | fail)
    exact ⟨rfl, hS.on, rfl⟩
   | true =>
    have e0 : Hid ((ruF (deep + 1) ks (x + 1)).map (fun y => (p, y)) = R) := hQ'.out
    clear hQ'
    unfold SpX at kA
    have kA2 := fun V hO h1 h2 => kA (deep + 1) p (x + 1) (fun k => S k ∧ k < B) (.slice pp m qq) b V hd hO hG h1 h2
    rw [e0.out] at kA2
    clear kA
    cases R with
    | none =>
     go_wp2_with (first
      | (go_at_call 68; (with_reducible refine (pmust_yes _).mono ?_); rintro e v1 ⟨rfl, rfl⟩)
      | (go_at_call 68; (with_reducible refine (pmust_no _).mono ?_); rintro e v1 ⟨rfl, rfl⟩)
      | (go_at_call 33; (refine (kW _).mono ?_); rintro e v1 ⟨rfl, rfl⟩)
      | (go_at_call 116; (refine (kB _).mono ?_); rintro e v1 ⟨rfl, g1⟩; replace hS := hS.bel g1; obtain ⟨f0, f1, f2, f3, ff⟩ := ex_cells hS.q)
      | (go_at_call 101; (refine (kA2 _ hS.O (fun a => (hS.hS _ a).1 rfl) hS.T hS.R).mono ?_); rintro e v1 ⟨on1, rfl⟩; replace hS := hS.on.trans on1; clear kA2)
      | fail)
     exact ⟨rfl, hS, rfl⟩
    | some c =>
     go_wp2_with (first
      | (go_at_call 68; (with_reducible refine (pmust_yes _).mono ?_); rintro e v1 ⟨rfl, rfl⟩)
      | (go_at_call 68; (with_reducible refine (pmust_no _).mono ?_); rintro e v1 ⟨rfl, rfl⟩)
      | (go_at_call 33; (refine (kW _).mono ?_); rintro e v1 ⟨rfl, rfl⟩)
      | (go_at_call 116; (refine (kB _).mono ?_); rintro e v1 ⟨rfl, g1⟩; replace hS := hS.bel g1; obtain ⟨f0, f1, f2, f3, ff⟩ := ex_cells hS.q)
      | (go_at_call 101; (refine (kA2 _ hS.O (fun a => (hS.hS _ a).1 rfl) hS.T hS.R).mono ?_); rintro e v1 ⟨on1, ⟨rfl, h1⟩⟩; replace hS := hS.on.trans on1; clear kA2)
      | fail)
     exact bodyPost_end (v := .tuple #[]) (by simp [results, Tryz.results102, go_sem]) rfl ⟨hS, rfl, h1⟩
set_option maxRecDepth 100000 in
set_option maxHeartbeats 1600000 in
theorem ex_4 (e : Ex) (hop : e.op = 4) (hz : e.tx.size ≤ 9223372036854775807) (kA : SpX e.ks) (deep p x : Nat) (S : Nat → Prop) (pp : Option Addr) (qq b : Nat) (w : World) (hd0 : deep ≤ 24) (hx : x + 1 ≤ 2048) (hO : OpsAt w) (hG : b ≠ 0) (hSb : ¬ S b) (hT : SlF w S (.slice pp e.ks.len qq) e.ks) (hR : RuAt w b (p, x)) :
  Calls Tryz.prog 102 #[.pointer (some ⟨b, 0, none⟩), .agg #[.int .i64 e.op, .string e.tx, .int .i64 e.ty, .slice pp e.ks.len qq], .int .i64 deep] w fun e' w' => RuR ((ruE deep e x).map fun y => (p, y)) b w e' w' := by
 obtain ⟨xi, hxi⟩ : ∃ xi : Int, xi = ((x + 1 : Nat) : Int) := ⟨_, rfl⟩
 have hS := ex_go hO hG hSb hT hR hx xi hxi
 have hx1 := hR.x
 have hfz := hR.fz 1
 have lb := hR.lt
 have bw : b ≠ w.heap.size := Nat.ne_of_lt lb
 have wb : w.heap.size ≠ b := Ne.symm bw
 obtain ⟨R, hQ⟩ : ∃ R, (ruE deep e x).map (fun y => (p, y)) = R := ⟨_, rfl⟩
 rw [hQ]
 rw [ruE_eq, decide_eq_true hx, decide_eq_true hd0, Bool.true_and, Bool.true_and] at hQ
 have wx : IntKind.i64.wrap ((x : Int) + 1) = xi := by rw [IntKind.wrap_i64]; omega
 have wd : IntKind.i64.wrap ((deep : Int) + 1) = ((deep + 1 : Nat) : Int) := by rw [IntKind.wrap_i64]; omega
 have gx : ((x : Int) + 1 ≤ 2048) := by omega
 have gx2 : xi ≤ 2048 := by omega
 have gd : ((deep : Int) ≤ 24) := by omega
 have hd : deep + 1 ≤ 30 := by omega
 have kN := pnumb e.tx
 have kI := isName_any e.tx hz
 have kW := pword e.ty
 have kB := pbare e.op e.ty e.tx pp e.ks.len qq
 have kF := popFor e.op
 have lf1 := opf1
 have eT := txt_e e.tx
 have eW := txt_e (wdOf e.ty)
 have eF := txt_e (ofT e.op).2.1
 have eY : (e.ty == 0) = decide (e.ty = 0) := by by_cases h : e.ty = 0 <;> simp [h]
 have eL : (((e.ks.len : Nat) : Int) == 1) = decide (e.ks.len = 1) := by
  by_cases h : e.ks.len = 1
  ·rw [h]; rfl
  ·rw [decide_eq_false h, beq_eq_false_iff_ne]; omega
 rw [hop] at hQ kB kF eF hS ⊢
 have hE : exOk (4 : Int) e.tx e.ty e.ks.len = (decide (e.tx = tx0) && (decide (e.ty = 0) && decide (e.ks.len = 1))) := by unfold exOk; rw [if_neg (by decide), if_neg (by decide), if_neg (by decide), if_neg (by decide), if_pos (by decide)]
 rw [hE] at hQ
 clear hE
 have hxi' : Hid (xi = ((x + 1 : Nat) : Int)) := hxi
 clear hR hT hO hx hd0 hxi
 generalize isNum e.tx = bN at *
 generalize isN e.tx.toList = bI at *
 generalize decide (e.ty = 0) = bY at *
 generalize decide (e.tx = tx0) = bT at *
 generalize decide (e.ks.len = 1) = bL at *
 generalize wdOf e.ty = tw at *
 generalize (ofT 4).1 = o1 at *
 generalize (ofT 4).2.1 = o2 at *
 generalize (ofT 4).2.2 = o3 at *
 have hQ' : Hid (_ = R) := hQ
 clear hQ hop
 generalize e.tx = tx at *
 generalize e.ty = ty at *
 generalize hks : e.ks = ks at *
 generalize hm : ks.len = m at *
 go_enter Tryz.func102, Tryz.ntmps102
 go_upto_region 2 with fail
 obtain ⟨V, hV⟩ : ∃ V, (w.setCell ⟨b, 1, none⟩ (.int .i64 xi)).alloc (.cells #[.int .i64 4, .string tx, .int .i64 ty, .slice pp m qq] 85) = V := ⟨_, rfl⟩
 rw [hV] at hS
 rw [hV]
 obtain ⟨B, hB⟩ : ∃ B, w.heap.size = B := ⟨_, rfl⟩
 rw [hB] at hS
 (try rw [hB])
 clear hV hB
 have c1 := hS.R.x
 rw [show (((p, x + 1).2 : Nat) : Int) = xi from hxi'.out.symm] at c1
 have c0 := hS.R.p
 obtain ⟨f0, f1, f2, f3, ff⟩ := ex_cells hS.q
 cases bT with
 | false =>
  obtain rfl : R = none := by rw [← hQ'.out]; rfl
  clear hQ' kA
  go_wp2_with (first
   | (go_at_call 68; (with_reducible refine (pmust_yes _).mono ?_); rintro e v1 ⟨rfl, rfl⟩)
   | (go_at_call 68; (with_reducible refine (pmust_no _).mono ?_); rintro e v1 ⟨rfl, rfl⟩)
   | (go_at_call 116; (refine (kB _).mono ?_); rintro e v1 ⟨rfl, g1⟩; replace hS := hS.bel g1; obtain ⟨f0, f1, f2, f3, ff⟩ := ex_cells hS.q)
   | fail)
  exact ⟨rfl, hS.on, rfl⟩
 | true =>
  cases bY with
  | false =>
   obtain rfl : R = none := by rw [← hQ'.out]; rfl
   clear hQ' kA
   go_wp2_with (first
    | (go_at_call 68; (with_reducible refine (pmust_yes _).mono ?_); rintro e v1 ⟨rfl, rfl⟩)
    | (go_at_call 68; (with_reducible refine (pmust_no _).mono ?_); rintro e v1 ⟨rfl, rfl⟩)
    | (go_at_call 116; (refine (kB _).mono ?_); rintro e v1 ⟨rfl, g1⟩; replace hS := hS.bel g1; obtain ⟨f0, f1, f2, f3, ff⟩ := ex_cells hS.q)
    | fail)
   exact ⟨rfl, hS.on, rfl⟩
  | true =>
   cases bL with
   | false =>
    obtain rfl : R = none := by rw [← hQ'.out]; rfl
    clear hQ' kA
    go_wp2_with (first
     | (go_at_call 68; (with_reducible refine (pmust_yes _).mono ?_); rintro e v1 ⟨rfl, rfl⟩)
     | (go_at_call 68; (with_reducible refine (pmust_no _).mono ?_); rintro e v1 ⟨rfl, rfl⟩)
     | (go_at_call 116; (refine (kB _).mono ?_); rintro e v1 ⟨rfl, g1⟩; replace hS := hS.bel g1; obtain ⟨f0, f1, f2, f3, ff⟩ := ex_cells hS.q)
     | fail)
    exact ⟨rfl, hS.on, rfl⟩
   | true =>
    have e0 : Hid ((ruF (deep + 1) ks (x + 1)).map (fun y => (p, y)) = R) := hQ'.out
    clear hQ'
    unfold SpX at kA
    have kA2 := fun V hO h1 h2 => kA (deep + 1) p (x + 1) (fun k => S k ∧ k < B) (.slice pp m qq) b V hd hO hG h1 h2
    rw [e0.out] at kA2
    clear kA
    cases R with
    | none =>
     go_wp2_with (first
      | (go_at_call 68; (with_reducible refine (pmust_yes _).mono ?_); rintro e v1 ⟨rfl, rfl⟩)
      | (go_at_call 68; (with_reducible refine (pmust_no _).mono ?_); rintro e v1 ⟨rfl, rfl⟩)
      | (go_at_call 116; (refine (kB _).mono ?_); rintro e v1 ⟨rfl, g1⟩; replace hS := hS.bel g1; obtain ⟨f0, f1, f2, f3, ff⟩ := ex_cells hS.q)
      | (go_at_call 101; (refine (kA2 _ hS.O (fun a => (hS.hS _ a).1 rfl) hS.T hS.R).mono ?_); rintro e v1 ⟨on1, rfl⟩; replace hS := hS.on.trans on1; clear kA2)
      | fail)
     exact ⟨rfl, hS, rfl⟩
    | some c =>
     go_wp2_with (first
      | (go_at_call 68; (with_reducible refine (pmust_yes _).mono ?_); rintro e v1 ⟨rfl, rfl⟩)
      | (go_at_call 68; (with_reducible refine (pmust_no _).mono ?_); rintro e v1 ⟨rfl, rfl⟩)
      | (go_at_call 116; (refine (kB _).mono ?_); rintro e v1 ⟨rfl, g1⟩; replace hS := hS.bel g1; obtain ⟨f0, f1, f2, f3, ff⟩ := ex_cells hS.q)
      | (go_at_call 101; (refine (kA2 _ hS.O (fun a => (hS.hS _ a).1 rfl) hS.T hS.R).mono ?_); rintro e v1 ⟨on1, ⟨rfl, h1⟩⟩; replace hS := hS.on.trans on1; clear kA2)
      | fail)
     exact bodyPost_end (v := .tuple #[]) (by simp [results, Tryz.results102, go_sem]) rfl ⟨hS, rfl, h1⟩
set_option maxRecDepth 100000 in
set_option maxHeartbeats 1600000 in
theorem ex_20 (e : Ex) (hop : e.op = 20) (hz : e.tx.size ≤ 9223372036854775807) (kA : SpX e.ks) (deep p x : Nat) (S : Nat → Prop) (pp : Option Addr) (qq b : Nat) (w : World) (hd0 : deep ≤ 24) (hx : x + 1 ≤ 2048) (hO : OpsAt w) (hG : b ≠ 0) (hSb : ¬ S b) (hT : SlF w S (.slice pp e.ks.len qq) e.ks) (hR : RuAt w b (p, x)) :
  Calls Tryz.prog 102 #[.pointer (some ⟨b, 0, none⟩), .agg #[.int .i64 e.op, .string e.tx, .int .i64 e.ty, .slice pp e.ks.len qq], .int .i64 deep] w fun e' w' => RuR ((ruE deep e x).map fun y => (p, y)) b w e' w' := by
 obtain ⟨xi, hxi⟩ : ∃ xi : Int, xi = ((x + 1 : Nat) : Int) := ⟨_, rfl⟩
 have hS := ex_go hO hG hSb hT hR hx xi hxi
 have hx1 := hR.x
 have hfz := hR.fz 1
 have lb := hR.lt
 have bw : b ≠ w.heap.size := Nat.ne_of_lt lb
 have wb : w.heap.size ≠ b := Ne.symm bw
 obtain ⟨R, hQ⟩ : ∃ R, (ruE deep e x).map (fun y => (p, y)) = R := ⟨_, rfl⟩
 rw [hQ]
 rw [ruE_eq, decide_eq_true hx, decide_eq_true hd0, Bool.true_and, Bool.true_and] at hQ
 have wx : IntKind.i64.wrap ((x : Int) + 1) = xi := by rw [IntKind.wrap_i64]; omega
 have wd : IntKind.i64.wrap ((deep : Int) + 1) = ((deep + 1 : Nat) : Int) := by rw [IntKind.wrap_i64]; omega
 have gx : ((x : Int) + 1 ≤ 2048) := by omega
 have gx2 : xi ≤ 2048 := by omega
 have gd : ((deep : Int) ≤ 24) := by omega
 have hd : deep + 1 ≤ 30 := by omega
 have kN := pnumb e.tx
 have kI := isName_any e.tx hz
 have kW := pword e.ty
 have kB := pbare e.op e.ty e.tx pp e.ks.len qq
 have kF := popFor e.op
 have lf1 := opf1
 have eT := txt_e e.tx
 have eW := txt_e (wdOf e.ty)
 have eF := txt_e (ofT e.op).2.1
 have eY : (e.ty == 0) = decide (e.ty = 0) := by by_cases h : e.ty = 0 <;> simp [h]
 have eL : (((e.ks.len : Nat) : Int) == 1) = decide (e.ks.len = 1) := by
  by_cases h : e.ks.len = 1
  ·rw [h]; rfl
  ·rw [decide_eq_false h, beq_eq_false_iff_ne]; omega
 rw [hop] at hQ kB kF eF hS ⊢
 have hE : exOk (20 : Int) e.tx e.ty e.ks.len = (decide (e.tx = tx0) && (decide (e.ty = 0) && decide (e.ks.len = 1))) := by unfold exOk; rw [if_neg (by decide), if_neg (by decide), if_neg (by decide), if_neg (by decide), if_pos (by decide)]
 rw [hE] at hQ
 clear hE
 have hxi' : Hid (xi = ((x + 1 : Nat) : Int)) := hxi
 clear hR hT hO hx hd0 hxi
 generalize isNum e.tx = bN at *
 generalize isN e.tx.toList = bI at *
 generalize decide (e.ty = 0) = bY at *
 generalize decide (e.tx = tx0) = bT at *
 generalize decide (e.ks.len = 1) = bL at *
 generalize wdOf e.ty = tw at *
 generalize (ofT 20).1 = o1 at *
 generalize (ofT 20).2.1 = o2 at *
 generalize (ofT 20).2.2 = o3 at *
 have hQ' : Hid (_ = R) := hQ
 clear hQ hop
 generalize e.tx = tx at *
 generalize e.ty = ty at *
 generalize hks : e.ks = ks at *
 generalize hm : ks.len = m at *
 go_enter Tryz.func102, Tryz.ntmps102
 go_upto_region 2 with fail
 obtain ⟨V, hV⟩ : ∃ V, (w.setCell ⟨b, 1, none⟩ (.int .i64 xi)).alloc (.cells #[.int .i64 20, .string tx, .int .i64 ty, .slice pp m qq] 85) = V := ⟨_, rfl⟩
 rw [hV] at hS
 rw [hV]
 obtain ⟨B, hB⟩ : ∃ B, w.heap.size = B := ⟨_, rfl⟩
 rw [hB] at hS
 (try rw [hB])
 clear hV hB
 have c1 := hS.R.x
 rw [show (((p, x + 1).2 : Nat) : Int) = xi from hxi'.out.symm] at c1
 have c0 := hS.R.p
 obtain ⟨f0, f1, f2, f3, ff⟩ := ex_cells hS.q
 cases bT with
 | false =>
  obtain rfl : R = none := by rw [← hQ'.out]; rfl
  clear hQ' kA
  go_wp2_with (first
   | (go_at_call 68; (with_reducible refine (pmust_yes _).mono ?_); rintro e v1 ⟨rfl, rfl⟩)
   | (go_at_call 68; (with_reducible refine (pmust_no _).mono ?_); rintro e v1 ⟨rfl, rfl⟩)
   | (go_at_call 116; (refine (kB _).mono ?_); rintro e v1 ⟨rfl, g1⟩; replace hS := hS.bel g1; obtain ⟨f0, f1, f2, f3, ff⟩ := ex_cells hS.q)
   | fail)
  exact ⟨rfl, hS.on, rfl⟩
 | true =>
  cases bY with
  | false =>
   obtain rfl : R = none := by rw [← hQ'.out]; rfl
   clear hQ' kA
   go_wp2_with (first
    | (go_at_call 68; (with_reducible refine (pmust_yes _).mono ?_); rintro e v1 ⟨rfl, rfl⟩)
    | (go_at_call 68; (with_reducible refine (pmust_no _).mono ?_); rintro e v1 ⟨rfl, rfl⟩)
    | (go_at_call 116; (refine (kB _).mono ?_); rintro e v1 ⟨rfl, g1⟩; replace hS := hS.bel g1; obtain ⟨f0, f1, f2, f3, ff⟩ := ex_cells hS.q)
    | fail)
   exact ⟨rfl, hS.on, rfl⟩
  | true =>
   cases bL with
   | false =>
    obtain rfl : R = none := by rw [← hQ'.out]; rfl
    clear hQ' kA
    go_wp2_with (first
     | (go_at_call 68; (with_reducible refine (pmust_yes _).mono ?_); rintro e v1 ⟨rfl, rfl⟩)
     | (go_at_call 68; (with_reducible refine (pmust_no _).mono ?_); rintro e v1 ⟨rfl, rfl⟩)
     | (go_at_call 116; (refine (kB _).mono ?_); rintro e v1 ⟨rfl, g1⟩; replace hS := hS.bel g1; obtain ⟨f0, f1, f2, f3, ff⟩ := ex_cells hS.q)
     | fail)
    exact ⟨rfl, hS.on, rfl⟩
   | true =>
    have e0 : Hid ((ruF (deep + 1) ks (x + 1)).map (fun y => (p, y)) = R) := hQ'.out
    clear hQ'
    unfold SpX at kA
    have kA2 := fun V hO h1 h2 => kA (deep + 1) p (x + 1) (fun k => S k ∧ k < B) (.slice pp m qq) b V hd hO hG h1 h2
    rw [e0.out] at kA2
    clear kA
    cases R with
    | none =>
     go_wp2_with (first
      | (go_at_call 68; (with_reducible refine (pmust_yes _).mono ?_); rintro e v1 ⟨rfl, rfl⟩)
      | (go_at_call 68; (with_reducible refine (pmust_no _).mono ?_); rintro e v1 ⟨rfl, rfl⟩)
      | (go_at_call 116; (refine (kB _).mono ?_); rintro e v1 ⟨rfl, g1⟩; replace hS := hS.bel g1; obtain ⟨f0, f1, f2, f3, ff⟩ := ex_cells hS.q)
      | (go_at_call 101; (refine (kA2 _ hS.O (fun a => (hS.hS _ a).1 rfl) hS.T hS.R).mono ?_); rintro e v1 ⟨on1, rfl⟩; replace hS := hS.on.trans on1; clear kA2)
      | fail)
     exact ⟨rfl, hS, rfl⟩
    | some c =>
     go_wp2_with (first
      | (go_at_call 68; (with_reducible refine (pmust_yes _).mono ?_); rintro e v1 ⟨rfl, rfl⟩)
      | (go_at_call 68; (with_reducible refine (pmust_no _).mono ?_); rintro e v1 ⟨rfl, rfl⟩)
      | (go_at_call 116; (refine (kB _).mono ?_); rintro e v1 ⟨rfl, g1⟩; replace hS := hS.bel g1; obtain ⟨f0, f1, f2, f3, ff⟩ := ex_cells hS.q)
      | (go_at_call 101; (refine (kA2 _ hS.O (fun a => (hS.hS _ a).1 rfl) hS.T hS.R).mono ?_); rintro e v1 ⟨on1, ⟨rfl, h1⟩⟩; replace hS := hS.on.trans on1; clear kA2)
      | fail)
     exact bodyPost_end (v := .tuple #[]) (by simp [results, Tryz.results102, go_sem]) rfl ⟨hS, rfl, h1⟩
set_option maxRecDepth 100000 in
set_option maxHeartbeats 1600000 in
theorem ex_5 (e : Ex) (hop : e.op = 5) (hz : e.tx.size ≤ 9223372036854775807) (kA : SpX e.ks) (deep p x : Nat) (S : Nat → Prop) (pp : Option Addr) (qq b : Nat) (w : World) (hd0 : deep ≤ 24) (hx : x + 1 ≤ 2048) (hO : OpsAt w) (hG : b ≠ 0) (hSb : ¬ S b) (hT : SlF w S (.slice pp e.ks.len qq) e.ks) (hR : RuAt w b (p, x)) :
  Calls Tryz.prog 102 #[.pointer (some ⟨b, 0, none⟩), .agg #[.int .i64 e.op, .string e.tx, .int .i64 e.ty, .slice pp e.ks.len qq], .int .i64 deep] w fun e' w' => RuR ((ruE deep e x).map fun y => (p, y)) b w e' w' := by
 obtain ⟨xi, hxi⟩ : ∃ xi : Int, xi = ((x + 1 : Nat) : Int) := ⟨_, rfl⟩
 have hS := ex_go hO hG hSb hT hR hx xi hxi
 have hx1 := hR.x
 have hfz := hR.fz 1
 have lb := hR.lt
 have bw : b ≠ w.heap.size := Nat.ne_of_lt lb
 have wb : w.heap.size ≠ b := Ne.symm bw
 obtain ⟨R, hQ⟩ : ∃ R, (ruE deep e x).map (fun y => (p, y)) = R := ⟨_, rfl⟩
 rw [hQ]
 rw [ruE_eq, decide_eq_true hx, decide_eq_true hd0, Bool.true_and, Bool.true_and] at hQ
 have wx : IntKind.i64.wrap ((x : Int) + 1) = xi := by rw [IntKind.wrap_i64]; omega
 have wd : IntKind.i64.wrap ((deep : Int) + 1) = ((deep + 1 : Nat) : Int) := by rw [IntKind.wrap_i64]; omega
 have gx : ((x : Int) + 1 ≤ 2048) := by omega
 have gx2 : xi ≤ 2048 := by omega
 have gd : ((deep : Int) ≤ 24) := by omega
 have hd : deep + 1 ≤ 30 := by omega
 have kN := pnumb e.tx
 have kI := isName_any e.tx hz
 have kW := pword e.ty
 have kB := pbare e.op e.ty e.tx pp e.ks.len qq
 have kF := popFor e.op
 have lf1 := opf1
 have eT := txt_e e.tx
 have eW := txt_e (wdOf e.ty)
 have eF := txt_e (ofT e.op).2.1
 have eY : (e.ty == 0) = decide (e.ty = 0) := by by_cases h : e.ty = 0 <;> simp [h]
 have eL : (((e.ks.len : Nat) : Int) == 1) = decide (e.ks.len = 1) := by
  by_cases h : e.ks.len = 1
  ·rw [h]; rfl
  ·rw [decide_eq_false h, beq_eq_false_iff_ne]; omega
 rw [hop] at hQ kB kF eF hS ⊢
 have hE : exOk (5 : Int) e.tx e.ty e.ks.len = (decide (e.tx = tx0) && (decide (e.ty = 0) && decide (e.ks.len = 1))) := by unfold exOk; rw [if_neg (by decide), if_neg (by decide), if_neg (by decide), if_neg (by decide), if_pos (by decide)]
 rw [hE] at hQ
 clear hE
 have hxi' : Hid (xi = ((x + 1 : Nat) : Int)) := hxi
 clear hR hT hO hx hd0 hxi
 generalize isNum e.tx = bN at *
 generalize isN e.tx.toList = bI at *
 generalize decide (e.ty = 0) = bY at *
 generalize decide (e.tx = tx0) = bT at *
 generalize decide (e.ks.len = 1) = bL at *
 generalize wdOf e.ty = tw at *
 generalize (ofT 5).1 = o1 at *
 generalize (ofT 5).2.1 = o2 at *
 generalize (ofT 5).2.2 = o3 at *
 have hQ' : Hid (_ = R) := hQ
 clear hQ hop
 generalize e.tx = tx at *
 generalize e.ty = ty at *
 generalize hks : e.ks = ks at *
 generalize hm : ks.len = m at *
 go_enter Tryz.func102, Tryz.ntmps102
 go_upto_region 2 with fail
 obtain ⟨V, hV⟩ : ∃ V, (w.setCell ⟨b, 1, none⟩ (.int .i64 xi)).alloc (.cells #[.int .i64 5, .string tx, .int .i64 ty, .slice pp m qq] 85) = V := ⟨_, rfl⟩
 rw [hV] at hS
 rw [hV]
 obtain ⟨B, hB⟩ : ∃ B, w.heap.size = B := ⟨_, rfl⟩
 rw [hB] at hS
 (try rw [hB])
 clear hV hB
 have c1 := hS.R.x
 rw [show (((p, x + 1).2 : Nat) : Int) = xi from hxi'.out.symm] at c1
 have c0 := hS.R.p
 obtain ⟨f0, f1, f2, f3, ff⟩ := ex_cells hS.q
 cases bT with
 | false =>
  obtain rfl : R = none := by rw [← hQ'.out]; rfl
  clear hQ' kA
  go_wp2_with (first
   | (go_at_call 68; (with_reducible refine (pmust_yes _).mono ?_); rintro e v1 ⟨rfl, rfl⟩)
   | (go_at_call 68; (with_reducible refine (pmust_no _).mono ?_); rintro e v1 ⟨rfl, rfl⟩)
   | (go_at_call 116; (refine (kB _).mono ?_); rintro e v1 ⟨rfl, g1⟩; replace hS := hS.bel g1; obtain ⟨f0, f1, f2, f3, ff⟩ := ex_cells hS.q)
   | fail)
  exact ⟨rfl, hS.on, rfl⟩
 | true =>
  cases bY with
  | false =>
   obtain rfl : R = none := by rw [← hQ'.out]; rfl
   clear hQ' kA
   go_wp2_with (first
    | (go_at_call 68; (with_reducible refine (pmust_yes _).mono ?_); rintro e v1 ⟨rfl, rfl⟩)
    | (go_at_call 68; (with_reducible refine (pmust_no _).mono ?_); rintro e v1 ⟨rfl, rfl⟩)
    | (go_at_call 116; (refine (kB _).mono ?_); rintro e v1 ⟨rfl, g1⟩; replace hS := hS.bel g1; obtain ⟨f0, f1, f2, f3, ff⟩ := ex_cells hS.q)
    | fail)
   exact ⟨rfl, hS.on, rfl⟩
  | true =>
   cases bL with
   | false =>
    obtain rfl : R = none := by rw [← hQ'.out]; rfl
    clear hQ' kA
    go_wp2_with (first
     | (go_at_call 68; (with_reducible refine (pmust_yes _).mono ?_); rintro e v1 ⟨rfl, rfl⟩)
     | (go_at_call 68; (with_reducible refine (pmust_no _).mono ?_); rintro e v1 ⟨rfl, rfl⟩)
     | (go_at_call 116; (refine (kB _).mono ?_); rintro e v1 ⟨rfl, g1⟩; replace hS := hS.bel g1; obtain ⟨f0, f1, f2, f3, ff⟩ := ex_cells hS.q)
     | fail)
    exact ⟨rfl, hS.on, rfl⟩
   | true =>
    have e0 : Hid ((ruF (deep + 1) ks (x + 1)).map (fun y => (p, y)) = R) := hQ'.out
    clear hQ'
    unfold SpX at kA
    have kA2 := fun V hO h1 h2 => kA (deep + 1) p (x + 1) (fun k => S k ∧ k < B) (.slice pp m qq) b V hd hO hG h1 h2
    rw [e0.out] at kA2
    clear kA
    cases R with
    | none =>
     go_wp2_with (first
      | (go_at_call 68; (with_reducible refine (pmust_yes _).mono ?_); rintro e v1 ⟨rfl, rfl⟩)
      | (go_at_call 68; (with_reducible refine (pmust_no _).mono ?_); rintro e v1 ⟨rfl, rfl⟩)
      | (go_at_call 116; (refine (kB _).mono ?_); rintro e v1 ⟨rfl, g1⟩; replace hS := hS.bel g1; obtain ⟨f0, f1, f2, f3, ff⟩ := ex_cells hS.q)
      | (go_at_call 101; (refine (kA2 _ hS.O (fun a => (hS.hS _ a).1 rfl) hS.T hS.R).mono ?_); rintro e v1 ⟨on1, rfl⟩; replace hS := hS.on.trans on1; clear kA2)
      | fail)
     exact ⟨rfl, hS, rfl⟩
    | some c =>
     go_wp2_with (first
      | (go_at_call 68; (with_reducible refine (pmust_yes _).mono ?_); rintro e v1 ⟨rfl, rfl⟩)
      | (go_at_call 68; (with_reducible refine (pmust_no _).mono ?_); rintro e v1 ⟨rfl, rfl⟩)
      | (go_at_call 116; (refine (kB _).mono ?_); rintro e v1 ⟨rfl, g1⟩; replace hS := hS.bel g1; obtain ⟨f0, f1, f2, f3, ff⟩ := ex_cells hS.q)
      | (go_at_call 101; (refine (kA2 _ hS.O (fun a => (hS.hS _ a).1 rfl) hS.T hS.R).mono ?_); rintro e v1 ⟨on1, ⟨rfl, h1⟩⟩; replace hS := hS.on.trans on1; clear kA2)
      | fail)
     exact bodyPost_end (v := .tuple #[]) (by simp [results, Tryz.results102, go_sem]) rfl ⟨hS, rfl, h1⟩
set_option maxRecDepth 100000 in
set_option maxHeartbeats 1600000 in
theorem ex_6 (e : Ex) (hop : e.op = 6) (hz : e.tx.size ≤ 9223372036854775807) (kA : SpX e.ks) (deep p x : Nat) (S : Nat → Prop) (pp : Option Addr) (qq b : Nat) (w : World) (hd0 : deep ≤ 24) (hx : x + 1 ≤ 2048) (hO : OpsAt w) (hG : b ≠ 0) (hSb : ¬ S b) (hT : SlF w S (.slice pp e.ks.len qq) e.ks) (hR : RuAt w b (p, x)) :
  Calls Tryz.prog 102 #[.pointer (some ⟨b, 0, none⟩), .agg #[.int .i64 e.op, .string e.tx, .int .i64 e.ty, .slice pp e.ks.len qq], .int .i64 deep] w fun e' w' => RuR ((ruE deep e x).map fun y => (p, y)) b w e' w' := by
 obtain ⟨xi, hxi⟩ : ∃ xi : Int, xi = ((x + 1 : Nat) : Int) := ⟨_, rfl⟩
 have hS := ex_go hO hG hSb hT hR hx xi hxi
 have hx1 := hR.x
 have hfz := hR.fz 1
 have lb := hR.lt
 have bw : b ≠ w.heap.size := Nat.ne_of_lt lb
 have wb : w.heap.size ≠ b := Ne.symm bw
 obtain ⟨R, hQ⟩ : ∃ R, (ruE deep e x).map (fun y => (p, y)) = R := ⟨_, rfl⟩
 rw [hQ]
 rw [ruE_eq, decide_eq_true hx, decide_eq_true hd0, Bool.true_and, Bool.true_and] at hQ
 have wx : IntKind.i64.wrap ((x : Int) + 1) = xi := by rw [IntKind.wrap_i64]; omega
 have wd : IntKind.i64.wrap ((deep : Int) + 1) = ((deep + 1 : Nat) : Int) := by rw [IntKind.wrap_i64]; omega
 have gx : ((x : Int) + 1 ≤ 2048) := by omega
 have gx2 : xi ≤ 2048 := by omega
 have gd : ((deep : Int) ≤ 24) := by omega
 have hd : deep + 1 ≤ 30 := by omega
 have kN := pnumb e.tx
 have kI := isName_any e.tx hz
 have kW := pword e.ty
 have kB := pbare e.op e.ty e.tx pp e.ks.len qq
 have kF := popFor e.op
 have lf1 := opf1
 have eT := txt_e e.tx
 have eW := txt_e (wdOf e.ty)
 have eF := txt_e (ofT e.op).2.1
 have eY : (e.ty == 0) = decide (e.ty = 0) := by by_cases h : e.ty = 0 <;> simp [h]
 have eL : (((e.ks.len : Nat) : Int) == 1) = decide (e.ks.len = 1) := by
  by_cases h : e.ks.len = 1
  ·rw [h]; rfl
  ·rw [decide_eq_false h, beq_eq_false_iff_ne]; omega
 rw [hop] at hQ kB kF eF hS ⊢
 have hE : exOk (6 : Int) e.tx e.ty e.ks.len = (decide (e.tx = tx0) && (decide (e.ty = 0) && decide (e.ks.len = 1))) := by unfold exOk; rw [if_neg (by decide), if_neg (by decide), if_neg (by decide), if_neg (by decide), if_pos (by decide)]
 rw [hE] at hQ
 clear hE
 have hxi' : Hid (xi = ((x + 1 : Nat) : Int)) := hxi
 clear hR hT hO hx hd0 hxi
 generalize isNum e.tx = bN at *
 generalize isN e.tx.toList = bI at *
 generalize decide (e.ty = 0) = bY at *
 generalize decide (e.tx = tx0) = bT at *
 generalize decide (e.ks.len = 1) = bL at *
 generalize wdOf e.ty = tw at *
 generalize (ofT 6).1 = o1 at *
 generalize (ofT 6).2.1 = o2 at *
 generalize (ofT 6).2.2 = o3 at *
 have hQ' : Hid (_ = R) := hQ
 clear hQ hop
 generalize e.tx = tx at *
 generalize e.ty = ty at *
 generalize hks : e.ks = ks at *
 generalize hm : ks.len = m at *
 go_enter Tryz.func102, Tryz.ntmps102
 go_upto_region 2 with fail
 obtain ⟨V, hV⟩ : ∃ V, (w.setCell ⟨b, 1, none⟩ (.int .i64 xi)).alloc (.cells #[.int .i64 6, .string tx, .int .i64 ty, .slice pp m qq] 85) = V := ⟨_, rfl⟩
 rw [hV] at hS
 rw [hV]
 obtain ⟨B, hB⟩ : ∃ B, w.heap.size = B := ⟨_, rfl⟩
 rw [hB] at hS
 (try rw [hB])
 clear hV hB
 have c1 := hS.R.x
 rw [show (((p, x + 1).2 : Nat) : Int) = xi from hxi'.out.symm] at c1
 have c0 := hS.R.p
 obtain ⟨f0, f1, f2, f3, ff⟩ := ex_cells hS.q
 cases bT with
 | false =>
  obtain rfl : R = none := by rw [← hQ'.out]; rfl
  clear hQ' kA
  go_wp2_with (first
   | (go_at_call 68; (with_reducible refine (pmust_yes _).mono ?_); rintro e v1 ⟨rfl, rfl⟩)
   | (go_at_call 68; (with_reducible refine (pmust_no _).mono ?_); rintro e v1 ⟨rfl, rfl⟩)
   | (go_at_call 116; (refine (kB _).mono ?_); rintro e v1 ⟨rfl, g1⟩; replace hS := hS.bel g1; obtain ⟨f0, f1, f2, f3, ff⟩ := ex_cells hS.q)
   | fail)
  exact ⟨rfl, hS.on, rfl⟩
 | true =>
  cases bY with
  | false =>
   obtain rfl : R = none := by rw [← hQ'.out]; rfl
   clear hQ' kA
   go_wp2_with (first
    | (go_at_call 68; (with_reducible refine (pmust_yes _).mono ?_); rintro e v1 ⟨rfl, rfl⟩)
    | (go_at_call 68; (with_reducible refine (pmust_no _).mono ?_); rintro e v1 ⟨rfl, rfl⟩)
    | (go_at_call 116; (refine (kB _).mono ?_); rintro e v1 ⟨rfl, g1⟩; replace hS := hS.bel g1; obtain ⟨f0, f1, f2, f3, ff⟩ := ex_cells hS.q)
    | fail)
   exact ⟨rfl, hS.on, rfl⟩
  | true =>
   cases bL with
   | false =>
    obtain rfl : R = none := by rw [← hQ'.out]; rfl
    clear hQ' kA
    go_wp2_with (first
     | (go_at_call 68; (with_reducible refine (pmust_yes _).mono ?_); rintro e v1 ⟨rfl, rfl⟩)
     | (go_at_call 68; (with_reducible refine (pmust_no _).mono ?_); rintro e v1 ⟨rfl, rfl⟩)
     | (go_at_call 116; (refine (kB _).mono ?_); rintro e v1 ⟨rfl, g1⟩; replace hS := hS.bel g1; obtain ⟨f0, f1, f2, f3, ff⟩ := ex_cells hS.q)
     | fail)
    exact ⟨rfl, hS.on, rfl⟩
   | true =>
    have e0 : Hid ((ruF (deep + 1) ks (x + 1)).map (fun y => (p, y)) = R) := hQ'.out
    clear hQ'
    unfold SpX at kA
    have kA2 := fun V hO h1 h2 => kA (deep + 1) p (x + 1) (fun k => S k ∧ k < B) (.slice pp m qq) b V hd hO hG h1 h2
    rw [e0.out] at kA2
    clear kA
    cases R with
    | none =>
     go_wp2_with (first
      | (go_at_call 68; (with_reducible refine (pmust_yes _).mono ?_); rintro e v1 ⟨rfl, rfl⟩)
      | (go_at_call 68; (with_reducible refine (pmust_no _).mono ?_); rintro e v1 ⟨rfl, rfl⟩)
      | (go_at_call 116; (refine (kB _).mono ?_); rintro e v1 ⟨rfl, g1⟩; replace hS := hS.bel g1; obtain ⟨f0, f1, f2, f3, ff⟩ := ex_cells hS.q)
      | (go_at_call 101; (refine (kA2 _ hS.O (fun a => (hS.hS _ a).1 rfl) hS.T hS.R).mono ?_); rintro e v1 ⟨on1, rfl⟩; replace hS := hS.on.trans on1; clear kA2)
      | fail)
     exact ⟨rfl, hS, rfl⟩
    | some c =>
     go_wp2_with (first
      | (go_at_call 68; (with_reducible refine (pmust_yes _).mono ?_); rintro e v1 ⟨rfl, rfl⟩)
      | (go_at_call 68; (with_reducible refine (pmust_no _).mono ?_); rintro e v1 ⟨rfl, rfl⟩)
      | (go_at_call 116; (refine (kB _).mono ?_); rintro e v1 ⟨rfl, g1⟩; replace hS := hS.bel g1; obtain ⟨f0, f1, f2, f3, ff⟩ := ex_cells hS.q)
      | (go_at_call 101; (refine (kA2 _ hS.O (fun a => (hS.hS _ a).1 rfl) hS.T hS.R).mono ?_); rintro e v1 ⟨on1, ⟨rfl, h1⟩⟩; replace hS := hS.on.trans on1; clear kA2)
      | fail)
     exact bodyPost_end (v := .tuple #[]) (by simp [results, Tryz.results102, go_sem]) rfl ⟨hS, rfl, h1⟩
set_option maxRecDepth 100000 in
set_option maxHeartbeats 1600000 in
theorem ex_o (e : Ex) (hop : ¬ e.op = 1 ∧ ¬ e.op = 2 ∧ ¬ e.op = 3 ∧ ¬ e.op = 7 ∧ ¬ e.op = 4 ∧ ¬ e.op = 20 ∧ ¬ e.op = 5 ∧ ¬ e.op = 6) (hz : e.tx.size ≤ 9223372036854775807) (kA : SpX e.ks) (deep p x : Nat) (S : Nat → Prop) (pp : Option Addr) (qq b : Nat) (w : World) (hd0 : deep ≤ 24) (hx : x + 1 ≤ 2048) (hO : OpsAt w) (hG : b ≠ 0) (hSb : ¬ S b) (hT : SlF w S (.slice pp e.ks.len qq) e.ks) (hR : RuAt w b (p, x)) :
  Calls Tryz.prog 102 #[.pointer (some ⟨b, 0, none⟩), .agg #[.int .i64 e.op, .string e.tx, .int .i64 e.ty, .slice pp e.ks.len qq], .int .i64 deep] w fun e' w' => RuR ((ruE deep e x).map fun y => (p, y)) b w e' w' := by
 obtain ⟨xi, hxi⟩ : ∃ xi : Int, xi = ((x + 1 : Nat) : Int) := ⟨_, rfl⟩
 have hS := ex_go hO hG hSb hT hR hx xi hxi
 have hx1 := hR.x
 have hfz := hR.fz 1
 have lb := hR.lt
 have bw : b ≠ w.heap.size := Nat.ne_of_lt lb
 have wb : w.heap.size ≠ b := Ne.symm bw
 obtain ⟨R, hQ⟩ : ∃ R, (ruE deep e x).map (fun y => (p, y)) = R := ⟨_, rfl⟩
 rw [hQ]
 rw [ruE_eq, decide_eq_true hx, decide_eq_true hd0, Bool.true_and, Bool.true_and] at hQ
 have wx : IntKind.i64.wrap ((x : Int) + 1) = xi := by rw [IntKind.wrap_i64]; omega
 have wd : IntKind.i64.wrap ((deep : Int) + 1) = ((deep + 1 : Nat) : Int) := by rw [IntKind.wrap_i64]; omega
 have gx : ((x : Int) + 1 ≤ 2048) := by omega
 have gx2 : xi ≤ 2048 := by omega
 have gd : ((deep : Int) ≤ 24) := by omega
 have hd : deep + 1 ≤ 30 := by omega
 have kN := pnumb e.tx
 have kI := isName_any e.tx hz
 have kW := pword e.ty
 have kB := pbare e.op e.ty e.tx pp e.ks.len qq
 have kF := popFor e.op
 have lf1 := opf1
 have eT := txt_e e.tx
 have eW := txt_e (wdOf e.ty)
 have eF := txt_e (ofT e.op).2.1
 have eY : (e.ty == 0) = decide (e.ty = 0) := by by_cases h : e.ty = 0 <;> simp [h]
 have eL : (((e.ks.len : Nat) : Int) == 2) = decide (e.ks.len = 2) := by
  by_cases h : e.ks.len = 2
  ·rw [h]; rfl
  ·rw [decide_eq_false h, beq_eq_false_iff_ne]; omega
 obtain ⟨n1, n2, n3, n7, n4, n20, n5, n6⟩ := hop
 have m1 : (e.op == 1) = false := by rw [beq_eq_false_iff_ne]; exact n1
 have m2 : (e.op == 2) = false := by rw [beq_eq_false_iff_ne]; exact n2
 have m3 : (e.op == 3) = false := by rw [beq_eq_false_iff_ne]; exact n3
 have m7 : (e.op == 7) = false := by rw [beq_eq_false_iff_ne]; exact n7
 have m4 : (e.op == 4) = false := by rw [beq_eq_false_iff_ne]; exact n4
 have m20 : (e.op == 20) = false := by rw [beq_eq_false_iff_ne]; exact n20
 have m5 : (e.op == 5) = false := by rw [beq_eq_false_iff_ne]; exact n5
 have m6 : (e.op == 6) = false := by rw [beq_eq_false_iff_ne]; exact n6
 have hE : exOk (e.op : Int) e.tx e.ty e.ks.len = (decide (8 ≤ e.op ∧ e.op ≤ 19) && (decide (e.tx = tx0) && (decide (e.ty = 0) && decide (e.ks.len = 2)))) := by unfold exOk; rw [if_neg n1, if_neg n2, if_neg n3, if_neg n7, if_neg (by omega)]
 rw [hE] at hQ
 clear hE
 have eO : decide ((ofT e.op).2.1 = tx0) = !decide (8 ≤ e.op ∧ e.op ≤ 19) := by
  by_cases h : 8 ≤ e.op ∧ e.op ≤ 19
  ·rw [decide_eq_true h, decide_eq_false ((of_txt e.op).2 h)]; rfl
  ·rw [decide_eq_false h, decide_eq_true (Classical.not_not.1 (fun k => h ((of_txt e.op).1 k)))]; rfl
 rw [eO] at eF
 clear eO
 generalize decide (8 ≤ e.op ∧ e.op ≤ 19) = bO at *
 have hxi' : Hid (xi = ((x + 1 : Nat) : Int)) := hxi
 clear hR hT hO hx hd0 hxi
 generalize isNum e.tx = bN at *
 generalize isN e.tx.toList = bI at *
 generalize decide (e.ty = 0) = bY at *
 generalize decide (e.tx = tx0) = bT at *
 generalize decide (e.ks.len = 2) = bL at *
 generalize wdOf e.ty = tw at *
 generalize (ofT e.op).1 = o1 at *
 generalize (ofT e.op).2.1 = o2 at *
 generalize (ofT e.op).2.2 = o3 at *
 have hQ' : Hid (_ = R) := hQ
 clear hQ
 generalize e.tx = tx at *
 generalize e.ty = ty at *
 generalize hks : e.ks = ks at *
 generalize hm : ks.len = m at *
 generalize e.op = op at *
 go_enter Tryz.func102, Tryz.ntmps102
 go_upto_region 2 with fail
 obtain ⟨V, hV⟩ : ∃ V, (w.setCell ⟨b, 1, none⟩ (.int .i64 xi)).alloc (.cells #[.int .i64 op, .string tx, .int .i64 ty, .slice pp m qq] 85) = V := ⟨_, rfl⟩
 rw [hV] at hS
 rw [hV]
 obtain ⟨B, hB⟩ : ∃ B, w.heap.size = B := ⟨_, rfl⟩
 rw [hB] at hS
 (try rw [hB])
 clear hV hB
 have c1 := hS.R.x
 rw [show (((p, x + 1).2 : Nat) : Int) = xi from hxi'.out.symm] at c1
 have c0 := hS.R.p
 obtain ⟨f0, f1, f2, f3, ff⟩ := ex_cells hS.q
 cases bO with
 | false =>
  obtain rfl : R = none := by rw [← hQ'.out]; rfl
  clear hQ' kA
  go_wp2_with (first
   | (go_at_call 68; (with_reducible refine (pmust_yes _).mono ?_); rintro e v1 ⟨rfl, rfl⟩)
   | (go_at_call 68; (with_reducible refine (pmust_no _).mono ?_); rintro e v1 ⟨rfl, rfl⟩)
   | (go_at_call 94; (refine (kF _ hS.O).mono ?_); rintro e v1 ⟨rfl, g1⟩; replace hS := hS.bel g1; obtain ⟨f0, f1, f2, f3, ff⟩ := ex_cells hS.q)
   | (go_at_call 116; (refine (kB _).mono ?_); rintro e v1 ⟨rfl, g1⟩; replace hS := hS.bel g1; obtain ⟨f0, f1, f2, f3, ff⟩ := ex_cells hS.q)
   | fail)
  exact ⟨rfl, hS.on, rfl⟩
 | true =>
  cases bT with
  | false =>
   obtain rfl : R = none := by rw [← hQ'.out]; rfl
   clear hQ' kA
   go_wp2_with (first
    | (go_at_call 68; (with_reducible refine (pmust_yes _).mono ?_); rintro e v1 ⟨rfl, rfl⟩)
    | (go_at_call 68; (with_reducible refine (pmust_no _).mono ?_); rintro e v1 ⟨rfl, rfl⟩)
    | (go_at_call 94; (refine (kF _ hS.O).mono ?_); rintro e v1 ⟨rfl, g1⟩; replace hS := hS.bel g1; obtain ⟨f0, f1, f2, f3, ff⟩ := ex_cells hS.q)
    | (go_at_call 116; (refine (kB _).mono ?_); rintro e v1 ⟨rfl, g1⟩; replace hS := hS.bel g1; obtain ⟨f0, f1, f2, f3, ff⟩ := ex_cells hS.q)
    | fail)
   exact ⟨rfl, hS.on, rfl⟩
  | true =>
   cases bY with
   | false =>
    obtain rfl : R = none := by rw [← hQ'.out]; rfl
    clear hQ' kA
    go_wp2_with (first
     | (go_at_call 68; (with_reducible refine (pmust_yes _).mono ?_); rintro e v1 ⟨rfl, rfl⟩)
     | (go_at_call 68; (with_reducible refine (pmust_no _).mono ?_); rintro e v1 ⟨rfl, rfl⟩)
     | (go_at_call 94; (refine (kF _ hS.O).mono ?_); rintro e v1 ⟨rfl, g1⟩; replace hS := hS.bel g1; obtain ⟨f0, f1, f2, f3, ff⟩ := ex_cells hS.q)
     | (go_at_call 116; (refine (kB _).mono ?_); rintro e v1 ⟨rfl, g1⟩; replace hS := hS.bel g1; obtain ⟨f0, f1, f2, f3, ff⟩ := ex_cells hS.q)
     | fail)
    exact ⟨rfl, hS.on, rfl⟩
   | true =>
    cases bL with
    | false =>
     obtain rfl : R = none := by rw [← hQ'.out]; rfl
     clear hQ' kA
     go_wp2_with (first
      | (go_at_call 68; (with_reducible refine (pmust_yes _).mono ?_); rintro e v1 ⟨rfl, rfl⟩)
      | (go_at_call 68; (with_reducible refine (pmust_no _).mono ?_); rintro e v1 ⟨rfl, rfl⟩)
      | (go_at_call 94; (refine (kF _ hS.O).mono ?_); rintro e v1 ⟨rfl, g1⟩; replace hS := hS.bel g1; obtain ⟨f0, f1, f2, f3, ff⟩ := ex_cells hS.q)
      | (go_at_call 116; (refine (kB _).mono ?_); rintro e v1 ⟨rfl, g1⟩; replace hS := hS.bel g1; obtain ⟨f0, f1, f2, f3, ff⟩ := ex_cells hS.q)
      | fail)
     exact ⟨rfl, hS.on, rfl⟩
    | true =>
     have e0 : Hid ((ruF (deep + 1) ks (x + 1)).map (fun y => (p, y)) = R) := hQ'.out
     clear hQ'
     unfold SpX at kA
     have kA2 := fun V hO h1 h2 => kA (deep + 1) p (x + 1) (fun k => S k ∧ k < B) (.slice pp m qq) b V hd hO hG h1 h2
     rw [e0.out] at kA2
     clear kA
     cases R with
     | none =>
      go_wp2_with (first
       | (go_at_call 68; (with_reducible refine (pmust_yes _).mono ?_); rintro e v1 ⟨rfl, rfl⟩)
       | (go_at_call 68; (with_reducible refine (pmust_no _).mono ?_); rintro e v1 ⟨rfl, rfl⟩)
       | (go_at_call 94; (refine (kF _ hS.O).mono ?_); rintro e v1 ⟨rfl, g1⟩; replace hS := hS.bel g1; obtain ⟨f0, f1, f2, f3, ff⟩ := ex_cells hS.q)
       | (go_at_call 116; (refine (kB _).mono ?_); rintro e v1 ⟨rfl, g1⟩; replace hS := hS.bel g1; obtain ⟨f0, f1, f2, f3, ff⟩ := ex_cells hS.q)
       | (go_at_call 101; (refine (kA2 _ hS.O (fun a => (hS.hS _ a).1 rfl) hS.T hS.R).mono ?_); rintro e v1 ⟨on1, rfl⟩; replace hS := hS.on.trans on1; clear kA2)
       | fail)
      exact ⟨rfl, hS, rfl⟩
     | some c =>
      go_wp2_with (first
       | (go_at_call 68; (with_reducible refine (pmust_yes _).mono ?_); rintro e v1 ⟨rfl, rfl⟩)
       | (go_at_call 68; (with_reducible refine (pmust_no _).mono ?_); rintro e v1 ⟨rfl, rfl⟩)
       | (go_at_call 94; (refine (kF _ hS.O).mono ?_); rintro e v1 ⟨rfl, g1⟩; replace hS := hS.bel g1; obtain ⟨f0, f1, f2, f3, ff⟩ := ex_cells hS.q)
       | (go_at_call 116; (refine (kB _).mono ?_); rintro e v1 ⟨rfl, g1⟩; replace hS := hS.bel g1; obtain ⟨f0, f1, f2, f3, ff⟩ := ex_cells hS.q)
       | (go_at_call 101; (refine (kA2 _ hS.O (fun a => (hS.hS _ a).1 rfl) hS.T hS.R).mono ?_); rintro e v1 ⟨on1, ⟨rfl, h1⟩⟩; replace hS := hS.on.trans on1; clear kA2)
       | fail)
      exact bodyPost_end (v := .tuple #[]) (by simp [results, Tryz.results102, go_sem]) rfl ⟨hS, rfl, h1⟩
end Go.Proofs.YtknoibocpbfmmaaGreatDoor



