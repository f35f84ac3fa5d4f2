/- Statements: statement. -/
import Derived.Test.YtknoibocpbfmmaaGreatDoorPaT
namespace Go.Proofs.YtknoibocpbfmmaaGreatDoor
open Go.RowKit
set_option linter.unusedVariables false
set_option linter.unusedSimpArgs false
set_option maxRecDepth 100000 in
set_option maxHeartbeats 3200000 in
theorem step_stmt (n : Nat) (hB : SpBl n) : SpSt (n + 1) := by
  intro ts d z m nm b B w hO0 hG h
  obtain ⟨R, hR⟩ : ∃ R, stP (n + 1) ts d = R := ⟨_, rfl⟩
  rw [hR]
  rw [hR] at nm
  rw [stP] at hR
  have hlt := h.lt
  have hltB := h.ltB z.ne
  go_enter Tryz.func63, Tryz.ntmps63
  go_upto_region 1 with fail
  obtain ⟨W, hW⟩ : ∃ W, w.alloc (.cells #[.int .i64 0, .string ⟨#[]⟩, .slice none 0 0, .int .i64 0, .string ⟨#[]⟩, .int .i64 0, .slice none 0 0, .int .i64 0, .string ⟨#[]⟩, .int .i64 0, .slice none 0 0, .int .i64 0, .string ⟨#[]⟩, .int .i64 0, .slice none 0 0, .slice none 0 0, .slice none 0 0] 87) = W := ⟨_, rfl⟩
  obtain ⟨p, hp⟩ : ∃ p, w.heap.size = p := ⟨_, rfl⟩
  have hS : SitZ (.cells #[.int .i64 0, .string ⟨#[]⟩, .slice none 0 0, .int .i64 0, .string ⟨#[]⟩, .int .i64 0, .slice none 0 0, .int .i64 0, .string ⟨#[]⟩, .int .i64 0, .slice none 0 0, .int .i64 0, .string ⟨#[]⟩, .int .i64 0, .slice none 0 0, .slice none 0 0, .slice none 0 0] 87 (0, 0)) b B p w W ts 0 d := by
    have gW : Below w.heap.size w W := by rw [← hW]; exact pb_new (Below.refl _ _) _
    refine ⟨(Onl.refl b w).below gW, ?_, h.bel z.ne gW, hO0.bel gW, Nat.le_of_eq hp, by omega, by omega, hG, hlt⟩
    rw [← hW, ← hp]; exact World.alloc_heap_new w _
  rw [hW]
  (try rw [hp])
  clear hW h hO0 hp hlt hltB
  have hR' : Hid (_ = R) := hR
  clear hR
  obtain ⟨t21, us21, rfl⟩ := z.cons
  have ne21 : t21 :: us21 ≠ [] := by simp
  have hR := hR'.out
  clear hR'
  by_cases c21 : t21.2.1 = tRd
  case pos =>
    have m21 : Hid (us21.length ≤ 1000000) := by have := m.out; simp at this; show _ ≤ _; omega
    clear m
    rw [if_pos (show isTx (t21 :: us21) tRd = true from decide_eq_true c21)] at hR
    simp only [List.tail_cons] at hR
    have hR' : Hid (_ = R) := hR
    have z21 := want_tail z c21 tRd_ne
    have kw := pskip_yes b B t21 us21 0 d z21.ne _ hS.P
    rw [c21] at kw
    clear hR c21 z
    go_upto_region 2 with (first
      | (go_at_call 78; (with_reducible refine (kw).mono ?_); rintro e v21 ⟨rfl, hP21, on21⟩; replace hS := hS.onl on21 hP21; clear kw)
      | fail)
    have hR := hR'.out
    clear hR'
    cases hr : readP us21 d with
    | more => rw [hr] at hR; exact absurd hR.symm nm
    | bad pl =>
      have kX := (fun w hO hG hP => pread us21 0 d z21 (by rw [hr]; simp) b B w hO hG hP)
      rw [hr] at kX hR
      have e0 : Hid (R = .bad pl) := hR.symm
      clear hR hr nm
      go_wp2_with (first
        | (go_at_call 81; (refine (kX _ hS.O hS.hG hS.P).mono ?_); rintro e v22 ⟨on22, rfl⟩; replace hS := hS.on.trans on22; clear kX)
        | fail)
      refine ⟨rfl, ?_⟩
      rw [e0.out]
      exact ⟨hS, rfl⟩
    | ok x us22 d22 =>
      have kX := (fun w hO hG hP => pread us21 0 d z21 (by rw [hr]; simp) b B w hO hG hP)
      rw [hr] at kX hR
      have e0 : Hid (R = .ok x us22 d22) := hR.symm
      clear hR hr nm
      go_wp2_with (first
        | (go_at_call 81; (refine (kX _ hS.O hS.hG hS.P).mono ?_); rintro e v22 ⟨on22, vv22, rfl, kk22, hP22⟩; obtain ⟨CS, rfl, lCS, oCS, kS⟩ := kk22.cs; clear kk22; replace kS := StV.lo (S' := (fun k => w.heap.size ≤ k ∧ k ≠ p)) (hS.fr) kS; replace hS := hS.onl on22 hP22; have sc := sc17 hS.q rfl lCS oCS; clear kX)
        | fail)
      have kf := st_done hS (x := x) (S := (fun k => w.heap.size ≤ k ∧ k ≠ p)) (v := .agg CS.toArray) kS (fun k a => a.1) (fun a => a.2 rfl) rfl e0.out CS 0
      have rs := rs17 (setN17 hS.q rfl lCS) lCS
      clear e0 kS oCS
      refine bodyPost_ret (v := .agg CS.toArray) ?_ rfl ?_
      · exact res17 (by rw [Tryz.results63]) rfl rs
      · exact kf
  case neg =>
    rw [if_neg (show ¬ isTx (t21 :: us21) tRd = true by show ¬ decide (t21.2.1 = tRd) = true; rw [decide_eq_true_iff]; exact c21)] at hR
    have hR' : Hid (_ = R) := hR
    clear hR
    go_upto_region 3 with (first
      | (go_at_call 78; (with_reducible refine (pskip_no b B t21 us21 0 d tRd c21 _ hS.P).mono ?_); rintro e v21 ⟨rfl, g21⟩; replace hS := hS.bel ne21 g21)
      | fail)
    have hR := hR'.out
    clear hR'
    by_cases c22 : t21.2.1 = tIf
    case pos =>
      have m22 : Hid (us21.length ≤ 1000000) := by have := m.out; simp at this; show _ ≤ _; omega
      clear m
      rw [if_pos (show isTx (t21 :: us21) tIf = true from decide_eq_true c22)] at hR
      simp only [List.tail_cons] at hR
      have hR' : Hid (_ = R) := hR
      have z22 := want_tail z c22 tIf_ne
      have kw := pskip_yes b B t21 us21 0 d z22.ne _ hS.P
      rw [c22] at kw
      clear hR c22 z
      go_upto_region 4 with (first
        | (go_at_call 78; (with_reducible refine (kw).mono ?_); rintro e v22 ⟨rfl, hP22, on22⟩; replace hS := hS.onl on22 hP22; clear kw)
        | fail)
      replace hR' : Hid (chP n us21 d = R) := hR'
      have hR := hR'.out
      clear hR'
      cases hr : chP n us21 d with
      | more => rw [hr] at hR; exact absurd hR.symm nm
      | bad pl =>
        have kX := (fun w hO hG hP => pchoice n hB us21 d z22 m22 (by rw [hr]; simp) b B w hO hG hP)
        rw [hr] at kX hR
        have e0 : Hid (R = .bad pl) := hR.symm
        clear hR hr nm
        go_wp2_with (first
          | (go_at_call 82; (refine (kX _ hS.O hS.hG hS.P).mono ?_); rintro e v23 ⟨on23, rfl⟩; replace hS := hS.on.trans on23; clear kX)
          | fail)
        refine ⟨rfl, ?_⟩
        rw [e0.out]
        exact ⟨hS, rfl⟩
      | ok x us23 d23 =>
        have kX := (fun w hO hG hP => pchoice n hB us21 d z22 m22 (by rw [hr]; simp) b B w hO hG hP)
        rw [hr] at kX hR
        have e0 : Hid (R = .ok x us23 d23) := hR.symm
        clear hR hr nm
        go_wp2_with (first
          | (go_at_call 82; (refine (kX _ hS.O hS.hG hS.P).mono ?_); rintro e v23 ⟨on23, vv23, rfl, kk23, hP23⟩; obtain ⟨CS, rfl, lCS, oCS, kS⟩ := kk23.cs; clear kk23; replace kS := StV.lo (S' := (fun k => w.heap.size ≤ k ∧ k ≠ p)) (hS.fr) kS; replace hS := hS.onl on23 hP23; have sc := sc17 hS.q rfl lCS oCS; clear kX)
          | fail)
        have kf := st_done hS (x := x) (S := (fun k => w.heap.size ≤ k ∧ k ≠ p)) (v := .agg CS.toArray) kS (fun k a => a.1) (fun a => a.2 rfl) rfl e0.out CS 0
        have rs := rs17 (setN17 hS.q rfl lCS) lCS
        clear e0 kS oCS
        refine bodyPost_ret (v := .agg CS.toArray) ?_ rfl ?_
        · exact res17 (by rw [Tryz.results63]) rfl rs
        · exact kf
    case neg =>
      rw [if_neg (show ¬ isTx (t21 :: us21) tIf = true by show ¬ decide (t21.2.1 = tIf) = true; rw [decide_eq_true_iff]; exact c22)] at hR
      have hR' : Hid (_ = R) := hR
      clear hR
      go_upto_region 5 with (first
        | (go_at_call 78; (with_reducible refine (pskip_no b B t21 us21 0 d tIf c22 _ hS.P).mono ?_); rintro e v22 ⟨rfl, g22⟩; replace hS := hS.bel ne21 g22)
        | fail)
      have hR := hR'.out
      clear hR'
      by_cases c23 : t21.2.1 = tWh
      case pos =>
        have m23 : Hid (us21.length ≤ 1000000) := by have := m.out; simp at this; show _ ≤ _; omega
        clear m
        rw [if_pos (show isTx (t21 :: us21) tWh = true from decide_eq_true c23)] at hR
        simp only [List.tail_cons] at hR
        have hR' : Hid (_ = R) := hR
        have z23 := want_tail z c23 tWh_ne
        have kw := pskip_yes b B t21 us21 0 d z23.ne _ hS.P
        rw [c23] at kw
        clear hR c23 z
        go_upto_region 6 with (first
          | (go_at_call 78; (with_reducible refine (kw).mono ?_); rintro e v23 ⟨rfl, hP23, on23⟩; replace hS := hS.onl on23 hP23; clear kw)
          | fail)
        have hR := hR'.out
        clear hR'
        cases hr : cP n 0 us21 d with
        | more => rw [Rs.thn_more hr] at hR; exact absurd hR.symm nm
        | bad pl =>
          rw [Rs.thn_bad hr] at hR
          have kX := (fun w hO hG hP => pencl n 0 us21 d z23 (by decide) (by have := m23.out; omega) (by rw [hr]; simp) b B w hO hG hP)
          rw [hr] at kX
          have e0 : Hid (R = .bad pl) := hR.symm
          clear hR hr nm
          go_wp2_with (first
            | (go_at_call 83; (refine (kX _ hS.O hS.hG hS.P).mono ?_); rintro e v1 ⟨on1, rfl⟩; replace hS := hS.on.trans on1; clear kX)
            | fail)
          refine ⟨rfl, ?_⟩
          rw [e0.out]
          exact ⟨hS, rfl⟩
        | ok x1 us1 d1 =>
          rw [Rs.thn_ok hr] at hR
          have kX := (fun w hO hG hP => pencl n 0 us21 d z23 (by decide) (by have := m23.out; omega) (by rw [hr]; simp) b B w hO hG hP)
          have sa := cP_sat n 0 us21 d z23
          rw [hr] at sa kX
          have z1 : Tz us1 := sa.1
          have m1 : Hid (us1.length ≤ 1000000) := by have h2 := sa.2; have h3 := m23.out; show _ ≤ _; omega
          clear hr sa m23
          cases hr : blP n us1 d1 with
          | more => rw [Rs.thn_more hr] at hR; exact absurd hR.symm nm
          | bad pl =>
            rw [Rs.thn_bad hr] at hR
            have kY := (fun w hO hG hP => hB us1 d1 z1 m1 (by rw [hr]; simp) b B w hO hG hP)
            rw [hr] at kY
            have e0 : Hid (R = .bad pl) := hR.symm
            clear hR hr nm
            go_wp2_with (first
              | (go_at_call 83; (refine (kX _ hS.O hS.hG hS.P).mono ?_); rintro e v1 ⟨on1, pp1, qq1, rfl, k1, hP1⟩; replace k1 := k1.lo (lo' := (fun k => w.heap.size ≤ k ∧ k ≠ p)) (hS.fr); replace hS := hS.onl on1 hP1; clear kX)
              | (go_at_call 84; (refine (kY _ hS.O hS.hG hS.P).mono ?_); rintro e v2 ⟨on2, rfl⟩; replace hS := hS.on.trans on2; clear kY)
              | fail)
            refine ⟨rfl, ?_⟩
            rw [e0.out]
            exact ⟨hS, rfl⟩
          | ok y2 us2 d2 =>
            rw [Rs.thn_ok hr] at hR
            have kY := (fun w hO hG hP => hB us1 d1 z1 m1 (by rw [hr]; simp) b B w hO hG hP)
            have sa := (st_sat n).2.1 us1 d1 z1
            rw [hr] at sa kY
            have z2 : Tz us2 := sa.1
            have m2 : Hid (us2.length ≤ 1000000) := by have h2 := sa.2; have h3 := m1.out; show _ ≤ _; omega
            clear hr sa m1
            have hR' : Hid (_ = R) := hR
            clear hR
            have e0 : Hid (R = .ok ⟨4, tx0, .nil, x1, exN, exN, y2, .nil⟩ us2 d2) := hR'.out.symm
            clear hR' nm
            go_wp2_with (first
              | (go_at_call 83; (refine (kX _ hS.O hS.hG hS.P).mono ?_); rintro e v1 ⟨on1, pp1, qq1, rfl, k1, hP1⟩; replace k1 := k1.lo (lo' := (fun k => w.heap.size ≤ k ∧ k ≠ p)) (hS.fr); replace hS := hS.onl on1 hP1; clear kX)
              | (go_at_call 84; (refine (kY _ hS.O hS.hG hS.P).mono ?_); rintro e v2 ⟨on2, vv2, rfl, ⟨pp2, qq2, rfl, kk2⟩, hP2⟩; have k2 : SlS v2 (fun k => w.heap.size ≤ k ∧ k ≠ p) (.slice pp2 y2.len qq2) y2 := SlS.lo (hS.fr) ⟨_, _, rfl, kk2⟩; clear kk2; replace k1 := k1.kp (on2.kp hS.nb); replace hS := hS.onl on2 hP2; clear kY; obtain ⟨h0, h1, h2, h3, h4, h5, h6, h7, h8, h9, h10, h11, h12, h13, h14, h15, h16, hh⟩ := c17 hS.q)
              | fail)
            have kS : StV v2 (fun k => w.heap.size ≤ k ∧ k ≠ p) (.agg #[.int .i64 4, .string ⟨#[]⟩, .slice none 0 0, .int .i64 x1.op, .string x1.tx, .int .i64 x1.ty, .slice pp1 x1.ks.len qq1, .int .i64 0, .string ⟨#[]⟩, .int .i64 0, .slice none 0 0, .int .i64 0, .string ⟨#[]⟩, .int .i64 0, .slice none 0 0, .slice pp2 y2.len qq2, .slice none 0 0]) ⟨4, tx0, .nil, x1, exN, exN, y2, .nil⟩ := ⟨_, _, _, _, _, _, _, _, _, _, _, _, rfl, SlF.nil _ _, k1, SlF.nil _ _, SlF.nil _ _, k2, SlS.nil _ _⟩
            have kf := st_done hS (x := ⟨4, tx0, .nil, x1, exN, exN, y2, .nil⟩) (S := (fun k => w.heap.size ≤ k ∧ k ≠ p)) (v := .agg #[.int .i64 4, .string ⟨#[]⟩, .slice none 0 0, .int .i64 x1.op, .string x1.tx, .int .i64 x1.ty, .slice pp1 x1.ks.len qq1, .int .i64 0, .string ⟨#[]⟩, .int .i64 0, .slice none 0 0, .int .i64 0, .string ⟨#[]⟩, .int .i64 0, .slice none 0 0, .slice pp2 y2.len qq2, .slice none 0 0]) kS (fun k a => a.1) (fun a => a.2 rfl) rfl e0.out [.int .i64 4, .string ⟨#[]⟩, .slice none 0 0, .int .i64 x1.op, .string x1.tx, .int .i64 x1.ty, .slice pp1 x1.ks.len qq1, .int .i64 0, .string ⟨#[]⟩, .int .i64 0, .slice none 0 0, .int .i64 0, .string ⟨#[]⟩, .int .i64 0, .slice none 0 0, .slice pp2 y2.len qq2, .slice none 0 0] 0
            have rs := rs17 (cs := [.int .i64 4, .string ⟨#[]⟩, .slice none 0 0, .int .i64 x1.op, .string x1.tx, .int .i64 x1.ty, .slice pp1 x1.ks.len qq1, .int .i64 0, .string ⟨#[]⟩, .int .i64 0, .slice none 0 0, .int .i64 0, .string ⟨#[]⟩, .int .i64 0, .slice none 0 0, .slice pp2 y2.len qq2, .slice none 0 0]) (setN17 hS.q rfl rfl) rfl
            simp only [setN, Nat.reduceAdd] at kf rs
            refine bodyPost_ret (v := .agg #[.int .i64 4, .string ⟨#[]⟩, .slice none 0 0, .int .i64 x1.op, .string x1.tx, .int .i64 x1.ty, .slice pp1 x1.ks.len qq1, .int .i64 0, .string ⟨#[]⟩, .int .i64 0, .slice none 0 0, .int .i64 0, .string ⟨#[]⟩, .int .i64 0, .slice none 0 0, .slice pp2 y2.len qq2, .slice none 0 0]) ?_ rfl ?_
            · exact res17 (by rw [Tryz.results63]) rfl rs
            · exact kf
      case neg =>
        rw [if_neg (show ¬ isTx (t21 :: us21) tWh = true by show ¬ decide (t21.2.1 = tWh) = true; rw [decide_eq_true_iff]; exact c23)] at hR
        have hR' : Hid (_ = R) := hR
        clear hR
        go_upto_region 7 with (first
          | (go_at_call 78; (with_reducible refine (pskip_no b B t21 us21 0 d tWh c23 _ hS.P).mono ?_); rintro e v23 ⟨rfl, g23⟩; replace hS := hS.bel ne21 g23)
          | fail)
        have hR := hR'.out
        clear hR'
        cases hr : asgP n (t21 :: us21) d with
        | more => rw [hr] at hR; exact absurd hR.symm nm
        | bad pl =>
          have kX := (fun w hO hG hP => passign n (t21 :: us21) d z m (by rw [hr]; simp) b B w hO hG hP)
          rw [hr] at kX hR
          have e0 : Hid (R = .bad pl) := hR.symm
          clear hR hr nm
          go_wp2_with (first
            | (go_at_call 85; (refine (kX _ hS.O hS.hG hS.P).mono ?_); rintro e v24 ⟨on24, rfl⟩; replace hS := hS.on.trans on24; clear kX)
            | fail)
          refine ⟨rfl, ?_⟩
          rw [e0.out]
          exact ⟨hS, rfl⟩
        | ok x us24 d24 =>
          have kX := (fun w hO hG hP => passign n (t21 :: us21) d z m (by rw [hr]; simp) b B w hO hG hP)
          rw [hr] at kX hR
          have e0 : Hid (R = .ok x us24 d24) := hR.symm
          clear hR hr nm
          go_wp2_with (first
            | (go_at_call 85; (refine (kX _ hS.O hS.hG hS.P).mono ?_); rintro e v24 ⟨on24, vv24, rfl, kk24, hP24⟩; obtain ⟨CS, rfl, lCS, oCS, kS⟩ := kk24.cs; clear kk24; replace kS := StV.lo (S' := (fun k => w.heap.size ≤ k ∧ k ≠ p)) (hS.fr) kS; replace hS := hS.onl on24 hP24; have sc := sc17 hS.q rfl lCS oCS; clear kX)
            | fail)
          have kf := st_done hS (x := x) (S := (fun k => w.heap.size ≤ k ∧ k ≠ p)) (v := .agg CS.toArray) kS (fun k a => a.1) (fun a => a.2 rfl) rfl e0.out CS 0
          have rs := rs17 (setN17 hS.q rfl lCS) lCS
          clear e0 kS oCS
          refine bodyPost_ret (v := .agg CS.toArray) ?_ rfl ?_
          · exact res17 (by rw [Tryz.results63]) rfl rs
          · exact kf
end Go.Proofs.YtknoibocpbfmmaaGreatDoor
