/- Statements: assign. -/
import Derived.Test.YtknoibocpbfmmaaGreatDoorWG9
namespace Go.Proofs.YtknoibocpbfmmaaGreatDoor
open Go.RowKit
set_option linter.unusedVariables false
set_option linter.unusedSimpArgs false
set_option maxRecDepth 100000 in
set_option maxHeartbeats 1600000 in
theorem passign (n : Nat) : ∀ (ts : List Tk) (d : Int), Tz ts → Hid (ts.length ≤ 1000000) → asgP n ts d ≠ .more → ∀ (b B : Nat) (w : World), OpsAt w → b ≠ 0 → PAt w b B ts 0 d →
  Calls Tryz.prog 85 #[.pointer (some ⟨b, 0, none⟩)] w fun e w' => StR (asgP n ts d) b B 0 w e w' := by
 intro ts d z m nm b B w hO0 hG h
 obtain ⟨R, hR⟩ : ∃ R, asgP n ts d = R := ⟨_, rfl⟩
 rw [hR]
 rw [hR] at nm
 unfold asgP at hR
 have zn := z
 have o0 : (0 : Int) ≤ 0 := by decide
 have hlt := h.lt
 have hltB := h.ltB z.ne
 go_enter Tryz.func85, Tryz.ntmps85
 go_upto_region 1 with fail
 obtain ⟨W, hW⟩ : ∃ W, w.alloc (.cells #[.int .i64 0, .string ⟨#[]⟩, .slice none 0 0, .int .i64 0, .string ⟨#[]⟩, .int .i64 0, .slice none 0 0, .int .i64 0, .string ⟨#[]⟩, .int .i64 0, .slice none 0 0, .int .i64 0, .string ⟨#[]⟩, .int .i64 0, .slice none 0 0, .slice none 0 0, .slice none 0 0] 87) = W := ⟨_, rfl⟩
 obtain ⟨p, hp⟩ : ∃ p, w.heap.size = p := ⟨_, rfl⟩
 have hS : SitZ (.cells #[.int .i64 0, .string ⟨#[]⟩, .slice none 0 0, .int .i64 0, .string ⟨#[]⟩, .int .i64 0, .slice none 0 0, .int .i64 0, .string ⟨#[]⟩, .int .i64 0, .slice none 0 0, .int .i64 0, .string ⟨#[]⟩, .int .i64 0, .slice none 0 0, .slice none 0 0, .slice none 0 0] 87 (0, 0)) b B p w W ts 0 d := by
  have gW : Below w.heap.size w W := by rw [← hW]; exact pb_new (Below.refl _ _) _
  refine ⟨(Onl.refl b w).below gW, ?_, h.bel z.ne gW, hO0.bel gW, Nat.le_of_eq hp, by omega, by omega, hG, hlt⟩
  rw [← hW, ← hp]; exact World.alloc_heap_new w _
 rw [hW]
 (try rw [hp])
 clear hW h hO0 hp hlt hltB
 obtain ⟨t, us, rfl⟩ := z.cons
 have hne : t :: us ≠ [] := by simp
 replace m : Hid (us.length ≤ 1000000) := by have := m.out; simp at this; show _ ≤ _; omega
 by_cases c : t.1 = 1
 case neg =>
  rw [name_no c] at hR
  have e0 : Hid (R = .bad t.2.2) := hR.symm
  have hk : t.1 ∉ [1] := by simp; exact c
  clear hR nm z zn
  go_wp2_with (first
   | (go_at_call 77; (refine (ptake_no b B _ 1 1 t us 0 d [1] rfl (by omega) hk _ (ks1 1 rfl) (hS.new hne _).P).mono ?_); rintro e v1 ⟨rfl, g1⟩; replace hS := ((hS.new hne _).bel hne g1).on)
   | fail)
  refine ⟨rfl, ?_⟩
  rw [e0.out]
  exact ⟨hS, rfl⟩
 rw [name_yes c] at hR
 have zu := kind_tl z (by omega)
 have u0 := zu.ne
 have hk : t.1 ∈ [1] := by simp; exact c
 have hR' : Hid (_ = R) := hR
 clear hR z zn c
 go_upto_region 2 with (first
  | (go_at_call 77; (refine (ptake_yes b B _ 1 1 t us 0 d u0 [1] rfl (by omega) hk _ (ks1 1 rfl) (hS.new hne _).P).mono ?_); rintro e v1 ⟨rfl, hP1, on1⟩; replace hS := (hS.new hne _).onl on1 hP1)
  | fail)
 obtain ⟨V3, hV3⟩ : ∃ V, v1.alloc (.cells #[.int .i64 1, .string t.2.1, .slice none 0 0, .int .i64 0, .string ⟨#[]⟩, .int .i64 0, .slice none 0 0, .int .i64 0, .string ⟨#[]⟩, .int .i64 0, .slice none 0 0, .int .i64 0, .string ⟨#[]⟩, .int .i64 0, .slice none 0 0, .slice none 0 0, .slice none 0 0] 87) = V := ⟨_, rfl⟩
 obtain ⟨c3, h3⟩ : ∃ c, v1.heap.size = c := ⟨_, rfl⟩
 have q3 : V3.heap[c3]? = some (.cells #[.int .i64 1, .string t.2.1, .slice none 0 0, .int .i64 0, .string ⟨#[]⟩, .int .i64 0, .slice none 0 0, .int .i64 0, .string ⟨#[]⟩, .int .i64 0, .slice none 0 0, .int .i64 0, .string ⟨#[]⟩, .int .i64 0, .slice none 0 0, .slice none 0 0, .slice none 0 0] 87 (0, 0)) := by rw [← hV3, ← h3]; exact World.alloc_heap_new _ _
 have l3 : p ≠ c3 := by rw [← h3]; exact Nat.ne_of_lt hS.pl
 have w3 : w.heap.size ≤ c3 := by have := hS.zp; have := hS.pl; omega
 have b3 : c3 ≠ b := by have := hS.P.lt; omega
 have B3 : c3 ≠ B := by have := hS.P.ltB zu.ne; omega
 replace hS := hS.new zu.ne (.cells #[.int .i64 1, .string t.2.1, .slice none 0 0, .int .i64 0, .string ⟨#[]⟩, .int .i64 0, .slice none 0 0, .int .i64 0, .string ⟨#[]⟩, .int .i64 0, .slice none 0 0, .int .i64 0, .string ⟨#[]⟩, .int .i64 0, .slice none 0 0, .slice none 0 0, .slice none 0 0] 87)
 rw [hV3] at hS
 rw [hV3]
 (try rw [h3])
 clear hV3 h3
 obtain ⟨t1, us1, rfl⟩ := zu.cons
 have ne1 : t1 :: us1 ≠ [] := by simp
 have hR := hR'.out
 clear hR'
 by_cases c1 : t1.2.1 = tLb
 case neg =>
  rw [if_neg (show ¬ isTx (t1 :: us1) tLb = true by show ¬ decide (t1.2.1 = tLb) = true; rw [decide_eq_true_iff]; exact c1)] at hR
  have hR' : Hid (_ = R) := hR
  clear hR
  go_upto_region 5 with (first
   | (go_at_call 78; (with_reducible refine (pskip_no b B t1 us1 0 d tLb c1 _ hS.P).mono ?_); rintro e v1 ⟨rfl, g1⟩; replace q3 := (g1.block _ (lt_of q3)).trans q3; replace hS := hS.bel ne1 g1)
   | fail)
  have hR := hR'.out
  clear hR'
  have m2 : Hid (us1.length ≤ 1000000) := by have := m.out; simp at this; show _ ≤ _; omega
  clear m
  by_cases c2 : t1.2.1 = tEq
  case neg =>
   rw [want_no c2] at hR
   have e0 : Hid (R = .bad t1.2.2) := hR.symm
   clear hR nm
   go_wp2_with (first
    | (go_at_call 80; (with_reducible refine (pwant_no b B t1 us1 0 d tEq c2 _ hS.P).mono ?_); rintro e vq2 ⟨rfl, gq2⟩; replace hS := (hS.bel ne1 gq2).on)
    | fail)
   refine ⟨rfl, ?_⟩
   rw [e0.out]
   exact ⟨hS, rfl⟩
  rw [want_yes c2] at hR
  have z2 := want_tail zu c2 tEq_ne
  have kw := pwant_yes b B t1 us1 0 d z2.ne _ hS.P
  rw [c2] at kw
  have hR' : Hid (_ = R) := hR
  clear hR c2 zu
  go_upto_region 6 with (first
   | (go_at_call 80; (with_reducible refine (kw).mono ?_); rintro e v2 ⟨rfl, hP2, on2⟩; replace hS := hS.onl on2 hP2; replace q3 := (on2.block _ (lt_of q3) b3).trans q3; clear kw)
   | fail)
  have hR := hR'.out
  clear hR'
  cases hr : eP n 0 0 us1 d with
  | more => rw [Rs.thn_more hr] at hR; exact absurd hR.symm nm
  | bad pl =>
   rw [Rs.thn_bad hr] at hR
   have kX := (fun w hO hG hP => pexpr n 0 0 us1 d z2 (by decide) (by have := m2.out; omega) (by decide) (by decide) (by rw [hr]; simp) b B w hO hG hP)
   rw [hr] at kX
   have e0 : Hid (R = .bad pl) := hR.symm
   clear hR hr nm
   go_wp2_with (first
    | (go_at_call 98; (refine (kX _ hS.O hS.hG hS.P).mono ?_); rintro e v3 ⟨on3, rfl⟩; replace hS := hS.on.trans on3)
    | fail)
   refine ⟨rfl, ?_⟩
   rw [e0.out]
   exact ⟨hS, rfl⟩
  | ok x3 us3 d3 =>
   rw [Rs.thn_ok hr] at hR
   have kX := (fun w hO hG hP => pexpr n 0 0 us1 d z2 (by decide) (by have := m2.out; omega) (by decide) (by decide) (by rw [hr]; simp) b B w hO hG hP)
   have z3 : Tz us3 := by have := eP_sat n 0 0 us1 d z2; rw [hr] at this; exact this.1
   have m3 : Hid (us3.length ≤ 1000000) := by have := eP_sat n 0 0 us1 d z2; rw [hr] at this; have h2 := this.2; have h3 := m2.out; show _ ≤ _; omega
   clear m2
   rw [hr] at kX
   have hR' : Hid (_ = R) := hR
   clear hR hr z2
   go_upto_region 7 with (first
    | (go_at_call 98; (refine (kX _ hS.O hS.hG hS.P).mono ?_); rintro e v3 ⟨on3, pp3, qq3, rfl, k3, hP3⟩; replace k3 := k3.lo (lo' := (fun k => w.heap.size ≤ k ∧ k ≠ p ∧ k ≠ c3)) (fun k a => ⟨(hS.fr k a).1, (hS.fr k a).2, by have := lt_of q3; have a' : _ ≤ k := a; omega⟩); replace q3 := (on3.block _ (lt_of q3) b3).trans q3; obtain ⟨f0, f1, f2, f3, f4, f5, f6, f7, f8, f9, f10, f11, f12, f13, f14, f15, f16, ff⟩ := c17 q3; replace hS := hS.onl on3 hP3; clear kX)
    | fail)
   obtain ⟨V3, hV3⟩ : ∃ V, setN c3 3 [.int .i64 x3.op, .string x3.tx, .int .i64 x3.ty, .slice pp3 x3.ks.len qq3] v3 = V := ⟨_, rfl⟩
   have eV3 : ((((v3.setCell ⟨c3, 3, none⟩ (.int .i64 x3.op)).setCell ⟨c3, 4, none⟩ (.string x3.tx)).setCell ⟨c3, 5, none⟩ (.int .i64 x3.ty)).setCell ⟨c3, 6, none⟩ (.slice pp3 x3.ks.len qq3)) = V3 := hV3
   rw [eV3]
   replace q3 : V3.heap[c3]? = some (.cells #[.int .i64 1, .string t.2.1, .slice none 0 0, .int .i64 x3.op, .string x3.tx, .int .i64 x3.ty, .slice pp3 x3.ks.len qq3, .int .i64 0, .string ⟨#[]⟩, .int .i64 0, .slice none 0 0, .int .i64 0, .string ⟨#[]⟩, .int .i64 0, .slice none 0 0, .slice none 0 0, .slice none 0 0] 87 (0, 0)) := by rw [← eV3]; exact (at_set (at_set (at_set (at_set q3 3 _) 4 _) 5 _) 6 _)
   replace k3 := k3.kp (V := setN c3 3 [.int .i64 x3.op, .string x3.tx, .int .i64 x3.ty, .slice pp3 x3.ks.len qq3] v3) (fun k a _ => setN_far c3 k a.2.2 [.int .i64 x3.op, .string x3.tx, .int .i64 x3.ty, .slice pp3 x3.ks.len qq3] 3 v3)
   replace hS := hS.setN w3 l3 b3 B3 3 [.int .i64 x3.op, .string x3.tx, .int .i64 x3.ty, .slice pp3 x3.ks.len qq3]
   rw [hV3] at hS k3
   clear hV3 eV3 f0 f1 f2 f3 f4 f5 f6 f7 f8 f9 f10 f11 f12 f13 f14 f15 f16 ff
   obtain ⟨t4, us4, rfl⟩ := z3.cons
   have ne4 : t4 :: us4 ≠ [] := by simp
   have hR := hR'.out
   clear hR'
   have m4 : Hid (us4.length ≤ 1000000) := by have := m3.out; simp at this; show _ ≤ _; omega
   clear m3
   by_cases c4 : t4.2.1 = tSe
   case neg =>
    rw [want_no c4] at hR
    have e0 : Hid (R = .bad t4.2.2) := hR.symm
    clear hR nm
    go_wp2_with (first
     | (go_at_call 80; (with_reducible refine (pwant_no b B t4 us4 0 d3 tSe c4 _ hS.P).mono ?_); rintro e vq4 ⟨rfl, gq4⟩; replace hS := (hS.bel ne4 gq4).on)
     | fail)
    refine ⟨rfl, ?_⟩
    rw [e0.out]
    exact ⟨hS, rfl⟩
   rw [want_yes c4] at hR
   have z4 := want_tail z3 c4 tSe_ne
   have kw := pwant_yes b B t4 us4 0 d3 z4.ne _ hS.P
   rw [c4] at kw
   have hR' : Hid (_ = R) := hR
   clear hR c4 z3
   go_upto_region 8 with (first
    | (go_at_call 80; (with_reducible refine (kw).mono ?_); rintro e v4 ⟨rfl, hP4, on4⟩; replace hS := hS.onl on4 hP4; replace k3 := k3.kp (on4.kp (fun a => hS.nb ⟨a.1, a.2.1⟩)); replace q3 := (on4.block _ (lt_of q3) b3).trans q3; clear kw)
    | fail)
   have e0 : Hid (_ = R) := hR'
   clear hR' nm
   obtain ⟨CS, hCS⟩ : ∃ C : List Value, [.int .i64 1, .string t.2.1, .slice none 0 0, .int .i64 x3.op, .string x3.tx, .int .i64 x3.ty, .slice pp3 x3.ks.len qq3, .int .i64 0, .string ⟨#[]⟩, .int .i64 0, .slice none 0 0, .int .i64 0, .string ⟨#[]⟩, .int .i64 0, .slice none 0 0, .slice none 0 0, .slice none 0 0] = C := ⟨_, rfl⟩
   have lCS : CS.length = 17 := by rw [← hCS]; rfl
   have oCS : ∀ v ∈ CS, v.oneCell' = true := by rw [← hCS]; intro v hv; simp only [List.mem_cons, List.not_mem_nil, or_false] at hv; rcases hv with rfl | rfl | rfl | rfl | rfl | rfl | rfl | rfl | rfl | rfl | rfl | rfl | rfl | rfl | rfl | rfl | rfl <;> rfl
   have qCS : v4.heap[c3]? = some (.cells CS.toArray 87 (0, 0)) := by rw [← hCS]; exact q3
   have ld := ld17 qCS lCS
   have sr := st17 hS.q rfl lCS oCS
   have rs := rs17 (setN17 hS.q rfl lCS) lCS
   have kf := st_done hS (x := ⟨1, t.2.1, .nil, x3, exN, exN, .nil, .nil⟩) (S := (fun k => w.heap.size ≤ k ∧ k ≠ p ∧ k ≠ c3)) (v := .agg CS.toArray) (by rw [← hCS]; exact ⟨_, _, _, _, _, _, _, _, _, _, _, _, rfl, SlF.nil _ _, k3, SlF.nil _ _, SlF.nil _ _, SlS.nil _ _, SlS.nil _ _⟩) (fun k a => a.1) (fun a => a.2.1 rfl) rfl e0.out.symm CS 0
   clear hCS oCS qCS q3
   refine wp_region_list ?_
   refine Eq.mpr (if_pos (by rfl)) (Or.inl ?_)
   refine wp_load_by 87 (.tmp 3) rfl _ _ rfl ld ?_
   refine Eq.mpr (if_pos (by rfl)) (Or.inl ?_)
   refine wp_store_by 87 (.tmp 2) (.tmp 33) rfl _ _ rfl rfl sr ?_
   go_wp2_with fail
   refine bodyPost_ret (v := .agg CS.toArray) ?_ rfl ?_
   ·exact res17 (by rw [Tryz.results85]) rfl rs
   ·exact kf
 case pos =>
  have m1 : Hid (us1.length ≤ 1000000) := by have := m.out; simp at this; show _ ≤ _; omega
  clear m
  rw [if_pos (show isTx (t1 :: us1) tLb = true from decide_eq_true c1)] at hR
  simp only [List.tail_cons] at hR
  have hR' : Hid (_ = R) := hR
  have z1 := want_tail zu c1 tLb_ne
  have kw := pskip_yes b B t1 us1 0 d z1.ne _ hS.P
  rw [c1] at kw
  clear hR c1 zu
  go_upto_region 3 with (first
   | (go_at_call 78; (with_reducible refine (kw).mono ?_); rintro e v1 ⟨rfl, hP1, on1⟩; replace hS := hS.onl on1 hP1; replace q3 := (on1.block _ (lt_of q3) b3).trans q3; clear kw)
   | fail)
  have hR := hR'.out
  clear hR'
  cases hr : eP n 0 0 us1 d with
  | more => rw [Rs.thn_more hr] at hR; exact absurd hR.symm nm
  | bad pl =>
   rw [Rs.thn_bad hr] at hR
   have kX := (fun w hO hG hP => pexpr n 0 0 us1 d z1 (by decide) (by have := m1.out; omega) (by decide) (by decide) (by rw [hr]; simp) b B w hO hG hP)
   rw [hr] at kX
   have e0 : Hid (R = .bad pl) := hR.symm
   clear hR hr nm
   go_wp2_with (first
    | (go_at_call 98; (refine (kX _ hS.O hS.hG hS.P).mono ?_); rintro e v5 ⟨on5, rfl⟩; replace hS := hS.on.trans on5)
    | fail)
   refine ⟨rfl, ?_⟩
   rw [e0.out]
   exact ⟨hS, rfl⟩
  | ok x5 us5 d5 =>
   rw [Rs.thn_ok hr] at hR
   have kX := (fun w hO hG hP => pexpr n 0 0 us1 d z1 (by decide) (by have := m1.out; omega) (by decide) (by decide) (by rw [hr]; simp) b B w hO hG hP)
   have z5 : Tz us5 := by have := eP_sat n 0 0 us1 d z1; rw [hr] at this; exact this.1
   have m5 : Hid (us5.length ≤ 1000000) := by have := eP_sat n 0 0 us1 d z1; rw [hr] at this; have h2 := this.2; have h3 := m1.out; show _ ≤ _; omega
   clear m1
   rw [hr] at kX
   have hR' : Hid (_ = R) := hR
   clear hR hr z1
   go_upto_region 4 with (first
    | (go_at_call 98; (refine (kX _ hS.O hS.hG hS.P).mono ?_); rintro e v5 ⟨on5, pp5, qq5, rfl, k5, hP5⟩; replace k5 := k5.lo (lo' := (fun k => w.heap.size ≤ k ∧ k ≠ p ∧ k ≠ c3)) (fun k a => ⟨(hS.fr k a).1, (hS.fr k a).2, by have := lt_of q3; have a' : _ ≤ k := a; omega⟩); replace q3 := (on5.block _ (lt_of q3) b3).trans q3; obtain ⟨f0, f1, f2, f3, f4, f5, f6, f7, f8, f9, f10, f11, f12, f13, f14, f15, f16, ff⟩ := c17 q3; have n3 : c3 ≠ v5.heap.size := Nat.ne_of_lt (lt_of q3); have n3' := n3.symm; have n4 : c3 < v5.heap.size := lt_of q3; replace hS := hS.onl on5 hP5; clear kX)
    | fail)
   obtain ⟨Vs, hVs⟩ : ∃ V, v5.setCell ⟨c3, 2, none⟩ (.slice (some ⟨v5.heap.size, 0, none⟩) 1 1) = V := ⟨_, rfl⟩
   have zs : Vs.heap.size = v5.heap.size := by rw [← hVs]; simp [World.setCell]
   replace hS := hS.setN w3 l3 b3 B3 2 [.slice (some ⟨v5.heap.size, 0, none⟩) 1 1]
   have eVs : setN c3 2 [.slice (some ⟨v5.heap.size, 0, none⟩) 1 1] v5 = Vs := hVs
   rw [eVs] at hS
   replace q3 : Vs.heap[c3]? = some (.cells #[.int .i64 1, .string t.2.1, .slice (some ⟨v5.heap.size, 0, none⟩) 1 1, .int .i64 0, .string ⟨#[]⟩, .int .i64 0, .slice none 0 0, .int .i64 0, .string ⟨#[]⟩, .int .i64 0, .slice none 0 0, .int .i64 0, .string ⟨#[]⟩, .int .i64 0, .slice none 0 0, .slice none 0 0, .slice none 0 0] 87 (0, 0)) := by rw [← hVs]; exact at_set q3 2 _
   replace k5 := k5.kp (V := setN c3 2 [.slice (some ⟨v5.heap.size, 0, none⟩) 1 1] v5) (fun k a _ => setN_far c3 k a.2.2 [.slice (some ⟨v5.heap.size, 0, none⟩) 1 1] 2 v5)
   rw [eVs] at k5
   have i5 := slf_new (q := 1) k5 zs (⟨(hS.fr _ (Nat.le_of_eq zs)).1, (hS.fr _ (Nat.le_of_eq zs)).2, n3'⟩ : (fun k => w.heap.size ≤ k ∧ k ≠ p ∧ k ≠ c3) v5.heap.size)
   replace q3 := (Below.block (pb_new (Below.refl Vs.heap.size Vs) (.cells #[.int .i64 x5.op, .string x5.tx, .int .i64 x5.ty, .slice pp5 x5.ks.len qq5] 85)) c3 (lt_of q3)).trans q3
   replace hS := hS.new z5.ne (.cells #[.int .i64 x5.op, .string x5.tx, .int .i64 x5.ty, .slice pp5 x5.ks.len qq5] 85)
   obtain ⟨V5, hV5⟩ : ∃ V, Vs.alloc (.cells #[.int .i64 x5.op, .string x5.tx, .int .i64 x5.ty, .slice pp5 x5.ks.len qq5] 85) = V := ⟨_, rfl⟩
   rw [hVs]
   rw [hV5]
   rw [hV5] at hS q3 i5
   clear hV5 hVs eVs zs n3 n3' n4 k5 ff f0 f1 f2 f3 f4 f5 f6 f7 f8 f9 f10 f11 f12 f13 f14 f15 f16
   obtain ⟨t6, us6, rfl⟩ := z5.cons
   have ne6 : t6 :: us6 ≠ [] := by simp
   have hR := hR'.out
   clear hR'
   have m6 : Hid (us6.length ≤ 1000000) := by have := m5.out; simp at this; show _ ≤ _; omega
   clear m5
   by_cases c6 : t6.2.1 = tRb
   case neg =>
    rw [want_no c6] at hR
    have e0 : Hid (R = .bad t6.2.2) := hR.symm
    clear hR nm
    go_wp2_with (first
     | (go_at_call 80; (with_reducible refine (pwant_no b B t6 us6 0 d5 tRb c6 _ hS.P).mono ?_); rintro e vq6 ⟨rfl, gq6⟩; replace hS := (hS.bel ne6 gq6).on)
     | fail)
    refine ⟨rfl, ?_⟩
    rw [e0.out]
    exact ⟨hS, rfl⟩
   rw [want_yes c6] at hR
   have z6 := want_tail z5 c6 tRb_ne
   have kw := pwant_yes b B t6 us6 0 d5 z6.ne _ hS.P
   rw [c6] at kw
   have hR' : Hid (_ = R) := hR
   clear hR c6 z5
   go_upto_region 5 with (first
    | (go_at_call 80; (with_reducible refine (kw).mono ?_); rintro e v6 ⟨rfl, hP6, on6⟩; replace hS := hS.onl on6 hP6; replace i5 := i5.kp (on6.kp (fun a => hS.nb ⟨a.1, a.2.1⟩)); replace q3 := (on6.block _ (lt_of q3) b3).trans q3; clear kw)
    | fail)
   obtain ⟨t7, us7, rfl⟩ := z6.cons
   have ne7 : t7 :: us7 ≠ [] := by simp
   have hR := hR'.out
   clear hR'
   have m7 : Hid (us7.length ≤ 1000000) := by have := m6.out; simp at this; show _ ≤ _; omega
   clear m6
   by_cases c7 : t7.2.1 = tEq
   case neg =>
    rw [want_no c7] at hR
    have e0 : Hid (R = .bad t7.2.2) := hR.symm
    clear hR nm
    go_wp2_with (first
     | (go_at_call 80; (with_reducible refine (pwant_no b B t7 us7 0 d5 tEq c7 _ hS.P).mono ?_); rintro e vq7 ⟨rfl, gq7⟩; replace hS := (hS.bel ne7 gq7).on)
     | fail)
    refine ⟨rfl, ?_⟩
    rw [e0.out]
    exact ⟨hS, rfl⟩
   rw [want_yes c7] at hR
   have z7 := want_tail z6 c7 tEq_ne
   have kw := pwant_yes b B t7 us7 0 d5 z7.ne _ hS.P
   rw [c7] at kw
   have hR' : Hid (_ = R) := hR
   clear hR c7 z6
   go_upto_region 6 with (first
    | (go_at_call 80; (with_reducible refine (kw).mono ?_); rintro e v7 ⟨rfl, hP7, on7⟩; replace hS := hS.onl on7 hP7; replace i5 := i5.kp (on7.kp (fun a => hS.nb ⟨a.1, a.2.1⟩)); replace q3 := (on7.block _ (lt_of q3) b3).trans q3; clear kw)
    | fail)
   have hR := hR'.out
   clear hR'
   cases hr : eP n 0 0 us7 d5 with
   | more => rw [Rs.thn_more hr] at hR; exact absurd hR.symm nm
   | bad pl =>
    rw [Rs.thn_bad hr] at hR
    have kX := (fun w hO hG hP => pexpr n 0 0 us7 d5 z7 (by decide) (by have := m7.out; omega) (by decide) (by decide) (by rw [hr]; simp) b B w hO hG hP)
    rw [hr] at kX
    have e0 : Hid (R = .bad pl) := hR.symm
    clear hR hr nm
    go_wp2_with (first
     | (go_at_call 98; (refine (kX _ hS.O hS.hG hS.P).mono ?_); rintro e v8 ⟨on8, rfl⟩; replace hS := hS.on.trans on8)
     | fail)
    refine ⟨rfl, ?_⟩
    rw [e0.out]
    exact ⟨hS, rfl⟩
   | ok x8 us8 d8 =>
    rw [Rs.thn_ok hr] at hR
    have kX := (fun w hO hG hP => pexpr n 0 0 us7 d5 z7 (by decide) (by have := m7.out; omega) (by decide) (by decide) (by rw [hr]; simp) b B w hO hG hP)
    have z8 : Tz us8 := by have := eP_sat n 0 0 us7 d5 z7; rw [hr] at this; exact this.1
    have m8 : Hid (us8.length ≤ 1000000) := by have := eP_sat n 0 0 us7 d5 z7; rw [hr] at this; have h2 := this.2; have h3 := m7.out; show _ ≤ _; omega
    clear m7
    rw [hr] at kX
    have hR' : Hid (_ = R) := hR
    clear hR hr z7
    go_upto_region 7 with (first
     | (go_at_call 98; (refine (kX _ hS.O hS.hG hS.P).mono ?_); rintro e v8 ⟨on8, pp8, qq8, rfl, k8, hP8⟩; replace k8 := k8.lo (lo' := (fun k => w.heap.size ≤ k ∧ k ≠ p ∧ k ≠ c3)) (fun k a => ⟨(hS.fr k a).1, (hS.fr k a).2, by have := lt_of q3; have a' : _ ≤ k := a; omega⟩); replace i5 := i5.kp (on8.kp (fun a => hS.nb ⟨a.1, a.2.1⟩)); replace q3 := (on8.block _ (lt_of q3) b3).trans q3; obtain ⟨f0, f1, f2, f3, f4, f5, f6, f7, f8, f9, f10, f11, f12, f13, f14, f15, f16, ff⟩ := c17 q3; replace hS := hS.onl on8 hP8; clear kX)
     | fail)
    obtain ⟨V8, hV8⟩ : ∃ V, setN c3 3 [.int .i64 x8.op, .string x8.tx, .int .i64 x8.ty, .slice pp8 x8.ks.len qq8] v8 = V := ⟨_, rfl⟩
    have eV8 : ((((v8.setCell ⟨c3, 3, none⟩ (.int .i64 x8.op)).setCell ⟨c3, 4, none⟩ (.string x8.tx)).setCell ⟨c3, 5, none⟩ (.int .i64 x8.ty)).setCell ⟨c3, 6, none⟩ (.slice pp8 x8.ks.len qq8)) = V8 := hV8
    rw [eV8]
    replace q3 : V8.heap[c3]? = some (.cells #[.int .i64 1, .string t.2.1, .slice (some ⟨v5.heap.size, 0, none⟩) 1 1, .int .i64 x8.op, .string x8.tx, .int .i64 x8.ty, .slice pp8 x8.ks.len qq8, .int .i64 0, .string ⟨#[]⟩, .int .i64 0, .slice none 0 0, .int .i64 0, .string ⟨#[]⟩, .int .i64 0, .slice none 0 0, .slice none 0 0, .slice none 0 0] 87 (0, 0)) := by rw [← eV8]; exact (at_set (at_set (at_set (at_set q3 3 _) 4 _) 5 _) 6 _)
    replace i5 := i5.kp (V := setN c3 3 [.int .i64 x8.op, .string x8.tx, .int .i64 x8.ty, .slice pp8 x8.ks.len qq8] v8) (fun k a _ => setN_far c3 k a.2.2 [.int .i64 x8.op, .string x8.tx, .int .i64 x8.ty, .slice pp8 x8.ks.len qq8] 3 v8)
    replace k8 := k8.kp (V := setN c3 3 [.int .i64 x8.op, .string x8.tx, .int .i64 x8.ty, .slice pp8 x8.ks.len qq8] v8) (fun k a _ => setN_far c3 k a.2.2 [.int .i64 x8.op, .string x8.tx, .int .i64 x8.ty, .slice pp8 x8.ks.len qq8] 3 v8)
    replace hS := hS.setN w3 l3 b3 B3 3 [.int .i64 x8.op, .string x8.tx, .int .i64 x8.ty, .slice pp8 x8.ks.len qq8]
    rw [hV8] at hS i5 k8
    clear hV8 eV8 f0 f1 f2 f3 f4 f5 f6 f7 f8 f9 f10 f11 f12 f13 f14 f15 f16 ff
    obtain ⟨t9, us9, rfl⟩ := z8.cons
    have ne9 : t9 :: us9 ≠ [] := by simp
    have hR := hR'.out
    clear hR'
    have m9 : Hid (us9.length ≤ 1000000) := by have := m8.out; simp at this; show _ ≤ _; omega
    clear m8
    by_cases c9 : t9.2.1 = tSe
    case neg =>
     rw [want_no c9] at hR
     have e0 : Hid (R = .bad t9.2.2) := hR.symm
     clear hR nm
     go_wp2_with (first
      | (go_at_call 80; (with_reducible refine (pwant_no b B t9 us9 0 d8 tSe c9 _ hS.P).mono ?_); rintro e vq9 ⟨rfl, gq9⟩; replace hS := (hS.bel ne9 gq9).on)
      | fail)
     refine ⟨rfl, ?_⟩
     rw [e0.out]
     exact ⟨hS, rfl⟩
    rw [want_yes c9] at hR
    have z9 := want_tail z8 c9 tSe_ne
    have kw := pwant_yes b B t9 us9 0 d8 z9.ne _ hS.P
    rw [c9] at kw
    have hR' : Hid (_ = R) := hR
    clear hR c9 z8
    go_upto_region 8 with (first
     | (go_at_call 80; (with_reducible refine (kw).mono ?_); rintro e v9 ⟨rfl, hP9, on9⟩; replace hS := hS.onl on9 hP9; replace i5 := i5.kp (on9.kp (fun a => hS.nb ⟨a.1, a.2.1⟩)); replace k8 := k8.kp (on9.kp (fun a => hS.nb ⟨a.1, a.2.1⟩)); replace q3 := (on9.block _ (lt_of q3) b3).trans q3; clear kw)
     | fail)
    have e0 : Hid (_ = R) := hR'
    clear hR' nm
    obtain ⟨CS, hCS⟩ : ∃ C : List Value, [.int .i64 1, .string t.2.1, .slice (some ⟨v5.heap.size, 0, none⟩) 1 1, .int .i64 x8.op, .string x8.tx, .int .i64 x8.ty, .slice pp8 x8.ks.len qq8, .int .i64 0, .string ⟨#[]⟩, .int .i64 0, .slice none 0 0, .int .i64 0, .string ⟨#[]⟩, .int .i64 0, .slice none 0 0, .slice none 0 0, .slice none 0 0] = C := ⟨_, rfl⟩
    have lCS : CS.length = 17 := by rw [← hCS]; rfl
    have oCS : ∀ v ∈ CS, v.oneCell' = true := by rw [← hCS]; intro v hv; simp only [List.mem_cons, List.not_mem_nil, or_false] at hv; rcases hv with rfl | rfl | rfl | rfl | rfl | rfl | rfl | rfl | rfl | rfl | rfl | rfl | rfl | rfl | rfl | rfl | rfl <;> rfl
    have qCS : v9.heap[c3]? = some (.cells CS.toArray 87 (0, 0)) := by rw [← hCS]; exact q3
    have ld := ld17 qCS lCS
    have sr := st17 hS.q rfl lCS oCS
    have rs := rs17 (setN17 hS.q rfl lCS) lCS
    have kf := st_done hS (x := ⟨1, t.2.1, x5.row .nil, x8, exN, exN, .nil, .nil⟩) (S := (fun k => w.heap.size ≤ k ∧ k ≠ p ∧ k ≠ c3)) (v := .agg CS.toArray) (by rw [← hCS]; exact ⟨_, _, _, _, _, _, _, _, _, _, _, _, rfl, i5, k8, SlF.nil _ _, SlF.nil _ _, SlS.nil _ _, SlS.nil _ _⟩) (fun k a => a.1) (fun a => a.2.1 rfl) rfl e0.out.symm CS 0
    clear hCS oCS qCS q3
    refine wp_region_list ?_
    refine Eq.mpr (if_pos (by rfl)) (Or.inl ?_)
    refine wp_load_by 87 (.tmp 3) rfl _ _ rfl ld ?_
    refine Eq.mpr (if_pos (by rfl)) (Or.inl ?_)
    refine wp_store_by 87 (.tmp 2) (.tmp 33) rfl _ _ rfl rfl sr ?_
    go_wp2_with fail
    refine bodyPost_ret (v := .agg CS.toArray) ?_ rfl ?_
    ·exact res17 (by rw [Tryz.results85]) rfl rs
    ·exact kf
end Go.Proofs.YtknoibocpbfmmaaGreatDoor


