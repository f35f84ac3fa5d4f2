/- Texts of the proof, put together. -/
import Derived.Test.YtknoibocpbfmmaaGreatDoorWPaS
namespace Go.Proofs.YtknoibocpbfmmaaGreatDoor
open Go.RowKit
set_option linter.unusedVariables false
set_option linter.unusedSimpArgs false
theorem SoAt.lt {S : Nat → Prop} {W : World} : ∀ {f : So} {c o : Nat}, SoAt W S f c o → SoAt W (fun k => S k ∧ k < W.heap.size) f c o
 | .nil, _, _, _ => trivial
 | .cons d nm ix v l hh t e r, c, o, k => by
  obtain ⟨k0, k1, k2, ⟨s, k3, k3'⟩, k4, k5, k6, ⟨p, q, k7, k8⟩, ⟨p', q', k9, k10⟩, k11⟩ := k
  obtain ⟨a4, b4, c4, s4, d4, e4⟩ := k4
  obtain ⟨a5, b5, c5, s5, d5, e5⟩ := k5
  obtain ⟨a6, b6, c6, s6, d6, e6⟩ := k6
  refine ⟨⟨k0, World.block_lt_of_cell? W _ k1⟩, k1, k2, ⟨s, k3, k3'.lt⟩, ⟨a4, b4, c4, s4, d4, e4.lt⟩, ⟨a5, b5, c5, s5, d5, e5.lt⟩, ⟨a6, b6, c6, s6, d6, e6.lt⟩, ⟨p, q, k7, ?_⟩, ⟨p', q', k9, ?_⟩, SoAt.lt k11⟩
  ·rcases k8 with k8 | ⟨d, u, e, k8⟩
   ·exact Or.inl k8
   ·exact Or.inr ⟨d, u, e, SoAt.lt k8⟩
  ·rcases k10 with k10 | ⟨d, u, e, k10⟩
   ·exact Or.inl k10
   ·exact Or.inr ⟨d, u, e, SoAt.lt k10⟩
theorem SlS.lt {S : Nat → Prop} {W : World} {v : Value} {f : So} (h : SlS W S v f) : SlS W (fun k => S k ∧ k < W.heap.size) v f := by
 obtain ⟨p, q, e, k⟩ := h
 refine ⟨p, q, e, ?_⟩
 rcases k with k | ⟨d, u, e', k⟩
 ·exact Or.inl k
 ·exact Or.inr ⟨d, u, e', k.lt⟩
/-- What statements in a row come to. -/
def SoR (r : Rs So) (b B : Nat) (o : Int) (w : World) (e : Ending) (w' : World) : Prop :=
 Onl b w w' ∧ match r with
 | .ok x us d => ∃ v, e = .returned v ∧ SlS w' (Fr w.heap.size) v x ∧ PAt w' b B us o d
 | .bad p => Fault 4 p e
 | .more => True
def SpSt (n : Nat) : Prop := ∀ (ts : List Tk) (d : Int), Tz ts → Hid (ts.length ≤ 1000000) → stP n ts d ≠ .more → ∀ (b B : Nat) (w : World), OpsAt w → b ≠ 0 → PAt w b B ts 0 d →
 Calls Tryz.prog 63 #[.pointer (some ⟨b, 0, none⟩)] w fun e w' => StR (stP n ts d) b B 0 w e w'
def SpBl (n : Nat) : Prop := ∀ (ts : List Tk) (d : Int), Tz ts → Hid (ts.length ≤ 1000000) → blP n ts d ≠ .more → ∀ (b B : Nat) (w : World), OpsAt w → b ≠ 0 → PAt w b B ts 0 d →
 Calls Tryz.prog 84 #[.pointer (some ⟨b, 0, none⟩)] w fun e w' => SoR (blP n ts d) b B 0 w e w'
theorem sc17 {V : World} {p : Nat} {cs : List Value} {old : Array Value} {t : TypeId} (q : V.heap[p]? = some (.cells old t (0, 0))) (ho : old.size = 17) (hl : cs.length = 17) (h1 : ∀ v ∈ cs, v.oneCell' = true) : (storeCells ⟨p, 0, none⟩ cs).run Tryz.prog V = .ok () (setN p 0 cs V) := by
 have h := run_storeCells_cells (P := Tryz.prog) p 0 cs 0 V (fun j hj => by
  rw [Nat.zero_add]
  have hj' : j < old.size := by rw [ho, ← hl]; exact hj
  rw [show V.cell? ⟨p, j, none⟩ = old[j]? by simp [World.cell?, q], Array.getElem?_eq_getElem hj']
  rfl) (fun j hj => by simp [World.frozen?, q]) h1
 rw [← setCells_setN]
 exact h
theorem StV.cs {V : World} {S : Nat → Prop} {v : Value} {x : St} (h : StV V S v x) : ∃ CS : List Value, v = .agg CS.toArray ∧ CS.length = 17 ∧ (∀ u ∈ CS, u.oneCell' = true) ∧ StV V S (.agg CS.toArray) x := by
 obtain ⟨p0, q0, p1, q1, p2, q2, p3, q3, p4, q4, p5, q5, rfl, j⟩ := h
 refine ⟨_, rfl, rfl, fun u hu => ?_, p0, q0, p1, q1, p2, q2, p3, q3, p4, q4, p5, q5, rfl, j⟩
 simp only [List.mem_cons, List.not_mem_nil, or_false] at hu
 rcases hu with rfl | rfl | rfl | rfl | rfl | rfl | rfl | rfl | rfl | rfl | rfl | rfl | rfl | rfl | rfl | rfl | rfl <;> rfl
/-- choice -/
def chP (n : Nat) (ts : List Tk) (d : Int) : Rs St := (cP n 0 ts d).thn fun c ts d => (blP n ts d).thn fun t ts d => if isTx ts tEl then (blP n ts.tail d).thn fun e ts d => .ok ⟨3, tx0, .nil, c, exN, exN, t, e⟩ ts d else .ok ⟨3, tx0, .nil, c, exN, exN, t, .nil⟩ ts d
set_option maxRecDepth 100000 in
set_option maxHeartbeats 1600000 in
theorem pchoice (n : Nat) (hB : SpBl n) : ∀ (ts : List Tk) (d : Int), Tz ts → Hid (ts.length ≤ 1000000) → chP n ts d ≠ .more → ∀ (b B : Nat) (w : World), OpsAt w → b ≠ 0 → PAt w b B ts 0 d →
  Calls Tryz.prog 82 #[.pointer (some ⟨b, 0, none⟩)] w fun e w' => StR (chP n ts d) b B 0 w e w' := by
 intro ts d z m nm b B w hO0 hG h
 obtain ⟨R, hR⟩ : ∃ R, chP n ts d = R := ⟨_, rfl⟩
 rw [hR]
 rw [hR] at nm
 unfold chP at hR
 have hlt := h.lt
 have hltB := h.ltB z.ne
 go_enter Tryz.func82, Tryz.ntmps82
 go_upto_region 1 with fail
 obtain ⟨W, hW⟩ : ∃ W, w.alloc (.cells #[.int .i64 0, .string ⟨#[]⟩, .slice none 0 0, .int .i64 0, .string ⟨#[]⟩, .int .i64 0, .slice none 0 0, .int .i64 0, .string ⟨#[]⟩, .int .i64 0, .slice none 0 0, .int .i64 0, .string ⟨#[]⟩, .int .i64 0, .slice none 0 0, .slice none 0 0, .slice none 0 0] 87) = W := ⟨_, rfl⟩
 obtain ⟨p, hp⟩ : ∃ p, w.heap.size = p := ⟨_, rfl⟩
 have hS : SitZ (.cells #[.int .i64 0, .string ⟨#[]⟩, .slice none 0 0, .int .i64 0, .string ⟨#[]⟩, .int .i64 0, .slice none 0 0, .int .i64 0, .string ⟨#[]⟩, .int .i64 0, .slice none 0 0, .int .i64 0, .string ⟨#[]⟩, .int .i64 0, .slice none 0 0, .slice none 0 0, .slice none 0 0] 87 (0, 0)) b B p w W ts 0 d := by
  have gW : Below w.heap.size w W := by rw [← hW]; exact pb_new (Below.refl _ _) _
  refine ⟨(Onl.refl b w).below gW, ?_, h.bel z.ne gW, hO0.bel gW, Nat.le_of_eq hp, by omega, by omega, hG, hlt⟩
  rw [← hW, ← hp]; exact World.alloc_heap_new w _
 rw [hW]
 (try rw [hp])
 clear hW h hO0 hp hlt hltB
 cases hr : cP n 0 ts d with
 | more => rw [Rs.thn_more hr] at hR; exact absurd hR.symm nm
 | bad pl =>
  rw [Rs.thn_bad hr] at hR
  have kX := (fun w hO hG hP => pencl n 0 ts d z (by decide) (by have := m.out; omega) (by rw [hr]; simp) b B w hO hG hP)
  rw [hr] at kX
  have e0 : Hid (R = .bad pl) := hR.symm
  clear hR hr nm
  go_wp2_with (first
   | (go_at_call 83; (refine (kX _ hS.O hS.hG hS.P).mono ?_); rintro e v1 ⟨on1, rfl⟩; replace hS := hS.on.trans on1; clear kX)
   | fail)
  refine ⟨rfl, ?_⟩
  rw [e0.out]
  exact ⟨hS, rfl⟩
 | ok x1 us1 d1 =>
  rw [Rs.thn_ok hr] at hR
  have kX := (fun w hO hG hP => pencl n 0 ts d z (by decide) (by have := m.out; omega) (by rw [hr]; simp) b B w hO hG hP)
  have sa := cP_sat n 0 ts d z
  rw [hr] at sa kX
  have z1 : Tz us1 := sa.1
  have m1 : Hid (us1.length ≤ 1000000) := by have h2 := sa.2; have h3 := m.out; show _ ≤ _; omega
  clear hr sa m
  cases hr : blP n us1 d1 with
  | more => rw [Rs.thn_more hr] at hR; exact absurd hR.symm nm
  | bad pl =>
   rw [Rs.thn_bad hr] at hR
   have kY := (fun w hO hG hP => hB us1 d1 z1 m1 (by rw [hr]; simp) b B w hO hG hP)
   rw [hr] at kY
   have e0 : Hid (R = .bad pl) := hR.symm
   clear hR hr nm
   go_wp2_with (first
    | (go_at_call 83; (refine (kX _ hS.O hS.hG hS.P).mono ?_); rintro e v1 ⟨on1, pp1, qq1, rfl, k1, hP1⟩; replace k1 := k1.lo (lo' := (fun k => w.heap.size ≤ k ∧ k ≠ p)) (hS.fr); replace hS := hS.onl on1 hP1; clear kX)
    | (go_at_call 84; (refine (kY _ hS.O hS.hG hS.P).mono ?_); rintro e v2 ⟨on2, rfl⟩; replace hS := hS.on.trans on2; clear kY)
    | fail)
   refine ⟨rfl, ?_⟩
   rw [e0.out]
   exact ⟨hS, rfl⟩
  | ok y2 us2 d2 =>
   rw [Rs.thn_ok hr] at hR
   have kY := (fun w hO hG hP => hB us1 d1 z1 m1 (by rw [hr]; simp) b B w hO hG hP)
   have sa := (st_sat n).2.1 us1 d1 z1
   rw [hr] at sa kY
   have z2 : Tz us2 := sa.1
   have m2 : Hid (us2.length ≤ 1000000) := by have h2 := sa.2; have h3 := m1.out; show _ ≤ _; omega
   clear hr sa m1
   have hR' : Hid (_ = R) := hR
   clear hR
   go_upto_region 2 with (first
    | (go_at_call 83; (refine (kX _ hS.O hS.hG hS.P).mono ?_); rintro e v1 ⟨on1, pp1, qq1, rfl, k1, hP1⟩; replace k1 := k1.lo (lo' := (fun k => w.heap.size ≤ k ∧ k ≠ p)) (hS.fr); replace hS := hS.onl on1 hP1; clear kX)
    | (go_at_call 84; (refine (kY _ hS.O hS.hG hS.P).mono ?_); rintro e v2 ⟨on2, vv2, rfl, ⟨pp2, qq2, rfl, kk2⟩, hP2⟩; have k2 : SlS v2 (fun k => w.heap.size ≤ k ∧ k ≠ p) (.slice pp2 y2.len qq2) y2 := SlS.lo (hS.fr) ⟨_, _, rfl, kk2⟩; clear kk2; replace k1 := k1.kp (on2.kp hS.nb); replace hS := hS.onl on2 hP2; clear kY)
    | fail)
   replace k1 := k1.lt.lo (lo' := fun k => w.heap.size ≤ k ∧ k ≠ p ∧ k ≠ v2.heap.size) (fun k a => ⟨a.1.1, a.1.2, Nat.ne_of_lt a.2⟩)
   replace k2 := k2.lt.lo (lo' := fun k => w.heap.size ≤ k ∧ k ≠ p ∧ k ≠ v2.heap.size) (fun k a => ⟨a.1.1, a.1.2, Nat.ne_of_lt a.2⟩)
   replace k1 := k1.kp (Below.kp (pb_new (Below.refl v2.heap.size v2) (.cells #[.int .i64 3, .string ⟨#[]⟩, .slice none 0 0, .int .i64 x1.op, .string x1.tx, .int .i64 x1.ty, .slice pp1 x1.ks.len qq1, .int .i64 0, .string ⟨#[]⟩, .int .i64 0, .slice none 0 0, .int .i64 0, .string ⟨#[]⟩, .int .i64 0, .slice none 0 0, .slice pp2 y2.len qq2, .slice none 0 0] 87)) _)
   replace k2 := k2.kp (Below.kp (pb_new (Below.refl v2.heap.size v2) (.cells #[.int .i64 3, .string ⟨#[]⟩, .slice none 0 0, .int .i64 x1.op, .string x1.tx, .int .i64 x1.ty, .slice pp1 x1.ks.len qq1, .int .i64 0, .string ⟨#[]⟩, .int .i64 0, .slice none 0 0, .int .i64 0, .string ⟨#[]⟩, .int .i64 0, .slice none 0 0, .slice pp2 y2.len qq2, .slice none 0 0] 87)) _)
   obtain ⟨V3, hV3⟩ : ∃ V, v2.alloc (.cells #[.int .i64 3, .string ⟨#[]⟩, .slice none 0 0, .int .i64 x1.op, .string x1.tx, .int .i64 x1.ty, .slice pp1 x1.ks.len qq1, .int .i64 0, .string ⟨#[]⟩, .int .i64 0, .slice none 0 0, .int .i64 0, .string ⟨#[]⟩, .int .i64 0, .slice none 0 0, .slice pp2 y2.len qq2, .slice none 0 0] 87) = V := ⟨_, rfl⟩
   obtain ⟨c3, h3⟩ : ∃ c, v2.heap.size = c := ⟨_, rfl⟩
   have q3 : V3.heap[c3]? = some (.cells #[.int .i64 3, .string ⟨#[]⟩, .slice none 0 0, .int .i64 x1.op, .string x1.tx, .int .i64 x1.ty, .slice pp1 x1.ks.len qq1, .int .i64 0, .string ⟨#[]⟩, .int .i64 0, .slice none 0 0, .int .i64 0, .string ⟨#[]⟩, .int .i64 0, .slice none 0 0, .slice pp2 y2.len qq2, .slice none 0 0] 87 (0, 0)) := by rw [← hV3, ← h3]; exact World.alloc_heap_new _ _
   have l3 : p ≠ c3 := by rw [← h3]; exact Nat.ne_of_lt hS.pl
   have w3 : w.heap.size ≤ c3 := by have := hS.zp; have := hS.pl; omega
   have b3 : c3 ≠ b := by have := hS.P.lt; omega
   have B3 : c3 ≠ B := by have := hS.P.ltB z2.ne; omega
   replace hS := hS.new z2.ne (.cells #[.int .i64 3, .string ⟨#[]⟩, .slice none 0 0, .int .i64 x1.op, .string x1.tx, .int .i64 x1.ty, .slice pp1 x1.ks.len qq1, .int .i64 0, .string ⟨#[]⟩, .int .i64 0, .slice none 0 0, .int .i64 0, .string ⟨#[]⟩, .int .i64 0, .slice none 0 0, .slice pp2 y2.len qq2, .slice none 0 0] 87)
   rw [hV3] at hS k1 k2; rw [h3] at k1 k2
   rw [hV3]
   (try rw [h3])
   clear hV3 h3
   obtain ⟨t11, us11, rfl⟩ := z2.cons
   have ne11 : t11 :: us11 ≠ [] := by simp
   have hR := hR'.out
   clear hR'
   by_cases c11 : t11.2.1 = tEl
   case neg =>
    rw [if_neg (show ¬ isTx (t11 :: us11) tEl = true by show ¬ decide (t11.2.1 = tEl) = true; rw [decide_eq_true_iff]; exact c11)] at hR
    have hR' : Hid (_ = R) := hR
    clear hR
    go_upto_region 4 with (first
     | (go_at_call 78; (with_reducible refine (pskip_no b B t11 us11 0 d2 tEl c11 _ hS.P).mono ?_); rintro e v11 ⟨rfl, g11⟩; replace k1 := k1.kp (Below.kp g11 _); replace k2 := k2.kp (Below.kp g11 _); replace q3 := (g11.block _ (lt_of q3)).trans q3; replace hS := hS.bel ne11 g11)
     | fail)
    have e0 : Hid (_ = R) := hR'
    clear hR' nm
    obtain ⟨CS, hCS⟩ : ∃ C : List Value, [.int .i64 3, .string ⟨#[]⟩, .slice none 0 0, .int .i64 x1.op, .string x1.tx, .int .i64 x1.ty, .slice pp1 x1.ks.len qq1, .int .i64 0, .string ⟨#[]⟩, .int .i64 0, .slice none 0 0, .int .i64 0, .string ⟨#[]⟩, .int .i64 0, .slice none 0 0, .slice pp2 y2.len qq2, .slice none 0 0] = C := ⟨_, rfl⟩
    have lCS : CS.length = 17 := by rw [← hCS]; rfl
    have oCS : ∀ v ∈ CS, v.oneCell' = true := by rw [← hCS]; intro v hv; simp only [List.mem_cons, List.not_mem_nil, or_false] at hv; rcases hv with rfl | rfl | rfl | rfl | rfl | rfl | rfl | rfl | rfl | rfl | rfl | rfl | rfl | rfl | rfl | rfl | rfl <;> rfl
    have qCS : v11.heap[c3]? = some (.cells CS.toArray 87 (0, 0)) := by rw [← hCS]; exact q3
    have ld := ld17 qCS lCS
    have sr := st17 hS.q rfl lCS oCS
    have rs := rs17 (setN17 hS.q rfl lCS) lCS
    have kf := st_done hS (x := ⟨3, tx0, .nil, x1, exN, exN, y2, .nil⟩) (S := (fun k => w.heap.size ≤ k ∧ k ≠ p ∧ k ≠ c3)) (v := .agg CS.toArray) (by rw [← hCS]; exact ⟨_, _, _, _, _, _, _, _, _, _, _, _, rfl, SlF.nil _ _, k1, SlF.nil _ _, SlF.nil _ _, k2, SlS.nil _ _⟩) (fun k a => a.1) (fun a => a.2.1 rfl) rfl e0.out.symm CS 0
    clear hCS oCS qCS q3
    refine wp_region_list ?_
    refine Eq.mpr (if_pos (by rfl)) (Or.inl ?_)
    refine wp_load_by 87 (.tmp 3) rfl _ _ rfl ld ?_
    refine Eq.mpr (if_pos (by rfl)) (Or.inl ?_)
    refine wp_store_by 87 (.tmp 2) (.tmp 16) rfl _ _ rfl rfl sr ?_
    go_wp2_with fail
    refine bodyPost_ret (v := .agg CS.toArray) ?_ rfl ?_
    ·exact res17 (by rw [Tryz.results82]) rfl rs
    ·exact kf
   case pos =>
    have m11 : Hid (us11.length ≤ 1000000) := by have := m2.out; simp at this; show _ ≤ _; omega
    clear m2
    rw [if_pos (show isTx (t11 :: us11) tEl = true from decide_eq_true c11)] at hR
    simp only [List.tail_cons] at hR
    have hR' : Hid (_ = R) := hR
    have z11 := want_tail z2 c11 tEl_ne
    have kw := pskip_yes b B t11 us11 0 d2 z11.ne _ hS.P
    rw [c11] at kw
    clear hR c11 z2
    go_upto_region 3 with (first
     | (go_at_call 78; (with_reducible refine (kw).mono ?_); rintro e v11 ⟨rfl, hP11, on11⟩; replace hS := hS.onl on11 hP11; replace k1 := k1.kp (on11.kp (fun a => hS.nb ⟨a.1, a.2.1⟩)); replace k2 := k2.kp (on11.kp (fun a => hS.nb ⟨a.1, a.2.1⟩)); replace q3 := (on11.block _ (lt_of q3) b3).trans q3; clear kw)
     | fail)
    have hR := hR'.out
    clear hR'
    cases hr : blP n us11 d2 with
    | more => rw [Rs.thn_more hr] at hR; exact absurd hR.symm nm
    | bad pl =>
     rw [Rs.thn_bad hr] at hR
     have kY := (fun w hO hG hP => hB us11 d2 z11 m11 (by rw [hr]; simp) b B w hO hG hP)
     rw [hr] at kY
     have e0 : Hid (R = .bad pl) := hR.symm
     clear hR hr nm
     go_wp2_with (first
      | (go_at_call 84; (refine (kY _ hS.O hS.hG hS.P).mono ?_); rintro e v12 ⟨on12, rfl⟩; replace hS := hS.on.trans on12; clear kY)
      | fail)
     refine ⟨rfl, ?_⟩
     rw [e0.out]
     exact ⟨hS, rfl⟩
    | ok y12 us12 d12 =>
     rw [Rs.thn_ok hr] at hR
     have kY := (fun w hO hG hP => hB us11 d2 z11 m11 (by rw [hr]; simp) b B w hO hG hP)
     have sa := (st_sat n).2.1 us11 d2 z11
     rw [hr] at sa kY
     have z12 : Tz us12 := sa.1
     have hR' : Hid (_ = R) := hR
     clear hR hr sa
     go_upto_region 4 with (first
      | (go_at_call 84; (refine (kY _ hS.O hS.hG hS.P).mono ?_); rintro e v12 ⟨on12, vv12, rfl, ⟨pp12, qq12, rfl, kk12⟩, hP12⟩; have k12 : SlS v12 (fun k => w.heap.size ≤ k ∧ k ≠ p ∧ k ≠ c3) (.slice pp12 y12.len qq12) y12 := SlS.lo (fun k a => ⟨(hS.fr k a).1, (hS.fr k a).2, by have := lt_of q3; have a' : _ ≤ k := a; omega⟩) ⟨_, _, rfl, kk12⟩; clear kk12; replace k1 := k1.kp (on12.kp (fun a => hS.nb ⟨a.1, a.2.1⟩)); replace k2 := k2.kp (on12.kp (fun a => hS.nb ⟨a.1, a.2.1⟩)); replace q3 := (on12.block _ (lt_of q3) b3).trans q3; obtain ⟨f0, f1, f2, f3, f4, f5, f6, f7, f8, f9, f10, f11, f12, f13, f14, f15, f16, ff⟩ := c17 q3; replace hS := hS.onl on12 hP12; clear kY)
      | fail)
     obtain ⟨V12, hV12⟩ : ∃ V, setN c3 16 [.slice pp12 y12.len qq12] v12 = V := ⟨_, rfl⟩
     have eV12 : (v12.setCell ⟨c3, 16, none⟩ (.slice pp12 y12.len qq12)) = V12 := hV12
     rw [eV12]
     replace q3 : V12.heap[c3]? = some (.cells #[.int .i64 3, .string ⟨#[]⟩, .slice none 0 0, .int .i64 x1.op, .string x1.tx, .int .i64 x1.ty, .slice pp1 x1.ks.len qq1, .int .i64 0, .string ⟨#[]⟩, .int .i64 0, .slice none 0 0, .int .i64 0, .string ⟨#[]⟩, .int .i64 0, .slice none 0 0, .slice pp2 y2.len qq2, .slice pp12 y12.len qq12] 87 (0, 0)) := by rw [← eV12]; exact (at_set q3 16 _)
     replace k1 := k1.kp (V := setN c3 16 [.slice pp12 y12.len qq12] v12) (fun k a _ => setN_far c3 k a.2.2 [.slice pp12 y12.len qq12] 16 v12)
     replace k2 := k2.kp (V := setN c3 16 [.slice pp12 y12.len qq12] v12) (fun k a _ => setN_far c3 k a.2.2 [.slice pp12 y12.len qq12] 16 v12)
     replace k12 := k12.kp (V := setN c3 16 [.slice pp12 y12.len qq12] v12) (fun k a _ => setN_far c3 k a.2.2 [.slice pp12 y12.len qq12] 16 v12)
     replace hS := hS.setN w3 l3 b3 B3 16 [.slice pp12 y12.len qq12]
     rw [hV12] at hS k1 k2 k12
     clear hV12 eV12 f0 f1 f2 f3 f4 f5 f6 f7 f8 f9 f10 f11 f12 f13 f14 f15 f16 ff
     have e0 : Hid (_ = R) := hR'
     clear hR' nm
     obtain ⟨CS, hCS⟩ : ∃ C : List Value, [.int .i64 3, .string ⟨#[]⟩, .slice none 0 0, .int .i64 x1.op, .string x1.tx, .int .i64 x1.ty, .slice pp1 x1.ks.len qq1, .int .i64 0, .string ⟨#[]⟩, .int .i64 0, .slice none 0 0, .int .i64 0, .string ⟨#[]⟩, .int .i64 0, .slice none 0 0, .slice pp2 y2.len qq2, .slice pp12 y12.len qq12] = C := ⟨_, rfl⟩
     have lCS : CS.length = 17 := by rw [← hCS]; rfl
     have oCS : ∀ v ∈ CS, v.oneCell' = true := by rw [← hCS]; intro v hv; simp only [List.mem_cons, List.not_mem_nil, or_false] at hv; rcases hv with rfl | rfl | rfl | rfl | rfl | rfl | rfl | rfl | rfl | rfl | rfl | rfl | rfl | rfl | rfl | rfl | rfl <;> rfl
     have qCS : V12.heap[c3]? = some (.cells CS.toArray 87 (0, 0)) := by rw [← hCS]; exact q3
     have ld := ld17 qCS lCS
     have sr := st17 hS.q rfl lCS oCS
     have rs := rs17 (setN17 hS.q rfl lCS) lCS
     have kf := st_done hS (x := ⟨3, tx0, .nil, x1, exN, exN, y2, y12⟩) (S := (fun k => w.heap.size ≤ k ∧ k ≠ p ∧ k ≠ c3)) (v := .agg CS.toArray) (by rw [← hCS]; exact ⟨_, _, _, _, _, _, _, _, _, _, _, _, rfl, SlF.nil _ _, k1, SlF.nil _ _, SlF.nil _ _, k2, k12⟩) (fun k a => a.1) (fun a => a.2.1 rfl) rfl e0.out.symm CS 0
     clear hCS oCS qCS q3
     refine wp_region_list ?_
     refine Eq.mpr (if_pos (by rfl)) (Or.inl ?_)
     refine wp_load_by 87 (.tmp 3) rfl _ _ rfl ld ?_
     refine Eq.mpr (if_pos (by rfl)) (Or.inl ?_)
     refine wp_store_by 87 (.tmp 2) (.tmp 16) rfl _ _ rfl rfl sr ?_
     go_wp2_with fail
     refine bodyPost_ret (v := .agg CS.toArray) ?_ rfl ?_
     ·exact res17 (by rw [Tryz.results82]) rfl rs
     ·exact kf
end Go.Proofs.YtknoibocpbfmmaaGreatDoor


namespace Go.Proofs.YtknoibocpbfmmaaGreatDoor
open Go.RowKit
set_option linter.unusedVariables false
set_option linter.unusedSimpArgs false
set_option maxRecDepth 100000 in
set_option maxHeartbeats 3200000 in
theorem step_stmt (n : Nat) (hB : SpBl n) : SpSt (n + 1) := by
 intro ts d z m nm b B w hO0 hG h
 obtain ⟨R, hR⟩ : ∃ R, stP (n + 1) ts d = R := ⟨_, rfl⟩
 rw [hR]
 rw [hR] at nm
 rw [stP] at hR
 have hlt := h.lt
 have hltB := h.ltB z.ne
 go_enter Tryz.func63, Tryz.ntmps63
 go_upto_region 1 with fail
 obtain ⟨W, hW⟩ : ∃ W, w.alloc (.cells #[.int .i64 0, .string ⟨#[]⟩, .slice none 0 0, .int .i64 0, .string ⟨#[]⟩, .int .i64 0, .slice none 0 0, .int .i64 0, .string ⟨#[]⟩, .int .i64 0, .slice none 0 0, .int .i64 0, .string ⟨#[]⟩, .int .i64 0, .slice none 0 0, .slice none 0 0, .slice none 0 0] 87) = W := ⟨_, rfl⟩
 obtain ⟨p, hp⟩ : ∃ p, w.heap.size = p := ⟨_, rfl⟩
 have hS : SitZ (.cells #[.int .i64 0, .string ⟨#[]⟩, .slice none 0 0, .int .i64 0, .string ⟨#[]⟩, .int .i64 0, .slice none 0 0, .int .i64 0, .string ⟨#[]⟩, .int .i64 0, .slice none 0 0, .int .i64 0, .string ⟨#[]⟩, .int .i64 0, .slice none 0 0, .slice none 0 0, .slice none 0 0] 87 (0, 0)) b B p w W ts 0 d := by
  have gW : Below w.heap.size w W := by rw [← hW]; exact pb_new (Below.refl _ _) _
  refine ⟨(Onl.refl b w).below gW, ?_, h.bel z.ne gW, hO0.bel gW, Nat.le_of_eq hp, by omega, by omega, hG, hlt⟩
  rw [← hW, ← hp]; exact World.alloc_heap_new w _
 rw [hW]
 (try rw [hp])
 clear hW h hO0 hp hlt hltB
 have hR' : Hid (_ = R) := hR
 clear hR
 obtain ⟨t21, us21, rfl⟩ := z.cons
 have ne21 : t21 :: us21 ≠ [] := by simp
 have hR := hR'.out
 clear hR'
 by_cases c21 : t21.2.1 = tRd
 case pos =>
  have m21 : Hid (us21.length ≤ 1000000) := by have := m.out; simp at this; show _ ≤ _; omega
  clear m
  rw [if_pos (show isTx (t21 :: us21) tRd = true from decide_eq_true c21)] at hR
  simp only [List.tail_cons] at hR
  have hR' : Hid (_ = R) := hR
  have z21 := want_tail z c21 tRd_ne
  have kw := pskip_yes b B t21 us21 0 d z21.ne _ hS.P
  rw [c21] at kw
  clear hR c21 z
  go_upto_region 2 with (first
   | (go_at_call 78; (with_reducible refine (kw).mono ?_); rintro e v21 ⟨rfl, hP21, on21⟩; replace hS := hS.onl on21 hP21; clear kw)
   | fail)
  have hR := hR'.out
  clear hR'
  cases hr : readP us21 d with
  | more => rw [hr] at hR; exact absurd hR.symm nm
  | bad pl =>
   have kX := (fun w hO hG hP => pread us21 0 d z21 (by rw [hr]; simp) b B w hO hG hP)
   rw [hr] at kX hR
   have e0 : Hid (R = .bad pl) := hR.symm
   clear hR hr nm
   go_wp2_with (first
    | (go_at_call 81; (refine (kX _ hS.O hS.hG hS.P).mono ?_); rintro e v22 ⟨on22, rfl⟩; replace hS := hS.on.trans on22; clear kX)
    | fail)
   refine ⟨rfl, ?_⟩
   rw [e0.out]
   exact ⟨hS, rfl⟩
  | ok x us22 d22 =>
   have kX := (fun w hO hG hP => pread us21 0 d z21 (by rw [hr]; simp) b B w hO hG hP)
   rw [hr] at kX hR
   have e0 : Hid (R = .ok x us22 d22) := hR.symm
   clear hR hr nm
   go_wp2_with (first
    | (go_at_call 81; (refine (kX _ hS.O hS.hG hS.P).mono ?_); rintro e v22 ⟨on22, vv22, rfl, kk22, hP22⟩; obtain ⟨CS, rfl, lCS, oCS, kS⟩ := kk22.cs; clear kk22; replace kS := StV.lo (S' := (fun k => w.heap.size ≤ k ∧ k ≠ p)) (hS.fr) kS; replace hS := hS.onl on22 hP22; have sc := sc17 hS.q rfl lCS oCS; clear kX)
    | fail)
   have kf := st_done hS (x := x) (S := (fun k => w.heap.size ≤ k ∧ k ≠ p)) (v := .agg CS.toArray) kS (fun k a => a.1) (fun a => a.2 rfl) rfl e0.out CS 0
   have rs := rs17 (setN17 hS.q rfl lCS) lCS
   clear e0 kS oCS
   refine bodyPost_ret (v := .agg CS.toArray) ?_ rfl ?_
   ·exact res17 (by rw [Tryz.results63]) rfl rs
   ·exact kf
 case neg =>
  rw [if_neg (show ¬ isTx (t21 :: us21) tRd = true by show ¬ decide (t21.2.1 = tRd) = true; rw [decide_eq_true_iff]; exact c21)] at hR
  have hR' : Hid (_ = R) := hR
  clear hR
  go_upto_region 3 with (first
   | (go_at_call 78; (with_reducible refine (pskip_no b B t21 us21 0 d tRd c21 _ hS.P).mono ?_); rintro e v21 ⟨rfl, g21⟩; replace hS := hS.bel ne21 g21)
   | fail)
  have hR := hR'.out
  clear hR'
  by_cases c22 : t21.2.1 = tIf
  case pos =>
   have m22 : Hid (us21.length ≤ 1000000) := by have := m.out; simp at this; show _ ≤ _; omega
   clear m
   rw [if_pos (show isTx (t21 :: us21) tIf = true from decide_eq_true c22)] at hR
   simp only [List.tail_cons] at hR
   have hR' : Hid (_ = R) := hR
   have z22 := want_tail z c22 tIf_ne
   have kw := pskip_yes b B t21 us21 0 d z22.ne _ hS.P
   rw [c22] at kw
   clear hR c22 z
   go_upto_region 4 with (first
    | (go_at_call 78; (with_reducible refine (kw).mono ?_); rintro e v22 ⟨rfl, hP22, on22⟩; replace hS := hS.onl on22 hP22; clear kw)
    | fail)
   replace hR' : Hid (chP n us21 d = R) := hR'
   have hR := hR'.out
   clear hR'
   cases hr : chP n us21 d with
   | more => rw [hr] at hR; exact absurd hR.symm nm
   | bad pl =>
    have kX := (fun w hO hG hP => pchoice n hB us21 d z22 m22 (by rw [hr]; simp) b B w hO hG hP)
    rw [hr] at kX hR
    have e0 : Hid (R = .bad pl) := hR.symm
    clear hR hr nm
    go_wp2_with (first
     | (go_at_call 82; (refine (kX _ hS.O hS.hG hS.P).mono ?_); rintro e v23 ⟨on23, rfl⟩; replace hS := hS.on.trans on23; clear kX)
     | fail)
    refine ⟨rfl, ?_⟩
    rw [e0.out]
    exact ⟨hS, rfl⟩
   | ok x us23 d23 =>
    have kX := (fun w hO hG hP => pchoice n hB us21 d z22 m22 (by rw [hr]; simp) b B w hO hG hP)
    rw [hr] at kX hR
    have e0 : Hid (R = .ok x us23 d23) := hR.symm
    clear hR hr nm
    go_wp2_with (first
     | (go_at_call 82; (refine (kX _ hS.O hS.hG hS.P).mono ?_); rintro e v23 ⟨on23, vv23, rfl, kk23, hP23⟩; obtain ⟨CS, rfl, lCS, oCS, kS⟩ := kk23.cs; clear kk23; replace kS := StV.lo (S' := (fun k => w.heap.size ≤ k ∧ k ≠ p)) (hS.fr) kS; replace hS := hS.onl on23 hP23; have sc := sc17 hS.q rfl lCS oCS; clear kX)
     | fail)
    have kf := st_done hS (x := x) (S := (fun k => w.heap.size ≤ k ∧ k ≠ p)) (v := .agg CS.toArray) kS (fun k a => a.1) (fun a => a.2 rfl) rfl e0.out CS 0
    have rs := rs17 (setN17 hS.q rfl lCS) lCS
    clear e0 kS oCS
    refine bodyPost_ret (v := .agg CS.toArray) ?_ rfl ?_
    ·exact res17 (by rw [Tryz.results63]) rfl rs
    ·exact kf
  case neg =>
   rw [if_neg (show ¬ isTx (t21 :: us21) tIf = true by show ¬ decide (t21.2.1 = tIf) = true; rw [decide_eq_true_iff]; exact c22)] at hR
   have hR' : Hid (_ = R) := hR
   clear hR
   go_upto_region 5 with (first
    | (go_at_call 78; (with_reducible refine (pskip_no b B t21 us21 0 d tIf c22 _ hS.P).mono ?_); rintro e v22 ⟨rfl, g22⟩; replace hS := hS.bel ne21 g22)
    | fail)
   have hR := hR'.out
   clear hR'
   by_cases c23 : t21.2.1 = tWh
   case pos =>
    have m23 : Hid (us21.length ≤ 1000000) := by have := m.out; simp at this; show _ ≤ _; omega
    clear m
    rw [if_pos (show isTx (t21 :: us21) tWh = true from decide_eq_true c23)] at hR
    simp only [List.tail_cons] at hR
    have hR' : Hid (_ = R) := hR
    have z23 := want_tail z c23 tWh_ne
    have kw := pskip_yes b B t21 us21 0 d z23.ne _ hS.P
    rw [c23] at kw
    clear hR c23 z
    go_upto_region 6 with (first
     | (go_at_call 78; (with_reducible refine (kw).mono ?_); rintro e v23 ⟨rfl, hP23, on23⟩; replace hS := hS.onl on23 hP23; clear kw)
     | fail)
    have hR := hR'.out
    clear hR'
    cases hr : cP n 0 us21 d with
    | more => rw [Rs.thn_more hr] at hR; exact absurd hR.symm nm
    | bad pl =>
     rw [Rs.thn_bad hr] at hR
     have kX := (fun w hO hG hP => pencl n 0 us21 d z23 (by decide) (by have := m23.out; omega) (by rw [hr]; simp) b B w hO hG hP)
     rw [hr] at kX
     have e0 : Hid (R = .bad pl) := hR.symm
     clear hR hr nm
     go_wp2_with (first
      | (go_at_call 83; (refine (kX _ hS.O hS.hG hS.P).mono ?_); rintro e v1 ⟨on1, rfl⟩; replace hS := hS.on.trans on1; clear kX)
      | fail)
     refine ⟨rfl, ?_⟩
     rw [e0.out]
     exact ⟨hS, rfl⟩
    | ok x1 us1 d1 =>
     rw [Rs.thn_ok hr] at hR
     have kX := (fun w hO hG hP => pencl n 0 us21 d z23 (by decide) (by have := m23.out; omega) (by rw [hr]; simp) b B w hO hG hP)
     have sa := cP_sat n 0 us21 d z23
     rw [hr] at sa kX
     have z1 : Tz us1 := sa.1
     have m1 : Hid (us1.length ≤ 1000000) := by have h2 := sa.2; have h3 := m23.out; show _ ≤ _; omega
     clear hr sa m23
     cases hr : blP n us1 d1 with
     | more => rw [Rs.thn_more hr] at hR; exact absurd hR.symm nm
     | bad pl =>
      rw [Rs.thn_bad hr] at hR
      have kY := (fun w hO hG hP => hB us1 d1 z1 m1 (by rw [hr]; simp) b B w hO hG hP)
      rw [hr] at kY
      have e0 : Hid (R = .bad pl) := hR.symm
      clear hR hr nm
      go_wp2_with (first
       | (go_at_call 83; (refine (kX _ hS.O hS.hG hS.P).mono ?_); rintro e v1 ⟨on1, pp1, qq1, rfl, k1, hP1⟩; replace k1 := k1.lo (lo' := (fun k => w.heap.size ≤ k ∧ k ≠ p)) (hS.fr); replace hS := hS.onl on1 hP1; clear kX)
       | (go_at_call 84; (refine (kY _ hS.O hS.hG hS.P).mono ?_); rintro e v2 ⟨on2, rfl⟩; replace hS := hS.on.trans on2; clear kY)
       | fail)
      refine ⟨rfl, ?_⟩
      rw [e0.out]
      exact ⟨hS, rfl⟩
     | ok y2 us2 d2 =>
      rw [Rs.thn_ok hr] at hR
      have kY := (fun w hO hG hP => hB us1 d1 z1 m1 (by rw [hr]; simp) b B w hO hG hP)
      have sa := (st_sat n).2.1 us1 d1 z1
      rw [hr] at sa kY
      have z2 : Tz us2 := sa.1
      have m2 : Hid (us2.length ≤ 1000000) := by have h2 := sa.2; have h3 := m1.out; show _ ≤ _; omega
      clear hr sa m1
      have hR' : Hid (_ = R) := hR
      clear hR
      have e0 : Hid (R = .ok ⟨4, tx0, .nil, x1, exN, exN, y2, .nil⟩ us2 d2) := hR'.out.symm
      clear hR' nm
      go_wp2_with (first
       | (go_at_call 83; (refine (kX _ hS.O hS.hG hS.P).mono ?_); rintro e v1 ⟨on1, pp1, qq1, rfl, k1, hP1⟩; replace k1 := k1.lo (lo' := (fun k => w.heap.size ≤ k ∧ k ≠ p)) (hS.fr); replace hS := hS.onl on1 hP1; clear kX)
       | (go_at_call 84; (refine (kY _ hS.O hS.hG hS.P).mono ?_); rintro e v2 ⟨on2, vv2, rfl, ⟨pp2, qq2, rfl, kk2⟩, hP2⟩; have k2 : SlS v2 (fun k => w.heap.size ≤ k ∧ k ≠ p) (.slice pp2 y2.len qq2) y2 := SlS.lo (hS.fr) ⟨_, _, rfl, kk2⟩; clear kk2; replace k1 := k1.kp (on2.kp hS.nb); replace hS := hS.onl on2 hP2; clear kY; obtain ⟨h0, h1, h2, h3, h4, h5, h6, h7, h8, h9, h10, h11, h12, h13, h14, h15, h16, hh⟩ := c17 hS.q)
       | fail)
      have kS : StV v2 (fun k => w.heap.size ≤ k ∧ k ≠ p) (.agg #[.int .i64 4, .string ⟨#[]⟩, .slice none 0 0, .int .i64 x1.op, .string x1.tx, .int .i64 x1.ty, .slice pp1 x1.ks.len qq1, .int .i64 0, .string ⟨#[]⟩, .int .i64 0, .slice none 0 0, .int .i64 0, .string ⟨#[]⟩, .int .i64 0, .slice none 0 0, .slice pp2 y2.len qq2, .slice none 0 0]) ⟨4, tx0, .nil, x1, exN, exN, y2, .nil⟩ := ⟨_, _, _, _, _, _, _, _, _, _, _, _, rfl, SlF.nil _ _, k1, SlF.nil _ _, SlF.nil _ _, k2, SlS.nil _ _⟩
      have kf := st_done hS (x := ⟨4, tx0, .nil, x1, exN, exN, y2, .nil⟩) (S := (fun k => w.heap.size ≤ k ∧ k ≠ p)) (v := .agg #[.int .i64 4, .string ⟨#[]⟩, .slice none 0 0, .int .i64 x1.op, .string x1.tx, .int .i64 x1.ty, .slice pp1 x1.ks.len qq1, .int .i64 0, .string ⟨#[]⟩, .int .i64 0, .slice none 0 0, .int .i64 0, .string ⟨#[]⟩, .int .i64 0, .slice none 0 0, .slice pp2 y2.len qq2, .slice none 0 0]) kS (fun k a => a.1) (fun a => a.2 rfl) rfl e0.out [.int .i64 4, .string ⟨#[]⟩, .slice none 0 0, .int .i64 x1.op, .string x1.tx, .int .i64 x1.ty, .slice pp1 x1.ks.len qq1, .int .i64 0, .string ⟨#[]⟩, .int .i64 0, .slice none 0 0, .int .i64 0, .string ⟨#[]⟩, .int .i64 0, .slice none 0 0, .slice pp2 y2.len qq2, .slice none 0 0] 0
      have rs := rs17 (cs := [.int .i64 4, .string ⟨#[]⟩, .slice none 0 0, .int .i64 x1.op, .string x1.tx, .int .i64 x1.ty, .slice pp1 x1.ks.len qq1, .int .i64 0, .string ⟨#[]⟩, .int .i64 0, .slice none 0 0, .int .i64 0, .string ⟨#[]⟩, .int .i64 0, .slice none 0 0, .slice pp2 y2.len qq2, .slice none 0 0]) (setN17 hS.q rfl rfl) rfl
      simp only [setN, Nat.reduceAdd] at kf rs
      refine bodyPost_ret (v := .agg #[.int .i64 4, .string ⟨#[]⟩, .slice none 0 0, .int .i64 x1.op, .string x1.tx, .int .i64 x1.ty, .slice pp1 x1.ks.len qq1, .int .i64 0, .string ⟨#[]⟩, .int .i64 0, .slice none 0 0, .int .i64 0, .string ⟨#[]⟩, .int .i64 0, .slice none 0 0, .slice pp2 y2.len qq2, .slice none 0 0]) ?_ rfl ?_
      ·exact res17 (by rw [Tryz.results63]) rfl rs
      ·exact kf
   case neg =>
    rw [if_neg (show ¬ isTx (t21 :: us21) tWh = true by show ¬ decide (t21.2.1 = tWh) = true; rw [decide_eq_true_iff]; exact c23)] at hR
    have hR' : Hid (_ = R) := hR
    clear hR
    go_upto_region 7 with (first
     | (go_at_call 78; (with_reducible refine (pskip_no b B t21 us21 0 d tWh c23 _ hS.P).mono ?_); rintro e v23 ⟨rfl, g23⟩; replace hS := hS.bel ne21 g23)
     | fail)
    have hR := hR'.out
    clear hR'
    cases hr : asgP n (t21 :: us21) d with
    | more => rw [hr] at hR; exact absurd hR.symm nm
    | bad pl =>
     have kX := (fun w hO hG hP => passign n (t21 :: us21) d z m (by rw [hr]; simp) b B w hO hG hP)
     rw [hr] at kX hR
     have e0 : Hid (R = .bad pl) := hR.symm
     clear hR hr nm
     go_wp2_with (first
      | (go_at_call 85; (refine (kX _ hS.O hS.hG hS.P).mono ?_); rintro e v24 ⟨on24, rfl⟩; replace hS := hS.on.trans on24; clear kX)
      | fail)
     refine ⟨rfl, ?_⟩
     rw [e0.out]
     exact ⟨hS, rfl⟩
    | ok x us24 d24 =>
     have kX := (fun w hO hG hP => passign n (t21 :: us21) d z m (by rw [hr]; simp) b B w hO hG hP)
     rw [hr] at kX hR
     have e0 : Hid (R = .ok x us24 d24) := hR.symm
     clear hR hr nm
     go_wp2_with (first
      | (go_at_call 85; (refine (kX _ hS.O hS.hG hS.P).mono ?_); rintro e v24 ⟨on24, vv24, rfl, kk24, hP24⟩; obtain ⟨CS, rfl, lCS, oCS, kS⟩ := kk24.cs; clear kk24; replace kS := StV.lo (S' := (fun k => w.heap.size ≤ k ∧ k ≠ p)) (hS.fr) kS; replace hS := hS.onl on24 hP24; have sc := sc17 hS.q rfl lCS oCS; clear kX)
      | fail)
     have kf := st_done hS (x := x) (S := (fun k => w.heap.size ≤ k ∧ k ≠ p)) (v := .agg CS.toArray) kS (fun k a => a.1) (fun a => a.2 rfl) rfl e0.out CS 0
     have rs := rs17 (setN17 hS.q rfl lCS) lCS
     clear e0 kS oCS
     refine bodyPost_ret (v := .agg CS.toArray) ?_ rfl ?_
     ·exact res17 (by rw [Tryz.results63]) rfl rs
     ·exact kf
end Go.Proofs.YtknoibocpbfmmaaGreatDoor


