/- Statements: block. -/
import Derived.Test.YtknoibocpbfmmaaGreatDoorPaV
namespace Go.Proofs.YtknoibocpbfmmaaGreatDoor
open Go.RowKit
set_option linter.unusedVariables false
set_option linter.unusedSimpArgs false
/-- Between two rounds of block. -/
structure BlI (b B : Nat) (w V : World) (n : Nat) (R : Rs So) (us : List Tk) (d : Int) (v : Value) (ls : List St) (xs : List Value) : Prop where
  on : Onl b w V
  P : PAt V b B us 0 d
  own : V.ownsRow w.heap.size 87 17 v ls.length xs
  tr : CsAt V (fun k => w.heap.size ≤ k ∧ some k ≠ v.ownBlock) ls xs
  hR : ∃ k, k ≤ n ∧ R = (bsP k us d).thn fun l ts d => .ok (appS ls l) ts d
  z : Tz us
  ln : ls.length + us.length ≤ 1000000
theorem Rs.thn_ok' {α β γ : Type} {r : Rs α} {f : α → List Tk → Int → Rs β} {g : β → List Tk → Int → Rs γ} {x : α} {ts : List Tk} {d : Int} (h : r = .ok x ts d) : (r.thn f).thn g = (f x ts d).thn g := by rw [Rs.thn_ok h]
theorem st_cell (V : World) (cs : List Value) : ∀ j u, cs[j]? = some u → (V.alloc (.cells cs.toArray 87)).cell? ((⟨V.heap.size, 0, none⟩ : Addr).add j) = some u := fun j u h => by
  rw [Addr.add_mid, Nat.zero_add]
  simp [go_sem, h]
theorem st_one (s : St) (p0 p1 p2 p3 p4 p5 : Option Addr) (q0 q1 q2 q3 q4 q5 : Nat) : ∀ u ∈ ([.int .i64 s.dO, .string s.name, .slice p0 s.index.len q0, .int .i64 s.value.op, .string s.value.tx, .int .i64 s.value.ty, .slice p1 s.value.ks.len q1, .int .i64 s.low.op, .string s.low.tx, .int .i64 s.low.ty, .slice p2 s.low.ks.len q2, .int .i64 s.high.op, .string s.high.tx, .int .i64 s.high.ty, .slice p3 s.high.ks.len q3, .slice p4 s.thn.len q4, .slice p5 s.els.len q5] : List Value), u.oneCell' = true := by
  intro u hu
  simp only [List.mem_cons, List.not_mem_nil, or_false] at hu
  rcases hu with rfl | rfl | rfl | rfl | rfl | rfl | rfl | rfl | rfl | rfl | rfl | rfl | rfl | rfl | rfl | rfl | rfl <;> rfl
theorem bl_step {b B : Nat} {w V v1 v2 w3 : World} {n k : Nat} {R : Rs So} {us us2 : List Tk} {d' d2 : Int} {o : Option Addr} {cap : Nat} {ls : List St} {xs CS : List Value} {s : St} {v' : Value} {x : Obj} (hI : BlI b B w V n R us d' (.slice o ls.length cap) ls xs) (hk : k + 1 ≤ n) (hR : R = (bsP k us2 d2).thn fun l ts d => .ok (appS (ls ++ [s]) l) ts d)
    (bl : b < w.heap.size) (Bl : B < w.heap.size) (onN : Onl b V v2) (sz : V.heap.size ≤ v1.heap.size) (hP2 : PAt v2 b B us2 0 d2) (kS : StV v2 (Fr v1.heap.size) (.agg CS.toArray) s) (lC : CS.length = 17) (hown : w3.ownsRow w.heap.size 87 17 v' (ls.length + 1) (xs ++ CS))
    (hgrow : (v2.alloc x).grownBy w3 (Value.slice o ls.length cap).ownBlock) (hat : v'.ownBlock = (Value.slice o ls.length cap).ownBlock ∨ v'.ownBlock = some (v2.alloc x).heap.size) (z2 : Tz us2 ∧ us2.length < us.length) :
    BlI b B w w3 n R us2 d2 v' (ls ++ [s]) (xs ++ CS) ∧ msR b w3 = us2.length := by
  have hrow : ∀ k, (Value.slice o ls.length cap).ownBlock = some k → w.heap.size ≤ k ∧ k < V.heap.size := fun k h => hI.own.lt k h
  have onV := hI.on
  have s1 := onV.size
  have s2 := onN.size
  have sa : (v2.alloc x).heap.size = v2.heap.size + 1 := World.size_alloc _ _
  have g2 : Below v2.heap.size v2 (v2.alloc x) := pb_new (Below.refl _ _) _
  have on3 : Onl b w w3 := ((onV.trans onN).below g2).grown hgrow (fun k h => (hrow k h).1)
  have kp3 : ∀ S : Nat → Prop, (∀ k, S k → k < v2.heap.size ∧ (Value.slice o ls.length cap).ownBlock ≠ some k) → Kp S v2 w3 := fun S h k a _ => (hgrow.block k (by have := (h k a).1; omega) (fun e => (h k a).2 e.symm)).trans (g2.block k (h k a).1)
  have P3 : PAt w3 b B us2 0 d2 := by
    refine hP2.on (kp3 (fun k => k = b) (fun k e => ?_) b rfl (by omega)) (kp3 (fun k => k = B) (fun k e => ?_) B rfl (by omega))
    · subst e; exact ⟨by omega, fun e => by have := (hrow _ e).1; omega⟩
    · subst e; exact ⟨by omega, fun e => by have := (hrow _ e).1; omega⟩
  refine ⟨⟨on3, P3, by rw [List.length_append]; exact hown, ?_, ⟨k, by omega, hR⟩, z2.1, ?_⟩, P3.ms⟩
  · refine CsAt.snoc lC ?_ ?_
    · refine StV.lo (S := fun k => v1.heap.size ≤ k ∧ k < v2.heap.size) (fun k a => ⟨by omega, fun e => ?_⟩) (kS.lt.kp (kp3 _ (fun k a => ⟨a.2, fun e => by have h1 := (hrow k e).2; have h2 : v1.heap.size ≤ k := a.1; omega⟩)))
      rcases hat with h | h
      · rw [h] at e; have := (hrow k e.symm).2; omega
      · rw [h, sa] at e; have := Option.some.inj e; omega
    · refine CsAt.lo (S := fun k => (w.heap.size ≤ k ∧ some k ≠ (Value.slice o ls.length cap).ownBlock) ∧ k < v2.heap.size) (fun k a => ⟨a.1.1, fun e => ?_⟩) (((hI.tr.kp (onN.kp (fun a => by have := a.1; omega))).lt).kp (kp3 _ (fun k a => ⟨a.2, fun e => a.1.2 e.symm⟩)))
      rcases hat with h | h
      · rw [h] at e; exact a.1.2 e
      · rw [h, sa] at e; have := Option.some.inj e; omega
  · have := hI.ln; have := z2.2; rw [List.length_append]; simp; omega
set_option maxRecDepth 100000 in
set_option maxHeartbeats 3200000 in
theorem step_B (n : Nat) (hS : ∀ k, k ≤ n → SpSt k) : SpBl (n + 1) := by
  intro ts d z m nm b B w hO0 hG h
  obtain ⟨R, hR⟩ : ∃ R, blP (n + 1) ts d = R := ⟨_, rfl⟩
  rw [hR]
  rw [hR] at nm
  rw [blP] at hR
  have bl := h.lt
  have Bl := h.ltB z.ne
  obtain ⟨i0, hi, hz0, hz1, hz2⟩ : ∃ i, Tryz.prog.info? 87 = some i ∧ i.zero = some (.agg #[.int .i64 0, .string ⟨#[]⟩, .slice none 0 0, .int .i64 0, .string ⟨#[]⟩, .int .i64 0, .slice none 0 0, .int .i64 0, .string ⟨#[]⟩, .int .i64 0, .slice none 0 0, .int .i64 0, .string ⟨#[]⟩, .int .i64 0, .slice none 0 0, .slice none 0 0, .slice none 0 0]) ∧ i.size = 17 ∧ i.bytes = 264 := by
    have h := st_info
    cases hq : Tryz.prog.info? 87 with
    | none => rw [hq] at h; cases h
    | some i => rw [hq] at h; simp only [Option.map_some, Option.some.injEq, Prod.mk.injEq] at h; exact ⟨i, rfl, h.1, h.2.1, h.2.2⟩
  obtain ⟨t, us, rfl⟩ := z.cons
  have hne : t :: us ≠ [] := by simp
  by_cases c : t.2.1 = tLc
  case neg =>
    rw [want_no c] at hR
    have e0 : Hid (R = .bad t.2.2) := hR.symm
    clear hR nm hS hi hz0 hz1 hz2
    go_enter Tryz.func84, Tryz.ntmps84
    go_wp2_with (first
      | (go_at_call 80; (with_reducible refine (pwant_no b B t us 0 d tLc c _ h).mono ?_); rintro e v1 ⟨rfl, g1⟩; replace h := (Onl.refl b w).below g1)
      | fail)
    refine ⟨rfl, ?_⟩
    rw [e0.out]
    exact ⟨h, rfl⟩
  rw [want_yes c] at hR
  have zu := want_tail z c tLc_ne
  have kw := pwant_yes b B t us 0 d zu.ne _ h
  rw [c] at kw
  have hR0 : R = (bsP n us d).thn fun l ts d => .ok (appS [] l) ts d := by
    rw [← hR]; cases bsP n us d <;> rfl
  have hR' : Hid (R = (bsP n us d).thn fun l ts d => .ok (appS [] l) ts d) := hR0
  clear hR0
  have ln0 : Hid (us.length ≤ 1000000) := by have := m.out; simp at this; show _ ≤ _; omega
  clear hR c z m
  go_enter Tryz.func84, Tryz.ntmps84
  go_wp2_with (first
    | (go_at_call 80; (with_reducible refine kw.mono ?_); rintro e v1 ⟨rfl, hP1, on1⟩)
    | fail)
  have hI : BlI b B w v1 n R us d (.slice none 0 0) [] [] := ⟨on1, hP1, World.ownsRow_nil _ _ _ _, rfl, ⟨n, Nat.le_refl _, hR'.out⟩, zu, by have := ln0.out; simp; omega⟩
  clear kw h on1 hP1 hR' zu ln0
  go_loopw [3] (fun v wr => ∃ (V : World) (us : List Tk) (d' : Int) (ls : List St) (xs : List Value), V = wr ∧ Hid (BlI b B w V n R us d' v ls xs)) (fun _ wr => msR b wr)
  case atStart => exact ⟨_, us, d, [], [], rfl, hI⟩
  case round =>
    clear hI
    obtain ⟨V, us, d', ls, xs, rfl, hI⟩ := hrel
    obtain ⟨o, cap, rfl⟩ := po_shape hI.out.own
    obtain ⟨t, us', rfl⟩ := hI.out.z.cons
    have hne' : t :: us' ≠ [] := by simp
    obtain ⟨k, hk, hR⟩ := hI.out.hR
    have onV := hI.out.on
    have hP := hI.out.P
    cases k with
    | zero => rw [bsP] at hR; exact absurd hR nm
    | succ k =>
      rw [bsP] at hR
      by_cases c : t.2.1 = tRc
      case pos =>
        rw [if_pos (show isTx (t :: us') tRc = true from decide_eq_true c)] at hR
        simp only [List.tail_cons] at hR
        have e0 : Hid (R = .ok (appS ls .nil) us' d') := hR
        have zt := want_tail hI.out.z c tRc_ne
        have kw := pskip_yes b B t us' 0 d' zt.ne _ hP
        rw [c] at kw
        have fin : Hid (∀ V', Onl b V V' → PAt V' b B us' 0 d' → SoR R b B 0 w (.returned (.slice o ls.length cap)) V') := fun V' on hP' => by
          rw [e0.out]
          exact ⟨onV.trans on, _, rfl, CsAt.sl (po_onl on bl hI.out.own) (S := (fun k => w.heap.size ≤ k ∧ some k ≠ (Value.slice o ls.length cap).ownBlock)) (fun k a => a.1) (hI.out.tr.kp (on.kp (fun a => by have := a.1; omega))), hP'⟩
        clear hR hI c nm zt hi hz0 hz1 hz2 hS
        go_wp2_with (first
          | (go_at_call 78; (with_reducible refine kw.mono ?_); rintro e v1 ⟨rfl, hP1, on1⟩)
          | fail)
        exact bodyPost_ret (v := .slice o ls.length cap) (by simp [results, Tryz.results84, go_sem]) rfl (fin.out _ on1 hP1)
      case neg =>
        rw [if_neg (show ¬ isTx (t :: us') tRc = true by show ¬ decide (t.2.1 = tRc) = true; rw [decide_eq_true_iff]; exact c)] at hR
        have m1 : Hid ((t :: us').length ≤ 1000000) := by have := hI.out.ln; show _ ≤ _; omega
        have hS1 := hS k (by omega) (t :: us') d' hI.out.z m1
        cases hr : stP k (t :: us') d' with
        | more => rw [Rs.thn_more (Rs.thn_more hr)] at hR; exact absurd hR nm
        | bad pl =>
          rw [Rs.thn_bad (Rs.thn_bad hr)] at hR
          have kX := hS1 (by rw [hr]; simp) b B
          rw [hr] at kX
          have e0 : Hid (R = .bad pl) := hR
          clear hR hr nm hI hi hz0 hz1 hz2 hS hS1
          go_wp2_with (first
            | (go_at_call 78; (with_reducible refine (pskip_no b B t us' 0 d' tRc c _ hP).mono ?_); rintro e v1 ⟨rfl, g1⟩; have hP1 := hP.bel hne' g1; have on1 := (Onl.refl b V).below g1; have hO1 := hO0.onl hG (onV.trans on1))
            | (go_at_call 63; (refine (kX _ hO1 hG hP1).mono ?_); rintro e v2 ⟨on2, rfl⟩)
            | fail)
          refine ⟨rfl, ?_⟩
          rw [e0.out]
          exact ⟨(onV.trans on1).trans on2, rfl⟩
        | ok s us2 d2 =>
          rw [Rs.thn_ok' hr] at hR
          have kX := hS1 (by rw [hr]; simp) b B
          have sa := (st_sat k).1 (t :: us') d' hI.out.z
          rw [hr] at kX sa
          have hR3 : R = (bsP k us2 d2).thn fun l ts d => .ok (appS (ls ++ [s]) l) ts d := by
            rw [hR]; cases bsP k us2 d2 <;> simp only [Rs.thn, appS_snoc]
          have hR2 : Hid (R = (bsP k us2 d2).thn fun l ts d => .ok (appS (ls ++ [s]) l) ts d) := hR3
          clear hR3
          have z2 : Hid (Tz us2 ∧ us2.length < (t :: us').length) := sa
          have l1 : ls.length + 1 ≤ maxLen := by have := hI.out.ln; unfold maxLen; omega
          have l2 : (ls.length + 1) * 264 ≤ 140737488355328 := by have := hI.out.ln; omega
          have ms1 : Hid (msR b V = (t :: us').length) := hP.ms
          have own0 := hI.out.own
          clear hR hr sa hS hS1 nm m1
          go_wp2_with (first
            | (go_at_call 78; (with_reducible refine (pskip_no b B t us' 0 d' tRc c _ hP).mono ?_); rintro e v1 ⟨rfl, g1⟩; have hP1 := hP.bel hne' g1; have on1 := (Onl.refl b V).below g1; have hO1 := hO0.onl hG (onV.trans on1))
            | (go_at_call 63; (refine (kX _ hO1 hG hP1).mono ?_); rintro e v2 ⟨on2, vv, rfl, ⟨p0, q0, p1, q1, p2, q2, p3, q3, p4, q4, p5, q5, rfl, j0, j1, j2, j3, j4, j5⟩, hP2⟩; have kS : Hid (StV v2 (Fr v1.heap.size) (.agg #[.int .i64 s.dO, .string s.name, .slice p0 s.index.len q0, .int .i64 s.value.op, .string s.value.tx, .int .i64 s.value.ty, .slice p1 s.value.ks.len q1, .int .i64 s.low.op, .string s.low.tx, .int .i64 s.low.ty, .slice p2 s.low.ks.len q2, .int .i64 s.high.op, .string s.high.tx, .int .i64 s.high.ty, .slice p3 s.high.ks.len q3, .slice p4 s.thn.len q4, .slice p5 s.els.len q5]) s) := ⟨p0, q0, p1, q1, p2, q2, p3, q3, p4, q4, p5, q5, rfl, j0, j1, j2, j3, j4, j5⟩; clear j0 j1 j2 j3 j4 j5; have onN := on1.trans on2; have own2 := po_onl onN bl own0; have lw : w.heap.size ≤ v2.heap.size + 1 := by (have := (onV.trans onN).size; omega))
            | (at_builtin; refine wpList_append_own_at _ rfl _ _ 23 rfl w.heap.size 87 i0 (.agg #[.int .i64 0, .string ⟨#[]⟩, .slice none 0 0, .int .i64 0, .string ⟨#[]⟩, .int .i64 0, .slice none 0 0, .int .i64 0, .string ⟨#[]⟩, .int .i64 0, .slice none 0 0, .int .i64 0, .string ⟨#[]⟩, .int .i64 0, .slice none 0 0, .slice none 0 0, .slice none 0 0]) 17 264 Tryz.underlying23 hi hz0 hz1 hz2 rfl (by decide) _ _ _ rfl (own2.alloc _) ⟨v2.heap.size, 0, none⟩ 1 1 [.int .i64 s.dO, .string s.name, .slice p0 s.index.len q0, .int .i64 s.value.op, .string s.value.tx, .int .i64 s.value.ty, .slice p1 s.value.ks.len q1, .int .i64 s.low.op, .string s.low.tx, .int .i64 s.low.ty, .slice p2 s.low.ks.len q2, .int .i64 s.high.op, .string s.high.tx, .int .i64 s.high.ty, .slice p3 s.high.ks.len q3, .slice p4 s.thn.len q4, .slice p5 s.els.len q5] rfl rfl (st_cell _ _) (st_one _ _ _ _ _ _ _ _ _ _ _ _ _) l1 l2 (by rw [World.size_alloc]; exact lw) ?_; intro v' w3 hown' hgrow hnil hat; clear hnil)
            | fail)
          obtain ⟨hJ, hms⟩ := bl_step hI.out hk hR2.out bl Bl onN g1.size hP2 kS.out rfl hown' hgrow hat z2.out
          exact ⟨⟨w3, us2, d2, ls ++ [s], _, rfl, hJ⟩, by rw [hms, ms1.out]; exact z2.out.2⟩
end Go.Proofs.YtknoibocpbfmmaaGreatDoor
