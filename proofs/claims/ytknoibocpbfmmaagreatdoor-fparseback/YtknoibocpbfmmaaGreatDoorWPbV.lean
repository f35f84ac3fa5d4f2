/- parse. -/
import Derived.Test.YtknoibocpbfmmaaGreatDoorWPbU
import Derived.Test.YtknoibocpbfmmaaGreatDoorWG17
namespace Go.Proofs.YtknoibocpbfmmaaGreatDoor
open Go.RowKit
set_option linter.unusedVariables false
set_option linter.unusedSimpArgs false
/-- What parse comes to. -/
def PrR (r : Except (Nat × Nat) Pg) (v : Value) (w : World) (e : Ending) (w' : World) : Prop :=
 OnS (fun k => v.ownBlock = some k) w w' ∧ match r with
 | .ok p => ∃ dv bv, e = .returned (.agg #[dv, bv]) ∧ SlDc w' dv p.1 ∧ SlS w' (Fr w.heap.size) bv p.2 ∧ ∀ k, dv.ownBlock = some k → w.heap.size ≤ k
 | .error x => Fault x.1 x.2 e
theorem pg_d {N : Nat} {ts us : List Tk} {p : Pg} {d : Int} (h : pgP N ts = .ok p us d) (hk : ∃ u e, ts = u ++ [eT e] ∧ Kd u) : 0 ≤ d := by
 obtain ⟨u, e, rfl, hu⟩ := hk
 obtain ⟨us1, k, h1, h2⟩ := pg_parts h
 obtain ⟨w, hw, rfl, _⟩ := jn_ds e 0 [eT e] 0 N N u 0 hu (Nat.le_refl _) _ _ _ h1
 have a := ds_ge e hu h1
 have b := ss_ge e hw h2
 omega
set_option maxRecDepth 100000 in
set_option maxHeartbeats 3200000 in
theorem pparse (s : ByteArray) (t : List (Nat × Nat × Nat)) (n : Nat) (hn : t.length = n) (h : scanL s.toList = .ok t) (hs : s.size ≤ 281474976710656) (v : Value) (base : Nat) (w : World) (own : w.ownsRow base 45 3 v n (tcells s t)) (hb : base ≤ w.heap.size)
  (hO0 : OpsAt w) (hE0 : EvAt w) (gO : 0 < base) (gE : 3 < base) (E : Int) (hEs : ((s.size : Nat) : Int) = E) :
  Calls Tryz.prog 21 #[v, .int .i64 E] w fun e w' => PrR (parT (tks s t) (pgP 16500 (tks s t))) v w e w' := by
 have hl := scanL_len h
 obtain ⟨R, hR⟩ : ∃ R, pgP 16500 (tks s t) = R := ⟨_, rfl⟩
 rw [hR]
 have kT := fun V h1 h2 => ptokens v n base (tcells s t) E V h1 (by omega) h2
 have hO : Hid (OpsAt w) := hO0
 have hE : Hid (EvAt w) := hE0
 obtain ⟨vo, vc, ev⟩ := po_shape own
 have own' : Hid (w.ownsRow base 45 3 v n (tcells s t)) := own
 clear hO0 hE0 own
 go_enter Tryz.func21, Tryz.ntmps21
 go_upto_region 1 with fail
 obtain ⟨W, hW⟩ : ∃ X, w.alloc (.cells #[.slice none 0 0, .slice none 0 0] 25) = X := ⟨_, rfl⟩
 obtain ⟨q, hq⟩ : ∃ q, w.heap.size = q := ⟨_, rfl⟩
 have gW : Below w.heap.size w W := by rw [← hW]; exact pb_new (Below.refl _ _) _
 have sW : W.heap.size = q + 1 := by rw [← hW, ← hq]; simp [go_sem]
 have qq : W.heap[q]? = some (.cells #[.slice none 0 0, .slice none 0 0] 25 (0, 0)) := by rw [← hW, ← hq]; exact World.alloc_heap_new _ _
 have ownW : Hid (W.ownsRow base 45 3 v n (tcells s t)) := po_on gW own'.out
 have hvq : Hid (∀ k, v.ownBlock = some k → k < q) := fun k hk => by have := (own'.out.lt k hk).2; omega
 rw [hW]
 (try rw [hq])
 have hWq : Hid (w.heap.size = q) := hq
 clear hW hq
 subst ev
 go_upto_region 2 with (first
  | (go_at_call 38; (refine (kT _ ownW.out (by have := gW.size; omega)).mono ?_); rintro e w2 ⟨v2, rfl, own2, sz2, kp2, os2, tp2, out2⟩; obtain ⟨ro, rc, rfl⟩ := po_shape own2; have own2' : Hid (w2.ownsRow base 45 3 (.slice ro (n + 1) rc) (n + 1) (tcells s t ++ [.int .i64 0, .string tx0, .int .i64 E])) := own2; clear own2)
  | fail)
 have on2 : OnS (fun k => (Value.slice vo n vc).ownBlock = some k) W w2 := ⟨os2, tp2, out2, sz2, fun k hk hn => kp2 k hk hn⟩
 obtain ⟨V, hV⟩ : ∃ X, w2.alloc (.cells #[.slice ro (n + 1) rc, .int .i64 0, .int .i64 0] 79) = X := ⟨_, rfl⟩
 obtain ⟨b, hb2⟩ : ∃ b, w2.heap.size = b := ⟨_, rfl⟩
 have gV : Below w2.heap.size w2 V := by rw [← hV]; exact pb_new (Below.refl _ _) _
 have qb : V.heap[b]? = some (.cells #[.slice ro (n + 1) rc, .int .i64 0, .int .i64 0] 79 (0, 0)) := by rw [← hV, ← hb2]; exact World.alloc_heap_new _ _
 rw [hV]
 (try rw [hb2])
 have o3 := own2'.out
 rw [← hEs] at o3
 obtain ⟨g, cap, eg, hcap, hg, tk⟩ := own_tks hn o3
 have hgb : g < b := by have := (o3.lt g (by rw [eg]; rfl)).2; omega
 have sV : V.heap.size = b + 1 := by rw [← hV, World.size_alloc, hb2]
 have onV : OnS (fun k => (Value.slice vo n vc).ownBlock = some k) w V := ((OnS.of gW).thn on2 (fun k _ a => a)).below gV
 have hwb : w.heap.size < b := by have := hWq.out; omega
 have hP : PAt V b g (tks s t) 0 0 := by
  rw [eg] at qb
  exact ⟨by omega, ⟨0, cap, by simp [World.cell?, qb], hcap, tk.on (fun o v k => pb_cell gV k)⟩, by simp [World.cell?, qb], by simp [World.cell?, qb], fun k => by simp [World.frozen?, qb]⟩
 have nO : ¬ (Value.slice vo n vc).ownBlock = some 0 := fun e => by have := (own'.out.lt _ e).1; omega
 have nE : ¬ (Value.slice vo n vc).ownBlock = some 3 := fun e => by have := (own'.out.lt _ e).1; omega
 have OV : OpsAt V := hO.out.ons nO onV
 have EV : EvAt V := hE.out.ons nE onV
 have hlen : (tks s t).length ≤ 100000 := by rw [tks_len]; omega
 have kP := pprogram 16500 (tks s t) (tks_Tz s t) (tks_Dz h hs) hlen (tks_nm hl) b g V OV (by omega) EV (by omega) hP
 rw [hR] at kP
 have qqV : V.heap[q]? = some (.cells #[.slice none 0 0, .slice none 0 0] 25 (0, 0)) := (gV.block q (by omega)).trans ((on2.block q (by omega) (fun e => by have := hvq.out q e; omega)).trans qq)
 have Kd1 : Hid (∃ u e, tks s t = u ++ [eT e] ∧ Kd u) := ⟨_, _, rfl, fun x hx => by
  obtain ⟨y, hy, rfl⟩ := List.mem_map.1 hx
  exact (scanL_kinds h y hy).1⟩
 have hOV : Hid (OpsAt V) := OV
 have onV' : Hid (OnS (fun k => (Value.slice vo n vc).ownBlock = some k) w V) := onV
 have qsz : Hid (Qz (tks s t)) := tks_Qz t hs
 have hR' : Hid (pgP 16500 (tks s t) = R) := hR
 have nq : q < b := by omega
 have nmR : Hid (R ≠ .more) := fun e => tks_nm hl (hR.trans e)
 clear hV hb2 gV qb own2' o3 eg hcap tk os2 tp2 out2 sz2 kp2 on2 kT ownW gW qq OV EV hE own' hvq onV hP hlen hl h hR
 cases R with
 | more => exact absurd rfl nmR.out
 | bad pl =>
  go_wp2_with (first
   | (go_at_call 39; (refine kP.mono ?_); rintro e v3 ⟨on3, rfl⟩)
   | fail)
  exact ⟨rfl, onV'.out.thn (on3.ons (S := fun k => k = b) rfl) (fun k hk e => by omega), rfl⟩
 | ok p us d =>
  have szp := sz_pg 16500 qsz.out p us d hR'.out
  have d0 := pg_d hR'.out Kd1.out
  go_upto_region 3 with (first
   | (go_at_call 39; (refine kP.mono ?_); rintro e v3 ⟨on3, dv, bv, rfl, hD, hS, hDb, hP3⟩; obtain ⟨wo, wc, rfl⟩ : ∃ o c, dv = .slice o p.1.length c := (by obtain ⟨x, y, e, _⟩ := hD; exact ⟨x, y, e⟩); obtain ⟨xo, xc, rfl⟩ : ∃ o c, bv = .slice o p.2.len c := (by obtain ⟨x, y, e, _⟩ := hS; exact ⟨x, y, e⟩))
   | fail)
  obtain ⟨V4, hV4⟩ : ∃ X, v3.alloc (.cells #[.slice wo p.1.length wc, .slice xo p.2.len xc] 25) = X := ⟨_, rfl⟩
  obtain ⟨c, hc⟩ : ∃ c, v3.heap.size = c := ⟨_, rfl⟩
  have g4 : Below v3.heap.size v3 V4 := by rw [← hV4]; exact pb_new (Below.refl _ _) _
  have qc : V4.heap[c]? = some (.cells #[.slice wo p.1.length wc, .slice xo p.2.len xc] 25 (0, 0)) := by rw [← hV4, ← hc]; exact World.alloc_heap_new _ _
  rw [hV4]
  (try rw [hc])
  have sz3 := on3.size
  have dp : V4.cell? ⟨b, 2, none⟩ = some (.int .i64 d) := pb_cell g4 hP3.dp
  have c0 : V4.cell? ⟨c, 0, none⟩ = some (.slice wo p.1.length wc) := by simp [World.cell?, qc]
  have c1 : V4.cell? ⟨c, 1, none⟩ = some (.slice xo p.2.len xc) := by simp [World.cell?, qc]
  have O4 : OpsAt V4 := (hOV.out.onl (by have := hOV.out.gl; omega) on3).bel g4
  have D4 := hD.bel g4
  have S4 := hS.kp (Below.kp g4 _)
  have on4 : Hid (OnS (fun k => (Value.slice vo n vc).ownBlock = some k) w V4) := (onV'.out.thn (on3.ons (S := fun k => k = b) rfl) (fun k hk e => by omega)).below g4
  have q4 : V4.heap[q]? = some (.cells #[.slice none 0 0, .slice none 0 0] 25 (0, 0)) := (g4.block q (by omega)).trans ((on3.block q (by omega) (by omega)).trans qqV)
  have kR := pright p.1 p.2 (Fr V.heap.size) _ _ V4 O4 O4.gl D4 S4 szp.1.1 szp.1.2
  have hSS : Hid (SlS V4 (Fr V.heap.size) (.slice xo p.2.len xc) p.2) := S4
  have hDD : Hid (SlDc V4 (.slice wo p.1.length wc) p.1) := D4
  have hDb' : Hid (∀ k, (Value.slice wo p.1.length wc).ownBlock = some k → V.heap.size ≤ k) := hDb
  have zc : Hid (w.heap.size ≤ V.heap.size ∧ q < V.heap.size) := ⟨onV'.out.size, by omega⟩
  clear hV4 hc g4 qc on3 hD hS hP3 O4 D4 S4 sz3 hOV qqV kP hDb
  by_cases cd : d ≤ 24
  case neg =>
   have e0 : Hid (parT (tks s t) (.ok p us d) = .error (5, 0)) := by
    have h9 : parT (tks s t) (.ok p us d) = .error (5, 0) := by
     unfold parT
     simp only
     rw [if_neg]
     simp; omega
    exact h9
   have dd : decide ((24 : Int) < d) = true := decide_eq_true (by omega)
   clear kR
   go_wp2_with fail
   exact ⟨rfl, by rw [e0.out]; exact ⟨on4.out, rfl⟩⟩
  case pos =>
   have dd : decide ((24 : Int) < d) = false := decide_eq_false (by omega)
   cases hm : ruP p with
   | none =>
    have em : (msP (p.1, p.2)).2 = false := by unfold msP; rw [show (p.1, p.2) = p from rfl, hm]
    rw [em] at kR
    have e0 : Hid (parT (tks s t) (.ok p us d) = .error (5, 0)) := by
     have h9 : parT (tks s t) (.ok p us d) = .error (5, 0) := by
      unfold parT
      simp only
      rw [if_neg]
      rw [hm]; simp
     exact h9
    go_wp2_with (first
     | (go_at_call 17; (refine kR.mono ?_); rintro e v5 ⟨rfl, g5⟩)
     | fail)
    exact ⟨rfl, by rw [e0.out]; exact ⟨on4.out.below g5, rfl⟩⟩
   | some cc =>
    have em : (msP (p.1, p.2)).2 = true := by unfold msP; rw [show (p.1, p.2) = p from rfl, hm]
    rw [em] at kR
    have e0 : Hid (parT (tks s t) (.ok p us d) = .ok p) := by
     have h9 : parT (tks s t) (.ok p us d) = .ok p := by
      unfold parT
      simp only
      rw [if_pos]
      rw [hm]; simp; omega
     exact h9
    go_upto_region 5 with (first
     | (go_at_call 17; (refine kR.mono ?_); rintro e v5 ⟨rfl, g5⟩)
     | fail)
    replace c0 := pb_cell g5 c0
    replace c1 := pb_cell g5 c1
    replace q4 := (g5.block q (lt_of q4)).trans q4
    have p0 : v5.cell? ⟨q, 0, none⟩ = some (.slice none 0 0) := by simp [World.cell?, q4]
    have p1 : v5.cell? ⟨q, 1, none⟩ = some (.slice none 0 0) := by simp [World.cell?, q4]
    have pf : ∀ j, v5.frozen? ⟨q, j, none⟩ = false := fun j => by simp [World.frozen?, q4]
    have fin : Hid (∀ y0 y1, PrR (parT (tks s t) (.ok p us d)) (.slice vo n vc) w (.returned (.agg #[.slice wo p.1.length wc, .slice xo p.2.len xc])) ((v5.setCell ⟨q, 0, none⟩ y0).setCell ⟨q, 1, none⟩ y1)) := fun y0 y1 => by
     rw [e0.out]
     have o5 := on4.out.below g5
     have zz := zc.out
     have wq := hWq.out
     refine ⟨(o5.set (Or.inr (by omega)) _).set (Or.inr (by omega)) _, _, _, rfl, ?_, ?_, fun k hk => by have := hDb'.out k hk; omega⟩
     ·exact (hDD.out.bel g5).same (fun k hk => (Below.heap_setCell _ _ _ _ (fun e => by have e' : k = q := e; have := hDb'.out k hk; omega)).trans (Below.heap_setCell _ _ _ _ (fun e => by have e' : k = q := e; have := hDb'.out k hk; omega)))
     ·have hn : ¬ Fr V.heap.size q := fun a => by have a' : V.heap.size ≤ q := a; omega
      exact ((((hSS.out.kp (Below.kp g5 _)).kp (Kp.set hn)).kp (Kp.set hn))).lo (fun k a => by have a' : V.heap.size ≤ k := a; show w.heap.size ≤ k; omega)
    clear q4 hSS hDD hDb' on4 zc g5 e0 kR dp
    go_wp2_with fail
    exact bodyPost_ret (v := .agg #[.slice wo p.1.length wc, .slice xo p.2.len xc]) (by simp [results, Tryz.results21, go_sem, p0, p1]) rfl (fin.out _ _)
end Go.Proofs.YtknoibocpbfmmaaGreatDoor



