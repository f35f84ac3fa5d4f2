/- Parse. -/
import Derived.Test.YtknoibocpbfmmaaGreatDoorWPbV
namespace Go.Proofs.YtknoibocpbfmmaaGreatDoor
open Go.RowKit
set_option linter.unusedVariables false
set_option linter.unusedSimpArgs false
/-- What the work within Parse comes to. -/
def Pr1 (r : Except (Nat × Nat) Pg) (v : Value) (g : Nat) (w : World) (e : Ending) (w' : World) : Prop := match r with
 | .ok p => e = .returned (.tuple #[]) ∧ OnS (fun k => v.ownBlock = some k ∨ k = g) w w' ∧ ∃ wo wc xo xc, w'.heap[g]? = some (.cells #[.slice wo p.1.length wc, .slice xo p.2.len xc] 25 (0, 0)) ∧ SlDc w' (.slice wo p.1.length wc) p.1 ∧ SlS w' (Fr w.heap.size) (.slice xo p.2.len xc) p.2 ∧ ∀ k, (Value.slice wo p.1.length wc).ownBlock = some k → w.heap.size ≤ k
 | .error x => Fault x.1 x.2 e ∧ OnS (fun k => v.ownBlock = some k ∨ k = g) w w'
set_option maxRecDepth 100000 in
set_option maxHeartbeats 3200000 in
theorem pparse1 (s : ByteArray) (t : List (Nat × Nat × Nat)) (n : Nat) (hn : t.length = n) (h : scanL s.toList = .ok t) (hs : s.size ≤ 281474976710656) (v : Value) (base a c g : Nat) (w : World) (own : w.ownsRow base 45 3 v n (tcells s t)) (hb : base ≤ w.heap.size)
  (hO0 : OpsAt w) (hE0 : EvAt w) (gO : 0 < base) (gE : 3 < base) (ca : w.cell? ⟨a, 0, none⟩ = some v) (cc : w.cell? ⟨c, 0, none⟩ = some (.string s)) (qg : w.heap[g]? = some (.cells #[.slice none 0 0, .slice none 0 0] 25 (0, 0))) (gv : v.ownBlock ≠ some g) :
  Calls Tryz.prog 20 #[.pointer (some ⟨a, 0, none⟩), .pointer (some ⟨c, 0, none⟩), .pointer (some ⟨g, 0, none⟩)] w fun e w' => Pr1 (parT (tks s t) (pgP 16500 (tks s t))) v g w e w' := by
 have kP := pparse s t n hn h hs v base w own hb hO0 hE0 gO gE ((s.size : Nat) : Int) rfl
 have gw := lt_of qg
 obtain ⟨vo, vc, ev⟩ := po_shape own
 subst ev
 have gv' : Hid ((Value.slice vo n vc).ownBlock ≠ some g) := gv
 clear own hO0 hE0 gv h hn
 have hs2 : s.size ≤ 9223372036854775807 := by omega
 cases hR : parT (tks s t) (pgP 16500 (tks s t)) with
 | error x =>
  rw [hR] at kP
  have hx : Hid (∀ e w', PrR (.error x) (.slice vo n vc) w e w' → Fault x.1 x.2 e ∧ OnS (fun k => (Value.slice vo n vc).ownBlock = some k ∨ k = g) w w') := fun e w' k => ⟨k.2, k.1.mono (fun i hi => Or.inl hi)⟩
  have kQ : Calls Tryz.prog 21 #[.slice vo n vc, .int .i64 ((s.size : Nat) : Int)] w fun e w' => Fault x.1 x.2 e ∧ OnS (fun k => (Value.slice vo n vc).ownBlock = some k ∨ k = g) w w' := kP.mono fun e w' k => hx.out e w' k
  clear kP hR hx qg
  go_enter Tryz.func20, Tryz.ntmps20
  go_wp2_with (first
   | (go_at_call 21; (refine kQ.mono ?_); rintro e v1 ⟨rfl, on1⟩)
   | fail)
  exact ⟨rfl, rfl, on1⟩
 | ok p =>
  rw [hR] at kP
  clear hR
  go_enter Tryz.func20, Tryz.ntmps20
  go_wp2_with (first
   | (go_at_call 21; (refine kP.mono ?_); rintro e v1 ⟨on1, dv, bv, rfl, hD, hS, hDb⟩; obtain ⟨wo, wc, rfl⟩ : ∃ o c, dv = .slice o p.1.length c := (by obtain ⟨x, y, e, _⟩ := hD; exact ⟨x, y, e⟩); obtain ⟨xo, xc, rfl⟩ : ∃ o c, bv = .slice o p.2.len c := (by obtain ⟨x, y, e, _⟩ := hS; exact ⟨x, y, e⟩); have q1 := (on1.block g gw gv'.out).trans qg; have p0 : v1.cell? ⟨g, 0, none⟩ = some (.slice none 0 0) := (by simp [World.cell?, q1]); have p1 : v1.cell? ⟨g, 1, none⟩ = some (.slice none 0 0) := (by simp [World.cell?, q1]); have pf : ∀ j, v1.frozen? ⟨g, j, none⟩ = false := (fun j => by simp [World.frozen?, q1]))
   | fail)
  have hn : ¬ Fr w.heap.size g := fun a => by have a' : w.heap.size ≤ g := a; omega
  exact bodyPost_end (v := .tuple #[]) (by simp [results, Tryz.results20, go_sem]) rfl ⟨rfl, ((on1.mono (S' := fun k => (Value.slice vo n vc).ownBlock = some k ∨ k = g) (fun i hi => Or.inl hi)).set (Or.inl (Or.inr rfl)) _).set (Or.inl (Or.inr rfl)) _, wo, wc, xo, xc, by have := at_set (at_set q1 0 (.slice wo p.1.length wc)) 1 (.slice xo p.2.len xc); simpa using this,
   hD.same (fun k hk => (Below.heap_setCell _ _ _ _ (fun e => by have e' : k = g := e; have := hDb k hk; omega)).trans (Below.heap_setCell _ _ _ _ (fun e => by have e' : k = g := e; have := hDb k hk; omega))), (hS.kp (Kp.set hn)).kp (Kp.set hn), hDb⟩
/-- What Parse comes to. -/
def PaR (r : Except (Nat × Nat) Pg) (w : World) (e : Ending) (w' : World) : Prop := Below w.heap.size w w' ∧ match r with
 | .ok p => ∃ wo wc xo xc, e = .returned (.tuple #[.agg #[.slice wo p.1.length wc, .slice xo p.2.len xc], .int .i64 0, .int .i64 0]) ∧ SlDc w' (.slice wo p.1.length wc) p.1 ∧ SlS w' (Fr w.heap.size) (.slice xo p.2.len xc) p.2 ∧ ∀ k, (Value.slice wo p.1.length wc).ownBlock = some k → w.heap.size ≤ k
 | .error x => e = .returned (.tuple #[.agg #[.slice none 0 0, .slice none 0 0], .int .i64 x.1, .int .i64 x.2])
theorem SlDc.onl {b : Nat} {W V : World} {v : Value} {ds : List Dc} (h : SlDc W v ds) (g : Onl b W V) (hb : ∀ k, v.ownBlock = some k → k ≠ b) : SlDc V v ds := by
 obtain ⟨p, q, rfl, h⟩ := h
 refine ⟨p, q, rfl, h.imp id ?_⟩
 rintro ⟨c, u, rfl, k⟩
 exact ⟨c, u, rfl, fun j d hj => ⟨g.cell (hb c rfl) (k j d hj).1, g.cell (hb c rfl) (k j d hj).2.1, g.cell (hb c rfl) (k j d hj).2.2⟩⟩
theorem par_err {ts : List Tk} {r : Rs Pg} {x : Nat × Nat} (h : parT ts r = .error x) (hm : r ≠ .more) : x.1 = 4 ∨ x.1 = 5 := by
 unfold parT at h
 cases r with
 | more => exact absurd rfl hm
 | bad p => simp only at h; cases h; exact Or.inl rfl
 | ok p us d =>
  simp only at h
  split at h
  ·cases h
  ·cases h; exact Or.inr rfl
theorem prs_sz {s : ByteArray} {p : Pg} (h : prsL s = .ok p) : s.size ≤ 8192 ∧ (∀ x ∈ p.1, szP x.1) ∧ p.2.szs ∧ (ruP p).isSome = true := by
 unfold prsL at h
 cases hs : scanL s.toList with
 | error e => rw [hs] at h; cases h
 | ok t =>
  rw [hs] at h
  simp only at h
  have hz : s.size ≤ 8192 := by
   unfold scanL at hs
   split at hs
   ·cases hs
   ·rename_i c; rw [toL_len] at c; omega
  refine ⟨hz, ?_⟩
  cases hr : pgP 16500 (tks s t) with
  | bad pl => rw [hr] at h; cases h
  | more => rw [hr] at h; cases h
  | ok q us d =>
   rw [hr] at h
   have sz := sz_pg 16500 (tks_Qz t (by omega)) q us d hr
   unfold parT at h
   simp only at h
   split at h
   ·rename_i c
    cases h
    rw [Bool.and_eq_true] at c
    exact ⟨sz.1.1, sz.1.2, c.2⟩
   ·cases h
set_option maxRecDepth 100000 in
set_option maxHeartbeats 3200000 in
theorem pParse (s : ByteArray) (w : World) (hO0 : OpsAt w) (hE0 : EvAt w) : Calls Tryz.prog 10 #[.string s] w fun e w' => PaR (prsL s) w e w' := by
 have hO : Hid (OpsAt w) := hO0
 have hE : Hid (EvAt w) := hE0
 have glO := hO0.gl
 have glE := hE0.gl
 clear hO0 hE0
 obtain ⟨R, hR⟩ : ∃ R, prsL s = R := ⟨_, rfl⟩
 rw [hR]
 unfold prsL at hR
 cases hsc : scanL s.toList with
 | error x =>
  obtain ⟨E, A⟩ := x
  rw [hsc] at hR
  simp only at hR
  subst hR
  have hE0 : ((E : Int) == 0) = false := by rw [beq_eq_false_iff_ne]; have := fxp_scanL_err hsc; omega
  have kS := scan_err s E A hsc
  clear hsc
  go_enter Tryz.func10, Tryz.ntmps10
  have sw : Hid (∀ x y : Obj, ∀ V, Below ((w.alloc x).alloc y).heap.size ((w.alloc x).alloc y) V → Below w.heap.size w V) := fun x y V k => pb_call (pb_new (pb_new (Below.refl _ _) x) y) k
  obtain ⟨W1, hW1⟩ : ∃ X, (w.alloc (.cells #[.string s] 9)).alloc (.cells #[.slice none 0 0, .slice none 0 0] 25) = X := ⟨_, rfl⟩
  obtain ⟨q, hq⟩ : ∃ q, w.heap.size + 1 = q := ⟨_, rfl⟩
  have qq : W1.heap[q]? = some (.cells #[.slice none 0 0, .slice none 0 0] 25 (0, 0)) := by
   rw [← hW1, show q = (w.alloc (.cells #[.string s] 9)).heap.size by rw [World.size_alloc]; omega]
   exact World.alloc_heap_new _ _
  have c0 : W1.cell? ⟨w.heap.size, 0, none⟩ = some (.string s) := by rw [← hW1]; simp [go_sem]
  have g1 : Below w.heap.size w W1 := by rw [← hW1]; exact pb_new (pb_new (Below.refl _ _) _) _
  go_upto_region 1 with fail
  (try rw [hW1])
  (try rw [hq])
  have kS1 := kS W1
  clear kS sw hW1
  have hq' : Hid (w.heap.size + 1 = q) := hq
  clear hq
  go_upto_region 2 with (first
   | (go_at_call 16; (refine kS1.mono ?_); rintro e v1 ⟨rfl, g2⟩)
   | fail)
  have g3 := pb_new g2 (.cells #[.slice none 0 0] 40)
  have q3 := (g3.block q (lt_of qq)).trans qq
  obtain ⟨V, hV⟩ : ∃ X, v1.alloc (.cells #[.slice none 0 0] 40) = X := ⟨_, rfl⟩
  rw [hV] at g3 q3 ⊢
  clear hV g2 c0 qq kS1
  have p0 : V.cell? ⟨q, 0, none⟩ = some (.slice none 0 0) := by simp [World.cell?, q3]
  have p1 : V.cell? ⟨q, 1, none⟩ = some (.slice none 0 0) := by simp [World.cell?, q3]
  have pf : ∀ j, V.frozen? ⟨q, j, none⟩ = false := fun j => by simp [World.frozen?, q3]
  go_wp2_with fail
  exact bodyPost_ret (v := .tuple #[.agg #[.slice none 0 0, .slice none 0 0], .int .i64 (E : Nat), .int .i64 (A : Nat)]) (by simp [results, Tryz.results10, go_sem, p0, p1]) rfl ⟨((pb_call g1 g3).setCell (p := ⟨q, 0, none⟩) (by have := hq'.out; show w.heap.size ≤ q; omega) _).setCell (p := ⟨q, 1, none⟩) (by have := hq'.out; show w.heap.size ≤ q; omega) _, rfl⟩
 | ok t =>
  rw [hsc] at hR
  simp only at hR
  have hs8 : s.size ≤ 8192 := by
   unfold scanL at hsc
   split at hsc
   ·cases hsc
   ·rename_i c; rw [toL_len] at c; omega
  obtain ⟨n, hn⟩ : ∃ n, t.length = n := ⟨_, rfl⟩
  have kS := scan_ok s t hsc
  rw [hn] at kS
  obtain ⟨W1, hW1⟩ : ∃ X, (w.alloc (.cells #[.string s] 9)).alloc (.cells #[.slice none 0 0, .slice none 0 0] 25) = X := ⟨_, rfl⟩
  obtain ⟨q, hq⟩ : ∃ q, w.heap.size + 1 = q := ⟨_, rfl⟩
  obtain ⟨c, hc⟩ : ∃ c, w.heap.size = c := ⟨_, rfl⟩
  have sz1 : W1.heap.size = q + 1 := by rw [← hW1, ← hq]; simp [go_sem]
  have qq : W1.heap[q]? = some (.cells #[.slice none 0 0, .slice none 0 0] 25 (0, 0)) := by
   rw [← hW1, show q = (w.alloc (.cells #[.string s] 9)).heap.size by rw [World.size_alloc]; omega]
   exact World.alloc_heap_new _ _
  have qs : W1.heap[c]? = some (.cells #[.string s] 9 (0, 0)) := by
   rw [← hW1, Below.heap_alloc _ _ c (by rw [World.size_alloc]; omega), ← hc]
   exact World.alloc_heap_new _ _
  have g1 : Below w.heap.size w W1 := by rw [← hW1]; exact pb_new (pb_new (Below.refl _ _) _) _
  have c0 : W1.cell? ⟨c, 0, none⟩ = some (.string s) := by simp [World.cell?, qs]
  go_enter Tryz.func10, Tryz.ntmps10
  go_upto_region 1 with fail
  (try rw [hW1])
  (try rw [hq])
  (try rw [hc])
  (try rw [show c + 1 = q by omega])
  have kS1 := kS W1
  have hcq : Hid (w.heap.size = c ∧ c + 1 = q) := ⟨hc, by omega⟩
  have hR' : Hid (parT (tks s t) (pgP 16500 (tks s t)) = R) := hR
  have hsc' : Hid (scanL s.toList = .ok t) := hsc
  have hn' : Hid (t.length = n) := hn
  have g1' : Hid (Below w.heap.size w W1) := g1
  clear kS hW1 hq hc hR hsc hn g1
  go_upto_region 2 with (first
   | (go_at_call 16; (refine kS1.mono ?_); rintro e v1 ⟨v, rfl, own, g2⟩; obtain ⟨vo, vc, rfl⟩ := po_shape own)
   | fail)
  have own' : Hid (v1.ownsRow W1.heap.size 45 3 (.slice vo n vc) n (tcells s t)) := own
  obtain ⟨V2, hV2⟩ : ∃ X, (v1.alloc (.cells #[.slice vo n vc] 40)).alloc (.cells #[.slice none 0 0, .slice none 0 0] 25) = X := ⟨_, rfl⟩
  obtain ⟨a, ha⟩ : ∃ a, v1.heap.size = a := ⟨_, rfl⟩
  obtain ⟨g, hg⟩ : ∃ g, a + 1 = g := ⟨_, rfl⟩
  have g3 : Below v1.heap.size v1 V2 := by rw [← hV2]; exact pb_new (pb_new (Below.refl _ _) _) _
  have sz2 : V2.heap.size = g + 1 := by rw [← hV2, ← hg, ← ha]; simp [go_sem]
  have qa : V2.heap[a]? = some (.cells #[.slice vo n vc] 40 (0, 0)) := by
   rw [← hV2, Below.heap_alloc _ _ a (by rw [World.size_alloc]; omega), ← ha]
   exact World.alloc_heap_new _ _
  have qg : V2.heap[g]? = some (.cells #[.slice none 0 0, .slice none 0 0] 25 (0, 0)) := by
   rw [← hV2, show g = (v1.alloc (.cells #[.slice vo n vc] 40)).heap.size by rw [World.size_alloc]; omega]
   exact World.alloc_heap_new _ _
  go_upto_region 5 with fail
  (try rw [hV2])
  (try rw [ha])
  (try rw [hg])
  have gg : Below W1.heap.size W1 V2 := pb_call g2 g3
  have ggw : Below w.heap.size w V2 := pb_call g1'.out gg
  have qs2 : V2.heap[c]? = some (.cells #[.string s] 9 (0, 0)) := (gg.block c (lt_of qs)).trans qs
  have qq2 : V2.heap[q]? = some (.cells #[.slice none 0 0, .slice none 0 0] 25 (0, 0)) := (gg.block q (lt_of qq)).trans qq
  have gF := pb_new (Below.refl V2.heap.size V2) (.cells #[.int .i64 0, .int .i64 0] 48)
  have qF := World.alloc_heap_new V2 (.cells #[.int .i64 0, .int .i64 0] 48)
  have cqs := hcq.out
  have ag : a < g := by omega
  have a1 : W1.heap.size ≤ a := by have := g2.size; omega
  have ola : ∀ k, (Value.slice vo n vc).ownBlock = some k → W1.heap.size ≤ k ∧ k < a := fun k hk => by have := own'.out.lt k hk; omega
  have kQ := pparse1 s t n hn'.out hsc'.out (by omega) (.slice vo n vc) W1.heap.size a c g (V2.alloc (.cells #[.int .i64 0, .int .i64 0] 48)) (po_on gF (po_on g3 own'.out)) (by have := gF.size; omega) ((hO.out.bel ggw).bel gF) ((hE.out.onl (b := V2.heap.size) (by omega) ((Onl.refl _ w).below ggw)).onl (b := V2.heap.size) (by omega) ((Onl.refl _ V2).below gF)) (by omega) (by omega)
   (pb_cell gF (by simp [World.cell?, qa])) (pb_cell gF (by simp [World.cell?, qs2])) ((gF.block g (by omega)).trans qg) (fun e => by have := ola g e; omega)
  rw [hR'.out] at kQ
  have ggw' : Hid (Below w.heap.size w V2) := ggw
  have cqs' : Hid (w.heap.size = c ∧ c + 1 = q ∧ W1.heap.size = q + 1 ∧ W1.heap.size ≤ a ∧ a + 1 = g ∧ V2.heap.size = g + 1) := ⟨hcq.out.1, hcq.out.2, sz1, a1, hg, sz2⟩
  have ola' : Hid (∀ k, (Value.slice vo n vc).ownBlock = some k → W1.heap.size ≤ k ∧ k < a) := ola
  have hx : ∀ x, R = .error x → x.1 ≠ 0 := fun x e => by
   have := par_err (hR'.out.trans e) (tks_nm (scanL_len hsc'.out))
   omega
  have hmf : ∀ (fn : Fn) (first cap : Array Value) (w : World), (Instr.makeFunc fn first cap).run Tryz.prog w = .ok (.func fn first cap) w := fun _ _ _ _ => rfl
  have hSn : ∀ k, (fun k => (Value.slice vo n vc).ownBlock = some k ∨ k = g) k → k ≠ V2.heap.size ∧ q < k := fun k hk => by
   rcases hk with hk | hk
   ·have := ola k hk; omega
   ·subst hk; omega
  clear hV2 ha hg g2 g3 own own' qa qg qs qq gg ggw qs2 cqs hcq ag a1 ola hR' hsc' hn' kS1 g1' c0 hs8
  cases R with
  | error x =>
   obtain ⟨E, A⟩ := x
   have kF := pfault_no 20 #[.pointer (some ⟨a, 0, none⟩), .pointer (some ⟨c, 0, none⟩), .pointer (some ⟨g, 0, none⟩)] (fun _ _ => rfl) E A V2 (fun v1 => OnS (fun k => (Value.slice vo n vc).ownBlock = some k ∨ k = g) V2 v1) (kQ.mono fun e v1 h => ⟨h.1, (h.2.block _ (by rw [World.size_alloc]; omega) (fun a => (hSn _ a).1 rfl)).trans qF, (OnS.of gF).thn h.2 (fun _ _ a => a)⟩)
   have x0 : (((E : Nat) : Int) == 0) = false := by rw [beq_eq_false_iff_ne]; have : E ≠ 0 := hx (E, A) rfl; omega
   clear kQ hx gF qF
   go_upto_region 7 with (first
    | (go_at_call 19; (refine kF.mono ?_); rintro e v2 ⟨rfl, v1, on1, on2⟩)
    | fail)
   obtain ⟨V4, hV4⟩ : ∃ X, v2.alloc (.cells #[.int .i64 (E : Nat), .int .i64 (A : Nat)] 48) = X := ⟨_, rfl⟩
   obtain ⟨f, hf⟩ : ∃ f, v2.heap.size = f := ⟨_, rfl⟩
   have qf : V4.heap[f]? = some (.cells #[.int .i64 (E : Nat), .int .i64 (A : Nat)] 48 (0, 0)) := by rw [← hV4, ← hf]; exact World.alloc_heap_new _ _
   have gF : Below v2.heap.size v2 V4 := by rw [← hV4]; exact pb_new (Below.refl _ _) _
   have cq := cqs'.out
   have sz1' := on1.size
   have sz2' := on2.size
   have qq4 : V4.heap[q]? = some (.cells #[.slice none 0 0, .slice none 0 0] 25 (0, 0)) := (gF.block q (by omega)).trans ((on2.block q (by omega) (by omega)).trans ((on1.block q (by omega) (fun a => by have := (hSn q a).2; omega)).trans qq2))
   have bel : Below w.heap.size w V4 := ((((OnS.of (S := fun k => (Value.slice vo n vc).ownBlock = some k ∨ k = g) ggw'.out).thn on1 (fun k hk a => a)).thn (on2.ons (S := fun k => k = V2.heap.size) rfl) (fun k hk a => by omega)).below gF).toBelow (fun k a => by rcases a with a | a; have := ola'.out k a; omega; omega) (Nat.le_refl _)
   have f0 : V4.cell? ⟨f, 0, none⟩ = some (.int .i64 (E : Nat)) := by simp [World.cell?, qf]
   have f1 : V4.cell? ⟨f, 1, none⟩ = some (.int .i64 (A : Nat)) := by simp [World.cell?, qf]
   have p0 : V4.cell? ⟨q, 0, none⟩ = some (.slice none 0 0) := by simp [World.cell?, qq4]
   have p1 : V4.cell? ⟨q, 1, none⟩ = some (.slice none 0 0) := by simp [World.cell?, qq4]
   have pf : ∀ j, V4.frozen? ⟨q, j, none⟩ = false := fun j => by simp [World.frozen?, qq4]
   rw [hV4]
   (try rw [hf])
   have bel' : Hid (∀ y0 y1, Below w.heap.size w ((V4.setCell ⟨q, 0, none⟩ y0).setCell ⟨q, 1, none⟩ y1)) := fun y0 y1 => (bel.setCell (p := ⟨q, 0, none⟩) (by show w.heap.size ≤ q; omega) _).setCell (p := ⟨q, 1, none⟩) (by show w.heap.size ≤ q; omega) _
   have nf : ¬ f = q := by omega
   have nf2 : ¬ q = f := by omega
   clear hV4 hf qf gF cq sz1' sz2' qq4 bel on1 on2 kF cqs' ola' hSn ggw' qq2
   go_region
   all_goals (go_wp2_with fail)
   all_goals exact bodyPost_ret (v := .tuple #[.agg #[.slice none 0 0, .slice none 0 0], .int .i64 (E : Nat), .int .i64 (A : Nat)]) (by simp [results, Tryz.results10, go_sem, p0, p1]) rfl ⟨(bel'.out _ _).drew, rfl⟩
  | ok p =>
   have kF := pfault_ok 20 #[.pointer (some ⟨a, 0, none⟩), .pointer (some ⟨c, 0, none⟩), .pointer (some ⟨g, 0, none⟩)] (fun _ _ => rfl) V2 (fun v1 => OnS (fun k => (Value.slice vo n vc).ownBlock = some k ∨ k = g) V2 v1 ∧ ∃ wo wc xo xc, v1.heap[g]? = some (.cells #[.slice wo p.1.length wc, .slice xo p.2.len xc] 25 (0, 0)) ∧ SlDc v1 (.slice wo p.1.length wc) p.1 ∧ SlS v1 (Fr (V2.heap.size + 1)) (.slice xo p.2.len xc) p.2 ∧ ∀ k, (Value.slice wo p.1.length wc).ownBlock = some k → V2.heap.size + 1 ≤ k)
    (kQ.mono fun e v1 h => ⟨h.1, (h.2.1.block _ (by rw [World.size_alloc]; omega) (fun a => (hSn _ a).1 rfl)).trans qF, (OnS.of gF).thn h.2.1 (fun _ _ a => a), by have h3 := h.2.2; rw [World.size_alloc] at h3; exact h3⟩)
   clear kQ hx gF qF
   go_upto_region 8 with (first
    | (go_at_call 19; (refine kF.mono ?_); rintro e v2 ⟨rfl, v1, ⟨on1, wo, wc, xo, xc, q1, hD, hS, hDb⟩, on2⟩)
    | fail)
   obtain ⟨V4, hV4⟩ : ∃ X, v2.alloc (.cells #[.int .i64 0, .int .i64 0] 48) = X := ⟨_, rfl⟩
   obtain ⟨f, hf⟩ : ∃ f, v2.heap.size = f := ⟨_, rfl⟩
   have gF : Below v2.heap.size v2 V4 := by rw [← hV4]; exact pb_new (Below.refl _ _) _
   have cq := cqs'.out
   have sz1' := on1.size
   have sz2' := on2.size
   have hgV : g < V2.heap.size := by omega
   have qq4 : V4.heap[q]? = some (.cells #[.slice none 0 0, .slice none 0 0] 25 (0, 0)) := (gF.block q (by omega)).trans ((on2.block q (by omega) (by omega)).trans ((on1.block q (by omega) (fun a => by have := (hSn q a).2; omega)).trans qq2))
   have qg4 : V4.heap[g]? = some (.cells #[.slice wo p.1.length wc, .slice xo p.2.len xc] 25 (0, 0)) := (gF.block g (by omega)).trans ((on2.block g (by omega) (by omega)).trans q1)
   have bel : Below w.heap.size w V4 := ((((OnS.of (S := fun k => (Value.slice vo n vc).ownBlock = some k ∨ k = g) ggw'.out).thn on1 (fun k hk a => a)).thn (on2.ons (S := fun k => k = V2.heap.size) rfl) (fun k hk a => by omega)).below gF).toBelow (fun k a => by rcases a with a | a; have := ola'.out k a; omega; omega) (Nat.le_refl _)
   have f0 : V4.cell? ⟨g, 0, none⟩ = some (.slice wo p.1.length wc) := by simp [World.cell?, qg4]
   have f1 : V4.cell? ⟨g, 1, none⟩ = some (.slice xo p.2.len xc) := by simp [World.cell?, qg4]
   have p0 : V4.cell? ⟨q, 0, none⟩ = some (.slice none 0 0) := by simp [World.cell?, qq4]
   have p1 : V4.cell? ⟨q, 1, none⟩ = some (.slice none 0 0) := by simp [World.cell?, qq4]
   have pf : ∀ j, V4.frozen? ⟨q, j, none⟩ = false := fun j => by simp [World.frozen?, qq4]
   have D4 : Hid (SlDc V4 (.slice wo p.1.length wc) p.1) := (hD.onl on2 (fun k hk => by have := hDb k hk; omega)).bel gF
   have S4 : Hid (SlS V4 (Fr (V2.heap.size + 1)) (.slice xo p.2.len xc) p.2) := (hS.kp (on2.kp (fun a => by have a' : V2.heap.size + 1 ≤ V2.heap.size := a; omega))).kp (Below.kp gF _)
   have hDb' : Hid (∀ k, (Value.slice wo p.1.length wc).ownBlock = some k → V2.heap.size + 1 ≤ k) := hDb
   have fin : Hid (∀ y0 y1, PaR (.ok p) w (.returned (.tuple #[.agg #[.slice wo p.1.length wc, .slice xo p.2.len xc], .int .i64 0, .int .i64 0])) ((V4.setCell ⟨q, 0, none⟩ y0).setCell ⟨q, 1, none⟩ y1)) := fun y0 y1 => by
    refine ⟨(bel.setCell (p := ⟨q, 0, none⟩) (by show w.heap.size ≤ q; omega) _).setCell (p := ⟨q, 1, none⟩) (by show w.heap.size ≤ q; omega) _, wo, wc, xo, xc, rfl, ?_, ?_, fun k hk => by have := hDb'.out k hk; omega⟩
    ·exact D4.out.same (fun k hk => (Below.heap_setCell _ _ _ _ (fun e => by have e' : k = q := e; have := hDb'.out k hk; omega)).trans (Below.heap_setCell _ _ _ _ (fun e => by have e' : k = q := e; have := hDb'.out k hk; omega)))
    ·have hn : ¬ Fr (V2.heap.size + 1) q := fun a => by have a' : V2.heap.size + 1 ≤ q := a; omega
     exact ((S4.out.kp (Kp.set hn)).kp (Kp.set hn)).lo (fun k a => by have a' : V2.heap.size + 1 ≤ k := a; show w.heap.size ≤ k; omega)
   rw [hV4]
   (try rw [hf])
   clear hV4 hf gF cq sz1' sz2' hgV qq4 qg4 bel on1 on2 kF cqs' ola' hSn ggw' qq2 hD hS hDb D4 S4 hDb' q1
   go_wp2_with fail
   exact bodyPost_ret (v := .tuple #[.agg #[.slice wo p.1.length wc, .slice xo p.2.len xc], .int .i64 0, .int .i64 0]) (by simp [results, Tryz.results10, go_sem, p0, p1]) rfl (fin.out _ _)
end Go.Proofs.YtknoibocpbfmmaaGreatDoor



