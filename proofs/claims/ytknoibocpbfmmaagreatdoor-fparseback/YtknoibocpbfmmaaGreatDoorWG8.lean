/- Texts of the proof, put together. -/
import Derived.Test.YtknoibocpbfmmaaGreatDoorWG7
namespace Go.Proofs.YtknoibocpbfmmaaGreatDoor
open Go.RowKit
set_option linter.unusedVariables false
set_option linter.unusedSimpArgs false
theorem PAt.setO {W : World} {b B : Nat} {ts : List Tk} {o d : Int} (h : PAt W b B ts o d) (o' : Int) : PAt (W.setCell ⟨b, 1, none⟩ (.int .i64 o')) b B ts o' d := by
 obtain ⟨ne, ⟨f, q, h1, h2, h3⟩, h4, h5, h6⟩ := h
 refine ⟨ne, ⟨f, q, ?_, h2, h3.on fun o v k => ?_⟩, ?_, ?_, fun k => ?_⟩
 ·rw [World.cell?_setCell_other _ _ _ _ (by simp)]; exact h1
 ·rw [World.cell?_setCell_other _ _ _ _ (by simp [ne])]; exact k
 ·simp [go_sem, h4]
 ·rw [World.cell?_setCell_other _ _ _ _ (by simp)]; exact h5
 ·simpa [go_sem] using h6 k
theorem PAt.setD {W : World} {b B : Nat} {ts : List Tk} {o d : Int} (h : PAt W b B ts o d) (d' : Int) : PAt (W.setCell ⟨b, 2, none⟩ (.int .i64 d')) b B ts o d' := by
 obtain ⟨ne, ⟨f, q, h1, h2, h3⟩, h4, h5, h6⟩ := h
 refine ⟨ne, ⟨f, q, ?_, h2, h3.on fun o v k => ?_⟩, ?_, ?_, fun k => ?_⟩
 ·rw [World.cell?_setCell_other _ _ _ _ (by simp)]; exact h1
 ·rw [World.cell?_setCell_other _ _ _ _ (by simp [ne])]; exact k
 ·rw [World.cell?_setCell_other _ _ _ _ (by simp)]; exact h4
 ·simp [go_sem, h5]
 ·simpa [go_sem] using h6 k
theorem Sit.setO {b B p : Nat} {w V : World} {ts : List Tk} {o d : Int} (h : Sit b B p w V ts o d) (o' : Int) : Sit b B p w (V.setCell ⟨b, 1, none⟩ (.int .i64 o')) ts o' d := h.onl (Onl.set (Onl.refl b V) _) (h.P.setO o')
theorem Sit.setD {b B p : Nat} {w V : World} {ts : List Tk} {o d : Int} (h : Sit b B p w V ts o d) (d' : Int) : Sit b B p w (V.setCell ⟨b, 2, none⟩ (.int .i64 d')) ts o d' := h.onl (Onl.set (Onl.refl b V) _) (h.P.setD d')
theorem Sit.drew {b B p : Nat} {w V : World} {ts : List Tk} {o d : Int} (h : Sit b B p w V ts o d) : Sit b B p w V.drew ts o d := h.onl (Onl.drew (Onl.refl b V)) (h.P.on rfl rfl)
set_option maxRecDepth 100000 in
set_option maxHeartbeats 1600000 in
theorem step_I (n : Nat) (ihC : SpC n) : SpI (n + 1) := by
 intro o ts d z o0 oM nm b B w hO0 hG h
 have hne := z.ne
 obtain ⟨R, hR⟩ : ∃ R, iP (n + 1) o ts d = R := ⟨_, rfl⟩
 rw [hR]
 rw [hR] at nm
 rw [iP] at hR
 have kC := ihC (o + 1) ts (max d (o + 1)) z (by omega) (by omega) (by rw [hR]; exact nm) b B
 have w1 : IntKind.i64.wrap (o + 1) = o + 1 := by rw [IntKind.wrap_i64]; omega
 have w2 : IntKind.i64.wrap (o + 1 - 1) = o := by rw [IntKind.wrap_i64]; omega
 have zR : ∀ x us d', R = .ok x us d' → us ≠ [] := fun x us d' e => by
  have := cP_sat n (o + 1) ts (max d (o + 1)) z
  rw [hR, e] at this
  exact this.1.ne
 have mx : (if d < o + 1 then o + 1 else d) = max d (o + 1) := by split <;> omega
 rw [hR] at kC
 clear hR z ihC
 have hlt := h.lt
 have hltB := h.ltB hne
 go_enter Tryz.func133, Tryz.ntmps133
 go_upto_region 1 with fail
 obtain ⟨W, hW⟩ : ∃ W, w.alloc (.cells #[.int .i64 0, .string ⟨#[]⟩, .int .i64 0, .slice none 0 0] 85) = W := ⟨_, rfl⟩
 obtain ⟨p, hp⟩ : ∃ p, w.heap.size = p := ⟨_, rfl⟩
 have hS : Sit b B p w W ts o d := by
  have gW : Below w.heap.size w W := by rw [← hW]; exact pb_new (Below.refl _ _) _
  refine ⟨(Onl.refl b w).below gW, ?_, h.bel hne gW, hO0.bel gW, Nat.le_of_eq hp, by omega, by omega, hG, hlt⟩
  rw [← hW, ← hp]; exact World.alloc_heap_new w _
 rw [hW]
 (try rw [hp])
 clear hW h hO0 hp hlt hltB
 have c1 := hS.P.op
 have c2 := hS.P.dp
 have cf := hS.P.fz
 go_upto_region 2 with fail
 go_region
 replace hS := ((hS.setO (o + 1)).setD (if d < o + 1 then o + 1 else d)).drew
 rw [mx] at hS
 (try rw [mx])
 generalize ((W.setCell ⟨b, 1, none⟩ (.int .i64 (o + 1))).setCell ⟨b, 2, none⟩ (.int .i64 (max d (o + 1)))).drew = V at *
 clear c1 c2 cf mx
 cases R with
 | more => exact absurd rfl nm
 | bad pl =>
  clear nm zR
  go_wp2_with (first
   | (go_at_call 83; (refine (kC _ hS.O hS.hG hS.P).mono ?_); rintro e v2 ⟨on2, rfl⟩; replace hS := hS.on.trans on2)
   | fail)
  refine ⟨rfl, ?_⟩
  exact ⟨hS, rfl⟩
 | ok x1 us1 d1 =>
  have ne1 := zR x1 us1 d1 rfl
  clear nm zR
  go_upto_region 4 with (first
   | (go_at_call 83; (refine (kC _ hS.O hS.hG hS.P).mono ?_); rintro e v2 ⟨on2, pp2, qq2, rfl, k2, hP2⟩; replace k2 := k2.lo (lo' := (fun k => w.heap.size ≤ k ∧ k ≠ p)) (hS.fr); replace hS := hS.onl on2 hP2)
   | fail)
  obtain ⟨V3, hV3⟩ : ∃ V, v2.alloc (.cells #[.int .i64 x1.op, .string x1.tx, .int .i64 x1.ty, .slice pp2 x1.ks.len qq2] 85) = V := ⟨_, rfl⟩
  obtain ⟨c3, hc3⟩ : ∃ c, v2.heap.size = c := ⟨_, rfl⟩
  have qc3 : V3.heap[c3]? = some (.cells #[.int .i64 x1.op, .string x1.tx, .int .i64 x1.ty, .slice pp2 x1.ks.len qq2] 85 (0, 0)) := by rw [← hV3, ← hc3]; exact World.alloc_heap_new _ _
  have lc3 : p < c3 := by rw [← hc3]; exact hS.pl
  have bc3 : c3 ≠ b := by have := hS.P.lt; omega
  have Bc3 : c3 ≠ B := by have := hS.P.ltB ne1; omega
  replace hS := hS.new ne1 (.cells #[.int .i64 x1.op, .string x1.tx, .int .i64 x1.ty, .slice pp2 x1.ks.len qq2] 85)
  replace k2 := k2.kp (Below.kp (pb_new (Below.refl v2.heap.size v2) (.cells #[.int .i64 x1.op, .string x1.tx, .int .i64 x1.ty, .slice pp2 x1.ks.len qq2] 85)) _)
  rw [hV3] at hS k2
  rw [hV3]
  (try rw [hc3])
  have ec3 : Hid (v2.heap.size = c3) := hc3
  clear hV3 hc3
  have c3' := hS.P.op
  have zpb := hS.pb
  have zbp := Ne.symm hS.pb
  have cf := hS.P.fz
  obtain ⟨f0, f1, f2, f3, ff⟩ := ex_cells hS.q
  obtain ⟨e0_, e1_, e2_, e3_, _⟩ := ex_cells qc3
  go_wp2_with fail
  have hS5 := hS.setO o
  have k5 := k2.away (Onl.set (Onl.refl b V3) (j := 1) (.int .i64 o)) hS.nb
  exact bodyPost_ret (v := .agg #[.int .i64 x1.op, .string x1.tx, .int .i64 x1.ty, .slice pp2 x1.ks.len qq2]) (by simp [results, Tryz.results133, go_sem, f0, f1, f2, f3, zpb, zbp]) rfl (ex_done hS5 (x := x1) rfl k5 (fun k a => a.1) (fun a => a.2 rfl) rfl rfl _ _ _ _)
end Go.Proofs.YtknoibocpbfmmaaGreatDoor


namespace Go.Proofs.YtknoibocpbfmmaaGreatDoor
open Go.RowKit
set_option linter.unusedVariables false
set_option linter.unusedSimpArgs false
theorem set4_alloc (V : World) (o : Obj) (p : Nat) (hp : p < V.heap.size) (y0 y1 y2 y3 : Value) : (((((V.alloc o).setCell ⟨p, 0, none⟩ y0).setCell ⟨p, 1, none⟩ y1).setCell ⟨p, 2, none⟩ y2).setCell ⟨p, 3, none⟩ y3) = ((((V.setCell ⟨p, 0, none⟩ y0).setCell ⟨p, 1, none⟩ y1).setCell ⟨p, 2, none⟩ y2).setCell ⟨p, 3, none⟩ y3).alloc o := by
 have e : ∀ (V : World) (j : Nat) (y : Value), (V.setCell ⟨p, j, none⟩ y).heap.size = V.heap.size := fun V j y => by simp [World.setCell]
 rw [World.setCell_alloc_past o p 0 y0 hp, World.setCell_alloc_past o p 1 y1 (by rw [e]; exact hp), World.setCell_alloc_past o p 2 y2 (by rw [e, e]; exact hp), World.setCell_alloc_past o p 3 y3 (by rw [e, e, e]; exact hp)]
/-- The same, a block made ahead. -/
theorem ex_done2 {w V : World} {b B p : Nat} {us : List Tk} {o d : Int} (h0 : Sit b B p w V us o d) (hne : us ≠ []) (ob : Obj) {x : Ex} {s : Value} {pp : Option Addr} {qq : Nat} (hv : s = .slice pp x.ks.len qq) {S : Nat → Prop} (hs : SlF (V.alloc ob) S s x.ks) (h1 : ∀ k, S k → w.heap.size ≤ k) (h2 : ¬ S p) {e : Ending} (he : e = .returned (.agg #[.int .i64 x.op, .string x.tx, .int .i64 x.ty, s])) {r : Rs Ex} (hr : r = .ok x us d) (y0 y1 y2 y3 : Value) :
  ExR r b B o w e (((((V.setCell ⟨p, 0, none⟩ y0).setCell ⟨p, 1, none⟩ y1).setCell ⟨p, 2, none⟩ y2).setCell ⟨p, 3, none⟩ y3).alloc ob) := by
 rw [← set4_alloc V ob p h0.pl]
 exact ex_done (h0.new hne ob) hv hs h1 h2 he hr y0 y1 y2 y3
set_option maxRecDepth 100000 in
set_option maxHeartbeats 1600000 in
theorem step_V (n : Nat) (ihE : SpE n) : SpV (n + 1) := by
 intro o ts d z o0 oM nm b B w hO0 hG h
 obtain ⟨t, us, rfl⟩ := z.cons
 have hne : t :: us ≠ [] := by simp
 obtain ⟨R, hR⟩ : ∃ R, vP (n + 1) o (t :: us) d = R := ⟨_, rfl⟩
 rw [hR]
 rw [hR] at nm
 rw [vP] at hR
 by_cases c : t.1 = 1
 case neg =>
  have e0 : Hid (R = .bad t.2.2) := by rw [← hR]; exact if_neg c
  have hk : t.1 ∉ [1] := by simp; exact c
  clear hR nm z ihE oM
  have hlt := h.lt
  have hltB := h.ltB hne
  go_enter Tryz.func134, Tryz.ntmps134
  go_upto_region 1 with fail
  obtain ⟨W, hW⟩ : ∃ W, w.alloc (.cells #[.int .i64 0, .string ⟨#[]⟩, .int .i64 0, .slice none 0 0] 85) = W := ⟨_, rfl⟩
  obtain ⟨p, hp⟩ : ∃ p, w.heap.size = p := ⟨_, rfl⟩
  have hS : Sit b B p w W (t :: us) o d := by
   have gW : Below w.heap.size w W := by rw [← hW]; exact pb_new (Below.refl _ _) _
   refine ⟨(Onl.refl b w).below gW, ?_, h.bel hne gW, hO0.bel gW, Nat.le_of_eq hp, by omega, by omega, hG, hlt⟩
   rw [← hW, ← hp]; exact World.alloc_heap_new w _
  rw [hW]
  (try rw [hp])
  clear hW h hO0 hp hlt hltB
  go_wp2_with (first
   | (go_at_call 77; (refine (ptake_no b B _ 1 1 t us o d [1] rfl (by omega) hk _ (ks1 1 rfl) (hS.new hne _).P).mono ?_); rintro e v1 ⟨rfl, g1⟩; replace hS := ((hS.new hne _).bel hne g1).on)
   | fail)
  refine ⟨rfl, ?_⟩
  rw [e0.out]
  exact ⟨hS, rfl⟩
 case pos =>
  have zu := kind_tl z (by omega)
  have u0 := zu.ne
  have hk : t.1 ∈ [1] := by simp; exact c
  rw [if_pos (show (hd (t :: us)).1 = 1 from c)] at hR
  obtain ⟨t2, us2, rfl⟩ := zu.cons
  have ne1 : t2 :: us2 ≠ [] := by simp
  by_cases c2 : t2.2.1 = tLb
  case neg =>
   have e0 : Hid (R = .ok ⟨2, t.2.1, 0, .nil⟩ (t2 :: us2) d) := by
    rw [← hR]; exact if_neg (by show ¬ decide (t2.2.1 = tLb) = true; rw [decide_eq_true_iff]; exact c2)
   clear hR nm z ihE oM
   have hlt := h.lt
   have hltB := h.ltB hne
   go_enter Tryz.func134, Tryz.ntmps134
   go_upto_region 1 with fail
   obtain ⟨W, hW⟩ : ∃ W, w.alloc (.cells #[.int .i64 0, .string ⟨#[]⟩, .int .i64 0, .slice none 0 0] 85) = W := ⟨_, rfl⟩
   obtain ⟨p, hp⟩ : ∃ p, w.heap.size = p := ⟨_, rfl⟩
   have hS : Sit b B p w W (t :: t2 :: us2) o d := by
    have gW : Below w.heap.size w W := by rw [← hW]; exact pb_new (Below.refl _ _) _
    refine ⟨(Onl.refl b w).below gW, ?_, h.bel hne gW, hO0.bel gW, Nat.le_of_eq hp, by omega, by omega, hG, hlt⟩
    rw [← hW, ← hp]; exact World.alloc_heap_new w _
   rw [hW]
   (try rw [hp])
   clear hW h hO0 hp hlt hltB
   go_wp2_with (first
    | (go_at_call 77; (refine (ptake_yes b B _ 1 1 t (t2 :: us2) o d u0 [1] rfl (by omega) hk _ (ks1 1 rfl) (hS.new hne _).P).mono ?_); rintro e v1 ⟨rfl, hP1, on1⟩; replace hS := (hS.new hne _).onl on1 hP1)
    | (go_at_call 78; (with_reducible refine (pskip_no b B t2 us2 o d tLb c2 _ hS.P).mono ?_); rintro e v2 ⟨rfl, g2⟩; replace hS := hS.bel ne1 g2; obtain ⟨f0, f1, f2, f3, ff⟩ := ex_cells hS.q)
    | fail)
   exact bodyPost_ret (v := .agg #[.int .i64 2, .string t.2.1, .int .i64 0, .slice none 0 0]) (by simp [results, Tryz.results134, go_sem, f0, f1, f2, f3]) rfl (ex_done hS (x := ⟨2, t.2.1, 0, .nil⟩) rfl (SlF.nil _ (fun k => w.heap.size ≤ k ∧ k ≠ p)) (fun k a => a.1) (fun a => a.2 rfl) rfl e0.out _ _ _ _)
  case pos =>
   rw [if_pos (show isTx (t :: t2 :: us2).tail tLb = true from decide_eq_true c2)] at hR
   replace hR : ((eP n 0 o us2 d).thn fun e us d => want tRb us fun us => .ok ⟨3, t.2.1, 0, e.row .nil⟩ us d) = R := hR
   have z2 := want_tail zu c2 tLb_ne
   have o2 : o + us2.length ≤ 1000000 := by simp at oM; omega
   have c2' : Hid (t2.2.1 = tLb) := c2
   cases hr : eP n 0 o us2 d with
   | more => rw [Rs.thn_more hr] at hR; exact absurd hR.symm nm
   | bad pl =>
    rw [Rs.thn_bad hr] at hR
    have kE := ihE 0 o us2 d z2 o0 o2 (by decide) (by decide) (by rw [hr]; simp) b B
    rw [hr] at kE
    have e0 : Hid (R = .bad pl) := hR.symm
    clear hR hr nm c2 z ihE oM
    have hlt := h.lt
    have hltB := h.ltB hne
    go_enter Tryz.func134, Tryz.ntmps134
    go_upto_region 1 with fail
    obtain ⟨W, hW⟩ : ∃ W, w.alloc (.cells #[.int .i64 0, .string ⟨#[]⟩, .int .i64 0, .slice none 0 0] 85) = W := ⟨_, rfl⟩
    obtain ⟨p, hp⟩ : ∃ p, w.heap.size = p := ⟨_, rfl⟩
    have hS : Sit b B p w W (t :: t2 :: us2) o d := by
     have gW : Below w.heap.size w W := by rw [← hW]; exact pb_new (Below.refl _ _) _
     refine ⟨(Onl.refl b w).below gW, ?_, h.bel hne gW, hO0.bel gW, Nat.le_of_eq hp, by omega, by omega, hG, hlt⟩
     rw [← hW, ← hp]; exact World.alloc_heap_new w _
    rw [hW]
    (try rw [hp])
    clear hW h hO0 hp hlt hltB
    have kw := fun V hP => pskip_yes b B t2 us2 o d z2.ne V hP
    rw [c2'.out] at kw
    go_wp2_with (first
     | (go_at_call 77; (refine (ptake_yes b B _ 1 1 t (t2 :: us2) o d u0 [1] rfl (by omega) hk _ (ks1 1 rfl) (hS.new hne _).P).mono ?_); rintro e v1 ⟨rfl, hP1, on1⟩; replace hS := (hS.new hne _).onl on1 hP1)
     | (go_at_call 78; (with_reducible refine (kw _ hS.P).mono ?_); rintro e v2 ⟨rfl, hP2, on2⟩; replace hS := hS.onl on2 hP2)
     | (go_at_call 98; (refine (kE _ hS.O hS.hG hS.P).mono ?_); rintro e v3 ⟨on3, rfl⟩; replace hS := hS.on.trans on3)
     | fail)
    refine ⟨rfl, ?_⟩
    rw [e0.out]
    exact ⟨hS, rfl⟩
   | ok x1 us3 d1 =>
    rw [Rs.thn_ok hr] at hR
    have kE := ihE 0 o us2 d z2 o0 o2 (by decide) (by decide) (by rw [hr]; simp) b B
    have z3 : Tz us3 := by have := eP_sat n 0 o us2 d z2; rw [hr] at this; exact this.1
    rw [hr] at kE
    obtain ⟨t4, us4, rfl⟩ := z3.cons
    have ne3 : t4 :: us4 ≠ [] := by simp
    by_cases c4 : t4.2.1 = tRb
    ·rw [want_yes c4] at hR
     have z4 := want_tail z3 c4 tRb_ne
     have hz6 := z4.ne
     have e0 : Hid (R = .ok ⟨3, t.2.1, 0, x1.row .nil⟩ us4 d1) := hR.symm
     have c4' : Hid (t4.2.1 = tRb) := c4
     clear hR hr nm c2 c4 z ihE oM
     have hlt := h.lt
     have hltB := h.ltB hne
     go_enter Tryz.func134, Tryz.ntmps134
     go_upto_region 1 with fail
     obtain ⟨W, hW⟩ : ∃ W, w.alloc (.cells #[.int .i64 0, .string ⟨#[]⟩, .int .i64 0, .slice none 0 0] 85) = W := ⟨_, rfl⟩
     obtain ⟨p, hp⟩ : ∃ p, w.heap.size = p := ⟨_, rfl⟩
     have hS : Sit b B p w W (t :: t2 :: us2) o d := by
      have gW : Below w.heap.size w W := by rw [← hW]; exact pb_new (Below.refl _ _) _
      refine ⟨(Onl.refl b w).below gW, ?_, h.bel hne gW, hO0.bel gW, Nat.le_of_eq hp, by omega, by omega, hG, hlt⟩
      rw [← hW, ← hp]; exact World.alloc_heap_new w _
     rw [hW]
     (try rw [hp])
     clear hW h hO0 hp hlt hltB
     have kw := fun V hP => pskip_yes b B t2 us2 o d z2.ne V hP
     rw [c2'.out] at kw
     go_upto_region 5 with (first
      | (go_at_call 77; (refine (ptake_yes b B _ 1 1 t (t2 :: us2) o d u0 [1] rfl (by omega) hk _ (ks1 1 rfl) (hS.new hne _).P).mono ?_); rintro e v1 ⟨rfl, hP1, on1⟩; replace hS := (hS.new hne _).onl on1 hP1)
      | (go_at_call 78; (with_reducible refine (kw _ hS.P).mono ?_); rintro e v2 ⟨rfl, hP2, on2⟩; replace hS := hS.onl on2 hP2)
      | (go_at_call 98; (refine (kE _ hS.O hS.hG hS.P).mono ?_); rintro e v3 ⟨on3, pp3, qq3, rfl, k3, hP3⟩; replace k3 := k3.lo (lo' := (fun k => w.heap.size ≤ k ∧ k ≠ p)) (hS.fr); replace hS := hS.onl on3 hP3)
      | fail)
     obtain ⟨V3, hV3⟩ : ∃ V, v3.alloc (.cells #[.int .i64 x1.op, .string x1.tx, .int .i64 x1.ty, .slice pp3 x1.ks.len qq3] 85) = V := ⟨_, rfl⟩
     obtain ⟨c3, hc3⟩ : ∃ c, v3.heap.size = c := ⟨_, rfl⟩
     have qc3 : V3.heap[c3]? = some (.cells #[.int .i64 x1.op, .string x1.tx, .int .i64 x1.ty, .slice pp3 x1.ks.len qq3] 85 (0, 0)) := by rw [← hV3, ← hc3]; exact World.alloc_heap_new _ _
     have lc3 : p < c3 := by rw [← hc3]; exact hS.pl
     have bc3 : c3 ≠ b := by have := hS.P.lt; omega
     have Bc3 : c3 ≠ B := by have := hS.P.ltB ne3; omega
     replace hS := hS.new ne3 (.cells #[.int .i64 x1.op, .string x1.tx, .int .i64 x1.ty, .slice pp3 x1.ks.len qq3] 85)
     replace k3 := k3.kp (Below.kp (pb_new (Below.refl v3.heap.size v3) (.cells #[.int .i64 x1.op, .string x1.tx, .int .i64 x1.ty, .slice pp3 x1.ks.len qq3] 85)) _)
     rw [hV3] at hS k3
     rw [hV3]
     (try rw [hc3])
     have ec3 : Hid (v3.heap.size = c3) := hc3
     clear hV3 hc3
     have kw2 := pwant_yes b B t4 us4 o d1 z4.ne _ hS.P
     rw [c4'.out] at kw2
     clear kw
     go_wp2_with (first
      | (go_at_call 80; (with_reducible refine (kw2).mono ?_); rintro e v5 ⟨rfl, hP5, on5⟩; replace hS := hS.onl on5 hP5; replace qc3 := (on5.block _ (lt_of qc3) bc3).trans qc3; replace k3 := k3.away on5 hS.nb; obtain ⟨f0, f1, f2, f3, ff⟩ := ex_cells hS.q; obtain ⟨e0_, e1_, e2_, e3_, _⟩ := ex_cells qc3; have zl := hS.pl; have zne : p ≠ _ := Nat.ne_of_lt zl)
      | fail)
     have k6 := slf_new (q := 1) k3 rfl (hS.fr _ (Nat.le_refl _))
     exact bodyPost_ret (v := .agg #[.int .i64 3, .string t.2.1, .int .i64 0, .slice (some ⟨v5.heap.size, 0, none⟩) 1 1]) (by simp [results, Tryz.results134, go_sem, f0, f1, f2, f3, zl, zne]) rfl (ex_done2 hS hz6 (.cells #[.int .i64 x1.op, .string x1.tx, .int .i64 x1.ty, .slice pp3 x1.ks.len qq3] 85) (x := ⟨3, t.2.1, 0, x1.row .nil⟩) rfl k6 (fun k a => a.1) (fun a => a.2 rfl) rfl e0.out _ _ _ _)
    ·rw [want_no c4] at hR
     have e0 : Hid (R = .bad t4.2.2) := hR.symm
     clear hR hr nm c2 z ihE oM
     have hlt := h.lt
     have hltB := h.ltB hne
     go_enter Tryz.func134, Tryz.ntmps134
     go_upto_region 1 with fail
     obtain ⟨W, hW⟩ : ∃ W, w.alloc (.cells #[.int .i64 0, .string ⟨#[]⟩, .int .i64 0, .slice none 0 0] 85) = W := ⟨_, rfl⟩
     obtain ⟨p, hp⟩ : ∃ p, w.heap.size = p := ⟨_, rfl⟩
     have hS : Sit b B p w W (t :: t2 :: us2) o d := by
      have gW : Below w.heap.size w W := by rw [← hW]; exact pb_new (Below.refl _ _) _
      refine ⟨(Onl.refl b w).below gW, ?_, h.bel hne gW, hO0.bel gW, Nat.le_of_eq hp, by omega, by omega, hG, hlt⟩
      rw [← hW, ← hp]; exact World.alloc_heap_new w _
     rw [hW]
     (try rw [hp])
     clear hW h hO0 hp hlt hltB
     have kw := fun V hP => pskip_yes b B t2 us2 o d z2.ne V hP
     rw [c2'.out] at kw
     go_wp2_with (first
      | (go_at_call 77; (refine (ptake_yes b B _ 1 1 t (t2 :: us2) o d u0 [1] rfl (by omega) hk _ (ks1 1 rfl) (hS.new hne _).P).mono ?_); rintro e v1 ⟨rfl, hP1, on1⟩; replace hS := (hS.new hne _).onl on1 hP1)
      | (go_at_call 78; (with_reducible refine (kw _ hS.P).mono ?_); rintro e v2 ⟨rfl, hP2, on2⟩; replace hS := hS.onl on2 hP2)
      | (go_at_call 98; (refine (kE _ hS.O hS.hG hS.P).mono ?_); rintro e v3 ⟨on3, pp3, qq3, rfl, k3, hP3⟩; replace k3 := k3.lo (lo' := (fun k => w.heap.size ≤ k ∧ k ≠ p)) (hS.fr); replace hS := hS.onl on3 hP3)
      | (go_at_call 80; (with_reducible refine (pwant_no b B t4 us4 o d1 tRb c4 _ (hS.new ne3 _).P).mono ?_); rintro e v5 ⟨rfl, g5⟩; replace hS := ((hS.new ne3 _).bel ne3 g5).on)
      | fail)
     refine ⟨rfl, ?_⟩
     rw [e0.out]
     exact ⟨hS, rfl⟩
end Go.Proofs.YtknoibocpbfmmaaGreatDoor


namespace Go.Proofs.YtknoibocpbfmmaaGreatDoor
open Go.RowKit
set_option linter.unusedVariables false
set_option linter.unusedSimpArgs false
set_option maxRecDepth 100000 in
set_option maxHeartbeats 1600000 in
theorem step_S (n : Nat) (ihS : SpS n) (ihG : SpG n) : SpS (n + 1) := by
 intro o ts d z o0 oM nm b B w hO0 hG h
 obtain ⟨t, us, rfl⟩ := z.cons
 have hne : t :: us ≠ [] := by simp
 obtain ⟨R, hR⟩ : ∃ R, sP (n + 1) o (t :: us) d = R := ⟨_, rfl⟩
 rw [hR]
 rw [hR] at nm
 rw [sP] at hR
 by_cases c : t.2.1 = tMi
 ·rw [if_pos (show isTx (t :: us) tMi = true from decide_eq_true c)] at hR
  replace hR : ((sP n o us d).thn fun e ts d => .ok (over1 4 e) ts d) = R := hR
  have zu := want_tail z c tMi_ne
  have ou : o + us.length ≤ 1000000 := by simp at oM; omega
  have c' : Hid (t.2.1 = tMi) := c
  clear c
  cases hr : sP n o us d with
  | more =>
   rw [Rs.thn_more hr] at hR
   exact absurd hR.symm nm
  | bad pl =>
   rw [Rs.thn_bad hr] at hR
   have kX := ihS o us d zu o0 ou (by rw [hr]; simp) b B
   rw [hr] at kX
   have e0 : Hid (R = .bad pl) := hR.symm
   clear hR hr nm z ihS ihG oM
   have hlt := h.lt
   have hltB := h.ltB hne
   go_enter Tryz.func113, Tryz.ntmps113
   go_upto_region 1 with fail
   obtain ⟨W, hW⟩ : ∃ W, w.alloc (.cells #[.int .i64 0, .string ⟨#[]⟩, .int .i64 0, .slice none 0 0] 85) = W := ⟨_, rfl⟩
   obtain ⟨p, hp⟩ : ∃ p, w.heap.size = p := ⟨_, rfl⟩
   have hS : Sit b B p w W (t :: us) o d := by
    have gW : Below w.heap.size w W := by rw [← hW]; exact pb_new (Below.refl _ _) _
    refine ⟨(Onl.refl b w).below gW, ?_, h.bel hne gW, hO0.bel gW, Nat.le_of_eq hp, by omega, by omega, hG, hlt⟩
    rw [← hW, ← hp]; exact World.alloc_heap_new w _
   rw [hW]
   (try rw [hp])
   clear hW h hO0 hp hlt hltB
   have kw := fun V hP => pskip_yes b B t us o d zu.ne V hP
   rw [c'.out] at kw
   go_wp2_with (first
    | (go_at_call 78; (with_reducible refine (kw _ hS.P).mono ?_); rintro e v1 ⟨rfl, hP1, on1⟩; replace hS := hS.onl on1 hP1)
    | (go_at_call 113; (refine (kX _ hS.O hS.hG hS.P).mono ?_); rintro e v2 ⟨on2, rfl⟩; replace hS := hS.on.trans on2)
    | fail)
   refine ⟨rfl, ?_⟩
   rw [e0.out]
   exact ⟨hS, rfl⟩
  | ok x1 us1 d1 =>
   rw [Rs.thn_ok hr] at hR
   have kX := ihS o us d zu o0 ou (by rw [hr]; simp) b B
   have z1 : Tz us1 := by have := (ex_sat n).2.2.1 o us d zu; rw [hr] at this; exact this.1
   have ne1 := z1.ne
   rw [hr] at kX
   have e0 : Hid (R = .ok (over1 4 x1) us1 d1) := hR.symm
   clear hR hr nm z ihS ihG oM
   have hlt := h.lt
   have hltB := h.ltB hne
   go_enter Tryz.func113, Tryz.ntmps113
   go_upto_region 1 with fail
   obtain ⟨W, hW⟩ : ∃ W, w.alloc (.cells #[.int .i64 0, .string ⟨#[]⟩, .int .i64 0, .slice none 0 0] 85) = W := ⟨_, rfl⟩
   obtain ⟨p, hp⟩ : ∃ p, w.heap.size = p := ⟨_, rfl⟩
   have hS : Sit b B p w W (t :: us) o d := by
    have gW : Below w.heap.size w W := by rw [← hW]; exact pb_new (Below.refl _ _) _
    refine ⟨(Onl.refl b w).below gW, ?_, h.bel hne gW, hO0.bel gW, Nat.le_of_eq hp, by omega, by omega, hG, hlt⟩
    rw [← hW, ← hp]; exact World.alloc_heap_new w _
   rw [hW]
   (try rw [hp])
   clear hW h hO0 hp hlt hltB
   have kw := fun V hP => pskip_yes b B t us o d zu.ne V hP
   rw [c'.out] at kw
   go_wp2_with (first
    | (go_at_call 78; (with_reducible refine (kw _ hS.P).mono ?_); rintro e v1 ⟨rfl, hP1, on1⟩; replace hS := hS.onl on1 hP1)
    | (go_at_call 113; (refine (kX _ hS.O hS.hG hS.P).mono ?_); rintro e v2 ⟨on2, pp2, qq2, rfl, k2, hP2⟩; replace k2 := k2.lo (lo' := (fun k => w.heap.size ≤ k ∧ k ≠ p)) (hS.fr); replace hS := hS.onl on2 hP2)
    | (go_at_call 111; (refine (pover _ _ _ ⟨_, _, _, rfl⟩).mono ?_); rintro e v7 ⟨rfl, g7⟩; have k6 := slf_new (q := 1) k2 rfl (hS.fr _ (Nat.le_refl _)); replace k6 := k6.kp (Below.kp g7 _); replace hS := (hS.new ne1 (.cells #[.int .i64 x1.op, .string x1.tx, .int .i64 x1.ty, .slice pp2 x1.ks.len qq2] 85)).bel ne1 g7; obtain ⟨f0, f1, f2, f3, ff⟩ := ex_cells hS.q)
    | fail)
   exact bodyPost_ret (v := .agg #[.int .i64 4, .string tx0, .int .i64 0, .slice (some ⟨v2.heap.size, 0, none⟩) 1 1]) (by simp [results, Tryz.results113, go_sem, f0, f1, f2, f3]) rfl (ex_done hS (x := over1 4 x1) rfl k6 (fun k a => a.1) (fun a => a.2 rfl) rfl e0.out _ _ _ _)
 ·rw [if_neg (show ¬ isTx (t :: us) tMi = true by show ¬ decide (t.2.1 = tMi) = true; rw [decide_eq_true_iff]; exact c)] at hR
  by_cases c2 : t.2.1 = tNo
  ·rw [if_pos (show isTx (t :: us) tNo = true from decide_eq_true c2)] at hR
   replace hR : ((sP n o us d).thn fun e ts d => .ok (over1 20 e) ts d) = R := hR
   have zu := want_tail z c2 tNo_ne
   have ou : o + us.length ≤ 1000000 := by simp at oM; omega
   have c' : Hid (t.2.1 = tNo) := c2
   clear c2
   cases hr : sP n o us d with
   | more =>
    rw [Rs.thn_more hr] at hR
    exact absurd hR.symm nm
   | bad pl =>
    rw [Rs.thn_bad hr] at hR
    have kX := ihS o us d zu o0 ou (by rw [hr]; simp) b B
    rw [hr] at kX
    have e0 : Hid (R = .bad pl) := hR.symm
    clear hR hr nm z ihS ihG oM
    have hlt := h.lt
    have hltB := h.ltB hne
    go_enter Tryz.func113, Tryz.ntmps113
    go_upto_region 1 with fail
    obtain ⟨W, hW⟩ : ∃ W, w.alloc (.cells #[.int .i64 0, .string ⟨#[]⟩, .int .i64 0, .slice none 0 0] 85) = W := ⟨_, rfl⟩
    obtain ⟨p, hp⟩ : ∃ p, w.heap.size = p := ⟨_, rfl⟩
    have hS : Sit b B p w W (t :: us) o d := by
     have gW : Below w.heap.size w W := by rw [← hW]; exact pb_new (Below.refl _ _) _
     refine ⟨(Onl.refl b w).below gW, ?_, h.bel hne gW, hO0.bel gW, Nat.le_of_eq hp, by omega, by omega, hG, hlt⟩
     rw [← hW, ← hp]; exact World.alloc_heap_new w _
    rw [hW]
    (try rw [hp])
    clear hW h hO0 hp hlt hltB
    have kw := fun V hP => pskip_yes b B t us o d zu.ne V hP
    rw [c'.out] at kw
    go_wp2_with (first
     | (go_at_call 78; (with_reducible refine (pskip_no b B t us o d tMi c _ hS.P).mono ?_); rintro e v9 ⟨rfl, g9⟩; replace hS := hS.bel hne g9)
     | (go_at_call 78; (with_reducible refine (kw _ hS.P).mono ?_); rintro e v1 ⟨rfl, hP1, on1⟩; replace hS := hS.onl on1 hP1)
     | (go_at_call 113; (refine (kX _ hS.O hS.hG hS.P).mono ?_); rintro e v2 ⟨on2, rfl⟩; replace hS := hS.on.trans on2)
     | fail)
    refine ⟨rfl, ?_⟩
    rw [e0.out]
    exact ⟨hS, rfl⟩
   | ok x1 us1 d1 =>
    rw [Rs.thn_ok hr] at hR
    have kX := ihS o us d zu o0 ou (by rw [hr]; simp) b B
    have z1 : Tz us1 := by have := (ex_sat n).2.2.1 o us d zu; rw [hr] at this; exact this.1
    have ne1 := z1.ne
    rw [hr] at kX
    have e0 : Hid (R = .ok (over1 20 x1) us1 d1) := hR.symm
    clear hR hr nm z ihS ihG oM
    have hlt := h.lt
    have hltB := h.ltB hne
    go_enter Tryz.func113, Tryz.ntmps113
    go_upto_region 1 with fail
    obtain ⟨W, hW⟩ : ∃ W, w.alloc (.cells #[.int .i64 0, .string ⟨#[]⟩, .int .i64 0, .slice none 0 0] 85) = W := ⟨_, rfl⟩
    obtain ⟨p, hp⟩ : ∃ p, w.heap.size = p := ⟨_, rfl⟩
    have hS : Sit b B p w W (t :: us) o d := by
     have gW : Below w.heap.size w W := by rw [← hW]; exact pb_new (Below.refl _ _) _
     refine ⟨(Onl.refl b w).below gW, ?_, h.bel hne gW, hO0.bel gW, Nat.le_of_eq hp, by omega, by omega, hG, hlt⟩
     rw [← hW, ← hp]; exact World.alloc_heap_new w _
    rw [hW]
    (try rw [hp])
    clear hW h hO0 hp hlt hltB
    have kw := fun V hP => pskip_yes b B t us o d zu.ne V hP
    rw [c'.out] at kw
    go_wp2_with (first
     | (go_at_call 78; (with_reducible refine (pskip_no b B t us o d tMi c _ hS.P).mono ?_); rintro e v9 ⟨rfl, g9⟩; replace hS := hS.bel hne g9)
     | (go_at_call 78; (with_reducible refine (kw _ hS.P).mono ?_); rintro e v1 ⟨rfl, hP1, on1⟩; replace hS := hS.onl on1 hP1)
     | (go_at_call 113; (refine (kX _ hS.O hS.hG hS.P).mono ?_); rintro e v2 ⟨on2, pp2, qq2, rfl, k2, hP2⟩; replace k2 := k2.lo (lo' := (fun k => w.heap.size ≤ k ∧ k ≠ p)) (hS.fr); replace hS := hS.onl on2 hP2)
     | (go_at_call 111; (refine (pover _ _ _ ⟨_, _, _, rfl⟩).mono ?_); rintro e v7 ⟨rfl, g7⟩; have k6 := slf_new (q := 1) k2 rfl (hS.fr _ (Nat.le_refl _)); replace k6 := k6.kp (Below.kp g7 _); replace hS := (hS.new ne1 (.cells #[.int .i64 x1.op, .string x1.tx, .int .i64 x1.ty, .slice pp2 x1.ks.len qq2] 85)).bel ne1 g7; obtain ⟨f0, f1, f2, f3, ff⟩ := ex_cells hS.q)
     | fail)
    exact bodyPost_ret (v := .agg #[.int .i64 20, .string tx0, .int .i64 0, .slice (some ⟨v2.heap.size, 0, none⟩) 1 1]) (by simp [results, Tryz.results113, go_sem, f0, f1, f2, f3]) rfl (ex_done hS (x := over1 20 x1) rfl k6 (fun k a => a.1) (fun a => a.2 rfl) rfl e0.out _ _ _ _)
  ·rw [if_neg (show ¬ isTx (t :: us) tNo = true by show ¬ decide (t.2.1 = tNo) = true; rw [decide_eq_true_iff]; exact c2)] at hR
   cases hr : gP n o (t :: us) d with
   | more =>
    rw [hr] at hR
    exact absurd hR.symm nm
   | bad pl =>
    rw [hr] at hR
    have kX := ihG o (t :: us) d z o0 oM (by rw [hr]; simp) b B
    rw [hr] at kX
    have e0 : Hid (R = .bad pl) := hR.symm
    clear hR hr nm z ihS ihG oM
    have hlt := h.lt
    have hltB := h.ltB hne
    go_enter Tryz.func113, Tryz.ntmps113
    go_upto_region 1 with fail
    obtain ⟨W, hW⟩ : ∃ W, w.alloc (.cells #[.int .i64 0, .string ⟨#[]⟩, .int .i64 0, .slice none 0 0] 85) = W := ⟨_, rfl⟩
    obtain ⟨p, hp⟩ : ∃ p, w.heap.size = p := ⟨_, rfl⟩
    have hS : Sit b B p w W (t :: us) o d := by
     have gW : Below w.heap.size w W := by rw [← hW]; exact pb_new (Below.refl _ _) _
     refine ⟨(Onl.refl b w).below gW, ?_, h.bel hne gW, hO0.bel gW, Nat.le_of_eq hp, by omega, by omega, hG, hlt⟩
     rw [← hW, ← hp]; exact World.alloc_heap_new w _
    rw [hW]
    (try rw [hp])
    clear hW h hO0 hp hlt hltB
    go_wp2_with (first
     | (go_at_call 78; (with_reducible refine (pskip_no b B t us o d tMi c _ hS.P).mono ?_); rintro e v1 ⟨rfl, g1⟩; replace hS := hS.bel hne g1)
     | (go_at_call 78; (with_reducible refine (pskip_no b B t us o d tNo c2 _ hS.P).mono ?_); rintro e v3 ⟨rfl, g3⟩; replace hS := hS.bel hne g3)
     | (go_at_call 127; (refine (kX _ hS.O hS.hG hS.P).mono ?_); rintro e v2 ⟨on2, rfl⟩; replace hS := hS.on.trans on2)
     | fail)
    refine ⟨rfl, ?_⟩
    rw [e0.out]
    exact ⟨hS, rfl⟩
   | ok x1 us1 d1 =>
    rw [hr] at hR
    have kX := ihG o (t :: us) d z o0 oM (by rw [hr]; simp) b B
    have z1 : Tz us1 := by have := (ex_sat n).2.2.2.1 o (t :: us) d z; rw [hr] at this; exact this.1
    have ne1 := z1.ne
    rw [hr] at kX
    have e0 : Hid (R = .ok x1 us1 d1) := hR.symm
    clear hR hr nm z ihS ihG oM
    have hlt := h.lt
    have hltB := h.ltB hne
    go_enter Tryz.func113, Tryz.ntmps113
    go_upto_region 1 with fail
    obtain ⟨W, hW⟩ : ∃ W, w.alloc (.cells #[.int .i64 0, .string ⟨#[]⟩, .int .i64 0, .slice none 0 0] 85) = W := ⟨_, rfl⟩
    obtain ⟨p, hp⟩ : ∃ p, w.heap.size = p := ⟨_, rfl⟩
    have hS : Sit b B p w W (t :: us) o d := by
     have gW : Below w.heap.size w W := by rw [← hW]; exact pb_new (Below.refl _ _) _
     refine ⟨(Onl.refl b w).below gW, ?_, h.bel hne gW, hO0.bel gW, Nat.le_of_eq hp, by omega, by omega, hG, hlt⟩
     rw [← hW, ← hp]; exact World.alloc_heap_new w _
    rw [hW]
    (try rw [hp])
    clear hW h hO0 hp hlt hltB
    go_wp2_with (first
     | (go_at_call 78; (with_reducible refine (pskip_no b B t us o d tMi c _ hS.P).mono ?_); rintro e v1 ⟨rfl, g1⟩; replace hS := hS.bel hne g1)
     | (go_at_call 78; (with_reducible refine (pskip_no b B t us o d tNo c2 _ hS.P).mono ?_); rintro e v3 ⟨rfl, g3⟩; replace hS := hS.bel hne g3)
     | (go_at_call 127; (refine (kX _ hS.O hS.hG hS.P).mono ?_); rintro e v2 ⟨on2, pp2, qq2, rfl, k2, hP2⟩; replace k2 := k2.lo (lo' := (fun k => w.heap.size ≤ k ∧ k ≠ p)) (hS.fr); replace hS := hS.onl on2 hP2; obtain ⟨f0, f1, f2, f3, ff⟩ := ex_cells hS.q)
     | fail)
    exact bodyPost_ret (v := .agg #[.int .i64 x1.op, .string x1.tx, .int .i64 x1.ty, .slice pp2 x1.ks.len qq2]) (by simp [results, Tryz.results113, go_sem, f0, f1, f2, f3]) rfl (ex_done hS (x := x1) rfl k2 (fun k a => a.1) (fun a => a.2 rfl) rfl e0.out _ _ _ _)
end Go.Proofs.YtknoibocpbfmmaaGreatDoor


