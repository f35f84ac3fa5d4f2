/- strongest. -/
import Derived.Test.YtknoibocpbfmmaaGreatDoorWG8
namespace Go.Proofs.YtknoibocpbfmmaaGreatDoor
open Go.RowKit
set_option linter.unusedVariables false
set_option linter.unusedSimpArgs false
set_option maxRecDepth 100000 in
set_option maxHeartbeats 1600000 in
theorem step_G (n : Nat) (ihI : SpI n) (ihV : SpV n) : SpG (n + 1) := by
 intro o ts d z o0 oM nm b B w hO0 hG h
 obtain ⟨t, us, rfl⟩ := z.cons
 have hne : t :: us ≠ [] := by simp
 obtain ⟨R, hR⟩ : ∃ R, gP (n + 1) o (t :: us) d = R := ⟨_, rfl⟩
 rw [hR]
 rw [hR] at nm
 rw [gP] at hR
 by_cases ty : tyOf t.2.1 ≠ 0
 ·rw [if_pos (show tyOf (hd (t :: us)).2.1 ≠ 0 from ty)] at hR
  obtain ⟨T, hT⟩ : ∃ T, tyOf t.2.1 = T := ⟨_, rfl⟩
  have tyT : Hid (tyOf t.2.1 = T) := hT
  have tn0 : ¬ T = 0 := by rw [← hT]; exact ty
  by_cases c : t.1 = 2
  ·rw [if_pos (show (hd (t :: us)).1 = 2 from c)] at hR
   replace hR : ((iP n o us d).thn fun e us d => .ok ⟨7, tx0, T, e.row .nil⟩ us d) = R := by rw [← hT]; exact hR
   have zu := kind_tl z (by omega)
   have hk : t.1 ∈ [2] := by simp; exact c
   have ou : o + us.length ≤ 1000000 := by simp at oM; omega
   clear hT ty
   cases hr : iP n o us d with
   | more =>
    rw [Rs.thn_more hr] at hR
    exact absurd hR.symm nm
   | bad pl =>
    rw [Rs.thn_bad hr] at hR
    have kX := ihI o us d zu o0 ou (by rw [hr]; simp) b B
    rw [hr] at kX
    have e0 : Hid (R = .bad pl) := hR.symm
    clear hR hr nm z ihI ihV oM
    have hlt := h.lt
    have hltB := h.ltB hne
    go_enter Tryz.func127, Tryz.ntmps127
    go_upto_region 1 with fail
    obtain ⟨W, hW⟩ : ∃ W, w.alloc (.cells #[.int .i64 0, .string ⟨#[]⟩, .int .i64 0, .slice none 0 0] 85) = W := ⟨_, rfl⟩
    obtain ⟨p, hp⟩ : ∃ p, w.heap.size = p := ⟨_, rfl⟩
    have hS : Sit b B p w W (t :: us) o d := by
     have gW : Below w.heap.size w W := by rw [← hW]; exact pb_new (Below.refl _ _) _
     refine ⟨(Onl.refl b w).below gW, ?_, h.bel hne gW, hO0.bel gW, Nat.le_of_eq hp, by omega, by omega, hG, hlt⟩
     rw [← hW, ← hp]; exact World.alloc_heap_new w _
    rw [hW]
    (try rw [hp])
    clear hW h hO0 hp hlt hltB
    have lf0 := lxf0
    have lf1 := lxf1
    have lf2 := lxf2
    have kt : ∀ V, Calls Tryz.prog 59 #[.string t.2.1] V fun e w' => e = .returned (.int .i64 T) ∧ w' = V := fun V => by have := ptype t.2.1 V; rw [tyT.out] at this; exact this
    have tn : ¬ T = 0 := tn0
    go_wp2_with (first
     | (go_at_call 60; (with_reducible refine (pnext b B t us o d _ hS.P).mono ?_); rintro e v90 ⟨rfl, g90⟩; replace hS := hS.bel hne g90; clear g90)
     | (go_at_call 59; (with_reducible refine (kt _).mono ?_); rintro e v ⟨rfl, rfl⟩)
     | (go_at_call 77; (refine (ptake_yes b B _ 1 1 t us o d zu.ne [2] rfl (by omega) hk _ (ks1 2 rfl) (hS.new hne _).P).mono ?_); rintro e v1 ⟨rfl, hP1, on1⟩; replace hS := (hS.new hne _).onl on1 hP1)
     | (go_at_call 133; (refine (kX _ hS.O hS.hG hS.P).mono ?_); rintro e v2 ⟨on2, rfl⟩; replace hS := hS.on.trans on2)
     | fail)
    refine ⟨rfl, ?_⟩
    rw [e0.out]
    exact ⟨hS, rfl⟩
   | ok x1 us1 d1 =>
    rw [Rs.thn_ok hr] at hR
    have kX := ihI o us d zu o0 ou (by rw [hr]; simp) b B
    have z1 : Tz us1 := by have := (ex_sat n).2.2.2.2.2.1 o us d zu; rw [hr] at this; exact this.1
    have ne1 := z1.ne
    rw [hr] at kX
    have e0 : Hid (R = .ok ⟨7, tx0, T, x1.row .nil⟩ us1 d1) := hR.symm
    clear hR hr nm z ihI ihV oM
    have hlt := h.lt
    have hltB := h.ltB hne
    go_enter Tryz.func127, Tryz.ntmps127
    go_upto_region 1 with fail
    obtain ⟨W, hW⟩ : ∃ W, w.alloc (.cells #[.int .i64 0, .string ⟨#[]⟩, .int .i64 0, .slice none 0 0] 85) = W := ⟨_, rfl⟩
    obtain ⟨p, hp⟩ : ∃ p, w.heap.size = p := ⟨_, rfl⟩
    have hS : Sit b B p w W (t :: us) o d := by
     have gW : Below w.heap.size w W := by rw [← hW]; exact pb_new (Below.refl _ _) _
     refine ⟨(Onl.refl b w).below gW, ?_, h.bel hne gW, hO0.bel gW, Nat.le_of_eq hp, by omega, by omega, hG, hlt⟩
     rw [← hW, ← hp]; exact World.alloc_heap_new w _
    rw [hW]
    (try rw [hp])
    clear hW h hO0 hp hlt hltB
    have lf0 := lxf0
    have lf1 := lxf1
    have lf2 := lxf2
    have kt : ∀ V, Calls Tryz.prog 59 #[.string t.2.1] V fun e w' => e = .returned (.int .i64 T) ∧ w' = V := fun V => by have := ptype t.2.1 V; rw [tyT.out] at this; exact this
    have tn : ¬ T = 0 := tn0
    go_wp2_with (first
     | (go_at_call 60; (with_reducible refine (pnext b B t us o d _ hS.P).mono ?_); rintro e v90 ⟨rfl, g90⟩; replace hS := hS.bel hne g90; clear g90)
     | (go_at_call 59; (with_reducible refine (kt _).mono ?_); rintro e v ⟨rfl, rfl⟩)
     | (go_at_call 77; (refine (ptake_yes b B _ 1 1 t us o d zu.ne [2] rfl (by omega) hk _ (ks1 2 rfl) (hS.new hne _).P).mono ?_); rintro e v1 ⟨rfl, hP1, on1⟩; replace hS := (hS.new hne _).onl on1 hP1)
     | (go_at_call 133; (refine (kX _ hS.O hS.hG hS.P).mono ?_); rintro e v2 ⟨on2, pp2, qq2, rfl, k2, hP2⟩; replace k2 := k2.lo (lo' := (fun k => w.heap.size ≤ k ∧ k ≠ p)) (hS.fr); replace hS := hS.onl on2 hP2; obtain ⟨f0, f1, f2, f3, ff⟩ := ex_cells hS.q; have zl := hS.pl; have zne : p ≠ _ := Nat.ne_of_lt zl)
     | fail)
    have k6 := slf_new (q := 1) k2 rfl (hS.fr _ (Nat.le_refl _))
    exact bodyPost_ret (v := .agg #[.int .i64 7, .string tx0, .int .i64 T, .slice (some ⟨v2.heap.size, 0, none⟩) 1 1]) (by simp [results, Tryz.results127, go_sem, f0, f1, f2, f3, zl, zne]) rfl (ex_done2 hS ne1 (.cells #[.int .i64 x1.op, .string x1.tx, .int .i64 x1.ty, .slice pp2 x1.ks.len qq2] 85) (x := ⟨7, tx0, T, x1.row .nil⟩) rfl k6 (fun k a => a.1) (fun a => a.2 rfl) rfl e0.out _ _ _ _)
  ·rw [if_neg (show ¬ (hd (t :: us)).1 = 2 from c)] at hR
   have e0 : Hid (R = .bad t.2.2) := hR.symm
   have hk : t.1 ∉ [2] := by simp; exact c
   clear hR nm z ihI ihV oM hT ty
   have hlt := h.lt
   have hltB := h.ltB hne
   go_enter Tryz.func127, Tryz.ntmps127
   go_upto_region 1 with fail
   obtain ⟨W, hW⟩ : ∃ W, w.alloc (.cells #[.int .i64 0, .string ⟨#[]⟩, .int .i64 0, .slice none 0 0] 85) = W := ⟨_, rfl⟩
   obtain ⟨p, hp⟩ : ∃ p, w.heap.size = p := ⟨_, rfl⟩
   have hS : Sit b B p w W (t :: us) o d := by
    have gW : Below w.heap.size w W := by rw [← hW]; exact pb_new (Below.refl _ _) _
    refine ⟨(Onl.refl b w).below gW, ?_, h.bel hne gW, hO0.bel gW, Nat.le_of_eq hp, by omega, by omega, hG, hlt⟩
    rw [← hW, ← hp]; exact World.alloc_heap_new w _
   rw [hW]
   (try rw [hp])
   clear hW h hO0 hp hlt hltB
   have lf0 := lxf0
   have lf1 := lxf1
   have lf2 := lxf2
   have kt : ∀ V, Calls Tryz.prog 59 #[.string t.2.1] V fun e w' => e = .returned (.int .i64 T) ∧ w' = V := fun V => by have := ptype t.2.1 V; rw [tyT.out] at this; exact this
   go_wp2_with (first
    | (go_at_call 60; (with_reducible refine (pnext b B t us o d _ hS.P).mono ?_); rintro e v90 ⟨rfl, g90⟩; replace hS := hS.bel hne g90; clear g90)
    | (go_at_call 59; (with_reducible refine (kt _).mono ?_); rintro e v ⟨rfl, rfl⟩)
    | (go_at_call 77; (refine (ptake_no b B _ 1 1 t us o d [2] rfl (by omega) hk _ (ks1 2 rfl) (hS.new hne _).P).mono ?_); rintro e v1 ⟨rfl, g1⟩; replace hS := ((hS.new hne _).bel hne g1).on)
    | fail)
   refine ⟨rfl, ?_⟩
   rw [e0.out]
   exact ⟨hS, rfl⟩
 have ty' : tyOf t.2.1 = 0 := by
  by_cases q : tyOf t.2.1 = 0
  ·exact q
  ·exact absurd q ty
 rw [if_neg (show ¬ tyOf (hd (t :: us)).2.1 ≠ 0 from ty)] at hR
 have ty0 : Hid (tyOf t.2.1 = 0) := ty'
 clear ty ty'
 by_cases c : t.1 = 1
 ·rw [if_pos (show (hd (t :: us)).1 = 1 from c)] at hR
  cases hr : vP n o (t :: us) d with
  | more =>
   rw [hr] at hR
   exact absurd hR.symm nm
  | bad pl =>
   rw [hr] at hR
   have kX := ihV o (t :: us) d z o0 oM (by rw [hr]; simp) b B
   rw [hr] at kX
   have e0 : Hid (R = .bad pl) := hR.symm
   clear hR hr nm z ihI ihV oM
   have hlt := h.lt
   have hltB := h.ltB hne
   go_enter Tryz.func127, Tryz.ntmps127
   go_upto_region 1 with fail
   obtain ⟨W, hW⟩ : ∃ W, w.alloc (.cells #[.int .i64 0, .string ⟨#[]⟩, .int .i64 0, .slice none 0 0] 85) = W := ⟨_, rfl⟩
   obtain ⟨p, hp⟩ : ∃ p, w.heap.size = p := ⟨_, rfl⟩
   have hS : Sit b B p w W (t :: us) o d := by
    have gW : Below w.heap.size w W := by rw [← hW]; exact pb_new (Below.refl _ _) _
    refine ⟨(Onl.refl b w).below gW, ?_, h.bel hne gW, hO0.bel gW, Nat.le_of_eq hp, by omega, by omega, hG, hlt⟩
    rw [← hW, ← hp]; exact World.alloc_heap_new w _
   rw [hW]
   (try rw [hp])
   clear hW h hO0 hp hlt hltB
   have lf0 := lxf0
   have lf1 := lxf1
   have lf2 := lxf2
   have kt : ∀ V, Calls Tryz.prog 59 #[.string t.2.1] V fun e w' => e = .returned (.int .i64 0) ∧ w' = V := fun V => by have := ptype t.2.1 V; rw [ty0.out] at this; exact this
   have hk0 : ((t.1 : Int) == 1) = true := by rw [c]; rfl
   go_wp2_with (first
    | (go_at_call 60; (with_reducible refine (pnext b B t us o d _ hS.P).mono ?_); rintro e v90 ⟨rfl, g90⟩; replace hS := hS.bel hne g90; clear g90)
    | (go_at_call 59; (with_reducible refine (kt _).mono ?_); rintro e v ⟨rfl, rfl⟩)
    | (go_at_call 134; (refine (kX _ hS.O hS.hG hS.P).mono ?_); rintro e v2 ⟨on2, rfl⟩; replace hS := hS.on.trans on2)
    | fail)
   refine ⟨rfl, ?_⟩
   rw [e0.out]
   exact ⟨hS, rfl⟩
  | ok x1 us1 d1 =>
   rw [hr] at hR
   have kX := ihV o (t :: us) d z o0 oM (by rw [hr]; simp) b B
   have z1 : Tz us1 := by have := (ex_sat n).2.2.2.2.1 o (t :: us) d z; rw [hr] at this; exact this.1
   have ne1 := z1.ne
   rw [hr] at kX
   have e0 : Hid (R = .ok x1 us1 d1) := hR.symm
   clear hR hr nm z ihI ihV oM
   have hlt := h.lt
   have hltB := h.ltB hne
   go_enter Tryz.func127, Tryz.ntmps127
   go_upto_region 1 with fail
   obtain ⟨W, hW⟩ : ∃ W, w.alloc (.cells #[.int .i64 0, .string ⟨#[]⟩, .int .i64 0, .slice none 0 0] 85) = W := ⟨_, rfl⟩
   obtain ⟨p, hp⟩ : ∃ p, w.heap.size = p := ⟨_, rfl⟩
   have hS : Sit b B p w W (t :: us) o d := by
    have gW : Below w.heap.size w W := by rw [← hW]; exact pb_new (Below.refl _ _) _
    refine ⟨(Onl.refl b w).below gW, ?_, h.bel hne gW, hO0.bel gW, Nat.le_of_eq hp, by omega, by omega, hG, hlt⟩
    rw [← hW, ← hp]; exact World.alloc_heap_new w _
   rw [hW]
   (try rw [hp])
   clear hW h hO0 hp hlt hltB
   have lf0 := lxf0
   have lf1 := lxf1
   have lf2 := lxf2
   have kt : ∀ V, Calls Tryz.prog 59 #[.string t.2.1] V fun e w' => e = .returned (.int .i64 0) ∧ w' = V := fun V => by have := ptype t.2.1 V; rw [ty0.out] at this; exact this
   have hk0 : ((t.1 : Int) == 1) = true := by rw [c]; rfl
   go_wp2_with (first
    | (go_at_call 60; (with_reducible refine (pnext b B t us o d _ hS.P).mono ?_); rintro e v90 ⟨rfl, g90⟩; replace hS := hS.bel hne g90; clear g90)
    | (go_at_call 59; (with_reducible refine (kt _).mono ?_); rintro e v ⟨rfl, rfl⟩)
    | (go_at_call 134; (refine (kX _ hS.O hS.hG hS.P).mono ?_); rintro e v2 ⟨on2, pp2, qq2, rfl, k2, hP2⟩; replace k2 := k2.lo (lo' := (fun k => w.heap.size ≤ k ∧ k ≠ p)) (hS.fr); replace hS := hS.onl on2 hP2; obtain ⟨f0, f1, f2, f3, ff⟩ := ex_cells hS.q)
    | fail)
   exact bodyPost_ret (v := .agg #[.int .i64 x1.op, .string x1.tx, .int .i64 x1.ty, .slice pp2 x1.ks.len qq2]) (by simp [results, Tryz.results127, go_sem, f0, f1, f2, f3]) rfl (ex_done hS (x := x1) rfl k2 (fun k a => a.1) (fun a => a.2 rfl) rfl e0.out _ _ _ _)
 rw [if_neg (show ¬ (hd (t :: us)).1 = 1 from c)] at hR
 by_cases c2 : t.2.1 = tSq
 ·rw [if_pos (show isTx (t :: us) tSq = true from decide_eq_true c2)] at hR
  replace hR : ((iP n o us d).thn fun e ts d => .ok (over1 6 e) ts d) = R := hR
  have zu := want_tail z c2 tSq_ne
  have ou : o + us.length ≤ 1000000 := by simp at oM; omega
  have c' : Hid (t.2.1 = tSq) := c2
  clear c2
  cases hr : iP n o us d with
  | more =>
   rw [Rs.thn_more hr] at hR
   exact absurd hR.symm nm
  | bad pl =>
   rw [Rs.thn_bad hr] at hR
   have kX := ihI o us d zu o0 ou (by rw [hr]; simp) b B
   rw [hr] at kX
   have e0 : Hid (R = .bad pl) := hR.symm
   clear hR hr nm z ihI ihV oM
   have hlt := h.lt
   have hltB := h.ltB hne
   go_enter Tryz.func127, Tryz.ntmps127
   go_upto_region 1 with fail
   obtain ⟨W, hW⟩ : ∃ W, w.alloc (.cells #[.int .i64 0, .string ⟨#[]⟩, .int .i64 0, .slice none 0 0] 85) = W := ⟨_, rfl⟩
   obtain ⟨p, hp⟩ : ∃ p, w.heap.size = p := ⟨_, rfl⟩
   have hS : Sit b B p w W (t :: us) o d := by
    have gW : Below w.heap.size w W := by rw [← hW]; exact pb_new (Below.refl _ _) _
    refine ⟨(Onl.refl b w).below gW, ?_, h.bel hne gW, hO0.bel gW, Nat.le_of_eq hp, by omega, by omega, hG, hlt⟩
    rw [← hW, ← hp]; exact World.alloc_heap_new w _
   rw [hW]
   (try rw [hp])
   clear hW h hO0 hp hlt hltB
   have lf0 := lxf0
   have lf1 := lxf1
   have lf2 := lxf2
   have kt : ∀ V, Calls Tryz.prog 59 #[.string t.2.1] V fun e w' => e = .returned (.int .i64 0) ∧ w' = V := fun V => by have := ptype t.2.1 V; rw [ty0.out] at this; exact this
   have hk0 : ((t.1 : Int) == 1) = false := by rw [beq_eq_false_iff_ne]; omega
   have kw := fun V hP => pskip_yes b B t us o d zu.ne V hP
   rw [c'.out] at kw
   go_wp2_with (first
    | (go_at_call 60; (with_reducible refine (pnext b B t us o d _ hS.P).mono ?_); rintro e v90 ⟨rfl, g90⟩; replace hS := hS.bel hne g90; clear g90)
    | (go_at_call 59; (with_reducible refine (kt _).mono ?_); rintro e v ⟨rfl, rfl⟩)
    | (go_at_call 78; (with_reducible refine (kw _ hS.P).mono ?_); rintro e v1 ⟨rfl, hP1, on1⟩; replace hS := hS.onl on1 hP1)
    | (go_at_call 133; (refine (kX _ hS.O hS.hG hS.P).mono ?_); rintro e v2 ⟨on2, rfl⟩; replace hS := hS.on.trans on2)
    | fail)
   refine ⟨rfl, ?_⟩
   rw [e0.out]
   exact ⟨hS, rfl⟩
  | ok x1 us1 d1 =>
   rw [Rs.thn_ok hr] at hR
   have kX := ihI o us d zu o0 ou (by rw [hr]; simp) b B
   have z1 : Tz us1 := by have := (ex_sat n).2.2.2.2.2.1 o us d zu; rw [hr] at this; exact this.1
   have ne1 := z1.ne
   rw [hr] at kX
   have e0 : Hid (R = .ok (over1 6 x1) us1 d1) := hR.symm
   clear hR hr nm z ihI ihV oM
   have hlt := h.lt
   have hltB := h.ltB hne
   go_enter Tryz.func127, Tryz.ntmps127
   go_upto_region 1 with fail
   obtain ⟨W, hW⟩ : ∃ W, w.alloc (.cells #[.int .i64 0, .string ⟨#[]⟩, .int .i64 0, .slice none 0 0] 85) = W := ⟨_, rfl⟩
   obtain ⟨p, hp⟩ : ∃ p, w.heap.size = p := ⟨_, rfl⟩
   have hS : Sit b B p w W (t :: us) o d := by
    have gW : Below w.heap.size w W := by rw [← hW]; exact pb_new (Below.refl _ _) _
    refine ⟨(Onl.refl b w).below gW, ?_, h.bel hne gW, hO0.bel gW, Nat.le_of_eq hp, by omega, by omega, hG, hlt⟩
    rw [← hW, ← hp]; exact World.alloc_heap_new w _
   rw [hW]
   (try rw [hp])
   clear hW h hO0 hp hlt hltB
   have lf0 := lxf0
   have lf1 := lxf1
   have lf2 := lxf2
   have kt : ∀ V, Calls Tryz.prog 59 #[.string t.2.1] V fun e w' => e = .returned (.int .i64 0) ∧ w' = V := fun V => by have := ptype t.2.1 V; rw [ty0.out] at this; exact this
   have hk0 : ((t.1 : Int) == 1) = false := by rw [beq_eq_false_iff_ne]; omega
   have kw := fun V hP => pskip_yes b B t us o d zu.ne V hP
   rw [c'.out] at kw
   go_wp2_with (first
    | (go_at_call 60; (with_reducible refine (pnext b B t us o d _ hS.P).mono ?_); rintro e v90 ⟨rfl, g90⟩; replace hS := hS.bel hne g90; clear g90)
    | (go_at_call 59; (with_reducible refine (kt _).mono ?_); rintro e v ⟨rfl, rfl⟩)
    | (go_at_call 78; (with_reducible refine (kw _ hS.P).mono ?_); rintro e v1 ⟨rfl, hP1, on1⟩; replace hS := hS.onl on1 hP1)
    | (go_at_call 133; (refine (kX _ hS.O hS.hG hS.P).mono ?_); rintro e v2 ⟨on2, pp2, qq2, rfl, k2, hP2⟩; replace k2 := k2.lo (lo' := (fun k => w.heap.size ≤ k ∧ k ≠ p)) (hS.fr); replace hS := hS.onl on2 hP2)
    | (go_at_call 111; (refine (pover _ _ _ ⟨_, _, _, rfl⟩).mono ?_); rintro e v7 ⟨rfl, g7⟩; have k6 := slf_new (q := 1) k2 rfl (hS.fr _ (Nat.le_refl _)); replace k6 := k6.kp (Below.kp g7 _); replace hS := (hS.new ne1 (.cells #[.int .i64 x1.op, .string x1.tx, .int .i64 x1.ty, .slice pp2 x1.ks.len qq2] 85)).bel ne1 g7; obtain ⟨f0, f1, f2, f3, ff⟩ := ex_cells hS.q)
    | fail)
   exact bodyPost_ret (v := .agg #[.int .i64 6, .string tx0, .int .i64 0, .slice (some ⟨v2.heap.size, 0, none⟩) 1 1]) (by simp [results, Tryz.results127, go_sem, f0, f1, f2, f3]) rfl (ex_done hS (x := over1 6 x1) rfl k6 (fun k a => a.1) (fun a => a.2 rfl) rfl e0.out _ _ _ _)
 rw [if_neg (show ¬ isTx (t :: us) tSq = true by show ¬ decide (t.2.1 = tSq) = true; rw [decide_eq_true_iff]; exact c2)] at hR
 by_cases c3 : t.2.1 = tAb
 ·rw [if_pos (show isTx (t :: us) tAb = true from decide_eq_true c3)] at hR
  replace hR : ((iP n o us d).thn fun e ts d => .ok (over1 5 e) ts d) = R := hR
  have zu := want_tail z c3 tAb_ne
  have ou : o + us.length ≤ 1000000 := by simp at oM; omega
  have c' : Hid (t.2.1 = tAb) := c3
  clear c3
  cases hr : iP n o us d with
  | more =>
   rw [Rs.thn_more hr] at hR
   exact absurd hR.symm nm
  | bad pl =>
   rw [Rs.thn_bad hr] at hR
   have kX := ihI o us d zu o0 ou (by rw [hr]; simp) b B
   rw [hr] at kX
   have e0 : Hid (R = .bad pl) := hR.symm
   clear hR hr nm z ihI ihV oM
   have hlt := h.lt
   have hltB := h.ltB hne
   go_enter Tryz.func127, Tryz.ntmps127
   go_upto_region 1 with fail
   obtain ⟨W, hW⟩ : ∃ W, w.alloc (.cells #[.int .i64 0, .string ⟨#[]⟩, .int .i64 0, .slice none 0 0] 85) = W := ⟨_, rfl⟩
   obtain ⟨p, hp⟩ : ∃ p, w.heap.size = p := ⟨_, rfl⟩
   have hS : Sit b B p w W (t :: us) o d := by
    have gW : Below w.heap.size w W := by rw [← hW]; exact pb_new (Below.refl _ _) _
    refine ⟨(Onl.refl b w).below gW, ?_, h.bel hne gW, hO0.bel gW, Nat.le_of_eq hp, by omega, by omega, hG, hlt⟩
    rw [← hW, ← hp]; exact World.alloc_heap_new w _
   rw [hW]
   (try rw [hp])
   clear hW h hO0 hp hlt hltB
   have lf0 := lxf0
   have lf1 := lxf1
   have lf2 := lxf2
   have kt : ∀ V, Calls Tryz.prog 59 #[.string t.2.1] V fun e w' => e = .returned (.int .i64 0) ∧ w' = V := fun V => by have := ptype t.2.1 V; rw [ty0.out] at this; exact this
   have hk0 : ((t.1 : Int) == 1) = false := by rw [beq_eq_false_iff_ne]; omega
   have kw := fun V hP => pskip_yes b B t us o d zu.ne V hP
   rw [c'.out] at kw
   go_wp2_with (first
    | (go_at_call 60; (with_reducible refine (pnext b B t us o d _ hS.P).mono ?_); rintro e v90 ⟨rfl, g90⟩; replace hS := hS.bel hne g90; clear g90)
    | (go_at_call 59; (with_reducible refine (kt _).mono ?_); rintro e v ⟨rfl, rfl⟩)
    | (go_at_call 78; (with_reducible refine (pskip_no b B t us o d tSq c2 _ hS.P).mono ?_); rintro e v9 ⟨rfl, g9⟩; replace hS := hS.bel hne g9)
    | (go_at_call 78; (with_reducible refine (kw _ hS.P).mono ?_); rintro e v1 ⟨rfl, hP1, on1⟩; replace hS := hS.onl on1 hP1)
    | (go_at_call 133; (refine (kX _ hS.O hS.hG hS.P).mono ?_); rintro e v2 ⟨on2, rfl⟩; replace hS := hS.on.trans on2)
    | fail)
   refine ⟨rfl, ?_⟩
   rw [e0.out]
   exact ⟨hS, rfl⟩
  | ok x1 us1 d1 =>
   rw [Rs.thn_ok hr] at hR
   have kX := ihI o us d zu o0 ou (by rw [hr]; simp) b B
   have z1 : Tz us1 := by have := (ex_sat n).2.2.2.2.2.1 o us d zu; rw [hr] at this; exact this.1
   have ne1 := z1.ne
   rw [hr] at kX
   have e0 : Hid (R = .ok (over1 5 x1) us1 d1) := hR.symm
   clear hR hr nm z ihI ihV oM
   have hlt := h.lt
   have hltB := h.ltB hne
   go_enter Tryz.func127, Tryz.ntmps127
   go_upto_region 1 with fail
   obtain ⟨W, hW⟩ : ∃ W, w.alloc (.cells #[.int .i64 0, .string ⟨#[]⟩, .int .i64 0, .slice none 0 0] 85) = W := ⟨_, rfl⟩
   obtain ⟨p, hp⟩ : ∃ p, w.heap.size = p := ⟨_, rfl⟩
   have hS : Sit b B p w W (t :: us) o d := by
    have gW : Below w.heap.size w W := by rw [← hW]; exact pb_new (Below.refl _ _) _
    refine ⟨(Onl.refl b w).below gW, ?_, h.bel hne gW, hO0.bel gW, Nat.le_of_eq hp, by omega, by omega, hG, hlt⟩
    rw [← hW, ← hp]; exact World.alloc_heap_new w _
   rw [hW]
   (try rw [hp])
   clear hW h hO0 hp hlt hltB
   have lf0 := lxf0
   have lf1 := lxf1
   have lf2 := lxf2
   have kt : ∀ V, Calls Tryz.prog 59 #[.string t.2.1] V fun e w' => e = .returned (.int .i64 0) ∧ w' = V := fun V => by have := ptype t.2.1 V; rw [ty0.out] at this; exact this
   have hk0 : ((t.1 : Int) == 1) = false := by rw [beq_eq_false_iff_ne]; omega
   have kw := fun V hP => pskip_yes b B t us o d zu.ne V hP
   rw [c'.out] at kw
   go_wp2_with (first
    | (go_at_call 60; (with_reducible refine (pnext b B t us o d _ hS.P).mono ?_); rintro e v90 ⟨rfl, g90⟩; replace hS := hS.bel hne g90; clear g90)
    | (go_at_call 59; (with_reducible refine (kt _).mono ?_); rintro e v ⟨rfl, rfl⟩)
    | (go_at_call 78; (with_reducible refine (pskip_no b B t us o d tSq c2 _ hS.P).mono ?_); rintro e v9 ⟨rfl, g9⟩; replace hS := hS.bel hne g9)
    | (go_at_call 78; (with_reducible refine (kw _ hS.P).mono ?_); rintro e v1 ⟨rfl, hP1, on1⟩; replace hS := hS.onl on1 hP1)
    | (go_at_call 133; (refine (kX _ hS.O hS.hG hS.P).mono ?_); rintro e v2 ⟨on2, pp2, qq2, rfl, k2, hP2⟩; replace k2 := k2.lo (lo' := (fun k => w.heap.size ≤ k ∧ k ≠ p)) (hS.fr); replace hS := hS.onl on2 hP2)
    | (go_at_call 111; (refine (pover _ _ _ ⟨_, _, _, rfl⟩).mono ?_); rintro e v7 ⟨rfl, g7⟩; have k6 := slf_new (q := 1) k2 rfl (hS.fr _ (Nat.le_refl _)); replace k6 := k6.kp (Below.kp g7 _); replace hS := (hS.new ne1 (.cells #[.int .i64 x1.op, .string x1.tx, .int .i64 x1.ty, .slice pp2 x1.ks.len qq2] 85)).bel ne1 g7; obtain ⟨f0, f1, f2, f3, ff⟩ := ex_cells hS.q)
    | fail)
   exact bodyPost_ret (v := .agg #[.int .i64 5, .string tx0, .int .i64 0, .slice (some ⟨v2.heap.size, 0, none⟩) 1 1]) (by simp [results, Tryz.results127, go_sem, f0, f1, f2, f3]) rfl (ex_done hS (x := over1 5 x1) rfl k6 (fun k a => a.1) (fun a => a.2 rfl) rfl e0.out _ _ _ _)
 rw [if_neg (show ¬ isTx (t :: us) tAb = true by show ¬ decide (t.2.1 = tAb) = true; rw [decide_eq_true_iff]; exact c3)] at hR
 by_cases c4 : t.2.1 = tLp
 ·rw [if_pos (show isTx (t :: us) tLp = true from decide_eq_true c4)] at hR
  have c4' : Hid (t.2.1 = tLp) := c4
  clear c4
  cases hr : iP n o (t :: us) d with
  | more =>
   rw [hr] at hR
   exact absurd hR.symm nm
  | bad pl =>
   rw [hr] at hR
   have kX := ihI o (t :: us) d z o0 oM (by rw [hr]; simp) b B
   rw [hr] at kX
   have e0 : Hid (R = .bad pl) := hR.symm
   clear hR hr nm z ihI ihV oM
   have hlt := h.lt
   have hltB := h.ltB hne
   go_enter Tryz.func127, Tryz.ntmps127
   go_upto_region 1 with fail
   obtain ⟨W, hW⟩ : ∃ W, w.alloc (.cells #[.int .i64 0, .string ⟨#[]⟩, .int .i64 0, .slice none 0 0] 85) = W := ⟨_, rfl⟩
   obtain ⟨p, hp⟩ : ∃ p, w.heap.size = p := ⟨_, rfl⟩
   have hS : Sit b B p w W (t :: us) o d := by
    have gW : Below w.heap.size w W := by rw [← hW]; exact pb_new (Below.refl _ _) _
    refine ⟨(Onl.refl b w).below gW, ?_, h.bel hne gW, hO0.bel gW, Nat.le_of_eq hp, by omega, by omega, hG, hlt⟩
    rw [← hW, ← hp]; exact World.alloc_heap_new w _
   rw [hW]
   (try rw [hp])
   clear hW h hO0 hp hlt hltB
   have lf0 := lxf0
   have lf1 := lxf1
   have lf2 := lxf2
   have kt : ∀ V, Calls Tryz.prog 59 #[.string t.2.1] V fun e w' => e = .returned (.int .i64 0) ∧ w' = V := fun V => by have := ptype t.2.1 V; rw [ty0.out] at this; exact this
   have hk0 : ((t.1 : Int) == 1) = false := by rw [beq_eq_false_iff_ne]; omega
   have ht2 : (t.2.1.toList == ByteArray.toList ⟨#[40]⟩) = true := by rw [c4'.out]; simp
   have ht : (t.2.1.toList == [40]) = true := by rw [c4'.out]; simp
   go_wp2_with (first
    | (go_at_call 60; (with_reducible refine (pnext b B t us o d _ hS.P).mono ?_); rintro e v90 ⟨rfl, g90⟩; replace hS := hS.bel hne g90; clear g90)
    | (go_at_call 59; (with_reducible refine (kt _).mono ?_); rintro e v ⟨rfl, rfl⟩)
    | (go_at_call 78; (with_reducible refine (pskip_no b B t us o d tSq c2 _ hS.P).mono ?_); rintro e v9 ⟨rfl, g9⟩; replace hS := hS.bel hne g9)
    | (go_at_call 78; (with_reducible refine (pskip_no b B t us o d tAb c3 _ hS.P).mono ?_); rintro e v8 ⟨rfl, g8⟩; replace hS := hS.bel hne g8)
    | (go_at_call 133; (refine (kX _ hS.O hS.hG hS.P).mono ?_); rintro e v2 ⟨on2, rfl⟩; replace hS := hS.on.trans on2)
    | fail)
   refine ⟨rfl, ?_⟩
   rw [e0.out]
   exact ⟨hS, rfl⟩
  | ok x1 us1 d1 =>
   rw [hr] at hR
   have kX := ihI o (t :: us) d z o0 oM (by rw [hr]; simp) b B
   have z1 : Tz us1 := by have := (ex_sat n).2.2.2.2.2.1 o (t :: us) d z; rw [hr] at this; exact this.1
   have ne1 := z1.ne
   rw [hr] at kX
   have e0 : Hid (R = .ok x1 us1 d1) := hR.symm
   clear hR hr nm z ihI ihV oM
   have hlt := h.lt
   have hltB := h.ltB hne
   go_enter Tryz.func127, Tryz.ntmps127
   go_upto_region 1 with fail
   obtain ⟨W, hW⟩ : ∃ W, w.alloc (.cells #[.int .i64 0, .string ⟨#[]⟩, .int .i64 0, .slice none 0 0] 85) = W := ⟨_, rfl⟩
   obtain ⟨p, hp⟩ : ∃ p, w.heap.size = p := ⟨_, rfl⟩
   have hS : Sit b B p w W (t :: us) o d := by
    have gW : Below w.heap.size w W := by rw [← hW]; exact pb_new (Below.refl _ _) _
    refine ⟨(Onl.refl b w).below gW, ?_, h.bel hne gW, hO0.bel gW, Nat.le_of_eq hp, by omega, by omega, hG, hlt⟩
    rw [← hW, ← hp]; exact World.alloc_heap_new w _
   rw [hW]
   (try rw [hp])
   clear hW h hO0 hp hlt hltB
   have lf0 := lxf0
   have lf1 := lxf1
   have lf2 := lxf2
   have kt : ∀ V, Calls Tryz.prog 59 #[.string t.2.1] V fun e w' => e = .returned (.int .i64 0) ∧ w' = V := fun V => by have := ptype t.2.1 V; rw [ty0.out] at this; exact this
   have hk0 : ((t.1 : Int) == 1) = false := by rw [beq_eq_false_iff_ne]; omega
   have ht2 : (t.2.1.toList == ByteArray.toList ⟨#[40]⟩) = true := by rw [c4'.out]; simp
   have ht : (t.2.1.toList == [40]) = true := by rw [c4'.out]; simp
   go_wp2_with (first
    | (go_at_call 60; (with_reducible refine (pnext b B t us o d _ hS.P).mono ?_); rintro e v90 ⟨rfl, g90⟩; replace hS := hS.bel hne g90; clear g90)
    | (go_at_call 59; (with_reducible refine (kt _).mono ?_); rintro e v ⟨rfl, rfl⟩)
    | (go_at_call 78; (with_reducible refine (pskip_no b B t us o d tSq c2 _ hS.P).mono ?_); rintro e v9 ⟨rfl, g9⟩; replace hS := hS.bel hne g9)
    | (go_at_call 78; (with_reducible refine (pskip_no b B t us o d tAb c3 _ hS.P).mono ?_); rintro e v8 ⟨rfl, g8⟩; replace hS := hS.bel hne g8)
    | (go_at_call 133; (refine (kX _ hS.O hS.hG hS.P).mono ?_); rintro e v2 ⟨on2, pp2, qq2, rfl, k2, hP2⟩; replace k2 := k2.lo (lo' := (fun k => w.heap.size ≤ k ∧ k ≠ p)) (hS.fr); replace hS := hS.onl on2 hP2; obtain ⟨f0, f1, f2, f3, ff⟩ := ex_cells hS.q)
    | fail)
   exact bodyPost_ret (v := .agg #[.int .i64 x1.op, .string x1.tx, .int .i64 x1.ty, .slice pp2 x1.ks.len qq2]) (by simp [results, Tryz.results127, go_sem, f0, f1, f2, f3]) rfl (ex_done hS (x := x1) rfl k2 (fun k a => a.1) (fun a => a.2 rfl) rfl e0.out _ _ _ _)
 rw [if_neg (show ¬ isTx (t :: us) tLp = true by show ¬ decide (t.2.1 = tLp) = true; rw [decide_eq_true_iff]; exact c4)] at hR
 have zt := z
 cases hr : numP (t :: us) d with
 | more =>
  rw [hr] at hR
  exact absurd hR.symm nm
 | bad pl =>
  rw [hr] at hR
  have kX := (fun _ b B w hO hG hP => pnumber b B (t :: us) o d zt w hO hG hP : numP (t :: us) d ≠ .more → _) (by rw [hr]; simp) b B
  rw [hr] at kX
  have e0 : Hid (R = .bad pl) := hR.symm
  clear hR hr nm z ihI ihV oM
  have hlt := h.lt
  have hltB := h.ltB hne
  go_enter Tryz.func127, Tryz.ntmps127
  go_upto_region 1 with fail
  obtain ⟨W, hW⟩ : ∃ W, w.alloc (.cells #[.int .i64 0, .string ⟨#[]⟩, .int .i64 0, .slice none 0 0] 85) = W := ⟨_, rfl⟩
  obtain ⟨p, hp⟩ : ∃ p, w.heap.size = p := ⟨_, rfl⟩
  have hS : Sit b B p w W (t :: us) o d := by
   have gW : Below w.heap.size w W := by rw [← hW]; exact pb_new (Below.refl _ _) _
   refine ⟨(Onl.refl b w).below gW, ?_, h.bel hne gW, hO0.bel gW, Nat.le_of_eq hp, by omega, by omega, hG, hlt⟩
   rw [← hW, ← hp]; exact World.alloc_heap_new w _
  rw [hW]
  (try rw [hp])
  clear hW h hO0 hp hlt hltB
  have lf0 := lxf0
  have lf1 := lxf1
  have lf2 := lxf2
  have kt : ∀ V, Calls Tryz.prog 59 #[.string t.2.1] V fun e w' => e = .returned (.int .i64 0) ∧ w' = V := fun V => by have := ptype t.2.1 V; rw [ty0.out] at this; exact this
  have hk0 : ((t.1 : Int) == 1) = false := by rw [beq_eq_false_iff_ne]; omega
  have ht2 := txt_no c4
  have ht : (t.2.1.toList == [40]) = false := by have := ht2; rw [show ByteArray.toList tLp = [40] from by simp] at this; exact this
  go_wp2_with (first
   | (go_at_call 60; (with_reducible refine (pnext b B t us o d _ hS.P).mono ?_); rintro e v90 ⟨rfl, g90⟩; replace hS := hS.bel hne g90; clear g90)
   | (go_at_call 59; (with_reducible refine (kt _).mono ?_); rintro e v ⟨rfl, rfl⟩)
   | (go_at_call 78; (with_reducible refine (pskip_no b B t us o d tSq c2 _ hS.P).mono ?_); rintro e v9 ⟨rfl, g9⟩; replace hS := hS.bel hne g9)
   | (go_at_call 78; (with_reducible refine (pskip_no b B t us o d tAb c3 _ hS.P).mono ?_); rintro e v8 ⟨rfl, g8⟩; replace hS := hS.bel hne g8)
   | (go_at_call 112; (refine (kX _ hS.O hS.hG hS.P).mono ?_); rintro e v2 ⟨on2, rfl⟩; replace hS := hS.on.trans on2)
   | fail)
  refine ⟨rfl, ?_⟩
  rw [e0.out]
  exact ⟨hS, rfl⟩
 | ok x1 us1 d1 =>
  rw [hr] at hR
  have kX := (fun _ b B w hO hG hP => pnumber b B (t :: us) o d zt w hO hG hP : numP (t :: us) d ≠ .more → _) (by rw [hr]; simp) b B
  have z1 : Tz us1 := by have := (numP_sat (t :: us) d False z); rw [hr] at this; exact this.1
  have ne1 := z1.ne
  rw [hr] at kX
  have e0 : Hid (R = .ok x1 us1 d1) := hR.symm
  clear hR hr nm z ihI ihV oM
  have hlt := h.lt
  have hltB := h.ltB hne
  go_enter Tryz.func127, Tryz.ntmps127
  go_upto_region 1 with fail
  obtain ⟨W, hW⟩ : ∃ W, w.alloc (.cells #[.int .i64 0, .string ⟨#[]⟩, .int .i64 0, .slice none 0 0] 85) = W := ⟨_, rfl⟩
  obtain ⟨p, hp⟩ : ∃ p, w.heap.size = p := ⟨_, rfl⟩
  have hS : Sit b B p w W (t :: us) o d := by
   have gW : Below w.heap.size w W := by rw [← hW]; exact pb_new (Below.refl _ _) _
   refine ⟨(Onl.refl b w).below gW, ?_, h.bel hne gW, hO0.bel gW, Nat.le_of_eq hp, by omega, by omega, hG, hlt⟩
   rw [← hW, ← hp]; exact World.alloc_heap_new w _
  rw [hW]
  (try rw [hp])
  clear hW h hO0 hp hlt hltB
  have lf0 := lxf0
  have lf1 := lxf1
  have lf2 := lxf2
  have kt : ∀ V, Calls Tryz.prog 59 #[.string t.2.1] V fun e w' => e = .returned (.int .i64 0) ∧ w' = V := fun V => by have := ptype t.2.1 V; rw [ty0.out] at this; exact this
  have hk0 : ((t.1 : Int) == 1) = false := by rw [beq_eq_false_iff_ne]; omega
  have ht2 := txt_no c4
  have ht : (t.2.1.toList == [40]) = false := by have := ht2; rw [show ByteArray.toList tLp = [40] from by simp] at this; exact this
  go_wp2_with (first
   | (go_at_call 60; (with_reducible refine (pnext b B t us o d _ hS.P).mono ?_); rintro e v90 ⟨rfl, g90⟩; replace hS := hS.bel hne g90; clear g90)
   | (go_at_call 59; (with_reducible refine (kt _).mono ?_); rintro e v ⟨rfl, rfl⟩)
   | (go_at_call 78; (with_reducible refine (pskip_no b B t us o d tSq c2 _ hS.P).mono ?_); rintro e v9 ⟨rfl, g9⟩; replace hS := hS.bel hne g9)
   | (go_at_call 78; (with_reducible refine (pskip_no b B t us o d tAb c3 _ hS.P).mono ?_); rintro e v8 ⟨rfl, g8⟩; replace hS := hS.bel hne g8)
   | (go_at_call 112; (refine (kX _ hS.O hS.hG hS.P).mono ?_); rintro e v2 ⟨on2, pp2, qq2, rfl, k2, hP2⟩; replace k2 := k2.lo (lo' := (fun k => w.heap.size ≤ k ∧ k ≠ p)) (hS.fr); replace hS := hS.onl on2 hP2; obtain ⟨f0, f1, f2, f3, ff⟩ := ex_cells hS.q)
   | fail)
  exact bodyPost_ret (v := .agg #[.int .i64 x1.op, .string x1.tx, .int .i64 x1.ty, .slice pp2 x1.ks.len qq2]) (by simp [results, Tryz.results127, go_sem, f0, f1, f2, f3]) rfl (ex_done hS (x := x1) rfl k2 (fun k a => a.1) (fun a => a.2 rfl) rfl e0.out _ _ _ _)
end Go.Proofs.YtknoibocpbfmmaaGreatDoor


