/- Parts of expressions, each over what it calls: enclosed. -/
import Derived.Test.YtknoibocpbfmmaaGreatDoorPaG
namespace Go.Proofs.YtknoibocpbfmmaaGreatDoor
open Go.RowKit
set_option linter.unusedVariables false
set_option linter.unusedSimpArgs false
def SpE (n : Nat) : Prop := ∀ (lv : Int) (o : Int) (ts : List Tk) (d : Int), Tz ts → 0 ≤ o → o + ts.length ≤ 1000000 → 0 ≤ lv → lv ≤ 10 → eP n lv o ts d ≠ .more → ∀ (b B : Nat) (w : World), OpsAt w → b ≠ 0 → PAt w b B ts o d →
    Calls Tryz.prog 98 #[.pointer (some ⟨b, 0, none⟩), .int .i64 lv] w fun e w' => ExR (eP n lv o ts d) b B o w e w'
def SpS (n : Nat) : Prop := ∀ (o : Int) (ts : List Tk) (d : Int), Tz ts → 0 ≤ o → o + ts.length ≤ 1000000 → sP n o ts d ≠ .more → ∀ (b B : Nat) (w : World), OpsAt w → b ≠ 0 → PAt w b B ts o d →
    Calls Tryz.prog 113 #[.pointer (some ⟨b, 0, none⟩)] w fun e w' => ExR (sP n o ts d) b B o w e w'
def SpG (n : Nat) : Prop := ∀ (o : Int) (ts : List Tk) (d : Int), Tz ts → 0 ≤ o → o + ts.length ≤ 1000000 → gP n o ts d ≠ .more → ∀ (b B : Nat) (w : World), OpsAt w → b ≠ 0 → PAt w b B ts o d →
    Calls Tryz.prog 127 #[.pointer (some ⟨b, 0, none⟩)] w fun e w' => ExR (gP n o ts d) b B o w e w'
def SpV (n : Nat) : Prop := ∀ (o : Int) (ts : List Tk) (d : Int), Tz ts → 0 ≤ o → o + ts.length ≤ 1000000 → vP n o ts d ≠ .more → ∀ (b B : Nat) (w : World), OpsAt w → b ≠ 0 → PAt w b B ts o d →
    Calls Tryz.prog 134 #[.pointer (some ⟨b, 0, none⟩)] w fun e w' => ExR (vP n o ts d) b B o w e w'
def SpI (n : Nat) : Prop := ∀ (o : Int) (ts : List Tk) (d : Int), Tz ts → 0 ≤ o → o + ts.length ≤ 1000000 → iP n o ts d ≠ .more → ∀ (b B : Nat) (w : World), OpsAt w → b ≠ 0 → PAt w b B ts o d →
    Calls Tryz.prog 133 #[.pointer (some ⟨b, 0, none⟩)] w fun e w' => ExR (iP n o ts d) b B o w e w'
def SpC (n : Nat) : Prop := ∀ (o : Int) (ts : List Tk) (d : Int), Tz ts → 0 ≤ o → o + ts.length ≤ 1000001 → cP n o ts d ≠ .more → ∀ (b B : Nat) (w : World), OpsAt w → b ≠ 0 → PAt w b B ts o d →
    Calls Tryz.prog 83 #[.pointer (some ⟨b, 0, none⟩)] w fun e w' => ExR (cP n o ts d) b B o w e w'
theorem Rs.thn_ok {α β : Type} {r : Rs α} {f : α → List Tk → Int → Rs β} {x : α} {ts : List Tk} {d : Int} (h : r = .ok x ts d) : r.thn f = f x ts d := by rw [h]; rfl
theorem Rs.thn_bad {α β : Type} {r : Rs α} {f : α → List Tk → Int → Rs β} {p : Nat} (h : r = .bad p) : r.thn f = .bad p := by rw [h]; rfl
theorem Rs.thn_more {α β : Type} {r : Rs α} {f : α → List Tk → Int → Rs β} (h : r = .more) : r.thn f = .more := by rw [h]; rfl
theorem want_yes {α : Type} {s : ByteArray} {t : Tk} {us : List Tk} {f : List Tk → Rs α} (h : t.2.1 = s) : want s (t :: us) f = f us := if_pos (decide_eq_true h)
theorem want_no {α : Type} {s : ByteArray} {t : Tk} {us : List Tk} {f : List Tk → Rs α} (h : t.2.1 ≠ s) : want s (t :: us) f = .bad t.2.2 := if_neg (by show ¬ decide (t.2.1 = s) = true; rw [decide_eq_true_iff]; exact h)
theorem Sit.pl {b B p : Nat} {w V : World} {ts : List Tk} {o d : Int} (h : Sit b B p w V ts o d) : p < V.heap.size := lt_of h.q
theorem Sit.fr {b B p : Nat} {w V : World} {ts : List Tk} {o d : Int} (h : Sit b B p w V ts o d) : ∀ k, Fr V.heap.size k → w.heap.size ≤ k ∧ k ≠ p := fun k a => by
  have h1 := h.zp
  have h2 := h.pl
  have h3 : V.heap.size ≤ k := a
  omega
theorem Sit.nb {b B p : Nat} {w V : World} {ts : List Tk} {o d : Int} (h : Sit b B p w V ts o d) : ¬ (w.heap.size ≤ b ∧ b ≠ p) := fun a => by have := h.bl; omega
theorem want_tail {t : Tk} {us : List Tk} {s : ByteArray} (z : Tz (t :: us)) (h : t.2.1 = s) (hs : s ≠ tx0) : Tz us := (z.tail (Or.inr (by show t.2.1 ≠ tx0; rw [h]; exact hs))).1
theorem kind_tl {t : Tk} {us : List Tk} (z : Tz (t :: us)) (h : t.1 ≠ 0) : Tz us := (z.tail (Or.inl h)).1
/-- What is told where one part is told behind all that may be stored. -/
theorem SlF.away {V : World} {S : Nat → Prop} {v : Value} {f : Fo} (h : SlF V S v f) {b : Nat} {V' : World} (on : Onl b V V') (hb : ¬ S b) : SlF V' S v f := h.kp (on.kp hb)
set_option maxRecDepth 100000 in
set_option maxHeartbeats 1600000 in
theorem step_C (n : Nat) (ihE : SpE n) : SpC (n + 1) := by
  intro o ts d z o0 oM nm b B w hO0 hG h
  obtain ⟨t, us, rfl⟩ := z.cons
  have hne : t :: us ≠ [] := by simp
  obtain ⟨R, hR⟩ : ∃ R, cP (n + 1) o (t :: us) d = R := ⟨_, rfl⟩
  rw [hR]
  rw [hR] at nm
  rw [cP] at hR
  by_cases c : t.2.1 = tLp
  · rw [want_yes c] at hR
    have zu := want_tail z c tLp_ne
    have ou : o + us.length ≤ 1000000 := by simp at oM; omega
    cases hr : eP n 0 o us d with
    | more => rw [Rs.thn_more hr] at hR; exact absurd hR.symm nm
    | bad pl =>
      rw [Rs.thn_bad hr] at hR
      have kE := ihE 0 o us d zu o0 ou (by decide) (by decide) (by rw [hr]; simp) b B
      rw [hr] at kE
      have e0 : Hid (R = .bad pl) := hR.symm
      have c' : Hid (t.2.1 = tLp) := c
      clear hR hr nm c z ihE oM
      have hlt := h.lt
      have hltB := h.ltB hne
      go_enter Tryz.func83, Tryz.ntmps83
      go_upto_region 1 with fail
      obtain ⟨W, hW⟩ : ∃ W, w.alloc (.cells #[.int .i64 0, .string ⟨#[]⟩, .int .i64 0, .slice none 0 0] 85) = W := ⟨_, rfl⟩
      obtain ⟨p, hp⟩ : ∃ p, w.heap.size = p := ⟨_, rfl⟩
      have hS : Sit b B p w W (t :: us) o d := by
        have gW : Below w.heap.size w W := by rw [← hW]; exact pb_new (Below.refl _ _) _
        refine ⟨(Onl.refl b w).below gW, ?_, h.bel hne gW, hO0.bel gW, Nat.le_of_eq hp, by omega, by omega, hG, hlt⟩
        rw [← hW, ← hp]; exact World.alloc_heap_new w _
      rw [hW]
      (try rw [hp])
      clear hW h hO0 hp hlt hltB
      have kw := pwant_yes b B t us o d zu.ne _ hS.P
      rw [c'.out] at kw
      go_wp2_with (first
        | (go_at_call 80; (with_reducible refine (kw).mono ?_); rintro e v1 ⟨rfl, hP1, on1⟩; replace hS := hS.onl on1 hP1)
        | (go_at_call 98; (refine (kE _ hS.O hS.hG hS.P).mono ?_); rintro e v2 ⟨on2, rfl⟩; replace hS := hS.on.trans on2)
        | fail)
      refine ⟨rfl, ?_⟩
      rw [e0.out]
      exact ⟨hS, rfl⟩
    | ok x1 us1 d1 =>
      rw [Rs.thn_ok hr] at hR
      have kE := ihE 0 o us d zu o0 ou (by decide) (by decide) (by rw [hr]; simp) b B
      have z1 : Tz us1 := by have := eP_sat n 0 o us d zu; rw [hr] at this; exact this.1
      rw [hr] at kE
      obtain ⟨t2, us2, rfl⟩ := z1.cons
      have ne1 : t2 :: us2 ≠ [] := by simp
      have c' : Hid (t.2.1 = tLp) := c
      by_cases c2 : t2.2.1 = tRp
      · rw [want_yes c2] at hR
        have z2 := want_tail z1 c2 tRp_ne
        have e0 : Hid (R = .ok x1 us2 d1) := hR.symm
        have c2' : Hid (t2.2.1 = tRp) := c2
        clear hR hr nm c c2 z ihE oM
        have hlt := h.lt
        have hltB := h.ltB hne
        go_enter Tryz.func83, Tryz.ntmps83
        go_upto_region 1 with fail
        obtain ⟨W, hW⟩ : ∃ W, w.alloc (.cells #[.int .i64 0, .string ⟨#[]⟩, .int .i64 0, .slice none 0 0] 85) = W := ⟨_, rfl⟩
        obtain ⟨p, hp⟩ : ∃ p, w.heap.size = p := ⟨_, rfl⟩
        have hS : Sit b B p w W (t :: us) o d := by
          have gW : Below w.heap.size w W := by rw [← hW]; exact pb_new (Below.refl _ _) _
          refine ⟨(Onl.refl b w).below gW, ?_, h.bel hne gW, hO0.bel gW, Nat.le_of_eq hp, by omega, by omega, hG, hlt⟩
          rw [← hW, ← hp]; exact World.alloc_heap_new w _
        rw [hW]
        (try rw [hp])
        clear hW h hO0 hp hlt hltB
        have kw := pwant_yes b B t us o d zu.ne _ hS.P
        rw [c'.out] at kw
        go_upto_region 3 with (first
          | (go_at_call 80; (with_reducible refine (kw).mono ?_); rintro e v1 ⟨rfl, hP1, on1⟩; replace hS := hS.onl on1 hP1)
          | (go_at_call 98; (refine (kE _ hS.O hS.hG hS.P).mono ?_); rintro e v2 ⟨on2, pp2, qq2, rfl, k2, hP2⟩; replace k2 := k2.lo (lo' := (fun k => w.heap.size ≤ k ∧ k ≠ p)) (hS.fr); replace hS := hS.onl on2 hP2)
          | fail)
        obtain ⟨V3, hV3⟩ : ∃ V, v2.alloc (.cells #[.int .i64 x1.op, .string x1.tx, .int .i64 x1.ty, .slice pp2 x1.ks.len qq2] 85) = V := ⟨_, rfl⟩
        obtain ⟨c3, hc3⟩ : ∃ c, v2.heap.size = c := ⟨_, rfl⟩
        have qc3 : V3.heap[c3]? = some (.cells #[.int .i64 x1.op, .string x1.tx, .int .i64 x1.ty, .slice pp2 x1.ks.len qq2] 85 (0, 0)) := by rw [← hV3, ← hc3]; exact World.alloc_heap_new _ _
        have lc3 : p < c3 := by rw [← hc3]; exact hS.pl
        have bc3 : c3 ≠ b := by have := hS.P.lt; omega
        have Bc3 : c3 ≠ B := by have := hS.P.ltB ne1; omega
        replace hS := hS.new ne1 (.cells #[.int .i64 x1.op, .string x1.tx, .int .i64 x1.ty, .slice pp2 x1.ks.len qq2] 85)
        replace k2 := k2.kp (Below.kp (pb_new (Below.refl v2.heap.size v2) (.cells #[.int .i64 x1.op, .string x1.tx, .int .i64 x1.ty, .slice pp2 x1.ks.len qq2] 85)) _)
        rw [hV3] at hS k2
        rw [hV3]
        (try rw [hc3])
        have ec3 : Hid (v2.heap.size = c3) := hc3
        clear hV3 hc3
        have kw2 := pwant_yes b B t2 us2 o d1 z2.ne _ hS.P
        rw [c2'.out] at kw2
        clear kw
        go_wp2_with (first
          | (go_at_call 80; (with_reducible refine (kw2).mono ?_); rintro e v4 ⟨rfl, hP4, on4⟩; replace hS := hS.onl on4 hP4; replace qc3 := (on4.block _ (lt_of qc3) bc3).trans qc3; replace k2 := k2.away on4 hS.nb; obtain ⟨f0, f1, f2, f3, ff⟩ := ex_cells hS.q; obtain ⟨e0_, e1_, e2_, e3_, _⟩ := ex_cells qc3)
          | fail)
        exact bodyPost_ret (v := .agg #[.int .i64 x1.op, .string x1.tx, .int .i64 x1.ty, .slice pp2 x1.ks.len qq2]) (by simp [results, Tryz.results83, go_sem, f0, f1, f2, f3]) rfl (ex_done hS (x := x1) rfl k2 (fun k a => a.1) (fun a => a.2 rfl) rfl e0.out _ _ _ _)
      · rw [want_no c2] at hR
        have e0 : Hid (R = .bad t2.2.2) := hR.symm
        clear hR hr nm c z ihE oM
        have hlt := h.lt
        have hltB := h.ltB hne
        go_enter Tryz.func83, Tryz.ntmps83
        go_upto_region 1 with fail
        obtain ⟨W, hW⟩ : ∃ W, w.alloc (.cells #[.int .i64 0, .string ⟨#[]⟩, .int .i64 0, .slice none 0 0] 85) = W := ⟨_, rfl⟩
        obtain ⟨p, hp⟩ : ∃ p, w.heap.size = p := ⟨_, rfl⟩
        have hS : Sit b B p w W (t :: us) o d := by
          have gW : Below w.heap.size w W := by rw [← hW]; exact pb_new (Below.refl _ _) _
          refine ⟨(Onl.refl b w).below gW, ?_, h.bel hne gW, hO0.bel gW, Nat.le_of_eq hp, by omega, by omega, hG, hlt⟩
          rw [← hW, ← hp]; exact World.alloc_heap_new w _
        rw [hW]
        (try rw [hp])
        clear hW h hO0 hp hlt hltB
        have kw := pwant_yes b B t us o d zu.ne _ hS.P
        rw [c'.out] at kw
        go_wp2_with (first
          | (go_at_call 80; (with_reducible refine (kw).mono ?_); rintro e v1 ⟨rfl, hP1, on1⟩; replace hS := hS.onl on1 hP1)
          | (go_at_call 98; (refine (kE _ hS.O hS.hG hS.P).mono ?_); rintro e v2 ⟨on2, pp2, qq2, rfl, k2, hP2⟩; replace k2 := k2.lo (lo' := (fun k => w.heap.size ≤ k ∧ k ≠ p)) (hS.fr); replace hS := hS.onl on2 hP2)
          | (go_at_call 80; (with_reducible refine (pwant_no b B t2 us2 o d1 tRp c2 _ (hS.new ne1 _).P).mono ?_); rintro e v4 ⟨rfl, g4⟩; replace hS := ((hS.new ne1 _).bel ne1 g4).on)
          | fail)
        refine ⟨rfl, ?_⟩
        rw [e0.out]
        exact ⟨hS, rfl⟩
  · rw [want_no c] at hR
    have e0 : Hid (R = .bad t.2.2) := hR.symm
    clear hR nm z ihE oM
    have hlt := h.lt
    have hltB := h.ltB hne
    go_enter Tryz.func83, Tryz.ntmps83
    go_upto_region 1 with fail
    obtain ⟨W, hW⟩ : ∃ W, w.alloc (.cells #[.int .i64 0, .string ⟨#[]⟩, .int .i64 0, .slice none 0 0] 85) = W := ⟨_, rfl⟩
    obtain ⟨p, hp⟩ : ∃ p, w.heap.size = p := ⟨_, rfl⟩
    have hS : Sit b B p w W (t :: us) o d := by
      have gW : Below w.heap.size w W := by rw [← hW]; exact pb_new (Below.refl _ _) _
      refine ⟨(Onl.refl b w).below gW, ?_, h.bel hne gW, hO0.bel gW, Nat.le_of_eq hp, by omega, by omega, hG, hlt⟩
      rw [← hW, ← hp]; exact World.alloc_heap_new w _
    rw [hW]
    (try rw [hp])
    clear hW h hO0 hp hlt hltB
    go_wp2_with (first
      | (go_at_call 80; (with_reducible refine (pwant_no b B t us o d tLp c _ hS.P).mono ?_); rintro e v1 ⟨rfl, g1⟩; replace hS := (hS.bel hne g1).on)
      | fail)
    refine ⟨rfl, ?_⟩
    rw [e0.out]
    exact ⟨hS, rfl⟩
end Go.Proofs.YtknoibocpbfmmaaGreatDoor
