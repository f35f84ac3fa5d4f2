/- Texts of the proof, put together. -/
import Derived.Test.YtknoibocpbfmmaaGreatDoorWPaM
import Derived.Deep.MidRow
namespace Go.Proofs.YtknoibocpbfmmaaGreatDoor
open Go.RowKit
set_option linter.unusedVariables false
theorem ex_upto : ∀ n : Nat, ∀ k, k ≤ n → SpE k ∧ SpS k ∧ SpG k ∧ SpV k ∧ SpI k ∧ SpC k
 | 0, k, hk => by
  obtain rfl : k = 0 := by omega
  refine ⟨?_, ?_, ?_, ?_, ?_, ?_⟩
  ·intro lv o ts d z a b c e nm; exact absurd (by rw [eP]) nm
  ·intro o ts d z a b nm; exact absurd (by rw [sP]) nm
  ·intro o ts d z a b nm; exact absurd (by rw [gP]) nm
  ·intro o ts d z a b nm; exact absurd (by rw [vP]) nm
  ·intro o ts d z a b nm; exact absurd (by rw [iP]) nm
  ·intro o ts d z a b nm; exact absurd (by rw [cP]) nm
 | n + 1, k, hk => by
  by_cases h : k ≤ n
  ·exact ex_upto n k h
  ·obtain rfl : k = n + 1 := by omega
   have ih := ex_upto n n (Nat.le_refl _)
   exact ⟨step_E n ih.2.1 (fun k hk => (ex_upto n k hk).1), step_S n ih.2.1 ih.2.2.1, step_G n ih.2.2.2.2.1 ih.2.2.2.1, step_V n ih.1, step_I n ih.2.2.2.2.2, step_C n ih.1⟩
theorem pexpr (n : Nat) : SpE n := (ex_upto n n (Nat.le_refl _)).1
theorem pencl (n : Nat) : SpC n := (ex_upto n n (Nat.le_refl _)).2.2.2.2.2
end Go.Proofs.YtknoibocpbfmmaaGreatDoor


namespace Go.Proofs.YtknoibocpbfmmaaGreatDoor
open Go.RowKit
set_option linter.unusedVariables false
set_option linter.unusedSimpArgs false
set_option maxRecDepth 100000 in
set_option maxHeartbeats 1600000 in
theorem pbound (ts : List Tk) (o d : Int) (z : Tz ts) (nm : bdP ts d ≠ .more) (b B : Nat) (w : World) (hO0 : OpsAt w) (hG : b ≠ 0) (h : PAt w b B ts o d) :
  Calls Tryz.prog 97 #[.pointer (some ⟨b, 0, none⟩)] w fun e w' => ExR (bdP ts d) b B o w e w' := by
 obtain ⟨t, us, rfl⟩ := z.cons
 have hne : t :: us ≠ [] := by simp
 obtain ⟨R, hR⟩ : ∃ R, bdP (t :: us) d = R := ⟨_, rfl⟩
 rw [hR]
 rw [hR] at nm
 unfold bdP at hR
 by_cases c : t.2.1 = tMi
 ·rw [if_pos (show isTx (t :: us) tMi = true from decide_eq_true c)] at hR
  replace hR : ((numP us d).thn fun e ts d => .ok (over1 4 e) ts d) = R := hR
  have zu := want_tail z c tMi_ne
  have c' : Hid (t.2.1 = tMi) := c
  clear c
  cases hr : numP us d with
  | more =>
   rw [Rs.thn_more hr] at hR
   exact absurd hR.symm nm
  | bad pl =>
   rw [Rs.thn_bad hr] at hR
   have kX := (fun _ b B w hO hG hP => pnumber b B us o d zu w hO hG hP : numP us d ≠ .more → _) (by rw [hr]; simp) b B
   rw [hr] at kX
   have e0 : Hid (R = .bad pl) := hR.symm
   clear hR hr nm z
   have hlt := h.lt
   have hltB := h.ltB hne
   go_enter Tryz.func97, Tryz.ntmps97
   go_upto_region 1 with fail
   obtain ⟨W, hW⟩ : ∃ W, w.alloc (.cells #[.int .i64 0, .string ⟨#[]⟩, .int .i64 0, .slice none 0 0] 85) = W := ⟨_, rfl⟩
   obtain ⟨p, hp⟩ : ∃ p, w.heap.size = p := ⟨_, rfl⟩
   have hS : Sit b B p w W (t :: us) o d := by
    have gW : Below w.heap.size w W := by rw [← hW]; exact pb_new (Below.refl _ _) _
    refine ⟨(Onl.refl b w).below gW, ?_, h.bel hne gW, hO0.bel gW, Nat.le_of_eq hp, by omega, by omega, hG, hlt⟩
    rw [← hW, ← hp]; exact World.alloc_heap_new w _
   rw [hW]
   (try rw [hp])
   clear hW h hO0 hp hlt hltB
   have kw := fun V hP => pskip_yes b B t us o d zu.ne V hP
   rw [c'.out] at kw
   go_wp2_with (first
    | (go_at_call 78; (with_reducible refine (kw _ hS.P).mono ?_); rintro e v1 ⟨rfl, hP1, on1⟩; replace hS := hS.onl on1 hP1)
    | (go_at_call 112; (refine (kX _ hS.O hS.hG hS.P).mono ?_); rintro e v2 ⟨on2, rfl⟩; replace hS := hS.on.trans on2)
    | fail)
   refine ⟨rfl, ?_⟩
   rw [e0.out]
   exact ⟨hS, rfl⟩
  | ok x1 us1 d1 =>
   rw [Rs.thn_ok hr] at hR
   have kX := (fun _ b B w hO hG hP => pnumber b B us o d zu w hO hG hP : numP us d ≠ .more → _) (by rw [hr]; simp) b B
   have z1 : Tz us1 := by have := (numP_sat us d False zu); rw [hr] at this; exact this.1
   have ne1 := z1.ne
   rw [hr] at kX
   have e0 : Hid (R = .ok (over1 4 x1) us1 d1) := hR.symm
   clear hR hr nm z
   have hlt := h.lt
   have hltB := h.ltB hne
   go_enter Tryz.func97, Tryz.ntmps97
   go_upto_region 1 with fail
   obtain ⟨W, hW⟩ : ∃ W, w.alloc (.cells #[.int .i64 0, .string ⟨#[]⟩, .int .i64 0, .slice none 0 0] 85) = W := ⟨_, rfl⟩
   obtain ⟨p, hp⟩ : ∃ p, w.heap.size = p := ⟨_, rfl⟩
   have hS : Sit b B p w W (t :: us) o d := by
    have gW : Below w.heap.size w W := by rw [← hW]; exact pb_new (Below.refl _ _) _
    refine ⟨(Onl.refl b w).below gW, ?_, h.bel hne gW, hO0.bel gW, Nat.le_of_eq hp, by omega, by omega, hG, hlt⟩
    rw [← hW, ← hp]; exact World.alloc_heap_new w _
   rw [hW]
   (try rw [hp])
   clear hW h hO0 hp hlt hltB
   have kw := fun V hP => pskip_yes b B t us o d zu.ne V hP
   rw [c'.out] at kw
   go_wp2_with (first
    | (go_at_call 78; (with_reducible refine (kw _ hS.P).mono ?_); rintro e v1 ⟨rfl, hP1, on1⟩; replace hS := hS.onl on1 hP1)
    | (go_at_call 112; (refine (kX _ hS.O hS.hG hS.P).mono ?_); rintro e v2 ⟨on2, pp2, qq2, rfl, k2, hP2⟩; replace k2 := k2.lo (lo' := (fun k => w.heap.size ≤ k ∧ k ≠ p)) (hS.fr); replace hS := hS.onl on2 hP2)
    | (go_at_call 111; (refine (pover _ _ _ ⟨_, _, _, rfl⟩).mono ?_); rintro e v7 ⟨rfl, g7⟩; have k6 := slf_new (q := 1) k2 rfl (hS.fr _ (Nat.le_refl _)); replace k6 := k6.kp (Below.kp g7 _); replace hS := (hS.new ne1 (.cells #[.int .i64 x1.op, .string x1.tx, .int .i64 x1.ty, .slice pp2 x1.ks.len qq2] 85)).bel ne1 g7; obtain ⟨f0, f1, f2, f3, ff⟩ := ex_cells hS.q)
    | fail)
   exact bodyPost_ret (v := .agg #[.int .i64 4, .string tx0, .int .i64 0, .slice (some ⟨v2.heap.size, 0, none⟩) 1 1]) (by simp [results, Tryz.results97, go_sem, f0, f1, f2, f3]) rfl (ex_done hS (x := over1 4 x1) rfl k6 (fun k a => a.1) (fun a => a.2 rfl) rfl e0.out _ _ _ _)
 ·rw [if_neg (show ¬ isTx (t :: us) tMi = true by show ¬ decide (t.2.1 = tMi) = true; rw [decide_eq_true_iff]; exact c)] at hR
  have zt := z
  cases hr : numP (t :: us) d with
  | more =>
   rw [hr] at hR
   exact absurd hR.symm nm
  | bad pl =>
   rw [hr] at hR
   have kX := (fun _ b B w hO hG hP => pnumber b B (t :: us) o d zt w hO hG hP : numP (t :: us) d ≠ .more → _) (by rw [hr]; simp) b B
   rw [hr] at kX
   have e0 : Hid (R = .bad pl) := hR.symm
   clear hR hr nm z
   have hlt := h.lt
   have hltB := h.ltB hne
   go_enter Tryz.func97, Tryz.ntmps97
   go_upto_region 1 with fail
   obtain ⟨W, hW⟩ : ∃ W, w.alloc (.cells #[.int .i64 0, .string ⟨#[]⟩, .int .i64 0, .slice none 0 0] 85) = W := ⟨_, rfl⟩
   obtain ⟨p, hp⟩ : ∃ p, w.heap.size = p := ⟨_, rfl⟩
   have hS : Sit b B p w W (t :: us) o d := by
    have gW : Below w.heap.size w W := by rw [← hW]; exact pb_new (Below.refl _ _) _
    refine ⟨(Onl.refl b w).below gW, ?_, h.bel hne gW, hO0.bel gW, Nat.le_of_eq hp, by omega, by omega, hG, hlt⟩
    rw [← hW, ← hp]; exact World.alloc_heap_new w _
   rw [hW]
   (try rw [hp])
   clear hW h hO0 hp hlt hltB
   go_wp2_with (first
    | (go_at_call 78; (with_reducible refine (pskip_no b B t us o d tMi c _ hS.P).mono ?_); rintro e v1 ⟨rfl, g1⟩; replace hS := hS.bel hne g1)
    | (go_at_call 112; (refine (kX _ hS.O hS.hG hS.P).mono ?_); rintro e v2 ⟨on2, rfl⟩; replace hS := hS.on.trans on2)
    | fail)
   refine ⟨rfl, ?_⟩
   rw [e0.out]
   exact ⟨hS, rfl⟩
  | ok x1 us1 d1 =>
   rw [hr] at hR
   have kX := (fun _ b B w hO hG hP => pnumber b B (t :: us) o d zt w hO hG hP : numP (t :: us) d ≠ .more → _) (by rw [hr]; simp) b B
   have z1 : Tz us1 := by have := (numP_sat (t :: us) d False z); rw [hr] at this; exact this.1
   have ne1 := z1.ne
   rw [hr] at kX
   have e0 : Hid (R = .ok x1 us1 d1) := hR.symm
   clear hR hr nm z
   have hlt := h.lt
   have hltB := h.ltB hne
   go_enter Tryz.func97, Tryz.ntmps97
   go_upto_region 1 with fail
   obtain ⟨W, hW⟩ : ∃ W, w.alloc (.cells #[.int .i64 0, .string ⟨#[]⟩, .int .i64 0, .slice none 0 0] 85) = W := ⟨_, rfl⟩
   obtain ⟨p, hp⟩ : ∃ p, w.heap.size = p := ⟨_, rfl⟩
   have hS : Sit b B p w W (t :: us) o d := by
    have gW : Below w.heap.size w W := by rw [← hW]; exact pb_new (Below.refl _ _) _
    refine ⟨(Onl.refl b w).below gW, ?_, h.bel hne gW, hO0.bel gW, Nat.le_of_eq hp, by omega, by omega, hG, hlt⟩
    rw [← hW, ← hp]; exact World.alloc_heap_new w _
   rw [hW]
   (try rw [hp])
   clear hW h hO0 hp hlt hltB
   go_wp2_with (first
    | (go_at_call 78; (with_reducible refine (pskip_no b B t us o d tMi c _ hS.P).mono ?_); rintro e v1 ⟨rfl, g1⟩; replace hS := hS.bel hne g1)
    | (go_at_call 112; (refine (kX _ hS.O hS.hG hS.P).mono ?_); rintro e v2 ⟨on2, pp2, qq2, rfl, k2, hP2⟩; replace k2 := k2.lo (lo' := (fun k => w.heap.size ≤ k ∧ k ≠ p)) (hS.fr); replace hS := hS.onl on2 hP2; obtain ⟨f0, f1, f2, f3, ff⟩ := ex_cells hS.q)
    | fail)
   exact bodyPost_ret (v := .agg #[.int .i64 x1.op, .string x1.tx, .int .i64 x1.ty, .slice pp2 x1.ks.len qq2]) (by simp [results, Tryz.results97, go_sem, f0, f1, f2, f3]) rfl (ex_done hS (x := x1) rfl k2 (fun k a => a.1) (fun a => a.2 rfl) rfl e0.out _ _ _ _)
end Go.Proofs.YtknoibocpbfmmaaGreatDoor


namespace Go.Proofs.YtknoibocpbfmmaaGreatDoor
open Go.RowKit
set_option linter.unusedVariables false
set_option linter.unusedSimpArgs false
/-- Values stored into a block, one behind the other. -/
def setN (p : Nat) : Nat → List Value → World → World
 | _, [], V => V
 | j, y :: ys, V => setN p (j + 1) ys (V.setCell ⟨p, j, none⟩ y)
theorem setN_far (p k : Nat) (h : k ≠ p) : ∀ (ys : List Value) (j : Nat) (V : World), (setN p j ys V).heap[k]? = V.heap[k]?
 | [], _, _ => rfl
 | y :: ys, j, V => (setN_far p k h ys (j + 1) _).trans (Below.heap_setCell V _ y k h)
theorem setN_onl {b p : Nat} {w : World} (zp : w.heap.size ≤ p) : ∀ (ys : List Value) (j : Nat) {V : World}, Onl b w V → Onl b w (setN p j ys V)
 | [], _, _, h => h
 | y :: ys, j, _, h => setN_onl zp ys (j + 1) (h.setNew zp y)
/-- A statement as a value, its slices told. -/
def StV (W : World) (S : Nat → Prop) (v : Value) (s : St) : Prop := ∃ p0 q0 p1 q1 p2 q2 p3 q3 p4 q4 p5 q5,
 v = .agg #[.int .i64 s.dO, .string s.name, .slice p0 s.index.len q0, .int .i64 s.value.op, .string s.value.tx, .int .i64 s.value.ty, .slice p1 s.value.ks.len q1, .int .i64 s.low.op, .string s.low.tx, .int .i64 s.low.ty, .slice p2 s.low.ks.len q2, .int .i64 s.high.op, .string s.high.tx, .int .i64 s.high.ty, .slice p3 s.high.ks.len q3, .slice p4 s.thn.len q4, .slice p5 s.els.len q5] ∧
 SlF W S (.slice p0 s.index.len q0) s.index ∧ SlF W S (.slice p1 s.value.ks.len q1) s.value.ks ∧ SlF W S (.slice p2 s.low.ks.len q2) s.low.ks ∧ SlF W S (.slice p3 s.high.ks.len q3) s.high.ks ∧ SlS W S (.slice p4 s.thn.len q4) s.thn ∧ SlS W S (.slice p5 s.els.len q5) s.els
theorem StV.kp {S : Nat → Prop} {W V : World} {v : Value} {s : St} (h : Kp S W V) (k : StV W S v s) : StV V S v s := by
 obtain ⟨p0, q0, p1, q1, p2, q2, p3, q3, p4, q4, p5, q5, e, k0, k1, k2, k3, k4, k5⟩ := k
 exact ⟨p0, q0, p1, q1, p2, q2, p3, q3, p4, q4, p5, q5, e, k0.kp h, k1.kp h, k2.kp h, k3.kp h, k4.kp h, k5.kp h⟩
theorem StV.lo {S S' : Nat → Prop} {W : World} {v : Value} {s : St} (h : ∀ k, S k → S' k) (k : StV W S v s) : StV W S' v s := by
 obtain ⟨p0, q0, p1, q1, p2, q2, p3, q3, p4, q4, p5, q5, e, k0, k1, k2, k3, k4, k5⟩ := k
 exact ⟨p0, q0, p1, q1, p2, q2, p3, q3, p4, q4, p5, q5, e, k0.lo h, k1.lo h, k2.lo h, k3.lo h, k4.lo h, k5.lo h⟩
/-- What a statement's part comes to. -/
def StR (r : Rs St) (b B : Nat) (o : Int) (w : World) (e : Ending) (w' : World) : Prop :=
 Onl b w w' ∧ match r with
 | .ok x us d => ∃ v, e = .returned v ∧ StV w' (Fr w.heap.size) v x ∧ PAt w' b B us o d
 | .bad p => Fault 4 p e
 | .more => True
end Go.Proofs.YtknoibocpbfmmaaGreatDoor


namespace Go.Proofs.YtknoibocpbfmmaaGreatDoor
open Go.RowKit
set_option linter.unusedVariables false
set_option linter.unusedSimpArgs false
/-- As Sit, of any block of what is told. -/
structure SitZ (Z : Obj) (b B p : Nat) (w V : World) (ts : List Tk) (o d : Int) : Prop where
 on : Onl b w V
 q : V.heap[p]? = some Z
 P : PAt V b B ts o d
 O : OpsAt V
 zp : w.heap.size ≤ p
 pb : p ≠ b
 pB : p ≠ B
 hG : b ≠ 0
 bl : b < w.heap.size
theorem SitZ.bel {Z : Obj} {b B p : Nat} {w V V' : World} {ts : List Tk} {o d : Int} (h : SitZ Z b B p w V ts o d) (hne : ts ≠ []) (g : Below V.heap.size V V') : SitZ Z b B p w V' ts o d :=
 ⟨h.on.below g, (g.block p (lt_of h.q)).trans h.q, h.P.bel hne g, h.O.bel g, h.zp, h.pb, h.pB, h.hG, h.bl⟩
theorem SitZ.onl {Z : Obj} {b B p : Nat} {w V V' : World} {ts us : List Tk} {o d o' d' : Int} (h : SitZ Z b B p w V ts o d) (g : Onl b V V') (P : PAt V' b B us o' d') : SitZ Z b B p w V' us o' d' :=
 ⟨h.on.trans g, (g.block p (lt_of h.q) h.pb).trans h.q, P, h.O.onl h.hG g, h.zp, h.pb, h.pB, h.hG, h.bl⟩
theorem SitZ.new {Z : Obj} {b B p : Nat} {w V : World} {ts : List Tk} {o d : Int} (h : SitZ Z b B p w V ts o d) (hne : ts ≠ []) (x : Obj) : SitZ Z b B p w (V.alloc x) ts o d := h.bel hne (pb_new (Below.refl _ _) _)
theorem SitZ.pl {Z : Obj} {b B p : Nat} {w V : World} {ts : List Tk} {o d : Int} (h : SitZ Z b B p w V ts o d) : p < V.heap.size := lt_of h.q
theorem SitZ.fr {Z : Obj} {b B p : Nat} {w V : World} {ts : List Tk} {o d : Int} (h : SitZ Z b B p w V ts o d) : ∀ k, Fr V.heap.size k → w.heap.size ≤ k ∧ k ≠ p := fun k a => by
 have h1 := h.zp
 have h2 := h.pl
 have h3 : V.heap.size ≤ k := a
 omega
theorem SitZ.nb {Z : Obj} {b B p : Nat} {w V : World} {ts : List Tk} {o d : Int} (h : SitZ Z b B p w V ts o d) : ¬ (w.heap.size ≤ b ∧ b ≠ p) := fun a => by have := h.bl; omega
theorem PAt.setN {b B c : Nat} {ts : List Tk} {o d : Int} (hb : c ≠ b) (hB : c ≠ B) {ys : List Value} {j : Nat} {W : World} (h : PAt W b B ts o d) : PAt (setN c j ys W) b B ts o d :=
 h.on (setN_far c b (fun e => hb e.symm) ys j W) (setN_far c B (fun e => hB e.symm) ys j W)
theorem SitZ.setN {Z : Obj} {b B p : Nat} {w V : World} {ts : List Tk} {o d : Int} (h : SitZ Z b B p w V ts o d) {c : Nat} (zc : w.heap.size ≤ c) (pc : p ≠ c) (cb : c ≠ b) (cB : c ≠ B) (j : Nat) (ys : List Value) : SitZ Z b B p w (setN c j ys V) ts o d := by
 refine ⟨setN_onl zc ys j h.on, (setN_far c p pc ys j V).trans h.q, h.P.setN cb cB, fun k v e => ?_, h.zp, h.pb, h.pB, h.hG, h.bl⟩
 have ne : 0 ≠ c := by have := h.bl; have := h.hG; have := h.zp; omega
 exact (cell_of_heap (setN_far c 0 ne ys j V)).trans (h.O k v e)
/-- All cells of a statement stored into the block of what is told. -/
theorem st_done {Z : Obj} {w V : World} {b B p : Nat} {us : List Tk} {o d : Int} (h : SitZ Z b B p w V us o d) {x : St} {v : Value} {S : Nat → Prop} (hs : StV V S v x) (h1 : ∀ k, S k → w.heap.size ≤ k) (h2 : ¬ S p) {e : Ending} (he : e = .returned v) {r : Rs St} (hr : r = .ok x us d) (ys : List Value) (j : Nat) :
  StR r b B o w e (setN p j ys V) := by
 subst hr
 refine ⟨setN_onl h.zp ys j h.on, v, he, (hs.kp (fun k a _ => setN_far p k (fun e => h2 (e ▸ a)) ys j V)).lo h1, h.P.setN h.pb h.pB⟩
theorem c17 {V : World} {c : Nat} {t : TypeId} {y0 y1 y2 y3 y4 y5 y6 y7 y8 y9 y10 y11 y12 y13 y14 y15 y16 : Value} (q : V.heap[c]? = some (.cells #[y0, y1, y2, y3, y4, y5, y6, y7, y8, y9, y10, y11, y12, y13, y14, y15, y16] t (0, 0))) : V.cell? ⟨c, 0, none⟩ = some y0 ∧ V.cell? ⟨c, 1, none⟩ = some y1 ∧ V.cell? ⟨c, 2, none⟩ = some y2 ∧ V.cell? ⟨c, 3, none⟩ = some y3 ∧ V.cell? ⟨c, 4, none⟩ = some y4 ∧ V.cell? ⟨c, 5, none⟩ = some y5 ∧ V.cell? ⟨c, 6, none⟩ = some y6 ∧ V.cell? ⟨c, 7, none⟩ = some y7 ∧ V.cell? ⟨c, 8, none⟩ = some y8 ∧ V.cell? ⟨c, 9, none⟩ = some y9 ∧ V.cell? ⟨c, 10, none⟩ = some y10 ∧ V.cell? ⟨c, 11, none⟩ = some y11 ∧ V.cell? ⟨c, 12, none⟩ = some y12 ∧ V.cell? ⟨c, 13, none⟩ = some y13 ∧ V.cell? ⟨c, 14, none⟩ = some y14 ∧ V.cell? ⟨c, 15, none⟩ = some y15 ∧ V.cell? ⟨c, 16, none⟩ = some y16 ∧ ∀ j, V.frozen? ⟨c, j, none⟩ = false :=
 ⟨by simp [World.cell?, q], by simp [World.cell?, q], by simp [World.cell?, q], by simp [World.cell?, q], by simp [World.cell?, q], by simp [World.cell?, q], by simp [World.cell?, q], by simp [World.cell?, q], by simp [World.cell?, q], by simp [World.cell?, q], by simp [World.cell?, q], by simp [World.cell?, q], by simp [World.cell?, q], by simp [World.cell?, q], by simp [World.cell?, q], by simp [World.cell?, q], by simp [World.cell?, q], fun j => by simp [World.frozen?, q]⟩
theorem wp_store_by {o : Oper} {a : Act} {w w' : World} {K : Act → World → Prop} {Q : Exit → Act → World → Prop} (ty : TypeId) (x y : Operand) (ho : o.op = .store ty x y) (p v : Value) (hx : a.eval x = p) (hy : a.eval y = v) (hr : (Instr.storeAt ty p v).run Tryz.prog w = .ok () w') (h : K (a.put o.dst undef) w') : o.wp Tryz.prog a w K Q := by
 unfold Oper.wp execOp
 simp only [ho, hx, hy, Sem.run_bind, hr, Result.andThen_ok]
 exact h
theorem rg17 {V : World} {c : Nat} {cs : List Value} {t : TypeId} (q : V.heap[c]? = some (.cells cs.toArray t (0, 0))) : V.rangeAt c 0 cs := fun j v h => by
 rw [Nat.zero_add]
 simp [World.cell?, q, h]
set_option maxRecDepth 100000 in
theorem rs17 {V : World} {c : Nat} {cs : List Value} {t : TypeId} (q : V.heap[c]? = some (.cells cs.toArray t (0, 0))) (hl : cs.length = 17) : (loadVar 87 ⟨c, 0, none⟩).run Tryz.prog V = .ok (.agg cs.toArray) V := by
 have hl' : (loadCells ⟨c, 0, none⟩ 17).run Tryz.prog V = .ok cs.toArray V := by
  have := run_loadCells_list (P := Tryz.prog) V ⟨c, 0, none⟩ cs (fun j v hv => by rw [Addr.add_mid]; exact rg17 q j v hv)
  rw [hl] at this
  exact this
 have ha : (isAgg 87).run Tryz.prog V = .ok true V := by kernel_rfl
 have hz : (sizeOf 87).run Tryz.prog V = .ok 17 V := by kernel_rfl
 simp only [loadVar, Sem.run_bind, Sem.run_pure, Result.andThen, ha, hz, hl', if_true]
theorem ld17 {V : World} {c : Nat} {cs : List Value} {t : TypeId} (q : V.heap[c]? = some (.cells cs.toArray t (0, 0))) (hl : cs.length = 17) : (Instr.loadAt 87 (.pointer (some ⟨c, 0, none⟩))).run Tryz.prog V = .ok (.agg cs.toArray) V := by
 simp only [Instr.loadAt, Instr.sureAddr, Sem.run_bind, Sem.run_pure, Result.andThen, rs17 q hl]
theorem res17 {fn : Func} {a : Array Value} {V : World} {c k : Nat} {v : Value} (hf : fn.results = #[.cell k 87]) (ha : a.getD k undef = .pointer (some ⟨c, 0, none⟩)) (rs : (loadVar 87 ⟨c, 0, none⟩).run Tryz.prog V = .ok v V) : (results fn a).run Tryz.prog V = .ok v V := by
 unfold results
 rw [hf]
 simp [-Array.getD_eq_getD_getElem?, ha, asAddr, rs]
set_option maxRecDepth 100000 in
theorem info17 : (Tryz.prog.info? 87).map (·.size) = some 17 := by kernel_rfl
theorem setCells_setN (p : Nat) : ∀ (ys : List Value) (j : Nat) (V : World), V.setCells p j ys = setN p j ys V
 | [], _, _ => rfl
 | y :: ys, j, V => setCells_setN p ys (j + 1) _
theorem st17 {V : World} {p : Nat} {cs : List Value} {old : Array Value} {t : TypeId} (q : V.heap[p]? = some (.cells old t (0, 0))) (ho : old.size = 17) (hl : cs.length = 17) (h1 : ∀ v ∈ cs, v.oneCell' = true) : (Instr.storeAt 87 (.pointer (some ⟨p, 0, none⟩)) (.agg cs.toArray)).run Tryz.prog V = .ok () (setN p 0 cs V) := by
 have h := run_storeAt_mid (P := Tryz.prog) V p 0 87 cs.toArray (fun j hj => by
  rw [Nat.zero_add]
  have hj' : j < old.size := by rw [ho]; rw [List.size_toArray, hl] at hj; exact hj
  refine ⟨?_, by simp [World.frozen?, q]⟩
  rw [show V.cell? ⟨p, j, none⟩ = old[j]? by simp [World.cell?, q], Array.getElem?_eq_getElem hj']
  rfl) (by rw [List.size_toArray, hl]; exact info17) (all_oneCell_toArray h1)
 rw [← setCells_setN]
 exact h
theorem setN_heap (p : Nat) (t : TypeId) (z : Nat × Nat) : ∀ (ys : List Value) (j : Nat) (V : World) (xs : Array Value), V.heap[p]? = some (.cells xs t z) → ∃ xs', (setN p j ys V).heap[p]? = some (.cells xs' t z) ∧ xs'.size = xs.size ∧ ∀ k, xs'[k]? = if j ≤ k ∧ k < j + ys.length ∧ k < xs.size then ys[k - j]? else xs[k]?
 | [], j, V, xs, q => ⟨xs, q, rfl, fun k => by rw [if_neg (by simp; omega)]⟩
 | y :: ys, j, V, xs, q => by
  obtain ⟨xs', q', e1, e2⟩ := setN_heap p t z ys (j + 1) (V.setCell ⟨p, j, none⟩ y) _ (at_set q j y)
  refine ⟨xs', q', by rw [e1]; simp, fun k => ?_⟩
  rw [e2 k]
  simp only [Array.size_setIfInBounds, List.length_cons, Array.getElem?_setIfInBounds]
  by_cases c : k = j
  ·subst c
   by_cases d : k < xs.size
   ·rw [if_neg (by omega), if_pos rfl, if_pos d, if_pos (by omega), Nat.sub_self]
    rfl
   ·rw [if_neg (by omega), if_pos rfl, if_neg d, if_neg (by omega)]
    exact (Array.getElem?_eq_none (by omega)).symm
  ·by_cases d : j + 1 ≤ k ∧ k < j + 1 + ys.length ∧ k < xs.size
   ·rw [if_pos d, if_pos (by omega), show k - j = k - (j + 1) + 1 by omega]
    rfl
   ·rw [if_neg d, if_neg (fun e => c e.symm), if_neg (by omega)]
theorem setN17 {V : World} {p : Nat} {cs : List Value} {old : Array Value} {t : TypeId} (q : V.heap[p]? = some (.cells old t (0, 0))) (ho : old.size = 17) (hl : cs.length = 17) : (setN p 0 cs V).heap[p]? = some (.cells cs.toArray t (0, 0)) := by
 obtain ⟨xs', q', e1, e2⟩ := setN_heap p t (0, 0) cs 0 V old q
 rw [q']
 congr 2
 apply Array.ext
 ·rw [e1, ho, List.size_toArray, hl]
 ·intro k h1 h2
  have := e2 k
  rw [if_pos ⟨by omega, by rw [List.size_toArray] at h2; omega, by omega⟩, Array.getElem?_eq_getElem h1, Nat.sub_zero] at this
  rw [List.size_toArray] at h2
  rw [List.getElem?_eq_getElem h2] at this
  simpa using Option.some.inj this
theorem name_yes {α : Type} {t : Tk} {us : List Tk} {f : ByteArray → List Tk → Rs α} (h : t.1 = 1) : nameP (t :: us) f = f t.2.1 us := if_pos h
theorem name_no {α : Type} {t : Tk} {us : List Tk} {f : ByteArray → List Tk → Rs α} (h : t.1 ≠ 1) : nameP (t :: us) f = .bad t.2.2 := if_neg h
end Go.Proofs.YtknoibocpbfmmaaGreatDoor


namespace Go.Proofs.YtknoibocpbfmmaaGreatDoor
open Go.RowKit
set_option linter.unusedVariables false
set_option linter.unusedSimpArgs false
set_option maxRecDepth 100000 in
set_option maxHeartbeats 1600000 in
theorem pread : ∀ (ts : List Tk) (o d : Int), Tz ts → readP ts d ≠ .more → ∀ (b B : Nat) (w : World), OpsAt w → b ≠ 0 → PAt w b B ts o d →
  Calls Tryz.prog 81 #[.pointer (some ⟨b, 0, none⟩)] w fun e w' => StR (readP ts d) b B o w e w' := by
 intro ts o d z nm b B w hO0 hG h
 obtain ⟨R, hR⟩ : ∃ R, readP ts d = R := ⟨_, rfl⟩
 rw [hR]
 rw [hR] at nm
 unfold readP at hR
 have zn := z
 have hlt := h.lt
 have hltB := h.ltB z.ne
 go_enter Tryz.func81, Tryz.ntmps81
 go_upto_region 1 with fail
 obtain ⟨W, hW⟩ : ∃ W, w.alloc (.cells #[.int .i64 0, .string ⟨#[]⟩, .slice none 0 0, .int .i64 0, .string ⟨#[]⟩, .int .i64 0, .slice none 0 0, .int .i64 0, .string ⟨#[]⟩, .int .i64 0, .slice none 0 0, .int .i64 0, .string ⟨#[]⟩, .int .i64 0, .slice none 0 0, .slice none 0 0, .slice none 0 0] 87) = W := ⟨_, rfl⟩
 obtain ⟨p, hp⟩ : ∃ p, w.heap.size = p := ⟨_, rfl⟩
 have hS : SitZ (.cells #[.int .i64 0, .string ⟨#[]⟩, .slice none 0 0, .int .i64 0, .string ⟨#[]⟩, .int .i64 0, .slice none 0 0, .int .i64 0, .string ⟨#[]⟩, .int .i64 0, .slice none 0 0, .int .i64 0, .string ⟨#[]⟩, .int .i64 0, .slice none 0 0, .slice none 0 0, .slice none 0 0] 87 (0, 0)) b B p w W ts o d := by
  have gW : Below w.heap.size w W := by rw [← hW]; exact pb_new (Below.refl _ _) _
  refine ⟨(Onl.refl b w).below gW, ?_, h.bel z.ne gW, hO0.bel gW, Nat.le_of_eq hp, by omega, by omega, hG, hlt⟩
  rw [← hW, ← hp]; exact World.alloc_heap_new w _
 rw [hW]
 (try rw [hp])
 clear hW h hO0 hp hlt hltB
 obtain ⟨t, us, rfl⟩ := z.cons
 have hne : t :: us ≠ [] := by simp
 by_cases c : t.1 = 1
 case neg =>
  rw [name_no c] at hR
  have e0 : Hid (R = .bad t.2.2) := hR.symm
  have hk : t.1 ∉ [1] := by simp; exact c
  clear hR nm z zn
  go_wp2_with (first
   | (go_at_call 77; (refine (ptake_no b B _ 1 1 t us o d [1] rfl (by omega) hk _ (ks1 1 rfl) (hS.new hne _).P).mono ?_); rintro e v1 ⟨rfl, g1⟩; replace hS := ((hS.new hne _).bel hne g1).on)
   | fail)
  refine ⟨rfl, ?_⟩
  rw [e0.out]
  exact ⟨hS, rfl⟩
 rw [name_yes c] at hR
 have zu := kind_tl z (by omega)
 have u0 := zu.ne
 have hk : t.1 ∈ [1] := by simp; exact c
 have hR' : Hid (_ = R) := hR
 clear hR z zn c
 go_upto_region 2 with (first
  | (go_at_call 77; (refine (ptake_yes b B _ 1 1 t us o d u0 [1] rfl (by omega) hk _ (ks1 1 rfl) (hS.new hne _).P).mono ?_); rintro e v1 ⟨rfl, hP1, on1⟩; replace hS := (hS.new hne _).onl on1 hP1)
  | fail)
 obtain ⟨V3, hV3⟩ : ∃ V, v1.alloc (.cells #[.int .i64 2, .string t.2.1, .slice none 0 0, .int .i64 0, .string ⟨#[]⟩, .int .i64 0, .slice none 0 0, .int .i64 0, .string ⟨#[]⟩, .int .i64 0, .slice none 0 0, .int .i64 0, .string ⟨#[]⟩, .int .i64 0, .slice none 0 0, .slice none 0 0, .slice none 0 0] 87) = V := ⟨_, rfl⟩
 obtain ⟨c3, h3⟩ : ∃ c, v1.heap.size = c := ⟨_, rfl⟩
 have q3 : V3.heap[c3]? = some (.cells #[.int .i64 2, .string t.2.1, .slice none 0 0, .int .i64 0, .string ⟨#[]⟩, .int .i64 0, .slice none 0 0, .int .i64 0, .string ⟨#[]⟩, .int .i64 0, .slice none 0 0, .int .i64 0, .string ⟨#[]⟩, .int .i64 0, .slice none 0 0, .slice none 0 0, .slice none 0 0] 87 (0, 0)) := by rw [← hV3, ← h3]; exact World.alloc_heap_new _ _
 have l3 : p ≠ c3 := by rw [← h3]; exact Nat.ne_of_lt hS.pl
 have w3 : w.heap.size ≤ c3 := by have := hS.zp; have := hS.pl; omega
 have b3 : c3 ≠ b := by have := hS.P.lt; omega
 have B3 : c3 ≠ B := by have := hS.P.ltB zu.ne; omega
 replace hS := hS.new zu.ne (.cells #[.int .i64 2, .string t.2.1, .slice none 0 0, .int .i64 0, .string ⟨#[]⟩, .int .i64 0, .slice none 0 0, .int .i64 0, .string ⟨#[]⟩, .int .i64 0, .slice none 0 0, .int .i64 0, .string ⟨#[]⟩, .int .i64 0, .slice none 0 0, .slice none 0 0, .slice none 0 0] 87)
 rw [hV3] at hS
 rw [hV3]
 (try rw [h3])
 clear hV3 h3
 obtain ⟨t1, us1, rfl⟩ := zu.cons
 have ne1 : t1 :: us1 ≠ [] := by simp
 have hR := hR'.out
 clear hR'
 by_cases c1 : t1.2.1 = tIn
 case neg =>
  rw [want_no c1] at hR
  have e0 : Hid (R = .bad t1.2.2) := hR.symm
  clear hR nm
  go_wp2_with (first
   | (go_at_call 80; (with_reducible refine (pwant_no b B t1 us1 o d tIn c1 _ hS.P).mono ?_); rintro e vq1 ⟨rfl, gq1⟩; replace hS := (hS.bel ne1 gq1).on)
   | fail)
  refine ⟨rfl, ?_⟩
  rw [e0.out]
  exact ⟨hS, rfl⟩
 rw [want_yes c1] at hR
 have z1 := want_tail zu c1 tIn_ne
 have kw := pwant_yes b B t1 us1 o d z1.ne _ hS.P
 rw [c1] at kw
 have hR' : Hid (_ = R) := hR
 clear hR c1 zu
 go_upto_region 3 with (first
  | (go_at_call 80; (with_reducible refine (kw).mono ?_); rintro e v1 ⟨rfl, hP1, on1⟩; replace hS := hS.onl on1 hP1; replace q3 := (on1.block _ (lt_of q3) b3).trans q3; clear kw)
  | fail)
 obtain ⟨t2, us2, rfl⟩ := z1.cons
 have ne2 : t2 :: us2 ≠ [] := by simp
 have hR := hR'.out
 clear hR'
 by_cases c2 : t2.2.1 = tLb
 case neg =>
  rw [want_no c2] at hR
  have e0 : Hid (R = .bad t2.2.2) := hR.symm
  clear hR nm
  go_wp2_with (first
   | (go_at_call 80; (with_reducible refine (pwant_no b B t2 us2 o d tLb c2 _ hS.P).mono ?_); rintro e vq2 ⟨rfl, gq2⟩; replace hS := (hS.bel ne2 gq2).on)
   | fail)
  refine ⟨rfl, ?_⟩
  rw [e0.out]
  exact ⟨hS, rfl⟩
 rw [want_yes c2] at hR
 have z2 := want_tail z1 c2 tLb_ne
 have kw := pwant_yes b B t2 us2 o d z2.ne _ hS.P
 rw [c2] at kw
 have hR' : Hid (_ = R) := hR
 clear hR c2 z1
 go_upto_region 4 with (first
  | (go_at_call 80; (with_reducible refine (kw).mono ?_); rintro e v2 ⟨rfl, hP2, on2⟩; replace hS := hS.onl on2 hP2; replace q3 := (on2.block _ (lt_of q3) b3).trans q3; clear kw)
  | fail)
 have hR := hR'.out
 clear hR'
 cases hr : bdP us2 d with
 | more => rw [Rs.thn_more hr] at hR; exact absurd hR.symm nm
 | bad pl =>
  rw [Rs.thn_bad hr] at hR
  have kX := (fun w hO hG hP => pbound us2 o d z2 (by rw [hr]; simp) b B w hO hG hP)
  rw [hr] at kX
  have e0 : Hid (R = .bad pl) := hR.symm
  clear hR hr nm
  go_wp2_with (first
   | (go_at_call 97; (refine (kX _ hS.O hS.hG hS.P).mono ?_); rintro e v3 ⟨on3, rfl⟩; replace hS := hS.on.trans on3)
   | fail)
  refine ⟨rfl, ?_⟩
  rw [e0.out]
  exact ⟨hS, rfl⟩
 | ok x3 us3 d3 =>
  rw [Rs.thn_ok hr] at hR
  have kX := (fun w hO hG hP => pbound us2 o d z2 (by rw [hr]; simp) b B w hO hG hP)
  have z3 : Tz us3 := by have := bdP_sat us2 d False z2; rw [hr] at this; exact this.1
  rw [hr] at kX
  have hR' : Hid (_ = R) := hR
  clear hR hr z2
  go_upto_region 5 with (first
   | (go_at_call 97; (refine (kX _ hS.O hS.hG hS.P).mono ?_); rintro e v3 ⟨on3, pp3, qq3, rfl, k3, hP3⟩; replace k3 := k3.lo (lo' := (fun k => w.heap.size ≤ k ∧ k ≠ p ∧ k ≠ c3)) (fun k a => ⟨(hS.fr k a).1, (hS.fr k a).2, by have := lt_of q3; have a' : _ ≤ k := a; omega⟩); replace q3 := (on3.block _ (lt_of q3) b3).trans q3; obtain ⟨f0, f1, f2, f3, f4, f5, f6, f7, f8, f9, f10, f11, f12, f13, f14, f15, f16, ff⟩ := c17 q3; replace hS := hS.onl on3 hP3; clear kX)
   | fail)
  obtain ⟨V3, hV3⟩ : ∃ V, setN c3 7 [.int .i64 x3.op, .string x3.tx, .int .i64 x3.ty, .slice pp3 x3.ks.len qq3] v3 = V := ⟨_, rfl⟩
  have eV3 : ((((v3.setCell ⟨c3, 7, none⟩ (.int .i64 x3.op)).setCell ⟨c3, 8, none⟩ (.string x3.tx)).setCell ⟨c3, 9, none⟩ (.int .i64 x3.ty)).setCell ⟨c3, 10, none⟩ (.slice pp3 x3.ks.len qq3)) = V3 := hV3
  rw [eV3]
  replace q3 : V3.heap[c3]? = some (.cells #[.int .i64 2, .string t.2.1, .slice none 0 0, .int .i64 0, .string ⟨#[]⟩, .int .i64 0, .slice none 0 0, .int .i64 x3.op, .string x3.tx, .int .i64 x3.ty, .slice pp3 x3.ks.len qq3, .int .i64 0, .string ⟨#[]⟩, .int .i64 0, .slice none 0 0, .slice none 0 0, .slice none 0 0] 87 (0, 0)) := by rw [← eV3]; exact (at_set (at_set (at_set (at_set q3 7 _) 8 _) 9 _) 10 _)
  replace k3 := k3.kp (V := setN c3 7 [.int .i64 x3.op, .string x3.tx, .int .i64 x3.ty, .slice pp3 x3.ks.len qq3] v3) (fun k a _ => setN_far c3 k a.2.2 [.int .i64 x3.op, .string x3.tx, .int .i64 x3.ty, .slice pp3 x3.ks.len qq3] 7 v3)
  replace hS := hS.setN w3 l3 b3 B3 7 [.int .i64 x3.op, .string x3.tx, .int .i64 x3.ty, .slice pp3 x3.ks.len qq3]
  rw [hV3] at hS k3
  clear hV3 eV3 f0 f1 f2 f3 f4 f5 f6 f7 f8 f9 f10 f11 f12 f13 f14 f15 f16 ff
  obtain ⟨t4, us4, rfl⟩ := z3.cons
  have ne4 : t4 :: us4 ≠ [] := by simp
  have hR := hR'.out
  clear hR'
  by_cases c4 : t4.2.1 = tCo
  case neg =>
   rw [want_no c4] at hR
   have e0 : Hid (R = .bad t4.2.2) := hR.symm
   clear hR nm
   go_wp2_with (first
    | (go_at_call 80; (with_reducible refine (pwant_no b B t4 us4 o d3 tCo c4 _ hS.P).mono ?_); rintro e vq4 ⟨rfl, gq4⟩; replace hS := (hS.bel ne4 gq4).on)
    | fail)
   refine ⟨rfl, ?_⟩
   rw [e0.out]
   exact ⟨hS, rfl⟩
  rw [want_yes c4] at hR
  have z4 := want_tail z3 c4 tCo_ne
  have kw := pwant_yes b B t4 us4 o d3 z4.ne _ hS.P
  rw [c4] at kw
  have hR' : Hid (_ = R) := hR
  clear hR c4 z3
  go_upto_region 6 with (first
   | (go_at_call 80; (with_reducible refine (kw).mono ?_); rintro e v4 ⟨rfl, hP4, on4⟩; replace hS := hS.onl on4 hP4; replace k3 := k3.kp (on4.kp (fun a => hS.nb ⟨a.1, a.2.1⟩)); replace q3 := (on4.block _ (lt_of q3) b3).trans q3; clear kw)
   | fail)
  have hR := hR'.out
  clear hR'
  cases hr : bdP us4 d3 with
  | more => rw [Rs.thn_more hr] at hR; exact absurd hR.symm nm
  | bad pl =>
   rw [Rs.thn_bad hr] at hR
   have kX := (fun w hO hG hP => pbound us4 o d3 z4 (by rw [hr]; simp) b B w hO hG hP)
   rw [hr] at kX
   have e0 : Hid (R = .bad pl) := hR.symm
   clear hR hr nm
   go_wp2_with (first
    | (go_at_call 97; (refine (kX _ hS.O hS.hG hS.P).mono ?_); rintro e v5 ⟨on5, rfl⟩; replace hS := hS.on.trans on5)
    | fail)
   refine ⟨rfl, ?_⟩
   rw [e0.out]
   exact ⟨hS, rfl⟩
  | ok x5 us5 d5 =>
   rw [Rs.thn_ok hr] at hR
   have kX := (fun w hO hG hP => pbound us4 o d3 z4 (by rw [hr]; simp) b B w hO hG hP)
   have z5 : Tz us5 := by have := bdP_sat us4 d3 False z4; rw [hr] at this; exact this.1
   rw [hr] at kX
   have hR' : Hid (_ = R) := hR
   clear hR hr z4
   go_upto_region 7 with (first
    | (go_at_call 97; (refine (kX _ hS.O hS.hG hS.P).mono ?_); rintro e v5 ⟨on5, pp5, qq5, rfl, k5, hP5⟩; replace k5 := k5.lo (lo' := (fun k => w.heap.size ≤ k ∧ k ≠ p ∧ k ≠ c3)) (fun k a => ⟨(hS.fr k a).1, (hS.fr k a).2, by have := lt_of q3; have a' : _ ≤ k := a; omega⟩); replace k3 := k3.kp (on5.kp (fun a => hS.nb ⟨a.1, a.2.1⟩)); replace q3 := (on5.block _ (lt_of q3) b3).trans q3; obtain ⟨f0, f1, f2, f3, f4, f5, f6, f7, f8, f9, f10, f11, f12, f13, f14, f15, f16, ff⟩ := c17 q3; replace hS := hS.onl on5 hP5; clear kX)
    | fail)
   obtain ⟨V5, hV5⟩ : ∃ V, setN c3 11 [.int .i64 x5.op, .string x5.tx, .int .i64 x5.ty, .slice pp5 x5.ks.len qq5] v5 = V := ⟨_, rfl⟩
   have eV5 : ((((v5.setCell ⟨c3, 11, none⟩ (.int .i64 x5.op)).setCell ⟨c3, 12, none⟩ (.string x5.tx)).setCell ⟨c3, 13, none⟩ (.int .i64 x5.ty)).setCell ⟨c3, 14, none⟩ (.slice pp5 x5.ks.len qq5)) = V5 := hV5
   rw [eV5]
   replace q3 : V5.heap[c3]? = some (.cells #[.int .i64 2, .string t.2.1, .slice none 0 0, .int .i64 0, .string ⟨#[]⟩, .int .i64 0, .slice none 0 0, .int .i64 x3.op, .string x3.tx, .int .i64 x3.ty, .slice pp3 x3.ks.len qq3, .int .i64 x5.op, .string x5.tx, .int .i64 x5.ty, .slice pp5 x5.ks.len qq5, .slice none 0 0, .slice none 0 0] 87 (0, 0)) := by rw [← eV5]; exact (at_set (at_set (at_set (at_set q3 11 _) 12 _) 13 _) 14 _)
   replace k3 := k3.kp (V := setN c3 11 [.int .i64 x5.op, .string x5.tx, .int .i64 x5.ty, .slice pp5 x5.ks.len qq5] v5) (fun k a _ => setN_far c3 k a.2.2 [.int .i64 x5.op, .string x5.tx, .int .i64 x5.ty, .slice pp5 x5.ks.len qq5] 11 v5)
   replace k5 := k5.kp (V := setN c3 11 [.int .i64 x5.op, .string x5.tx, .int .i64 x5.ty, .slice pp5 x5.ks.len qq5] v5) (fun k a _ => setN_far c3 k a.2.2 [.int .i64 x5.op, .string x5.tx, .int .i64 x5.ty, .slice pp5 x5.ks.len qq5] 11 v5)
   replace hS := hS.setN w3 l3 b3 B3 11 [.int .i64 x5.op, .string x5.tx, .int .i64 x5.ty, .slice pp5 x5.ks.len qq5]
   rw [hV5] at hS k3 k5
   clear hV5 eV5 f0 f1 f2 f3 f4 f5 f6 f7 f8 f9 f10 f11 f12 f13 f14 f15 f16 ff
   obtain ⟨t6, us6, rfl⟩ := z5.cons
   have ne6 : t6 :: us6 ≠ [] := by simp
   have hR := hR'.out
   clear hR'
   by_cases c6 : t6.2.1 = tRb
   case neg =>
    rw [want_no c6] at hR
    have e0 : Hid (R = .bad t6.2.2) := hR.symm
    clear hR nm
    go_wp2_with (first
     | (go_at_call 80; (with_reducible refine (pwant_no b B t6 us6 o d5 tRb c6 _ hS.P).mono ?_); rintro e vq6 ⟨rfl, gq6⟩; replace hS := (hS.bel ne6 gq6).on)
     | fail)
    refine ⟨rfl, ?_⟩
    rw [e0.out]
    exact ⟨hS, rfl⟩
   rw [want_yes c6] at hR
   have z6 := want_tail z5 c6 tRb_ne
   have kw := pwant_yes b B t6 us6 o d5 z6.ne _ hS.P
   rw [c6] at kw
   have hR' : Hid (_ = R) := hR
   clear hR c6 z5
   go_upto_region 8 with (first
    | (go_at_call 80; (with_reducible refine (kw).mono ?_); rintro e v6 ⟨rfl, hP6, on6⟩; replace hS := hS.onl on6 hP6; replace k3 := k3.kp (on6.kp (fun a => hS.nb ⟨a.1, a.2.1⟩)); replace k5 := k5.kp (on6.kp (fun a => hS.nb ⟨a.1, a.2.1⟩)); replace q3 := (on6.block _ (lt_of q3) b3).trans q3; clear kw)
    | fail)
   obtain ⟨t7, us7, rfl⟩ := z6.cons
   have ne7 : t7 :: us7 ≠ [] := by simp
   have hR := hR'.out
   clear hR'
   by_cases c7 : t7.2.1 = tSe
   case neg =>
    rw [want_no c7] at hR
    have e0 : Hid (R = .bad t7.2.2) := hR.symm
    clear hR nm
    go_wp2_with (first
     | (go_at_call 80; (with_reducible refine (pwant_no b B t7 us7 o d5 tSe c7 _ hS.P).mono ?_); rintro e vq7 ⟨rfl, gq7⟩; replace hS := (hS.bel ne7 gq7).on)
     | fail)
    refine ⟨rfl, ?_⟩
    rw [e0.out]
    exact ⟨hS, rfl⟩
   rw [want_yes c7] at hR
   have z7 := want_tail z6 c7 tSe_ne
   have kw := pwant_yes b B t7 us7 o d5 z7.ne _ hS.P
   rw [c7] at kw
   have hR' : Hid (_ = R) := hR
   clear hR c7 z6
   go_upto_region 9 with (first
    | (go_at_call 80; (with_reducible refine (kw).mono ?_); rintro e v7 ⟨rfl, hP7, on7⟩; replace hS := hS.onl on7 hP7; replace k3 := k3.kp (on7.kp (fun a => hS.nb ⟨a.1, a.2.1⟩)); replace k5 := k5.kp (on7.kp (fun a => hS.nb ⟨a.1, a.2.1⟩)); replace q3 := (on7.block _ (lt_of q3) b3).trans q3; clear kw)
    | fail)
   have e0 : Hid (_ = R) := hR'
   clear hR' nm
   obtain ⟨CS, hCS⟩ : ∃ C : List Value, [.int .i64 2, .string t.2.1, .slice none 0 0, .int .i64 0, .string ⟨#[]⟩, .int .i64 0, .slice none 0 0, .int .i64 x3.op, .string x3.tx, .int .i64 x3.ty, .slice pp3 x3.ks.len qq3, .int .i64 x5.op, .string x5.tx, .int .i64 x5.ty, .slice pp5 x5.ks.len qq5, .slice none 0 0, .slice none 0 0] = C := ⟨_, rfl⟩
   have lCS : CS.length = 17 := by rw [← hCS]; rfl
   have oCS : ∀ v ∈ CS, v.oneCell' = true := by rw [← hCS]; intro v hv; simp only [List.mem_cons, List.not_mem_nil, or_false] at hv; rcases hv with rfl | rfl | rfl | rfl | rfl | rfl | rfl | rfl | rfl | rfl | rfl | rfl | rfl | rfl | rfl | rfl | rfl <;> rfl
   have qCS : v7.heap[c3]? = some (.cells CS.toArray 87 (0, 0)) := by rw [← hCS]; exact q3
   have ld := ld17 qCS lCS
   have sr := st17 hS.q rfl lCS oCS
   have rs := rs17 (setN17 hS.q rfl lCS) lCS
   have kf := st_done hS (x := ⟨2, t.2.1, .nil, exN, x3, x5, .nil, .nil⟩) (S := (fun k => w.heap.size ≤ k ∧ k ≠ p ∧ k ≠ c3)) (v := .agg CS.toArray) (by rw [← hCS]; exact ⟨_, _, _, _, _, _, _, _, _, _, _, _, rfl, SlF.nil _ _, SlF.nil _ _, k3, k5, SlS.nil _ _, SlS.nil _ _⟩) (fun k a => a.1) (fun a => a.2.1 rfl) rfl e0.out.symm CS 0
   clear hCS oCS qCS q3
   refine wp_region_list ?_
   refine Eq.mpr (if_pos (by rfl)) (Or.inl ?_)
   refine wp_load_by 87 (.tmp 3) rfl _ _ rfl ld ?_
   refine Eq.mpr (if_pos (by rfl)) (Or.inl ?_)
   refine wp_store_by 87 (.tmp 2) (.tmp 36) rfl _ _ rfl rfl sr ?_
   go_wp2_with fail
   refine bodyPost_ret (v := .agg CS.toArray) ?_ rfl ?_
   ·exact res17 (by rw [Tryz.results81]) rfl rs
   ·exact kf
end Go.Proofs.YtknoibocpbfmmaaGreatDoor


