/- Parts of expressions: over, number; the frame of a part. -/
import Derived.Test.YtknoibocpbfmmaaGreatDoorPaF
namespace Go.Proofs.YtknoibocpbfmmaaGreatDoor
open Go.RowKit
set_option linter.unusedVariables false
set_option linter.unusedSimpArgs false
/-- From a block on. -/
abbrev Fr (n : Nat) : Nat → Prop := fun k => n ≤ k
/-- What a part of the parser comes to, of expressions. -/
def ExR (r : Rs Ex) (b B : Nat) (o : Int) (w : World) (e : Ending) (w' : World) : Prop :=
  Onl b w w' ∧ match r with
  | .ok x us d => ∃ p q, e = .returned (.agg #[.int .i64 x.op, .string x.tx, .int .i64 x.ty, .slice p x.ks.len q]) ∧ SlF w' (Fr w.heap.size) (.slice p x.ks.len q) x.ks ∧ PAt w' b B us o d
  | .bad p => Fault 4 p e
  | .more => True
theorem lt_of {W : World} {p : Nat} {x : Obj} (h : W.heap[p]? = some x) : p < W.heap.size := (Array.getElem?_eq_some_iff.1 h).1
theorem ex_cells {V : World} {b : Nat} {t : TypeId} {x0 x1 x2 x3 : Value} (q : V.heap[b]? = some (.cells #[x0, x1, x2, x3] t (0, 0))) : V.cell? ⟨b, 0, none⟩ = some x0 ∧ V.cell? ⟨b, 1, none⟩ = some x1 ∧ V.cell? ⟨b, 2, none⟩ = some x2 ∧ V.cell? ⟨b, 3, none⟩ = some x3 ∧ ∀ j, V.frozen? ⟨b, j, none⟩ = false :=
  ⟨by simp [World.cell?, q], by simp [World.cell?, q], by simp [World.cell?, q], by simp [World.cell?, q], fun j => by simp [World.frozen?, q]⟩
theorem Onl.setNew {b c j : Nat} {x y : World} (h : Onl b x y) (hc : x.heap.size ≤ c) (v : Value) : Onl b x (y.setCell ⟨c, j, none⟩ v) :=
  ⟨h.os, h.tape, h.output, by simpa [World.setCell] using h.size, fun k hk hb => (Below.heap_setCell y _ v k (by show k ≠ c; omega)).trans (h.block k hk hb)⟩
theorem PAt.far {W : World} {b B : Nat} {ts : List Tk} {o d : Int} (h : PAt W b B ts o d) {c j : Nat} (hb : c ≠ b) (hB : c ≠ B) (v : Value) : PAt (W.setCell ⟨c, j, none⟩ v) b B ts o d :=
  h.on (Below.heap_setCell W _ v b (fun e => hb e.symm)) (Below.heap_setCell W _ v B (fun e => hB e.symm))
/-- Between a part's calls: its own block as it lay, the parser, the table. -/
structure Sit (b B p : Nat) (w V : World) (ts : List Tk) (o d : Int) : Prop where
  on : Onl b w V
  q : V.heap[p]? = some (.cells #[.int .i64 0, .string ⟨#[]⟩, .int .i64 0, .slice none 0 0] 85 (0, 0))
  P : PAt V b B ts o d
  O : OpsAt V
  zp : w.heap.size ≤ p
  pb : p ≠ b
  pB : p ≠ B
  hG : b ≠ 0
  bl : b < w.heap.size
theorem Sit.bel {b B p : Nat} {w V V' : World} {ts : List Tk} {o d : Int} (h : Sit b B p w V ts o d) (hne : ts ≠ []) (g : Below V.heap.size V V') : Sit b B p w V' ts o d :=
  ⟨h.on.below g, (g.block p (lt_of h.q)).trans h.q, h.P.bel hne g, h.O.bel g, h.zp, h.pb, h.pB, h.hG, h.bl⟩
theorem Sit.onl {b B p : Nat} {w V V' : World} {ts us : List Tk} {o d o' d' : Int} (h : Sit b B p w V ts o d) (g : Onl b V V') (P : PAt V' b B us o' d') : Sit b B p w V' us o' d' :=
  ⟨h.on.trans g, (g.block p (lt_of h.q) h.pb).trans h.q, P, h.O.onl h.hG g, h.zp, h.pb, h.pB, h.hG, h.bl⟩
theorem Sit.new {b B p : Nat} {w V : World} {ts : List Tk} {o d : Int} (h : Sit b B p w V ts o d) (hne : ts ≠ []) (x : Obj) : Sit b B p w (V.alloc x) ts o d := h.bel hne (pb_new (Below.refl _ _) _)
/-- Four cells stored into the block of what is told. -/
theorem ex_done {w V : World} {b B p : Nat} {us : List Tk} {o d : Int} (h : Sit b B p w V us o d) {x : Ex} {s : Value} {pp : Option Addr} {qq : Nat} (hv : s = .slice pp x.ks.len qq) {S : Nat → Prop} (hs : SlF V S s x.ks) (h1 : ∀ k, S k → w.heap.size ≤ k) (h2 : ¬ S p) {e : Ending} (he : e = .returned (.agg #[.int .i64 x.op, .string x.tx, .int .i64 x.ty, s])) {r : Rs Ex} (hr : r = .ok x us d) (y0 y1 y2 y3 : Value) :
    ExR r b B o w e ((((V.setCell ⟨p, 0, none⟩ y0).setCell ⟨p, 1, none⟩ y1).setCell ⟨p, 2, none⟩ y2).setCell ⟨p, 3, none⟩ y3) := by
  subst hr hv
  refine ⟨(((h.on.setNew h.zp _).setNew h.zp _).setNew h.zp _).setNew h.zp _, _, _, he, ?_, (((h.P.far h.pb h.pB _).far h.pb h.pB _).far h.pb h.pB _).far h.pb h.pB _⟩
  exact ((((hs.kp (Kp.set h2)).kp (Kp.set h2)).kp (Kp.set h2)).kp (Kp.set h2)).lo h1
/-- A new row of expressions. -/
theorem SlF.one {W : World} {S : Nat → Prop} {c q : Nat} {e : Ex} (hc : S c) (h : ExC W S c 0 e) : SlF W S (.slice (some ⟨c, 0, none⟩) 1 q) (e.row .nil) :=
  ⟨_, _, rfl, Or.inr ⟨c, 0, rfl, FoAt.row hc h trivial⟩⟩
theorem SlF.two {W : World} {S : Nat → Prop} {c q : Nat} {e f : Ex} (hc : S c) (h : ExC W S c 0 e) (k : ExC W S c 4 f) : SlF W S (.slice (some ⟨c, 0, none⟩) 2 q) (e.row (f.row .nil)) :=
  ⟨_, _, rfl, Or.inr ⟨c, 0, rfl, FoAt.row hc h (FoAt.row hc k trivial)⟩⟩
/-- A new row of one expression: laid behind its tree. -/
theorem slf_new {V : World} {S : Nat → Prop} {c q : Nat} {s : Value} {e : Ex} (hs : SlF V S s e.ks) (hc : V.heap.size = c) (hS : S c) : SlF (V.alloc (.cells #[.int .i64 e.op, .string e.tx, .int .i64 e.ty, s] 85)) S (.slice (some ⟨c, 0, none⟩) 1 q) (e.row .nil) := by
  subst hc
  have k := hs.kp (Below.kp (pb_new (Below.refl V.heap.size V) (.cells #[.int .i64 e.op, .string e.tx, .int .i64 e.ty, s] 85)) S)
  have q2 := World.alloc_heap_new V (.cells #[.int .i64 e.op, .string e.tx, .int .i64 e.ty, s] 85)
  obtain ⟨c0, c1, c2, c3, _⟩ := ex_cells q2
  exact SlF.one hS ⟨c0, c1, c2, s, c3, k⟩
theorem ks1 {V : World} {c : Nat} (a : Nat) (hc : V.heap.size = c) : KsAt (V.alloc (.cells #[.int .i64 a] 43)) c [a] := by
  subst hc
  intro j k e
  match j, e with
  | 0, e => cases e; simp [go_sem]
  | j + 1, e => simp at e
theorem ks2 {V : World} {c : Nat} (a a' : Nat) (hc : V.heap.size = c) : KsAt (V.alloc (.cells #[.int .i64 a, .int .i64 a'] 43)) c [a, a'] := by
  subst hc
  intro j k e
  match j, e with
  | 0, e => cases e; simp [go_sem]
  | 1, e => cases e; simp [go_sem]
  | j + 2, e => simp at e
theorem Tz.ne {ts : List Tk} (h : Tz ts) : ts ≠ [] := by
  obtain ⟨l, e, rfl⟩ := h; simp
theorem Tz.cons {ts : List Tk} (h : Tz ts) : ∃ t us, ts = t :: us := by
  obtain ⟨l, e, rfl⟩ := h
  cases l <;> exact ⟨_, _, rfl⟩
set_option maxRecDepth 100000 in
set_option maxHeartbeats 1600000 in
theorem pover (op : Int) (s : Value) (w : World) (hs : ∃ p n q, s = .slice p n q) : Calls Tryz.prog 111 #[.int .i64 op, s] w fun e w' => e = .returned (.agg #[.int .i64 op, .string tx0, .int .i64 0, s]) ∧ Below w.heap.size w w' := by
  obtain ⟨p, n, q, rfl⟩ := hs
  go_enter Tryz.func111, Tryz.ntmps111
  go_wp2_with fail
  exact bodyPost_ret (v := .agg #[.int .i64 op, .string ⟨#[]⟩, .int .i64 0, .slice p n q]) (by simp [results, Tryz.results111, go_sem]) rfl ⟨rfl, pb_new (Below.refl _ _) _⟩
set_option maxRecDepth 100000 in
set_option maxHeartbeats 1600000 in
theorem pnumber (b B : Nat) (ts : List Tk) (o d : Int) (z : Tz ts) (w : World) (hO0 : OpsAt w) (hG : b ≠ 0) (h : PAt w b B ts o d) :
    Calls Tryz.prog 112 #[.pointer (some ⟨b, 0, none⟩)] w fun e w' => ExR (numP ts d) b B o w e w' := by
  have zt := fun k => z.tail k
  obtain ⟨t, us, rfl⟩ := z.cons
  have hne : t :: us ≠ [] := by simp
  obtain ⟨R, hR⟩ : ∃ R, numP (t :: us) d = R := ⟨_, rfl⟩
  rw [hR]
  by_cases c : t.1 = 3 ∨ t.1 = 4
  · have e : Hid (R = .ok ⟨1, t.2.1, 0, .nil⟩ us d) := by rw [← hR]; exact if_pos c
    have us0 : us ≠ [] := (zt (Or.inl (by show t.1 ≠ 0; omega))).1.ne
    have cm : t.1 ∈ [3, 4] := by simp; exact c
    clear hR zt z c
    have hlt := h.lt
    have hltB := h.ltB hne
    go_enter Tryz.func112, Tryz.ntmps112
    go_upto_region 1 with fail
    obtain ⟨W, hW⟩ : ∃ W, w.alloc (.cells #[.int .i64 0, .string ⟨#[]⟩, .int .i64 0, .slice none 0 0] 85) = W := ⟨_, rfl⟩
    obtain ⟨p, hp⟩ : ∃ p, w.heap.size = p := ⟨_, rfl⟩
    have hS : Sit b B p w W (t :: us) o d := by
      have gW : Below w.heap.size w W := by rw [← hW]; exact pb_new (Below.refl _ _) _
      refine ⟨(Onl.refl b w).below gW, ?_, h.bel hne gW, hO0.bel gW, Nat.le_of_eq hp, by omega, by omega, hG, hlt⟩
      rw [← hW, ← hp]; exact World.alloc_heap_new w _
    rw [hW]
    (try rw [hp])
    clear hW h hO0 hp hlt hltB
    go_wp2_with (first
      | (go_at_call 77; (refine (ptake_yes b B _ 2 2 t us o d us0 [3, 4] rfl (by omega) cm _ (ks2 3 4 rfl) (hS.new hne _).P).mono ?_); rintro e v ⟨rfl, hP, on1⟩; replace hS := (hS.new hne _).onl on1 hP; obtain ⟨f0, f1, f2, f3, ff⟩ := ex_cells hS.q)
      | fail)
    exact bodyPost_ret (v := .agg #[.int .i64 1, .string t.2.1, .int .i64 0, .slice none 0 0]) (by simp [results, Tryz.results112, go_sem, f0, f1, f2, f3]) rfl (ex_done hS (x := ⟨1, t.2.1, 0, .nil⟩) rfl (SlF.nil _ (fun k => w.heap.size ≤ k ∧ k ≠ p)) (fun k a => a.1) (fun a => a.2 rfl) rfl e.out _ _ _ _)
  · have e : Hid (R = .bad t.2.2) := by rw [← hR]; exact if_neg c
    have cm : t.1 ∉ [3, 4] := by simp; omega
    clear hR zt z c
    have hlt := h.lt
    have hltB := h.ltB hne
    go_enter Tryz.func112, Tryz.ntmps112
    go_upto_region 1 with fail
    obtain ⟨W, hW⟩ : ∃ W, w.alloc (.cells #[.int .i64 0, .string ⟨#[]⟩, .int .i64 0, .slice none 0 0] 85) = W := ⟨_, rfl⟩
    obtain ⟨p, hp⟩ : ∃ p, w.heap.size = p := ⟨_, rfl⟩
    have hS : Sit b B p w W (t :: us) o d := by
      have gW : Below w.heap.size w W := by rw [← hW]; exact pb_new (Below.refl _ _) _
      refine ⟨(Onl.refl b w).below gW, ?_, h.bel hne gW, hO0.bel gW, Nat.le_of_eq hp, by omega, by omega, hG, hlt⟩
      rw [← hW, ← hp]; exact World.alloc_heap_new w _
    rw [hW]
    (try rw [hp])
    clear hW h hO0 hp hlt hltB
    go_wp2_with (first
      | (go_at_call 77; (refine (ptake_no b B _ 2 2 t us o d [3, 4] rfl (by omega) cm _ (ks2 3 4 rfl) (hS.new hne _).P).mono ?_); rintro e v ⟨rfl, g⟩; replace hS := (hS.new hne _).bel hne g)
      | fail)
    refine ⟨rfl, ?_⟩
    rw [e.out]
    exact ⟨hS.on, rfl⟩
end Go.Proofs.YtknoibocpbfmmaaGreatDoor
