/- Texts of the proof, put together. -/
import Derived.Test.YteafnkimcidkhaaGreatYG7
import Derived.Test.YteafnkimcidkhaaGreatYMB1
import Derived.Test.YteafnkimcidkhaaGreatYMB3
import Derived.Test.YteafnkimcidkhaaGreatYMB2
import Derived.Deep.OwnRows
import Derived.Deep.QuietTactic
import Derived.BigQuiet
import Derived.Deep.CutRange
import Derived.WalkKit
import Derived.Laws.AppendOwnNone
namespace Go.Proofs.YteafnkimcidkhaaGreat
open Go.RowKit Go.Shelf
set_option linter.unusedVariables false
set_option linter.unusedSimpArgs false
abbrev Frm := Bool × (Bool × Int × Int) × List (Int × Bool × Int × Int)
def frR (F : Frm) : Bool := fR liN liZ F.1 F.2.1 F.2.2
def frB (F : Frm) : Bool := frR F && !F.1
def tOk (ls : List (Int × Bool × Int × Int)) : Prop := ∀ t ∈ ls, t.1 ≤ 9223372036854775807 ∧ wdR t.2
def fOk (F : Frm) : Prop := wdR F.2.1 ∧ tOk F.2.2 ∧ F.2.2.length ≤ 400
def whF : Frm := (true, (false, 0, 0), [])
def zrF : Frm := (false, (false, 0, 0), [])
def Told (F : Frm) (n : Nat) (e : Ending) (w' : World) : Prop := ∃ rv, e = .returned (.agg #[.bool F.1, .bool F.2.1.1, .int .u64 F.2.1.2.1, .int .u64 F.2.1.2.2, rv]) ∧ TAt w' rv F.2.2 ∧ Up n rv
theorem tOk.v {ls : List (Int × Bool × Int × Int)} (h : tOk ls) : vOk ls := fun t ht => (h t ht).1
theorem wd0 : wdR (false, 0, 0) := ⟨word_0, word_0⟩
theorem whF_ok : fOk whF := ⟨wd0, fun t h => absurd h (by simp [whF]), by simp [whF]⟩
theorem zrF_ok : fOk zrF := ⟨wd0, fun t h => absurd h (by simp [zrF]), by simp [zrF]⟩
theorem whole_told (n : Nat) (w : World) : Told whF n (.returned (.agg #[.bool true, .bool false, .int .u64 0, .int .u64 0, .slice none 0 0])) w :=
 ⟨.slice none 0 0, rfl, Or.inl ⟨rfl, rfl⟩, fun b o k c e => by cases e⟩
theorem form_right (F : Frm) (h : fOk F) (v : Value) (w : World) (hv : TAt w v F.2.2) : Calls Tryz.prog 24 #[.agg #[.bool F.1, .bool F.2.1.1, .int .u64 F.2.1.2.1, .int .u64 F.2.1.2.2, v]] w fun e w' => e = .returned (.bool (frR F)) ∧ Below w.heap.size w w' :=
 liright liN liZ F.1 F.2.1.1 F.2.1.2.1 F.2.1.2.2 F.2.2 (by have := h.2.2; omega) v (fun V => hasnum_any F.2.1 h.1 V)
  (fun V hV => litms liN liZ F.2.2 (by have := h.2.2; omega) v (fun t ht V => hasnum_any t.2 (h.2.1 t ht).2 V) (fun t ht V => iszero_any t.2 V) V hV) w hv
theorem form_bound (F : Frm) (h : fOk F) (v : Value) (w : World) (hv : TAt w v F.2.2) : Calls Tryz.prog 73 #[.agg #[.bool F.1, .bool F.2.1.1, .int .u64 F.2.1.2.1, .int .u64 F.2.1.2.2, v]] w fun e w' => e = .returned (.bool (frB F)) ∧ Below w.heap.size w w' := by
 obtain ⟨p, cap, rfl⟩ := hv.len
 exact libound F.1 F.2.1.1 F.2.1.2.1 F.2.1.2.2 p _ cap (fun V => TAt V (.slice p F.2.2.length cap) F.2.2) (fun W V a b => a.on b) _ (fun V hV => form_right F h _ V hV) w hv
instance (BY : Bool × Int × Int → Bool × Int × Int → (Bool × Int × Int) × Bool) (ca cb : Bool × Int × Int) (az bz : List (Int × Bool × Int × Int)) : Decidable (RecOk BY ca cb az bz) := by unfold RecOk; infer_instance
def recP (BY : Bool × Int × Int → Bool × Int × Int → (Bool × Int × Int) × Bool) (A B : Frm) : Frm :=
 if (frB A && frB B) = true ∧ RecOk BY A.2.1 B.2.1 A.2.2 B.2.2 then (false, (BY A.2.1 B.2.1).1, recL BY (mg (A.2.2.length + B.2.2.length) A.2.2 B.2.2)) else whF
theorem tk_wd {ls : List (Int × Bool × Int × Int)} (h : tOk ls) (q : Int) : wdR (tk ls q).1 ∧ tOk (tk ls q).2 := by
 cases ls with
 | nil => exact ⟨wd0, fun t h => absurd h (by simp [tk])⟩
 | cons t ts =>
  rw [show tk (t :: ts) q = if t.1 = q then (t.2, ts) else ((false, 0, 0), t :: ts) from rfl]
  split
  ·exact ⟨(h t (by simp)).2, fun x hx => h x (by simp [hx])⟩
  ·exact ⟨wd0, h⟩
theorem fv_top {ls : List (Int × Bool × Int × Int)} (h : tOk ls) : fv ls ≤ 9223372036854775807 := fv_ok h.v
theorem mg_wd : ∀ (k : Nat) (az bz : List (Int × Bool × Int × Int)), tOk az → tOk bz → ∀ x ∈ mg k az bz, x.1 ≤ 9223372036854775807 ∧ wdR x.2.1 ∧ wdR x.2.2
 | 0, _, _, _, _, x, hx => by simp [mg] at hx
 | k + 1, az, bz, ha, hb, x, hx => by
  unfold mg at hx
  split at hx
  ·simp at hx
  ·rcases List.mem_cons.1 hx with rfl | hx
   ·have := fv_top ha
    exact ⟨by simp only; omega, (tk_wd ha _).1, (tk_wd hb _).1⟩
   ·exact mg_wd k _ _ (tk_wd ha _).2 (tk_wd hb _).2 x hx
theorem recL_mem {BY : Bool × Int × Int → Bool × Int × Int → (Bool × Int × Int) × Bool} : ∀ {l : List (Int × (Bool × Int × Int) × (Bool × Int × Int))} {t : Int × Bool × Int × Int}, t ∈ recL BY l → ∃ x ∈ l, t = (x.1, (BY x.2.1 x.2.2).1)
 | [], t, h => by simp [recL] at h
 | x :: r, t, h => by
  unfold recL at h
  split at h
  ·obtain ⟨y, hy, e⟩ := recL_mem h
   exact ⟨y, by simp [hy], e⟩
  ·rcases List.mem_cons.1 h with rfl | h
   ·exact ⟨x, by simp, rfl⟩
   ·obtain ⟨y, hy, e⟩ := recL_mem h
    exact ⟨y, by simp [hy], e⟩
theorem recP_ok {BY : Bool × Int × Int → Bool × Int × Int → (Bool × Int × Int) × Bool} (bw : ∀ x y, wdR x → wdR y → wdR (BY x y).1) {A B : Frm} (hA : fOk A) (hB : fOk B) : fOk (recP BY A B) ∧ (recP BY A B).2.2.length ≤ 16 := by
 unfold recP
 split
 ·rename_i h
  refine ⟨⟨bw _ _ hA.1 hB.1, fun t ht => ?_, ?_⟩, h.2.2.2⟩
  ·obtain ⟨x, hx, rfl⟩ := recL_mem ht
   obtain ⟨h1, h2, h3⟩ := mg_wd _ _ _ hA.2.1 hB.2.1 x hx
   exact ⟨h1, bw _ _ h2 h3⟩
  ·have := h.2.2.2
   simp only
   omega
 ·exact ⟨whF_ok, by simp [whF]⟩
set_option maxRecDepth 100000 in
theorem rec_any (A B : Frm) (hA : fOk A) (hB : fOk B) (va vb : Value) (kb : Nat) (caps : Array Value) (eby : ∀ args w, (callFunc kb args).run Tryz.prog w = .ok (.enter kb args) w) (BY : Bool × Int × Int → Bool × Int × Int → (Bool × Int × Int) × Bool) (w : World)
  (hby : ∀ x y V, wdR x → wdR y → Below w.heap.size w V → Calls Tryz.prog kb (#[.agg #[.bool x.1, .int .u64 x.2.1, .int .u64 x.2.2], .agg #[.bool y.1, .int .u64 y.2.1, .int .u64 y.2.2]] ++ caps) V fun e V' => e = .returned (.tuple #[.agg #[.bool (BY x y).1.1, .int .u64 (BY x y).1.2.1, .int .u64 (BY x y).1.2.2], .bool (BY x y).2]) ∧ Below V.heap.size V V')
  (ta : TAt w va A.2.2) (tb : TAt w vb B.2.2) :
  Calls Tryz.prog 67 #[.agg #[.bool A.1, .bool A.2.1.1, .int .u64 A.2.1.2.1, .int .u64 A.2.1.2.2, va], .agg #[.bool B.1, .bool B.2.1.1, .int .u64 B.2.1.2.1, .int .u64 B.2.1.2.2, vb], .func (.func kb) #[] caps] w fun e w' => Told (recP BY A B) w.heap.size e w' ∧ Below w.heap.size w w' := by
 have hn : A.2.2.length + B.2.2.length ≤ 1000 := by have := hA.2.2; have := hB.2.2; omega
 by_cases hg : (frB A && frB B) = true
 ·obtain ⟨g1, g2⟩ : frB A = true ∧ frB B = true := by simpa using hg
  have kA : ∀ V, TAt V va A.2.2 → Calls Tryz.prog 73 #[.agg #[.bool A.1, .bool A.2.1.1, .int .u64 A.2.1.2.1, .int .u64 A.2.1.2.2, va]] V fun e w' => e = .returned (.bool true) ∧ Below V.heap.size V w' := fun V hV => by
   have := form_bound A hA va V hV
   rwa [g1] at this
  have kB : ∀ V, TAt V vb B.2.2 → Calls Tryz.prog 73 #[.agg #[.bool B.1, .bool B.2.1.1, .int .u64 B.2.1.2.1, .int .u64 B.2.1.2.2, vb]] V fun e w' => e = .returned (.bool true) ∧ Below V.heap.size V w' := fun V hV => by
   have := form_bound B hB vb V hV
   rwa [g2] at this
  by_cases hc : (BY A.2.1 B.2.1).2 = true
  ·have := lirec_ok A.1 A.2.1.1 A.2.1.2.1 A.2.1.2.2 va A.2.2 B.1 B.2.1.1 B.2.1.2.1 B.2.1.2.2 vb B.2.2 hn hA.2.1.v hB.2.1.v kb caps eby kA kB liwhole BY wdR hA.1 hB.1 w hby (fun x hx => (mg_wd _ _ _ hA.2.1 hB.2.1 x hx).2) (fun x V => iszero_any x V) hc ta tb
   refine this.mono fun e w' q => ⟨?_, q.2⟩
   rcases q.1 with ⟨ok, v', he, ht, hu⟩ | ⟨nok, he⟩
   ·rw [recP, if_pos ⟨hg, ok⟩]
    exact ⟨v', he, ht, hu⟩
   ·rw [recP, if_neg fun q => nok q.2, he]
    exact whole_told _ _
  ·have hc' : (BY A.2.1 B.2.1).2 = false := by simpa using hc
   have := lirec_c A.1 A.2.1.1 A.2.1.2.1 A.2.1.2.2 va A.2.2 B.1 B.2.1.1 B.2.1.2.1 B.2.1.2.2 vb B.2.2 hn hA.2.1.v hB.2.1.v kb caps eby kA kB liwhole (BY A.2.1 B.2.1).1.1 (BY A.2.1 B.2.1).1.2.1 (BY A.2.1 B.2.1).1.2.2 w (fun V hV => by have := hby A.2.1 B.2.1 V hA.1 hB.1 hV; rwa [hc'] at this) ta tb
   refine this.mono fun e w' q => ⟨?_, q.2⟩
   rw [recP, if_neg fun q => hc q.2.1, q.1]
   exact whole_told _ _
 ·have hg' : (frB A && frB B) = false := by simpa using hg
  have := lirec_no A.1 A.2.1.1 A.2.1.2.1 A.2.1.2.2 va A.2.2 B.1 B.2.1.1 B.2.1.2.1 B.2.1.2.2 vb B.2.2 hn hA.2.1.v hB.2.1.v kb caps eby _ _ (fun V hV => form_bound A hA va V hV) (fun V hV => form_bound B hB vb V hV) liwhole hg' w ta tb
  refine this.mono fun e w' q => ⟨?_, q.2⟩
  rw [recP, if_neg fun q => hg q.1, q.1]
  exact whole_told _ _
theorem TAt.sl {W : World} {v : Value} {ls : List (Int × Bool × Int × Int)} (h : TAt W v ls) : ∃ o n c, v = .slice o n c := by
 obtain ⟨p, cap, e⟩ := h.len
 exact ⟨p, _, cap, e⟩
def TQ (F : Frm) (rw re : Bool) (rl rh : Int) : Prop := rw = F.1 ∧ re = F.2.1.1 ∧ rl = F.2.1.2.1 ∧ rh = F.2.1.2.2
theorem Told.to {F : Frm} {n : Nat} {e : Ending} {w' : World} (h : Told F n e w') : ∃ (rw re : Bool) (rl rh : Int) (rv : Value), e = .returned (.agg #[.bool rw, .bool re, .int .u64 rl, .int .u64 rh, rv]) ∧ TQ F rw re rl rh ∧ ∃ ls, ls = F.2.2 ∧ TAt w' rv ls ∧ Up n rv := by
 obtain ⟨rv, he, ht, hu⟩ := h
 exact ⟨_, _, _, _, rv, he, ⟨rfl, rfl, rfl, rfl⟩, _, rfl, ht, hu⟩
theorem Told.of {F : Frm} {n : Nat} {e : Ending} {w' : World} (h : ∃ (rw re : Bool) (rl rh : Int) (rv : Value), e = .returned (.agg #[.bool rw, .bool re, .int .u64 rl, .int .u64 rh, rv]) ∧ TQ F rw re rl rh ∧ ∃ ls, ls = F.2.2 ∧ TAt w' rv ls ∧ Up n rv) : Told F n e w' := by
 obtain ⟨rw, re, rl, rh, rv, he, ⟨rfl, rfl, rfl, rfl⟩, ls, rfl, ht, hu⟩ := h
 exact ⟨rv, he, ht, hu⟩
def addP (A B : Frm) : Frm := recP sumP A B
def negP (A : Frm) : Frm := recP (fun x _ => (trnP x, true)) A zrF
def subP (A B : Frm) : Frm := addP A (negP B)
def ofP' (r : Bool × Int × Int) : Frm := if liN r = true then (false, r, []) else whF
def ovP (q : Int) : Frm := if q < 0 then whF else (false, (false, 0, 0), [(q, false, 4607182418800017408, 4607182418800017408)])
theorem negP_ok {A : Frm} (hA : fOk A) : fOk (negP A) := (recP_ok (fun x y h _ => trnP_wd h) hA zrF_ok).1
theorem ovP_ok {q : Int} (hq : q ≤ 9223372036854775807) : fOk (ovP q) := by
 unfold ovP
 split
 ·exact whF_ok
 ·refine ⟨wd0, fun t h => ?_, by simp⟩
  simp at h
  subst h
  exact ⟨hq, word_one, word_one⟩
theorem form_add (A B : Frm) (hA : fOk A) (hB : fOk B) (va vb : Value) (w : World) (ta : TAt w va A.2.2) (tb : TAt w vb B.2.2) :
  Calls Tryz.prog 29 #[.agg #[.bool A.1, .bool A.2.1.1, .int .u64 A.2.1.2.1, .int .u64 A.2.1.2.2, va], .agg #[.bool B.1, .bool B.2.1.1, .int .u64 B.2.1.2.1, .int .u64 B.2.1.2.2, vb]] w fun e w' => Told (addP A B) w.heap.size e w' ∧ Below w.heap.size w w' :=
 (liadd A.1 A.2.1.1 A.2.1.2.1 A.2.1.2.2 va B.1 B.2.1.1 B.2.1.2.1 B.2.1.2.2 vb ta.sl tb.sl (fun V => TAt V va A.2.2 ∧ TAt V vb B.2.2) (fun W V a b => ⟨a.1.on b, a.2.on b⟩) (TQ (addP A B)) (fun _ _ _ _ ls => ls = (addP A B).2.2)
  (fun V hV => (rec_any A B hA hB va vb 13 #[] (fun a v => enters_of Tryz.func13 (by kernel_rfl) rfl a v) sumP V (fun x y V' hx hy _ => lsum_any x y hx hy V') hV.1 hV.2).mono fun e w' q => ⟨q.1.to, q.2⟩) w ⟨ta, tb⟩).mono fun e w' q => ⟨.of q.1, q.2⟩
theorem form_neg (A : Frm) (hA : fOk A) (va : Value) (w : World) (ta : TAt w va A.2.2) :
  Calls Tryz.prog 33 #[.agg #[.bool A.1, .bool A.2.1.1, .int .u64 A.2.1.2.1, .int .u64 A.2.1.2.2, va]] w fun e w' => Told (negP A) w.heap.size e w' ∧ Below w.heap.size w w' :=
 (lineg A.1 A.2.1.1 A.2.1.2.1 A.2.1.2.2 va ta.sl (fun V => TAt V va A.2.2) (fun W V a b => a.on b) (TQ (negP A)) (fun _ _ _ _ ls => ls = (negP A).2.2)
  (fun V hV => (rec_any A zrF hA zrF_ok va (.slice none 0 0) 70 #[] (fun a v => enters_of Tryz.func70 (by kernel_rfl) rfl a v) (fun x _ => (trnP x, true)) V (fun x y V' hx hy _ => lineg1 x.1 y.1 x.2.1 x.2.2 y.2.1 y.2.2 _ _ (fun V => turned_any x hx V) V') hV (Or.inl ⟨rfl, rfl⟩)).mono fun e w' q => ⟨q.1.to, q.2⟩) w ta).mono fun e w' q => ⟨.of q.1, q.2⟩
theorem form_sub (A B : Frm) (hA : fOk A) (hB : fOk B) (va vb : Value) (w : World) (ta : TAt w va A.2.2) (tb : TAt w vb B.2.2) :
  Calls Tryz.prog 31 #[.agg #[.bool A.1, .bool A.2.1.1, .int .u64 A.2.1.2.1, .int .u64 A.2.1.2.2, va], .agg #[.bool B.1, .bool B.2.1.1, .int .u64 B.2.1.2.1, .int .u64 B.2.1.2.2, vb]] w fun e w' => Told (subP A B) w.heap.size e w' ∧ Below w.heap.size w w' :=
 (lisub A.1 A.2.1.1 A.2.1.2.1 A.2.1.2.2 va B.1 B.2.1.1 B.2.1.2.1 B.2.1.2.2 vb ta.sl tb.sl (fun V => TAt V va A.2.2 ∧ TAt V vb B.2.2) (fun W V a b => ⟨a.1.on b, a.2.on b⟩) (TQ (subP A B)) (fun _ _ _ _ ls => ls = (subP A B).2.2) (TQ (negP B)) (fun _ _ _ _ ls => ls = (negP B).2.2)
  (fun V hV => (form_neg B hB vb V hV.2).mono fun e w' q => ⟨q.1.to, q.2⟩)
  (fun V nw ne nl nh nv ms hV hq hl ht => by
   obtain ⟨rfl, rfl, rfl, rfl⟩ := hq
   subst hl
   exact (form_add A (negP B) hA (negP_ok hB) va nv V hV.1 ht).mono fun e w' q => ⟨q.1.to, q.2⟩) w ⟨ta, tb⟩).mono fun e w' q => ⟨.of q.1, q.2⟩
theorem form_of (r : Bool × Int × Int) (hr : wdR r) (w : World) : Calls Tryz.prog 20 #[.agg #[.bool r.1, .int .u64 r.2.1, .int .u64 r.2.2]] w fun e w' => e = .returned (.agg #[.bool (ofP' r).1, .bool (ofP' r).2.1.1, .int .u64 (ofP' r).2.1.2.1, .int .u64 (ofP' r).2.1.2.2, .slice none 0 0]) ∧ Below w.heap.size w w' := by
 refine (liof r.1 _ r.2.1 r.2.2 (fun V => hasnum_any r hr V) liwhole w).mono fun e w' q => ⟨?_, q.2⟩
 rw [q.1, ofP']
 cases liN r <;> simp [whF]
set_option maxRecDepth 100000 in
theorem one_pow : rndQ false 0 false (nn 0 1) (clamp 0) false = 4607182418800017408 := by decide +kernel
theorem pow_0 (w : World) : Calls Tryz.prog 63 #[.int .i64 0] w fun e w' => e = .returned (.int .u64 4607182418800017408) ∧ Below w.heap.size w w' :=
 lipow 0 _ (fun V => by
  have := round_any 0 0 false 0 1 0 false word_0 ⟨by decide, by decide⟩ (by decide) (by decide) V
  rw [show ((0 : Int) == 1) = false from rfl, one_pow] at this
  exact this) w
theorem form_var (q : Int) (w : World) : Calls Tryz.prog 22 #[.int .i64 q] w fun e w' => Told (ovP q) w.heap.size e w' ∧ Below w.heap.size w w' := by
 by_cases h : q < 0
 ·refine (liov_no q h liwhole w).mono fun e w' r => ⟨?_, r.2⟩
  rw [ovP, if_pos h, r.1]
  exact whole_told _ _
 ·refine (liov q _ (by omega) pow_0 w).mono fun e w' r => ⟨?_, r.2⟩
  obtain ⟨v, he, ht, hu⟩ := r.1
  rw [ovP, if_neg h]
  exact ⟨v, he, ht, hu⟩
set_option maxRecDepth 100000 in
theorem live_sub : subP (ovP 0) (ovP 0) = zrF := by decide +kernel
set_option maxRecDepth 100000 in
theorem live_right : frR (ovP 0) = true := by decide +kernel
theorem lilive_any (w : World) : Calls Tryz.prog 17 #[] w fun e w' => e = .returned (.bool true) ∧ Below w.heap.size w w' :=
 lilive (ovP 0).2.2 (fun V => form_var 0 V)
  (fun V v hv => (form_sub (ovP 0) (ovP 0) (ovP_ok (by decide)) (ovP_ok (by decide)) v v V hv hv).mono fun e w' q => by
   obtain ⟨⟨rv, he, ht, hu⟩, hb⟩ := q
   rw [live_sub] at he ht
   exact ⟨⟨rv, he, ht⟩, hb⟩)
  (fun V v hv => by have := form_right (ovP 0) (ovP_ok (by decide)) v V hv; rwa [live_right] at this)
  (fun V => form_of (true, 0, 0) wd0 V) w
end Go.Proofs.YteafnkimcidkhaaGreat



namespace Go.Proofs.YteafnkimcidkhaaGreat
set_option linter.unusedVariables false
set_option linter.unusedSimpArgs false
end Go.Proofs.YteafnkimcidkhaaGreat


namespace Go.Proofs.YteafnkimcidkhaaGreat
open Go.RowKit
set_option linter.unusedVariables false
set_option linter.unusedSimpArgs false
def le2 (n : Nat) (e : Int) (m : Nat) (f : Int) : Prop := n * 2 ^ (e - min e f).toNat ≤ m * 2 ^ (f - min e f).toNat
theorem le2_at {n : Nat} {e : Int} {m : Nat} {f : Int} (E : Int) (h1 : E ≤ e) (h2 : E ≤ f) : le2 n e m f ↔ n * 2 ^ (e - E).toNat ≤ m * 2 ^ (f - E).toNat := by
 unfold le2
 have a : (e - E).toNat = (e - min e f).toNat + (min e f - E).toNat := by omega
 have b : (f - E).toNat = (f - min e f).toNat + (min e f - E).toNat := by omega
 rw [a, b, Nat.pow_add, Nat.pow_add, ← Nat.mul_assoc, ← Nat.mul_assoc]
 exact (Nat.mul_le_mul_right_iff (Nat.two_pow_pos _)).symm
theorem le2_up (n k : Nat) (e : Int) : le2 n e (n * 2 ^ k) (e - k) ∧ le2 (n * 2 ^ k) (e - k) n e := by
 constructor
 ·refine (le2_at (e - k) (by omega) (by omega)).2 ?_
  rw [show (e - (e - (k : Int))).toNat = k by omega, show (e - (k : Int) - (e - k)).toNat = 0 by omega, Nat.pow_zero, Nat.mul_one]
  exact Nat.le_refl _
 ·refine (le2_at (e - k) (by omega) (by omega)).2 ?_
  rw [show (e - (e - (k : Int))).toNat = k by omega, show (e - (k : Int) - (e - k)).toNat = 0 by omega, Nat.pow_zero, Nat.mul_one]
  exact Nat.le_refl _
theorem worth (s b : Bool) (z : Nat) (h : (z : Int) < fI s) : le2 (val s z) (fL s) (whl s (sgnd s b z)).toNat (pwr s (sgnd s b z)) ∧ le2 (whl s (sgnd s b z)).toNat (pwr s (sgnd s b z)) (val s z) (fL s) := by
 obtain ⟨x, q, e, q1, q2, w, p⟩ := size_parts s b z h
 rw [w, p]
 have v := val_at s x q (by omega) q2
 rw [← e] at v
 rw [v]
 obtain ⟨a, b⟩ := le2_up q x (fL s + x)
 rw [show fL s + (x : Int) - x = fL s by omega] at a b
 exact ⟨b, a⟩
theorem down2 (s : Bool) {n : Nat} (h : n ≠ 0) (e : Int) : ∃ z : Nat, mag s 2 false n e = z ∧ (z : Int) < fI s ∧ le2 (val s z) (fL s) n e := by
 obtain ⟨z, a, b, c⟩ := mag_down s 2 false (fun o h l => by cases o <;> cases h <;> cases l <;> rfl) h e (min e (fL s)) (by omega) (by omega)
 exact ⟨z, a, b, (le2_at _ (by omega) (by omega)).2 c⟩
end Go.Proofs.YteafnkimcidkhaaGreat



namespace Go.Proofs.YteafnkimcidkhaaGreat
set_option linter.unusedVariables false
set_option linter.unusedSimpArgs false
def mgF (s : Bool) (n : Nat) (e : Int) : Int := if n = 0 then 0 else mag s 0 false n e
def rk (s : Bool) (n : Int) (e : Int) : Int := if n < 0 then -(mgF s n.natAbs e) else mgF s n.natAbs e
def sg (b : Bool) (n : Nat) : Int := if b then -(n : Int) else n
theorem parts_val (s b : Bool) (z : Nat) (h : (z : Int) < fI s) : ∃ x : Nat, pwr s (sgnd s b z) = fL s + x ∧ val s z = (whl s (sgnd s b z)).toNat * 2 ^ x ∧ x ≤ z := by
 obtain ⟨x, q, e, q1, q2, w, p⟩ := size_parts s b z h
 refine ⟨x, p, ?_, ?_⟩
 ·rw [w, e]; exact val_at s x q (by omega) q2
 ·rw [e]
  have := Nat.le_mul_of_pos_right x (Nat.two_pow_pos (fP s))
  omega
theorem made_fin (s b : Bool) (z : Nat) (h : (z : Int) < fI s) : (cls s (sgnd s b z) == 0 || cls s (sgnd s b z) == 5) = false ∧ (cls s (sgnd s b z) == 4) = false := n_num (n_fin s b z h)
def stk (A D : Nat) : Nat := 2 * (A / D) + (decide (A % D ≠ 0)).toNat
def mq (s : Bool) (K A D : Nat) : Int := mgF s (stk (A * 2 ^ K) D) (-(K : Int) - 1)
def rq (s : Bool) (K : Nat) (n : Int) (D : Nat) : Int := if n < 0 then -(mq s K n.natAbs D) else mq s K n.natAbs D
end Go.Proofs.YteafnkimcidkhaaGreat



namespace Go.Proofs.YteafnkimcidkhaaGreat
set_option linter.unusedVariables false
set_option linter.unusedSimpArgs false
def vl (s : Bool) (r : Int) : Int := if r < 0 then -(val s r.natAbs : Int) else (val s r.natAbs : Int)
theorem mk_at (s : Bool) (r : Int) : ∃ b : Bool, mk s r = sgnd s b (r.natAbs : Nat) ∧ sg b (val s r.natAbs) = vl s r ∧ b = decide (r < 0) := by
 unfold mk vl sg
 by_cases h : r < 0
 ·exact ⟨true, by rw [if_pos h]; congr 1; omega, by simp [h], by simp [h]⟩
 ·refine ⟨false, ?_, by simp [h], by simp [h]⟩
  rw [if_neg h]
  show r = (r.natAbs : Int)
  omega
def kN (s : Bool) : Nat := 130 + (fI s).toNat
def R (s : Bool) (op x y : Int) : Int := if op = 8 then rk s (vl s x + vl s y) (fL s) else if op = 9 then rk s (vl s x - vl s y) (fL s) else if op = 10 then rk s (vl s x * vl s y) (fL s + fL s) else rq s (kN s) (if y < 0 then -(vl s x) else vl s x) (val s y.natAbs)
end Go.Proofs.YteafnkimcidkhaaGreat



namespace Go.Proofs.YteafnkimcidkhaaGreat
open Go.RowKit
set_option linter.unusedVariables false
set_option linter.unusedSimpArgs false
/-! ### What is kept, bit by bit from the top -/
end Go.Proofs.YteafnkimcidkhaaGreat
namespace Go.Proofs.YteafnkimcidkhaaGreat
open Go.RowKit
set_option linter.unusedVariables false
set_option linter.unusedSimpArgs false
end Go.Proofs.YteafnkimcidkhaaGreat
namespace Go.Proofs.YteafnkimcidkhaaGreat
open Go.RowKit
set_option linter.unusedVariables false

def RowB (w : World) (b n : Nat) (f : Nat → Bool) : Prop := ∀ i, i < n → w.cell? ⟨b, i, none⟩ = some (.bool (f i))
def RowF (w : World) (b n : Nat) : Prop := ∀ i, i < n → w.frozen? ⟨b, i, none⟩ = false
theorem RowB.below {W w1 : World} {b n : Nat} {f : Nat → Bool} (h : RowB W b n f) (hb : Below W.heap.size W w1) (hs : b < W.heap.size) : RowB w1 b n f := fun i hi => by
 rw [(bcell hb).1 _ _ hs]; exact h i hi
theorem RowF.below {W w1 : World} {b n : Nat} (h : RowF W b n) (hb : Below W.heap.size W w1) (hs : b < W.heap.size) : RowF w1 b n := fun i hi => by
 rw [(bcell hb).2 _ _ hs]; exact h i hi
theorem RowF.set {W : World} {b n : Nat} (h : RowF W b n) (a : Addr) (v : Value) : RowF (W.setCell a v) b n := fun i hi => by
 simpa [go_sem] using h i hi
theorem RowB.set {W : World} {b n : Nat} {f : Nat → Bool} (h : RowB W b n f) (k : Nat) (v : Bool) (hk : k < n) : RowB (W.setCell ⟨b, k, none⟩ (.bool v)) b n (fun i => if i = k then v else f i) := fun i hi => by
 by_cases e : i = k
 ·subst e
  simp [go_sem, h i hi]
 ·rw [World.cell?_setCell_other _ _ _ _ (by first | (simp; done) | (simp; omega)), h i hi]
  simp [e]
theorem RowB.far {W : World} {b n : Nat} {f : Nat → Bool} (h : RowB W b n f) (a : Addr) (v : Value) (hk : a.block ≠ b) : RowB (W.setCell a v) b n f := fun i hi => by
 rw [World.cell?_setCell_far _ _ _ _ (by simpa using hk)]; exact h i hi
theorem RowB.drew {W : World} {b n : Nat} {f : Nat → Bool} (h : RowB W b n f) : RowB W.drew b n f := h
theorem RowF.drew {W : World} {b n : Nat} (h : RowF W b n) : RowF W.drew b n := h
theorem RowB.ext {W : World} {b n : Nat} {f g : Nat → Bool} (h : RowB W b n f) (e : ∀ i, i < n → f i = g i) : RowB W b n g := fun i hi => by rw [h i hi, e i hi]
def N (h l : Int) : Nat := (num h l).toNat
end Go.Proofs.YteafnkimcidkhaaGreat
namespace Go.Proofs.YteafnkimcidkhaaGreat
open Go.RowKit
set_option linter.unusedVariables false
set_option linter.unusedSimpArgs false
end Go.Proofs.YteafnkimcidkhaaGreat
namespace Go.Proofs.YteafnkimcidkhaaGreat
open Go.RowKit
set_option linter.unusedVariables false
set_option linter.unusedSimpArgs false
end Go.Proofs.YteafnkimcidkhaaGreat
namespace Go.Proofs.YteafnkimcidkhaaGreat
open Go.RowKit
set_option linter.unusedVariables false

def IsFrom (f : Nat → Bool) (k x : Nat) : Prop := ∀ j, x.testBit j = (decide (j < k) && f j)
theorem IsFrom.skip {f : Nat → Bool} {k x : Nat} (h : IsFrom f k x) (hf : f k = false) : IsFrom f (k + 1) x := fun j => by
 rw [h j]
 by_cases e : j = k
 ·subst e; simp [hf]
 ·have : (decide (j < k)) = decide (j < k + 1) := by rw [decide_eq_decide]; omega
  rw [this]
theorem IsFrom.step {f : Nat → Bool} {k x y : Nat} (h : IsFrom f k x) (hf : f k = true) (hy : ∀ j, y.testBit j = (x.testBit j || decide (j = k))) : IsFrom f (k + 1) y := fun j => by
 rw [hy j, h j]
 by_cases e : j = k
 ·subst e; simp [hf]
 ·have : (decide (j < k)) = decide (j < k + 1) := by rw [decide_eq_decide]; omega
  rw [this]; simp [e]
end Go.Proofs.YteafnkimcidkhaaGreat
namespace Go.Proofs.YteafnkimcidkhaaGreat
open Go.RowKit
set_option linter.unusedVariables false
set_option linter.unusedSimpArgs false
end Go.Proofs.YteafnkimcidkhaaGreat
namespace Go.Proofs.YteafnkimcidkhaaGreat
open Go.RowKit
set_option linter.unusedVariables false
set_option linter.unusedSimpArgs false
end Go.Proofs.YteafnkimcidkhaaGreat
namespace Go.Proofs.YteafnkimcidkhaaGreat
open Go.RowKit
set_option linter.unusedVariables false
set_option linter.unusedSimpArgs false
def BitV (w : World) (v : Value) (n A : Nat) : Prop := A < 2 ^ n ∧ ((v = .slice none 0 0 ∧ n = 0) ∨ ∃ b cap, v = .slice (some ⟨b, 0, none⟩) n cap ∧ b < w.heap.size ∧ RowB w b n (fun i => A.testBit i))
theorem length_nil (w : World) : Calls Tryz.prog 128 #[.slice none 0 0] w fun e w' => e = .returned (.int .i64 0) ∧ w' = w := by
 go_enter Tryz.func128, Tryz.ntmps128
 go_wp2
 go_loopw [3] (fun i wr => i = .int .i64 0 ∧ wr = w) (fun i _ => 0)
 case atStart => exact ⟨rfl, rfl⟩
 case round =>
  obtain ⟨rfl, rfl⟩ := hrel
  go_wp2
  go_ret
  exact ⟨rfl, rfl⟩
/-! ### Rows of bits that the call itself makes -/
theorem BitV.below {W w1 : World} {v : Value} {n A : Nat} (h : BitV W v n A) (hb : Below W.heap.size W w1) : BitV w1 v n A := by
 obtain ⟨a, h⟩ := h
 refine ⟨a, ?_⟩
 rcases h with h | ⟨b, cap, e, hs, row⟩
 ·exact Or.inl h
 ·exact Or.inr ⟨b, cap, e, Nat.lt_of_lt_of_le hs hb.size, row.below hb hs⟩
end Go.Proofs.YteafnkimcidkhaaGreat
namespace Go.Proofs.YteafnkimcidkhaaGreat
open Go.RowKit
set_option linter.unusedVariables false

theorem bitN (A k : Nat) : A.testBit k = decide (A / 2 ^ k % 2 = 1) := Nat.testBit_eq_decide_div_mod_eq
end Go.Proofs.YteafnkimcidkhaaGreat
namespace Go.Proofs.YteafnkimcidkhaaGreat
open Go.RowKit
set_option linter.unusedVariables false

structure TwoMem (n : Nat) (ah al bh bl : Int) (w : World) : Prop where
 s0 : n < w.heap.size
 s1 : n + 1 < w.heap.size
 s2 : n + 1 + 1 < w.heap.size
 c0 : w.cell? ⟨n, 0, none⟩ = some (.int .u64 ah)
 c1 : w.cell? ⟨n, 1, none⟩ = some (.int .u64 al)
 d0 : w.cell? ⟨n + 1, 0, none⟩ = some (.int .u64 bh)
 d1 : w.cell? ⟨n + 1, 1, none⟩ = some (.int .u64 bl)
 e0 : ∃ x, w.cell? ⟨n + 1 + 1, 0, none⟩ = some (.int .u64 x)
 e1 : ∃ x, w.cell? ⟨n + 1 + 1, 1, none⟩ = some (.int .u64 x)
 f0 : w.frozen? ⟨n + 1 + 1, 0, none⟩ = false
 f1 : w.frozen? ⟨n + 1 + 1, 1, none⟩ = false
theorem TwoMem.below {n : Nat} {ah al bh bl : Int} {W w1 : World} (h : TwoMem n ah al bh bl W) (hb : Below W.heap.size W w1) : TwoMem n ah al bh bl w1 := by
 obtain ⟨hc, hf⟩ := bcell hb
 have hs := hb.size
 refine ⟨by have := h.s0; omega, by have := h.s1; omega, by have := h.s2; omega, ?_, ?_, ?_, ?_, ?_, ?_, ?_, ?_⟩
 ·rw [hc _ _ h.s0]; exact h.c0
 ·rw [hc _ _ h.s0]; exact h.c1
 ·rw [hc _ _ h.s1]; exact h.d0
 ·rw [hc _ _ h.s1]; exact h.d1
 ·rw [hc _ _ h.s2]; exact h.e0
 ·rw [hc _ _ h.s2]; exact h.e1
 ·rw [hf _ _ h.s2]; exact h.f0
 ·rw [hf _ _ h.s2]; exact h.f1
theorem TwoMem.drew {n : Nat} {ah al bh bl : Int} {W : World} (h : TwoMem n ah al bh bl W) : TwoMem n ah al bh bl W.drew :=
 ⟨h.s0, h.s1, h.s2, h.c0, h.c1, h.d0, h.d1, h.e0, h.e1, h.f0, h.f1⟩
/-! ### Differences -/
end Go.Proofs.YteafnkimcidkhaaGreat
namespace Go.Proofs.YteafnkimcidkhaaGreat
open Go.RowKit
set_option linter.unusedVariables false

structure OneMem (n : Nat) (ah al : Int) (w : World) : Prop where
 s0 : n < w.heap.size
 s1 : n + 1 < w.heap.size
 c0 : w.cell? ⟨n, 0, none⟩ = some (.int .u64 ah)
 c1 : w.cell? ⟨n, 1, none⟩ = some (.int .u64 al)
 e0 : ∃ x, w.cell? ⟨n + 1, 0, none⟩ = some (.int .u64 x)
 e1 : ∃ x, w.cell? ⟨n + 1, 1, none⟩ = some (.int .u64 x)
 f0 : w.frozen? ⟨n + 1, 0, none⟩ = false
 f1 : w.frozen? ⟨n + 1, 1, none⟩ = false
theorem OneMem.below {n : Nat} {ah al : Int} {W w1 : World} (h : OneMem n ah al W) (hb : Below W.heap.size W w1) : OneMem n ah al w1 := by
 obtain ⟨hc, hf⟩ := bcell hb
 have hs := hb.size
 refine ⟨by have := h.s0; omega, by have := h.s1; omega, ?_, ?_, ?_, ?_, ?_, ?_⟩
 ·rw [hc _ _ h.s0]; exact h.c0
 ·rw [hc _ _ h.s0]; exact h.c1
 ·rw [hc _ _ h.s1]; exact h.e0
 ·rw [hc _ _ h.s1]; exact h.e1
 ·rw [hf _ _ h.s1]; exact h.f0
 ·rw [hf _ _ h.s1]; exact h.f1
theorem OneMem.far {n : Nat} {ah al : Int} {W : World} (h : OneMem n ah al W) (a : Addr) (v : Value) (h0 : a.block ≠ n) (h1 : a.block ≠ n + 1) : OneMem n ah al (W.setCell a v) := by
 obtain ⟨s0, s1, c0, c1, e0, e1, f0, f1⟩ := h
 refine ⟨by simpa using s0, by simpa using s1, ?_, ?_, ?_, ?_, by simpa [go_sem] using f0, by simpa [go_sem] using f1⟩
 ·rw [World.cell?_setCell_far _ _ _ _ h0]; exact c0
 ·rw [World.cell?_setCell_far _ _ _ _ h0]; exact c1
 ·rw [World.cell?_setCell_far _ _ _ _ h1]; exact e0
 ·rw [World.cell?_setCell_far _ _ _ _ h1]; exact e1
/-! ### Up -/
def upTo (A M k : Nat) (j : Nat) : Bool := decide (k ≤ j) && (decide (M ≤ j) && A.testBit (j - M))
/-! ### Down -/
end Go.Proofs.YteafnkimcidkhaaGreat
namespace Go.Proofs.YteafnkimcidkhaaGreat
open Go.RowKit
set_option linter.unusedVariables false

structure SumMem (n : Nat) (sh sl : Int) (w : World) : Prop where
 s0 : n < w.heap.size
 s1 : n + 1 < w.heap.size
 d0 : ∃ x, w.cell? ⟨n, 0, none⟩ = some (.int .u64 x)
 d1 : ∃ x, w.cell? ⟨n, 1, none⟩ = some (.int .u64 x)
 e0 : w.cell? ⟨n + 1, 0, none⟩ = some (.int .u64 sh)
 e1 : w.cell? ⟨n + 1, 1, none⟩ = some (.int .u64 sl)
 f0 : w.frozen? ⟨n, 0, none⟩ = false
 f1 : w.frozen? ⟨n, 1, none⟩ = false
 f2 : w.frozen? ⟨n + 1, 0, none⟩ = false
 f3 : w.frozen? ⟨n + 1, 1, none⟩ = false
theorem SumMem.below {n : Nat} {sh sl : Int} {W w1 : World} (h : SumMem n sh sl W) (hb : Below W.heap.size W w1) : SumMem n sh sl w1 := by
 obtain ⟨hc, hf⟩ := bcell hb
 have hs := hb.size
 refine ⟨by have := h.s0; omega, by have := h.s1; omega, ?_, ?_, ?_, ?_, ?_, ?_, ?_, ?_⟩
 ·rw [hc _ _ h.s0]; exact h.d0
 ·rw [hc _ _ h.s0]; exact h.d1
 ·rw [hc _ _ h.s1]; exact h.e0
 ·rw [hc _ _ h.s1]; exact h.e1
 ·rw [hf _ _ h.s0]; exact h.f0
 ·rw [hf _ _ h.s0]; exact h.f1
 ·rw [hf _ _ h.s1]; exact h.f2
 ·rw [hf _ _ h.s1]; exact h.f3
theorem SumMem.set {n : Nat} {sh sl : Int} {W : World} (h : SumMem n sh sl W) (x y : Int) : SumMem n x y ((W.setCell ⟨n + 1, 0, none⟩ (.int .u64 x)).setCell ⟨n + 1, 1, none⟩ (.int .u64 y)) := by
 obtain ⟨s0, s1, ⟨x0, d0⟩, ⟨x1, d1⟩, e0, e1, f0, f1, f2, f3⟩ := h
 refine ⟨by simpa using s0, by simpa using s1, ⟨x0, ?_⟩, ⟨x1, ?_⟩, ?_, ?_, ?_, ?_, ?_, ?_⟩ <;> simp [go_sem, *]
theorem SumMem.drew {n : Nat} {sh sl : Int} {W : World} (h : SumMem n sh sl W) : SumMem n sh sl W.drew := ⟨h.s0, h.s1, h.d0, h.d1, h.e0, h.e1, h.f0, h.f1, h.f2, h.f3⟩
end Go.Proofs.YteafnkimcidkhaaGreat
namespace Go.Proofs.YteafnkimcidkhaaGreat
open Go.RowKit
set_option linter.unusedVariables false
set_option linter.unusedSimpArgs false
end Go.Proofs.YteafnkimcidkhaaGreat
namespace Go.Proofs.YteafnkimcidkhaaGreat
open Go.RowKit
set_option linter.unusedVariables false

/-! ### The number of bits -/
structure LenTo (A k n : Nat) : Prop where
 le : n ≤ k
 lt : A % 2 ^ k < 2 ^ n
 ge : A % 2 ^ k = 0 ∨ 2 ^ n ≤ 2 * (A % 2 ^ k)
 zero : A % 2 ^ k = 0 → n = 0
theorem LenTo.no {A k n : Nat} (h : LenTo A k n) (hb : A.testBit k = false) : LenTo A (k + 1) n := by
 rw [bitN, decide_eq_false_iff_not] at hb
 have e : A % 2 ^ (k + 1) = A % 2 ^ k := by
  rw [Nat.mod_pow_succ]
  have : A / 2 ^ k % 2 = 0 := by omega
  rw [this]; omega
 exact ⟨by have := h.le; omega, by rw [e]; exact h.lt, by rw [e]; exact h.ge, by rw [e]; exact h.zero⟩
/-! ### Which one is greater -/
end Go.Proofs.YteafnkimcidkhaaGreat



