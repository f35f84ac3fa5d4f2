/- Forms as plain functions: Right, isBounded, Add, Neg, Sub, Scale, Of, OfVar, live. -/
import Derived.Test.YteafnkimcidkhaaGreatLiT
namespace Go.Proofs.YteafnkimcidkhaaGreat
open Go.RowKit Go.Shelf
set_option linter.unusedVariables false
set_option linter.unusedSimpArgs false
/-- A form: Whole, Const, Terms. -/
abbrev Frm := Bool × (Bool × Int × Int) × List (Int × Bool × Int × Int)
def frR (F : Frm) : Bool := fR liN liZ F.1 F.2.1 F.2.2
def frB (F : Frm) : Bool := frR F && !F.1
def tOk (ls : List (Int × Bool × Int × Int)) : Prop := ∀ t ∈ ls, t.1 ≤ 9223372036854775807 ∧ wdR t.2
def fOk (F : Frm) : Prop := wdR F.2.1 ∧ tOk F.2.2 ∧ F.2.2.length ≤ 400
def whF : Frm := (true, (false, 0, 0), [])
def zrF : Frm := (false, (false, 0, 0), [])
/-- A form is told, and lies at n or above. -/
def Told (F : Frm) (n : Nat) (e : Ending) (w' : World) : Prop := ∃ rv, e = .returned (.agg #[.bool F.1, .bool F.2.1.1, .int .u64 F.2.1.2.1, .int .u64 F.2.1.2.2, rv]) ∧ TAt w' rv F.2.2 ∧ Up n rv
theorem tOk.v {ls : List (Int × Bool × Int × Int)} (h : tOk ls) : vOk ls := fun t ht => (h t ht).1
theorem wd0 : wdR (false, 0, 0) := ⟨word_0, word_0⟩
theorem whF_ok : fOk whF := ⟨wd0, fun t h => absurd h (by simp [whF]), by simp [whF]⟩
theorem zrF_ok : fOk zrF := ⟨wd0, fun t h => absurd h (by simp [zrF]), by simp [zrF]⟩
theorem whole_told (n : Nat) (w : World) : Told whF n (.returned (.agg #[.bool true, .bool false, .int .u64 0, .int .u64 0, .slice none 0 0])) w :=
  ⟨.slice none 0 0, rfl, Or.inl ⟨rfl, rfl⟩, fun b o k c e => by cases e⟩
theorem form_right (F : Frm) (h : fOk F) (v : Value) (w : World) (hv : TAt w v F.2.2) : Calls Tryz.prog 24 #[.agg #[.bool F.1, .bool F.2.1.1, .int .u64 F.2.1.2.1, .int .u64 F.2.1.2.2, v]] w fun e w' => e = .returned (.bool (frR F)) ∧ Below w.heap.size w w' :=
  liright liN liZ F.1 F.2.1.1 F.2.1.2.1 F.2.1.2.2 F.2.2 (by have := h.2.2; omega) v (fun V => hasnum_any F.2.1 h.1 V)
    (fun V hV => litms liN liZ F.2.2 (by have := h.2.2; omega) v (fun t ht V => hasnum_any t.2 (h.2.1 t ht).2 V) (fun t ht V => iszero_any t.2 V) V hV) w hv
theorem form_bound (F : Frm) (h : fOk F) (v : Value) (w : World) (hv : TAt w v F.2.2) : Calls Tryz.prog 73 #[.agg #[.bool F.1, .bool F.2.1.1, .int .u64 F.2.1.2.1, .int .u64 F.2.1.2.2, v]] w fun e w' => e = .returned (.bool (frB F)) ∧ Below w.heap.size w w' := by
  obtain ⟨p, cap, rfl⟩ := hv.len
  exact libound F.1 F.2.1.1 F.2.1.2.1 F.2.1.2.2 p _ cap (fun V => TAt V (.slice p F.2.2.length cap) F.2.2) (fun W V a b => a.on b) _ (fun V hV => form_right F h _ V hV) w hv
instance (BY : Bool × Int × Int → Bool × Int × Int → (Bool × Int × Int) × Bool) (ca cb : Bool × Int × Int) (az bz : List (Int × Bool × Int × Int)) : Decidable (RecOk BY ca cb az bz) := by unfold RecOk; infer_instance
/-- What reckoned tells. -/
def recP (BY : Bool × Int × Int → Bool × Int × Int → (Bool × Int × Int) × Bool) (A B : Frm) : Frm :=
  if (frB A && frB B) = true ∧ RecOk BY A.2.1 B.2.1 A.2.2 B.2.2 then (false, (BY A.2.1 B.2.1).1, recL BY (mg (A.2.2.length + B.2.2.length) A.2.2 B.2.2)) else whF
theorem tk_wd {ls : List (Int × Bool × Int × Int)} (h : tOk ls) (q : Int) : wdR (tk ls q).1 ∧ tOk (tk ls q).2 := by
  cases ls with
  | nil => exact ⟨wd0, fun t h => absurd h (by simp [tk])⟩
  | cons t ts =>
    rw [show tk (t :: ts) q = if t.1 = q then (t.2, ts) else ((false, 0, 0), t :: ts) from rfl]
    split
    · exact ⟨(h t (by simp)).2, fun x hx => h x (by simp [hx])⟩
    · exact ⟨wd0, h⟩
theorem fv_top {ls : List (Int × Bool × Int × Int)} (h : tOk ls) : fv ls ≤ 9223372036854775807 := fv_ok h.v
theorem mg_wd : ∀ (k : Nat) (az bz : List (Int × Bool × Int × Int)), tOk az → tOk bz → ∀ x ∈ mg k az bz, x.1 ≤ 9223372036854775807 ∧ wdR x.2.1 ∧ wdR x.2.2
  | 0, _, _, _, _, x, hx => by simp [mg] at hx
  | k + 1, az, bz, ha, hb, x, hx => by
    unfold mg at hx
    split at hx
    · simp at hx
    · rcases List.mem_cons.1 hx with rfl | hx
      · have := fv_top ha
        exact ⟨by simp only; omega, (tk_wd ha _).1, (tk_wd hb _).1⟩
      · exact mg_wd k _ _ (tk_wd ha _).2 (tk_wd hb _).2 x hx
theorem recL_mem {BY : Bool × Int × Int → Bool × Int × Int → (Bool × Int × Int) × Bool} : ∀ {l : List (Int × (Bool × Int × Int) × (Bool × Int × Int))} {t : Int × Bool × Int × Int}, t ∈ recL BY l → ∃ x ∈ l, t = (x.1, (BY x.2.1 x.2.2).1)
  | [], t, h => by simp [recL] at h
  | x :: r, t, h => by
    unfold recL at h
    split at h
    · obtain ⟨y, hy, e⟩ := recL_mem h
      exact ⟨y, by simp [hy], e⟩
    · rcases List.mem_cons.1 h with rfl | h
      · exact ⟨x, by simp, rfl⟩
      · obtain ⟨y, hy, e⟩ := recL_mem h
        exact ⟨y, by simp [hy], e⟩
theorem recP_ok {BY : Bool × Int × Int → Bool × Int × Int → (Bool × Int × Int) × Bool} (bw : ∀ x y, wdR x → wdR y → wdR (BY x y).1) {A B : Frm} (hA : fOk A) (hB : fOk B) : fOk (recP BY A B) ∧ (recP BY A B).2.2.length ≤ 16 := by
  unfold recP
  split
  · rename_i h
    refine ⟨⟨bw _ _ hA.1 hB.1, fun t ht => ?_, ?_⟩, h.2.2.2⟩
    · obtain ⟨x, hx, rfl⟩ := recL_mem ht
      obtain ⟨h1, h2, h3⟩ := mg_wd _ _ _ hA.2.1 hB.2.1 x hx
      exact ⟨h1, bw _ _ h2 h3⟩
    · have := h.2.2.2
      simp only
      omega
  · exact ⟨whF_ok, by simp [whF]⟩
set_option maxRecDepth 100000 in
theorem rec_any (A B : Frm) (hA : fOk A) (hB : fOk B) (va vb : Value) (kb : Nat) (caps : Array Value) (eby : ∀ args w, (callFunc kb args).run Tryz.prog w = .ok (.enter kb args) w) (BY : Bool × Int × Int → Bool × Int × Int → (Bool × Int × Int) × Bool) (w : World)
    (hby : ∀ x y V, wdR x → wdR y → Below w.heap.size w V → Calls Tryz.prog kb (#[.agg #[.bool x.1, .int .u64 x.2.1, .int .u64 x.2.2], .agg #[.bool y.1, .int .u64 y.2.1, .int .u64 y.2.2]] ++ caps) V fun e V' => e = .returned (.tuple #[.agg #[.bool (BY x y).1.1, .int .u64 (BY x y).1.2.1, .int .u64 (BY x y).1.2.2], .bool (BY x y).2]) ∧ Below V.heap.size V V')
    (ta : TAt w va A.2.2) (tb : TAt w vb B.2.2) :
    Calls Tryz.prog 67 #[.agg #[.bool A.1, .bool A.2.1.1, .int .u64 A.2.1.2.1, .int .u64 A.2.1.2.2, va], .agg #[.bool B.1, .bool B.2.1.1, .int .u64 B.2.1.2.1, .int .u64 B.2.1.2.2, vb], .func (.func kb) #[] caps] w fun e w' => Told (recP BY A B) w.heap.size e w' ∧ Below w.heap.size w w' := by
  have hn : A.2.2.length + B.2.2.length ≤ 1000 := by have := hA.2.2; have := hB.2.2; omega
  by_cases hg : (frB A && frB B) = true
  · obtain ⟨g1, g2⟩ : frB A = true ∧ frB B = true := by simpa using hg
    have kA : ∀ V, TAt V va A.2.2 → Calls Tryz.prog 73 #[.agg #[.bool A.1, .bool A.2.1.1, .int .u64 A.2.1.2.1, .int .u64 A.2.1.2.2, va]] V fun e w' => e = .returned (.bool true) ∧ Below V.heap.size V w' := fun V hV => by
      have := form_bound A hA va V hV
      rwa [g1] at this
    have kB : ∀ V, TAt V vb B.2.2 → Calls Tryz.prog 73 #[.agg #[.bool B.1, .bool B.2.1.1, .int .u64 B.2.1.2.1, .int .u64 B.2.1.2.2, vb]] V fun e w' => e = .returned (.bool true) ∧ Below V.heap.size V w' := fun V hV => by
      have := form_bound B hB vb V hV
      rwa [g2] at this
    by_cases hc : (BY A.2.1 B.2.1).2 = true
    · have := lirec_ok A.1 A.2.1.1 A.2.1.2.1 A.2.1.2.2 va A.2.2 B.1 B.2.1.1 B.2.1.2.1 B.2.1.2.2 vb B.2.2 hn hA.2.1.v hB.2.1.v kb caps eby kA kB liwhole BY wdR hA.1 hB.1 w hby (fun x hx => (mg_wd _ _ _ hA.2.1 hB.2.1 x hx).2) (fun x V => iszero_any x V) hc ta tb
      refine this.mono fun e w' q => ⟨?_, q.2⟩
      rcases q.1 with ⟨ok, v', he, ht, hu⟩ | ⟨nok, he⟩
      · rw [recP, if_pos ⟨hg, ok⟩]
        exact ⟨v', he, ht, hu⟩
      · rw [recP, if_neg fun q => nok q.2, he]
        exact whole_told _ _
    · have hc' : (BY A.2.1 B.2.1).2 = false := by simpa using hc
      have := lirec_c A.1 A.2.1.1 A.2.1.2.1 A.2.1.2.2 va A.2.2 B.1 B.2.1.1 B.2.1.2.1 B.2.1.2.2 vb B.2.2 hn hA.2.1.v hB.2.1.v kb caps eby kA kB liwhole (BY A.2.1 B.2.1).1.1 (BY A.2.1 B.2.1).1.2.1 (BY A.2.1 B.2.1).1.2.2 w (fun V hV => by have := hby A.2.1 B.2.1 V hA.1 hB.1 hV; rwa [hc'] at this) ta tb
      refine this.mono fun e w' q => ⟨?_, q.2⟩
      rw [recP, if_neg fun q => hc q.2.1, q.1]
      exact whole_told _ _
  · have hg' : (frB A && frB B) = false := by simpa using hg
    have := lirec_no A.1 A.2.1.1 A.2.1.2.1 A.2.1.2.2 va A.2.2 B.1 B.2.1.1 B.2.1.2.1 B.2.1.2.2 vb B.2.2 hn hA.2.1.v hB.2.1.v kb caps eby _ _ (fun V hV => form_bound A hA va V hV) (fun V hV => form_bound B hB vb V hV) liwhole hg' w ta tb
    refine this.mono fun e w' q => ⟨?_, q.2⟩
    rw [recP, if_neg fun q => hg q.1, q.1]
    exact whole_told _ _
theorem TAt.sl {W : World} {v : Value} {ls : List (Int × Bool × Int × Int)} (h : TAt W v ls) : ∃ o n c, v = .slice o n c := by
  obtain ⟨p, cap, e⟩ := h.len
  exact ⟨p, _, cap, e⟩
/-- The same in the other words. -/
def TQ (F : Frm) (rw re : Bool) (rl rh : Int) : Prop := rw = F.1 ∧ re = F.2.1.1 ∧ rl = F.2.1.2.1 ∧ rh = F.2.1.2.2
theorem Told.to {F : Frm} {n : Nat} {e : Ending} {w' : World} (h : Told F n e w') : ∃ (rw re : Bool) (rl rh : Int) (rv : Value), e = .returned (.agg #[.bool rw, .bool re, .int .u64 rl, .int .u64 rh, rv]) ∧ TQ F rw re rl rh ∧ ∃ ls, ls = F.2.2 ∧ TAt w' rv ls ∧ Up n rv := by
  obtain ⟨rv, he, ht, hu⟩ := h
  exact ⟨_, _, _, _, rv, he, ⟨rfl, rfl, rfl, rfl⟩, _, rfl, ht, hu⟩
theorem Told.of {F : Frm} {n : Nat} {e : Ending} {w' : World} (h : ∃ (rw re : Bool) (rl rh : Int) (rv : Value), e = .returned (.agg #[.bool rw, .bool re, .int .u64 rl, .int .u64 rh, rv]) ∧ TQ F rw re rl rh ∧ ∃ ls, ls = F.2.2 ∧ TAt w' rv ls ∧ Up n rv) : Told F n e w' := by
  obtain ⟨rw, re, rl, rh, rv, he, ⟨rfl, rfl, rfl, rfl⟩, ls, rfl, ht, hu⟩ := h
  exact ⟨rv, he, ht, hu⟩
def addP (A B : Frm) : Frm := recP sumP A B
def negP (A : Frm) : Frm := recP (fun x _ => (trnP x, true)) A zrF
def subP (A B : Frm) : Frm := addP A (negP B)
def scaP (A : Frm) (r : Bool × Int × Int) : Frm := if liN r = true then recP (fun x _ => prodP x r) A zrF else whF
def ofP' (r : Bool × Int × Int) : Frm := if liN r = true then (false, r, []) else whF
def ovP (q : Int) : Frm := if q < 0 then whF else (false, (false, 0, 0), [(q, false, 4607182418800017408, 4607182418800017408)])
theorem sumP_wd (x y : Bool × Int × Int) (hx : wdR x) (hy : wdR y) : wdR (sumP x y).1 := outP_wd (fun m x y h1 h2 => addF_word false m x y h1 h2) hx hy
theorem prodP_wd (x y : Bool × Int × Int) (hx : wdR x) (hy : wdR y) : wdR (prodP x y).1 := outP_wd (fun m x y h1 h2 => mulF_word false m x y) hx hy
theorem addP_ok {A B : Frm} (hA : fOk A) (hB : fOk B) : fOk (addP A B) := (recP_ok sumP_wd hA hB).1
theorem negP_ok {A : Frm} (hA : fOk A) : fOk (negP A) := (recP_ok (fun x y h _ => trnP_wd h) hA zrF_ok).1
theorem subP_ok {A B : Frm} (hA : fOk A) (hB : fOk B) : fOk (subP A B) := addP_ok hA (negP_ok hB)
theorem scaP_ok {A : Frm} {r : Bool × Int × Int} (hA : fOk A) (hr : wdR r) : fOk (scaP A r) := by
  unfold scaP
  split
  · exact (recP_ok (fun x y h _ => prodP_wd x r h hr) hA zrF_ok).1
  · exact whF_ok
theorem ofP_ok' {r : Bool × Int × Int} (hr : wdR r) : fOk (ofP' r) := by
  unfold ofP'
  split
  · exact ⟨hr, fun t h => absurd h (by simp), by simp⟩
  · exact whF_ok
theorem ovP_ok {q : Int} (hq : q ≤ 9223372036854775807) : fOk (ovP q) := by
  unfold ovP
  split
  · exact whF_ok
  · refine ⟨wd0, fun t h => ?_, by simp⟩
    simp at h
    subst h
    exact ⟨hq, word_one, word_one⟩
theorem form_add (A B : Frm) (hA : fOk A) (hB : fOk B) (va vb : Value) (w : World) (ta : TAt w va A.2.2) (tb : TAt w vb B.2.2) :
    Calls Tryz.prog 29 #[.agg #[.bool A.1, .bool A.2.1.1, .int .u64 A.2.1.2.1, .int .u64 A.2.1.2.2, va], .agg #[.bool B.1, .bool B.2.1.1, .int .u64 B.2.1.2.1, .int .u64 B.2.1.2.2, vb]] w fun e w' => Told (addP A B) w.heap.size e w' ∧ Below w.heap.size w w' :=
  (liadd A.1 A.2.1.1 A.2.1.2.1 A.2.1.2.2 va B.1 B.2.1.1 B.2.1.2.1 B.2.1.2.2 vb ta.sl tb.sl (fun V => TAt V va A.2.2 ∧ TAt V vb B.2.2) (fun W V a b => ⟨a.1.on b, a.2.on b⟩) (TQ (addP A B)) (fun _ _ _ _ ls => ls = (addP A B).2.2)
    (fun V hV => (rec_any A B hA hB va vb 13 #[] (fun a v => enters_of Tryz.func13 (by kernel_rfl) rfl a v) sumP V (fun x y V' hx hy _ => lsum_any x y hx hy V') hV.1 hV.2).mono fun e w' q => ⟨q.1.to, q.2⟩) w ⟨ta, tb⟩).mono fun e w' q => ⟨.of q.1, q.2⟩
theorem form_neg (A : Frm) (hA : fOk A) (va : Value) (w : World) (ta : TAt w va A.2.2) :
    Calls Tryz.prog 33 #[.agg #[.bool A.1, .bool A.2.1.1, .int .u64 A.2.1.2.1, .int .u64 A.2.1.2.2, va]] w fun e w' => Told (negP A) w.heap.size e w' ∧ Below w.heap.size w w' :=
  (lineg A.1 A.2.1.1 A.2.1.2.1 A.2.1.2.2 va ta.sl (fun V => TAt V va A.2.2) (fun W V a b => a.on b) (TQ (negP A)) (fun _ _ _ _ ls => ls = (negP A).2.2)
    (fun V hV => (rec_any A zrF hA zrF_ok va (.slice none 0 0) 70 #[] (fun a v => enters_of Tryz.func70 (by kernel_rfl) rfl a v) (fun x _ => (trnP x, true)) V (fun x y V' hx hy _ => lineg1 x.1 y.1 x.2.1 x.2.2 y.2.1 y.2.2 _ _ (fun V => turned_any x hx V) V') hV (Or.inl ⟨rfl, rfl⟩)).mono fun e w' q => ⟨q.1.to, q.2⟩) w ta).mono fun e w' q => ⟨.of q.1, q.2⟩
theorem form_sub (A B : Frm) (hA : fOk A) (hB : fOk B) (va vb : Value) (w : World) (ta : TAt w va A.2.2) (tb : TAt w vb B.2.2) :
    Calls Tryz.prog 31 #[.agg #[.bool A.1, .bool A.2.1.1, .int .u64 A.2.1.2.1, .int .u64 A.2.1.2.2, va], .agg #[.bool B.1, .bool B.2.1.1, .int .u64 B.2.1.2.1, .int .u64 B.2.1.2.2, vb]] w fun e w' => Told (subP A B) w.heap.size e w' ∧ Below w.heap.size w w' :=
  (lisub A.1 A.2.1.1 A.2.1.2.1 A.2.1.2.2 va B.1 B.2.1.1 B.2.1.2.1 B.2.1.2.2 vb ta.sl tb.sl (fun V => TAt V va A.2.2 ∧ TAt V vb B.2.2) (fun W V a b => ⟨a.1.on b, a.2.on b⟩) (TQ (subP A B)) (fun _ _ _ _ ls => ls = (subP A B).2.2) (TQ (negP B)) (fun _ _ _ _ ls => ls = (negP B).2.2)
    (fun V hV => (form_neg B hB vb V hV.2).mono fun e w' q => ⟨q.1.to, q.2⟩)
    (fun V nw ne nl nh nv ms hV hq hl ht => by
      obtain ⟨rfl, rfl, rfl, rfl⟩ := hq
      subst hl
      exact (form_add A (negP B) hA (negP_ok hB) va nv V hV.1 ht).mono fun e w' q => ⟨q.1.to, q.2⟩) w ⟨ta, tb⟩).mono fun e w' q => ⟨.of q.1, q.2⟩
theorem form_scale (A : Frm) (hA : fOk A) (r : Bool × Int × Int) (hr : wdR r) (va : Value) (w : World) (ta : TAt w va A.2.2) :
    Calls Tryz.prog 37 #[.agg #[.bool A.1, .bool A.2.1.1, .int .u64 A.2.1.2.1, .int .u64 A.2.1.2.2, va], .agg #[.bool r.1, .int .u64 r.2.1, .int .u64 r.2.2]] w fun e w' => Told (scaP A r) w.heap.size e w' ∧ Below w.heap.size w w' := by
  have hh := hasnum_any r hr
  cases hN : liN r
  · rw [hN] at hh
    refine (liscale_no A.1 A.2.1.1 A.2.1.2.1 A.2.1.2.2 va ta.sl r.1 r.2.1 r.2.2 hh liwhole w).mono fun e w' q => ⟨?_, q.2⟩
    rw [scaP, if_neg (by rw [hN]; simp), q.1]
    exact whole_told _ _
  · rw [hN] at hh
    have hs : scaP A r = recP (fun x _ => prodP x r) A zrF := by rw [scaP, if_pos hN]
    rw [hs]
    refine (liscale A.1 A.2.1.1 A.2.1.2.1 A.2.1.2.2 va ta.sl r.1 r.2.1 r.2.2 (fun V => TAt V va A.2.2) (fun W V a b => a.on b) (TQ (recP (fun x _ => prodP x r) A zrF)) (fun _ _ _ _ ls => ls = (recP (fun x _ => prodP x r) A zrF).2.2) hh
      (fun V p hV c0 c1 c2 => (rec_any A zrF hA zrF_ok va (.slice none 0 0) 76 #[.pointer (some ⟨p, 0, none⟩)] (fun a v => enters_of Tryz.func76 (by kernel_rfl) rfl a v) (fun x _ => prodP x r) V (fun x y V' hx hy hb => lisc1 x.1 y.1 _ _ r.1 x.2.1 x.2.2 y.2.1 y.2.2 _ _ r.2.1 r.2.2 p (fun V => lprod_any x r hx hr V) V' (sp_cell_on hb c0) (sp_cell_on hb c1) (sp_cell_on hb c2)) hV (Or.inl ⟨rfl, rfl⟩)).mono fun e w' q => ⟨q.1.to, q.2⟩) w ta).mono fun e w' q => ⟨.of q.1, q.2⟩
theorem form_of (r : Bool × Int × Int) (hr : wdR r) (w : World) : Calls Tryz.prog 20 #[.agg #[.bool r.1, .int .u64 r.2.1, .int .u64 r.2.2]] w fun e w' => e = .returned (.agg #[.bool (ofP' r).1, .bool (ofP' r).2.1.1, .int .u64 (ofP' r).2.1.2.1, .int .u64 (ofP' r).2.1.2.2, .slice none 0 0]) ∧ Below w.heap.size w w' := by
  refine (liof r.1 _ r.2.1 r.2.2 (fun V => hasnum_any r hr V) liwhole w).mono fun e w' q => ⟨?_, q.2⟩
  rw [q.1, ofP']
  cases liN r <;> simp [whF]
set_option maxRecDepth 100000 in
theorem one_pow : rndQ false 0 false (nn 0 1) (clamp 0) false = 4607182418800017408 := by decide +kernel
theorem pow_0 (w : World) : Calls Tryz.prog 63 #[.int .i64 0] w fun e w' => e = .returned (.int .u64 4607182418800017408) ∧ Below w.heap.size w w' :=
  lipow 0 _ (fun V => by
    have := round_any 0 0 false 0 1 0 false word_0 ⟨by decide, by decide⟩ (by decide) (by decide) V
    rw [show ((0 : Int) == 1) = false from rfl, one_pow] at this
    exact this) w
theorem form_var (q : Int) (w : World) : Calls Tryz.prog 22 #[.int .i64 q] w fun e w' => Told (ovP q) w.heap.size e w' ∧ Below w.heap.size w w' := by
  by_cases h : q < 0
  · refine (liov_no q h liwhole w).mono fun e w' r => ⟨?_, r.2⟩
    rw [ovP, if_pos h, r.1]
    exact whole_told _ _
  · refine (liov q _ (by omega) pow_0 w).mono fun e w' r => ⟨?_, r.2⟩
    obtain ⟨v, he, ht, hu⟩ := r.1
    rw [ovP, if_neg h]
    exact ⟨v, he, ht, hu⟩
set_option maxRecDepth 100000 in
theorem live_sub : subP (ovP 0) (ovP 0) = zrF := by decide +kernel
set_option maxRecDepth 100000 in
theorem live_right : frR (ovP 0) = true := by decide +kernel
theorem lilive_any (w : World) : Calls Tryz.prog 17 #[] w fun e w' => e = .returned (.bool true) ∧ Below w.heap.size w w' :=
  lilive (ovP 0).2.2 (fun V => form_var 0 V)
    (fun V v hv => (form_sub (ovP 0) (ovP 0) (ovP_ok (by decide)) (ovP_ok (by decide)) v v V hv hv).mono fun e w' q => by
      obtain ⟨⟨rv, he, ht, hu⟩, hb⟩ := q
      rw [live_sub] at he ht
      exact ⟨⟨rv, he, ht⟩, hb⟩)
    (fun V v hv => by have := form_right (ovP 0) (ovP_ok (by decide)) v V hv; rwa [live_right] at this)
    (fun V => form_of (true, 0, 0) wd0 V) w
end Go.Proofs.YteafnkimcidkhaaGreat

