/- Texts of the proof, put together. -/
import Derived.Test.YteafnkimcidkhaaGreatYRG5
import Derived.Test.YteafnkimcidkhaaGreatYRG4
import Derived.Test.YteafnkimcidkhaaGreatYRLiB
import Derived.Test.YteafnkimcidkhaaGreatYRMB1
import Derived.Test.YteafnkimcidkhaaGreatYRMB3
import Derived.Test.YteafnkimcidkhaaGreatYRMB2
namespace Go.Proofs.YteafnkimcidkhaaGreat
set_option linter.unusedVariables false
set_option linter.unusedSimpArgs false
theorem made_num (s b : Bool) (z : Int) (h0 : 0 ≤ z) (h : z ≤ fI s) : (cls s (sgnd s b z) == 0 || cls s (sgnd s b z) == 5) = false := by
 have l := fI_lt s
 rw [cls_made s b z h0 (by omega), if_neg (by omega)]
 split
 ·rfl
 ·split
  ·rfl
  ·split <;> rfl
structure Res (s : Bool) (v r : Int) : Prop where
 lo : -fI s ≤ r
 hi : r ≤ fI s
 pl : plainF s v = mk s r
 num : (cls s v == 0 || cls s v == 5) = false
 inf : (cls s v == 4) = decide (r = fI s ∨ r = -fI s)
theorem made_res (s b : Bool) (z : Int) (h0 : 0 ≤ z) (h : z ≤ fI s) : Res s (sgnd s b z) (if b then -z else z) := by
 have l := fI_lt s
 have t := fI_two s
 have e : plainF s (sgnd s b z) = mk s (if b then -z else z) := by
  by_cases c : z = 0
  ·subst c
   rw [show (0 : Int) = ((0 : Nat) : Int) from rfl, n_plain s b 0 (by omega)]
   cases b <;> rfl
  ·have m : mk s (if b then -z else z) = sgnd s b z := by
    unfold mk
    cases b
    ·have : ¬ z < 0 := by omega
     simp [this, sgnd]
    ·have : -z < 0 := by omega
     rw [if_pos rfl, if_pos this, Int.neg_neg]
   rw [← m]
   exact plain_mk (by split <;> omega) (by split <;> omega)
 refine ⟨by split <;> omega, by split <;> omega, e, made_num s b z h0 h, ?_⟩
 rw [cls_made s b z h0 (by omega), if_neg (by omega)]
 by_cases c : z = fI s
 ·rw [if_pos c, decide_eq_true (by cases b <;> simp <;> omega)]; rfl
 ·rw [if_neg c, decide_eq_false (by cases b <;> simp <;> omega)]
  split
  ·rfl
  ·split <;> rfl
theorem rnd_res (s : Bool) (m : Int) (b : Bool) (n : Nat) (e : Int) : ∃ r, Res s (rnd s m b n e) r := by
 obtain ⟨z, e1, z0, z1⟩ := rnd_made s m b n e
 rw [e1]; exact ⟨_, made_res s b z z0 z1⟩
theorem sumT_res (s : Bool) (m : Int) (xb : Bool) (xw : Nat) (xe : Int) (yb : Bool) (yw : Nat) (ye : Int) : ∃ r, Res s (sumT s m xb xw xe yb yw ye) r := by
 unfold sumT
 split
 ·exact rnd_res _ _ _ _ _
 ·split
  ·exact ⟨_, made_res s _ 0 (Int.le_refl _) (fI_pos s)⟩
  ·split <;> exact rnd_res _ _ _ _ _
end Go.Proofs.YteafnkimcidkhaaGreat
namespace Go.Proofs.YteafnkimcidkhaaGreat
open Go.RowKit
set_option linter.unusedVariables false
set_option linter.unusedSimpArgs false
theorem word_0 : Word 0 := ⟨by decide, by decide⟩
theorem ofF_any (f x y : Int) (hx : Word x) (hy : Word y) (w : World) :
  Calls Tryz.prog 50 #[.int .i64 f, .int .u64 x, .int .u64 y] w fun e w' => e = .returned (.agg #[.bool (ofP (WyF (f == 1)) x y).1, .int .u64 (ofP (WyF (f == 1)) x y).2.1, .int .u64 (ofP (WyF (f == 1)) x y).2.2]) ∧ Below w.heap.size w w' :=
 fof_of f x y _ _ _ (fun L B w0 hL V ok => of_f (fl_acts hL) x y hx hy (n_plainw _ _ hx) (n_plainw _ _ hy) V ok) w
end Go.Proofs.YteafnkimcidkhaaGreat



namespace Go.Proofs.YteafnkimcidkhaaGreat
open Go.RowKit
set_option linter.unusedVariables false
set_option linter.unusedSimpArgs false
def wdR (r : Bool × Int × Int) : Prop := Word r.2.1 ∧ Word r.2.2
def liR (a : Bool × Int × Int) : Bool := rightP (WyF false) a
def liN (a : Bool × Int × Int) : Bool := liR a && !a.1
def liZ (a : Bool × Int × Int) : Bool := decide (a.1 = false ∧ a.2.1 = 0 ∧ a.2.2 = 0)
def lesP (x y : Int) : Int := if 0 < (cmpF false x y).1 then y else x
def greP (x y : Int) : Int := if (cmpF false x y).1 < 0 then y else x
def loP (g : Int → Int → Int → Int) (a b c d : Int) : Int := lesP (lesP (lesP (lesP (g 2 a c) (g 2 a c)) (g 2 a d)) (g 2 b c)) (g 2 b d)
def hiP (g : Int → Int → Int → Int) (a b c d : Int) : Int := greP (greP (greP (greP (g 1 b d) (g 1 a c)) (g 1 a d)) (g 1 b c)) (g 1 b d)
def outP (g : Int → Int → Int → Int) (x y : Bool × Int × Int) : (Bool × Int × Int) × Bool :=
 if (liR x && liR y) = false then ((false, 0, 0), false) else if (x.1 || y.1) = true then ((true, 0, 0), true)
 else if (ofP (WyF false) (loP g x.2.1 x.2.2 y.2.1 y.2.2) (hiP g x.2.1 x.2.2 y.2.1 y.2.2)).1 = true then ((false, 0, 0), false)
 else (ofP (WyF false) (loP g x.2.1 x.2.2 y.2.1 y.2.2) (hiP g x.2.1 x.2.2 y.2.1 y.2.2), true)
theorem isrange_any (a : Bool × Int × Int) (h : wdR a) (w : World) : Calls Tryz.prog 77 #[.agg #[.bool a.1, .int .u64 a.2.1, .int .u64 a.2.2]] w fun e w' => e = .returned (.bool (liR a)) ∧ Below w.heap.size w w' := by
 obtain ⟨e, x, y⟩ := a
 exact lirange e x y _ (fun V => right_any 0 e x y h.1 h.2 V) w
theorem hasnum_any (a : Bool × Int × Int) (h : wdR a) (w : World) : Calls Tryz.prog 60 #[.agg #[.bool a.1, .int .u64 a.2.1, .int .u64 a.2.2]] w fun e w' => e = .returned (.bool (liN a)) ∧ Below w.heap.size w w' := by
 obtain ⟨e, x, y⟩ := a
 exact lihas e x y _ (fun V => isrange_any (e, x, y) h V) w
theorem iszero_any (a : Bool × Int × Int) (w : World) : Calls Tryz.prog 120 #[.agg #[.bool a.1, .int .u64 a.2.1, .int .u64 a.2.2]] w fun e w' => e = .returned (.bool (liZ a)) ∧ Below w.heap.size w w' := by
 obtain ⟨e, x, y⟩ := a
 exact lizero e x y w
theorem lesser_any (x y : Int) (hx : Word x) (hy : Word y) (w : World) : Calls Tryz.prog 105 #[.int .u64 x, .int .u64 y] w fun e w' => e = .returned (.int .u64 (lesP x y)) ∧ Below w.heap.size w w' :=
 lilesser x y _ _ (fun V => compare_fl 0 x y hx hy V) w
theorem greater_any (x y : Int) (hx : Word x) (hy : Word y) (w : World) : Calls Tryz.prog 106 #[.int .u64 x, .int .u64 y] w fun e w' => e = .returned (.int .u64 (greP x y)) ∧ Below w.heap.size w w' :=
 ligreater x y _ _ (fun V => compare_fl 0 x y hx hy V) w
theorem lesP_word {x y : Int} (hx : Word x) (hy : Word y) : Word (lesP x y) := by unfold lesP; split <;> assumption
theorem greP_word {x y : Int} (hx : Word x) (hy : Word y) : Word (greP x y) := by unfold greP; split <;> assumption
theorem out_any (kb : Nat) (eby : ∀ args w, (callFunc kb args).run Tryz.prog w = .ok (.enter kb args) w) (g : Int → Int → Int → Int) (gw : ∀ m x y, Word x → Word y → Word (g m x y)) (hg : ∀ m x y, Word x → Word y → ∀ V, Calls Tryz.prog kb #[.int .i64 0, .int .i64 m, .int .u64 x, .int .u64 y] V fun e w' => e = .returned (.int .u64 (g m x y)) ∧ Below V.heap.size V w') (x y : Bool × Int × Int) (hx : wdR x) (hy : wdR y) (w : World) :
  Calls Tryz.prog 53 #[.func (.func kb) #[] #[], .agg #[.bool x.1, .int .u64 x.2.1, .int .u64 x.2.2], .agg #[.bool y.1, .int .u64 y.2.1, .int .u64 y.2.2]] w fun e w' => e = .returned (.tuple #[.agg #[.bool (outP g x y).1.1, .int .u64 (outP g x y).1.2.1, .int .u64 (outP g x y).1.2.2], .bool (outP g x y).2]) ∧ Below w.heap.size w w' := by
 obtain ⟨e1, a, b⟩ := x
 obtain ⟨e2, c, d⟩ := y
 obtain ⟨ha, hb⟩ := hx
 obtain ⟨hc, hd⟩ := hy
 simp only at ha hb hc hd
 by_cases h : (liR (e1, a, b) && liR (e2, c, d)) = false
 ·have := liout_no kb eby e1 a b e2 c d _ _ h (isrange_any (e1, a, b) ⟨ha, hb⟩) (isrange_any (e2, c, d) ⟨hc, hd⟩) w
  refine this.mono fun e w' q => ⟨?_, q.2⟩
  rw [q.1]
  simp only [outP, if_pos h]
 ·have h' : liR (e1, a, b) = true ∧ liR (e2, c, d) = true := by simpa using h
  have r1 := isrange_any (e1, a, b) ⟨ha, hb⟩
  have r2 := isrange_any (e2, c, d) ⟨hc, hd⟩
  rw [h'.1] at r1
  rw [h'.2] at r2
  by_cases he : (e1 || e2) = true
  ·have := liout_em kb eby e1 a b e2 c d he r1 r2 w
   refine this.mono fun e w' q => ⟨?_, q.2⟩
   rw [q.1]
   simp only [outP, if_neg h, if_pos he]
  ·obtain ⟨rfl, rfl⟩ : e1 = false ∧ e2 = false := by simpa using he
   have w0 := gw 2 a c ha hc
   have w1 := gw 2 a d ha hd
   have w2 := gw 2 b c hb hc
   have w3 := gw 2 b d hb hd
   have v0 := gw 1 a c ha hc
   have v1 := gw 1 a d ha hd
   have v2 := gw 1 b c hb hc
   have v3 := gw 1 b d hb hd
   have this := liout_ok kb eby a b c d _ _ _ _ _ _ _ _ _ _ _ _ _ _ _ _ _ _ _ r1 r2 (hg 2 a c ha hc) (hg 1 a c ha hc) (hg 2 a d ha hd) (hg 1 a d ha hd) (hg 2 b c hb hc) (hg 1 b c hb hc) (hg 2 b d hb hd) (hg 1 b d hb hd)
    (lesser_any _ _ w0 w0) (greater_any _ _ v3 v0) (lesser_any _ _ (lesP_word w0 w0) w1) (greater_any _ _ (greP_word v3 v0) v1) (lesser_any _ _ (lesP_word (lesP_word w0 w0) w1) w2) (greater_any _ _ (greP_word (greP_word v3 v0) v1) v2)
    (lesser_any _ _ (lesP_word (lesP_word (lesP_word w0 w0) w1) w2) w3) (greater_any _ _ (greP_word (greP_word (greP_word v3 v0) v1) v2) v3)
    (ofF_any 0 _ _ (lesP_word (lesP_word (lesP_word (lesP_word w0 w0) w1) w2) w3) (greP_word (greP_word (greP_word (greP_word v3 v0) v1) v2) v3)) w
   refine this.mono fun e w' q => ⟨?_, q.2⟩
   rw [q.1]
   simp only [outP, if_neg h, if_neg he]
   show Ending.returned (if (ofP (WyF false) (loP g a b c d) (hiP g a b c d)).1 = true then _ else .tuple #[.agg #[.bool (ofP (WyF false) (loP g a b c d) (hiP g a b c d)).1, .int .u64 (ofP (WyF false) (loP g a b c d) (hiP g a b c d)).2.1, .int .u64 (ofP (WyF false) (loP g a b c d) (hiP g a b c d)).2.2], .bool true]) = _
   generalize ofP (WyF false) (loP g a b c d) (hiP g a b c d) = r
   cases h1 : r.1
   ·simp [h1]
   ·simp
def sumP : Bool × Int × Int → Bool × Int × Int → (Bool × Int × Int) × Bool := outP (addF false)
def prodP : Bool × Int × Int → Bool × Int × Int → (Bool × Int × Int) × Bool := outP (mulF false)
theorem lsum_any (x y : Bool × Int × Int) (hx : wdR x) (hy : wdR y) (w : World) :
  Calls Tryz.prog 13 #[.agg #[.bool x.1, .int .u64 x.2.1, .int .u64 x.2.2], .agg #[.bool y.1, .int .u64 y.2.1, .int .u64 y.2.2]] w fun e w' => e = .returned (.tuple #[.agg #[.bool (sumP x y).1.1, .int .u64 (sumP x y).1.2.1, .int .u64 (sumP x y).1.2.2], .bool (sumP x y).2]) ∧ Below w.heap.size w w' :=
 lisum _ _ _ _ _ _ _ _ _ _ (fun V => out_any 54 (fun a v => enters_of Tryz.func54 (by kernel_rfl) rfl a v) (addF false) (fun m x y h1 h2 => addF_word false m x y h1 h2) (fun m x y h1 h2 V => add_fl 0 m x y h1 h2 V) x y hx hy V) w
theorem lprod_any (x y : Bool × Int × Int) (hx : wdR x) (hy : wdR y) (w : World) :
  Calls Tryz.prog 15 #[.agg #[.bool x.1, .int .u64 x.2.1, .int .u64 x.2.2], .agg #[.bool y.1, .int .u64 y.2.1, .int .u64 y.2.2]] w fun e w' => e = .returned (.tuple #[.agg #[.bool (prodP x y).1.1, .int .u64 (prodP x y).1.2.1, .int .u64 (prodP x y).1.2.2], .bool (prodP x y).2]) ∧ Below w.heap.size w w' :=
 liprod _ _ _ _ _ _ _ _ _ _ (fun V => out_any 57 (fun a v => enters_of Tryz.func57 (by kernel_rfl) rfl a v) (mulF false) (fun m x y h1 h2 => mulF_word false m x y) (fun m x y h1 h2 V => mul_fl 0 m x y h1 h2 V) x y hx hy V) w
end Go.Proofs.YteafnkimcidkhaaGreat



namespace Go.Proofs.YteafnkimcidkhaaGreat
open Go.RowKit Go.Shelf
set_option linter.unusedVariables false
set_option linter.unusedSimpArgs false
abbrev Frm := Bool × (Bool × Int × Int) × List (Int × Bool × Int × Int)
def frR (F : Frm) : Bool := fR liN liZ F.1 F.2.1 F.2.2
def frB (F : Frm) : Bool := frR F && !F.1
def tOk (ls : List (Int × Bool × Int × Int)) : Prop := ∀ t ∈ ls, t.1 ≤ 9223372036854775807 ∧ wdR t.2
def fOk (F : Frm) : Prop := wdR F.2.1 ∧ tOk F.2.2 ∧ F.2.2.length ≤ 400
def whF : Frm := (true, (false, 0, 0), [])
def zrF : Frm := (false, (false, 0, 0), [])
def Told (F : Frm) (n : Nat) (e : Ending) (w' : World) : Prop := ∃ rv, e = .returned (.agg #[.bool F.1, .bool F.2.1.1, .int .u64 F.2.1.2.1, .int .u64 F.2.1.2.2, rv]) ∧ TAt w' rv F.2.2 ∧ Up n rv
theorem tOk.v {ls : List (Int × Bool × Int × Int)} (h : tOk ls) : vOk ls := fun t ht => (h t ht).1
theorem wd0 : wdR (false, 0, 0) := ⟨word_0, word_0⟩
theorem zrF_ok : fOk zrF := ⟨wd0, fun t h => absurd h (by simp [zrF]), by simp [zrF]⟩
theorem whole_told (n : Nat) (w : World) : Told whF n (.returned (.agg #[.bool true, .bool false, .int .u64 0, .int .u64 0, .slice none 0 0])) w :=
 ⟨.slice none 0 0, rfl, Or.inl ⟨rfl, rfl⟩, fun b o k c e => by cases e⟩
theorem form_right (F : Frm) (h : fOk F) (v : Value) (w : World) (hv : TAt w v F.2.2) : Calls Tryz.prog 24 #[.agg #[.bool F.1, .bool F.2.1.1, .int .u64 F.2.1.2.1, .int .u64 F.2.1.2.2, v]] w fun e w' => e = .returned (.bool (frR F)) ∧ Below w.heap.size w w' :=
 liright liN liZ F.1 F.2.1.1 F.2.1.2.1 F.2.1.2.2 F.2.2 (by have := h.2.2; omega) v (fun V => hasnum_any F.2.1 h.1 V)
  (fun V hV => litms liN liZ F.2.2 (by have := h.2.2; omega) v (fun t ht V => hasnum_any t.2 (h.2.1 t ht).2 V) (fun t ht V => iszero_any t.2 V) V hV) w hv
theorem form_bound (F : Frm) (h : fOk F) (v : Value) (w : World) (hv : TAt w v F.2.2) : Calls Tryz.prog 73 #[.agg #[.bool F.1, .bool F.2.1.1, .int .u64 F.2.1.2.1, .int .u64 F.2.1.2.2, v]] w fun e w' => e = .returned (.bool (frB F)) ∧ Below w.heap.size w w' := by
 obtain ⟨p, cap, rfl⟩ := hv.len
 exact libound F.1 F.2.1.1 F.2.1.2.1 F.2.1.2.2 p _ cap (fun V => TAt V (.slice p F.2.2.length cap) F.2.2) (fun W V a b => a.on b) _ (fun V hV => form_right F h _ V hV) w hv
instance (BY : Bool × Int × Int → Bool × Int × Int → (Bool × Int × Int) × Bool) (ca cb : Bool × Int × Int) (az bz : List (Int × Bool × Int × Int)) : Decidable (RecOk BY ca cb az bz) := by unfold RecOk; infer_instance
def recP (BY : Bool × Int × Int → Bool × Int × Int → (Bool × Int × Int) × Bool) (A B : Frm) : Frm :=
 if (frB A && frB B) = true ∧ RecOk BY A.2.1 B.2.1 A.2.2 B.2.2 then (false, (BY A.2.1 B.2.1).1, recL BY (mg (A.2.2.length + B.2.2.length) A.2.2 B.2.2)) else whF
theorem tk_wd {ls : List (Int × Bool × Int × Int)} (h : tOk ls) (q : Int) : wdR (tk ls q).1 ∧ tOk (tk ls q).2 := by
 cases ls with
 | nil => exact ⟨wd0, fun t h => absurd h (by simp [tk])⟩
 | cons t ts =>
  rw [show tk (t :: ts) q = if t.1 = q then (t.2, ts) else ((false, 0, 0), t :: ts) from rfl]
  split
  ·exact ⟨(h t (by simp)).2, fun x hx => h x (by simp [hx])⟩
  ·exact ⟨wd0, h⟩
theorem fv_top {ls : List (Int × Bool × Int × Int)} (h : tOk ls) : fv ls ≤ 9223372036854775807 := fv_ok h.v
theorem mg_wd : ∀ (k : Nat) (az bz : List (Int × Bool × Int × Int)), tOk az → tOk bz → ∀ x ∈ mg k az bz, x.1 ≤ 9223372036854775807 ∧ wdR x.2.1 ∧ wdR x.2.2
 | 0, _, _, _, _, x, hx => by simp [mg] at hx
 | k + 1, az, bz, ha, hb, x, hx => by
  unfold mg at hx
  split at hx
  ·simp at hx
  ·rcases List.mem_cons.1 hx with rfl | hx
   ·have := fv_top ha
    exact ⟨by simp only; omega, (tk_wd ha _).1, (tk_wd hb _).1⟩
   ·exact mg_wd k _ _ (tk_wd ha _).2 (tk_wd hb _).2 x hx
set_option maxRecDepth 100000 in
theorem rec_any (A B : Frm) (hA : fOk A) (hB : fOk B) (va vb : Value) (kb : Nat) (caps : Array Value) (eby : ∀ args w, (callFunc kb args).run Tryz.prog w = .ok (.enter kb args) w) (BY : Bool × Int × Int → Bool × Int × Int → (Bool × Int × Int) × Bool) (w : World)
  (hby : ∀ x y V, wdR x → wdR y → Below w.heap.size w V → Calls Tryz.prog kb (#[.agg #[.bool x.1, .int .u64 x.2.1, .int .u64 x.2.2], .agg #[.bool y.1, .int .u64 y.2.1, .int .u64 y.2.2]] ++ caps) V fun e V' => e = .returned (.tuple #[.agg #[.bool (BY x y).1.1, .int .u64 (BY x y).1.2.1, .int .u64 (BY x y).1.2.2], .bool (BY x y).2]) ∧ Below V.heap.size V V')
  (ta : TAt w va A.2.2) (tb : TAt w vb B.2.2) :
  Calls Tryz.prog 67 #[.agg #[.bool A.1, .bool A.2.1.1, .int .u64 A.2.1.2.1, .int .u64 A.2.1.2.2, va], .agg #[.bool B.1, .bool B.2.1.1, .int .u64 B.2.1.2.1, .int .u64 B.2.1.2.2, vb], .func (.func kb) #[] caps] w fun e w' => Told (recP BY A B) w.heap.size e w' ∧ Below w.heap.size w w' := by
 have hn : A.2.2.length + B.2.2.length ≤ 1000 := by have := hA.2.2; have := hB.2.2; omega
 by_cases hg : (frB A && frB B) = true
 ·obtain ⟨g1, g2⟩ : frB A = true ∧ frB B = true := by simpa using hg
  have kA : ∀ V, TAt V va A.2.2 → Calls Tryz.prog 73 #[.agg #[.bool A.1, .bool A.2.1.1, .int .u64 A.2.1.2.1, .int .u64 A.2.1.2.2, va]] V fun e w' => e = .returned (.bool true) ∧ Below V.heap.size V w' := fun V hV => by
   have := form_bound A hA va V hV
   rwa [g1] at this
  have kB : ∀ V, TAt V vb B.2.2 → Calls Tryz.prog 73 #[.agg #[.bool B.1, .bool B.2.1.1, .int .u64 B.2.1.2.1, .int .u64 B.2.1.2.2, vb]] V fun e w' => e = .returned (.bool true) ∧ Below V.heap.size V w' := fun V hV => by
   have := form_bound B hB vb V hV
   rwa [g2] at this
  by_cases hc : (BY A.2.1 B.2.1).2 = true
  ·have := lirec_ok A.1 A.2.1.1 A.2.1.2.1 A.2.1.2.2 va A.2.2 B.1 B.2.1.1 B.2.1.2.1 B.2.1.2.2 vb B.2.2 hn hA.2.1.v hB.2.1.v kb caps eby kA kB liwhole BY wdR hA.1 hB.1 w hby (fun x hx => (mg_wd _ _ _ hA.2.1 hB.2.1 x hx).2) (fun x V => iszero_any x V) hc ta tb
   refine this.mono fun e w' q => ⟨?_, q.2⟩
   rcases q.1 with ⟨ok, v', he, ht, hu⟩ | ⟨nok, he⟩
   ·rw [recP, if_pos ⟨hg, ok⟩]
    exact ⟨v', he, ht, hu⟩
   ·rw [recP, if_neg fun q => nok q.2, he]
    exact whole_told _ _
  ·have hc' : (BY A.2.1 B.2.1).2 = false := by simpa using hc
   have := lirec_c A.1 A.2.1.1 A.2.1.2.1 A.2.1.2.2 va A.2.2 B.1 B.2.1.1 B.2.1.2.1 B.2.1.2.2 vb B.2.2 hn hA.2.1.v hB.2.1.v kb caps eby kA kB liwhole (BY A.2.1 B.2.1).1.1 (BY A.2.1 B.2.1).1.2.1 (BY A.2.1 B.2.1).1.2.2 w (fun V hV => by have := hby A.2.1 B.2.1 V hA.1 hB.1 hV; rwa [hc'] at this) ta tb
   refine this.mono fun e w' q => ⟨?_, q.2⟩
   rw [recP, if_neg fun q => hc q.2.1, q.1]
   exact whole_told _ _
 ·have hg' : (frB A && frB B) = false := by simpa using hg
  have := lirec_no A.1 A.2.1.1 A.2.1.2.1 A.2.1.2.2 va A.2.2 B.1 B.2.1.1 B.2.1.2.1 B.2.1.2.2 vb B.2.2 hn hA.2.1.v hB.2.1.v kb caps eby _ _ (fun V hV => form_bound A hA va V hV) (fun V hV => form_bound B hB vb V hV) liwhole hg' w ta tb
  refine this.mono fun e w' q => ⟨?_, q.2⟩
  rw [recP, if_neg fun q => hg q.1, q.1]
  exact whole_told _ _
theorem TAt.sl {W : World} {v : Value} {ls : List (Int × Bool × Int × Int)} (h : TAt W v ls) : ∃ o n c, v = .slice o n c := by
 obtain ⟨p, cap, e⟩ := h.len
 exact ⟨p, _, cap, e⟩
def TQ (F : Frm) (rw re : Bool) (rl rh : Int) : Prop := rw = F.1 ∧ re = F.2.1.1 ∧ rl = F.2.1.2.1 ∧ rh = F.2.1.2.2
theorem Told.to {F : Frm} {n : Nat} {e : Ending} {w' : World} (h : Told F n e w') : ∃ (rw re : Bool) (rl rh : Int) (rv : Value), e = .returned (.agg #[.bool rw, .bool re, .int .u64 rl, .int .u64 rh, rv]) ∧ TQ F rw re rl rh ∧ ∃ ls, ls = F.2.2 ∧ TAt w' rv ls ∧ Up n rv := by
 obtain ⟨rv, he, ht, hu⟩ := h
 exact ⟨_, _, _, _, rv, he, ⟨rfl, rfl, rfl, rfl⟩, _, rfl, ht, hu⟩
theorem Told.of {F : Frm} {n : Nat} {e : Ending} {w' : World} (h : ∃ (rw re : Bool) (rl rh : Int) (rv : Value), e = .returned (.agg #[.bool rw, .bool re, .int .u64 rl, .int .u64 rh, rv]) ∧ TQ F rw re rl rh ∧ ∃ ls, ls = F.2.2 ∧ TAt w' rv ls ∧ Up n rv) : Told F n e w' := by
 obtain ⟨rw, re, rl, rh, rv, he, ⟨rfl, rfl, rfl, rfl⟩, ls, rfl, ht, hu⟩ := h
 exact ⟨rv, he, ht, hu⟩
def addP (A B : Frm) : Frm := recP sumP A B
def scaP (A : Frm) (r : Bool × Int × Int) : Frm := if liN r = true then recP (fun x _ => prodP x r) A zrF else whF
def ofP' (r : Bool × Int × Int) : Frm := if liN r = true then (false, r, []) else whF
def ovP (q : Int) : Frm := if q < 0 then whF else (false, (false, 0, 0), [(q, false, 4607182418800017408, 4607182418800017408)])
theorem form_add (A B : Frm) (hA : fOk A) (hB : fOk B) (va vb : Value) (w : World) (ta : TAt w va A.2.2) (tb : TAt w vb B.2.2) :
  Calls Tryz.prog 29 #[.agg #[.bool A.1, .bool A.2.1.1, .int .u64 A.2.1.2.1, .int .u64 A.2.1.2.2, va], .agg #[.bool B.1, .bool B.2.1.1, .int .u64 B.2.1.2.1, .int .u64 B.2.1.2.2, vb]] w fun e w' => Told (addP A B) w.heap.size e w' ∧ Below w.heap.size w w' :=
 (liadd A.1 A.2.1.1 A.2.1.2.1 A.2.1.2.2 va B.1 B.2.1.1 B.2.1.2.1 B.2.1.2.2 vb ta.sl tb.sl (fun V => TAt V va A.2.2 ∧ TAt V vb B.2.2) (fun W V a b => ⟨a.1.on b, a.2.on b⟩) (TQ (addP A B)) (fun _ _ _ _ ls => ls = (addP A B).2.2)
  (fun V hV => (rec_any A B hA hB va vb 13 #[] (fun a v => enters_of Tryz.func13 (by kernel_rfl) rfl a v) sumP V (fun x y V' hx hy _ => lsum_any x y hx hy V') hV.1 hV.2).mono fun e w' q => ⟨q.1.to, q.2⟩) w ⟨ta, tb⟩).mono fun e w' q => ⟨.of q.1, q.2⟩
theorem form_scale (A : Frm) (hA : fOk A) (r : Bool × Int × Int) (hr : wdR r) (va : Value) (w : World) (ta : TAt w va A.2.2) :
  Calls Tryz.prog 37 #[.agg #[.bool A.1, .bool A.2.1.1, .int .u64 A.2.1.2.1, .int .u64 A.2.1.2.2, va], .agg #[.bool r.1, .int .u64 r.2.1, .int .u64 r.2.2]] w fun e w' => Told (scaP A r) w.heap.size e w' ∧ Below w.heap.size w w' := by
 have hh := hasnum_any r hr
 cases hN : liN r
 ·rw [hN] at hh
  refine (liscale_no A.1 A.2.1.1 A.2.1.2.1 A.2.1.2.2 va ta.sl r.1 r.2.1 r.2.2 hh liwhole w).mono fun e w' q => ⟨?_, q.2⟩
  rw [scaP, if_neg (by rw [hN]; simp), q.1]
  exact whole_told _ _
 ·rw [hN] at hh
  have hs : scaP A r = recP (fun x _ => prodP x r) A zrF := by rw [scaP, if_pos hN]
  rw [hs]
  refine (liscale A.1 A.2.1.1 A.2.1.2.1 A.2.1.2.2 va ta.sl r.1 r.2.1 r.2.2 (fun V => TAt V va A.2.2) (fun W V a b => a.on b) (TQ (recP (fun x _ => prodP x r) A zrF)) (fun _ _ _ _ ls => ls = (recP (fun x _ => prodP x r) A zrF).2.2) hh
   (fun V p hV c0 c1 c2 => (rec_any A zrF hA zrF_ok va (.slice none 0 0) 76 #[.pointer (some ⟨p, 0, none⟩)] (fun a v => enters_of Tryz.func76 (by kernel_rfl) rfl a v) (fun x _ => prodP x r) V (fun x y V' hx hy hb => lisc1 x.1 y.1 _ _ r.1 x.2.1 x.2.2 y.2.1 y.2.2 _ _ r.2.1 r.2.2 p (fun V => lprod_any x r hx hr V) V' (sO hb c0) (sO hb c1) (sO hb c2)) hV (Or.inl ⟨rfl, rfl⟩)).mono fun e w' q => ⟨q.1.to, q.2⟩) w ta).mono fun e w' q => ⟨.of q.1, q.2⟩
theorem form_of (r : Bool × Int × Int) (hr : wdR r) (w : World) : Calls Tryz.prog 20 #[.agg #[.bool r.1, .int .u64 r.2.1, .int .u64 r.2.2]] w fun e w' => e = .returned (.agg #[.bool (ofP' r).1, .bool (ofP' r).2.1.1, .int .u64 (ofP' r).2.1.2.1, .int .u64 (ofP' r).2.1.2.2, .slice none 0 0]) ∧ Below w.heap.size w w' := by
 refine (liof r.1 _ r.2.1 r.2.2 (fun V => hasnum_any r hr V) liwhole w).mono fun e w' q => ⟨?_, q.2⟩
 rw [q.1, ofP']
 cases liN r <;> simp [whF]
set_option maxRecDepth 100000 in
theorem one_pow : rndQ false 0 false (nn 0 1) (clamp 0) false = 4607182418800017408 := by decide +kernel
theorem pow_0 (w : World) : Calls Tryz.prog 63 #[.int .i64 0] w fun e w' => e = .returned (.int .u64 4607182418800017408) ∧ Below w.heap.size w w' :=
 lipow 0 _ (fun V => by
  have := round_any 0 0 false 0 1 0 false word_0 ⟨by decide, by decide⟩ (by decide) (by decide) V
  rw [show ((0 : Int) == 1) = false from rfl, one_pow] at this
  exact this) w
theorem form_var (q : Int) (w : World) : Calls Tryz.prog 22 #[.int .i64 q] w fun e w' => Told (ovP q) w.heap.size e w' ∧ Below w.heap.size w w' := by
 by_cases h : q < 0
 ·refine (liov_no q h liwhole w).mono fun e w' r => ⟨?_, r.2⟩
  rw [ovP, if_pos h, r.1]
  exact whole_told _ _
 ·refine (liov q _ (by omega) pow_0 w).mono fun e w' r => ⟨?_, r.2⟩
  obtain ⟨v, he, ht, hu⟩ := r.1
  rw [ovP, if_neg h]
  exact ⟨v, he, ht, hu⟩
end Go.Proofs.YteafnkimcidkhaaGreat



namespace Go.Proofs.YteafnkimcidkhaaGreat
set_option linter.unusedVariables false
set_option linter.unusedSimpArgs false
def nearUp (n : Nat) (k : Int) : Bool := half n k && (low n k || quo n k % 2 == 1)
theorem nearUp_mono {n n' : Nat} {k : Int} (h : n ≤ n') (hq : quo n k = quo n' k) (hu : nearUp n k = true) : nearUp n' k = true := by
 unfold nearUp at *
 rw [Bool.and_eq_true] at hu ⊢
 obtain ⟨h1, h2⟩ := hu
 unfold half at h1
 rw [Bool.and_eq_true, decide_eq_true_iff, beq_iff_eq] at h1
 obtain ⟨k1, h1⟩ := h1
 obtain ⟨j, hj⟩ : ∃ j, k.toNat = j + 1 := ⟨k.toNat - 1, by omega⟩
 have ej : k.toNat - 1 = j := by omega
 unfold quo at hq
 rw [if_neg (by omega), if_neg (by omega), hj] at hq
 rw [ej] at h1
 have p : 0 < 2 ^ j := Nat.two_pow_pos j
 have d1 : n / 2 ^ (j + 1) = n / 2 ^ j / 2 := by rw [Nat.pow_succ, Nat.div_div_eq_div_mul]
 have d2 : n' / 2 ^ (j + 1) = n' / 2 ^ j / 2 := by rw [Nat.pow_succ, Nat.div_div_eq_div_mul]
 rw [d1, d2] at hq
 have le : n / 2 ^ j ≤ n' / 2 ^ j := Nat.div_le_div_right h
 have he : n' / 2 ^ j = n / 2 ^ j := by omega
 have m1 := Nat.div_add_mod n (2 ^ j)
 have m2 := Nat.div_add_mod n' (2 ^ j)
 rw [he] at m2
 have hr : n % 2 ^ j ≤ n' % 2 ^ j := by
  generalize 2 ^ j * (n / 2 ^ j) = A at *
  omega
 refine ⟨?_, ?_⟩
 ·unfold half
  rw [Bool.and_eq_true, decide_eq_true_iff, beq_iff_eq, ej, he]
  exact ⟨k1, h1⟩
 ·rw [Bool.or_eq_true] at h2 ⊢
  rcases h2 with h2 | h2
  ·left
   unfold low at *
   rw [ej] at *
   rw [Bool.and_eq_true] at h2 ⊢
   refine ⟨h2.1, ?_⟩
   have q := h2.2
   simp at q ⊢
   omega
  ·right
   have : quo n' k = quo n k := by
    unfold quo
    rw [if_neg (by omega), if_neg (by omega), hj, d1, d2, hq]
   rw [this]
   exact h2
end Go.Proofs.YteafnkimcidkhaaGreat


namespace Go.Proofs.YteafnkimcidkhaaGreat
open Go.RowKit
set_option linter.unusedVariables false
set_option linter.unusedSimpArgs false
def le2 (n : Nat) (e : Int) (m : Nat) (f : Int) : Prop := n * 2 ^ (e - min e f).toNat ≤ m * 2 ^ (f - min e f).toNat
theorem le2_at {n : Nat} {e : Int} {m : Nat} {f : Int} (E : Int) (h1 : E ≤ e) (h2 : E ≤ f) : le2 n e m f ↔ n * 2 ^ (e - E).toNat ≤ m * 2 ^ (f - E).toNat := by
 unfold le2
 have a : (e - E).toNat = (e - min e f).toNat + (min e f - E).toNat := by omega
 have b : (f - E).toNat = (f - min e f).toNat + (min e f - E).toNat := by omega
 rw [a, b, Nat.pow_add, Nat.pow_add, ← Nat.mul_assoc, ← Nat.mul_assoc]
 exact (Nat.mul_le_mul_right_iff (Nat.two_pow_pos _)).symm
theorem down2 (s : Bool) {n : Nat} (h : n ≠ 0) (e : Int) : ∃ z : Nat, mag s 2 false n e = z ∧ (z : Int) < fI s ∧ le2 (val s z) (fL s) n e := by
 obtain ⟨z, a, b, c⟩ := mag_down s 2 false (fun o h l => by cases o <;> cases h <;> cases l <;> rfl) h e (min e (fL s)) (by omega) (by omega)
 exact ⟨z, a, b, (le2_at _ (by omega) (by omega)).2 c⟩
end Go.Proofs.YteafnkimcidkhaaGreat



namespace Go.Proofs.YteafnkimcidkhaaGreat
set_option linter.unusedVariables false
set_option linter.unusedSimpArgs false
def mgF (s : Bool) (n : Nat) (e : Int) : Int := if n = 0 then 0 else mag s 0 false n e
def rk (s : Bool) (n : Int) (e : Int) : Int := if n < 0 then -(mgF s n.natAbs e) else mgF s n.natAbs e
def sg (b : Bool) (n : Nat) : Int := if b then -(n : Int) else n
theorem parts_val (s b : Bool) (z : Nat) (h : (z : Int) < fI s) : ∃ x : Nat, pwr s (sgnd s b z) = fL s + x ∧ val s z = (whl s (sgnd s b z)).toNat * 2 ^ x ∧ x ≤ z := by
 obtain ⟨x, q, e, q1, q2, w, p⟩ := size_parts s b z h
 refine ⟨x, p, ?_, ?_⟩
 ·rw [w, e]; exact val_at s x q (by omega) q2
 ·rw [e]
  have := Nat.le_mul_of_pos_right x (Nat.two_pow_pos (fP s))
  omega
theorem made_fin (s b : Bool) (z : Nat) (h : (z : Int) < fI s) : (cls s (sgnd s b z) == 0 || cls s (sgnd s b z) == 5) = false ∧ (cls s (sgnd s b z) == 4) = false := n_num (n_fin s b z h)
def stk (A D : Nat) : Nat := 2 * (A / D) + (decide (A % D ≠ 0)).toNat
def mq (s : Bool) (K A D : Nat) : Int := mgF s (stk (A * 2 ^ K) D) (-(K : Int) - 1)
def rq (s : Bool) (K : Nat) (n : Int) (D : Nat) : Int := if n < 0 then -(mq s K n.natAbs D) else mq s K n.natAbs D
end Go.Proofs.YteafnkimcidkhaaGreat



namespace Go.Proofs.YteafnkimcidkhaaGreat
set_option linter.unusedVariables false
set_option linter.unusedSimpArgs false
def vl (s : Bool) (r : Int) : Int := if r < 0 then -(val s r.natAbs : Int) else (val s r.natAbs : Int)
theorem vl_mono (s : Bool) {r q : Int} (h : r ≤ q) : vl s r ≤ vl s q := by
 unfold vl
 split
 ·split
  ·have := val_le s (show q.natAbs ≤ r.natAbs by omega)
   omega
  ·omega
 ·rw [if_neg (by omega)]
  have := val_le s (show r.natAbs ≤ q.natAbs by omega)
  omega
theorem mk_at (s : Bool) (r : Int) : ∃ b : Bool, mk s r = sgnd s b (r.natAbs : Nat) ∧ sg b (val s r.natAbs) = vl s r ∧ b = decide (r < 0) := by
 unfold mk vl sg
 by_cases h : r < 0
 ·exact ⟨true, by rw [if_pos h]; congr 1; omega, by simp [h], by simp [h]⟩
 ·refine ⟨false, ?_, by simp [h], by simp [h]⟩
  rw [if_neg h]
  show r = (r.natAbs : Int)
  omega
def kN (s : Bool) : Nat := 130 + (fI s).toNat
def R (s : Bool) (op x y : Int) : Int := if op = 8 then rk s (vl s x + vl s y) (fL s) else if op = 9 then rk s (vl s x - vl s y) (fL s) else if op = 10 then rk s (vl s x * vl s y) (fL s + fL s) else rq s (kN s) (if y < 0 then -(vl s x) else vl s x) (val s y.natAbs)
end Go.Proofs.YteafnkimcidkhaaGreat




