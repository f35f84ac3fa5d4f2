/- linear's calls tied to soft and span: plain functions of ranges and forms. -/
import Derived.Test.YteafnkimcidkhaaGreatLiN
import Derived.Test.YteafnkimcidkhaaGreatLiB
import Derived.Test.YteafnkimcidkhaaGreatFlR
namespace Go.Proofs.YteafnkimcidkhaaGreat
open Go.RowKit
set_option linter.unusedVariables false
set_option linter.unusedSimpArgs false
def wdR (r : Bool × Int × Int) : Prop := Word r.2.1 ∧ Word r.2.2
def liR (a : Bool × Int × Int) : Bool := rightP (WyF false) a
def liN (a : Bool × Int × Int) : Bool := liR a && !a.1
def liZ (a : Bool × Int × Int) : Bool := decide (a.1 = false ∧ a.2.1 = 0 ∧ a.2.2 = 0)
def lesP (x y : Int) : Int := if 0 < (cmpF false x y).1 then y else x
def greP (x y : Int) : Int := if (cmpF false x y).1 < 0 then y else x
def loP (g : Int → Int → Int → Int) (a b c d : Int) : Int := lesP (lesP (lesP (lesP (g 2 a c) (g 2 a c)) (g 2 a d)) (g 2 b c)) (g 2 b d)
def hiP (g : Int → Int → Int → Int) (a b c d : Int) : Int := greP (greP (greP (greP (g 1 b d) (g 1 a c)) (g 1 a d)) (g 1 b c)) (g 1 b d)
/-- From the least to the greatest, rounded outward; false: not finite. -/
def outP (g : Int → Int → Int → Int) (x y : Bool × Int × Int) : (Bool × Int × Int) × Bool :=
  if (liR x && liR y) = false then ((false, 0, 0), false) else if (x.1 || y.1) = true then ((true, 0, 0), true)
  else if (ofP (WyF false) (loP g x.2.1 x.2.2 y.2.1 y.2.2) (hiP g x.2.1 x.2.2 y.2.1 y.2.2)).1 = true then ((false, 0, 0), false)
  else (ofP (WyF false) (loP g x.2.1 x.2.2 y.2.1 y.2.2) (hiP g x.2.1 x.2.2 y.2.1 y.2.2), true)
theorem isrange_any (a : Bool × Int × Int) (h : wdR a) (w : World) : Calls Tryz.prog 77 #[.agg #[.bool a.1, .int .u64 a.2.1, .int .u64 a.2.2]] w fun e w' => e = .returned (.bool (liR a)) ∧ Below w.heap.size w w' := by
  obtain ⟨e, x, y⟩ := a
  exact lirange e x y _ (fun V => right_any 0 e x y h.1 h.2 V) w
theorem hasnum_any (a : Bool × Int × Int) (h : wdR a) (w : World) : Calls Tryz.prog 60 #[.agg #[.bool a.1, .int .u64 a.2.1, .int .u64 a.2.2]] w fun e w' => e = .returned (.bool (liN a)) ∧ Below w.heap.size w w' := by
  obtain ⟨e, x, y⟩ := a
  exact lihas e x y _ (fun V => isrange_any (e, x, y) h V) w
theorem iszero_any (a : Bool × Int × Int) (w : World) : Calls Tryz.prog 120 #[.agg #[.bool a.1, .int .u64 a.2.1, .int .u64 a.2.2]] w fun e w' => e = .returned (.bool (liZ a)) ∧ Below w.heap.size w w' := by
  obtain ⟨e, x, y⟩ := a
  exact lizero e x y w
theorem lesser_any (x y : Int) (hx : Word x) (hy : Word y) (w : World) : Calls Tryz.prog 105 #[.int .u64 x, .int .u64 y] w fun e w' => e = .returned (.int .u64 (lesP x y)) ∧ Below w.heap.size w w' :=
  lilesser x y _ _ (fun V => compare_fl 0 x y hx hy V) w
theorem greater_any (x y : Int) (hx : Word x) (hy : Word y) (w : World) : Calls Tryz.prog 106 #[.int .u64 x, .int .u64 y] w fun e w' => e = .returned (.int .u64 (greP x y)) ∧ Below w.heap.size w w' :=
  ligreater x y _ _ (fun V => compare_fl 0 x y hx hy V) w
theorem lesP_word {x y : Int} (hx : Word x) (hy : Word y) : Word (lesP x y) := by unfold lesP; split <;> assumption
theorem greP_word {x y : Int} (hx : Word x) (hy : Word y) : Word (greP x y) := by unfold greP; split <;> assumption
theorem out_any (kb : Nat) (eby : ∀ args w, (callFunc kb args).run Tryz.prog w = .ok (.enter kb args) w) (g : Int → Int → Int → Int) (gw : ∀ m x y, Word x → Word y → Word (g m x y)) (hg : ∀ m x y, Word x → Word y → ∀ V, Calls Tryz.prog kb #[.int .i64 0, .int .i64 m, .int .u64 x, .int .u64 y] V fun e w' => e = .returned (.int .u64 (g m x y)) ∧ Below V.heap.size V w') (x y : Bool × Int × Int) (hx : wdR x) (hy : wdR y) (w : World) :
    Calls Tryz.prog 53 #[.func (.func kb) #[] #[], .agg #[.bool x.1, .int .u64 x.2.1, .int .u64 x.2.2], .agg #[.bool y.1, .int .u64 y.2.1, .int .u64 y.2.2]] w fun e w' => e = .returned (.tuple #[.agg #[.bool (outP g x y).1.1, .int .u64 (outP g x y).1.2.1, .int .u64 (outP g x y).1.2.2], .bool (outP g x y).2]) ∧ Below w.heap.size w w' := by
  obtain ⟨e1, a, b⟩ := x
  obtain ⟨e2, c, d⟩ := y
  obtain ⟨ha, hb⟩ := hx
  obtain ⟨hc, hd⟩ := hy
  simp only at ha hb hc hd
  by_cases h : (liR (e1, a, b) && liR (e2, c, d)) = false
  · have := liout_no kb eby e1 a b e2 c d _ _ h (isrange_any (e1, a, b) ⟨ha, hb⟩) (isrange_any (e2, c, d) ⟨hc, hd⟩) w
    refine this.mono fun e w' q => ⟨?_, q.2⟩
    rw [q.1]
    simp only [outP, if_pos h]
  · have h' : liR (e1, a, b) = true ∧ liR (e2, c, d) = true := by simpa using h
    have r1 := isrange_any (e1, a, b) ⟨ha, hb⟩
    have r2 := isrange_any (e2, c, d) ⟨hc, hd⟩
    rw [h'.1] at r1
    rw [h'.2] at r2
    by_cases he : (e1 || e2) = true
    · have := liout_em kb eby e1 a b e2 c d he r1 r2 w
      refine this.mono fun e w' q => ⟨?_, q.2⟩
      rw [q.1]
      simp only [outP, if_neg h, if_pos he]
    · obtain ⟨rfl, rfl⟩ : e1 = false ∧ e2 = false := by simpa using he
      have w0 := gw 2 a c ha hc
      have w1 := gw 2 a d ha hd
      have w2 := gw 2 b c hb hc
      have w3 := gw 2 b d hb hd
      have v0 := gw 1 a c ha hc
      have v1 := gw 1 a d ha hd
      have v2 := gw 1 b c hb hc
      have v3 := gw 1 b d hb hd
      have this := liout_ok kb eby a b c d _ _ _ _ _ _ _ _ _ _ _ _ _ _ _ _ _ _ _ r1 r2 (hg 2 a c ha hc) (hg 1 a c ha hc) (hg 2 a d ha hd) (hg 1 a d ha hd) (hg 2 b c hb hc) (hg 1 b c hb hc) (hg 2 b d hb hd) (hg 1 b d hb hd)
        (lesser_any _ _ w0 w0) (greater_any _ _ v3 v0) (lesser_any _ _ (lesP_word w0 w0) w1) (greater_any _ _ (greP_word v3 v0) v1) (lesser_any _ _ (lesP_word (lesP_word w0 w0) w1) w2) (greater_any _ _ (greP_word (greP_word v3 v0) v1) v2)
        (lesser_any _ _ (lesP_word (lesP_word (lesP_word w0 w0) w1) w2) w3) (greater_any _ _ (greP_word (greP_word (greP_word v3 v0) v1) v2) v3)
        (ofF_any 0 _ _ (lesP_word (lesP_word (lesP_word (lesP_word w0 w0) w1) w2) w3) (greP_word (greP_word (greP_word (greP_word v3 v0) v1) v2) v3)) w
      refine this.mono fun e w' q => ⟨?_, q.2⟩
      rw [q.1]
      simp only [outP, if_neg h, if_neg he]
      show Ending.returned (if (ofP (WyF false) (loP g a b c d) (hiP g a b c d)).1 = true then _ else .tuple #[.agg #[.bool (ofP (WyF false) (loP g a b c d) (hiP g a b c d)).1, .int .u64 (ofP (WyF false) (loP g a b c d) (hiP g a b c d)).2.1, .int .u64 (ofP (WyF false) (loP g a b c d) (hiP g a b c d)).2.2], .bool true]) = _
      generalize ofP (WyF false) (loP g a b c d) (hiP g a b c d) = r
      cases h1 : r.1
      · simp [h1]
      · simp
theorem ofP_wd {x y : Int} (hx : Word x) (hy : Word y) : wdR (ofP (WyF false) x y) := by
  unfold ofP
  split
  · exact ⟨n_plainw _ _ hx, n_plainw _ _ hy⟩
  · exact ⟨word_0, word_0⟩
theorem outP_wd {g : Int → Int → Int → Int} (gw : ∀ m x y, Word x → Word y → Word (g m x y)) {x y : Bool × Int × Int} (hx : wdR x) (hy : wdR y) : wdR (outP g x y).1 := by
  unfold outP
  split
  · exact ⟨word_0, word_0⟩
  · split
    · exact ⟨word_0, word_0⟩
    · split
      · exact ⟨word_0, word_0⟩
      · obtain ⟨ha, hb⟩ := hx
        obtain ⟨hc, hd⟩ := hy
        exact ofP_wd (lesP_word (lesP_word (lesP_word (lesP_word (gw _ _ _ ha hc) (gw _ _ _ ha hc)) (gw _ _ _ ha hd)) (gw _ _ _ hb hc)) (gw _ _ _ hb hd)) (greP_word (greP_word (greP_word (greP_word (gw _ _ _ hb hd) (gw _ _ _ ha hc)) (gw _ _ _ ha hd)) (gw _ _ _ hb hc)) (gw _ _ _ hb hd))
def sumP : Bool × Int × Int → Bool × Int × Int → (Bool × Int × Int) × Bool := outP (addF false)
def prodP : Bool × Int × Int → Bool × Int × Int → (Bool × Int × Int) × Bool := outP (mulF false)
def trnP (x : Bool × Int × Int) : Bool × Int × Int := (false, plainF false (negF false x.2.2), plainF false (negF false x.2.1))
theorem lsum_any (x y : Bool × Int × Int) (hx : wdR x) (hy : wdR y) (w : World) :
    Calls Tryz.prog 13 #[.agg #[.bool x.1, .int .u64 x.2.1, .int .u64 x.2.2], .agg #[.bool y.1, .int .u64 y.2.1, .int .u64 y.2.2]] w fun e w' => e = .returned (.tuple #[.agg #[.bool (sumP x y).1.1, .int .u64 (sumP x y).1.2.1, .int .u64 (sumP x y).1.2.2], .bool (sumP x y).2]) ∧ Below w.heap.size w w' :=
  lisum _ _ _ _ _ _ _ _ _ _ (fun V => out_any 54 (fun a v => enters_of Tryz.func54 (by kernel_rfl) rfl a v) (addF false) (fun m x y h1 h2 => addF_word false m x y h1 h2) (fun m x y h1 h2 V => add_fl 0 m x y h1 h2 V) x y hx hy V) w
theorem lprod_any (x y : Bool × Int × Int) (hx : wdR x) (hy : wdR y) (w : World) :
    Calls Tryz.prog 15 #[.agg #[.bool x.1, .int .u64 x.2.1, .int .u64 x.2.2], .agg #[.bool y.1, .int .u64 y.2.1, .int .u64 y.2.2]] w fun e w' => e = .returned (.tuple #[.agg #[.bool (prodP x y).1.1, .int .u64 (prodP x y).1.2.1, .int .u64 (prodP x y).1.2.2], .bool (prodP x y).2]) ∧ Below w.heap.size w w' :=
  liprod _ _ _ _ _ _ _ _ _ _ (fun V => out_any 57 (fun a v => enters_of Tryz.func57 (by kernel_rfl) rfl a v) (mulF false) (fun m x y h1 h2 => mulF_word false m x y) (fun m x y h1 h2 V => mul_fl 0 m x y h1 h2 V) x y hx hy V) w
theorem negated_any (x : Int) (hx : Word x) (w : World) : Calls Tryz.prog 122 #[.int .u64 x] w fun e w' => e = .returned (.int .u64 (plainF false (negF false x))) ∧ Below w.heap.size w w' :=
  linegd x _ _ (fun V => neg_fl 0 x hx V) (fun V => plain_any 0 _ (negF_word false x hx) V) w
theorem turned_any (x : Bool × Int × Int) (hx : wdR x) (w : World) : Calls Tryz.prog 71 #[.agg #[.bool x.1, .int .u64 x.2.1, .int .u64 x.2.2]] w fun e w' => e = .returned (.agg #[.bool false, .int .u64 (trnP x).2.1, .int .u64 (trnP x).2.2]) ∧ Below w.heap.size w w' :=
  liturned x.1 x.2.1 x.2.2 _ _ (fun V => negated_any _ hx.2 V) (fun V => negated_any _ hx.1 V) w
theorem trnP_wd {x : Bool × Int × Int} (hx : wdR x) : wdR (trnP x) := ⟨n_plainw _ _ (negF_word _ _ hx.2), n_plainw _ _ (negF_word _ _ hx.1)⟩
end Go.Proofs.YteafnkimcidkhaaGreat

