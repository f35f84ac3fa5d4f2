/- Blur as a plain function; LinearWhole. -/
import Derived.Test.YteafnkimcidkhaaGreatLiU
import Derived.Test.YteafnkimcidkhaaGreatLiO
import Derived.Test.YteafnkimcidkhaaGreatLiW
import Derived.Test.YteafnkimcidkhaaGreatLiP
namespace Go.Proofs.YteafnkimcidkhaaGreat
open Go.RowKit Go.Shelf
set_option linter.unusedVariables false
set_option linter.unusedSimpArgs false
set_option maxRecDepth 100000 in
theorem two_52 : rndQ false 0 false (nn 0 1) (clamp (-52)) false = 4372995238176751616 := by decide +kernel
set_option maxRecDepth 100000 in
theorem two_1074 : rndQ false 0 false (nn 0 1) (clamp (-1074)) false = 1 := by decide +kernel
set_option maxRecDepth 100000 in
theorem two_23 : rndQ false 0 false (nn 0 1) (clamp (-23)) false = 4503599627370496000 := by decide +kernel
set_option maxRecDepth 100000 in
theorem two_149 : rndQ false 0 false (nn 0 1) (clamp (-149)) false = 3936146074321813504 := by decide +kernel
theorem pow_any (e x : Int) (h : rndQ false 0 false (nn 0 1) (clamp e) false = x) (e1 : -9223372036854775808 ≤ e) (e2 : e ≤ 9223372036854775807) (w : World) : Calls Tryz.prog 63 #[.int .i64 e] w fun e w' => e = .returned (.int .u64 x) ∧ Below w.heap.size w w' :=
  lipow e _ (fun V => by
    have := round_any 0 0 false 0 1 e false word_0 ⟨by decide, by decide⟩ e1 e2 V
    rw [show ((0 : Int) == 1) = false from rfl, h] at this
    exact this) w
theorem absw_li (s : Bool) (a : Int) (h : Word a) : Word (absF s a) := by
  unfold absF
  split
  · exact nan_word s
  · exact zOf_word s a h
def placeP (f : Int) : Int := if f = 1 then 4503599627370496000 else 4372995238176751616
def leastP (f : Int) : Int := if f = 1 then 3936146074321813504 else 1
def slkP (f : Int) (r : Bool × Int × Int) : Int := addF false 1 (mulF false 1 (greP (absF false r.2.1) (absF false r.2.2)) (placeP f)) (leastP f)
def bluP (A : Frm) (f : Int) (r : Bool × Int × Int) : Frm := if liR r = false then whF else if r.1 = true then addP A zrF else addP A (ofP' (false, negF false (slkP f r), slkP f r))
theorem place_word (f : Int) : Word (placeP f) := by unfold placeP; split <;> exact ⟨by decide, by decide⟩
theorem least_word (f : Int) : Word (leastP f) := by unfold leastP; split <;> exact ⟨by decide, by decide⟩
theorem slk_word (f : Int) (r : Bool × Int × Int) (hr : wdR r) : Word (slkP f r) := addF_word _ _ _ _ (mulF_word _ _ _ _) (least_word f)
theorem slack_any (f : Int) (r : Bool × Int × Int) (hr : wdR r) (w : World) : Calls Tryz.prog 78 #[.int .i64 f, .agg #[.bool r.1, .int .u64 r.2.1, .int .u64 r.2.2]] w fun e w' => e = .returned (.int .u64 (slkP f r)) ∧ Below w.heap.size w w' := by
  by_cases hf : f = 1
  · have hp : placeP f = 4503599627370496000 := if_pos hf
    have hl : leastP f = 3936146074321813504 := if_pos hf
    have := lislacks f hf r.1 r.2.1 r.2.2 _ _ _ _ _ _ _ _ _ (pow_any (-52) _ two_52 (by decide) (by decide)) (pow_any (-1074) _ two_1074 (by decide) (by decide)) (pow_any (-23) _ two_23 (by decide) (by decide)) (pow_any (-149) _ two_149 (by decide) (by decide))
      (fun V => abs_fl 0 r.2.1 hr.1 V) (fun V => abs_fl 0 r.2.2 hr.2 V) (fun V => greater_any _ _ (absw_li _ _ hr.1) (absw_li _ _ hr.2) V) (fun V => mul_fl 0 1 _ _ (greP_word (absw_li _ _ hr.1) (absw_li _ _ hr.2)) ⟨by decide, by decide⟩ V) (fun V => add_fl 0 1 _ _ (mulF_word _ _ _ _) ⟨by decide, by decide⟩ V) w
    rw [slkP, hp, hl]
    exact this
  · have hp : placeP f = 4372995238176751616 := if_neg hf
    have hl : leastP f = 1 := if_neg hf
    have := lislackd f hf r.1 r.2.1 r.2.2 _ _ _ _ _ _ _ (pow_any (-52) _ two_52 (by decide) (by decide)) (pow_any (-1074) _ two_1074 (by decide) (by decide))
      (fun V => abs_fl 0 r.2.1 hr.1 V) (fun V => abs_fl 0 r.2.2 hr.2 V) (fun V => greater_any _ _ (absw_li _ _ hr.1) (absw_li _ _ hr.2) V) (fun V => mul_fl 0 1 _ _ (greP_word (absw_li _ _ hr.1) (absw_li _ _ hr.2)) ⟨by decide, by decide⟩ V) (fun V => add_fl 0 1 _ _ (mulF_word _ _ _ _) ⟨by decide, by decide⟩ V) w
    rw [slkP, hp, hl]
    exact this
theorem form_blur (A : Frm) (hA : fOk A) (f : Int) (r : Bool × Int × Int) (hr : wdR r) (va : Value) (w : World) (ta : TAt w va A.2.2) :
    Calls Tryz.prog 39 #[.agg #[.bool A.1, .bool A.2.1.1, .int .u64 A.2.1.2.1, .int .u64 A.2.1.2.2, va], .int .i64 f, .agg #[.bool r.1, .int .u64 r.2.1, .int .u64 r.2.2]] w fun e w' => Told (bluP A f r) w.heap.size e w' ∧ Below w.heap.size w w' := by
  have hh := isrange_any r hr
  cases hR : liR r
  · rw [hR] at hh
    refine (liblur_no A.1 A.2.1.1 A.2.1.2.1 A.2.1.2.2 va ta.sl f r.1 r.2.1 r.2.2 hh liwhole w).mono fun e w' q => ⟨?_, q.2⟩
    rw [bluP, if_pos hR, q.1]
    exact whole_told _ _
  · rw [hR] at hh
    cases he : r.1
    · have hb : bluP A f r = addP A (ofP' (false, negF false (slkP f r), slkP f r)) := by rw [bluP, if_neg (by rw [hR]; simp), if_neg (by rw [he]; simp)]
      have wo : wdR (false, negF false (slkP f r), slkP f r) := ⟨negF_word _ _ (slk_word f r hr), slk_word f r hr⟩
      have hs := slack_any f r hr
      rw [he] at hh hs
      rw [hb]
      exact (liblur_ok A.1 A.2.1.1 A.2.1.2.1 A.2.1.2.2 va ta.sl f false r.2.1 r.2.2 rfl _ _ _ _ _ _ (fun V => TAt V va A.2.2) (fun W V a b => a.on b) (TQ (addP A (ofP' (false, negF false (slkP f r), slkP f r)))) (fun _ _ _ _ ls => ls = (addP A (ofP' (false, negF false (slkP f r), slkP f r))).2.2) hh hs (fun V => neg_fl 0 _ (slk_word f r hr) V) (fun V => form_of (false, negF false (slkP f r), slkP f r) wo V)
        (fun V hV => (form_add A _ hA (ofP_ok' wo) va (.slice none 0 0) V hV (Or.inl ⟨rfl, by unfold ofP'; split <;> rfl⟩)).mono fun e w' q => ⟨q.1.to, q.2⟩) w ta).mono fun e w' q => ⟨.of q.1, q.2⟩
    · have hb : bluP A f r = addP A zrF := by rw [bluP, if_neg (by rw [hR]; simp), if_pos he]
      rw [he] at hh
      rw [hb]
      exact (liblur_em A.1 A.2.1.1 A.2.1.2.1 A.2.1.2.2 va ta.sl f true r.2.1 r.2.2 rfl (fun V => TAt V va A.2.2) (fun W V a b => a.on b) (TQ (addP A zrF)) (fun _ _ _ _ ls => ls = (addP A zrF).2.2) hh
        (fun V hV => (form_add A zrF hA zrF_ok va (.slice none 0 0) V hV (Or.inl ⟨rfl, rfl⟩)).mono fun e w' q => ⟨q.1.to, q.2⟩) w ta).mono fun e w' q => ⟨.of q.1, q.2⟩
theorem frB_wh : frB whF = false := by simp [frB, whF]
theorem recP_wh1 (BY : Bool × Int × Int → Bool × Int × Int → (Bool × Int × Int) × Bool) (B : Frm) : recP BY whF B = whF := by rw [recP, if_neg]; rw [frB_wh]; simp
theorem recP_wh2 (BY : Bool × Int × Int → Bool × Int × Int → (Bool × Int × Int) × Bool) (A : Frm) : recP BY A whF = whF := by rw [recP, if_neg]; rw [frB_wh]; simp
theorem told_wh {n : Nat} {e : Ending} {w' : World} (h : Told whF n e w') : ∃ p n c, e = .returned (.agg #[.bool true, .bool false, .int .u64 0, .int .u64 0, .slice p n c]) := by
  obtain ⟨rv, he, ht, _⟩ := h
  obtain ⟨p, cap, rfl⟩ := ht.len
  exact ⟨_, _, _, he⟩
theorem few_ok {c : Bool × Int × Int} {wh : Bool} {ls : List (Int × Bool × Int × Int)} (hc : wdR c) (hw : ∀ t ∈ ls, tmW t) : fOk (wh, c, ls.take 40) := by
  refine ⟨hc, fun t ht => ?_, ?_⟩
  · have := hw t (List.mem_of_mem_take ht)
    exact ⟨this.2.1, this.2.2⟩
  · simp only [List.length_take]
    omega
theorem law_whole (wh e : Bool) (a b : Int) (s : Value) (ls : List (Int × Bool × Int × Int)) (wa : Word a) (wb : Word b) (hw : ∀ t ∈ ls, tmW t) (e1 : Bool) (lb hb : Int) (wl : Word lb) (wh' : Word hb) (vl : Value) (w : World) (hT : TAt w s ls) :
    Calls Tryz.prog 11 #[.agg #[.bool wh, .bool e, .int .u64 a, .int .u64 b, s], .agg #[.bool e1, .int .u64 lb, .int .u64 hb], vl] w fun e w' => e = .returned (.bool true) ∧ Below w.heap.size w w' := by
  have hA : fOk (wh, (e, a, b), ls.take 40) := few_ok ⟨wa, wb⟩ hw
  have tw : ∀ V, TAt V (.slice none 0 0) whF.2.2 := fun V => Or.inl ⟨rfl, rfl⟩
  refine liwh wh e a b s hT.sl e1 lb hb vl (ls.take 40) (fun V => TAt V s ls) (fun W V a b => a.on b) (fun V hV => lifew wh e a b s ls V hV)
    (fun V => lieval_no true false 0 0 (.slice none 0 0) ⟨_, _, _, rfl⟩ vl (fun _ => True) (fun _ _ _ _ => trivial) (fun V _ => ?_) V trivial) lilive_any (fun V => form_right whF whF_ok _ V (tw V))
    (fun V v hv => ?_) (fun V v hv => ?_) (fun V v hv => ?_) (fun V => ?_) (fun V => ?_) (fun V => ?_) w hT
  · have := form_bound whF whF_ok _ V (tw V)
    rwa [frB_wh] at this
  · refine (form_add whF (wh, (e, a, b), ls.take 40) whF_ok hA _ v V (tw V) hv).mono fun e w' q => ⟨?_, q.2⟩
    rw [addP, recP_wh1] at q
    exact told_wh q.1
  · refine (form_add (wh, (e, a, b), ls.take 40) whF hA whF_ok v _ V hv (tw V)).mono fun e w' q => ⟨?_, q.2⟩
    rw [addP, recP_wh2] at q
    exact told_wh q.1
  · refine (form_sub (wh, (e, a, b), ls.take 40) whF hA whF_ok v _ V hv (tw V)).mono fun e w' q => ⟨?_, q.2⟩
    rw [subP, addP, negP, recP_wh1, recP_wh2] at q
    exact told_wh q.1
  · refine (form_neg whF whF_ok _ V (tw V)).mono fun e w' q => ⟨?_, q.2⟩
    rw [negP, recP_wh1] at q
    exact told_wh q.1
  · refine (form_scale whF whF_ok (e1, lb, hb) ⟨wl, wh'⟩ _ V (tw V)).mono fun e w' q => ⟨?_, q.2⟩
    rw [scaP, recP_wh1, ite_self] at q
    exact told_wh q.1
  · refine (form_blur whF whF_ok 0 (e1, lb, hb) ⟨wl, wh'⟩ _ V (tw V)).mono fun e w' q => ⟨?_, q.2⟩
    rw [bluP, addP, addP, recP_wh1, recP_wh1, ite_self, ite_self] at q
    exact told_wh q.1
end Go.Proofs.YteafnkimcidkhaaGreat

