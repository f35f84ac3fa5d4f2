/- A drawn region by what each of its operations tells, whatever their order: no branch over orders. -/
import Derived.Deep.RegionHeld
import Derived.OwnWalk
import Derived.Below
import Derived.Laws.AppendOwn
namespace Go.Proofs.YtknoibocpbfmmaaGreatDoor
open Go.RowKit
set_option linter.unusedVariables false
set_option linter.unusedSimpArgs false
theorem sp_below {W w w' : World} (h : Below W.heap.size W w) (g : Below w.heap.size w w') : Below W.heap.size W w' := h.trans (g.mono h.size)
/-- An array of temporaries whose slots 'ds' hold what 'g' says. -/
def fillT (T : Array Value) (ds : List Nat) (g : Nat → Value) : Array Value := ds.foldl (fun T d => T.setIfInBounds d (g d)) T
theorem fillT_size (ds : List Nat) (g : Nat → Value) : ∀ T : Array Value, (fillT T ds g).size = T.size := by
 induction ds with
 | nil => intro T; rfl
 | cons d ds ih =>
  intro T
  show (fillT (T.setIfInBounds d (g d)) ds g).size = T.size
  rw [ih, Array.size_setIfInBounds]
theorem fillT_at (ds : List Nat) (g : Nat → Value) (k : Nat) : ∀ T : Array Value, (fillT T ds g)[k]? = if k ∈ ds ∧ k < T.size then some (g k) else T[k]? := by
 induction ds with
 | nil => intro T; rw [if_neg (fun h => by cases h.1)]; rfl
 | cons d ds ih =>
  intro T
  show (fillT (T.setIfInBounds d (g d)) ds g)[k]? = _
  rw [ih, Array.size_setIfInBounds, Array.getElem?_setIfInBounds]
  by_cases hk : k < T.size
  ·by_cases h1 : k ∈ ds
   ·rw [if_pos ⟨h1, hk⟩, if_pos ⟨List.mem_cons_of_mem _ h1, hk⟩]
   ·rw [if_neg (fun h => h1 h.1)]
    by_cases h2 : d = k
    ·subst h2
     rw [if_pos rfl, if_pos hk, if_pos ⟨List.mem_cons_self, hk⟩]
    ·rw [if_neg h2, if_neg (fun h => (List.mem_cons.1 h.1).elim (fun e => h2 e.symm) h1)]
  ·rw [if_neg (fun h => hk h.2)]
   by_cases h2 : d = k
   ·subst h2
    rw [if_pos rfl, if_neg hk, if_neg (fun h => hk h.2), Array.getElem?_eq_none (by omega)]
   ·rw [if_neg h2, if_neg (fun h => hk h.2)]
theorem fillT_self (T : Array Value) (ds : List Nat) : T = fillT T ds (fun d => T.getD d undef) := by
 apply Array.ext_getElem?
 intro k
 rw [fillT_at]
 split
 ·rename_i h
  rw [Array.getElem?_eq_getElem h.2]
  simp [Array.getD, h.2]
 ·rfl
theorem fillT_set (T : Array Value) (ds : List Nat) (g : Nat → Value) (d : Nat) (v : Value) (hd : d ∈ ds) : (fillT T ds g).setIfInBounds d v = fillT T ds (fun k => if k = d then v else g k) := by
 apply Array.ext_getElem?
 intro k
 rw [Array.getElem?_setIfInBounds, fillT_at, fillT_at, fillT_size]
 by_cases h2 : d = k
 ·subst h2
  rw [if_pos rfl]
  by_cases hk : d < T.size
  ·rw [if_pos hk, if_pos ⟨hd, hk⟩, if_pos rfl]
  ·rw [if_neg hk, if_neg (fun h => hk h.2), Array.getElem?_eq_none (by omega)]
 ·rw [if_neg h2]
  by_cases h1 : k ∈ ds ∧ k < T.size
  ·rw [if_pos h1, if_pos h1, if_neg (fun e => h2 (Eq.symm e))]
  ·rw [if_neg h1, if_neg h1]
section
variable {P : Program} {ops : Array Oper} {Q : Exit → Act → World → Prop} {md : Region.Mode}
/-- Each operation waits for earlier ones alone. -/
def lowB (ops : Array Oper) : Bool := (List.range ops.size).all fun i => ((ops[i]?).map fun o => o.after.all fun e => decide (e.on < i)).getD true
def dstOf (ops : Array Oper) (i : Nat) : Option Nat := (ops[i]?).bind (·.dst)
/-- The operations that one waits for, with their temporaries. -/
def depsB (md : Region.Mode) (ops : Array Oper) (o : Oper) : List (Nat × Nat) := o.after.toList.filterMap fun e => if Region.binds md e then (dstOf ops e.on).map fun d => (e.on, d) else none
/-- No two write one temporary, and all are among 'ds'. -/
def okDs (m : Nat) (ops : Array Oper) (ds : List Nat) : Bool := (List.range m).all fun i => (match dstOf ops i with | some d => ds.contains d | none => true) && (List.range m).all fun j => i == j || dstOf ops i == none || !(dstOf ops i == dstOf ops j)
theorem count_lt {p q : Nat → Bool} (i : Nat) (h : ∀ k, q k = true → p k = true) (hp : p i = true) (hq : q i = false) : ∀ l : List Nat, i ∈ l → (l.filter q).length < (l.filter p).length := by
 have le : ∀ l : List Nat, (l.filter q).length ≤ (l.filter p).length := by
  intro l
  induction l with
  | nil => exact Nat.le_refl _
  | cons x xs ih =>
   rw [List.filter_cons, List.filter_cons]
   by_cases hx : q x = true
   ·rw [if_pos hx, if_pos (h x hx), List.length_cons, List.length_cons]; omega
   ·rw [if_neg hx]
    split
    ·rw [List.length_cons]; omega
    ·exact ih
 intro l hl
 induction l with
 | nil => cases hl
 | cons x xs ih =>
  rw [List.filter_cons, List.filter_cons]
  rcases List.mem_cons.1 hl with rfl | hm
  ·have := le xs
   rw [if_neg (by rw [hq]; decide), if_pos hp, List.length_cons]; omega
  ·have := ih hm
   by_cases hx : q x = true
   ·rw [if_pos hx, if_pos (h x hx), List.length_cons, List.length_cons]; omega
   ·rw [if_neg hx]
    split
    ·rw [List.length_cons]; omega
    ·exact this
theorem getD_any {listed : Array Bool} {k : Nat} (h : k < listed.size) (a b : Bool) : listed.getD k a = listed.getD k b := by simp [Array.getD, h]
theorem wpAny_inv (hlow : lowB ops = true) (I : Array Bool → Act → World → Prop) (hsz : ∀ listed a w, I listed a w → listed.size = ops.size)
  (hstep : ∀ listed a w i, I listed a w → i ∈ Region.ready md ops listed → wpOp P ops Q i (fun a' w' => I (listed.setIfInBounds i true) a' w') a w)
  (hdone : ∀ listed a w, I listed a w → (∀ k, k < ops.size → listed.getD k false = true) → Q .normal a w) :
  ∀ (fuel : Nat) (listed : Array Bool) (a : Act) (w : World), ((List.range ops.size).filter fun k => !listed.getD k true).length ≤ fuel → I listed a w → wpAny P md ops Q fuel listed a w := by
 have fin : ∀ listed : Array Bool, listed.size = ops.size → Region.ready md ops listed = [] → ∀ k, k < ops.size → listed.getD k false = true := by
  intro listed hs hr k
  induction k using Nat.strongRecOn with
  | ind k ih =>
   intro hk
   by_cases hl : listed.getD k false = true
   ·exact hl
   ·exfalso
    have hm : k ∈ Region.ready md ops listed := by
     refine mem_ready.2 ⟨?_, ops[k], Array.getElem?_eq_getElem hk, fun e he _ => ?_⟩
     ·rw [getD_any (by omega) true false]; simpa using hl
     ·have h1 := List.all_eq_true.1 hlow k (List.mem_range.2 hk)
      rw [Array.getElem?_eq_getElem hk] at h1
      simp only [Option.map_some, Option.getD_some, Array.all_eq_true_iff_forall_mem, decide_eq_true_eq] at h1
      have := h1 e he
      exact ih e.on this (by omega)
    rw [hr] at hm
    cases hm
 intro fuel
 induction fuel with
 | zero =>
  intro listed a w hc hI
  have hs := hsz _ _ _ hI
  have hr : Region.ready md ops listed = [] := by
   cases hq : Region.ready md ops listed with
   | nil => rfl
   | cons x xs =>
    exfalso
    have hx : x ∈ Region.ready md ops listed := by rw [hq]; exact List.mem_cons_self
    obtain ⟨h1, o, ho, _⟩ := mem_ready.1 hx
    have hlt : x < ops.size := (Array.getElem?_eq_some_iff.1 ho).1
    have : x ∈ (List.range ops.size).filter fun k => !listed.getD k true := List.mem_filter.2 ⟨List.mem_range.2 hlt, by rw [h1]; rfl⟩
    have := List.length_pos_of_mem this
    omega
  exact ⟨hr, hdone _ _ _ hI (fin _ hs hr)⟩
 | succ fuel ih =>
  intro listed a w hc hI
  have hs := hsz _ _ _ hI
  refine ⟨fun hr => hdone _ _ _ hI (fin _ hs hr), fun i hi => ?_⟩
  refine wpOp_mono (fun a' w' hI' => ih _ a' w' ?_ hI') (hstep _ _ _ i hI hi)
  obtain ⟨h1, o, ho, _⟩ := mem_ready.1 hi
  have hlt : i < ops.size := (Array.getElem?_eq_some_iff.1 ho).1
  have := count_lt (p := fun k => !listed.getD k true) (q := fun k => !(listed.setIfInBounds i true).getD k true) i (fun k hk => by
   by_cases e : i = k
   ·subst e; show (!listed.getD i true) = true; rw [h1]; rfl
   ·have hk2 : (!(listed.setIfInBounds i true).getD k true) = true := hk
    rw [getD_set_ne true e] at hk2; exact hk2) (by show (!listed.getD i true) = true; rw [h1]; rfl) (by
    show (!(listed.setIfInBounds i true).getD i true) = false
    simp [Array.getD, Array.size_setIfInBounds, hs, hlt]) (List.range ops.size) (List.mem_range.2 hlt)
  omega
/-- One operation's part: it tells what 'R' asks of its value, given what is told of those that it waits for. -/
def StepI (P : Program) (ops : Array Oper) (Q : Exit → Act → World → Prop) (T : Array Value) (D : List Deferred) (ds : List Nat) (W : World) (R : Nat → Value → World → Prop) (i : Nat) (o : Oper) : Prop :=
 ∀ (g : Nat → Value) (w : World), Below W.heap.size W w → (∀ k d, (depsB .any ops o).contains (k, d) = true → R k (g d) w) → ∀ K' : Act → World → Prop, Shut (∀ v w', Below w.heap.size w w' → R i v w' → K' (Act.put ⟨fillT T ds g, D⟩ o.dst v) w') →
  if Region.wanted o (yielded ops (fillT T ds g)) = true then Oper.wp P o ⟨fillT T ds g, D⟩ w K' Q else K' (Act.put ⟨fillT T ds g, D⟩ o.dst undef) w
def StepsI (P : Program) (ops : Array Oper) (Q : Exit → Act → World → Prop) (T : Array Value) (D : List Deferred) (ds : List Nat) (W : World) (R : Nat → Value → World → Prop) (rs : List Nat) : Prop :=
 ∀ i ∈ rs, ∀ o, ops[i]? = some o → StepI P ops Q T D ds W R i o
theorem StepsI.nil {T : Array Value} {D : List Deferred} {ds : List Nat} {W : World} {R : Nat → Value → World → Prop} : StepsI P ops Q T D ds W R [] := fun _ h => by cases h
theorem StepsI.cons {T : Array Value} {D : List Deferred} {ds : List Nat} {W : World} {R : Nat → Value → World → Prop} {i : Nat} {o : Oper} {rs : List Nat} (ho : ops[i]? = some o) (h : StepI P ops Q T D ds W R i o) (hs : StepsI P ops Q T D ds W R rs) : StepsI P ops Q T D ds W R (i :: rs) := fun j hj o' ho' => by
 rcases List.mem_cons.1 hj with rfl | hj
 ·rw [ho] at ho'; cases ho'; exact h
 ·exact hs j hj o' ho'
/-- **A drawn region by what each operation tells, whatever the order.** -/
theorem wp_region_inv {id : Nat} {T : Array Value} {D : List Deferred} {W : World} (ds : List Nat) (R : Nat → Value → World → Prop) (rs : List Nat)
  (hm : P.follows .mixedOrders = true) (hlow : lowB ops = true) (hds : okDs ops.size ops ds = true) (hrs : rs = List.range ops.size)
  (mono : ∀ k v w w', R k v w → Below w.heap.size w w' → R k v w')
  (step : StepsI P ops Q T D ds W R rs)
  (done : ∀ g w, Below W.heap.size W w → (∀ k d, k < ops.size → dstOf ops k = some d → R k (g d) w) → Q .normal ⟨fillT T ds g, D⟩ w) : (Code.region id ops true).wp P Q ⟨T, D⟩ W := by
 have inj : ∀ i j d, i < ops.size → j < ops.size → dstOf ops i = some d → dstOf ops j = some d → i = j := by
  intro i j d hi hj h1 h2
  have h := List.all_eq_true.1 hds i (List.mem_range.2 hi)
  rw [Bool.and_eq_true] at h
  have h3 := List.all_eq_true.1 h.2 j (List.mem_range.2 hj)
  rw [h1, h2] at h3
  simpa using h3
 have inds : ∀ i d, i < ops.size → dstOf ops i = some d → d ∈ ds := by
  intro i d hi h1
  have h := List.all_eq_true.1 hds i (List.mem_range.2 hi)
  rw [Bool.and_eq_true, h1] at h
  simpa using h.1
 refine wp_region_any hm ?_
 refine wpAny_inv hlow (fun listed a w => listed.size = ops.size ∧ Below W.heap.size W w ∧ ∃ g, a = ⟨fillT T ds g, D⟩ ∧ ∀ k d, listed.getD k false = true → dstOf ops k = some d → R k (g d) w)
  (fun _ _ _ h => h.1) ?_ ?_ _ _ _ _ ?_ ?_
 ·rintro listed a w i ⟨hs, hb, g, rfl, hg⟩ hi
  obtain ⟨h1, o, ho, hdep⟩ := mem_ready.1 hi
  have hlt : i < ops.size := (Array.getElem?_eq_some_iff.1 ho).1
  refine wpOp_step ho fun K' hK => ?_
  refine step i (by rw [hrs]; exact List.mem_range.2 hlt) o ho g w hb (fun k d hkd => ?_) K' (fun v w' hw hr => hK _ _ ?_)
  ·have hkd := List.contains_iff_mem.1 hkd
   obtain ⟨e, he, hed⟩ := List.mem_filterMap.1 hkd
   by_cases hbd : Region.binds .any e = true
   ·rw [if_pos hbd] at hed
    cases hde : dstOf ops e.on with
    | none => rw [hde] at hed; cases hed
    | some x =>
     rw [hde] at hed
     simp only [Option.map_some, Option.some.injEq, Prod.mk.injEq] at hed
     obtain ⟨rfl, rfl⟩ := hed
     exact hg _ _ (hdep e (by simpa using he) hbd) hde
   ·rw [if_neg hbd] at hed; cases hed
  ·refine ⟨by rw [Array.size_setIfInBounds, hs], sp_below hb hw, ?_⟩
   cases hd : o.dst with
   | none =>
    refine ⟨g, rfl, fun k d hk hkd => ?_⟩
    have hki : k ≠ i := fun e => by
     subst e
     unfold dstOf at hkd
     rw [ho] at hkd
     simp [hd] at hkd
    rw [getD_set_ne false (Ne.symm hki)] at hk
    exact mono _ _ _ _ (hg k d hk hkd) hw
   | some d0 =>
    have hdi : dstOf ops i = some d0 := by unfold dstOf; rw [ho]; exact hd
    refine ⟨fun k => if k = d0 then v else g k, by show Act.mk _ _ = _; rw [fillT_set _ _ _ _ _ (inds i d0 hlt hdi)], fun k d hk hkd => ?_⟩
    have hkl : k < ops.size := by
     unfold dstOf at hkd
     cases hq : ops[k]? with
     | none => rw [hq] at hkd; cases hkd
     | some o' => exact (Array.getElem?_eq_some_iff.1 hq).1
    by_cases e : k = i
    ·subst e
     rw [hdi] at hkd
     cases hkd
     show R k (if d0 = d0 then v else g d0) w'
     rw [if_pos rfl]
     exact hr
    ·rw [getD_set_ne false (Ne.symm e)] at hk
     have hne : d ≠ d0 := fun e2 => e (inj k i d hkl hlt hkd (e2 ▸ hdi))
     show R k (if d = d0 then v else g d) w'
     rw [if_neg hne]
     exact mono _ _ _ _ (hg k d hk hkd) hw
 ·rintro listed a w ⟨hs, hb, g, rfl, hg⟩ hall
  exact done g w hb fun k d hk hkd => hg k d (hall k hk) hkd
 ·refine Nat.le_trans (List.length_filter_le _ _) ?_
  simp
 ·refine ⟨by simp, (Below.refl _ W).drew, fun d => T.getD d undef, by rw [← fillT_self], fun k d hk _ => ?_⟩
  exfalso
  by_cases hk2 : k < ops.size <;> simp [Array.getD, hk2] at hk
end
section
variable {P : Program} {ops : Array Oper} {Q : Exit → Act → World → Prop} {md : Region.Mode}
/-- Operation 'm' waits, by and by, for all before it; all behind it wait, by and by, for it. -/
def sinkAt (m : Nat) (ops : Array Oper) : Bool := decide (m < ops.size) && ((List.range m).all fun k => (List.range (m + 1)).any fun j => decide (k < j) && (match ops[j]? with | some o => o.after.any fun e => Region.binds .any e && e.on == k | none => false)) &&
 (List.range ops.size).all fun j => decide (j ≤ m) || (match ops[j]? with | some o => o.after.any fun e => Region.binds .any e && decide (m ≤ e.on) | none => false)
/-- **The operations ahead of 'm' by what each tells, whatever their order; from there on by hand.** -/
theorem wp_region_pre {id : Nat} {T : Array Value} {D : List Deferred} {W : World} (m : Nat) (ds : List Nat) (R : Nat → Value → World → Prop) (rs : List Nat)
  (hm : P.follows .mixedOrders = true) (hlow : lowB ops = true) (hds : okDs m ops ds = true) (hrs : rs = List.range m) (hsk : sinkAt m ops = true) {r : Nat} {lst : Array Bool} (hn : ops.size - m = r) (hl : ((List.range ops.size).map fun k => decide (k < m)).toArray = lst)
  (mono : ∀ k v w w', R k v w → Below w.heap.size w w' → R k v w')
  (step : StepsI P ops Q T D ds W R rs)
  (done : ∀ f g w, Below W.heap.size W w → (∀ k d, k < m → dstOf ops k = some d → R k (g d) w) → wpAny P .any ops Q (f + r) lst ⟨fillT T ds g, D⟩ w) : (Code.region id ops true).wp P Q ⟨T, D⟩ W := by
 subst hn hl
 have inj : ∀ i j d, i < m → j < m → dstOf ops i = some d → dstOf ops j = some d → i = j := by
  intro i j d hi hj h1 h2
  have h := List.all_eq_true.1 hds i (List.mem_range.2 hi)
  rw [Bool.and_eq_true] at h
  have h3 := List.all_eq_true.1 h.2 j (List.mem_range.2 hj)
  rw [h1, h2] at h3
  simpa using h3
 have inds : ∀ i d, i < m → dstOf ops i = some d → d ∈ ds := by
  intro i d hi h1
  have h := List.all_eq_true.1 hds i (List.mem_range.2 hi)
  rw [Bool.and_eq_true, h1] at h
  simpa using h.1
 simp only [sinkAt, Bool.and_eq_true, decide_eq_true_eq] at hsk
 obtain ⟨⟨hmn, hsk⟩, htl⟩ := hsk
 have succ : ∀ k, k < m → ∃ j o, k < j ∧ j ≤ m ∧ ops[j]? = some o ∧ ∃ e ∈ o.after, Region.binds .any e = true ∧ e.on = k := by
  intro k hk
  obtain ⟨j, hj, h⟩ := List.any_eq_true.1 (List.all_eq_true.1 hsk k (List.mem_range.2 hk))
  rw [Bool.and_eq_true, decide_eq_true_eq] at h
  have hj := List.mem_range.1 hj
  cases ho : ops[j]? with
  | none => rw [ho] at h; exact absurd h.2 (by simp)
  | some o =>
   rw [ho] at h
   obtain ⟨x, hx, hx2⟩ := Array.any_eq_true.1 h.2
   rw [Bool.and_eq_true, beq_iff_eq] at hx2
   exact ⟨j, o, h.1, by omega, ho, o.after[x], Array.getElem_mem hx, hx2⟩
 have tail : ∀ j o, m < j → ops[j]? = some o → ∃ e ∈ o.after, Region.binds .any e = true ∧ m ≤ e.on := by
  intro j o hj ho
  have h := List.all_eq_true.1 htl j (List.mem_range.2 (Array.getElem?_eq_some_iff.1 ho).1)
  rw [Bool.or_eq_true, decide_eq_true_eq, ho] at h
  rcases h with h | h
  ·omega
  ·obtain ⟨x, hx, hx2⟩ := Array.any_eq_true.1 h
   rw [Bool.and_eq_true, decide_eq_true_eq] at hx2
   exact ⟨o.after[x], Array.getElem_mem hx, hx2⟩
 have low : ∀ (j : Nat) (o : Oper), ops[j]? = some o → ∀ e ∈ o.after, e.on < j := by
  intro j o ho e he
  have h1 := List.all_eq_true.1 hlow j (List.mem_range.2 (Array.getElem?_eq_some_iff.1 ho).1)
  rw [ho] at h1
  simp only [Option.map_some, Option.getD_some, Array.all_eq_true_iff_forall_mem, decide_eq_true_eq] at h1
  exact h1 e he
 refine wp_region_any hm ?_
 have main : ∀ (fuel : Nat) (listed : Array Bool) (g : Nat → Value) (w : World), listed.size = ops.size → (∀ k, m ≤ k → listed.getD k false = false) →
   (∀ j o, ops[j]? = some o → listed.getD j false = true → ∀ e ∈ o.after, Region.binds .any e = true → listed.getD e.on false = true) →
   Below W.heap.size W w → (∀ k d, listed.getD k false = true → dstOf ops k = some d → R k (g d) w) →
   ((List.range m).filter fun k => !listed.getD k true).length + (ops.size - m) ≤ fuel → wpAny P .any ops Q fuel listed ⟨fillT T ds g, D⟩ w := by
  intro fuel
  induction fuel with
  | zero => intro listed g w hs hhi hcl hb hg hf; omega
  | succ fuel ih =>
   intro listed g w hs hhi hcl hb hg hf
   by_cases hall : ∀ k, k < m → listed.getD k false = true
   ·have e : listed = ((List.range ops.size).map fun k => decide (k < m)).toArray := by
     apply Array.ext_getElem?
     intro k
     by_cases hk : k < ops.size
     ·rw [Array.getElem?_eq_getElem (by omega)]
      have hx : listed.getD k false = decide (k < m) := by
       by_cases h : k < m
       ·rw [hall k h, decide_eq_true h]
       ·rw [hhi k (by omega), decide_eq_false h]
      simp only [Array.getD, show k < listed.size by omega, dif_pos] at hx
      simp [hk]
      simpa using hx
     ·rw [Array.getElem?_eq_none (by omega), Array.getElem?_eq_none (by simp; omega)]
    rw [e]
    have := done (fuel + 1 - (ops.size - m)) g w hb (fun k d hk hd => hg k d (hall k hk) hd)
    rw [show fuel + 1 - (ops.size - m) + (ops.size - m) = fuel + 1 by omega] at this
    exact this
   ·refine ⟨fun hr => ?_, fun i hi => ?_⟩
    ·exfalso
     apply hall
     intro k
     induction k using Nat.strongRecOn with
     | ind k ihk =>
      intro hk
      by_cases hl : listed.getD k false = true
      ·exact hl
      ·exfalso
       have hkn : k < ops.size := by omega
       have hmem : k ∈ Region.ready .any ops listed := by
        refine mem_ready.2 ⟨?_, ops[k], Array.getElem?_eq_getElem hkn, fun e he _ => ?_⟩
        ·rw [getD_any (by omega) true false]; simpa using hl
        ·have := low k _ (Array.getElem?_eq_getElem hkn) e he
         exact ihk e.on this (by omega)
       rw [hr] at hmem
       cases hmem
    ·obtain ⟨h1, o, ho, hdep⟩ := mem_ready.1 hi
     have hlt : i < ops.size := (Array.getElem?_eq_some_iff.1 ho).1
     have him : i < m := by
      refine Decidable.byContradiction fun hc => ?_
      by_cases e : i = m
      ·subst e
       apply hall
       have : ∀ t k, i - k ≤ t → k < i → listed.getD k false = true := by
        intro t
        induction t with
        | zero => intro k h1 h2; omega
        | succ t iht =>
         intro k h1 h2
         obtain ⟨j, o', hkj, hjm, ho', e, he, hb', hek⟩ := succ k h2
         rw [← hek]
         by_cases ej : j = i
         ·subst ej
          rw [ho] at ho'; cases ho'
          exact hdep e he hb'
         ·exact hcl j o' ho' (iht j (by omega) (by omega)) e he hb'
       exact fun k hk => this (i - k) k (Nat.le_refl _) hk
      ·obtain ⟨e', he, hb', hme⟩ := tail i o (by omega) ho
       have := hdep e' he hb'
       rw [hhi e'.on hme] at this
       cases this
     refine wpOp_step ho fun K' hK => ?_
     refine step i (by rw [hrs]; exact List.mem_range.2 him) o ho g w hb (fun k d hkd => ?_) K' (fun v w' hw hr => hK _ _ ?_)
     ·have hkd := List.contains_iff_mem.1 hkd
      obtain ⟨e, he, hed⟩ := List.mem_filterMap.1 hkd
      by_cases hbd : Region.binds .any e = true
      ·rw [if_pos hbd] at hed
       cases hde : dstOf ops e.on with
       | none => rw [hde] at hed; cases hed
       | some x =>
        rw [hde] at hed
        simp only [Option.map_some, Option.some.injEq, Prod.mk.injEq] at hed
        obtain ⟨rfl, rfl⟩ := hed
        exact hg _ _ (hdep e (by simpa using he) hbd) hde
      ·rw [if_neg hbd] at hed; cases hed
     ·have hset : ∀ k, (listed.setIfInBounds i true).getD k false = true ↔ k = i ∨ listed.getD k false = true := by
       intro k
       by_cases e : i = k
       ·subst e
        simp [Array.getD, Array.size_setIfInBounds, hs, hlt]
       ·rw [getD_set_ne false e]
        exact ⟨Or.inr, fun h => h.elim (fun h => absurd (Eq.symm h) e) (fun h => h)⟩
      have cnt := count_lt (p := fun k => !listed.getD k true) (q := fun k => !(listed.setIfInBounds i true).getD k true) i (fun k hk => by
       by_cases e : i = k
       ·subst e; show (!listed.getD i true) = true; rw [h1]; rfl
       ·have hk2 : (!(listed.setIfInBounds i true).getD k true) = true := hk
        rw [getD_set_ne true e] at hk2; exact hk2) (by show (!listed.getD i true) = true; rw [h1]; rfl) (by
        show (!(listed.setIfInBounds i true).getD i true) = false
        simp [Array.getD, Array.size_setIfInBounds, hs, hlt]) (List.range m) (List.mem_range.2 him)
      have hput : ∃ g', Act.put ⟨fillT T ds g, D⟩ o.dst v = ⟨fillT T ds g', D⟩ ∧ ∀ k d, (k = i ∨ listed.getD k false = true) → dstOf ops k = some d → R k (g' d) w' := by
       cases hd : o.dst with
       | none =>
        refine ⟨g, rfl, fun k d hk hkd => ?_⟩
        have hki : k ≠ i := fun e => by
         subst e
         unfold dstOf at hkd
         rw [ho] at hkd
         simp [hd] at hkd
        exact mono _ _ _ _ (hg k d (hk.resolve_left hki) hkd) hw
       | some d0 =>
        have hdi : dstOf ops i = some d0 := by unfold dstOf; rw [ho]; exact hd
        refine ⟨fun k => if k = d0 then v else g k, by show Act.mk _ _ = _; rw [fillT_set _ _ _ _ _ (inds i d0 him hdi)], fun k d hk hkd => ?_⟩
        have hkm : k < m := by
         rcases hk with rfl | hk
         ·exact him
         ·refine Decidable.byContradiction fun hc => ?_
          rw [hhi k (by omega)] at hk
          cases hk
        have hkl : k < ops.size := by
         unfold dstOf at hkd
         cases hq : ops[k]? with
         | none => rw [hq] at hkd; cases hkd
         | some o' => exact (Array.getElem?_eq_some_iff.1 hq).1
        by_cases e : k = i
        ·subst e
         rw [hdi] at hkd
         cases hkd
         show R k (if d0 = d0 then v else g d0) w'
         rw [if_pos rfl]
         exact hr
        ·have hne : d ≠ d0 := fun e2 => e (inj k i d hkm him hkd (e2 ▸ hdi))
         show R k (if d = d0 then v else g d) w'
         rw [if_neg hne]
         exact mono _ _ _ _ (hg k d (hk.resolve_left e) hkd) hw
      obtain ⟨g', hp, hg'⟩ := hput
      rw [hp]
      refine ih _ g' w' (by rw [Array.size_setIfInBounds, hs]) (fun k hk => ?_) (fun j o' ho' hj e he hb' => ?_) (sp_below hb hw) (fun k d hk hd => hg' k d ((hset k).1 hk) hd) (by omega)
      ·rw [getD_set_ne false (by omega)]; exact hhi k hk
      ·rcases (hset j).1 hj with rfl | hj
       ·rw [ho] at ho'; cases ho'
        exact (hset _).2 (Or.inr (hdep e he hb'))
       ·exact (hset _).2 (Or.inr (hcl j o' ho' hj e he hb'))
 have h0 := main ops.size (Array.replicate ops.size false) (fun d => T.getD d undef) W.drew (by simp) (fun k _ => by by_cases hk2 : k < ops.size <;> simp [Array.getD, hk2]) (fun j o _ hj => by exfalso; by_cases hk2 : j < ops.size <;> simp [Array.getD, hk2] at hj)
  (Below.refl _ W).drew (fun k d hk _ => by exfalso; by_cases hk2 : k < ops.size <;> simp [Array.getD, hk2] at hk) (by
   have := List.length_filter_le (fun k => !(Array.replicate ops.size false).getD k true) (List.range m)
   rw [List.length_range] at this
   omega)
 rw [← fillT_self] at h0
 exact h0
end
/-- An operation's part, of any activation that agrees with what is known. -/
theorem StepI.of {P : Program} {ops : Array Oper} {Q : Exit → Act → World → Prop} {T : Array Value} {D : List Deferred} {ds : List Nat} {W : World} {R : Nat → Value → World → Prop} {i : Nat} {o : Oper} (hg : o.guard = none) (hds : ((depsB .any ops o).all fun p => ds.contains p.2 && decide (p.2 < T.size)) = true)
  (h : ∀ (A : Act) (w : World), Below W.heap.size W w → (∀ d, ds.contains d = false → A.tmps[d]?.getD undef = T.getD d undef) → (∀ k d, (depsB .any ops o).contains (k, d) = true → R k (A.tmps[d]?.getD undef) w) → ∀ K' : Act → World → Prop, Shut (∀ v w', Below w.heap.size w w' → R i v w' → K' (A.put o.dst v) w') → Oper.wp P o A w K' Q) : StepI P ops Q T D ds W R i o := by
 intro g w hb hd K' hK
 have hw : Region.wanted o (yielded ops (fillT T ds g)) = true := by unfold Region.wanted; rw [hg]
 rw [if_pos hw]
 refine h ⟨fillT T ds g, D⟩ w hb (fun d hd' => ?_) (fun k d hkd => ?_) K' hK
 ·have hn : ¬ d ∈ ds := fun hm => by rw [List.contains_iff_mem.2 hm] at hd'; cases hd'
  show (fillT T ds g)[d]?.getD undef = T.getD d undef
  rw [Array.getD_eq_getD_getElem?, fillT_at, if_neg (fun h => hn h.1)]
 ·have h1 := List.all_eq_true.1 hds _ (List.contains_iff_mem.1 hkd)
  rw [Bool.and_eq_true, decide_eq_true_eq] at h1
  have e : (fillT T ds g)[d]?.getD undef = g d := by rw [fillT_at, if_pos ⟨List.contains_iff_mem.1 h1.1, h1.2⟩]; rfl
  show R k ((fillT T ds g)[d]?.getD undef) w
  rw [e]
  exact hd k d hkd
/-- What is told of each value, one behind the other. -/
def Rls (l : List (Value → World → Prop)) (n : Nat) (v : Value) (w : World) : Prop := match l[n]? with | some p => p v w | none => True
def Eqv (x : Value) : Value → World → Prop := fun v _ => v = x
def MonoL (l : List (Value → World → Prop)) : Prop := ∀ p ∈ l, ∀ v w w', p v w → Below w.heap.size w w' → p v w'
theorem MonoL.nil : MonoL [] := fun _ h => by cases h
theorem MonoL.eq {x : Value} {l : List (Value → World → Prop)} (h : MonoL l) : MonoL (Eqv x :: l) := fun p hp v w w' q g => by
 rcases List.mem_cons.1 hp with rfl | hp
 ·exact q
 ·exact h p hp v w w' q g
theorem MonoL.cons {p : Value → World → Prop} {l : List (Value → World → Prop)} (hp : ∀ v w w', p v w → Below w.heap.size w w' → p v w') (h : MonoL l) : MonoL (p :: l) := fun r hr v w w' q g => by
 rcases List.mem_cons.1 hr with rfl | hr
 ·exact hp v w w' q g
 ·exact h r hr v w w' q g
theorem MonoL.of {l : List (Value → World → Prop)} (h : MonoL l) : ∀ k v w w', Rls l k v w → Below w.heap.size w w' → Rls l k v w' := by
 intro k v w w' q g
 unfold Rls at *
 cases hl : l[k]? with
 | none => trivial
 | some p =>
  rw [hl] at q
  exact h p (List.mem_of_getElem? hl) v w w' q g
theorem wp_appendAt {P : Program} {o : Oper} {a : Act} {w : World} {K : Act → World → Prop} {Q : Exit → Act → World → Prop} (s x : Operand) (t : TypeId) (ho : o.op = .call { callee := .builtin .append, args := #[s, x], argTypes := #[t, t] }) (v1 v2 : Value) (hs : a.eval s = v1) (hx : a.eval x = v2) (v' : Value) (w' : World)
  (hr : (Builtin.append_ #[t, t] o.type #[v1, v2]).run P w = .ok v' w') (h : K (a.put o.dst v') w') : o.wp P a w K Q := by
 unfold Oper.wp execOp
 simp only [ho, resolve, invoke, builtin, Sem.run_bind, Sem.run_pure, Result.andThen_ok, List.map_toArray, List.map_cons, List.map_nil, hs, hx, hr]
 exact h
end Go.Proofs.YtknoibocpbfmmaaGreatDoor


