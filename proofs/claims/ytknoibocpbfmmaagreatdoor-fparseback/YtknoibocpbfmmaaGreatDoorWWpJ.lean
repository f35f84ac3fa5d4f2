/- A drawn region by what each of its operations tells, whatever their order, where calls write what lies: a relation of worlds of one's own, and what lies between two calls of a row. -/
import Derived.Test.YtknoibocpbfmmaaGreatDoorWWpI
namespace Go.Proofs.YtknoibocpbfmmaaGreatDoor
open Go.RowKit
set_option linter.unusedVariables false
set_option linter.unusedSimpArgs false
section
variable {P : Program} {ops : Array Oper} {Q : Exit → Act → World → Prop} {md : Region.Mode}
/-- Operations in a row: each waits for the one ahead. -/
def chainB (m : Nat) (ops : Array Oper) : List Nat → Bool
 | [] => true
 | [a] => decide (a < m)
 | a :: b :: r => decide (a < b) && (match ops[b]? with | some o => o.after.any fun e => Region.binds .any e && e.on == a | none => false) && chainB m ops (b :: r)
theorem chainB.lt {m : Nat} : ∀ {ch : List Nat}, chainB m ops ch = true → ∀ (j c : Nat), ch[j]? = some c → c < m
 | [], _, j, c, h => by simp at h
 | [a], k, 0, c, h => by simp at h; subst h; exact of_decide_eq_true k
 | [a], k, j + 1, c, h => by simp at h
 | a :: b :: r, k, 0, c, h => by
  simp at h; subst h
  simp only [chainB, Bool.and_eq_true, decide_eq_true_eq] at k
  have := chainB.lt k.2 0 b rfl
  omega
 | a :: b :: r, k, j + 1, c, h => by
  simp only [chainB, Bool.and_eq_true, decide_eq_true_eq] at k
  exact chainB.lt k.2 j c h
theorem chainB.up {m : Nat} : ∀ {ch : List Nat}, chainB m ops ch = true → ∀ (i j a c : Nat), i < j → ch[i]? = some a → ch[j]? = some c → a < c
 | [], _, i, j, a, c, _, h, _ => by simp at h
 | [x], k, i, j, a, c, hij, h, g => by
  cases j with
  | zero => omega
  | succ j => simp at g
 | x :: b :: r, k, i, j, a, c, hij, h, g => by
  simp only [chainB, Bool.and_eq_true, decide_eq_true_eq] at k
  cases j with
  | zero => omega
  | succ j =>
   rw [List.getElem?_cons_succ] at g
   cases i with
   | zero =>
    simp at h; subst h
    cases j with
    | zero => simp at g; subst g; exact k.1.1
    | succ j =>
     have := chainB.up k.2 0 (j + 1) b c (by omega) rfl g
     omega
   | succ i =>
    rw [List.getElem?_cons_succ] at h
    exact chainB.up k.2 i j a c (by omega) h g
theorem chainB.dep {m : Nat} : ∀ {ch : List Nat}, chainB m ops ch = true → ∀ (j a c : Nat), ch[j]? = some a → ch[j + 1]? = some c → ∃ o, ops[c]? = some o ∧ ∃ e ∈ o.after, Region.binds .any e = true ∧ e.on = a
 | [], _, j, a, c, h, _ => by simp at h
 | [x], k, j, a, c, h, g => by simp at g
 | x :: b :: r, k, 0, a, c, h, g => by
  simp only [chainB, Bool.and_eq_true, decide_eq_true_eq] at k
  simp at h g
  subst h g
  cases ho : ops[b]? with
  | none => rw [ho] at k; exact absurd k.1.2 (by simp)
  | some o =>
   have h2 := k.1.2
   rw [ho] at h2
   obtain ⟨y, hy, hy2⟩ := Array.any_eq_true.1 h2
   rw [Bool.and_eq_true, beq_iff_eq] at hy2
   exact ⟨o, rfl, o.after[y], Array.getElem_mem hy, hy2⟩
 | x :: b :: r, k, j + 1, a, c, h, g => by
  simp only [chainB, Bool.and_eq_true, decide_eq_true_eq] at k
  exact chainB.dep k.2 j a c h g
/-- One operation's part: it tells what 'R' asks of its value, given what is told of those that it waits for; and what lies behind it. -/
def StepJ (P : Program) (ops : Array Oper) (Q : Exit → Act → World → Prop) (T : Array Value) (D : List Deferred) (ds : List Nat) (W : World) (E : Nat → World → Nat → World → Prop) (Ph : Nat → World → Prop) (ch : List Nat) (R : Nat → Nat → Value → World → Prop) (i : Nat) (o : Oper) : Prop :=
 ∀ (g : Nat → Value) (w : World) (n n' : Nat), E 0 W n w → (∀ k d, (depsB .any ops o).contains (k, d) = true → R k n (g d) w) → Ph n w → (ch[n]? = some i ∧ n' = n + 1 ∨ ch.contains i = false ∧ n' = n) → ∀ K' : Act → World → Prop, Shut (∀ v w', E n w n' w' → R i n' v w' → Ph n' w' → K' (Act.put ⟨fillT T ds g, D⟩ o.dst v) w') →
  if Region.wanted o (yielded ops (fillT T ds g)) = true then Oper.wp P o ⟨fillT T ds g, D⟩ w K' Q else K' (Act.put ⟨fillT T ds g, D⟩ o.dst undef) w
def StepsJ (P : Program) (ops : Array Oper) (Q : Exit → Act → World → Prop) (T : Array Value) (D : List Deferred) (ds : List Nat) (W : World) (E : Nat → World → Nat → World → Prop) (Ph : Nat → World → Prop) (ch : List Nat) (R : Nat → Nat → Value → World → Prop) (rs : List Nat) : Prop :=
 ∀ i ∈ rs, ∀ o, ops[i]? = some o → StepJ P ops Q T D ds W E Ph ch R i o
theorem StepsJ.nil {T : Array Value} {D : List Deferred} {ds : List Nat} {W : World} {E : Nat → World → Nat → World → Prop} {Ph : Nat → World → Prop} {ch : List Nat} {R : Nat → Nat → Value → World → Prop} : StepsJ P ops Q T D ds W E Ph ch R [] := fun _ h => by cases h
theorem StepsJ.cons {T : Array Value} {D : List Deferred} {ds : List Nat} {W : World} {E : Nat → World → Nat → World → Prop} {Ph : Nat → World → Prop} {ch : List Nat} {R : Nat → Nat → Value → World → Prop} {i : Nat} {o : Oper} {rs : List Nat} (ho : ops[i]? = some o) (h : StepJ P ops Q T D ds W E Ph ch R i o) (hs : StepsJ P ops Q T D ds W E Ph ch R rs) : StepsJ P ops Q T D ds W E Ph ch R (i :: rs) := fun j hj o' ho' => by
 rcases List.mem_cons.1 hj with rfl | hj
 ·rw [ho] at ho'; cases ho'; exact h
 ·exact hs j hj o' ho'
/-- **The operations ahead of 'm' by what each tells, whatever their order; from there on by hand.** -/
theorem wp_region_row {id : Nat} {T : Array Value} {D : List Deferred} {W : World} (m : Nat) (ds : List Nat) (E : Nat → World → Nat → World → Prop) (Ph : Nat → World → Prop) (ch : List Nat) (R : Nat → Nat → Value → World → Prop) (rs : List Nat)
  (hm : P.follows .mixedOrders = true) (hlow : lowB ops = true) (hch : chainB m ops ch = true) (hds : okDs m ops ds = true) (hrs : rs = List.range m) (hsk : sinkAt m ops = true) {r : Nat} {lst : Array Bool} (hn : ops.size - m = r) (hl : ((List.range ops.size).map fun k => decide (k < m)).toArray = lst)
  (E0 : E 0 W 0 W.drew) (Et : ∀ i x j y k z, i ≤ j → j ≤ k → E i x j y → E j y k z → E i x k z) (P0 : Ph 0 W.drew) (mono : ∀ k v n w n' w', n ≤ n' → R k n v w → E n w n' w' → R k n' v w')
  (step : StepsJ P ops Q T D ds W E Ph ch R rs)
  (done : ∀ f g w, E 0 W ch.length w → Ph ch.length w → (∀ k d, k < m → dstOf ops k = some d → R k ch.length (g d) w) → wpAny P .any ops Q (f + r) lst ⟨fillT T ds g, D⟩ w) : (Code.region id ops true).wp P Q ⟨T, D⟩ W := by
 subst hn hl
 have inj : ∀ i j d, i < m → j < m → dstOf ops i = some d → dstOf ops j = some d → i = j := by
  intro i j d hi hj h1 h2
  have h := List.all_eq_true.1 hds i (List.mem_range.2 hi)
  rw [Bool.and_eq_true] at h
  have h3 := List.all_eq_true.1 h.2 j (List.mem_range.2 hj)
  rw [h1, h2] at h3
  simpa using h3
 have inds : ∀ i d, i < m → dstOf ops i = some d → d ∈ ds := by
  intro i d hi h1
  have h := List.all_eq_true.1 hds i (List.mem_range.2 hi)
  rw [Bool.and_eq_true, h1] at h
  simpa using h.1
 simp only [sinkAt, Bool.and_eq_true, decide_eq_true_eq] at hsk
 obtain ⟨⟨hmn, hsk⟩, htl⟩ := hsk
 have succ : ∀ k, k < m → ∃ j o, k < j ∧ j ≤ m ∧ ops[j]? = some o ∧ ∃ e ∈ o.after, Region.binds .any e = true ∧ e.on = k := by
  intro k hk
  obtain ⟨j, hj, h⟩ := List.any_eq_true.1 (List.all_eq_true.1 hsk k (List.mem_range.2 hk))
  rw [Bool.and_eq_true, decide_eq_true_eq] at h
  have hj := List.mem_range.1 hj
  cases ho : ops[j]? with
  | none => rw [ho] at h; exact absurd h.2 (by simp)
  | some o =>
   rw [ho] at h
   obtain ⟨x, hx, hx2⟩ := Array.any_eq_true.1 h.2
   rw [Bool.and_eq_true, beq_iff_eq] at hx2
   exact ⟨j, o, h.1, by omega, ho, o.after[x], Array.getElem_mem hx, hx2⟩
 have tail : ∀ j o, m < j → ops[j]? = some o → ∃ e ∈ o.after, Region.binds .any e = true ∧ m ≤ e.on := by
  intro j o hj ho
  have h := List.all_eq_true.1 htl j (List.mem_range.2 (Array.getElem?_eq_some_iff.1 ho).1)
  rw [Bool.or_eq_true, decide_eq_true_eq, ho] at h
  rcases h with h | h
  ·omega
  ·obtain ⟨x, hx, hx2⟩ := Array.any_eq_true.1 h
   rw [Bool.and_eq_true, decide_eq_true_eq] at hx2
   exact ⟨o.after[x], Array.getElem_mem hx, hx2⟩
 have low : ∀ (j : Nat) (o : Oper), ops[j]? = some o → ∀ e ∈ o.after, e.on < j := by
  intro j o ho e he
  have h1 := List.all_eq_true.1 hlow j (List.mem_range.2 (Array.getElem?_eq_some_iff.1 ho).1)
  rw [ho] at h1
  simp only [Option.map_some, Option.getD_some, Array.all_eq_true_iff_forall_mem, decide_eq_true_eq] at h1
  exact h1 e he
 refine wp_region_any hm ?_
 have main : ∀ (fuel : Nat) (listed : Array Bool) (g : Nat → Value) (w : World), listed.size = ops.size → (∀ k, m ≤ k → listed.getD k false = false) →
   (∀ j o, ops[j]? = some o → listed.getD j false = true → ∀ e ∈ o.after, Region.binds .any e = true → listed.getD e.on false = true) →
   (∃ n, n ≤ ch.length ∧ Ph n w ∧ E 0 W n w ∧ (∀ j c, ch[j]? = some c → (listed.getD c false = true ↔ j < n)) ∧ ∀ k d, listed.getD k false = true → dstOf ops k = some d → R k n (g d) w) →
   ((List.range m).filter fun k => !listed.getD k true).length + (ops.size - m) ≤ fuel → wpAny P .any ops Q fuel listed ⟨fillT T ds g, D⟩ w := by
  intro fuel
  induction fuel with
  | zero => intro listed g w hs hhi hcl hph hf; omega
  | succ fuel ih =>
   intro listed g w hs hhi hcl hph hf
   by_cases hall : ∀ k, k < m → listed.getD k false = true
   ·have e : listed = ((List.range ops.size).map fun k => decide (k < m)).toArray := by
     apply Array.ext_getElem?
     intro k
     by_cases hk : k < ops.size
     ·rw [Array.getElem?_eq_getElem (by omega)]
      have hx : listed.getD k false = decide (k < m) := by
       by_cases h : k < m
       ·rw [hall k h, decide_eq_true h]
       ·rw [hhi k (by omega), decide_eq_false h]
      simp only [Array.getD, show k < listed.size by omega, dif_pos] at hx
      simp [hk]
      simpa using hx
     ·rw [Array.getElem?_eq_none (by omega), Array.getElem?_eq_none (by simp; omega)]
    rw [e]
    have hpp : Ph ch.length w ∧ E 0 W ch.length w ∧ ∀ k d, k < m → dstOf ops k = some d → R k ch.length (g d) w := (by
     obtain ⟨n, h0, h1, hb, h2, hg⟩ := hph
     have : n = ch.length ∨ n < ch.length := by omega
     rcases this with h | h
     ·rw [← h]; exact ⟨h1, hb, fun k d hk hd => hg k d (hall k hk) hd⟩
     ·exfalso
      have := (h2 n _ (List.getElem?_eq_getElem h)).1 (hall _ (chainB.lt hch n _ (List.getElem?_eq_getElem h)))
      omega)
    have := done (fuel + 1 - (ops.size - m)) g w hpp.2.1 hpp.1 hpp.2.2
    rw [show fuel + 1 - (ops.size - m) + (ops.size - m) = fuel + 1 by omega] at this
    exact this
   ·refine ⟨fun hr => ?_, fun i hi => ?_⟩
    ·exfalso
     apply hall
     intro k
     induction k using Nat.strongRecOn with
     | ind k ihk =>
      intro hk
      by_cases hl : listed.getD k false = true
      ·exact hl
      ·exfalso
       have hkn : k < ops.size := by omega
       have hmem : k ∈ Region.ready .any ops listed := by
        refine mem_ready.2 ⟨?_, ops[k], Array.getElem?_eq_getElem hkn, fun e he _ => ?_⟩
        ·rw [getD_any (by omega) true false]; simpa using hl
        ·have := low k _ (Array.getElem?_eq_getElem hkn) e he
         exact ihk e.on this (by omega)
       rw [hr] at hmem
       cases hmem
    ·obtain ⟨h1, o, ho, hdep⟩ := mem_ready.1 hi
     have hlt : i < ops.size := (Array.getElem?_eq_some_iff.1 ho).1
     have him : i < m := by
      refine Decidable.byContradiction fun hc => ?_
      by_cases e : i = m
      ·subst e
       apply hall
       have : ∀ t k, i - k ≤ t → k < i → listed.getD k false = true := by
        intro t
        induction t with
        | zero => intro k h1 h2; omega
        | succ t iht =>
         intro k h1 h2
         obtain ⟨j, o', hkj, hjm, ho', e, he, hb', hek⟩ := succ k h2
         rw [← hek]
         by_cases ej : j = i
         ·subst ej
          rw [ho] at ho'; cases ho'
          exact hdep e he hb'
         ·exact hcl j o' ho' (iht j (by omega) (by omega)) e he hb'
       exact fun k hk => this (i - k) k (Nat.le_refl _) hk
      ·obtain ⟨e', he, hb', hme⟩ := tail i o (by omega) ho
       have := hdep e' he hb'
       rw [hhi e'.on hme] at this
       cases this
     refine wpOp_step ho fun K' hK => ?_
     obtain ⟨n, hp0, hp1, hb, hp2, hg⟩ := hph
     have hn2 : ∃ n', n' ≤ ch.length ∧ n ≤ n' ∧ (ch[n]? = some i ∧ n' = n + 1 ∨ ch.contains i = false ∧ n' = n) ∧ ∀ j c, ch[j]? = some c → ((listed.setIfInBounds i true).getD c false = true ↔ j < n') := by
      by_cases hc : ch.contains i = true
      ·obtain ⟨j, hj, hje⟩ := List.getElem_of_mem (List.contains_iff_mem.1 hc)
       have hj' : ch[j]? = some i := by rw [List.getElem?_eq_getElem hj, hje]
       have hli : listed.getD i false = false := by
        cases hq : listed.getD i false with
        | false => rfl
        | true => rw [getD_any (by omega) true false, hq] at h1; cases h1
       have a1 : ¬ j < n := fun h => by rw [(hp2 j i hj').2 h] at hli; cases hli
       have a2 : n ≤ j ∧ j ≤ n := by
        refine ⟨by omega, ?_⟩
        cases j with
        | zero => omega
        | succ j =>
         obtain ⟨o', ho', e, he, hb', hea⟩ := chainB.dep hch j _ i (List.getElem?_eq_getElem (by omega)) hj'
         rw [ho] at ho'; cases ho'
         have := (hp2 j _ (List.getElem?_eq_getElem (by omega))).1 (by rw [← hea]; exact hdep e he hb')
         omega
       have e : j = n := by omega
       subst e
       refine ⟨j + 1, by omega, by omega, Or.inl ⟨hj', rfl⟩, fun k c hkc => ?_⟩
       by_cases ek : k = j
       ·subst ek
        rw [hj'] at hkc; cases hkc
        simp [Array.getD, Array.size_setIfInBounds, hs, hlt]
       ·have hne : i ≠ c := fun e => by
         subst e
         rcases (show k < j ∨ j < k by omega) with h | h
         ·have := chainB.up hch k j _ _ h hkc hj'; omega
         ·have := chainB.up hch j k _ _ h hj' hkc; omega
        rw [getD_set_ne false hne, hp2 k c hkc]
        omega
      ·refine ⟨n, hp0, Nat.le_refl _, Or.inr ⟨by simpa using hc, rfl⟩, fun k c hkc => ?_⟩
       have hne : i ≠ c := fun e => hc (List.contains_iff_mem.2 (e ▸ List.mem_of_getElem? hkc))
       rw [getD_set_ne false hne]
       exact hp2 k c hkc
     obtain ⟨n', hn5, hn6, hn3, hn4⟩ := hn2
     refine step i (by rw [hrs]; exact List.mem_range.2 him) o ho g w n n' hb (fun k d hkd => ?_) hp1 hn3 K' (fun v w' hw hr hph' => hK _ _ ?_)
     ·have hkd := List.contains_iff_mem.1 hkd
      obtain ⟨e, he, hed⟩ := List.mem_filterMap.1 hkd
      by_cases hbd : Region.binds .any e = true
      ·rw [if_pos hbd] at hed
       cases hde : dstOf ops e.on with
       | none => rw [hde] at hed; cases hed
       | some x =>
        rw [hde] at hed
        simp only [Option.map_some, Option.some.injEq, Prod.mk.injEq] at hed
        obtain ⟨rfl, rfl⟩ := hed
        exact hg _ _ (hdep e (by simpa using he) hbd) hde
      ·rw [if_neg hbd] at hed; cases hed
     ·have hset : ∀ k, (listed.setIfInBounds i true).getD k false = true ↔ k = i ∨ listed.getD k false = true := by
       intro k
       by_cases e : i = k
       ·subst e
        simp [Array.getD, Array.size_setIfInBounds, hs, hlt]
       ·rw [getD_set_ne false e]
        exact ⟨Or.inr, fun h => h.elim (fun h => absurd (Eq.symm h) e) (fun h => h)⟩
      have cnt := count_lt (p := fun k => !listed.getD k true) (q := fun k => !(listed.setIfInBounds i true).getD k true) i (fun k hk => by
       by_cases e : i = k
       ·subst e; show (!listed.getD i true) = true; rw [h1]; rfl
       ·have hk2 : (!(listed.setIfInBounds i true).getD k true) = true := hk
        rw [getD_set_ne true e] at hk2; exact hk2) (by show (!listed.getD i true) = true; rw [h1]; rfl) (by
        show (!(listed.setIfInBounds i true).getD i true) = false
        simp [Array.getD, Array.size_setIfInBounds, hs, hlt]) (List.range m) (List.mem_range.2 him)
      have hput : ∃ g', Act.put ⟨fillT T ds g, D⟩ o.dst v = ⟨fillT T ds g', D⟩ ∧ ∀ k d, (k = i ∨ listed.getD k false = true) → dstOf ops k = some d → R k n' (g' d) w' := by
       cases hd : o.dst with
       | none =>
        refine ⟨g, rfl, fun k d hk hkd => ?_⟩
        have hki : k ≠ i := fun e => by
         subst e
         unfold dstOf at hkd
         rw [ho] at hkd
         simp [hd] at hkd
        exact mono _ _ _ _ _ _ hn6 (hg k d (hk.resolve_left hki) hkd) hw
       | some d0 =>
        have hdi : dstOf ops i = some d0 := by unfold dstOf; rw [ho]; exact hd
        refine ⟨fun k => if k = d0 then v else g k, by show Act.mk _ _ = _; rw [fillT_set _ _ _ _ _ (inds i d0 him hdi)], fun k d hk hkd => ?_⟩
        have hkm : k < m := by
         rcases hk with rfl | hk
         ·exact him
         ·refine Decidable.byContradiction fun hc => ?_
          rw [hhi k (by omega)] at hk
          cases hk
        have hkl : k < ops.size := by
         unfold dstOf at hkd
         cases hq : ops[k]? with
         | none => rw [hq] at hkd; cases hkd
         | some o' => exact (Array.getElem?_eq_some_iff.1 hq).1
        by_cases e : k = i
        ·subst e
         rw [hdi] at hkd
         cases hkd
         show R k n' (if d0 = d0 then v else g d0) w'
         rw [if_pos rfl]
         exact hr
        ·have hne : d ≠ d0 := fun e2 => e (inj k i d hkm him hkd (e2 ▸ hdi))
         show R k n' (if d = d0 then v else g d) w'
         rw [if_neg hne]
         exact mono _ _ _ _ _ _ hn6 (hg k d (hk.resolve_left e) hkd) hw
      obtain ⟨g', hp, hg'⟩ := hput
      rw [hp]
      refine ih _ g' w' (by rw [Array.size_setIfInBounds, hs]) (fun k hk => ?_) (fun j o' ho' hj e he hb' => ?_) ⟨n', hn5, hph', Et _ _ _ _ _ _ (Nat.zero_le _) hn6 hb hw, hn4, fun k d hk hd => hg' k d ((hset k).1 hk) hd⟩ (by omega)
      ·rw [getD_set_ne false (by omega)]; exact hhi k hk
      ·rcases (hset j).1 hj with rfl | hj
       ·rw [ho] at ho'; cases ho'
        exact (hset _).2 (Or.inr (hdep e he hb'))
       ·exact (hset _).2 (Or.inr (hcl j o' ho' hj e he hb'))
 have h0 := main ops.size (Array.replicate ops.size false) (fun d => T.getD d undef) W.drew (by simp) (fun k _ => by by_cases hk2 : k < ops.size <;> simp [Array.getD, hk2]) (fun j o _ hj => by exfalso; by_cases hk2 : j < ops.size <;> simp [Array.getD, hk2] at hj)
  ⟨0, Nat.zero_le _, P0, E0, fun j c _ => ⟨fun h => by exfalso; by_cases hk2 : c < ops.size <;> simp [Array.getD, hk2] at h, fun h => absurd h (by omega)⟩, (fun k d hk _ => by exfalso; by_cases hk2 : k < ops.size <;> simp [Array.getD, hk2] at hk)⟩ (by
   have := List.length_filter_le (fun k => !(Array.replicate ops.size false).getD k true) (List.range m)
   rw [List.length_range] at this
   omega)
 rw [← fillT_self] at h0
 exact h0
end
/-- An operation's part, of any activation that agrees with what is known. -/
theorem StepJ.of {P : Program} {ops : Array Oper} {Q : Exit → Act → World → Prop} {T : Array Value} {D : List Deferred} {ds : List Nat} {W : World} {E : Nat → World → Nat → World → Prop} {Ph : Nat → World → Prop} {ch : List Nat} {R : Nat → Nat → Value → World → Prop} {i : Nat} {o : Oper} (hg : o.guard = none) (hds : ((depsB .any ops o).all fun p => ds.contains p.2 && decide (p.2 < T.size)) = true)
  (h : ∀ (A : Act) (w : World) (n n' : Nat), A.defers = D → E 0 W n w → (∀ d, ds.contains d = false → A.tmps[d]?.getD undef = T.getD d undef) → (∀ k d, (depsB .any ops o).contains (k, d) = true → R k n (A.tmps[d]?.getD undef) w) → Ph n w → (ch[n]? = some i ∧ n' = n + 1 ∨ ch.contains i = false ∧ n' = n) → ∀ K' : Act → World → Prop, Shut (∀ v w', E n w n' w' → R i n' v w' → Ph n' w' → K' (A.put o.dst v) w') → Oper.wp P o A w K' Q) : StepJ P ops Q T D ds W E Ph ch R i o := by
 intro g w n n' hb hd hn hn' K' hK
 have hw : Region.wanted o (yielded ops (fillT T ds g)) = true := by unfold Region.wanted; rw [hg]
 rw [if_pos hw]
 refine h ⟨fillT T ds g, D⟩ w n n' rfl hb (fun d hd' => ?_) (fun k d hkd => ?_) hn hn' K' hK
 ·have hn : ¬ d ∈ ds := fun hm => by rw [List.contains_iff_mem.2 hm] at hd'; cases hd'
  show (fillT T ds g)[d]?.getD undef = T.getD d undef
  rw [Array.getD_eq_getD_getElem?, fillT_at, if_neg (fun h => hn h.1)]
 ·have h1 := List.all_eq_true.1 hds _ (List.contains_iff_mem.1 hkd)
  rw [Bool.and_eq_true, decide_eq_true_eq] at h1
  have e : (fillT T ds g)[d]?.getD undef = g d := by rw [fillT_at, if_pos ⟨List.contains_iff_mem.1 h1.1, h1.2⟩]; rfl
  show R k n ((fillT T ds g)[d]?.getD undef) w
  rw [e]
  exact hd k d hkd
/-- What is told of each value, one behind the other. -/
def RlsN (l : List (Nat → Value → World → Prop)) (k n : Nat) (v : Value) (w : World) : Prop := match l[k]? with | some p => p n v w | none => True
def EqvN (x : Value) : Nat → Value → World → Prop := fun _ v _ => v = x
def MonoE (E : Nat → World → Nat → World → Prop) (l : List (Nat → Value → World → Prop)) : Prop := ∀ p ∈ l, ∀ v n w n' w', n ≤ n' → p n v w → E n w n' w' → p n' v w'
theorem MonoE.nil {E : Nat → World → Nat → World → Prop} : MonoE E [] := fun _ h => by cases h
theorem MonoE.eq {E : Nat → World → Nat → World → Prop} {x : Value} {l : List (Nat → Value → World → Prop)} (h : MonoE E l) : MonoE E (EqvN x :: l) := fun p hp v n w n' w' hn q g => by
 rcases List.mem_cons.1 hp with rfl | hp
 ·exact q
 ·exact h p hp v n w n' w' hn q g
theorem MonoE.cons {E : Nat → World → Nat → World → Prop} {p : Nat → Value → World → Prop} {l : List (Nat → Value → World → Prop)} (hp : ∀ v n w n' w', n ≤ n' → p n v w → E n w n' w' → p n' v w') (h : MonoE E l) : MonoE E (p :: l) := fun r hr v n w n' w' hn q g => by
 rcases List.mem_cons.1 hr with rfl | hr
 ·exact hp v n w n' w' hn q g
 ·exact h r hr v n w n' w' hn q g
theorem MonoE.of {E : Nat → World → Nat → World → Prop} {l : List (Nat → Value → World → Prop)} (h : MonoE E l) : ∀ k v n w n' w', n ≤ n' → RlsN l k n v w → E n w n' w' → RlsN l k n' v w' := by
 intro k v n w n' w' hn q g
 unfold RlsN at *
 cases hl : l[k]? with
 | none => trivial
 | some p =>
  rw [hl] at q
  exact h p (List.mem_of_getElem? hl) v n w n' w' hn q g
theorem chain_at {ch : List Nat} {i n n' : Nat} (j : Nat) (h : (ch.contains i && (List.range ch.length).all fun n => !(ch[n]? == some i) || n == j) = true) (hn : ch[n]? = some i ∧ n' = n + 1 ∨ ch.contains i = false ∧ n' = n) : n = j ∧ n' = j + 1 := by
 rw [Bool.and_eq_true] at h
 rcases hn with ⟨h1, h2⟩ | ⟨h1, h2⟩
 ·have h3 := List.all_eq_true.1 h.2 n (List.mem_range.2 (List.getElem?_eq_some_iff.1 h1).1)
  rw [h1] at h3
  simp at h3
  exact ⟨h3, by omega⟩
 ·rw [h1] at h; cases h.1
theorem chain_no {ch : List Nat} {i n n' : Nat} (h : ch.contains i = false) (hn : ch[n]? = some i ∧ n' = n + 1 ∨ ch.contains i = false ∧ n' = n) : n' = n := by
 rcases hn with ⟨h1, h2⟩ | ⟨h1, h2⟩
 ·have := List.contains_iff_mem.2 (List.mem_of_getElem? h1)
  rw [h] at this
  cases this
 ·exact h2
/-- All blocks that lay, but some, lie as they lay. -/
structure OnS (S : Nat → Prop) (w w' : World) : Prop where
 os : w'.os = w.os
 tape : w'.tape = w.tape
 output : w'.output = w.output
 size : w.heap.size ≤ w'.heap.size
 block : ∀ k, k < w.heap.size → ¬ S k → w'.heap[k]? = w.heap[k]?
theorem OnS.refl (S : Nat → Prop) (w : World) : OnS S w w := ⟨rfl, rfl, rfl, Nat.le_refl _, fun _ _ _ => rfl⟩
theorem OnS.trans {S S' : Nat → Prop} {x y z : World} (hS : ∀ k, S' k → S k) (h : OnS S x y) (k : OnS S' y z) : OnS S x z :=
 ⟨k.os.trans h.os, k.tape.trans h.tape, k.output.trans h.output, Nat.le_trans h.size k.size, fun i hi hb => (k.block i (Nat.lt_of_lt_of_le hi h.size) (fun a => hb (hS i a))).trans (h.block i hi hb)⟩
theorem OnS.drew {S : Nat → Prop} {x y : World} (h : OnS S x y) : OnS S x y.drew := ⟨h.os, h.tape, h.output, h.size, h.block⟩
theorem OnS.below {S : Nat → Prop} {x y z : World} (h : OnS S x y) (k : Below y.heap.size y z) : OnS S x z :=
 ⟨k.os.trans h.os, k.tape.trans h.tape, k.output.trans h.output, Nat.le_trans h.size k.size, fun i hi hb => (k.block i (Nat.lt_of_lt_of_le hi h.size)).trans (h.block i hi hb)⟩
theorem OnS.of {S : Nat → Prop} {x y : World} (k : Below x.heap.size x y) : OnS S x y := (OnS.refl S x).below k
theorem OnS.mono {S S' : Nat → Prop} {x y : World} (hS : ∀ k, S k → S' k) (h : OnS S x y) : OnS S' x y := ⟨h.os, h.tape, h.output, h.size, fun k hk hb => h.block k hk (fun a => hb (hS k a))⟩
theorem OnS.set {S : Nat → Prop} {x y : World} (h : OnS S x y) {c j : Nat} (hc : S c ∨ x.heap.size ≤ c) (v : Value) : OnS S x (y.setCell ⟨c, j, none⟩ v) :=
 ⟨h.os, h.tape, h.output, by simpa [World.setCell] using h.size, fun k hk hb => (Below.heap_setCell y _ v k (fun e => by have e' : k = c := e; subst e'; rcases hc with hc | hc; exact hb hc; omega)).trans (h.block k hk hb)⟩
theorem OnS.toBelow {S : Nat → Prop} {n : Nat} {x y : World} (h : OnS S x y) (hb : ∀ k, S k → n ≤ k) (hn : n ≤ x.heap.size) : Below n x y :=
 ⟨h.os, h.tape, h.output, h.size, fun k hk => h.block k (Nat.lt_of_lt_of_le hk hn) (fun a => by have := hb k a; omega)⟩
theorem OnS.cell {S : Nat → Prop} {w w' : World} (h : OnS S w w') {c o : Nat} {v : Value} (hc : ¬ S c) (q : w.cell? ⟨c, o, none⟩ = some v) : w'.cell? ⟨c, o, none⟩ = some v := by
 have := h.block c (World.block_lt_of_cell? w _ q) hc
 unfold World.cell? at q ⊢
 rw [this]
 exact q
end Go.Proofs.YtknoibocpbfmmaaGreatDoor


