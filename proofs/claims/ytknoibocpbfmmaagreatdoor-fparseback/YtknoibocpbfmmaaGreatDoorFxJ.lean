/- Tokens' texts with blanks between them are scanned as the same tokens. -/
import Derived.Test.YtknoibocpbfmmaaGreatDoorFxPl
namespace Go.Proofs.YtknoibocpbfmmaaGreatDoor
open Go.RowKit
set_option linter.unusedVariables false
set_option linter.unusedSimpArgs false
/-- Nothing, or a blank first. -/
def blankR (r : List UInt8) : Prop := ∀ b, r.head? = some b → kb b.toNat = 1
theorem cnt_blankR {m : Nat} (hm : 1 &&& m = 0) {r : List UInt8} (h : blankR r) : cnt m r = 0 := by
  cases r with
  | nil => rfl
  | cons b t => simp only [cnt]; rw [h b rfl, if_pos hm]
theorem cnt_take (m : Nat) : ∀ l r, cnt m (l.take (cnt m l) ++ r) = cnt m l + cnt m r
  | [], r => by simp [cnt]
  | b :: t, r => by
    by_cases c : kb b.toNat &&& m = 0
    · have e : cnt m (b :: t) = 0 := by simp only [cnt, if_pos c]
      rw [e]; simp
    · have e : cnt m (b :: t) = cnt m t + 1 := by simp only [cnt, if_neg c]
      rw [e, List.take_succ_cons, List.cons_append]
      simp only [cnt, if_neg c]
      rw [cnt_take m t r]; omega
theorem cnt_head (m : Nat) (b : UInt8) (t u : List UInt8) : (0 < cnt m (b :: t)) ↔ (0 < cnt m (b :: u)) := by
  simp only [cnt]; split <;> simp
theorem s2_second {c r : UInt8} (h : isS2 [c, r] = true) : kb r.toNat ≠ 1 := by
  unfold isS2 at h
  simp only [Bool.or_eq_true, beq_iff_eq, List.cons.injEq, and_true] at h
  rcases h with ⟨_, rfl⟩ | ⟨_, rfl⟩ | ⟨_, rfl⟩ | ⟨_, rfl⟩ | ⟨_, rfl⟩ | ⟨_, rfl⟩ <;> decide +kernel
/-- What a token is does not hang on what stands behind it, if that is a blank. -/
theorem tok_ext {l : List UInt8} {k n : Nat} (h : tok l = (k, n)) (hk : k ≠ 0) {r : List UInt8} (hr : blankR r) : tok (l.take n ++ r) = (k, n) := by
  have hp : 1 ≤ n := by have := tok_pos (l := l) (by rw [h]; exact hk); rw [h] at this; exact this
  have hl : n ≤ l.length := by have := tok_le l; rw [h] at this; exact this
  cases l with
  | nil => simp at hl; omega
  | cons b t =>
    obtain ⟨n', rfl⟩ : ∃ n', n = n' + 1 := ⟨n - 1, by omega⟩
    have hd := fun m => cnt_head m b t (t.take n' ++ r)
    have ht : (b :: t).take (n' + 1) ++ r = b :: (t.take n' ++ r) := rfl
    unfold tok at h ⊢
    by_cases c2 : 0 < cnt 2 (b :: t)
    · rw [if_pos c2] at h
      rw [ht, if_pos ((hd 2).mp c2), ← ht]
      have key : cnt 14 (b :: t) = n' + 1 := by
        unfold wonL at h
        split at h
        · exact (Prod.mk.inj h).2
        · split at h
          · exact (Prod.mk.inj h).2
          · exact absurd (Prod.mk.inj h).1.symm hk
      have e := cnt_take 14 (b :: t) r
      rw [key, cnt_blankR (by decide) hr, Nat.add_zero] at e
      unfold wonL at h ⊢
      rw [key] at h
      rw [e, List.take_append_of_le_length (by rw [List.length_take]; omega), List.take_take, Nat.min_self]
      exact h
    · rw [if_neg c2] at h
      rw [ht, if_neg (fun q => c2 ((hd 2).mpr q)), ← ht]
      by_cases c4 : 0 < cnt 4 (b :: t)
      · rw [if_pos c4] at h
        rw [ht, if_pos ((hd 4).mp c4), ← ht]
        unfold iorL at h ⊢
        split at h
        · rename_i q
          obtain ⟨rfl, e1⟩ := Prod.mk.inj h
          generalize hD : cnt 4 (b :: t) = d at *
          generalize hE : cnt 4 ((b :: t).drop (d + 1)) = e at *
          have dl : d < (b :: t).length := by
            by_cases q2 : d < (b :: t).length
            · exact q2
            · rw [List.getElem?_eq_none (by omega)] at q; simp at q
          have sp : (b :: t).take (n' + 1) ++ r = (b :: t).take d ++ (46 :: (((b :: t).drop (d + 1)).take e ++ r)) := by
            rw [← e1]
            have : (b :: t).take (d + 1 + e) = (b :: t).take d ++ 46 :: ((b :: t).drop (d + 1)).take e := by
              rw [List.take_add, List.take_add_one, q.1]; simp
            rw [this]; simp
          have lt : ((b :: t).take d).length = d := by rw [List.length_take]; omega
          have e2 : cnt 4 ((b :: t).take (n' + 1) ++ r) = d := by
            rw [sp]
            have := cnt_take 4 (b :: t) (46 :: (((b :: t).drop (d + 1)).take e ++ r))
            rw [hD] at this
            rw [this]
            simp only [cnt]; rw [show kb (UInt8.toNat 46) = 16 by decide +kernel]; simp
          have e3 : ((b :: t).take (n' + 1) ++ r)[d]? = some 46 := by
            rw [sp, List.getElem?_append_right (by omega), lt]; simp
          have e4 : ((b :: t).take (n' + 1) ++ r).drop (d + 1) = ((b :: t).drop (d + 1)).take e ++ r := by
            rw [sp, List.drop_append, lt]; simp; omega
          have e5 : cnt 4 (((b :: t).drop (d + 1)).take e ++ r) = e := by
            have := cnt_take 4 ((b :: t).drop (d + 1)) r
            rw [hE, cnt_blankR (by decide) hr, Nat.add_zero] at this
            exact this
          rw [e2, e3, e4, e5, if_pos ⟨rfl, q.2⟩, e1]
        · obtain ⟨rfl, e1⟩ := Prod.mk.inj h
          have e := cnt_take 4 (b :: t) r
          rw [e1, cnt_blankR (by decide) hr, Nat.add_zero] at e
          rw [e, if_neg]
          rintro ⟨q, -⟩
          rw [List.getElem?_append_right (by rw [List.length_take]; omega), List.length_take, Nat.min_eq_left hl, Nat.sub_self] at q
          have := hr 46 (by rw [List.head?_eq_getElem?]; exact q)
          revert this
          decide +kernel
      · rw [if_neg c4] at h
        rw [ht, if_neg (fun q => c4 ((hd 4).mpr q)), ← ht]
        split at h
        · rename_i q
          obtain ⟨rfl, e1⟩ := Prod.mk.inj h
          have e : sgnN ((b :: t).take (n' + 1) ++ r) = n' + 1 := by
            rw [← e1]
            rw [← e1] at hl
            unfold sgnN at q hl ⊢
            by_cases s2 : 2 ≤ (b :: t).length ∧ isS2 ((b :: t).take 2) = true
            · rw [if_pos s2]
              rw [if_pos ⟨by rw [List.length_append, List.length_take]; have := s2.1; omega, by rw [List.take_append_of_le_length (by rw [List.length_take]; omega), List.take_take]; exact s2.2⟩]
            · rw [if_neg s2] at q ⊢
              split at q
              · rename_i s1
                rw [if_pos s1]
                rw [if_neg, if_pos ⟨by simp, by simpa using s1.2⟩]
                rintro ⟨a1, a2⟩
                cases r with
                | nil => simp at a1
                | cons x y =>
                  have := hr x rfl
                  simp at a2
                  exact s2_second a2 this
              · omega
          rw [e, if_pos (by omega)]
        · exact absurd (Prod.mk.inj h).1.symm hk
/-- The texts of tokens, in order: between each two bl, behind the last one tr. -/
def jt (bl tr : List UInt8) : List (Nat × List UInt8) → List UInt8
  | [] => []
  | (_, T) :: r => T ++ (if r.isEmpty then tr else bl ++ jt bl tr r)
/-- Where they stand. -/
def pl (b : Nat) : List (Nat × List UInt8) → Nat → List (Nat × Nat × Nat)
  | [], _ => []
  | (k, T) :: r, a => (k, a, T.length) :: pl b r (a + T.length + b)
def allB (l : List UInt8) : Prop := ∀ b ∈ l, kb b.toNat = 1
/-- A token's text: what it is told for, whatever stands behind a blank. -/
def isT (x : Nat × List UInt8) : Prop := x.1 ≠ 0 ∧ 1 ≤ x.2.length ∧ cnt 1 x.2 = 0 ∧ ∀ r, blankR r → tok (x.2 ++ r) = (x.1, x.2.length)
theorem cnt1_all : ∀ {l : List UInt8}, allB l → ∀ r, cnt 1 (l ++ r) = l.length + cnt 1 r
  | [], _, r => by simp
  | b :: t, h, r => by
    have h1 := h b (by simp)
    have h2 := cnt1_all (l := t) (fun x hx => h x (by simp [hx])) r
    simp only [List.cons_append, cnt, h1, h2, List.length_cons]
    simp; omega
theorem cnt1_head {l : List UInt8} (h : cnt 1 l = 0) (h0 : 1 ≤ l.length) (r : List UInt8) : cnt 1 (l ++ r) = 0 := by
  cases l with
  | nil => simp at h0
  | cons b t =>
    simp only [cnt, List.cons_append] at h ⊢
    split at h
    · rename_i c; rw [if_pos c]
    · omega
theorem cnt1_jt {bl tr : List UInt8} {ts : List (Nat × List UInt8)} (h : ∀ x ∈ ts, isT x) : cnt 1 (jt bl tr ts) = 0 := by
  cases ts with
  | nil => rfl
  | cons x r =>
    obtain ⟨k, T⟩ := x
    have := h (k, T) (by simp)
    exact cnt1_head this.2.2.1 this.2.1 _
theorem scan_jt {bl tr : List UInt8} (hb : allB bl) (b0 : 1 ≤ bl.length) (ht : allB tr) : ∀ (ts : List (Nat × List UInt8)) (a n : Nat), (∀ x ∈ ts, isT x) → n + ts.length ≤ 2048 → scanAt (jt bl tr ts) a n = .ok (pl bl.length ts a)
  | [], a, n, _, _ => scanAt_end _ _ _ rfl
  | (k, T) :: r, a, n, h, hn => by
    obtain ⟨h1, h2, h3, h4⟩ := h (k, T) (by simp)
    have ih := scan_jt hb b0 ht r (a + T.length + bl.length) (n + 1) (fun x hx => h x (by simp [hx])) (by simp at hn; omega)
    have hR : blankR (if r.isEmpty then tr else bl ++ jt bl tr r) := by
      intro b hb1
      split at hb1
      · exact ht b (List.mem_of_mem_head? hb1)
      · cases bl with
        | nil => simp at b0
        | cons x y => simp at hb1; subst hb1; exact hb x (by simp)
    have e := h4 _ hR
    have el : (T ++ (if r.isEmpty then tr else bl ++ jt bl tr r)).length ≠ 0 := by rw [List.length_append]; simp only at h2; omega
    show scanAt (T ++ (if r.isEmpty then tr else bl ++ jt bl tr r)) a n = _
    rw [scanAt, if_neg el, e, dif_neg h1, if_neg (by simp at hn; omega)]
    simp only [List.drop_left]
    cases hr : r.isEmpty
    · rw [if_neg (by simp)]
      rw [cnt1_all hb, cnt1_jt (fun x hx => h x (by simp [hx])), Nat.add_zero, List.drop_left, ih]
      rfl
    · rw [if_pos rfl]
      have c1 := cnt1_all ht []
      rw [List.append_nil] at c1
      simp only [cnt, Nat.add_zero] at c1
      rw [c1, List.drop_length, scanAt_end _ _ _ rfl]
      rw [List.isEmpty_iff] at hr
      subst hr
      rfl
/-- The i-th token told is the i-th text, at its place. -/
theorem pl_at {bl tr : List UInt8} : ∀ (ts : List (Nat × List UInt8)) (pre : List UInt8) (i k : Nat) (T : List UInt8), ts[i]? = some (k, T) →
    ∃ p, (pl bl.length ts pre.length)[i]? = some (k, p, T.length) ∧ ((pre ++ jt bl tr ts).drop p).take T.length = T
  | (k0, T0) :: r, pre, 0, k, T, h => by
    simp at h
    obtain ⟨rfl, rfl⟩ := h
    refine ⟨pre.length, rfl, ?_⟩
    rw [List.drop_left]
    show (T0 ++ _).take T0.length = T0
    rw [List.take_left]
  | (k0, T0) :: r, pre, i + 1, k, T, h => by
    have h' : r[i]? = some (k, T) := by simpa using h
    have hne : r.isEmpty = false := by cases r with | nil => simp at h' | cons x y => rfl
    obtain ⟨p, e1, e2⟩ := pl_at (bl := bl) (tr := tr) r (pre ++ T0 ++ bl) i k T h'
    refine ⟨p, ?_, ?_⟩
    · show (pl bl.length r (pre.length + T0.length + bl.length))[i]? = _
      rw [show pre.length + T0.length + bl.length = (pre ++ T0 ++ bl).length by simp; omega]
      exact e1
    · show ((pre ++ (T0 ++ (if r.isEmpty then tr else bl ++ jt bl tr r))).drop p).take T.length = T
      rw [hne, if_neg (by simp)]
      rw [show pre ++ (T0 ++ (bl ++ jt bl tr r)) = pre ++ T0 ++ bl ++ jt bl tr r by simp]
      exact e2
theorem pl_len (b : Nat) : ∀ ts a, (pl b ts a).length = ts.length
  | [], _ => rfl
  | (k, T) :: r, a => by simp only [pl, List.length_cons, pl_len b r]
/-- The tokens of a text, with their texts. -/
def withT (l : List UInt8) (t : List (Nat × Nat × Nat)) : List (Nat × List UInt8) := t.map (fun x => (x.1, (l.take (x.2.1 + x.2.2)).drop x.2.1))
theorem cnt_drop (m : Nat) : ∀ l : List UInt8, cnt m (l.drop (cnt m l)) = 0
  | [] => rfl
  | b :: t => by
    by_cases c : kb b.toNat &&& m = 0
    · have e : cnt m (b :: t) = 0 := by simp only [cnt, if_pos c]
      rw [e, List.drop_zero, e]
    · have e : cnt m (b :: t) = cnt m t + 1 := by simp only [cnt, if_neg c]
      rw [e, List.drop_succ_cons]
      exact cnt_drop m t
theorem scanAt_isT (L : List UInt8) (m : Nat) : ∀ a n t, (L.drop a).length ≤ m → cnt 1 (L.drop a) = 0 → scanAt (L.drop a) a n = .ok t → ∀ x ∈ withT L t, isT x := by
  induction m with
  | zero =>
    intro a n t hl _ h
    rw [scanAt_end _ a n (by omega)] at h
    cases h
    intro x hx; simp [withT] at hx
  | succ m ih =>
    intro a n t hl hc h
    by_cases h0 : (L.drop a).length = 0
    · rw [scanAt_end _ a n h0] at h
      cases h
      intro x hx; simp [withT] at hx
    · by_cases hk : (tok (L.drop a)).1 = 0
      · rw [scanAt_bad _ a n h0 hk] at h; cases h
      · by_cases hn : n = 2048
        · subst hn; rw [scanAt_full _ a h0 hk] at h; cases h
        · rw [scanAt, if_neg h0, dif_neg hk, if_neg hn] at h
          have tp := tok_pos hk
          have tl := tok_le (L.drop a)
          split at h
          · rename_i r hr
            simp only [List.drop_drop] at hr
            cases h
            intro x hx
            simp only [withT, List.map_cons, List.mem_cons] at hx
            rcases hx with rfl | hx
            · have e : (L.take (a + (tok (L.drop a)).2)).drop a = (L.drop a).take (tok (L.drop a)).2 := by
                rw [List.drop_take]; congr 1; omega
              refine ⟨hk, ?_, ?_, ?_⟩
              · show 1 ≤ ((L.take (a + (tok (L.drop a)).2)).drop a).length
                rw [e, List.length_take]; omega
              · show cnt 1 ((L.take (a + (tok (L.drop a)).2)).drop a) = 0
                rw [e]
                cases q : L.drop a with
                | nil => rfl
                | cons b u =>
                  rw [q] at hc tp
                  obtain ⟨n', hn'⟩ : ∃ n', (tok (b :: u)).2 = n' + 1 := ⟨(tok (b :: u)).2 - 1, by omega⟩
                  rw [hn', List.take_succ_cons]
                  simp only [cnt] at hc ⊢
                  split at hc
                  · rename_i c; rw [if_pos c]
                  · omega
              · intro r hr
                show tok ((L.take (a + (tok (L.drop a)).2)).drop a ++ r) = ((tok (L.drop a)).1, ((L.take (a + (tok (L.drop a)).2)).drop a).length)
                rw [e, tok_ext (l := L.drop a) (k := (tok (L.drop a)).1) (n := (tok (L.drop a)).2) rfl hk hr, List.length_take, Nat.min_eq_left tl]
            · have cz : cnt 1 (L.drop (a + (tok (L.drop a)).2 + cnt 1 (List.drop (a + (tok (L.drop a)).2) L))) = 0 := by
                rw [← List.drop_drop]
                exact cnt_drop _ _
              exact ih _ _ _ (by simp only [List.length_drop] at *; omega) cz hr x hx
          · cases h
theorem scanL_isT {l : List UInt8} {t : List (Nat × Nat × Nat)} (h : scanL l = .ok t) : ∀ x ∈ withT l t, isT x := by
  unfold scanL at h
  split at h
  · cases h
  · exact scanAt_isT l _ _ _ _ (Nat.le_refl _) (cnt_drop 1 l) h
theorem scanAt_count (m : Nat) : ∀ l a n t, l.length ≤ m → n ≤ 2048 → scanAt l a n = .ok t → n + t.length ≤ 2048 := by
  induction m with
  | zero =>
    intro l a n t hl hn h
    rw [scanAt_end l a n (by omega)] at h
    cases h
    simpa using hn
  | succ m ih =>
    intro l a n t hl hn2 h
    by_cases h0 : l.length = 0
    · rw [scanAt_end l a n h0] at h
      cases h
      simpa using hn2
    · by_cases hk : (tok l).1 = 0
      · rw [scanAt_bad l a n h0 hk] at h; cases h
      · by_cases hn : n = 2048
        · subst hn; rw [scanAt_full l a h0 hk] at h; cases h
        · rw [scanAt, if_neg h0, dif_neg hk, if_neg hn] at h
          have tp := tok_pos hk
          split at h
          · rename_i r hr
            have := ih _ _ _ _ (by simp only [List.length_drop]; omega) (by omega) hr
            cases h
            simp; omega
          · cases h
theorem scanL_count {l : List UInt8} {t : List (Nat × Nat × Nat)} (h : scanL l = .ok t) : t.length ≤ 2048 := by
  unfold scanL at h
  split at h
  · cases h
  · have := scanAt_count _ _ _ _ _ (Nat.le_refl _) (by omega) h
    omega
end Go.Proofs.YtknoibocpbfmmaaGreatDoor

