/- Texts of the proof, put together. -/
import Derived.Test.YtlmcopeongkppaaDoorM4
import Derived.Deep.QuietTactic
import Derived.BigQuiet
import Derived.Laws.RangeAny
namespace Go.Proofs.YtlmcopeongkppaaDoor
open Go.RowKit
set_option linter.unusedVariables false
set_option linter.unusedSimpArgs false
/-- Tokens from a place on, one behind the other, none empty, none past N. -/
def rise (N : Nat) : Nat → List (Nat × Nat × Nat) → Prop
  | _, [] => True
  | a, (_, p, n) :: t => a ≤ p ∧ 1 ≤ n ∧ p + n ≤ N ∧ rise N (p + n) t
theorem rise_le {N : Nat} : ∀ {t : List (Nat × Nat × Nat)} {a b : Nat}, rise N a t → b ≤ a → rise N b t
  | [], _, _, h, _ => trivial
  | (_, p, n) :: t, a, b, h, hb => ⟨Nat.le_trans hb h.1, h.2⟩
theorem scanAt_rise (m : Nat) : ∀ l a n t, l.length ≤ m → scanAt l a n = .ok t → rise (a + l.length) a t := by
  induction m with
  | zero =>
    intro l a n t hl h
    rw [scanAt_end l a n (by omega)] at h
    cases h
    trivial
  | succ m ih =>
    intro l a n t hl h
    by_cases h0 : l.length = 0
    · rw [scanAt_end l a n h0] at h
      cases h
      trivial
    · by_cases hk : (tok l).1 = 0
      · rw [scanAt_bad l a n h0 hk] at h; cases h
      · by_cases hn : n = 2048
        · subst hn; rw [scanAt_full l a h0 hk] at h; cases h
        · rw [scanAt, if_neg h0, dif_neg hk, if_neg hn] at h
          have tp := tok_pos hk
          have tl := tok_le l
          have cl := cnt_le 1 (l.drop (tok l).2)
          rw [List.length_drop] at cl
          split at h
          · rename_i r hr
            have := ih _ _ _ _ (by simp only [List.length_drop]; omega) hr
            cases h
            simp only [List.length_drop] at this
            refine ⟨Nat.le_refl _, tp, by omega, rise_le (a := a + (tok l).2 + cnt 1 (List.drop (tok l).2 l)) ?_ (b := a + (tok l).2) (by omega)⟩
            rw [show a + l.length = a + (tok l).2 + cnt 1 (List.drop (tok l).2 l) + (l.length - (tok l).2 - cnt 1 (List.drop (tok l).2 l)) by omega]
            exact this
          · cases h
theorem scanAt_err (m : Nat) : ∀ l a n E A, l.length ≤ m → scanAt l a n = .error (E, A) → E = 3 ∨ E = 5 := by
  induction m with
  | zero =>
    intro l a n E A hl h
    rw [scanAt_end l a n (by omega)] at h
    cases h
  | succ m ih =>
    intro l a n E A hl h
    by_cases h0 : l.length = 0
    · rw [scanAt_end l a n h0] at h
      cases h
    · by_cases hk : (tok l).1 = 0
      · rw [scanAt_bad l a n h0 hk] at h; cases h; exact Or.inl rfl
      · by_cases hn : n = 2048
        · subst hn; rw [scanAt_full l a h0 hk] at h; cases h; exact Or.inr rfl
        · rw [scanAt, if_neg h0, dif_neg hk, if_neg hn] at h
          have tp := tok_pos hk
          split at h
          · cases h
          · rename_i e hr
            cases h
            exact ih _ _ _ _ _ (by simp only [List.length_drop]; omega) hr
theorem scanL_err {l : List UInt8} {E A : Nat} (h : scanL l = .error (E, A)) : E = 3 ∨ E = 5 := by
  unfold scanL at h
  split at h
  · cases h; exact Or.inr rfl
  · exact scanAt_err _ _ _ _ _ _ (Nat.le_refl _) h
theorem scanL_rise {l : List UInt8} {t : List (Nat × Nat × Nat)} (h : scanL l = .ok t) : rise l.length 0 t := by
  unfold scanL at h
  split at h
  · cases h
  · have c := cnt_le 1 l
    have := scanAt_rise _ _ _ _ _ (Nat.le_refl _) h
    rw [List.length_drop] at this
    rw [show l.length = cnt 1 l + (l.length - cnt 1 l) by omega]
    exact rise_le this (Nat.zero_le _)
theorem rise_at {N : Nat} : ∀ {t : List (Nat × Nat × Nat)} {a i k p n : Nat}, rise N a t → t[i]? = some (k, p, n) → a ≤ p ∧ 1 ≤ n ∧ p + n ≤ N
  | (_, _, _) :: t, a, 0, k, p, n, h, e => by simp at e; obtain ⟨rfl, rfl, rfl⟩ := e; exact ⟨h.1, h.2.1, h.2.2.1⟩
  | (_, p0, n0) :: t, a, i + 1, k, p, n, h, e => by
    have := rise_at (i := i) h.2.2.2 (by simpa using e)
    have := h.1
    omega
theorem rise_len {N : Nat} : ∀ {t : List (Nat × Nat × Nat)} {a : Nat}, rise N a t → t.length ≤ N
  | [], _, _ => Nat.zero_le _
  | [(_, p, n)], a, h => by have := h.2.1; have := h.2.2.1; simp; omega
  | (_, p, n) :: (k, p2, n2) :: t, a, h => by
    have ih := rise_from h.2.2.2
    have := h.2.1
    simp only [List.length_cons] at *
    omega
  where
    rise_from {N : Nat} : ∀ {t : List (Nat × Nat × Nat)} {k p n a : Nat}, rise N a ((k, p, n) :: t) → a + ((k, p, n) :: t).length ≤ N
      | [], k, p, n, a, h => by have := h.1; have := h.2.1; have := h.2.2.1; simp; omega
      | (k2, p2, n2) :: t, k, p, n, a, h => by
        have ih := rise_from h.2.2.2
        have := h.1
        have := h.2.1
        simp only [List.length_cons] at *
        omega
theorem fx_wrap_id (x : Int) (h1 : -9223372036854775808 ≤ x) (h2 : x < 9223372036854775808) : IntKind.i64.wrap x = x := by rw [IntKind.wrap_i64]; omega
theorem rise_two {N : Nat} : ∀ {t : List (Nat × Nat × Nat)} {a i k p n k' p' n' : Nat}, rise N a t → t[i]? = some (k, p, n) → t[i + 1]? = some (k', p', n') → p + n ≤ p'
  | (_, _, _) :: t, a, 0, k, p, n, k', p', n', h, e, e' => by
    simp at e; obtain ⟨rfl, rfl, rfl⟩ := e
    exact (rise_at (i := 0) h.2.2.2 (by simpa using e')).1
  | (_, p0, n0) :: t, a, i + 1, k, p, n, k', p', n', h, e, e' => rise_two (i := i) h.2.2.2 (by simpa using e) (by simpa using e')
theorem tcells_at (s : ByteArray) : ∀ {t : List (Nat × Nat × Nat)} {i k p n : Nat}, t[i]? = some (k, p, n) →
    (tcells s t)[i * 3]? = some (.int .i64 (k : Nat)) ∧ (tcells s t)[i * 3 + 1]? = some (.string (s.extract p (p + n))) ∧ (tcells s t)[i * 3 + 2]? = some (.int .i64 (p : Nat))
  | (k0, p0, n0) :: t, 0, k, p, n, e => by simp at e; obtain ⟨rfl, rfl, rfl⟩ := e; exact ⟨rfl, rfl, rfl⟩
  | (k0, p0, n0) :: t, i + 1, k, p, n, e => by
    have := tcells_at s (t := t) (i := i) (by simpa using e)
    simp only [tcells, show (i + 1) * 3 = i * 3 + 1 + 1 + 1 by omega, List.getElem?_cons_succ]
    exact this
theorem cut_size (s : ByteArray) (p n : Nat) (h : p + n ≤ s.size) : (s.extract p (p + n)).size = n := by
  rw [← toL_len, toL_cut, List.length_drop, List.length_take, toL_len]; omega
theorem cut_ne (s : ByteArray) (p n : Nat) (h : p + n ≤ s.size) (hn : 1 ≤ n) : (s.extract p (p + n)).toList.isEmpty = false := by
  have := cut_size s p n h
  rw [← toL_len] at this
  cases q : (s.extract p (p + n)).toList with
  | nil => rw [q] at this; simp at this; omega
  | cons x l => rfl
theorem fx_below_dN {B : Nat} {a w : World} (h : Below B a w) (n : Nat) : Below B a (w.drewN n) := h.trans ⟨rfl, rfl, rfl, Nat.le_refl _, fun _ _ => rfl⟩
end Go.Proofs.YtlmcopeongkppaaDoor

namespace Go.Proofs.YtlmcopeongkppaaDoor
open Go.RowKit
set_option linter.unusedVariables false
set_option linter.unusedSimpArgs false
/-- Nothing, or a blank first. -/
def blankR (r : List UInt8) : Prop := ∀ b, r.head? = some b → kb b.toNat = 1
theorem cnt_blankR {m : Nat} (hm : 1 &&& m = 0) {r : List UInt8} (h : blankR r) : cnt m r = 0 := by
  cases r with
  | nil => rfl
  | cons b t => simp only [cnt]; rw [h b rfl, if_pos hm]
theorem cnt_take (m : Nat) : ∀ l r, cnt m (l.take (cnt m l) ++ r) = cnt m l + cnt m r
  | [], r => by simp [cnt]
  | b :: t, r => by
    by_cases c : kb b.toNat &&& m = 0
    · have e : cnt m (b :: t) = 0 := by simp only [cnt, if_pos c]
      rw [e]; simp
    · have e : cnt m (b :: t) = cnt m t + 1 := by simp only [cnt, if_neg c]
      rw [e, List.take_succ_cons, List.cons_append]
      simp only [cnt, if_neg c]
      rw [cnt_take m t r]; omega
theorem cnt_head (m : Nat) (b : UInt8) (t u : List UInt8) : (0 < cnt m (b :: t)) ↔ (0 < cnt m (b :: u)) := by
  simp only [cnt]; split <;> simp
theorem s2_second {c r : UInt8} (h : isS2 [c, r] = true) : kb r.toNat ≠ 1 := by
  unfold isS2 at h
  simp only [Bool.or_eq_true, beq_iff_eq, List.cons.injEq, and_true] at h
  rcases h with ⟨_, rfl⟩ | ⟨_, rfl⟩ | ⟨_, rfl⟩ | ⟨_, rfl⟩ | ⟨_, rfl⟩ | ⟨_, rfl⟩ <;> decide +kernel
/-- What a token is does not hang on what stands behind it, if that is a blank. -/
theorem tok_ext {l : List UInt8} {k n : Nat} (h : tok l = (k, n)) (hk : k ≠ 0) {r : List UInt8} (hr : blankR r) : tok (l.take n ++ r) = (k, n) := by
  have hp : 1 ≤ n := by have := tok_pos (l := l) (by rw [h]; exact hk); rw [h] at this; exact this
  have hl : n ≤ l.length := by have := tok_le l; rw [h] at this; exact this
  cases l with
  | nil => simp at hl; omega
  | cons b t =>
    obtain ⟨n', rfl⟩ : ∃ n', n = n' + 1 := ⟨n - 1, by omega⟩
    have hd := fun m => cnt_head m b t (t.take n' ++ r)
    have ht : (b :: t).take (n' + 1) ++ r = b :: (t.take n' ++ r) := rfl
    unfold tok at h ⊢
    by_cases c2 : 0 < cnt 2 (b :: t)
    · rw [if_pos c2] at h
      rw [ht, if_pos ((hd 2).mp c2), ← ht]
      have key : cnt 14 (b :: t) = n' + 1 := by
        unfold wonL at h
        split at h
        · exact (Prod.mk.inj h).2
        · split at h
          · exact (Prod.mk.inj h).2
          · exact absurd (Prod.mk.inj h).1.symm hk
      have e := cnt_take 14 (b :: t) r
      rw [key, cnt_blankR (by decide) hr, Nat.add_zero] at e
      unfold wonL at h ⊢
      rw [key] at h
      rw [e, List.take_append_of_le_length (by rw [List.length_take]; omega), List.take_take, Nat.min_self]
      exact h
    · rw [if_neg c2] at h
      rw [ht, if_neg (fun q => c2 ((hd 2).mpr q)), ← ht]
      by_cases c4 : 0 < cnt 4 (b :: t)
      · rw [if_pos c4] at h
        rw [ht, if_pos ((hd 4).mp c4), ← ht]
        unfold iorL at h ⊢
        split at h
        · rename_i q
          obtain ⟨rfl, e1⟩ := Prod.mk.inj h
          generalize hD : cnt 4 (b :: t) = d at *
          generalize hE : cnt 4 ((b :: t).drop (d + 1)) = e at *
          have dl : d < (b :: t).length := by
            by_cases q2 : d < (b :: t).length
            · exact q2
            · rw [List.getElem?_eq_none (by omega)] at q; simp at q
          have sp : (b :: t).take (n' + 1) ++ r = (b :: t).take d ++ (46 :: (((b :: t).drop (d + 1)).take e ++ r)) := by
            rw [← e1]
            have : (b :: t).take (d + 1 + e) = (b :: t).take d ++ 46 :: ((b :: t).drop (d + 1)).take e := by
              rw [List.take_add, List.take_add_one, q.1]; simp
            rw [this]; simp
          have lt : ((b :: t).take d).length = d := by rw [List.length_take]; omega
          have e2 : cnt 4 ((b :: t).take (n' + 1) ++ r) = d := by
            rw [sp]
            have := cnt_take 4 (b :: t) (46 :: (((b :: t).drop (d + 1)).take e ++ r))
            rw [hD] at this
            rw [this]
            simp only [cnt]; rw [show kb (UInt8.toNat 46) = 16 by decide +kernel]; simp
          have e3 : ((b :: t).take (n' + 1) ++ r)[d]? = some 46 := by
            rw [sp, List.getElem?_append_right (by omega), lt]; simp
          have e4 : ((b :: t).take (n' + 1) ++ r).drop (d + 1) = ((b :: t).drop (d + 1)).take e ++ r := by
            rw [sp, List.drop_append, lt]; simp; omega
          have e5 : cnt 4 (((b :: t).drop (d + 1)).take e ++ r) = e := by
            have := cnt_take 4 ((b :: t).drop (d + 1)) r
            rw [hE, cnt_blankR (by decide) hr, Nat.add_zero] at this
            exact this
          rw [e2, e3, e4, e5, if_pos ⟨rfl, q.2⟩, e1]
        · obtain ⟨rfl, e1⟩ := Prod.mk.inj h
          have e := cnt_take 4 (b :: t) r
          rw [e1, cnt_blankR (by decide) hr, Nat.add_zero] at e
          rw [e, if_neg]
          rintro ⟨q, -⟩
          rw [List.getElem?_append_right (by rw [List.length_take]; omega), List.length_take, Nat.min_eq_left hl, Nat.sub_self] at q
          have := hr 46 (by rw [List.head?_eq_getElem?]; exact q)
          revert this
          decide +kernel
      · rw [if_neg c4] at h
        rw [ht, if_neg (fun q => c4 ((hd 4).mpr q)), ← ht]
        split at h
        · rename_i q
          obtain ⟨rfl, e1⟩ := Prod.mk.inj h
          have e : sgnN ((b :: t).take (n' + 1) ++ r) = n' + 1 := by
            rw [← e1]
            rw [← e1] at hl
            unfold sgnN at q hl ⊢
            by_cases s2 : 2 ≤ (b :: t).length ∧ isS2 ((b :: t).take 2) = true
            · rw [if_pos s2]
              rw [if_pos ⟨by rw [List.length_append, List.length_take]; have := s2.1; omega, by rw [List.take_append_of_le_length (by rw [List.length_take]; omega), List.take_take]; exact s2.2⟩]
            · rw [if_neg s2] at q ⊢
              split at q
              · rename_i s1
                rw [if_pos s1]
                rw [if_neg, if_pos ⟨by simp, by simpa using s1.2⟩]
                rintro ⟨a1, a2⟩
                cases r with
                | nil => simp at a1
                | cons x y =>
                  have := hr x rfl
                  simp at a2
                  exact s2_second a2 this
              · omega
          rw [e, if_pos (by omega)]
        · exact absurd (Prod.mk.inj h).1.symm hk
/-- The texts of tokens, in order: between each two bl, behind the last one tr. -/
def jt (bl tr : List UInt8) : List (Nat × List UInt8) → List UInt8
  | [] => []
  | (_, T) :: r => T ++ (if r.isEmpty then tr else bl ++ jt bl tr r)
/-- Where they stand. -/
def pl (b : Nat) : List (Nat × List UInt8) → Nat → List (Nat × Nat × Nat)
  | [], _ => []
  | (k, T) :: r, a => (k, a, T.length) :: pl b r (a + T.length + b)
def allB (l : List UInt8) : Prop := ∀ b ∈ l, kb b.toNat = 1
/-- A token's text: what it is told for, whatever stands behind a blank. -/
def isT (x : Nat × List UInt8) : Prop := x.1 ≠ 0 ∧ 1 ≤ x.2.length ∧ cnt 1 x.2 = 0 ∧ ∀ r, blankR r → tok (x.2 ++ r) = (x.1, x.2.length)
theorem cnt1_all : ∀ {l : List UInt8}, allB l → ∀ r, cnt 1 (l ++ r) = l.length + cnt 1 r
  | [], _, r => by simp
  | b :: t, h, r => by
    have h1 := h b (by simp)
    have h2 := cnt1_all (l := t) (fun x hx => h x (by simp [hx])) r
    simp only [List.cons_append, cnt, h1, h2, List.length_cons]
    simp; omega
theorem cnt1_head {l : List UInt8} (h : cnt 1 l = 0) (h0 : 1 ≤ l.length) (r : List UInt8) : cnt 1 (l ++ r) = 0 := by
  cases l with
  | nil => simp at h0
  | cons b t =>
    simp only [cnt, List.cons_append] at h ⊢
    split at h
    · rename_i c; rw [if_pos c]
    · omega
theorem cnt1_jt {bl tr : List UInt8} {ts : List (Nat × List UInt8)} (h : ∀ x ∈ ts, isT x) : cnt 1 (jt bl tr ts) = 0 := by
  cases ts with
  | nil => rfl
  | cons x r =>
    obtain ⟨k, T⟩ := x
    have := h (k, T) (by simp)
    exact cnt1_head this.2.2.1 this.2.1 _
theorem scan_jt {bl tr : List UInt8} (hb : allB bl) (b0 : 1 ≤ bl.length) (ht : allB tr) : ∀ (ts : List (Nat × List UInt8)) (a n : Nat), (∀ x ∈ ts, isT x) → n + ts.length ≤ 2048 → scanAt (jt bl tr ts) a n = .ok (pl bl.length ts a)
  | [], a, n, _, _ => scanAt_end _ _ _ rfl
  | (k, T) :: r, a, n, h, hn => by
    obtain ⟨h1, h2, h3, h4⟩ := h (k, T) (by simp)
    have ih := scan_jt hb b0 ht r (a + T.length + bl.length) (n + 1) (fun x hx => h x (by simp [hx])) (by simp at hn; omega)
    have hR : blankR (if r.isEmpty then tr else bl ++ jt bl tr r) := by
      intro b hb1
      split at hb1
      · exact ht b (List.mem_of_mem_head? hb1)
      · cases bl with
        | nil => simp at b0
        | cons x y => simp at hb1; subst hb1; exact hb x (by simp)
    have e := h4 _ hR
    have el : (T ++ (if r.isEmpty then tr else bl ++ jt bl tr r)).length ≠ 0 := by rw [List.length_append]; simp only at h2; omega
    show scanAt (T ++ (if r.isEmpty then tr else bl ++ jt bl tr r)) a n = _
    rw [scanAt, if_neg el, e, dif_neg h1, if_neg (by simp at hn; omega)]
    simp only [List.drop_left]
    cases hr : r.isEmpty
    · rw [if_neg (by simp)]
      rw [cnt1_all hb, cnt1_jt (fun x hx => h x (by simp [hx])), Nat.add_zero, List.drop_left, ih]
      rfl
    · rw [if_pos rfl]
      have c1 := cnt1_all ht []
      rw [List.append_nil] at c1
      simp only [cnt, Nat.add_zero] at c1
      rw [c1, List.drop_length, scanAt_end _ _ _ rfl]
      rw [List.isEmpty_iff] at hr
      subst hr
      rfl
/-- The i-th token told is the i-th text, at its place. -/
theorem pl_at {bl tr : List UInt8} : ∀ (ts : List (Nat × List UInt8)) (pre : List UInt8) (i k : Nat) (T : List UInt8), ts[i]? = some (k, T) →
    ∃ p, (pl bl.length ts pre.length)[i]? = some (k, p, T.length) ∧ ((pre ++ jt bl tr ts).drop p).take T.length = T
  | (k0, T0) :: r, pre, 0, k, T, h => by
    simp at h
    obtain ⟨rfl, rfl⟩ := h
    refine ⟨pre.length, rfl, ?_⟩
    rw [List.drop_left]
    show (T0 ++ _).take T0.length = T0
    rw [List.take_left]
  | (k0, T0) :: r, pre, i + 1, k, T, h => by
    have h' : r[i]? = some (k, T) := by simpa using h
    have hne : r.isEmpty = false := by cases r with | nil => simp at h' | cons x y => rfl
    obtain ⟨p, e1, e2⟩ := pl_at (bl := bl) (tr := tr) r (pre ++ T0 ++ bl) i k T h'
    refine ⟨p, ?_, ?_⟩
    · show (pl bl.length r (pre.length + T0.length + bl.length))[i]? = _
      rw [show pre.length + T0.length + bl.length = (pre ++ T0 ++ bl).length by simp; omega]
      exact e1
    · show ((pre ++ (T0 ++ (if r.isEmpty then tr else bl ++ jt bl tr r))).drop p).take T.length = T
      rw [hne, if_neg (by simp)]
      rw [show pre ++ (T0 ++ (bl ++ jt bl tr r)) = pre ++ T0 ++ bl ++ jt bl tr r by simp]
      exact e2
theorem pl_len (b : Nat) : ∀ ts a, (pl b ts a).length = ts.length
  | [], _ => rfl
  | (k, T) :: r, a => by simp only [pl, List.length_cons, pl_len b r]
/-- The tokens of a text, with their texts. -/
def withT (l : List UInt8) (t : List (Nat × Nat × Nat)) : List (Nat × List UInt8) := t.map (fun x => (x.1, (l.take (x.2.1 + x.2.2)).drop x.2.1))
theorem cnt_drop (m : Nat) : ∀ l : List UInt8, cnt m (l.drop (cnt m l)) = 0
  | [] => rfl
  | b :: t => by
    by_cases c : kb b.toNat &&& m = 0
    · have e : cnt m (b :: t) = 0 := by simp only [cnt, if_pos c]
      rw [e, List.drop_zero, e]
    · have e : cnt m (b :: t) = cnt m t + 1 := by simp only [cnt, if_neg c]
      rw [e, List.drop_succ_cons]
      exact cnt_drop m t
theorem scanAt_isT (L : List UInt8) (m : Nat) : ∀ a n t, (L.drop a).length ≤ m → cnt 1 (L.drop a) = 0 → scanAt (L.drop a) a n = .ok t → ∀ x ∈ withT L t, isT x := by
  induction m with
  | zero =>
    intro a n t hl _ h
    rw [scanAt_end _ a n (by omega)] at h
    cases h
    intro x hx; simp [withT] at hx
  | succ m ih =>
    intro a n t hl hc h
    by_cases h0 : (L.drop a).length = 0
    · rw [scanAt_end _ a n h0] at h
      cases h
      intro x hx; simp [withT] at hx
    · by_cases hk : (tok (L.drop a)).1 = 0
      · rw [scanAt_bad _ a n h0 hk] at h; cases h
      · by_cases hn : n = 2048
        · subst hn; rw [scanAt_full _ a h0 hk] at h; cases h
        · rw [scanAt, if_neg h0, dif_neg hk, if_neg hn] at h
          have tp := tok_pos hk
          have tl := tok_le (L.drop a)
          split at h
          · rename_i r hr
            simp only [List.drop_drop] at hr
            cases h
            intro x hx
            simp only [withT, List.map_cons, List.mem_cons] at hx
            rcases hx with rfl | hx
            · have e : (L.take (a + (tok (L.drop a)).2)).drop a = (L.drop a).take (tok (L.drop a)).2 := by
                rw [List.drop_take]; congr 1; omega
              refine ⟨hk, ?_, ?_, ?_⟩
              · show 1 ≤ ((L.take (a + (tok (L.drop a)).2)).drop a).length
                rw [e, List.length_take]; omega
              · show cnt 1 ((L.take (a + (tok (L.drop a)).2)).drop a) = 0
                rw [e]
                cases q : L.drop a with
                | nil => rfl
                | cons b u =>
                  rw [q] at hc tp
                  obtain ⟨n', hn'⟩ : ∃ n', (tok (b :: u)).2 = n' + 1 := ⟨(tok (b :: u)).2 - 1, by omega⟩
                  rw [hn', List.take_succ_cons]
                  simp only [cnt] at hc ⊢
                  split at hc
                  · rename_i c; rw [if_pos c]
                  · omega
              · intro r hr
                show tok ((L.take (a + (tok (L.drop a)).2)).drop a ++ r) = ((tok (L.drop a)).1, ((L.take (a + (tok (L.drop a)).2)).drop a).length)
                rw [e, tok_ext (l := L.drop a) (k := (tok (L.drop a)).1) (n := (tok (L.drop a)).2) rfl hk hr, List.length_take, Nat.min_eq_left tl]
            · have cz : cnt 1 (L.drop (a + (tok (L.drop a)).2 + cnt 1 (List.drop (a + (tok (L.drop a)).2) L))) = 0 := by
                rw [← List.drop_drop]
                exact cnt_drop _ _
              exact ih _ _ _ (by simp only [List.length_drop] at *; omega) cz hr x hx
          · cases h
theorem scanL_isT {l : List UInt8} {t : List (Nat × Nat × Nat)} (h : scanL l = .ok t) : ∀ x ∈ withT l t, isT x := by
  unfold scanL at h
  split at h
  · cases h
  · exact scanAt_isT l _ _ _ _ (Nat.le_refl _) (cnt_drop 1 l) h
theorem scanAt_count (m : Nat) : ∀ l a n t, l.length ≤ m → n ≤ 2048 → scanAt l a n = .ok t → n + t.length ≤ 2048 := by
  induction m with
  | zero =>
    intro l a n t hl hn h
    rw [scanAt_end l a n (by omega)] at h
    cases h
    simpa using hn
  | succ m ih =>
    intro l a n t hl hn2 h
    by_cases h0 : l.length = 0
    · rw [scanAt_end l a n h0] at h
      cases h
      simpa using hn2
    · by_cases hk : (tok l).1 = 0
      · rw [scanAt_bad l a n h0 hk] at h; cases h
      · by_cases hn : n = 2048
        · subst hn; rw [scanAt_full l a h0 hk] at h; cases h
        · rw [scanAt, if_neg h0, dif_neg hk, if_neg hn] at h
          have tp := tok_pos hk
          split at h
          · rename_i r hr
            have := ih _ _ _ _ (by simp only [List.length_drop]; omega) (by omega) hr
            cases h
            simp; omega
          · cases h
theorem scanL_count {l : List UInt8} {t : List (Nat × Nat × Nat)} (h : scanL l = .ok t) : t.length ≤ 2048 := by
  unfold scanL at h
  split at h
  · cases h
  · have := scanAt_count _ _ _ _ _ (Nat.le_refl _) (by omega) h
    omega
end Go.Proofs.YtlmcopeongkppaaDoor

namespace Go.Proofs.YtlmcopeongkppaaDoor
open Go.RowKit
set_option linter.unusedVariables false
set_option linter.unusedSimpArgs false
/-- Digits alone, at least one. -/
def Dg (l : List UInt8) : Prop := l ≠ [] ∧ ∀ b ∈ l, 48 ≤ b.toNat ∧ b.toNat ≤ 57
theorem kb4 {n : Nat} (h : kb n = 4) : 48 ≤ n ∧ n ≤ 57 := by
  revert h; unfold kb; (repeat' split) <;> omega
theorem kb4' {n : Nat} (h : 48 ≤ n ∧ n ≤ 57) : kb n = 4 := by
  unfold kb; (repeat' split) <;> omega
theorem kbn4 {n : Nat} (h : ¬ (kb n &&& 4 = 0)) : kb n = 4 := by
  rcases kb_five n with k | k | k | k | k <;> rw [k] at h ⊢ <;> simp at h
theorem all_of_cnt {l : List UInt8} (h : cnt 4 l = l.length) : ∀ b ∈ l, 48 ≤ b.toNat ∧ b.toNat ≤ 57 := by
  intro b hb
  obtain ⟨j, hj, rfl⟩ := List.mem_iff_getElem.mp hb
  exact kb4 (kbn4 (cnt_in 4 l j hj (by omega)))
theorem shape {T : List UInt8} {k : Nat} (h : tok T = (k, T.length)) (hk : k ≠ 0) :
    (k = 3 ∧ Dg T) ∨ (k = 4 ∧ ∃ D E, T = D ++ 46 :: E ∧ Dg D ∧ Dg E) ∨ (k ≠ 3 ∧ k ≠ 4 ∧ ∃ b t, T = b :: t ∧ ¬ (48 ≤ b.toNat ∧ b.toNat ≤ 57) ∧ b.toNat < 128) := by
  have hp : 1 ≤ T.length := by have := tok_pos (l := T) (by rw [h]; exact hk); rw [h] at this; exact this
  cases T with
  | nil => simp at hp
  | cons b t =>
    unfold tok at h
    split at h
    · rename_i c2
      refine Or.inr (Or.inr ?_)
      have kb2 : kb b.toNat = 2 := by
        simp only [cnt] at c2
        rcases kb_five b.toNat with q | q | q | q | q <;> rw [q] at c2 ⊢ <;> simp at c2
      have hb : b.toNat < 128 := by
        by_cases z : b.toNat < 128
        · exact z
        · rw [kb_high (by omega)] at kb2; omega
      have kk : k ≠ 3 ∧ k ≠ 4 := by
        unfold wonL at h
        split at h
        · have := (Prod.mk.inj h).1; omega
        · split at h
          · have := (Prod.mk.inj h).1; omega
          · have := (Prod.mk.inj h).1; omega
      exact ⟨kk.1, kk.2, b, t, rfl, fun q => by have := kb4' q; omega, hb⟩
    · rename_i c2
      split at h
      · rename_i c4
        unfold iorL at h
        split at h
        · rename_i q
          obtain ⟨rfl, e⟩ := Prod.mk.inj h
          refine Or.inr (Or.inl ⟨rfl, (b :: t).take (cnt 4 (b :: t)), (b :: t).drop (cnt 4 (b :: t) + 1), ?_, ⟨?_, ?_⟩, ⟨?_, ?_⟩⟩)
          · have l1 : cnt 4 (b :: t) < (b :: t).length := by
              by_cases z : cnt 4 (b :: t) < (b :: t).length
              · exact z
              · rw [List.getElem?_eq_none (by omega)] at q; simp at q
            have e1 : (b :: t)[cnt 4 (b :: t)]'l1 = 46 := by
              have := q.1
              rw [List.getElem?_eq_getElem l1] at this
              exact Option.some.inj this
            conv => lhs; rw [← List.take_append_drop (cnt 4 (b :: t)) (b :: t), List.drop_eq_getElem_cons l1, e1]
          · intro z
            have := congrArg List.length z
            rw [List.length_take] at this
            have l := cnt_le 4 (b :: t)
            simp only [List.length_nil] at this
            omega
          · intro x hx
            obtain ⟨j, hj, rfl⟩ := List.mem_iff_getElem.mp hx
            rw [List.length_take] at hj
            rw [List.getElem_take]
            exact kb4 (kbn4 (cnt_in 4 (b :: t) j (by omega) (by omega)))
          · intro z
            rw [z] at q
            simp [cnt] at q
          · apply all_of_cnt
            rw [List.length_drop]; omega
        · obtain ⟨rfl, e⟩ := Prod.mk.inj h
          exact Or.inl ⟨rfl, by simp, all_of_cnt e⟩
      · rename_i c4
        split at h
        · rename_i q
          obtain ⟨rfl, e⟩ := Prod.mk.inj h
          refine Or.inr (Or.inr ⟨by decide, by decide, b, t, rfl, fun z => c4 (by have := kb4' z; simp only [cnt, this]; simp), ?_⟩)
          unfold sgnN at q
          split at q
          · rename_i s
            have s2 := s.2
            cases t with
            | nil => simp at s
            | cons y u =>
              rw [show (b :: y :: u).take 2 = [b, y] from rfl] at s2
              unfold isS2 at s2
              simp only [Bool.or_eq_true, beq_iff_eq, List.cons.injEq, and_true] at s2
              rcases s2 with ⟨rfl, _⟩ | ⟨rfl, _⟩ | ⟨rfl, _⟩ | ⟨rfl, _⟩ | ⟨rfl, _⟩ | ⟨rfl, _⟩ <;> decide
          · split at q
            · rename_i s
              have s1 := s.2
              simp only [List.headD_cons] at s1
              unfold isS1 at s1
              simp only [Bool.or_eq_true, beq_iff_eq] at s1
              omega
            · omega
        · exact absurd (Prod.mk.inj h).1.symm hk
/-- The same of a token that Scan tells. -/
theorem tok_of_isT {k : Nat} {T : List UInt8} (h : isT (k, T)) : tok T = (k, T.length) ∧ k ≠ 0 := by
  have := h.2.2.2 [] (by intro b hb; simp at hb)
  rw [List.append_nil] at this
  exact ⟨this, h.1⟩
end Go.Proofs.YtlmcopeongkppaaDoor

namespace Go.Proofs.YtlmcopeongkppaaDoor
open Go.RowKit
set_option linter.unusedVariables false
set_option linter.unusedSimpArgs false
theorem toL_gt (s : ByteArray) (j : Nat) (h : j < s.size) (h' : j < s.toList.length) : s.toList[j]'h' = s[j] := by
  have := toL_at s j h
  rw [List.getElem?_eq_getElem h'] at this
  exact Option.some.inj this
/-- A text of digits, as its digits say. -/
theorem dig_text {s : ByteArray} (h : Dg s.toList) : ∃ F : Nat → Nat, (∀ j, F j ≤ 9) ∧ digS F s.size = s ∧ 1 ≤ s.size := by
  refine ⟨fun j => if q : j < s.size then (s[j]'q).toNat - 48 else 0, fun j => ?_, ?_, ?_⟩
  · by_cases q : j < s.size
    · simp only [q, dite_true]
      have := h.2 (s[j]'q) (by rw [← toL_gt s j q (by rw [toL_len]; exact q)]; exact List.getElem_mem _)
      omega
    · simp only [q, dite_false]; omega
  · apply ByteArray.ext
    apply Array.ext
    · show (digL _ _).toArray.size = _
      simp [digL_len]
    · intro i h1 h2
      have hi : i < s.size := h2
      have b := h.2 (s[i]'hi) (by rw [← toL_gt s i hi (by rw [toL_len]; exact hi)]; exact List.getElem_mem _)
      show (digL _ _).toArray[i] = _
      have e : ((digL (fun j => if q : j < s.size then (s[j]'q).toNat - 48 else 0) s.size)[i]'(by rw [digL_len]; exact hi)) = s[i] := by
        unfold digL
        rw [List.getElem_map, List.getElem_range]
        simp only [hi, dite_true]
        rw [show 48 + ((s[i]'hi).toNat - 48) = (s[i]'hi).toNat by omega]
        simp
      rw [List.getElem_toArray]
      exact e
  · rw [← toL_len]
    have := h.1
    cases q : s.toList with
    | nil => exact absurd q this
    | cons a b => simp
theorem ne_of {s : ByteArray} (h : 1 ≤ s.size) : s.toList.isEmpty = false := by
  rw [← toL_len] at h
  cases q : s.toList with
  | nil => rw [q] at h; simp at h
  | cons x l => rfl
/-- How many digits a text begins with: all of it; those ahead of a point; none. -/
theorem dOf_all {s : ByteArray} (h : Dg s.toList) (hz : s.size ≤ 9223372036854775807) (w : World) : Calls Tryd.prog 10 #[.string s] w fun e w' => e = .returned (.int .i64 (s.size : Nat)) ∧ Below w.heap.size w w' :=
  digitsOf_any s s.size (Nat.le_refl _) hz (fun j hj _ => h.2 _ (by rw [← toL_gt s j hj (by rw [toL_len]; exact hj)]; exact List.getElem_mem _)) (fun h => by omega) w
theorem dOf_none {s : ByteArray} {b : UInt8} {t : List UInt8} (h : s.toList = b :: t) (hb : ¬ (48 ≤ b.toNat ∧ b.toNat ≤ 57)) (hl : b.toNat < 128) (hz : s.size ≤ 9223372036854775807) (w : World) : Calls Tryd.prog 10 #[.string s] w fun e w' => e = .returned (.int .i64 (0 : Nat)) ∧ Below w.heap.size w w' :=
  digitsOf_any s 0 (Nat.zero_le _) hz (fun j _ hj => by omega) (fun q => by
    have e := toL_gt s 0 q (by rw [toL_len]; exact q)
    simp only [h, List.getElem_cons_zero] at e
    rw [← e]
    exact ⟨hl, hb⟩) w
theorem point_facts {s : ByteArray} {D E : List UInt8} (h : s.toList = D ++ 46 :: E) (hD : Dg D) (hE : Dg E) :
    s.size = D.length + 1 + E.length ∧ 1 ≤ D.length ∧ 1 ≤ E.length ∧ (∀ j (q : j < s.size), j < D.length → 48 ≤ (s[j]'q).toNat ∧ (s[j]'q).toNat ≤ 57) ∧ (∀ q : D.length < s.size, s[D.length]'q = 46) ∧ (∀ j (q : D.length + 1 + j < s.size), 48 ≤ (s[D.length + 1 + j]'q).toNat ∧ (s[D.length + 1 + j]'q).toNat ≤ 57) := by
  have z : s.size = D.length + 1 + E.length := by rw [← toL_len, h]; simp; omega
  have l1 : 1 ≤ D.length := by cases q : D with | nil => exact absurd q hD.1 | cons a b => simp
  have l2 : 1 ≤ E.length := by cases q : E with | nil => exact absurd q hE.1 | cons a b => simp
  refine ⟨z, l1, l2, fun j q hj => ?_, fun q => ?_, fun j q => ?_⟩
  · have e := toL_gt s j q (by rw [toL_len]; exact q)
    simp only [h] at e
    rw [List.getElem_append_left hj] at e
    rw [← e]
    exact hD.2 _ (List.getElem_mem _)
  · have e := toL_gt s D.length q (by rw [toL_len]; exact q)
    simp only [h] at e
    rw [List.getElem_append_right (Nat.le_refl _)] at e
    rw [← e]; simp
  · have e := toL_gt s (D.length + 1 + j) q (by rw [toL_len]; exact q)
    simp only [h] at e
    rw [List.getElem_append_right (by omega)] at e
    rw [← e]
    simp only [show D.length + 1 + j - D.length = j + 1 by omega, List.getElem_cons_succ]
    exact hE.2 _ (List.getElem_mem _)
/-- What Int tells of a token's text. -/
theorem int_tok {s : ByteArray} {k : Nat} (hz : s.size ≤ 8192) (h : tok s.toList = (k, s.toList.length)) (hk : k ≠ 0) (w : World) :
    Calls Tryd.prog 7 #[.string s] w fun e w' => ∃ n E : Int, e = .returned (.tuple #[.int .i64 n, .int .i64 E]) ∧ (k = 3 → E = 0 ∨ E = 9 ∨ E = 2) ∧ (k ≠ 3 → E = 4) ∧ Below w.heap.size w w' := by
  rcases shape h hk with ⟨rfl, hd⟩ | ⟨rfl, D, E, e, hD, hE⟩ | ⟨k3, k4, b, t, e, hb, hl⟩
  · obtain ⟨F, hF, eF, s1⟩ := dig_text hd
    by_cases long : 18 < s.size
    · refine (int_long s (by omega) (ne_of s1) long (dOf_all hd (by omega)) w).mono ?_
      rintro e w' ⟨rfl, L⟩
      exact ⟨_, _, rfl, fun _ => Or.inr (Or.inl rfl), fun q => absurd rfl q, L⟩
    · by_cases big : dN F s.size ≤ 2147483647
      · have := intD_ok s.size F s1 (by omega) hF big w
        rw [eF] at this
        refine this.mono ?_
        rintro e w' ⟨rfl, L⟩
        exact ⟨_, _, rfl, fun _ => Or.inl rfl, fun q => absurd rfl q, L⟩
      · have := intD_big s.size F s1 (by omega) hF (by omega) w
        rw [eF] at this
        refine this.mono ?_
        rintro e w' ⟨rfl, L⟩
        exact ⟨_, _, rfl, fun _ => Or.inr (Or.inr rfl), fun q => absurd rfl q, L⟩
  · obtain ⟨z, l1, l2, f1, f2, f3⟩ := point_facts e hD hE
    have hd := digitsOf_any s D.length (by omega) (by omega) (fun j q hj => f1 j q hj) (fun q => by rw [f2 q]; unfold DigB; decide)
    refine (int_form s D.length (by omega) (ne_of (by omega)) (by omega) hd w).mono ?_
    rintro e w' ⟨rfl, L⟩
    exact ⟨_, _, rfl, fun q => by omega, fun _ => rfl, L⟩
  · have s1 : 1 ≤ s.size := by rw [← toL_len, e]; simp
    refine (int_form s 0 (by omega) (ne_of s1) (by omega) (dOf_none e hb hl (by omega)) w).mono ?_
    rintro e w' ⟨rfl, L⟩
    exact ⟨_, _, rfl, fun q => absurd q k3, fun _ => rfl, L⟩
/-- What Literal tells of a token's text. -/
theorem lit_tok {s : ByteArray} {k : Nat} (hz : s.size ≤ 8192) (h : tok s.toList = (k, s.toList.length)) (hk : k ≠ 0) (w : World) :
    Calls Tryd.prog 4 #[.int .i64 0, .string s] w fun e w' => ∃ n E : Int, e = .returned (.tuple #[.int .u64 n, .int .i64 E]) ∧ (k = 4 → E = 0 ∨ E = 9) ∧ (k ≠ 4 → E = 4) ∧ Below w.heap.size w w' := by
  rcases shape h hk with ⟨rfl, hd⟩ | ⟨rfl, D, E, e, hD, hE⟩ | ⟨k3, k4, b, t, e, hb, hl⟩
  · obtain ⟨F, hF, eF, s1⟩ := dig_text hd
    refine (lit_all 0 s (by omega) s1 (dOf_all hd (by omega)) w).mono ?_
    rintro e w' ⟨rfl, L⟩
    exact ⟨_, _, rfl, fun q => by omega, fun _ => rfl, L⟩
  · obtain ⟨z, l1, l2, f1, f2, f3⟩ := point_facts e hD hE
    by_cases long : 18 < D.length + E.length
    · have hd := digitsOf_any s D.length (by omega) (by omega) (fun j q hj => f1 j q hj) (fun q => by rw [f2 q]; unfold DigB; decide)
      have tE : (s.extract (D.length + 1) s.size).toList = E := by
        rw [toL_cut, List.take_of_length_le (by rw [toL_len]; exact Nat.le_refl _), e]
        simp [List.drop_append]
      have zE : (s.extract (D.length + 1) s.size).size = E.length := by rw [← toL_len, tE]
      have hd2 := dOf_all (s := s.extract (D.length + 1) s.size) (by rw [tE]; exact hE) (by omega)
      rw [zE] at hd2
      refine (lit_long 0 s D.length E.length (by omega) z l1 l2 long f2 hd hd2 w).mono ?_
      rintro e w' ⟨rfl, L⟩
      exact ⟨_, _, rfl, fun _ => Or.inr rfl, fun q => absurd rfl q, L⟩
    · refine (literal_any 0 s D.length E.length (fun i => if i < D.length then (if q : i < s.size then (s[i]'q).toNat - 48 else 0) else (if q : i + 1 < s.size then (s[i + 1]'q).toNat - 48 else 0)) (fun i => ?_) z l1 l2 (by omega) (fun j q hj => ?_) (fun q => by rw [f2 q]; rfl) (fun j q => ?_) w).mono ?_
      · by_cases a : i < D.length
        · have q : i < s.size := by omega
          simp only [a, q, if_true, dite_true]
          have := f1 i q a
          omega
        · simp only [a, if_false]
          by_cases q : i + 1 < s.size
          · simp only [q, dite_true]
            have := f3 (i - D.length) (by omega)
            simp only [show D.length + 1 + (i - D.length) = i + 1 by omega] at this
            omega
          · simp only [q, dite_false]; omega
      · simp only [hj, q, if_true, dite_true]
        have := f1 j q hj
        omega
      · have a : ¬ D.length + j < D.length := by omega
        have q2 : D.length + j + 1 < s.size := by omega
        simp only [a, q2, if_false, dite_true]
        have := f3 j q
        simp only [show D.length + j + 1 = D.length + 1 + j by omega]
        omega
      · rintro e w' ⟨rfl, L⟩
        exact ⟨_, _, rfl, fun _ => Or.inl rfl, fun q => absurd rfl q, L⟩
  · refine (lit_p0 0 s (by omega) (dOf_none e hb hl (by omega)) w).mono ?_
    rintro e w' ⟨rfl, L⟩
    exact ⟨_, _, rfl, fun q => absurd q k4, fun _ => rfl, L⟩
end Go.Proofs.YtlmcopeongkppaaDoor

namespace Go.Proofs.YtlmcopeongkppaaDoor
open Go.RowKit
set_option linter.unusedVariables false
set_option linter.unusedSimpArgs false
set_option maxRecDepth 100000 in
set_option maxHeartbeats 3200000 in
/-- How many digits a text begins with, whatever stands behind them. -/
theorem digitsOf_g (s : ByteArray) (p : Nat) (hp : p ≤ s.size) (hs : s.size ≤ 9223372036854775807) (hd : ∀ j (h : j < s.size), j < p → DigB s[j]) (he : ∀ h : p < s.size, ¬ DigB s[p]) (w : World) :
    Calls Tryd.prog 10 #[.string s] w fun e w' => e = .returned (.int .i64 p) ∧ Below w.heap.size w w' := by
  by_cases hl : ∀ h : p < s.size, s[p].toNat < 128
  · exact digitsOf_any s p hp hs hd (fun h => ⟨hl h, he h⟩) w
  · obtain ⟨l, hb⟩ : ∃ h : p < s.size, 128 ≤ s[p].toNat := by
      by_cases q : p < s.size
      · refine ⟨q, ?_⟩
        by_cases z : s[p].toNat < 128
        · exact absurd (fun _ => z) hl
        · exact Nat.le_of_not_lt z
      · exact absurd (fun h => absurd h q) hl
    clear hl he
    go_enter Tryd.func10, Tryd.ntmps10
    go_wp2_with fail
    go_loopw [3] (fun i wr => ∃ q, q ≤ p ∧ wr = w.iter s q) (fun _ wr => s.size + 1 - pos0 w.heap.size wr)
    case atStart => exact ⟨0, by omega, rfl⟩
    case round =>
      obtain ⟨q, hq, rfl⟩ := hrel
      have qs : q < 9223372036854775808 := by omega
      by_cases c : q < p
      · have l : q < s.size := by omega
        obtain ⟨d1, d2⟩ := hd q l c
        have hn : ∀ ty, (Instr.next (.pointer (some ⟨w.heap.size, 0, none⟩)) true ty).run Tryd.prog (w.iter s q) = .ok (.tuple #[.bool true, .int .i64 q, .int .i32 (s[q]'l).toNat]) (w.iter s (q + 1)) := fun ty => run_next_ascii w s q ty l (by omega)
        have li : (q : Int) < (s.size : Int) := by omega
        obtain ⟨b, hb2⟩ : ∃ b : Nat, (s[q]'l).toNat = b := ⟨_, rfl⟩
        rw [hb2] at d1 d2
        simp only [hb2] at hn
        have i1 : (48 : Int) ≤ (b : Int) := by omega
        have i2 : (b : Int) ≤ 57 := by omega
        clear hd d1 d2 hb
        go_wp2_with fail
        go_roundw
        case rel => exact ⟨q + 1, by omega, rfl⟩
        case measure => simp only [pos0_iter]; omega
      · have qp : q = p := by omega
        subst qp
        have hn := fun ty => run_next_any (P := Tryd.prog) w s q ty l
        have li : (q : Int) < (s.size : Int) := by omega
        generalize (Utf8.decode s q).1 = rn at hn
        generalize (Utf8.decode s q).2 = rl at hn
        obtain ⟨b, hb2⟩ : ∃ b : Nat, (s[q]'l).toNat = b := ⟨_, rfl⟩
        rw [hb2] at hb
        have i2 : (57 : Int) < (b : Int) := by omega
        have i3 : (48 : Int) ≤ (b : Int) := by omega
        clear hd hb c
        go_wp2_with fail
        go_ret
        exact ⟨rfl, (Below.refl _ _).alloc (Nat.le_refl _) _⟩
/-- By the list: the digits that a text begins with. -/
theorem dOf_cnt (s : ByteArray) (hs : s.size ≤ 9223372036854775807) (w : World) : Calls Tryd.prog 10 #[.string s] w fun e w' => e = .returned (.int .i64 (cnt 4 s.toList : Nat)) ∧ Below w.heap.size w w' :=
  digitsOf_g s _ (cnt_size 4 s) hs (fun j h hj => by
    have := cnt_in 4 s.toList j (by rw [toL_len]; exact h) hj
    rw [toL_gt s j h (by rw [toL_len]; exact h)] at this
    exact kb4 (kbn4 this)) (fun h q => by
    have := cnt_out 4 s.toList (by rw [toL_len]; exact h)
    rw [toL_gt s _ h (by rw [toL_len]; exact h), kb4' q] at this
    simp at this) w
set_option maxRecDepth 1000000 in
set_option maxHeartbeats 3200000 in
theorem lit_nopoint (fm : Int) (s : ByteArray) (p : Nat) (hs : s.size ≤ 9223372036854775807) (p1 : 1 ≤ p) (pl : p < s.size) (hn : s[p]'pl ≠ 46) (hd : ∀ w : World, Calls Tryd.prog 10 #[.string s] w fun e w' => e = .returned (.int .i64 p) ∧ Below w.heap.size w w') (w : World) :
    Calls Tryd.prog 4 #[.int .i64 fm, .string s] w fun e w' => e = .returned (.tuple #[.int .u64 0, .int .i64 4]) ∧ Below w.heap.size w w' := by
  have i0 : ((p : Int) == 0) = false := by rw [beq_eq_false_iff_ne]; omega
  have i1 : ((p : Int) == (s.size : Int)) = false := by rw [beq_eq_false_iff_ne]; omega
  have li : (p : Int) < (s.size : Int) := by omega
  have q46 : (((s[p]'pl).toNat : Int) == 46) = false := by
    rw [beq_eq_false_iff_ne]
    intro e
    exact hn (UInt8.toNat_inj.mp (by simpa using (by exact_mod_cast e : (s[p]'pl).toNat = 46)))
  clear hn p1
  go_enter Tryd.func4, Tryd.ntmps4
  go_wp2_with fail
  refine wp_scope_jumps (rest := restOf Tryd.f4) 0 (LiE w 4) (fun _ _ => 0) (by kernel_rfl) ?_ (fun a w' hJ => by rw [liRest_eq]; exact wp_seq (wp_skip (li_pass w 4 _ (fun w' L => ⟨rfl, L⟩) a w' hJ)))
  go_wp2_with (first
    | (go_at_call 10; refine (hd _).mono ?_; rintro e w1 ⟨rfl, b1⟩)
    | fail)
  go_step3
  exact ⟨rfl, _, _, _, _, _, _, _, _, _, _, _, _, _, _, _, _, _, _, _, _, _, _, _, _, _, _, _, _, _, _, _, _, _, _, _, _, _, _, _, _, _, _, _, _, _, _, _, _, _, _, _, _, _, _, _, _, _, _, _, _, _, _, _, rfl, b1⟩
set_option maxRecDepth 1000000 in
set_option maxHeartbeats 3200000 in
theorem lit_last (fm : Int) (s : ByteArray) (p : Nat) (hs : s.size ≤ 9223372036854775807) (p1 : 1 ≤ p) (z : s.size = p + 1) (h46 : ∀ h : p < s.size, s[p]'h = 46) (hd : ∀ w : World, Calls Tryd.prog 10 #[.string s] w fun e w' => e = .returned (.int .i64 p) ∧ Below w.heap.size w w') (w : World) :
    Calls Tryd.prog 4 #[.int .i64 fm, .string s] w fun e w' => e = .returned (.tuple #[.int .u64 0, .int .i64 4]) ∧ Below w.heap.size w w' := by
  have pl : p < s.size := by omega
  have i0 : ((p : Int) == 0) = false := by rw [beq_eq_false_iff_ne]; omega
  have i1 : ((p : Int) == (p : Int) + 1) = false := by rw [beq_eq_false_iff_ne]; omega
  have li : (p : Int) < (s.size : Int) := by omega
  have at_p : (s[p]'pl).toNat = 46 := by rw [h46 pl]; rfl
  have e10 : (p : Int) + 1 < 9223372036854775808 := by omega
  clear h46 p1
  go_enter Tryd.func4, Tryd.ntmps4
  go_wp2_with fail
  refine wp_scope_jumps (rest := restOf Tryd.f4) 0 (LiE w 4) (fun _ _ => 0) (by kernel_rfl) ?_ (fun a w' hJ => by rw [liRest_eq]; exact wp_seq (wp_skip (li_pass w 4 _ (fun w' L => ⟨rfl, L⟩) a w' hJ)))
  go_wp2_with (first
    | (go_at_call 10; refine (hd _).mono ?_; rintro e w1 ⟨rfl, b1⟩)
    | fail)
  go_step3
  exact ⟨rfl, _, _, _, _, _, _, _, _, _, _, _, _, _, _, _, _, _, _, _, _, _, _, _, _, _, _, _, _, _, _, _, _, _, _, _, _, _, _, _, _, _, _, _, _, _, _, _, _, _, _, _, _, _, _, _, _, _, _, _, _, _, _, _, rfl, b1⟩
set_option maxRecDepth 1000000 in
set_option maxHeartbeats 3200000 in
theorem lit_rest (fm : Int) (s : ByteArray) (p m d : Nat) (hs : s.size ≤ 9223372036854775807) (z : s.size = p + 1 + m) (hp : 1 ≤ p) (hm : 1 ≤ m) (dm : d ≠ m) (h46 : ∀ h : p < s.size, s[p]'h = 46)
    (hd : ∀ w : World, Calls Tryd.prog 10 #[.string s] w fun e w' => e = .returned (.int .i64 p) ∧ Below w.heap.size w w')
    (hd2 : ∀ w : World, Calls Tryd.prog 10 #[.string (s.extract (p + 1) s.size)] w fun e w' => e = .returned (.int .i64 d) ∧ Below w.heap.size w w') (w : World) :
    Calls Tryd.prog 4 #[.int .i64 fm, .string s] w fun e w' => e = .returned (.tuple #[.int .u64 0, .int .i64 4]) ∧ Below w.heap.size w w' := by
  have pl : p < s.size := by omega
  have li : (p : Int) < (s.size : Int) := by omega
  have at_p : (s[p]'pl).toNat = 46 := by rw [h46 pl]; rfl
  have i0 : ((p : Int) == 0) = false := by rw [beq_eq_false_iff_ne]; omega
  obtain ⟨s2, hs2⟩ : ∃ s2, s.extract (p + 1) s.size = s2 := ⟨_, rfl⟩
  rw [hs2] at hd2
  have hex : s.extract (p + 1) (p + 1 + m) = s2 := by rw [← z]; exact hs2
  have e7 : ((p : Int) + 1 == (p : Int) + 1 + (m : Int)) = false := by simp; omega
  have e8 : (p : Int) + 1 + (m : Int) - (p : Int) - 1 = m := by omega
  obtain ⟨B, e10, e12⟩ : ∃ B : Int, (p : Int) + 1 + (m : Int) ≤ B ∧ B ≤ 9223372036854775807 := ⟨9223372036854775807, by omega, by omega⟩
  have e11 : ((d : Int) == (m : Int)) = false := by rw [beq_eq_false_iff_ne]; omega
  clear h46 dm hs
  go_enter Tryd.func4, Tryd.ntmps4
  go_wp2_with fail
  refine wp_scope_jumps (rest := restOf Tryd.f4) 0 (LiE w 4) (fun _ _ => 0) (by kernel_rfl) ?_ (fun a w' hJ => by rw [liRest_eq]; exact wp_seq (wp_skip (li_pass w 4 _ (fun w' L => ⟨rfl, L⟩) a w' hJ)))
  go_wp2_with fail
  refine (hd _).mono ?_
  rintro e w1 ⟨rfl, b1⟩
  go_wp2_with fail
  refine (hd2 _).mono ?_
  rintro e w2 ⟨rfl, b2⟩
  go_wp2_with fail
  go_step3
  exact ⟨rfl, _, _, _, _, _, _, _, _, _, _, _, _, _, _, _, _, _, _, _, _, _, _, _, _, _, _, _, _, _, _, _, _, _, _, _, _, _, _, _, _, _, _, _, _, _, _, _, _, _, _, _, _, _, _, _, _, _, _, _, _, _, _, _, rfl, below_callC b1 b2⟩
set_option maxRecDepth 1000000 in
set_option maxHeartbeats 3200000 in
theorem lit_longG (fm : Int) (s : ByteArray) (p m : Nat) (hs : s.size ≤ 9223372036854775807) (z : s.size = p + 1 + m) (hp : 1 ≤ p) (hm : 1 ≤ m) (long : 18 < p + m) (h46 : ∀ h : p < s.size, s[p]'h = 46)
    (hd : ∀ w : World, Calls Tryd.prog 10 #[.string s] w fun e w' => e = .returned (.int .i64 p) ∧ Below w.heap.size w w')
    (hd2 : ∀ w : World, Calls Tryd.prog 10 #[.string (s.extract (p + 1) s.size)] w fun e w' => e = .returned (.int .i64 m) ∧ Below w.heap.size w w') (w : World) :
    Calls Tryd.prog 4 #[.int .i64 fm, .string s] w fun e w' => e = .returned (.tuple #[.int .u64 0, .int .i64 9]) ∧ Below w.heap.size w w' := by
  have pl : p < s.size := by omega
  have li : (p : Int) < (s.size : Int) := by omega
  have q46 : (((s[p]'pl).toNat : Int) == 46) = true := by rw [h46 pl]; rfl
  have at_p : (s[p]'pl).toNat = 46 := by rw [h46 pl]; rfl
  have i0 : ((p : Int) == 0) = false := by rw [beq_eq_false_iff_ne]; omega
  obtain ⟨s2, hs2⟩ : ∃ s2, s.extract (p + 1) s.size = s2 := ⟨_, rfl⟩
  rw [hs2] at hd2
  have hex : s.extract (p + 1) (p + 1 + m) = s2 := by rw [← z]; exact hs2
  have e7 : ((p : Int) + 1 == (p : Int) + 1 + (m : Int)) = false := by simp; omega
  have e8 : (p : Int) + 1 + (m : Int) - (p : Int) - 1 = m := by omega
  have e9 : (18 : Int) < (p : Int) + 1 + (m : Int) - 1 := by omega
  obtain ⟨B, e10, e12⟩ : ∃ B : Int, (p : Int) + 1 + (m : Int) ≤ B ∧ B ≤ 9223372036854775807 := ⟨9223372036854775807, by omega, by omega⟩
  clear h46 long q46 hs
  go_enter Tryd.func4, Tryd.ntmps4
  go_wp2_with fail
  refine wp_scope_jumps (rest := restOf Tryd.f4) 0 (LiE w 9) (fun _ _ => 0) (by kernel_rfl) ?_ (fun a w' hJ => by rw [liRest_eq]; exact wp_seq (wp_skip (li_pass w 9 _ (fun w' L => ⟨rfl, L⟩) a w' hJ)))
  go_wp2_with fail
  refine (hd _).mono ?_
  rintro e w1 ⟨rfl, b1⟩
  go_wp2_with fail
  refine (hd2 _).mono ?_
  rintro e w2 ⟨rfl, b2⟩
  go_wp2_with fail
  go_step3
  exact ⟨rfl, _, _, _, _, _, _, _, _, _, _, _, _, _, _, _, _, _, _, _, _, _, _, _, _, _, _, _, _, _, _, _, _, _, _, _, _, _, _, _, _, _, _, _, _, _, _, _, _, _, _, _, _, _, _, _, _, _, _, _, _, _, _, _, rfl, below_callC b1 b2⟩
/-- Digits, a point, digits: of p and m. -/
def litF (l : List UInt8) : Prop := 1 ≤ cnt 4 l ∧ l[cnt 4 l]? = some 46 ∧ 1 ≤ cnt 4 (l.drop (cnt 4 l + 1)) ∧ l.length = cnt 4 l + 1 + cnt 4 (l.drop (cnt 4 l + 1))
theorem dOf_tail (s : ByteArray) (p : Nat) (hs : s.size ≤ 9223372036854775807) (w : World) : Calls Tryd.prog 10 #[.string (s.extract (p + 1) s.size)] w fun e w' => e = .returned (.int .i64 (cnt 4 (s.toList.drop (p + 1)) : Nat)) ∧ Below w.heap.size w w' := by
  have z : (s.extract (p + 1) s.size).size ≤ 9223372036854775807 := by rw [← toL_len, toL_cut]; simp; rw [toL_len]; omega
  have := dOf_cnt (s.extract (p + 1) s.size) z w
  rw [toL_cut, List.take_of_length_le (by rw [toL_len]; exact Nat.le_refl _)] at this
  exact this
/-- Literal of what is no number. -/
theorem lit_bad (fm : Int) (s : ByteArray) (hs : s.size ≤ 9223372036854775807) (hf : ¬ litF s.toList) (w : World) :
    Calls Tryd.prog 4 #[.int .i64 fm, .string s] w fun e w' => e = .returned (.tuple #[.int .u64 0, .int .i64 4]) ∧ Below w.heap.size w w' := by
  have hd := dOf_cnt s hs
  have ht := dOf_tail s (cnt 4 s.toList) hs
  have le := cnt_size 4 s
  have le2 := cnt_le 4 (s.toList.drop (cnt 4 s.toList + 1))
  rw [List.length_drop, toL_len] at le2
  unfold litF at hf
  rw [toL_len] at hf
  generalize cnt 4 s.toList = p at *
  generalize hD : cnt 4 (s.toList.drop (p + 1)) = d at *
  by_cases p0 : p = 0
  · subst p0
    exact lit_p0 fm s hs hd w
  · by_cases pz : p = s.size
    · subst pz
      exact lit_all fm s hs (by omega) hd w
    · have pl : p < s.size := by omega
      by_cases c46 : s[p]'pl = 46
      · by_cases last : s.size = p + 1
        · exact lit_last fm s p hs (by omega) last (fun _ => c46) hd w
        · refine lit_rest fm s p (s.size - (p + 1)) d hs (by omega) (by omega) (by omega) ?_ (fun _ => c46) hd ht w
          intro e
          exact hf ⟨by omega, by rw [toL_at s p pl, c46], by omega, by omega⟩
      · exact lit_nopoint fm s p hs (by omega) pl c46 hd w
/-- Literal of too many digits. -/
theorem lit_much (fm : Int) (s : ByteArray) (hs : s.size ≤ 9223372036854775807) (hf : litF s.toList) (long : 19 < s.size) (w : World) :
    Calls Tryd.prog 4 #[.int .i64 fm, .string s] w fun e w' => e = .returned (.tuple #[.int .u64 0, .int .i64 9]) ∧ Below w.heap.size w w' := by
  have hd := dOf_cnt s hs
  have ht := dOf_tail s (cnt 4 s.toList) hs
  obtain ⟨f1, f2, f3, f4⟩ := hf
  rw [toL_len] at f4
  generalize cnt 4 s.toList = p at *
  generalize cnt 4 (s.toList.drop (p + 1)) = d at *
  refine lit_longG fm s p d hs f4 f1 f3 (by omega) (fun h => ?_) hd ht w
  rw [toL_at s p h] at f2
  exact Option.some.inj f2
/-- Int of what is no number, and of too many digits. -/
theorem int_bad (s : ByteArray) (hs : s.size ≤ 9223372036854775807) (hf : ¬ (1 ≤ s.size ∧ cnt 4 s.toList = s.size)) (h1 : 1 ≤ s.size) (w : World) :
    Calls Tryd.prog 7 #[.string s] w fun e w' => e = .returned (.tuple #[.int .i64 0, .int .i64 4]) ∧ Below w.heap.size w w' :=
  int_form s _ hs (ne_of h1) (fun e => hf ⟨h1, e⟩) (dOf_cnt s hs) w
set_option maxRecDepth 1000000 in
set_option maxHeartbeats 3200000 in
theorem int_empty (s : ByteArray) (hz : s.size = 0) (w : World) : Calls Tryd.prog 7 #[.string s] w fun e w' => e = .returned (.tuple #[.int .i64 0, .int .i64 4]) ∧ Below w.heap.size w w' := by
  have em : s.toList.isEmpty = true := by rw [← toL_len] at hz; rw [List.isEmpty_iff]; exact List.length_eq_zero_iff.mp hz
  go_enter Tryd.func7, Tryd.ntmps7
  go_wp2_with fail
  refine wp_scope_jumps (rest := restOf Tryd.f7) 0 (InE w 4) (fun _ _ => 0) (by kernel_rfl) ?_ (fun a w' hJ => by rw [inRest_eq]; exact wp_seq (wp_skip (in_passE w 4 _ (fun w' L => ⟨rfl, L⟩) a w' hJ)))
  go_wp2_with fail
  go_step3
  exact ⟨rfl, _, _, _, _, _, _, _, _, _, _, _, _, _, _, _, _, _, _, _, _, _, _, _, _, rfl, Below.refl _ _⟩
end Go.Proofs.YtlmcopeongkppaaDoor

namespace Go.Proofs.YtlmcopeongkppaaDoor
open Go.RowKit
set_option linter.unusedVariables false
set_option linter.unusedSimpArgs false
theorem dec_ref (s : Bool) (n pl : Nat) (hn : n < 18446744073709551616) (hp : pl ≤ 18) :
    decT s n pl = rnd s 0 false (2 * (n * 2 ^ 1200 / 10 ^ pl) + (decide (n * 2 ^ 1200 % 10 ^ pl ≠ 0)).toNat) (-1201) := by
  have p0 : 0 < (10 : Nat) ^ pl := Nat.pow_pos (by decide)
  have p18 : (10 : Nat) ^ pl ≤ 10 ^ 18 := Nat.pow_le_pow_right (by decide) hp
  by_cases n0 : n = 0
  · subst n0
    unfold decT
    simp only [Nat.zero_mul, Nat.zero_div, Nat.zero_mod, ne_eq, not_true, decide_false]
    rw [rndQ_false, rnd_zero]
    show _ = rnd s 0 false 0 (-1201)
    rw [rnd_zero]
  · obtain ⟨fit, bl⟩ := dec_fit n hn
    obtain ⟨b1, b2⟩ := blen_le n0
    unfold decT
    obtain ⟨U, hU⟩ : ∃ U : Nat, 128 - blen n = U := ⟨_, rfl⟩
    obtain ⟨j, hj⟩ : ∃ j : Nat, U + j = 1200 := ⟨1200 - U, by omega⟩
    have big : 2 ^ 127 ≤ n * 2 ^ U := by
      have : 2 ^ (blen n - 1) * 2 ^ U ≤ n * 2 ^ U := Nat.mul_le_mul_right _ b1
      rw [← Nat.pow_add, show blen n - 1 + U = 127 by omega] at this
      exact this
    have e2 : clamp (-(128 - (blen n : Int))) = -(U : Int) := by unfold clamp; omega
    rw [hU, e2]
    have qb : fP s + 2 ≤ blen (n * 2 ^ U / 10 ^ pl) := by
      have : 2 ^ 67 ≤ n * 2 ^ U / 10 ^ pl := (Nat.le_div_iff_mul_le p0).2 (Nat.le_trans (Nat.mul_le_mul_left _ p18) (Nat.le_trans (by decide) big))
      have := le_blen this
      have := fP_le s
      omega
    have e : n * 2 ^ 1200 = n * 2 ^ U * 2 ^ j := by rw [Nat.mul_assoc, ← Nat.pow_add, hj]
    rw [e]
    have dm := Nat.div_add_mod (n * 2 ^ U) (10 ^ pl)
    have rl := Nat.mod_lt (n * 2 ^ U) p0
    generalize n * 2 ^ U = N at *
    generalize (10 : Nat) ^ pl = D at *
    have qd : N * 2 ^ j / D = N / D * 2 ^ j + N % D * 2 ^ j / D := by
      conv => lhs; rw [← dm, Nat.add_mul, Nat.mul_assoc, Nat.mul_add_div p0]
    have qm : N * 2 ^ j % D = N % D * 2 ^ j % D := by
      conv => lhs; rw [← dm, Nat.add_mul, Nat.mul_assoc, Nat.mul_add_mod]
    rw [qd, qm]
    generalize N / D = q at *
    generalize N % D = r at *
    have j0 : 0 < 2 ^ j := Nat.two_pow_pos j
    have tl : r * 2 ^ j / D < 2 ^ j := Nat.div_lt_of_lt_mul (Nat.mul_lt_mul_of_pos_right rl j0)
    have b1 : (decide (r * 2 ^ j % D ≠ 0)).toNat ≤ 1 := Bool.toNat_le _
    have tlt : 2 * (r * 2 ^ j / D) + (decide (r * 2 ^ j % D ≠ 0)).toNat < 2 ^ (j + 1) := by rw [Nat.pow_succ]; omega
    have tz : decide (r ≠ 0) = decide (2 * (r * 2 ^ j / D) + (decide (r * 2 ^ j % D ≠ 0)).toNat ≠ 0) := by
      rw [decide_eq_decide]
      have dm2 := Nat.div_add_mod (r * 2 ^ j) D
      constructor
      · intro r0 h
        have q0 : r * 2 ^ j / D = 0 := by omega
        have m0 : (decide (r * 2 ^ j % D ≠ 0)).toNat = 0 := by omega
        have m1 : r * 2 ^ j % D = 0 := by
          by_cases z : r * 2 ^ j % D = 0
          · exact z
          · rw [decide_eq_true z] at m0; simp at m0
        rw [q0, m1] at dm2
        have : 0 < r * 2 ^ j := Nat.mul_pos (by omega) j0
        omega
      · intro h r0
        subst r0
        simp at h
    rw [rndQ_more s 0 false q (j + 1) (2 * (r * 2 ^ j / D) + (decide (r * 2 ^ j % D ≠ 0)).toNat) (-(U : Int)) qb tlt (decide (r ≠ 0)) tz]
    have ee : -(U : Int) - ((j + 1 : Nat) : Int) = -1201 := by clear e qd qm tz; omega
    have ea : q * 2 ^ (j + 1) + (2 * (r * 2 ^ j / D) + (decide (r * 2 ^ j % D ≠ 0)).toNat) = 2 * (q * 2 ^ j + r * 2 ^ j / D) + (decide (r * 2 ^ j % D ≠ 0)).toNat := by
      rw [Nat.pow_succ, ← Nat.mul_assoc, Nat.mul_add, Nat.mul_comm (q * 2 ^ j) 2, Nat.add_assoc]
    rw [ee, ea]
end Go.Proofs.YtlmcopeongkppaaDoor

namespace Go.Proofs.YtlmcopeongkppaaDoor
open Go.RowKit
set_option linter.unusedVariables false
set_option linter.unusedSimpArgs false
set_option maxRecDepth 100000 in
set_option maxHeartbeats 1600000 in
theorem rdigit3 (n : Nat) (w : World) : Calls Tryd.prog 14 #[.int .u8 n] w fun e w' => e = .returned (.bool (decide (48 ≤ n ∧ n ≤ 57))) ∧ w' = w := by
  by_cases c1 : 48 ≤ n
  · by_cases c2 : n ≤ 57
    · rw [decide_eq_true ⟨c1, c2⟩]
      have t57 : decide ((n : Int) ≤ 57) = true := by rw [decide_eq_true_iff]; omega
      go_enter Tryd.func14, Tryd.ntmps14
      go_wp2_with fail
      go_ret
      exact ⟨rfl, rfl⟩
    · rw [decide_eq_false (fun h => c2 h.2)]
      have t57 : decide ((n : Int) ≤ 57) = false := by rw [decide_eq_false_iff_not]; omega
      clear c2
      go_enter Tryd.func14, Tryd.ntmps14
      go_wp2_with fail
      go_ret
      exact ⟨rfl, rfl⟩
  · rw [decide_eq_false (fun h => c1 h.1)]
    have c3 : n < 48 := by omega
    clear c1
    go_enter Tryd.func14, Tryd.ntmps14
    go_wp2_with fail
    go_ret
    exact ⟨rfl, rfl⟩
theorem toL_gz (s : ByteArray) (j : Nat) (h : j < s.size) (h' : j < s.toList.length) : s.toList[j]'h' = s[j] := by
  have := toL_at s j h
  rw [List.getElem?_eq_getElem h'] at this
  exact Option.some.inj this
theorem cnt4_next {s : ByteArray} {j : Nat} (h : j < s.size) (hj : j ≤ cnt 4 s.toList) (hk : 48 ≤ (s[j]'h).toNat ∧ (s[j]'h).toNat ≤ 57) : j + 1 ≤ cnt 4 s.toList := by
  by_cases c : j < cnt 4 s.toList
  · omega
  · exfalso
    obtain rfl : j = cnt 4 s.toList := by omega
    have := cnt_out 4 s.toList (by rw [toL_len]; exact h)
    rw [toL_gz s _ h, kb4' hk] at this
    simp at this
theorem cnt4_stop {s : ByteArray} {j : Nat} (h : j < s.size) (hj : j ≤ cnt 4 s.toList) (hk : ¬ (48 ≤ (s[j]'h).toNat ∧ (s[j]'h).toNat ≤ 57)) : cnt 4 s.toList = j := by
  by_cases c : j < cnt 4 s.toList
  · exfalso
    have := cnt_in 4 s.toList j (by rw [toL_len]; exact h) c
    rw [toL_gz s _ h] at this
    exact hk (kb4 (kbn4 this))
  · omega
set_option maxRecDepth 100000 in
set_option maxHeartbeats 3200000 in
theorem rint3_bad (s : ByteArray) (hz : s.size ≤ 9223372036854775807) (hf : cnt 4 s.toList ≠ s.size) (w : World) :
    Calls Tryd.prog 8 #[.string s] w fun e w' => e = .returned (.tuple #[.int .i64 0, .int .i64 4]) ∧ Below w.heap.size w w' := by
  have HF : Hid _ := hf
  clear hf
  go_enter Tryd.func8, Tryd.ntmps8
  go_wp2_with fail
  go_loopw [4] (fun i wr => ∃ j : Nat, i = .int .i64 j ∧ j ≤ s.size ∧ Hid (j ≤ cnt 4 s.toList) ∧ wr = w) (fun i _ => s.size - (intOf i).toNat)
  case atStart => exact ⟨0, rfl, by omega, Nat.zero_le _, rfl⟩
  case round =>
    obtain ⟨j, rfl, hj, HJ, rfl⟩ := hrel
    by_cases c : j < s.size
    · have ci : (j : Int) < (s.size : Int) := by omega
      have h2 := rdigit3 (s[j]'c).toNat
      by_cases k : 48 ≤ (s[j]'c).toNat ∧ (s[j]'c).toNat ≤ 57
      · rw [decide_eq_true k] at h2
        have NH : Hid (j + 1 ≤ cnt 4 s.toList) := cnt4_next c HJ.out k
        clear k
        go_wp2_with (go_at_call 14; refine (h2 _).mono ?_; rintro e w4 ⟨rfl, rfl⟩)
        exact ⟨⟨j + 1, by go_num, by omega, NH, by first | trivial | rfl⟩, by simp [intOf]; omega⟩
      · rw [decide_eq_false k] at h2
        clear k
        go_wp2_with (go_at_call 14; refine (h2 _).mono ?_; rintro e w4 ⟨rfl, rfl⟩)
        refine bodyPost_ret (v := .tuple #[.int .i64 0, .int .i64 4]) (by simp [results, Tryd.results8, go_sem]) rfl ?_
        exact ⟨rfl, Below.refl _ _⟩
    · exfalso
      have := HJ.out
      have := cnt_size 4 s
      exact HF.out (by omega)
set_option maxRecDepth 100000 in
set_option maxHeartbeats 3200000 in
theorem rint3_empty (s : ByteArray) (hz : s.size = 0) (w : World) :
    Calls Tryd.prog 8 #[.string s] w fun e w' => e = .returned (.tuple #[.int .i64 0, .int .i64 4]) ∧ Below w.heap.size w w' := by
  have em : s.toList.isEmpty = true := by rw [← toL_len] at hz; rw [List.isEmpty_iff]; exact List.length_eq_zero_iff.mp hz
  go_enter Tryd.func8, Tryd.ntmps8
  go_wp2_with fail
  go_loopw [4] (fun i wr => i = .int .i64 0 ∧ wr = w) (fun i _ => 0)
  case atStart => exact ⟨rfl, rfl⟩
  case round =>
    obtain ⟨rfl, rfl⟩ := hrel
    go_wp2_with fail
    refine bodyPost_ret (v := .tuple #[.int .i64 0, .int .i64 4]) (by simp [results, Tryd.results8, go_sem]) rfl ?_
    exact ⟨rfl, Below.refl _ _⟩
set_option maxRecDepth 100000 in
set_option maxHeartbeats 3200000 in
theorem rint3_long (s : ByteArray) (hz : s.size ≤ 9223372036854775807) (hd : ∀ j (h : j < s.size), 48 ≤ (s[j]'h).toNat ∧ (s[j]'h).toNat ≤ 57) (long : 18 < s.size) (w : World) :
    Calls Tryd.prog 8 #[.string s] w fun e w' => e = .returned (.tuple #[.int .i64 0, .int .i64 9]) ∧ Below w.heap.size w w' := by
  have em : s.toList.isEmpty = false := by
    rw [← toL_len] at long
    cases q : s.toList with
    | nil => rw [q] at long; simp at long
    | cons x l => rfl
  have li : (18 : Int) < (s.size : Int) := by omega
  have HD : Hid _ := hd
  clear hd long
  go_enter Tryd.func8, Tryd.ntmps8
  go_wp2_with fail
  go_loopw [4] (fun i wr => ∃ j : Nat, i = .int .i64 j ∧ j ≤ s.size ∧ wr = w) (fun i _ => s.size - (intOf i).toNat)
  case atStart => exact ⟨0, rfl, by omega, rfl⟩
  case round =>
    obtain ⟨j, rfl, hj, rfl⟩ := hrel
    by_cases c : j < s.size
    · have ci : (j : Int) < (s.size : Int) := by omega
      have h2 := rdigit3 (s[j]'c).toNat
      rw [decide_eq_true (HD.out j c)] at h2
      go_wp2_with (go_at_call 14; refine (h2 _).mono ?_; rintro e w4 ⟨rfl, rfl⟩)
      exact ⟨⟨j + 1, by go_num, by omega, by first | trivial | rfl⟩, by simp [intOf]; omega⟩
    · have ci : ¬ (j : Int) < (s.size : Int) := by omega
      go_wp2_with fail
      refine bodyPost_ret (v := .tuple #[.int .i64 0, .int .i64 9]) (by simp [results, Tryd.results8, go_sem]) rfl ?_
      exact ⟨rfl, Below.refl _ _⟩
set_option maxRecDepth 100000 in
set_option maxHeartbeats 3200000 in
/-- At most 18 digits. -/
theorem rint3_val (s : ByteArray) (f : Nat → Nat) (hf : ∀ j, f j ≤ 9) (h1 : 1 ≤ s.size) (h18 : s.size ≤ 18) (hd : ∀ j (h : j < s.size), (s[j]'h).toNat = 48 + f j) (w : World) :
    Calls Tryd.prog 8 #[.string s] w fun e w' => e = .returned (if dN f s.size ≤ 2147483647 then .tuple #[.int .i64 (dN f s.size : Nat), .int .i64 0] else .tuple #[.int .i64 0, .int .i64 2]) ∧ Below w.heap.size w w' := by
  have em : s.toList.isEmpty = false := by
    rw [← toL_len] at h1
    cases q : s.toList with
    | nil => rw [q] at h1; simp at h1
    | cons x l => rfl
  have li : (s.size : Int) ≤ 18 := by omega
  have HD : Hid (∀ j (h : j < s.size), 48 ≤ (s[j]'h).toNat ∧ (s[j]'h).toNat ≤ 57) := fun j h => by have := hd j h; have := hf j; omega
  have HV : Hid _ := hd
  clear hd
  go_enter Tryd.func8, Tryd.ntmps8
  go_wp2_with fail
  go_loopw [4] (fun i wr => ∃ j : Nat, i = .int .i64 j ∧ j ≤ s.size ∧ wr = w) (fun i _ => s.size - (intOf i).toNat)
  case atStart => exact ⟨0, rfl, by omega, rfl⟩
  case round =>
    obtain ⟨j, rfl, hj, rfl⟩ := hrel
    by_cases c : j < s.size
    · have ci : (j : Int) < (s.size : Int) := by omega
      have h2 := rdigit3 (s[j]'c).toNat
      rw [decide_eq_true (HD.out j c)] at h2
      go_wp2_with (go_at_call 14; refine (h2 _).mono ?_; rintro e w4 ⟨rfl, rfl⟩)
      exact ⟨⟨j + 1, by go_num, by omega, by first | trivial | rfl⟩, by simp [intOf]; omega⟩
    · have ci : ¬ (j : Int) < (s.size : Int) := by omega
      go_wp2_with fail
      go_loopw [5, 6] (fun n i w2 => ∃ q : Nat, n = .int .i64 (dN f q : Nat) ∧ i = .int .i64 q ∧ q ≤ s.size ∧ w2 = wr) (fun _ i _ => s.size - (intOf i).toNat)
      case atStart => exact ⟨0, rfl, rfl, by omega, rfl⟩
      case round =>
        obtain ⟨q, rfl, rfl, hq, rfl⟩ := hrel
        by_cases l : q < s.size
        · have lq : (q : Int) < (s.size : Int) := by omega
          have e := HV.out q l
          have fl := hf q
          have st : Hid (dN f (q + 1) = 10 * dN f q + f q) := rfl
          have lt : dN f (q + 1) < 10 ^ (q + 1) := dN_lt f hf (q + 1)
          have lt2 : (10 : Nat) ^ (q + 1) ≤ 10 ^ 18 := Nat.pow_le_pow_right (by decide) (by omega)
          have bd : 10 * dN f q + f q < 1000000000000000000 := Nat.lt_of_lt_of_le lt lt2
          obtain ⟨b, hb⟩ : ∃ b : Nat, (s[q]'l).toNat = b := ⟨_, rfl⟩
          rw [hb] at e
          generalize hF : f q = F at *
          generalize hN : dN f q = N at *
          have i1 : ((b : Int) - 48) = (F : Int) := by omega
          have i2 : ((b : Int) - 48) % 256 = (F : Int) := by omega
          obtain ⟨M, i3, i4, i6⟩ : ∃ M : Int, (N : Int) * 10 ≤ M ∧ (N : Int) * 10 + (F : Int) ≤ M ∧ M ≤ 9223372036854775807 := ⟨9223372036854775807, by omega, by omega, by omega⟩
          have i5 : (F : Int) < 256 := by omega
          clear lt lt2 bd e fl hF hN
          go_wp2_with fail
          exact ⟨⟨q + 1, by rw [st.out]; congr 1; omega, by go_num, by omega, by first | trivial | rfl⟩, by simp [intOf]; omega⟩
        · have lq : ¬ (q : Int) < (s.size : Int) := by omega
          obtain rfl : q = s.size := by omega
          by_cases big : dN f s.size ≤ 2147483647
          · have bi : ((dN f s.size : Nat) : Int) ≤ 2147483647 := by omega
            have BG : Hid (dN f s.size ≤ 2147483647) := big
            clear big
            generalize hN : dN f s.size = N at bi ⊢
            have HN : Hid _ := hN
            clear hN
            go_wp2_with fail
            refine bodyPost_ret (v := .tuple #[.int .i64 (N : Int), .int .i64 0]) (by simp [results, Tryd.results8, go_sem]) rfl ?_
            exact ⟨by rw [HN.out], Below.refl _ _⟩
          · have bi : (2147483647 : Int) < ((dN f s.size : Nat) : Int) := by omega
            have BG : Hid (¬ dN f s.size ≤ 2147483647) := big
            clear big
            generalize hN : dN f s.size = N at bi ⊢
            have HN : Hid _ := hN
            clear hN
            go_wp2_with fail
            refine bodyPost_ret (v := .tuple #[.int .i64 0, .int .i64 2]) (by simp [results, Tryd.results8, go_sem]) rfl ?_
            exact ⟨rfl, Below.refl _ _⟩
end Go.Proofs.YtlmcopeongkppaaDoor

namespace Go.Proofs.YtlmcopeongkppaaDoor
open Go.RowKit
set_option linter.unusedVariables false
set_option linter.unusedSimpArgs false
/-- Digits, a point, digits. -/
def litG (s : ByteArray) (p d : Nat) : Prop := 1 ≤ p ∧ 1 ≤ d ∧ s.size = p + 1 + d
theorem b46 {b : UInt8} (h : b ≠ 46) : ((b.toNat : Int) == 46) = false := by
  rw [beq_eq_false_iff_ne]
  intro e
  exact h (UInt8.toNat_inj.mp (by simpa using (by exact_mod_cast e : b.toNat = 46)))
set_option maxRecDepth 100000 in
set_option maxHeartbeats 3200000 in
/-- What is no number. p: where the digits end; d: how many stand behind the place p + 1. -/
theorem rlit3_bad (fm : Int) (s : ByteArray) (p d : Nat) (hz : s.size ≤ 9223372036854775807) (hp : p ≤ s.size) (hdl : p < s.size → p + 1 + d ≤ s.size)
    (h1 : ∀ j (h : j < s.size), j < p → 48 ≤ (s[j]'h).toNat ∧ (s[j]'h).toNat ≤ 57) (h2 : ∀ h : p < s.size, ¬ (48 ≤ (s[p]'h).toNat ∧ (s[p]'h).toNat ≤ 57))
    (h3 : ∀ j (h : j < s.size), p < j → j < p + 1 + d → 48 ≤ (s[j]'h).toNat ∧ (s[j]'h).toNat ≤ 57) (h4 : ∀ h : p + 1 + d < s.size, ¬ (48 ≤ (s[p + 1 + d]'h).toNat ∧ (s[p + 1 + d]'h).toNat ≤ 57))
    (no : ¬ (litG s p d ∧ ∀ h : p < s.size, s[p]'h = 46)) (w : World) :
    Calls Tryd.prog 5 #[.int .i64 fm, .string s] w fun e w' => e = .returned (.tuple #[.int .u64 0, .int .i64 4]) ∧ Below w.heap.size w w' := by
  have H1 : Hid _ := h1
  have H2 : Hid _ := h2
  have H3 : Hid _ := h3
  have H4 : Hid _ := h4
  have NO : Hid _ := no
  have HL : Hid _ := hdl
  clear h1 h2 h3 h4 no hdl
  go_enter Tryd.func5, Tryd.ntmps5
  go_wp2_with fail
  go_loopw [6, 7] (fun pt i wr => ∃ j : Nat, i = .int .i64 j ∧ j ≤ s.size ∧ wr = w ∧ ((pt = .int .i64 (-1) ∧ Hid (j ≤ p)) ∨ (pt = .int .i64 (p : Int) ∧ Hid (p < j ∧ (∀ h : p < s.size, s[p]'h = 46) ∧ j ≤ p + 1 + d)))) (fun _ i _ => s.size - (intOf i).toNat)
  case atStart => exact ⟨0, rfl, by omega, rfl, Or.inl ⟨rfl, Nat.zero_le _⟩⟩
  case round =>
    obtain ⟨j, rfl, hj, rfl, st⟩ := hrel
    rcases st with ⟨rfl, HS⟩ | ⟨rfl, HS⟩
    · by_cases c : j < s.size
      · have ci : (j : Int) < (s.size : Int) := by omega
        have hg := rdigit3 (s[j]'c).toNat
        by_cases jp : j < p
        · have dg := H1.out j c jp
          rw [decide_eq_true dg] at hg
          have q46 := b46 (b := s[j]'c) (by intro e; rw [e] at dg; revert dg; decide)
          have NX : Hid (j + 1 ≤ p) := jp
          clear dg jp
          go_wp2_with (go_at_call 14; refine (hg _).mono ?_; rintro e w4 ⟨rfl, rfl⟩)
          exact ⟨⟨j + 1, by go_num, by omega, by first | trivial | rfl, Or.inl ⟨rfl, NX⟩⟩, by simp [intOf]; omega⟩
        · obtain rfl : j = p := by have := HS.out; omega
          rw [decide_eq_false (H2.out c)] at hg
          by_cases c46 : s[j]'c = 46
          · have q46 : (((s[j]'c).toNat : Int) == 46) = true := by rw [c46]; rfl
            have NX : Hid (j < j + 1 ∧ (∀ h : j < s.size, s[j]'h = 46) ∧ j + 1 ≤ j + 1 + d) := ⟨by omega, fun _ => c46, by omega⟩
            clear c46 jp
            go_wp2_with fail
            exact ⟨⟨j + 1, by go_num, by omega, by first | trivial | rfl, Or.inr ⟨rfl, NX⟩⟩, by simp [intOf]; omega⟩
          · have q46 := b46 c46
            clear c46 jp
            go_wp2_with (go_at_call 14; refine (hg _).mono ?_; rintro e w4 ⟨rfl, rfl⟩)
            refine bodyPost_ret (v := .tuple #[.int .u64 0, .int .i64 4]) (by simp [results, Tryd.results5, go_sem]) rfl ?_
            exact ⟨rfl, Below.refl _ _⟩
      · have ci : ¬ (j : Int) < (s.size : Int) := by omega
        go_wp2_with fail
        refine bodyPost_ret (v := .tuple #[.int .u64 0, .int .i64 4]) (by simp [results, Tryd.results5, go_sem]) rfl ?_
        exact ⟨rfl, Below.refl _ _⟩
    · have pn : decide ((p : Int) < 0) = false := by rw [decide_eq_false_iff_not]; omega
      by_cases c : j < s.size
      · have ci : (j : Int) < (s.size : Int) := by omega
        have hg := rdigit3 (s[j]'c).toNat
        by_cases jp : j < p + 1 + d
        · have dg := H3.out j c HS.out.1 jp
          rw [decide_eq_true dg] at hg
          have q46 := b46 (b := s[j]'c) (by intro e; rw [e] at dg; revert dg; decide)
          have NX : Hid (p < j + 1 ∧ (∀ h : p < s.size, s[p]'h = 46) ∧ j + 1 ≤ p + 1 + d) := ⟨by have := HS.out.1; omega, HS.out.2.1, by omega⟩
          clear dg jp
          go_wp2_with (go_at_call 14; refine (hg _).mono ?_; rintro e w4 ⟨rfl, rfl⟩)
          exact ⟨⟨j + 1, by go_num, by omega, by first | trivial | rfl, Or.inr ⟨rfl, NX⟩⟩, by simp [intOf]; omega⟩
        · obtain rfl : j = p + 1 + d := by have := HS.out.2.2; omega
          rw [decide_eq_false (H4.out c)] at hg
          generalize hJ : p + 1 + d = J at *
          by_cases c46 : s[J]'c = 46
          · have q46 : (((s[J]'c).toNat : Int) == 46) = true := by rw [c46]; rfl
            clear c46 jp hJ
            go_wp2_with (go_at_call 14; refine (hg _).mono ?_; rintro e w4 ⟨rfl, rfl⟩)
            refine bodyPost_ret (v := .tuple #[.int .u64 0, .int .i64 4]) (by simp [results, Tryd.results5, go_sem]) rfl ?_
            exact ⟨rfl, Below.refl _ _⟩
          · have q46 := b46 c46
            clear c46 jp hJ
            go_wp2_with (go_at_call 14; refine (hg _).mono ?_; rintro e w4 ⟨rfl, rfl⟩)
            refine bodyPost_ret (v := .tuple #[.int .u64 0, .int .i64 4]) (by simp [results, Tryd.results5, go_sem]) rfl ?_
            exact ⟨rfl, Below.refl _ _⟩
      · have ci : ¬ (j : Int) < (s.size : Int) := by omega
        obtain rfl : j = s.size := by omega
        have bad : p = 0 ∨ s.size = p + 1 := by
          have hh := HS.out
          by_cases p0 : p = 0
          · exact Or.inl p0
          · by_cases q : s.size = p + 1
            · exact Or.inr q
            · have hl := HL.out (by omega)
              exact absurd ⟨⟨by omega, by omega, by omega⟩, hh.2.1⟩ NO.out
        rcases bad with rfl | z
        · go_wp2_with fail
          refine bodyPost_ret (v := .tuple #[.int .u64 0, .int .i64 4]) (by simp [results, Tryd.results5, go_sem]) rfl ?_
          exact ⟨rfl, Below.refl _ _⟩
        · by_cases p0 : p = 0
          · subst p0
            go_wp2_with fail
            refine bodyPost_ret (v := .tuple #[.int .u64 0, .int .i64 4]) (by simp [results, Tryd.results5, go_sem]) rfl ?_
            exact ⟨rfl, Below.refl _ _⟩
          · have p1 : ¬ (p : Int) < 1 := by omega
            have eq1 : ((p : Int) == (p : Int) + 1 - 1) = true := by rw [beq_iff_eq]; omega
            have e10 : (p : Int) + 1 - 1 = p := by omega
            clear p0
            go_wp2_with fail
            refine bodyPost_ret (v := .tuple #[.int .u64 0, .int .i64 4]) (by simp [results, Tryd.results5, go_sem]) rfl ?_
            exact ⟨rfl, Below.refl _ _⟩
set_option maxRecDepth 100000 in
set_option maxHeartbeats 3200000 in
theorem rlit3_much (fm : Int) (s : ByteArray) (p d : Nat) (hz : s.size ≤ 9223372036854775807) (hp : 1 ≤ p) (hd : 1 ≤ d) (z : s.size = p + 1 + d) (long : 18 < p + d)
    (h1 : ∀ j (h : j < s.size), j < p → 48 ≤ (s[j]'h).toNat ∧ (s[j]'h).toNat ≤ 57) (h46 : ∀ h : p < s.size, s[p]'h = 46) (h3 : ∀ j (h : j < s.size), p < j → 48 ≤ (s[j]'h).toNat ∧ (s[j]'h).toNat ≤ 57) (w : World) :
    Calls Tryd.prog 5 #[.int .i64 fm, .string s] w fun e w' => e = .returned (.tuple #[.int .u64 0, .int .i64 9]) ∧ Below w.heap.size w w' := by
  have H1 : Hid _ := h1
  have H3 : Hid _ := h3
  clear h1 h3
  have pz : p < s.size := by omega
  have c46 := h46 pz
  clear h46
  go_enter Tryd.func5, Tryd.ntmps5
  go_wp2_with fail
  go_loopw [6, 7] (fun pt i wr => ∃ j : Nat, i = .int .i64 j ∧ j ≤ s.size ∧ wr = w ∧ ((pt = .int .i64 (-1) ∧ Hid (j ≤ p)) ∨ (pt = .int .i64 (p : Int) ∧ Hid (p < j)))) (fun _ i _ => s.size - (intOf i).toNat)
  case atStart => exact ⟨0, rfl, by omega, rfl, Or.inl ⟨rfl, Nat.zero_le _⟩⟩
  case round =>
    obtain ⟨j, rfl, hj, rfl, st⟩ := hrel
    rcases st with ⟨rfl, HS⟩ | ⟨rfl, HS⟩
    · have c : j < s.size := by have := HS.out; omega
      have ci : (j : Int) < (s.size : Int) := by omega
      by_cases jp : j < p
      · have hg := rdigit3 (s[j]'c).toNat
        have dg := H1.out j c jp
        rw [decide_eq_true dg] at hg
        have q46 := b46 (b := s[j]'c) (by intro e; rw [e] at dg; revert dg; decide)
        have NX : Hid (j + 1 ≤ p) := jp
        clear dg jp c46 z
        go_wp2_with (go_at_call 14; refine (hg _).mono ?_; rintro e w4 ⟨rfl, rfl⟩)
        exact ⟨⟨j + 1, by go_num, by omega, by first | trivial | rfl, Or.inl ⟨rfl, NX⟩⟩, by simp [intOf]; omega⟩
      · obtain rfl : j = p := by have := HS.out; omega
        have q46 : (((s[j]'c).toNat : Int) == 46) = true := by rw [c46]; rfl
        have NX : Hid (j < j + 1) := by show j < j + 1; omega
        clear c46 jp z
        go_wp2_with fail
        exact ⟨⟨j + 1, by go_num, by omega, by first | trivial | rfl, Or.inr ⟨rfl, NX⟩⟩, by simp [intOf]; omega⟩
    · have pn : decide ((p : Int) < 0) = false := by rw [decide_eq_false_iff_not]; omega
      by_cases c : j < s.size
      · have ci : (j : Int) < (s.size : Int) := by omega
        have hg := rdigit3 (s[j]'c).toNat
        have dg := H3.out j c HS.out
        rw [decide_eq_true dg] at hg
        have q46 := b46 (b := s[j]'c) (by intro e; rw [e] at dg; revert dg; decide)
        have NX : Hid (p < j + 1) := by have := HS.out; show p < j + 1; omega
        clear dg c46 z
        go_wp2_with (go_at_call 14; refine (hg _).mono ?_; rintro e w4 ⟨rfl, rfl⟩)
        exact ⟨⟨j + 1, by go_num, by omega, by first | trivial | rfl, Or.inr ⟨rfl, NX⟩⟩, by simp [intOf]; omega⟩
      · have ci : ¬ (j : Int) < (s.size : Int) := by omega
        obtain rfl : j = s.size := by omega
        have p1 : ¬ (p : Int) < 1 := by omega
        have eq1 : ((p : Int) == (s.size : Int) - 1) = false := by rw [beq_eq_false_iff_ne]; omega
        have lg : (18 : Int) < (s.size : Int) - 1 := by omega
        clear z long c46
        go_wp2_with fail
        refine bodyPost_ret (v := .tuple #[.int .u64 0, .int .i64 9]) (by simp [results, Tryd.results5, go_sem]) rfl ?_
        exact ⟨rfl, Below.refl _ _⟩
end Go.Proofs.YtlmcopeongkppaaDoor

