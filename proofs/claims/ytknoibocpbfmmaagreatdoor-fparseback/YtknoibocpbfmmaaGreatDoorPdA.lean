/- The tokens of a text, as a relation; texts that are tokens, whatever stands behind them. -/
import Derived.Test.YtknoibocpbfmmaaGreatDoorPcJ
import Derived.Test.YtknoibocpbfmmaaGreatDoorFxO
namespace Go.Proofs.YtknoibocpbfmmaaGreatDoor
set_option linter.unusedVariables false
set_option linter.unusedSimpArgs false
/-- What tokens a list is made of: their kinds and texts. -/
inductive Lx : List UInt8 → List (Nat × List UInt8) → Prop
  | nil {l : List UInt8} (h : l.drop (cnt 1 l) = []) : Lx l []
  | cons {l l' : List UInt8} {k n : Nat} {ts : List (Nat × List UInt8)} (e : l.drop (cnt 1 l) = l') (h : tok l' = (k, n)) (hk : k ≠ 0) (r : Lx (l'.drop n) ts) : Lx l ((k, l'.take n) :: ts)
theorem tok_nil : tok [] = (0, 0) := by decide +kernel
theorem Lx.det {l : List UInt8} {ts us : List (Nat × List UInt8)} (h : Lx l ts) (k : Lx l us) : ts = us := by
  induction h generalizing us with
  | nil h =>
    cases k with
    | nil => rfl
    | cons e h2 hk r => rw [h] at e; subst e; rw [tok_nil] at h2; exact absurd (by cases h2; rfl) hk
  | cons e h hk r ih =>
    cases k with
    | nil h2 => rw [h2] at e; subst e; rw [tok_nil] at h; exact absurd (by cases h; rfl) hk
    | cons e2 h2 hk2 r2 =>
      rw [e] at e2; subst e2
      rw [h] at h2; cases h2
      rw [ih r2]
/-- What a scan tells is what a list is made of. -/
theorem scanAt_Lx : ∀ (t : List (Nat × Nat × Nat)) (L l l' : List UInt8) (a n : Nat), l.drop (cnt 1 l) = l' → L.drop a = l' → scanAt l' a n = .ok t → Lx l (t.map fun x => (x.1, (L.drop x.2.1).take x.2.2))
  | t, L, l, l', a, n, el, eL, h => by
    by_cases h0 : l'.length = 0
    · rw [scanAt_end l' a n h0] at h
      have := Except.ok.inj h
      subst this
      exact .nil (el.trans (List.eq_nil_of_length_eq_zero h0))
    by_cases hk : (tok l').1 = 0
    · rw [scanAt_bad l' a n h0 hk] at h; cases h
    by_cases hn : n = 2048
    · subst hn; rw [scanAt_full l' a h0 hk] at h; cases h
    rw [scanAt, if_neg h0, dif_neg hk, if_neg hn] at h
    have hp := tok_pos hk
    have hlt : ((l'.drop (tok l').2).drop (cnt 1 (l'.drop (tok l').2))).length < l'.length := by rw [List.length_drop, List.length_drop]; omega
    cases hr : scanAt ((l'.drop (tok l').2).drop (cnt 1 (l'.drop (tok l').2))) (a + (tok l').2 + cnt 1 (l'.drop (tok l').2)) (n + 1) with
    | error e => rw [hr] at h; cases h
    | ok r =>
      rw [hr] at h
      have h2 := Except.ok.inj h
      subst h2
      have ih := scanAt_Lx r L (l'.drop (tok l').2) _ (a + (tok l').2 + cnt 1 (l'.drop (tok l').2)) (n + 1) rfl (by rw [← eL, List.drop_drop, List.drop_drop, Nat.add_assoc]) hr
      simp only [List.map_cons]
      rw [eL]
      exact .cons el rfl hk ih
  termination_by t L l l' => l'.length
theorem scanL_Lx {l : List UInt8} {t : List (Nat × Nat × Nat)} (h : scanL l = .ok t) : Lx l (t.map fun x => (x.1, (l.drop x.2.1).take x.2.2)) := by
  unfold scanL at h
  split at h
  · cases h
  · exact scanAt_Lx t l l _ _ 0 rfl rfl h
/-- A text that is made of some tokens, whatever of a kind stands behind it. -/
def Tox (T : List UInt8) (ts : List (Nat × List UInt8)) (C : List UInt8 → Prop) : Prop := ∀ r ks, C r → Lx r ks → Lx (T ++ r) (ts ++ ks)
theorem Tox.app {T U : List UInt8} {ts us : List (Nat × List UInt8)} {C D : List UInt8 → Prop} (h : Tox T ts C) (k : Tox U us D) (hc : ∀ r, D r → C (U ++ r)) : Tox (T ++ U) (ts ++ us) D := fun r ks c x => by
  rw [List.append_assoc, List.append_assoc]
  exact h _ _ (hc r c) (k r ks c x)
theorem Tox.weak {T : List UInt8} {ts : List (Nat × List UInt8)} {C D : List UInt8 → Prop} (h : Tox T ts C) (hc : ∀ r, D r → C r) : Tox T ts D := fun r ks c x => h r ks (hc r c) x
abbrev Any8 : List UInt8 → Prop := fun _ => True
theorem lx_blank {b : UInt8} (hb : kb b.toNat = 1) {r : List UInt8} {ks : List (Nat × List UInt8)} (h : Lx r ks) : Lx (b :: r) ks := by
  have e : (b :: r).drop (cnt 1 (b :: r)) = r.drop (cnt 1 r) := by
    have : cnt 1 (b :: r) = cnt 1 r + 1 := by
      show (if kb b.toNat &&& 1 = 0 then 0 else cnt 1 r + 1) = cnt 1 r + 1
      rw [if_neg (by rw [hb]; decide)]
    rw [this, List.drop_succ_cons]
  cases h with
  | nil h => exact .nil (e.trans h)
  | cons e2 h hk r => exact .cons (e.trans e2) h hk r
theorem lt_blank {b : UInt8} (hb : kb b.toNat = 1) : Tox [b] [] Any8 := fun r ks _ h => lx_blank hb h
theorem lt_32 : Tox [32] [] Any8 := lt_blank (by decide)
theorem lt_10 : Tox [10] [] Any8 := lt_blank (by decide)
theorem lt_nil : Tox [] [] Any8 := fun r ks _ h => h
theorem lx_tok {T : List UInt8} {k : Nat} (hk : k ≠ 0) {r : List UInt8} (h0 : cnt 1 (T ++ r) = 0) (h : tok (T ++ r) = (k, T.length)) {ks : List (Nat × List UInt8)} (x : Lx r ks) : Lx (T ++ r) ((k, T) :: ks) := by
  have := Lx.cons (l := T ++ r) (l' := T ++ r) (k := k) (n := T.length) (ts := ks) (by rw [h0, List.drop_zero]) h hk (by rw [List.drop_left]; exact x)
  rwa [List.take_left] at this
/-- A list whose first byte breaks a name and a number, and is no =. -/
def Br (r : List UInt8) : Prop := ∀ b, r.head? = some b → kb b.toNat &&& 14 = 0 ∧ b ≠ 46 ∧ b ≠ 61
/-- A list that does not begin with =. -/
def Nq (r : List UInt8) : Prop := ∀ b, r.head? = some b → b ≠ 61
theorem Br.nq {r : List UInt8} (h : Br r) : Nq r := fun b hb => (h b hb).2.2
theorem cnt_app_of {m : Nat} {T r : List UInt8} (hT : cnt m T = T.length) (hr : cnt m r = 0) : cnt m (T ++ r) = T.length := by
  induction T with
  | nil => simpa using hr
  | cons b T ih =>
    rw [List.cons_append]
    unfold cnt at hT ⊢
    split at hT
    · simp at hT
    · rename_i c
      rw [if_neg c, List.length_cons, ih (by simpa using hT)]
theorem cnt_zero_of {m : Nat} {r : List UInt8} (h : ∀ b, r.head? = some b → kb b.toNat &&& m = 0) : cnt m r = 0 := by
  cases r with
  | nil => rfl
  | cons b r => unfold cnt; rw [if_pos (h b rfl)]
theorem cnt_pos_app {m : Nat} {T : List UInt8} (h : 0 < cnt m T) (r : List UInt8) : 0 < cnt m (T ++ r) := by
  cases T with
  | nil => simp [cnt] at h
  | cons b T => rw [List.cons_append]; exact (cnt_head m b T (T ++ r)).1 h
theorem cnt1_of_pos {m : Nat} (hm : 1 &&& m = 0) {T : List UInt8} (h : 0 < cnt m T) (r : List UInt8) : cnt 1 (T ++ r) = 0 := by
  cases T with
  | nil => simp [cnt] at h
  | cons b T =>
    unfold cnt at h
    split at h
    · cases h
    · rename_i c
      rw [List.cons_append]
      unfold cnt
      rw [if_pos]
      rcases kb_five b.toNat with e | e | e | e | e
      · rw [e] at c; exact absurd hm c
      all_goals rw [e]; decide
theorem lt_won {T : List UInt8} {k : Nat} (h2 : 0 < cnt 2 T) (h14 : cnt 14 T = T.length) (h : wonL T = (k, T.length)) (hk : k ≠ 0) : Tox T [(k, T)] Br := fun r ks c x => by
  have z := cnt_app_of h14 (cnt_zero_of fun b hb => (c b hb).1)
  refine lx_tok hk (cnt1_of_pos (by decide) h2 r) ?_ x
  unfold tok
  rw [if_pos (cnt_pos_app h2 r), ← h]
  unfold wonL
  rw [z, h14, List.take_left, List.take_length]
theorem lt_name {T : List UInt8} (h : isN T = true) : Tox T [(1, T)] Br := by
  obtain ⟨h2, h14, _, hw⟩ := isN_cases h
  refine lt_won h2 h14 ?_ (by decide)
  unfold wonL
  rw [h14, List.take_length, hw, h]; rfl
theorem lt_word {T : List UInt8} (h : isW T = true) : Tox T [(2, T)] Br := by
  obtain ⟨h2, h14, _⟩ := isW_cases h
  refine lt_won h2 h14 ?_ (by decide)
  unfold wonL
  rw [h14, List.take_length, h]; rfl
theorem kb_14 {b : UInt8} (h : kb b.toNat &&& 14 = 0) : kb b.toNat &&& 4 = 0 := by
  rcases kb_five b.toNat with e | e | e | e | e <;> rw [e] at h ⊢ <;> first | decide | (exact absurd h (by decide))
theorem cnt4_app {T r : List UInt8} (h : cnt 4 T < T.length) : cnt 4 (T ++ r) = cnt 4 T := by
  induction T with
  | nil => simp at h
  | cons b T ih =>
    rw [List.cons_append]
    unfold cnt at h ⊢
    split
    · rfl
    · rename_i c
      rw [if_neg c] at h
      rw [ih (by simpa using h)]
theorem lt_num {T : List UInt8} {k : Nat} (hk : k = 3 ∨ k = 4) (h : tok T = (k, T.length)) (h0 : T ≠ []) : Tox T [(k, T)] Br := fun r ks c x => by
  have n2 : ¬ 0 < cnt 2 T := fun h2 => by
    unfold tok at h; rw [if_pos h2] at h
    unfold wonL at h
    split at h
    · have := (Prod.mk.inj h).1; omega
    · split at h
      · have := (Prod.mk.inj h).1; omega
      · have := (Prod.mk.inj h).1; omega
  have n4 : 0 < cnt 4 T := by
    rcases Nat.eq_zero_or_pos (cnt 4 T) with e | e
    · unfold tok at h; rw [if_neg n2, if_neg (by omega)] at h
      split at h
      · have := (Prod.mk.inj h).1; omega
      · have := (Prod.mk.inj h).1; omega
    · exact e
  have n2' : ¬ 0 < cnt 2 (T ++ r) := fun h2 => n2 (by
    cases T with
    | nil => exact absurd rfl h0
    | cons b T => exact (cnt_head 2 b T (T ++ r)).2 h2)
  refine lx_tok (by omega) (cnt1_of_pos (by decide) n4 r) ?_ x
  unfold tok at h ⊢
  rw [if_neg n2, if_pos n4] at h
  rw [if_neg n2', if_pos (cnt_pos_app n4 r), ← h]
  have z : cnt 4 r = 0 := cnt_zero_of fun b hb => kb_14 (c b hb).1
  by_cases hf : cnt 4 T = T.length
  · unfold iorL
    rw [cnt_app_of hf z, hf]
    rw [if_neg (fun q => by
      have q1 := q.1
      rw [List.getElem?_append_right (Nat.le_refl _), Nat.sub_self] at q1
      cases r with
      | nil => cases q1
      | cons b r => simp at q1; exact (c b rfl).2.1 q1), if_neg (fun q => by
      have q1 := q.1
      rw [List.getElem?_eq_none (Nat.le_refl _)] at q1; cases q1)]
  · have lt : cnt 4 T < T.length := by have := cnt_le 4 T; omega
    unfold iorL at h
    split at h
    · rename_i q
      have e2 : cnt 4 T + 1 + cnt 4 (T.drop (cnt 4 T + 1)) = T.length := (Prod.mk.inj h).2
      unfold iorL
      have e4 : cnt 4 ((T ++ r).drop (cnt 4 T + 1)) = cnt 4 (T.drop (cnt 4 T + 1)) := by
        rw [List.drop_append_of_le_length (by omega), cnt_app_of (by rw [List.length_drop]; omega) z, List.length_drop]; omega
      rw [cnt4_app lt, e4, if_pos ⟨by rw [List.getElem?_append_left lt]; exact q.1, q.2⟩, if_pos q]
    · have := (Prod.mk.inj h).2; omega
/-- A sign of one byte, ahead of what makes no sign of two with it. -/
theorem tok_s1 {c : UInt8} (h : isS1 c.toNat = true) {r : List UInt8} (hr : ∀ b, r.head? = some b → isS2 [c, b] = false) : cnt 1 (c :: r) = 0 ∧ tok (c :: r) = (5, 1) := by
  have hc : kb c.toNat = 16 := by
    unfold isS1 at h
    simp only [Bool.or_eq_true, beq_iff_eq] at h
    have : c.toNat = 43 ∨ c.toNat = 45 ∨ c.toNat = 42 ∨ c.toNat = 47 ∨ c.toNat = 40 ∨ c.toNat = 41 ∨ c.toNat = 91 ∨ c.toNat = 93 ∨ c.toNat = 123 ∨ c.toNat = 125 ∨ c.toNat = 59 ∨ c.toNat = 44 ∨ c.toNat = 61 ∨ c.toNat = 60 ∨ c.toNat = 62 ∨ c.toNat = 33 := by omega
    rcases this with e | e | e | e | e | e | e | e | e | e | e | e | e | e | e | e <;> (rw [e]; decide)
  have z : ∀ m : Nat, 16 &&& m = 0 → cnt m (c :: r) = 0 := fun m hm => by unfold cnt; rw [if_pos (by rw [hc]; exact hm)]
  refine ⟨z 1 (by decide), ?_⟩
  have s : sgnN (c :: r) = 1 := by
    unfold sgnN
    rw [if_neg, if_pos ⟨by simp, by simpa using h⟩]
    rintro ⟨h1, h2⟩
    cases r with
    | nil => simp at h1
    | cons b r => simp only [List.take_succ_cons, List.take_zero] at h2; rw [hr b rfl] at h2; cases h2
  unfold tok
  rw [z 2 (by decide), z 4 (by decide), s]; rfl
theorem lt_s1 {c : UInt8} (h : isS1 c.toNat = true) {C : List UInt8 → Prop} (hC : ∀ r, C r → ∀ b, r.head? = some b → isS2 [c, b] = false) : Tox [c] [(5, [c])] C := fun r ks cr x =>
  lx_tok (T := [c]) (by decide) (tok_s1 h (hC r cr)).1 (tok_s1 h (hC r cr)).2 x
theorem tok_s2 {c d : UInt8} (h : isS2 [c, d] = true) (hc : kb c.toNat = 16) (r : List UInt8) : cnt 1 (c :: d :: r) = 0 ∧ tok (c :: d :: r) = (5, 2) := by
  have z : ∀ m : Nat, 16 &&& m = 0 → cnt m (c :: d :: r) = 0 := fun m hm => by unfold cnt; rw [if_pos (by rw [hc]; exact hm)]
  refine ⟨z 1 (by decide), ?_⟩
  have s : sgnN (c :: d :: r) = 2 := by
    unfold sgnN
    rw [if_pos ⟨by simp, by simpa using h⟩]
  unfold tok
  rw [z 2 (by decide), z 4 (by decide), s]; rfl
theorem lt_s2 {c d : UInt8} (h : isS2 [c, d] = true) (hc : kb c.toNat = 16) : Tox [c, d] [(5, [c, d])] Any8 := fun r ks cr x =>
  lx_tok (T := [c, d]) (by decide) (tok_s2 h hc r).1 (tok_s2 h hc r).2 x
end Go.Proofs.YtknoibocpbfmmaaGreatDoor

