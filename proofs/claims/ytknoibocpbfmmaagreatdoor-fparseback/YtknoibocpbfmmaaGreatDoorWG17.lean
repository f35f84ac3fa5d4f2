/- Texts of the proof, put together. -/
import Derived.Test.YtknoibocpbfmmaaGreatDoorWG5
import Derived.Test.YtknoibocpbfmmaaGreatDoorWG15
import Derived.Test.YtknoibocpbfmmaaGreatDoorWPbS
import Derived.Test.YtknoibocpbfmmaaGreatDoorWG4
import Derived.Test.YtknoibocpbfmmaaGreatDoorWG7
namespace Go.Proofs.YtknoibocpbfmmaaGreatDoor
set_option linter.unusedVariables false
theorem scanAt_tok : ∀ (t : List (Nat × Nat × Nat)) (l : List UInt8) (a n : Nat), scanAt l a n = .ok t → ∀ x ∈ t, tok (l.drop (x.2.1 - a)) = (x.1, x.2.2)
 | t, l, a, n, h => by
  by_cases h0 : l.length = 0
  ·rw [scanAt_end l a n h0] at h
   have := Except.ok.inj h
   subst this
   intro x hx; cases hx
  by_cases hk : (tok l).1 = 0
  ·rw [scanAt_bad l a n h0 hk] at h; cases h
  by_cases hn : n = 2048
  ·subst hn; rw [scanAt_full l a h0 hk] at h; cases h
  rw [scanAt, if_neg h0, dif_neg hk, if_neg hn] at h
  have hp := tok_pos hk
  have hlt : ((l.drop (tok l).2).drop (cnt 1 (l.drop (tok l).2))).length < l.length := by rw [List.length_drop, List.length_drop]; omega
  cases hr : scanAt ((l.drop (tok l).2).drop (cnt 1 (l.drop (tok l).2))) (a + (tok l).2 + cnt 1 (l.drop (tok l).2)) (n + 1) with
  | error e => rw [hr] at h; cases h
  | ok r =>
   rw [hr] at h
   have h2 := Except.ok.inj h
   subst h2
   intro x hx
   rcases List.mem_cons.1 hx with rfl | hx
   ·simp only [Nat.sub_self, List.drop_zero]
   ·have := scanAt_tok r _ _ _ hr x hx
    have j2 := (scanAt_kinds r _ _ _ hr x hx).2.1
    rw [List.drop_drop, List.drop_drop] at this
    rw [show x.2.1 - a = (tok l).2 + (cnt 1 (l.drop (tok l).2) + (x.2.1 - (a + (tok l).2 + cnt 1 (l.drop (tok l).2)))) by omega]
    exact this
 termination_by t l => l.length
theorem scanL_tok {l : List UInt8} {t : List (Nat × Nat × Nat)} (h : scanL l = .ok t) : ∀ x ∈ t, tok (l.drop x.2.1) = (x.1, x.2.2) := by
 unfold scanL at h
 split at h
 ·cases h
 ·intro x hx
  have j2 := (scanAt_kinds t _ _ _ h x hx).2.1
  have := scanAt_tok t _ _ _ h x hx
  rw [List.drop_drop, show cnt 1 l + (x.2.1 - cnt 1 l) = x.2.1 by omega] at this
  exact this
theorem cnt_all (m : Nat) : ∀ l : List UInt8, ∀ b ∈ l.take (cnt m l), ¬ (kb b.toNat &&& m = 0)
 | [], b, h => by simp at h
 | c :: t, b, h => by
  simp only [cnt] at h
  split at h
  ·simp at h
  ·rename_i q
   rw [List.take_succ_cons] at h
   rcases List.mem_cons.1 h with rfl | h
   ·exact q
   ·exact cnt_all m t b h
/-- An int's text is digits. -/
theorem tok_int {l : List UInt8} {n : Nat} (h : tok l = (3, n)) : l.take n ≠ [] ∧ ∀ b ∈ l.take n, 48 ≤ b.toNat ∧ b.toNat ≤ 57 := by
 unfold tok at h
 split at h
 ·unfold wonL at h
  split at h
  ·cases h
  ·split at h <;> cases h
 ·split at h
  ·rename_i c
   unfold iorL at h
   split at h
   ·cases h
   ·obtain ⟨-, rfl⟩ := Prod.mk.inj h
    refine ⟨fun e => ?_, fun b hb => kb4 (kbn4 (cnt_all 4 l b hb))⟩
    have := congrArg List.length e
    rw [List.length_take] at this
    simp at this
    have := cnt_le 4 l
    rcases ‹cnt 4 l = 0 ∨ l = []› with e | e
    ·omega
    ·subst e; simp [cnt] at c
  ·split at h <;> cases h
theorem ext_list (s : ByteArray) (a b : Nat) : (s.extract a b).data.toList = (s.toList.drop a).take (b - a) := by
 rw [toL]
 simp only [ByteArray.data_extract, Array.toList_extract, List.extract]
theorem tks_Dz {s : ByteArray} {t : List (Nat × Nat × Nat)} (h : scanL s.toList = .ok t) (hs : s.size ≤ 281474976710656) : Dz (tks s t) := by
 intro x hx x3
 unfold tks at hx
 rcases List.mem_append.1 hx with hx | hx
 ·obtain ⟨y, hy, rfl⟩ := List.mem_map.1 hx
  have e := scanL_tok h y hy
  simp only at x3
  rw [x3] at e
  have := tok_int e
  refine ⟨⟨?_, ?_⟩, ?_⟩
  ·simp only; rw [ext_list, Nat.add_sub_cancel_left]; exact this.1
  ·simp only; rw [ext_list, Nat.add_sub_cancel_left]; exact this.2
  ·have := ByteArray.size_extract (a := s) (b := y.2.1) (e := y.2.1 + y.2.2)
   simp only
   omega
 ·simp at hx; subst hx; cases x3
theorem tks_Tz (s : ByteArray) (t : List (Nat × Nat × Nat)) : Tz (tks s t) := ⟨_, _, rfl⟩
theorem tks_len (s : ByteArray) (t : List (Nat × Nat × Nat)) : (tks s t).length = t.length + 1 := by unfold tks; simp
theorem tks_Qz {s : ByteArray} (t : List (Nat × Nat × Nat)) (hs : s.size ≤ 281474976710656) : Qz (tks s t) := by
 intro x hx
 unfold tks at hx
 rcases List.mem_append.1 hx with hx | hx
 ·obtain ⟨y, hy, rfl⟩ := List.mem_map.1 hx
  have := ByteArray.size_extract (a := s) (b := y.2.1) (e := y.2.1 + y.2.2)
  show (s.extract y.2.1 (y.2.1 + y.2.2)).size ≤ _
  omega
 ·simp at hx; subst hx; exact Nat.zero_le _
theorem tks_nm {s : ByteArray} {t : List (Nat × Nat × Nat)} (h : t.length ≤ 2048) : pgP 16500 (tks s t) ≠ .more := fun e => by
 have := pgP_sat 16500 (tks s t) (tks_Tz s t)
 rw [e] at this
 have h2 : 16500 < 8 * (tks s t).length + 9 := this
 rw [tks_len] at h2
 omega
/-- A token's cells. -/
def tkc : List Tk → List Value
 | [] => []
 | t :: ts => .int .i64 (t.1 : Nat) :: .string t.2.1 :: .int .i64 (t.2.2 : Nat) :: tkc ts
theorem tkc_tks (s : ByteArray) : ∀ t : List (Nat × Nat × Nat), tkc (tks s t) = tcells s t ++ [.int .i64 0, .string tx0, .int .i64 (s.size : Nat)]
 | [] => rfl
 | (k, a, n) :: t => by
  have := tkc_tks s t
  unfold tks at this ⊢
  rw [List.map_cons, List.cons_append, tkc, this, tcells]
  rfl
theorem tkc_at {W : World} {c : Nat} : ∀ (ts : List Tk) (o : Nat), (∀ j u, (tkc ts)[j]? = some u → W.cell? ⟨c, o + j, none⟩ = some u) → TkAt W c ts o
 | [], o, h => trivial
 | t :: ts, o, h => ⟨h 0 _ rfl, h 1 _ rfl, h 2 _ rfl, tkc_at ts (o + 3) fun j u hu => by rw [show o + 3 + j = o + (j + 1 + 1 + 1) by omega]; exact h _ u hu⟩
theorem own_tks {V : World} {base n : Nat} {e : TypeId} {v : Value} {s : ByteArray} {t : List (Nat × Nat × Nat)} (hn : t.length = n) (own : V.ownsRow base e 3 v (n + 1) (tcells s t ++ [.int .i64 0, .string tx0, .int .i64 (s.size : Nat)])) : ∃ g cap, v = .slice (some ⟨g, 0, none⟩) (tks s t).length cap ∧ (tks s t).length ≤ cap ∧ base ≤ g ∧ TkAt V g (tks s t) 0 := by
 obtain ⟨g, cap, rfl, h1, h2, h3, h4⟩ := own_cells own (by omega)
 rw [tks_len, hn]
 exact ⟨g, cap, rfl, h2, h3, tkc_at _ 0 fun j u hu => by rw [Nat.zero_add]; rw [tkc_tks] at hu; exact h4 j u hu⟩
end Go.Proofs.YtknoibocpbfmmaaGreatDoor



namespace Go.Proofs.YtknoibocpbfmmaaGreatDoor
open Go.RowKit
set_option linter.unusedVariables false
set_option linter.unusedSimpArgs false
theorem isW_cases {l : List UInt8} (h : isW l = true) : 0 < cnt 2 l ∧ cnt 14 l = l.length ∧ l.length ≤ 6 := by
 unfold isW at h
 simp only [Bool.or_eq_true, beq_iff_eq] at h
 rcases h with rfl | rfl | rfl | rfl | rfl | rfl | rfl | rfl | rfl | rfl <;> decide +kernel
theorem isN_cases {l : List UInt8} (h : isN l = true) : 0 < cnt 2 l ∧ cnt 14 l = l.length ∧ l.length ≤ 16 ∧ isW l = false := by
 unfold isN at h
 simp only [Bool.and_eq_true, decide_eq_true_eq, Bool.not_eq_true'] at h
 exact ⟨h.1, h.2.1, h.2.2.1, h.2.2.2⟩
theorem scanAt_single {l : List UInt8} {a n k p m : Nat} (h : scanAt l a n = .ok [(k, p, m)]) : p = a ∧ tok l = (k, m) := by
 by_cases h0 : l.length = 0
 ·rw [scanAt_end l a n h0] at h; cases h
 ·by_cases hk : (tok l).1 = 0
  ·rw [scanAt_bad l a n h0 hk] at h; cases h
  ·by_cases hn : n = 2048
   ·subst hn; rw [scanAt_full l a h0 hk] at h; cases h
   ·rw [scanAt, if_neg h0, dif_neg hk, if_neg hn] at h
    split at h
    ·cases h
     exact ⟨rfl, rfl⟩
    ·cases h
end Go.Proofs.YtknoibocpbfmmaaGreatDoor



namespace Go.Proofs.YtknoibocpbfmmaaGreatDoor
set_option linter.unusedVariables false
set_option linter.unusedSimpArgs false
/-- What tokens a list is made of: their kinds and texts. -/
inductive Lx : List UInt8 → List (Nat × List UInt8) → Prop
 | nil {l : List UInt8} (h : l.drop (cnt 1 l) = []) : Lx l []
 | cons {l l' : List UInt8} {k n : Nat} {ts : List (Nat × List UInt8)} (e : l.drop (cnt 1 l) = l') (h : tok l' = (k, n)) (hk : k ≠ 0) (r : Lx (l'.drop n) ts) : Lx l ((k, l'.take n) :: ts)
theorem tok_nil : tok [] = (0, 0) := by decide +kernel
theorem Lx.det {l : List UInt8} {ts us : List (Nat × List UInt8)} (h : Lx l ts) (k : Lx l us) : ts = us := by
 induction h generalizing us with
 | nil h =>
  cases k with
  | nil => rfl
  | cons e h2 hk r => rw [h] at e; subst e; rw [tok_nil] at h2; exact absurd (by cases h2; rfl) hk
 | cons e h hk r ih =>
  cases k with
  | nil h2 => rw [h2] at e; subst e; rw [tok_nil] at h; exact absurd (by cases h; rfl) hk
  | cons e2 h2 hk2 r2 =>
   rw [e] at e2; subst e2
   rw [h] at h2; cases h2
   rw [ih r2]
/-- What a scan tells is what a list is made of. -/
theorem scanAt_Lx : ∀ (t : List (Nat × Nat × Nat)) (L l l' : List UInt8) (a n : Nat), l.drop (cnt 1 l) = l' → L.drop a = l' → scanAt l' a n = .ok t → Lx l (t.map fun x => (x.1, (L.drop x.2.1).take x.2.2))
 | t, L, l, l', a, n, el, eL, h => by
  by_cases h0 : l'.length = 0
  ·rw [scanAt_end l' a n h0] at h
   have := Except.ok.inj h
   subst this
   exact .nil (el.trans (List.eq_nil_of_length_eq_zero h0))
  by_cases hk : (tok l').1 = 0
  ·rw [scanAt_bad l' a n h0 hk] at h; cases h
  by_cases hn : n = 2048
  ·subst hn; rw [scanAt_full l' a h0 hk] at h; cases h
  rw [scanAt, if_neg h0, dif_neg hk, if_neg hn] at h
  have hp := tok_pos hk
  have hlt : ((l'.drop (tok l').2).drop (cnt 1 (l'.drop (tok l').2))).length < l'.length := by rw [List.length_drop, List.length_drop]; omega
  cases hr : scanAt ((l'.drop (tok l').2).drop (cnt 1 (l'.drop (tok l').2))) (a + (tok l').2 + cnt 1 (l'.drop (tok l').2)) (n + 1) with
  | error e => rw [hr] at h; cases h
  | ok r =>
   rw [hr] at h
   have h2 := Except.ok.inj h
   subst h2
   have ih := scanAt_Lx r L (l'.drop (tok l').2) _ (a + (tok l').2 + cnt 1 (l'.drop (tok l').2)) (n + 1) rfl (by rw [← eL, List.drop_drop, List.drop_drop, Nat.add_assoc]) hr
   simp only [List.map_cons]
   rw [eL]
   exact .cons el rfl hk ih
 termination_by t L l l' => l'.length
theorem scanL_Lx {l : List UInt8} {t : List (Nat × Nat × Nat)} (h : scanL l = .ok t) : Lx l (t.map fun x => (x.1, (l.drop x.2.1).take x.2.2)) := by
 unfold scanL at h
 split at h
 ·cases h
 ·exact scanAt_Lx t l l _ _ 0 rfl rfl h
/-- A text that is made of some tokens, whatever of a kind stands behind it. -/
def Tox (T : List UInt8) (ts : List (Nat × List UInt8)) (C : List UInt8 → Prop) : Prop := ∀ r ks, C r → Lx r ks → Lx (T ++ r) (ts ++ ks)
theorem Tox.app {T U : List UInt8} {ts us : List (Nat × List UInt8)} {C D : List UInt8 → Prop} (h : Tox T ts C) (k : Tox U us D) (hc : ∀ r, D r → C (U ++ r)) : Tox (T ++ U) (ts ++ us) D := fun r ks c x => by
 rw [List.append_assoc, List.append_assoc]
 exact h _ _ (hc r c) (k r ks c x)
theorem Tox.weak {T : List UInt8} {ts : List (Nat × List UInt8)} {C D : List UInt8 → Prop} (h : Tox T ts C) (hc : ∀ r, D r → C r) : Tox T ts D := fun r ks c x => h r ks (hc r c) x
abbrev Any8 : List UInt8 → Prop := fun _ => True
theorem lx_blank {b : UInt8} (hb : kb b.toNat = 1) {r : List UInt8} {ks : List (Nat × List UInt8)} (h : Lx r ks) : Lx (b :: r) ks := by
 have e : (b :: r).drop (cnt 1 (b :: r)) = r.drop (cnt 1 r) := by
  have : cnt 1 (b :: r) = cnt 1 r + 1 := by
   show (if kb b.toNat &&& 1 = 0 then 0 else cnt 1 r + 1) = cnt 1 r + 1
   rw [if_neg (by rw [hb]; decide)]
  rw [this, List.drop_succ_cons]
 cases h with
 | nil h => exact .nil (e.trans h)
 | cons e2 h hk r => exact .cons (e.trans e2) h hk r
theorem lt_blank {b : UInt8} (hb : kb b.toNat = 1) : Tox [b] [] Any8 := fun r ks _ h => lx_blank hb h
theorem lt_32 : Tox [32] [] Any8 := lt_blank (by decide)
theorem lt_10 : Tox [10] [] Any8 := lt_blank (by decide)
theorem lt_nil : Tox [] [] Any8 := fun r ks _ h => h
theorem lx_tok {T : List UInt8} {k : Nat} (hk : k ≠ 0) {r : List UInt8} (h0 : cnt 1 (T ++ r) = 0) (h : tok (T ++ r) = (k, T.length)) {ks : List (Nat × List UInt8)} (x : Lx r ks) : Lx (T ++ r) ((k, T) :: ks) := by
 have := Lx.cons (l := T ++ r) (l' := T ++ r) (k := k) (n := T.length) (ts := ks) (by rw [h0, List.drop_zero]) h hk (by rw [List.drop_left]; exact x)
 rwa [List.take_left] at this
/-- A list whose first byte breaks a name and a number, and is no =. -/
def Br (r : List UInt8) : Prop := ∀ b, r.head? = some b → kb b.toNat &&& 14 = 0 ∧ b ≠ 46 ∧ b ≠ 61
/-- A list that does not begin with =. -/
def Nq (r : List UInt8) : Prop := ∀ b, r.head? = some b → b ≠ 61
theorem Br.nq {r : List UInt8} (h : Br r) : Nq r := fun b hb => (h b hb).2.2
theorem cnt_app_of {m : Nat} {T r : List UInt8} (hT : cnt m T = T.length) (hr : cnt m r = 0) : cnt m (T ++ r) = T.length := by
 induction T with
 | nil => simpa using hr
 | cons b T ih =>
  rw [List.cons_append]
  unfold cnt at hT ⊢
  split at hT
  ·simp at hT
  ·rename_i c
   rw [if_neg c, List.length_cons, ih (by simpa using hT)]
theorem cnt_zero_of {m : Nat} {r : List UInt8} (h : ∀ b, r.head? = some b → kb b.toNat &&& m = 0) : cnt m r = 0 := by
 cases r with
 | nil => rfl
 | cons b r => unfold cnt; rw [if_pos (h b rfl)]
theorem cnt_pos_app {m : Nat} {T : List UInt8} (h : 0 < cnt m T) (r : List UInt8) : 0 < cnt m (T ++ r) := by
 cases T with
 | nil => simp [cnt] at h
 | cons b T => rw [List.cons_append]; exact (cnt_head m b T (T ++ r)).1 h
theorem cnt1_of_pos {m : Nat} (hm : 1 &&& m = 0) {T : List UInt8} (h : 0 < cnt m T) (r : List UInt8) : cnt 1 (T ++ r) = 0 := by
 cases T with
 | nil => simp [cnt] at h
 | cons b T =>
  unfold cnt at h
  split at h
  ·cases h
  ·rename_i c
   rw [List.cons_append]
   unfold cnt
   rw [if_pos]
   rcases kb_five b.toNat with e | e | e | e | e
   ·rw [e] at c; exact absurd hm c
   all_goals rw [e]; decide
theorem lt_won {T : List UInt8} {k : Nat} (h2 : 0 < cnt 2 T) (h14 : cnt 14 T = T.length) (h : wonL T = (k, T.length)) (hk : k ≠ 0) : Tox T [(k, T)] Br := fun r ks c x => by
 have z := cnt_app_of h14 (cnt_zero_of fun b hb => (c b hb).1)
 refine lx_tok hk (cnt1_of_pos (by decide) h2 r) ?_ x
 unfold tok
 rw [if_pos (cnt_pos_app h2 r), ← h]
 unfold wonL
 rw [z, h14, List.take_left, List.take_length]
theorem lt_name {T : List UInt8} (h : isN T = true) : Tox T [(1, T)] Br := by
 obtain ⟨h2, h14, _, hw⟩ := isN_cases h
 refine lt_won h2 h14 ?_ (by decide)
 unfold wonL
 rw [h14, List.take_length, hw, h]; rfl
theorem lt_word {T : List UInt8} (h : isW T = true) : Tox T [(2, T)] Br := by
 obtain ⟨h2, h14, _⟩ := isW_cases h
 refine lt_won h2 h14 ?_ (by decide)
 unfold wonL
 rw [h14, List.take_length, h]; rfl
theorem kb_14 {b : UInt8} (h : kb b.toNat &&& 14 = 0) : kb b.toNat &&& 4 = 0 := by
 rcases kb_five b.toNat with e | e | e | e | e <;> rw [e] at h ⊢ <;> first | decide | (exact absurd h (by decide))
theorem cnt4_app {T r : List UInt8} (h : cnt 4 T < T.length) : cnt 4 (T ++ r) = cnt 4 T := by
 induction T with
 | nil => simp at h
 | cons b T ih =>
  rw [List.cons_append]
  unfold cnt at h ⊢
  split
  ·rfl
  ·rename_i c
   rw [if_neg c] at h
   rw [ih (by simpa using h)]
theorem lt_num {T : List UInt8} {k : Nat} (hk : k = 3 ∨ k = 4) (h : tok T = (k, T.length)) (h0 : T ≠ []) : Tox T [(k, T)] Br := fun r ks c x => by
 have n2 : ¬ 0 < cnt 2 T := fun h2 => by
  unfold tok at h; rw [if_pos h2] at h
  unfold wonL at h
  split at h
  ·have := (Prod.mk.inj h).1; omega
  ·split at h
   ·have := (Prod.mk.inj h).1; omega
   ·have := (Prod.mk.inj h).1; omega
 have n4 : 0 < cnt 4 T := by
  rcases Nat.eq_zero_or_pos (cnt 4 T) with e | e
  ·unfold tok at h; rw [if_neg n2, if_neg (by omega)] at h
   split at h
   ·have := (Prod.mk.inj h).1; omega
   ·have := (Prod.mk.inj h).1; omega
  ·exact e
 have n2' : ¬ 0 < cnt 2 (T ++ r) := fun h2 => n2 (by
  cases T with
  | nil => exact absurd rfl h0
  | cons b T => exact (cnt_head 2 b T (T ++ r)).2 h2)
 refine lx_tok (by omega) (cnt1_of_pos (by decide) n4 r) ?_ x
 unfold tok at h ⊢
 rw [if_neg n2, if_pos n4] at h
 rw [if_neg n2', if_pos (cnt_pos_app n4 r), ← h]
 have z : cnt 4 r = 0 := cnt_zero_of fun b hb => kb_14 (c b hb).1
 by_cases hf : cnt 4 T = T.length
 ·unfold iorL
  rw [cnt_app_of hf z, hf]
  rw [if_neg (fun q => by
   have q1 := q.1
   rw [List.getElem?_append_right (Nat.le_refl _), Nat.sub_self] at q1
   cases r with
   | nil => cases q1
   | cons b r => simp at q1; exact (c b rfl).2.1 q1), if_neg (fun q => by
   have q1 := q.1
   rw [List.getElem?_eq_none (Nat.le_refl _)] at q1; cases q1)]
 ·have lt : cnt 4 T < T.length := by have := cnt_le 4 T; omega
  unfold iorL at h
  split at h
  ·rename_i q
   have e2 : cnt 4 T + 1 + cnt 4 (T.drop (cnt 4 T + 1)) = T.length := (Prod.mk.inj h).2
   unfold iorL
   have e4 : cnt 4 ((T ++ r).drop (cnt 4 T + 1)) = cnt 4 (T.drop (cnt 4 T + 1)) := by
    rw [List.drop_append_of_le_length (by omega), cnt_app_of (by rw [List.length_drop]; omega) z, List.length_drop]; omega
   rw [cnt4_app lt, e4, if_pos ⟨by rw [List.getElem?_append_left lt]; exact q.1, q.2⟩, if_pos q]
  ·have := (Prod.mk.inj h).2; omega
/-- A sign of one byte, ahead of what makes no sign of two with it. -/
theorem tok_s1 {c : UInt8} (h : isS1 c.toNat = true) {r : List UInt8} (hr : ∀ b, r.head? = some b → isS2 [c, b] = false) : cnt 1 (c :: r) = 0 ∧ tok (c :: r) = (5, 1) := by
 have hc : kb c.toNat = 16 := by
  unfold isS1 at h
  simp only [Bool.or_eq_true, beq_iff_eq] at h
  have : c.toNat = 43 ∨ c.toNat = 45 ∨ c.toNat = 42 ∨ c.toNat = 47 ∨ c.toNat = 40 ∨ c.toNat = 41 ∨ c.toNat = 91 ∨ c.toNat = 93 ∨ c.toNat = 123 ∨ c.toNat = 125 ∨ c.toNat = 59 ∨ c.toNat = 44 ∨ c.toNat = 61 ∨ c.toNat = 60 ∨ c.toNat = 62 ∨ c.toNat = 33 := by omega
  rcases this with e | e | e | e | e | e | e | e | e | e | e | e | e | e | e | e <;> (rw [e]; decide)
 have z : ∀ m : Nat, 16 &&& m = 0 → cnt m (c :: r) = 0 := fun m hm => by unfold cnt; rw [if_pos (by rw [hc]; exact hm)]
 refine ⟨z 1 (by decide), ?_⟩
 have s : sgnN (c :: r) = 1 := by
  unfold sgnN
  rw [if_neg, if_pos ⟨by simp, by simpa using h⟩]
  rintro ⟨h1, h2⟩
  cases r with
  | nil => simp at h1
  | cons b r => simp only [List.take_succ_cons, List.take_zero] at h2; rw [hr b rfl] at h2; cases h2
 unfold tok
 rw [z 2 (by decide), z 4 (by decide), s]; rfl
theorem lt_s1 {c : UInt8} (h : isS1 c.toNat = true) {C : List UInt8 → Prop} (hC : ∀ r, C r → ∀ b, r.head? = some b → isS2 [c, b] = false) : Tox [c] [(5, [c])] C := fun r ks cr x =>
 lx_tok (T := [c]) (by decide) (tok_s1 h (hC r cr)).1 (tok_s1 h (hC r cr)).2 x
theorem tok_s2 {c d : UInt8} (h : isS2 [c, d] = true) (hc : kb c.toNat = 16) (r : List UInt8) : cnt 1 (c :: d :: r) = 0 ∧ tok (c :: d :: r) = (5, 2) := by
 have z : ∀ m : Nat, 16 &&& m = 0 → cnt m (c :: d :: r) = 0 := fun m hm => by unfold cnt; rw [if_pos (by rw [hc]; exact hm)]
 refine ⟨z 1 (by decide), ?_⟩
 have s : sgnN (c :: d :: r) = 2 := by
  unfold sgnN
  rw [if_pos ⟨by simp, by simpa using h⟩]
 unfold tok
 rw [z 2 (by decide), z 4 (by decide), s]; rfl
theorem lt_s2 {c d : UInt8} (h : isS2 [c, d] = true) (hc : kb c.toNat = 16) : Tox [c, d] [(5, [c, d])] Any8 := fun r ks cr x =>
 lx_tok (T := [c, d]) (by decide) (tok_s2 h hc r).1 (tok_s2 h hc r).2 x
end Go.Proofs.YtknoibocpbfmmaaGreatDoor



namespace Go.Proofs.YtknoibocpbfmmaaGreatDoor
set_option linter.unusedVariables false
set_option linter.unusedSimpArgs false
theorem L_app (a b : ByteArray) : (a ++ b).data.toList = a.data.toList ++ b.data.toList := by simp
abbrev tSp : ByteArray := ⟨#[32]⟩
abbrev tAbp : ByteArray := ⟨#[97, 98, 115, 40]⟩
abbrev tSqp : ByteArray := ⟨#[115, 113, 114, 116, 40]⟩
/-- A kid's text: in ( ), if it is weaker than that level. -/
def kdT (lv : Int) (x : ByteArray × Int) : ByteArray := if (ofT x.2).2.2 < lv then tLp ++ x.1 ++ tRp else x.1
/-- Indexes' texts, behind what is there. -/
def ixT : List (ByteArray × Int) → ByteArray → ByteArray
 | [], a => a
 | x :: r, a => ixT r (a ++ (tLb ++ x.1 ++ tRb))
def kf0 {α : Type} (z : α) : List (α × Int) → α × Int
 | x :: _ => x
 | [] => (z, 0)
def kf1 {α : Type} (z : α) : List (α × Int) → α × Int
 | _ :: x :: _ => x
 | _ => (z, 0)
/-- An expression's text, by the texts of what stands in it. -/
def exTx (op : Int) (tx : ByteArray) (ty : Int) (ks : List (ByteArray × Int)) : ByteArray :=
 if op = 1 ∨ op = 2 ∨ op = 3 then tx ++ ixT ks tx0
 else if op = 4 then tMi ++ kdT 5 (kf0 tx0 ks)
 else if op = 20 then tNo ++ kdT 5 (kf0 tx0 ks)
 else if op = 5 then tAbp ++ (kf0 tx0 ks).1 ++ tRp
 else if op = 6 then tSqp ++ (kf0 tx0 ks).1 ++ tRp
 else if op = 7 then wdOf ty ++ tLp ++ (kf0 tx0 ks).1 ++ tRp
 else kdT (ofT op).2.2 (kf0 tx0 ks) ++ tSp ++ (ofT op).2.1 ++ tSp ++ kdT ((ofT op).2.2 + 1) (kf1 tx0 ks)
def foTx : Fo → List (ByteArray × Int)
 | .nil => []
 | .cons op tx ty ks r => (exTx op tx ty (foTx ks), op) :: foTx r
def exT (e : Ex) : ByteArray := exTx e.op e.tx e.ty (foTx e.ks)
/-- A token without its place. -/
abbrev Kt := Nat × ByteArray
def kdK (lv : Int) (x : List Kt × Int) : List Kt := if (ofT x.2).2.2 < lv then (5, tLp) :: (x.1 ++ [(5, tRp)]) else x.1
/-- An expression's tokens. -/
def exKx (op : Int) (tx : ByteArray) (ty : Int) (ks : List (List Kt × Int)) : List Kt :=
 if op = 1 then [((tok tx.data.toList).1, tx)]
 else if op = 2 then [(1, tx)]
 else if op = 3 then (1, tx) :: (5, tLb) :: ((kf0 [] ks).1 ++ [(5, tRb)])
 else if op = 4 then (5, tMi) :: kdK 5 (kf0 [] ks)
 else if op = 20 then (5, tNo) :: kdK 5 (kf0 [] ks)
 else if op = 5 then (2, tAb) :: (5, tLp) :: ((kf0 [] ks).1 ++ [(5, tRp)])
 else if op = 6 then (2, tSq) :: (5, tLp) :: ((kf0 [] ks).1 ++ [(5, tRp)])
 else if op = 7 then (2, wdOf ty) :: (5, tLp) :: ((kf0 [] ks).1 ++ [(5, tRp)])
 else kdK (ofT op).2.2 (kf0 [] ks) ++ (5, (ofT op).2.1) :: kdK ((ofT op).2.2 + 1) (kf1 [] ks)
def foKx : Fo → List (List Kt × Int)
 | .nil => []
 | .cons op tx ty ks r => (exKx op tx ty (foKx ks), op) :: foKx r
def exK (e : Ex) : List Kt := exKx e.op e.tx e.ty (foKx e.ks)
/-- Each expression has what its kind has. -/
def Fo.oks : Fo → Prop
 | .nil => True
 | .cons op tx ty ks r => exOk op tx ty ks.len = true ∧ ks.oks ∧ r.oks
theorem ru_oks : ∀ (f : Fo) (deep x y : Nat), ruF deep f x = some y → f.oks
 | .nil, _, _, _, _ => trivial
 | .cons op tx ty ks r, deep, x, y, h => by
  rw [ruF] at h
  split at h
  ·rename_i c
   simp only [Bool.and_eq_true] at c
   cases h1 : ruF (deep + 1) ks (x + 1) with
   | none => rw [h1] at h; cases h
   | some z =>
    rw [h1] at h
    exact ⟨c.2.2, ru_oks ks _ _ _ h1, ru_oks r _ _ _ h⟩
  ·cases h
/-- A kind's places and texts, one each. -/
theorem ok_cases {op : Int} {tx : ByteArray} {ty : Int} {n : Nat} (h : exOk op tx ty n = true) :
  op = 1 ∧ isNum tx = true ∧ ty = 0 ∧ n = 0 ∨ op = 2 ∧ isN tx.toList = true ∧ ty = 0 ∧ n = 0 ∨ op = 3 ∧ isN tx.toList = true ∧ ty = 0 ∧ n = 1 ∨ op = 7 ∧ tx = tx0 ∧ (1 ≤ ty ∧ ty ≤ 3) ∧ n = 1 ∨
  (op = 4 ∨ op = 20 ∨ op = 5 ∨ op = 6) ∧ tx = tx0 ∧ ty = 0 ∧ n = 1 ∨ (8 ≤ op ∧ op ≤ 19) ∧ tx = tx0 ∧ ty = 0 ∧ n = 2 := by
 unfold exOk at h
 by_cases c1 : op = 1
 ·rw [if_pos c1] at h; simp at h; exact Or.inl ⟨c1, h⟩
 rw [if_neg c1] at h
 by_cases c2 : op = 2
 ·rw [if_pos c2] at h; simp at h; exact Or.inr (Or.inl ⟨c2, h⟩)
 rw [if_neg c2] at h
 by_cases c3 : op = 3
 ·rw [if_pos c3] at h; simp at h; exact Or.inr (Or.inr (Or.inl ⟨c3, h⟩))
 rw [if_neg c3] at h
 by_cases c7 : op = 7
 ·rw [if_pos c7] at h; simp at h; exact Or.inr (Or.inr (Or.inr (Or.inl ⟨c7, h⟩)))
 rw [if_neg c7] at h
 by_cases c4 : op = 4 ∨ op = 20 ∨ op = 5 ∨ op = 6
 ·rw [if_pos c4] at h; simp at h; exact Or.inr (Or.inr (Or.inr (Or.inr (Or.inl ⟨c4, h⟩))))
 rw [if_neg c4] at h
 simp at h
 exact Or.inr (Or.inr (Or.inr (Or.inr (Or.inr h))))
theorem len1 {f : Fo} (h : f.len = 1) : ∃ a b c k, f = .cons a b c k .nil := by
 cases f with
 | nil => cases h
 | cons a b c k r =>
  cases r with
  | nil => exact ⟨a, b, c, k, rfl⟩
  | cons => simp [Fo.len] at h
theorem len2 {f : Fo} (h : f.len = 2) : ∃ a b c k a' b' c' k', f = .cons a b c k (.cons a' b' c' k' .nil) := by
 cases f with
 | nil => cases h
 | cons a b c k r =>
  obtain ⟨a', b', c', k', rfl⟩ := len1 (f := r) (by simp [Fo.len] at h ⊢; omega)
  exact ⟨a, b, c, k, a', b', c', k', rfl⟩
theorem len0 {f : Fo} (h : f.len = 0) : f = .nil := by
 cases f with
 | nil => rfl
 | cons a b c k r => simp [Fo.len] at h
/-- A number's text is one token. -/
theorem num_tok {s : ByteArray} (h : isNum s = true) : ∃ k, (k = 3 ∨ k = 4) ∧ tok s.data.toList = (k, s.data.toList.length) ∧ s.data.toList ≠ [] := by
 unfold isNum at h
 split at h
 ·rename_i k a n hs
  simp only [Bool.and_eq_true, decide_eq_true_eq, Bool.or_eq_true, beq_iff_eq] at h
  obtain ⟨he, hk⟩ := h
  unfold scanL at hs
  split at hs
  ·cases hs
  obtain ⟨ep, ht⟩ := scanAt_single hs
  have e2 := congrArg (fun x : ByteArray => x.toList.length) he
  simp only [toL_cut, List.length_drop, List.length_take] at e2
  have n1 := tok_le (s.toList.drop (cnt 1 s.toList))
  have n0 := tok_pos (l := s.toList.drop (cnt 1 s.toList)) (by rw [ht]; show k ≠ 0; omega)
  rw [ht] at n1 n0
  simp only [List.length_drop] at n1 n0
  have a0 : a = 0 := by omega
  have c0 : cnt 1 s.toList = 0 := by omega
  rw [c0, List.drop_zero] at ht
  rw [c0] at n1
  have nl : n = s.toList.length := by omega
  rw [toL] at ht nl
  exact ⟨k, hk, by rw [ht, nl], fun e => by rw [toL, e] at n1; simp at n1; omega⟩
 ·cases h
end Go.Proofs.YtknoibocpbfmmaaGreatDoor



namespace Go.Proofs.YtknoibocpbfmmaaGreatDoor
set_option linter.unusedVariables false
set_option linter.unusedSimpArgs false
def AllX (P : Int → ByteArray → Int → Fo → Prop) : Fo → Prop
 | .nil => True
 | .cons op tx ty ks r => P op tx ty ks ∧ AllX P r
theorem allX_of {P : Int → ByteArray → Int → Fo → Prop} (step : ∀ op tx ty ks, exOk op tx ty ks.len = true → ks.oks → AllX P ks → P op tx ty ks) : ∀ f : Fo, f.oks → AllX P f
 | .nil, _ => trivial
 | .cons op tx ty ks r, h => ⟨step op tx ty ks h.1 h.2.1 (allX_of step ks h.2.1), allX_of step r h.2.2⟩
def kL (ks : List Kt) : List (Nat × List UInt8) := ks.map (fun x => (x.1, x.2.data.toList))
theorem kL_app (a b : List Kt) : kL (a ++ b) = kL a ++ kL b := List.map_append
/-- A text is those tokens, wherever a number or a name may end, and begins with no =. -/
def Rd (t : ByteArray) (k : List Kt) : Prop := Tox t.data.toList (kL k) Br ∧ ∃ b l, t.data.toList = b :: l ∧ b ≠ 61
theorem br_of {b : UInt8} (h : kb b.toNat &&& 14 = 0 ∧ b ≠ 46 ∧ b ≠ 61) (r : List UInt8) : Br (b :: r) := fun c hc => by cases hc; exact h
theorem br_rp (r : List UInt8) : Br (41 :: r) := br_of (by decide) r
theorem br_rb (r : List UInt8) : Br (93 :: r) := br_of (by decide) r
theorem br_lb (r : List UInt8) : Br (91 :: r) := br_of (by decide) r
theorem br_lp (r : List UInt8) : Br (40 :: r) := br_of (by decide) r
theorem br_sp (r : List UInt8) : Br (32 :: r) := br_of (by decide) r
theorem br_se (r : List UInt8) : Br (59 :: r) := br_of (by decide) r
theorem br_co (r : List UInt8) : Br (44 :: r) := br_of (by decide) r
theorem s2_no {c b : UInt8} (h : c ≠ 61 ∧ c ≠ 33 ∧ c ≠ 60 ∧ c ≠ 62 ∧ c ≠ 38 ∧ c ≠ 124) : isS2 [c, b] = false := by
 unfold isS2
 simp [h.1, h.2.1, h.2.2.1, h.2.2.2.1, h.2.2.2.2.1, h.2.2.2.2.2]
theorem lt_lp : Tox [40] [(5, [40])] Any8 := lt_s1 (by decide) fun _ _ _ _ => s2_no (by decide)
theorem lt_rp : Tox [41] [(5, [41])] Any8 := lt_s1 (by decide) fun _ _ _ _ => s2_no (by decide)
theorem lt_lb : Tox [91] [(5, [91])] Any8 := lt_s1 (by decide) fun _ _ _ _ => s2_no (by decide)
theorem lt_rb : Tox [93] [(5, [93])] Any8 := lt_s1 (by decide) fun _ _ _ _ => s2_no (by decide)
theorem lt_lc : Tox [123] [(5, [123])] Any8 := lt_s1 (by decide) fun _ _ _ _ => s2_no (by decide)
theorem lt_rc : Tox [125] [(5, [125])] Any8 := lt_s1 (by decide) fun _ _ _ _ => s2_no (by decide)
theorem lt_se : Tox [59] [(5, [59])] Any8 := lt_s1 (by decide) fun _ _ _ _ => s2_no (by decide)
theorem lt_co : Tox [44] [(5, [44])] Any8 := lt_s1 (by decide) fun _ _ _ _ => s2_no (by decide)
theorem lt_mi : Tox [45] [(5, [45])] Any8 := lt_s1 (by decide) fun _ _ _ _ => s2_no (by decide)
theorem lt_no : Tox [33] [(5, [33])] Nq := lt_s1 (by decide) fun r hr b hb => by
 have := hr b hb
 unfold isS2
 simp [this]
/-- A text that ends with a sign, behind one that is broken by it. -/
theorem Tox.sign {T : List UInt8} {ts : List (Nat × List UInt8)} (h : Tox T ts Br) {c : UInt8} {us : List (Nat × List UInt8)} (k : Tox [c] us Any8) (hc : ∀ r, Br (c :: r)) : Tox (T ++ [c]) (ts ++ us) Any8 := h.app k fun r _ => hc r
theorem rd_par {t : ByteArray} {k : List Kt} (h : Rd t k) : Rd (tLp ++ t ++ tRp) ((5, tLp) :: (k ++ [(5, tRp)])) := by
 refine ⟨?_, 40, t.data.toList ++ [41], by simp [L_app], by decide⟩
 have := (lt_lp.app (h.1.sign lt_rp br_rp) (fun _ _ => trivial)).weak (D := Br) fun _ _ => trivial
 simpa [L_app, kL] using this
theorem rd_kid {t : ByteArray} {k : List Kt} (h : Rd t k) (lv o : Int) : Rd (kdT lv (t, o)) (kdK lv (k, o)) := by
 unfold kdT kdK
 split
 ·exact rd_par h
 ·exact h
theorem nq_app {t : ByteArray} (h : ∃ b l, t.data.toList = b :: l ∧ b ≠ 61) (r : List UInt8) : Nq (t.data.toList ++ r) := by
 obtain ⟨b, l, e, hb⟩ := h
 rw [e]
 intro c hc
 cases hc; exact hb
theorem op_range {op : Int} (h : 8 ≤ op ∧ op ≤ 19) : op = 8 ∨ op = 9 ∨ op = 10 ∨ op = 11 ∨ op = 12 ∨ op = 13 ∨ op = 14 ∨ op = 15 ∨ op = 16 ∨ op = 17 ∨ op = 18 ∨ op = 19 := by omega
/-- A blank, an operator, a blank. -/
theorem lt_op {op : Int} (h : 8 ≤ op ∧ op ≤ 19) : Tox (tSp ++ (ofT op).2.1 ++ tSp).data.toList (kL [(5, (ofT op).2.1)]) Any8 := by
 have one : ∀ c : UInt8, isS1 c.toNat = true → isS2 [c, 32] = false → Tox ([32] ++ ([c] ++ [32])) [(5, [c])] Any8 := fun c h1 h2 => by
  have := lt_32.app ((lt_s1 (C := fun r => r.head? = some 32) h1 (fun r hr b hb => by rw [hr] at hb; cases hb; exact h2)).app lt_32 (fun r _ => rfl)) (fun _ _ => trivial)
  simpa using this
 have two : ∀ c d : UInt8, isS2 [c, d] = true → kb c.toNat = 16 → Tox ([32] ++ ([c, d] ++ [32])) [(5, [c, d])] Any8 := fun c d h1 h2 => by
  have := lt_32.app ((lt_s2 h1 h2).app lt_32 (fun _ _ => trivial)) (fun _ _ => trivial)
  simpa using this
 rcases op_range h with rfl | rfl | rfl | rfl | rfl | rfl | rfl | rfl | rfl | rfl | rfl | rfl
 ·exact one 43 (by decide) (by decide)
 ·exact one 45 (by decide) (by decide)
 ·exact one 42 (by decide) (by decide)
 ·exact one 47 (by decide) (by decide)
 ·exact one 60 (by decide) (by decide)
 ·exact two 60 61 (by decide) (by decide)
 ·exact one 62 (by decide) (by decide)
 ·exact two 62 61 (by decide) (by decide)
 ·exact two 61 61 (by decide) (by decide)
 ·exact two 33 61 (by decide) (by decide)
 ·exact two 38 38 (by decide) (by decide)
 ·exact two 124 124 (by decide) (by decide)
theorem rd_call {w t : ByteArray} {k : List Kt} (hw : isW w.data.toList = true) (h : Rd t k) : Rd (w ++ tLp ++ t ++ tRp) ((2, w) :: (5, tLp) :: (k ++ [(5, tRp)])) := by
 obtain ⟨h2, _⟩ := isW_cases hw
 have z := (rd_par h).1
 constructor
 ·have := (lt_word hw).app z (fun r hr => by
   simp only [L_app]
   exact br_lp _)
  simpa [L_app, kL] using this
 ·obtain ⟨b, l, e⟩ : ∃ b l, w.data.toList = b :: l := by
   cases c : w.data.toList with
   | nil => rw [c] at h2; cases h2
   | cons b l => exact ⟨b, l, rfl⟩
  refine ⟨b, l ++ 40 :: (t.data.toList ++ [41]), by simp [L_app, e], fun q => ?_⟩
  subst q
  rw [e] at h2
  unfold cnt at h2
  rw [if_pos (by decide)] at h2
  cases h2
theorem name_head {s : ByteArray} (h : isN s.data.toList = true) : ∃ b l, s.data.toList = b :: l ∧ b ≠ 61 := by
 obtain ⟨h2, _⟩ := isN_cases h
 cases c : s.data.toList with
 | nil => rw [c] at h2; cases h2
 | cons b l =>
  refine ⟨b, l, rfl, fun q => ?_⟩
  subst q
  rw [c] at h2
  unfold cnt at h2
  rw [if_pos (by decide)] at h2
  cases h2
theorem rd_all : ∀ f : Fo, f.oks → AllX (fun op tx ty ks => Rd (exTx op tx ty (foTx ks)) (exKx op tx ty (foKx ks))) f := allX_of fun op tx ty ks hk ho ih => by
 rcases ok_cases hk with ⟨rfl, hn, rfl, h0⟩ | ⟨rfl, hn, rfl, h0⟩ | ⟨rfl, hn, rfl, h1⟩ | ⟨rfl, rfl, ht, h1⟩ | ⟨hop, rfl, rfl, h1⟩ | ⟨hop, rfl, rfl, h2⟩
 ·obtain rfl := len0 h0
  obtain ⟨k, hk, ht, h0⟩ := num_tok hn
  have e : exTx 1 tx 0 (foTx .nil) = tx ++ tx0 := rfl
  have e2 : exKx 1 tx 0 (foKx .nil) = [((tok tx.data.toList).1, tx)] := rfl
  rw [e, e2, ht]
  refine ⟨by simpa [L_app, kL] using lt_num hk ht h0, ?_⟩
  cases c : tx.data.toList with
  | nil => exact absurd c h0
  | cons b l =>
   refine ⟨b, l, by simp [L_app, c], fun q => ?_⟩
   subst q
   rw [c] at ht
   have n1 : tok (61 :: l) = (5, sgnN (61 :: l)) := by
    unfold tok
    have z : ∀ m : Nat, 16 &&& m = 0 → cnt m (61 :: l) = 0 := fun m hm => by unfold cnt; rw [if_pos (by rw [show kb (61 : UInt8).toNat = 16 by decide]; exact hm)]
    rw [z 2 (by decide), z 4 (by decide), if_neg (by decide), if_neg (by decide), if_pos]
    unfold sgnN
    split
    ·decide
    ·rw [if_pos ⟨by simp, by show isS1 ((61 : UInt8).toNat : Int) = true; decide⟩]; decide
   rw [n1] at ht
   have := (Prod.mk.inj ht).1
   omega
 ·obtain rfl := len0 h0
  rw [toL] at hn
  have e : exTx 2 tx 0 (foTx .nil) = tx ++ tx0 := rfl
  have e2 : exKx 2 tx 0 (foKx .nil) = [(1, tx)] := rfl
  rw [e, e2]
  obtain ⟨b, l, q, hb⟩ := name_head hn
  exact ⟨by simpa [L_app, kL] using lt_name hn, b, l, by simp [L_app, q], hb⟩
 ·obtain ⟨a, b, c, k, rfl⟩ := len1 h1
  rw [toL] at hn
  have h := ih.1
  have e : exTx 3 tx 0 (foTx (.cons a b c k .nil)) = tx ++ (tx0 ++ (tLb ++ exTx a b c (foTx k) ++ tRb)) := rfl
  have e2 : exKx 3 tx 0 (foKx (.cons a b c k .nil)) = (1, tx) :: (5, tLb) :: (exKx a b c (foKx k) ++ [(5, tRb)]) := rfl
  rw [e, e2]
  obtain ⟨b', l, q, hb⟩ := name_head hn
  refine ⟨?_, b', l ++ _, by rw [L_app, q, List.cons_append], hb⟩
  have := ((lt_name hn).app (lt_lb.app (h.1.sign lt_rb br_rb) (fun _ _ => trivial)) (fun r _ => br_lb _)).weak (D := Br) fun _ _ => trivial
  simpa [L_app, kL] using this
 ·obtain ⟨a, b, c, k, rfl⟩ := len1 h1
  have h := ih.1
  have e : exTx 7 tx0 ty (foTx (.cons a b c k .nil)) = wdOf ty ++ tLp ++ exTx a b c (foTx k) ++ tRp := rfl
  have e2 : exKx 7 tx0 ty (foKx (.cons a b c k .nil)) = (2, wdOf ty) :: (5, tLp) :: (exKx a b c (foKx k) ++ [(5, tRp)]) := rfl
  rw [e, e2]
  exact rd_call (by rcases (show ty = 1 ∨ ty = 2 ∨ ty = 3 by omega) with rfl | rfl | rfl <;> decide) h
 ·obtain ⟨a, b, c, k, rfl⟩ := len1 h1
  have h := ih.1
  rcases hop with rfl | rfl | rfl | rfl
  ·have h2 := rd_kid h 5 a
   have e : exTx 4 tx0 0 (foTx (.cons a b c k .nil)) = tMi ++ kdT 5 (exTx a b c (foTx k), a) := rfl
   have e2 : exKx 4 tx0 0 (foKx (.cons a b c k .nil)) = (5, tMi) :: kdK 5 (exKx a b c (foKx k), a) := rfl
   rw [e, e2]
   exact ⟨by simpa [L_app, kL] using lt_mi.app h2.1 (fun _ _ => trivial), 45, _, by rw [L_app]; rfl, by decide⟩
  ·have h2 := rd_kid h 5 a
   have e : exTx 20 tx0 0 (foTx (.cons a b c k .nil)) = tNo ++ kdT 5 (exTx a b c (foTx k), a) := rfl
   have e2 : exKx 20 tx0 0 (foKx (.cons a b c k .nil)) = (5, tNo) :: kdK 5 (exKx a b c (foKx k), a) := rfl
   rw [e, e2]
   exact ⟨by simpa [L_app, kL] using lt_no.app h2.1 (fun r _ => nq_app h2.2 r), 33, _, by rw [L_app]; rfl, by decide⟩
  ·have e : exTx 5 tx0 0 (foTx (.cons a b c k .nil)) = tAb ++ tLp ++ exTx a b c (foTx k) ++ tRp := rfl
   have e2 : exKx 5 tx0 0 (foKx (.cons a b c k .nil)) = (2, tAb) :: (5, tLp) :: (exKx a b c (foKx k) ++ [(5, tRp)]) := rfl
   rw [e, e2]
   exact rd_call (by decide) h
  ·have e : exTx 6 tx0 0 (foTx (.cons a b c k .nil)) = tSq ++ tLp ++ exTx a b c (foTx k) ++ tRp := rfl
   have e2 : exKx 6 tx0 0 (foKx (.cons a b c k .nil)) = (2, tSq) :: (5, tLp) :: (exKx a b c (foKx k) ++ [(5, tRp)]) := rfl
   rw [e, e2]
   exact rd_call (by decide) h
 ·obtain ⟨a, b, c, k, a', b', c', k', rfl⟩ := len2 h2
  have x := rd_kid ih.1 (ofT op).2.2 a
  have y := rd_kid ih.2.1 ((ofT op).2.2 + 1) a'
  have nn : ¬ (op = 1 ∨ op = 2 ∨ op = 3) ∧ ¬ op = 4 ∧ ¬ op = 20 ∧ ¬ op = 5 ∧ ¬ op = 6 ∧ ¬ op = 7 := by omega
  have e : exTx op tx0 0 (foTx (.cons a b c k (.cons a' b' c' k' .nil))) = kdT (ofT op).2.2 (exTx a b c (foTx k), a) ++ tSp ++ (ofT op).2.1 ++ tSp ++ kdT ((ofT op).2.2 + 1) (exTx a' b' c' (foTx k'), a') := by
   unfold exTx
   rw [if_neg nn.1, if_neg nn.2.1, if_neg nn.2.2.1, if_neg nn.2.2.2.1, if_neg nn.2.2.2.2.1, if_neg nn.2.2.2.2.2]; rfl
  have e2 : exKx op tx0 0 (foKx (.cons a b c k (.cons a' b' c' k' .nil))) = kdK (ofT op).2.2 (exKx a b c (foKx k), a) ++ (5, (ofT op).2.1) :: kdK ((ofT op).2.2 + 1) (exKx a' b' c' (foKx k'), a') := by
   unfold exKx
   rw [if_neg (by omega), if_neg (by omega), if_neg (by omega), if_neg nn.2.1, if_neg nn.2.2.1, if_neg nn.2.2.2.1, if_neg nn.2.2.2.2.1, if_neg nn.2.2.2.2.2]; rfl
  rw [e, e2]
  obtain ⟨b1, l1, q, hb⟩ := x.2
  refine ⟨?_, b1, l1 ++ _, by simp only [L_app, q, List.cons_append, List.append_assoc]; rfl, hb⟩
  have := x.1.app ((lt_op hop).app y.1 (fun _ _ => trivial)) (fun r _ => by
   simp only [L_app]
   exact br_sp _)
  simpa [L_app, kL] using this
theorem rd_ex {e : Ex} (h : (e.row .nil).oks) : Rd (exT e) (exK e) := (rd_all _ h).1
end Go.Proofs.YtknoibocpbfmmaaGreatDoor



