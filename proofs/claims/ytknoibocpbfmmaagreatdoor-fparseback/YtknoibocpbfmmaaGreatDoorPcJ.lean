/- What tokens are, at their places. -/
import Derived.Test.YtknoibocpbfmmaaGreatDoorPcH
import Derived.Test.YtknoibocpbfmmaaGreatDoorPcI
import Derived.Test.YtknoibocpbfmmaaGreatDoorFxTs
import Derived.Test.YtknoibocpbfmmaaGreatDoorPbS
namespace Go.Proofs.YtknoibocpbfmmaaGreatDoor
set_option linter.unusedVariables false
theorem scanAt_tok : ∀ (t : List (Nat × Nat × Nat)) (l : List UInt8) (a n : Nat), scanAt l a n = .ok t → ∀ x ∈ t, tok (l.drop (x.2.1 - a)) = (x.1, x.2.2)
  | t, l, a, n, h => by
    by_cases h0 : l.length = 0
    · rw [scanAt_end l a n h0] at h
      have := Except.ok.inj h
      subst this
      intro x hx; cases hx
    by_cases hk : (tok l).1 = 0
    · rw [scanAt_bad l a n h0 hk] at h; cases h
    by_cases hn : n = 2048
    · subst hn; rw [scanAt_full l a h0 hk] at h; cases h
    rw [scanAt, if_neg h0, dif_neg hk, if_neg hn] at h
    have hp := tok_pos hk
    have hlt : ((l.drop (tok l).2).drop (cnt 1 (l.drop (tok l).2))).length < l.length := by rw [List.length_drop, List.length_drop]; omega
    cases hr : scanAt ((l.drop (tok l).2).drop (cnt 1 (l.drop (tok l).2))) (a + (tok l).2 + cnt 1 (l.drop (tok l).2)) (n + 1) with
    | error e => rw [hr] at h; cases h
    | ok r =>
      rw [hr] at h
      have h2 := Except.ok.inj h
      subst h2
      intro x hx
      rcases List.mem_cons.1 hx with rfl | hx
      · simp only [Nat.sub_self, List.drop_zero]
      · have := scanAt_tok r _ _ _ hr x hx
        have j2 := (scanAt_kinds r _ _ _ hr x hx).2.1
        rw [List.drop_drop, List.drop_drop] at this
        rw [show x.2.1 - a = (tok l).2 + (cnt 1 (l.drop (tok l).2) + (x.2.1 - (a + (tok l).2 + cnt 1 (l.drop (tok l).2)))) by omega]
        exact this
  termination_by t l => l.length
theorem scanL_tok {l : List UInt8} {t : List (Nat × Nat × Nat)} (h : scanL l = .ok t) : ∀ x ∈ t, tok (l.drop x.2.1) = (x.1, x.2.2) := by
  unfold scanL at h
  split at h
  · cases h
  · intro x hx
    have j2 := (scanAt_kinds t _ _ _ h x hx).2.1
    have := scanAt_tok t _ _ _ h x hx
    rw [List.drop_drop, show cnt 1 l + (x.2.1 - cnt 1 l) = x.2.1 by omega] at this
    exact this
theorem cnt_all (m : Nat) : ∀ l : List UInt8, ∀ b ∈ l.take (cnt m l), ¬ (kb b.toNat &&& m = 0)
  | [], b, h => by simp at h
  | c :: t, b, h => by
    simp only [cnt] at h
    split at h
    · simp at h
    · rename_i q
      rw [List.take_succ_cons] at h
      rcases List.mem_cons.1 h with rfl | h
      · exact q
      · exact cnt_all m t b h
/-- An int's text is digits. -/
theorem tok_int {l : List UInt8} {n : Nat} (h : tok l = (3, n)) : l.take n ≠ [] ∧ ∀ b ∈ l.take n, 48 ≤ b.toNat ∧ b.toNat ≤ 57 := by
  unfold tok at h
  split at h
  · unfold wonL at h
    split at h
    · cases h
    · split at h <;> cases h
  · split at h
    · rename_i c
      unfold iorL at h
      split at h
      · cases h
      · obtain ⟨-, rfl⟩ := Prod.mk.inj h
        refine ⟨fun e => ?_, fun b hb => kb4 (kbn4 (cnt_all 4 l b hb))⟩
        have := congrArg List.length e
        rw [List.length_take] at this
        simp at this
        have := cnt_le 4 l
        rcases ‹cnt 4 l = 0 ∨ l = []› with e | e
        · omega
        · subst e; simp [cnt] at c
    · split at h <;> cases h
theorem ext_list (s : ByteArray) (a b : Nat) : (s.extract a b).data.toList = (s.toList.drop a).take (b - a) := by
  rw [toL]
  simp only [ByteArray.data_extract, Array.toList_extract, List.extract]
theorem tks_Dz {s : ByteArray} {t : List (Nat × Nat × Nat)} (h : scanL s.toList = .ok t) (hs : s.size ≤ 281474976710656) : Dz (tks s t) := by
  intro x hx x3
  unfold tks at hx
  rcases List.mem_append.1 hx with hx | hx
  · obtain ⟨y, hy, rfl⟩ := List.mem_map.1 hx
    have e := scanL_tok h y hy
    simp only at x3
    rw [x3] at e
    have := tok_int e
    refine ⟨⟨?_, ?_⟩, ?_⟩
    · simp only; rw [ext_list, Nat.add_sub_cancel_left]; exact this.1
    · simp only; rw [ext_list, Nat.add_sub_cancel_left]; exact this.2
    · have := ByteArray.size_extract (a := s) (b := y.2.1) (e := y.2.1 + y.2.2)
      simp only
      omega
  · simp at hx; subst hx; cases x3
theorem tks_Tz (s : ByteArray) (t : List (Nat × Nat × Nat)) : Tz (tks s t) := ⟨_, _, rfl⟩
theorem tks_len (s : ByteArray) (t : List (Nat × Nat × Nat)) : (tks s t).length = t.length + 1 := by unfold tks; simp
theorem tks_Qz {s : ByteArray} (t : List (Nat × Nat × Nat)) (hs : s.size ≤ 281474976710656) : Qz (tks s t) := by
  intro x hx
  unfold tks at hx
  rcases List.mem_append.1 hx with hx | hx
  · obtain ⟨y, hy, rfl⟩ := List.mem_map.1 hx
    have := ByteArray.size_extract (a := s) (b := y.2.1) (e := y.2.1 + y.2.2)
    show (s.extract y.2.1 (y.2.1 + y.2.2)).size ≤ _
    omega
  · simp at hx; subst hx; exact Nat.zero_le _
theorem tks_nm {s : ByteArray} {t : List (Nat × Nat × Nat)} (h : t.length ≤ 2048) : pgP 16500 (tks s t) ≠ .more := fun e => by
  have := pgP_sat 16500 (tks s t) (tks_Tz s t)
  rw [e] at this
  have h2 : 16500 < 8 * (tks s t).length + 9 := this
  rw [tks_len] at h2
  omega
/-- A token's cells. -/
def tkc : List Tk → List Value
  | [] => []
  | t :: ts => .int .i64 (t.1 : Nat) :: .string t.2.1 :: .int .i64 (t.2.2 : Nat) :: tkc ts
theorem tkc_tks (s : ByteArray) : ∀ t : List (Nat × Nat × Nat), tkc (tks s t) = tcells s t ++ [.int .i64 0, .string tx0, .int .i64 (s.size : Nat)]
  | [] => rfl
  | (k, a, n) :: t => by
    have := tkc_tks s t
    unfold tks at this ⊢
    rw [List.map_cons, List.cons_append, tkc, this, tcells]
    rfl
theorem tkc_at {W : World} {c : Nat} : ∀ (ts : List Tk) (o : Nat), (∀ j u, (tkc ts)[j]? = some u → W.cell? ⟨c, o + j, none⟩ = some u) → TkAt W c ts o
  | [], o, h => trivial
  | t :: ts, o, h => ⟨h 0 _ rfl, h 1 _ rfl, h 2 _ rfl, tkc_at ts (o + 3) fun j u hu => by rw [show o + 3 + j = o + (j + 1 + 1 + 1) by omega]; exact h _ u hu⟩
theorem own_tks {V : World} {base n : Nat} {e : TypeId} {v : Value} {s : ByteArray} {t : List (Nat × Nat × Nat)} (hn : t.length = n) (own : V.ownsRow base e 3 v (n + 1) (tcells s t ++ [.int .i64 0, .string tx0, .int .i64 (s.size : Nat)])) : ∃ g cap, v = .slice (some ⟨g, 0, none⟩) (tks s t).length cap ∧ (tks s t).length ≤ cap ∧ base ≤ g ∧ TkAt V g (tks s t) 0 := by
  obtain ⟨g, cap, rfl, h1, h2, h3, h4⟩ := own_cells own (by omega)
  rw [tks_len, hn]
  exact ⟨g, cap, rfl, h2, h3, tkc_at _ 0 fun j u hu => by rw [Nat.zero_add]; rw [tkc_tks] at hu; exact h4 j u hu⟩
end Go.Proofs.YtknoibocpbfmmaaGreatDoor

