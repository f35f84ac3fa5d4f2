/- A text that is a name, or a word, is one token: the walk of FlexOne. -/
import Derived.Test.YtldolcfgfmfiiaaFxPl
namespace Go.Proofs.Ytldolcfgfmfiiaa
open Go.RowKit
set_option linter.unusedVariables false
set_option linter.unusedSimpArgs false
theorem cnt_full {m : Nat} {l : List UInt8} (h : cnt m l = l.length) (j : Nat) (hj : j < l.length) : ¬ (kb (l[j]'hj).toNat &&& m = 0) := cnt_in m l j hj (by omega)
theorem cnt1_letter {l : List UInt8} (h : 0 < cnt 2 l) : cnt 1 l = 0 := by
  cases l with
  | nil => rfl
  | cons b t =>
    simp only [cnt] at h ⊢
    rcases kb_five b.toNat with k | k | k | k | k <;> rw [k] at h ⊢ <;> simp at h ⊢
theorem isW_cases {l : List UInt8} (h : isW l = true) : 0 < cnt 2 l ∧ cnt 14 l = l.length ∧ l.length ≤ 6 := by
  unfold isW at h
  simp only [Bool.or_eq_true, beq_iff_eq] at h
  rcases h with rfl | rfl | rfl | rfl | rfl | rfl | rfl | rfl | rfl | rfl <;> decide +kernel
theorem isN_cases {l : List UInt8} (h : isN l = true) : 0 < cnt 2 l ∧ cnt 14 l = l.length ∧ l.length ≤ 16 ∧ isW l = false := by
  unfold isN at h
  simp only [Bool.and_eq_true, decide_eq_true_eq, Bool.not_eq_true'] at h
  exact ⟨h.1, h.2.1, h.2.2.1, h.2.2.2⟩
theorem scan_one {l : List UInt8} {k : Nat} (hk : k ≠ 0) (h2 : 0 < cnt 2 l) (hl : l.length ≤ 8192) (ht : tok l = (k, l.length)) : scanL l = .ok [(k, 0, l.length)] := by
  have l0 : l.length ≠ 0 := by have := cnt_le 2 l; omega
  unfold scanL
  rw [if_neg (by omega), cnt1_letter h2, List.drop_zero]
  rw [scanAt, if_neg l0, ht, dif_neg hk, if_neg (by omega)]
  rw [scanAt_end _ _ _ (by simp)]
theorem tok_word {l : List UInt8} (h : isW l = true) : tok l = (2, l.length) := by
  obtain ⟨h1, h2, _⟩ := isW_cases h
  unfold tok wonL
  rw [if_pos h1, h2, List.take_length, h, if_pos rfl]
theorem tok_name {l : List UInt8} (h : isN l = true) : tok l = (1, l.length) := by
  obtain ⟨h1, h2, _, h4⟩ := isN_cases h
  unfold tok wonL
  rw [if_pos h1, h2, List.take_length, h4, if_neg (by decide), h, if_pos rfl]
theorem scanAt_single {l : List UInt8} {a n k p m : Nat} (h : scanAt l a n = .ok [(k, p, m)]) : p = a ∧ tok l = (k, m) := by
  by_cases h0 : l.length = 0
  · rw [scanAt_end l a n h0] at h; cases h
  · by_cases hk : (tok l).1 = 0
    · rw [scanAt_bad l a n h0 hk] at h; cases h
    · by_cases hn : n = 2048
      · subst hn; rw [scanAt_full l a h0 hk] at h; cases h
      · rw [scanAt, if_neg h0, dif_neg hk, if_neg hn] at h
        split at h
        · cases h
          exact ⟨rfl, rfl⟩
        · cases h
theorem tok_12 {l : List UInt8} {k : Nat} (hk : k = 1 ∨ k = 2) (h : tok l = (k, l.length)) (h0 : l.length ≠ 0) : isN l = true ∨ isW l = true := by
  unfold tok at h
  split at h
  · unfold wonL at h
    split at h
    · rename_i c d
      obtain ⟨-, e⟩ := Prod.mk.inj h
      rw [e, List.take_length] at d
      exact Or.inr d
    · split at h
      · rename_i c d e
        obtain ⟨-, f⟩ := Prod.mk.inj h
        rw [f, List.take_length] at e
        exact Or.inl e
      · obtain ⟨f, -⟩ := Prod.mk.inj h; omega
  · split at h
    · unfold iorL at h
      split at h <;> (obtain ⟨f, -⟩ := Prod.mk.inj h; omega)
    · split at h <;> (obtain ⟨f, -⟩ := Prod.mk.inj h; omega)
/-- A text that is neither: it is no one token that is a name or a word. -/
theorem not_one {s : ByteArray} {k p n : Nat} (hN : isN s.toList = false) (hW : isW s.toList = false) (h : scanL s.toList = .ok [(k, p, n)]) (he : ((s.extract p (p + n)).toList == s.toList) = true) :
    ((k : Int) == 1) = false ∧ ((k : Int) == 2) = false := by
  have hr := scanL_rise h
  rw [toL_len] at hr
  obtain ⟨_, r2, r3, _⟩ := hr
  have e1 := congrArg List.length (eq_of_beq he)
  rw [toL_len, toL_len, cut_size s p n r3] at e1
  obtain rfl : p = 0 := by omega
  unfold scanL at h
  split at h
  · cases h
  · obtain ⟨a1, a2⟩ := scanAt_single h
    rw [← a1, List.drop_zero] at a2
    have key := fun hk => tok_12 (l := s.toList) (k := k) hk (by rw [a2, toL_len, e1]) (by rw [toL_len]; omega)
    rw [hN, hW] at key
    constructor
    · rw [beq_eq_false_iff_ne]; intro e; have := key (Or.inl (by omega)); simp at this
    · rw [beq_eq_false_iff_ne]; intro e; have := key (Or.inr (by omega)); simp at this
set_option maxRecDepth 1000000 in
set_option maxHeartbeats 3200000 in
theorem law_one_no (s : ByteArray) (hz : s.size ≤ 9223372036854775807) (hN : isN s.toList = false) (hW : isW s.toList = false) (w : World) : Calls Try.prog 9 #[.string s] w fun e w' => e = .returned (.bool true) ∧ Below w.heap.size w w' := by
  have hv := live_any
  have hn := isName_any s hz
  have hw := isWord_any s
  rw [hN] at hn
  rw [hW] at hw
  cases hO : scanL s.toList with
  | error e =>
    obtain ⟨E, A⟩ := e
    have hs := scan_err s E A hO
    have hE : ((E : Int) == 0) = false := by rw [beq_eq_false_iff_ne]; have := scanL_err hO; omega
    clear hO hN hW
    go_enter Try.func9, Try.ntmps9
    go_wp2_with (first
      | (go_at_call 10; refine (hs _).mono ?_; rintro e w1 ⟨rfl, b1⟩)
      | (go_at_call 14; refine (hn _).mono ?_; rintro e w2 ⟨rfl, b2⟩)
      | (go_at_call 16; refine (hw _).mono ?_; rintro e w3 ⟨rfl, rfl⟩)
      | (go_at_call 12; refine (hv _).mono ?_; rintro e w4 ⟨rfl, b4⟩)
      | fail)
    go_ret
    exact ⟨rfl, below_call (below_call b1 b2) b4⟩
  | ok t =>
    have hs := scan_ok s t hO
    match t, hO, hs with
    | [], hO, hs =>
      clear hO hN hW
      go_enter Try.func9, Try.ntmps9
      go_wp2_with (first
        | (go_at_call 10; refine (hs _).mono ?_; rintro e w1 ⟨v, rfl, own, b1⟩; obtain ⟨o, cap, rfl⟩ := own_shape own; clear own)
        | (go_at_call 14; refine (hn _).mono ?_; rintro e w2 ⟨rfl, b2⟩)
        | (go_at_call 16; refine (hw _).mono ?_; rintro e w3 ⟨rfl, rfl⟩)
        | (go_at_call 12; refine (hv _).mono ?_; rintro e w4 ⟨rfl, b4⟩)
        | fail)
      go_ret
      exact ⟨rfl, below_call (below_call b1 b2) b4⟩
    | x :: y :: t, hO, hs =>
      have ne : (((x :: y :: t).length : Int) == 1) = false := by rw [beq_eq_false_iff_ne]; simp; omega
      generalize (x :: y :: t).length = N at *
      clear hO hN hW
      go_enter Try.func9, Try.ntmps9
      go_wp2_with (first
        | (go_at_call 10; refine (hs _).mono ?_; rintro e w1 ⟨v, rfl, own, b1⟩; obtain ⟨o, cap, rfl⟩ := own_shape own; clear own)
        | (go_at_call 14; refine (hn _).mono ?_; rintro e w2 ⟨rfl, b2⟩)
        | (go_at_call 16; refine (hw _).mono ?_; rintro e w3 ⟨rfl, rfl⟩)
        | (go_at_call 12; refine (hv _).mono ?_; rintro e w4 ⟨rfl, b4⟩)
        | fail)
      go_ret
      exact ⟨rfl, below_call (below_call b1 b2) b4⟩
    | [(k, p, n)], hO, hs =>
      simp only [tcells, List.length_cons, List.length_nil] at hs
      cases he : ((s.extract p (p + n)).toList == s.toList)
      · clear hO hN hW
        generalize s.extract p (p + n) = T at *
        go_enter Try.func9, Try.ntmps9
        go_wp2_with (first
          | (go_at_call 10; refine (hs _).mono ?_; rintro e w1 ⟨v, rfl, own, b1⟩; obtain ⟨g, cap, rfl, gl, gc, gb, cells⟩ := own_cells own (by simp); have c0 := cells 0 _ rfl; have c1 := cells 1 _ rfl; clear cells own)
          | (go_at_call 14; refine (hn _).mono ?_; rintro e w2 ⟨rfl, b2⟩; replace c0 := cell_on b2 c0; replace c1 := cell_on b2 c1)
          | (go_at_call 16; refine (hw _).mono ?_; rintro e w3 ⟨rfl, rfl⟩)
          | (go_at_call 12; refine (hv _).mono ?_; rintro e w4 ⟨rfl, b4⟩; replace c0 := cell_on b4 c0; replace c1 := cell_on b4 c1)
          | fail)
        go_ret
        exact ⟨rfl, below_call (below_call b1 b2) b4⟩
      · obtain ⟨k1, k2⟩ := not_one hN hW hO he
        clear hO hN hW
        generalize s.extract p (p + n) = T at *
        go_enter Try.func9, Try.ntmps9
        go_wp2_with (first
          | (go_at_call 10; refine (hs _).mono ?_; rintro e w1 ⟨v, rfl, own, b1⟩; obtain ⟨g, cap, rfl, gl, gc, gb, cells⟩ := own_cells own (by simp); have c0 := cells 0 _ rfl; have c1 := cells 1 _ rfl; clear cells own)
          | (go_at_call 14; refine (hn _).mono ?_; rintro e w2 ⟨rfl, b2⟩; replace c0 := cell_on b2 c0; replace c1 := cell_on b2 c1)
          | (go_at_call 16; refine (hw _).mono ?_; rintro e w3 ⟨rfl, rfl⟩)
          | (go_at_call 12; refine (hv _).mono ?_; rintro e w4 ⟨rfl, b4⟩; replace c0 := cell_on b4 c0; replace c1 := cell_on b4 c1)
          | fail)
        go_ret
        exact ⟨rfl, below_call (below_call b1 b2) b4⟩
set_option maxRecDepth 1000000 in
set_option maxHeartbeats 3200000 in
theorem law_one_yes (s : ByteArray) (hz : s.size ≤ 9223372036854775807) (k : Nat) (bn bw : Bool) (hN : isN s.toList = bn) (hW : isW s.toList = bw) (hk : bn = true ∧ bw = false ∧ k = 1 ∨ bn = false ∧ bw = true ∧ k = 2) (hO : scanL s.toList = .ok [(k, 0, s.size)]) (w : World) : Calls Try.prog 9 #[.string s] w fun e w' => e = .returned (.bool true) ∧ Below w.heap.size w w' := by
  have hv := live_any
  have hn := isName_any s hz
  have hw := isWord_any s
  rw [hN] at hn
  rw [hW] at hw
  have hs := scan_ok s _ hO
  simp only [tcells, List.length_cons, List.length_nil, Nat.zero_add] at hs
  have ex : (s.extract 0 s.size).toList = s.toList := by rw [toL_cut, List.drop_zero, List.take_of_length_le (by rw [toL_len]; exact Nat.le_refl _)]
  have he : ((s.extract 0 s.size).toList == s.toList) = true := by rw [ex]; exact beq_self_eq_true _
  generalize s.extract 0 s.size = T at *
  clear hO hN hW ex
  rcases hk with ⟨rfl, rfl, rfl⟩ | ⟨rfl, rfl, rfl⟩
  all_goals
    go_enter Try.func9, Try.ntmps9
    go_wp2_with (first
      | (go_at_call 10; refine (hs _).mono ?_; rintro e w1 ⟨v, rfl, own, b1⟩; obtain ⟨g, cap, rfl, gl, gc, gb, cells⟩ := own_cells own (by simp); have c0 := cells 0 _ rfl; have c1 := cells 1 _ rfl; have c2 := cells 2 _ rfl; clear cells own)
      | (go_at_call 14; refine (hn _).mono ?_; rintro e w2 ⟨rfl, b2⟩; replace c0 := cell_on b2 c0; replace c1 := cell_on b2 c1; replace c2 := cell_on b2 c2)
      | (go_at_call 16; refine (hw _).mono ?_; rintro e w3 ⟨rfl, rfl⟩)
      | (go_at_call 12; refine (hv _).mono ?_; rintro e w4 ⟨rfl, b4⟩; replace c0 := cell_on b4 c0; replace c1 := cell_on b4 c1; replace c2 := cell_on b4 c2)
      | fail)
    go_ret
    exact ⟨rfl, below_call (below_call b1 b2) b4⟩
theorem law_one (s : ByteArray) (hz : s.size ≤ 9223372036854775807) (w : World) : Calls Try.prog 9 #[.string s] w fun e w' => e = .returned (.bool true) ∧ Below w.heap.size w w' := by
  cases hW : isW s.toList
  · cases hN : isN s.toList
    · exact law_one_no s hz hN hW w
    · obtain ⟨a1, a2, a3, a4⟩ := isN_cases hN
      refine law_one_yes s hz 1 true false hN hW (Or.inl ⟨rfl, rfl, rfl⟩) ?_ w
      rw [scan_one (k := 1) (by decide) a1 (by omega) (tok_name hN), toL_len]
  · obtain ⟨a1, a2, a3⟩ := isW_cases hW
    have hN : isN s.toList = false := by
      cases h : isN s.toList
      · rfl
      · have := (isN_cases h).2.2.2; rw [hW] at this; cases this
    refine law_one_yes s hz 2 false true hN hW (Or.inr ⟨rfl, rfl, rfl⟩) ?_ w
    rw [scan_one (k := 2) (by decide) a1 (by omega) (tok_word hW), toL_len]
end Go.Proofs.Ytldolcfgfmfiiaa
