/- The reference's tokens are the longest ones. -/
import Derived.Test.YtldolcfgfmfiiaaFxW
import Derived.Test.YtldolcfgfmfiiaaFxJ
import Derived.Test.YtldolcfgfmfiiaaFxO
namespace Go.Proofs.Ytldolcfgfmfiiaa
open Go.RowKit
set_option linter.unusedVariables false
set_option linter.unusedSimpArgs false
theorem cnt_h0 {m : Nat} {b : UInt8} (h : kb b.toNat &&& m = 0) (t : List UInt8) : cnt m (b :: t) = 0 := by simp only [cnt, if_pos h]
theorem cnt_h1 {m : Nat} {b : UInt8} {t : List UInt8} (h : 0 < cnt m (b :: t)) : ¬ (kb b.toNat &&& m = 0) := by
  intro c; rw [cnt_h0 c] at h; omega
theorem kb_of {b : UInt8} {m : Nat} (hm : m = 2 ∨ m = 4) (h : ¬ (kb b.toNat &&& m = 0)) : kb b.toNat = m := by
  rcases hm with rfl | rfl <;> (rcases kb_five b.toNat with k | k | k | k | k <;> rw [k] at h ⊢ <;> simp at h)
theorem isW_head {b : UInt8} {t : List UInt8} (h : isW (b :: t) = true) : kb b.toNat = 2 := kb_of (Or.inl rfl) (cnt_h1 (isW_cases h).1)
theorem isN_head {b : UInt8} {t : List UInt8} (h : isN (b :: t) = true) : kb b.toNat = 2 := kb_of (Or.inl rfl) (cnt_h1 (isN_cases h).1)
theorem isI_head {b : UInt8} {t : List UInt8} (h : isI (b :: t) = true) : kb b.toNat = 4 := by
  unfold isI at h
  simp only [Bool.and_eq_true, decide_eq_true_eq] at h
  exact kb_of (Or.inr rfl) (cnt_h1 (m := 4) (t := t) (by rw [h.1]; simp))
theorem isRl_head {b : UInt8} {t : List UInt8} (h : isRl (b :: t) = true) : kb b.toNat = 4 := by
  unfold isRl at h
  simp only [Bool.and_eq_true, decide_eq_true_eq] at h
  cases q : tilP (b :: t) with
  | zero => rw [q] at h; simp [isI] at h
  | succ p => rw [q, List.take_succ_cons] at h; exact isI_head h.2.1
theorem sign_head {b : UInt8} {t : List UInt8} (h : among rSignWs (b :: t) = true) : kb b.toNat = 16 := by
  unfold among rSignWs at h
  simp only [List.any_cons, List.any_nil, Bool.or_false, Bool.or_eq_true, beq_iff_eq, List.cons.injEq] at h
  rcases h with ⟨rfl, _⟩ | ⟨rfl, _⟩ | ⟨rfl, _⟩ | ⟨rfl, _⟩ | ⟨rfl, _⟩ | ⟨rfl, _⟩ | ⟨rfl, _⟩ | ⟨rfl, _⟩ | ⟨rfl, _⟩ | ⟨rfl, _⟩ | ⟨rfl, _⟩ | ⟨rfl, _⟩ | ⟨rfl, _⟩ | ⟨rfl, _⟩ | ⟨rfl, _⟩ | ⟨rfl, _⟩ | ⟨rfl, _⟩ | ⟨rfl, _⟩ | ⟨rfl, _⟩ | ⟨rfl, _⟩ | ⟨rfl, _⟩ | ⟨rfl, _⟩ <;> decide +kernel
theorem no_of {p : Bool} (h : p = true → False) : p = false := by cases p <;> simp_all
theorem sign_two (x y : UInt8) : among rSignWs [x, y] = isS2 [x, y] := by
  unfold among rSignWs isS2
  simp only [List.any_cons, List.any_nil, Bool.or_false, show ∀ c : UInt8, (([x, y] : List UInt8) == [c]) = false from fun c => by simp, Bool.false_or, Bool.or_assoc]
theorem u8_beq (x : UInt8) (n : Nat) (hn : n < 256) : (([x] : List UInt8) == [UInt8.ofNat n]) = ((x.toNat : Int) == (n : Int)) := by
  cases h : ((x.toNat : Int) == (n : Int))
  · rw [beq_eq_false_iff_ne] at h ⊢
    intro e
    have e2 : x = UInt8.ofNat n := by simpa using e
    exact h (by rw [e2]; simp [UInt8.toNat_ofNat']; omega)
  · rw [beq_iff_eq] at h ⊢
    have : x.toNat = n := by exact_mod_cast h
    rw [← this]; simp
theorem sign_one (x : UInt8) : among rSignWs [x] = isS1 (x.toNat : Int) := by
  have k := fun n hn => u8_beq x n hn
  have e43 := k 43 (by decide); have e45 := k 45 (by decide); have e42 := k 42 (by decide); have e47 := k 47 (by decide); have e40 := k 40 (by decide); have e41 := k 41 (by decide)
  have e91 := k 91 (by decide); have e93 := k 93 (by decide); have e123 := k 123 (by decide); have e125 := k 125 (by decide); have e59 := k 59 (by decide); have e44 := k 44 (by decide)
  have e61 := k 61 (by decide); have e60 := k 60 (by decide); have e62 := k 62 (by decide); have e33 := k 33 (by decide)
  clear k
  unfold among rSignWs isS1
  simp only [List.any_cons, List.any_nil, Bool.or_false, show ∀ c d : UInt8, (([x] : List UInt8) == [c, d]) = false from fun c d => by simp, Bool.false_or]
  simp only [show ((43 : UInt8)) = UInt8.ofNat 43 from rfl, show ((45 : UInt8)) = UInt8.ofNat 45 from rfl, show ((42 : UInt8)) = UInt8.ofNat 42 from rfl, show ((47 : UInt8)) = UInt8.ofNat 47 from rfl, show ((40 : UInt8)) = UInt8.ofNat 40 from rfl, show ((41 : UInt8)) = UInt8.ofNat 41 from rfl, show ((91 : UInt8)) = UInt8.ofNat 91 from rfl, show ((93 : UInt8)) = UInt8.ofNat 93 from rfl, show ((123 : UInt8)) = UInt8.ofNat 123 from rfl, show ((125 : UInt8)) = UInt8.ofNat 125 from rfl, show ((59 : UInt8)) = UInt8.ofNat 59 from rfl, show ((44 : UInt8)) = UInt8.ofNat 44 from rfl, show ((61 : UInt8)) = UInt8.ofNat 61 from rfl, show ((60 : UInt8)) = UInt8.ofNat 60 from rfl, show ((62 : UInt8)) = UInt8.ofNat 62 from rfl, show ((33 : UInt8)) = UInt8.ofNat 33 from rfl]
  rw [e43, e45, e42, e47, e40, e41, e91, e93, e123, e125, e59, e44, e61, e60, e62, e33]
  rfl
theorem tilP_digits : ∀ {l : List UInt8}, (∀ b ∈ l, kb b.toNat = 4) → ∀ r, tilP (l ++ 46 :: r) = l.length
  | [], _, r => by simp [tilP]
  | b :: t, h, r => by
    have hb := h b (by simp)
    have ne : b ≠ 46 := by rintro rfl; revert hb; decide +kernel
    have ih := tilP_digits (l := t) (fun x hx => h x (by simp [hx])) r
    rw [List.cons_append]
    simp only [tilP, if_neg ne, ih, List.length_cons]
theorem take_digits (l : List UInt8) : ∀ b ∈ l.take (cnt 4 l), kb b.toNat = 4 := by
  intro b hb
  obtain ⟨j, hj, rfl⟩ := List.mem_iff_getElem.mp hb
  rw [List.length_take] at hj
  rw [List.getElem_take]
  exact kb_of (Or.inr rfl) (cnt_in 4 l j (by omega) (by omega))
theorem isI_take {l : List UInt8} (h : 0 < cnt 4 l) : isI (l.take (cnt 4 l)) = true := by
  have e := cnt_take 4 l []
  rw [List.append_nil] at e
  have le := cnt_le 4 l
  unfold isI
  rw [e]
  have ln : (l.take (cnt 4 l)).length = cnt 4 l := by rw [List.length_take]; omega
  rw [ln, decide_eq_true (by simp [cnt]), Bool.true_and]
  cases q : l.take (cnt 4 l) with
  | nil => rw [q] at ln; simp at ln; omega
  | cons x y => rfl
/-- The reference's way: a token's kind and end are the longest token's. -/
theorem ref_tok (l : List UInt8) (hne : l ≠ []) : kindL (l.take (endL l)) = (tok l).1 ∧ ((tok l).1 ≠ 0 → endL l = (tok l).2) := by
  obtain ⟨b, t, rfl⟩ : ∃ b t, l = b :: t := by cases l with | nil => exact absurd rfl hne | cons b t => exact ⟨b, t, rfl⟩
  by_cases c2 : 0 < cnt 2 (b :: t)
  · have k2 : kb b.toNat = 2 := kb_of (Or.inl rfl) (cnt_h1 c2)
    have c14 := cnt_2_14 (b :: t)
    have le := cnt_le 14 (b :: t)
    have eE : endL (b :: t) = cnt 14 (b :: t) := by unfold endL; rw [if_pos c2]
    have eT : tok (b :: t) = wonL (b :: t) := by unfold tok; rw [if_pos c2]
    rw [eE, eT]
    unfold wonL kindL
    generalize hC : cnt 14 (b :: t) = c at *
    have noR : isRl ((b :: t).take c) = false := no_of fun h => by
      obtain ⟨n', hn'⟩ : ∃ n', c = n' + 1 := ⟨c - 1, by omega⟩
      rw [hn', List.take_succ_cons] at h
      have := isRl_head h
      omega
    have noI : isI ((b :: t).take c) = false := no_of fun h => by
      obtain ⟨n', hn'⟩ : ∃ n', c = n' + 1 := ⟨c - 1, by omega⟩
      rw [hn', List.take_succ_cons] at h
      have := isI_head h
      omega
    have noS : among rSignWs ((b :: t).take c) = false := no_of fun h => by
      obtain ⟨n', hn'⟩ : ∃ n', c = n' + 1 := ⟨c - 1, by omega⟩
      rw [hn', List.take_succ_cons] at h
      have := sign_head h
      omega
    rw [noR, noI, noS]
    cases isW ((b :: t).take c) <;> cases isN ((b :: t).take c) <;> simp
  · have z2 : cnt 2 (b :: t) = 0 := by omega
    have k2 : kb b.toNat ≠ 2 := fun k => c2 (by simp only [cnt, k]; simp)
    by_cases c4 : 0 < cnt 4 (b :: t)
    · have k4 : kb b.toNat = 4 := kb_of (Or.inr rfl) (cnt_h1 c4)
      have eE : endL (b :: t) = (iorL (b :: t)).2 := by unfold endL iorL; rw [if_neg c2, if_pos c4]; split <;> rfl
      have eT : tok (b :: t) = iorL (b :: t) := by unfold tok; rw [if_neg c2, if_pos c4]
      rw [eE, eT]
      refine ⟨?_, fun _ => rfl⟩
      have noW : ∀ n, isW ((b :: t).take (n + 1)) = false := fun n => no_of fun h => k2 (by rw [List.take_succ_cons] at h; exact isW_head h)
      have noN : ∀ n, isN ((b :: t).take (n + 1)) = false := fun n => no_of fun h => k2 (by rw [List.take_succ_cons] at h; exact isN_head h)
      have dg := take_digits (b :: t)
      have it := isI_take c4
      unfold iorL
      split
      · rename_i q
        have dl : cnt 4 (b :: t) < (b :: t).length := by
          by_cases q2 : cnt 4 (b :: t) < (b :: t).length
          · exact q2
          · rw [List.getElem?_eq_none (by omega)] at q; simp at q
        have ie := isI_take q.2
        have ct := fun r => cnt_take 4 (b :: t) r
        generalize hD : cnt 4 (b :: t) = d at *
        generalize hE : cnt 4 ((b :: t).drop (d + 1)) = e at *
        have sp : (b :: t).take (d + 1 + e) = (b :: t).take d ++ 46 :: ((b :: t).drop (d + 1)).take e := by
          rw [List.take_add, List.take_add_one, q.1]; simp
        have lt : ((b :: t).take d).length = d := by rw [List.length_take]; omega
        show kindL ((b :: t).take (d + 1 + e)) = 4
        unfold kindL
        rw [show d + 1 + e = (d + e) + 1 by omega, noW, noN, ← show d + 1 + e = (d + e) + 1 by omega, sp]
        have noI : isI ((b :: t).take d ++ 46 :: ((b :: t).drop (d + 1)).take e) = false := no_of fun h => by
          unfold isI at h
          simp only [Bool.and_eq_true, decide_eq_true_eq] at h
          have h1 := h.1
          rw [ct, List.length_append, lt, cnt_h0 (by decide +kernel)] at h1
          simp at h1
        have tp : tilP ((b :: t).take d ++ 46 :: ((b :: t).drop (d + 1)).take e) = d := by rw [tilP_digits dg, lt]
        have yR : isRl ((b :: t).take d ++ 46 :: ((b :: t).drop (d + 1)).take e) = true := by
          unfold isRl
          rw [tp, decide_eq_true (by rw [List.length_append, lt]; simp), Bool.true_and, List.take_left' lt]
          rw [show ((b :: t).take d ++ 46 :: ((b :: t).drop (d + 1)).take e).drop (d + 1) = ((b :: t).drop (d + 1)).take e by rw [List.drop_append, lt]; simp; omega]
          rw [it, ie]; rfl
        rw [noI, yR]
        simp
      · show kindL ((b :: t).take (cnt 4 (b :: t))) = 3
        unfold kindL
        obtain ⟨n', hn'⟩ : ∃ n', cnt 4 (b :: t) = n' + 1 := ⟨cnt 4 (b :: t) - 1, by omega⟩
        rw [it, hn', noW, noN]
        simp
    · have k4 : kb b.toNat ≠ 4 := fun k => c4 (by simp only [cnt, k]; simp)
      have noW : ∀ u, isW (b :: u) = false := fun u => no_of fun h => k2 (isW_head h)
      have noN : ∀ u, isN (b :: u) = false := fun u => no_of fun h => k2 (isN_head h)
      have noI : ∀ u, isI (b :: u) = false := fun u => no_of fun h => k4 (isI_head h)
      have noR : ∀ u, isRl (b :: u) = false := fun u => no_of fun h => k4 (isRl_head h)
      unfold endL tok
      rw [if_neg c2, if_neg c4, if_neg c2, if_neg c4]
      cases t with
      | nil =>
        have sg : sgnN [b] = if isS1 (b.toNat : Int) then 1 else 0 := by unfold sgnN; rw [if_neg (by simp)]; simp
        rw [if_neg (by simp), sg]
        show kindL [b] = _ ∧ _
        unfold kindL
        rw [noW, noN, noI, noR, sign_one]
        cases isS1 (b.toNat : Int) <;> simp
      | cons y u =>
        rw [show (b :: y :: u).take 2 = [b, y] from rfl, sign_two]
        have l2 : 2 ≤ (b :: y :: u).length := by simp
        have sg : sgnN (b :: y :: u) = if isS2 [b, y] then 2 else if isS1 (b.toNat : Int) then 1 else 0 := by
          unfold sgnN
          rw [show (b :: y :: u).take 2 = [b, y] from rfl]
          simp
        rw [sg]
        cases s2 : isS2 [b, y]
        · rw [if_neg (by simp)]
          show kindL [b] = _ ∧ _
          unfold kindL
          rw [noW, noN, noI, noR, sign_one]
          cases isS1 (b.toNat : Int) <;> simp
        · rw [if_pos ⟨l2, rfl⟩]
          show kindL [b, y] = _ ∧ _
          unfold kindL
          rw [noW, noN, noI, noR, sign_two, s2]
          simp
theorem rEnd_any (s : ByteArray) (a : Nat) (h : a < s.size) (hz : s.size ≤ 8192) (w : World) : Calls Try.prog 24 #[.string s, .int .i64 a] w fun e w' => e = .returned (.int .i64 ((a + endL (s.toList.drop a) : Nat) : Int)) ∧ Below w.heap.size w w' := by
  by_cases k2 : kb (s[a]'h).toNat = 2
  · have c := at_head (m := 2) (k := 2) (by decide) h k2
    unfold endL
    rw [if_pos c]
    exact rEnd_letter s a h hz k2 w
  · have z2 : ¬ 0 < cnt 2 (s.toList.drop a) := by
      rcases kb_five (s[a]'h).toNat with k | k | k | k | k
      · rw [at_head0 (m := 2) (by decide) h k]; omega
      · exact absurd k k2
      · rw [at_head0 (m := 2) (by decide) h k]; omega
      · rw [at_head0 (m := 2) (by decide) h k]; omega
      · rw [at_head0 (m := 2) (by decide) h k]; omega
    by_cases k4 : kb (s[a]'h).toNat = 4
    · have c4 := at_head (m := 4) (k := 4) (by decide) h k4
      unfold endL
      rw [if_neg z2, if_pos c4]
      have le := at_le 4 s a (by omega)
      have hd : Hid (∀ q (h : q < s.size), a ≤ q → q < a + cnt 4 (s.toList.drop a) → kb (s[q]'h).toNat = 4) := fun q h a1 a2 => kb_of (Or.inr rfl) (at_in2 h a1 a2)
      have he : Hid (∀ h : a + cnt 4 (s.toList.drop a) < s.size, kb (s[a + cnt 4 (s.toList.drop a)]'h).toNat ≠ 4) := fun h e => by have := at_out h; rw [e] at this; simp at this
      rw [List.getElem?_drop, List.drop_drop, ← Nat.add_assoc]
      generalize hD : a + cnt 4 (s.toList.drop a) = D at *
      by_cases cs : D < s.size
      · rw [toL_at s D cs]
        have le2 := at_le 4 s (D + 1) (by omega)
        by_cases real : s[D]'cs = 46 ∧ 0 < cnt 4 (s.toList.drop (D + 1))
        · rw [if_pos ⟨by rw [real.1], real.2⟩]
          have c1 : D + 1 < s.size := by
            by_cases q : D + 1 < s.size
            · exact q
            · have := real.2; rw [List.drop_eq_nil_of_le (by rw [toL_len]; omega)] at this; simp [cnt] at this
          have kk : kb (s[D + 1]'c1).toNat = 4 := kb_of (Or.inr rfl) (at_in2 (m := 4) (a := D + 1) c1 (Nat.le_refl _) (by have := real.2; omega))
          have := rEnd_real s a h hz k4 D (by omega) (by omega) hd he cs real.1 c1 kk (D + 1 + cnt 4 (s.toList.drop (D + 1))) (by omega) le2 (fun q h a1 a2 => kb_of (Or.inr rfl) (at_in2 h a1 a2)) (fun h e => by have := at_out h; rw [e] at this; simp at this) w
          rw [show a + (cnt 4 (s.toList.drop a) + 1 + cnt 4 (s.toList.drop (D + 1))) = D + 1 + cnt 4 (s.toList.drop (D + 1)) by omega]
          exact this
        · rw [if_neg (fun t => real ⟨Option.some.inj t.1, t.2⟩), hD]
          refine rEnd_int s a h hz k4 D (by omega) (by omega) hd he (fun h1 h2 e k => real ⟨e, ?_⟩) w
          exact at_head (m := 4) (k := 4) (by decide) h2 k
      · rw [if_neg (fun t => by rw [List.getElem?_eq_none (by rw [toL_len]; omega)] at t; simp at t), hD]
        exact rEnd_int s a h hz k4 D (by omega) (by omega) hd he (fun h1 => absurd h1 cs) w
    · have z4 : ¬ 0 < cnt 4 (s.toList.drop a) := by
        rcases kb_five (s[a]'h).toNat with k | k | k | k | k
        · rw [at_head0 (m := 4) (by decide) h k]; omega
        · rw [at_head0 (m := 4) (by decide) h k]; omega
        · exact absurd k k4
        · rw [at_head0 (m := 4) (by decide) h k]; omega
        · rw [at_head0 (m := 4) (by decide) h k]; omega
      unfold endL
      rw [if_neg z2, if_neg z4, List.length_drop, toL_len]
      exact rEnd_sign s a h hz k2 k4 w
end Go.Proofs.Ytldolcfgfmfiiaa
