/- The reference's Scan of every text. -/
import Derived.Test.YtldolcfgfmfiiaaFxX
import Derived.Test.YtldolcfgfmfiiaaFxE
namespace Go.Proofs.Ytldolcfgfmfiiaa
open Go.RowKit
set_option linter.unusedVariables false
set_option linter.unusedSimpArgs false
/-- All that the reference's loop asks of the rest of a text. -/
def restA (L : List UInt8) (a n : Nat) (t : List (Nat × Nat × Nat)) : Except (Nat × Nat) (List (Nat × Nat × Nat)) := andThen t (scanAt ((L.drop a).drop (cnt 1 (L.drop a))) (a + cnt 1 (L.drop a)) n)
theorem restA_blank {s : ByteArray} {a n : Nat} {t : List (Nat × Nat × Nat)} (h : a < s.size) (k : kb (s[a]'h).toNat = 1) : restA s.toList a n t = restA s.toList (a + 1) n t := by
  have hl : a < s.toList.length := by rw [toL_len]; exact h
  have e : s.toList.drop a = s[a] :: s.toList.drop (a + 1) := by rw [List.drop_eq_getElem_cons hl, toL_get s a h]
  unfold restA
  rw [e]
  simp only [cnt, k]
  rw [if_neg (by decide), List.drop_succ_cons, show a + (cnt 1 (s.toList.drop (a + 1)) + 1) = a + 1 + cnt 1 (s.toList.drop (a + 1)) by omega]
theorem restA_tok {s : ByteArray} {a n : Nat} {t : List (Nat × Nat × Nat)} (h : a < s.size) (k : kb (s[a]'h).toNat ≠ 1) : restA s.toList a n t = andThen t (scanAt (s.toList.drop a) a n) := by
  have c : cnt 1 (s.toList.drop a) = 0 := by
    rcases kb_five (s[a]'h).toNat with q | q | q | q | q
    · exact absurd q k
    · exact at_head0 (m := 1) (by decide) h q
    · exact at_head0 (m := 1) (by decide) h q
    · exact at_head0 (m := 1) (by decide) h q
    · exact at_head0 (m := 1) (by decide) h q
  unfold restA
  rw [c, List.drop_zero, Nat.add_zero]
theorem endL_le (l : List UInt8) (h : l.length ≠ 0) : 1 ≤ endL l ∧ endL l ≤ l.length := by
  have c14 := cnt_le 14 l
  have c24 := cnt_2_14 l
  have c4 := cnt_le 4 l
  unfold endL
  split
  · omega
  · split
    · split
      · rename_i q
        have d := cnt_le 4 (l.drop (cnt 4 l + 1))
        rw [List.length_drop] at d
        have e : cnt 4 l < l.length := by
          by_cases z : cnt 4 l < l.length
          · exact z
          · rw [List.getElem?_eq_none (by omega)] at q; simp at q
        omega
      · omega
    · split <;> omega
set_option maxRecDepth 1000000 in
set_option maxHeartbeats 3200000 in
theorem rscan_Q (s : ByteArray) (w : World) (Q : Ending → World → Prop)
    (hok : ∀ (t : List (Nat × Nat × Nat)) (v : Value) w', scanL s.toList = .ok t → w'.ownsRow w.heap.size 34 3 v t.length (tcells s t) → Below w.heap.size w w' → Q (.returned (.tuple #[v, .int .i64 0, .int .i64 0])) w')
    (herr : ∀ (E A : Nat) w', scanL s.toList = .error (E, A) → Below w.heap.size w w' → Q (.returned (.tuple #[.slice none 0 0, .int .i64 E, .int .i64 A])) w') :
    Calls Try.prog 11 #[.string s] w Q := by
  generalize hO : scanL s.toList = O at *
  have HE : Hid _ := herr
  have HK : Hid _ := hok
  clear herr hok
  unfold scanL at hO
  rw [toL_len] at hO
  by_cases c0 : 8192 < s.size
  · have i0 : (8192 : Int) < (s.size : Int) := by omega
    rw [if_pos c0] at hO
    clear c0
    have HO : Hid _ := hO
    clear hO
    go_enter Try.func11, Try.ntmps11
    go_wp2_with fail
    refine bodyPost_ret (v := .tuple #[.slice none 0 0, .int .i64 5, .int .i64 0]) (by simp [results, Try.results11, go_sem]) rfl ?_
    exact HE.out 5 0 _ HO.out.symm (Below.refl _ _)
  · rw [if_neg c0] at hO
    have hz : s.size ≤ 8192 := by omega
    have i0 : ¬ (8192 : Int) < (s.size : Int) := by omega
    have ln := toL_len s
    obtain ⟨i34, hi, hz0, hz1, hz2⟩ := info_parts info34
    have H0 : Hid (restA s.toList 0 0 [] = O) := by
      show restA s.toList 0 0 [] = O
      unfold restA
      rw [List.drop_zero, Nat.zero_add, hO]
      cases O <;> simp [andThen]
    clear hO
    go_enter Try.func11, Try.ntmps11
    go_wp2_with fail
    go_loopw [5, 6] (fun v p wr => ∃ (a : Nat) (t : List (Nat × Nat × Nat)), p = .int .i64 a ∧ a ≤ s.size ∧ t.length ≤ 2048 ∧ wr.ownsRow w.heap.size 34 3 v t.length (tcells s t) ∧ Below w.heap.size w wr ∧ Hid (restA s.toList a t.length t = O)) (fun _ p _ => s.size - (intOf p).toNat)
    case atStart => exact ⟨0, [], rfl, by omega, by simp, World.ownsRow_nil _ _ _ _, Below.refl _ _, H0⟩
    case round =>
      obtain ⟨a, t, rfl, ha, ht, hown, L, HO⟩ := hrel
      clear H0
      have la : (a : Int) ≤ (s.size : Int) := by omega
      by_cases c : a < s.size
      · have ca : (a : Int) < (s.size : Int) := by omega
        have hbl := rBlank_k (s[a]'c).toNat
        by_cases k1 : kb (s[a]'c).toNat = 1
        · rw [decide_eq_true k1] at hbl
          have HO2 : Hid (restA s.toList (a + 1) t.length t = O) := by rw [← restA_blank c k1]; exact HO.out
          clear HO k1
          go_wp2_with (go_at_call 23; refine (hbl _).mono ?_; rintro e w2 ⟨rfl, rfl⟩)
          exact ⟨⟨a + 1, t, by go_num, by omega, ht, hown, L, HO2⟩, by simp [intOf]; omega⟩
        · rw [decide_eq_false k1] at hbl
          have hen := rEnd_any s a c hz
          have nz : (s.toList.drop a).length ≠ 0 := by rw [List.length_drop]; omega
          obtain ⟨rt1, rt2⟩ := ref_tok (s.toList.drop a) (by intro e; rw [e] at nz; simp at nz)
          obtain ⟨e1, el⟩ := endL_le (s.toList.drop a) nz
          rw [List.length_drop, ln] at el
          have HO1 : Hid (andThen t (scanAt (s.toList.drop a) a t.length) = O) := by rw [← restA_tok c k1]; exact HO.out
          have zx : (s.extract a (a + endL (s.toList.drop a))).size ≤ 9223372036854775807 := by rw [cut_size s a _ (by omega)]; omega
          have hki := rKind_any (s.extract a (a + endL (s.toList.drop a))) zx
          rw [toL_cut, List.drop_take, show a + endL (s.toList.drop a) - a = endL (s.toList.drop a) by omega, rt1] at hki
          clear HO k1 zx rt1
          by_cases k0 : (tok (s.toList.drop a)).1 = 0
          · have HO2 : Hid (O = .error (3, a)) := by rw [← HO1.out, scanAt_bad _ _ _ nz k0]; rfl
            rw [k0] at hki
            clear HO1 rt2 nz k0 ht
            generalize endL (s.toList.drop a) = len at *
            have i1 : (a : Int) ≤ ((a + len : Nat) : Int) := by omega
            have i2 : ((a + len : Nat) : Int) ≤ (s.size : Int) := by omega
            generalize hN : a + len = N at *
            clear hN
            go_wp2_with (first
              | (go_at_call 23; refine (hbl _).mono ?_; rintro e w2 ⟨rfl, rfl⟩)
              | (go_at_call 24; refine (hen _).mono ?_; rintro e w3 ⟨rfl, b3⟩)
              | (go_at_call 25; refine (hki _).mono ?_; rintro e w4 ⟨rfl, b4⟩)
              | fail)
            refine bodyPost_ret (v := .tuple #[.slice none 0 0, .int .i64 3, .int .i64 (a : Int)]) (by simp [results, Try.results11, go_sem]) rfl ?_
            exact HE.out 3 a _ HO2.out (below_call (below_call L b3) b4)
          · have K0 : (((tok (s.toList.drop a)).1 : Int) == 0) = false := by rw [beq_eq_false_iff_ne]; omega
            have elen := rt2 k0
            by_cases full : t.length = 2048
            · have HO2 : Hid (O = .error (5, a)) := by rw [← HO1.out, full, scanAt_full _ _ nz k0]; rfl
              rw [full] at hown
              obtain ⟨o, cap, rfl⟩ := own_shape hown
              clear HO1 rt2 nz k0 ht elen full hown
              generalize (tok (s.toList.drop a)).1 = k at *
              generalize endL (s.toList.drop a) = len at *
              have i1 : (a : Int) ≤ ((a + len : Nat) : Int) := by omega
              have i2 : ((a + len : Nat) : Int) ≤ (s.size : Int) := by omega
              generalize hN : a + len = N at *
              clear hN
              go_wp2_with (first
              | (go_at_call 23; refine (hbl _).mono ?_; rintro e w2 ⟨rfl, rfl⟩)
              | (go_at_call 24; refine (hen _).mono ?_; rintro e w3 ⟨rfl, b3⟩)
              | (go_at_call 25; refine (hki _).mono ?_; rintro e w4 ⟨rfl, b4⟩)
              | fail)
              refine bodyPost_ret (v := .tuple #[.slice none 0 0, .int .i64 5, .int .i64 (a : Int)]) (by simp [results, Try.results11, go_sem]) rfl ?_
              exact HE.out 5 a _ HO2.out (below_call (below_call L b3) b4)
            · have F0 : ((t.length : Int) == 2048) = false := by rw [beq_eq_false_iff_ne]; omega
              have tl : Hid (t.length < 2048) := by show t.length < 2048; omega
              have eO := scanAt_step (s.toList.drop a) a t.length t nz k0 full
              rw [HO1.out, ← elen] at eO
              simp only [List.drop_drop] at eO
              have HO2 : Hid _ := eO
              clear HO1 rt2 nz k0 elen full eO
              generalize (tok (s.toList.drop a)).1 = k at *
              generalize endL (s.toList.drop a) = len at *
              have i1 : (a : Int) ≤ ((a + len : Nat) : Int) := by omega
              have i2 : ((a + len : Nat) : Int) ≤ (s.size : Int) := by omega
              have l1 : t.length + 1 ≤ maxLen := by unfold maxLen; omega
              have l2 : (t.length + 1) * 32 ≤ 140737488355328 := by omega
              have aN : Hid (a < a + len ∧ a + len ≤ s.size) := by show _ ∧ _; omega
              obtain ⟨o, cap, rfl⟩ := own_shape hown
              generalize hN : a + len = N at *
              have HN : Hid _ := hN
              clear hN
              go_wp2_with (first
                | (go_at_call 23; refine (hbl _).mono ?_; rintro e w2 ⟨rfl, rfl⟩)
                | (go_at_call 24; refine (hen _).mono ?_; rintro e w3 ⟨rfl, b3⟩)
                | (go_at_call 25; refine (hki _).mono ?_; rintro e w4 ⟨rfl, b4⟩; have hown2 := own_on b4 (own_on b3 hown); have L4 := below_call (below_call L b3) b4; have l3 : w.heap.size ≤ w4.heap.size + 1 := by (have := L4.size; omega))
                | (at_builtin; refine wpList_append_own _ rfl _ _ 22 rfl w.heap.size 34 i34 (.agg #[.int .i64 0, .string ⟨#[]⟩, .int .i64 0]) 3 32 Try.underlying22 hi hz0 hz1 hz2 rfl (by decide) _ _ _ rfl (hown2.alloc _) ⟨w4.heap.size, 0, none⟩ 1 1 [.int .i64 (k : Int), .string (s.extract a N), .int .i64 (a : Int)] rfl rfl (lex_cell _ _ _ _ _) (lex_one _ _ _) l1 l2 (by rw [World.size_alloc]; exact l3) ?_; intro v' w5 hown' hgrow hnil; clear hnil)
                | go_in)
              have L5 : Below w.heap.size w w5 := (below_new L4 _).grown hgrow (by rw [World.size_alloc]; exact l3) (own_block hown2)
              refine ⟨⟨N, t ++ [(k, a, len)], rfl, aN.out.2, by have := tl.out; simp; omega, ?_, L5, ?_⟩, by have := aN.out; simp [intOf]; omega⟩
              · rw [List.length_append, tcells_app]
                show w5.ownsRow w.heap.size 34 3 _ _ (tcells s t ++ [.int .i64 (k : Int), .string (s.extract a (a + len)), .int .i64 (a : Int)])
                rw [HN.out]
                exact hown'
              · rw [List.length_append]
                show restA s.toList N (t.length + 1) (t ++ [(k, a, len)]) = O
                rw [HO2.out]
                unfold restA
                rw [List.drop_drop]
      · obtain rfl : a = s.size := by omega
        have HO2 : Hid (O = .ok t) := by
          rw [← HO.out]
          unfold restA
          rw [scanAt_end _ _ _ (by simp [ln])]
          show Except.ok (t ++ []) = _; rw [List.append_nil]
        clear HO c
        go_wp2_with fail
        refine bodyPost_ret (v := .tuple #[u5, .int .i64 0, .int .i64 0]) (by simp [results, Try.results11, go_sem]) rfl ?_
        exact HK.out t u5 _ HO2.out hown L
end Go.Proofs.Ytldolcfgfmfiiaa
