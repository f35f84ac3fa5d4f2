/- What is scanned as a real is read as a float, as an int as an int: the walk of TopNumerals. -/
import Derived.Test.YtfbkiklopeebdaaFxTm
namespace Go.Proofs.Ytfbkiklopeebdaa
open Go.RowKit
set_option linter.unusedVariables false
set_option linter.unusedSimpArgs false
theorem tok15 : tok [49, 46, 53] = (4, 3) := by decide +kernel
theorem scan15 : scanL [49, 46, 53] = .ok [(4, 0, 3)] := by
  unfold scanL
  rw [if_neg (by decide), show cnt 1 [49, 46, 53] = 0 by decide +kernel, List.drop_zero]
  rw [scanAt, if_neg (by decide), tok15, dif_neg (by decide), if_neg (by decide)]
  rw [scanAt_end _ _ _ rfl]
set_option maxRecDepth 1000000 in
set_option maxHeartbeats 3200000 in
theorem law_numerals (s : ByteArray) (hz : s.size ≤ 9223372036854775807) (w : World) : Calls Try.prog 3 #[.string s] w fun e w' => e = .returned (.bool true) ∧ Below w.heap.size w w' := by
  have h15 := scan_ok ⟨#[49, 46, 53]⟩ _ (by rw [toL]; exact scan15)
  simp only [List.length_cons, List.length_nil, Nat.zero_add] at h15
  cases hO : scanL s.toList with
  | error e =>
    obtain ⟨E, A⟩ := e
    have hs := scan_err s E A hO
    have hE : ((E : Int) == 0) = false := by rw [beq_eq_false_iff_ne]; have := scanL_err hO; omega
    clear hO
    go_enter Try.func3, Try.ntmps3
    go_wp2_with (first
      | (go_at_call_of 4 (Value.string s); refine (hs _).mono ?_; rintro e w1 ⟨rfl, b1⟩)
      | (go_at_call 4; refine (h15 _).mono ?_; rintro e w2 ⟨v, rfl, own, b2⟩; obtain ⟨o, cap, rfl⟩ := own_shape own; clear own)
      | fail)
    go_ret
    exact ⟨rfl, fx_below_call b1 b2⟩
  | ok t =>
    have hs := scan_ok s t hO
    have hrise := scanL_rise hO
    rw [toL_len] at hrise
    have tcount := scanL_count hO
    have ssmall : s.size ≤ 8192 := by
      unfold scanL at hO
      split at hO
      · cases hO
      · rw [toL_len] at *; omega
    have hT := scanL_isT hO
    have HT : Hid _ := hT
    clear hT hO
    by_cases t0 : t.length = 0
    · rw [t0] at hs
      go_enter Try.func3, Try.ntmps3
      go_wp2_with (go_at_call_of 4 (Value.string s); refine (hs _).mono ?_; rintro e w1 ⟨v, rfl, own, b1⟩; obtain ⟨o, cap, rfl⟩ := own_shape own; clear own)
      go_loopw [9] (fun i wr => i = .int .i64 0 ∧ wr = w1) (fun i _ => 0)
      case atStart => exact ⟨rfl, rfl⟩
      case round =>
        obtain ⟨rfl, rfl⟩ := hrel
        go_wp2_with (first
          | (go_at_call 4; refine (h15 _).mono ?_; rintro e w2 ⟨v, rfl, own, b2⟩; obtain ⟨o2, cap2, rfl⟩ := own_shape own; clear own)
          | fail)
        go_ret
        exact ⟨rfl, fx_below_call b1 b2⟩
    · go_enter Try.func3, Try.ntmps3
      go_wp2_with (go_at_call_of 4 (Value.string s); refine (hs _).mono ?_; rintro e w1 ⟨v, rfl, own, b1⟩; obtain ⟨g, cap, rfl, gl, gc, gb, cells⟩ := own_cells own t0; clear own)
      go_loopw [9] (fun i wr => ∃ j : Nat, i = .int .i64 j ∧ j ≤ t.length ∧ Below w1.heap.size w1 wr) (fun i _ => t.length - (intOf i).toNat)
      case atStart => exact ⟨0, rfl, by omega, Below.refl _ _⟩
      case round =>
        obtain ⟨j, rfl, hj, hb⟩ := hrel
        by_cases c : j < t.length
        · have ci : (j : Int) < (t.length : Int) := by omega
          obtain ⟨⟨k, p, n⟩, he⟩ : ∃ x, t[j]? = some x := ⟨_, List.getElem?_eq_getElem c⟩
          obtain ⟨x1, x2, x3⟩ := tcells_at s he
          have y0 := fx_cell_on hb (cells _ _ x1)
          have y1 := fx_cell_on hb (cells _ _ x2)
          obtain ⟨r1, r2, r3⟩ := rise_at hrise he
          have zT := cut_size s p n r3
          have eT := toL_cut s p (p + n)
          have mem : (k, (s.toList.take (p + n)).drop p) ∈ withT s.toList t := List.mem_map.mpr ⟨(k, p, n), List.mem_iff_getElem?.mpr ⟨j, he⟩, rfl⟩
          have tt := tok_of_isT (HT.out _ mem)
          rw [← eT] at tt
          generalize s.extract p (p + n) = T at *
          have hl := lit_tok (s := T) (by omega) tt.1 tt.2
          have hi := int_tok (s := T) (by omega) tt.1 tt.2
          clear x1 x2 x3 he r1 r2 r3 eT mem tt HT hrise zT
          clear hs
          have k3' : ((k : Int) == 3) = decide (k = 3) := by by_cases q : k = 3 <;> simp [q]; omega
          have k4' : ((k : Int) == 4) = decide (k = 4) := by by_cases q : k = 4 <;> simp [q]; omega
          by_cases k4 : k = 4
          · subst k4
            clear k3' k4'
            go_wp2_with fail
            refine (hl _).mono ?_
            rintro e w3 ⟨n1, E1, rfl, a1, a2, b3⟩
            replace y0 := fx_cell_on b3 y0
            replace y1 := fx_cell_on b3 y1
            have L3 := fx_below_call hb b3
            have a1 := a1 (by simp)
            clear a2 hl
            rcases a1 with rfl | rfl
            all_goals
              go_wp2_with fail
              refine (hi _).mono ?_
              rintro e w4 ⟨n2, E2, rfl, a3, a4, b4⟩
              replace y0 := fx_cell_on b4 y0
              have L4 := fx_below_call L3 b4
              obtain rfl := a4 (by decide)
              clear a3 a4 hi
              go_wp2_with fail
              exact ⟨⟨j + 1, by go_num, by omega, L4⟩, by simp [intOf]; omega⟩
          · by_cases k3 : k = 3
            · subst k3
              clear k3' k4'
              go_wp2_with fail
              refine (hl _).mono ?_
              rintro e w3 ⟨n1, E1, rfl, a1, a2, b3⟩
              replace y0 := fx_cell_on b3 y0
              replace y1 := fx_cell_on b3 y1
              have L3 := fx_below_call hb b3
              obtain rfl := a2 (by decide)
              clear a1 a2 hl k4
              go_wp2_with fail
              refine (hi _).mono ?_
              rintro e w4 ⟨n2, E2, rfl, a3, a4, b4⟩
              replace y0 := fx_cell_on b4 y0
              have L4 := fx_below_call L3 b4
              have a3 := a3 (by simp)
              clear a4 hi
              rcases a3 with rfl | rfl | rfl
              all_goals
                go_wp2_with fail
                exact ⟨⟨j + 1, by go_num, by omega, L4⟩, by simp [intOf]; omega⟩
            · rw [decide_eq_false k3] at k3'
              rw [decide_eq_false k4] at k4'
              go_wp2_with fail
              refine (hl _).mono ?_
              rintro e w3 ⟨n1, E1, rfl, a1, a2, b3⟩
              replace y0 := fx_cell_on b3 y0
              replace y1 := fx_cell_on b3 y1
              have L3 := fx_below_call hb b3
              obtain rfl := a2 k4
              clear a1 a2 hl
              go_wp2_with fail
              refine (hi _).mono ?_
              rintro e w4 ⟨n2, E2, rfl, a3, a4, b4⟩
              replace y0 := fx_cell_on b4 y0
              have L4 := fx_below_call L3 b4
              obtain rfl := a4 k3
              clear a3 a4 hi k3 k4
              go_wp2_with fail
              exact ⟨⟨j + 1, by go_num, by omega, L4⟩, by simp [intOf]; omega⟩
        · have ci : ¬ (j : Int) < (t.length : Int) := by omega
          go_wp2_with (first
            | (go_at_call 4; refine (h15 _).mono ?_; rintro e w2 ⟨v, rfl, own, b2⟩; obtain ⟨o2, cap2, rfl⟩ := own_shape own; clear own)
            | fail)
          go_ret
          exact ⟨rfl, fx_below_call (fx_below_call b1 hb) b2⟩
end Go.Proofs.Ytfbkiklopeebdaa

