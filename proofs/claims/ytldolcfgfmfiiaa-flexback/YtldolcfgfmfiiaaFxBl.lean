/- Blanks ahead of tokens play no part: the walk of FlexBlanks. -/
import Derived.Test.YtldolcfgfmfiiaaFxJ
import Derived.Test.YtldolcfgfmfiiaaFxE
import Derived.Test.YtldolcfgfmfiiaaFxNu
namespace Go.Proofs.Ytldolcfgfmfiiaa
open Go.RowKit
set_option linter.unusedVariables false
set_option linter.unusedSimpArgs false
def cat (bl : List UInt8) : List (Nat × List UInt8) → List UInt8
  | [] => []
  | (_, T) :: r => bl ++ T ++ cat bl r
theorem cat_app (bl : List UInt8) : ∀ a b, cat bl (a ++ b) = cat bl a ++ cat bl b
  | [], b => rfl
  | (k, T) :: r, b => by simp only [List.cons_append, cat, cat_app bl r b, List.append_assoc]
theorem cat_jt (bl : List UInt8) : ∀ ts, cat bl ts ++ bl = bl ++ jt bl bl ts
  | [] => by simp [cat, jt]
  | (k, T) :: r => by
    have ih := cat_jt bl r
    simp only [cat, jt, List.append_assoc, ih]
    cases r with
    | nil => simp [jt]
    | cons x y => simp
theorem cat_snoc {bl : List UInt8} {ts : List (Nat × List UInt8)} {j k : Nat} {T : List UInt8} (h : ts[j]? = some (k, T)) : cat bl (ts.take (j + 1)) = cat bl (ts.take j) ++ (bl ++ T) := by
  rw [List.take_add_one, h, cat_app]; simp [cat]
theorem withT_at {l : List UInt8} {t : List (Nat × Nat × Nat)} {j k p n : Nat} (h : t[j]? = some (k, p, n)) : (withT l t)[j]? = some (k, (l.take (p + n)).drop p) := by
  unfold withT; rw [List.getElem?_map, h]; rfl
theorem withT_len (l : List UInt8) (t : List (Nat × Nat × Nat)) : (withT l t).length = t.length := by simp [withT]
theorem scanL_small {l : List UInt8} {t : List (Nat × Nat × Nat)} (h : scanL l = .ok t) : l.length ≤ 8192 := by
  unfold scanL at h
  split at h
  · cases h
  · omega
/-- The text with blanks, scanned: too long, or the same tokens. -/
theorem scan_full (s : ByteArray) (t : List (Nat × Nat × Nat)) (h : scanL s.toList = .ok t) (bl : List UInt8) (hb : allB bl) (b0 : 1 ≤ bl.length) (Z : ByteArray) (hZ : Z.toList = cat bl (withT s.toList t) ++ bl) (hs : Z.size ≤ 8192) :
    ∃ t2, scanL Z.toList = .ok t2 ∧ t2.length = t.length ∧
      ∀ i k p n k' p' n' : Nat, t[i]? = some (k, p, n) → t2[i]? = some (k', p', n') → k = k' ∧ (s.extract p (p + n)).toList = (Z.extract p' (p' + n')).toList ∧ (false = true → p = p') := by
  have hT := scanL_isT h
  have hc := scanL_count h
  have e := scan_jt hb b0 hb (withT s.toList t) bl.length 0 hT (by rw [withT_len]; omega)
  rw [cat_jt] at hZ
  have e2 : scanL Z.toList = .ok (pl bl.length (withT s.toList t) bl.length) := by
    unfold scanL
    rw [if_neg (by rw [toL_len]; omega), hZ, cnt1_all hb, cnt1_jt hT, Nat.add_zero, List.drop_left, e]
  refine ⟨_, e2, by rw [pl_len, withT_len], fun i k p n k' p' n' h1 h2 => ?_⟩
  have w1 := withT_at (l := s.toList) h1
  obtain ⟨q, q1, q2⟩ := pl_at (bl := bl) (tr := bl) _ bl i _ _ w1
  rw [q1] at h2
  obtain ⟨rfl, h3⟩ := Prod.mk.inj (Option.some.inj h2)
  obtain ⟨rfl, rfl⟩ := Prod.mk.inj h3
  refine ⟨rfl, ?_, fun c => by cases c⟩
  rw [toL_cut, toL_cut, hZ]
  generalize (s.toList.take (p + n)).drop p = T at *
  rw [List.drop_take, show q + T.length - q = T.length by omega]
  exact q2.symm
theorem app_ex (a b : ByteArray) : ∃ c, a ++ b = c ∧ c.size = a.size + b.size ∧ c.toList = a.toList ++ b.toList := by
  refine ⟨_, rfl, ?_, toL_app a b⟩
  rw [← toL_len, toL_app, List.length_append, toL_len, toL_len]
set_option maxRecDepth 1000000 in
set_option maxHeartbeats 6400000 in
theorem law_blanks_err (s : ByteArray) (N : Int) (E A : Nat) (hO : scanL s.toList = .error (E, A)) (w : World) : Calls Try.prog 6 #[.string s, .int .u8 N] w fun e w' => e = .returned (.bool true) ∧ Below w.heap.size w w' := by
  have hv := live_any
  have hs := scan_err s E A hO
  have hE : ((E : Int) == 0) = false := by rw [beq_eq_false_iff_ne]; have := scanL_err hO; omega
  clear hO
  go_enter Try.func6, Try.ntmps6
  go_wp2_with (first
    | (go_at_call 10; refine (hs _).mono ?_; rintro e w1 ⟨rfl, b1⟩)
    | (go_at_call 12; refine (hv _).mono ?_; rintro e w2 ⟨rfl, b2⟩)
    | fail)
  go_ret
  exact ⟨rfl, below_call b1 b2⟩
set_option maxRecDepth 1000000 in
set_option maxHeartbeats 6400000 in
theorem law_blanks0 (s : ByteArray) (N : Int) (t : List (Nat × Nat × Nat)) (hO : scanL s.toList = .ok t) (hr : N % 4 = 0) (hr' : N.tmod 4 = 0) (n0 : 0 ≤ N) (n1 : N ≤ 255) (w : World) : Calls Try.prog 6 #[.string s, .int .u8 N] w fun e w' => e = .returned (.bool true) ∧ Below w.heap.size w w' := by
  have hv := live_any
  have hs := scan_ok s t hO
  have hrise := scanL_rise hO
  rw [toL_len] at hrise
  have tcount := scanL_count hO
  have ssmall := scanL_small hO
  rw [toL_len] at ssmall
  by_cases t0 : t.length = 0
  · have Z0 : t = [] := List.length_eq_zero_iff.mp t0
    subst Z0
    have h2 : scanL (ByteArray.toList ⟨#[32]⟩) = .ok [] := by rw [toL]; unfold scanL; rw [if_neg (by decide), show cnt 1 (ByteArray.data ⟨#[32]⟩).toList = 1 by decide +kernel]; exact scanAt_end _ _ _ rfl
    have g2 := scan_ok ⟨#[32]⟩ [] h2
    have hsm := fun (v1 v2 : Value) (B1 B2 : Nat) (W : World) o1 o2 => same_any s ⟨#[32]⟩ [] [] v1 v2 false B1 B2 W rfl tcount o1 o2 (fun i k p n k' p' n' h => by simp at h)
    have H2 : Hid _ := hsm
    clear hsm h2 hO hrise t0
    simp only [List.length_nil] at hs g2
    go_enter Try.func6, Try.ntmps6
    go_wp2_with (go_at_call 10; refine (hs _).mono ?_; rintro e w1 ⟨v, rfl, own, b1⟩; obtain ⟨o, cap, rfl⟩ := own_shape own)
    go_loopw [9, 10] (fun tv i wr => tv = .string ⟨#[]⟩ ∧ i = .int .i64 0 ∧ Below w1.heap.size w1 wr) (fun _ i _ => 0)
    case atStart => exact ⟨rfl, rfl, below_new (Below.refl _ _) _⟩
    case round =>
      obtain ⟨rfl, rfl, hb⟩ := hrel
      have L := below_call b1 hb
      have ownr := own_on hb own
      have ap : (⟨#[]⟩ : ByteArray) ++ ⟨#[32]⟩ = ⟨#[32]⟩ := by rfl
      go_wp2_with (first
        | (go_at_call 10; refine (g2 _).mono ?_; rintro e w2 ⟨v2, rfl, own2, b2⟩; replace L := below_call L b2; replace ownr := own_on b2 ownr)
        | (go_at_call 12; refine (hv _).mono ?_; rintro e w3 ⟨rfl, b3⟩; replace L := below_call L b3; replace ownr := own_on b3 ownr; replace own2 := own_on b3 own2)
        | (go_at_call 13; refine (H2.out _ _ _ _ _ ownr own2).mono ?_; rintro e w4 ⟨rfl, b4⟩; replace L := below_call L b4)
        | fail)
      go_ret
      exact ⟨rfl, L⟩
  · go_enter Try.func6, Try.ntmps6
    go_wp2_with (go_at_call 10; refine (hs _).mono ?_; rintro e w1 ⟨v, rfl, own, b1⟩; obtain ⟨g, cap, rfl, gl, gc, gb, cells⟩ := own_cells own t0)
    generalize hBL : (⟨#[32]⟩ : ByteArray) = BL
    have B1 : Hid (allB BL.toList) := by show allB BL.toList; rw [← hBL, toL]; intro b hb; simp at hb; subst hb; decide +kernel
    have B2 : BL.size = 1 := by rw [← hBL]; rfl
    clear hBL
    go_loopw [9, 10] (fun tv i wr => ∃ (j : Nat) (U : ByteArray), tv = .string U ∧ i = .int .i64 j ∧ j ≤ t.length ∧ Hid (U.toList = cat BL.toList ((withT s.toList t).take j)) ∧ U.size ≤ j * 8194 ∧ Below w1.heap.size w1 wr) (fun _ i _ => t.length - (intOf i).toNat)
    case atStart => exact ⟨0, ⟨#[]⟩, rfl, rfl, by omega, by rw [toL]; rfl, Nat.zero_le _, below_new (Below.refl _ _) _⟩
    case round =>
      obtain ⟨j, U, rfl, rfl, hj, HU, hu, hb⟩ := hrel
      by_cases c : j < t.length
      · have ci : (j : Int) < (t.length : Int) := by omega
        obtain ⟨⟨k, p, n⟩, he⟩ : ∃ x, t[j]? = some x := ⟨_, List.getElem?_eq_getElem c⟩
        obtain ⟨x1, x2, x3⟩ := tcells_at s he
        have y1 := cell_on hb (cells _ _ x2)
        obtain ⟨r1, r2, r3⟩ := rise_at hrise he
        have zT := cut_size s p n r3
        have eT := toL_cut s p (p + n)
        have wT := withT_at (l := s.toList) he
        rw [← eT] at wT
        generalize s.extract p (p + n) = T at *
        obtain ⟨V, hV, zV, tV⟩ := app_ex BL T
        obtain ⟨U2, hU2, zU2, tU2⟩ := app_ex U V
        have HU2 : Hid (U2.toList = cat BL.toList ((withT s.toList t).take (j + 1))) := by
          show U2.toList = _
          rw [tU2, tV, HU.out, cat_snoc wT]
        have jl : j < 2048 := by omega
        have jm : j * 8194 ≤ 16781312 := by omega
        rw [zT, B2] at zV
        rw [zV] at zU2
        have nl : n ≤ 8192 := by omega
        have l1 : 1 + n ≤ 9223372036854775807 := by omega
        have l2 : U.size + (1 + n) ≤ 9223372036854775807 := by omega
        have HF : Hid (U2.size ≤ (j + 1) * 8194) := by show _ ≤ _; omega
        clear x1 x2 x3 he r1 r2 r3 eT wT tV tU2 HU hO hu jl jm nl hrise
        obtain ⟨us, hus⟩ : ∃ us, U.size = us := ⟨_, rfl⟩
        rw [hus] at l2 zU2
        go_wp2_with fail
        exact ⟨⟨j + 1, U2, rfl, by go_num, by omega, HU2, HF.out, hb⟩, by simp [intOf]; omega⟩
      · obtain rfl : j = t.length := by omega
        rw [List.take_of_length_le (by rw [withT_len]; exact Nat.le_refl _)] at HU
        obtain ⟨Z, hZ, zZ, tZ⟩ := app_ex U BL
        rw [HU.out] at tZ
        rw [B2] at zZ
        have jm : t.length * 8194 ≤ 16781312 := by omega
        have l2 : U.size + 1 ≤ 9223372036854775807 := by omega
        have ownr := own_on hb own
        obtain ⟨us, hus⟩ : ∃ us, U.size = us := ⟨_, rfl⟩
        rw [hus] at l2 zZ hu
        have L := below_call b1 hb
        by_cases big : 8192 < Z.size
        · have s2 : scanL Z.toList = .error (5, 0) := by unfold scanL; rw [if_pos (by rw [toL_len]; exact big)]
          have h2 := scan_err Z 5 0 s2
          have bi : (8192 : Int) < (us : Int) + 1 := by omega
          have bj : (us : Int) + 1 < 9223372036854775808 := by omega
          clear s2 big tZ hO hu jm hrise HU cells
          go_wp2_with (first
            | (go_at_call 10; refine (h2 _).mono ?_; rintro e w2 ⟨rfl, b2⟩; replace L := below_call L b2)
            | (go_at_call 12; refine (hv _).mono ?_; rintro e w3 ⟨rfl, b3⟩; replace L := below_call L b3)
            | fail)
          go_ret
          exact ⟨rfl, L⟩
        · obtain ⟨t2, s2, len2, same2⟩ := scan_full s t hO BL.toList B1.out (by rw [toL_len, B2]; omega) Z tZ (by omega)
          have h2 := scan_ok Z t2 s2
          rw [len2] at h2
          have bi : decide ((8192 : Int) < (us : Int) + 1) = false := by rw [decide_eq_false_iff_not]; omega
          have bj : (us : Int) + 1 < 9223372036854775808 := by omega
          clear s2 big tZ hO hu jm hrise HU cells
          have hsm := fun (v2 : Value) (B1 B2 : Nat) (W : World) o1 o2 => same_any s Z t t2 (.slice (some ⟨g, 0, none⟩) t.length cap) v2 false B1 B2 W len2 tcount o1 o2 same2
          have H2 : Hid _ := hsm
          clear hsm same2 len2
          go_wp2_with (first
            | (go_at_call 10; refine (h2 _).mono ?_; rintro e w2 ⟨v2, rfl, own2, b2⟩; replace L := below_call L b2; replace ownr := own_on b2 ownr)
            | (go_at_call 12; refine (hv _).mono ?_; rintro e w3 ⟨rfl, b3⟩; replace L := below_call L b3; replace ownr := own_on b3 ownr; replace own2 := own_on b3 own2)
            | (go_at_call 13; refine (H2.out _ _ _ _ ownr own2).mono ?_; rintro e w4 ⟨rfl, b4⟩; replace L := below_call L b4)
            | fail)
          go_ret
          exact ⟨rfl, L⟩
set_option maxRecDepth 1000000 in
set_option maxHeartbeats 6400000 in
theorem law_blanks1 (s : ByteArray) (N : Int) (t : List (Nat × Nat × Nat)) (hO : scanL s.toList = .ok t) (hr : N % 4 = 1) (hr' : N.tmod 4 = 1) (n0 : 0 ≤ N) (n1 : N ≤ 255) (w : World) : Calls Try.prog 6 #[.string s, .int .u8 N] w fun e w' => e = .returned (.bool true) ∧ Below w.heap.size w w' := by
  have hv := live_any
  have hs := scan_ok s t hO
  have hrise := scanL_rise hO
  rw [toL_len] at hrise
  have tcount := scanL_count hO
  have ssmall := scanL_small hO
  rw [toL_len] at ssmall
  by_cases t0 : t.length = 0
  · have Z0 : t = [] := List.length_eq_zero_iff.mp t0
    subst Z0
    have h2 : scanL (ByteArray.toList ⟨#[9]⟩) = .ok [] := by rw [toL]; unfold scanL; rw [if_neg (by decide), show cnt 1 (ByteArray.data ⟨#[9]⟩).toList = 1 by decide +kernel]; exact scanAt_end _ _ _ rfl
    have g2 := scan_ok ⟨#[9]⟩ [] h2
    have hsm := fun (v1 v2 : Value) (B1 B2 : Nat) (W : World) o1 o2 => same_any s ⟨#[9]⟩ [] [] v1 v2 false B1 B2 W rfl tcount o1 o2 (fun i k p n k' p' n' h => by simp at h)
    have H2 : Hid _ := hsm
    clear hsm h2 hO hrise t0
    simp only [List.length_nil] at hs g2
    go_enter Try.func6, Try.ntmps6
    go_wp2_with (go_at_call 10; refine (hs _).mono ?_; rintro e w1 ⟨v, rfl, own, b1⟩; obtain ⟨o, cap, rfl⟩ := own_shape own)
    go_loopw [9, 10] (fun tv i wr => tv = .string ⟨#[]⟩ ∧ i = .int .i64 0 ∧ Below w1.heap.size w1 wr) (fun _ i _ => 0)
    case atStart => exact ⟨rfl, rfl, below_new (Below.refl _ _) _⟩
    case round =>
      obtain ⟨rfl, rfl, hb⟩ := hrel
      have L := below_call b1 hb
      have ownr := own_on hb own
      have ap : (⟨#[]⟩ : ByteArray) ++ ⟨#[9]⟩ = ⟨#[9]⟩ := by rfl
      go_wp2_with (first
        | (go_at_call 10; refine (g2 _).mono ?_; rintro e w2 ⟨v2, rfl, own2, b2⟩; replace L := below_call L b2; replace ownr := own_on b2 ownr)
        | (go_at_call 12; refine (hv _).mono ?_; rintro e w3 ⟨rfl, b3⟩; replace L := below_call L b3; replace ownr := own_on b3 ownr; replace own2 := own_on b3 own2)
        | (go_at_call 13; refine (H2.out _ _ _ _ _ ownr own2).mono ?_; rintro e w4 ⟨rfl, b4⟩; replace L := below_call L b4)
        | fail)
      go_ret
      exact ⟨rfl, L⟩
  · go_enter Try.func6, Try.ntmps6
    go_wp2_with (go_at_call 10; refine (hs _).mono ?_; rintro e w1 ⟨v, rfl, own, b1⟩; obtain ⟨g, cap, rfl, gl, gc, gb, cells⟩ := own_cells own t0)
    generalize hBL : (⟨#[9]⟩ : ByteArray) = BL
    have B1 : Hid (allB BL.toList) := by show allB BL.toList; rw [← hBL, toL]; intro b hb; simp at hb; subst hb; decide +kernel
    have B2 : BL.size = 1 := by rw [← hBL]; rfl
    clear hBL
    go_loopw [9, 10] (fun tv i wr => ∃ (j : Nat) (U : ByteArray), tv = .string U ∧ i = .int .i64 j ∧ j ≤ t.length ∧ Hid (U.toList = cat BL.toList ((withT s.toList t).take j)) ∧ U.size ≤ j * 8194 ∧ Below w1.heap.size w1 wr) (fun _ i _ => t.length - (intOf i).toNat)
    case atStart => exact ⟨0, ⟨#[]⟩, rfl, rfl, by omega, by rw [toL]; rfl, Nat.zero_le _, below_new (Below.refl _ _) _⟩
    case round =>
      obtain ⟨j, U, rfl, rfl, hj, HU, hu, hb⟩ := hrel
      by_cases c : j < t.length
      · have ci : (j : Int) < (t.length : Int) := by omega
        obtain ⟨⟨k, p, n⟩, he⟩ : ∃ x, t[j]? = some x := ⟨_, List.getElem?_eq_getElem c⟩
        obtain ⟨x1, x2, x3⟩ := tcells_at s he
        have y1 := cell_on hb (cells _ _ x2)
        obtain ⟨r1, r2, r3⟩ := rise_at hrise he
        have zT := cut_size s p n r3
        have eT := toL_cut s p (p + n)
        have wT := withT_at (l := s.toList) he
        rw [← eT] at wT
        generalize s.extract p (p + n) = T at *
        obtain ⟨V, hV, zV, tV⟩ := app_ex BL T
        obtain ⟨U2, hU2, zU2, tU2⟩ := app_ex U V
        have HU2 : Hid (U2.toList = cat BL.toList ((withT s.toList t).take (j + 1))) := by
          show U2.toList = _
          rw [tU2, tV, HU.out, cat_snoc wT]
        have jl : j < 2048 := by omega
        have jm : j * 8194 ≤ 16781312 := by omega
        rw [zT, B2] at zV
        rw [zV] at zU2
        have nl : n ≤ 8192 := by omega
        have l1 : 1 + n ≤ 9223372036854775807 := by omega
        have l2 : U.size + (1 + n) ≤ 9223372036854775807 := by omega
        have HF : Hid (U2.size ≤ (j + 1) * 8194) := by show _ ≤ _; omega
        clear x1 x2 x3 he r1 r2 r3 eT wT tV tU2 HU hO hu jl jm nl hrise
        obtain ⟨us, hus⟩ : ∃ us, U.size = us := ⟨_, rfl⟩
        rw [hus] at l2 zU2
        go_wp2_with fail
        exact ⟨⟨j + 1, U2, rfl, by go_num, by omega, HU2, HF.out, hb⟩, by simp [intOf]; omega⟩
      · obtain rfl : j = t.length := by omega
        rw [List.take_of_length_le (by rw [withT_len]; exact Nat.le_refl _)] at HU
        obtain ⟨Z, hZ, zZ, tZ⟩ := app_ex U BL
        rw [HU.out] at tZ
        rw [B2] at zZ
        have jm : t.length * 8194 ≤ 16781312 := by omega
        have l2 : U.size + 1 ≤ 9223372036854775807 := by omega
        have ownr := own_on hb own
        obtain ⟨us, hus⟩ : ∃ us, U.size = us := ⟨_, rfl⟩
        rw [hus] at l2 zZ hu
        have L := below_call b1 hb
        by_cases big : 8192 < Z.size
        · have s2 : scanL Z.toList = .error (5, 0) := by unfold scanL; rw [if_pos (by rw [toL_len]; exact big)]
          have h2 := scan_err Z 5 0 s2
          have bi : (8192 : Int) < (us : Int) + 1 := by omega
          have bj : (us : Int) + 1 < 9223372036854775808 := by omega
          clear s2 big tZ hO hu jm hrise HU cells
          go_wp2_with (first
            | (go_at_call 10; refine (h2 _).mono ?_; rintro e w2 ⟨rfl, b2⟩; replace L := below_call L b2)
            | (go_at_call 12; refine (hv _).mono ?_; rintro e w3 ⟨rfl, b3⟩; replace L := below_call L b3)
            | fail)
          go_ret
          exact ⟨rfl, L⟩
        · obtain ⟨t2, s2, len2, same2⟩ := scan_full s t hO BL.toList B1.out (by rw [toL_len, B2]; omega) Z tZ (by omega)
          have h2 := scan_ok Z t2 s2
          rw [len2] at h2
          have bi : decide ((8192 : Int) < (us : Int) + 1) = false := by rw [decide_eq_false_iff_not]; omega
          have bj : (us : Int) + 1 < 9223372036854775808 := by omega
          clear s2 big tZ hO hu jm hrise HU cells
          have hsm := fun (v2 : Value) (B1 B2 : Nat) (W : World) o1 o2 => same_any s Z t t2 (.slice (some ⟨g, 0, none⟩) t.length cap) v2 false B1 B2 W len2 tcount o1 o2 same2
          have H2 : Hid _ := hsm
          clear hsm same2 len2
          go_wp2_with (first
            | (go_at_call 10; refine (h2 _).mono ?_; rintro e w2 ⟨v2, rfl, own2, b2⟩; replace L := below_call L b2; replace ownr := own_on b2 ownr)
            | (go_at_call 12; refine (hv _).mono ?_; rintro e w3 ⟨rfl, b3⟩; replace L := below_call L b3; replace ownr := own_on b3 ownr; replace own2 := own_on b3 own2)
            | (go_at_call 13; refine (H2.out _ _ _ _ ownr own2).mono ?_; rintro e w4 ⟨rfl, b4⟩; replace L := below_call L b4)
            | fail)
          go_ret
          exact ⟨rfl, L⟩
set_option maxRecDepth 1000000 in
set_option maxHeartbeats 6400000 in
theorem law_blanks2 (s : ByteArray) (N : Int) (t : List (Nat × Nat × Nat)) (hO : scanL s.toList = .ok t) (hr : N % 4 = 2) (hr' : N.tmod 4 = 2) (n0 : 0 ≤ N) (n1 : N ≤ 255) (w : World) : Calls Try.prog 6 #[.string s, .int .u8 N] w fun e w' => e = .returned (.bool true) ∧ Below w.heap.size w w' := by
  have hv := live_any
  have hs := scan_ok s t hO
  have hrise := scanL_rise hO
  rw [toL_len] at hrise
  have tcount := scanL_count hO
  have ssmall := scanL_small hO
  rw [toL_len] at ssmall
  by_cases t0 : t.length = 0
  · have Z0 : t = [] := List.length_eq_zero_iff.mp t0
    subst Z0
    have h2 : scanL (ByteArray.toList ⟨#[10, 32]⟩) = .ok [] := by rw [toL]; unfold scanL; rw [if_neg (by decide), show cnt 1 (ByteArray.data ⟨#[10, 32]⟩).toList = 2 by decide +kernel]; exact scanAt_end _ _ _ rfl
    have g2 := scan_ok ⟨#[10, 32]⟩ [] h2
    have hsm := fun (v1 v2 : Value) (B1 B2 : Nat) (W : World) o1 o2 => same_any s ⟨#[10, 32]⟩ [] [] v1 v2 false B1 B2 W rfl tcount o1 o2 (fun i k p n k' p' n' h => by simp at h)
    have H2 : Hid _ := hsm
    clear hsm h2 hO hrise t0
    simp only [List.length_nil] at hs g2
    go_enter Try.func6, Try.ntmps6
    go_wp2_with (go_at_call 10; refine (hs _).mono ?_; rintro e w1 ⟨v, rfl, own, b1⟩; obtain ⟨o, cap, rfl⟩ := own_shape own)
    go_loopw [9, 10] (fun tv i wr => tv = .string ⟨#[]⟩ ∧ i = .int .i64 0 ∧ Below w1.heap.size w1 wr) (fun _ i _ => 0)
    case atStart => exact ⟨rfl, rfl, below_new (Below.refl _ _) _⟩
    case round =>
      obtain ⟨rfl, rfl, hb⟩ := hrel
      have L := below_call b1 hb
      have ownr := own_on hb own
      have ap : (⟨#[]⟩ : ByteArray) ++ ⟨#[10, 32]⟩ = ⟨#[10, 32]⟩ := by rfl
      go_wp2_with (first
        | (go_at_call 10; refine (g2 _).mono ?_; rintro e w2 ⟨v2, rfl, own2, b2⟩; replace L := below_call L b2; replace ownr := own_on b2 ownr)
        | (go_at_call 12; refine (hv _).mono ?_; rintro e w3 ⟨rfl, b3⟩; replace L := below_call L b3; replace ownr := own_on b3 ownr; replace own2 := own_on b3 own2)
        | (go_at_call 13; refine (H2.out _ _ _ _ _ ownr own2).mono ?_; rintro e w4 ⟨rfl, b4⟩; replace L := below_call L b4)
        | fail)
      go_ret
      exact ⟨rfl, L⟩
  · go_enter Try.func6, Try.ntmps6
    go_wp2_with (go_at_call 10; refine (hs _).mono ?_; rintro e w1 ⟨v, rfl, own, b1⟩; obtain ⟨g, cap, rfl, gl, gc, gb, cells⟩ := own_cells own t0)
    generalize hBL : (⟨#[10, 32]⟩ : ByteArray) = BL
    have B1 : Hid (allB BL.toList) := by show allB BL.toList; rw [← hBL, toL]; intro b hb; simp at hb; rcases hb with rfl | rfl <;> decide +kernel
    have B2 : BL.size = 2 := by rw [← hBL]; rfl
    clear hBL
    go_loopw [9, 10] (fun tv i wr => ∃ (j : Nat) (U : ByteArray), tv = .string U ∧ i = .int .i64 j ∧ j ≤ t.length ∧ Hid (U.toList = cat BL.toList ((withT s.toList t).take j)) ∧ U.size ≤ j * 8194 ∧ Below w1.heap.size w1 wr) (fun _ i _ => t.length - (intOf i).toNat)
    case atStart => exact ⟨0, ⟨#[]⟩, rfl, rfl, by omega, by rw [toL]; rfl, Nat.zero_le _, below_new (Below.refl _ _) _⟩
    case round =>
      obtain ⟨j, U, rfl, rfl, hj, HU, hu, hb⟩ := hrel
      by_cases c : j < t.length
      · have ci : (j : Int) < (t.length : Int) := by omega
        obtain ⟨⟨k, p, n⟩, he⟩ : ∃ x, t[j]? = some x := ⟨_, List.getElem?_eq_getElem c⟩
        obtain ⟨x1, x2, x3⟩ := tcells_at s he
        have y1 := cell_on hb (cells _ _ x2)
        obtain ⟨r1, r2, r3⟩ := rise_at hrise he
        have zT := cut_size s p n r3
        have eT := toL_cut s p (p + n)
        have wT := withT_at (l := s.toList) he
        rw [← eT] at wT
        generalize s.extract p (p + n) = T at *
        obtain ⟨V, hV, zV, tV⟩ := app_ex BL T
        obtain ⟨U2, hU2, zU2, tU2⟩ := app_ex U V
        have HU2 : Hid (U2.toList = cat BL.toList ((withT s.toList t).take (j + 1))) := by
          show U2.toList = _
          rw [tU2, tV, HU.out, cat_snoc wT]
        have jl : j < 2048 := by omega
        have jm : j * 8194 ≤ 16781312 := by omega
        rw [zT, B2] at zV
        rw [zV] at zU2
        have nl : n ≤ 8192 := by omega
        have l1 : 2 + n ≤ 9223372036854775807 := by omega
        have l2 : U.size + (2 + n) ≤ 9223372036854775807 := by omega
        have HF : Hid (U2.size ≤ (j + 1) * 8194) := by show _ ≤ _; omega
        clear x1 x2 x3 he r1 r2 r3 eT wT tV tU2 HU hO hu jl jm nl hrise
        obtain ⟨us, hus⟩ : ∃ us, U.size = us := ⟨_, rfl⟩
        rw [hus] at l2 zU2
        go_wp2_with fail
        exact ⟨⟨j + 1, U2, rfl, by go_num, by omega, HU2, HF.out, hb⟩, by simp [intOf]; omega⟩
      · obtain rfl : j = t.length := by omega
        rw [List.take_of_length_le (by rw [withT_len]; exact Nat.le_refl _)] at HU
        obtain ⟨Z, hZ, zZ, tZ⟩ := app_ex U BL
        rw [HU.out] at tZ
        rw [B2] at zZ
        have jm : t.length * 8194 ≤ 16781312 := by omega
        have l2 : U.size + 2 ≤ 9223372036854775807 := by omega
        have ownr := own_on hb own
        obtain ⟨us, hus⟩ : ∃ us, U.size = us := ⟨_, rfl⟩
        rw [hus] at l2 zZ hu
        have L := below_call b1 hb
        by_cases big : 8192 < Z.size
        · have s2 : scanL Z.toList = .error (5, 0) := by unfold scanL; rw [if_pos (by rw [toL_len]; exact big)]
          have h2 := scan_err Z 5 0 s2
          have bi : (8192 : Int) < (us : Int) + 2 := by omega
          have bj : (us : Int) + 2 < 9223372036854775808 := by omega
          clear s2 big tZ hO hu jm hrise HU cells
          go_wp2_with (first
            | (go_at_call 10; refine (h2 _).mono ?_; rintro e w2 ⟨rfl, b2⟩; replace L := below_call L b2)
            | (go_at_call 12; refine (hv _).mono ?_; rintro e w3 ⟨rfl, b3⟩; replace L := below_call L b3)
            | fail)
          go_ret
          exact ⟨rfl, L⟩
        · obtain ⟨t2, s2, len2, same2⟩ := scan_full s t hO BL.toList B1.out (by rw [toL_len, B2]; omega) Z tZ (by omega)
          have h2 := scan_ok Z t2 s2
          rw [len2] at h2
          have bi : decide ((8192 : Int) < (us : Int) + 2) = false := by rw [decide_eq_false_iff_not]; omega
          have bj : (us : Int) + 2 < 9223372036854775808 := by omega
          clear s2 big tZ hO hu jm hrise HU cells
          have hsm := fun (v2 : Value) (B1 B2 : Nat) (W : World) o1 o2 => same_any s Z t t2 (.slice (some ⟨g, 0, none⟩) t.length cap) v2 false B1 B2 W len2 tcount o1 o2 same2
          have H2 : Hid _ := hsm
          clear hsm same2 len2
          go_wp2_with (first
            | (go_at_call 10; refine (h2 _).mono ?_; rintro e w2 ⟨v2, rfl, own2, b2⟩; replace L := below_call L b2; replace ownr := own_on b2 ownr)
            | (go_at_call 12; refine (hv _).mono ?_; rintro e w3 ⟨rfl, b3⟩; replace L := below_call L b3; replace ownr := own_on b3 ownr; replace own2 := own_on b3 own2)
            | (go_at_call 13; refine (H2.out _ _ _ _ ownr own2).mono ?_; rintro e w4 ⟨rfl, b4⟩; replace L := below_call L b4)
            | fail)
          go_ret
          exact ⟨rfl, L⟩
set_option maxRecDepth 1000000 in
set_option maxHeartbeats 6400000 in
theorem law_blanks3 (s : ByteArray) (N : Int) (t : List (Nat × Nat × Nat)) (hO : scanL s.toList = .ok t) (hr : N % 4 = 3) (hr' : N.tmod 4 = 3) (n0 : 0 ≤ N) (n1 : N ≤ 255) (w : World) : Calls Try.prog 6 #[.string s, .int .u8 N] w fun e w' => e = .returned (.bool true) ∧ Below w.heap.size w w' := by
  have hv := live_any
  have hs := scan_ok s t hO
  have hrise := scanL_rise hO
  rw [toL_len] at hrise
  have tcount := scanL_count hO
  have ssmall := scanL_small hO
  rw [toL_len] at ssmall
  by_cases t0 : t.length = 0
  · have Z0 : t = [] := List.length_eq_zero_iff.mp t0
    subst Z0
    have h2 : scanL (ByteArray.toList ⟨#[13]⟩) = .ok [] := by rw [toL]; unfold scanL; rw [if_neg (by decide), show cnt 1 (ByteArray.data ⟨#[13]⟩).toList = 1 by decide +kernel]; exact scanAt_end _ _ _ rfl
    have g2 := scan_ok ⟨#[13]⟩ [] h2
    have hsm := fun (v1 v2 : Value) (B1 B2 : Nat) (W : World) o1 o2 => same_any s ⟨#[13]⟩ [] [] v1 v2 false B1 B2 W rfl tcount o1 o2 (fun i k p n k' p' n' h => by simp at h)
    have H2 : Hid _ := hsm
    clear hsm h2 hO hrise t0
    simp only [List.length_nil] at hs g2
    go_enter Try.func6, Try.ntmps6
    go_wp2_with (go_at_call 10; refine (hs _).mono ?_; rintro e w1 ⟨v, rfl, own, b1⟩; obtain ⟨o, cap, rfl⟩ := own_shape own)
    go_loopw [9, 10] (fun tv i wr => tv = .string ⟨#[]⟩ ∧ i = .int .i64 0 ∧ Below w1.heap.size w1 wr) (fun _ i _ => 0)
    case atStart => exact ⟨rfl, rfl, below_new (Below.refl _ _) _⟩
    case round =>
      obtain ⟨rfl, rfl, hb⟩ := hrel
      have L := below_call b1 hb
      have ownr := own_on hb own
      have ap : (⟨#[]⟩ : ByteArray) ++ ⟨#[13]⟩ = ⟨#[13]⟩ := by rfl
      go_wp2_with (first
        | (go_at_call 10; refine (g2 _).mono ?_; rintro e w2 ⟨v2, rfl, own2, b2⟩; replace L := below_call L b2; replace ownr := own_on b2 ownr)
        | (go_at_call 12; refine (hv _).mono ?_; rintro e w3 ⟨rfl, b3⟩; replace L := below_call L b3; replace ownr := own_on b3 ownr; replace own2 := own_on b3 own2)
        | (go_at_call 13; refine (H2.out _ _ _ _ _ ownr own2).mono ?_; rintro e w4 ⟨rfl, b4⟩; replace L := below_call L b4)
        | fail)
      go_ret
      exact ⟨rfl, L⟩
  · go_enter Try.func6, Try.ntmps6
    go_wp2_with (go_at_call 10; refine (hs _).mono ?_; rintro e w1 ⟨v, rfl, own, b1⟩; obtain ⟨g, cap, rfl, gl, gc, gb, cells⟩ := own_cells own t0)
    generalize hBL : (⟨#[13]⟩ : ByteArray) = BL
    have B1 : Hid (allB BL.toList) := by show allB BL.toList; rw [← hBL, toL]; intro b hb; simp at hb; subst hb; decide +kernel
    have B2 : BL.size = 1 := by rw [← hBL]; rfl
    clear hBL
    go_loopw [9, 10] (fun tv i wr => ∃ (j : Nat) (U : ByteArray), tv = .string U ∧ i = .int .i64 j ∧ j ≤ t.length ∧ Hid (U.toList = cat BL.toList ((withT s.toList t).take j)) ∧ U.size ≤ j * 8194 ∧ Below w1.heap.size w1 wr) (fun _ i _ => t.length - (intOf i).toNat)
    case atStart => exact ⟨0, ⟨#[]⟩, rfl, rfl, by omega, by rw [toL]; rfl, Nat.zero_le _, below_new (Below.refl _ _) _⟩
    case round =>
      obtain ⟨j, U, rfl, rfl, hj, HU, hu, hb⟩ := hrel
      by_cases c : j < t.length
      · have ci : (j : Int) < (t.length : Int) := by omega
        obtain ⟨⟨k, p, n⟩, he⟩ : ∃ x, t[j]? = some x := ⟨_, List.getElem?_eq_getElem c⟩
        obtain ⟨x1, x2, x3⟩ := tcells_at s he
        have y1 := cell_on hb (cells _ _ x2)
        obtain ⟨r1, r2, r3⟩ := rise_at hrise he
        have zT := cut_size s p n r3
        have eT := toL_cut s p (p + n)
        have wT := withT_at (l := s.toList) he
        rw [← eT] at wT
        generalize s.extract p (p + n) = T at *
        obtain ⟨V, hV, zV, tV⟩ := app_ex BL T
        obtain ⟨U2, hU2, zU2, tU2⟩ := app_ex U V
        have HU2 : Hid (U2.toList = cat BL.toList ((withT s.toList t).take (j + 1))) := by
          show U2.toList = _
          rw [tU2, tV, HU.out, cat_snoc wT]
        have jl : j < 2048 := by omega
        have jm : j * 8194 ≤ 16781312 := by omega
        rw [zT, B2] at zV
        rw [zV] at zU2
        have nl : n ≤ 8192 := by omega
        have l1 : 1 + n ≤ 9223372036854775807 := by omega
        have l2 : U.size + (1 + n) ≤ 9223372036854775807 := by omega
        have HF : Hid (U2.size ≤ (j + 1) * 8194) := by show _ ≤ _; omega
        clear x1 x2 x3 he r1 r2 r3 eT wT tV tU2 HU hO hu jl jm nl hrise
        obtain ⟨us, hus⟩ : ∃ us, U.size = us := ⟨_, rfl⟩
        rw [hus] at l2 zU2
        go_wp2_with fail
        exact ⟨⟨j + 1, U2, rfl, by go_num, by omega, HU2, HF.out, hb⟩, by simp [intOf]; omega⟩
      · obtain rfl : j = t.length := by omega
        rw [List.take_of_length_le (by rw [withT_len]; exact Nat.le_refl _)] at HU
        obtain ⟨Z, hZ, zZ, tZ⟩ := app_ex U BL
        rw [HU.out] at tZ
        rw [B2] at zZ
        have jm : t.length * 8194 ≤ 16781312 := by omega
        have l2 : U.size + 1 ≤ 9223372036854775807 := by omega
        have ownr := own_on hb own
        obtain ⟨us, hus⟩ : ∃ us, U.size = us := ⟨_, rfl⟩
        rw [hus] at l2 zZ hu
        have L := below_call b1 hb
        by_cases big : 8192 < Z.size
        · have s2 : scanL Z.toList = .error (5, 0) := by unfold scanL; rw [if_pos (by rw [toL_len]; exact big)]
          have h2 := scan_err Z 5 0 s2
          have bi : (8192 : Int) < (us : Int) + 1 := by omega
          have bj : (us : Int) + 1 < 9223372036854775808 := by omega
          clear s2 big tZ hO hu jm hrise HU cells
          go_wp2_with (first
            | (go_at_call 10; refine (h2 _).mono ?_; rintro e w2 ⟨rfl, b2⟩; replace L := below_call L b2)
            | (go_at_call 12; refine (hv _).mono ?_; rintro e w3 ⟨rfl, b3⟩; replace L := below_call L b3)
            | fail)
          go_ret
          exact ⟨rfl, L⟩
        · obtain ⟨t2, s2, len2, same2⟩ := scan_full s t hO BL.toList B1.out (by rw [toL_len, B2]; omega) Z tZ (by omega)
          have h2 := scan_ok Z t2 s2
          rw [len2] at h2
          have bi : decide ((8192 : Int) < (us : Int) + 1) = false := by rw [decide_eq_false_iff_not]; omega
          have bj : (us : Int) + 1 < 9223372036854775808 := by omega
          clear s2 big tZ hO hu jm hrise HU cells
          have hsm := fun (v2 : Value) (B1 B2 : Nat) (W : World) o1 o2 => same_any s Z t t2 (.slice (some ⟨g, 0, none⟩) t.length cap) v2 false B1 B2 W len2 tcount o1 o2 same2
          have H2 : Hid _ := hsm
          clear hsm same2 len2
          go_wp2_with (first
            | (go_at_call 10; refine (h2 _).mono ?_; rintro e w2 ⟨v2, rfl, own2, b2⟩; replace L := below_call L b2; replace ownr := own_on b2 ownr)
            | (go_at_call 12; refine (hv _).mono ?_; rintro e w3 ⟨rfl, b3⟩; replace L := below_call L b3; replace ownr := own_on b3 ownr; replace own2 := own_on b3 own2)
            | (go_at_call 13; refine (H2.out _ _ _ _ ownr own2).mono ?_; rintro e w4 ⟨rfl, b4⟩; replace L := below_call L b4)
            | fail)
          go_ret
          exact ⟨rfl, L⟩
theorem law_blanks (s : ByteArray) (N : Int) (hz : s.size ≤ 9223372036854775807) (n0 : 0 ≤ N) (n1 : N ≤ 255) (w : World) : Calls Try.prog 6 #[.string s, .int .u8 N] w fun e w' => e = .returned (.bool true) ∧ Below w.heap.size w w' := by
  cases hO : scanL s.toList with
  | error e => exact law_blanks_err s N e.1 e.2 hO w
  | ok t =>
    have e := Int.tmod_eq_emod_of_nonneg (b := 4) n0
    rcases (show N % 4 = 0 ∨ N % 4 = 1 ∨ N % 4 = 2 ∨ N % 4 = 3 by omega) with h | h | h | h
    · exact law_blanks0 s N t hO h (e.trans h) n0 n1 w
    · exact law_blanks1 s N t hO h (e.trans h) n0 n1 w
    · exact law_blanks2 s N t hO h (e.trans h) n0 n1 w
    · exact law_blanks3 s N t hO h (e.trans h) n0 n1 w
end Go.Proofs.Ytldolcfgfmfiiaa
