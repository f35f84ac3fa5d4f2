/- flex.Join: tokens' texts with a blank between each two. -/
import Derived.Test.YtldolcfgfmfiiaaFxBl
import Derived.Test.YtldolcfgfmfiiaaShelf
import Derived.Deep.OwnRows
namespace Go.Proofs.Ytldolcfgfmfiiaa
open Go.RowKit
set_option linter.unusedVariables false
set_option linter.unusedSimpArgs false
def freshS (w : World) (n : Nat) : World := w.alloc (.cells (madeCells #[.string ⟨#[]⟩] n) 9)
theorem make_strs (n : Nat) (hn : n ≤ 1000000) (w : World) : (Instr.makeSlice 31 (.int .i64 n) (.int .i64 n)).run Try.prog w = .ok (.slice (some ⟨w.heap.size, 0, none⟩) n n) (freshS w n) := by
  exact run_make_row' (P := Try.prog) 31 9 (.string ⟨#[]⟩) 16 Try.underlying31 (by kernel_rfl) rfl .i64 .i64 n (by omega) (by omega) w
theorem fresh_own (w : World) (n : Nat) (hn : n ≤ 1000000) : (freshS w n).ownsRow w.heap.size 9 1 (.slice (some ⟨w.heap.size, 0, none⟩) n n) n (List.replicate n (.string ⟨#[]⟩)) := by
  refine ⟨by simp, .inr ⟨w.heap.size, n, _, rfl, Nat.le_refl _, heap_alloc_new w _, Nat.le_refl _, by unfold maxLen; omega, by simp [madeCells], ?_⟩⟩
  rw [toList_madeCells_one, Nat.mul_one, List.take_of_length_le (by simp)]
/-- The texts of a text's tokens. -/
def txs (s : ByteArray) (t : List (Nat × Nat × Nat)) : List ByteArray := t.map (fun x => s.extract x.2.1 (x.2.1 + x.2.2))
theorem txs_len (s : ByteArray) (t : List (Nat × Nat × Nat)) : (txs s t).length = t.length := by simp [txs]
theorem txs_at {s : ByteArray} {t : List (Nat × Nat × Nat)} {j k p n : Nat} (h : t[j]? = some (k, p, n)) : (txs s t)[j]? = some (s.extract p (p + n)) := by
  unfold txs; rw [List.getElem?_map, h]; rfl
theorem txs_withT (s : ByteArray) (t : List (Nat × Nat × Nat)) : (txs s t).map (·.data.toList) = (withT s.toList t).map (·.2) := by
  unfold txs withT
  rw [List.map_map, List.map_map]
  apply List.map_congr_left
  intro x _
  show (s.extract x.2.1 (x.2.1 + x.2.2)).data.toList = _
  rw [← toL, toL_cut]
  rfl
theorem jt_two (bl tr : List UInt8) (k : Nat) (T : List UInt8) (x : Nat × List UInt8) (r : List (Nat × List UInt8)) : jt bl tr ((k, T) :: x :: r) = T ++ (bl ++ jt bl tr (x :: r)) := rfl
theorem inter_jt : ∀ ts : List (Nat × List UInt8), Lib.join (ts.map (·.2)) [32] = jt [32] [] ts
  | [] => rfl
  | [(k, T)] => by simp [Lib.join, jt, List.intercalate, List.intersperse]
  | (k, T) :: (k2, T2) :: r => by
    have ih := inter_jt ((k2, T2) :: r)
    rw [jt, if_neg (by simp), ← ih]
    simp [Lib.join, List.intercalate, List.intersperse]
theorem jt_len : ∀ ts : List (Nat × List UInt8), (∀ x ∈ ts, x.2.length ≤ 8192) → (jt [32] [] ts).length ≤ ts.length * 8193
  | [], _ => by simp [jt]
  | (k, T) :: r, h => by
    have h1 := h (k, T) (by simp)
    have ih := jt_len r (fun x hx => h x (by simp [hx]))
    simp only [jt, List.length_append, List.length_cons]
    simp only at h1
    split
    · simp; omega
    · simp; omega
theorem jt_snoc (T : List UInt8) (k : Nat) : ∀ a : List (Nat × List UInt8), a ≠ [] → jt [32] [] (a ++ [(k, T)]) = jt [32] [] a ++ [32] ++ T
  | [], h => absurd rfl h
  | [(k0, T0)], _ => by simp [jt]
  | (k0, T0) :: x :: r, _ => by
    have ih := jt_snoc T k (x :: r) (by simp)
    rw [List.cons_append, List.cons_append, jt_two, ← List.cons_append, ih, jt_two]
    simp only [List.append_assoc]
theorem withT_small (s : ByteArray) (t : List (Nat × Nat × Nat)) (hs : s.size ≤ 8192) : ∀ x ∈ withT s.toList t, x.2.length ≤ 8192 := by
  intro x hx
  unfold withT at hx
  obtain ⟨y, _, rfl⟩ := List.mem_map.mp hx
  show ((s.toList.take _).drop _).length ≤ 8192
  rw [List.length_drop, List.length_take, toL_len]; omega
/-- The cells of the slice that Join makes, when so many are laid. -/
def jc (s : ByteArray) (t : List (Nat × Nat × Nat)) (j : Nat) : List Value := ((txs s t).take j).map Value.string ++ List.replicate (t.length - j) (.string ⟨#[]⟩)
theorem jc_step {s : ByteArray} {t : List (Nat × Nat × Nat)} {j : Nat} {T : ByteArray} (h : (txs s t)[j]? = some T) (hj : j < t.length) : (jc s t j).set j (.string T) = jc s t (j + 1) := by
  unfold jc
  have l : (((txs s t).take j).map Value.string).length = j := by rw [List.length_map, List.length_take, txs_len]; omega
  rw [List.set_append, if_neg (by omega), l, Nat.sub_self, List.take_add_one, h, show t.length - j = (t.length - (j + 1)) + 1 by omega, List.replicate_succ]
  simp
theorem jc_at {s : ByteArray} {t : List (Nat × Nat × Nat)} {j : Nat} (hj : j < t.length) : (jc s t j)[j]? = some (.string ⟨#[]⟩) := by
  unfold jc
  have l : (((txs s t).take j).map Value.string).length = j := by rw [List.length_map, List.length_take, txs_len]; omega
  rw [List.getElem?_append_right (by omega), l, Nat.sub_self, List.getElem?_replicate, if_pos (by omega)]
theorem jc_end (s : ByteArray) (t : List (Nat × Nat × Nat)) : jc s t t.length = (txs s t).map Value.string := by
  unfold jc
  rw [Nat.sub_self, List.take_of_length_le (by rw [txs_len]; exact Nat.le_refl _)]; simp
set_option maxRecDepth 1000000 in
set_option maxHeartbeats 3200000 in
theorem join_some (s : ByteArray) (t : List (Nat × Nat × Nat)) (g cap : Nat) (hs : s.size ≤ 8192) (hn : t.length ≤ 2048) (n0 : t.length ≠ 0) (hc : t.length ≤ cap) (w : World)
    (cells : ∀ (j : Nat) x, (tcells s t)[j]? = some x → w.cell? ⟨g, j, none⟩ = some x) :
    Calls Try.prog 18 #[.slice (some ⟨g, 0, none⟩) t.length cap] w fun e w' => e = .returned (.string ⟨(jt [32] [] (withT s.toList t)).toArray⟩) ∧ Below w.heap.size w w' := by
  have hm := fun w => make_strs t.length (by omega) w
  have own := fresh_own w t.length (by omega)
  have hb0 : Below w.heap.size w (freshS w t.length) := (Below.refl _ _).alloc (Nat.le_refl _) _
  have HC : Hid _ := cells
  clear cells
  have hl := jt_len _ (withT_small s t hs)
  rw [withT_len] at hl
  go_enter Try.func18, Try.ntmps18
  go_wp2_with fail
  go_loopw [11] (fun i wr => ∃ j : Nat, i = .int .i64 j ∧ j ≤ t.length ∧ wr.ownsRow w.heap.size 9 1 (.slice (some ⟨w.heap.size, 0, none⟩) t.length t.length) t.length (jc s t j) ∧ Below w.heap.size w wr) (fun i _ => t.length - (intOf i).toNat)
  case atStart => exact ⟨0, rfl, by omega, by unfold jc; simpa using own, hb0⟩
  case round =>
    obtain ⟨j, rfl, hj, hown, hb⟩ := hrel
    clear own hb0 hm
    by_cases c : j < t.length
    · have ci : (j : Int) < (t.length : Int) := by omega
      obtain ⟨⟨k, p, n⟩, he⟩ : ∃ x, t[j]? = some x := ⟨_, List.getElem?_eq_getElem c⟩
      obtain ⟨x1, x2, x3⟩ := tcells_at s he
      have y1 := cell_on hb (HC.out _ _ x1)
      have y2 := cell_on hb (HC.out _ _ x2)
      have y3 := cell_on hb (HC.out _ _ x3)
      have e1 := txs_at (s := s) he
      generalize s.extract p (p + n) = T at *
      have hst := jc_step e1 c
      obtain ⟨g', cap', hv, gl, -, -, cs⟩ := own_cells hown n0
      obtain ⟨rfl, rfl⟩ : w.heap.size = g' ∧ t.length = cap' := by
        simp only [Value.slice.injEq, Option.some.injEq, Addr.mk.injEq, and_true, true_and] at hv
        exact hv
      have z1 := cs j _ (jc_at c)
      have z2 := hown.frozenAt j
      have own2 := (hown.stored j (.string T)).1
      rw [hst] at own2
      have OW : Hid _ := own2
      clear x1 x2 x3 he e1 hst own2 cs hv
      go_wp2_with fail
      exact ⟨⟨j + 1, by go_num, by omega, World.ownsRow.alloc OW.out _, (hb.setCell (Nat.le_refl _) _).alloc (by simpa [World.setCell] using hb.size) _⟩, by simp [intOf]; omega⟩
    · obtain rfl : j = t.length := by omega
      obtain ⟨g', cap', hv, gl, -, -, cs⟩ := own_cells hown n0
      obtain ⟨rfl, rfl⟩ : w.heap.size = g' ∧ t.length = cap' := by
        simp only [Value.slice.injEq, Option.some.injEq, Addr.mk.injEq, and_true, true_and] at hv
        exact hv
      rw [jc_end] at cs
      have hj2 := Try.strings_Join w.heap.size 0 t.length (txs s t) ⟨#[32]⟩ wr (fun j x hx => by rw [Nat.zero_add]; exact cs j _ (by rw [List.getElem?_map, hx]; rfl)) gl (by rw [txs_len]; omega) (by rw [txs_len]; exact Nat.le_refl _) (by rw [txs_withT]; show (Lib.join _ [32]).length ≤ _; rw [inter_jt]; omega)
      rw [txs_withT, show (ByteArray.data ⟨#[32]⟩).toList = [32] from rfl, inter_jt, txs_len] at hj2
      generalize hR : (⟨(jt [32] [] (withT s.toList t)).toArray⟩ : ByteArray) = R at hj2
      have HR : Hid _ := hR
      clear cs hv hown hl HC hR
      go_wp2_with (go_at_call 28; refine hj2.mono ?_; rintro e w2 ⟨rfl, b2⟩)
      go_ret
      exact ⟨congrArg (fun s => Ending.returned (Value.string s)) HR.out.symm, below_call hb b2⟩
set_option maxRecDepth 1000000 in
set_option maxHeartbeats 3200000 in
theorem join_none (o : Option Addr) (cap : Nat) (w : World) : Calls Try.prog 18 #[.slice o 0 cap] w fun e w' => e = .returned (.string ⟨#[]⟩) ∧ Below w.heap.size w w' := by
  have hm : ∀ w, (Instr.makeSlice 31 (.int .i64 0) (.int .i64 0)).run Try.prog w = .ok (.slice (some ⟨w.heap.size, 0, none⟩) 0 0) (freshS w 0) := fun w => make_strs 0 (by omega) w
  have hj := Try.strings_Join_none
  go_enter Try.func18, Try.ntmps18
  go_wp2_with fail
  go_loopw [11] (fun i wr => i = .int .i64 0 ∧ wr = freshS w 0) (fun i _ => 0)
  case atStart => exact ⟨rfl, rfl⟩
  case round =>
    obtain ⟨rfl, rfl⟩ := hrel
    go_wp2_with (go_at_call 28; refine (hj _ _ _ _).mono ?_; rintro e w2 ⟨rfl, rfl⟩)
    go_ret
    exact ⟨rfl, (Below.refl _ _).alloc (Nat.le_refl _) _⟩
/-- The reference's Join. -/
theorem jt_take {ts : List (Nat × List UInt8)} {j k : Nat} {T : List UInt8} (h : ts[j]? = some (k, T)) (j0 : j ≠ 0) : jt [32] [] (ts.take (j + 1)) = jt [32] [] (ts.take j) ++ [32] ++ T := by
  have hl : j < ts.length := (List.getElem?_eq_some_iff.mp h).1
  rw [List.take_add_one, h]
  refine jt_snoc T k (ts.take j) ?_
  intro e
  have := congrArg List.length e
  rw [List.length_take, Nat.min_eq_left (Nat.le_of_lt hl)] at this
  exact j0 (by simpa using this)
theorem jt_take1 {ts : List (Nat × List UInt8)} {k : Nat} {T : List UInt8} (h : ts[0]? = some (k, T)) : jt [32] [] (ts.take 1) = T := by
  cases ts with
  | nil => simp at h
  | cons x r => simp at h; subst h; simp [jt]
set_option maxRecDepth 1000000 in
set_option maxHeartbeats 3200000 in
theorem rJoin_some (s : ByteArray) (t : List (Nat × Nat × Nat)) (g cap : Nat) (hs : s.size ≤ 8192) (hrise : rise s.size 0 t) (hn : t.length ≤ 2048) (n0 : t.length ≠ 0) (hc : t.length ≤ cap) (w : World)
    (cells : ∀ (j : Nat) x, (tcells s t)[j]? = some x → w.cell? ⟨g, j, none⟩ = some x) :
    Calls Try.prog 19 #[.slice (some ⟨g, 0, none⟩) t.length cap] w fun e w' => ∃ R : ByteArray, e = .returned (.string R) ∧ R.toList = jt [32] [] (withT s.toList t) ∧ Below w.heap.size w w' := by
  have HC : Hid _ := cells
  clear cells
  go_enter Try.func19, Try.ntmps19
  go_wp2_with fail
  go_loopw [3, 4] (fun sv i wr => ∃ (j : Nat) (U : ByteArray), sv = .string U ∧ i = .int .i64 j ∧ j ≤ t.length ∧ Hid (U.toList = jt [32] [] ((withT s.toList t).take j)) ∧ U.size ≤ j * 8194 ∧ Below w.heap.size w wr) (fun _ i _ => t.length - (intOf i).toNat)
  case atStart => exact ⟨0, ⟨#[]⟩, rfl, rfl, by omega, by rw [toL]; rfl, Nat.zero_le _, Below.refl _ _⟩
  case round =>
    obtain ⟨j, U, rfl, rfl, hj, HU, hu, hb⟩ := hrel
    by_cases c : j < t.length
    · have ci : (j : Int) < (t.length : Int) := by omega
      obtain ⟨⟨k, p, n⟩, he⟩ : ∃ x, t[j]? = some x := ⟨_, List.getElem?_eq_getElem c⟩
      obtain ⟨x1, x2, x3⟩ := tcells_at s he
      have y1 := cell_on hb (HC.out _ _ x2)
      obtain ⟨r1, r2, r3⟩ := rise_at hrise he
      have zT := cut_size s p n r3
      have eT := toL_cut s p (p + n)
      have wT := withT_at (l := s.toList) he
      rw [← eT] at wT
      generalize s.extract p (p + n) = T at *
      have jm : j * 8194 ≤ 16781312 := by omega
      have nl : n ≤ 8192 := by omega
      by_cases jz : j = 0
      · subst jz
        obtain ⟨U2, hU2, zU2, tU2⟩ := app_ex U T
        have HU2 : Hid (U2.toList = jt [32] [] ((withT s.toList t).take 1)) := by
          show U2.toList = _
          rw [tU2, HU.out, jt_take1 wT]; rfl
        have u0 : U.size = 0 := by omega
        rw [zT, u0] at zU2
        have l2 : 0 + n ≤ 9223372036854775807 := by omega
        have HF : Hid (U2.size ≤ 8194) := by show _ ≤ _; omega
        clear x1 x2 x3 he r1 r2 r3 eT wT tU2 HU hu jm nl hrise
        go_wp2_with fail
        exact ⟨⟨1, U2, rfl, rfl, by omega, HU2, by have := HF.out; omega, hb⟩, by simp [intOf]; omega⟩
      · obtain ⟨V, hV, zV, tV⟩ := app_ex U ⟨#[32]⟩
        obtain ⟨U2, hU2, zU2, tU2⟩ := app_ex V T
        have HU2 : Hid (U2.toList = jt [32] [] ((withT s.toList t).take (j + 1))) := by
          show U2.toList = _
          rw [tU2, tV, HU.out, jt_take wT jz, toL ⟨#[32]⟩]
        rw [show (⟨#[32]⟩ : ByteArray).size = 1 from rfl] at zV
        rw [zV, zT] at zU2
        have j0 : 0 < j := by omega
        obtain ⟨us, hus⟩ : ∃ us, U.size = us := ⟨_, rfl⟩
        rw [hus] at zU2 zV hu
        have l1 : us + 1 ≤ 9223372036854775807 := by omega
        have l2 : us + 1 + n ≤ 9223372036854775807 := by omega
        have HF : Hid (U2.size ≤ (j + 1) * 8194) := by show _ ≤ _; omega
        clear x1 x2 x3 he r1 r2 r3 eT wT tV tU2 HU hu jm nl hrise jz
        go_wp2_with fail
        exact ⟨⟨j + 1, U2, rfl, by go_num, by omega, HU2, HF.out, hb⟩, by simp [intOf]; omega⟩
    · obtain rfl : j = t.length := by omega
      rw [List.take_of_length_le (by rw [withT_len]; exact Nat.le_refl _)] at HU
      clear hrise hu
      go_wp2_with fail
      go_ret
      exact ⟨U, rfl, HU.out, hb⟩
end Go.Proofs.Ytldolcfgfmfiiaa
