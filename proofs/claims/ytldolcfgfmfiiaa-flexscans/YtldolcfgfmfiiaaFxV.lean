/- The reference's kind of a text, and where a token ends. -/
import Derived.Test.YtldolcfgfmfiiaaFxU
namespace Go.Proofs.Ytldolcfgfmfiiaa
open Go.RowKit
set_option linter.unusedVariables false
set_option linter.unusedSimpArgs false
def kindL (l : List UInt8) : Nat := if isW l then 2 else if isN l then 1 else if isI l then 3 else if isRl l then 4 else if among rSignWs l then 5 else 0
set_option maxRecDepth 100000 in
set_option maxHeartbeats 3200000 in
theorem rKind_any (s : ByteArray) (hz : s.size ≤ 9223372036854775807) (w : World) : Calls Try.prog 25 #[.string s] w fun e w' => e = .returned (.int .i64 (kindL s.toList : Nat)) ∧ Below w.heap.size w w' := by
  have g1 := rWord_any s
  rw [isW_among] at g1
  have g2 := rIsName_any s
  have g3 := rIsInt_any s hz
  have g4 := rIsReal_any s hz
  have g5 := rSign_any s
  unfold kindL
  generalize isW s.toList = x1 at *
  generalize isN s.toList = x2 at *
  generalize isI s.toList = x3 at *
  generalize isRl s.toList = x4 at *
  generalize among rSignWs s.toList = x5 at *
  cases x1
  rotate_left
  · clear g2 g3 g4 g5
    go_enter Try.func25, Try.ntmps25
    go_wp2_with (first
      | (go_at_call 17; refine (g1 _).mono ?_; rintro e w1 ⟨rfl, b1⟩; have L := b1)
      | fail)
    go_ret
    exact ⟨rfl, L⟩
  cases x2
  rotate_left
  · clear g3 g4 g5
    go_enter Try.func25, Try.ntmps25
    go_wp2_with (first
      | (go_at_call 17; refine (g1 _).mono ?_; rintro e w1 ⟨rfl, b1⟩; have L := b1)
      | (go_at_call 15; refine (g2 _).mono ?_; rintro e w2 ⟨rfl, b2⟩; replace L := below_call L b2)
      | fail)
    go_ret
    exact ⟨rfl, L⟩
  cases x3
  rotate_left
  · clear g4 g5
    go_enter Try.func25, Try.ntmps25
    go_wp2_with (first
      | (go_at_call 17; refine (g1 _).mono ?_; rintro e w1 ⟨rfl, b1⟩; have L := b1)
      | (go_at_call 15; refine (g2 _).mono ?_; rintro e w2 ⟨rfl, b2⟩; replace L := below_call L b2)
      | (go_at_call 34; refine (g3 _).mono ?_; rintro e w3 ⟨rfl, b3⟩; replace L := below_call L b3)
      | fail)
    go_ret
    exact ⟨rfl, L⟩
  cases x4
  rotate_left
  · clear g5
    go_enter Try.func25, Try.ntmps25
    go_wp2_with (first
      | (go_at_call 17; refine (g1 _).mono ?_; rintro e w1 ⟨rfl, b1⟩; have L := b1)
      | (go_at_call 15; refine (g2 _).mono ?_; rintro e w2 ⟨rfl, b2⟩; replace L := below_call L b2)
      | (go_at_call 34; refine (g3 _).mono ?_; rintro e w3 ⟨rfl, b3⟩; replace L := below_call L b3)
      | (go_at_call 35; refine (g4 _).mono ?_; rintro e w4 ⟨rfl, b4⟩; replace L := below_call L b4)
      | fail)
    go_ret
    exact ⟨rfl, L⟩
  cases x5
  all_goals
    go_enter Try.func25, Try.ntmps25
    go_wp2_with (first
      | (go_at_call 17; refine (g1 _).mono ?_; rintro e w1 ⟨rfl, b1⟩; have L := b1)
      | (go_at_call 15; refine (g2 _).mono ?_; rintro e w2 ⟨rfl, b2⟩; replace L := below_call L b2)
      | (go_at_call 34; refine (g3 _).mono ?_; rintro e w3 ⟨rfl, b3⟩; replace L := below_call L b3)
      | (go_at_call 35; refine (g4 _).mono ?_; rintro e w4 ⟨rfl, b4⟩; replace L := below_call L b4)
      | (go_at_call 33; refine (g5 _).mono ?_; rintro e w5 ⟨rfl, b5⟩; replace L := below_call L b5)
      | fail)
    go_ret
    exact ⟨rfl, L⟩
/-- Where the token that a list begins with ends. -/
def endL (l : List UInt8) : Nat :=
  if 0 < cnt 2 l then cnt 14 l
  else if 0 < cnt 4 l then (if l[cnt 4 l]? = some 46 ∧ 0 < cnt 4 (l.drop (cnt 4 l + 1)) then cnt 4 l + 1 + cnt 4 (l.drop (cnt 4 l + 1)) else cnt 4 l)
  else if 2 ≤ l.length ∧ among rSignWs (l.take 2) = true then 2 else 1
/-- A place behind another one, by kinds. -/
theorem at_in {m : Nat} {s : ByteArray} {a j : Nat} (h : a + j < s.size) (hj : j < cnt m (s.toList.drop a)) : ¬ (kb (s[a + j]'h).toNat &&& m = 0) := by
  have := cnt_in m (s.toList.drop a) j (by rw [List.length_drop, toL_len]; omega) hj
  rw [List.getElem_drop, toL_get s _ h] at this
  exact this
theorem at_out {m : Nat} {s : ByteArray} {a : Nat} (h : a + cnt m (s.toList.drop a) < s.size) : kb (s[a + cnt m (s.toList.drop a)]'h).toNat &&& m = 0 := by
  have := cnt_out m (s.toList.drop a) (by rw [List.length_drop, toL_len]; omega)
  rw [List.getElem_drop, toL_get s _ h] at this
  exact this
theorem at_le (m : Nat) (s : ByteArray) (a : Nat) (ha : a ≤ s.size) : a + cnt m (s.toList.drop a) ≤ s.size := by
  have := cnt_le m (s.toList.drop a)
  rw [List.length_drop, toL_len] at this
  omega
theorem at_head {m k : Nat} (hk : k &&& m ≠ 0) {s : ByteArray} {a : Nat} (h : a < s.size) (e : kb (s[a]'h).toNat = k) : 0 < cnt m (s.toList.drop a) := by
  by_cases c : 0 < cnt m (s.toList.drop a)
  · exact c
  · have z : cnt m (s.toList.drop a) = 0 := by omega
    have := at_out (m := m) (s := s) (a := a) (by rw [z]; exact h)
    simp only [z, Nat.add_zero] at this
    rw [e] at this
    exact absurd this hk
theorem at_head0 {m k : Nat} (hk : k &&& m = 0) {s : ByteArray} {a : Nat} (h : a < s.size) (e : kb (s[a]'h).toNat = k) : cnt m (s.toList.drop a) = 0 := by
  by_cases c : 0 < cnt m (s.toList.drop a)
  · have := at_in (m := m) (s := s) (a := a) (j := 0) h c
    simp only [Nat.add_zero] at this
    rw [e] at this
    exact absurd hk this
  · omega
theorem at_in2 {m : Nat} {s : ByteArray} {a q : Nat} (h : q < s.size) (ha : a ≤ q) (hj : q < a + cnt m (s.toList.drop a)) : ¬ (kb (s[q]'h).toNat &&& m = 0) := by
  obtain ⟨j, rfl⟩ : ∃ j, q = a + j := ⟨q - a, by omega⟩
  exact at_in h (by omega)
set_option maxRecDepth 100000 in
set_option maxHeartbeats 3200000 in
theorem rEnd_letter (s : ByteArray) (a : Nat) (h : a < s.size) (hz : s.size ≤ 8192) (k : kb (s[a]'h).toNat = 2) (w : World) : Calls Try.prog 24 #[.string s, .int .i64 a] w fun e w' => e = .returned (.int .i64 ((a + cnt 14 (s.toList.drop a) : Nat) : Int)) ∧ Below w.heap.size w w' := by
  have hl0 := rLetter_k (s[a]'h).toNat
  rw [decide_eq_true k] at hl0
  have le := at_le 14 s a (by omega)
  have ai : (a : Int) < (s.size : Int) := by omega
  have hd : Hid (∀ q (h : q < s.size), a ≤ q → q < a + cnt 14 (s.toList.drop a) → ¬ (kb (s[q]'h).toNat &&& 14 = 0)) := fun q h => at_in2 h
  have he : Hid (∀ h : a + cnt 14 (s.toList.drop a) < s.size, kb (s[a + cnt 14 (s.toList.drop a)]'h).toNat &&& 14 = 0) := at_out
  have aC : a ≤ a + cnt 14 (s.toList.drop a) := by omega
  generalize a + cnt 14 (s.toList.drop a) = C at *
  clear k
  go_enter Try.func24, Try.ntmps24
  go_wp2_with (first
    | (go_at_call 26; refine (hl0 _).mono ?_; rintro e w1 ⟨rfl, rfl⟩)
    | fail)
  clear hl0
  go_loopw [5] (fun v wr => ∃ q : Nat, v = .int .i64 q ∧ a ≤ q ∧ Hid (q ≤ C) ∧ wr = w1) (fun v _ => s.size - (intOf v).toNat)
  case atStart => exact ⟨a, rfl, Nat.le_refl _, aC, rfl⟩
  case round =>
    obtain ⟨q, rfl, aq, hq, rfl⟩ := hrel
    have qC := hq.out
    by_cases c : q < C
    · have cs : q < s.size := by omega
      have ci : (q : Int) < (s.size : Int) := by omega
      have h5 := hd.out q cs aq c
      have h1 := rLetter_k (s[q]'cs).toNat
      have h2 := rDigit_k (s[q]'cs).toNat
      have h3 := kb_under (s[q]'cs).toNat
      by_cases dummy : True
      · rcases kb_five (s[q]'cs).toNat with kq | kq | kq | kq | kq
        all_goals (rw [kq] at h1 h2 h3 h5; simp only [Nat.reduceEqDiff, decide_false, decide_true] at h1 h2 h3; clear kq dummy)
        · exact absurd (by decide) h5
        · have NH : Hid (q + 1 ≤ C) := by show q + 1 ≤ C; omega
          clear h5
          go_wp2_with (first
            | (go_at_call 26; refine (h1 _).mono ?_; rintro e w3 ⟨rfl, rfl⟩)
            | (go_at_call 27; refine (h2 _).mono ?_; rintro e w4 ⟨rfl, rfl⟩)
            | fail)
          exact ⟨⟨q + 1, by go_num, by omega, NH, by first | trivial | rfl⟩, by simp [intOf]; omega⟩
        · have NH : Hid (q + 1 ≤ C) := by show q + 1 ≤ C; omega
          clear h5
          go_wp2_with (first
            | (go_at_call 26; refine (h1 _).mono ?_; rintro e w3 ⟨rfl, rfl⟩)
            | (go_at_call 27; refine (h2 _).mono ?_; rintro e w4 ⟨rfl, rfl⟩)
            | fail)
          exact ⟨⟨q + 1, by go_num, by omega, NH, by first | trivial | rfl⟩, by simp [intOf]; omega⟩
        · have NH : Hid (q + 1 ≤ C) := by show q + 1 ≤ C; omega
          clear h5
          go_wp2_with (first
            | (go_at_call 26; refine (h1 _).mono ?_; rintro e w3 ⟨rfl, rfl⟩)
            | (go_at_call 27; refine (h2 _).mono ?_; rintro e w4 ⟨rfl, rfl⟩)
            | fail)
          exact ⟨⟨q + 1, by go_num, by omega, NH, by first | trivial | rfl⟩, by simp [intOf]; omega⟩
        · exact absurd (by decide) h5
      · exact absurd trivial dummy
    · obtain rfl : q = C := by omega
      by_cases cs : q < s.size
      · have ci : (q : Int) < (s.size : Int) := by omega
        have h5 := he.out cs
        have h1 := rLetter_k (s[q]'cs).toNat
        have h2 := rDigit_k (s[q]'cs).toNat
        have h3 := kb_under (s[q]'cs).toNat
        rcases kb_five (s[q]'cs).toNat with kq | kq | kq | kq | kq
        all_goals (rw [kq] at h1 h2 h3 h5; simp only [Nat.reduceEqDiff, decide_false, decide_true] at h1 h2 h3; clear kq)
        · clear h5
          go_wp2_with (first
            | (go_at_call 26; refine (h1 _).mono ?_; rintro e w3 ⟨rfl, rfl⟩)
            | (go_at_call 27; refine (h2 _).mono ?_; rintro e w4 ⟨rfl, rfl⟩)
            | fail)
          go_ret
          exact ⟨rfl, Below.refl _ _⟩
        · exact absurd h5 (by decide)
        · exact absurd h5 (by decide)
        · exact absurd h5 (by decide)
        · clear h5
          go_wp2_with (first
            | (go_at_call 26; refine (h1 _).mono ?_; rintro e w3 ⟨rfl, rfl⟩)
            | (go_at_call 27; refine (h2 _).mono ?_; rintro e w4 ⟨rfl, rfl⟩)
            | fail)
          go_ret
          exact ⟨rfl, Below.refl _ _⟩
      · have ci : ¬ (q : Int) < (s.size : Int) := by omega
        go_wp2_with fail
        go_ret
        exact ⟨rfl, Below.refl _ _⟩
end Go.Proofs.Ytldolcfgfmfiiaa
