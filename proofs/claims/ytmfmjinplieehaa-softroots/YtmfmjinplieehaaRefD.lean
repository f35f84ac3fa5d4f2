/- What plumblineref01.Add and Sub answer. -/
import Derived.Test.YtmfmjinplieehaaRefC
namespace Go.Proofs.Ytmfmjinplieehaa
open Go.RowKit
set_option linter.unusedVariables false

/-- What the memory holds while two numbers are reckoned: both, and the place of the answer. -/
structure TwoMem (n : Nat) (ah al bh bl : Int) (w : World) : Prop where
  s0 : n < w.heap.size
  s1 : n + 1 < w.heap.size
  s2 : n + 1 + 1 < w.heap.size
  c0 : w.cell? ⟨n, 0, none⟩ = some (.int .u64 ah)
  c1 : w.cell? ⟨n, 1, none⟩ = some (.int .u64 al)
  d0 : w.cell? ⟨n + 1, 0, none⟩ = some (.int .u64 bh)
  d1 : w.cell? ⟨n + 1, 1, none⟩ = some (.int .u64 bl)
  e0 : ∃ x, w.cell? ⟨n + 1 + 1, 0, none⟩ = some (.int .u64 x)
  e1 : ∃ x, w.cell? ⟨n + 1 + 1, 1, none⟩ = some (.int .u64 x)
  f0 : w.frozen? ⟨n + 1 + 1, 0, none⟩ = false
  f1 : w.frozen? ⟨n + 1 + 1, 1, none⟩ = false
theorem TwoMem.below {n : Nat} {ah al bh bl : Int} {W w1 : World} (h : TwoMem n ah al bh bl W) (hb : Below W.heap.size W w1) : TwoMem n ah al bh bl w1 := by
  obtain ⟨hc, hf⟩ := bcell hb
  have hs := hb.size
  refine ⟨by have := h.s0; omega, by have := h.s1; omega, by have := h.s2; omega, ?_, ?_, ?_, ?_, ?_, ?_, ?_, ?_⟩
  · rw [hc _ _ h.s0]; exact h.c0
  · rw [hc _ _ h.s0]; exact h.c1
  · rw [hc _ _ h.s1]; exact h.d0
  · rw [hc _ _ h.s1]; exact h.d1
  · rw [hc _ _ h.s2]; exact h.e0
  · rw [hc _ _ h.s2]; exact h.e1
  · rw [hf _ _ h.s2]; exact h.f0
  · rw [hf _ _ h.s2]; exact h.f1

theorem TwoMem.drew {n : Nat} {ah al bh bl : Int} {W : World} (h : TwoMem n ah al bh bl W) : TwoMem n ah al bh bl W.drew :=
  ⟨h.s0, h.s1, h.s2, h.c0, h.c1, h.d0, h.d1, h.e0, h.e1, h.f0, h.f1⟩

/-- The carry out of 128 places is what goes round. -/
theorem carry_128 (A B c : Nat) (ha : A < 2 ^ 128) (hb : B < 2 ^ 128) : cB A B c 128 = decide (2 ^ 128 ≤ A + B + c) := by
  unfold cB; rw [Nat.mod_eq_of_lt ha, Nat.mod_eq_of_lt hb]
theorem from_mod (f : Nat → Bool) (S x : Nat) (h : IsFrom f 128 x) (hf : ∀ j, j < 128 → f j = S.testBit j) : x = S % 2 ^ 128 := by
  apply Nat.eq_of_testBit_eq
  intro j
  rw [h j, Nat.testBit_mod_two_pow]
  by_cases c : j < 128
  · simp [c, hf j c]
  · simp [c]

set_option maxHeartbeats 1600000 in
theorem radd_any (ah al bh bl : Int) (h1 : Word ah) (h2 : Word al) (h3 : Word bh) (h4 : Word bl) (w : World) :
    Calls Try.prog 87 #[.agg #[.int .u64 ah, .int .u64 al], .agg #[.int .u64 bh, .int .u64 bl]] w fun e w' =>
      ∃ (h l : Int) (c : Bool), e = .returned (.tuple #[.agg #[.int .u64 h, .int .u64 l], .bool c]) ∧ Word h ∧ Word l ∧
        Hid (num h l = (num ah al + num bh bl) % 340282366920938463463374607431768211456) ∧ Hid (c = decide (340282366920938463463374607431768211456 ≤ num ah al + num bh bl)) ∧ Below w.heap.size w w' := by
  go_enter Try.func87, Try.ntmps87
  go_upto_region 1 with fail
  go_cut [6] from 7 to 11 (fun s wx => ∃ b3 : Nat, s = .slice (some ⟨b3, 0, none⟩) 129 129 ∧ b3 < wx.heap.size ∧ RowB wx b3 129 (fun j => if j = 128 then cB (N ah al) (N bh bl) 0 128 else (N ah al + N bh bl + 0).testBit j) ∧ TwoMem w.heap.size ah al bh bl wx ∧ Below w.heap.size w wx)
  case first =>
    have m0 : TwoMem w.heap.size ah al bh bl (((w.alloc (.cells #[.int .u64 ah, .int .u64 al] 28)).alloc (.cells #[.int .u64 bh, .int .u64 bl] 28)).alloc (.cells #[.int .u64 0, .int .u64 0] 28)).drew := by
      constructor <;> first | (simp [go_sem]; done) | (simp; omega) | (exact ⟨0, by simp [go_sem]⟩)
    have b0 : Below w.heap.size w (((w.alloc (.cells #[.int .u64 ah, .int .u64 al] 28)).alloc (.cells #[.int .u64 bh, .int .u64 bl] 28)).alloc (.cells #[.int .u64 0, .int .u64 0] 28)).drew := (below_three _ _ _ _).drew
    go_region_held3 (fun w' => w'.cell? ⟨w.heap.size, 0, none⟩ = some (.int .u64 ah) ∧ w'.cell? ⟨w.heap.size, 1, none⟩ = some (.int .u64 al) ∧ w'.cell? ⟨w.heap.size + 1, 0, none⟩ = some (.int .u64 bh) ∧ w'.cell? ⟨w.heap.size + 1, 1, none⟩ = some (.int .u64 bl))
      (first | (simp [go_sem, *]; done) | (go_keep; done))
      (first
        | (go_at_call_of 36 ah; refine (bits_any ah al h1 h2 _).mono ?_; rintro e w1 ⟨q1, rfl, x1, y1, r1, _, B1⟩; have m1 := m0.below B1; obtain ⟨_, _, _, c0, c1, d0, d1, _, _, _, _⟩ := id m1; have L1 := b0.trans (B1.mono b0.size))
        | (go_at_call_of 36 bh; refine (bits_any bh bl h3 h4 _).mono ?_; rintro e w2 ⟨q2, rfl, x2, y2, r2, _, B2⟩; have m2 := m1.below B2; clear c0 c1 d0 d1; obtain ⟨_, _, _, c0, c1, d0, d1, _, _, _, _⟩ := id m2; have L2 := L1.trans (B2.mono L1.size); have r1' := r1.below B2 y1; have y1' : q1 < w2.heap.size := (by have := B2.size; omega))
        | (go_at_call 103; refine (add_bits q1 q2 (N ah al) (N bh bl) false _ r1' r2 y1' y2).mono ?_; rintro e w3 ⟨q3, rfl, y3, r3, B3⟩; have m3 := m2.below B3; clear c0 c1 d0 d1; obtain ⟨_, _, _, c0, c1, d0, d1, _, _, _, _⟩ := id m3; have L3 := L2.trans (B3.mono L2.size)))
    go_wp2_with fail
    go_meet
    exact ⟨q3, rfl, y3, r3, m3, L3⟩
  case rest =>
    obtain ⟨b3, rfl, y3, r3, m3, L3⟩ := hcut
    obtain ⟨s0, s1, s2, c0, c1, d0, d1, ⟨x0, e0⟩, ⟨x1, e1⟩, f0, f1⟩ := id m3
    have g := r3 128 (by decide)
    simp only [if_true] at g
    go_wp2_with fail
    go_region_held3 (fun w' => w'.cell? ⟨b3, 128, none⟩ = some (.bool (cB (N ah al) (N bh bl) 0 128)))
      (first | (simp [go_sem, *]; done) | (go_keep; done))
      ((go_at_call 95; refine (from_any b3 129 129 _ (by decide) _ r3.drew y3).mono ?_; rintro e w4 ⟨h, l, rfl, wh, wl, F, B4⟩; have m4 := m3.drew.below B4; clear s0 s1 s2 c0 c1 d0 d1 e0 e1 f0 f1; obtain ⟨s0, s1, s2, c0, c1, d0, d1, ⟨x2, e0⟩, ⟨x3, e1⟩, f0, f1⟩ := id m4; have g4 : w4.cell? ⟨b3, 128, none⟩ = some (.bool (cB (N ah al) (N bh bl) 0 128)) := ((bcell B4).1 _ _ y3).trans g))
    go_wp2
    refine bodyPost_ret (v := .tuple #[.agg #[.int .u64 h, .int .u64 l], .bool (cB (N ah al) (N bh bl) 0 128)]) (by simp [results, Try.results87, go_sem, *]) rfl ?_
    have y5 := L3.size
    refine ⟨h, l, _, rfl, wh, wl, ?_, ?_, ((L3.drew.trans (B4.mono y5)).setCell (by simp; omega) _).setCell (by simp; omega) _⟩
    · have e := from_mod _ (N ah al + N bh bl + 0) _ F (fun j hj => by rw [if_neg (by omega)])
      have a := N_cast h1 h2
      have b := N_cast h3 h4
      have c := N_cast wh wl
      show num h l = _
      rw [← a, ← b, ← c, e]
      have : (2 : Nat) ^ 128 = 340282366920938463463374607431768211456 := by decide
      omega
    · have a := N_cast h1 h2
      have b := N_cast h3 h4
      show _ = _
      rw [carry_128 _ _ _ (N_lt h1 h2) (N_lt h3 h4), ← a, ← b, decide_eq_decide]
      have : (2 : Nat) ^ 128 = 340282366920938463463374607431768211456 := by decide
      omega

/-! ### Differences -/
def flipTo (B k : Nat) (j : Nat) : Bool := if j < k then !B.testBit j else B.testBit j
theorem flipTo_succ (B k : Nat) : (fun i => if i = k then !B.testBit k else flipTo B k i) = flipTo B (k + 1) := by
  funext j
  unfold flipTo
  by_cases e : j = k
  · subst e; simp
  · by_cases c : j < k
    · have : j < k + 1 := by omega
      simp [e, c, this]
    · have : ¬ j < k + 1 := by omega
      simp [e, c, this]
theorem flip_bit (B j : Nat) (hB : B < 2 ^ 128) (hj : j < 128) : flipTo B 128 j = (2 ^ 128 - (B + 1)).testBit j := by
  unfold flipTo
  rw [Nat.testBit_two_pow_sub_succ hB]
  simp [hj]

set_option maxHeartbeats 1600000 in
theorem rsub_any (ah al bh bl : Int) (h1 : Word ah) (h2 : Word al) (h3 : Word bh) (h4 : Word bl) (w : World) :
    Calls Try.prog 90 #[.agg #[.int .u64 ah, .int .u64 al], .agg #[.int .u64 bh, .int .u64 bl]] w fun e w' =>
      ∃ (h l : Int) (c : Bool), e = .returned (.tuple #[.agg #[.int .u64 h, .int .u64 l], .bool c]) ∧ Word h ∧ Word l ∧
        Hid (num h l = (num ah al - num bh bl) % 340282366920938463463374607431768211456) ∧ Hid (c = decide (num ah al < num bh bl)) ∧ Below w.heap.size w w' := by
  have m0 : TwoMem w.heap.size ah al bh bl (((w.alloc (.cells #[.int .u64 ah, .int .u64 al] 28)).alloc (.cells #[.int .u64 bh, .int .u64 bl] 28)).alloc (.cells #[.int .u64 0, .int .u64 0] 28)) := by
    constructor <;> first | (simp [go_sem]; done) | (simp; omega) | (exact ⟨0, by simp [go_sem]⟩)
  go_enter Try.func90, Try.ntmps90
  go_wp2_with fail
  refine (bits_any bh bl h3 h4 _).mono ?_
  rintro e w1 ⟨q, rfl, x1, y1, r1, fr1, B1⟩
  have m1 := m0.below B1
  have L1 := (below_three w _ _ _).trans (B1.mono (by simp; omega))
  simp at x1
  go_wp2_with fail
  go_loopw [7] (fun i wr => ∃ k : Nat, k ≤ 128 ∧ i = .int .i64 k ∧ q < wr.heap.size ∧ RowB wr q 128 (flipTo (N bh bl) k) ∧ RowF wr q 128 ∧ TwoMem w.heap.size ah al bh bl wr ∧ Below w.heap.size w wr) (fun i _ => 128 - (intOf i).toNat)
  case atStart => exact ⟨0, by omega, rfl, y1, r1.ext (fun i hi => by simp [flipTo]), fr1, m1, L1⟩
  case round =>
    obtain ⟨k, hk, rfl, y2, r2, fr2, m2, L2⟩ := hrel
    by_cases hlt : k < 128
    · have t1 : (k : Int) < 128 := by omega
      have g := r2 k hlt
      have g' : wr.cell? ⟨q, k, none⟩ = some (.bool ((N bh bl).testBit k)) := by rw [g]; simp [flipTo]
      have f' := fr2 k hlt
      clear g
      have hnot : ∀ (x : Bool) (w : World), (Op.unary .not (.bool x)).run Try.prog w = .ok (.bool (!x)) w := fun _ _ => rfl
      go_wp2
      go_roundw
      case rel =>
        refine ⟨k + 1, by omega, by go_num, by simpa using y2, ?_, fr2.set _ _, ?_, L2.setCell (by show _ ≤ q; omega) _⟩
        · rw [← flipTo_succ]
          exact r2.set k _ hlt
        · obtain ⟨s0, s1, s2, c0, c1, d0, d1, e0, e1, f0, f1⟩ := m2
          have n0 : q ≠ w.heap.size := by omega
          have n1 : q ≠ w.heap.size + 1 := by omega
          have n2 : q ≠ w.heap.size + 1 + 1 := by omega
          refine ⟨by simpa using s0, by simpa using s1, by simpa using s2, ?_, ?_, ?_, ?_, ?_, ?_, by simpa [go_sem] using f0, by simpa [go_sem] using f1⟩
          · rw [World.cell?_setCell_far _ _ _ _ n0]; exact c0
          · rw [World.cell?_setCell_far _ _ _ _ n0]; exact c1
          · rw [World.cell?_setCell_far _ _ _ _ n1]; exact d0
          · rw [World.cell?_setCell_far _ _ _ _ n1]; exact d1
          · rw [World.cell?_setCell_far _ _ _ _ n2]; exact e0
          · rw [World.cell?_setCell_far _ _ _ _ n2]; exact e1
      case measure => simp [intOf]; omega
    · have : k = 128 := by omega
      subst this
      obtain ⟨s0, s1, s2, c0, c1, d0, d1, ⟨x0, e0⟩, ⟨x1, e1⟩, f0, f1⟩ := id m2
      have r2' : RowB wr q 128 (2 ^ 128 - (N bh bl + 1)).testBit := r2.ext (fun i hi => flip_bit _ _ (N_lt h3 h4) hi)
      generalize hM : 2 ^ 128 - (N bh bl + 1) = M at r2'
      have HM : Hid _ := hM
      clear hM
      go_wp2_with fail
      refine (bits_any ah al h1 h2 _).mono ?_
      rintro e w3 ⟨q3, rfl, x3, y3, r3, _, B3⟩
      have m3 := m2.below B3
      have L3 := L2.trans (B3.mono L2.size)
      have r4 := r2'.below B3 y2
      have y4 : q < w3.heap.size := by have := B3.size; omega
      go_wp2_with fail
      refine (add_bits q3 q (N ah al) M true _ r3 r4 y3 y4).mono ?_
      rintro e w5 ⟨q5, rfl, y5, r5, B5⟩
      have m5 := m3.below B5
      have L5 := L3.trans (B5.mono L3.size)
      clear s0 s1 s2 c0 c1 d0 d1 e0 e1 f0 f1
      obtain ⟨s0, s1, s2, c0, c1, d0, d1, ⟨x2, e0⟩, ⟨x3, e1⟩, f0, f1⟩ := id m5
      have g := r5 128 (by decide)
      simp only [if_true] at g r5
      have hnot : ∀ (x : Bool) (w : World), (Op.unary .not (.bool x)).run Try.prog w = .ok (.bool (!x)) w := fun _ _ => rfl
      go_wp2_with fail
      go_region_held3 (fun w' => w'.cell? ⟨q5, 128, none⟩ = some (.bool (cB (N ah al) M 1 128)))
        (first | (simp [go_sem, *]; done) | (go_keep; done))
        ((go_at_call 95; refine (from_any q5 129 129 _ (by decide) _ r5.drew y5).mono ?_; rintro e w6 ⟨h, l, rfl, wh, wl, F, B6⟩; have m6 := m5.drew.below B6; clear s0 s1 s2 c0 c1 d0 d1 e0 e1 f0 f1; obtain ⟨s0, s1, s2, c0, c1, d0, d1, ⟨x4, e0⟩, ⟨x5, e1⟩, f0, f1⟩ := id m6; have g4 : w6.cell? ⟨q5, 128, none⟩ = some (.bool (cB (N ah al) M 1 128)) := ((bcell B6).1 _ _ y5).trans g))
      go_wp2
      refine bodyPost_ret (v := .tuple #[.agg #[.int .u64 h, .int .u64 l], .bool (!cB (N ah al) M 1 128)]) (by simp [results, Try.results90, go_sem, *]) rfl ?_
      have y7 := L5.size
      have a := N_cast h1 h2
      have b := N_cast h3 h4
      have c := N_cast wh wl
      have hM := HM.out
      have lb := N_lt h3 h4
      have p128 : (2 : Nat) ^ 128 = 340282366920938463463374607431768211456 := by decide
      refine ⟨h, l, _, rfl, wh, wl, ?_, ?_, ((L5.drew.trans (B6.mono y7)).setCell (by simp; omega) _).setCell (by simp; omega) _⟩
      · have e := from_mod _ (N ah al + M + 1) _ F (fun j hj => by rw [if_neg (by omega)])
        show num h l = _
        rw [← a, ← b, ← c, e]
        omega
      · show _ = _
        rw [carry_128 _ _ _ (N_lt h1 h2) (by omega), ← a, ← b, ← decide_not, decide_eq_decide]
        omega
end Go.Proofs.Ytmfmjinplieehaa
