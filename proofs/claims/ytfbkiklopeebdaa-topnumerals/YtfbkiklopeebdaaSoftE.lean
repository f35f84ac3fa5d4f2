/- Rounding: a quarter more, and the size. -/
import Derived.Test.YtfbkiklopeebdaaSoftD
namespace Go.Proofs.Ytfbkiklopeebdaa
open Go.RowKit
set_option linter.unusedVariables false
set_option linter.unusedSimpArgs false
theorem set2_in {w : World} {b : Nat} {u v : Value} (x y : Value) (c0 : w.cell? ⟨b, 0, none⟩ = some u) (c1 : w.cell? ⟨b, 1, none⟩ = some v) :
    ((w.setCell ⟨b, 0, none⟩ x).setCell ⟨b, 1, none⟩ y).cell? ⟨b, 0, none⟩ = some x ∧ ((w.setCell ⟨b, 0, none⟩ x).setCell ⟨b, 1, none⟩ y).cell? ⟨b, 1, none⟩ = some y :=
  ⟨(World.cell?_setCell_other _ _ _ _ (by simp)).trans (World.cell?_setCell_same _ _ _ c0), World.cell?_setCell_same _ _ _ ((World.cell?_setCell_other _ _ _ _ (by simp)).trans c1)⟩
theorem set2_out {w : World} {b c o : Nat} {u : Value} (x y : Value) (h : b ≠ c) (c0 : w.cell? ⟨c, o, none⟩ = some u) (f : w.frozen? ⟨c, o, none⟩ = false) :
    ((w.setCell ⟨b, 0, none⟩ x).setCell ⟨b, 1, none⟩ y).cell? ⟨c, o, none⟩ = some u ∧ ((w.setCell ⟨b, 0, none⟩ x).setCell ⟨b, 1, none⟩ y).frozen? ⟨c, o, none⟩ = false :=
  ⟨(World.cell?_setCell_other _ _ _ _ (by simp [h])).trans ((World.cell?_setCell_other _ _ _ _ (by simp [h])).trans c0), by simp [f]⟩
set_option maxRecDepth 5000 in
set_option maxHeartbeats 800000 in
theorem withQuarter_any (ah al e0 : Int) (h1 : Word ah) (h2 : Word al) (e1 : -4000 ≤ e0) (e2 : e0 ≤ 4000) (w : World) :
    Calls Try.prog 26 #[.agg #[.int .u64 ah, .int .u64 al], .int .i64 e0] w fun e w' =>
      ∃ h l x : Int, e = .returned (.tuple #[.agg #[.int .u64 h, .int .u64 l], .int .i64 x]) ∧ Word h ∧ Word l ∧ -4002 ≤ x ∧ x ≤ 4000 ∧ Hid (nn h l ≠ 0) ∧ Hid (∀ s m b, rnd s m b (nn h l) x = rndQ s m b (nn ah al) e0 true) ∧ Below w.heap.size w w' := by
  have hl := len_ex ah al h1 h2
  have hs := shl_any ah al 2 h1 h2 (by decide) (by decide)
  have hn := blen_128 h1 h2
  by_cases c : 126 < blen (nn ah al)
  · have HQ : Hid _ := quarter_great h1 h2 c
    have HN : Hid (nn ah (al / 2 * 2 + 1) ≠ 0) := by have := odd_num h1 h2; show _ ≠ 0; omega
    have o := or_odd al h2
    have o2 := odd_word h2
    generalize blen (nn ah al) = n at *
    have c2 : (126 : Int) < (n : Int) := by omega
    clear hs
    go_enter Try.func26, Try.ntmps26
    go_wp2_with (go_at_call 17; refine (hl _).mono ?_; rintro e w1 ⟨rfl, rfl⟩)
    refine bodyPost_ret (v := .tuple #[.agg #[.int .u64 ah, .int .u64 (al / 2 * 2 + 1)], .int .i64 e0]) (by simp [results, Try.results26, go_sem]) rfl ?_
    exact ⟨_, _, _, rfl, h1, o2, by omega, e2, HN, fun s m b => HQ.out s m b e0, below_three _ _ _ _⟩
  · have HR : Hid (∀ h l, Word h → Word l → num h l = num ah al * 2 ^ Int.toNat 2 % 340282366920938463463374607431768211456 → nn h (l / 2 * 2 + 1) = 4 * nn ah al + 1) := fun h l w3 w4 E => quarter_small h1 h2 (by omega) w3 w4 E
    generalize hN : blen (nn ah al) = n at *
    have c2 : ¬ (126 : Int) < (n : Int) := by omega
    clear hN
    have b := below_three w (.cells #[.int .u64 ah, .int .u64 al] 49) (.cells #[.int .u64 0, .int .u64 0] 49) (.cells #[.int .u64 ah, .int .u64 al] 49)
    go_enter Try.func26, Try.ntmps26
    go_wp2_with (go_at_call 17; refine (hl _).mono ?_; rintro e w1 ⟨rfl, rfl⟩)
    refine (hs _).mono ?_
    rintro e w2 ⟨h, l, rfl, w3, w4, E, hb2⟩
    have o := or_odd l w4
    have o2 := odd_word w4
    have K : Hid _ := HR.out h l w3 w4 E.out
    clear E HR
    obtain ⟨hc, hf⟩ := bcell hb2
    have c0 : w2.cell? ⟨w.heap.size, 0, none⟩ = some (.int .u64 ah) := by rw [hc _ _ (by simp; omega)]; simp [go_sem]
    have c1 : w2.cell? ⟨w.heap.size, 1, none⟩ = some (.int .u64 al) := by rw [hc _ _ (by simp; omega)]; simp [go_sem]
    have r0 : w2.cell? ⟨w.heap.size + 1, 0, none⟩ = some (.int .u64 0) := by rw [hc _ _ (by simp)]; simp [go_sem]
    have r1 : w2.cell? ⟨w.heap.size + 1, 1, none⟩ = some (.int .u64 0) := by rw [hc _ _ (by simp)]; simp [go_sem]
    have f0 : w2.frozen? ⟨w.heap.size, 0, none⟩ = false := by rw [hf _ _ (by simp; omega)]; simp [go_sem]
    have f1 : w2.frozen? ⟨w.heap.size, 1, none⟩ = false := by rw [hf _ _ (by simp; omega)]; simp [go_sem]
    have g0 : w2.frozen? ⟨w.heap.size + 1, 0, none⟩ = false := by rw [hf _ _ (by simp)]; simp [go_sem]
    have g1 : w2.frozen? ⟨w.heap.size + 1, 1, none⟩ = false := by rw [hf _ _ (by simp)]; simp [go_sem]
    replace b := below_call b hb2
    clear hc hf hb2 hs hl
    go_upto_region 5 with fail
    obtain ⟨q0, q1⟩ := set2_in (w := w2) (b := w.heap.size) (.int .u64 h) (.int .u64 l) c0 c1
    obtain ⟨q2, q5⟩ := set2_out (w := w2) (b := w.heap.size) (c := w.heap.size + 1) (o := 0) (.int .u64 h) (.int .u64 l) (by omega) r0 g0
    obtain ⟨q3, q6⟩ := set2_out (w := w2) (b := w.heap.size) (c := w.heap.size + 1) (o := 1) (.int .u64 h) (.int .u64 l) (by omega) r1 g1
    have q4 : ((w2.setCell ⟨w.heap.size, 0, none⟩ (.int .u64 h)).setCell ⟨w.heap.size, 1, none⟩ (.int .u64 l)).frozen? ⟨w.heap.size, 1, none⟩ = false := by simp [*]
    have q7 : Below w.heap.size w ((w2.setCell ⟨w.heap.size, 0, none⟩ (.int .u64 h)).setCell ⟨w.heap.size, 1, none⟩ (.int .u64 l)) := (b.setCell (Nat.le_refl _) _).setCell (Nat.le_refl _) _
    generalize (w2.setCell ⟨w.heap.size, 0, none⟩ (.int .u64 h)).setCell ⟨w.heap.size, 1, none⟩ (.int .u64 l) = W at *
    clear c0 c1 r0 r1 f0 f1 g0 g1 b
    go_wp2_with fail
    refine bodyPost_ret (v := .tuple #[.agg #[.int .u64 h, .int .u64 (l / 2 * 2 + 1)], .int .i64 (e0 - 2)]) (by simp [results, Try.results26, go_sem, *]) rfl ?_
    refine ⟨_, _, _, rfl, w3, o2, by omega, by omega, by have := K.out; show _ ≠ 0; omega, fun s m b => by rw [K.out]; rfl, ?_⟩
    exact ((q7.setCell (Nat.le_refl _) _).setCell (Nat.le_succ _) _).setCell (Nat.le_succ _) _
end Go.Proofs.Ytfbkiklopeebdaa

