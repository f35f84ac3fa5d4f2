/- Texts of the proof, put together. -/
import Derived.Test.YtgdknlnpfnifiaaGreatTG2
import Derived.Test.YtgdknlnpfnifiaaGreatTMB3
import Derived.Test.YtgdknlnpfnifiaaGreatTG3
import Derived.Deep.QuietTactic
import Derived.BigQuiet
import Derived.Deep.RegionHeld3
namespace Go.Proofs.YtgdknlnpfnifiaaGreat
open Go.RowKit
set_option linter.unusedVariables false
set_option linter.unusedSimpArgs false
theorem sp_dNr {w W : World} (h : Below w.heap.size w W) (n : Nat) : Below w.heap.size w (W.drewN n) := ⟨h.os, h.tape, h.output, h.size, h.block⟩
theorem sp_drewr {w W : World} (h : Below w.heap.size w W) : Below w.heap.size w W.drew := ⟨h.os, h.tape, h.output, h.size, h.block⟩
def lessF (s : Bool) (a b : Int) : Bool := (cmpF s a b).2 && decide ((cmpF s a b).1 < 0)
set_option maxRecDepth 100000 in
set_option maxHeartbeats 3200000 in
theorem rless_any (s : Bool) (a b : Int) (h1 : Word a) (h2 : Word b) (w : World) : Calls Tryz.prog 41 #[.int .i64 (fb s), .int .u64 a, .int .u64 b] w fun e w' => e = .returned (.bool (lessF s a b)) ∧ ∃ n, w' = w.drewN n := by
  have hc := rcompare_any s a b h1 h2
  unfold lessF
  generalize cmpF s a b = c at *
  generalize fb s = f at *
  obtain ⟨c1, c2⟩ := c
  dsimp only at *
  cases c2
  · go_enter Tryz.func41, Tryz.ntmps41
    go_wp2_with (go_at_call 99; refine (hc _).mono ?_; rintro e w1 ⟨rfl, n, rfl⟩)
    go_ret
    exact ⟨rfl, n, rfl⟩
  · by_cases q : c1 < 0
    · rw [decide_eq_true q]
      go_enter Tryz.func41, Tryz.ntmps41
      go_wp2_with (go_at_call 99; refine (hc _).mono ?_; rintro e w1 ⟨rfl, n, rfl⟩)
      go_ret
      exact ⟨rfl, n, rfl⟩
    · rw [decide_eq_false q]
      have q' : decide (c1 < 0) = false := decide_eq_false q
      clear q
      go_enter Tryz.func41, Tryz.ntmps41
      go_wp2_with (go_at_call 99; refine (hc _).mono ?_; rintro e w1 ⟨rfl, n, rfl⟩)
      go_ret
      exact ⟨rfl, n, rfl⟩
def rRF (s : Bool) (e : Bool) (a b : Int) : Bool := if e then (a == 0 && b == 0) else finF s a && (finF s b && ((plainF s a == a) && ((plainF s b == b) && !lessF s b a)))
set_option maxRecDepth 100000 in
set_option maxHeartbeats 3200000 in
theorem rrightF_any (s : Bool) (e : Bool) (a b : Int) (h1 : Word a) (h2 : Word b) (w : World) : Calls Tryz.prog 12 #[.int .i64 (fb s), .agg #[.bool e, .int .u64 a, .int .u64 b]] w fun r w' => r = .returned (.bool (rRF s e a b)) ∧ Below w.heap.size w w' := by
  have f1 := rfinite_any s a h1
  have f2 := rfinite_any s b h2
  have p1 := rplain3_any s a h1
  have p2 := rplain3_any s b h2
  have l1 := rless_any s b a h2 h1
  unfold rRF
  generalize finF s a = F1 at *
  generalize finF s b = F2 at *
  generalize plainF s a = P1 at *
  generalize plainF s b = P2 at *
  generalize lessF s b a = L1 at *
  generalize fb s = f at *
  cases e
  · simp only [Bool.false_eq_true, if_false]
    cases F1
    · skip
      go_enter Tryz.func12, Tryz.ntmps12
      go_upto_region 3 with fail
      go_quiet ((first
        | (go_at_call_of 43 a; exact Calls.quiet_of (f1 _))
        | (go_at_call_of 43 b; exact Calls.quiet_of (f2 _))
        | (go_at_call 41; exact Calls.quiet_of (l1 _))
        | (go_at_call_of 44 a; exact Calls.quiet_of (p1 _))
        | (go_at_call_of 44 b; exact Calls.quiet_of (p2 _))
        | fail))
      go_wp2
      go_ret
      exact ⟨by simp [*], by (repeat (first | with_reducible exact Below.refl _ _ | with_reducible refine sp_dNr ?_ _ | with_reducible refine sp_new ?_ _ | with_reducible refine sp_drewr ?_))⟩
    · skip
      cases F2
      · skip
        go_enter Tryz.func12, Tryz.ntmps12
        go_upto_region 3 with fail
        go_quiet ((first
          | (go_at_call_of 43 a; exact Calls.quiet_of (f1 _))
          | (go_at_call_of 43 b; exact Calls.quiet_of (f2 _))
          | (go_at_call 41; exact Calls.quiet_of (l1 _))
          | (go_at_call_of 44 a; exact Calls.quiet_of (p1 _))
          | (go_at_call_of 44 b; exact Calls.quiet_of (p2 _))
          | fail))
        go_wp2
        go_ret
        exact ⟨by simp [*], by (repeat (first | with_reducible exact Below.refl _ _ | with_reducible refine sp_dNr ?_ _ | with_reducible refine sp_new ?_ _ | with_reducible refine sp_drewr ?_))⟩
      · skip
        rcases hq1 : (P1 == a) with _ | _
        · skip
          go_enter Tryz.func12, Tryz.ntmps12
          go_upto_region 3 with fail
          go_quiet ((first
            | (go_at_call_of 43 a; exact Calls.quiet_of (f1 _))
            | (go_at_call_of 43 b; exact Calls.quiet_of (f2 _))
            | (go_at_call 41; exact Calls.quiet_of (l1 _))
            | (go_at_call_of 44 a; exact Calls.quiet_of (p1 _))
            | (go_at_call_of 44 b; exact Calls.quiet_of (p2 _))
            | fail))
          go_wp2
          go_ret
          exact ⟨by simp [*], by (repeat (first | with_reducible exact Below.refl _ _ | with_reducible refine sp_dNr ?_ _ | with_reducible refine sp_new ?_ _ | with_reducible refine sp_drewr ?_))⟩
        · skip
          rcases hq2 : (P2 == b) with _ | _
          · skip
            go_enter Tryz.func12, Tryz.ntmps12
            go_upto_region 3 with fail
            go_quiet ((first
              | (go_at_call_of 43 a; exact Calls.quiet_of (f1 _))
              | (go_at_call_of 43 b; exact Calls.quiet_of (f2 _))
              | (go_at_call 41; exact Calls.quiet_of (l1 _))
              | (go_at_call_of 44 a; exact Calls.quiet_of (p1 _))
              | (go_at_call_of 44 b; exact Calls.quiet_of (p2 _))
              | fail))
            go_wp2
            go_ret
            exact ⟨by simp [*], by (repeat (first | with_reducible exact Below.refl _ _ | with_reducible refine sp_dNr ?_ _ | with_reducible refine sp_new ?_ _ | with_reducible refine sp_drewr ?_))⟩
          · skip
            cases L1
            · skip
              go_enter Tryz.func12, Tryz.ntmps12
              go_upto_region 3 with fail
              go_quiet ((first
                | (go_at_call_of 43 a; exact Calls.quiet_of (f1 _))
                | (go_at_call_of 43 b; exact Calls.quiet_of (f2 _))
                | (go_at_call 41; exact Calls.quiet_of (l1 _))
                | (go_at_call_of 44 a; exact Calls.quiet_of (p1 _))
                | (go_at_call_of 44 b; exact Calls.quiet_of (p2 _))
                | fail))
              go_wp2
              go_ret
              exact ⟨by simp [*], by (repeat (first | with_reducible exact Below.refl _ _ | with_reducible refine sp_dNr ?_ _ | with_reducible refine sp_new ?_ _ | with_reducible refine sp_drewr ?_))⟩
            · skip
              go_enter Tryz.func12, Tryz.ntmps12
              go_upto_region 3 with fail
              go_quiet ((first
                | (go_at_call_of 43 a; exact Calls.quiet_of (f1 _))
                | (go_at_call_of 43 b; exact Calls.quiet_of (f2 _))
                | (go_at_call 41; exact Calls.quiet_of (l1 _))
                | (go_at_call_of 44 a; exact Calls.quiet_of (p1 _))
                | (go_at_call_of 44 b; exact Calls.quiet_of (p2 _))
                | fail))
              go_wp2
              go_ret
              exact ⟨by simp [*], by (repeat (first | with_reducible exact Below.refl _ _ | with_reducible refine sp_dNr ?_ _ | with_reducible refine sp_new ?_ _ | with_reducible refine sp_drewr ?_))⟩
  · simp only [if_true]
    rcases hq1 : (a == 0) with _ | _
    · go_enter Tryz.func12, Tryz.ntmps12
      go_wp2_with fail
      go_ret
      exact ⟨by simp [*], sp_new (Below.refl _ _) _⟩
    · rcases hq2 : (b == 0) with _ | _
      all_goals
        go_enter Tryz.func12, Tryz.ntmps12
        go_wp2_with fail
        go_ret
        exact ⟨by simp [*], sp_new (Below.refl _ _) _⟩
end Go.Proofs.YtgdknlnpfnifiaaGreat


namespace Go.Proofs.YtgdknlnpfnifiaaGreat
open Go.RowKit
set_option linter.unusedVariables false
set_option linter.unusedSimpArgs false
theorem sp_set1r {w W : World} (h : Below w.heap.size w W) {b j : Nat} (hb : w.heap.size ≤ b) (x : Value) : Below w.heap.size w (W.setCell ⟨b, j, none⟩ x) := h.setCell (p := ⟨b, j, none⟩) hb x
set_option maxRecDepth 100000 in
set_option maxHeartbeats 6400000 in
theorem rnoneF (w : World) : Calls Tryz.prog 28 #[] w fun e w' => e = .returned (.agg #[.bool true, .int .u64 0, .int .u64 0]) ∧ w' = w.alloc (.cells #[.bool true, .int .u64 0, .int .u64 0] 26) := by
  go_enter Tryz.func28, Tryz.ntmps28
  go_wp2_with fail
  exact bodyPost_ret (v := .agg #[.bool true, .int .u64 0, .int .u64 0]) (by simp [results, Tryz.results28, go_sem]) rfl ⟨rfl, rfl⟩
set_option maxRecDepth 100000 in
set_option maxHeartbeats 6400000 in
theorem rleastF (s : Bool) (w : World) : Calls Tryz.prog 34 #[.int .i64 (fb s)] w fun e w' => e = .returned (.int .u64 (negF s (fI s - 1))) ∧ ∃ n, w' = w.drewN n := by
  have hm := rmost_any s
  have hw : Word (fI s - 1) := by cases s <;> exact ⟨by decide, by decide⟩
  have hn := rneg_any s (fI s - 1) hw
  generalize negF s (fI s - 1) = L at *
  generalize fI s - 1 = M at *
  generalize fb s = f at *
  go_enter Tryz.func34, Tryz.ntmps34
  go_wp2_with (first
    | (go_at_call 37; refine (hm _).mono ?_; rintro e w1 ⟨rfl, rfl⟩)
    | (go_at_call 39; refine (hn _).mono ?_; rintro e w2 ⟨rfl, n2, rfl⟩)
    | fail)
  go_ret
  exact ⟨rfl, n2, rfl⟩
end Go.Proofs.YtgdknlnpfnifiaaGreat


namespace Go.Proofs.YtgdknlnpfnifiaaGreat
open Go.RowKit
set_option linter.unusedVariables false
set_option linter.unusedSimpArgs false
def rOfF (s : Bool) (x y : Int) : Bool × Int × Int := if rRF s false (plainF s x) (plainF s y) then (false, plainF s x, plainF s y) else (true, 0, 0)
theorem bcellr {W w1 : World} (hb : Below W.heap.size W w1) : (∀ b o, b < W.heap.size → w1.cell? ⟨b, o, none⟩ = W.cell? ⟨b, o, none⟩) ∧ (∀ b o, b < W.heap.size → w1.frozen? ⟨b, o, none⟩ = W.frozen? ⟨b, o, none⟩) :=
  ⟨fun b o h => hb.cell (p := ⟨b, o, none⟩) h, fun b o h => hb.frozen (p := ⟨b, o, none⟩) h⟩
theorem sp_callr {w W w1 : World} (h : Below w.heap.size w W) (hb : Below W.heap.size W w1) : Below w.heap.size w w1 := h.trans (hb.mono h.size)
set_option maxRecDepth 100000 in
set_option maxHeartbeats 6400000 in
theorem rofF_any (s : Bool) (x y : Int) (h1 : Word x) (h2 : Word y) (w : World) : Calls Tryz.prog 33 #[.int .i64 (fb s), .int .u64 x, .int .u64 y] w fun e w' => e = .returned (.agg #[.bool (rOfF s x y).1, .int .u64 (rOfF s x y).2.1, .int .u64 (rOfF s x y).2.2]) ∧ Below w.heap.size w w' := by
  have hda : ∀ (w : World) (n : Nat) (o : Obj), (w.drewN n).alloc o = (w.alloc o).drewN n := fun _ _ _ => rfl
  have hds : ∀ (w : World) (n : Nat) (p : Addr) (v : Value), (w.drewN n).setCell p v = (w.setCell p v).drewN n := fun _ _ _ _ => rfl
  have nb : ∀ V, Calls Tryz.prog 28 #[] V fun e w' => e = .returned (.agg #[.bool true, .int .u64 0, .int .u64 0]) ∧ Below V.heap.size V w' := fun V => (rnoneF V).mono fun e w' h => ⟨h.1, by rw [h.2]; exact sp_new (Below.refl _ _) _⟩
  have p1 := rplain3_any s x h1
  have p2 := rplain3_any s y h2
  have hr := rrightF_any s false (plainF s x) (plainF s y) (n_plainw s x h1) (n_plainw s y h2)
  unfold rOfF
  generalize rRF s false (plainF s x) (plainF s y) = R at *
  generalize plainF s x = X at *
  generalize plainF s y = Y at *
  generalize fb s = f at *
  cases R
  · simp only [Bool.false_eq_true, if_false]
    go_enter Tryz.func33, Tryz.ntmps33
    go_wp2_with (first
      | (go_at_call 44; refine (p1 _).mono ?_; rintro e w1 ⟨rfl, n1, rfl⟩; clear p1)
      | (go_at_call 44; refine (p2 _).mono ?_; rintro e w2 ⟨rfl, n2, rfl⟩; clear p2)
      | (go_at_call 12; refine (hr _).mono ?_; rintro e w3 ⟨rfl, g⟩; obtain ⟨hc, hf⟩ := bcellr g; have r0 : w3.cell? ⟨w.heap.size, 0, none⟩ = some (.bool false) := (hc _ _ (by simp; omega)).trans (by simp [go_sem]); have r1 : w3.cell? ⟨w.heap.size, 1, none⟩ = some (.int .u64 0) := (hc _ _ (by simp; omega)).trans (by simp [go_sem]); have r2 : w3.cell? ⟨w.heap.size, 2, none⟩ = some (.int .u64 0) := (hc _ _ (by simp; omega)).trans (by simp [go_sem]); have t0 : w3.cell? ⟨w.heap.size + 1, 0, none⟩ = some (.bool false) := (hc _ _ (by simp)).trans (by simp [go_sem]); have t1 : w3.cell? ⟨w.heap.size + 1, 1, none⟩ = some (.int .u64 X) := (hc _ _ (by simp)).trans (by simp [go_sem]); have t2 : w3.cell? ⟨w.heap.size + 1, 2, none⟩ = some (.int .u64 Y) := (hc _ _ (by simp)).trans (by simp [go_sem]); have fz : ∀ j, w3.frozen? ⟨w.heap.size, j, none⟩ = false := fun j => (hf _ _ (by simp; omega)).trans (by simp [go_sem]); have zg : w.heap.size + 1 < w3.heap.size := (by have := g.size; simp at this; omega); have zh : w.heap.size < w3.heap.size := (by omega); have b1 := sp_callr (show Below w.heap.size w _ by (repeat (first | with_reducible exact Below.refl _ _ | with_reducible assumption | with_reducible refine sp_dNr ?_ _ | with_reducible refine sp_new ?_ _ | with_reducible refine sp_drewr ?_ | with_reducible refine sp_set1r ?_ (by omega) _))) g; clear hc hf g)
      | (go_at_call 28; refine (nb _).mono ?_; rintro e w9 ⟨rfl, g⟩; replace fz := fun j => (g.frozen (p := ⟨w.heap.size, j, none⟩) zh).trans (fz j); replace r0 := sO g r0; replace r1 := sO g r1; replace r2 := sO g r2; replace b1 := sp_call b1 g; clear g)
      | fail)
    exact bodyPost_ret (v := .agg #[.bool true, .int .u64 0, .int .u64 0]) (by simp [results, Tryz.results33, go_sem, r0, r1, r2]) rfl ⟨by simp, by (repeat (first | with_reducible exact Below.refl _ _ | with_reducible assumption | with_reducible refine sp_dNr ?_ _ | with_reducible refine sp_new ?_ _ | with_reducible refine sp_drewr ?_ | with_reducible refine sp_set1r ?_ (by omega) _))⟩
  · simp only [if_true]
    go_enter Tryz.func33, Tryz.ntmps33
    go_wp2_with (first
      | (go_at_call 44; refine (p1 _).mono ?_; rintro e w1 ⟨rfl, n1, rfl⟩; clear p1)
      | (go_at_call 44; refine (p2 _).mono ?_; rintro e w2 ⟨rfl, n2, rfl⟩; clear p2)
      | (go_at_call 12; refine (hr _).mono ?_; rintro e w3 ⟨rfl, g⟩; obtain ⟨hc, hf⟩ := bcellr g; have r0 : w3.cell? ⟨w.heap.size, 0, none⟩ = some (.bool false) := (hc _ _ (by simp; omega)).trans (by simp [go_sem]); have r1 : w3.cell? ⟨w.heap.size, 1, none⟩ = some (.int .u64 0) := (hc _ _ (by simp; omega)).trans (by simp [go_sem]); have r2 : w3.cell? ⟨w.heap.size, 2, none⟩ = some (.int .u64 0) := (hc _ _ (by simp; omega)).trans (by simp [go_sem]); have t0 : w3.cell? ⟨w.heap.size + 1, 0, none⟩ = some (.bool false) := (hc _ _ (by simp)).trans (by simp [go_sem]); have t1 : w3.cell? ⟨w.heap.size + 1, 1, none⟩ = some (.int .u64 X) := (hc _ _ (by simp)).trans (by simp [go_sem]); have t2 : w3.cell? ⟨w.heap.size + 1, 2, none⟩ = some (.int .u64 Y) := (hc _ _ (by simp)).trans (by simp [go_sem]); have fz : ∀ j, w3.frozen? ⟨w.heap.size, j, none⟩ = false := fun j => (hf _ _ (by simp; omega)).trans (by simp [go_sem]); have zg : w.heap.size + 1 < w3.heap.size := (by have := g.size; simp at this; omega); have zh : w.heap.size < w3.heap.size := (by omega); have b1 := sp_callr (show Below w.heap.size w _ by (repeat (first | with_reducible exact Below.refl _ _ | with_reducible assumption | with_reducible refine sp_dNr ?_ _ | with_reducible refine sp_new ?_ _ | with_reducible refine sp_drewr ?_ | with_reducible refine sp_set1r ?_ (by omega) _))) g; clear hc hf g)
      | fail)
    exact bodyPost_ret (v := .agg #[.bool false, .int .u64 X, .int .u64 Y]) (by simp [results, Tryz.results33, go_sem, r0, r1, r2]) rfl ⟨by simp, by (repeat (first | with_reducible exact Below.refl _ _ | with_reducible assumption | with_reducible refine sp_dNr ?_ _ | with_reducible refine sp_new ?_ _ | with_reducible refine sp_drewr ?_ | with_reducible refine sp_set1r ?_ (by omega) _))⟩
end Go.Proofs.YtgdknlnpfnifiaaGreat


