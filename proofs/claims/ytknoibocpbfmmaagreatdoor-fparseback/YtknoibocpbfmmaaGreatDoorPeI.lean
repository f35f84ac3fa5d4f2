/- Print. -/
import Derived.Test.YtknoibocpbfmmaaGreatDoorPeH
import Derived.Test.YtknoibocpbfmmaaGreatDoorPdJ
import Derived.Test.YtknoibocpbfmmaaGreatDoorPbW
namespace Go.Proofs.YtknoibocpbfmmaaGreatDoor
open Go.RowKit
set_option linter.unusedVariables false
set_option linter.unusedSimpArgs false
/-- A program's text as Print tells it, and the error. -/
def prtP (p : Pg) : ByteArray × Nat := match ruP p with
  | none => (tx0, 4)
  | some _ => match prsL ⟨(pgL p).toArray⟩ with | .ok _ => (⟨(pgL p).toArray⟩, 0) | .error x => (tx0, x.1)
theorem prs_err {s : ByteArray} {x : Nat × Nat} (h : prsL s = .error x) : x.1 ≠ 0 := by
  unfold prsL at h
  cases hs : scanL s.toList with
  | error e =>
    rw [hs] at h
    cases h
    unfold scanL at hs
    split at hs
    · cases hs; decide
    · have : ∀ (m : Nat) (l : List UInt8) (a n : Nat) (e : Nat × Nat), l.length ≤ m → scanAt l a n = .error e → e.1 ≠ 0 := fun m => by
        induction m with
        | zero =>
          intro l a n e hl he
          rw [scanAt_end l a n (by omega)] at he; cases he
        | succ m ih =>
          intro l a n e hl he
          by_cases h0 : l.length = 0
          · rw [scanAt_end l a n h0] at he; cases he
          by_cases hk : (tok l).1 = 0
          · rw [scanAt_bad l a n h0 hk] at he; cases he; show 3 ≠ 0; decide
          by_cases hn : n = 2048
          · subst hn; rw [scanAt_full l a h0 hk] at he; cases he; show 5 ≠ 0; decide
          have hp := tok_pos hk
          rw [scanAt, if_neg h0, dif_neg hk, if_neg hn] at he
          cases hr : scanAt ((l.drop (tok l).2).drop (cnt 1 (l.drop (tok l).2))) (a + (tok l).2 + cnt 1 (l.drop (tok l).2)) (n + 1) with
          | ok r => rw [hr] at he; cases he
          | error e2 =>
            rw [hr] at he
            have he2 : (Except.error e2 : Except (Nat × Nat) (List (Nat × Nat × Nat))) = .error e := he
            cases he2
            exact ih _ _ _ _ (by rw [List.length_drop, List.length_drop]; omega) hr
      exact this _ _ _ _ _ (Nat.le_refl _) hs
  | ok t =>
    rw [hs] at h
    have := par_err h (tks_nm (scanL_len hs))
    omega
set_option maxRecDepth 100000 in
set_option maxHeartbeats 3200000 in
theorem pPrint (p : Pg) (S : Nat → Prop) (dv bv : Value) (w : World) (hO : OpsAt w) (hE : EvAt w) (hD : SlDc w dv p.1) (hT : SlS w S bv p.2) (hz : ∀ d ∈ p.1, d.1.size ≤ 9223372036854775807) (hf : p.2.szs) :
    Calls Tryz.prog 8 #[.agg #[dv, bv]] w fun e w' => e = .returned (.tuple #[.string (prtP p).1, .int .i64 ((prtP p).2 : Nat)]) ∧ Below w.heap.size w w' := by
  have gX := pb_new (Below.refl w.heap.size w) (.cells #[dv, bv] 25)
  have qX := World.alloc_heap_new w (.cells #[dv, bv] 25)
  obtain ⟨X, hX⟩ : ∃ X, w.alloc (.cells #[dv, bv] 25) = X := ⟨_, rfl⟩
  obtain ⟨b0, hb0⟩ : ∃ b, w.heap.size = b := ⟨_, rfl⟩
  have hOX : OpsAt X := by rw [← hX]; exact hO.bel gX
  have hEX : EvAt X := by
    obtain ⟨ev, h1, h2⟩ := hE
    exact ⟨ev, by rw [← hX]; exact pb_cell gX h1, h2⟩
  have hDX : SlDc X dv p.1 := by rw [← hX]; exact hD.bel gX
  have hTX : SlS X S bv p.2 := by rw [← hX]; exact hT.kp (Below.kp gX _)
  have kR := pright p.1 p.2 S dv bv X hOX (ops_lt hOX) hDX hTX hz hf
  rw [hX] at gX qX
  rw [hb0] at qX
  have c0 : X.cell? ⟨b0, 0, none⟩ = some dv := by simp [World.cell?, qX]
  have c1 : X.cell? ⟨b0, 1, none⟩ = some bv := by simp [World.cell?, qX]
  obtain ⟨dp, dq, rfl⟩ : ∃ o c, dv = .slice o p.1.length c := by obtain ⟨x, y, e, _⟩ := hD; exact ⟨x, y, e⟩
  obtain ⟨bp, bq, rfl⟩ : ∃ o c, bv = .slice o p.2.len c := by obtain ⟨x, y, e, _⟩ := hT; exact ⟨x, y, e⟩
  have hX' : Hid (w.alloc (.cells #[.slice dp p.1.length dq, .slice bp p.2.len bq] 25) = X) := hX
  have hb0' : Hid (w.heap.size = b0) := hb0
  have gX' : Hid (Below w.heap.size w X) := gX
  have hO' : Hid (OpsAt X ∧ EvAt X) := ⟨hOX, hEX⟩
  cases hr : ruP p with
  | none =>
    have em : (msP (p.1, p.2)).2 = false := by unfold msP; rw [show (p.1, p.2) = p from rfl, hr]
    have et : prtP p = (tx0, 4) := by unfold prtP; rw [hr]
    rw [em] at kR
    rw [et]
    clear hX hb0 gX hOX hEX hDX hTX hD hT hz hf em et hr hO hE qX
    go_enter Tryz.func8, Tryz.ntmps8
    go_upto_region 1 with fail
    rw [hX'.out]
    (try rw [hb0'.out])
    go_wp2_with (first
      | (go_at_call 17; (refine kR.mono ?_); rintro e v1 ⟨rfl, g1⟩)
      | fail)
    go_ret2
    exact ⟨rfl, pb_call gX'.out g1⟩
  | some cc =>
    have em : (msP (p.1, p.2)).2 = true := by unfold msP; rw [show (p.1, p.2) = p from rfl, hr]
    rw [em] at kR
    have sm := pg_small hr
    have kT0 := ptextOf p cc hr (by have := sm.1; omega) (by have := sm.2; omega) S (.slice dp p.1.length dq) (.slice bp p.2.len bq)
    have kT : ∀ V, Below X.heap.size X V → Calls Tryz.prog 18 #[.agg #[.slice dp p.1.length dq, .slice bp p.2.len bq]] V fun e w' => e = .returned (.string ⟨(pgL p).toArray⟩) ∧ Below V.heap.size V w' := fun V g => kT0 V (hOX.bel g) (hDX.bel g) (hTX.kp (Below.kp g _))
    obtain ⟨T, hT0⟩ : ∃ T : ByteArray, (⟨(pgL p).toArray⟩ : ByteArray) = T := ⟨_, rfl⟩
    have et : prtP p = match prsL T with | .ok _ => (T, 0) | .error x => (tx0, x.1) := by unfold prtP; rw [hr]; simp only; rw [hT0]
    rw [et]
    rw [hT0] at kT
    have kP : ∀ V, Below X.heap.size X V → Calls Tryz.prog 10 #[.string T] V fun e w' => PaR (prsL T) V e w' := fun V g => by
      refine pParse T V (hO'.out.1.bel g) ?_
      obtain ⟨ev, h1, h2⟩ := hO'.out.2
      exact ⟨ev, pb_cell g h1, h2⟩
    clear hX hb0 gX hOX hEX hDX hTX hD hT hz hf em et hr hO hE qX hT0 kT0 sm
    cases hp : prsL T with
    | error x =>
      have x0 := prs_err hp
      rw [hp] at kP
      obtain ⟨E, A⟩ := x
      have x1 : (((E : Nat) : Int) != 0) = true := by
        have : E ≠ 0 := x0
        rw [bne_iff_ne]; omega
      clear hp x0
      go_enter Tryz.func8, Tryz.ntmps8
      go_upto_region 1 with fail
      rw [hX'.out]
      (try rw [hb0'.out])
      go_upto_region 4 with (first
        | (go_at_call 17; (refine kR.mono ?_); rintro e v1 ⟨rfl, g1⟩; replace c0 := pb_cell g1 c0; replace c1 := pb_cell g1 c1)
        | (go_at_call 18; (refine (kT _ g1).mono ?_); rintro e v2 ⟨rfl, g2⟩)
        | fail)
      clear c0 c1
      have gg := pb_call g1 g2
      go_wp2_with (first
        | (go_at_call 10; (refine (kP _ gg).mono ?_); rintro e v3 ⟨g3, rfl⟩)
        | fail)
      go_ret2
      exact ⟨rfl, pb_new (pb_call gX'.out (pb_call gg g3)) _⟩
    | ok q =>
      rw [hp] at kP
      clear hp
      go_enter Tryz.func8, Tryz.ntmps8
      go_upto_region 1 with fail
      rw [hX'.out]
      (try rw [hb0'.out])
      go_upto_region 4 with (first
        | (go_at_call 17; (refine kR.mono ?_); rintro e v1 ⟨rfl, g1⟩; replace c0 := pb_cell g1 c0; replace c1 := pb_cell g1 c1)
        | (go_at_call 18; (refine (kT _ g1).mono ?_); rintro e v2 ⟨rfl, g2⟩)
        | fail)
      clear c0 c1
      have gg := pb_call g1 g2
      go_wp2_with (first
        | (go_at_call 10; (refine (kP _ gg).mono ?_); rintro e v3 ⟨g3, wo, wc, xo, xc, rfl, _, _, _⟩)
        | fail)
      go_ret2
      exact ⟨rfl, pb_new (pb_call gX'.out (pb_call gg g3)) _⟩
end Go.Proofs.YtknoibocpbfmmaaGreatDoor

