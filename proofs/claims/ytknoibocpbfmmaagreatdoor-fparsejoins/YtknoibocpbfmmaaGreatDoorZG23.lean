/- Texts of the proof, put together. -/
import Derived.Test.YtknoibocpbfmmaaGreatDoorZPeH
import Derived.Test.YtknoibocpbfmmaaGreatDoorZG22
import Derived.Test.YtknoibocpbfmmaaGreatDoorZPbW
import Derived.Test.YtknoibocpbfmmaaGreatDoorRows
import Derived.ProofKit
import Derived.LaidMore
import Derived.LaidSub
import Derived.Lib.LaidTab
import Derived.OpenShut
import Derived.ChangeArms
import Derived.Stop.Joined
namespace Go.Proofs.YtknoibocpbfmmaaGreatDoor
open Go.RowKit
set_option linter.unusedVariables false
set_option linter.unusedSimpArgs false
/-- A program's text as Print tells it, and the error. -/
def prtP (p : Pg) : ByteArray × Nat := match ruP p with
  | none => (tx0, 4)
  | some _ => match prsL ⟨(pgL p).toArray⟩ with | .ok _ => (⟨(pgL p).toArray⟩, 0) | .error x => (tx0, x.1)
theorem prs_err {s : ByteArray} {x : Nat × Nat} (h : prsL s = .error x) : x.1 ≠ 0 := by
  unfold prsL at h
  cases hs : scanL s.toList with
  | error e =>
    rw [hs] at h
    cases h
    unfold scanL at hs
    split at hs
    · cases hs; decide
    · have : ∀ (m : Nat) (l : List UInt8) (a n : Nat) (e : Nat × Nat), l.length ≤ m → scanAt l a n = .error e → e.1 ≠ 0 := fun m => by
        induction m with
        | zero =>
          intro l a n e hl he
          rw [scanAt_end l a n (by omega)] at he; cases he
        | succ m ih =>
          intro l a n e hl he
          by_cases h0 : l.length = 0
          · rw [scanAt_end l a n h0] at he; cases he
          by_cases hk : (tok l).1 = 0
          · rw [scanAt_bad l a n h0 hk] at he; cases he; show 3 ≠ 0; decide
          by_cases hn : n = 2048
          · subst hn; rw [scanAt_full l a h0 hk] at he; cases he; show 5 ≠ 0; decide
          have hp := tok_pos hk
          rw [scanAt, if_neg h0, dif_neg hk, if_neg hn] at he
          cases hr : scanAt ((l.drop (tok l).2).drop (cnt 1 (l.drop (tok l).2))) (a + (tok l).2 + cnt 1 (l.drop (tok l).2)) (n + 1) with
          | ok r => rw [hr] at he; cases he
          | error e2 =>
            rw [hr] at he
            have he2 : (Except.error e2 : Except (Nat × Nat) (List (Nat × Nat × Nat))) = .error e := he
            cases he2
            exact ih _ _ _ _ (by rw [List.length_drop, List.length_drop]; omega) hr
      exact this _ _ _ _ _ (Nat.le_refl _) hs
  | ok t =>
    rw [hs] at h
    have := par_err h (tks_nm (scanL_len hs))
    omega
set_option maxRecDepth 100000 in
set_option maxHeartbeats 3200000 in
theorem pPrint (p : Pg) (S : Nat → Prop) (dv bv : Value) (w : World) (hO : OpsAt w) (hE : EvAt w) (hD : SlDc w dv p.1) (hT : SlS w S bv p.2) (hz : ∀ d ∈ p.1, d.1.size ≤ 9223372036854775807) (hf : p.2.szs) :
    Calls Tryz.prog 8 #[.agg #[dv, bv]] w fun e w' => e = .returned (.tuple #[.string (prtP p).1, .int .i64 ((prtP p).2 : Nat)]) ∧ Below w.heap.size w w' := by
  have gX := pb_new (Below.refl w.heap.size w) (.cells #[dv, bv] 25)
  have qX := World.alloc_heap_new w (.cells #[dv, bv] 25)
  obtain ⟨X, hX⟩ : ∃ X, w.alloc (.cells #[dv, bv] 25) = X := ⟨_, rfl⟩
  obtain ⟨b0, hb0⟩ : ∃ b, w.heap.size = b := ⟨_, rfl⟩
  have hOX : OpsAt X := by rw [← hX]; exact hO.bel gX
  have hEX : EvAt X := by
    obtain ⟨ev, h1, h2⟩ := hE
    exact ⟨ev, by rw [← hX]; exact pb_cell gX h1, h2⟩
  have hDX : SlDc X dv p.1 := by rw [← hX]; exact hD.bel gX
  have hTX : SlS X S bv p.2 := by rw [← hX]; exact hT.kp (Below.kp gX _)
  have kR := pright p.1 p.2 S dv bv X hOX (ops_lt hOX) hDX hTX hz hf
  rw [hX] at gX qX
  rw [hb0] at qX
  have c0 : X.cell? ⟨b0, 0, none⟩ = some dv := by simp [World.cell?, qX]
  have c1 : X.cell? ⟨b0, 1, none⟩ = some bv := by simp [World.cell?, qX]
  obtain ⟨dp, dq, rfl⟩ : ∃ o c, dv = .slice o p.1.length c := by obtain ⟨x, y, e, _⟩ := hD; exact ⟨x, y, e⟩
  obtain ⟨bp, bq, rfl⟩ : ∃ o c, bv = .slice o p.2.len c := by obtain ⟨x, y, e, _⟩ := hT; exact ⟨x, y, e⟩
  have hX' : Hid (w.alloc (.cells #[.slice dp p.1.length dq, .slice bp p.2.len bq] 25) = X) := hX
  have hb0' : Hid (w.heap.size = b0) := hb0
  have gX' : Hid (Below w.heap.size w X) := gX
  have hO' : Hid (OpsAt X ∧ EvAt X) := ⟨hOX, hEX⟩
  cases hr : ruP p with
  | none =>
    have em : (msP (p.1, p.2)).2 = false := by unfold msP; rw [show (p.1, p.2) = p from rfl, hr]
    have et : prtP p = (tx0, 4) := by unfold prtP; rw [hr]
    rw [em] at kR
    rw [et]
    clear hX hb0 gX hOX hEX hDX hTX hD hT hz hf em et hr hO hE qX
    go_enter Tryz.func8, Tryz.ntmps8
    go_upto_region 1 with fail
    rw [hX'.out]
    (try rw [hb0'.out])
    go_wp2_with (first
      | (go_at_call 17; (refine kR.mono ?_); rintro e v1 ⟨rfl, g1⟩)
      | fail)
    go_ret2
    exact ⟨rfl, pb_call gX'.out g1⟩
  | some cc =>
    have em : (msP (p.1, p.2)).2 = true := by unfold msP; rw [show (p.1, p.2) = p from rfl, hr]
    rw [em] at kR
    have sm := pg_small hr
    have kT0 := ptextOf p cc hr (by have := sm.1; omega) (by have := sm.2; omega) S (.slice dp p.1.length dq) (.slice bp p.2.len bq)
    have kT : ∀ V, Below X.heap.size X V → Calls Tryz.prog 18 #[.agg #[.slice dp p.1.length dq, .slice bp p.2.len bq]] V fun e w' => e = .returned (.string ⟨(pgL p).toArray⟩) ∧ Below V.heap.size V w' := fun V g => kT0 V (hOX.bel g) (hDX.bel g) (hTX.kp (Below.kp g _))
    obtain ⟨T, hT0⟩ : ∃ T : ByteArray, (⟨(pgL p).toArray⟩ : ByteArray) = T := ⟨_, rfl⟩
    have et : prtP p = match prsL T with | .ok _ => (T, 0) | .error x => (tx0, x.1) := by unfold prtP; rw [hr]; simp only; rw [hT0]
    rw [et]
    rw [hT0] at kT
    have kP : ∀ V, Below X.heap.size X V → Calls Tryz.prog 10 #[.string T] V fun e w' => PaR (prsL T) V e w' := fun V g => by
      refine pParse T V (hO'.out.1.bel g) ?_
      obtain ⟨ev, h1, h2⟩ := hO'.out.2
      exact ⟨ev, pb_cell g h1, h2⟩
    clear hX hb0 gX hOX hEX hDX hTX hD hT hz hf em et hr hO hE qX hT0 kT0 sm
    cases hp : prsL T with
    | error x =>
      have x0 := prs_err hp
      rw [hp] at kP
      obtain ⟨E, A⟩ := x
      have x1 : (((E : Nat) : Int) != 0) = true := by
        have : E ≠ 0 := x0
        rw [bne_iff_ne]; omega
      clear hp x0
      go_enter Tryz.func8, Tryz.ntmps8
      go_upto_region 1 with fail
      rw [hX'.out]
      (try rw [hb0'.out])
      go_upto_region 4 with (first
        | (go_at_call 17; (refine kR.mono ?_); rintro e v1 ⟨rfl, g1⟩; replace c0 := pb_cell g1 c0; replace c1 := pb_cell g1 c1)
        | (go_at_call 18; (refine (kT _ g1).mono ?_); rintro e v2 ⟨rfl, g2⟩)
        | fail)
      clear c0 c1
      have gg := pb_call g1 g2
      go_wp2_with (first
        | (go_at_call 10; (refine (kP _ gg).mono ?_); rintro e v3 ⟨g3, rfl⟩)
        | fail)
      go_ret2
      exact ⟨rfl, pb_new (pb_call gX'.out (pb_call gg g3)) _⟩
    | ok q =>
      rw [hp] at kP
      clear hp
      go_enter Tryz.func8, Tryz.ntmps8
      go_upto_region 1 with fail
      rw [hX'.out]
      (try rw [hb0'.out])
      go_upto_region 4 with (first
        | (go_at_call 17; (refine kR.mono ?_); rintro e v1 ⟨rfl, g1⟩; replace c0 := pb_cell g1 c0; replace c1 := pb_cell g1 c1)
        | (go_at_call 18; (refine (kT _ g1).mono ?_); rintro e v2 ⟨rfl, g2⟩)
        | fail)
      clear c0 c1
      have gg := pb_call g1 g2
      go_wp2_with (first
        | (go_at_call 10; (refine (kP _ gg).mono ?_); rintro e v3 ⟨g3, wo, wc, xo, xc, rfl, _, _, _⟩)
        | fail)
      go_ret2
      exact ⟨rfl, pb_new (pb_call gX'.out (pb_call gg g3)) _⟩
end Go.Proofs.YtknoibocpbfmmaaGreatDoor


namespace Go.Proofs.YtknoibocpbfmmaaGreatDoor
set_option linter.unusedVariables false
set_option linter.unusedSimpArgs false
/-- A scan with fuel: the kernel reckons it. -/
def scanF : Nat → List UInt8 → Nat → Nat → Except (Nat × Nat) (List (Nat × Nat × Nat))
  | 0, _, _, _ => .ok []
  | m + 1, l, a, n =>
    if l.length = 0 then .ok []
    else if (tok l).1 = 0 then .error (3, a)
    else if n = 2048 then .error (5, a)
    else match scanF m ((l.drop (tok l).2).drop (cnt 1 (l.drop (tok l).2))) (a + (tok l).2 + cnt 1 (l.drop (tok l).2)) (n + 1) with
      | .ok r => .ok (((tok l).1, a, (tok l).2) :: r)
      | .error e => .error e
theorem scanF_eq : ∀ (m : Nat) (l : List UInt8) (a n : Nat), l.length ≤ m → scanF m l a n = scanAt l a n
  | 0, l, a, n, h => by rw [scanAt_end l a n (by omega)]; rfl
  | m + 1, l, a, n, h => by
    rw [scanF]
    by_cases h0 : l.length = 0
    · rw [if_pos h0, scanAt_end l a n h0]
    rw [if_neg h0]
    by_cases hk : (tok l).1 = 0
    · rw [if_pos hk, scanAt_bad l a n h0 hk]
    rw [if_neg hk]
    by_cases hn : n = 2048
    · rw [if_pos hn]; subst hn; rw [scanAt_full l a h0 hk]
    rw [if_neg hn, scanAt, if_neg h0, dif_neg hk, if_neg hn]
    have hp := tok_pos hk
    rw [scanF_eq m _ _ _ (by rw [List.length_drop, List.length_drop]; omega)]
    rfl
def scanK (l : List UInt8) : Except (Nat × Nat) (List (Nat × Nat × Nat)) := if 8192 < l.length then .error (5, 0) else scanF l.length (l.drop (cnt 1 l)) (cnt 1 l) 0
theorem scanK_eq (l : List UInt8) : scanK l = scanL l := by
  unfold scanK scanL
  split
  · rfl
  · exact scanF_eq _ _ _ _ (by rw [List.length_drop]; omega)
/-- What a text is parsed as, by amounts that the kernel reckons with. -/
theorem prs_of {s : ByteArray} {t : List (Nat × Nat × Nat)} {p : Pg} {us : List Tk} {d : Int} {c : Nat × Nat} (N : Nat) (hs : scanK s.data.toList = .ok t) (hp : pgP N (tks s t) = .ok p us d) (hd : d ≤ 24) (hr : ruP p = some c) : prsL s = .ok p := by
  have hs' : scanL s.toList = .ok t := by rw [toL, ← scanK_eq]; exact hs
  unfold prsL
  rw [hs']
  simp only
  have nm : pgP 16500 (tks s t) ≠ .more := tks_nm (scanL_len hs')
  have e := mo_both (F := fun n => pgP n (tks s t)) (fun n => mo_pg n _) (n := N) (n' := 16500) (by rw [hp]; exact ok_nm) nm
  have e2 : pgP 16500 (tks s t) = .ok p us d := by rw [← e]; exact hp
  rw [e2]
  unfold parT
  simp only
  rw [if_pos]
  rw [hr]
  simp [hd]
theorem isNum_of {s : ByteArray} {k n : Nat} (hs : scanK s.data.toList = .ok [(k, 0, n)]) (he : s.extract 0 (0 + n) = s) (hk : k = 3 ∨ k = 4) : isNum s = true := by
  unfold isNum
  rw [toL, ← scanK_eq, hs]
  simp only
  rw [decide_eq_true he]
  rcases hk with rfl | rfl <;> rfl
abbrev t0 : ByteArray := ⟨#[48, 46, 48]⟩
abbrev t1 : ByteArray := ⟨#[49, 46, 48]⟩
abbrev tX : ByteArray := ⟨#[120]⟩
theorem num_t0 : isNum t0 = true := isNum_of (k := 4) (n := 3) (by kernel_rfl) (by decide +kernel) (by decide)
theorem num_t1 : isNum t1 = true := isNum_of (k := 4) (n := 3) (by kernel_rfl) (by decide +kernel) (by decide)
def exV (s : ByteArray) : Ex := ⟨2, s, 0, .nil⟩
def exC (s : ByteArray) : Ex := ⟨1, s, 0, .nil⟩
/-- The program that live asks for. -/
def pL : Pg := ([(tX, 3, 0)], .cons 2 tX .nil exN (exC t0) (exC t1) .nil .nil (.cons 1 tX .nil (over2 9 (over2 10 (exV tX) (exV tX)) (exC t1)) exN exN .nil .nil .nil))
abbrev tLive : ByteArray := ⟨#[100, 111, 117, 98, 108, 101, 32, 120, 59, 32, 114, 101, 97, 100, 32, 120, 32, 105, 110, 32, 91, 48, 46, 48, 44, 32, 49, 46, 48, 93, 59, 32, 120, 32, 61, 32, 120, 32, 42, 32, 120, 32, 45, 32, 49, 46, 48, 59]⟩
abbrev tLiv2 : ByteArray := ⟨#[100, 111, 117, 98, 108, 101, 32, 120, 59, 10, 114, 101, 97, 100, 32, 120, 32, 105, 110, 32, 91, 48, 46, 48, 44, 32, 49, 46, 48, 93, 59, 10, 120, 32, 61, 32, 120, 32, 42, 32, 120, 32, 45, 32, 49, 46, 48, 59, 10]⟩
def tkLive : List (Nat × Nat × Nat) := match scanK tLive.data.toList with | .ok t => t | .error _ => []
def tkLiv2 : List (Nat × Nat × Nat) := match scanK tLiv2.data.toList with | .ok t => t | .error _ => []
theorem ru_live : ruP pL = some (2, 7) := by
  have a : ∀ x n, ruF n (.cons 1 t0 0 .nil .nil) x = if (decide (x + 1 ≤ 2048) && decide (n ≤ 24)) = true then some (x + 1) else none := fun x n => by
    rw [ruF]
    have : exOk 1 t0 0 (Fo.len .nil) = true := by unfold exOk; rw [if_pos rfl, num_t0]; decide
    rw [this, Bool.and_true]; rfl
  have b : ∀ x n, ruF n (.cons 1 t1 0 .nil .nil) x = if (decide (x + 1 ≤ 2048) && decide (n ≤ 24)) = true then some (x + 1) else none := fun x n => by
    rw [ruF]
    have : exOk 1 t1 0 (Fo.len .nil) = true := by unfold exOk; rw [if_pos rfl, num_t1]; decide
    rw [this, Bool.and_true]; rfl
  have e1 : ruB (exC t0) 0 = some 1 := by unfold ruB ruE Ex.row exC; rw [a]; decide
  have e2 : ruB (exC t1) 1 = some 2 := by unfold ruB ruE Ex.row exC; rw [b]; decide
  have e3 : ruE 1 (over2 9 (over2 10 (exV tX) (exV tX)) (exC t1)) 2 = some 7 := by
    rw [ruE_eq]
    rw [if_pos (by decide +kernel)]
    show ruF 2 (.cons 10 tx0 0 (.cons 2 tX 0 .nil (.cons 2 tX 0 .nil .nil)) (.cons 1 t1 0 .nil .nil)) 3 = some 7
    rw [ruF, if_pos (by decide +kernel)]
    show ((ruF 3 (.cons 2 tX 0 .nil (.cons 2 tX 0 .nil .nil)) 4).bind fun x => ruF 2 (.cons 1 t1 0 .nil .nil) x) = _
    rw [show ruF 3 (.cons 2 tX 0 .nil (.cons 2 tX 0 .nil .nil)) 4 = some 6 by decide +kernel]
    show ruF 2 (.cons 1 t1 0 .nil .nil) 6 = _
    rw [b]; decide
  unfold ruP
  rw [if_pos (by decide +kernel)]
  unfold ruK
  rw [if_pos (by decide)]
  unfold pL
  rw [ruS, if_pos (by decide), if_neg (by decide), if_pos rfl, if_pos (by decide +kernel)]
  rw [show ((0 : Nat), (0 : Nat)).2 = 0 from rfl, e1]
  show ((ruB (exC t1) 1).bind fun x => _).bind _ = _
  rw [e2]
  show ((if bare tx0 Fo.nil.len exN exN exN So.nil.len So.nil.len = true then some ((0, 0).1 + 1, 2) else none).bind _) = _
  rw [if_pos (by decide +kernel)]
  show ruS 1 (.cons 1 tX .nil (over2 9 (over2 10 (exV tX) (exV tX)) (exC t1)) exN exN .nil .nil .nil) (1, 2) = _
  rw [ruS, if_pos (by decide), if_pos rfl, if_pos (by decide +kernel)]
  show ((ruE 1 (over2 9 (over2 10 (exV tX) (exV tX)) (exC t1)) 2).bind fun x => _).bind _ = _
  rw [e3]
  show ((if bare tx0 0 exN exN exN So.nil.len So.nil.len = true then some ((1, 2).1 + 1, 7) else none).bind _) = _
  rw [if_pos (by decide +kernel)]
  rfl
theorem prs_live : prsL tLive = .ok pL := prs_of (t := tkLive) (us := [eT 48]) (d := 0) 60 (by kernel_rfl) (by kernel_rfl) (by decide) ru_live
theorem pg_live : pgL pL = tLiv2.data.toList := by decide +kernel
theorem prs_liv2 : prsL tLiv2 = .ok pL := prs_of (t := tkLiv2) (us := [eT 49]) (d := 0) 60 (by kernel_rfl) (by kernel_rfl) (by decide) ru_live
end Go.Proofs.YtknoibocpbfmmaaGreatDoor


namespace Go.Proofs.YtknoibocpbfmmaaGreatDoor
open Go.RowKit
set_option linter.unusedVariables false
set_option linter.unusedSimpArgs false
theorem EvAt.bel {w V : World} (h : EvAt w) (g : Below w.heap.size w V) : EvAt V := by
  obtain ⟨ev, h1, h2⟩ := h
  exact ⟨ev, pb_cell g h1, h2⟩
/-- What Parse tells of a text that is a program. -/
theorem pParse_ok {s : ByteArray} {p : Pg} (h : prsL s = .ok p) (w : World) (hO : OpsAt w) (hE : EvAt w) : Calls Tryz.prog 10 #[.string s] w fun e w' => ∃ wo wc xo xc, e = .returned (.tuple #[.agg #[.slice wo p.1.length wc, .slice xo p.2.len xc], .int .i64 0, .int .i64 0]) ∧ Below w.heap.size w w' ∧ SlDc w' (.slice wo p.1.length wc) p.1 ∧ SlS w' (Fr w.heap.size) (.slice xo p.2.len xc) p.2 := by
  have k := pParse s w hO hE
  rw [h] at k
  refine k.mono ?_
  rintro e w' ⟨g, wo, wc, xo, xc, rfl, h1, h2, _⟩
  exact ⟨wo, wc, xo, xc, rfl, g, h1, h2⟩
theorem pParse_no {s : ByteArray} {x : Nat × Nat} (h : prsL s = .error x) (w : World) (hO : OpsAt w) (hE : EvAt w) : Calls Tryz.prog 10 #[.string s] w fun e w' => e = .returned (.tuple #[.agg #[.slice none 0 0, .slice none 0 0], .int .i64 x.1, .int .i64 x.2]) ∧ Below w.heap.size w w' := by
  have k := pParse s w hO hE
  rw [h] at k
  refine k.mono ?_
  rintro e w' ⟨g, rfl⟩
  exact ⟨rfl, g⟩
theorem prt_live : prtP pL = (tLiv2, 0) := by
  have e : (⟨(pgL pL).toArray⟩ : ByteArray) = tLiv2 := by rw [pg_live]
  unfold prtP
  rw [ru_live]
  simp only
  rw [e, prs_liv2]
theorem ms_live : msP (pL.1, pL.2) = (2, true) := by unfold msP; rw [show (pL.1, pL.2) = pL from rfl, ru_live]; rfl
set_option maxRecDepth 100000 in
set_option maxHeartbeats 3200000 in
theorem live5 (w : World) (hO : OpsAt w) (hE : EvAt w) : Calls Tryz.prog 9 #[] w fun e w' => e = .returned (.bool true) ∧ Below w.heap.size w w' := by
  have kP := pParse_ok prs_live w hO hE
  have sz := prs_sz prs_live
  have hO' : Hid (OpsAt w ∧ EvAt w) := ⟨hO, hE⟩
  have kM := fun V dv bv (h1 : OpsAt V) h3 h4 => ppoints pL.1 pL.2 (Fr w.heap.size) dv bv V h1 (ops_lt h1) h3 h4 sz.2.1 sz.2.2.1
  have kT := fun V dv bv h1 h2 h3 h4 => pPrint pL (Fr w.heap.size) dv bv V h1 h2 h3 h4 sz.2.1 sz.2.2.1
  rw [ms_live] at kM
  rw [prt_live] at kT
  rw [show pL.1.length = 1 from rfl, show pL.2.len = 2 from rfl] at kP
  have es : ((⟨#[100, 111, 117, 98, 108, 101, 32, 120, 59, 10, 114, 101, 97, 100, 32, 120, 32, 105, 110, 32, 91, 48, 46, 48, 44, 32, 49, 46, 48, 93, 59, 10, 120, 32, 61, 32, 120, 32, 42, 32, 120, 32, 45, 32, 49, 46, 48, 59, 10]⟩ : ByteArray).toList == (tLiv2 : ByteArray).toList) = true := by rw [beq_iff_eq]
  clear hO hE sz
  go_enter Tryz.func9, Tryz.ntmps9
  go_upto_region 2 with (first
    | (go_at_call 10; (refine kP.mono ?_); rintro e v1 ⟨wo, wc, xo, xc, rfl, g1, hD, hT⟩)
    | fail)
  have gX := pb_new (Below.refl v1.heap.size v1) (.cells #[.slice wo 1 wc, .slice xo 2 xc] 25)
  have qX := World.alloc_heap_new v1 (.cells #[.slice wo 1 wc, .slice xo 2 xc] 25)
  have hD2 := hD.bel gX
  have hT2 := hT.kp (Below.kp gX _)
  have gg := pb_call g1 gX
  obtain ⟨X, hX⟩ : ∃ X, v1.alloc (.cells #[.slice wo 1 wc, .slice xo 2 xc] 25) = X := ⟨_, rfl⟩
  obtain ⟨b, hb⟩ : ∃ b, v1.heap.size = b := ⟨_, rfl⟩
  rw [hX] at gX qX hD2 hT2 gg ⊢
  rw [hb] at qX
  (try rw [hb])
  have c0 : X.cell? ⟨b, 0, none⟩ = some (.slice wo 1 wc) := by simp [World.cell?, qX]
  have c1 : X.cell? ⟨b, 1, none⟩ = some (.slice xo 2 xc) := by simp [World.cell?, qX]
  have OX := hO'.out.1.bel gg
  have EX := hO'.out.2.bel gg
  have gg' : Hid (Below w.heap.size w X) := gg
  clear hX hb g1 gX hD hT kP qX
  go_wp2_with (first
    | (go_at_call 8; (refine (kT X _ _ OX EX hD2 hT2).mono ?_); rintro e v2 ⟨rfl, g2⟩; replace c0 := pb_cell g2 c0; replace c1 := pb_cell g2 c1; replace hD2 := hD2.bel g2; replace hT2 := hT2.kp (Below.kp g2 _); replace OX := OX.bel g2)
    | (go_at_call 15; (refine (kM _ _ _ OX hD2 hT2).mono ?_); rintro e v3 ⟨rfl, g3⟩)
    | fail)
  go_ret
  exact ⟨rfl, pb_call gg'.out (pb_call g2 g3)⟩
end Go.Proofs.YtknoibocpbfmmaaGreatDoor


namespace Go.Proofs.YtknoibocpbfmmaaGreatDoor
open Go.RowKit
set_option linter.unusedVariables false
set_option linter.unusedSimpArgs false
theorem ext_ext (s : ByteArray) (A a b : Nat) (h : b ≤ A) : (s.extract 0 A).extract a b = s.extract a b := by
  apply ByteArray.ext
  apply Array.ext'
  have e : ∀ (x : ByteArray) (a b : Nat), (x.extract a b).data.toList = (x.data.toList.take b).drop a := fun x a b => by rw [← toL, ← toL, toL_cut]
  show ((s.extract 0 A).extract a b).data.toList = (s.extract a b).data.toList
  rw [e, e, e, List.drop_zero, List.take_take, Nat.min_eq_left h]
/-- A text that is cut where its last token stands is no program. -/
theorem prs_cut {s : ByteArray} {t : List (Nat × Nat × Nat)} {k A m : Nat} {p : Pg} (hs : scanL s.toList = .ok (t ++ [(k, A, m)])) (hp : prsL s = .ok p) : prsL (s.extract 0 A) = .error (4, A) := by
  have hk := scanL_kinds hs (k, A, m) (by simp)
  simp only at hk
  rw [toL_len] at hk
  have hA : A ≤ s.size := by omega
  have hc := scanL_cut hs
  have eL : (s.extract 0 A).toList = s.toList.take A := by rw [toL_cut, List.drop_zero]
  have hc2 : scanL (s.extract 0 A).toList = .ok t := by rw [eL]; exact hc
  have zA : (s.extract 0 A).size = A := by rw [← toL_len, eL, List.length_take, toL_len]; omega
  have kt := scanL_kinds hc2
  rw [toL_len, zA] at kt
  have et : tks (s.extract 0 A) t = t.map (fun x => (x.1, s.extract x.2.1 (x.2.1 + x.2.2), x.2.1)) ++ [eT A] := by
    unfold tks
    rw [zA]
    congr 1
    apply List.map_congr_left
    intro x hx
    rw [ext_ext _ _ _ _ (kt x hx).2]
  have es : tks s (t ++ [(k, A, m)]) = t.map (fun x => (x.1, s.extract x.2.1 (x.2.1 + x.2.2), x.2.1)) ++ [(k, s.extract A (A + m), A), eT s.size] := by
    unfold tks
    simp
  unfold prsL at hp
  rw [hs] at hp
  simp only at hp
  have hu : Kd (t.map (fun x => (x.1, s.extract x.2.1 (x.2.1 + x.2.2), x.2.1))) := fun x hx => by
    obtain ⟨y, hy, rfl⟩ := List.mem_map.1 hx
    exact (kt y hy).1
  unfold prsL
  rw [hc2]
  simp only
  cases hr : pgP 16500 (tks s (t ++ [(k, A, m)])) with
  | bad a => rw [hr] at hp; cases hp
  | more => rw [hr] at hp; cases hp
  | ok q us d =>
    rw [es] at hr
    have b := ct_pg (k, s.extract A (A + m), A) hk.1 s.size A 16500 _ hu q us d hr
    have nm := tks_nm (s := s.extract 0 A) (scanL_len hc2)
    rw [et] at nm ⊢
    rcases b with b | b
    · rw [b]; rfl
    · exact absurd b nm
set_option maxRecDepth 100000 in
set_option maxHeartbeats 1600000 in
theorem none5 (wo : Option Addr) (n wc : Nat) (xo : Option Addr) (m xc : Nat) (w : World) : Calls Tryz.prog 12 #[.agg #[.slice wo n wc, .slice xo m xc]] w fun e w' => e = .returned (.bool (decide (n = 0) && decide (m = 0))) ∧ Below w.heap.size w w' := by
  have gX := pb_new (Below.refl w.heap.size w) (.cells #[.slice wo n wc, .slice xo m xc] 25)
  by_cases h : n = 0
  · subst h
    by_cases h2 : m = 0
    · subst h2
      go_enter Tryz.func12, Tryz.ntmps12
      go_wp2_with fail
      go_ret
      exact ⟨rfl, gX⟩
    · have k : (((m : Nat) : Int) == 0) = false := by rw [beq_eq_false_iff_ne]; omega
      rw [decide_eq_false h2]
      go_enter Tryz.func12, Tryz.ntmps12
      go_wp2_with fail
      go_ret
      exact ⟨rfl, gX⟩
  · have k : (((n : Nat) : Int) == 0) = false := by rw [beq_eq_false_iff_ne]; omega
    rw [decide_eq_false h]
    go_enter Tryz.func12, Tryz.ntmps12
    go_wp2_with fail
    go_ret
    exact ⟨rfl, gX⟩
theorem prs_scan {s : ByteArray} {p : Pg} (h : prsL s = .ok p) : ∃ t, scanL s.toList = .ok t := by
  unfold prsL at h
  cases hs : scanL s.toList with
  | error e => rw [hs] at h; cases h
  | ok t => exact ⟨t, rfl⟩
theorem lx_und : Tryz.prog.underlying 40 = some (.slice (Tryz.prog.elem 40)) := by kernel_rfl
theorem lx_ix5 (c u n q j : Nat) (h : j < n) (w : World) : (Instr.indexAt 40 (.slice (some ⟨c, u, none⟩) n q) (.int .i64 j)).run Tryz.prog w = .ok (.pointer (some ⟨c, u + j * 3, none⟩)) w := by
  have e2 : ∀ w, (sizeOf (Tryz.prog.elem 40)).run Tryz.prog w = .ok 3 w := fun w => by kernel_rfl
  rw [run_indexAt_slice (h := lx_und), if_pos ⟨by omega, by omega⟩, e2]
  simp [go_sem]
theorem live5_at {w V : World} (h : OpsAt w ∧ EvAt w) (g : Below w.heap.size w V) : Calls Tryz.prog 9 #[] V fun e w' => e = .returned (.bool true) ∧ Below V.heap.size V w' := live5 V (h.1.bel g) (h.2.bel g)
set_option maxRecDepth 100000 in
set_option maxHeartbeats 3200000 in
theorem law_cuts (s : ByteArray) (w : World) (hO : OpsAt w) (hE : EvAt w) : Calls Tryz.prog 7 #[.string s] w fun e w' => e = .returned (.bool true) ∧ Below w.heap.size w w' := by
  have hh : Hid (OpsAt w ∧ EvAt w) := ⟨hO, hE⟩
  cases hp : prsL s with
  | error x =>
    have kP := pParse_no hp w hO hE
    have x0 := prs_err hp
    obtain ⟨E, A⟩ := x
    have x1 : (((E : Nat) : Int) != 0) = true := by
      have : E ≠ 0 := x0
      rw [bne_iff_ne]; omega
    have kS : ∀ V, Calls Tryz.prog 16 #[.string s] V fun e w' => (∃ (v : Value) (f a : Nat), e = .returned (.tuple #[v, .int .i64 f, .int .i64 a])) ∧ Below V.heap.size V w' := fun V => by
      cases hs : scanL s.toList with
      | ok t => exact (scan_ok s t hs V).mono fun e w' k => by obtain ⟨v, h1, _, h2⟩ := k; exact ⟨⟨v, 0, 0, h1⟩, h2⟩
      | error e => exact (scan_err s e.1 e.2 hs V).mono fun e' w' k => ⟨⟨_, _, _, k.1⟩, k.2⟩
    clear hp x0 hO hE
    go_enter Tryz.func7, Tryz.ntmps7
    go_upto_region 3 with (first
      | (go_at_call 10; (refine kP.mono ?_); rintro e v1 ⟨rfl, g1⟩)
      | (go_at_call 16; (refine (kS _).mono ?_); rintro e v2 ⟨⟨v, f, a, rfl⟩, g2⟩)
      | fail)
    have gg := pb_call (pb_call g1 (pb_new (Below.refl _ _) _)) g2
    clear kP kS
    go_wp2_with (first
      | (go_at_call 9; (refine (live5_at hh.out gg).mono ?_); rintro e v3 ⟨rfl, g3⟩)
      | fail)
    go_ret
    exact ⟨rfl, pb_call gg g3⟩
  | ok p =>
    have kP := pParse_ok hp w hO hE
    obtain ⟨t, hs⟩ := prs_scan hp
    obtain ⟨n, hn⟩ : ∃ n, t.length = n := ⟨_, rfl⟩
    have kS : ∀ V, Calls Tryz.prog 16 #[.string s] V fun e w' => ∃ v, e = .returned (.tuple #[v, .int .i64 0, .int .i64 0]) ∧ w'.ownsRow V.heap.size 45 3 v n (tcells s t) ∧ Below V.heap.size V w' := fun V => by rw [← hn]; exact scan_ok s t hs V
    clear hO hE
    have hp' : Hid (prsL s = .ok p) := hp
    have hs' : Hid (scanL s.toList = .ok t) := hs
    have hn' : Hid (t.length = n) := hn
    have kN := none5
    obtain ⟨nd, hnd⟩ : ∃ n, p.1.length = n := ⟨_, rfl⟩
    obtain ⟨nb, hnb⟩ : ∃ n, p.2.len = n := ⟨_, rfl⟩
    rw [hnd, hnb] at kP
    clear hp hs hn hnd hnb
    go_enter Tryz.func7, Tryz.ntmps7
    go_upto_region 2 with (first
      | (go_at_call 10; (refine kP.mono ?_); rintro e v1 ⟨wo, wc, xo, xc, rfl, g1, hD, hT⟩)
      | fail)
    have gX := pb_new (Below.refl v1.heap.size v1) (.cells #[.slice wo nd wc, .slice xo nb xc] 25)
    have qX := World.alloc_heap_new v1 (.cells #[.slice wo nd wc, .slice xo nb xc] 25)
    have gg := pb_call g1 gX
    obtain ⟨X, hX⟩ : ∃ X, v1.alloc (.cells #[.slice wo nd wc, .slice xo nb xc] 25) = X := ⟨_, rfl⟩
    obtain ⟨b, hb⟩ : ∃ b, v1.heap.size = b := ⟨_, rfl⟩
    rw [hX] at gX qX gg ⊢
    rw [hb] at qX
    (try rw [hb])
    have c0 : X.cell? ⟨b, 0, none⟩ = some (.slice wo nd wc) := by simp [World.cell?, qX]
    have c1 : X.cell? ⟨b, 1, none⟩ = some (.slice xo nb xc) := by simp [World.cell?, qX]
    clear hX hb g1 gX hD hT kP qX
    go_upto_region 3 with (first
      | (go_at_call 16; (refine (kS _).mono ?_); rintro e v2 ⟨v, rfl, own, g2⟩)
      | fail)
    replace gg := pb_call gg g2
    replace c0 := pb_cell g2 c0
    replace c1 := pb_cell g2 c1
    clear kS g2
    by_cases n0 : n = 0
    · subst n0
      obtain ⟨vo, vc, rfl⟩ := po_shape own
      clear own kN
      go_wp2_with (first
        | (go_at_call 9; (refine (live5_at hh.out gg).mono ?_); rintro e v3 ⟨rfl, g3⟩)
        | fail)
      go_ret
      exact ⟨rfl, pb_call gg g3⟩
    · obtain ⟨g, cap, rfl, gl, gc, gb, cells⟩ := own_cells own n0
      have k0 : (((n : Nat) : Int) == 0) = false := by rw [beq_eq_false_iff_ne]; omega
      by_cases hb : (decide (nd = 0) && decide (nb = 0)) = true
      · clear cells own
        go_wp2_with (first
          | (go_at_call 12; (refine (kN _ _ _ _ _ _ _).mono ?_); rintro e v3 ⟨rfl, g3⟩; replace gg := pb_call gg g3)
          | (go_at_call 9; (refine (live5_at hh.out gg).mono ?_); rintro e v4 ⟨rfl, g4⟩)
          | fail)
        go_ret
        exact ⟨rfl, pb_call gg g4⟩
      · have hb' : (decide (nd = 0) && decide (nb = 0)) = false := by simpa using hb
        obtain ⟨t', x, ht⟩ : ∃ t' x, t = t' ++ [x] := by
          have hne : t ≠ [] := fun e => n0 (by rw [← hn'.out, e]; rfl)
          exact ⟨t.dropLast, t.getLast hne, (List.dropLast_concat_getLast hne).symm⟩
        obtain ⟨kk, A, m⟩ := x
        have hs2 := hs'.out
        rw [ht] at hs2
        have pc := prs_cut hs2 hp'.out
        have nl : n = t'.length + 1 := by rw [← hn'.out, ht]; simp
        have hk := scanL_kinds hs2 (kk, A, m) (by simp)
        simp only at hk
        rw [toL_len] at hk
        have cA := cells (t'.length * 3 + 2) (.int .i64 A) (by
          rw [ht, tcells_app, List.getElem?_append_right (by rw [tcells_len]; omega), tcells_len]
          rw [show t'.length * 3 + 2 - t'.length * 3 = 2 by omega]
          rfl)
        obtain ⟨j, hj⟩ : ∃ j, t'.length = j := ⟨_, rfl⟩
        rw [hj] at cA nl
        have ix := lx_ix5 g 0 n cap j (by omega)
        rw [Nat.zero_add] at ix
        have nsz : n ≤ 2048 := by rw [← hn'.out]; exact scanL_len hs'.out
        have wn : IntKind.i64.wrap ((n : Int) - 1) = ((j : Nat) : Int) := by rw [IntKind.wrap_i64]; omega
        have i1 : (A : Int) ≤ (s.size : Int) := by omega
        have kP2 := fun V h1 h2 => pParse_no pc V h1 h2
        clear cells own hs2 hj ht hk
        go_upto_region 5 with (first
          | (go_at_call 12; (refine (kN _ _ _ _ _ _ _).mono ?_); rintro e v3 ⟨rfl, g3⟩; replace gg := pb_call gg g3; replace cA := pb_cell g3 cA)
          | fail)
        clear c0 c1 kN
        go_upto_region 6 with (first
          | (go_at_call 10; (refine (kP2 _ (hh.out.1.bel gg) (hh.out.2.bel gg)).mono ?_); rintro e v4 ⟨rfl, g4⟩; replace gg := pb_call gg g4; replace cA := pb_cell g4 cA)
          | fail)
        have gY := pb_new (Below.refl v4.heap.size v4) (.cells #[.slice none 0 0, .slice none 0 0] 25)
        replace gg := pb_call gg gY
        replace cA := pb_cell gY cA
        clear gY kP2
        generalize v4.alloc (.cells #[.slice none 0 0, .slice none 0 0] 25) = Y at *
        go_wp2_with (first
          | (go_at_call 9; (refine (live5_at hh.out gg).mono ?_); rintro e v5 ⟨rfl, g5⟩; replace cA := pb_cell g5 cA)
          | fail)
        go_ret
        exact ⟨rfl, pb_call gg g5⟩
end Go.Proofs.YtknoibocpbfmmaaGreatDoor


namespace Go.Proofs.YtknoibocpbfmmaaGreatDoor
open Go.RowKit Go.ChangeShapes Go.WideShapes Go.ChangeAt
set_option linter.unusedVariables false
theorem mapM_at {α β : Type} {f : α → Option β} : ∀ {l : List α} {xs : List β}, l.mapM f = some xs → ∀ (i : Nat) (a : α), l[i]? = some a → ∃ y, f a = some y ∧ xs[i]? = some y
  | [], xs, h, i, a, hi => by cases i <;> cases hi
  | b :: l, xs, h, i, a, hi => by
    rw [List.mapM_cons] at h
    simp only [Option.bind_eq_bind, Option.bind_eq_some_iff, Option.pure_def, Option.some.injEq] at h
    obtain ⟨y, h1, ys, h2, rfl⟩ := h
    cases i with
    | zero => cases hi; exact ⟨y, h1, rfl⟩
    | succ i => obtain ⟨z, h3, h4⟩ := mapM_at h2 i a (by simpa using hi); exact ⟨z, h3, by simpa using h4⟩
section
variable {H : Type} {enc : TypeId × Value → H} {w : World} {base : Nat} {sp : Nat → Bool} {held : Bool}
theorem td_array {t e : TypeId} {n fuel : Nat} {cs : List Value} {y : DataW H × List MemPlace} (ht : Tryz.prog.underlying t = some (.array n e)) (h : DataW.trod enc Tryz.prog w base sp held fuel t cs = some y) :
    cs.length = Tryz.prog.cellsOf t ∧ ∃ fuel' ds, y.1 = .agg ds ∧ ∀ i, i < n → ∃ z, DataW.trod enc Tryz.prog w base sp held fuel' e ((cs.drop (i * Tryz.prog.cellsOf e)).take (Tryz.prog.cellsOf e)) = some z ∧ ds[i]? = some z.1 := by
  cases fuel with
  | zero => simp [DataW.trod] at h
  | succ fuel =>
    simp only [DataW.trod, ht] at h
    split at h
    · rename_i hl
      simp only [Option.map_eq_some_iff] at h
      obtain ⟨xs, h1, rfl⟩ := h
      refine ⟨hl, fuel, xs.map (·.1), rfl, fun i hi => ?_⟩
      obtain ⟨z, h2, h3⟩ := mapM_at h1 i i (by simp [hi])
      exact ⟨z, h2, by simp [h3]⟩
    · cases h
theorem td_struct {t : TypeId} {fs : Array Go.Field} {fuel : Nat} {cs : List Value} {y : DataW H × List MemPlace} (ht : Tryz.prog.underlying t = some (.struct fs)) (h : DataW.trod enc Tryz.prog w base sp held fuel t cs = some y) :
    cs.length = Tryz.prog.cellsOf t ∧ ∃ fuel' ds, y.1 = .agg ds ∧ ∀ (i : Nat) (f : Go.Field), fs[i]? = some f → ∃ z, DataW.trod enc Tryz.prog w base sp held fuel' f.type ((cs.drop f.offset).take (Tryz.prog.cellsOf f.type)) = some z ∧ ds[i]? = some z.1 := by
  cases fuel with
  | zero => simp [DataW.trod] at h
  | succ fuel =>
    simp only [DataW.trod, ht] at h
    split at h
    · rename_i hl
      simp only [Option.map_eq_some_iff] at h
      obtain ⟨xs, h1, rfl⟩ := h
      refine ⟨hl, fuel, xs.map (·.1), rfl, fun i f hi => ?_⟩
      obtain ⟨z, h2, h3⟩ := mapM_at h1 i f (by rw [← hi]; simp)
      exact ⟨z, h2, by simp [h3]⟩
    · cases h
theorem td_iface {t : TypeId} {ms : Array (String × TypeId)} {fuel : Nat} {cs : List Value} {y : DataW H × List MemPlace} (ht : Tryz.prog.underlying t = some (.interface ms)) (h : DataW.trod enc Tryz.prog w base sp held fuel t cs = some y) : cs = [.nilIface] ∨ ∃ u v, cs = [.iface u v] := by
  cases fuel with
  | zero => simp [DataW.trod] at h
  | succ fuel =>
    unfold DataW.trod at h
    rw [ht] at h
    split at h
    all_goals first | (exact Or.inl rfl) | (exact Or.inr ⟨_, _, rfl⟩) | simp_all
end
theorem op_names : Tryz.prog.globalNamed "plumbline/fparse.operators" = some 0 := by kernel_rfl
theorem er_names : Tryz.prog.globalNamed "strconv.ErrRange" = some 3 := by kernel_rfl
theorem op_type : (Tryz.prog.globals[0]?).map (·.type) = some 146 := by kernel_rfl
theorem op_arr : Tryz.prog.underlying 146 = some (.array 12 133) := by kernel_rfl
theorem op_cell : Tryz.prog.cellsOf 133 = 3 := by kernel_rfl
theorem op_fs : (match Tryz.prog.underlying 133 with | some (.struct fs) => some (fs.map (fun f => (f.type, f.offset))) | _ => none) = some #[(83, 0), (9, 1), (3, 2)] := by kernel_rfl
theorem op_str : ∃ fs : Array Go.Field, Tryz.prog.underlying 133 = some (.struct fs) ∧ fs.map (fun f => (f.type, f.offset)) = #[(83, 0), (9, 1), (3, 2)] := by
  have h := op_fs
  split at h
  · rename_i fs e
    exact ⟨fs, e, Option.some.inj h⟩
  · cases h
theorem op_i1 : Tryz.prog.underlying 83 = some (.int .i64) ∧ Tryz.prog.cellsOf 83 = 1 := ⟨by kernel_rfl, by kernel_rfl⟩
theorem op_i2 : Tryz.prog.underlying 3 = some (.int .i64) ∧ Tryz.prog.cellsOf 3 = 1 := ⟨by kernel_rfl, by kernel_rfl⟩
theorem op_s : Tryz.prog.underlying 9 = some .string ∧ Tryz.prog.cellsOf 9 = 1 := ⟨by kernel_rfl, by kernel_rfl⟩
theorem op_fi {fs : Array Go.Field} {l : Array (Nat × Nat)} (hf : fs.map (fun f => (f.type, f.offset)) = l) (i : Nat) (t o : Nat) (h : l[i]? = some (t, o)) : ∃ f, fs[i]? = some f ∧ f.type = t ∧ f.offset = o := by
  rw [← hf, Array.getElem?_map] at h
  cases hf : fs[i]? with
  | none => rw [hf] at h; cases h
  | some f => rw [hf] at h; cases h; exact ⟨f, rfl, rfl, rfl⟩
def opD (x : Int × ByteArray × Int) : DataW Unit := .agg [.lit (.int .i64 x.1), .lit (.string x.2.1.data.toList), .lit (.int .i64 x.2.2)]
theorem op_laid : (Rows.laid_plumbline_fparse_operators : DataW Unit) = .agg (opT.map opD) := by kernel_rfl
theorem one_of {l : List Value} {k : Nat} {v : Value} (h : (l.drop k).take 1 = [v]) : l[k]? = some v := by
  cases hd : l.drop k with
  | nil => rw [hd] at h; cases h
  | cons x r =>
    rw [hd] at h
    have h' : [x] = [v] := h
    cases h'
    have := List.getElem?_drop (xs := l) (i := k) (j := 0)
    rw [hd] at this
    simpa using this.symm
theorem ba_of {s : ByteArray} {t : ByteArray} (h : s.data.toList = t.data.toList) : s = t := by
  apply ByteArray.ext
  exact Array.ext' h
theorem opC_at : ∀ (l : List (Int × ByteArray × Int)) (j : Nat) v, (opC l)[j]? = some v → ∃ i x, l[i]? = some x ∧ (j = i * 3 ∧ v = .int .i64 x.1 ∨ j = i * 3 + 1 ∧ v = .string x.2.1 ∨ j = i * 3 + 2 ∧ v = .int .i64 x.2.2)
  | [], j, v, h => by cases j <;> cases h
  | x :: l, 0, v, h => ⟨0, x, rfl, Or.inl ⟨rfl, by cases h; rfl⟩⟩
  | x :: l, 1, v, h => ⟨0, x, rfl, Or.inr (Or.inl ⟨rfl, by cases h; rfl⟩)⟩
  | x :: l, 2, v, h => ⟨0, x, rfl, Or.inr (Or.inr ⟨rfl, by cases h; rfl⟩)⟩
  | x :: l, j + 3, v, h => by
    obtain ⟨i, y, h1, h2⟩ := opC_at l j v h
    rcases h2 with ⟨rfl, rfl⟩ | ⟨rfl, rfl⟩ | ⟨rfl, rfl⟩
    · exact ⟨i + 1, y, h1, Or.inl ⟨by omega, rfl⟩⟩
    · exact ⟨i + 1, y, h1, Or.inr (Or.inl ⟨by omega, rfl⟩)⟩
    · exact ⟨i + 1, y, h1, Or.inr (Or.inr ⟨by omega, rfl⟩)⟩
/-- The table of operators, out of the list. -/
theorem ops_of {W : World} (h : laidMet Tryz.prog [("plumbline/fparse.operators", Rows.laid_plumbline_fparse_operators)] W) : OpsAt W := by
  obtain ⟨ps, ⟨g, t, cs, fuel, p, q, hg, ht, hvar, hd, _, _⟩, _⟩ := h
  obtain rfl := Option.some.inj (op_names.symm.trans hg)
  obtain rfl := Option.some.inj (op_type.symm.trans ht)
  obtain ⟨hl, f1, ds, e1, hA⟩ := td_array op_arr hd
  rw [op_laid] at e1
  cases e1
  rw [op_cell] at hA
  have key : ∀ (i : Nat) x, opT[i]? = some x → cs.toList[i * 3]? = some (.int .i64 x.1) ∧ cs.toList[i * 3 + 1]? = some (.string x.2.1) ∧ cs.toList[i * 3 + 2]? = some (.int .i64 x.2.2) := fun i x hx => by
    have hi : i < 12 := (List.getElem?_eq_some_iff.1 hx).1
    obtain ⟨z, h1, h2⟩ := hA i hi
    rw [List.getElem?_map, hx] at h2
    have e2 : z.1 = opD x := (Option.some.inj h2).symm
    obtain ⟨fs, es, ef⟩ := op_str
    obtain ⟨_, f2, ds2, e3, hS⟩ := td_struct es h1
    rw [e2] at e3
    unfold opD at e3
    cases e3
    have dd : ∀ k, k < 3 → (((cs.toList.drop (i * 3)).take 3).drop k).take 1 = (cs.toList.drop (i * 3 + k)).take 1 := fun k hk => by
      rw [List.drop_take, List.drop_drop, List.take_take, Nat.min_eq_left (by omega)]
    obtain ⟨g0, u0, t0, o0⟩ := op_fi ef 0 _ _ rfl
    obtain ⟨g1, u1, t1, o1⟩ := op_fi ef 1 _ _ rfl
    obtain ⟨g2, u2, t2, o2⟩ := op_fi ef 2 _ _ rfl
    obtain ⟨z0, a0, b0⟩ := hS 0 g0 u0
    obtain ⟨z1, a1, b1⟩ := hS 1 g1 u1
    obtain ⟨z2, a2, b2⟩ := hS 2 g2 u2
    rw [t0, o0, op_i1.2, dd 0 (by decide)] at a0
    rw [t1, o1, op_s.2, dd 1 (by decide)] at a1
    rw [t2, o2, op_i2.2, dd 2 (by decide)] at a2
    obtain ⟨n0, c0, rfl, _⟩ := DataW.trod_int op_i1.1 a0
    obtain ⟨n1, c1, rfl, _⟩ := DataW.trod_string op_s.1 a1
    obtain ⟨n2, c2, rfl, _⟩ := DataW.trod_int op_i2.1 a2
    have q0 := one_of c0
    have q1 := one_of c1
    have q2 := one_of c2
    simp at b0 b1 b2
    rw [Nat.add_zero] at q0
    refine ⟨by rw [q0, b0], ?_, by rw [q2, b2]⟩
    rw [q1]
    rw [ba_of (s := n1) (t := x.2.1) (by simpa using b1.symm)]
  intro j v hj
  have hc : cs.toList[j]? = some v := by
    obtain ⟨i, x, hx, h⟩ := opC_at _ _ _ hj
    obtain ⟨k0, k1, k2⟩ := key i x hx
    rcases h with ⟨rfl, rfl⟩ | ⟨rfl, rfl⟩ | ⟨rfl, rfl⟩ <;> assumption
  rw [var?_cell op_names hvar j, ← Array.getElem?_toList]
  exact hc
theorem er_type : (Tryz.prog.globals[3]?).map (·.type) = some 102 := by kernel_rfl
theorem er_if : (match Tryz.prog.underlying 102 with | some (.interface _) => true | _ => false) = true := by kernel_rfl
/-- The range error, out of the list. -/
theorem ev_of {W : World} {d : DataW Unit} (h : laidMet Tryz.prog [("strconv.ErrRange", d)] W) : EvAt W := by
  obtain ⟨ps, ⟨g, t, cs, fuel, p, q, hg, ht, hvar, hd, _, _⟩, _⟩ := h
  obtain rfl := Option.some.inj (er_names.symm.trans hg)
  obtain rfl := Option.some.inj (er_type.symm.trans ht)
  have hi := er_if
  split at hi
  · rename_i ms e
    have c := var?_cell er_names hvar 0
    rw [← Array.getElem?_toList] at c
    rcases td_iface e hd with h | ⟨u, v, h⟩
    · rw [h] at c
      exact ⟨_, c, Or.inl rfl⟩
    · rw [h] at c
      exact ⟨_, c, Or.inr ⟨u, v, rfl⟩⟩
  · cases hi
end Go.Proofs.YtknoibocpbfmmaaGreatDoor


