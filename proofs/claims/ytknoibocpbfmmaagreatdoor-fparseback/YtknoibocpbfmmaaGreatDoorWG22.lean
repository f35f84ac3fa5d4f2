/- Texts of the proof, put together. -/
import Derived.Test.YtknoibocpbfmmaaGreatDoorWPeH
import Derived.Test.YtknoibocpbfmmaaGreatDoorWG21
import Derived.Test.YtknoibocpbfmmaaGreatDoorWPbW
import Derived.Test.YtknoibocpbfmmaaGreatDoorWWpI
namespace Go.Proofs.YtknoibocpbfmmaaGreatDoor
open Go.RowKit
set_option linter.unusedVariables false
set_option linter.unusedSimpArgs false
/-- A program's text as Print tells it, and the error. -/
def prtP (p : Pg) : ByteArray × Nat := match ruP p with
 | none => (tx0, 4)
 | some _ => match prsL ⟨(pgL p).toArray⟩ with | .ok _ => (⟨(pgL p).toArray⟩, 0) | .error x => (tx0, x.1)
theorem prs_err {s : ByteArray} {x : Nat × Nat} (h : prsL s = .error x) : x.1 ≠ 0 := by
 unfold prsL at h
 cases hs : scanL s.toList with
 | error e =>
  rw [hs] at h
  cases h
  unfold scanL at hs
  split at hs
  ·cases hs; decide
  ·have : ∀ (m : Nat) (l : List UInt8) (a n : Nat) (e : Nat × Nat), l.length ≤ m → scanAt l a n = .error e → e.1 ≠ 0 := fun m => by
    induction m with
    | zero =>
     intro l a n e hl he
     rw [scanAt_end l a n (by omega)] at he; cases he
    | succ m ih =>
     intro l a n e hl he
     by_cases h0 : l.length = 0
     ·rw [scanAt_end l a n h0] at he; cases he
     by_cases hk : (tok l).1 = 0
     ·rw [scanAt_bad l a n h0 hk] at he; cases he; show 3 ≠ 0; decide
     by_cases hn : n = 2048
     ·subst hn; rw [scanAt_full l a h0 hk] at he; cases he; show 5 ≠ 0; decide
     have hp := tok_pos hk
     rw [scanAt, if_neg h0, dif_neg hk, if_neg hn] at he
     cases hr : scanAt ((l.drop (tok l).2).drop (cnt 1 (l.drop (tok l).2))) (a + (tok l).2 + cnt 1 (l.drop (tok l).2)) (n + 1) with
     | ok r => rw [hr] at he; cases he
     | error e2 =>
      rw [hr] at he
      have he2 : (Except.error e2 : Except (Nat × Nat) (List (Nat × Nat × Nat))) = .error e := he
      cases he2
      exact ih _ _ _ _ (by rw [List.length_drop, List.length_drop]; omega) hr
   exact this _ _ _ _ _ (Nat.le_refl _) hs
 | ok t =>
  rw [hs] at h
  have := par_err h (tks_nm (scanL_len hs))
  omega
set_option maxRecDepth 100000 in
set_option maxHeartbeats 3200000 in
theorem pPrint (p : Pg) (S : Nat → Prop) (dv bv : Value) (w : World) (hO : OpsAt w) (hE : EvAt w) (hD : SlDc w dv p.1) (hT : SlS w S bv p.2) (hz : ∀ d ∈ p.1, d.1.size ≤ 9223372036854775807) (hf : p.2.szs) :
  Calls Tryz.prog 8 #[.agg #[dv, bv]] w fun e w' => e = .returned (.tuple #[.string (prtP p).1, .int .i64 ((prtP p).2 : Nat)]) ∧ Below w.heap.size w w' := by
 have gX := pb_new (Below.refl w.heap.size w) (.cells #[dv, bv] 25)
 have qX := World.alloc_heap_new w (.cells #[dv, bv] 25)
 obtain ⟨X, hX⟩ : ∃ X, w.alloc (.cells #[dv, bv] 25) = X := ⟨_, rfl⟩
 obtain ⟨b0, hb0⟩ : ∃ b, w.heap.size = b := ⟨_, rfl⟩
 have hOX : OpsAt X := by rw [← hX]; exact hO.bel gX
 have hEX : EvAt X := by
  obtain ⟨ev, h1, h2⟩ := hE
  exact ⟨ev, by rw [← hX]; exact pb_cell gX h1, h2⟩
 have hDX : SlDc X dv p.1 := by rw [← hX]; exact hD.bel gX
 have hTX : SlS X S bv p.2 := by rw [← hX]; exact hT.kp (Below.kp gX _)
 have kR := pright p.1 p.2 S dv bv X hOX (ops_lt hOX) hDX hTX hz hf
 rw [hX] at gX qX
 rw [hb0] at qX
 have c0 : X.cell? ⟨b0, 0, none⟩ = some dv := by simp [World.cell?, qX]
 have c1 : X.cell? ⟨b0, 1, none⟩ = some bv := by simp [World.cell?, qX]
 obtain ⟨dp, dq, rfl⟩ : ∃ o c, dv = .slice o p.1.length c := by obtain ⟨x, y, e, _⟩ := hD; exact ⟨x, y, e⟩
 obtain ⟨bp, bq, rfl⟩ : ∃ o c, bv = .slice o p.2.len c := by obtain ⟨x, y, e, _⟩ := hT; exact ⟨x, y, e⟩
 have hX' : Hid (w.alloc (.cells #[.slice dp p.1.length dq, .slice bp p.2.len bq] 25) = X) := hX
 have hb0' : Hid (w.heap.size = b0) := hb0
 have gX' : Hid (Below w.heap.size w X) := gX
 have hO' : Hid (OpsAt X ∧ EvAt X) := ⟨hOX, hEX⟩
 cases hr : ruP p with
 | none =>
  have em : (msP (p.1, p.2)).2 = false := by unfold msP; rw [show (p.1, p.2) = p from rfl, hr]
  have et : prtP p = (tx0, 4) := by unfold prtP; rw [hr]
  rw [em] at kR
  rw [et]
  clear hX hb0 gX hOX hEX hDX hTX hD hT hz hf em et hr hO hE qX
  go_enter Tryz.func8, Tryz.ntmps8
  go_upto_region 1 with fail
  rw [hX'.out]
  (try rw [hb0'.out])
  go_wp2_with (first
   | (go_at_call 17; (refine kR.mono ?_); rintro e v1 ⟨rfl, g1⟩)
   | fail)
  go_ret2
  exact ⟨rfl, pb_call gX'.out g1⟩
 | some cc =>
  have em : (msP (p.1, p.2)).2 = true := by unfold msP; rw [show (p.1, p.2) = p from rfl, hr]
  rw [em] at kR
  have sm := pg_small hr
  have kT0 := ptextOf p cc hr (by have := sm.1; omega) (by have := sm.2; omega) S (.slice dp p.1.length dq) (.slice bp p.2.len bq)
  have kT : ∀ V, Below X.heap.size X V → Calls Tryz.prog 18 #[.agg #[.slice dp p.1.length dq, .slice bp p.2.len bq]] V fun e w' => e = .returned (.string ⟨(pgL p).toArray⟩) ∧ Below V.heap.size V w' := fun V g => kT0 V (hOX.bel g) (hDX.bel g) (hTX.kp (Below.kp g _))
  obtain ⟨T, hT0⟩ : ∃ T : ByteArray, (⟨(pgL p).toArray⟩ : ByteArray) = T := ⟨_, rfl⟩
  have et : prtP p = match prsL T with | .ok _ => (T, 0) | .error x => (tx0, x.1) := by unfold prtP; rw [hr]; simp only; rw [hT0]
  rw [et]
  rw [hT0] at kT
  have kP : ∀ V, Below X.heap.size X V → Calls Tryz.prog 10 #[.string T] V fun e w' => PaR (prsL T) V e w' := fun V g => by
   refine pParse T V (hO'.out.1.bel g) ?_
   obtain ⟨ev, h1, h2⟩ := hO'.out.2
   exact ⟨ev, pb_cell g h1, h2⟩
  clear hX hb0 gX hOX hEX hDX hTX hD hT hz hf em et hr hO hE qX hT0 kT0 sm
  cases hp : prsL T with
  | error x =>
   have x0 := prs_err hp
   rw [hp] at kP
   obtain ⟨E, A⟩ := x
   have x1 : (((E : Nat) : Int) != 0) = true := by
    have : E ≠ 0 := x0
    rw [bne_iff_ne]; omega
   clear hp x0
   go_enter Tryz.func8, Tryz.ntmps8
   go_upto_region 1 with fail
   rw [hX'.out]
   (try rw [hb0'.out])
   go_upto_region 4 with (first
    | (go_at_call 17; (refine kR.mono ?_); rintro e v1 ⟨rfl, g1⟩; replace c0 := pb_cell g1 c0; replace c1 := pb_cell g1 c1)
    | (go_at_call 18; (refine (kT _ g1).mono ?_); rintro e v2 ⟨rfl, g2⟩)
    | fail)
   clear c0 c1
   have gg := pb_call g1 g2
   go_wp2_with (first
    | (go_at_call 10; (refine (kP _ gg).mono ?_); rintro e v3 ⟨g3, rfl⟩)
    | fail)
   go_ret2
   exact ⟨rfl, pb_new (pb_call gX'.out (pb_call gg g3)) _⟩
  | ok q =>
   rw [hp] at kP
   clear hp
   go_enter Tryz.func8, Tryz.ntmps8
   go_upto_region 1 with fail
   rw [hX'.out]
   (try rw [hb0'.out])
   go_upto_region 4 with (first
    | (go_at_call 17; (refine kR.mono ?_); rintro e v1 ⟨rfl, g1⟩; replace c0 := pb_cell g1 c0; replace c1 := pb_cell g1 c1)
    | (go_at_call 18; (refine (kT _ g1).mono ?_); rintro e v2 ⟨rfl, g2⟩)
    | fail)
   clear c0 c1
   have gg := pb_call g1 g2
   go_wp2_with (first
    | (go_at_call 10; (refine (kP _ gg).mono ?_); rintro e v3 ⟨g3, wo, wc, xo, xc, rfl, _, _, _⟩)
    | fail)
   go_ret2
   exact ⟨rfl, pb_new (pb_call gX'.out (pb_call gg g3)) _⟩
end Go.Proofs.YtknoibocpbfmmaaGreatDoor



namespace Go.Proofs.YtknoibocpbfmmaaGreatDoor
set_option linter.unusedVariables false
set_option linter.unusedSimpArgs false
/-- A scan with fuel: the kernel reckons it. -/
def scanF : Nat → List UInt8 → Nat → Nat → Except (Nat × Nat) (List (Nat × Nat × Nat))
 | 0, _, _, _ => .ok []
 | m + 1, l, a, n =>
  if l.length = 0 then .ok []
  else if (tok l).1 = 0 then .error (3, a)
  else if n = 2048 then .error (5, a)
  else match scanF m ((l.drop (tok l).2).drop (cnt 1 (l.drop (tok l).2))) (a + (tok l).2 + cnt 1 (l.drop (tok l).2)) (n + 1) with
   | .ok r => .ok (((tok l).1, a, (tok l).2) :: r)
   | .error e => .error e
theorem scanF_eq : ∀ (m : Nat) (l : List UInt8) (a n : Nat), l.length ≤ m → scanF m l a n = scanAt l a n
 | 0, l, a, n, h => by rw [scanAt_end l a n (by omega)]; rfl
 | m + 1, l, a, n, h => by
  rw [scanF]
  by_cases h0 : l.length = 0
  ·rw [if_pos h0, scanAt_end l a n h0]
  rw [if_neg h0]
  by_cases hk : (tok l).1 = 0
  ·rw [if_pos hk, scanAt_bad l a n h0 hk]
  rw [if_neg hk]
  by_cases hn : n = 2048
  ·rw [if_pos hn]; subst hn; rw [scanAt_full l a h0 hk]
  rw [if_neg hn, scanAt, if_neg h0, dif_neg hk, if_neg hn]
  have hp := tok_pos hk
  rw [scanF_eq m _ _ _ (by rw [List.length_drop, List.length_drop]; omega)]
  rfl
def scanK (l : List UInt8) : Except (Nat × Nat) (List (Nat × Nat × Nat)) := if 8192 < l.length then .error (5, 0) else scanF l.length (l.drop (cnt 1 l)) (cnt 1 l) 0
theorem scanK_eq (l : List UInt8) : scanK l = scanL l := by
 unfold scanK scanL
 split
 ·rfl
 ·exact scanF_eq _ _ _ _ (by rw [List.length_drop]; omega)
/-- What a text is parsed as, by amounts that the kernel reckons with. -/
theorem prs_of {s : ByteArray} {t : List (Nat × Nat × Nat)} {p : Pg} {us : List Tk} {d : Int} {c : Nat × Nat} (N : Nat) (hs : scanK s.data.toList = .ok t) (hp : pgP N (tks s t) = .ok p us d) (hd : d ≤ 24) (hr : ruP p = some c) : prsL s = .ok p := by
 have hs' : scanL s.toList = .ok t := by rw [toL, ← scanK_eq]; exact hs
 unfold prsL
 rw [hs']
 simp only
 have nm : pgP 16500 (tks s t) ≠ .more := tks_nm (scanL_len hs')
 have e := mo_both (F := fun n => pgP n (tks s t)) (fun n => mo_pg n _) (n := N) (n' := 16500) (by rw [hp]; exact ok_nm) nm
 have e2 : pgP 16500 (tks s t) = .ok p us d := by rw [← e]; exact hp
 rw [e2]
 unfold parT
 simp only
 rw [if_pos]
 rw [hr]
 simp [hd]
theorem isNum_of {s : ByteArray} {k n : Nat} (hs : scanK s.data.toList = .ok [(k, 0, n)]) (he : s.extract 0 (0 + n) = s) (hk : k = 3 ∨ k = 4) : isNum s = true := by
 unfold isNum
 rw [toL, ← scanK_eq, hs]
 simp only
 rw [decide_eq_true he]
 rcases hk with rfl | rfl <;> rfl
abbrev t0 : ByteArray := ⟨#[48, 46, 48]⟩
abbrev t1 : ByteArray := ⟨#[49, 46, 48]⟩
abbrev tX : ByteArray := ⟨#[120]⟩
theorem num_t0 : isNum t0 = true := isNum_of (k := 4) (n := 3) (by kernel_rfl) (by decide +kernel) (by decide)
theorem num_t1 : isNum t1 = true := isNum_of (k := 4) (n := 3) (by kernel_rfl) (by decide +kernel) (by decide)
def exV (s : ByteArray) : Ex := ⟨2, s, 0, .nil⟩
def exC (s : ByteArray) : Ex := ⟨1, s, 0, .nil⟩
/-- The program that live asks for. -/
def pL : Pg := ([(tX, 3, 0)], .cons 2 tX .nil exN (exC t0) (exC t1) .nil .nil (.cons 1 tX .nil (over2 9 (over2 10 (exV tX) (exV tX)) (exC t1)) exN exN .nil .nil .nil))
abbrev tLive : ByteArray := ⟨#[100, 111, 117, 98, 108, 101, 32, 120, 59, 32, 114, 101, 97, 100, 32, 120, 32, 105, 110, 32, 91, 48, 46, 48, 44, 32, 49, 46, 48, 93, 59, 32, 120, 32, 61, 32, 120, 32, 42, 32, 120, 32, 45, 32, 49, 46, 48, 59]⟩
abbrev tLiv2 : ByteArray := ⟨#[100, 111, 117, 98, 108, 101, 32, 120, 59, 10, 114, 101, 97, 100, 32, 120, 32, 105, 110, 32, 91, 48, 46, 48, 44, 32, 49, 46, 48, 93, 59, 10, 120, 32, 61, 32, 120, 32, 42, 32, 120, 32, 45, 32, 49, 46, 48, 59, 10]⟩
def tkLive : List (Nat × Nat × Nat) := match scanK tLive.data.toList with | .ok t => t | .error _ => []
def tkLiv2 : List (Nat × Nat × Nat) := match scanK tLiv2.data.toList with | .ok t => t | .error _ => []
theorem ru_live : ruP pL = some (2, 7) := by
 have a : ∀ x n, ruF n (.cons 1 t0 0 .nil .nil) x = if (decide (x + 1 ≤ 2048) && decide (n ≤ 24)) = true then some (x + 1) else none := fun x n => by
  rw [ruF]
  have : exOk 1 t0 0 (Fo.len .nil) = true := by unfold exOk; rw [if_pos rfl, num_t0]; decide
  rw [this, Bool.and_true]; rfl
 have b : ∀ x n, ruF n (.cons 1 t1 0 .nil .nil) x = if (decide (x + 1 ≤ 2048) && decide (n ≤ 24)) = true then some (x + 1) else none := fun x n => by
  rw [ruF]
  have : exOk 1 t1 0 (Fo.len .nil) = true := by unfold exOk; rw [if_pos rfl, num_t1]; decide
  rw [this, Bool.and_true]; rfl
 have e1 : ruB (exC t0) 0 = some 1 := by unfold ruB ruE Ex.row exC; rw [a]; decide
 have e2 : ruB (exC t1) 1 = some 2 := by unfold ruB ruE Ex.row exC; rw [b]; decide
 have e3 : ruE 1 (over2 9 (over2 10 (exV tX) (exV tX)) (exC t1)) 2 = some 7 := by
  rw [ruE_eq]
  rw [if_pos (by decide +kernel)]
  show ruF 2 (.cons 10 tx0 0 (.cons 2 tX 0 .nil (.cons 2 tX 0 .nil .nil)) (.cons 1 t1 0 .nil .nil)) 3 = some 7
  rw [ruF, if_pos (by decide +kernel)]
  show ((ruF 3 (.cons 2 tX 0 .nil (.cons 2 tX 0 .nil .nil)) 4).bind fun x => ruF 2 (.cons 1 t1 0 .nil .nil) x) = _
  rw [show ruF 3 (.cons 2 tX 0 .nil (.cons 2 tX 0 .nil .nil)) 4 = some 6 by decide +kernel]
  show ruF 2 (.cons 1 t1 0 .nil .nil) 6 = _
  rw [b]; decide
 unfold ruP
 rw [if_pos (by decide +kernel)]
 unfold ruK
 rw [if_pos (by decide)]
 unfold pL
 rw [ruS, if_pos (by decide), if_neg (by decide), if_pos rfl, if_pos (by decide +kernel)]
 rw [show ((0 : Nat), (0 : Nat)).2 = 0 from rfl, e1]
 show ((ruB (exC t1) 1).bind fun x => _).bind _ = _
 rw [e2]
 show ((if bare tx0 Fo.nil.len exN exN exN So.nil.len So.nil.len = true then some ((0, 0).1 + 1, 2) else none).bind _) = _
 rw [if_pos (by decide +kernel)]
 show ruS 1 (.cons 1 tX .nil (over2 9 (over2 10 (exV tX) (exV tX)) (exC t1)) exN exN .nil .nil .nil) (1, 2) = _
 rw [ruS, if_pos (by decide), if_pos rfl, if_pos (by decide +kernel)]
 show ((ruE 1 (over2 9 (over2 10 (exV tX) (exV tX)) (exC t1)) 2).bind fun x => _).bind _ = _
 rw [e3]
 show ((if bare tx0 0 exN exN exN So.nil.len So.nil.len = true then some ((1, 2).1 + 1, 7) else none).bind _) = _
 rw [if_pos (by decide +kernel)]
 rfl
theorem prs_live : prsL tLive = .ok pL := prs_of (t := tkLive) (us := [eT 48]) (d := 0) 60 (by kernel_rfl) (by kernel_rfl) (by decide) ru_live
theorem pg_live : pgL pL = tLiv2.data.toList := by decide +kernel
theorem prs_liv2 : prsL tLiv2 = .ok pL := prs_of (t := tkLiv2) (us := [eT 49]) (d := 0) 60 (by kernel_rfl) (by kernel_rfl) (by decide) ru_live
end Go.Proofs.YtknoibocpbfmmaaGreatDoor



namespace Go.Proofs.YtknoibocpbfmmaaGreatDoor
open Go.RowKit
set_option linter.unusedVariables false
set_option linter.unusedSimpArgs false
theorem EvAt.bel {w V : World} (h : EvAt w) (g : Below w.heap.size w V) : EvAt V := by
 obtain ⟨ev, h1, h2⟩ := h
 exact ⟨ev, pb_cell g h1, h2⟩
/-- What Parse tells of a text that is a program. -/
theorem pParse_ok {s : ByteArray} {p : Pg} (h : prsL s = .ok p) (w : World) (hO : OpsAt w) (hE : EvAt w) : Calls Tryz.prog 10 #[.string s] w fun e w' => ∃ wo wc xo xc, e = .returned (.tuple #[.agg #[.slice wo p.1.length wc, .slice xo p.2.len xc], .int .i64 0, .int .i64 0]) ∧ Below w.heap.size w w' ∧ SlDc w' (.slice wo p.1.length wc) p.1 ∧ SlS w' (Fr w.heap.size) (.slice xo p.2.len xc) p.2 := by
 have k := pParse s w hO hE
 rw [h] at k
 refine k.mono ?_
 rintro e w' ⟨g, wo, wc, xo, xc, rfl, h1, h2, _⟩
 exact ⟨wo, wc, xo, xc, rfl, g, h1, h2⟩
theorem prt_live : prtP pL = (tLiv2, 0) := by
 have e : (⟨(pgL pL).toArray⟩ : ByteArray) = tLiv2 := by rw [pg_live]
 unfold prtP
 rw [ru_live]
 simp only
 rw [e, prs_liv2]
theorem ms_live : msP (pL.1, pL.2) = (2, true) := by unfold msP; rw [show (pL.1, pL.2) = pL from rfl, ru_live]; rfl
set_option maxRecDepth 100000 in
set_option maxHeartbeats 3200000 in
theorem live5 (w : World) (hO : OpsAt w) (hE : EvAt w) : Calls Tryz.prog 9 #[] w fun e w' => e = .returned (.bool true) ∧ Below w.heap.size w w' := by
 have kP := pParse_ok prs_live w hO hE
 have sz := prs_sz prs_live
 have hO' : Hid (OpsAt w ∧ EvAt w) := ⟨hO, hE⟩
 have kM := fun V dv bv (h1 : OpsAt V) h3 h4 => ppoints pL.1 pL.2 (Fr w.heap.size) dv bv V h1 (ops_lt h1) h3 h4 sz.2.1 sz.2.2.1
 have kT := fun V dv bv h1 h2 h3 h4 => pPrint pL (Fr w.heap.size) dv bv V h1 h2 h3 h4 sz.2.1 sz.2.2.1
 rw [ms_live] at kM
 rw [prt_live] at kT
 rw [show pL.1.length = 1 from rfl, show pL.2.len = 2 from rfl] at kP
 have es : ((⟨#[100, 111, 117, 98, 108, 101, 32, 120, 59, 10, 114, 101, 97, 100, 32, 120, 32, 105, 110, 32, 91, 48, 46, 48, 44, 32, 49, 46, 48, 93, 59, 10, 120, 32, 61, 32, 120, 32, 42, 32, 120, 32, 45, 32, 49, 46, 48, 59, 10]⟩ : ByteArray).toList == (tLiv2 : ByteArray).toList) = true := by rw [beq_iff_eq]
 clear hO hE sz
 go_enter Tryz.func9, Tryz.ntmps9
 go_upto_region 2 with (first
  | (go_at_call 10; (refine kP.mono ?_); rintro e v1 ⟨wo, wc, xo, xc, rfl, g1, hD, hT⟩)
  | fail)
 have gX := pb_new (Below.refl v1.heap.size v1) (.cells #[.slice wo 1 wc, .slice xo 2 xc] 25)
 have qX := World.alloc_heap_new v1 (.cells #[.slice wo 1 wc, .slice xo 2 xc] 25)
 have hD2 := hD.bel gX
 have hT2 := hT.kp (Below.kp gX _)
 have gg := pb_call g1 gX
 obtain ⟨X, hX⟩ : ∃ X, v1.alloc (.cells #[.slice wo 1 wc, .slice xo 2 xc] 25) = X := ⟨_, rfl⟩
 obtain ⟨b, hb⟩ : ∃ b, v1.heap.size = b := ⟨_, rfl⟩
 rw [hX] at gX qX hD2 hT2 gg ⊢
 rw [hb] at qX
 (try rw [hb])
 have c0 : X.cell? ⟨b, 0, none⟩ = some (.slice wo 1 wc) := by simp [World.cell?, qX]
 have c1 : X.cell? ⟨b, 1, none⟩ = some (.slice xo 2 xc) := by simp [World.cell?, qX]
 have OX := hO'.out.1.bel gg
 have EX := hO'.out.2.bel gg
 have gg' : Hid (Below w.heap.size w X) := gg
 clear hX hb g1 gX hD hT kP qX
 go_wp2_with (first
  | (go_at_call 8; (refine (kT X _ _ OX EX hD2 hT2).mono ?_); rintro e v2 ⟨rfl, g2⟩; replace c0 := pb_cell g2 c0; replace c1 := pb_cell g2 c1; replace hD2 := hD2.bel g2; replace hT2 := hT2.kp (Below.kp g2 _); replace OX := OX.bel g2)
  | (go_at_call 15; (refine (kM _ _ _ OX hD2 hT2).mono ?_); rintro e v3 ⟨rfl, g3⟩)
  | fail)
 go_ret
 exact ⟨rfl, pb_call gg'.out (pb_call g2 g3)⟩
end Go.Proofs.YtknoibocpbfmmaaGreatDoor



namespace Go.Proofs.YtknoibocpbfmmaaGreatDoor
open Go.RowKit
set_option linter.unusedVariables false
set_option linter.unusedSimpArgs false
theorem live5_at {w V : World} (h : OpsAt w ∧ EvAt w) (g : Below w.heap.size w V) : Calls Tryz.prog 9 #[] V fun e w' => e = .returned (.bool true) ∧ Below V.heap.size V w' := live5 V (h.1.bel g) (h.2.bel g)
end Go.Proofs.YtknoibocpbfmmaaGreatDoor



namespace Go.Proofs.YtknoibocpbfmmaaGreatDoor
open Go.RowKit
set_option linter.unusedVariables false
set_option linter.unusedSimpArgs false
theorem tl_inj {a b : ByteArray} (h : a.toList = b.toList) : a = b := by
 rw [toL, toL] at h
 exact ByteArray.ext (Array.ext' h)
theorem Fo.len_wt : ∀ f : Fo, f.len ≤ f.wt
 | .nil => Nat.le_refl _
 | .cons op tx ty ks r => by
  have := Fo.len_wt r
  show r.len + 1 ≤ tx.size + 20 + ks.wt + r.wt
  omega
theorem Fo.len0 {f : Fo} (h : f.len = 0) : f = .nil := by cases f with
 | nil => rfl
 | cons a b c k r => simp [Fo.len] at h
end Go.Proofs.YtknoibocpbfmmaaGreatDoor



namespace Go.Proofs.YtknoibocpbfmmaaGreatDoor
open Go.RowKit
set_option linter.unusedVariables false
set_option linter.unusedSimpArgs false
def SrA (e : Ex) : Prop := ∀ (S S' : Nat → Prop) (pp pp' : Option Addr) (qq qq' : Nat) (w : World), SlF w S (.slice pp e.ks.len qq) e.ks → SlF w S' (.slice pp' e.ks.len qq') e.ks →
 Calls Tryz.prog 41 #[.agg #[.int .i64 e.op, .string e.tx, .int .i64 e.ty, .slice pp e.ks.len qq], .agg #[.int .i64 e.op, .string e.tx, .int .i64 e.ty, .slice pp' e.ks.len qq']] w fun r w' => r = .returned (.bool true) ∧ Below w.heap.size w w'
set_option maxRecDepth 100000 in
set_option maxHeartbeats 3200000 in
theorem srF (f : Fo) (hA : f.all SrA) (hz : f.len ≤ 1099511627776) (S S' : Nat → Prop) (pp pp' : Option Addr) (qq qq' : Nat) (w : World) (hT : SlF w S (.slice pp f.len qq) f) (hU : SlF w S' (.slice pp' f.len qq') f) :
  Calls Tryz.prog 40 #[.slice pp f.len qq, .slice pp' f.len qq'] w fun e' w' => e' = .returned (.bool true) ∧ Below w.heap.size w w' := by
 obtain ⟨m, hm⟩ : ∃ m, f.len = m := ⟨_, rfl⟩
 rw [hm] at hT hU hz ⊢
 have hm' : Hid (f.len = m) := hm
 have hA' : Hid (f.all SrA) := hA
 have hT' : Hid (SlF w S (.slice pp m qq) f) := hT
 have hU' : Hid (SlF w S' (.slice pp' m qq') f) := hU
 have hm40 : Hid (m ≤ 1099511627776) := hz
 have hl' : ¬ (m : Int) ≠ (m : Int) := by simp
 clear hm hA hT hU hz
 go_enter Tryz.func40, Tryz.ntmps40
 go_upto_region 4 with fail
 go_loopw [5] (fun i wr => ∃ (j : Nat) (V : World), i = .int .i64 j ∧ V = wr ∧ Hid (Below w.heap.size w V) ∧ j ≤ m) (fun i _ => m - (intOf i).toNat)
 case atStart => exact ⟨0, w, rfl, rfl, Below.refl _ _, by omega⟩
 case round =>
  obtain ⟨j, V, rfl, e, gV, hj⟩ := hrel
  subst e
  by_cases cj : j < m
  ·have cj' : (j : Int) < (m : Int) := by omega
   obtain ⟨op, tx, ty, ks, hf⟩ := Fo.drop_at (f := f) (j := j) (by rw [hm'.out]; exact cj)
   have hal := Fo.all_drop j hA'.out
   rw [hf] at hal
   have hTT := hT'.out.kp (Below.kp gV.out _)
   have hUU := hU'.out.kp (Below.kp gV.out _)
   obtain ⟨p2, q2, e2, hT⟩ := hTT
   obtain ⟨rfl, e4, rfl⟩ := Value.slice.inj e2
   clear e2 e4
   obtain ⟨p2, q2, e2, hU⟩ := hUU
   obtain ⟨rfl, e4, rfl⟩ := Value.slice.inj e2
   clear e2 e4
   rcases hT with hT | ⟨c, u, rfl, hT⟩
   ·exfalso; have := hm'.out; rw [hT] at this; simp [Fo.len] at this; omega
   rcases hU with hU | ⟨c', u', rfl, hU⟩
   ·exfalso; have := hm'.out; rw [hU] at this; simp [Fo.len] at this; omega
   have hTj := FoAt.drop j hT
   rw [hf] at hTj
   obtain ⟨⟨k0, k1, k2, s3, k3, hs3⟩, _, lc⟩ := hTj.head
   obtain ⟨p3, q3, rfl, hs3'⟩ := hs3
   have hUj := FoAt.drop j hU
   rw [hf] at hUj
   obtain ⟨⟨l0, l1, l2, s4, l3, hs4⟩, _, lc'⟩ := hUj.head
   obtain ⟨p4, q4, rfl, hs4'⟩ := hs4
   simp only at k0 k1 k2 k3 l0 l1 l2 l3 hs3' hs4'
   have hTs : SlF V S (.slice p3 ks.len q3) ks := ⟨p3, q3, rfl, hs3'⟩
   have hUs : SlF V S' (.slice p4 ks.len q4) ks := ⟨p4, q4, rfl, hs4'⟩
   have kE := fun Y (g : Below V.heap.size V Y) => hal.1 S S' p3 p4 q3 q4 Y (hTs.kp (Below.kp g _)) (hUs.kp (Below.kp g _))
   simp only at kE
   have ix := ex_ix c u m qq j cj
   have iy := ex_ix c' u' m qq' j cj
   have wj : IntKind.i64.wrap ((j : Int) + 1) = ((j + 1 : Nat) : Int) := by have := hm40.out; rw [IntKind.wrap_i64]; omega
   have gV' : Hid (Below w.heap.size w V) := gV
   clear hTj hUj hT hU hs3' hs4' hTs hUs lc lc' hal hf gV
   generalize hks : ks.len = n3 at *
   clear hks
   generalize u + j * 4 = o at *
   generalize u' + j * 4 = o' at *
   have hall : ∀ X9, Below V.heap.size V X9 → (X9.cell? ⟨c, o, none⟩ = some (.int .i64 op) ∧ X9.cell? ⟨c, o + 1, none⟩ = some (.string tx) ∧ X9.cell? ⟨c, o + 2, none⟩ = some (.int .i64 ty) ∧ X9.cell? ⟨c, o + 3, none⟩ = some (.slice p3 n3 q3) ∧ X9.cell? ⟨c', o', none⟩ = some (.int .i64 op) ∧ X9.cell? ⟨c', o' + 1, none⟩ = some (.string tx) ∧ X9.cell? ⟨c', o' + 2, none⟩ = some (.int .i64 ty) ∧ X9.cell? ⟨c', o' + 3, none⟩ = some (.slice p4 n3 q4)) := fun X9 g => ⟨pb_cell g k0, pb_cell g k1, pb_cell g k2, pb_cell g k3, pb_cell g l0, pb_cell g l1, pb_cell g l2, pb_cell g l3⟩
   clear k0 k1 k2 k3 l0 l1 l2 l3
   go_upto_region 6 with fail
   refine wp_region_inv [17, 18, 19, 20, 21, 22, 23, 24, 25, 26] (Rls [Eqv (.slice (some ⟨c, u, none⟩) m qq), Eqv (.int .i64 (j : Int)), Eqv (.pointer (some ⟨c, o, none⟩)), Eqv (.agg #[.int .i64 op, .string tx, .int .i64 ty, .slice p3 n3 q3]), Eqv (.slice (some ⟨c', u', none⟩) m qq'), Eqv (.int .i64 (j : Int)), Eqv (.pointer (some ⟨c', o', none⟩)), Eqv (.agg #[.int .i64 op, .string tx, .int .i64 ty, .slice p4 n3 q4]), Eqv (.bool true), Eqv (.bool false)]) [0, 1, 2, 3, 4, 5, 6, 7, 8, 9] (by kernel_rfl) (by kernel_rfl) (by kernel_rfl) (by kernel_rfl) (MonoL.of (MonoL.eq (MonoL.eq (MonoL.eq (MonoL.eq (MonoL.eq (MonoL.eq (MonoL.eq (MonoL.eq (MonoL.eq (MonoL.eq MonoL.nil))))))))))) ?_ ?_
   ·skip
    refine StepsI.cons (o := _) rfl ?_ ?_
    ·try simp only [List.getElem_toArray, List.getElem_cons_zero, List.getElem_cons_succ]
     refine StepI.of ?_ ?_ ?_
     ·rfl
     ·kernel_rfl
     intro A w hb hT0 hd0 K hK
     have f0 : A.tmps[0]?.getD undef = .slice (some ⟨c, u, none⟩) m qq := hT0 0 (by kernel_rfl)
     clear hT0 hd0
     go_simp
     exact hK.out _ _ (Below.refl _ _) rfl
    refine StepsI.cons (o := _) rfl ?_ ?_
    ·try simp only [List.getElem_toArray, List.getElem_cons_zero, List.getElem_cons_succ]
     refine StepI.of ?_ ?_ ?_
     ·rfl
     ·kernel_rfl
     intro A w hb hT0 hd0 K hK
     have f0 : A.tmps[5]?.getD undef = .int .i64 (j : Int) := hT0 5 (by kernel_rfl)
     clear hT0 hd0
     go_simp
     exact hK.out _ _ (Below.refl _ _) rfl
    refine StepsI.cons (o := _) rfl ?_ ?_
    ·try simp only [List.getElem_toArray, List.getElem_cons_zero, List.getElem_cons_succ]
     refine StepI.of ?_ ?_ ?_
     ·rfl
     ·kernel_rfl
     intro A w hb hT0 hd0 K hK
     have e0 : A.tmps[17]?.getD undef = .slice (some ⟨c, u, none⟩) m qq := hd0 0 17 (by kernel_rfl)
     have e1 : A.tmps[18]?.getD undef = .int .i64 (j : Int) := hd0 1 18 (by kernel_rfl)
     clear hT0 hd0
     go_simp
     exact hK.out _ _ (Below.refl _ _) rfl
    refine StepsI.cons (o := _) rfl ?_ ?_
    ·try simp only [List.getElem_toArray, List.getElem_cons_zero, List.getElem_cons_succ]
     refine StepI.of ?_ ?_ ?_
     ·rfl
     ·kernel_rfl
     intro A w hb hT0 hd0 K hK
     obtain ⟨z0, z1, z2, z3, y0, y1, y2, y3⟩ := hall w hb
     have e0 : A.tmps[19]?.getD undef = .pointer (some ⟨c, o, none⟩) := hd0 2 19 (by kernel_rfl)
     clear hT0 hd0
     go_simp
     exact hK.out _ _ (Below.refl _ _) rfl
    refine StepsI.cons (o := _) rfl ?_ ?_
    ·try simp only [List.getElem_toArray, List.getElem_cons_zero, List.getElem_cons_succ]
     refine StepI.of ?_ ?_ ?_
     ·rfl
     ·kernel_rfl
     intro A w hb hT0 hd0 K hK
     have f0 : A.tmps[1]?.getD undef = .slice (some ⟨c', u', none⟩) m qq' := hT0 1 (by kernel_rfl)
     clear hT0 hd0
     go_simp
     exact hK.out _ _ (Below.refl _ _) rfl
    refine StepsI.cons (o := _) rfl ?_ ?_
    ·try simp only [List.getElem_toArray, List.getElem_cons_zero, List.getElem_cons_succ]
     refine StepI.of ?_ ?_ ?_
     ·rfl
     ·kernel_rfl
     intro A w hb hT0 hd0 K hK
     have f0 : A.tmps[5]?.getD undef = .int .i64 (j : Int) := hT0 5 (by kernel_rfl)
     clear hT0 hd0
     go_simp
     exact hK.out _ _ (Below.refl _ _) rfl
    refine StepsI.cons (o := _) rfl ?_ ?_
    ·try simp only [List.getElem_toArray, List.getElem_cons_zero, List.getElem_cons_succ]
     refine StepI.of ?_ ?_ ?_
     ·rfl
     ·kernel_rfl
     intro A w hb hT0 hd0 K hK
     have e0 : A.tmps[21]?.getD undef = .slice (some ⟨c', u', none⟩) m qq' := hd0 4 21 (by kernel_rfl)
     have e1 : A.tmps[22]?.getD undef = .int .i64 (j : Int) := hd0 5 22 (by kernel_rfl)
     clear hT0 hd0
     go_simp
     exact hK.out _ _ (Below.refl _ _) rfl
    refine StepsI.cons (o := _) rfl ?_ ?_
    ·try simp only [List.getElem_toArray, List.getElem_cons_zero, List.getElem_cons_succ]
     refine StepI.of ?_ ?_ ?_
     ·rfl
     ·kernel_rfl
     intro A w hb hT0 hd0 K hK
     obtain ⟨z0, z1, z2, z3, y0, y1, y2, y3⟩ := hall w hb
     have e0 : A.tmps[23]?.getD undef = .pointer (some ⟨c', o', none⟩) := hd0 6 23 (by kernel_rfl)
     clear hT0 hd0
     go_simp
     exact hK.out _ _ (Below.refl _ _) rfl
    refine StepsI.cons (o := _) rfl ?_ ?_
    ·try simp only [List.getElem_toArray, List.getElem_cons_zero, List.getElem_cons_succ]
     refine StepI.of ?_ ?_ ?_
     ·rfl
     ·kernel_rfl
     intro A w hb hT0 hd0 K hK
     have e0 : A.tmps[20]?.getD undef = .agg #[.int .i64 op, .string tx, .int .i64 ty, .slice p3 n3 q3] := hd0 3 20 (by kernel_rfl)
     have e1 : A.tmps[24]?.getD undef = .agg #[.int .i64 op, .string tx, .int .i64 ty, .slice p4 n3 q4] := hd0 7 24 (by kernel_rfl)
     clear hT0 hd0
     go_simp
     refine (kE w hb).mono ?_
     rintro e w2 ⟨rfl, g⟩
     exact hK.out _ _ g (rfl)
    refine StepsI.cons (o := _) rfl ?_ ?_
    ·try simp only [List.getElem_toArray, List.getElem_cons_zero, List.getElem_cons_succ]
     refine StepI.of ?_ ?_ ?_
     ·rfl
     ·kernel_rfl
     intro A w hb hT0 hd0 K hK
     have e0 : A.tmps[25]?.getD undef = .bool true := hd0 8 25 (by kernel_rfl)
     clear hT0 hd0
     go_simp
     exact hK.out _ _ (Below.refl _ _) rfl
    exact StepsI.nil
   intro g wz hb hR
   have e6 : g 26 = .bool false := hR 9 26 (by decide) (by kernel_rfl)
   simp only [fillT, List.foldl_cons, List.foldl_nil, List.setIfInBounds_toArray, List.set_cons_zero, List.set_cons_succ]
   rw [e6]
   clear e6 hR hall kE ix iy
   go_wp2_with fail
   exact ⟨⟨j + 1, wz, by go_num, rfl, pb_call gV'.out hb, by omega⟩, by simp [intOf]; omega⟩
  ·obtain rfl : j = m := by omega
   have nn : ¬ ((j : Int) < (j : Int)) := by omega
   have g' := gV.out
   go_wp2_with fail
   go_ret
   exact ⟨rfl, g'⟩
set_option maxRecDepth 100000 in
set_option maxHeartbeats 3200000 in
theorem srE (op : Int) (tx : ByteArray) (ty : Int) (ks : Fo) (hA : ks.all SrA) (hz : ks.len ≤ 1099511627776) : SrA ⟨op, tx, ty, ks⟩ := by
 intro S S' pp pp' qq qq' w hT hU
 simp only at hT hU ⊢
 have g1 := pb_new (Below.refl w.heap.size w) (.cells #[.int .i64 op, .string tx, .int .i64 ty, .slice pp ks.len qq] 85)
 obtain ⟨X, hX⟩ : ∃ X, w.alloc (.cells #[.int .i64 op, .string tx, .int .i64 ty, .slice pp ks.len qq] 85) = X := ⟨_, rfl⟩
 have qX : X.heap[w.heap.size]? = some (.cells #[.int .i64 op, .string tx, .int .i64 ty, .slice pp ks.len qq] 85 (0, 0)) := by rw [← hX]; exact World.alloc_heap_new _ _
 have sX : X.heap.size = w.heap.size + 1 := by rw [← hX]; simp [go_sem]
 rw [hX] at g1
 have g2 := pb_new (Below.refl X.heap.size X) (.cells #[.int .i64 op, .string tx, .int .i64 ty, .slice pp' ks.len qq'] 85)
 obtain ⟨Y, hY⟩ : ∃ Y, X.alloc (.cells #[.int .i64 op, .string tx, .int .i64 ty, .slice pp' ks.len qq'] 85) = Y := ⟨_, rfl⟩
 have qY : Y.heap[w.heap.size + 1]? = some (.cells #[.int .i64 op, .string tx, .int .i64 ty, .slice pp' ks.len qq'] 85 (0, 0)) := by rw [← hY, ← sX]; exact World.alloc_heap_new _ _
 rw [hY] at g2
 obtain ⟨b2, hb2⟩ : ∃ b, w.heap.size = b := ⟨_, rfl⟩
 rw [hb2] at qX qY sX
 have qX2 : Y.heap[b2]? = some (.cells #[.int .i64 op, .string tx, .int .i64 ty, .slice pp ks.len qq] 85 (0, 0)) := (g2.block b2 (by omega)).trans qX
 obtain ⟨f0, f1, f2, f3, ff⟩ := ex_cells qX2
 obtain ⟨h0, h1, h2, h3, hh⟩ := ex_cells qY
 have kF := srF ks hA hz S S' pp pp' qq qq' Y ((hT.kp (Below.kp g1 _)).kp (Below.kp g2 _)) ((hU.kp (Below.kp g1 _)).kp (Below.kp g2 _))
 have gY : Hid (Below w.heap.size w Y) := pb_call g1 g2
 have hX' : Hid (w.alloc (.cells #[.int .i64 op, .string tx, .int .i64 ty, .slice pp ks.len qq] 85) = X) := hX
 have hY' : Hid (X.alloc (.cells #[.int .i64 op, .string tx, .int .i64 ty, .slice pp' ks.len qq'] 85) = Y) := hY
 have hb2' : Hid (w.heap.size = b2 ∧ X.heap.size = b2 + 1) := ⟨hb2, sX⟩
 clear hX hY hb2 sX qX qX2 qY g1 g2 hT hU hA hz
 generalize ks.len = n3 at *
 go_enter Tryz.func41, Tryz.ntmps41
 go_upto_region 1 with fail
 rw [hX'.out]
 rw [hY'.out]
 (try rw [hb2'.out.1])
 (try rw [hb2'.out.2])
 clear hX' hY' hb2'
 go_wp2_with (first
  | (go_at_call 40; (refine kF.mono ?_); rintro e v1 ⟨rfl, g3⟩)
  | fail)
 go_ret
 exact ⟨rfl, pb_call gY.out g3⟩
/-- All expressions of a tree. -/
theorem sr_of : ∀ f : Fo, f.wt ≤ 1099511627776 → f.all SrA
 | .nil, _ => trivial
 | .cons op tx ty ks r, hw => by
  have w1 : tx.size + 20 + ks.wt + r.wt ≤ 1099511627776 := hw
  have l := Fo.len_wt ks
  exact ⟨srE op tx ty ks (sr_of ks (by omega)) (by omega), sr_of r (by omega)⟩
end Go.Proofs.YtknoibocpbfmmaaGreatDoor



