/- Texts whose parse the kernel reckons: what plumblinelaw05's live asks. -/
import Derived.Test.YtknoibocpbfmmaaGreatDoorPeI
namespace Go.Proofs.YtknoibocpbfmmaaGreatDoor
set_option linter.unusedVariables false
set_option linter.unusedSimpArgs false
/-- A scan with fuel: the kernel reckons it. -/
def scanF : Nat → List UInt8 → Nat → Nat → Except (Nat × Nat) (List (Nat × Nat × Nat))
  | 0, _, _, _ => .ok []
  | m + 1, l, a, n =>
    if l.length = 0 then .ok []
    else if (tok l).1 = 0 then .error (3, a)
    else if n = 2048 then .error (5, a)
    else match scanF m ((l.drop (tok l).2).drop (cnt 1 (l.drop (tok l).2))) (a + (tok l).2 + cnt 1 (l.drop (tok l).2)) (n + 1) with
      | .ok r => .ok (((tok l).1, a, (tok l).2) :: r)
      | .error e => .error e
theorem scanF_eq : ∀ (m : Nat) (l : List UInt8) (a n : Nat), l.length ≤ m → scanF m l a n = scanAt l a n
  | 0, l, a, n, h => by rw [scanAt_end l a n (by omega)]; rfl
  | m + 1, l, a, n, h => by
    rw [scanF]
    by_cases h0 : l.length = 0
    · rw [if_pos h0, scanAt_end l a n h0]
    rw [if_neg h0]
    by_cases hk : (tok l).1 = 0
    · rw [if_pos hk, scanAt_bad l a n h0 hk]
    rw [if_neg hk]
    by_cases hn : n = 2048
    · rw [if_pos hn]; subst hn; rw [scanAt_full l a h0 hk]
    rw [if_neg hn, scanAt, if_neg h0, dif_neg hk, if_neg hn]
    have hp := tok_pos hk
    rw [scanF_eq m _ _ _ (by rw [List.length_drop, List.length_drop]; omega)]
    rfl
def scanK (l : List UInt8) : Except (Nat × Nat) (List (Nat × Nat × Nat)) := if 8192 < l.length then .error (5, 0) else scanF l.length (l.drop (cnt 1 l)) (cnt 1 l) 0
theorem scanK_eq (l : List UInt8) : scanK l = scanL l := by
  unfold scanK scanL
  split
  · rfl
  · exact scanF_eq _ _ _ _ (by rw [List.length_drop]; omega)
/-- What a text is parsed as, by amounts that the kernel reckons with. -/
theorem prs_of {s : ByteArray} {t : List (Nat × Nat × Nat)} {p : Pg} {us : List Tk} {d : Int} {c : Nat × Nat} (N : Nat) (hs : scanK s.data.toList = .ok t) (hp : pgP N (tks s t) = .ok p us d) (hd : d ≤ 24) (hr : ruP p = some c) : prsL s = .ok p := by
  have hs' : scanL s.toList = .ok t := by rw [toL, ← scanK_eq]; exact hs
  unfold prsL
  rw [hs']
  simp only
  have nm : pgP 16500 (tks s t) ≠ .more := tks_nm (scanL_len hs')
  have e := mo_both (F := fun n => pgP n (tks s t)) (fun n => mo_pg n _) (n := N) (n' := 16500) (by rw [hp]; exact ok_nm) nm
  have e2 : pgP 16500 (tks s t) = .ok p us d := by rw [← e]; exact hp
  rw [e2]
  unfold parT
  simp only
  rw [if_pos]
  rw [hr]
  simp [hd]
theorem isNum_of {s : ByteArray} {k n : Nat} (hs : scanK s.data.toList = .ok [(k, 0, n)]) (he : s.extract 0 (0 + n) = s) (hk : k = 3 ∨ k = 4) : isNum s = true := by
  unfold isNum
  rw [toL, ← scanK_eq, hs]
  simp only
  rw [decide_eq_true he]
  rcases hk with rfl | rfl <;> rfl
abbrev t0 : ByteArray := ⟨#[48, 46, 48]⟩
abbrev t1 : ByteArray := ⟨#[49, 46, 48]⟩
abbrev tX : ByteArray := ⟨#[120]⟩
theorem num_t0 : isNum t0 = true := isNum_of (k := 4) (n := 3) (by kernel_rfl) (by decide +kernel) (by decide)
theorem num_t1 : isNum t1 = true := isNum_of (k := 4) (n := 3) (by kernel_rfl) (by decide +kernel) (by decide)
def exV (s : ByteArray) : Ex := ⟨2, s, 0, .nil⟩
def exC (s : ByteArray) : Ex := ⟨1, s, 0, .nil⟩
/-- The program that live asks for. -/
def pL : Pg := ([(tX, 3, 0)], .cons 2 tX .nil exN (exC t0) (exC t1) .nil .nil (.cons 1 tX .nil (over2 9 (over2 10 (exV tX) (exV tX)) (exC t1)) exN exN .nil .nil .nil))
abbrev tLive : ByteArray := ⟨#[100, 111, 117, 98, 108, 101, 32, 120, 59, 32, 114, 101, 97, 100, 32, 120, 32, 105, 110, 32, 91, 48, 46, 48, 44, 32, 49, 46, 48, 93, 59, 32, 120, 32, 61, 32, 120, 32, 42, 32, 120, 32, 45, 32, 49, 46, 48, 59]⟩
abbrev tLiv2 : ByteArray := ⟨#[100, 111, 117, 98, 108, 101, 32, 120, 59, 10, 114, 101, 97, 100, 32, 120, 32, 105, 110, 32, 91, 48, 46, 48, 44, 32, 49, 46, 48, 93, 59, 10, 120, 32, 61, 32, 120, 32, 42, 32, 120, 32, 45, 32, 49, 46, 48, 59, 10]⟩
def tkLive : List (Nat × Nat × Nat) := match scanK tLive.data.toList with | .ok t => t | .error _ => []
def tkLiv2 : List (Nat × Nat × Nat) := match scanK tLiv2.data.toList with | .ok t => t | .error _ => []
theorem ru_live : ruP pL = some (2, 7) := by
  have a : ∀ x n, ruF n (.cons 1 t0 0 .nil .nil) x = if (decide (x + 1 ≤ 2048) && decide (n ≤ 24)) = true then some (x + 1) else none := fun x n => by
    rw [ruF]
    have : exOk 1 t0 0 (Fo.len .nil) = true := by unfold exOk; rw [if_pos rfl, num_t0]; decide
    rw [this, Bool.and_true]; rfl
  have b : ∀ x n, ruF n (.cons 1 t1 0 .nil .nil) x = if (decide (x + 1 ≤ 2048) && decide (n ≤ 24)) = true then some (x + 1) else none := fun x n => by
    rw [ruF]
    have : exOk 1 t1 0 (Fo.len .nil) = true := by unfold exOk; rw [if_pos rfl, num_t1]; decide
    rw [this, Bool.and_true]; rfl
  have e1 : ruB (exC t0) 0 = some 1 := by unfold ruB ruE Ex.row exC; rw [a]; decide
  have e2 : ruB (exC t1) 1 = some 2 := by unfold ruB ruE Ex.row exC; rw [b]; decide
  have e3 : ruE 1 (over2 9 (over2 10 (exV tX) (exV tX)) (exC t1)) 2 = some 7 := by
    rw [ruE_eq]
    rw [if_pos (by decide +kernel)]
    show ruF 2 (.cons 10 tx0 0 (.cons 2 tX 0 .nil (.cons 2 tX 0 .nil .nil)) (.cons 1 t1 0 .nil .nil)) 3 = some 7
    rw [ruF, if_pos (by decide +kernel)]
    show ((ruF 3 (.cons 2 tX 0 .nil (.cons 2 tX 0 .nil .nil)) 4).bind fun x => ruF 2 (.cons 1 t1 0 .nil .nil) x) = _
    rw [show ruF 3 (.cons 2 tX 0 .nil (.cons 2 tX 0 .nil .nil)) 4 = some 6 by decide +kernel]
    show ruF 2 (.cons 1 t1 0 .nil .nil) 6 = _
    rw [b]; decide
  unfold ruP
  rw [if_pos (by decide +kernel)]
  unfold ruK
  rw [if_pos (by decide)]
  unfold pL
  rw [ruS, if_pos (by decide), if_neg (by decide), if_pos rfl, if_pos (by decide +kernel)]
  rw [show ((0 : Nat), (0 : Nat)).2 = 0 from rfl, e1]
  show ((ruB (exC t1) 1).bind fun x => _).bind _ = _
  rw [e2]
  show ((if bare tx0 Fo.nil.len exN exN exN So.nil.len So.nil.len = true then some ((0, 0).1 + 1, 2) else none).bind _) = _
  rw [if_pos (by decide +kernel)]
  show ruS 1 (.cons 1 tX .nil (over2 9 (over2 10 (exV tX) (exV tX)) (exC t1)) exN exN .nil .nil .nil) (1, 2) = _
  rw [ruS, if_pos (by decide), if_pos rfl, if_pos (by decide +kernel)]
  show ((ruE 1 (over2 9 (over2 10 (exV tX) (exV tX)) (exC t1)) 2).bind fun x => _).bind _ = _
  rw [e3]
  show ((if bare tx0 0 exN exN exN So.nil.len So.nil.len = true then some ((1, 2).1 + 1, 7) else none).bind _) = _
  rw [if_pos (by decide +kernel)]
  rfl
theorem prs_live : prsL tLive = .ok pL := prs_of (t := tkLive) (us := [eT 48]) (d := 0) 60 (by kernel_rfl) (by kernel_rfl) (by decide) ru_live
theorem pg_live : pgL pL = tLiv2.data.toList := by decide +kernel
theorem prs_liv2 : prsL tLiv2 = .ok pL := prs_of (t := tkLiv2) (us := [eT 49]) (d := 0) 60 (by kernel_rfl) (by kernel_rfl) (by decide) ru_live
end Go.Proofs.YtknoibocpbfmmaaGreatDoor

