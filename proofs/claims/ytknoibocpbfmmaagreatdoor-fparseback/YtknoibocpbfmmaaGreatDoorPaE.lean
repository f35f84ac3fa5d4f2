/- Words: types, operators. -/
import Derived.Test.YtknoibocpbfmmaaGreatDoorPaD
namespace Go.Proofs.YtknoibocpbfmmaaGreatDoor
open Go.RowKit
set_option linter.unusedVariables false
set_option linter.unusedSimpArgs false
def wdOf (t : Int) : ByteArray := if t = 1 then ⟨#[105, 110, 116]⟩ else if t = 2 then ⟨#[102, 108, 111, 97, 116]⟩ else if t = 3 then ⟨#[100, 111, 117, 98, 108, 101]⟩ else tx0
set_option maxRecDepth 100000 in
set_option maxHeartbeats 1600000 in
theorem pword (t : Int) (w : World) : Calls Tryz.prog 33 #[.int .i64 t] w fun e w' => e = .returned (.string (wdOf t)) ∧ w' = w := by
  by_cases h1 : t = 1
  · subst h1
    go_enter Tryz.func33, Tryz.ntmps33
    go_wp2_with fail
    go_ret
    exact ⟨rfl, rfl⟩
  by_cases h2 : t = 2
  · subst h2
    go_enter Tryz.func33, Tryz.ntmps33
    go_wp2_with fail
    go_ret
    exact ⟨rfl, rfl⟩
  by_cases h3 : t = 3
  · subst h3
    go_enter Tryz.func33, Tryz.ntmps33
    go_wp2_with fail
    go_ret
    exact ⟨rfl, rfl⟩
  have e : wdOf t = tx0 := by unfold wdOf; rw [if_neg h1, if_neg h2, if_neg h3]
  rw [e]
  have k1 : (t == 1) = false := by rw [beq_eq_false_iff_ne]; exact h1
  have k2 : (t == 2) = false := by rw [beq_eq_false_iff_ne]; exact h2
  have k3 : (t == 3) = false := by rw [beq_eq_false_iff_ne]; exact h3
  go_enter Tryz.func33, Tryz.ntmps33
  go_wp2_with fail
  go_ret
  exact ⟨rfl, rfl⟩
theorem ty_yes (j : Nat) (h1 : 1 ≤ j) (h3 : j ≤ 3) : tyOf (wdOf j) = j := by
  rcases (show j = 1 ∨ j = 2 ∨ j = 3 by omega) with rfl | rfl | rfl <;> decide
theorem ty_no {s : ByteArray} (h : ∀ j : Nat, 1 ≤ j → j ≤ 3 → wdOf j ≠ s) : tyOf s = 0 := by
  unfold tyOf
  rw [if_neg (fun e => h 1 (by decide) (by decide) e.symm), if_neg (fun e => h 2 (by decide) (by decide) e.symm), if_neg (fun e => h 3 (by decide) (by decide) e.symm)]
set_option maxRecDepth 100000 in
set_option maxHeartbeats 1600000 in
theorem ptype (s : ByteArray) (w : World) : Calls Tryz.prog 59 #[.string s] w fun e w' => e = .returned (.int .i64 (tyOf s)) ∧ w' = w := by
  have kw := pword
  have tn := @ty_no s
  have ty := ty_yes
  obtain ⟨R, hR⟩ : ∃ R, tyOf s = R := ⟨_, rfl⟩
  rw [hR]
  rw [hR] at tn
  go_enter Tryz.func59, Tryz.ntmps59
  go_upto_region 2 with fail
  have hR' : Hid (tyOf s = R) := hR
  clear hR
  go_loopw [3] (fun i wr => ∃ j : Nat, i = .int .i64 j ∧ 1 ≤ j ∧ j ≤ 4 ∧ Hid (∀ k : Nat, 1 ≤ k → k < j → wdOf k ≠ s) ∧ w = wr) (fun i _ => 4 - (intOf i).toNat)
  case atStart => exact ⟨1, rfl, by omega, by omega, fun k a b => by omega, rfl⟩
  case round =>
    obtain ⟨j, rfl, j1, j4, hx, e⟩ := hrel
    subst e
    by_cases cj : j ≤ 3
    · have cj' : (j : Int) ≤ 3 := by omega
      have wj : IntKind.i64.wrap ((j : Int) + 1) = ((j + 1 : Nat) : Int) := by rw [IntKind.wrap_i64]; omega
      obtain ⟨x, hxj⟩ : ∃ x, wdOf j = x := ⟨_, rfl⟩
      by_cases ex : x = s
      · have eR : Hid ((j : Int) = R) := by have h9 := ty j j1 cj; have h8 := hR'.out; rw [← ex, ← hxj, h9] at h8; exact h8
        subst ex
        have ht : (x.toList == x.toList) = true := by simp
        clear hx tn ty hR'
        go_wp2_with (first | (go_at_call 33; refine (kw _ _).mono ?_; rintro e w1 ⟨rfl, rfl⟩; (try rw [hxj])) | fail)
        go_ret
        exact ⟨by rw [← eR.out]; rfl, rfl⟩
      · have ht := txt_no ex
        have hx2 : Hid (∀ k : Nat, 1 ≤ k → k < j + 1 → wdOf k ≠ s) := fun k a b => by
          rcases (show k < j ∨ k = j by omega) with h | h
          · exact hx.out k a h
          · rw [h, hxj]; exact ex
        clear hx tn ty ex
        go_wp2_with (first | (go_at_call 33; refine (kw _ _).mono ?_; rintro e w1 ⟨rfl, rfl⟩; (try rw [hxj])) | fail)
        exact ⟨⟨j + 1, by go_num, by omega, by omega, hx2, trivial⟩, by simp [intOf]; omega⟩
    · obtain rfl : j = 4 := by omega
      have e0 : R = 0 := by exact tn (fun k a b => hx.out k a (by omega))
      subst e0
      clear tn ty hx
      go_wp2_with fail
      go_ret
      exact ⟨rfl, rfl⟩
/-- The operators as the table has them. -/
def opT : List (Int × ByteArray × Int) := [(19, ⟨#[124, 124]⟩, 0), (18, ⟨#[38, 38]⟩, 1), (12, ⟨#[60]⟩, 2), (13, ⟨#[60, 61]⟩, 2), (14, ⟨#[62]⟩, 2), (15, ⟨#[62, 61]⟩, 2), (16, ⟨#[61, 61]⟩, 2), (17, ⟨#[33, 61]⟩, 2), (8, ⟨#[43]⟩, 3), (9, ⟨#[45]⟩, 3), (10, ⟨#[42]⟩, 4), (11, ⟨#[47]⟩, 4)]
def opC : List (Int × ByteArray × Int) → List Value
  | [] => []
  | x :: r => .int .i64 x.1 :: .string x.2.1 :: .int .i64 x.2.2 :: opC r
/-- The table in memory. -/
def OpsAt (W : World) : Prop := ∀ j v, (opC opT)[j]? = some v → W.cell? ⟨0, j, none⟩ = some v
theorem op_yes {j : Nat} {a l : Int} {t : ByteArray} (h : opT[j]? = some (a, t, l)) : opOf t = (a, l) := by
  have hj := (List.getElem?_eq_some_iff.1 h).1
  have hl : opT.length = 12 := rfl
  rcases (show j = 0 ∨ j = 1 ∨ j = 2 ∨ j = 3 ∨ j = 4 ∨ j = 5 ∨ j = 6 ∨ j = 7 ∨ j = 8 ∨ j = 9 ∨ j = 10 ∨ j = 11 by omega) with rfl | rfl | rfl | rfl | rfl | rfl | rfl | rfl | rfl | rfl | rfl | rfl <;> (simp [opT] at h; obtain ⟨rfl, rfl, rfl⟩ := h; decide)
theorem op_no {s : ByteArray} (h : ∀ (j : Nat) x, opT[j]? = some x → x.2.1 ≠ s) : opOf s = (0, 0) := by
  have g : ∀ (j : Nat) x, opT[j]? = some x → ¬ s = x.2.1 := fun j x e k => h j x e k.symm
  unfold opOf
  rw [if_neg (g 0 _ rfl), if_neg (g 1 _ rfl), if_neg (g 2 _ rfl), if_neg (g 3 _ rfl), if_neg (g 4 _ rfl), if_neg (g 5 _ rfl), if_neg (g 6 _ rfl), if_neg (g 7 _ rfl), if_neg (g 8 _ rfl), if_neg (g 9 _ rfl), if_neg (g 10 _ rfl), if_neg (g 11 _ rfl)]
/-- An element of the table as a value. -/
theorem op_index (j : Nat) (a l : Int) (t : ByteArray) (h : opT[j]? = some (a, t, l)) (w : World) : (Instr.index 146 (.agg (opC opT).toArray) (.int .i64 j)).run Tryz.prog w = .ok (.agg #[.int .i64 a, .string t, .int .i64 l]) w := by
  have hj := (List.getElem?_eq_some_iff.1 h).1
  have hl : opT.length = 12 := rfl
  rcases (show j = 0 ∨ j = 1 ∨ j = 2 ∨ j = 3 ∨ j = 4 ∨ j = 5 ∨ j = 6 ∨ j = 7 ∨ j = 8 ∨ j = 9 ∨ j = 10 ∨ j = 11 by omega) with rfl | rfl | rfl | rfl | rfl | rfl | rfl | rfl | rfl | rfl | rfl | rfl <;> (simp [opT] at h; obtain ⟨rfl, rfl, rfl⟩ := h; show _ = _; kernel_rfl)
end Go.Proofs.YtknoibocpbfmmaaGreatDoor
