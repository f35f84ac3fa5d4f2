/- Texts of the proof, put together. -/
import Derived.Test.YtknoibocpbfmmaaGreatDoorYG2
import Derived.Test.YtknoibocpbfmmaaGreatDoorRows
import Derived.WalkKit
import Derived.WalkSpells
import Derived.StillTactics
import Derived.Laws.Pointers
import Derived.Laws.Externs
import Derived.Deep.RegionHeld3
import Derived.Below
import Derived.RowKit
import Derived.Laws.IdiomStrings
import Derived.Laws.RangeAny
import Derived.ArgAppend
namespace Go.Proofs.YtknoibocpbfmmaaGreatDoor
set_option linter.unusedVariables false
theorem jn_dc {C : Prop} {e k : Nat} {v : List Tk} {m : Int} {u : List Tk} (hu : Kd u) (d : Int) : Jn C e k v m (dcP (u ++ [eT e]) d) (dcP (u.map (sh k) ++ v) (max d m)) := by
  cases u with
  | nil => exact Jn.nv (end_dc e d).nv
  | cons b u =>
    unfold dcP
    by_cases c : b.1 = 2
    · rw [if_pos (show (hd (b :: u ++ [eT e])).1 = 2 from c), if_pos (show (hd ((b :: u).map (sh k) ++ v)).1 = 2 from c)]
      refine Jn.name (u := u) (f := fun x us => if isTx us tLb then if (hd us.tail).1 = 3 then want tRb us.tail.tail fun vs => want tSe vs fun vs => .ok (x, tyOf b.2.1, celN (hd us.tail).2.1) vs d else .bad (hd us.tail).2.2 else want tSe us fun us => .ok (x, tyOf b.2.1, 0) us d)
        (f' := fun x us => if isTx us tLb then if (hd us.tail).1 = 3 then want tRb us.tail.tail fun vs => want tSe vs fun vs => .ok (x, tyOf b.2.1, celN (hd us.tail).2.1) vs (max d m) else .bad (hd us.tail).2.2 else want tSe us fun us => .ok (x, tyOf b.2.1, 0) us (max d m)) hu.tl (fun x w hw => ?_)
      cases w with
      | nil => exact Jn.nv (Nv.ite tLb_ne e (end_want tSe_ne e _).nv)
      | cons a w =>
        refine Jn.iteC (f := fun us => if (hd us).1 = 3 then want tRb us.tail fun vs => want tSe vs fun vs => .ok (x, tyOf b.2.1, celN (hd us).2.1) vs d else .bad (hd us).2.2) (f' := fun us => if (hd us).1 = 3 then want tRb us.tail fun vs => want tSe vs fun vs => .ok (x, tyOf b.2.1, celN (hd us).2.1) vs (max d m) else .bad (hd us).2.2)
          (g := fun us => want tSe us fun us => .ok (x, tyOf b.2.1, 0) us d) (g' := fun us => want tSe us fun us => .ok (x, tyOf b.2.1, 0) us (max d m)) hw (fun w hw => ?_) ?_
        · exact Jn.kind (j := 3) (f := fun y us => want tRb us fun vs => want tSe vs fun vs => .ok (x, tyOf b.2.1, celN y) vs d) (f' := fun y us => want tRb us fun vs => want tSe vs fun vs => .ok (x, tyOf b.2.1, celN y) vs (max d m)) (g := fun us => .bad (hd us).2.2) (g' := fun us => .bad (hd us).2.2) (by decide) hw (fun y w hw => Jn.want tRb_ne hw (fun w hw => Jn.want tSe_ne hw (fun w hw => Jn.ok _ hw d))) (fun _ => rfl)
        · exact Jn.want tSe_ne hw (fun w hw => Jn.ok _ hw d)
    · rw [if_neg (show ¬ (hd (b :: u ++ [eT e])).1 = 2 from c)]
      exact Jn.bad
/-- Declarations up to what is none; with others behind them, the others' too. -/
theorem jn_ds (e k : Nat) (v : List Tk) (m : Int) : ∀ (n n' : Nat) u d, Kd u → n ≤ n' → ∀ x vs d', dsP n (u ++ [eT e]) d = .ok x vs d' → ∃ w, Kd w ∧ vs = w ++ [eT e] ∧ (w ≠ [] → dsP n' (u.map (sh k) ++ v) (max d m) = .ok x (w.map (sh k) ++ v) (max d' m)) ∧
    (w = [] → ∃ j, j ≤ u.length ∧ dsP (n' + j) (u.map (sh k) ++ v) (max d m) = (dsP n' v (max d' m)).thn fun l ts d => .ok (x ++ l) ts d)
  | 0, _, u, d, hu, _ => fun x vs d' q => by cases q
  | n + 1, 0, u, d, hu, h => absurd h (by omega)
  | n + 1, n' + 1, u, d, hu, h => by
    intro x vs d' q
    rw [dsP] at q
    cases u with
    | nil =>
      rw [List.nil_append, if_neg (show ¬ tyOf (hd [eT e]).2.1 ≠ 0 from fun h => h rfl)] at q
      cases q
      refine ⟨[], hu, rfl, fun a => absurd rfl a, fun _ => ⟨0, Nat.le_refl _, ?_⟩⟩
      rw [List.map_nil, List.nil_append, Nat.add_zero]
      cases dsP (n' + 1) v (max d m) <;> rfl
    | cons b u =>
      by_cases c : tyOf b.2.1 ≠ 0
      · rw [if_pos (show tyOf (hd (b :: u ++ [eT e])).2.1 ≠ 0 from c)] at q
        cases hr : dcP (b :: u ++ [eT e]) d with
        | bad p => rw [hr] at q; cases q
        | more => rw [hr] at q; cases q
        | ok y us k1 =>
          obtain ⟨w, hw, rfl, e2⟩ := jn_dc (C := True) (k := k) (v := v) (m := m) hu d y us k1 hr
          have e3 := e2 (Or.inr trivial)
          rw [hr] at q
          simp only [Rs.thn] at q
          cases hr2 : dsP n (w ++ [eT e]) k1 with
          | bad p => rw [hr2] at q; cases q
          | more => rw [hr2] at q; cases q
          | ok l ws k2 =>
            rw [hr2] at q
            cases q
            obtain ⟨z, hz, rfl, h1, h2⟩ := jn_ds e k v m n n' w k1 hw (by omega) l _ d' hr2
            refine ⟨z, hz, rfl, fun a => ?_, fun a => ?_⟩
            · rw [dsP, if_pos (show tyOf (hd ((b :: u).map (sh k) ++ v)).2.1 ≠ 0 from c), e3]
              simp only [Rs.thn]
              rw [h1 a]
            · obtain ⟨w3, _, e9, g1, g2⟩ := jn_ds e k v m n (n' + 1) w k1 hw (by omega) l _ d' hr2
              obtain ⟨j, hj, h3⟩ := g2 (by subst a; exact (List.append_cancel_right e9).symm)
              have hl : w.length ≤ u.length := by
                have := dcP_sat (b :: u ++ [eT e]) d False ⟨_, _, rfl⟩
                rw [hr] at this
                have := this.2
                simp at this
                omega
              refine ⟨j + 1, by simp; omega, ?_⟩
              rw [show n' + 1 + (j + 1) = (n' + 1 + j) + 1 by omega, dsP, if_pos (show tyOf (hd ((b :: u).map (sh k) ++ v)).2.1 ≠ 0 from c), e3]
              simp only [Rs.thn]
              rw [h3]
              cases dsP (n' + 1) v (max d' m) <;> rfl
      · rw [if_neg (show ¬ tyOf (hd (b :: u ++ [eT e])).2.1 ≠ 0 from c)] at q
        cases q
        refine ⟨b :: u, hu, rfl, fun _ => ?_, fun a => by cases a⟩
        rw [dsP, if_neg (show ¬ tyOf (hd ((b :: u).map (sh k) ++ v)).2.1 ≠ 0 from c)]
/-- Statements up to the end; with others behind them, the others' too. -/
theorem jn_ss (e k : Nat) (v : List Tk) (hv : isTx v tEl = false) (m : Int) : ∀ (n n' : Nat) u d, Kd u → n ≤ n' → ∀ x vs d', ssP n (u ++ [eT e]) d = .ok x vs d' → vs = [eT e] ∧ ∃ j, j ≤ u.length ∧ ssP (n' + j) (u.map (sh k) ++ v) (max d m) = (ssP n' v (max d' m)).thn fun l ts d => .ok (x.app l) ts d
  | 0, _, u, d, hu, _ => fun x vs d' q => by cases q
  | n + 1, 0, u, d, hu, h => absurd h (by omega)
  | n + 1, n' + 1, u, d, hu, h => by
    intro x vs d' q
    rw [ssP] at q
    cases u with
    | nil =>
      rw [List.nil_append, if_pos (show (hd [eT e]).1 = 0 from rfl)] at q
      cases q
      refine ⟨rfl, 0, Nat.le_refl _, ?_⟩
      rw [List.map_nil, List.nil_append, Nat.add_zero]
      cases ssP (n' + 1) v (max d m) <;> rfl
    | cons b u =>
      have c : ¬ b.1 = 0 := hu b (by simp)
      rw [if_neg (show ¬ (hd (b :: u ++ [eT e])).1 = 0 from c)] at q
      cases hr : stP n (b :: u ++ [eT e]) d with
      | bad p => rw [hr] at q; cases q
      | more => rw [hr] at q; cases q
      | ok y us k1 =>
        have e3 : ∀ N, n ≤ N → ∃ w, Kd w ∧ us = w ++ [eT e] ∧ stP N ((b :: u).map (sh k) ++ v) (max d m) = .ok y (w.map (sh k) ++ v) (max k1 m) := fun N hN => by
          obtain ⟨w, hw, e1, e2⟩ := (jn_st e k v m n N hN).1 (b :: u) d hu y us k1 hr
          exact ⟨w, hw, e1, e2 (Or.inr hv)⟩
        obtain ⟨w, hw, rfl, _⟩ := e3 n (Nat.le_refl _)
        rw [hr] at q
        simp only [Rs.thn] at q
        cases hr2 : ssP n (w ++ [eT e]) k1 with
        | bad p => rw [hr2] at q; cases q
        | more => rw [hr2] at q; cases q
        | ok l ws k2 =>
          rw [hr2] at q
          cases q
          obtain ⟨rfl, j, hj, h3⟩ := jn_ss e k v hv m n (n' + 1) w k1 hw (by omega) l _ d' hr2
          have hl : w.length ≤ u.length := by
            have := (st_sat n).1 (b :: u ++ [eT e]) d ⟨_, _, rfl⟩
            rw [hr] at this
            have := this.2
            simp at this
            omega
          refine ⟨rfl, j + 1, by simp; omega, ?_⟩
          obtain ⟨w2, _, e4, e5⟩ := e3 (n' + 1 + j) (by omega)
          have e6 : w2 = w := (List.append_cancel_right e4).symm
          subst e6
          rw [show n' + 1 + (j + 1) = (n' + 1 + j) + 1 by omega, ssP, if_neg (show ¬ (hd ((b :: u).map (sh k) ++ v)).1 = 0 from c), e5]
          simp only [Rs.thn]
          rw [h3]
          cases ssP (n' + 1) v (max d' m) <;> rfl
theorem map_sh0 : ∀ u : List Tk, u.map (sh 0) = u
  | [] => rfl
  | (a, b, c) :: u => congrArg ((a, b, c) :: ·) (map_sh0 u)
theorem ds_ok_up {n n' : Nat} (h : n ≤ n') {ts : List Tk} {d : Int} {x : List Dc} {us : List Tk} {d' : Int} (e : dsP n ts d = .ok x us d') : dsP n' ts d = .ok x us d' := by
  obtain ⟨j, rfl⟩ := Nat.le.dest h
  rw [← e]
  exact mo_upto (fun n => mo_ds n ts d) n j (by show dsP n ts d ≠ _; rw [e]; simp)
theorem ss_ok_up {n n' : Nat} (h : n ≤ n') {ts : List Tk} {d : Int} {x : So} {us : List Tk} {d' : Int} (e : ssP n ts d = .ok x us d') : ssP n' ts d = .ok x us d' := by
  obtain ⟨j, rfl⟩ := Nat.le.dest h
  rw [← e]
  exact mo_upto (fun n => mo_ss n ts d) n j (by show ssP n ts d ≠ _; rw [e]; simp)
theorem ss_ends (n a : Nat) (d : Int) : ssP (n + 1) [eT a] d = .ok .nil [eT a] d := by rw [ssP, if_pos (show (hd [eT a]).1 = 0 from rfl)]
theorem ds_ends (n a : Nat) (d : Int) : dsP (n + 1) [eT a] d = .ok [] [eT a] d := by rw [dsP, if_neg (show ¬ tyOf (hd [eT a]).2.1 ≠ 0 from fun h => h rfl)]
theorem pg_parts {N : Nat} {ts : List Tk} {p : Pg} {vs : List Tk} {d : Int} (h : pgP N ts = .ok p vs d) : ∃ us k, dsP N ts 0 = .ok p.1 us k ∧ ssP N us k = .ok p.2 vs d := by
  unfold pgP at h
  cases hr : dsP N ts 0 with
  | bad p => rw [hr] at h; cases h
  | more => rw [hr] at h; cases h
  | ok l us k =>
    rw [hr] at h
    simp only [Rs.thn] at h
    cases hr2 : ssP N us k with
    | bad p => rw [hr2] at h; cases h
    | more => rw [hr2] at h; cases h
    | ok b ws j => rw [hr2] at h; cases h; exact ⟨us, k, rfl, hr2⟩
theorem ds_ge (e : Nat) {N : Nat} {tb : List Tk} (hb : Kd tb) {x : List Dc} {vs : List Tk} {d d' : Int} (h : dsP N (tb ++ [eT e]) d = .ok x vs d') : d ≤ d' := by
  obtain ⟨w, hw, rfl, g1, g2⟩ := jn_ds e 0 [eT e] d N N tb d hb (Nat.le_refl _) x vs d' h
  rw [map_sh0, show max d d = d by omega] at g1 g2
  by_cases c : w = []
  · obtain ⟨j, _, h4⟩ := g2 c
    have N1 : ∃ N1, N = N1 + 1 := by
      cases N with
      | zero => cases h
      | succ N => exact ⟨N, rfl⟩
    obtain ⟨N1, rfl⟩ := N1
    rw [ds_ends, ds_ok_up (by omega) h] at h4
    simp only [Rs.thn] at h4
    have := (Rs.ok.inj h4).2.2
    omega
  · have := g1 c
    rw [h, map_sh0] at this
    have := (Rs.ok.inj this).2.2
    omega
theorem ss_ge (e : Nat) {N : Nat} {tb : List Tk} (hb : Kd tb) {x : So} {vs : List Tk} {d d' : Int} (h : ssP N (tb ++ [eT e]) d = .ok x vs d') : d ≤ d' := by
  obtain ⟨_, j, _, h3⟩ := jn_ss e 0 [eT e] (end_no tEl_ne e) d N (N + 1) tb d hb (by omega) x vs d' h
  rw [map_sh0, show max d d = d by omega, ss_ends, ss_ok_up (by omega) h] at h3
  simp only [Rs.thn] at h3
  have := (Rs.ok.inj h3).2.2
  omega
end Go.Proofs.YtknoibocpbfmmaaGreatDoor

namespace Go.Proofs.YtknoibocpbfmmaaGreatDoor
open Go.RowKit
set_option linter.unusedVariables false
set_option linter.unusedSimpArgs false
theorem fx_below_new {w W : World} (h : Below w.heap.size w W) (o : Obj) : Below w.heap.size w (W.alloc o) := h.alloc h.size o
theorem fx_below_call {w W w1 : World} (h : Below w.heap.size w W) (hb : Below W.heap.size W w1) : Below w.heap.size w w1 := h.trans (hb.mono h.size)
/-- A sign's kind: blank, letter, digit, under, another. -/
def kb (n : Nat) : Nat :=
  if n = 9 ∨ n = 10 ∨ n = 13 ∨ n = 32 then 1 else if (97 ≤ n ∧ n ≤ 122) ∨ (65 ≤ n ∧ n ≤ 90) then 2 else if 48 ≤ n ∧ n ≤ 57 then 4 else if n = 95 then 8 else 16
theorem kb_five (n : Nat) : kb n = 1 ∨ kb n = 2 ∨ kb n = 4 ∨ kb n = 8 ∨ kb n = 16 := by
  unfold kb; (repeat' split) <;> simp
theorem kb_high {n : Nat} (h : 128 ≤ n) : kb n = 16 := by
  unfold kb; (repeat' split) <;> omega
set_option maxRecDepth 100000 in
set_option maxHeartbeats 1600000 in
theorem kindOf_any (n : Nat) (h : n ≤ 2147483647) (w : World) : Calls Tryz.prog 52 #[.int .i32 n] w fun e w' => e = .returned (.int .i64 (kb n : Nat)) ∧ w' = w := by
  have cs : n = 9 ∨ n = 10 ∨ n = 13 ∨ n = 32 ∨ n = 95 ∨ (0 ≤ (n : Int) ∧ (n : Int) ≤ 8) ∨ (11 ≤ (n : Int) ∧ (n : Int) ≤ 12) ∨ (14 ≤ (n : Int) ∧ (n : Int) ≤ 31) ∨ (33 ≤ (n : Int) ∧ (n : Int) ≤ 47) ∨ (48 ≤ (n : Int) ∧ (n : Int) ≤ 57) ∨ (58 ≤ (n : Int) ∧ (n : Int) ≤ 64) ∨ (65 ≤ (n : Int) ∧ (n : Int) ≤ 90) ∨ (91 ≤ (n : Int) ∧ (n : Int) ≤ 94) ∨ (96 ≤ (n : Int) ∧ (n : Int) ≤ 96) ∨ (97 ≤ (n : Int) ∧ (n : Int) ≤ 122) ∨ (123 ≤ (n : Int) ∧ (n : Int) ≤ 2147483647) := by omega
  rcases cs with rfl | rfl | rfl | rfl | rfl | ⟨c1, c2⟩ | ⟨c1, c2⟩ | ⟨c1, c2⟩ | ⟨c1, c2⟩ | ⟨c1, c2⟩ | ⟨c1, c2⟩ | ⟨c1, c2⟩ | ⟨c1, c2⟩ | ⟨c1, c2⟩ | ⟨c1, c2⟩ | ⟨c1, c2⟩
  · go_enter Tryz.func52, Tryz.ntmps52
    go_wp2_with fail
    go_ret
    exact ⟨rfl, rfl⟩
  · go_enter Tryz.func52, Tryz.ntmps52
    go_wp2_with fail
    go_ret
    exact ⟨rfl, rfl⟩
  · go_enter Tryz.func52, Tryz.ntmps52
    go_wp2_with fail
    go_ret
    exact ⟨rfl, rfl⟩
  · go_enter Tryz.func52, Tryz.ntmps52
    go_wp2_with fail
    go_ret
    exact ⟨rfl, rfl⟩
  · go_enter Tryz.func52, Tryz.ntmps52
    go_wp2_with fail
    go_ret
    exact ⟨rfl, rfl⟩
  · rw [show kb n = 16 from (by unfold kb; (repeat' split) <;> omega)]
    have q9 : ((n : Int) == 9) = false := by rw [beq_eq_false_iff_ne]; omega
    have q10 : ((n : Int) == 10) = false := by rw [beq_eq_false_iff_ne]; omega
    have q13 : ((n : Int) == 13) = false := by rw [beq_eq_false_iff_ne]; omega
    have q32 : ((n : Int) == 32) = false := by rw [beq_eq_false_iff_ne]; omega
    have q95 : ((n : Int) == 95) = false := by rw [beq_eq_false_iff_ne]; omega
    clear h
    go_enter Tryz.func52, Tryz.ntmps52
    go_wp2_with fail
    go_ret
    exact ⟨rfl, rfl⟩
  · rw [show kb n = 16 from (by unfold kb; (repeat' split) <;> omega)]
    have q9 : ((n : Int) == 9) = false := by rw [beq_eq_false_iff_ne]; omega
    have q10 : ((n : Int) == 10) = false := by rw [beq_eq_false_iff_ne]; omega
    have q13 : ((n : Int) == 13) = false := by rw [beq_eq_false_iff_ne]; omega
    have q32 : ((n : Int) == 32) = false := by rw [beq_eq_false_iff_ne]; omega
    have q95 : ((n : Int) == 95) = false := by rw [beq_eq_false_iff_ne]; omega
    clear h
    go_enter Tryz.func52, Tryz.ntmps52
    go_wp2_with fail
    go_ret
    exact ⟨rfl, rfl⟩
  · rw [show kb n = 16 from (by unfold kb; (repeat' split) <;> omega)]
    have q9 : ((n : Int) == 9) = false := by rw [beq_eq_false_iff_ne]; omega
    have q10 : ((n : Int) == 10) = false := by rw [beq_eq_false_iff_ne]; omega
    have q13 : ((n : Int) == 13) = false := by rw [beq_eq_false_iff_ne]; omega
    have q32 : ((n : Int) == 32) = false := by rw [beq_eq_false_iff_ne]; omega
    have q95 : ((n : Int) == 95) = false := by rw [beq_eq_false_iff_ne]; omega
    clear h
    go_enter Tryz.func52, Tryz.ntmps52
    go_wp2_with fail
    go_ret
    exact ⟨rfl, rfl⟩
  · rw [show kb n = 16 from (by unfold kb; (repeat' split) <;> omega)]
    have q9 : ((n : Int) == 9) = false := by rw [beq_eq_false_iff_ne]; omega
    have q10 : ((n : Int) == 10) = false := by rw [beq_eq_false_iff_ne]; omega
    have q13 : ((n : Int) == 13) = false := by rw [beq_eq_false_iff_ne]; omega
    have q32 : ((n : Int) == 32) = false := by rw [beq_eq_false_iff_ne]; omega
    have q95 : ((n : Int) == 95) = false := by rw [beq_eq_false_iff_ne]; omega
    clear h
    go_enter Tryz.func52, Tryz.ntmps52
    go_wp2_with fail
    go_ret
    exact ⟨rfl, rfl⟩
  · rw [show kb n = 4 from (by unfold kb; (repeat' split) <;> omega)]
    have q9 : ((n : Int) == 9) = false := by rw [beq_eq_false_iff_ne]; omega
    have q10 : ((n : Int) == 10) = false := by rw [beq_eq_false_iff_ne]; omega
    have q13 : ((n : Int) == 13) = false := by rw [beq_eq_false_iff_ne]; omega
    have q32 : ((n : Int) == 32) = false := by rw [beq_eq_false_iff_ne]; omega
    have q95 : ((n : Int) == 95) = false := by rw [beq_eq_false_iff_ne]; omega
    clear h
    go_enter Tryz.func52, Tryz.ntmps52
    go_wp2_with fail
    go_ret
    exact ⟨rfl, rfl⟩
  · rw [show kb n = 16 from (by unfold kb; (repeat' split) <;> omega)]
    have q9 : ((n : Int) == 9) = false := by rw [beq_eq_false_iff_ne]; omega
    have q10 : ((n : Int) == 10) = false := by rw [beq_eq_false_iff_ne]; omega
    have q13 : ((n : Int) == 13) = false := by rw [beq_eq_false_iff_ne]; omega
    have q32 : ((n : Int) == 32) = false := by rw [beq_eq_false_iff_ne]; omega
    have q95 : ((n : Int) == 95) = false := by rw [beq_eq_false_iff_ne]; omega
    clear h
    go_enter Tryz.func52, Tryz.ntmps52
    go_wp2_with fail
    go_ret
    exact ⟨rfl, rfl⟩
  · rw [show kb n = 2 from (by unfold kb; (repeat' split) <;> omega)]
    have q9 : ((n : Int) == 9) = false := by rw [beq_eq_false_iff_ne]; omega
    have q10 : ((n : Int) == 10) = false := by rw [beq_eq_false_iff_ne]; omega
    have q13 : ((n : Int) == 13) = false := by rw [beq_eq_false_iff_ne]; omega
    have q32 : ((n : Int) == 32) = false := by rw [beq_eq_false_iff_ne]; omega
    have q95 : ((n : Int) == 95) = false := by rw [beq_eq_false_iff_ne]; omega
    clear h
    go_enter Tryz.func52, Tryz.ntmps52
    go_wp2_with fail
    go_ret
    exact ⟨rfl, rfl⟩
  · rw [show kb n = 16 from (by unfold kb; (repeat' split) <;> omega)]
    have q9 : ((n : Int) == 9) = false := by rw [beq_eq_false_iff_ne]; omega
    have q10 : ((n : Int) == 10) = false := by rw [beq_eq_false_iff_ne]; omega
    have q13 : ((n : Int) == 13) = false := by rw [beq_eq_false_iff_ne]; omega
    have q32 : ((n : Int) == 32) = false := by rw [beq_eq_false_iff_ne]; omega
    have q95 : ((n : Int) == 95) = false := by rw [beq_eq_false_iff_ne]; omega
    clear h
    go_enter Tryz.func52, Tryz.ntmps52
    go_wp2_with fail
    go_ret
    exact ⟨rfl, rfl⟩
  · rw [show kb n = 16 from (by unfold kb; (repeat' split) <;> omega)]
    have q9 : ((n : Int) == 9) = false := by rw [beq_eq_false_iff_ne]; omega
    have q10 : ((n : Int) == 10) = false := by rw [beq_eq_false_iff_ne]; omega
    have q13 : ((n : Int) == 13) = false := by rw [beq_eq_false_iff_ne]; omega
    have q32 : ((n : Int) == 32) = false := by rw [beq_eq_false_iff_ne]; omega
    have q95 : ((n : Int) == 95) = false := by rw [beq_eq_false_iff_ne]; omega
    clear h
    go_enter Tryz.func52, Tryz.ntmps52
    go_wp2_with fail
    go_ret
    exact ⟨rfl, rfl⟩
  · rw [show kb n = 2 from (by unfold kb; (repeat' split) <;> omega)]
    have q9 : ((n : Int) == 9) = false := by rw [beq_eq_false_iff_ne]; omega
    have q10 : ((n : Int) == 10) = false := by rw [beq_eq_false_iff_ne]; omega
    have q13 : ((n : Int) == 13) = false := by rw [beq_eq_false_iff_ne]; omega
    have q32 : ((n : Int) == 32) = false := by rw [beq_eq_false_iff_ne]; omega
    have q95 : ((n : Int) == 95) = false := by rw [beq_eq_false_iff_ne]; omega
    clear h
    go_enter Tryz.func52, Tryz.ntmps52
    go_wp2_with fail
    go_ret
    exact ⟨rfl, rfl⟩
  · rw [show kb n = 16 from (by unfold kb; (repeat' split) <;> omega)]
    have q9 : ((n : Int) == 9) = false := by rw [beq_eq_false_iff_ne]; omega
    have q10 : ((n : Int) == 10) = false := by rw [beq_eq_false_iff_ne]; omega
    have q13 : ((n : Int) == 13) = false := by rw [beq_eq_false_iff_ne]; omega
    have q32 : ((n : Int) == 32) = false := by rw [beq_eq_false_iff_ne]; omega
    have q95 : ((n : Int) == 95) = false := by rw [beq_eq_false_iff_ne]; omega
    clear h
    go_enter Tryz.func52, Tryz.ntmps52
    go_wp2_with fail
    go_ret
    exact ⟨rfl, rfl⟩
/-- How many signs of the kinds m a list begins with. -/
def cnt (m : Nat) : List UInt8 → Nat
  | [] => 0
  | b :: t => if kb b.toNat &&& m = 0 then 0 else cnt m t + 1
theorem cnt_le (m : Nat) : ∀ l, cnt m l ≤ l.length
  | [] => Nat.le_refl _
  | b :: t => by
    have := cnt_le m t
    simp only [cnt]
    split <;> simp <;> omega
theorem cnt_in (m : Nat) : ∀ l j (h : j < l.length), j < cnt m l → ¬ (kb (l[j]'h).toNat &&& m = 0)
  | [], j, h, _ => by simp at h
  | b :: t, j, h, hj => by
    simp only [cnt] at hj
    split at hj
    · omega
    · cases j with
      | zero => assumption
      | succ j => exact cnt_in m t j (by simpa using h) (by omega)
theorem cnt_out (m : Nat) : ∀ l (h : cnt m l < l.length), kb (l[cnt m l]'h).toNat &&& m = 0
  | [], h => by simp at h
  | b :: t, h => by
    by_cases c : kb b.toNat &&& m = 0
    · have e : cnt m (b :: t) = 0 := by simp only [cnt, if_pos c]
      simp only [e, List.getElem_cons_zero]
      exact c
    · have e : cnt m (b :: t) = cnt m t + 1 := by simp only [cnt, if_neg c]
      simp only [e, List.getElem_cons_succ]
      exact cnt_out m t (by rw [e] at h; simpa using h)
set_option maxRecDepth 100000 in
set_option maxHeartbeats 3200000 in
theorem countOf_p (s : ByteArray) (m p : Nat) (mi : Int) (hm : m = 1 ∧ mi = 1 ∨ m = 2 ∧ mi = 2 ∨ m = 4 ∧ mi = 4 ∨ m = 14 ∧ mi = 14) (hp : p ≤ s.size) (hs : s.size ≤ 9223372036854775807)
    (hd : ∀ j (h : j < s.size), j < p → ¬ (kb s[j].toNat &&& m = 0)) (he : ∀ h : p < s.size, kb s[p].toNat &&& m = 0) (w : World) :
    Calls Tryz.prog 30 #[.string s, .int .i64 mi] w fun e w' => e = .returned (.int .i64 p) ∧ Below w.heap.size w w' := by
  have hk := kindOf_any
  rcases hm with ⟨rfl, rfl⟩ | ⟨rfl, rfl⟩ | ⟨rfl, rfl⟩ | ⟨rfl, rfl⟩
  all_goals
    go_enter Tryz.func30, Tryz.ntmps30
    go_wp2_with fail
    go_loopw [4] (fun i wr => ∃ q, q ≤ p ∧ wr = w.iter s q) (fun _ wr => s.size + 1 - World.iterPos wr w.heap.size)
    case atStart => exact ⟨0, by omega, rfl⟩
    case round =>
      obtain ⟨q, hq, rfl⟩ := hrel
      have qs : q < 9223372036854775808 := by omega
      by_cases l : q < s.size
      · have li : (q : Int) < (s.size : Int) := by omega
        have hn := fun ty => run_next_any (P := Tryz.prog) w s q ty l
        have hr : ∃ b d : Nat, Utf8.decode s q = (b, d) ∧ b ≤ 2147483647 ∧ kb b = kb (s[q]'l).toNat ∧ (q < p → d = 1) := by
          by_cases c : (s[q]'l).toNat < 128
          · exact ⟨_, _, decode_ascii s q l c, by omega, rfl, fun _ => rfl⟩
          · have t := decode_high s q l (by omega)
            refine ⟨_, _, rfl, decode_le s q, (kb_high t.1).trans (kb_high (by omega)).symm, fun h => ?_⟩
            have := hd q l h
            rw [kb_high (by omega)] at this
            exact absurd (by decide) this
        obtain ⟨b, d, hbd, hb2, hbk, hd1⟩ := hr
        simp only [hbd] at hn
        have hkc := hk b hb2
        rw [hbk] at hkc
        by_cases c : q < p
        · have h5 := hd q l c
          obtain rfl := hd1 c
          clear hd he hbd hbk hb2 hk hd1
          rcases kb_five (s[q]'l).toNat with k | k | k | k | k
          all_goals (rw [k] at h5 hkc; clear k)
          all_goals first
            | (exfalso; exact h5 (by decide))
            | (clear h5
               go_wp2_with (go_at_call 52; refine (hkc _).mono ?_; rintro e w1 ⟨rfl, rfl⟩)
               go_roundw
               case rel => exact ⟨q + 1, by omega, rfl⟩
               case measure => simp only [World.iterPos_iter]; omega)
        · have qp : q = p := by omega
          subst qp
          have h5 := he l
          clear hd he hbd hbk hb2 hk hd1 c
          rcases kb_five (s[q]'l).toNat with k | k | k | k | k
          all_goals (rw [k] at h5 hkc; clear k)
          all_goals first
            | (exfalso; exact absurd h5 (by decide))
            | (clear h5
               go_wp2_with (go_at_call 52; refine (hkc _).mono ?_; rintro e w1 ⟨rfl, rfl⟩)
               go_ret
               exact ⟨rfl, (Below.refl _ _).alloc (Nat.le_refl _) _⟩)
      · have hn : ∀ ty, (Instr.next (.pointer (some ⟨w.heap.size, 0, none⟩)) true ty).run Tryz.prog (w.iter s q) = .ok (.tuple #[.bool false]) (w.iter s q) := fun ty => run_next_end w s q ty l
        have sq : s.size = p := by omega
        clear hd he hk
        go_wp2_with fail
        go_ret
        exact ⟨rfl, (Below.refl _ _).alloc (Nat.le_refl _) _⟩
theorem countOf_any (s : ByteArray) (m : Nat) (mi : Int) (hm : m = 1 ∧ mi = 1 ∨ m = 2 ∧ mi = 2 ∨ m = 4 ∧ mi = 4 ∨ m = 14 ∧ mi = 14) (hs : s.size ≤ 9223372036854775807) (w : World) :
    Calls Tryz.prog 30 #[.string s, .int .i64 mi] w fun e w' => e = .returned (.int .i64 (cnt m s.data.toList : Nat)) ∧ Below w.heap.size w w' :=
  countOf_p s m _ mi hm (cnt_le m _) hs (fun j h hj => cnt_in m s.data.toList j h hj) (fun h => cnt_out m s.data.toList h) w
end Go.Proofs.YtknoibocpbfmmaaGreatDoor

