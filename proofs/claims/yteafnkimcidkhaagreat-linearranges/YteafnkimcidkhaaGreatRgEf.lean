/- span.ends and its closure: the ends of all stretches that have some, in order. -/
import Derived.Test.YteafnkimcidkhaaGreatRows
import Derived.Test.YteafnkimcidkhaaGreatRgL
import Derived.RangeFuncBound
import Derived.RangeFuncLeaves
import Derived.Shelf.Abstract
import Derived.Shelf.RegionOpen
import Derived.WalkKit
import Derived.OwnWalkIn
import Derived.TacticsInMore
import Derived.LoopNIn
import Derived.LoopIn
namespace Go.Proofs.YteafnkimcidkhaaGreat
open Go.RowKit Go.Shelf
set_option linter.unusedVariables false
set_option linter.unusedSimpArgs false
attribute [local go_sem] Oper.semAt_some
/-- A stretch, as a value; the ends of stretches. -/
def sVf (s : Bool × Int × Int) : Value := .agg #[.bool s.1, .int .u64 s.2.1, .int .u64 s.2.2]
/-- A slice of stretches lies in block b. -/
def SRowf (W : World) (b : Nat) (ls : List (Bool × Int × Int)) : Prop := ∀ j s, ls[j]? = some s → W.cell? ⟨b, j * 3, none⟩ = some (.bool s.1) ∧ W.cell? ⟨b, j * 3 + 1, none⟩ = some (.int .u64 s.2.1) ∧ W.cell? ⟨b, j * 3 + 2, none⟩ = some (.int .u64 s.2.2)
theorem SRowf.but {S : Nat → Prop} {A B : World} {b : Nat} {ls : List (Bool × Int × Int)} (h : SRowf A b ls) (hb : But S A B) (hs : ¬ S b) : SRowf B b ls := fun j s hj => by
  obtain ⟨h1, h2, h3⟩ := h j s hj
  exact ⟨hb.cell hs h1, hb.cell hs h2, hb.cell hs h3⟩
set_option maxRecDepth 100000 in
set_option maxHeartbeats 2000000 in
theorem ends1_f (l Bl b cap : Nat) (ls : List (Bool × Int × Int)) (hlen : ls.length ≤ 1000) (S : Nat → Prop) (W : World) (hBl : ¬ S Bl) (hb : ¬ S b) (hS : ∀ k, S k → k < W.heap.size) (J : List Int → World → Prop)
    (hY : ∀ pre x W1, pre ++ [x] <+: endsL ls → J pre W1 → ∀ m, YieldAt Fence.wide m Tryz.prog l #[.int .u64 x] W1 fun e W' => e = .returned (.bool true) ∧ J (pre ++ [x]) W' ∧ But S W1 W')
    (st : Stable W.heap.size J) (hc : W.cell? ⟨Bl, 0, none⟩ = some (.slice (some ⟨b, 0, none⟩) ls.length cap)) (hr : SRowf W b ls) (h0 : J [] W) :
    Calls Tryz.prog 211 #[.func (.yield l) #[] #[], .pointer (some ⟨Bl, 0, none⟩)] W fun e W' => (∃ v, e = .returned v) ∧ J (endsL ls) W' := by
  refine (callsIn_wide (n := 3)).1 ?_
  refine callsIn_of_wp Tryz.func211 rfl trivial ?_ rfl
  simp only [Tryz.ntmps211, List.size_toArray, List.length_cons, List.length_nil, Nat.reduceAdd, Nat.reduceSub, Array.replicate_succ, Array.replicate_zero, List.push_toArray, List.append_toArray, List.nil_append, List.cons_append]
  gi_wp2
  gi_loopw [7] (fun i wr => ∃ j : Nat, i = .int .i64 j ∧ j ≤ ls.length ∧ J (endsL (ls.take j)) wr ∧ But S W wr) (fun i _ => ls.length - (intOf i).toNat)
  case atStart => exact ⟨0, rfl, Nat.zero_le _, by simpa [endsL] using h0, But.refl _ _⟩
  case round =>
    obtain ⟨j, rfl, hj, hJ, hB⟩ := hrel
    by_cases c : j < ls.length
    · obtain ⟨⟨e, lo, hi⟩, he⟩ : ∃ s, ls[j]? = some s := ⟨_, List.getElem?_eq_getElem c⟩
      obtain ⟨y1, y2, y3⟩ := (hr.but hB hb) j _ he
      have ci : (j : Int) < (ls.length : Int) := by omega
      have hsn := endsL_snoc ls j (e, lo, hi) he
      have hpr := endsL_take ls (j + 1)
      clear hr hc
      cases e
      · simp only [Bool.false_eq_true, if_false] at hsn
        have p1 : endsL (ls.take j) ++ [lo] <+: endsL ls := by obtain ⟨tl, htl⟩ := hpr; rw [hsn] at htl; exact ⟨[hi] ++ tl, by simpa using htl⟩
        have p2 : endsL (ls.take j) ++ [lo] ++ [hi] <+: endsL ls := by obtain ⟨tl, htl⟩ := hpr; rw [hsn] at htl; exact ⟨tl, by simpa using htl⟩
        have HS : Hid _ := hsn
        clear hsn
        have lW := hB.size
        have hJ1 := st _ _ (wr.alloc (.cells #[.bool false, .int .u64 lo, .int .u64 hi] 126)) hJ ((Below.refl _ _).alloc lW _)
        obtain ⟨fn1, t1, as1, bo1, hy1, hR1⟩ := hY _ lo _ p1 hJ1 2
        gi_wp2
        refine hR1.mono ?_
        rintro e W3 ⟨rfl, hJ3, hB3⟩
        have nS : ¬ S wr.heap.size := fun h => absurd (hS _ h) (by omega)
        have y6 : W3.cell? ⟨wr.heap.size, 2, none⟩ = some (.int .u64 hi) := hB3.cell nS (by simp [go_sem])
        obtain ⟨fn2, t2, as2, bo2, hy2, hR2⟩ := hY _ hi W3 p2 hJ3 2
        clear hy1 hR1 y1 y2 y3
        gi_wp2
        refine hR2.mono ?_
        rintro e W4 ⟨rfl, hJ4, hB4⟩
        gi_wp2
        go_roundw
        case rel => exact ⟨j + 1, by simp, by omega, by rw [HS.out]; simpa using hJ4, ((hB.alloc _).trans hB3).trans hB4⟩
        case measure => simp [intOf]; omega
      · simp only [if_true, List.append_nil] at hsn
        have lW := hB.size
        gi_wp2
        go_roundw
        case rel => exact ⟨j + 1, by simp, by omega, by rw [hsn]; exact st _ _ _ hJ ((Below.refl _ _).alloc lW _), hB.alloc _⟩
        case measure => simp [intOf]; omega
    · have ci : ¬ (j : Int) < (ls.length : Int) := by omega
      obtain rfl : j = ls.length := by omega
      gi_wp2
      go_end0
      rw [List.take_of_length_le (Nat.le_refl _)] at hJ
      exact ⟨⟨_, rfl⟩, hJ⟩
set_option maxHeartbeats 1000000 in
theorem ends_f (v : Value) (hv : ∃ b n cap, v = .slice (some ⟨b, 0, none⟩) n cap) (w : World) : Calls Tryz.prog 208 #[v] w fun e w' => e = .returned (.func (.func 211) #[] #[.pointer (some ⟨w.heap.size, 0, none⟩)]) ∧ w' = w.alloc (.cells #[v] 211) := by
  obtain ⟨b, n, cap, rfl⟩ := hv
  go_enter Tryz.func208, Tryz.ntmps208
  go_wp2_with fail
  go_ret
  exact ⟨rfl, rfl⟩
/-- The closure hands out the ends. -/
theorem ends_feeds_f (Bl b cap : Nat) (ls : List (Bool × Int × Int)) (hlen : ls.length ≤ 1000) (S : Nat → Prop) (w : World) (hBl : ¬ S Bl) (hb : ¬ S b) (hS : ∀ k, S k → k < w.heap.size)
    (hc : w.cell? ⟨Bl, 0, none⟩ = some (.slice (some ⟨b, 0, none⟩) ls.length cap)) (hr : SRowf w b ls) :
    Feeds Tryz.prog 211 #[.pointer (some ⟨Bl, 0, none⟩)] (fun x : Int => #[Value.int .u64 x]) S (endsL ls) w := fun l J W hW st hY h0 =>
  ends1_f l Bl b cap ls hlen S W hBl hb (fun k hk => Nat.lt_of_lt_of_le (hS k hk) hW.size) J hY st ((But.of (S := S) hW).cell hBl hc) (hr.but (But.of (S := S) hW) hb) h0
end Go.Proofs.YteafnkimcidkhaaGreat
