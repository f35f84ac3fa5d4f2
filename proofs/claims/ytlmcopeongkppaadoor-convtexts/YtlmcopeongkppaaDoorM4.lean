/- Texts of the proof, put together. -/
import Derived.Test.YtlmcopeongkppaaDoorM3
import Derived.Laws.IdiomStrings
import Derived.Laws.RangeString
import Derived.Deep.RegionHeld3
import Derived.ArgAppend
import Derived.Test.YtlmcopeongkppaaDoorShelf
import Derived.Test.YtlmcopeongkppaaDoorRows
import Derived.WalkKit
import Derived.WalkSpells
import Derived.StillTactics
import Derived.Laws.Pointers
import Derived.Laws.Externs
import Derived.Below
import Derived.RowKit
import Derived.Laws.RangeAny
import Derived.ScopeJumps
import Derived.OwnWalk
import Derived.Laws.AppendOwn
namespace Go.Proofs.YtlmcopeongkppaaDoor
open Go.RowKit
set_option linter.unusedVariables false
set_option linter.unusedSimpArgs false
theorem u64r_eq' {a b : Int} (h : a = b) : Ending.returned (Value.int IntKind.u64 a) = .returned (.int .u64 b) := by rw [h]
theorem neg_inf (s : Bool) : negF s (fI s) = sgnd s true (fI s) := by cases s <;> rfl
theorem word_inf (s : Bool) : Word (fI s) := by cases s <;> exact ⟨by decide, by decide⟩
/-- A float of one format as one of another, rounded. -/
def cvtF (s t : Bool) (m a : Int) : Int := if (cls s a == 0 || cls s a == 5) then fNan t else if cls s a == 4 then sgnd t (sgn s a) (fI t) else rnd t m (sgn s a) (whl s a).toNat (pwr s a)
theorem kinds3 (k : Int) : ((k == 0 || k == 5) = true ∧ (k == 4) = false ∧ k = 0) ∨ ((k == 0 || k == 5) = true ∧ (k == 4) = false ∧ k = 5) ∨ ((k == 0 || k == 5) = false ∧ (k == 4) = true ∧ k = 4) ∨ ((k == 0 || k == 5) = false ∧ (k == 4) = false ∧ (k == 0) = false ∧ (k == 5) = false ∧ ¬ k = 4) := by
  by_cases c1 : k = 0
  · subst c1; decide
  · by_cases c2 : k = 5
    · subst c2; decide
    · by_cases c3 : k = 4
      · subst c3; decide
      · simp [c1, c2, c3]
theorem fin_wordC {s : Bool} {u p : Int} (h : Fin s u p) : Word u ∧ u < 9007199254740992 ∧ -1074 ≤ p ∧ p ≤ 2000 := by
  obtain ⟨a, b, c, d, e⟩ := h
  cases s
  · have b' : u < 9007199254740992 := b
    have c' : -1074 ≤ p := c
    exact ⟨⟨a, by omega⟩, b', c', d⟩
  · have b' : u < 16777216 := b
    have c' : -149 ≤ p := c
    exact ⟨⟨a, by omega⟩, by omega, by omega, d⟩
theorem below_callC {w W w1 : World} (h : Below w.heap.size w W) (hb : Below W.heap.size W w1) : Below w.heap.size w w1 := h.trans (hb.mono h.size)
/-- Without the sign of 0. -/
def plainF (s : Bool) (a : Int) : Int := if (cls s a == 0 || cls s a == 5) then fNan s else if cls s a == 1 then 0 else a
theorem kindsP (k : Int) : ((k == 0 || k == 5) = true ∧ (k == 1) = false ∧ k = 0) ∨ ((k == 0 || k == 5) = true ∧ (k == 1) = false ∧ k = 5) ∨ ((k == 0 || k == 5) = false ∧ (k == 1) = true ∧ k = 1) ∨ ((k == 0 || k == 5) = false ∧ (k == 1) = false ∧ (k == 0) = false ∧ (k == 5) = false ∧ ¬ k = 1) := by
  by_cases c1 : k = 0
  · subst c1; decide
  · by_cases c2 : k = 5
    · subst c2; decide
    · by_cases c3 : k = 1
      · subst c3; decide
      · simp [c1, c2, c3]
theorem plain_any (f a : Int) (h : Word a) (w : World) : Calls Tryd.prog 38 #[.int .i64 f, .int .u64 a] w fun e w' => e = .returned (.int .u64 (plainF (f == 1) a)) ∧ Below w.heap.size w w' := by
  have hcl := class_fl f a h
  have hnan := nan_fl f
  have K := kindsP (cls (f == 1) a)
  unfold plainF
  generalize (cls (f == 1) a == 0 || cls (f == 1) a == 5) = N1 at *
  generalize (cls (f == 1) a == 1) = Z1 at *
  generalize cls (f == 1) a = k at *
  generalize fNan (f == 1) = Q at *
  rcases K with ⟨rfl, rfl, rfl⟩ | ⟨rfl, rfl, rfl⟩ | ⟨rfl, rfl, rfl⟩ | ⟨rfl, rfl, k0, k5, k1⟩
  case inr.inr.inr =>
    have k1' : (k == 1) = false := by simp [k1]
    go_enter Tryd.func38, Tryd.ntmps38
    go_wp2_with (go_at_call 30; refine (hcl _).mono ?_; rintro e wc ⟨rfl, hb⟩)
    go_ret
    exact ⟨rfl, hb⟩
  case inr.inr.inl =>
    go_enter Tryd.func38, Tryd.ntmps38
    go_wp2_with (go_at_call 30; refine (hcl _).mono ?_; rintro e wc ⟨rfl, hb⟩)
    go_ret
    exact ⟨rfl, hb⟩
  all_goals
    go_enter Tryd.func38, Tryd.ntmps38
    go_wp2_with (first
      | (go_at_call 30; refine (hcl _).mono ?_; rintro e wc ⟨rfl, hb⟩)
      | (go_at_call 31; refine (hnan _).mono ?_; rintro e wd ⟨rfl, hd⟩))
    go_ret
    exact ⟨rfl, below_callC hb hd⟩
/-- An int as a float. -/
theorem fromInt_any (f m n : Int) (h1 : -9223372036854775808 ≤ n) (h2 : n ≤ 9223372036854775807) (w : World) :
    Calls Tryd.prog 18 #[.int .i64 f, .int .i64 m, .int .i64 n] w fun e w' => e = .returned (.int .u64 (rnd (f == 1) m (decide (n < 0)) n.natAbs 0)) ∧ Below w.heap.size w w' := by
  have hz : ∀ u : Int, 0 ≤ u → nn 0 u = u.toNat := fun u hu => by unfold nn num; congr 1; omega
  have hc0 : clamp 0 = 0 := rfl
  by_cases c : n < 0
  · have wn : Word (-n) := ⟨by omega, by omega⟩
    have hr := round_any f m true 0 (-n) 0 false word_zero wn (by decide) (by decide)
    rw [hc0, hz (-n) (by omega), rndQ_false, show (-n).toNat = n.natAbs by omega] at hr
    rw [decide_eq_true c]
    generalize rnd (f == 1) m true n.natAbs 0 = V at *
    have e1 : IntKind.u64.wrap n = n + 18446744073709551616 := by rw [IntKind.wrap_u64]; omega
    have e2 : IntKind.u64.wrap (-(n + 18446744073709551616)) = -n := by rw [IntKind.wrap_u64]; omega
    go_enter Tryd.func18, Tryd.ntmps18
    go_wp2_with (go_at_call 24; refine (hr _).mono ?_; rintro e wd ⟨rfl, hd⟩)
    go_ret
    exact ⟨rfl, hd⟩
  · have wn : Word n := ⟨by omega, by omega⟩
    have hr := round_any f m false 0 n 0 false word_zero wn (by decide) (by decide)
    rw [hc0, hz n (by omega), rndQ_false, show n.toNat = n.natAbs by omega] at hr
    rw [decide_eq_false c]
    generalize rnd (f == 1) m false n.natAbs 0 = V at *
    have c' : 0 ≤ n := by omega
    have e1 : IntKind.u64.wrap n = n := by rw [IntKind.wrap_u64]; omega
    go_enter Tryd.func18, Tryd.ntmps18
    go_wp2_with (go_at_call 24; refine (hr _).mono ?_; rintro e wd ⟨rfl, hd⟩)
    go_ret
    exact ⟨rfl, hd⟩
end Go.Proofs.YtlmcopeongkppaaDoor

namespace Go.Proofs.YtlmcopeongkppaaDoor
open Go.RowKit
set_option linter.unusedVariables false
set_option linter.unusedSimpArgs false
def pos0 (b : Nat) (w : World) : Nat := match w.heap[b]? with | some (.stringIter _ p) => p | _ => 0
theorem pos0_iter (w : World) (s : ByteArray) (p : Nat) : pos0 w.heap.size (w.iter s p) = p := by unfold pos0; rw [World.iter_heap]
set_option maxRecDepth 100000 in
set_option maxHeartbeats 1600000 in
theorem dig01 (w : World) : Calls Tryd.prog 10 #[.string ⟨#[48, 46, 49]⟩] w fun e w' => e = .returned (.int .i64 1) ∧ Below w.heap.size w w' := by
  have hn0 : ∀ ty, (Instr.next (.pointer (some ⟨w.heap.size, 0, none⟩)) true ty).run Tryd.prog (w.iter ⟨#[48, 46, 49]⟩ 0) = .ok (.tuple #[.bool true, .int .i64 0, .int .i32 48]) (w.iter ⟨#[48, 46, 49]⟩ 1) := fun ty => run_next_ascii w ⟨#[48, 46, 49]⟩ 0 ty (by decide) (by decide)
  have hn1 : ∀ ty, (Instr.next (.pointer (some ⟨w.heap.size, 0, none⟩)) true ty).run Tryd.prog (w.iter ⟨#[48, 46, 49]⟩ 1) = .ok (.tuple #[.bool true, .int .i64 1, .int .i32 46]) (w.iter ⟨#[48, 46, 49]⟩ 2) := fun ty => run_next_ascii w ⟨#[48, 46, 49]⟩ 1 ty (by decide) (by decide)
  go_enter Tryd.func10, Tryd.ntmps10
  go_wp2_with fail
  go_loopw [3] (fun i wr => wr = w.iter ⟨#[48, 46, 49]⟩ 0 ∨ wr = w.iter ⟨#[48, 46, 49]⟩ 1) (fun _ wr => 3 - pos0 w.heap.size wr)
  case atStart => exact Or.inl rfl
  case round =>
    rcases hrel with rfl | rfl
    · go_wp2_with fail
      go_roundw
      case rel => first | exact Or.inr rfl | simp
      case measure => simp only [pos0_iter]; decide
    · go_wp2_with fail
      go_ret
      exact ⟨rfl, (Below.refl _ _).alloc (Nat.le_refl _) _⟩
set_option maxRecDepth 100000 in
set_option maxHeartbeats 1600000 in
theorem dig1 (w : World) : Calls Tryd.prog 10 #[.string ⟨#[49]⟩] w fun e w' => e = .returned (.int .i64 1) ∧ Below w.heap.size w w' := by
  have hn0 : ∀ ty, (Instr.next (.pointer (some ⟨w.heap.size, 0, none⟩)) true ty).run Tryd.prog (w.iter ⟨#[49]⟩ 0) = .ok (.tuple #[.bool true, .int .i64 0, .int .i32 49]) (w.iter ⟨#[49]⟩ 1) := fun ty => run_next_ascii w ⟨#[49]⟩ 0 ty (by decide) (by decide)
  have hn1 : ∀ ty, (Instr.next (.pointer (some ⟨w.heap.size, 0, none⟩)) true ty).run Tryd.prog (w.iter ⟨#[49]⟩ 1) = .ok (.tuple #[.bool false]) (w.iter ⟨#[49]⟩ 1) := fun ty => run_next_end w ⟨#[49]⟩ 1 ty (by decide)
  go_enter Tryd.func10, Tryd.ntmps10
  go_wp2_with fail
  go_loopw [3] (fun i wr => wr = w.iter ⟨#[49]⟩ 0 ∨ wr = w.iter ⟨#[49]⟩ 1) (fun _ wr => 3 - pos0 w.heap.size wr)
  case atStart => exact Or.inl rfl
  case round =>
    rcases hrel with rfl | rfl
    · go_wp2_with fail
      go_roundw
      case rel => first | exact Or.inr rfl | simp
      case measure => simp only [pos0_iter]; decide
    · go_wp2_with fail
      go_ret
      exact ⟨rfl, (Below.refl _ _).alloc (Nat.le_refl _) _⟩
set_option maxRecDepth 100000 in
set_option maxHeartbeats 1600000 in
theorem num01 (w : World) : Calls Tryd.prog 13 #[.string ⟨#[48, 49]⟩] w fun e w' => e = .returned (.int .u64 1) ∧ Below w.heap.size w w' := by
  have hn0 : ∀ ty, (Instr.next (.pointer (some ⟨w.heap.size, 0, none⟩)) true ty).run Tryd.prog (w.iter ⟨#[48, 49]⟩ 0) = .ok (.tuple #[.bool true, .int .i64 0, .int .i32 48]) (w.iter ⟨#[48, 49]⟩ 1) := fun ty => run_next_ascii w ⟨#[48, 49]⟩ 0 ty (by decide) (by decide)
  have hn1 : ∀ ty, (Instr.next (.pointer (some ⟨w.heap.size, 0, none⟩)) true ty).run Tryd.prog (w.iter ⟨#[48, 49]⟩ 1) = .ok (.tuple #[.bool true, .int .i64 1, .int .i32 49]) (w.iter ⟨#[48, 49]⟩ 2) := fun ty => run_next_ascii w ⟨#[48, 49]⟩ 1 ty (by decide) (by decide)
  have hn2 : ∀ ty, (Instr.next (.pointer (some ⟨w.heap.size, 0, none⟩)) true ty).run Tryd.prog (w.iter ⟨#[48, 49]⟩ 2) = .ok (.tuple #[.bool false]) (w.iter ⟨#[48, 49]⟩ 2) := fun ty => run_next_end w ⟨#[48, 49]⟩ 2 ty (by decide)
  go_enter Tryd.func13, Tryd.ntmps13
  go_wp2_with fail
  go_loopw [3] (fun n wr => wr = w.iter ⟨#[48, 49]⟩ 0 ∧ n = .int .u64 0 ∨ wr = w.iter ⟨#[48, 49]⟩ 1 ∧ n = .int .u64 0 ∨ wr = w.iter ⟨#[48, 49]⟩ 2 ∧ n = .int .u64 1) (fun _ wr => 3 - pos0 w.heap.size wr)
  case atStart => exact Or.inl ⟨rfl, rfl⟩
  case round =>
    rcases hrel with ⟨rfl, rfl⟩ | ⟨rfl, rfl⟩ | ⟨rfl, rfl⟩
    · go_wp2_with fail
      go_roundw
      case rel => simp; exact Or.inr (Or.inl rfl)
      case measure => simp only [pos0_iter]; decide
    · go_wp2_with fail
      go_roundw
      case rel => simp; exact Or.inr (Or.inr rfl)
      case measure => simp only [pos0_iter]; decide
    · go_wp2_with fail
      go_ret
      exact ⟨rfl, (Below.refl _ _).alloc (Nat.le_refl _) _⟩
set_option maxRecDepth 100000 in
set_option maxHeartbeats 1600000 in
theorem cut01 (w : World) : Calls Tryd.prog 11 #[.string ⟨#[48, 46, 49]⟩, .int .i64 1] w fun e w' => e = .returned (.tuple #[.slice (some ⟨w.heap.size, 0, none⟩) 1 1, .slice (some ⟨w.heap.size, 2, none⟩) 1 1]) ∧ w'.cell? ⟨w.heap.size, 0, none⟩ = some (.int .u8 48) ∧ w'.cell? ⟨w.heap.size, 2, none⟩ = some (.int .u8 49) ∧ Below w.heap.size w w' := by
  have hcv := run_bytes_of_string (P := Tryd.prog) w 9 32 5 ⟨#[48, 46, 49]⟩ Tryd.underlying9 Tryd.underlying32 Tryd.underlying5
  have hcap : 3 ≤ grownCap w (ByteArray.size ⟨#[48, 46, 49]⟩) 0 5 := grownCap_ge w 3 0 5
  generalize grownCap w (ByteArray.size ⟨#[48, 46, 49]⟩) 0 5 = C at *
  have hc2 : (3 : Int) ≤ (C : Int) := by omega
  have hc3 : (1 : Int) ≤ (C : Int) := by omega
  have x0 : ∀ W : World, (W.alloc (.cells (bytesRow ⟨#[48, 46, 49]⟩ C) 5 ((bytesRow ⟨#[48, 46, 49]⟩ C).size, (bytesRow ⟨#[48, 46, 49]⟩ C).size + 1))).cell? ⟨W.heap.size, 0, none⟩ = some (.int .u8 48) := fun W => (cell_of_row _ W.heap.size 0 _ 5 _ (heap_alloc_new W _)).trans (by simp [bytesRow, Array.getElem?_append])
  have x2 : ∀ W : World, (W.alloc (.cells (bytesRow ⟨#[48, 46, 49]⟩ C) 5 ((bytesRow ⟨#[48, 46, 49]⟩ C).size, (bytesRow ⟨#[48, 46, 49]⟩ C).size + 1))).cell? ⟨W.heap.size, 2, none⟩ = some (.int .u8 49) := fun W => (cell_of_row _ W.heap.size 2 _ 5 _ (heap_alloc_new W _)).trans (by simp [bytesRow, Array.getElem?_append])
  go_enter Tryd.func11, Tryd.ntmps11
  go_wp2_with fail
  go_region
  go_wp2_with fail
  refine bodyPost_ret (v := .tuple #[.slice (some ⟨w.heap.size, 0, none⟩) 1 1, .slice (some ⟨w.heap.size, 2, none⟩) 1 1]) (by simp [results, Tryd.results11, go_sem]) rfl ?_
  exact ⟨rfl, x0 w.drew, x2 w.drew, (((Below.refl _ _).drew).alloc (Nat.le_refl _) _).drew⟩
theorem tenth : rndQ false 0 false 17014118346046923173168730371588410572 (-127) true = 4591870180066957722 := by decide +kernel
set_option maxRecDepth 100000 in
set_option maxHeartbeats 1600000 in
theorem dec1 (w : World) : Calls Tryd.prog 12 #[.int .i64 0, .int .u64 1, .int .i64 1] w fun e w' => e = .returned (.int .u64 4591870180066957722) ∧ Below w.heap.size w w' := by
  have w1' : Word 1 := ⟨by decide, by decide⟩
  have w10 : Word 10 := ⟨by decide, by decide⟩
  have hln : ∀ w, Calls Tryd.prog 21 #[.agg #[.int .u64 0, .int .u64 1]] w fun e w' => e = .returned (.int .i64 1) ∧ w' = w.alloc (.cells #[.int .u64 0, .int .u64 1] 50) := fun w => by
    have t := len_ex 0 1 word_zero w1' w
    rw [show ((blen (nn 0 1) : Nat) : Int) = 1 by decide +kernel] at t
    exact t
  have hsl := shl_any 0 1 127 word_zero w1' (by decide) (by decide)
  have hdv := fun (h l : Int) (wh : Word h) (wl : Word l) => div_pos h l 10 wh wl w10 (by decide)
  have hrd := fun (h l : Int) (wh : Word h) (wl : Word l) => round_any 0 0 false h l (-127) true wh wl (by decide) (by decide)
  go_enter Tryd.func12, Tryd.ntmps12
  go_wp2_with fail
  go_loopw [7, 12] (fun b i wr => (b = .int .u64 1 ∧ i = .int .i64 0 ∨ b = .int .u64 10 ∧ i = .int .i64 1) ∧ wr = w) (fun _ i _ => 1 - (intOf i).toNat)
  case atStart => exact ⟨Or.inl ⟨rfl, rfl⟩, rfl⟩
  case round =>
    obtain ⟨hr, rfl⟩ := hrel
    rcases hr with ⟨rfl, rfl⟩ | ⟨rfl, rfl⟩
    · go_wp2_with fail
      go_roundw
      case rel => first | exact ⟨Or.inr ⟨rfl, rfl⟩, rfl⟩ | simp
      case measure => first | (simp [intOf]; done) | decide
    · go_wp2_with (first
        | (go_at_call 21; refine (hln _).mono ?_; rintro e w1 ⟨rfl, rfl⟩)
        | (go_at_call 23; refine (hsl _).mono ?_; rintro e w2 ⟨h2, l2, rfl, wh2, wl2, E2, b2⟩)
        | (go_at_call 22; refine (hdv _ _ wh2 wl2 _).mono ?_; rintro e w3 ⟨h3, l3, r3, rfl, wh3, wl3, wr3, E3, R3, b3⟩; have er : r3 = 8 := (by rw [R3.out, E2.out]; decide +kernel); subst er; have en : nn h3 l3 = 17014118346046923173168730371588410572 := (by unfold nn; rw [E3.out, E2.out]; decide +kernel); have hR := hrd h3 l3 wh3 wl3; rw [en, show clamp (-127) = -127 by decide, show ((0 : Int) == 1) = false from rfl, tenth] at hR; clear E2 E3 R3 en)
        | (go_at_call 24; refine (hR _).mono ?_; rintro e w4 ⟨rfl, b4⟩)
        | fail)
      go_ret
      exact ⟨rfl, below_callC (below_new (below_callC (below_callC (below_new (Below.refl _ _) _) b2) b3) _) b4⟩
set_option maxRecDepth 1000000 in
set_option maxHeartbeats 3200000 in
theorem lit01 (w : World) : Calls Tryd.prog 4 #[.int .i64 0, .string ⟨#[48, 46, 49]⟩] w fun e w' => e = .returned (.tuple #[.int .u64 4591870180066957722, .int .i64 0]) ∧ Below w.heap.size w w' := by
  have hd0 := dig01
  have hd1 := dig1
  have hcu := cut01
  have hnu := num01
  have hde := dec1
  have ex : ByteArray.extract ⟨#[48, 46, 49]⟩ 2 3 = ⟨#[49]⟩ := by rfl
  go_enter Tryd.func4, Tryd.ntmps4
  go_wp2_with fail
  refine wp_scope_jumps (rest := restOf Tryd.f4) 0 (fun _ _ => False) (fun _ _ => 0) (by kernel_rfl) ?_ (fun a w' hJ => hJ.elim)
  go_wp2_with fail
  refine (hd0 _).mono ?_
  rintro e w1 ⟨rfl, b1⟩
  go_wp2_with fail
  refine (hd1 _).mono ?_
  rintro e w2 ⟨rfl, b2⟩
  go_wp2_with fail
  refine (hcu _).mono ?_
  rintro e w3 ⟨rfl, x0, x2, b3⟩
  go_wp2_with fail
  have hx : ∀ (W : World) (C : Nat), W.cell? ⟨w3.heap.size, 0, none⟩ = some (.int .u8 48) → W.cell? ⟨w3.heap.size, 1, none⟩ = some (.int .u8 49) → (convert 32 9 (.slice (some ⟨w3.heap.size, 0, none⟩) 2 C)).run Tryd.prog W = .ok (.string ⟨#[48, 49]⟩) W := fun W C c0 c1 =>
    run_convert_bytes_back (P := Tryd.prog) W 32 9 5 ⟨w3.heap.size, 0, none⟩ C [48, 49] Tryd.underlying32 Tryd.underlying5 Tryd.underlying9 (fun j hj => by
      have : j = 0 ∨ j = 1 := by simp at hj; omega
      rcases this with rfl | rfl
      · exact c0
      · exact c1)
  rw [hx _ _ (by exact (cell_of_row (w3.alloc _) w3.heap.size 0 _ 5 _ (heap_alloc_new w3 _)).trans (by simp [Array.getElem?_append])) (by exact (cell_of_row (w3.alloc _) w3.heap.size 1 _ 5 _ (heap_alloc_new w3 _)).trans (by simp [Array.getElem?_append]))]
  clear hx
  go_wp2_with (first
    | (go_at_call 13; refine (hnu _).mono ?_; rintro e w4 ⟨rfl, b4⟩)
    | (go_at_call 12; refine (hde _).mono ?_; rintro e w5 ⟨rfl, b5⟩)
    | fail)
  refine jump_ret (bodyPost_ret (v := .tuple #[.int .u64 4591870180066957722, .int .i64 0]) (by simp [results, Tryd.results4, go_sem]) rfl ?_)
  exact ⟨rfl, below_callC (below_callC ((below_new (below_callC (below_callC b1 b2) b3) _).drew) b4) b5⟩
theorem tz16 (w : World) (h : w.cell? ⟨5, 15, none⟩ = some (.int .u8 4)) :
    Calls Tryd.prog 76 #[.int .u64 16] w fun e w' => e = .returned (.int .i64 4) ∧ w' = w := by
  have e1 : IntKind.u64.wrap (-16) = 18446744073709551600 := rfl
  have e2 : bits BinOp.and IntKind.u64 16 18446744073709551600 = 16 := by decide +kernel
  have e3 : IntKind.u64.wrap (16 * 285870213051353865) = 4573923408821661840 := rfl
  go_enter Tryd.func76, Tryd.ntmps76
  go_wp2_with go_in
  go_ret
  exact ⟨rfl, rfl⟩
theorem pow16 (w : World) : Calls Tryd.prog 75 #[.int .i64 16] w fun e w' => e = .returned (.bool true) ∧ w' = w := by
  have e2 : bits BinOp.and IntKind.i64 16 15 = 0 := by decide +kernel
  go_enter Tryd.func75, Tryd.ntmps75
  go_wp2
  go_ret
  exact ⟨rfl, rfl⟩
set_option maxRecDepth 100000 in
set_option maxHeartbeats 3200000 in
theorem fb1 (w : World) (h : w.cell? ⟨5, 15, none⟩ = some (.int .u8 4)) :
    Calls Tryd.prog 66 #[.slice none 0 0, .int .u64 1, .int .i64 16, .bool false, .bool false] w fun e w' => e = .returned (.tuple #[.slice none 0 0, .string ⟨#[49]⟩]) ∧ Below w.heap.size w w' := by
  have h2 : ∀ o, (w.alloc o).cell? ⟨5, 15, none⟩ = some (.int .u8 4) := fun o => cell_past h o
  go_enter Tryd.func66, Tryd.ntmps66
  go_wp2_with (first
    | (go_at_call 75; refine (pow16 _).mono ?_; rintro e w1 ⟨rfl, hw⟩; rw [hw]; clear hw w1)
    | (go_at_call 76; refine (tz16 _ (h2 _)).mono ?_; rintro e w1 ⟨rfl, hw⟩; rw [hw]; clear hw w1)
    | fail)
  go_loopw [1, 13] (fun u i wr => u = .int .u64 1 ∧ i = .int .i64 65 ∧ wr = w.alloc (.cells Tryd.zeroCells119 119)) (fun _ _ _ => 0)
  case atStart => exact ⟨rfl, rfl, rfl⟩
  case round =>
    obtain ⟨rfl, rfl, rfl⟩ := hrel
    have hx : ∀ (W : World), W.cell? ⟨w.heap.size, 64, none⟩ = some (.int .u8 49) → (convert 32 9 (.slice (some ⟨w.heap.size, 64, none⟩) 1 1)).run Tryd.prog W = .ok (.string ⟨#[49]⟩) W := fun W hc =>
      run_convert_bytes_back (P := Tryd.prog) W 32 9 5 ⟨w.heap.size, 64, none⟩ 1 [49] Tryd.underlying32 Tryd.underlying5 Tryd.underlying9 (fun j hj => by
        have : j = 0 := by simpa using hj
        subst this
        exact hc)
    go_wp2_with fail
    rw [hx _ (by simp [go_sem, Tryd.zeroCells119]; rfl)]
    go_wp2_with fail
    refine bodyPost_ret (v := .tuple #[.slice none 0 0, .string ⟨#[49]⟩]) (by simp [results, Tryd.results66, go_sem]) rfl ?_
    exact ⟨rfl, below_new (Below.refl _ _) _⟩
theorem fu1 (w : World) (h : w.cell? ⟨5, 15, none⟩ = some (.int .u8 4)) :
    Calls Tryd.prog 32 #[.int .u64 1, .int .i64 16] w fun e w' => e = .returned (.string ⟨#[49]⟩) ∧ Below w.heap.size w w' := by
  go_enter Tryd.func32, Tryd.ntmps32
  go_wp2_with (first
    | (go_at_call 66; refine (fb1 _ h).mono ?_; rintro e w1 ⟨rfl, hw⟩)
    | go_in)
  go_ret
  exact ⟨rfl, hw⟩
set_option maxHeartbeats 1600000 in
/-- The next float above 0 of a Single. -/
theorem next0 (w : World) : Calls Tryd.prog 20 #[.int .i64 1, .int .u64 0] w fun e w' => e = .returned (.int .u64 1) ∧ Below w.heap.size w w' := by
  have hsh := shapeOf_ex 1
  have hsg := csign_ex true
  have hfi := finite_fl 1 0 word_zero
  have hmo := most_fl 1
  have e1 : finF ((1 : Int) == 1) 0 = true := by decide +kernel
  rw [e1] at hfi
  have e2 : fI ((1 : Int) == 1) - 1 = 2139095039 := rfl
  rw [e2] at hmo
  have e3 : bits BinOp.andNot IntKind.u64 0 2147483648 = 0 := by decide +kernel
  have hsg' : ∀ w, Calls Tryd.prog 35 #[shpV ((1 : Int) == 1)] w fun e w' => e = .returned (.int .u64 2147483648) ∧ w' = w.alloc (shpO true) := hsg
  generalize shpV ((1 : Int) == 1) = V at *
  go_enter Tryd.func20, Tryd.ntmps20
  go_wp2_with (first
    | (go_at_call 34; refine (hsh _).mono ?_; rintro e w1 ⟨rfl, o1, rfl⟩)
    | (go_at_call 35; refine (hsg' _).mono ?_; rintro e w1 ⟨rfl, rfl⟩)
    | (go_at_call 36; refine (hfi _).mono ?_; rintro e w2 ⟨rfl, b2⟩)
    | (go_at_call 37; refine (hmo _).mono ?_; rintro e w3 ⟨rfl, b3⟩))
  go_ret
  exact ⟨rfl, below_callC (below_callC (below_two w _ _) b2) b3⟩
theorem field_w (w : World) : (Instr.field 65 (.agg #[.int .i64 32, .int .i64 23, .int .i64 (-149)]) 0).run Tryd.prog w = .ok (.int .i64 32) w := by kernel_rfl
set_option maxRecDepth 100000 in
set_option maxHeartbeats 3200000 in
/-- Hex of that. -/
theorem hex1 (w : World) (h : w.cell? ⟨5, 15, none⟩ = some (.int .u8 4)) : Calls Tryd.prog 19 #[.int .i64 1, .int .u64 1] w fun e w' => e = .returned (.string ⟨#[48, 48, 48, 48, 48, 48, 48, 49]⟩) ∧ Below w.heap.size w w' := by
  have w1' : Word 1 := ⟨by decide, by decide⟩
  have hfw := field_w
  have hcl := class_fl 1 1 w1'
  have e1 : cls ((1 : Int) == 1) 1 = 2 := by decide +kernel
  rw [e1] at hcl
  have hsh : ∀ w, Calls Tryd.prog 34 #[.int .i64 1] w fun e w' => e = .returned (.agg #[.int .i64 32, .int .i64 23, .int .i64 (-149)]) ∧ ∃ o1, w' = w.alloc o1 := shapeOf_ex 1
  have hrp : ∀ w, Calls Tryd.prog 33 #[.string ⟨#[48]⟩, .int .i64 7] w fun e w' => e = .returned (.string ⟨#[48, 48, 48, 48, 48, 48, 48]⟩) ∧ Below w.heap.size w w' := fun w => (Tryd.strings_Repeat ⟨#[48]⟩ 7 w (by decide) (by decide)).mono fun e w' h => h
  go_enter Tryd.func19, Tryd.ntmps19
  go_wp2_with (first
    | (go_at_call 30; refine (hcl _).mono ?_; rintro e wa ⟨rfl, ba⟩; have ha := cell_on ba h)
    | (go_at_call 32; refine (fu1 _ ha).mono ?_; rintro e wb ⟨rfl, bb⟩)
    | (go_at_call 34; refine (hsh _).mono ?_; rintro e wc ⟨rfl, o1, rfl⟩)
    | (go_at_call 33; refine (hrp _).mono ?_; rintro e wd ⟨rfl, bd⟩)
    | fail)
  go_ret
  exact ⟨rfl, below_callC (below_new (below_callC ba bb) o1) bd⟩
theorem three : rnd true 0 false 3 0 = 1077936128 := by decide +kernel
set_option maxRecDepth 100000 in
set_option maxHeartbeats 3200000 in
theorem clive_any (w : World) (h : w.cell? ⟨5, 15, none⟩ = some (.int .u8 4)) : Calls Tryd.prog 9 #[] w fun e w' => e = .returned (.bool true) ∧ Below w.heap.size w w' := by
  have hli := lit01
  have hfr : ∀ w, Calls Tryd.prog 18 #[.int .i64 1, .int .i64 0, .int .i64 3] w fun e w' => e = .returned (.int .u64 1077936128) ∧ Below w.heap.size w w' := fun w => by
    have t := fromInt_any 1 0 3 (by decide) (by decide) w
    rw [show ((1 : Int) == 1) = true from rfl, show decide ((3 : Int) < 0) = false from rfl, show Int.natAbs 3 = 3 from rfl, three] at t
    exact t
  have hnx := next0
  have hhx := fun (w : World) h => hex1 w h
  go_enter Tryd.func9, Tryd.ntmps9
  go_wp2_with (first
    | (go_at_call 4; refine (hli _).mono ?_; rintro e w1 ⟨rfl, b1⟩; have h1 := cell_on b1 h)
    | (go_at_call 18; refine (hfr _).mono ?_; rintro e w2 ⟨rfl, b2⟩; have h2 := cell_on b2 h1)
    | (go_at_call 20; refine (hnx _).mono ?_; rintro e w3 ⟨rfl, b3⟩; have h3 := cell_on b3 h2)
    | (go_at_call 19; refine (hhx _ h3).mono ?_; rintro e w4 ⟨rfl, b4⟩)
    | fail)
  go_ret
  exact ⟨rfl, below_callC (below_callC (below_callC b1 b2) b3) b4⟩
end Go.Proofs.YtlmcopeongkppaaDoor

namespace Go.Proofs.YtlmcopeongkppaaDoor
open Go.RowKit
set_option linter.unusedVariables false
set_option linter.unusedSimpArgs false
/-- Is a byte a digit? -/
def DigB (b : UInt8) : Prop := 48 ≤ b.toNat ∧ b.toNat ≤ 57
set_option maxRecDepth 100000 in
set_option maxHeartbeats 3200000 in
/-- How many digits a text begins with. -/
theorem digitsOf_any (s : ByteArray) (p : Nat) (hp : p ≤ s.size) (hs : s.size ≤ 9223372036854775807) (hd : ∀ j (h : j < s.size), j < p → DigB s[j]) (he : ∀ h : p < s.size, s[p].toNat < 128 ∧ ¬ DigB s[p]) (w : World) :
    Calls Tryd.prog 10 #[.string s] w fun e w' => e = .returned (.int .i64 p) ∧ Below w.heap.size w w' := by
  go_enter Tryd.func10, Tryd.ntmps10
  go_wp2_with fail
  go_loopw [3] (fun i wr => ∃ q, q ≤ p ∧ wr = w.iter s q) (fun _ wr => s.size + 1 - pos0 w.heap.size wr)
  case atStart => exact ⟨0, by omega, rfl⟩
  case round =>
    obtain ⟨q, hq, rfl⟩ := hrel
    have qs : q < 9223372036854775808 := by omega
    by_cases c : q < p
    · have l : q < s.size := by omega
      obtain ⟨d1, d2⟩ := hd q l c
      have hn : ∀ ty, (Instr.next (.pointer (some ⟨w.heap.size, 0, none⟩)) true ty).run Tryd.prog (w.iter s q) = .ok (.tuple #[.bool true, .int .i64 q, .int .i32 (s[q]'l).toNat]) (w.iter s (q + 1)) := fun ty => run_next_ascii w s q ty l (by omega)
      have li : (q : Int) < (s.size : Int) := by omega
      obtain ⟨b, hb⟩ : ∃ b : Nat, (s[q]'l).toNat = b := ⟨_, rfl⟩
      rw [hb] at d1 d2
      simp only [hb] at hn
      have i1 : (48 : Int) ≤ (b : Int) := by omega
      have i2 : (b : Int) ≤ 57 := by omega
      clear hd he d1 d2
      go_wp2_with fail
      go_roundw
      case rel => exact ⟨q + 1, by omega, rfl⟩
      case measure => simp only [pos0_iter]; omega
    · have qp : q = p := by omega
      subst qp
      by_cases l : q < s.size
      · obtain ⟨e1, e2⟩ := he l
        have hn : ∀ ty, (Instr.next (.pointer (some ⟨w.heap.size, 0, none⟩)) true ty).run Tryd.prog (w.iter s q) = .ok (.tuple #[.bool true, .int .i64 q, .int .i32 (s[q]'l).toNat]) (w.iter s (q + 1)) := fun ty => run_next_ascii w s q ty l (by omega)
        have li : (q : Int) < (s.size : Int) := by omega
        obtain ⟨b, hb⟩ : ∃ b : Nat, (s[q]'l).toNat = b := ⟨_, rfl⟩
        unfold DigB at e2
        rw [hb] at e2
        simp only [hb] at hn
        clear hd he c
        by_cases i1 : (b : Int) < 48
        · clear e2
          go_wp2_with fail
          go_ret
          exact ⟨rfl, (Below.refl _ _).alloc (Nat.le_refl _) _⟩
        · have i2 : (57 : Int) < (b : Int) := by omega
          have i3 : (48 : Int) ≤ (b : Int) := by omega
          clear e2
          go_wp2_with fail
          go_ret
          exact ⟨rfl, (Below.refl _ _).alloc (Nat.le_refl _) _⟩
      · have hn : ∀ ty, (Instr.next (.pointer (some ⟨w.heap.size, 0, none⟩)) true ty).run Tryd.prog (w.iter s q) = .ok (.tuple #[.bool false]) (w.iter s q) := fun ty => run_next_end w s q ty l
        have sq : s.size = q := by omega
        clear hd he c
        go_wp2_with fail
        go_ret
        exact ⟨rfl, (Below.refl _ _).alloc (Nat.le_refl _) _⟩
/-- What digits say: the first q of them. -/
def dN (f : Nat → Nat) : Nat → Nat
  | 0 => 0
  | q + 1 => 10 * dN f q + f q
theorem dN_lt (f : Nat → Nat) (h : ∀ j, f j ≤ 9) : ∀ q, dN f q < 10 ^ q
  | 0 => by simp [dN]
  | q + 1 => by
    have := dN_lt f h q
    have := h q
    simp only [dN]
    rw [Nat.pow_succ]
    omega
theorem dN_ext {f g : Nat → Nat} : ∀ q, (∀ j, j < q → f j = g j) → dN f q = dN g q
  | 0, _ => rfl
  | q + 1, h => by simp only [dN]; rw [dN_ext q (fun j hj => h j (by omega)), h q (by omega)]
set_option maxRecDepth 100000 in
set_option maxHeartbeats 3200000 in
theorem number_any (s : ByteArray) (f : Nat → Nat) (hf : ∀ j, f j ≤ 9) (hs : s.size ≤ 18) (hd : ∀ j (h : j < s.size), s[j].toNat = 48 + f j) (w : World) :
    Calls Tryd.prog 13 #[.string s] w fun e w' => e = .returned (.int .u64 (dN f s.size : Nat)) ∧ Below w.heap.size w w' := by
  go_enter Tryd.func13, Tryd.ntmps13
  go_wp2_with fail
  go_loopw [3] (fun n wr => ∃ q, q ≤ s.size ∧ n = .int .u64 (dN f q : Nat) ∧ wr = w.iter s q) (fun _ wr => s.size + 1 - pos0 w.heap.size wr)
  case atStart => exact ⟨0, by omega, rfl, rfl⟩
  case round =>
    obtain ⟨q, hq, rfl, rfl⟩ := hrel
    by_cases l : q < s.size
    · have e := hd q l
      have fl := hf q
      have hn : ∀ ty, (Instr.next (.pointer (some ⟨w.heap.size, 0, none⟩)) true ty).run Tryd.prog (w.iter s q) = .ok (.tuple #[.bool true, .int .i64 q, .int .i32 (s[q]'l).toNat]) (w.iter s (q + 1)) := fun ty => run_next_ascii w s q ty l (by omega)
      have li : (q : Int) < (s.size : Int) := by omega
      have st : Hid (dN f (q + 1) = 10 * dN f q + f q) := rfl
      have lt : dN f (q + 1) < 10 ^ (q + 1) := dN_lt f hf (q + 1)
      have lt2 : (10 : Nat) ^ (q + 1) ≤ 10 ^ 18 := Nat.pow_le_pow_right (by decide) (by omega)
      have bd : 10 * dN f q + f q < 1000000000000000000 := Nat.lt_of_lt_of_le lt lt2
      obtain ⟨b, hb⟩ : ∃ b : Nat, (s[q]'l).toNat = b := ⟨_, rfl⟩
      rw [hb] at e
      simp only [hb] at hn
      generalize hF : f q = F at *
      generalize hN : dN f q = N at *
      have i1 : ((b : Int) - 48) = (F : Int) := by omega
      have i2 : ((b : Int) - 48) % 256 = (F : Int) := by omega
      have i3 : 10 * (N : Int) < 18446744073709551616 := by omega
      have i4 : 10 * (N : Int) + (F : Int) < 18446744073709551616 := by omega
      have i5 : (F : Int) < 256 := by omega
      clear hd lt lt2 bd e fl hF hN
      go_wp2_with fail
      go_roundw
      case rel => exact ⟨q + 1, by omega, by rw [st.out]; congr 1, rfl⟩
      case measure => simp only [pos0_iter]; omega
    · have hn : ∀ ty, (Instr.next (.pointer (some ⟨w.heap.size, 0, none⟩)) true ty).run Tryd.prog (w.iter s q) = .ok (.tuple #[.bool false]) (w.iter s q) := fun ty => run_next_end w s q ty l
      have sq : q = s.size := by omega
      subst sq
      clear hd
      go_wp2_with fail
      go_ret
      exact ⟨rfl, (Below.refl _ _).alloc (Nat.le_refl _) _⟩
end Go.Proofs.YtlmcopeongkppaaDoor

namespace Go.Proofs.YtlmcopeongkppaaDoor
open Go.RowKit
set_option linter.unusedVariables false
set_option linter.unusedSimpArgs false
theorem bytesRow_get (s : ByteArray) (C j : Nat) (h : j < s.size) : (bytesRow s C)[j]? = some (.int .u8 (s[j]'h).toNat) := by
  unfold bytesRow
  rw [Array.getElem?_append, if_pos (by simpa using h)]
  simp [h]
  rfl
set_option maxRecDepth 100000 in
set_option maxHeartbeats 3200000 in
theorem cutOut_any (s : ByteArray) (p m : Nat) (hs : s.size = p + 1 + m) (hm : 1 ≤ m) (hp : 1 ≤ p) (hl : s.size ≤ 1000) (w : World) :
    Calls Tryd.prog 11 #[.string s, .int .i64 p] w fun e w' => e = .returned (.tuple #[.slice (some ⟨w.heap.size, 0, none⟩) p p, .slice (some ⟨w.heap.size, p + 1, none⟩) m m]) ∧ (∀ j (h : j < s.size), w'.cell? ⟨w.heap.size, j, none⟩ = some (.int .u8 (s[j]'h).toNat)) ∧ w.heap.size < w'.heap.size ∧ Below w.heap.size w w' := by
  have hcv := run_bytes_of_string (P := Tryd.prog) w 9 32 5 s Tryd.underlying9 Tryd.underlying32 Tryd.underlying5
  have hcap : s.size ≤ grownCap w s.size 0 5 := grownCap_ge w s.size 0 5
  generalize grownCap w s.size 0 5 = C at *
  have x0 : ∀ (W : World) j (h : j < s.size), (W.alloc (.cells (bytesRow s C) 5 ((bytesRow s C).size, (bytesRow s C).size + 1))).cell? ⟨W.heap.size, j, none⟩ = some (.int .u8 (s[j]'h).toNat) := fun W j h => (cell_of_row _ W.heap.size j _ 5 _ (heap_alloc_new W _)).trans (bytesRow_get s C j h)
  have X0 : Hid _ := x0
  clear x0
  have c1 : (p : Int) ≤ (C : Int) := by omega
  have c2 : (s.size : Int) ≤ (C : Int) := by omega
  have c3 : (p : Int) + 1 ≤ (s.size : Int) := by omega
  have c4 : s.size - (p + 1) = m := by omega
  have c5 : ¬ C = p + 1 := by omega
  have c6 : ¬ s.size = p + 1 := by omega
  go_enter Tryd.func11, Tryd.ntmps11
  go_wp2_with fail
  go_region
  go_wp2_with fail
  refine bodyPost_ret (v := .tuple #[.slice (some ⟨w.heap.size, 0, none⟩) p p, .slice (some ⟨w.heap.size, p + 1, none⟩) m m]) (by simp [results, Tryd.results11, go_sem, Nat.add_sub_cancel_left]) rfl ?_
  exact ⟨rfl, fun j h => X0.out w j h, by simp, (((Below.refl _ _).alloc (Nat.le_refl _) _).drew).drew⟩
/-- n by 10 to the pl, to the nearest float. -/
def decT (s : Bool) (n pl : Nat) : Int := rndQ s 0 false (n * 2 ^ (128 - blen n) / 10 ^ pl) (clamp (-(128 - (blen n : Int)))) (decide (n * 2 ^ (128 - blen n) % 10 ^ pl ≠ 0))
theorem dec_fit (n : Nat) (h : n < 18446744073709551616) : n * 2 ^ (128 - blen n) < 340282366920938463463374607431768211456 ∧ blen n ≤ 64 := by
  have b := lt_blen n
  have l : blen n ≤ 64 := blen_le_of (by rw [show (2 : Nat) ^ 64 = 18446744073709551616 from rfl]; exact h)
  have : n * 2 ^ (128 - blen n) < 2 ^ blen n * 2 ^ (128 - blen n) := Nat.mul_lt_mul_of_pos_right b (Nat.two_pow_pos _)
  rw [← Nat.pow_add, show blen n + (128 - blen n) = 128 by omega] at this
  exact ⟨this, l⟩
set_option maxRecDepth 100000 in
set_option maxHeartbeats 3200000 in
theorem decimal_any (f : Int) (n pl : Nat) (hn : n < 18446744073709551616) (hp : pl ≤ 18) (w : World) : Calls Tryd.prog 12 #[.int .i64 f, .int .u64 (n : Int), .int .i64 pl] w fun e w' => e = .returned (.int .u64 (decT (f == 1) n pl)) ∧ Below w.heap.size w w' := by
  have wn : Word (n : Int) := ⟨by omega, by omega⟩
  have nz : nn 0 (n : Int) = n := by unfold nn num; omega
  have nz' : num 0 (n : Int) = n := by unfold num; omega
  obtain ⟨fit, bl⟩ := dec_fit n hn
  have p18 : (10 : Nat) ^ pl ≤ 10 ^ 18 := Nat.pow_le_pow_right (by decide) hp
  have p0 : 0 < (10 : Nat) ^ pl := Nat.pow_pos (by decide)
  have wb : Word ((10 ^ pl : Nat) : Int) := ⟨by omega, by have : (10 : Nat) ^ 18 = 1000000000000000000 := rfl; omega⟩
  have hln : ∀ w, Calls Tryd.prog 21 #[.agg #[.int .u64 0, .int .u64 (n : Int)]] w fun e w' => e = .returned (.int .i64 (blen n : Nat)) ∧ w' = w.alloc (.cells #[.int .u64 0, .int .u64 (n : Int)] 50) := fun w => by
    have t := len_ex 0 (n : Int) word_zero wn w
    rw [nz] at t
    exact t
  have hsl := shl_any 0 (n : Int) (128 - (blen n : Int)) word_zero wn (by omega) (by omega)
  have hdv := fun (h l : Int) (wh : Word h) (wl : Word l) => div_pos h l ((10 ^ pl : Nat) : Int) wh wl wb (by omega)
  have hrd := fun (h l : Int) (more : Bool) (wh : Word h) (wl : Word l) => round_any f 0 false h l (-(128 - (blen n : Int))) more wh wl (by omega) (by omega)
  unfold decT
  rw [nz', show (128 - (blen n : Int)).toNat = 128 - blen n by omega] at hsl
  have E0 : (n : Int) * 2 ^ (128 - blen n) % 340282366920938463463374607431768211456 = ((n * 2 ^ (128 - blen n) : Nat) : Int) := by
    have q : (n : Int) * 2 ^ (128 - blen n) = ((n * 2 ^ (128 - blen n) : Nat) : Int) := by simp
    rw [q]
    exact Int.emod_eq_of_lt (by omega) (by omega)
  rw [E0] at hsl
  generalize n * 2 ^ (128 - blen n) = X at *
  have bB : (blen n : Int) ≤ 64 := by omega
  generalize hB : (blen n : Int) = B at *
  obtain ⟨P, hP⟩ : ∃ P : Nat, 10 ^ pl = P := ⟨_, rfl⟩
  rw [hP] at p0 wb p18 ⊢
  simp only [hP] at hdv
  have HP : Hid _ := hP
  have up : (128 : Int) - B ≤ 128 := by omega
  clear hP E0 fit bl nz nz' hn
  go_enter Tryd.func12, Tryd.ntmps12
  go_wp2_with fail
  go_loopw [7, 12] (fun b i wr => ∃ k : Nat, k ≤ pl ∧ b = .int .u64 ((10 ^ k : Nat) : Int) ∧ i = .int .i64 k ∧ wr = w) (fun _ i _ => pl - (intOf i).toNat)
  case atStart => exact ⟨0, by omega, rfl, rfl, rfl⟩
  case round =>
    obtain ⟨k, hk, rfl, rfl, rfl⟩ := hrel
    by_cases c : k < pl
    · have c' : (k : Int) < (pl : Int) := by omega
      have e1 : (10 : Nat) ^ (k + 1) = 10 ^ k * 10 := Nat.pow_succ _ _
      have e2 : (10 : Nat) ^ (k + 1) ≤ 10 ^ 18 := Nat.pow_le_pow_right (by decide) (by omega)
      have e3 : (10 : Nat) ^ 18 = 1000000000000000000 := rfl
      have E1 : Hid (((10 ^ k : Nat) : Int) * 10 = ((10 ^ (k + 1) : Nat) : Int)) := by
        show ((10 ^ k : Nat) : Int) * 10 = ((10 ^ (k + 1) : Nat) : Int)
        omega
      obtain ⟨T, hT⟩ : ∃ T : Nat, 10 ^ k = T := ⟨_, rfl⟩
      rw [hT] at e1 ⊢
      have HT : Hid _ := hT
      have t1 : (T : Int) * 10 < 18446744073709551616 := by omega
      have t0 : (0 : Int) ≤ (T : Int) * 10 := by omega
      clear e1 e2 e3 hT hsl hdv hrd hln
      go_wp2_with fail
      go_roundw
      case rel => exact ⟨k + 1, by omega, by rw [← E1.out, HT.out], by go_num, by first | rfl | trivial⟩
      case measure => simp [intOf]; omega
    · have kp : k = pl := by omega
      subst kp
      rw [HP.out]
      clear c
      go_wp2_with (first
        | (go_at_call 21; refine (hln _).mono ?_; rintro e w1 ⟨rfl, rfl⟩)
        | (go_at_call 23; refine (hsl _).mono ?_; rintro e w2 ⟨h2, l2, rfl, wh2, wl2, E2, b2⟩)
        | (go_at_call 22; refine (hdv _ _ wh2 wl2 _).mono ?_; rintro e w3 ⟨h3, l3, r3, rfl, wh3, wl3, wr3, E3, R3, b3⟩)
        | (go_at_call 24; refine (hrd h3 l3 _ wh3 wl3 _).mono ?_; rintro e w4 ⟨rfl, b4⟩)
        | fail)
      go_ret
      have en : nn h3 l3 = X / P := by unfold nn; rw [E3.out, E2.out, ← Int.natCast_ediv, Int.toNat_natCast]
      have er : (r3 != 0) = decide (X % P ≠ 0) := by
        rw [R3.out, E2.out, Bool.eq_iff_iff]
        simp
        omega
      refine ⟨?_, below_callC (below_new (below_callC (below_callC (below_new (Below.refl _ _) _) b2) b3) _) b4⟩
      rw [en, ← er]
      rfl
end Go.Proofs.YtlmcopeongkppaaDoor

namespace Go.Proofs.YtlmcopeongkppaaDoor
open Go.RowKit
set_option linter.unusedVariables false
set_option linter.unusedSimpArgs false
/-- n digits as a text. -/
def digL (f : Nat → Nat) (n : Nat) : List UInt8 := (List.range n).map (fun j => UInt8.ofNat (48 + f j))
def digS (f : Nat → Nat) (n : Nat) : ByteArray := ⟨(digL f n).toArray⟩
theorem digL_len (f : Nat → Nat) (n : Nat) : (digL f n).length = n := by simp [digL]
theorem digL_get (f : Nat → Nat) (n j : Nat) (hf : ∀ j, f j ≤ 9) (h : j < (digL f n).length) : ((digL f n)[j]).toNat = 48 + f j := by
  have := hf j
  simp [digL, UInt8.toNat_ofNat']
  omega
theorem digS_size (f : Nat → Nat) (n : Nat) : (digS f n).size = n := by
  show (digL f n).toArray.size = n
  simp [digL_len]
theorem digS_get (f : Nat → Nat) (n j : Nat) (hf : ∀ j, f j ≤ 9) (h : j < (digS f n).size) : ((digS f n)[j]'h).toNat = 48 + f j := by
  rw [digS_size] at h
  exact digL_get f n j hf (by rw [digL_len]; exact h)
theorem infoY : (Tryd.prog.info? 5).map (fun i => (i.zero, i.size, i.bytes)) = some (some (.int .u8 0), 1, 1) := by kernel_rfl
theorem infoY_parts {α β γ : Type} {o : Option TypeInfo} {z : Option Value} {a b : Nat} (h : o.map (fun i => (i.zero, i.size, i.bytes)) = some (z, a, b)) : ∃ i, o = some i ∧ i.zero = z ∧ i.size = a ∧ i.bytes = b := by
  cases o with
  | none => simp at h
  | some i => simp at h; exact ⟨i, rfl, h.1, h.2.1, h.2.2⟩
set_option maxRecDepth 1000000 in
set_option maxHeartbeats 6400000 in
theorem literal_any (fm : Int) (s : ByteArray) (p m : Nat) (f : Nat → Nat) (hf : ∀ j, f j ≤ 9) (hs : s.size = p + 1 + m) (hp : 1 ≤ p) (hm : 1 ≤ m) (hl : p + m ≤ 18)
    (h1 : ∀ j (h : j < s.size), j < p → (s[j]'h).toNat = 48 + f j) (h2 : ∀ h : p < s.size, (s[p]'h).toNat = 46) (h3 : ∀ j (h : p + 1 + j < s.size), (s[p + 1 + j]'h).toNat = 48 + f (p + j)) (w : World) :
    Calls Tryd.prog 4 #[.int .i64 fm, .string s] w fun e w' => e = .returned (.tuple #[.int .u64 (decT (fm == 1) (dN f (p + m)) m), .int .i64 0]) ∧ Below w.heap.size w w' := by
  have hd0 := digitsOf_any s p (by omega) (by omega) (fun j h hj => by unfold DigB; have := h1 j h hj; have := hf j; omega) (fun h => by unfold DigB; have := h2 h; omega)
  obtain ⟨s2, hs2⟩ : ∃ s2, s.extract (p + 1) s.size = s2 := ⟨_, rfl⟩
  have z2 : s2.size = m := by rw [← hs2, ByteArray.size_extract]; omega
  have g2 : ∀ j (h : j < s2.size), (s2[j]'h).toNat = 48 + f (p + j) := fun j h => by
    subst hs2
    rw [ByteArray.getElem_extract]
    exact h3 j (by omega)
  have hd1 := digitsOf_any s2 m (by omega) (by omega) (fun j h hj => by unfold DigB; have := g2 j h; have := hf (p + j); omega) (fun h => by omega)
  have hcu := cutOut_any s p m hs hm hp (by omega)
  have hnu := number_any (digS f (p + m)) f hf (by rw [digS_size]; exact hl) (fun j h => digS_get f _ j hf h)
  rw [digS_size] at hnu
  have nl : dN f (p + m) < 18446744073709551616 := by
    have a := dN_lt f hf (p + m)
    have b : (10 : Nat) ^ (p + m) ≤ 10 ^ 18 := Nat.pow_le_pow_right (by decide) hl
    have c : (10 : Nat) ^ 18 = 1000000000000000000 := rfl
    omega
  have hde := decimal_any fm (dN f (p + m)) m nl (by omega)
  generalize decT (fm == 1) (dN f (p + m)) m = R at *
  generalize dN f (p + m) = N at *
  have i0 : ((p : Int) == 0) = false := by simp; omega
  have pl : p < s.size := by omega
  have li : (p : Int) < (s.size : Int) := by omega
  have at_p := h2 pl
  have hex : s.extract (p + 1) (p + 1 + m) = s2 := by rw [← hs]; exact hs2
  have e7 : ((p : Int) + 1 == (p : Int) + 1 + (m : Int)) = false := by simp; omega
  have e8 : (p : Int) + 1 + (m : Int) - (p : Int) - 1 = m := by omega
  have e9 : (p : Int) + 1 + (m : Int) - 1 ≤ 18 := by omega
  obtain ⟨i5, hi, hz0, hz1, hz2⟩ := infoY_parts (α := Unit) (β := Unit) (γ := Unit) infoY
  go_enter Tryd.func4, Tryd.ntmps4
  go_wp2_with fail
  refine wp_scope_jumps (rest := restOf Tryd.f4) 0 (fun _ _ => False) (fun _ _ => 0) (by kernel_rfl) ?_ (fun a w' hJ => hJ.elim)
  go_wp2_with fail
  refine (hd0 _).mono ?_
  rintro e w1 ⟨rfl, b1⟩
  go_wp2_with fail
  refine (hd1 _).mono ?_
  rintro e w2 ⟨rfl, b2⟩
  go_wp2_with fail
  refine (hcu _).mono ?_
  rintro e w3 ⟨rfl, cells, sz3, b3⟩
  have L3 := below_callC (below_callC b1 b2) b3
  have co : ∀ j u, ((List.range p).map (fun j => Value.int .u8 ((48 + f j : Nat) : Int)))[j]? = some u → w3.cell? ⟨w2.heap.size, 0 + j, none⟩ = some u := fun j u hj => by
    rw [List.getElem?_map] at hj
    by_cases q : j < p
    · rw [List.getElem?_range q] at hj
      have t := cells j (by omega)
      rw [h1 j (by omega) q] at t
      rw [Nat.zero_add, t]
      exact hj
    · rw [List.getElem?_eq_none (by simp; omega)] at hj
      cases hj
  have cn : ∀ j u, ((List.range m).map (fun j => Value.int .u8 ((48 + f (p + j) : Nat) : Int)))[j]? = some u → w3.cell? (Addr.add ⟨w2.heap.size, p + 1, none⟩ j) = some u := fun j u hj => by
    rw [List.getElem?_map] at hj
    by_cases q : j < m
    · rw [List.getElem?_range q] at hj
      have t := cells (p + 1 + j) (by omega)
      rw [h3 j (by omega)] at t
      have ea : (Addr.add ⟨w2.heap.size, p + 1, none⟩ j) = ⟨w2.heap.size, p + 1 + j, none⟩ := by simp [Addr.add]
      rw [ea, t]
      exact hj
    · rw [List.getElem?_eq_none (by simp; omega)] at hj
      cases hj
  have CO : Hid _ := co
  have CN : Hid _ := cn
  clear co cn cells h1 h3
  go_wp2_with (first
    | (at_builtin; refine wpList_append_arg _ rfl _ _ 32 rfl 5 i5 (.int .u8 0) 1 1 Tryd.underlying32 hi hz0 hz1 hz2 rfl (by decide) w2.heap.size 0 p p ((List.range p).map (fun j => Value.int .u8 ((48 + f j : Nat) : Int))) rfl ?c1 CO.out ⟨w2.heap.size, p + 1, none⟩ m m ((List.range m).map (fun j => Value.int .u8 ((48 + f (p + j) : Nat) : Int))) rfl ?c3 CN.out ?c5 ?c6 ?c7 ?c8 ?c9 ?c10)
    | fail)
  case c1 => simp
  case c3 => simp
  case c5 =>
    intro u hu
    simp at hu
    obtain ⟨i, _, rfl⟩ := hu
    rfl
  case c6 => intro q; omega
  case c7 => unfold maxLen; omega
  case c8 => omega
  case c9 => intro q; omega
  case c10 =>
    intro _ v' w4 own grown
    have L4 : Below w.heap.size w w4 := L3.grown grown L3.size (fun k hk => by cases hk)
    obtain ⟨ol, oc⟩ := id own
    rcases oc with ⟨_, z⟩ | ⟨g, cap, cur, rfl, _, hg, _⟩
    · omega
    · have at_j : ∀ j, j < p + m → w4.cell? ⟨g, j, none⟩ = some (.int .u8 ((48 + f j : Nat) : Int)) := fun j hj => by
        rw [own.cellAt j (by omega)]
        by_cases q : j < p
        · rw [List.getElem?_append_left (by simpa using q), List.getElem?_map, List.getElem?_range q]
          rfl
        · rw [List.getElem?_append_right (by simp; omega), List.length_map, List.length_range, List.getElem?_map, List.getElem?_range (by omega)]
          simp only [Option.map_some]
          rw [show p + (j - p) = j by omega]
          simp
      have hcv : ∀ W : World, (∀ j, j < p + m → W.cell? ⟨g, j, none⟩ = some (.int .u8 ((48 + f j : Nat) : Int))) → (convert 32 9 (.slice (some ⟨g, 0, none⟩) (p + m) cap)).run Tryd.prog W = .ok (.string (digS f (p + m))) W := fun W hW => by
        have q := run_convert_bytes_back (P := Tryd.prog) W 32 9 5 ⟨g, 0, none⟩ cap (digL f (p + m)) Tryd.underlying32 Tryd.underlying5 Tryd.underlying9 (fun j hj => by
          have lj : j < p + m := by rw [digL_len] at hj; exact hj
          have ea : (Addr.add ⟨g, 0, none⟩ j) = ⟨g, j, none⟩ := by simp [Addr.add]; omega
          rw [ea, hW j lj, digL_get f _ j hf hj])
        rw [digL_len] at q
        exact q
      have AT : Hid _ := at_j
      clear at_j own ol hg CO CN grown hcu hd0 hd1
      generalize digS f (p + m) = D at *
      go_wp2_with fail
      rw [hcv _ AT.out]
      clear hcv
      go_wp2_with (first
        | (go_at_call 13; refine (hnu _).mono ?_; rintro e w5 ⟨rfl, b5⟩)
        | (go_at_call 12; refine (hde _).mono ?_; rintro e w6 ⟨rfl, b6⟩)
        | fail)
      refine jump_ret (bodyPost_ret (v := .tuple #[.int .u64 R, .int .i64 0]) (by simp [results, Tryd.results4, go_sem]) rfl ?_)
      exact ⟨rfl, below_callC (below_callC L4 b5) b6⟩
end Go.Proofs.YtlmcopeongkppaaDoor

namespace Go.Proofs.YtlmcopeongkppaaDoor
open Go.RowKit
set_option linter.unusedVariables false
set_option linter.unusedSimpArgs false
theorem digS_snoc (F : Nat → Nat) (k d : Nat) (hF : ∀ j, F j ≤ 9) (hd : d ≤ 9) : digS F k ++ ⟨#[UInt8.ofNat (48 + d)]⟩ = digS (fun j => if j < k then F j else d) (k + 1) := by
  unfold digS digL
  apply ByteArray.ext
  simp only [ByteArray.data_append]
  apply Array.ext'
  simp only [Array.toList_append, List.range_succ, List.map_append, List.map_cons, List.map_nil]
  congr 1
  · apply List.map_congr_left
    intro j hj
    rw [if_pos (List.mem_range.1 hj)]
  · simp
end Go.Proofs.YtlmcopeongkppaaDoor

namespace Go.Proofs.YtlmcopeongkppaaDoor
open Go.RowKit
set_option linter.unusedVariables false
set_option linter.unusedSimpArgs false
set_option maxRecDepth 1000000 in
set_option maxHeartbeats 3200000 in
theorem intD_ok (k : Nat) (F : Nat → Nat) (k1 : 1 ≤ k) (k2 : k ≤ 18) (hF : ∀ j, F j ≤ 9) (hn : dN F k ≤ 2147483647) (w : World) :
    Calls Tryd.prog 7 #[.string (digS F k)] w fun e w' => e = .returned (.tuple #[.int .i64 (dN F k : Nat), .int .i64 0]) ∧ Below w.heap.size w w' := by
  have z := digS_size F k
  have hd := digitsOf_any (digS F k) k (by omega) (by omega) (fun j h hj => by unfold DigB; have := digS_get F k j hF h; have := hF j; omega) (fun h => by omega)
  have hnu := number_any (digS F k) F hF (by omega) (fun j h => digS_get F _ j hF h)
  rw [z] at hnu
  have ne : (digS F k).toList.isEmpty = false := by
    unfold digS
    rw [ByteArray.toList_mk]
    have := digL_len F k
    cases q : digL F k with
    | nil => rw [q] at this; simp at this; omega
    | cons x l => rfl
  have n1 : ((dN F k : Nat) : Int) ≤ 2147483647 := by omega
  have ki : (k : Int) ≤ 18 := by omega
  generalize dN F k = N at *
  generalize digS F k = D at *
  clear k1 k2 hn
  go_enter Tryd.func7, Tryd.ntmps7
  go_wp2_with fail
  refine wp_scope_jumps (rest := restOf Tryd.f7) 0 (fun _ _ => False) (fun _ _ => 0) (by kernel_rfl) ?_ (fun a w' hJ => hJ.elim)
  go_wp2_with (first
    | (go_at_call 10; refine (hd _).mono ?_; rintro e w1 ⟨rfl, b1⟩)
    | (go_at_call 13; refine (hnu _).mono ?_; rintro e w2 ⟨rfl, b2⟩)
    | fail)
  refine jump_ret (bodyPost_ret (v := .tuple #[.int .i64 (N : Int), .int .i64 0]) (by simp [results, Tryd.results7, go_sem]) rfl ?_)
  exact ⟨rfl, below_callC b1 b2⟩
def InJ (w : World) (a' : Act) (w' : World) : Prop := ∃ (u0 u1 u2 u3 u4 u6 u7 u8 u9 u10 u11 u12 u13 u14 u15 u16 u17 u18 u19 u20 u21 u22 u23 u24 : Value), a' = { tmps := #[u0, u1, u2, u3, u4, .int .i64 2, u6, u7, u8, u9, u10, u11, u12, u13, u14, u15, u16, u17, u18, u19, u20, u21, u22, u23, u24], defers := [] } ∧ Below w.heap.size w w'
theorem inRest_eq : restOf Tryd.f7 = .seq .skip (bodyOf Tryd.f7) := by kernel_rfl
set_option maxRecDepth 1000000 in
set_option maxHeartbeats 1600000 in
theorem in_pass (w : World) (Q : Ending → World → Prop) (hQ : ∀ w', Below w.heap.size w w' → Q (.returned (.tuple #[.int .i64 0, .int .i64 2])) w') (a : Act) (w' : World) (hJ : InJ w a w') :
    Code.wp Tryd.prog (bodyOf Tryd.f7) (Exit.jump 0 (fun a' w'' => InJ w a' w'' ∧ (0 : Nat) < 0) (bodyPost Tryd.prog Tryd.f7 Q)) a w' := by
  conv => arg 2; whnf
  obtain ⟨u0, u1, u2, u3, u4, u6, u7, u8, u9, u10, u11, u12, u13, u14, u15, u16, u17, u18, u19, u20, u21, u22, u23, u24, rfl, L⟩ := hJ
  have HQ : Hid _ := hQ
  clear hQ
  go_wp2_with fail
  exact HQ.out _ L
set_option maxRecDepth 1000000 in
set_option maxHeartbeats 3200000 in
theorem intD_big (k : Nat) (F : Nat → Nat) (k1 : 1 ≤ k) (k2 : k ≤ 18) (hF : ∀ j, F j ≤ 9) (hn : 2147483647 < dN F k) (w : World) :
    Calls Tryd.prog 7 #[.string (digS F k)] w fun e w' => e = .returned (.tuple #[.int .i64 0, .int .i64 2]) ∧ Below w.heap.size w w' := by
  have z := digS_size F k
  have hd := digitsOf_any (digS F k) k (by omega) (by omega) (fun j h hj => by unfold DigB; have := digS_get F k j hF h; have := hF j; omega) (fun h => by omega)
  have hnu := number_any (digS F k) F hF (by omega) (fun j h => digS_get F _ j hF h)
  rw [z] at hnu
  have ne : (digS F k).toList.isEmpty = false := by
    unfold digS
    rw [ByteArray.toList_mk]
    have := digL_len F k
    cases q : digL F k with
    | nil => rw [q] at this; simp at this; omega
    | cons x l => rfl
  have n1 : (2147483647 : Int) < ((dN F k : Nat) : Int) := by omega
  have ki : (k : Int) ≤ 18 := by omega
  generalize dN F k = N at *
  generalize digS F k = D at *
  clear k1 k2 hn
  go_enter Tryd.func7, Tryd.ntmps7
  go_wp2_with fail
  refine wp_scope_jumps (rest := restOf Tryd.f7) 0 (InJ w) (fun _ _ => 0) (by kernel_rfl) ?_ (fun a w' hJ => by rw [inRest_eq]; exact wp_seq (wp_skip (in_pass w _ (fun w' L => ⟨rfl, L⟩) a w' hJ)))
  go_wp2_with (first
    | (go_at_call 10; refine (hd _).mono ?_; rintro e w1 ⟨rfl, b1⟩)
    | (go_at_call 13; refine (hnu _).mono ?_; rintro e w2 ⟨rfl, b2⟩)
    | fail)
  go_step3
  exact ⟨rfl, _, _, _, _, _, _, _, _, _, _, _, _, _, _, _, _, _, _, _, _, _, _, _, _, rfl, below_callC b1 b2⟩
end Go.Proofs.YtlmcopeongkppaaDoor

namespace Go.Proofs.YtlmcopeongkppaaDoor
open Go.RowKit
set_option linter.unusedVariables false
set_option linter.unusedSimpArgs false
def InE (w : World) (E : Int) (a' : Act) (w' : World) : Prop := ∃ (u0 u1 u2 u3 u4 u6 u7 u8 u9 u10 u11 u12 u13 u14 u15 u16 u17 u18 u19 u20 u21 u22 u23 u24 : Value), a' = { tmps := #[u0, u1, u2, u3, u4, .int .i64 E, u6, u7, u8, u9, u10, u11, u12, u13, u14, u15, u16, u17, u18, u19, u20, u21, u22, u23, u24], defers := [] } ∧ Below w.heap.size w w'
set_option maxRecDepth 1000000 in
set_option maxHeartbeats 1600000 in
theorem in_passE (w : World) (E : Int) (Q : Ending → World → Prop) (hQ : ∀ w', Below w.heap.size w w' → Q (.returned (.tuple #[.int .i64 0, .int .i64 E])) w') (a : Act) (w' : World) (hJ : InE w E a w') :
    Code.wp Tryd.prog (bodyOf Tryd.f7) (Exit.jump 0 (fun a' w'' => InE w E a' w'' ∧ (0 : Nat) < 0) (bodyPost Tryd.prog Tryd.f7 Q)) a w' := by
  conv => arg 2; whnf
  obtain ⟨u0, u1, u2, u3, u4, u6, u7, u8, u9, u10, u11, u12, u13, u14, u15, u16, u17, u18, u19, u20, u21, u22, u23, u24, rfl, L⟩ := hJ
  have HQ : Hid _ := hQ
  clear hQ
  go_wp2_with fail
  exact HQ.out _ L
set_option maxRecDepth 1000000 in
set_option maxHeartbeats 3200000 in
theorem int_form (s : ByteArray) (p : Nat) (hs : s.size ≤ 9223372036854775807) (ne : s.toList.isEmpty = false) (pn : p ≠ s.size) (hd : ∀ w : World, Calls Tryd.prog 10 #[.string s] w fun e w' => e = .returned (.int .i64 p) ∧ Below w.heap.size w w') (w : World) :
    Calls Tryd.prog 7 #[.string s] w fun e w' => e = .returned (.tuple #[.int .i64 0, .int .i64 4]) ∧ Below w.heap.size w w' := by
  have q : ((p : Int) == (s.size : Int)) = false := by rw [beq_eq_false_iff_ne]; omega
  clear pn
  go_enter Tryd.func7, Tryd.ntmps7
  go_wp2_with fail
  refine wp_scope_jumps (rest := restOf Tryd.f7) 0 (InE w 4) (fun _ _ => 0) (by kernel_rfl) ?_ (fun a w' hJ => by rw [inRest_eq]; exact wp_seq (wp_skip (in_passE w 4 _ (fun w' L => ⟨rfl, L⟩) a w' hJ)))
  go_wp2_with (first
    | (go_at_call 10; refine (hd _).mono ?_; rintro e w1 ⟨rfl, b1⟩)
    | fail)
  go_step3
  exact ⟨rfl, _, _, _, _, _, _, _, _, _, _, _, _, _, _, _, _, _, _, _, _, _, _, _, _, rfl, b1⟩
set_option maxRecDepth 1000000 in
set_option maxHeartbeats 3200000 in
theorem int_long (s : ByteArray) (hs : s.size ≤ 9223372036854775807) (ne : s.toList.isEmpty = false) (hl : 18 < s.size) (hd : ∀ w : World, Calls Tryd.prog 10 #[.string s] w fun e w' => e = .returned (.int .i64 (s.size : Nat)) ∧ Below w.heap.size w w') (w : World) :
    Calls Tryd.prog 7 #[.string s] w fun e w' => e = .returned (.tuple #[.int .i64 0, .int .i64 9]) ∧ Below w.heap.size w w' := by
  have li : (18 : Int) < (s.size : Int) := by omega
  clear hl
  go_enter Tryd.func7, Tryd.ntmps7
  go_wp2_with fail
  refine wp_scope_jumps (rest := restOf Tryd.f7) 0 (InE w 9) (fun _ _ => 0) (by kernel_rfl) ?_ (fun a w' hJ => by rw [inRest_eq]; exact wp_seq (wp_skip (in_passE w 9 _ (fun w' L => ⟨rfl, L⟩) a w' hJ)))
  go_wp2_with (first
    | (go_at_call 10; refine (hd _).mono ?_; rintro e w1 ⟨rfl, b1⟩)
    | fail)
  go_step3
  exact ⟨rfl, _, _, _, _, _, _, _, _, _, _, _, _, _, _, _, _, _, _, _, _, _, _, _, _, rfl, b1⟩
end Go.Proofs.YtlmcopeongkppaaDoor

namespace Go.Proofs.YtlmcopeongkppaaDoor
open Go.RowKit
set_option linter.unusedVariables false
set_option linter.unusedSimpArgs false
def LiE (w : World) (E : Int) (a' : Act) (w' : World) : Prop := ∃ (u0 u1 u2 u3 u4 u5 u6 u7 u9 u10 u11 u12 u13 u14 u15 u16 u17 u18 u19 u20 u21 u22 u23 u24 u25 u26 u27 u28 u29 u30 u31 u32 u33 u34 u35 u36 u37 u38 u39 u40 u41 u42 u43 u44 u45 u46 u47 u48 u49 u50 u51 u52 u53 u54 u55 u56 u57 u58 u59 u60 u61 u62 u63 : Value), a' = { tmps := #[u0, u1, u2, u3, u4, u5, u6, u7, .int .i64 E, u9, u10, u11, u12, u13, u14, u15, u16, u17, u18, u19, u20, u21, u22, u23, u24, u25, u26, u27, u28, u29, u30, u31, u32, u33, u34, u35, u36, u37, u38, u39, u40, u41, u42, u43, u44, u45, u46, u47, u48, u49, u50, u51, u52, u53, u54, u55, u56, u57, u58, u59, u60, u61, u62, u63], defers := [] } ∧ Below w.heap.size w w'
theorem liRest_eq : restOf Tryd.f4 = .seq .skip (bodyOf Tryd.f4) := by kernel_rfl
set_option maxRecDepth 1000000 in
set_option maxHeartbeats 1600000 in
theorem li_pass (w : World) (E : Int) (Q : Ending → World → Prop) (hQ : ∀ w', Below w.heap.size w w' → Q (.returned (.tuple #[.int .u64 0, .int .i64 E])) w') (a : Act) (w' : World) (hJ : LiE w E a w') :
    Code.wp Tryd.prog (bodyOf Tryd.f4) (Exit.jump 0 (fun a' w'' => LiE w E a' w'' ∧ (0 : Nat) < 0) (bodyPost Tryd.prog Tryd.f4 Q)) a w' := by
  conv => arg 2; whnf
  obtain ⟨u0, u1, u2, u3, u4, u5, u6, u7, u9, u10, u11, u12, u13, u14, u15, u16, u17, u18, u19, u20, u21, u22, u23, u24, u25, u26, u27, u28, u29, u30, u31, u32, u33, u34, u35, u36, u37, u38, u39, u40, u41, u42, u43, u44, u45, u46, u47, u48, u49, u50, u51, u52, u53, u54, u55, u56, u57, u58, u59, u60, u61, u62, u63, rfl, L⟩ := hJ
  have HQ : Hid _ := hQ
  clear hQ
  go_wp2_with fail
  exact HQ.out _ L
set_option maxRecDepth 1000000 in
set_option maxHeartbeats 3200000 in
theorem lit_p0 (fm : Int) (s : ByteArray) (hs : s.size ≤ 9223372036854775807) (hd : ∀ w : World, Calls Tryd.prog 10 #[.string s] w fun e w' => e = .returned (.int .i64 (0 : Nat)) ∧ Below w.heap.size w w') (w : World) :
    Calls Tryd.prog 4 #[.int .i64 fm, .string s] w fun e w' => e = .returned (.tuple #[.int .u64 0, .int .i64 4]) ∧ Below w.heap.size w w' := by
  go_enter Tryd.func4, Tryd.ntmps4
  go_wp2_with fail
  refine wp_scope_jumps (rest := restOf Tryd.f4) 0 (LiE w 4) (fun _ _ => 0) (by kernel_rfl) ?_ (fun a w' hJ => by rw [liRest_eq]; exact wp_seq (wp_skip (li_pass w 4 _ (fun w' L => ⟨rfl, L⟩) a w' hJ)))
  go_wp2_with (first
    | (go_at_call 10; refine (hd _).mono ?_; rintro e w1 ⟨rfl, b1⟩)
    | fail)
  go_step3
  exact ⟨rfl, _, _, _, _, _, _, _, _, _, _, _, _, _, _, _, _, _, _, _, _, _, _, _, _, _, _, _, _, _, _, _, _, _, _, _, _, _, _, _, _, _, _, _, _, _, _, _, _, _, _, _, _, _, _, _, _, _, _, _, _, _, _, _, rfl, b1⟩
set_option maxRecDepth 1000000 in
set_option maxHeartbeats 3200000 in
theorem lit_all (fm : Int) (s : ByteArray) (hs : s.size ≤ 9223372036854775807) (s1 : 1 ≤ s.size) (hd : ∀ w : World, Calls Tryd.prog 10 #[.string s] w fun e w' => e = .returned (.int .i64 (s.size : Nat)) ∧ Below w.heap.size w w') (w : World) :
    Calls Tryd.prog 4 #[.int .i64 fm, .string s] w fun e w' => e = .returned (.tuple #[.int .u64 0, .int .i64 4]) ∧ Below w.heap.size w w' := by
  have i0 : ((s.size : Int) == 0) = false := by rw [beq_eq_false_iff_ne]; omega
  clear s1
  go_enter Tryd.func4, Tryd.ntmps4
  go_wp2_with fail
  refine wp_scope_jumps (rest := restOf Tryd.f4) 0 (LiE w 4) (fun _ _ => 0) (by kernel_rfl) ?_ (fun a w' hJ => by rw [liRest_eq]; exact wp_seq (wp_skip (li_pass w 4 _ (fun w' L => ⟨rfl, L⟩) a w' hJ)))
  go_wp2_with (first
    | (go_at_call 10; refine (hd _).mono ?_; rintro e w1 ⟨rfl, b1⟩)
    | fail)
  go_step3
  exact ⟨rfl, _, _, _, _, _, _, _, _, _, _, _, _, _, _, _, _, _, _, _, _, _, _, _, _, _, _, _, _, _, _, _, _, _, _, _, _, _, _, _, _, _, _, _, _, _, _, _, _, _, _, _, _, _, _, _, _, _, _, _, _, _, _, _, rfl, b1⟩
set_option maxRecDepth 1000000 in
set_option maxHeartbeats 3200000 in
theorem lit_long (fm : Int) (s : ByteArray) (p m : Nat) (hs : s.size ≤ 8192) (z : s.size = p + 1 + m) (hp : 1 ≤ p) (hm : 1 ≤ m) (long : 18 < p + m) (h46 : ∀ h : p < s.size, s[p]'h = 46)
    (hd : ∀ w : World, Calls Tryd.prog 10 #[.string s] w fun e w' => e = .returned (.int .i64 p) ∧ Below w.heap.size w w')
    (hd2 : ∀ w : World, Calls Tryd.prog 10 #[.string (s.extract (p + 1) s.size)] w fun e w' => e = .returned (.int .i64 m) ∧ Below w.heap.size w w') (w : World) :
    Calls Tryd.prog 4 #[.int .i64 fm, .string s] w fun e w' => e = .returned (.tuple #[.int .u64 0, .int .i64 9]) ∧ Below w.heap.size w w' := by
  have pl : p < s.size := by omega
  have li : (p : Int) < (s.size : Int) := by omega
  have q46 : (((s[p]'pl).toNat : Int) == 46) = true := by rw [h46 pl]; rfl
  have at_p : (s[p]'pl).toNat = 46 := by rw [h46 pl]; rfl
  have i0 : ((p : Int) == 0) = false := by rw [beq_eq_false_iff_ne]; omega
  obtain ⟨s2, hs2⟩ : ∃ s2, s.extract (p + 1) s.size = s2 := ⟨_, rfl⟩
  rw [hs2] at hd2
  have hex : s.extract (p + 1) (p + 1 + m) = s2 := by rw [← z]; exact hs2
  have e7 : ((p : Int) + 1 == (p : Int) + 1 + (m : Int)) = false := by simp; omega
  have e8 : (p : Int) + 1 + (m : Int) - (p : Int) - 1 = m := by omega
  have e9 : (18 : Int) < (p : Int) + 1 + (m : Int) - 1 := by omega
  have e10 : (p : Int) + 1 + (m : Int) ≤ 8192 := by omega
  clear h46 long q46
  go_enter Tryd.func4, Tryd.ntmps4
  go_wp2_with fail
  refine wp_scope_jumps (rest := restOf Tryd.f4) 0 (LiE w 9) (fun _ _ => 0) (by kernel_rfl) ?_ (fun a w' hJ => by rw [liRest_eq]; exact wp_seq (wp_skip (li_pass w 9 _ (fun w' L => ⟨rfl, L⟩) a w' hJ)))
  go_wp2_with fail
  refine (hd _).mono ?_
  rintro e w1 ⟨rfl, b1⟩
  go_wp2_with fail
  refine (hd2 _).mono ?_
  rintro e w2 ⟨rfl, b2⟩
  go_wp2_with fail
  go_step3
  exact ⟨rfl, _, _, _, _, _, _, _, _, _, _, _, _, _, _, _, _, _, _, _, _, _, _, _, _, _, _, _, _, _, _, _, _, _, _, _, _, _, _, _, _, _, _, _, _, _, _, _, _, _, _, _, _, _, _, _, _, _, _, _, _, _, _, _, rfl, below_callC b1 b2⟩
end Go.Proofs.YtlmcopeongkppaaDoor

namespace Go.Proofs.YtlmcopeongkppaaDoor
open Go.RowKit
set_option linter.unusedVariables false
set_option linter.unusedSimpArgs false
theorem fx_cell_on {W w1 : World} (hb : Below W.heap.size W w1) {a : Addr} {v : Value} (h : W.cell? a = some v) : w1.cell? a = some v := by
  rw [hb.cell (World.block_lt_of_cell? W a h)]; exact h
theorem fx_below_new {w W : World} (h : Below w.heap.size w W) (o : Obj) : Below w.heap.size w (W.alloc o) := h.alloc h.size o
theorem fx_below_call {w W w1 : World} (h : Below w.heap.size w W) (hb : Below W.heap.size W w1) : Below w.heap.size w w1 := h.trans (hb.mono h.size)
/-- A sign's kind: blank, letter, digit, under, another. -/
def kb (n : Nat) : Nat :=
  if n = 9 ∨ n = 10 ∨ n = 13 ∨ n = 32 then 1 else if (97 ≤ n ∧ n ≤ 122) ∨ (65 ≤ n ∧ n ≤ 90) then 2 else if 48 ≤ n ∧ n ≤ 57 then 4 else if n = 95 then 8 else 16
theorem kb_five (n : Nat) : kb n = 1 ∨ kb n = 2 ∨ kb n = 4 ∨ kb n = 8 ∨ kb n = 16 := by
  unfold kb; (repeat' split) <;> simp
theorem kb_high {n : Nat} (h : 128 ≤ n) : kb n = 16 := by
  unfold kb; (repeat' split) <;> omega
/-- How many signs of the kinds m a list begins with. -/
def cnt (m : Nat) : List UInt8 → Nat
  | [] => 0
  | b :: t => if kb b.toNat &&& m = 0 then 0 else cnt m t + 1
theorem cnt_le (m : Nat) : ∀ l, cnt m l ≤ l.length
  | [] => Nat.le_refl _
  | b :: t => by
    have := cnt_le m t
    simp only [cnt]
    split <;> simp <;> omega
theorem cnt_in (m : Nat) : ∀ l j (h : j < l.length), j < cnt m l → ¬ (kb (l[j]'h).toNat &&& m = 0)
  | [], j, h, _ => by simp at h
  | b :: t, j, h, hj => by
    simp only [cnt] at hj
    split at hj
    · omega
    · cases j with
      | zero => assumption
      | succ j => exact cnt_in m t j (by simpa using h) (by omega)
theorem cnt_out (m : Nat) : ∀ l (h : cnt m l < l.length), kb (l[cnt m l]'h).toNat &&& m = 0
  | [], h => by simp at h
  | b :: t, h => by
    by_cases c : kb b.toNat &&& m = 0
    · have e : cnt m (b :: t) = 0 := by simp only [cnt, if_pos c]
      simp only [e, List.getElem_cons_zero]
      exact c
    · have e : cnt m (b :: t) = cnt m t + 1 := by simp only [cnt, if_neg c]
      simp only [e, List.getElem_cons_succ]
      exact cnt_out m t (by rw [e] at h; simpa using h)
end Go.Proofs.YtlmcopeongkppaaDoor

namespace Go.Proofs.YtlmcopeongkppaaDoor
open Go.RowKit
set_option linter.unusedVariables false
set_option linter.unusedSimpArgs false
theorem toL (s : ByteArray) : s.toList = s.data.toList := by
  obtain ⟨d⟩ := s
  conv => lhs; rw [show d = d.toList.toArray by simp]
  rw [ByteArray.toList_mk]
theorem toL_len (s : ByteArray) : s.toList.length = s.size := by rw [toL]; rfl
theorem toL_cut (s : ByteArray) (a b : Nat) : (s.extract a b).toList = (s.toList.take b).drop a := by
  rw [toL, toL, List.drop_take]; simp [ByteArray.extract, ByteArray.copySlice]
/-- Is a list of bytes a word of the language? -/
def isW (l : List UInt8) : Bool := l == [105, 110, 116] || (l == [102, 108, 111, 97, 116] || (l == [100, 111, 117, 98, 108, 101] || (l == [105, 102] || (l == [101, 108, 115, 101] || (l == [119, 104, 105, 108, 101] || (l == [114, 101, 97, 100] || (l == [105, 110] || (l == [115, 113, 114, 116] || (l == [97, 98, 115])))))))))
/-- Signs of two bytes, and of one. -/
def isS2 (l : List UInt8) : Bool := l == [61, 61] || (l == [33, 61] || (l == [60, 61] || (l == [62, 61] || (l == [38, 38] || (l == [124, 124])))))
def isS1 (b : Int) : Bool := b == 43 || (b == 45 || (b == 42 || (b == 47 || (b == 40 || (b == 41 || (b == 91 || (b == 93 || (b == 123 || (b == 125 || (b == 59 || (b == 44 || (b == 61 || (b == 60 || (b == 62 || (b == 33)))))))))))))))
/-- How long the sign is that a list begins with. -/
def sgnN (l : List UInt8) : Nat := if 2 ≤ l.length ∧ isS2 (l.take 2) = true then 2 else if 1 ≤ l.length ∧ isS1 (l.headD 0).toNat = true then 1 else 0
theorem toL_head (s : ByteArray) (h : 0 < s.size) : s.toList.headD 0 = s[0] := by
  have h2 : 0 < s.data.toList.length := h
  rw [toL]
  show s.data.toList.headD 0 = s.data.toList[0]
  rw [List.headD_eq_head?_getD, List.head?_eq_getElem?, List.getElem?_eq_getElem h2]; rfl
end Go.Proofs.YtlmcopeongkppaaDoor

namespace Go.Proofs.YtlmcopeongkppaaDoor
open Go.RowKit
set_option linter.unusedVariables false
set_option linter.unusedSimpArgs false
theorem cnt_size (m : Nat) (s : ByteArray) : cnt m s.toList ≤ s.size := by rw [← toL_len]; exact cnt_le m _
/-- Is a list of bytes a name? -/
def isN (l : List UInt8) : Bool := decide (0 < cnt 2 l) && (decide (cnt 14 l = l.length) && (decide (l.length ≤ 16) && !isW l))
/-- A word or a name: its kind and its length. -/
def wonL (l : List UInt8) : Nat × Nat := if isW (l.take (cnt 14 l)) then (2, cnt 14 l) else if isN (l.take (cnt 14 l)) then (1, cnt 14 l) else (0, 0)
/-- A number: its kind and its length. -/
def iorL (l : List UInt8) : Nat × Nat := if l[cnt 4 l]? = some 46 ∧ 0 < cnt 4 (l.drop (cnt 4 l + 1)) then (4, cnt 4 l + 1 + cnt 4 (l.drop (cnt 4 l + 1))) else (3, cnt 4 l)
theorem toL_at (s : ByteArray) (n : Nat) (h : n < s.size) : s.toList[n]? = some s[n] := by
  rw [toL]; exact List.getElem?_eq_getElem (l := s.data.toList) h
/-- The longest token that a list begins with: its kind (0: none) and its length. -/
def tok (l : List UInt8) : Nat × Nat := if 0 < cnt 2 l then wonL l else if 0 < cnt 4 l then iorL l else if 0 < sgnN l then (5, sgnN l) else (0, 0)
end Go.Proofs.YtlmcopeongkppaaDoor

namespace Go.Proofs.YtlmcopeongkppaaDoor
open Go.RowKit
set_option linter.unusedVariables false
set_option linter.unusedSimpArgs false
theorem cnt_2_14 : ∀ l, cnt 2 l ≤ cnt 14 l
  | [] => Nat.le_refl _
  | b :: t => by
    have ih := cnt_2_14 t
    simp only [cnt]
    rcases kb_five b.toNat with k | k | k | k | k <;> rw [k] <;> simp <;> omega
theorem sgnN_le (l : List UInt8) : sgnN l ≤ l.length := by
  unfold sgnN; (repeat' split) <;> omega
theorem tok_le (l : List UInt8) : (tok l).2 ≤ l.length := by
  have a := cnt_le 14 l
  have b := cnt_le 4 l
  have c := sgnN_le l
  unfold tok
  split
  · unfold wonL; (repeat' split) <;> simp <;> omega
  · split
    · unfold iorL
      split
      · rename_i h
        have d := cnt_le 4 (l.drop (cnt 4 l + 1))
        rw [List.length_drop] at d
        have e : cnt 4 l < l.length := by
          by_cases q : cnt 4 l < l.length
          · exact q
          · rw [List.getElem?_eq_none (by omega)] at h; simp at h
        simp; omega
      · exact b
    · split
      · exact c
      · simp
theorem tok_pos {l : List UInt8} (h : (tok l).1 ≠ 0) : 1 ≤ (tok l).2 := by
  have a := cnt_2_14 l
  revert h
  unfold tok
  split
  · unfold wonL; (repeat' split) <;> simp <;> omega
  · split
    · unfold iorL
      split <;> simp <;> omega
    · split <;> simp <;> omega
theorem tok_kind (l : List UInt8) : (tok l).1 ≤ 5 := by
  unfold tok wonL iorL; (repeat' split) <;> simp
/-- The tokens from a place on (at which no blank stands), of which so many are told: kinds, places, lengths; or the error and its place. -/
def scanAt (l : List UInt8) (a n : Nat) : Except (Nat × Nat) (List (Nat × Nat × Nat)) :=
  if l.length = 0 then .ok []
  else if hk : (tok l).1 = 0 then .error (3, a)
  else if n = 2048 then .error (5, a)
  else
    match scanAt ((l.drop (tok l).2).drop (cnt 1 (l.drop (tok l).2))) (a + (tok l).2 + cnt 1 (l.drop (tok l).2)) (n + 1) with
    | .ok r => .ok (((tok l).1, a, (tok l).2) :: r)
    | .error e => .error e
  termination_by l.length
  decreasing_by
    have := tok_pos hk
    simp only [List.length_drop]
    omega
def scanL (l : List UInt8) : Except (Nat × Nat) (List (Nat × Nat × Nat)) :=
  if 8192 < l.length then .error (5, 0) else scanAt (l.drop (cnt 1 l)) (cnt 1 l) 0
/-- What is told, and then the rest. -/
def andThen (t : List (Nat × Nat × Nat)) : Except (Nat × Nat) (List (Nat × Nat × Nat)) → Except (Nat × Nat) (List (Nat × Nat × Nat))
  | .ok r => .ok (t ++ r)
  | .error e => .error e
theorem scanAt_step (l : List UInt8) (a n : Nat) (t : List (Nat × Nat × Nat)) (h0 : l.length ≠ 0) (hk : (tok l).1 ≠ 0) (hn : n ≠ 2048) :
    andThen t (scanAt l a n) = andThen (t ++ [((tok l).1, a, (tok l).2)]) (scanAt ((l.drop (tok l).2).drop (cnt 1 (l.drop (tok l).2))) (a + (tok l).2 + cnt 1 (l.drop (tok l).2)) (n + 1)) := by
  rw [scanAt, if_neg h0, dif_neg hk, if_neg hn]
  cases scanAt ((l.drop (tok l).2).drop (cnt 1 (l.drop (tok l).2))) (a + (tok l).2 + cnt 1 (l.drop (tok l).2)) (n + 1) <;> simp [andThen]
theorem scanAt_end (l : List UInt8) (a n : Nat) (h0 : l.length = 0) : scanAt l a n = .ok [] := by rw [scanAt, if_pos h0]
theorem scanAt_bad (l : List UInt8) (a n : Nat) (h0 : l.length ≠ 0) (hk : (tok l).1 = 0) : scanAt l a n = .error (3, a) := by rw [scanAt, if_neg h0, dif_pos hk]
theorem scanAt_full (l : List UInt8) (a : Nat) (h0 : l.length ≠ 0) (hk : (tok l).1 ≠ 0) : scanAt l a 2048 = .error (5, a) := by rw [scanAt, if_neg h0, dif_neg hk, if_pos rfl]
/-- The cells of tokens in a slice. -/
def tcells (s : ByteArray) : List (Nat × Nat × Nat) → List Value
  | [] => []
  | (k, a, n) :: t => Value.int .i64 (k : Nat) :: Value.string (s.extract a (a + n)) :: Value.int .i64 (a : Nat) :: tcells s t
theorem tcells_len (s : ByteArray) : ∀ t, (tcells s t).length = t.length * 3
  | [] => rfl
  | (k, a, n) :: t => by simp only [tcells, List.length_cons, tcells_len s t]; omega
theorem tcells_app (s : ByteArray) : ∀ t u, tcells s (t ++ u) = tcells s t ++ tcells s u
  | [], u => rfl
  | (k, a, n) :: t, u => by simp only [tcells, List.cons_append, tcells_app s t u]
end Go.Proofs.YtlmcopeongkppaaDoor

namespace Go.Proofs.YtlmcopeongkppaaDoor
open Go.RowKit
set_option linter.unusedVariables false
set_option linter.unusedSimpArgs false
theorem fx_own_block {w : World} {base n size : Nat} {e : TypeId} {v : Value} {xs : List Value} (h : w.ownsRow base e size v n xs) : ∀ k, v.ownBlock = some k → base ≤ k := by
  rintro k hk
  exact (h.lt k hk).1
theorem own_on {w w1 : World} {base n size : Nat} {e : TypeId} {v : Value} {xs : List Value} (hb : Below w.heap.size w w1) (h : w.ownsRow base e size v n xs) : w1.ownsRow base e size v n xs := by
  obtain ⟨h1, h2⟩ := h
  refine ⟨h1, h2.imp id ?_⟩
  rintro ⟨g, cap, cur, e1, e2, e3, e4⟩
  refine ⟨g, cap, cur, e1, e2, (hb.block g ?_).trans e3, e4⟩
  exact (Array.getElem?_eq_some_iff.mp e3).1
theorem own_shape {w : World} {base n size : Nat} {e : TypeId} {v : Value} {xs : List Value} (h : w.ownsRow base e size v n xs) : ∃ (o : Option Addr) (cap : Nat), v = .slice o n cap := by
  rcases h.2 with ⟨rfl, rfl⟩ | ⟨g, cap, cur, rfl, _⟩
  · exact ⟨none, 0, rfl⟩
  · exact ⟨_, _, rfl⟩
def fx_restOf (f : Func) : Code := match f.body with | some (.seq _ (.scope c)) => (findLabel c 0).getD .skip | some (.scope c) => (findLabel c 0).getD .skip | _ => .skip
def fx_bodyOf (f : Func) : Code := match fx_restOf f with | .seq _ c => c | c => c
theorem fx_jump_ret {l : Nat} {J : Act → World → Prop} {Q : Exit → Act → World → Prop} {a : Act} {w : World} (h : Q .ret a w) : Exit.jump l J Q .ret a w := h
def ScJ (w : World) (O : Except (Nat × Nat) (List (Nat × Nat × Nat))) (a' : Act) (w' : World) : Prop := ∃ (E A : Nat) (u0 u1 u2 u3 u4 u5 u8 u9 u10 u11 u12 u13 u14 u15 u16 u17 u18 u19 u20 u21 u22 u23 u24 u25 u26 u27 u28 u29 u30 u31 u32 u33 u34 u35 u36 u37 u38 u39 u40 u41 u42 u43 u44 u45 u46 u47 u48 u49 u50 u51 u52 u53 u54 : Value), a' = { tmps := #[u0, u1, u2, u3, u4, u5, .int .i64 A, .int .i64 E, u8, u9, u10, u11, u12, u13, u14, u15, u16, u17, u18, u19, u20, u21, u22, u23, u24, u25, u26, u27, u28, u29, u30, u31, u32, u33, u34, u35, u36, u37, u38, u39, u40, u41, u42, u43, u44, u45, u46, u47, u48, u49, u50, u51, u52, u53, u54], defers := [] } ∧ Below w.heap.size w w' ∧ O = .error (E, A)
theorem lex_cell (w : World) (x y z : Value) (t : TypeId) : ∀ j u, [x, y, z][j]? = some u → (w.alloc (.cells #[x, y, z] t)).cell? (Addr.add ⟨w.heap.size, 0, none⟩ j) = some u := by
  intro j u h
  match j, h with
  | 0, h => simp at h; subst h; simp [go_sem, Addr.add]
  | 1, h => simp at h; subst h; simp [go_sem, Addr.add]
  | 2, h => simp at h; subst h; simp [go_sem, Addr.add]
  | j + 3, h => simp at h
theorem lex_one (k a : Int) (t : ByteArray) : ∀ u ∈ [Value.int .i64 k, .string t, .int .i64 a], u.oneCell' = true := by
  intro u hu; simp at hu; rcases hu with rfl | rfl | rfl <;> rfl
end Go.Proofs.YtlmcopeongkppaaDoor

namespace Go.Proofs.YtlmcopeongkppaaDoor
open Go.RowKit
set_option linter.unusedVariables false
set_option linter.unusedSimpArgs false
/-- The cells of what a slice owns. -/
theorem own_cells {w : World} {base n size : Nat} {e : TypeId} {v : Value} {xs : List Value} (h : w.ownsRow base e size v n xs) (hn : n ≠ 0) :
    ∃ g cap : Nat, v = .slice (some ⟨g, 0, none⟩) n cap ∧ g < w.heap.size ∧ n ≤ cap ∧ base ≤ g ∧ ∀ j x, xs[j]? = some x → w.cell? ⟨g, j, none⟩ = some x := by
  obtain ⟨h1, ⟨_, h2⟩ | ⟨g, cap, cur, rfl, h3, h4, h5, h6, h7, h8⟩⟩ := h
  · exact absurd h2 hn
  · refine ⟨g, cap, rfl, (Array.getElem?_eq_some_iff.mp h4).1, h5, h3, fun j x hx => ?_⟩
    rw [cell_of_row w g j cur e (0, 0) h4, ← Array.getElem?_toList]
    rw [← h8, List.getElem?_take] at hx
    split at hx
    · exact hx
    · cases hx
theorem tokx : tok [120, 61, 49, 46, 53, 59] = (1, 1) := by decide +kernel
theorem toke : tok [61, 49, 46, 53, 59] = (5, 1) := by decide +kernel
theorem tokn : tok [49, 46, 53, 59] = (4, 3) := by decide +kernel
theorem toks : tok [59] = (5, 1) := by decide +kernel
theorem live_scan : scanL [120, 61, 49, 46, 53, 59] = .ok [(1, 0, 1), (5, 1, 1), (4, 2, 3), (5, 5, 1)] := by
  unfold scanL
  rw [if_neg (by decide), show cnt 1 [120, 61, 49, 46, 53, 59] = 0 by decide +kernel, List.drop_zero]
  rw [scanAt, if_neg (by decide), tokx, dif_neg (by decide), if_neg (by decide)]
  simp only [List.drop_succ_cons, List.drop_zero, show cnt 1 [61, 49, 46, 53, 59] = 0 by decide +kernel]
  rw [scanAt, if_neg (by decide), toke, dif_neg (by decide), if_neg (by decide)]
  simp only [List.drop_succ_cons, List.drop_zero, show cnt 1 [49, 46, 53, 59] = 0 by decide +kernel]
  rw [scanAt, if_neg (by decide), tokn, dif_neg (by decide), if_neg (by decide)]
  simp only [List.drop_succ_cons, List.drop_zero, show cnt 1 [59] = 0 by decide +kernel]
  rw [scanAt, if_neg (by decide), toks, dif_neg (by decide), if_neg (by decide)]
  simp only [List.drop_succ_cons, List.drop_zero, show cnt 1 [] = 0 by decide +kernel]
  rw [scanAt_end _ _ _ rfl]
end Go.Proofs.YtlmcopeongkppaaDoor

